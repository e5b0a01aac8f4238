/-
  Slices of numbers that came in, each number in its bounds; slices of the statements' own operations.
-/
import Derived.Test.YtjfemabgbmadfaaRowKit
import Derived.Test.YtjfemabgbmadfaaWMem
import Derived.Deep.Slices
namespace Go.Proofs.Ytjfemabgbmadfaa
open Go.ChangeShapes Go.WideShapes Go.ChangeAt Go.RowKit

theorem intsw_open {H : Type} {enc : TypeId × Value → H} {W : World} {held : Bool} {fuel : Nat} {a : Option Addr} {len cap : Nat} {x : DataW H × List MemPlace}
    (h : DataW.trod enc Try.prog W 0 (fun _ => true) held fuel 22 (Value.slice a len cap).cells.toList = some x) :
    ∃ zs : List Int, zs.length = len ∧ IntsAt W a zs ∧ zs.length ≤ maxLen ∧ zs.length ≤ cap ∧ ∀ x, x ∈ zs → wfI x := by
  rcases open_ints Try.underlying22 Try.underlying3 (by kernel_rfl) h with ⟨hcs, _⟩ | ⟨x, l, c, zs, hcs, _, hl, hm, hz, _, hcell, hwz⟩
  · simp [Value.cells] at hcs
    obtain ⟨rfl, rfl, rfl⟩ := hcs
    exact ⟨[], rfl, Or.inl rfl, by simp, by simp, by simp⟩
  · simp [Value.cells] at hcs
    obtain ⟨rfl, rfl, rfl⟩ := hcs
    have hzc : zs.length = cap := by simpa using hz
    have hlen : (zs.take len).length = len := by rw [List.length_take]; omega
    refine ⟨zs.take len, hlen, ?_, by omega, by omega, fun y hy => hwz y (List.mem_of_mem_take hy)⟩
    by_cases h0 : len = 0
    · left
      apply List.eq_nil_of_length_eq_zero
      omega
    · right
      obtain ⟨b, off, rfl, hc⟩ := ints_at hcell (by omega)
      refine ⟨b, off, rfl, fun i hi => ?_⟩
      have e := hc i (by omega)
      rw [e]
      simp only [List.getD, List.getElem?_take]
      rw [if_pos (by omega)]
end Go.Proofs.Ytjfemabgbmadfaa
