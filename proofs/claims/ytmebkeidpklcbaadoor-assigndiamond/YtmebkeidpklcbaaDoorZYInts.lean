/-
  A slice of numbers that came in (of COpen).
-/
import Derived.Test.YtmebkeidpklcbaaDoorZ04
namespace Go.Proofs.YtmebkeidpklcbaaDoor
open Go.ChangeShapes Go.WideShapes Go.ChangeAt Go.RowKit

/-- No bound: it goes down. -/
theorem downs_true {H : Type} {P : Program} : Downs P (fun (_ : TypeId) (_ : DataW H) => True) := ⟨fun _ _ _ => trivial, fun _ _ _ _ => trivial, fun _ _ => trivial⟩
set_option maxRecDepth 100000 in
theorem ints_open {H : Type} {enc : TypeId × Value → H} {w : World} {spare : Nat → Bool} {held : Bool} {r : Reach} {b0 : Nat} {v : Value} {d : DataW H} {p : List MemPlace} (hval : Value.okWide Tryd.prog w r b0 54 v)
    (h : ∃ fuel, DataW.trod enc Tryd.prog w 0 spare held fuel 54 v.cells.toList = some (d, p)) : ∃ a cp l, v = .slice a l.length cp ∧ RowsAt w 1 IntC a l ∧ l.length ≤ cp ∧ l.length ≤ maxLen := by
  obtain ⟨a, len, cp, rfl⟩ := okWide_slice Tryd.underlying54 hval
  obtain ⟨fuel, hf⟩ := h
  have hc : Tryd.prog.cellsOf 3 = 1 := by kernel_rfl
  obtain ⟨a', cp', l, e, q1, q2, q3, _⟩ := rows_open (G := fun _ _ => True) downs_true Tryd.underlying54 (by rw [hc]; omega) o_int hf trivial
  simp [Value.cells] at e
  obtain ⟨rfl, rfl, rfl⟩ := e
  rw [hc] at q1
  exact ⟨a, cp, l, rfl, q1, q2, q3⟩
end Go.Proofs.YtmebkeidpklcbaaDoor
