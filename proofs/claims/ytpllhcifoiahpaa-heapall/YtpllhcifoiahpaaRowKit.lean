/-
  What all plain rows of this seat share: a world for the witness; the form's frame.
-/
import Derived.Test.YtpllhcifoiahpaaBase
import Derived.ProofKit
import Derived.OpenShut
import Derived.ChangeOld
import Derived.Deep.DeepHandedRow
import Derived.LaidLaws
namespace Go.Proofs.Ytpllhcifoiahpaa
open Go.ChangeShapes Go.WideShapes Go.ChangeAt Go.RowKit

theorem own : ownKnob Try.prog.godebug = none := by kernel_rfl
theorem laidOut : laidOutB Try.prog = true := by kernel_rfl

/-- A world for the witness: the settled one. -/
def freshWorld (P : Program) (os : Os) : World := World.holding P os ⟨#[], #[], []⟩

/-- A slice of numbers that came in, up to its length. -/
theorem ints_open {W : World} {x : Addr} {l c : Nat} {zs : List Int} (hl : l ≤ c) (hm : c ≤ maxLen) (hz : zs.length = c) (hcell : ∀ i, i < zs.length → W.cell? (x.add i) = some (.int .i64 (zs.getD i 0))) :
    ∃ ys : List Int, ys.length = l ∧ IntsAt W (some x) ys ∧ ys.length ≤ maxLen ∧ ys.length ≤ c := by
  have hlen : (zs.take l).length = l := by rw [List.length_take]; omega
  refine ⟨zs.take l, hlen, ?_, by omega, by omega⟩
  by_cases h0 : l = 0
  · left
    apply List.eq_nil_of_length_eq_zero
    omega
  · right
    obtain ⟨b, off, rfl, hc⟩ := ints_at hcell (by omega)
    refine ⟨b, off, rfl, fun i hi => ?_⟩
    have e := hc i (by omega)
    rw [e]
    simp only [List.getD, List.getElem?_take]
    rw [if_pos (by omega)]
end Go.Proofs.Ytpllhcifoiahpaa
