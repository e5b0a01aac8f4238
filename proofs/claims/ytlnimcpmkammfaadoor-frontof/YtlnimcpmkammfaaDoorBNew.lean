/-
  Numbers in a new slice.
-/
import Derived.Test.YtlnimcpmkammfaaDoorRef
import Derived.Test.YtlnimcpmkammfaaDoorOf
namespace Go.Proofs.YtlnimcpmkammfaaDoor
open Go.RowKit

theorem ints_new (w : World) (zs : List Int) : IntsAt (w.alloc (.cells (zs.map fun z => Value.int .i64 z).toArray 3)) (some ⟨w.heap.size, 0, none⟩) zs := by
  refine Or.inr ⟨_, _, rfl, fun i hi => ?_⟩
  rw [Nat.zero_add, cell_of_row _ _ i _ _ _ (heap_alloc_new w _)]
  simp [List.getD, List.getElem?_eq_getElem hi]
end Go.Proofs.YtlnimcpmkammfaaDoor
