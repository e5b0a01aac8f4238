/-
  Rows that are written out.
-/
import Derived.Test.YtlnimcpmkammfaaDoorGOwn
namespace Go.Proofs.YtlnimcpmkammfaaDoor
open Go.RowKit

/-- A row that is written out. -/
theorem lit_nat (w : World) (l : List Nat) (xs : Array Value) (hx : xs = (ints l).toArray) : NAt (w.alloc (.cells xs 3)) (w.heap.size + 1) (some ⟨w.heap.size, 0, none⟩) l := by
  refine .inr ⟨w.heap.size, 0, rfl, by omega, fun i hi => ?_⟩
  rw [intsI_len] at hi
  rw [Nat.zero_add, intsI_get, cell_of_row _ _ i _ _ _ (heap_alloc_new w _), hx]
  simp [ints, List.getD_eq_getElem?_getD, List.getElem?_eq_getElem hi]

theorem gat_lit (W : World) (vs : Array Value) (l : List (List Nat)) (B : Nat) (hB : W.heap.size < B) (h : ∀ j, j < l.length → ∃ ai ci, vs[j]? = some (.slice ai (nb l j).length ci) ∧ NAt W B ai (nb l j)) : GAt (W.alloc (.cells vs 23)) B (some ⟨W.heap.size, 0, none⟩) l := by
  refine .inr ⟨W.heap.size, 0, rfl, hB, fun j hj => ?_⟩
  rw [listsI_len] at hj
  obtain ⟨ai, ci, h1, h2⟩ := h j hj
  rw [listsI_get, intsI_len]
  exact ⟨ai, ci, by rw [Nat.zero_add, cell_of_row _ _ j _ _ _ (heap_alloc_new W _)]; exact h1, h2.kept (Keeps.alloc [] _ _) (by simp)⟩
end Go.Proofs.YtlnimcpmkammfaaDoor
