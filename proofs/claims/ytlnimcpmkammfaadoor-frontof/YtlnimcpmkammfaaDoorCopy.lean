/-
  Contracts: bitset's Copy and In.
-/
import Derived.Test.YtlnimcpmkammfaaDoorBNew
import Derived.Laws.Tables
namespace Go.Proofs.YtlnimcpmkammfaaDoor
open Go.RowKit

theorem row_one (s : Nat → Bool) : (row s).all (·.oneCell') = true := by
  rw [Array.all_eq_true]
  intro i hi
  simp [row, Value.oneCell']

/-- A pointer to a set: none, or block b. -/
def pt : Option Nat → Value
  | none => .pointer none
  | some b => .pointer (some ⟨b, 0, none⟩)
/-- What it holds: nothing, or s. -/
def SetOr (w : World) (o : Option Nat) (s : Nat → Bool) : Prop := match o with
  | none => s = none_
  | some b => SetAt w b s

set_option maxHeartbeats 400000 in
theorem copy_nil (w : World) :
    Calls Tryd.prog 29 #[.pointer none] w fun e w' => e = .returned (.pointer (some ⟨w.heap.size, 0, none⟩)) ∧ SetAt w' w.heap.size none_ ∧ Keeps [] w w' := by
  have hzero := zero_set
  have hnew := hid (setAt_new w none_)
  have hkn : Keeps [] w (w.alloc (Obj.cells (row none_) 56)) := Keeps.alloc _ _ _
  go_enter Tryd.func29, Tryd.ntmps29
  go_wp2
  go_ret
  exact ⟨rfl, hnew.out, hkn⟩

set_option maxHeartbeats 400000 in
theorem copy_any (b : Nat) (s : Nat → Bool) (w : World) (hs : SetAt w b s) :
    Calls Tryd.prog 29 #[.pointer (some ⟨b, 0, none⟩)] w fun e w' => e = .returned (.pointer (some ⟨w.heap.size, 0, none⟩)) ∧ SetAt w' w.heap.size s ∧ Keeps [] w w' := by
  have hzero := zero_set
  have hnew := hid (setAt_new w none_)
  have hkn : Keeps [] w (w.alloc (Obj.cells (row none_) 56)) := Keeps.alloc _ _ _
  have HS := hid (hs.kept hkn (by simp))
  clear hs
  go_enter Tryd.func29, Tryd.ntmps29
  go_wp2_with (first | refine wpList_load_row rfl 54 _ rfl b rfl 56 (row s) (0, 0) (.array 79 53) HS.out.heap under_arr rfl (info_arr s) ?_ | refine wpList_store_row rfl 54 _ _ rfl w.heap.size (row s) rfl rfl 56 (row none_) hnew.out.heap (info_arr s) (by rw [row_size, row_size]) (row_one s) ?_)
  go_ret
  refine ⟨rfl, ⟨setRow_heap _ _ _ _ _ _ hnew.out.heap⟩, hkn.trans (Keeps.setRow _ _ _) fun x hx hl => ?_⟩
  simp at hx
  omega
end Go.Proofs.YtlnimcpmkammfaaDoor
