/-
  Lists of zeros, as make makes them.
-/
import Derived.Test.YtlopddflbhnjdaaDoorTOne
import Derived.Deep.OwnRows
namespace Go.Proofs.YtlopddflbhnjdaaDoor
open Go.RowKit

theorem made_get (Z : Array Value) (n j i : Nat) (hj : j < n) (hi : i < Z.size) : (madeCells Z (n * Z.size))[j * Z.size + i]? = Z[i]? := by
  have hlt : j * Z.size + i < n * Z.size := by
    have h1 : (j + 1) * Z.size ≤ n * Z.size := Nat.mul_le_mul_right _ hj
    rw [Nat.add_mul] at h1
    omega
  unfold madeCells
  rw [Array.getElem?_map, Array.getElem?_eq_getElem (by simpa using hlt)]
  simp only [Array.getElem_range, Option.map_some]
  rw [Nat.add_comm, Nat.add_mul_mod_self_right, Nat.mod_eq_of_lt hi, Array.getElem?_eq_getElem hi, getElem!_pos Z i hi]
theorem made_cell {w : World} {m n : Nat} {Z : Array Value} {T : TypeId} (h : w.heap[m]? = some (.cells (madeCells Z (n * Z.size)) T (0, 0))) {j i : Nat} (hj : j < n) (hi : i < Z.size) : w.cell? ⟨m, j * Z.size + i, none⟩ = Z[i]? := (hcell h _).trans (made_get Z n j i hj hi)
theorem RowsAt.rep {α : Type} {w : World} {c m n : Nat} {R : World → Nat → Nat → α → Prop} {x : α} (h : ∀ j, j < n → R w m (j * c) x) : RowsAt w c R (some ⟨m, 0, none⟩) (List.replicate n x) :=
  .inr ⟨m, 0, rfl, fun j y hy => by
    rw [List.getElem?_replicate] at hy
    split at hy
    · rename_i hj
      cases hy
      rw [Nat.zero_add]
      exact h j hj
    · cases hy⟩
theorem slc_rep {α : Type} {w : World} {c b o m n : Nat} {R : World → Nat → Nat → α → Prop} {x : α} (hc : w.cell? ⟨b, o, none⟩ = some (.slice (some ⟨m, 0, none⟩) n n)) (h : ∀ j, j < n → R w m (j * c) x) (hn : n ≤ 1000) : SlC c R w b o (List.replicate n x) :=
  ⟨_, n, by rw [List.length_replicate]; exact hc, RowsAt.rep h, by rw [List.length_replicate]; exact Nat.le_refl _, by rw [List.length_replicate]; unfold maxLen; omega⟩
def z_recs : Array Value := #[.slice none 0 0]
theorem mk_recs (n : Nat) (hn : n ≤ 1000) (w : World) : (Instr.makeSlice 30 (.int .i64 (n : Int)) (.int .i64 (n : Int))).run Tryd.prog w = .ok (.slice (some ⟨w.heap.size, 0, none⟩) n n) (w.alloc (.cells (madeCells z_recs (n * z_recs.size)) 26)) := by
  have h := run_make (P := Tryd.prog) w 30 26 Tryd.t26 (.slice none 0 0) (by kernel_rfl) (by kernel_rfl) (by kernel_rfl) .i64 .i64 (n : Int) (n : Int) (by omega) (Int.le_refl _) (by rw [show Tryd.t26.bytes = 24 by kernel_rfl]; omega) (by omega)
  rw [show Tryd.t26.size = 1 by kernel_rfl, Int.toNat_natCast] at h
  exact h
def z_sigs : Array Value := #[.slice none 0 0, .int .i64 0, .int .i64 0]
theorem mk_sigs (n : Nat) (hn : n ≤ 1000) (w : World) : (Instr.makeSlice 31 (.int .i64 (n : Int)) (.int .i64 (n : Int))).run Tryd.prog w = .ok (.slice (some ⟨w.heap.size, 0, none⟩) n n) (w.alloc (.cells (madeCells z_sigs (n * z_sigs.size)) 41)) := by
  have h := run_make (P := Tryd.prog) w 31 41 Tryd.t41 (.agg #[.slice none 0 0, .int .i64 0, .int .i64 0]) (by kernel_rfl) (by kernel_rfl) (by kernel_rfl) .i64 .i64 (n : Int) (n : Int) (by omega) (Int.le_refl _) (by rw [show Tryd.t41.bytes = 40 by kernel_rfl]; omega) (by omega)
  rw [show Tryd.t41.size = 3 by kernel_rfl, Int.toNat_natCast] at h
  exact h
def z_ifs : Array Value := #[.slice none 0 0]
theorem mk_ifs (n : Nat) (hn : n ≤ 1000) (w : World) : (Instr.makeSlice 32 (.int .i64 (n : Int)) (.int .i64 (n : Int))).run Tryd.prog w = .ok (.slice (some ⟨w.heap.size, 0, none⟩) n n) (w.alloc (.cells (madeCells z_ifs (n * z_ifs.size)) 61)) := by
  have h := run_make (P := Tryd.prog) w 32 61 Tryd.t61 (.agg #[.slice none 0 0]) (by kernel_rfl) (by kernel_rfl) (by kernel_rfl) .i64 .i64 (n : Int) (n : Int) (by omega) (Int.le_refl _) (by rw [show Tryd.t61.bytes = 24 by kernel_rfl]; omega) (by omega)
  rw [show Tryd.t61.size = 1 by kernel_rfl, Int.toNat_natCast] at h
  exact h
def z_ims : Array Value := #[.int .i64 0, .int .i64 0, .slice none 0 0]
theorem mk_ims (n : Nat) (hn : n ≤ 1000) (w : World) : (Instr.makeSlice 33 (.int .i64 (n : Int)) (.int .i64 (n : Int))).run Tryd.prog w = .ok (.slice (some ⟨w.heap.size, 0, none⟩) n n) (w.alloc (.cells (madeCells z_ims (n * z_ims.size)) 63)) := by
  have h := run_make (P := Tryd.prog) w 33 63 Tryd.t63 (.agg #[.int .i64 0, .int .i64 0, .slice none 0 0]) (by kernel_rfl) (by kernel_rfl) (by kernel_rfl) .i64 .i64 (n : Int) (n : Int) (by omega) (Int.le_refl _) (by rw [show Tryd.t63.bytes = 40 by kernel_rfl]; omega) (by omega)
  rw [show Tryd.t63.size = 3 by kernel_rfl, Int.toNat_natCast] at h
  exact h
def z_tys : Array Value := #[.int .i64 0, .int .i64 0]
theorem mk_tys (n : Nat) (hn : n ≤ 1000) (w : World) : (Instr.makeSlice 26 (.int .i64 (n : Int)) (.int .i64 (n : Int))).run Tryd.prog w = .ok (.slice (some ⟨w.heap.size, 0, none⟩) n n) (w.alloc (.cells (madeCells z_tys (n * z_tys.size)) 39)) := by
  have h := run_make (P := Tryd.prog) w 26 39 Tryd.t39 (.agg #[.int .i64 0, .int .i64 0]) (by kernel_rfl) (by kernel_rfl) (by kernel_rfl) .i64 .i64 (n : Int) (n : Int) (by omega) (Int.le_refl _) (by rw [show Tryd.t39.bytes = 16 by kernel_rfl]; omega) (by omega)
  rw [show Tryd.t39.size = 2 by kernel_rfl, Int.toNat_natCast] at h
  exact h
def z_bls : Array Value := #[.slice none 0 0, .int .i64 0, .int .i64 0, .int .i64 0, .int .i64 0]
theorem mk_bls (n : Nat) (hn : n ≤ 1000) (w : World) : (Instr.makeSlice 27 (.int .i64 (n : Int)) (.int .i64 (n : Int))).run Tryd.prog w = .ok (.slice (some ⟨w.heap.size, 0, none⟩) n n) (w.alloc (.cells (madeCells z_bls (n * z_bls.size)) 44)) := by
  have h := run_make (P := Tryd.prog) w 27 44 Tryd.t44 (.agg #[.slice none 0 0, .int .i64 0, .int .i64 0, .int .i64 0, .int .i64 0]) (by kernel_rfl) (by kernel_rfl) (by kernel_rfl) .i64 .i64 (n : Int) (n : Int) (by omega) (Int.le_refl _) (by rw [show Tryd.t44.bytes = 56 by kernel_rfl]; omega) (by omega)
  rw [show Tryd.t44.size = 5 by kernel_rfl, Int.toNat_natCast] at h
  exact h
def z_ins : Array Value := #[.int .i64 0, .int .i64 0, .int .i64 0, .int .i64 0, .int .i64 0, .slice none 0 0]
theorem mk_ins (n : Nat) (hn : n ≤ 1000) (w : World) : (Instr.makeSlice 42 (.int .i64 (n : Int)) (.int .i64 (n : Int))).run Tryd.prog w = .ok (.slice (some ⟨w.heap.size, 0, none⟩) n n) (w.alloc (.cells (madeCells z_ins (n * z_ins.size)) 54)) := by
  have h := run_make (P := Tryd.prog) w 42 54 Tryd.t54 (.agg #[.int .i64 0, .int .i64 0, .int .i64 0, .int .i64 0, .int .i64 0, .slice none 0 0]) (by kernel_rfl) (by kernel_rfl) (by kernel_rfl) .i64 .i64 (n : Int) (n : Int) (by omega) (Int.le_refl _) (by rw [show Tryd.t54.bytes = 64 by kernel_rfl]; omega) (by omega)
  rw [show Tryd.t54.size = 6 by kernel_rfl, Int.toNat_natCast] at h
  exact h
theorem in_z {w : World} {m n : Nat} (h : w.heap[m]? = some (.cells (madeCells z_ins (n * z_ins.size)) 54 (0, 0))) (j : Nat) (hj : j < n) : InC w m (j * 6) ⟨0, 0, 0, 0, 0, []⟩ :=
  ⟨IntC.of (made_cell h hj (by decide) (i := 0)) (by simp), IntC.of (made_cell h hj (by decide) (i := 1)) (by simp), IntC.of (made_cell h hj (by decide) (i := 2)) (by simp), IntC.of (made_cell h hj (by decide) (i := 3)) (by simp), IntC.of (made_cell h hj (by decide) (i := 4)) (by simp), SlC.none (made_cell h hj (by decide) (i := 5))⟩
theorem bl_z {w : World} {m n : Nat} (h : w.heap[m]? = some (.cells (madeCells z_bls (n * z_bls.size)) 44 (0, 0))) (j : Nat) (hj : j < n) : BlC w m (j * 5) ⟨[], 0, 0, 0, 0⟩ :=
  ⟨SlC.none (made_cell h hj (by decide) (i := 0)), IntC.of (made_cell h hj (by decide) (i := 1)) (by simp), IntC.of (made_cell h hj (by decide) (i := 2)) (by simp), IntC.of (made_cell h hj (by decide) (i := 3)) (by simp), IntC.of (made_cell h hj (by decide) (i := 4)) (by simp)⟩
theorem ty_z {w : World} {m n : Nat} (h : w.heap[m]? = some (.cells (madeCells z_tys (n * z_tys.size)) 39 (0, 0))) (j : Nat) (hj : j < n) : TyC w m (j * 2) (0, 0) :=
  ⟨IntC.of (made_cell h hj (by decide) (i := 0)) (by simp), IntC.of (made_cell h hj (by decide) (i := 1)) (by simp)⟩
theorem sg_z {w : World} {m n : Nat} (h : w.heap[m]? = some (.cells (madeCells z_sigs (n * z_sigs.size)) 41 (0, 0))) (j : Nat) (hj : j < n) : SgC w m (j * 3) ([], 0, 0) :=
  ⟨SlC.none (made_cell h hj (by decide) (i := 0)), IntC.of (made_cell h hj (by decide) (i := 1)) (by simp), IntC.of (made_cell h hj (by decide) (i := 2)) (by simp)⟩
theorem im_z {w : World} {m n : Nat} (h : w.heap[m]? = some (.cells (madeCells z_ims (n * z_ims.size)) 63 (0, 0))) (j : Nat) (hj : j < n) : ImC w m (j * 3) (0, 0, []) :=
  ⟨IntC.of (made_cell h hj (by decide) (i := 0)) (by simp), IntC.of (made_cell h hj (by decide) (i := 1)) (by simp), SlC.none (made_cell h hj (by decide) (i := 2))⟩
theorem if_z {w : World} {m n : Nat} (h : w.heap[m]? = some (.cells (madeCells z_ifs (n * z_ifs.size)) 61 (0, 0))) (j : Nat) (hj : j < n) : IntsC w m (j * 1) [] := SlC.none (made_cell h hj (by decide) (i := 0))
theorem rc_z {w : World} {m n : Nat} (h : w.heap[m]? = some (.cells (madeCells z_recs (n * z_recs.size)) 26 (0, 0))) (j : Nat) (hj : j < n) : SlC 2 TyC w m (j * 1) [] := SlC.none (made_cell h hj (by decide) (i := 0))
end Go.Proofs.YtlopddflbhnjdaaDoor
