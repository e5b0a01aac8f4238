/-
  Contract: the statements' own beginning, begun().
-/
import Derived.Test.YtllfgbgbbjajoaaURef
namespace Go.Proofs.Ytllfgbgbbjajoaa
open Go.RowKit

def q0 : Nat → Nat := fun k => k
def q1 : Nat → Nat := joinI 4 q0 3 1
def q2 : Nat → Nat := joinI 4 q1 1 3

theorem begun_join1 : joinB 4 q0 3 1 = true := by decide
theorem begun_join2 : joinB 4 q1 1 3 = false := by decide
theorem begun_find1 : findI 4 q2 3 = 1 := by decide
theorem begun_same : sameB 4 q2 1 3 = true := by decide
theorem begun_len : (leads 4 q2).length = 3 := by decide
theorem begun_find2 : findI 4 q2 9 = -1 := by decide
theorem begun_groups : listsI (groups 4 q2) = [[0], [1, 3], [2]] := by decide

theorem ints_new (w : World) (zs : List Int) : IntsAt (w.alloc (.cells (zs.map fun z => Value.int .i64 z).toArray 3)) (some ⟨w.heap.size, 0, none⟩) zs := by
  refine Or.inr ⟨_, _, rfl, fun i hi => ?_⟩
  rw [Nat.zero_add, cell_of_row _ _ i _ _ _ (heap_alloc_new w _)]
  simp [List.getD, List.getElem?_eq_getElem hi]

def litW (w : World) : World := (((w.alloc (Obj.cells #[Value.int IntKind.i64 0] 3)).alloc (Obj.cells #[Value.int IntKind.i64 1, Value.int IntKind.i64 3] 3)).alloc (Obj.cells #[Value.int IntKind.i64 2] 3)).alloc
  (Obj.cells #[Value.slice (some ⟨w.heap.size, 0, none⟩) 1 1, Value.slice (some ⟨w.heap.size + 1, 0, none⟩) 2 2, Value.slice (some ⟨w.heap.size + 1 + 1, 0, none⟩) 1 1] 26)

theorem litW_keeps (w : World) : Keeps [] w (litW w) :=
  (((Keeps.alloc [] _ _).quiet (Keeps.alloc [] _ _)).quiet (Keeps.alloc [] _ _)).quiet (Keeps.alloc [] _ _)

theorem litW_lists (w : World) : ListsAt (litW w) 0 (some ⟨w.heap.size + 1 + 1 + 1, 0, none⟩) [[0], [1, 3], [2]] := by
  have s1 : (w.alloc (Obj.cells #[Value.int IntKind.i64 0] 3)).heap.size = w.heap.size + 1 := by simp
  have s2 : ((w.alloc (Obj.cells #[Value.int IntKind.i64 0] 3)).alloc (Obj.cells #[Value.int IntKind.i64 1, Value.int IntKind.i64 3] 3)).heap.size = w.heap.size + 1 + 1 := by simp
  have s3 : (((w.alloc (Obj.cells #[Value.int IntKind.i64 0] 3)).alloc (Obj.cells #[Value.int IntKind.i64 1, Value.int IntKind.i64 3] 3)).alloc (Obj.cells #[Value.int IntKind.i64 2] 3)).heap.size = w.heap.size + 1 + 1 + 1 := by simp
  have i1 := ints_new w [0]
  have i2 := ints_new (w.alloc (Obj.cells #[Value.int IntKind.i64 0] 3)) [1, 3]
  have i3 := ints_new ((w.alloc (Obj.cells #[Value.int IntKind.i64 0] 3)).alloc (Obj.cells #[Value.int IntKind.i64 1, Value.int IntKind.i64 3] 3)) [2]
  rw [s1] at i2
  rw [s2] at i3
  have hc := heap_alloc_new (((w.alloc (Obj.cells #[Value.int IntKind.i64 0] 3)).alloc (Obj.cells #[Value.int IntKind.i64 1, Value.int IntKind.i64 3] 3)).alloc (Obj.cells #[Value.int IntKind.i64 2] 3))
    (Obj.cells #[Value.slice (some ⟨w.heap.size, 0, none⟩) 1 1, Value.slice (some ⟨w.heap.size + 1, 0, none⟩) 2 2, Value.slice (some ⟨w.heap.size + 1 + 1, 0, none⟩) 1 1] 26)
  rw [s3] at hc
  have k3 : Keeps [] (((w.alloc (Obj.cells #[Value.int IntKind.i64 0] 3)).alloc (Obj.cells #[Value.int IntKind.i64 1, Value.int IntKind.i64 3] 3)).alloc (Obj.cells #[Value.int IntKind.i64 2] 3)) (litW w) := Keeps.alloc _ _ _
  have k2 : Keeps [] ((w.alloc (Obj.cells #[Value.int IntKind.i64 0] 3)).alloc (Obj.cells #[Value.int IntKind.i64 1, Value.int IntKind.i64 3] 3)) (litW w) := (Keeps.alloc [] _ _).quiet k3
  have k1 : Keeps [] (w.alloc (Obj.cells #[Value.int IntKind.i64 0] 3)) (litW w) := (Keeps.alloc [] _ _).quiet k2
  refine Or.inr ⟨_, _, rfl, Nat.zero_le _, fun j hj => ?_⟩
  match j, hj with
  | 0, _ => exact ⟨_, _, cell_of_row _ _ _ _ _ _ hc, i1.kept k1 (fun _ _ _ => by simp), fun _ _ _ => Nat.zero_le _⟩
  | 1, _ => exact ⟨_, _, cell_of_row _ _ _ _ _ _ hc, i2.kept k2 (fun _ _ _ => by simp), fun _ _ _ => Nat.zero_le _⟩
  | 2, _ => exact ⟨_, _, cell_of_row _ _ _ _ _ _ hc, i3.kept k3 (fun _ _ _ => by simp), fun _ _ _ => Nat.zero_le _⟩
  | j + 3, h => simp at h; omega

set_option maxHeartbeats 1000000 in
theorem begun_any (w : World) :
    Calls Try.prog 4 #[] w fun e w' => e = .returned (.bool true) ∧ Keeps [] w w' := by
  go_enter Try.func4, Try.ntmps4
  have HA := hid (new_nat 4 w (by omega))
  go_wp2_with fail
  refine HA.out.mono ?_
  rintro e w1 ⟨rfl, hu1, hk1⟩
  obtain ⟨b, hb⟩ : ∃ b, w.heap.size = b := ⟨_, rfl⟩
  rw [hb] at hu1 ⊢
  have HB := hid hb
  clear hb HA
  have HA := hid (join_any b 4 q0 3 1 w1 hu1)
  rw [begun_join1] at HA
  go_wp2_with fail
  refine HA.out.mono ?_
  rintro e w2 ⟨rfl, hu2, hk2⟩
  have hK2 : Keeps [] w w2 := hk1.trans hk2 fun x hx hl => by have := HB.out; simp at hx; omega
  clear HA hk1 hk2 hu1
  have HA := hid (join_any b 4 q1 1 3 w2 hu2)
  rw [begun_join2] at HA
  go_wp2_with fail
  refine HA.out.mono ?_
  rintro e w3 ⟨rfl, hu3, hk3⟩
  have hK3 : Keeps [] w w3 := hK2.trans hk3 fun x hx hl => by have := HB.out; simp at hx; omega
  clear HA hK2 hk3 hu2
  have HA := hid (find_any b 4 q2 3 w3 hu3)
  rw [begun_find1] at HA
  go_wp2_with fail
  refine HA.out.mono ?_
  rintro e w4 ⟨rfl, hu4, hk4⟩
  have hK4 : Keeps [] w w4 := hK3.trans hk4 fun x hx hl => by have := HB.out; simp at hx; omega
  clear HA hK3 hk4 hu3
  have HA := hid (same_any b 4 q2 1 3 w4 hu4)
  rw [begun_same] at HA
  go_wp2_with fail
  refine HA.out.mono ?_
  rintro e w5 ⟨rfl, hu5, hk5⟩
  have hK5 : Keeps [] w w5 := hK4.trans hk5 fun x hx hl => by have := HB.out; simp at hx; omega
  clear HA hK4 hk5 hu4
  have HA := hid (ulen_any b 4 q2 w5 hu5)
  rw [begun_len] at HA
  go_wp2_with fail
  refine HA.out.mono ?_
  rintro e w6 ⟨rfl, hw6⟩
  obtain rfl := hw6.symm
  clear HA hw6
  have HA := hid (find_any b 4 q2 9 w5 hu5)
  rw [begun_find2] at HA
  go_wp2_with fail
  refine HA.out.mono ?_
  rintro e w6 ⟨rfl, hu6, hk6⟩
  have hK6 : Keeps [] w w6 := hK5.trans hk6 fun x hx hl => by have := HB.out; simp at hx; omega
  clear HA hK5 hk6 hu5
  have HA := hid (groups_any b 4 q2 w6 hu6)
  rw [begun_groups] at HA
  go_wp2_with fail
  refine HA.out.mono ?_
  rintro e w7 ⟨g, cap, rfl, hl7, hu7, hk7⟩
  have hK7 : Keeps [] w w7 := hK6.trans hk7 fun x hx hl => by have := HB.out; simp at hx; omega
  have hL7 := hid hl7
  clear HA hK6 hk7 hu6 hl7
  have hE : decide (([[0], [1, 3], [2]] : List (List Int)) = [[0], [1, 3], [2]]) = true := by decide
  have HA := hid (eqall_any (some ⟨g, 0, none⟩) (some ⟨w7.heap.size + 1 + 1 + 1, 0, none⟩) w6.heap.size 0 cap 3 [[0], [1, 3], [2]] [[0], [1, 3], [2]] (litW w7) (hL7.out.kept (litW_keeps w7) (by simp)) (litW_lists w7) (by simp) (fun j => by match j with | 0 => simp | 1 => simp | 2 => simp | j + 3 => simp))
  rw [hE] at HA
  have hK8 : Keeps [] w (litW w7) := hK7.quiet (litW_keeps w7)
  clear hE hL7 hK7 hu7
  go_wp2_with fail
  refine HA.out.mono ?_
  rintro e w8 ⟨rfl, m8, rfl⟩
  have hK9 : Keeps [] w ((litW w7).drewN m8) := hK8.quiet (Keeps.drewN _ _ _)
  generalize (litW w7).drewN m8 = w9 at hK9 ⊢
  clear HA hK8
  go_wp2
  go_ret
  exact ⟨rfl, hK9⟩
end Go.Proofs.Ytllfgbgbbjajoaa
