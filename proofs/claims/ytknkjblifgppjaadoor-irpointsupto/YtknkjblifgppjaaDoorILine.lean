/-
  ir.Def, ir.Line: what an instruction defines; its line.
-/
import Derived.Test.YtknkjblifgppjaaDoorIRight
namespace Go.Proofs.YtknkjblifgppjaaDoor
open Go.RowKit Go.Shelf

/-- Does it define a register? -/
def isDef (x : In8) : Bool := decide ((1 ≤ x.op ∧ x.op ≤ 7) ∨ (10 ≤ x.op ∧ x.op ≤ 14))
def defV (x : In8) : Value := .tuple #[.int .i64 (if isDef x then x.dst else 0), .bool (isDef x)]
theorem defV_yes {x : In8} (h : isDef x = true) : defV x = .tuple #[.int .i64 x.dst, .bool true] := by unfold defV; rw [h]; rfl
theorem defV_no {x : In8} (h : isDef x = false) : defV x = .tuple #[.int .i64 0, .bool false] := by unfold defV; rw [h]; rfl
theorem def_1 (x : In8) (ar : Value) (w : World) (hop : x.op = 1) : Calls Tryd.prog 16 #[insV x ar] w fun e w' => e = .returned (defV x) ∧ Keeps [] w w' := by
  rw [defV_yes (by unfold isDef; rw [hop]; rfl)]
  unfold insV
  rw [hop]
  go_enter Tryd.func16, Tryd.ntmps16
  go_wp2
  go_ret2
  exact ⟨rfl, Keeps.alloc _ _ _⟩
theorem def_2 (x : In8) (ar : Value) (w : World) (hop : x.op = 2) : Calls Tryd.prog 16 #[insV x ar] w fun e w' => e = .returned (defV x) ∧ Keeps [] w w' := by
  rw [defV_yes (by unfold isDef; rw [hop]; rfl)]
  unfold insV
  rw [hop]
  go_enter Tryd.func16, Tryd.ntmps16
  go_wp2
  go_ret2
  exact ⟨rfl, Keeps.alloc _ _ _⟩
theorem def_3 (x : In8) (ar : Value) (w : World) (hop : x.op = 3) : Calls Tryd.prog 16 #[insV x ar] w fun e w' => e = .returned (defV x) ∧ Keeps [] w w' := by
  rw [defV_yes (by unfold isDef; rw [hop]; rfl)]
  unfold insV
  rw [hop]
  go_enter Tryd.func16, Tryd.ntmps16
  go_wp2
  go_ret2
  exact ⟨rfl, Keeps.alloc _ _ _⟩
theorem def_4 (x : In8) (ar : Value) (w : World) (hop : x.op = 4) : Calls Tryd.prog 16 #[insV x ar] w fun e w' => e = .returned (defV x) ∧ Keeps [] w w' := by
  rw [defV_yes (by unfold isDef; rw [hop]; rfl)]
  unfold insV
  rw [hop]
  go_enter Tryd.func16, Tryd.ntmps16
  go_wp2
  go_ret2
  exact ⟨rfl, Keeps.alloc _ _ _⟩
theorem def_5 (x : In8) (ar : Value) (w : World) (hop : x.op = 5) : Calls Tryd.prog 16 #[insV x ar] w fun e w' => e = .returned (defV x) ∧ Keeps [] w w' := by
  rw [defV_yes (by unfold isDef; rw [hop]; rfl)]
  unfold insV
  rw [hop]
  go_enter Tryd.func16, Tryd.ntmps16
  go_wp2
  go_ret2
  exact ⟨rfl, Keeps.alloc _ _ _⟩
theorem def_6 (x : In8) (ar : Value) (w : World) (hop : x.op = 6) : Calls Tryd.prog 16 #[insV x ar] w fun e w' => e = .returned (defV x) ∧ Keeps [] w w' := by
  rw [defV_yes (by unfold isDef; rw [hop]; rfl)]
  unfold insV
  rw [hop]
  go_enter Tryd.func16, Tryd.ntmps16
  go_wp2
  go_ret2
  exact ⟨rfl, Keeps.alloc _ _ _⟩
theorem def_7 (x : In8) (ar : Value) (w : World) (hop : x.op = 7) : Calls Tryd.prog 16 #[insV x ar] w fun e w' => e = .returned (defV x) ∧ Keeps [] w w' := by
  rw [defV_yes (by unfold isDef; rw [hop]; rfl)]
  unfold insV
  rw [hop]
  go_enter Tryd.func16, Tryd.ntmps16
  go_wp2
  go_ret2
  exact ⟨rfl, Keeps.alloc _ _ _⟩
theorem def_10 (x : In8) (ar : Value) (w : World) (hop : x.op = 10) : Calls Tryd.prog 16 #[insV x ar] w fun e w' => e = .returned (defV x) ∧ Keeps [] w w' := by
  rw [defV_yes (by unfold isDef; rw [hop]; rfl)]
  unfold insV
  rw [hop]
  go_enter Tryd.func16, Tryd.ntmps16
  go_wp2
  go_ret2
  exact ⟨rfl, Keeps.alloc _ _ _⟩
theorem def_11 (x : In8) (ar : Value) (w : World) (hop : x.op = 11) : Calls Tryd.prog 16 #[insV x ar] w fun e w' => e = .returned (defV x) ∧ Keeps [] w w' := by
  rw [defV_yes (by unfold isDef; rw [hop]; rfl)]
  unfold insV
  rw [hop]
  go_enter Tryd.func16, Tryd.ntmps16
  go_wp2
  go_ret2
  exact ⟨rfl, Keeps.alloc _ _ _⟩
theorem def_12 (x : In8) (ar : Value) (w : World) (hop : x.op = 12) : Calls Tryd.prog 16 #[insV x ar] w fun e w' => e = .returned (defV x) ∧ Keeps [] w w' := by
  rw [defV_yes (by unfold isDef; rw [hop]; rfl)]
  unfold insV
  rw [hop]
  go_enter Tryd.func16, Tryd.ntmps16
  go_wp2
  go_ret2
  exact ⟨rfl, Keeps.alloc _ _ _⟩
theorem def_13 (x : In8) (ar : Value) (w : World) (hop : x.op = 13) : Calls Tryd.prog 16 #[insV x ar] w fun e w' => e = .returned (defV x) ∧ Keeps [] w w' := by
  rw [defV_yes (by unfold isDef; rw [hop]; rfl)]
  unfold insV
  rw [hop]
  go_enter Tryd.func16, Tryd.ntmps16
  go_wp2
  go_ret2
  exact ⟨rfl, Keeps.alloc _ _ _⟩
theorem def_14 (x : In8) (ar : Value) (w : World) (hop : x.op = 14) : Calls Tryd.prog 16 #[insV x ar] w fun e w' => e = .returned (defV x) ∧ Keeps [] w w' := by
  rw [defV_yes (by unfold isDef; rw [hop]; rfl)]
  unfold insV
  rw [hop]
  go_enter Tryd.func16, Tryd.ntmps16
  go_wp2
  go_ret2
  exact ⟨rfl, Keeps.alloc _ _ _⟩
theorem def_no (x : In8) (ar : Value) (w : World) (hop : x.op ≠ 1 ∧ x.op ≠ 2 ∧ x.op ≠ 3 ∧ x.op ≠ 4 ∧ x.op ≠ 5 ∧ x.op ≠ 6 ∧ x.op ≠ 7 ∧ x.op ≠ 10 ∧ x.op ≠ 11 ∧ x.op ≠ 12 ∧ x.op ≠ 13 ∧ x.op ≠ 14) : Calls Tryd.prog 16 #[insV x ar] w fun e w' => e = .returned (defV x) ∧ Keeps [] w w' := by
  rw [defV_no (by unfold isDef; simp; omega)]
  unfold insV
  have o1 := neb (show x.op ≠ 1 by omega)
  have o2 := neb (show x.op ≠ 2 by omega)
  have o3 := neb (show x.op ≠ 3 by omega)
  have o4 := neb (show x.op ≠ 4 by omega)
  have o5 := neb (show x.op ≠ 5 by omega)
  have o6 := neb (show x.op ≠ 6 by omega)
  have o7 := neb (show x.op ≠ 7 by omega)
  have o10 := neb (show x.op ≠ 10 by omega)
  have o11 := neb (show x.op ≠ 11 by omega)
  have o12 := neb (show x.op ≠ 12 by omega)
  have o13 := neb (show x.op ≠ 13 by omega)
  have o14 := neb (show x.op ≠ 14 by omega)
  clear hop
  go_enter Tryd.func16, Tryd.ntmps16
  go_wp2
  go_ret2
  exact ⟨rfl, Keeps.alloc _ _ _⟩
theorem def_any (x : In8) (ar : Value) (w : World) : Calls Tryd.prog 16 #[insV x ar] w fun e w' => e = .returned (defV x) ∧ Keeps [] w w' := by
  by_cases o1 : x.op = 1
  · exact def_1 x ar w o1
  by_cases o2 : x.op = 2
  · exact def_2 x ar w o2
  by_cases o3 : x.op = 3
  · exact def_3 x ar w o3
  by_cases o4 : x.op = 4
  · exact def_4 x ar w o4
  by_cases o5 : x.op = 5
  · exact def_5 x ar w o5
  by_cases o6 : x.op = 6
  · exact def_6 x ar w o6
  by_cases o7 : x.op = 7
  · exact def_7 x ar w o7
  by_cases o10 : x.op = 10
  · exact def_10 x ar w o10
  by_cases o11 : x.op = 11
  · exact def_11 x ar w o11
  by_cases o12 : x.op = 12
  · exact def_12 x ar w o12
  by_cases o13 : x.op = 13
  · exact def_13 x ar w o13
  by_cases o14 : x.op = 14
  · exact def_14 x ar w o14
  exact def_no x ar w ⟨o1, o2, o3, o4, o5, o6, o7, o10, o11, o12, o13, o14⟩
def lineB (x : In8) : ByteArray :=
  if isDef x then regB x.dst ++ ⟨#[32, 61, 32]⟩ ++ rightB x
  else if x.op = 8 then partB x ++ ⟨#[32, 61, 32]⟩ ++ regB x.b
  else if x.op = 9 then ⟨#[102, 114, 101, 101, 32]⟩ ++ regB x.a
  else if x.op = 15 then ⟨#[115, 105, 110, 107, 32]⟩ ++ regB x.a
  else ⟨#[63]⟩
theorem lineB_size (x : In8) (h : InOk x) (hl : x.args.length ≤ 1048576) : (lineB x).size ≤ 24117400 := by
  have h1 := regB_size x.a h.a
  have h2 := regB_size x.b h.b
  have h3 := regB_size x.dst h.dst
  have h4 := partB_size x h
  have h5 := rightB_size x h hl
  unfold lineB
  by_cases od : isDef x = true
  · rw [if_pos od, ByteArray.size_append, ByteArray.size_append]
    show (regB x.dst).size + 3 + (rightB x).size ≤ 24117400
    omega
  rw [if_neg od]
  by_cases o8 : x.op = 8
  · rw [if_pos o8]
    rw [ByteArray.size_append, ByteArray.size_append]
    show (partB x).size + 3 + (regB x.b).size ≤ 24117400
    omega
  rw [if_neg o8]
  by_cases o9 : x.op = 9
  · rw [if_pos o9]
    rw [ByteArray.size_append]
    show 5 + (regB x.a).size ≤ 24117400
    omega
  rw [if_neg o9]
  by_cases o15 : x.op = 15
  · rw [if_pos o15]
    rw [ByteArray.size_append]
    show 5 + (regB x.a).size ≤ 24117400
    omega
  rw [if_neg o15]
  show 1 ≤ 24117400
  omega
set_option maxHeartbeats 8000000 in
theorem line_def (x : In8) (a : Option Addr) (cp : Nat) (hx : InOk x) (w : World) (hg : Glob w) (ha : ArW w a x) (hd : isDef x = true) : Calls Tryd.prog 21 #[insV x (.slice a x.args.length cp)] w fun e w' => e = .returned (.string (regB x.dst ++ ⟨#[32, 61, 32]⟩ ++ rightB x)) ∧ Keeps [] w w' := by
  obtain ⟨W, hW⟩ : ∃ W, W = w.alloc (.cells #[.int .i64 x.op, .int .i64 x.dst, .int .i64 x.a, .int .i64 x.b, .int .i64 x.n, .slice a x.args.length cp] 34) := ⟨_, rfl⟩
  have k0 : Keeps [] w W := by rw [hW]; exact Keeps.alloc _ _ _
  have i0 : InW W w.heap.size x (.slice a x.args.length cp) := by rw [hW]; exact InW.new _ _ _ _
  have K0 := hid k0
  have HD := hid fun (w' : World) (k : Keeps [] W w') => arm8 i0 k (def_any x (.slice a x.args.length cp) w')
  rw [defV_yes hd] at HD
  have H_rd := hid fun (w' : World) (k : Keeps [] W w') => arm8 i0 k (reg_any x.dst hx.dst w' (hg.quiet (k0.quiet k)))
  have z_rd := regB_size x.dst hx.dst
  have H_right := hid fun (w' : World) (k : Keeps [] W w') => arm8 i0 k (right_any x a cp hx w' (hg.quiet (k0.quiet k)) (ha.quiet (k0.quiet k)))
  have z_right := rightB_size x hx ha.len
  obtain ⟨c0, c1, c2, c3, c4, c5⟩ := i0
  unfold insV
  generalize regB x.dst = R at *
  generalize rightB x = T at *
  have a1 := fun w => add_big R ⟨#[32, 61, 32]⟩ (by have e_1 : (⟨#[32, 61, 32]⟩ : ByteArray).size = 3 := rfl; omega) w
  have e1 : (R ++ ⟨#[32, 61, 32]⟩ : ByteArray).size = R.size + 3 := by rw [ByteArray.size_append]; rfl
  have b1 : ¬ 9223372036854775807 < R.size + 3 := by omega
  have n1 : ¬ 9223372036854775807 < 3 + R.size := by omega
  generalize hS1 : R ++ ⟨#[32, 61, 32]⟩ = S1 at *
  have a2 := fun w => add_big S1 T (by have e_1 : (⟨#[32, 61, 32]⟩ : ByteArray).size = 3 := rfl; omega) w
  have e2 : (S1 ++ T : ByteArray).size = S1.size + T.size := by rw [ByteArray.size_append]
  have b2 : ¬ 9223372036854775807 < R.size + 3 + T.size := by omega
  have n2 : ¬ 9223372036854775807 < T.size + R.size + 3 := by omega
  generalize hS2 : S1 ++ T = S2 at *
  have HW := hid hW
  clear hg k0 hx hW ha
  go_enter Tryd.func21, Tryd.ntmps21
  go_wp2_with fail
  rw [← HW.out]
  clear HW
  generalize w.heap.size = q at *
  go_wp2_with (first
    | (go_at_call 16; refine (HD.out _ (by first | assumption | exact Keeps.drew _ _ | exact Keeps.refl _ _ | exact Keeps.quiet (by assumption) (Keeps.drew _ _))).mono ?_; rintro e w0 ⟨rfl, K9, g0, g1, g2, g3, g4, g5⟩)
    | fail)
  clear c0 c1 c2 c3 c4 c5
  go_region_held3 (fun w' => w'.cell? ⟨q, 0, none⟩ = some (.int .i64 x.op) ∧ w'.cell? ⟨q, 1, none⟩ = some (.int .i64 x.dst) ∧ w'.cell? ⟨q, 2, none⟩ = some (.int .i64 x.a) ∧ w'.cell? ⟨q, 3, none⟩ = some (.int .i64 x.b) ∧ w'.cell? ⟨q, 4, none⟩ = some (.int .i64 x.n) ∧ w'.cell? ⟨q, 5, none⟩ = some (.slice a x.args.length cp)) (go_keep) (first
    | (go_at_call 33; refine (H_rd.out _ (by first | assumption | exact Keeps.drew _ _ | exact Keeps.refl _ _ | exact Keeps.quiet (by assumption) (Keeps.drew _ _))).mono ?_; rintro e w1 ⟨rfl, K1, d0, d1, d2, d3, d4, d5⟩)
    | (go_at_call 34; refine (H_right.out _ (by first | assumption | exact Keeps.drew _ _ | exact Keeps.refl _ _ | exact Keeps.quiet (by assumption) (Keeps.drew _ _))).mono ?_; rintro e w1 ⟨rfl, K1, d0, d1, d2, d3, d4, d5⟩))
  go_wp2_with fail
  go_ret
  exact ⟨rfl, K0.out.quiet (by assumption)⟩
set_option maxHeartbeats 8000000 in
theorem line_8 (x : In8) (a : Option Addr) (cp : Nat) (hx : InOk x) (w : World) (hg : Glob w) (hop : x.op = 8) : Calls Tryd.prog 21 #[insV x (.slice a x.args.length cp)] w fun e w' => e = .returned (.string (partB x ++ ⟨#[32, 61, 32]⟩ ++ regB x.b)) ∧ Keeps [] w w' := by
  have o8 := eqb hop
  have hd : isDef x = false := by unfold isDef; rw [hop]; rfl
  clear hop
  obtain ⟨W, hW⟩ : ∃ W, W = w.alloc (.cells #[.int .i64 x.op, .int .i64 x.dst, .int .i64 x.a, .int .i64 x.b, .int .i64 x.n, .slice a x.args.length cp] 34) := ⟨_, rfl⟩
  have k0 : Keeps [] w W := by rw [hW]; exact Keeps.alloc _ _ _
  have i0 : InW W w.heap.size x (.slice a x.args.length cp) := by rw [hW]; exact InW.new _ _ _ _
  have K0 := hid k0
  have HD := hid fun (w' : World) (k : Keeps [] W w') => arm8 i0 k (def_any x (.slice a x.args.length cp) w')
  rw [defV_no hd] at HD
  have H_part := hid fun (w' : World) (k : Keeps [] W w') => arm8 i0 k (part_any x (.slice a x.args.length cp) hx w' (hg.quiet (k0.quiet k)))
  have z_part := partB_size x hx
  have H_rb := hid fun (w' : World) (k : Keeps [] W w') => arm8 i0 k (reg_any x.b hx.b w' (hg.quiet (k0.quiet k)))
  have z_rb := regB_size x.b hx.b
  obtain ⟨c0, c1, c2, c3, c4, c5⟩ := i0
  unfold insV
  generalize partB x = Q at *
  generalize regB x.b = B at *
  have a1 := fun w => add_big Q ⟨#[32, 61, 32]⟩ (by have e_1 : (⟨#[32, 61, 32]⟩ : ByteArray).size = 3 := rfl; omega) w
  have e1 : (Q ++ ⟨#[32, 61, 32]⟩ : ByteArray).size = Q.size + 3 := by rw [ByteArray.size_append]; rfl
  have b1 : ¬ 9223372036854775807 < Q.size + 3 := by omega
  have n1 : ¬ 9223372036854775807 < 3 + Q.size := by omega
  generalize hS1 : Q ++ ⟨#[32, 61, 32]⟩ = S1 at *
  have a2 := fun w => add_big S1 B (by have e_1 : (⟨#[32, 61, 32]⟩ : ByteArray).size = 3 := rfl; omega) w
  have e2 : (S1 ++ B : ByteArray).size = S1.size + B.size := by rw [ByteArray.size_append]
  have b2 : ¬ 9223372036854775807 < Q.size + 3 + B.size := by omega
  have n2 : ¬ 9223372036854775807 < B.size + Q.size + 3 := by omega
  generalize hS2 : S1 ++ B = S2 at *
  have HW := hid hW
  clear hg k0 hx hW
  go_enter Tryd.func21, Tryd.ntmps21
  go_wp2_with fail
  rw [← HW.out]
  clear HW
  generalize w.heap.size = q at *
  go_wp2_with (first
    | (go_at_call 16; refine (HD.out _ (by first | assumption | exact Keeps.drew _ _ | exact Keeps.refl _ _ | exact Keeps.quiet (by assumption) (Keeps.drew _ _))).mono ?_; rintro e w0 ⟨rfl, K9, g0, g1, g2, g3, g4, g5⟩)
    | fail)
  clear c0 c1 c2 c3 c4 c5
  go_region_held3 (fun w' => w'.cell? ⟨q, 0, none⟩ = some (.int .i64 x.op) ∧ w'.cell? ⟨q, 1, none⟩ = some (.int .i64 x.dst) ∧ w'.cell? ⟨q, 2, none⟩ = some (.int .i64 x.a) ∧ w'.cell? ⟨q, 3, none⟩ = some (.int .i64 x.b) ∧ w'.cell? ⟨q, 4, none⟩ = some (.int .i64 x.n) ∧ w'.cell? ⟨q, 5, none⟩ = some (.slice a x.args.length cp)) (go_keep) (first
    | (go_at_call 35; refine (H_part.out _ (by first | assumption | exact Keeps.drew _ _ | exact Keeps.refl _ _ | exact Keeps.quiet (by assumption) (Keeps.drew _ _))).mono ?_; rintro e w1 ⟨rfl, K1, d0, d1, d2, d3, d4, d5⟩)
    | (go_at_call 33; refine (H_rb.out _ (by first | assumption | exact Keeps.drew _ _ | exact Keeps.refl _ _ | exact Keeps.quiet (by assumption) (Keeps.drew _ _))).mono ?_; rintro e w1 ⟨rfl, K1, d0, d1, d2, d3, d4, d5⟩))
  go_wp2_with fail
  go_ret
  exact ⟨rfl, K0.out.quiet (by assumption)⟩
set_option maxHeartbeats 8000000 in
theorem line_9 (x : In8) (a : Option Addr) (cp : Nat) (hx : InOk x) (w : World) (hg : Glob w) (hop : x.op = 9) : Calls Tryd.prog 21 #[insV x (.slice a x.args.length cp)] w fun e w' => e = .returned (.string (⟨#[102, 114, 101, 101, 32]⟩ ++ regB x.a)) ∧ Keeps [] w w' := by
  have o8 := neb (show x.op ≠ 8 by omega)
  have o9 := eqb hop
  have hd : isDef x = false := by unfold isDef; rw [hop]; rfl
  clear hop
  obtain ⟨W, hW⟩ : ∃ W, W = w.alloc (.cells #[.int .i64 x.op, .int .i64 x.dst, .int .i64 x.a, .int .i64 x.b, .int .i64 x.n, .slice a x.args.length cp] 34) := ⟨_, rfl⟩
  have k0 : Keeps [] w W := by rw [hW]; exact Keeps.alloc _ _ _
  have i0 : InW W w.heap.size x (.slice a x.args.length cp) := by rw [hW]; exact InW.new _ _ _ _
  have K0 := hid k0
  have HD := hid fun (w' : World) (k : Keeps [] W w') => arm8 i0 k (def_any x (.slice a x.args.length cp) w')
  rw [defV_no hd] at HD
  have H_ra := hid fun (w' : World) (k : Keeps [] W w') => arm8 i0 k (reg_any x.a hx.a w' (hg.quiet (k0.quiet k)))
  have z_ra := regB_size x.a hx.a
  obtain ⟨c0, c1, c2, c3, c4, c5⟩ := i0
  unfold insV
  generalize regB x.a = A at *
  have a1 := fun w => add_big ⟨#[102, 114, 101, 101, 32]⟩ A (by have e_0 : (⟨#[102, 114, 101, 101, 32]⟩ : ByteArray).size = 5 := rfl; omega) w
  have e1 : (⟨#[102, 114, 101, 101, 32]⟩ ++ A : ByteArray).size = 5 + A.size := by rw [ByteArray.size_append]; rfl
  have b1 : ¬ 9223372036854775807 < 5 + A.size := by omega
  have n1 : ¬ 9223372036854775807 < A.size + 5 := by omega
  generalize hS1 : ⟨#[102, 114, 101, 101, 32]⟩ ++ A = S1 at *
  have HW := hid hW
  clear hg k0 hx hW
  go_enter Tryd.func21, Tryd.ntmps21
  go_wp2_with fail
  rw [← HW.out]
  clear HW
  generalize w.heap.size = q at *
  go_wp2_with (first
    | (go_at_call 16; refine (HD.out _ (by first | assumption | exact Keeps.drew _ _ | exact Keeps.refl _ _ | exact Keeps.quiet (by assumption) (Keeps.drew _ _))).mono ?_; rintro e w0 ⟨rfl, K9, g0, g1, g2, g3, g4, g5⟩)
    | (go_at_call 33; refine (H_ra.out _ (by first | assumption | exact Keeps.drew _ _ | exact Keeps.refl _ _ | exact Keeps.quiet (by assumption) (Keeps.drew _ _))).mono ?_; rintro e w1 ⟨rfl, K1, d0, d1, d2, d3, d4, d5⟩))
  go_ret
  exact ⟨rfl, K0.out.quiet (by assumption)⟩
set_option maxHeartbeats 8000000 in
theorem line_15 (x : In8) (a : Option Addr) (cp : Nat) (hx : InOk x) (w : World) (hg : Glob w) (hop : x.op = 15) : Calls Tryd.prog 21 #[insV x (.slice a x.args.length cp)] w fun e w' => e = .returned (.string (⟨#[115, 105, 110, 107, 32]⟩ ++ regB x.a)) ∧ Keeps [] w w' := by
  have o8 := neb (show x.op ≠ 8 by omega)
  have o9 := neb (show x.op ≠ 9 by omega)
  have o15 := eqb hop
  have hd : isDef x = false := by unfold isDef; rw [hop]; rfl
  clear hop
  obtain ⟨W, hW⟩ : ∃ W, W = w.alloc (.cells #[.int .i64 x.op, .int .i64 x.dst, .int .i64 x.a, .int .i64 x.b, .int .i64 x.n, .slice a x.args.length cp] 34) := ⟨_, rfl⟩
  have k0 : Keeps [] w W := by rw [hW]; exact Keeps.alloc _ _ _
  have i0 : InW W w.heap.size x (.slice a x.args.length cp) := by rw [hW]; exact InW.new _ _ _ _
  have K0 := hid k0
  have HD := hid fun (w' : World) (k : Keeps [] W w') => arm8 i0 k (def_any x (.slice a x.args.length cp) w')
  rw [defV_no hd] at HD
  have H_ra := hid fun (w' : World) (k : Keeps [] W w') => arm8 i0 k (reg_any x.a hx.a w' (hg.quiet (k0.quiet k)))
  have z_ra := regB_size x.a hx.a
  obtain ⟨c0, c1, c2, c3, c4, c5⟩ := i0
  unfold insV
  generalize regB x.a = A at *
  have a1 := fun w => add_big ⟨#[115, 105, 110, 107, 32]⟩ A (by have e_0 : (⟨#[115, 105, 110, 107, 32]⟩ : ByteArray).size = 5 := rfl; omega) w
  have e1 : (⟨#[115, 105, 110, 107, 32]⟩ ++ A : ByteArray).size = 5 + A.size := by rw [ByteArray.size_append]; rfl
  have b1 : ¬ 9223372036854775807 < 5 + A.size := by omega
  have n1 : ¬ 9223372036854775807 < A.size + 5 := by omega
  generalize hS1 : ⟨#[115, 105, 110, 107, 32]⟩ ++ A = S1 at *
  have HW := hid hW
  clear hg k0 hx hW
  go_enter Tryd.func21, Tryd.ntmps21
  go_wp2_with fail
  rw [← HW.out]
  clear HW
  generalize w.heap.size = q at *
  go_wp2_with (first
    | (go_at_call 16; refine (HD.out _ (by first | assumption | exact Keeps.drew _ _ | exact Keeps.refl _ _ | exact Keeps.quiet (by assumption) (Keeps.drew _ _))).mono ?_; rintro e w0 ⟨rfl, K9, g0, g1, g2, g3, g4, g5⟩)
    | (go_at_call 33; refine (H_ra.out _ (by first | assumption | exact Keeps.drew _ _ | exact Keeps.refl _ _ | exact Keeps.quiet (by assumption) (Keeps.drew _ _))).mono ?_; rintro e w1 ⟨rfl, K1, d0, d1, d2, d3, d4, d5⟩))
  go_ret
  exact ⟨rfl, K0.out.quiet (by assumption)⟩
set_option maxHeartbeats 8000000 in
theorem line_no (x : In8) (a : Option Addr) (cp : Nat) (w : World) (hd : isDef x = false) (hop : x.op ≠ 8 ∧ x.op ≠ 9 ∧ x.op ≠ 15) : Calls Tryd.prog 21 #[insV x (.slice a x.args.length cp)] w fun e w' => e = .returned (.string ⟨#[63]⟩) ∧ Keeps [] w w' := by
  have o8 := neb hop.1
  have o9 := neb hop.2.1
  have o15 := neb hop.2.2
  obtain ⟨W, hW⟩ : ∃ W, W = w.alloc (.cells #[.int .i64 x.op, .int .i64 x.dst, .int .i64 x.a, .int .i64 x.b, .int .i64 x.n, .slice a x.args.length cp] 34) := ⟨_, rfl⟩
  have k0 : Keeps [] w W := by rw [hW]; exact Keeps.alloc _ _ _
  have i0 : InW W w.heap.size x (.slice a x.args.length cp) := by rw [hW]; exact InW.new _ _ _ _
  have K0 := hid k0
  have HD := hid fun (w' : World) (k : Keeps [] W w') => arm8 i0 k (def_any x (.slice a x.args.length cp) w')
  rw [defV_no hd] at HD
  obtain ⟨c0, c1, c2, c3, c4, c5⟩ := i0
  unfold insV
  have HW := hid hW
  clear k0 hW hop
  go_enter Tryd.func21, Tryd.ntmps21
  go_wp2_with fail
  rw [← HW.out]
  clear HW
  generalize w.heap.size = q at *
  go_wp2_with (first
    | (go_at_call 16; refine (HD.out _ (by first | assumption | exact Keeps.drew _ _ | exact Keeps.refl _ _ | exact Keeps.quiet (by assumption) (Keeps.drew _ _))).mono ?_; rintro e w0 ⟨rfl, K9, g0, g1, g2, g3, g4, g5⟩)
    | fail)
  go_ret
  exact ⟨rfl, K0.out.quiet (by assumption)⟩
theorem line_any (x : In8) (a : Option Addr) (cp : Nat) (hx : InOk x) (w : World) (hg : Glob w) (ha : ArW w a x) : Calls Tryd.prog 21 #[insV x (.slice a x.args.length cp)] w fun e w' => e = .returned (.string (lineB x)) ∧ Keeps [] w w' := by
  unfold lineB
  by_cases od : isDef x = true
  · rw [if_pos od]; exact line_def x a cp hx w hg ha od
  rw [if_neg od]
  by_cases o8 : x.op = 8
  · rw [if_pos o8]; exact line_8 x a cp hx w hg o8
  rw [if_neg o8]
  by_cases o9 : x.op = 9
  · rw [if_pos o9]; exact line_9 x a cp hx w hg o9
  rw [if_neg o9]
  by_cases o15 : x.op = 15
  · rw [if_pos o15]; exact line_15 x a cp hx w hg o15
  rw [if_neg o15]
  exact line_no x a cp w (by simpa using od) ⟨o8, o9, o15⟩
end Go.Proofs.YtknkjblifgppjaaDoor
