/-
  ir.right: what a register becomes, as text.
-/
import Derived.Test.YtknkjblifgppjaaDoorIList
namespace Go.Proofs.YtknkjblifgppjaaDoor
open Go.RowKit Go.Shelf

/-- What is told of a call between two looks at an instruction in memory. -/
theorem arm8 {f : Nat} {args : Array Value} {r : Value} {W w' : World} {q : Nat} {x : In8} {ar : Value} (i0 : InW W q x ar) (k : Keeps [] W w') (h : Calls Tryd.prog f args w' fun e w2 => e = .returned r ∧ Keeps [] w' w2) :
    Calls Tryd.prog f args w' fun e w2 => e = .returned r ∧ Keeps [] W w2 ∧ w2.cell? ⟨q, 0, none⟩ = some (.int .i64 x.op) ∧ w2.cell? ⟨q, 1, none⟩ = some (.int .i64 x.dst) ∧ w2.cell? ⟨q, 2, none⟩ = some (.int .i64 x.a) ∧ w2.cell? ⟨q, 3, none⟩ = some (.int .i64 x.b) ∧ w2.cell? ⟨q, 4, none⟩ = some (.int .i64 x.n) ∧ w2.cell? ⟨q, 5, none⟩ = some ar :=
  h.mono fun _ _ h => ⟨h.1, k.quiet h.2, (i0.stays (k.quiet h.2)).c0, (i0.stays (k.quiet h.2)).c1, (i0.stays (k.quiet h.2)).c2, (i0.stays (k.quiet h.2)).c3, (i0.stays (k.quiet h.2)).c4, (i0.stays (k.quiet h.2)).c5⟩
/-- Its arguments, in memory. -/
structure ArW (w : World) (a : Option Addr) (x : In8) : Prop where
  ints : IntsAt w a x.args
  len : x.args.length ≤ 1048576
theorem ArW.quiet {w w' : World} {a : Option Addr} {x : In8} (h : ArW w a x) (k : Keeps [] w w') : ArW w' a x := ⟨h.ints.kept k (fun _ _ _ => by simp), h.len⟩
theorem eqb {a b : Int} (h : a = b) : (a == b) = true := by simpa using h
theorem neb {a b : Int} (h : a ≠ b) : (a == b) = false := by simpa using h
def rightB (x : In8) : ByteArray :=
  if x.op = 1 then ⟨#[99, 111, 110, 115, 116, 32]⟩ ++ decB x.n
  else if x.op = 2 then ⟨#[97, 100, 100, 32]⟩ ++ regB x.a ++ ⟨#[32]⟩ ++ regB x.b
  else if x.op = 3 then ⟨#[115, 111, 117, 114, 99, 101]⟩
  else if x.op = 4 then ⟨#[110, 105, 108]⟩
  else if x.op = 5 then ⟨#[110, 101, 119]⟩
  else if x.op = 6 then regB x.a
  else if x.op = 7 then partB x
  else if x.op = 10 then ⟨#[102, 117, 110, 99, 32]⟩ ++ decB x.n
  else if x.op = 11 then ⟨#[105, 102, 97, 99, 101, 32]⟩ ++ regB x.a
  else if x.op = 12 then ⟨#[99, 97, 108, 108, 32]⟩ ++ decB x.n ++ listB x.args
  else if x.op = 13 then ⟨#[99, 97, 108, 108, 32]⟩ ++ regB x.a ++ listB x.args
  else if x.op = 14 then ⟨#[99, 97, 108, 108, 32]⟩ ++ partB x ++ listB x.args
  else ⟨#[63]⟩
theorem rightB_size (x : In8) (h : InOk x) (hl : x.args.length ≤ 1048576) : (rightB x).size ≤ 24117350 := by
  have h1 := regB_size x.a h.a
  have h2 := regB_size x.b h.b
  have h3 := decB_size x.n h.n
  have h4 := partB_size x h
  have h5 := listB_size x.args h.args
  unfold rightB
  by_cases o1 : x.op = 1
  · rw [if_pos o1]
    rw [ByteArray.size_append]
    show 6 + (decB x.n).size ≤ 24117350
    omega
  rw [if_neg o1]
  by_cases o2 : x.op = 2
  · rw [if_pos o2]
    rw [ByteArray.size_append, ByteArray.size_append, ByteArray.size_append]
    show 4 + (regB x.a).size + 1 + (regB x.b).size ≤ 24117350
    omega
  rw [if_neg o2]
  by_cases o3 : x.op = 3
  · rw [if_pos o3]
    show 6 ≤ 24117350
    omega
  rw [if_neg o3]
  by_cases o4 : x.op = 4
  · rw [if_pos o4]
    show 3 ≤ 24117350
    omega
  rw [if_neg o4]
  by_cases o5 : x.op = 5
  · rw [if_pos o5]
    show 3 ≤ 24117350
    omega
  rw [if_neg o5]
  by_cases o6 : x.op = 6
  · rw [if_pos o6]
    show (regB x.a).size ≤ 24117350
    omega
  rw [if_neg o6]
  by_cases o7 : x.op = 7
  · rw [if_pos o7]
    show (partB x).size ≤ 24117350
    omega
  rw [if_neg o7]
  by_cases o10 : x.op = 10
  · rw [if_pos o10]
    rw [ByteArray.size_append]
    show 5 + (decB x.n).size ≤ 24117350
    omega
  rw [if_neg o10]
  by_cases o11 : x.op = 11
  · rw [if_pos o11]
    rw [ByteArray.size_append]
    show 6 + (regB x.a).size ≤ 24117350
    omega
  rw [if_neg o11]
  by_cases o12 : x.op = 12
  · rw [if_pos o12]
    rw [ByteArray.size_append, ByteArray.size_append]
    show 5 + (decB x.n).size + (listB x.args).size ≤ 24117350
    omega
  rw [if_neg o12]
  by_cases o13 : x.op = 13
  · rw [if_pos o13]
    rw [ByteArray.size_append, ByteArray.size_append]
    show 5 + (regB x.a).size + (listB x.args).size ≤ 24117350
    omega
  rw [if_neg o13]
  by_cases o14 : x.op = 14
  · rw [if_pos o14]
    rw [ByteArray.size_append, ByteArray.size_append]
    show 5 + (partB x).size + (listB x.args).size ≤ 24117350
    omega
  rw [if_neg o14]
  show 1 ≤ 24117350
  omega
set_option maxHeartbeats 8000000 in
theorem right_1 (x : In8) (a : Option Addr) (cp : Nat) (hx : InOk x) (w : World) (hg : Glob w) (hop : x.op = 1) : Calls Tryd.prog 34 #[insV x (.slice a x.args.length cp)] w fun e w' => e = .returned (.string (⟨#[99, 111, 110, 115, 116, 32]⟩ ++ decB x.n)) ∧ Keeps [] w w' := by
  have o1 := eqb hop
  clear hop
  obtain ⟨W, hW⟩ : ∃ W, W = w.alloc (.cells #[.int .i64 x.op, .int .i64 x.dst, .int .i64 x.a, .int .i64 x.b, .int .i64 x.n, .slice a x.args.length cp] 34) := ⟨_, rfl⟩
  have k0 : Keeps [] w W := by rw [hW]; exact Keeps.alloc _ _ _
  have i0 : InW W w.heap.size x (.slice a x.args.length cp) := by rw [hW]; exact InW.new _ _ _ _
  have K0 := hid k0
  have H_n := hid fun (w' : World) (k : Keeps [] W w') => arm8 i0 k (itoa_keep x.n hx.n w' (hg.quiet (k0.quiet k)))
  have z_n := decB_size x.n hx.n
  obtain ⟨c0, c1, c2, c3, c4, c5⟩ := i0
  unfold insV
  generalize decB x.n = D at *
  have a1 := fun w => add_big ⟨#[99, 111, 110, 115, 116, 32]⟩ D (by have e_0 : (⟨#[99, 111, 110, 115, 116, 32]⟩ : ByteArray).size = 6 := rfl; omega) w
  have e1 : (⟨#[99, 111, 110, 115, 116, 32]⟩ ++ D : ByteArray).size = 6 + D.size := by rw [ByteArray.size_append]; rfl
  have b1 : ¬ 9223372036854775807 < 6 + D.size := by omega
  have n1 : ¬ 9223372036854775807 < D.size + 6 := by omega
  generalize hS1 : ⟨#[99, 111, 110, 115, 116, 32]⟩ ++ D = S1 at *
  have HW := hid hW
  clear hg k0 hx hW
  go_enter Tryd.func34, Tryd.ntmps34
  go_wp2_with fail
  rw [← HW.out]
  clear HW
  generalize w.heap.size = q at *
  go_wp2_with (first
    | (go_at_call 40; refine (H_n.out _ (by first | assumption | exact Keeps.drew _ _ | exact Keeps.refl _ _ | exact Keeps.quiet (by assumption) (Keeps.drew _ _))).mono ?_; rintro e w1 ⟨rfl, K1, d0, d1, d2, d3, d4, d5⟩))
  go_ret
  exact ⟨rfl, K0.out.quiet (by assumption)⟩
set_option maxHeartbeats 8000000 in
theorem right_2 (x : In8) (a : Option Addr) (cp : Nat) (hx : InOk x) (w : World) (hg : Glob w) (hop : x.op = 2) : Calls Tryd.prog 34 #[insV x (.slice a x.args.length cp)] w fun e w' => e = .returned (.string (⟨#[97, 100, 100, 32]⟩ ++ regB x.a ++ ⟨#[32]⟩ ++ regB x.b)) ∧ Keeps [] w w' := by
  have o1 := neb (show x.op ≠ 1 by omega)
  have o2 := eqb hop
  clear hop
  obtain ⟨W, hW⟩ : ∃ W, W = w.alloc (.cells #[.int .i64 x.op, .int .i64 x.dst, .int .i64 x.a, .int .i64 x.b, .int .i64 x.n, .slice a x.args.length cp] 34) := ⟨_, rfl⟩
  have k0 : Keeps [] w W := by rw [hW]; exact Keeps.alloc _ _ _
  have i0 : InW W w.heap.size x (.slice a x.args.length cp) := by rw [hW]; exact InW.new _ _ _ _
  have K0 := hid k0
  have H_ra := hid fun (w' : World) (k : Keeps [] W w') => arm8 i0 k (reg_any x.a hx.a w' (hg.quiet (k0.quiet k)))
  have z_ra := regB_size x.a hx.a
  have H_rb := hid fun (w' : World) (k : Keeps [] W w') => arm8 i0 k (reg_any x.b hx.b w' (hg.quiet (k0.quiet k)))
  have z_rb := regB_size x.b hx.b
  obtain ⟨c0, c1, c2, c3, c4, c5⟩ := i0
  unfold insV
  generalize regB x.a = A at *
  generalize regB x.b = B at *
  have a1 := fun w => add_big ⟨#[97, 100, 100, 32]⟩ A (by have e_0 : (⟨#[97, 100, 100, 32]⟩ : ByteArray).size = 4 := rfl; have e_2 : (⟨#[32]⟩ : ByteArray).size = 1 := rfl; omega) w
  have e1 : (⟨#[97, 100, 100, 32]⟩ ++ A : ByteArray).size = 4 + A.size := by rw [ByteArray.size_append]; rfl
  have b1 : ¬ 9223372036854775807 < 4 + A.size := by omega
  have n1 : ¬ 9223372036854775807 < A.size + 4 := by omega
  generalize hS1 : ⟨#[97, 100, 100, 32]⟩ ++ A = S1 at *
  have a2 := fun w => add_big S1 ⟨#[32]⟩ (by have e_0 : (⟨#[97, 100, 100, 32]⟩ : ByteArray).size = 4 := rfl; have e_2 : (⟨#[32]⟩ : ByteArray).size = 1 := rfl; omega) w
  have e2 : (S1 ++ ⟨#[32]⟩ : ByteArray).size = S1.size + 1 := by rw [ByteArray.size_append]; rfl
  have b2 : ¬ 9223372036854775807 < 4 + A.size + 1 := by omega
  have n2 : ¬ 9223372036854775807 < 1 + 4 + A.size := by omega
  generalize hS2 : S1 ++ ⟨#[32]⟩ = S2 at *
  have a3 := fun w => add_big S2 B (by have e_0 : (⟨#[97, 100, 100, 32]⟩ : ByteArray).size = 4 := rfl; have e_2 : (⟨#[32]⟩ : ByteArray).size = 1 := rfl; omega) w
  have e3 : (S2 ++ B : ByteArray).size = S2.size + B.size := by rw [ByteArray.size_append]
  have b3 : ¬ 9223372036854775807 < 4 + A.size + 1 + B.size := by omega
  have n3 : ¬ 9223372036854775807 < B.size + 4 + A.size + 1 := by omega
  generalize hS3 : S2 ++ B = S3 at *
  have HW := hid hW
  clear hg k0 hx hW
  go_enter Tryd.func34, Tryd.ntmps34
  go_wp2_with fail
  rw [← HW.out]
  clear HW
  generalize w.heap.size = q at *
  go_region_held3 (fun w' => w'.cell? ⟨q, 0, none⟩ = some (.int .i64 x.op) ∧ w'.cell? ⟨q, 1, none⟩ = some (.int .i64 x.dst) ∧ w'.cell? ⟨q, 2, none⟩ = some (.int .i64 x.a) ∧ w'.cell? ⟨q, 3, none⟩ = some (.int .i64 x.b) ∧ w'.cell? ⟨q, 4, none⟩ = some (.int .i64 x.n) ∧ w'.cell? ⟨q, 5, none⟩ = some (.slice a x.args.length cp)) (go_keep) (first
    | (go_at_call 33; refine (H_ra.out _ (by first | assumption | exact Keeps.drew _ _ | exact Keeps.refl _ _ | exact Keeps.quiet (by assumption) (Keeps.drew _ _))).mono ?_; rintro e w1 ⟨rfl, K1, d0, d1, d2, d3, d4, d5⟩)
    | (go_at_call 33; refine (H_rb.out _ (by first | assumption | exact Keeps.drew _ _ | exact Keeps.refl _ _ | exact Keeps.quiet (by assumption) (Keeps.drew _ _))).mono ?_; rintro e w1 ⟨rfl, K1, d0, d1, d2, d3, d4, d5⟩))
  go_wp2_with fail
  go_ret
  exact ⟨rfl, K0.out.quiet (by assumption)⟩
set_option maxHeartbeats 8000000 in
theorem right_3 (x : In8) (a : Option Addr) (cp : Nat) (w : World) (hop : x.op = 3) : Calls Tryd.prog 34 #[insV x (.slice a x.args.length cp)] w fun e w' => e = .returned (.string (⟨#[115, 111, 117, 114, 99, 101]⟩)) ∧ Keeps [] w w' := by
  unfold insV
  rw [hop]
  go_enter Tryd.func34, Tryd.ntmps34
  go_wp2
  go_ret
  exact ⟨rfl, Keeps.alloc _ _ _⟩
set_option maxHeartbeats 8000000 in
theorem right_4 (x : In8) (a : Option Addr) (cp : Nat) (w : World) (hop : x.op = 4) : Calls Tryd.prog 34 #[insV x (.slice a x.args.length cp)] w fun e w' => e = .returned (.string (⟨#[110, 105, 108]⟩)) ∧ Keeps [] w w' := by
  unfold insV
  rw [hop]
  go_enter Tryd.func34, Tryd.ntmps34
  go_wp2
  go_ret
  exact ⟨rfl, Keeps.alloc _ _ _⟩
set_option maxHeartbeats 8000000 in
theorem right_5 (x : In8) (a : Option Addr) (cp : Nat) (w : World) (hop : x.op = 5) : Calls Tryd.prog 34 #[insV x (.slice a x.args.length cp)] w fun e w' => e = .returned (.string (⟨#[110, 101, 119]⟩)) ∧ Keeps [] w w' := by
  unfold insV
  rw [hop]
  go_enter Tryd.func34, Tryd.ntmps34
  go_wp2
  go_ret
  exact ⟨rfl, Keeps.alloc _ _ _⟩
set_option maxHeartbeats 8000000 in
theorem right_6 (x : In8) (a : Option Addr) (cp : Nat) (hx : InOk x) (w : World) (hg : Glob w) (hop : x.op = 6) : Calls Tryd.prog 34 #[insV x (.slice a x.args.length cp)] w fun e w' => e = .returned (.string (regB x.a)) ∧ Keeps [] w w' := by
  have o1 := neb (show x.op ≠ 1 by omega)
  have o2 := neb (show x.op ≠ 2 by omega)
  have o3 := neb (show x.op ≠ 3 by omega)
  have o4 := neb (show x.op ≠ 4 by omega)
  have o5 := neb (show x.op ≠ 5 by omega)
  have o6 := eqb hop
  clear hop
  obtain ⟨W, hW⟩ : ∃ W, W = w.alloc (.cells #[.int .i64 x.op, .int .i64 x.dst, .int .i64 x.a, .int .i64 x.b, .int .i64 x.n, .slice a x.args.length cp] 34) := ⟨_, rfl⟩
  have k0 : Keeps [] w W := by rw [hW]; exact Keeps.alloc _ _ _
  have i0 : InW W w.heap.size x (.slice a x.args.length cp) := by rw [hW]; exact InW.new _ _ _ _
  have K0 := hid k0
  have H_ra := hid fun (w' : World) (k : Keeps [] W w') => arm8 i0 k (reg_any x.a hx.a w' (hg.quiet (k0.quiet k)))
  have z_ra := regB_size x.a hx.a
  obtain ⟨c0, c1, c2, c3, c4, c5⟩ := i0
  unfold insV
  generalize regB x.a = A at *
  have HW := hid hW
  clear hg k0 hx hW
  go_enter Tryd.func34, Tryd.ntmps34
  go_wp2_with fail
  rw [← HW.out]
  clear HW
  generalize w.heap.size = q at *
  go_wp2_with (first
    | (go_at_call 33; refine (H_ra.out _ (by first | assumption | exact Keeps.drew _ _ | exact Keeps.refl _ _ | exact Keeps.quiet (by assumption) (Keeps.drew _ _))).mono ?_; rintro e w1 ⟨rfl, K1, d0, d1, d2, d3, d4, d5⟩))
  go_ret
  exact ⟨rfl, K0.out.quiet (by assumption)⟩
set_option maxHeartbeats 8000000 in
theorem right_7 (x : In8) (a : Option Addr) (cp : Nat) (hx : InOk x) (w : World) (hg : Glob w) (hop : x.op = 7) : Calls Tryd.prog 34 #[insV x (.slice a x.args.length cp)] w fun e w' => e = .returned (.string (partB x)) ∧ Keeps [] w w' := by
  have o1 := neb (show x.op ≠ 1 by omega)
  have o2 := neb (show x.op ≠ 2 by omega)
  have o3 := neb (show x.op ≠ 3 by omega)
  have o4 := neb (show x.op ≠ 4 by omega)
  have o5 := neb (show x.op ≠ 5 by omega)
  have o6 := neb (show x.op ≠ 6 by omega)
  have o7 := eqb hop
  clear hop
  obtain ⟨W, hW⟩ : ∃ W, W = w.alloc (.cells #[.int .i64 x.op, .int .i64 x.dst, .int .i64 x.a, .int .i64 x.b, .int .i64 x.n, .slice a x.args.length cp] 34) := ⟨_, rfl⟩
  have k0 : Keeps [] w W := by rw [hW]; exact Keeps.alloc _ _ _
  have i0 : InW W w.heap.size x (.slice a x.args.length cp) := by rw [hW]; exact InW.new _ _ _ _
  have K0 := hid k0
  have H_part := hid fun (w' : World) (k : Keeps [] W w') => arm8 i0 k (part_any x (.slice a x.args.length cp) hx w' (hg.quiet (k0.quiet k)))
  have z_part := partB_size x hx
  obtain ⟨c0, c1, c2, c3, c4, c5⟩ := i0
  unfold insV
  generalize partB x = Q at *
  have HW := hid hW
  clear hg k0 hx hW
  go_enter Tryd.func34, Tryd.ntmps34
  go_wp2_with fail
  rw [← HW.out]
  clear HW
  generalize w.heap.size = q at *
  go_wp2_with (first
    | (go_at_call 35; refine (H_part.out _ (by first | assumption | exact Keeps.drew _ _ | exact Keeps.refl _ _ | exact Keeps.quiet (by assumption) (Keeps.drew _ _))).mono ?_; rintro e w1 ⟨rfl, K1, d0, d1, d2, d3, d4, d5⟩))
  go_ret
  exact ⟨rfl, K0.out.quiet (by assumption)⟩
set_option maxHeartbeats 8000000 in
theorem right_10 (x : In8) (a : Option Addr) (cp : Nat) (hx : InOk x) (w : World) (hg : Glob w) (hop : x.op = 10) : Calls Tryd.prog 34 #[insV x (.slice a x.args.length cp)] w fun e w' => e = .returned (.string (⟨#[102, 117, 110, 99, 32]⟩ ++ decB x.n)) ∧ Keeps [] w w' := by
  have o1 := neb (show x.op ≠ 1 by omega)
  have o2 := neb (show x.op ≠ 2 by omega)
  have o3 := neb (show x.op ≠ 3 by omega)
  have o4 := neb (show x.op ≠ 4 by omega)
  have o5 := neb (show x.op ≠ 5 by omega)
  have o6 := neb (show x.op ≠ 6 by omega)
  have o7 := neb (show x.op ≠ 7 by omega)
  have o10 := eqb hop
  clear hop
  obtain ⟨W, hW⟩ : ∃ W, W = w.alloc (.cells #[.int .i64 x.op, .int .i64 x.dst, .int .i64 x.a, .int .i64 x.b, .int .i64 x.n, .slice a x.args.length cp] 34) := ⟨_, rfl⟩
  have k0 : Keeps [] w W := by rw [hW]; exact Keeps.alloc _ _ _
  have i0 : InW W w.heap.size x (.slice a x.args.length cp) := by rw [hW]; exact InW.new _ _ _ _
  have K0 := hid k0
  have H_n := hid fun (w' : World) (k : Keeps [] W w') => arm8 i0 k (itoa_keep x.n hx.n w' (hg.quiet (k0.quiet k)))
  have z_n := decB_size x.n hx.n
  obtain ⟨c0, c1, c2, c3, c4, c5⟩ := i0
  unfold insV
  generalize decB x.n = D at *
  have a1 := fun w => add_big ⟨#[102, 117, 110, 99, 32]⟩ D (by have e_0 : (⟨#[102, 117, 110, 99, 32]⟩ : ByteArray).size = 5 := rfl; omega) w
  have e1 : (⟨#[102, 117, 110, 99, 32]⟩ ++ D : ByteArray).size = 5 + D.size := by rw [ByteArray.size_append]; rfl
  have b1 : ¬ 9223372036854775807 < 5 + D.size := by omega
  have n1 : ¬ 9223372036854775807 < D.size + 5 := by omega
  generalize hS1 : ⟨#[102, 117, 110, 99, 32]⟩ ++ D = S1 at *
  have HW := hid hW
  clear hg k0 hx hW
  go_enter Tryd.func34, Tryd.ntmps34
  go_wp2_with fail
  rw [← HW.out]
  clear HW
  generalize w.heap.size = q at *
  go_wp2_with (first
    | (go_at_call 40; refine (H_n.out _ (by first | assumption | exact Keeps.drew _ _ | exact Keeps.refl _ _ | exact Keeps.quiet (by assumption) (Keeps.drew _ _))).mono ?_; rintro e w1 ⟨rfl, K1, d0, d1, d2, d3, d4, d5⟩))
  go_ret
  exact ⟨rfl, K0.out.quiet (by assumption)⟩
set_option maxHeartbeats 8000000 in
theorem right_11 (x : In8) (a : Option Addr) (cp : Nat) (hx : InOk x) (w : World) (hg : Glob w) (hop : x.op = 11) : Calls Tryd.prog 34 #[insV x (.slice a x.args.length cp)] w fun e w' => e = .returned (.string (⟨#[105, 102, 97, 99, 101, 32]⟩ ++ regB x.a)) ∧ Keeps [] w w' := by
  have o1 := neb (show x.op ≠ 1 by omega)
  have o2 := neb (show x.op ≠ 2 by omega)
  have o3 := neb (show x.op ≠ 3 by omega)
  have o4 := neb (show x.op ≠ 4 by omega)
  have o5 := neb (show x.op ≠ 5 by omega)
  have o6 := neb (show x.op ≠ 6 by omega)
  have o7 := neb (show x.op ≠ 7 by omega)
  have o10 := neb (show x.op ≠ 10 by omega)
  have o11 := eqb hop
  clear hop
  obtain ⟨W, hW⟩ : ∃ W, W = w.alloc (.cells #[.int .i64 x.op, .int .i64 x.dst, .int .i64 x.a, .int .i64 x.b, .int .i64 x.n, .slice a x.args.length cp] 34) := ⟨_, rfl⟩
  have k0 : Keeps [] w W := by rw [hW]; exact Keeps.alloc _ _ _
  have i0 : InW W w.heap.size x (.slice a x.args.length cp) := by rw [hW]; exact InW.new _ _ _ _
  have K0 := hid k0
  have H_ra := hid fun (w' : World) (k : Keeps [] W w') => arm8 i0 k (reg_any x.a hx.a w' (hg.quiet (k0.quiet k)))
  have z_ra := regB_size x.a hx.a
  obtain ⟨c0, c1, c2, c3, c4, c5⟩ := i0
  unfold insV
  generalize regB x.a = A at *
  have a1 := fun w => add_big ⟨#[105, 102, 97, 99, 101, 32]⟩ A (by have e_0 : (⟨#[105, 102, 97, 99, 101, 32]⟩ : ByteArray).size = 6 := rfl; omega) w
  have e1 : (⟨#[105, 102, 97, 99, 101, 32]⟩ ++ A : ByteArray).size = 6 + A.size := by rw [ByteArray.size_append]; rfl
  have b1 : ¬ 9223372036854775807 < 6 + A.size := by omega
  have n1 : ¬ 9223372036854775807 < A.size + 6 := by omega
  generalize hS1 : ⟨#[105, 102, 97, 99, 101, 32]⟩ ++ A = S1 at *
  have HW := hid hW
  clear hg k0 hx hW
  go_enter Tryd.func34, Tryd.ntmps34
  go_wp2_with fail
  rw [← HW.out]
  clear HW
  generalize w.heap.size = q at *
  go_wp2_with (first
    | (go_at_call 33; refine (H_ra.out _ (by first | assumption | exact Keeps.drew _ _ | exact Keeps.refl _ _ | exact Keeps.quiet (by assumption) (Keeps.drew _ _))).mono ?_; rintro e w1 ⟨rfl, K1, d0, d1, d2, d3, d4, d5⟩))
  go_ret
  exact ⟨rfl, K0.out.quiet (by assumption)⟩
set_option maxHeartbeats 8000000 in
theorem right_12 (x : In8) (a : Option Addr) (cp : Nat) (hx : InOk x) (w : World) (hg : Glob w) (ha : ArW w a x) (hop : x.op = 12) : Calls Tryd.prog 34 #[insV x (.slice a x.args.length cp)] w fun e w' => e = .returned (.string (⟨#[99, 97, 108, 108, 32]⟩ ++ decB x.n ++ listB x.args)) ∧ Keeps [] w w' := by
  have o1 := neb (show x.op ≠ 1 by omega)
  have o2 := neb (show x.op ≠ 2 by omega)
  have o3 := neb (show x.op ≠ 3 by omega)
  have o4 := neb (show x.op ≠ 4 by omega)
  have o5 := neb (show x.op ≠ 5 by omega)
  have o6 := neb (show x.op ≠ 6 by omega)
  have o7 := neb (show x.op ≠ 7 by omega)
  have o10 := neb (show x.op ≠ 10 by omega)
  have o11 := neb (show x.op ≠ 11 by omega)
  have o12 := eqb hop
  clear hop
  obtain ⟨W, hW⟩ : ∃ W, W = w.alloc (.cells #[.int .i64 x.op, .int .i64 x.dst, .int .i64 x.a, .int .i64 x.b, .int .i64 x.n, .slice a x.args.length cp] 34) := ⟨_, rfl⟩
  have k0 : Keeps [] w W := by rw [hW]; exact Keeps.alloc _ _ _
  have i0 : InW W w.heap.size x (.slice a x.args.length cp) := by rw [hW]; exact InW.new _ _ _ _
  have K0 := hid k0
  have H_n := hid fun (w' : World) (k : Keeps [] W w') => arm8 i0 k (itoa_keep x.n hx.n w' (hg.quiet (k0.quiet k)))
  have z_n := decB_size x.n hx.n
  have H_list := hid fun (w' : World) (k : Keeps [] W w') => arm8 i0 k (list_any a cp x.args w' (hg.quiet (k0.quiet k)) (ha.quiet (k0.quiet k)).ints hx.args ha.len)
  have z_list := Nat.le_trans (listB_size x.args hx.args) (show _ ≤ 24117250 by have := ha.len; omega)
  obtain ⟨c0, c1, c2, c3, c4, c5⟩ := i0
  unfold insV
  generalize decB x.n = D at *
  generalize listB x.args = L at *
  have a1 := fun w => add_big ⟨#[99, 97, 108, 108, 32]⟩ D (by have e_0 : (⟨#[99, 97, 108, 108, 32]⟩ : ByteArray).size = 5 := rfl; omega) w
  have e1 : (⟨#[99, 97, 108, 108, 32]⟩ ++ D : ByteArray).size = 5 + D.size := by rw [ByteArray.size_append]; rfl
  have b1 : ¬ 9223372036854775807 < 5 + D.size := by omega
  have n1 : ¬ 9223372036854775807 < D.size + 5 := by omega
  generalize hS1 : ⟨#[99, 97, 108, 108, 32]⟩ ++ D = S1 at *
  have a2 := fun w => add_big S1 L (by have e_0 : (⟨#[99, 97, 108, 108, 32]⟩ : ByteArray).size = 5 := rfl; omega) w
  have e2 : (S1 ++ L : ByteArray).size = S1.size + L.size := by rw [ByteArray.size_append]
  have b2 : ¬ 9223372036854775807 < 5 + D.size + L.size := by omega
  have n2 : ¬ 9223372036854775807 < L.size + 5 + D.size := by omega
  generalize hS2 : S1 ++ L = S2 at *
  have HW := hid hW
  clear hg k0 hx hW ha
  go_enter Tryd.func34, Tryd.ntmps34
  go_wp2_with fail
  rw [← HW.out]
  clear HW
  generalize w.heap.size = q at *
  go_region_held3 (fun w' => w'.cell? ⟨q, 0, none⟩ = some (.int .i64 x.op) ∧ w'.cell? ⟨q, 1, none⟩ = some (.int .i64 x.dst) ∧ w'.cell? ⟨q, 2, none⟩ = some (.int .i64 x.a) ∧ w'.cell? ⟨q, 3, none⟩ = some (.int .i64 x.b) ∧ w'.cell? ⟨q, 4, none⟩ = some (.int .i64 x.n) ∧ w'.cell? ⟨q, 5, none⟩ = some (.slice a x.args.length cp)) (go_keep) (first
    | (go_at_call 40; refine (H_n.out _ (by first | assumption | exact Keeps.drew _ _ | exact Keeps.refl _ _ | exact Keeps.quiet (by assumption) (Keeps.drew _ _))).mono ?_; rintro e w1 ⟨rfl, K1, d0, d1, d2, d3, d4, d5⟩)
    | (go_at_call 46; refine (H_list.out _ (by first | assumption | exact Keeps.drew _ _ | exact Keeps.refl _ _ | exact Keeps.quiet (by assumption) (Keeps.drew _ _))).mono ?_; rintro e w1 ⟨rfl, K1, d0, d1, d2, d3, d4, d5⟩))
  go_wp2_with fail
  go_ret
  exact ⟨rfl, K0.out.quiet (by assumption)⟩
set_option maxHeartbeats 8000000 in
theorem right_13 (x : In8) (a : Option Addr) (cp : Nat) (hx : InOk x) (w : World) (hg : Glob w) (ha : ArW w a x) (hop : x.op = 13) : Calls Tryd.prog 34 #[insV x (.slice a x.args.length cp)] w fun e w' => e = .returned (.string (⟨#[99, 97, 108, 108, 32]⟩ ++ regB x.a ++ listB x.args)) ∧ Keeps [] w w' := by
  have o1 := neb (show x.op ≠ 1 by omega)
  have o2 := neb (show x.op ≠ 2 by omega)
  have o3 := neb (show x.op ≠ 3 by omega)
  have o4 := neb (show x.op ≠ 4 by omega)
  have o5 := neb (show x.op ≠ 5 by omega)
  have o6 := neb (show x.op ≠ 6 by omega)
  have o7 := neb (show x.op ≠ 7 by omega)
  have o10 := neb (show x.op ≠ 10 by omega)
  have o11 := neb (show x.op ≠ 11 by omega)
  have o12 := neb (show x.op ≠ 12 by omega)
  have o13 := eqb hop
  clear hop
  obtain ⟨W, hW⟩ : ∃ W, W = w.alloc (.cells #[.int .i64 x.op, .int .i64 x.dst, .int .i64 x.a, .int .i64 x.b, .int .i64 x.n, .slice a x.args.length cp] 34) := ⟨_, rfl⟩
  have k0 : Keeps [] w W := by rw [hW]; exact Keeps.alloc _ _ _
  have i0 : InW W w.heap.size x (.slice a x.args.length cp) := by rw [hW]; exact InW.new _ _ _ _
  have K0 := hid k0
  have H_ra := hid fun (w' : World) (k : Keeps [] W w') => arm8 i0 k (reg_any x.a hx.a w' (hg.quiet (k0.quiet k)))
  have z_ra := regB_size x.a hx.a
  have H_list := hid fun (w' : World) (k : Keeps [] W w') => arm8 i0 k (list_any a cp x.args w' (hg.quiet (k0.quiet k)) (ha.quiet (k0.quiet k)).ints hx.args ha.len)
  have z_list := Nat.le_trans (listB_size x.args hx.args) (show _ ≤ 24117250 by have := ha.len; omega)
  obtain ⟨c0, c1, c2, c3, c4, c5⟩ := i0
  unfold insV
  generalize regB x.a = A at *
  generalize listB x.args = L at *
  have a1 := fun w => add_big ⟨#[99, 97, 108, 108, 32]⟩ A (by have e_0 : (⟨#[99, 97, 108, 108, 32]⟩ : ByteArray).size = 5 := rfl; omega) w
  have e1 : (⟨#[99, 97, 108, 108, 32]⟩ ++ A : ByteArray).size = 5 + A.size := by rw [ByteArray.size_append]; rfl
  have b1 : ¬ 9223372036854775807 < 5 + A.size := by omega
  have n1 : ¬ 9223372036854775807 < A.size + 5 := by omega
  generalize hS1 : ⟨#[99, 97, 108, 108, 32]⟩ ++ A = S1 at *
  have a2 := fun w => add_big S1 L (by have e_0 : (⟨#[99, 97, 108, 108, 32]⟩ : ByteArray).size = 5 := rfl; omega) w
  have e2 : (S1 ++ L : ByteArray).size = S1.size + L.size := by rw [ByteArray.size_append]
  have b2 : ¬ 9223372036854775807 < 5 + A.size + L.size := by omega
  have n2 : ¬ 9223372036854775807 < L.size + 5 + A.size := by omega
  generalize hS2 : S1 ++ L = S2 at *
  have HW := hid hW
  clear hg k0 hx hW ha
  go_enter Tryd.func34, Tryd.ntmps34
  go_wp2_with fail
  rw [← HW.out]
  clear HW
  generalize w.heap.size = q at *
  go_region_held3 (fun w' => w'.cell? ⟨q, 0, none⟩ = some (.int .i64 x.op) ∧ w'.cell? ⟨q, 1, none⟩ = some (.int .i64 x.dst) ∧ w'.cell? ⟨q, 2, none⟩ = some (.int .i64 x.a) ∧ w'.cell? ⟨q, 3, none⟩ = some (.int .i64 x.b) ∧ w'.cell? ⟨q, 4, none⟩ = some (.int .i64 x.n) ∧ w'.cell? ⟨q, 5, none⟩ = some (.slice a x.args.length cp)) (go_keep) (first
    | (go_at_call 33; refine (H_ra.out _ (by first | assumption | exact Keeps.drew _ _ | exact Keeps.refl _ _ | exact Keeps.quiet (by assumption) (Keeps.drew _ _))).mono ?_; rintro e w1 ⟨rfl, K1, d0, d1, d2, d3, d4, d5⟩)
    | (go_at_call 46; refine (H_list.out _ (by first | assumption | exact Keeps.drew _ _ | exact Keeps.refl _ _ | exact Keeps.quiet (by assumption) (Keeps.drew _ _))).mono ?_; rintro e w1 ⟨rfl, K1, d0, d1, d2, d3, d4, d5⟩))
  go_wp2_with fail
  go_ret
  exact ⟨rfl, K0.out.quiet (by assumption)⟩
set_option maxHeartbeats 8000000 in
theorem right_14 (x : In8) (a : Option Addr) (cp : Nat) (hx : InOk x) (w : World) (hg : Glob w) (ha : ArW w a x) (hop : x.op = 14) : Calls Tryd.prog 34 #[insV x (.slice a x.args.length cp)] w fun e w' => e = .returned (.string (⟨#[99, 97, 108, 108, 32]⟩ ++ partB x ++ listB x.args)) ∧ Keeps [] w w' := by
  have o1 := neb (show x.op ≠ 1 by omega)
  have o2 := neb (show x.op ≠ 2 by omega)
  have o3 := neb (show x.op ≠ 3 by omega)
  have o4 := neb (show x.op ≠ 4 by omega)
  have o5 := neb (show x.op ≠ 5 by omega)
  have o6 := neb (show x.op ≠ 6 by omega)
  have o7 := neb (show x.op ≠ 7 by omega)
  have o10 := neb (show x.op ≠ 10 by omega)
  have o11 := neb (show x.op ≠ 11 by omega)
  have o12 := neb (show x.op ≠ 12 by omega)
  have o13 := neb (show x.op ≠ 13 by omega)
  have o14 := eqb hop
  clear hop
  obtain ⟨W, hW⟩ : ∃ W, W = w.alloc (.cells #[.int .i64 x.op, .int .i64 x.dst, .int .i64 x.a, .int .i64 x.b, .int .i64 x.n, .slice a x.args.length cp] 34) := ⟨_, rfl⟩
  have k0 : Keeps [] w W := by rw [hW]; exact Keeps.alloc _ _ _
  have i0 : InW W w.heap.size x (.slice a x.args.length cp) := by rw [hW]; exact InW.new _ _ _ _
  have K0 := hid k0
  have H_part := hid fun (w' : World) (k : Keeps [] W w') => arm8 i0 k (part_any x (.slice a x.args.length cp) hx w' (hg.quiet (k0.quiet k)))
  have z_part := partB_size x hx
  have H_list := hid fun (w' : World) (k : Keeps [] W w') => arm8 i0 k (list_any a cp x.args w' (hg.quiet (k0.quiet k)) (ha.quiet (k0.quiet k)).ints hx.args ha.len)
  have z_list := Nat.le_trans (listB_size x.args hx.args) (show _ ≤ 24117250 by have := ha.len; omega)
  obtain ⟨c0, c1, c2, c3, c4, c5⟩ := i0
  unfold insV
  generalize partB x = Q at *
  generalize listB x.args = L at *
  have a1 := fun w => add_big ⟨#[99, 97, 108, 108, 32]⟩ Q (by have e_0 : (⟨#[99, 97, 108, 108, 32]⟩ : ByteArray).size = 5 := rfl; omega) w
  have e1 : (⟨#[99, 97, 108, 108, 32]⟩ ++ Q : ByteArray).size = 5 + Q.size := by rw [ByteArray.size_append]; rfl
  have b1 : ¬ 9223372036854775807 < 5 + Q.size := by omega
  have n1 : ¬ 9223372036854775807 < Q.size + 5 := by omega
  generalize hS1 : ⟨#[99, 97, 108, 108, 32]⟩ ++ Q = S1 at *
  have a2 := fun w => add_big S1 L (by have e_0 : (⟨#[99, 97, 108, 108, 32]⟩ : ByteArray).size = 5 := rfl; omega) w
  have e2 : (S1 ++ L : ByteArray).size = S1.size + L.size := by rw [ByteArray.size_append]
  have b2 : ¬ 9223372036854775807 < 5 + Q.size + L.size := by omega
  have n2 : ¬ 9223372036854775807 < L.size + 5 + Q.size := by omega
  generalize hS2 : S1 ++ L = S2 at *
  have HW := hid hW
  clear hg k0 hx hW ha
  go_enter Tryd.func34, Tryd.ntmps34
  go_wp2_with fail
  rw [← HW.out]
  clear HW
  generalize w.heap.size = q at *
  go_region_held3 (fun w' => w'.cell? ⟨q, 0, none⟩ = some (.int .i64 x.op) ∧ w'.cell? ⟨q, 1, none⟩ = some (.int .i64 x.dst) ∧ w'.cell? ⟨q, 2, none⟩ = some (.int .i64 x.a) ∧ w'.cell? ⟨q, 3, none⟩ = some (.int .i64 x.b) ∧ w'.cell? ⟨q, 4, none⟩ = some (.int .i64 x.n) ∧ w'.cell? ⟨q, 5, none⟩ = some (.slice a x.args.length cp)) (go_keep) (first
    | (go_at_call 35; refine (H_part.out _ (by first | assumption | exact Keeps.drew _ _ | exact Keeps.refl _ _ | exact Keeps.quiet (by assumption) (Keeps.drew _ _))).mono ?_; rintro e w1 ⟨rfl, K1, d0, d1, d2, d3, d4, d5⟩)
    | (go_at_call 46; refine (H_list.out _ (by first | assumption | exact Keeps.drew _ _ | exact Keeps.refl _ _ | exact Keeps.quiet (by assumption) (Keeps.drew _ _))).mono ?_; rintro e w1 ⟨rfl, K1, d0, d1, d2, d3, d4, d5⟩))
  go_wp2_with fail
  go_ret
  exact ⟨rfl, K0.out.quiet (by assumption)⟩
set_option maxHeartbeats 8000000 in
theorem right_no (x : In8) (a : Option Addr) (cp : Nat) (w : World) (hop : x.op ≠ 1 ∧ x.op ≠ 2 ∧ x.op ≠ 3 ∧ x.op ≠ 4 ∧ x.op ≠ 5 ∧ x.op ≠ 6 ∧ x.op ≠ 7 ∧ x.op ≠ 10 ∧ x.op ≠ 11 ∧ x.op ≠ 12 ∧ x.op ≠ 13 ∧ x.op ≠ 14) : Calls Tryd.prog 34 #[insV x (.slice a x.args.length cp)] w fun e w' => e = .returned (.string ⟨#[63]⟩) ∧ Keeps [] w w' := by
  have o1 := neb (show x.op ≠ 1 by omega)
  have o2 := neb (show x.op ≠ 2 by omega)
  have o3 := neb (show x.op ≠ 3 by omega)
  have o4 := neb (show x.op ≠ 4 by omega)
  have o5 := neb (show x.op ≠ 5 by omega)
  have o6 := neb (show x.op ≠ 6 by omega)
  have o7 := neb (show x.op ≠ 7 by omega)
  have o10 := neb (show x.op ≠ 10 by omega)
  have o11 := neb (show x.op ≠ 11 by omega)
  have o12 := neb (show x.op ≠ 12 by omega)
  have o13 := neb (show x.op ≠ 13 by omega)
  have o14 := neb (show x.op ≠ 14 by omega)
  clear hop
  unfold insV
  go_enter Tryd.func34, Tryd.ntmps34
  go_wp2
  go_ret
  exact ⟨rfl, Keeps.alloc _ _ _⟩
theorem right_any (x : In8) (a : Option Addr) (cp : Nat) (hx : InOk x) (w : World) (hg : Glob w) (ha : ArW w a x) : Calls Tryd.prog 34 #[insV x (.slice a x.args.length cp)] w fun e w' => e = .returned (.string (rightB x)) ∧ Keeps [] w w' := by
  unfold rightB
  by_cases o1 : x.op = 1
  · rw [if_pos o1]; exact right_1 x a cp hx w hg o1
  rw [if_neg o1]
  by_cases o2 : x.op = 2
  · rw [if_pos o2]; exact right_2 x a cp hx w hg o2
  rw [if_neg o2]
  by_cases o3 : x.op = 3
  · rw [if_pos o3]; exact right_3 x a cp w o3
  rw [if_neg o3]
  by_cases o4 : x.op = 4
  · rw [if_pos o4]; exact right_4 x a cp w o4
  rw [if_neg o4]
  by_cases o5 : x.op = 5
  · rw [if_pos o5]; exact right_5 x a cp w o5
  rw [if_neg o5]
  by_cases o6 : x.op = 6
  · rw [if_pos o6]; exact right_6 x a cp hx w hg o6
  rw [if_neg o6]
  by_cases o7 : x.op = 7
  · rw [if_pos o7]; exact right_7 x a cp hx w hg o7
  rw [if_neg o7]
  by_cases o10 : x.op = 10
  · rw [if_pos o10]; exact right_10 x a cp hx w hg o10
  rw [if_neg o10]
  by_cases o11 : x.op = 11
  · rw [if_pos o11]; exact right_11 x a cp hx w hg o11
  rw [if_neg o11]
  by_cases o12 : x.op = 12
  · rw [if_pos o12]; exact right_12 x a cp hx w hg ha o12
  rw [if_neg o12]
  by_cases o13 : x.op = 13
  · rw [if_pos o13]; exact right_13 x a cp hx w hg ha o13
  rw [if_neg o13]
  by_cases o14 : x.op = 14
  · rw [if_pos o14]; exact right_14 x a cp hx w hg ha o14
  rw [if_neg o14]
  exact right_no x a cp w ⟨o1, o2, o3, o4, o5, o6, o7, o10, o11, o12, o13, o14⟩
end Go.Proofs.YtknkjblifgppjaaDoor
