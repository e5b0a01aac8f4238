/-
  The document's own line of an instruction.
-/
import Derived.Test.YtmipbaihlodmdaaDoorJTxt
import Derived.Deep.DeepCutAuto
import Derived.Test.YtmipbaihlodmdaaDoorJDecAny
namespace Go.Proofs.YtmipbaihlodmdaaDoor
open Go.RowKit

set_option maxHeartbeats 2000000 in
theorem rr_any (r : Int) (h : wf64 r) (w : World) : Calls Tryd.prog 30 #[.int .i64 r] w fun e w' => e = .returned (.string (regB r)) ∧ Keeps [] w w' := by
  have hi := hid (dec_any r h w)
  have hz := decB_size r h
  unfold regB
  generalize decB r = D at *
  have ha := fun w => add_str ⟨#[114]⟩ D (by decide) (by omega) w
  have b3 : D.size + 1 ≤ 9223372036854775807 := by omega
  clear h
  go_enter Tryd.func30, Tryd.ntmps30
  go_wp2_with (go_at_call 28; refine hi.out.mono ?_; rintro e w' ⟨rfl, hk⟩; have HK := hid hk; clear hk)
  go_ret
  exact ⟨rfl, HK.out⟩

/-- The arguments so far. -/
def argP (l : List Int) : ByteArray := ⟨#[40]⟩ ++ ⟨(argsL l).toArray⟩
theorem argsL_nil : argsL [] = [] := rfl
theorem argsL_one (z : Int) : argsL [z] = (regB z).data.toList := by
  unfold argsL
  rw [List.map_cons, List.map_nil, Lib.join_one]
theorem joinTail_snoc (sep : List UInt8) (r : List (List UInt8)) (x : List UInt8) : Lib.joinTail sep (r ++ [x]) = Lib.joinTail sep r ++ (sep ++ x) := by
  unfold Lib.joinTail
  rw [List.map_append, List.flatten_append]
  simp
theorem argsL_snoc (y : Int) (l : List Int) (z : Int) : argsL (y :: l ++ [z]) = argsL (y :: l) ++ ([44, 32] ++ (regB z).data.toList) := by
  unfold argsL
  rw [List.cons_append, List.map_cons, List.map_cons, Lib.join_cons, Lib.join_cons, List.map_append, List.map_cons, List.map_nil, joinTail_snoc, List.append_assoc]
theorem ba_list (x : ByteArray) (l : List UInt8) : x ++ ⟨l.toArray⟩ = ⟨(x.data.toList ++ l).toArray⟩ := by
  apply ByteArray.ext
  simp
theorem argP_first (z : Int) : argP [z] = argP [] ++ regB z := by
  unfold argP
  rw [argsL_one, argsL_nil]
  apply ByteArray.ext
  simp
theorem argP_next (y : Int) (l : List Int) (z : Int) : argP (y :: l ++ [z]) = argP (y :: l) ++ ⟨#[44, 32]⟩ ++ regB z := by
  unfold argP
  rw [argsL_snoc]
  apply ByteArray.ext
  simp
theorem listB_eq (l : List Int) : listB l = argP l ++ ⟨#[41]⟩ := rfl
theorem argP_size (l : List Int) (h : ∀ z, z ∈ l → wf64 z) : (argP l).size ≤ 23 * l.length + 1 := by
  have := argsL_len l h
  unfold argP
  rw [ByteArray.size_append]
  show 1 + (argsL l).toArray.size ≤ _
  rw [List.size_toArray]
  omega

set_option maxHeartbeats 4000000 in
theorem rargs_any (a : Option Addr) (cp : Nat) (l : List Int) (w : World) (hz : IntsAt w a l) (ho : ∀ z, z ∈ l → wf64 z) (hm : l.length ≤ 1048576) :
    Calls Tryd.prog 57 #[.slice a l.length cp] w fun e w' => e = .returned (.string (listB l)) ∧ Keeps [] w w' := by
  obtain ⟨n, hn⟩ : ∃ n, n = l.length := ⟨_, rfl⟩
  rw [← hn]
  have hmn : n ≤ 1048576 := by omega
  have HZ := hid hz
  have HO := hid ho
  have HN := hid hn
  clear hz ho hm hn
  have h0 : argP (l.take 0) = ⟨#[40]⟩ := rfl
  go_enter Tryd.func57, Tryd.ntmps57
  go_wp2_with fail
  go_loopw [3, 4] (fun s i wr => ∃ k : Nat, k ≤ n ∧ i = .int .i64 (k : Int) ∧ s = .string (argP (l.take k)) ∧ Box (Keeps [] w wr)) (fun _ i _ => n - (intOf i).toNat)
  case atStart => exact ⟨0, by omega, rfl, by rw [h0], hid (Keeps.refl _ _)⟩
  case round =>
    obtain ⟨k, hk, rfl, rfl, HK⟩ := hrel
    clear h0
    have hsz := argP_size (l.take k) (fun z hz => HO.out z (List.mem_of_mem_take hz))
    have htl : (l.take k).length = k := by rw [List.length_take]; have := HN.out; omega
    rw [htl] at hsz
    by_cases hlt : k < n
    · have hlt' : (k : Int) < (n : Int) := by omega
      have hkl : k < l.length := by rw [← HN.out]; exact hlt
      obtain ⟨b, off, rfl, hc⟩ : ∃ b off, a = some ⟨b, off, none⟩ ∧ wr.cell? ⟨b, off + k, none⟩ = some (.int .i64 (l.getD k 0)) := by
        rcases HZ.out with h | ⟨b, off, h1, h2⟩
        · exfalso; rw [h] at hkl; simp at hkl
        · exact ⟨b, off, h1, cell_stays HK.out (h2 k hkl)⟩
      have hok : wf64 (l.getD k 0) := HO.out _ (by rw [List.getD_eq_getElem?_getD, List.getElem?_eq_getElem hkl]; exact List.getElem_mem _)
      have hcall := hid (rr_any (l.getD k 0) hok wr)
      have hrs := regB_size (l.getD k 0) hok
      have htk : l.take (k + 1) = l.take k ++ [l.getD k 0] := by
        rw [List.take_succ_eq_append_getElem hkl, List.getD_eq_getElem?_getD, List.getElem?_eq_getElem hkl]
        rfl
      by_cases hk0 : k = 0
      · subst hk0
        have hE : Box (argP (l.take (0 + 1)) = argP (l.take 0) ++ regB (l.getD 0 0)) := hid (by rw [htk, List.take_zero, List.nil_append]; exact argP_first _)
        clear hok htk htl
        rw [Nat.add_zero] at hc
        generalize l.getD 0 0 = z at *
        generalize argP (l.take 0) = S at *
        generalize regB z = R at *
        have b1 : ¬ 9223372036854775807 < S.size + R.size := by omega
        go_wp2_with (go_at_call 30; refine hcall.out.mono ?_; rintro e w1 ⟨rfl, hk1⟩; have HK1 := hid (HK.out.quiet hk1); clear hk1)
        go_roundw
        case rel => exact ⟨1, by omega, rfl, by rw [show (1 : Nat) = 0 + 1 from rfl, hE.out], HK1⟩
        case measure => simp [intOf]; omega
      · have hk1 : ¬ (k : Int) ≤ 0 := by omega
        have hk2 : (0 : Int) < (k : Int) := by omega
        have hE : Box (argP (l.take (k + 1)) = argP (l.take k) ++ ⟨#[44, 32]⟩ ++ regB (l.getD k 0)) := hid (by
          rw [htk]
          cases htt : l.take k with
          | nil => rw [htt] at htl; simp at htl; omega
          | cons y r => exact argP_next y r _)
        clear hok htk htl
        generalize l.getD k 0 = z at *
        generalize argP (l.take k) = S at *
        generalize regB z = R at *
        have b1 : ¬ 9223372036854775807 < S.size + 2 := by omega
        have b2 : ¬ 9223372036854775807 < S.size + 2 + R.size := by omega
        go_wp2_with (go_at_call 30; refine hcall.out.mono ?_; rintro e w1 ⟨rfl, hk1⟩; have HK1 := hid (HK.out.quiet hk1); clear hk1)
        go_roundw
        case rel => exact ⟨k + 1, by omega, by go_num, by rw [hE.out], HK1⟩
        case measure => simp [intOf]; omega
    · obtain rfl : k = n := by omega
      have hE : Box (listB l = argP (l.take k) ++ ⟨#[41]⟩) := hid (by rw [listB_eq, HN.out, List.take_length])
      clear htl
      generalize argP (l.take k) = S at *
      have b1 : ¬ 9223372036854775807 < S.size + 1 := by omega
      go_wp2_with fail
      go_ret
      exact ⟨by rw [hE.out]; rfl, HK.out⟩
set_option maxRecDepth 20000 in
set_option maxHeartbeats 8000000 in
theorem rline_1 (x : In8) (a : Option Addr) (cp : Nat) (hx : InOk x) (w : World) (hop : x.op = 1) : Calls Tryd.prog 29 #[insV x (.slice a x.args.length cp)] w fun e w' => e = .returned (.string (regB x.dst ++ ⟨#[32, 61, 32]⟩ ++ ⟨#[99, 111, 110, 115, 116, 32]⟩ ++ decB x.n)) ∧ Keeps [] w w' := by
  have o1 := eqb hop
  clear hop
  obtain ⟨W, hW⟩ : ∃ W, W = w.alloc (.cells #[.int .i64 x.op, .int .i64 x.dst, .int .i64 x.a, .int .i64 x.b, .int .i64 x.n, .slice a x.args.length cp] 86) := ⟨_, rfl⟩
  have k0 : Keeps [] w W := by rw [hW]; exact Keeps.alloc _ _ _
  have i0 : InW W w.heap.size x (.slice a x.args.length cp) := by rw [hW]; exact InW.new _ _ _ _
  have K0 := hid k0
  have H_rd := hid fun (w' : World) (k : Keeps [] W w') => arm8 i0 k (rr_any x.dst hx.dst w')
  have z_rd := regB_size x.dst hx.dst
  have H_n := hid fun (w' : World) (k : Keeps [] W w') => arm8 i0 k (dec_any x.n hx.n w')
  have z_n := decB_size x.n hx.n
  obtain ⟨c0, c1, c2, c3, c4, c5⟩ := i0
  unfold insV
  generalize regB x.dst = R at *
  generalize decB x.n = D at *
  have y0 : ¬ 9223372036854775807 < R.size + 3 := by omega
  have ye : (R ++ ⟨#[32, 61, 32]⟩ : ByteArray).size = R.size + 3 := by rw [ByteArray.size_append]; rfl
  generalize hD0 : R ++ ⟨#[32, 61, 32]⟩ = D0 at *
  have b1 : ¬ 9223372036854775807 < R.size + 3 + 6 := by omega
  have b2 : ¬ 9223372036854775807 < R.size + 3 + 6 + D.size := by omega
  have HW := hid hW
  clear k0 hx hW
  go_enter Tryd.func29, Tryd.ntmps29
  go_wp2_with fail
  rw [← HW.out]
  clear HW
  generalize w.heap.size = q at *
  refine (H_rd.out _ (Keeps.refl _ _)).mono ?_
  rintro e w0 ⟨rfl, K9, g0, g1, g2, g3, g4, g5⟩
  clear c0 c1 c2 c3 c4 c5 H_rd
  go_wp2_with (first
    | (go_at_call 28; refine (H_n.out _ (by first | assumption | exact Keeps.drew _ _ | exact Keeps.refl _ _ | exact Keeps.quiet (by assumption) (Keeps.drew _ _))).mono ?_; rintro e w1 ⟨rfl, K1, d0, d1, d2, d3, d4, d5⟩))
  go_ret
  exact ⟨rfl, K0.out.quiet (by assumption)⟩
set_option maxRecDepth 20000 in
set_option maxHeartbeats 8000000 in
theorem rline_2 (x : In8) (a : Option Addr) (cp : Nat) (hx : InOk x) (w : World) (hop : x.op = 2) : Calls Tryd.prog 29 #[insV x (.slice a x.args.length cp)] w fun e w' => e = .returned (.string (regB x.dst ++ ⟨#[32, 61, 32]⟩ ++ ⟨#[97, 100, 100, 32]⟩ ++ regB x.a ++ ⟨#[32]⟩ ++ regB x.b)) ∧ Keeps [] w w' := by
  have o1 := neb (show x.op ≠ 1 by omega)
  have o2 := eqb hop
  clear hop
  obtain ⟨W, hW⟩ : ∃ W, W = w.alloc (.cells #[.int .i64 x.op, .int .i64 x.dst, .int .i64 x.a, .int .i64 x.b, .int .i64 x.n, .slice a x.args.length cp] 86) := ⟨_, rfl⟩
  have k0 : Keeps [] w W := by rw [hW]; exact Keeps.alloc _ _ _
  have i0 : InW W w.heap.size x (.slice a x.args.length cp) := by rw [hW]; exact InW.new _ _ _ _
  have K0 := hid k0
  have H_rd := hid fun (w' : World) (k : Keeps [] W w') => arm8 i0 k (rr_any x.dst hx.dst w')
  have z_rd := regB_size x.dst hx.dst
  have H_ra := hid fun (w' : World) (k : Keeps [] W w') => arm8 i0 k (rr_any x.a hx.a w')
  have z_ra := regB_size x.a hx.a
  have H_rb := hid fun (w' : World) (k : Keeps [] W w') => arm8 i0 k (rr_any x.b hx.b w')
  have z_rb := regB_size x.b hx.b
  obtain ⟨c0, c1, c2, c3, c4, c5⟩ := i0
  unfold insV
  generalize regB x.dst = R at *
  generalize regB x.a = A at *
  generalize regB x.b = B at *
  have y0 : ¬ 9223372036854775807 < R.size + 3 := by omega
  have ye : (R ++ ⟨#[32, 61, 32]⟩ : ByteArray).size = R.size + 3 := by rw [ByteArray.size_append]; rfl
  generalize hD0 : R ++ ⟨#[32, 61, 32]⟩ = D0 at *
  have b1 : ¬ 9223372036854775807 < R.size + 3 + 4 := by omega
  have b2 : ¬ 9223372036854775807 < R.size + 3 + 4 + A.size := by omega
  have b3 : ¬ 9223372036854775807 < R.size + 3 + 4 + A.size + 1 := by omega
  have b4 : ¬ 9223372036854775807 < R.size + 3 + 4 + A.size + 1 + B.size := by omega
  have HW := hid hW
  clear k0 hx hW
  go_enter Tryd.func29, Tryd.ntmps29
  go_wp2_with fail
  rw [← HW.out]
  clear HW
  generalize w.heap.size = q at *
  refine (H_rd.out _ (Keeps.refl _ _)).mono ?_
  rintro e w0 ⟨rfl, K9, g0, g1, g2, g3, g4, g5⟩
  clear c0 c1 c2 c3 c4 c5 H_rd
  go_wp2_with fail
  go_region_held3 (fun w' => w'.cell? ⟨q, 0, none⟩ = some (.int .i64 x.op) ∧ w'.cell? ⟨q, 1, none⟩ = some (.int .i64 x.dst) ∧ w'.cell? ⟨q, 2, none⟩ = some (.int .i64 x.a) ∧ w'.cell? ⟨q, 3, none⟩ = some (.int .i64 x.b) ∧ w'.cell? ⟨q, 4, none⟩ = some (.int .i64 x.n) ∧ w'.cell? ⟨q, 5, none⟩ = some (.slice a x.args.length cp)) (go_keep) (first
    | (go_at_call 30; refine (H_ra.out _ (by first | assumption | exact Keeps.drew _ _ | exact Keeps.refl _ _ | exact Keeps.quiet (by assumption) (Keeps.drew _ _))).mono ?_; rintro e w1 ⟨rfl, K1, d0, d1, d2, d3, d4, d5⟩)
    | (go_at_call 30; refine (H_rb.out _ (by first | assumption | exact Keeps.drew _ _ | exact Keeps.refl _ _ | exact Keeps.quiet (by assumption) (Keeps.drew _ _))).mono ?_; rintro e w1 ⟨rfl, K1, d0, d1, d2, d3, d4, d5⟩))
  go_wp2_with fail
  go_ret
  exact ⟨rfl, K0.out.quiet (by assumption)⟩
set_option maxRecDepth 20000 in
set_option maxHeartbeats 8000000 in
theorem rline_3 (x : In8) (a : Option Addr) (cp : Nat) (hx : InOk x) (w : World) (hop : x.op = 3) : Calls Tryd.prog 29 #[insV x (.slice a x.args.length cp)] w fun e w' => e = .returned (.string (regB x.dst ++ ⟨#[32, 61, 32]⟩ ++ ⟨#[115, 111, 117, 114, 99, 101]⟩)) ∧ Keeps [] w w' := by
  have o1 := neb (show x.op ≠ 1 by omega)
  have o2 := neb (show x.op ≠ 2 by omega)
  have o3 := eqb hop
  clear hop
  obtain ⟨W, hW⟩ : ∃ W, W = w.alloc (.cells #[.int .i64 x.op, .int .i64 x.dst, .int .i64 x.a, .int .i64 x.b, .int .i64 x.n, .slice a x.args.length cp] 86) := ⟨_, rfl⟩
  have k0 : Keeps [] w W := by rw [hW]; exact Keeps.alloc _ _ _
  have i0 : InW W w.heap.size x (.slice a x.args.length cp) := by rw [hW]; exact InW.new _ _ _ _
  have K0 := hid k0
  have H_rd := hid fun (w' : World) (k : Keeps [] W w') => arm8 i0 k (rr_any x.dst hx.dst w')
  have z_rd := regB_size x.dst hx.dst
  obtain ⟨c0, c1, c2, c3, c4, c5⟩ := i0
  unfold insV
  generalize regB x.dst = R at *
  have y0 : ¬ 9223372036854775807 < R.size + 3 := by omega
  have ye : (R ++ ⟨#[32, 61, 32]⟩ : ByteArray).size = R.size + 3 := by rw [ByteArray.size_append]; rfl
  generalize hD0 : R ++ ⟨#[32, 61, 32]⟩ = D0 at *
  have b1 : ¬ 9223372036854775807 < R.size + 3 + 6 := by omega
  have HW := hid hW
  clear k0 hx hW
  go_enter Tryd.func29, Tryd.ntmps29
  go_wp2_with fail
  rw [← HW.out]
  clear HW
  generalize w.heap.size = q at *
  refine (H_rd.out _ (Keeps.refl _ _)).mono ?_
  rintro e w0 ⟨rfl, K9, g0, g1, g2, g3, g4, g5⟩
  clear c0 c1 c2 c3 c4 c5 H_rd
  go_wp2_with fail
  go_ret
  exact ⟨rfl, K0.out.quiet (by assumption)⟩
set_option maxRecDepth 20000 in
set_option maxHeartbeats 8000000 in
theorem rline_4 (x : In8) (a : Option Addr) (cp : Nat) (hx : InOk x) (w : World) (hop : x.op = 4) : Calls Tryd.prog 29 #[insV x (.slice a x.args.length cp)] w fun e w' => e = .returned (.string (regB x.dst ++ ⟨#[32, 61, 32]⟩ ++ ⟨#[110, 105, 108]⟩)) ∧ Keeps [] w w' := by
  have o1 := neb (show x.op ≠ 1 by omega)
  have o2 := neb (show x.op ≠ 2 by omega)
  have o3 := neb (show x.op ≠ 3 by omega)
  have o4 := eqb hop
  clear hop
  obtain ⟨W, hW⟩ : ∃ W, W = w.alloc (.cells #[.int .i64 x.op, .int .i64 x.dst, .int .i64 x.a, .int .i64 x.b, .int .i64 x.n, .slice a x.args.length cp] 86) := ⟨_, rfl⟩
  have k0 : Keeps [] w W := by rw [hW]; exact Keeps.alloc _ _ _
  have i0 : InW W w.heap.size x (.slice a x.args.length cp) := by rw [hW]; exact InW.new _ _ _ _
  have K0 := hid k0
  have H_rd := hid fun (w' : World) (k : Keeps [] W w') => arm8 i0 k (rr_any x.dst hx.dst w')
  have z_rd := regB_size x.dst hx.dst
  obtain ⟨c0, c1, c2, c3, c4, c5⟩ := i0
  unfold insV
  generalize regB x.dst = R at *
  have y0 : ¬ 9223372036854775807 < R.size + 3 := by omega
  have ye : (R ++ ⟨#[32, 61, 32]⟩ : ByteArray).size = R.size + 3 := by rw [ByteArray.size_append]; rfl
  generalize hD0 : R ++ ⟨#[32, 61, 32]⟩ = D0 at *
  have b1 : ¬ 9223372036854775807 < R.size + 3 + 3 := by omega
  have HW := hid hW
  clear k0 hx hW
  go_enter Tryd.func29, Tryd.ntmps29
  go_wp2_with fail
  rw [← HW.out]
  clear HW
  generalize w.heap.size = q at *
  refine (H_rd.out _ (Keeps.refl _ _)).mono ?_
  rintro e w0 ⟨rfl, K9, g0, g1, g2, g3, g4, g5⟩
  clear c0 c1 c2 c3 c4 c5 H_rd
  go_wp2_with fail
  go_ret
  exact ⟨rfl, K0.out.quiet (by assumption)⟩
set_option maxRecDepth 20000 in
set_option maxHeartbeats 8000000 in
theorem rline_5 (x : In8) (a : Option Addr) (cp : Nat) (hx : InOk x) (w : World) (hop : x.op = 5) : Calls Tryd.prog 29 #[insV x (.slice a x.args.length cp)] w fun e w' => e = .returned (.string (regB x.dst ++ ⟨#[32, 61, 32]⟩ ++ ⟨#[110, 101, 119]⟩)) ∧ Keeps [] w w' := by
  have o1 := neb (show x.op ≠ 1 by omega)
  have o2 := neb (show x.op ≠ 2 by omega)
  have o3 := neb (show x.op ≠ 3 by omega)
  have o4 := neb (show x.op ≠ 4 by omega)
  have o5 := eqb hop
  clear hop
  obtain ⟨W, hW⟩ : ∃ W, W = w.alloc (.cells #[.int .i64 x.op, .int .i64 x.dst, .int .i64 x.a, .int .i64 x.b, .int .i64 x.n, .slice a x.args.length cp] 86) := ⟨_, rfl⟩
  have k0 : Keeps [] w W := by rw [hW]; exact Keeps.alloc _ _ _
  have i0 : InW W w.heap.size x (.slice a x.args.length cp) := by rw [hW]; exact InW.new _ _ _ _
  have K0 := hid k0
  have H_rd := hid fun (w' : World) (k : Keeps [] W w') => arm8 i0 k (rr_any x.dst hx.dst w')
  have z_rd := regB_size x.dst hx.dst
  obtain ⟨c0, c1, c2, c3, c4, c5⟩ := i0
  unfold insV
  generalize regB x.dst = R at *
  have y0 : ¬ 9223372036854775807 < R.size + 3 := by omega
  have ye : (R ++ ⟨#[32, 61, 32]⟩ : ByteArray).size = R.size + 3 := by rw [ByteArray.size_append]; rfl
  generalize hD0 : R ++ ⟨#[32, 61, 32]⟩ = D0 at *
  have b1 : ¬ 9223372036854775807 < R.size + 3 + 3 := by omega
  have HW := hid hW
  clear k0 hx hW
  go_enter Tryd.func29, Tryd.ntmps29
  go_wp2_with fail
  rw [← HW.out]
  clear HW
  generalize w.heap.size = q at *
  refine (H_rd.out _ (Keeps.refl _ _)).mono ?_
  rintro e w0 ⟨rfl, K9, g0, g1, g2, g3, g4, g5⟩
  clear c0 c1 c2 c3 c4 c5 H_rd
  go_wp2_with fail
  go_ret
  exact ⟨rfl, K0.out.quiet (by assumption)⟩
set_option maxRecDepth 20000 in
set_option maxHeartbeats 8000000 in
theorem rline_6 (x : In8) (a : Option Addr) (cp : Nat) (hx : InOk x) (w : World) (hop : x.op = 6) : Calls Tryd.prog 29 #[insV x (.slice a x.args.length cp)] w fun e w' => e = .returned (.string (regB x.dst ++ ⟨#[32, 61, 32]⟩ ++ regB x.a)) ∧ Keeps [] w w' := by
  have o1 := neb (show x.op ≠ 1 by omega)
  have o2 := neb (show x.op ≠ 2 by omega)
  have o3 := neb (show x.op ≠ 3 by omega)
  have o4 := neb (show x.op ≠ 4 by omega)
  have o5 := neb (show x.op ≠ 5 by omega)
  have o6 := eqb hop
  clear hop
  obtain ⟨W, hW⟩ : ∃ W, W = w.alloc (.cells #[.int .i64 x.op, .int .i64 x.dst, .int .i64 x.a, .int .i64 x.b, .int .i64 x.n, .slice a x.args.length cp] 86) := ⟨_, rfl⟩
  have k0 : Keeps [] w W := by rw [hW]; exact Keeps.alloc _ _ _
  have i0 : InW W w.heap.size x (.slice a x.args.length cp) := by rw [hW]; exact InW.new _ _ _ _
  have K0 := hid k0
  have H_rd := hid fun (w' : World) (k : Keeps [] W w') => arm8 i0 k (rr_any x.dst hx.dst w')
  have z_rd := regB_size x.dst hx.dst
  have H_ra := hid fun (w' : World) (k : Keeps [] W w') => arm8 i0 k (rr_any x.a hx.a w')
  have z_ra := regB_size x.a hx.a
  obtain ⟨c0, c1, c2, c3, c4, c5⟩ := i0
  unfold insV
  generalize regB x.dst = R at *
  generalize regB x.a = A at *
  have y0 : ¬ 9223372036854775807 < R.size + 3 := by omega
  have ye : (R ++ ⟨#[32, 61, 32]⟩ : ByteArray).size = R.size + 3 := by rw [ByteArray.size_append]; rfl
  generalize hD0 : R ++ ⟨#[32, 61, 32]⟩ = D0 at *
  have b1 : ¬ 9223372036854775807 < R.size + 3 + A.size := by omega
  have HW := hid hW
  clear k0 hx hW
  go_enter Tryd.func29, Tryd.ntmps29
  go_wp2_with fail
  rw [← HW.out]
  clear HW
  generalize w.heap.size = q at *
  refine (H_rd.out _ (Keeps.refl _ _)).mono ?_
  rintro e w0 ⟨rfl, K9, g0, g1, g2, g3, g4, g5⟩
  clear c0 c1 c2 c3 c4 c5 H_rd
  go_wp2_with (first
    | (go_at_call 30; refine (H_ra.out _ (by first | assumption | exact Keeps.drew _ _ | exact Keeps.refl _ _ | exact Keeps.quiet (by assumption) (Keeps.drew _ _))).mono ?_; rintro e w1 ⟨rfl, K1, d0, d1, d2, d3, d4, d5⟩))
  go_ret
  exact ⟨rfl, K0.out.quiet (by assumption)⟩
set_option maxRecDepth 20000 in
set_option maxHeartbeats 8000000 in
theorem rline_7 (x : In8) (a : Option Addr) (cp : Nat) (hx : InOk x) (w : World) (hop : x.op = 7) : Calls Tryd.prog 29 #[insV x (.slice a x.args.length cp)] w fun e w' => e = .returned (.string (regB x.dst ++ ⟨#[32, 61, 32]⟩ ++ regB x.a ++ ⟨#[46]⟩ ++ decB x.n)) ∧ Keeps [] w w' := by
  have o1 := neb (show x.op ≠ 1 by omega)
  have o2 := neb (show x.op ≠ 2 by omega)
  have o3 := neb (show x.op ≠ 3 by omega)
  have o4 := neb (show x.op ≠ 4 by omega)
  have o5 := neb (show x.op ≠ 5 by omega)
  have o6 := neb (show x.op ≠ 6 by omega)
  have o7 := eqb hop
  clear hop
  obtain ⟨W, hW⟩ : ∃ W, W = w.alloc (.cells #[.int .i64 x.op, .int .i64 x.dst, .int .i64 x.a, .int .i64 x.b, .int .i64 x.n, .slice a x.args.length cp] 86) := ⟨_, rfl⟩
  have k0 : Keeps [] w W := by rw [hW]; exact Keeps.alloc _ _ _
  have i0 : InW W w.heap.size x (.slice a x.args.length cp) := by rw [hW]; exact InW.new _ _ _ _
  have K0 := hid k0
  have H_rd := hid fun (w' : World) (k : Keeps [] W w') => arm8 i0 k (rr_any x.dst hx.dst w')
  have z_rd := regB_size x.dst hx.dst
  have H_ra := hid fun (w' : World) (k : Keeps [] W w') => arm8 i0 k (rr_any x.a hx.a w')
  have z_ra := regB_size x.a hx.a
  have H_n := hid fun (w' : World) (k : Keeps [] W w') => arm8 i0 k (dec_any x.n hx.n w')
  have z_n := decB_size x.n hx.n
  obtain ⟨c0, c1, c2, c3, c4, c5⟩ := i0
  unfold insV
  generalize regB x.dst = R at *
  generalize regB x.a = A at *
  generalize decB x.n = D at *
  have y0 : ¬ 9223372036854775807 < R.size + 3 := by omega
  have ye : (R ++ ⟨#[32, 61, 32]⟩ : ByteArray).size = R.size + 3 := by rw [ByteArray.size_append]; rfl
  generalize hD0 : R ++ ⟨#[32, 61, 32]⟩ = D0 at *
  have b1 : ¬ 9223372036854775807 < R.size + 3 + A.size := by omega
  have b2 : ¬ 9223372036854775807 < R.size + 3 + A.size + 1 := by omega
  have b3 : ¬ 9223372036854775807 < R.size + 3 + A.size + 1 + D.size := by omega
  have HW := hid hW
  clear k0 hx hW
  go_enter Tryd.func29, Tryd.ntmps29
  go_wp2_with fail
  rw [← HW.out]
  clear HW
  generalize w.heap.size = q at *
  refine (H_rd.out _ (Keeps.refl _ _)).mono ?_
  rintro e w0 ⟨rfl, K9, g0, g1, g2, g3, g4, g5⟩
  clear c0 c1 c2 c3 c4 c5 H_rd
  go_wp2_with fail
  go_region_held3 (fun w' => w'.cell? ⟨q, 0, none⟩ = some (.int .i64 x.op) ∧ w'.cell? ⟨q, 1, none⟩ = some (.int .i64 x.dst) ∧ w'.cell? ⟨q, 2, none⟩ = some (.int .i64 x.a) ∧ w'.cell? ⟨q, 3, none⟩ = some (.int .i64 x.b) ∧ w'.cell? ⟨q, 4, none⟩ = some (.int .i64 x.n) ∧ w'.cell? ⟨q, 5, none⟩ = some (.slice a x.args.length cp)) (go_keep) (first
    | (go_at_call 30; refine (H_ra.out _ (by first | assumption | exact Keeps.drew _ _ | exact Keeps.refl _ _ | exact Keeps.quiet (by assumption) (Keeps.drew _ _))).mono ?_; rintro e w1 ⟨rfl, K1, d0, d1, d2, d3, d4, d5⟩)
    | (go_at_call 28; refine (H_n.out _ (by first | assumption | exact Keeps.drew _ _ | exact Keeps.refl _ _ | exact Keeps.quiet (by assumption) (Keeps.drew _ _))).mono ?_; rintro e w1 ⟨rfl, K1, d0, d1, d2, d3, d4, d5⟩))
  go_wp2_with fail
  go_ret
  exact ⟨rfl, K0.out.quiet (by assumption)⟩
set_option maxRecDepth 20000 in
set_option maxHeartbeats 8000000 in
theorem rline_8 (x : In8) (a : Option Addr) (cp : Nat) (hx : InOk x) (w : World) (hop : x.op = 8) : Calls Tryd.prog 29 #[insV x (.slice a x.args.length cp)] w fun e w' => e = .returned (.string (regB x.a ++ ⟨#[46]⟩ ++ decB x.n ++ ⟨#[32, 61, 32]⟩ ++ regB x.b)) ∧ Keeps [] w w' := by
  have o1 := neb (show x.op ≠ 1 by omega)
  have o2 := neb (show x.op ≠ 2 by omega)
  have o3 := neb (show x.op ≠ 3 by omega)
  have o4 := neb (show x.op ≠ 4 by omega)
  have o5 := neb (show x.op ≠ 5 by omega)
  have o6 := neb (show x.op ≠ 6 by omega)
  have o7 := neb (show x.op ≠ 7 by omega)
  have o8 := eqb hop
  clear hop
  obtain ⟨W, hW⟩ : ∃ W, W = w.alloc (.cells #[.int .i64 x.op, .int .i64 x.dst, .int .i64 x.a, .int .i64 x.b, .int .i64 x.n, .slice a x.args.length cp] 86) := ⟨_, rfl⟩
  have k0 : Keeps [] w W := by rw [hW]; exact Keeps.alloc _ _ _
  have i0 : InW W w.heap.size x (.slice a x.args.length cp) := by rw [hW]; exact InW.new _ _ _ _
  have K0 := hid k0
  have H_rd := hid fun (w' : World) (k : Keeps [] W w') => arm8 i0 k (rr_any x.dst hx.dst w')
  have z_rd := regB_size x.dst hx.dst
  have H_ra := hid fun (w' : World) (k : Keeps [] W w') => arm8 i0 k (rr_any x.a hx.a w')
  have z_ra := regB_size x.a hx.a
  have H_n := hid fun (w' : World) (k : Keeps [] W w') => arm8 i0 k (dec_any x.n hx.n w')
  have z_n := decB_size x.n hx.n
  have H_rb := hid fun (w' : World) (k : Keeps [] W w') => arm8 i0 k (rr_any x.b hx.b w')
  have z_rb := regB_size x.b hx.b
  obtain ⟨c0, c1, c2, c3, c4, c5⟩ := i0
  unfold insV
  generalize regB x.dst = R at *
  generalize regB x.a = A at *
  generalize decB x.n = D at *
  generalize regB x.b = B at *
  have y0 : ¬ 9223372036854775807 < R.size + 3 := by omega
  have ye : (R ++ ⟨#[32, 61, 32]⟩ : ByteArray).size = R.size + 3 := by rw [ByteArray.size_append]; rfl
  generalize hD0 : R ++ ⟨#[32, 61, 32]⟩ = D0 at *
  have b1 : ¬ 9223372036854775807 < A.size + 1 := by omega
  have b2 : ¬ 9223372036854775807 < A.size + 1 + D.size := by omega
  have b3 : ¬ 9223372036854775807 < A.size + 1 + D.size + 3 := by omega
  have b4 : ¬ 9223372036854775807 < A.size + 1 + D.size + 3 + B.size := by omega
  have HW := hid hW
  clear k0 hx hW
  go_enter Tryd.func29, Tryd.ntmps29
  go_wp2_with fail
  rw [← HW.out]
  clear HW
  generalize w.heap.size = q at *
  refine (H_rd.out _ (Keeps.refl _ _)).mono ?_
  rintro e w0 ⟨rfl, K9, g0, g1, g2, g3, g4, g5⟩
  clear c0 c1 c2 c3 c4 c5 H_rd
  go_wp2_with fail
  go_region_held3 (fun w' => w'.cell? ⟨q, 0, none⟩ = some (.int .i64 x.op) ∧ w'.cell? ⟨q, 1, none⟩ = some (.int .i64 x.dst) ∧ w'.cell? ⟨q, 2, none⟩ = some (.int .i64 x.a) ∧ w'.cell? ⟨q, 3, none⟩ = some (.int .i64 x.b) ∧ w'.cell? ⟨q, 4, none⟩ = some (.int .i64 x.n) ∧ w'.cell? ⟨q, 5, none⟩ = some (.slice a x.args.length cp)) (go_keep) (first
    | (go_at_call 30; refine (H_ra.out _ (by first | assumption | exact Keeps.drew _ _ | exact Keeps.refl _ _ | exact Keeps.quiet (by assumption) (Keeps.drew _ _))).mono ?_; rintro e w1 ⟨rfl, K1, d0, d1, d2, d3, d4, d5⟩)
    | (go_at_call 28; refine (H_n.out _ (by first | assumption | exact Keeps.drew _ _ | exact Keeps.refl _ _ | exact Keeps.quiet (by assumption) (Keeps.drew _ _))).mono ?_; rintro e w1 ⟨rfl, K1, d0, d1, d2, d3, d4, d5⟩)
    | (go_at_call 30; refine (H_rb.out _ (by first | assumption | exact Keeps.drew _ _ | exact Keeps.refl _ _ | exact Keeps.quiet (by assumption) (Keeps.drew _ _))).mono ?_; rintro e w1 ⟨rfl, K1, d0, d1, d2, d3, d4, d5⟩))
  go_wp2_with fail
  go_ret
  exact ⟨rfl, K0.out.quiet (by assumption)⟩
set_option maxRecDepth 20000 in
set_option maxHeartbeats 8000000 in
theorem rline_9 (x : In8) (a : Option Addr) (cp : Nat) (hx : InOk x) (w : World) (hop : x.op = 9) : Calls Tryd.prog 29 #[insV x (.slice a x.args.length cp)] w fun e w' => e = .returned (.string (⟨#[102, 114, 101, 101, 32]⟩ ++ regB x.a)) ∧ Keeps [] w w' := by
  have o1 := neb (show x.op ≠ 1 by omega)
  have o2 := neb (show x.op ≠ 2 by omega)
  have o3 := neb (show x.op ≠ 3 by omega)
  have o4 := neb (show x.op ≠ 4 by omega)
  have o5 := neb (show x.op ≠ 5 by omega)
  have o6 := neb (show x.op ≠ 6 by omega)
  have o7 := neb (show x.op ≠ 7 by omega)
  have o8 := neb (show x.op ≠ 8 by omega)
  have o9 := eqb hop
  clear hop
  obtain ⟨W, hW⟩ : ∃ W, W = w.alloc (.cells #[.int .i64 x.op, .int .i64 x.dst, .int .i64 x.a, .int .i64 x.b, .int .i64 x.n, .slice a x.args.length cp] 86) := ⟨_, rfl⟩
  have k0 : Keeps [] w W := by rw [hW]; exact Keeps.alloc _ _ _
  have i0 : InW W w.heap.size x (.slice a x.args.length cp) := by rw [hW]; exact InW.new _ _ _ _
  have K0 := hid k0
  have H_rd := hid fun (w' : World) (k : Keeps [] W w') => arm8 i0 k (rr_any x.dst hx.dst w')
  have z_rd := regB_size x.dst hx.dst
  have H_ra := hid fun (w' : World) (k : Keeps [] W w') => arm8 i0 k (rr_any x.a hx.a w')
  have z_ra := regB_size x.a hx.a
  obtain ⟨c0, c1, c2, c3, c4, c5⟩ := i0
  unfold insV
  generalize regB x.dst = R at *
  generalize regB x.a = A at *
  have y0 : ¬ 9223372036854775807 < R.size + 3 := by omega
  have ye : (R ++ ⟨#[32, 61, 32]⟩ : ByteArray).size = R.size + 3 := by rw [ByteArray.size_append]; rfl
  generalize hD0 : R ++ ⟨#[32, 61, 32]⟩ = D0 at *
  have b1 : ¬ 9223372036854775807 < 5 + A.size := by omega
  have HW := hid hW
  clear k0 hx hW
  go_enter Tryd.func29, Tryd.ntmps29
  go_wp2_with fail
  rw [← HW.out]
  clear HW
  generalize w.heap.size = q at *
  refine (H_rd.out _ (Keeps.refl _ _)).mono ?_
  rintro e w0 ⟨rfl, K9, g0, g1, g2, g3, g4, g5⟩
  clear c0 c1 c2 c3 c4 c5 H_rd
  go_wp2_with (first
    | (go_at_call 30; refine (H_ra.out _ (by first | assumption | exact Keeps.drew _ _ | exact Keeps.refl _ _ | exact Keeps.quiet (by assumption) (Keeps.drew _ _))).mono ?_; rintro e w1 ⟨rfl, K1, d0, d1, d2, d3, d4, d5⟩))
  go_ret
  exact ⟨rfl, K0.out.quiet (by assumption)⟩
set_option maxRecDepth 20000 in
set_option maxHeartbeats 8000000 in
theorem rline_10 (x : In8) (a : Option Addr) (cp : Nat) (hx : InOk x) (w : World) (hop : x.op = 10) : Calls Tryd.prog 29 #[insV x (.slice a x.args.length cp)] w fun e w' => e = .returned (.string (regB x.dst ++ ⟨#[32, 61, 32]⟩ ++ ⟨#[102, 117, 110, 99, 32]⟩ ++ decB x.n)) ∧ Keeps [] w w' := by
  have o1 := neb (show x.op ≠ 1 by omega)
  have o2 := neb (show x.op ≠ 2 by omega)
  have o3 := neb (show x.op ≠ 3 by omega)
  have o4 := neb (show x.op ≠ 4 by omega)
  have o5 := neb (show x.op ≠ 5 by omega)
  have o6 := neb (show x.op ≠ 6 by omega)
  have o7 := neb (show x.op ≠ 7 by omega)
  have o8 := neb (show x.op ≠ 8 by omega)
  have o9 := neb (show x.op ≠ 9 by omega)
  have o10 := eqb hop
  clear hop
  obtain ⟨W, hW⟩ : ∃ W, W = w.alloc (.cells #[.int .i64 x.op, .int .i64 x.dst, .int .i64 x.a, .int .i64 x.b, .int .i64 x.n, .slice a x.args.length cp] 86) := ⟨_, rfl⟩
  have k0 : Keeps [] w W := by rw [hW]; exact Keeps.alloc _ _ _
  have i0 : InW W w.heap.size x (.slice a x.args.length cp) := by rw [hW]; exact InW.new _ _ _ _
  have K0 := hid k0
  have H_rd := hid fun (w' : World) (k : Keeps [] W w') => arm8 i0 k (rr_any x.dst hx.dst w')
  have z_rd := regB_size x.dst hx.dst
  have H_n := hid fun (w' : World) (k : Keeps [] W w') => arm8 i0 k (dec_any x.n hx.n w')
  have z_n := decB_size x.n hx.n
  obtain ⟨c0, c1, c2, c3, c4, c5⟩ := i0
  unfold insV
  generalize regB x.dst = R at *
  generalize decB x.n = D at *
  have y0 : ¬ 9223372036854775807 < R.size + 3 := by omega
  have ye : (R ++ ⟨#[32, 61, 32]⟩ : ByteArray).size = R.size + 3 := by rw [ByteArray.size_append]; rfl
  generalize hD0 : R ++ ⟨#[32, 61, 32]⟩ = D0 at *
  have b1 : ¬ 9223372036854775807 < R.size + 3 + 5 := by omega
  have b2 : ¬ 9223372036854775807 < R.size + 3 + 5 + D.size := by omega
  have HW := hid hW
  clear k0 hx hW
  go_enter Tryd.func29, Tryd.ntmps29
  go_wp2_with fail
  rw [← HW.out]
  clear HW
  generalize w.heap.size = q at *
  refine (H_rd.out _ (Keeps.refl _ _)).mono ?_
  rintro e w0 ⟨rfl, K9, g0, g1, g2, g3, g4, g5⟩
  clear c0 c1 c2 c3 c4 c5 H_rd
  go_wp2_with (first
    | (go_at_call 28; refine (H_n.out _ (by first | assumption | exact Keeps.drew _ _ | exact Keeps.refl _ _ | exact Keeps.quiet (by assumption) (Keeps.drew _ _))).mono ?_; rintro e w1 ⟨rfl, K1, d0, d1, d2, d3, d4, d5⟩))
  go_ret
  exact ⟨rfl, K0.out.quiet (by assumption)⟩
set_option maxRecDepth 20000 in
set_option maxHeartbeats 8000000 in
theorem rline_11 (x : In8) (a : Option Addr) (cp : Nat) (hx : InOk x) (w : World) (hop : x.op = 11) : Calls Tryd.prog 29 #[insV x (.slice a x.args.length cp)] w fun e w' => e = .returned (.string (regB x.dst ++ ⟨#[32, 61, 32]⟩ ++ ⟨#[105, 102, 97, 99, 101, 32]⟩ ++ regB x.a)) ∧ Keeps [] w w' := by
  have o1 := neb (show x.op ≠ 1 by omega)
  have o2 := neb (show x.op ≠ 2 by omega)
  have o3 := neb (show x.op ≠ 3 by omega)
  have o4 := neb (show x.op ≠ 4 by omega)
  have o5 := neb (show x.op ≠ 5 by omega)
  have o6 := neb (show x.op ≠ 6 by omega)
  have o7 := neb (show x.op ≠ 7 by omega)
  have o8 := neb (show x.op ≠ 8 by omega)
  have o9 := neb (show x.op ≠ 9 by omega)
  have o10 := neb (show x.op ≠ 10 by omega)
  have o11 := eqb hop
  clear hop
  obtain ⟨W, hW⟩ : ∃ W, W = w.alloc (.cells #[.int .i64 x.op, .int .i64 x.dst, .int .i64 x.a, .int .i64 x.b, .int .i64 x.n, .slice a x.args.length cp] 86) := ⟨_, rfl⟩
  have k0 : Keeps [] w W := by rw [hW]; exact Keeps.alloc _ _ _
  have i0 : InW W w.heap.size x (.slice a x.args.length cp) := by rw [hW]; exact InW.new _ _ _ _
  have K0 := hid k0
  have H_rd := hid fun (w' : World) (k : Keeps [] W w') => arm8 i0 k (rr_any x.dst hx.dst w')
  have z_rd := regB_size x.dst hx.dst
  have H_ra := hid fun (w' : World) (k : Keeps [] W w') => arm8 i0 k (rr_any x.a hx.a w')
  have z_ra := regB_size x.a hx.a
  obtain ⟨c0, c1, c2, c3, c4, c5⟩ := i0
  unfold insV
  generalize regB x.dst = R at *
  generalize regB x.a = A at *
  have y0 : ¬ 9223372036854775807 < R.size + 3 := by omega
  have ye : (R ++ ⟨#[32, 61, 32]⟩ : ByteArray).size = R.size + 3 := by rw [ByteArray.size_append]; rfl
  generalize hD0 : R ++ ⟨#[32, 61, 32]⟩ = D0 at *
  have b1 : ¬ 9223372036854775807 < R.size + 3 + 6 := by omega
  have b2 : ¬ 9223372036854775807 < R.size + 3 + 6 + A.size := by omega
  have HW := hid hW
  clear k0 hx hW
  go_enter Tryd.func29, Tryd.ntmps29
  go_wp2_with fail
  rw [← HW.out]
  clear HW
  generalize w.heap.size = q at *
  refine (H_rd.out _ (Keeps.refl _ _)).mono ?_
  rintro e w0 ⟨rfl, K9, g0, g1, g2, g3, g4, g5⟩
  clear c0 c1 c2 c3 c4 c5 H_rd
  go_wp2_with (first
    | (go_at_call 30; refine (H_ra.out _ (by first | assumption | exact Keeps.drew _ _ | exact Keeps.refl _ _ | exact Keeps.quiet (by assumption) (Keeps.drew _ _))).mono ?_; rintro e w1 ⟨rfl, K1, d0, d1, d2, d3, d4, d5⟩))
  go_ret
  exact ⟨rfl, K0.out.quiet (by assumption)⟩
set_option maxRecDepth 20000 in
set_option maxHeartbeats 8000000 in
theorem rline_12 (x : In8) (a : Option Addr) (cp : Nat) (hx : InOk x) (w : World) (ha : ArW w a x) (hop : x.op = 12) : Calls Tryd.prog 29 #[insV x (.slice a x.args.length cp)] w fun e w' => e = .returned (.string (regB x.dst ++ ⟨#[32, 61, 32]⟩ ++ ⟨#[99, 97, 108, 108, 32]⟩ ++ decB x.n ++ listB x.args)) ∧ Keeps [] w w' := by
  have o1 := neb (show x.op ≠ 1 by omega)
  have o2 := neb (show x.op ≠ 2 by omega)
  have o3 := neb (show x.op ≠ 3 by omega)
  have o4 := neb (show x.op ≠ 4 by omega)
  have o5 := neb (show x.op ≠ 5 by omega)
  have o6 := neb (show x.op ≠ 6 by omega)
  have o7 := neb (show x.op ≠ 7 by omega)
  have o8 := neb (show x.op ≠ 8 by omega)
  have o9 := neb (show x.op ≠ 9 by omega)
  have o10 := neb (show x.op ≠ 10 by omega)
  have o11 := neb (show x.op ≠ 11 by omega)
  have o12 := eqb hop
  clear hop
  obtain ⟨W, hW⟩ : ∃ W, W = w.alloc (.cells #[.int .i64 x.op, .int .i64 x.dst, .int .i64 x.a, .int .i64 x.b, .int .i64 x.n, .slice a x.args.length cp] 86) := ⟨_, rfl⟩
  have k0 : Keeps [] w W := by rw [hW]; exact Keeps.alloc _ _ _
  have i0 : InW W w.heap.size x (.slice a x.args.length cp) := by rw [hW]; exact InW.new _ _ _ _
  have K0 := hid k0
  have H_rd := hid fun (w' : World) (k : Keeps [] W w') => arm8 i0 k (rr_any x.dst hx.dst w')
  have z_rd := regB_size x.dst hx.dst
  have H_n := hid fun (w' : World) (k : Keeps [] W w') => arm8 i0 k (dec_any x.n hx.n w')
  have z_n := decB_size x.n hx.n
  have H_list := hid fun (w' : World) (k : Keeps [] W w') => arm8 i0 k (rargs_any a cp x.args w' (ha.quiet (k0.quiet k)).ints hx.args ha.len)
  have z_list := Nat.le_trans (listB_size x.args hx.args) (show _ ≤ 24117250 by have := ha.len; omega)
  obtain ⟨c0, c1, c2, c3, c4, c5⟩ := i0
  unfold insV
  generalize regB x.dst = R at *
  generalize decB x.n = D at *
  generalize listB x.args = L at *
  have y0 : ¬ 9223372036854775807 < R.size + 3 := by omega
  have ye : (R ++ ⟨#[32, 61, 32]⟩ : ByteArray).size = R.size + 3 := by rw [ByteArray.size_append]; rfl
  generalize hD0 : R ++ ⟨#[32, 61, 32]⟩ = D0 at *
  have b1 : ¬ 9223372036854775807 < R.size + 3 + 5 := by omega
  have b2 : ¬ 9223372036854775807 < R.size + 3 + 5 + D.size := by omega
  have b3 : ¬ 9223372036854775807 < R.size + 3 + 5 + D.size + L.size := by omega
  have HW := hid hW
  clear k0 hx hW ha
  go_enter Tryd.func29, Tryd.ntmps29
  go_wp2_with fail
  rw [← HW.out]
  clear HW
  generalize w.heap.size = q at *
  refine (H_rd.out _ (Keeps.refl _ _)).mono ?_
  rintro e w0 ⟨rfl, K9, g0, g1, g2, g3, g4, g5⟩
  clear c0 c1 c2 c3 c4 c5 H_rd
  go_wp2_with fail
  go_region_held3 (fun w' => w'.cell? ⟨q, 0, none⟩ = some (.int .i64 x.op) ∧ w'.cell? ⟨q, 1, none⟩ = some (.int .i64 x.dst) ∧ w'.cell? ⟨q, 2, none⟩ = some (.int .i64 x.a) ∧ w'.cell? ⟨q, 3, none⟩ = some (.int .i64 x.b) ∧ w'.cell? ⟨q, 4, none⟩ = some (.int .i64 x.n) ∧ w'.cell? ⟨q, 5, none⟩ = some (.slice a x.args.length cp)) (go_keep) (first
    | (go_at_call 28; refine (H_n.out _ (by first | assumption | exact Keeps.drew _ _ | exact Keeps.refl _ _ | exact Keeps.quiet (by assumption) (Keeps.drew _ _))).mono ?_; rintro e w1 ⟨rfl, K1, d0, d1, d2, d3, d4, d5⟩)
    | (go_at_call 57; refine (H_list.out _ (by first | assumption | exact Keeps.drew _ _ | exact Keeps.refl _ _ | exact Keeps.quiet (by assumption) (Keeps.drew _ _))).mono ?_; rintro e w1 ⟨rfl, K1, d0, d1, d2, d3, d4, d5⟩))
  go_wp2_with fail
  go_ret
  exact ⟨rfl, K0.out.quiet (by assumption)⟩
set_option maxRecDepth 20000 in
set_option maxHeartbeats 8000000 in
theorem rline_13 (x : In8) (a : Option Addr) (cp : Nat) (hx : InOk x) (w : World) (ha : ArW w a x) (hop : x.op = 13) : Calls Tryd.prog 29 #[insV x (.slice a x.args.length cp)] w fun e w' => e = .returned (.string (regB x.dst ++ ⟨#[32, 61, 32]⟩ ++ ⟨#[99, 97, 108, 108, 32]⟩ ++ regB x.a ++ listB x.args)) ∧ Keeps [] w w' := by
  have o1 := neb (show x.op ≠ 1 by omega)
  have o2 := neb (show x.op ≠ 2 by omega)
  have o3 := neb (show x.op ≠ 3 by omega)
  have o4 := neb (show x.op ≠ 4 by omega)
  have o5 := neb (show x.op ≠ 5 by omega)
  have o6 := neb (show x.op ≠ 6 by omega)
  have o7 := neb (show x.op ≠ 7 by omega)
  have o8 := neb (show x.op ≠ 8 by omega)
  have o9 := neb (show x.op ≠ 9 by omega)
  have o10 := neb (show x.op ≠ 10 by omega)
  have o11 := neb (show x.op ≠ 11 by omega)
  have o12 := neb (show x.op ≠ 12 by omega)
  have o13 := eqb hop
  clear hop
  obtain ⟨W, hW⟩ : ∃ W, W = w.alloc (.cells #[.int .i64 x.op, .int .i64 x.dst, .int .i64 x.a, .int .i64 x.b, .int .i64 x.n, .slice a x.args.length cp] 86) := ⟨_, rfl⟩
  have k0 : Keeps [] w W := by rw [hW]; exact Keeps.alloc _ _ _
  have i0 : InW W w.heap.size x (.slice a x.args.length cp) := by rw [hW]; exact InW.new _ _ _ _
  have K0 := hid k0
  have H_rd := hid fun (w' : World) (k : Keeps [] W w') => arm8 i0 k (rr_any x.dst hx.dst w')
  have z_rd := regB_size x.dst hx.dst
  have H_ra := hid fun (w' : World) (k : Keeps [] W w') => arm8 i0 k (rr_any x.a hx.a w')
  have z_ra := regB_size x.a hx.a
  have H_list := hid fun (w' : World) (k : Keeps [] W w') => arm8 i0 k (rargs_any a cp x.args w' (ha.quiet (k0.quiet k)).ints hx.args ha.len)
  have z_list := Nat.le_trans (listB_size x.args hx.args) (show _ ≤ 24117250 by have := ha.len; omega)
  obtain ⟨c0, c1, c2, c3, c4, c5⟩ := i0
  unfold insV
  generalize regB x.dst = R at *
  generalize regB x.a = A at *
  generalize listB x.args = L at *
  have y0 : ¬ 9223372036854775807 < R.size + 3 := by omega
  have ye : (R ++ ⟨#[32, 61, 32]⟩ : ByteArray).size = R.size + 3 := by rw [ByteArray.size_append]; rfl
  generalize hD0 : R ++ ⟨#[32, 61, 32]⟩ = D0 at *
  have b1 : ¬ 9223372036854775807 < R.size + 3 + 5 := by omega
  have b2 : ¬ 9223372036854775807 < R.size + 3 + 5 + A.size := by omega
  have b3 : ¬ 9223372036854775807 < R.size + 3 + 5 + A.size + L.size := by omega
  have HW := hid hW
  clear k0 hx hW ha
  go_enter Tryd.func29, Tryd.ntmps29
  go_wp2_with fail
  rw [← HW.out]
  clear HW
  generalize w.heap.size = q at *
  refine (H_rd.out _ (Keeps.refl _ _)).mono ?_
  rintro e w0 ⟨rfl, K9, g0, g1, g2, g3, g4, g5⟩
  clear c0 c1 c2 c3 c4 c5 H_rd
  go_wp2_with fail
  go_region_held3 (fun w' => w'.cell? ⟨q, 0, none⟩ = some (.int .i64 x.op) ∧ w'.cell? ⟨q, 1, none⟩ = some (.int .i64 x.dst) ∧ w'.cell? ⟨q, 2, none⟩ = some (.int .i64 x.a) ∧ w'.cell? ⟨q, 3, none⟩ = some (.int .i64 x.b) ∧ w'.cell? ⟨q, 4, none⟩ = some (.int .i64 x.n) ∧ w'.cell? ⟨q, 5, none⟩ = some (.slice a x.args.length cp)) (go_keep) (first
    | (go_at_call 30; refine (H_ra.out _ (by first | assumption | exact Keeps.drew _ _ | exact Keeps.refl _ _ | exact Keeps.quiet (by assumption) (Keeps.drew _ _))).mono ?_; rintro e w1 ⟨rfl, K1, d0, d1, d2, d3, d4, d5⟩)
    | (go_at_call 57; refine (H_list.out _ (by first | assumption | exact Keeps.drew _ _ | exact Keeps.refl _ _ | exact Keeps.quiet (by assumption) (Keeps.drew _ _))).mono ?_; rintro e w1 ⟨rfl, K1, d0, d1, d2, d3, d4, d5⟩))
  go_wp2_with fail
  go_ret
  exact ⟨rfl, K0.out.quiet (by assumption)⟩
set_option maxRecDepth 20000 in
set_option maxHeartbeats 8000000 in
theorem rline_14 (x : In8) (a : Option Addr) (cp : Nat) (hx : InOk x) (w : World) (ha : ArW w a x) (hop : x.op = 14) : Calls Tryd.prog 29 #[insV x (.slice a x.args.length cp)] w fun e w' => e = .returned (.string (regB x.dst ++ ⟨#[32, 61, 32]⟩ ++ ⟨#[99, 97, 108, 108, 32]⟩ ++ regB x.a ++ ⟨#[46]⟩ ++ decB x.n ++ listB x.args)) ∧ Keeps [] w w' := by
  have o1 := neb (show x.op ≠ 1 by omega)
  have o2 := neb (show x.op ≠ 2 by omega)
  have o3 := neb (show x.op ≠ 3 by omega)
  have o4 := neb (show x.op ≠ 4 by omega)
  have o5 := neb (show x.op ≠ 5 by omega)
  have o6 := neb (show x.op ≠ 6 by omega)
  have o7 := neb (show x.op ≠ 7 by omega)
  have o8 := neb (show x.op ≠ 8 by omega)
  have o9 := neb (show x.op ≠ 9 by omega)
  have o10 := neb (show x.op ≠ 10 by omega)
  have o11 := neb (show x.op ≠ 11 by omega)
  have o12 := neb (show x.op ≠ 12 by omega)
  have o13 := neb (show x.op ≠ 13 by omega)
  have o14 := eqb hop
  clear hop
  obtain ⟨W, hW⟩ : ∃ W, W = w.alloc (.cells #[.int .i64 x.op, .int .i64 x.dst, .int .i64 x.a, .int .i64 x.b, .int .i64 x.n, .slice a x.args.length cp] 86) := ⟨_, rfl⟩
  have k0 : Keeps [] w W := by rw [hW]; exact Keeps.alloc _ _ _
  have i0 : InW W w.heap.size x (.slice a x.args.length cp) := by rw [hW]; exact InW.new _ _ _ _
  have K0 := hid k0
  have H_rd := hid fun (w' : World) (k : Keeps [] W w') => arm8 i0 k (rr_any x.dst hx.dst w')
  have z_rd := regB_size x.dst hx.dst
  have H_ra := hid fun (w' : World) (k : Keeps [] W w') => arm8 i0 k (rr_any x.a hx.a w')
  have z_ra := regB_size x.a hx.a
  have H_n := hid fun (w' : World) (k : Keeps [] W w') => arm8 i0 k (dec_any x.n hx.n w')
  have z_n := decB_size x.n hx.n
  have H_list := hid fun (w' : World) (k : Keeps [] W w') => arm8 i0 k (rargs_any a cp x.args w' (ha.quiet (k0.quiet k)).ints hx.args ha.len)
  have z_list := Nat.le_trans (listB_size x.args hx.args) (show _ ≤ 24117250 by have := ha.len; omega)
  obtain ⟨c0, c1, c2, c3, c4, c5⟩ := i0
  unfold insV
  generalize regB x.dst = R at *
  generalize regB x.a = A at *
  generalize decB x.n = D at *
  generalize listB x.args = L at *
  have y0 : ¬ 9223372036854775807 < R.size + 3 := by omega
  have ye : (R ++ ⟨#[32, 61, 32]⟩ : ByteArray).size = R.size + 3 := by rw [ByteArray.size_append]; rfl
  generalize hD0 : R ++ ⟨#[32, 61, 32]⟩ = D0 at *
  have b1 : ¬ 9223372036854775807 < R.size + 3 + 5 := by omega
  have b2 : ¬ 9223372036854775807 < R.size + 3 + 5 + A.size := by omega
  have b3 : ¬ 9223372036854775807 < R.size + 3 + 5 + A.size + 1 := by omega
  have b4 : ¬ 9223372036854775807 < R.size + 3 + 5 + A.size + 1 + D.size := by omega
  have b5 : ¬ 9223372036854775807 < R.size + 3 + 5 + A.size + 1 + D.size + L.size := by omega
  have HW := hid hW
  clear k0 hx hW ha
  go_enter Tryd.func29, Tryd.ntmps29
  go_wp2_with fail
  rw [← HW.out]
  clear HW
  generalize w.heap.size = q at *
  refine (H_rd.out _ (Keeps.refl _ _)).mono ?_
  rintro e w0 ⟨rfl, K9, g0, g1, g2, g3, g4, g5⟩
  clear c0 c1 c2 c3 c4 c5 H_rd
  go_wp2_with fail
  go_region_held3 (fun w' => w'.cell? ⟨q, 0, none⟩ = some (.int .i64 x.op) ∧ w'.cell? ⟨q, 1, none⟩ = some (.int .i64 x.dst) ∧ w'.cell? ⟨q, 2, none⟩ = some (.int .i64 x.a) ∧ w'.cell? ⟨q, 3, none⟩ = some (.int .i64 x.b) ∧ w'.cell? ⟨q, 4, none⟩ = some (.int .i64 x.n) ∧ w'.cell? ⟨q, 5, none⟩ = some (.slice a x.args.length cp)) (go_keep) (first
    | (go_at_call 30; refine (H_ra.out _ (by first | assumption | exact Keeps.drew _ _ | exact Keeps.refl _ _ | exact Keeps.quiet (by assumption) (Keeps.drew _ _))).mono ?_; rintro e w1 ⟨rfl, K1, d0, d1, d2, d3, d4, d5⟩)
    | (go_at_call 28; refine (H_n.out _ (by first | assumption | exact Keeps.drew _ _ | exact Keeps.refl _ _ | exact Keeps.quiet (by assumption) (Keeps.drew _ _))).mono ?_; rintro e w1 ⟨rfl, K1, d0, d1, d2, d3, d4, d5⟩)
    | (go_at_call 57; refine (H_list.out _ (by first | assumption | exact Keeps.drew _ _ | exact Keeps.refl _ _ | exact Keeps.quiet (by assumption) (Keeps.drew _ _))).mono ?_; rintro e w1 ⟨rfl, K1, d0, d1, d2, d3, d4, d5⟩))
  go_wp2_with fail
  go_ret
  exact ⟨rfl, K0.out.quiet (by assumption)⟩
set_option maxRecDepth 20000 in
set_option maxHeartbeats 8000000 in
theorem rline_15 (x : In8) (a : Option Addr) (cp : Nat) (hx : InOk x) (w : World) (hop : x.op = 15) : Calls Tryd.prog 29 #[insV x (.slice a x.args.length cp)] w fun e w' => e = .returned (.string (⟨#[115, 105, 110, 107, 32]⟩ ++ regB x.a)) ∧ Keeps [] w w' := by
  have o1 := neb (show x.op ≠ 1 by omega)
  have o2 := neb (show x.op ≠ 2 by omega)
  have o3 := neb (show x.op ≠ 3 by omega)
  have o4 := neb (show x.op ≠ 4 by omega)
  have o5 := neb (show x.op ≠ 5 by omega)
  have o6 := neb (show x.op ≠ 6 by omega)
  have o7 := neb (show x.op ≠ 7 by omega)
  have o8 := neb (show x.op ≠ 8 by omega)
  have o9 := neb (show x.op ≠ 9 by omega)
  have o10 := neb (show x.op ≠ 10 by omega)
  have o11 := neb (show x.op ≠ 11 by omega)
  have o12 := neb (show x.op ≠ 12 by omega)
  have o13 := neb (show x.op ≠ 13 by omega)
  have o14 := neb (show x.op ≠ 14 by omega)
  have o15 := eqb hop
  clear hop
  obtain ⟨W, hW⟩ : ∃ W, W = w.alloc (.cells #[.int .i64 x.op, .int .i64 x.dst, .int .i64 x.a, .int .i64 x.b, .int .i64 x.n, .slice a x.args.length cp] 86) := ⟨_, rfl⟩
  have k0 : Keeps [] w W := by rw [hW]; exact Keeps.alloc _ _ _
  have i0 : InW W w.heap.size x (.slice a x.args.length cp) := by rw [hW]; exact InW.new _ _ _ _
  have K0 := hid k0
  have H_rd := hid fun (w' : World) (k : Keeps [] W w') => arm8 i0 k (rr_any x.dst hx.dst w')
  have z_rd := regB_size x.dst hx.dst
  have H_ra := hid fun (w' : World) (k : Keeps [] W w') => arm8 i0 k (rr_any x.a hx.a w')
  have z_ra := regB_size x.a hx.a
  obtain ⟨c0, c1, c2, c3, c4, c5⟩ := i0
  unfold insV
  generalize regB x.dst = R at *
  generalize regB x.a = A at *
  have y0 : ¬ 9223372036854775807 < R.size + 3 := by omega
  have ye : (R ++ ⟨#[32, 61, 32]⟩ : ByteArray).size = R.size + 3 := by rw [ByteArray.size_append]; rfl
  generalize hD0 : R ++ ⟨#[32, 61, 32]⟩ = D0 at *
  have b1 : ¬ 9223372036854775807 < 5 + A.size := by omega
  have HW := hid hW
  clear k0 hx hW
  go_enter Tryd.func29, Tryd.ntmps29
  go_wp2_with fail
  rw [← HW.out]
  clear HW
  generalize w.heap.size = q at *
  refine (H_rd.out _ (Keeps.refl _ _)).mono ?_
  rintro e w0 ⟨rfl, K9, g0, g1, g2, g3, g4, g5⟩
  clear c0 c1 c2 c3 c4 c5 H_rd
  go_wp2_with (first
    | (go_at_call 30; refine (H_ra.out _ (by first | assumption | exact Keeps.drew _ _ | exact Keeps.refl _ _ | exact Keeps.quiet (by assumption) (Keeps.drew _ _))).mono ?_; rintro e w1 ⟨rfl, K1, d0, d1, d2, d3, d4, d5⟩))
  go_ret
  exact ⟨rfl, K0.out.quiet (by assumption)⟩
set_option maxRecDepth 20000 in
set_option maxHeartbeats 8000000 in
theorem rline_no (x : In8) (a : Option Addr) (cp : Nat) (hx : InOk x) (w : World) (hop : x.op ≠ 1 ∧ x.op ≠ 2 ∧ x.op ≠ 3 ∧ x.op ≠ 4 ∧ x.op ≠ 5 ∧ x.op ≠ 6 ∧ x.op ≠ 7 ∧ x.op ≠ 8 ∧ x.op ≠ 9 ∧ x.op ≠ 10 ∧ x.op ≠ 11 ∧ x.op ≠ 12 ∧ x.op ≠ 13 ∧ x.op ≠ 14 ∧ x.op ≠ 15) : Calls Tryd.prog 29 #[insV x (.slice a x.args.length cp)] w fun e w' => e = .returned (.string ⟨#[63]⟩) ∧ Keeps [] w w' := by
  have o1 := neb (show x.op ≠ 1 by omega)
  have o2 := neb (show x.op ≠ 2 by omega)
  have o3 := neb (show x.op ≠ 3 by omega)
  have o4 := neb (show x.op ≠ 4 by omega)
  have o5 := neb (show x.op ≠ 5 by omega)
  have o6 := neb (show x.op ≠ 6 by omega)
  have o7 := neb (show x.op ≠ 7 by omega)
  have o8 := neb (show x.op ≠ 8 by omega)
  have o9 := neb (show x.op ≠ 9 by omega)
  have o10 := neb (show x.op ≠ 10 by omega)
  have o11 := neb (show x.op ≠ 11 by omega)
  have o12 := neb (show x.op ≠ 12 by omega)
  have o13 := neb (show x.op ≠ 13 by omega)
  have o14 := neb (show x.op ≠ 14 by omega)
  have o15 := neb (show x.op ≠ 15 by omega)
  clear hop
  obtain ⟨W, hW⟩ : ∃ W, W = w.alloc (.cells #[.int .i64 x.op, .int .i64 x.dst, .int .i64 x.a, .int .i64 x.b, .int .i64 x.n, .slice a x.args.length cp] 86) := ⟨_, rfl⟩
  have k0 : Keeps [] w W := by rw [hW]; exact Keeps.alloc _ _ _
  have i0 : InW W w.heap.size x (.slice a x.args.length cp) := by rw [hW]; exact InW.new _ _ _ _
  have K0 := hid k0
  have H_rd := hid fun (w' : World) (k : Keeps [] W w') => arm8 i0 k (rr_any x.dst hx.dst w')
  have z_rd := regB_size x.dst hx.dst
  obtain ⟨c0, c1, c2, c3, c4, c5⟩ := i0
  unfold insV
  generalize regB x.dst = R at *
  have y0 : ¬ 9223372036854775807 < R.size + 3 := by omega
  have HW := hid hW
  clear k0 hx hW
  go_enter Tryd.func29, Tryd.ntmps29
  go_wp2_with fail
  rw [← HW.out]
  clear HW
  generalize w.heap.size = q at *
  refine (H_rd.out _ (Keeps.refl _ _)).mono ?_
  rintro e w0 ⟨rfl, K9, g0, g1, g2, g3, g4, g5⟩
  clear c0 c1 c2 c3 c4 c5 H_rd
  go_wp2_with fail
  go_ret
  exact ⟨rfl, K0.out.quiet (by assumption)⟩
theorem rline_any (x : In8) (a : Option Addr) (cp : Nat) (hx : InOk x) (w : World) (ha : ArW w a x) : Calls Tryd.prog 29 #[insV x (.slice a x.args.length cp)] w fun e w' => e = .returned (.string (lineB x)) ∧ Keeps [] w w' := by
  by_cases o1 : x.op = 1
  · have e : lineB x = regB x.dst ++ ⟨#[32, 61, 32]⟩ ++ ⟨#[99, 111, 110, 115, 116, 32]⟩ ++ decB x.n := by
      unfold lineB
      rw [if_pos (show isDef x = true by unfold isDef; rw [o1]; rfl)]
      unfold rightB
      rw [if_pos o1]
      simp only [ByteArray.append_assoc]
    rw [e]
    exact rline_1 x a cp hx w o1
  by_cases o2 : x.op = 2
  · have e : lineB x = regB x.dst ++ ⟨#[32, 61, 32]⟩ ++ ⟨#[97, 100, 100, 32]⟩ ++ regB x.a ++ ⟨#[32]⟩ ++ regB x.b := by
      unfold lineB
      rw [if_pos (show isDef x = true by unfold isDef; rw [o2]; rfl)]
      unfold rightB
      rw [if_neg o1, if_pos o2]
      simp only [ByteArray.append_assoc]
    rw [e]
    exact rline_2 x a cp hx w o2
  by_cases o3 : x.op = 3
  · have e : lineB x = regB x.dst ++ ⟨#[32, 61, 32]⟩ ++ ⟨#[115, 111, 117, 114, 99, 101]⟩ := by
      unfold lineB
      rw [if_pos (show isDef x = true by unfold isDef; rw [o3]; rfl)]
      unfold rightB
      rw [if_neg o1, if_neg o2, if_pos o3]
    rw [e]
    exact rline_3 x a cp hx w o3
  by_cases o4 : x.op = 4
  · have e : lineB x = regB x.dst ++ ⟨#[32, 61, 32]⟩ ++ ⟨#[110, 105, 108]⟩ := by
      unfold lineB
      rw [if_pos (show isDef x = true by unfold isDef; rw [o4]; rfl)]
      unfold rightB
      rw [if_neg o1, if_neg o2, if_neg o3, if_pos o4]
    rw [e]
    exact rline_4 x a cp hx w o4
  by_cases o5 : x.op = 5
  · have e : lineB x = regB x.dst ++ ⟨#[32, 61, 32]⟩ ++ ⟨#[110, 101, 119]⟩ := by
      unfold lineB
      rw [if_pos (show isDef x = true by unfold isDef; rw [o5]; rfl)]
      unfold rightB
      rw [if_neg o1, if_neg o2, if_neg o3, if_neg o4, if_pos o5]
    rw [e]
    exact rline_5 x a cp hx w o5
  by_cases o6 : x.op = 6
  · have e : lineB x = regB x.dst ++ ⟨#[32, 61, 32]⟩ ++ regB x.a := by
      unfold lineB
      rw [if_pos (show isDef x = true by unfold isDef; rw [o6]; rfl)]
      unfold rightB
      rw [if_neg o1, if_neg o2, if_neg o3, if_neg o4, if_neg o5, if_pos o6]
    rw [e]
    exact rline_6 x a cp hx w o6
  by_cases o7 : x.op = 7
  · have e : lineB x = regB x.dst ++ ⟨#[32, 61, 32]⟩ ++ regB x.a ++ ⟨#[46]⟩ ++ decB x.n := by
      unfold lineB
      rw [if_pos (show isDef x = true by unfold isDef; rw [o7]; rfl)]
      unfold rightB
      rw [if_neg o1, if_neg o2, if_neg o3, if_neg o4, if_neg o5, if_neg o6, if_pos o7]
      simp only [partB, ByteArray.append_assoc]
    rw [e]
    exact rline_7 x a cp hx w o7
  by_cases o8 : x.op = 8
  · have e : lineB x = regB x.a ++ ⟨#[46]⟩ ++ decB x.n ++ ⟨#[32, 61, 32]⟩ ++ regB x.b := by
      unfold lineB
      rw [if_neg (show ¬ isDef x = true by unfold isDef; rw [o8]; decide), if_pos o8]
      simp only [partB, ByteArray.append_assoc]
    rw [e]
    exact rline_8 x a cp hx w o8
  by_cases o9 : x.op = 9
  · have e : lineB x = ⟨#[102, 114, 101, 101, 32]⟩ ++ regB x.a := by
      unfold lineB
      rw [if_neg (show ¬ isDef x = true by unfold isDef; rw [o9]; decide), if_neg o8, if_pos o9]
    rw [e]
    exact rline_9 x a cp hx w o9
  by_cases o10 : x.op = 10
  · have e : lineB x = regB x.dst ++ ⟨#[32, 61, 32]⟩ ++ ⟨#[102, 117, 110, 99, 32]⟩ ++ decB x.n := by
      unfold lineB
      rw [if_pos (show isDef x = true by unfold isDef; rw [o10]; rfl)]
      unfold rightB
      rw [if_neg o1, if_neg o2, if_neg o3, if_neg o4, if_neg o5, if_neg o6, if_neg o7, if_pos o10]
      simp only [ByteArray.append_assoc]
    rw [e]
    exact rline_10 x a cp hx w o10
  by_cases o11 : x.op = 11
  · have e : lineB x = regB x.dst ++ ⟨#[32, 61, 32]⟩ ++ ⟨#[105, 102, 97, 99, 101, 32]⟩ ++ regB x.a := by
      unfold lineB
      rw [if_pos (show isDef x = true by unfold isDef; rw [o11]; rfl)]
      unfold rightB
      rw [if_neg o1, if_neg o2, if_neg o3, if_neg o4, if_neg o5, if_neg o6, if_neg o7, if_neg o10, if_pos o11]
      simp only [ByteArray.append_assoc]
    rw [e]
    exact rline_11 x a cp hx w o11
  by_cases o12 : x.op = 12
  · have e : lineB x = regB x.dst ++ ⟨#[32, 61, 32]⟩ ++ ⟨#[99, 97, 108, 108, 32]⟩ ++ decB x.n ++ listB x.args := by
      unfold lineB
      rw [if_pos (show isDef x = true by unfold isDef; rw [o12]; rfl)]
      unfold rightB
      rw [if_neg o1, if_neg o2, if_neg o3, if_neg o4, if_neg o5, if_neg o6, if_neg o7, if_neg o10, if_neg o11, if_pos o12]
      simp only [ByteArray.append_assoc]
    rw [e]
    exact rline_12 x a cp hx w ha o12
  by_cases o13 : x.op = 13
  · have e : lineB x = regB x.dst ++ ⟨#[32, 61, 32]⟩ ++ ⟨#[99, 97, 108, 108, 32]⟩ ++ regB x.a ++ listB x.args := by
      unfold lineB
      rw [if_pos (show isDef x = true by unfold isDef; rw [o13]; rfl)]
      unfold rightB
      rw [if_neg o1, if_neg o2, if_neg o3, if_neg o4, if_neg o5, if_neg o6, if_neg o7, if_neg o10, if_neg o11, if_neg o12, if_pos o13]
      simp only [ByteArray.append_assoc]
    rw [e]
    exact rline_13 x a cp hx w ha o13
  by_cases o14 : x.op = 14
  · have e : lineB x = regB x.dst ++ ⟨#[32, 61, 32]⟩ ++ ⟨#[99, 97, 108, 108, 32]⟩ ++ regB x.a ++ ⟨#[46]⟩ ++ decB x.n ++ listB x.args := by
      unfold lineB
      rw [if_pos (show isDef x = true by unfold isDef; rw [o14]; rfl)]
      unfold rightB
      rw [if_neg o1, if_neg o2, if_neg o3, if_neg o4, if_neg o5, if_neg o6, if_neg o7, if_neg o10, if_neg o11, if_neg o12, if_neg o13, if_pos o14]
      simp only [partB, ByteArray.append_assoc]
    rw [e]
    exact rline_14 x a cp hx w ha o14
  by_cases o15 : x.op = 15
  · have e : lineB x = ⟨#[115, 105, 110, 107, 32]⟩ ++ regB x.a := by
      unfold lineB
      rw [if_neg (show ¬ isDef x = true by unfold isDef; rw [o15]; decide), if_neg o8, if_neg o9, if_pos o15]
    rw [e]
    exact rline_15 x a cp hx w o15
  have e : lineB x = ⟨#[63]⟩ := by
    unfold lineB
    rw [if_neg (show ¬ isDef x = true by unfold isDef; simp; omega), if_neg o8, if_neg o9, if_neg o15]
  rw [e]
  exact rline_no x a cp hx w ⟨o1, o2, o3, o4, o5, o6, o7, o8, o9, o10, o11, o12, o13, o14, o15⟩
end Go.Proofs.YtmipbaihlodmdaaDoor
