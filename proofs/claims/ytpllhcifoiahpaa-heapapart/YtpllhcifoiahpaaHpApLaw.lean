/-
  HeapApart: the walk.
-/
import Derived.Test.YtpllhcifoiahpaaHpAp
namespace Go.Proofs.Ytpllhcifoiahpaa
open Go.RowKit

theorem zero_arr (w : World) : (zeroValue 52).run Try.prog w = .ok (.agg (row3 v3 (ini 0)).toArray) w := by kernel_rfl
theorem drop_mod {z : Int} {n : Nat} (hn : 0 < n) : ∃ k : Nat, k < n ∧ (z.tmod n + n).tmod n = (k : Int) := by
  have h1 : -(n : Int) < z.tmod n := by
    have := Int.lt_tmod_of_pos z (show (0 : Int) < n by omega)
    exact this
  have h2 : z.tmod n < (n : Int) := Int.tmod_lt_of_pos z (by omega)
  refine ⟨((z.tmod n + n).tmod n).toNat, ?_, ?_⟩
  · have := Int.tmod_lt_of_pos (z.tmod n + n) (show (0 : Int) < n by omega)
    omega
  · have := Int.tmod_nonneg (n : Int) (show 0 ≤ z.tmod n + n by omega)
    omega
set_option maxRecDepth 20000 in
set_option maxHeartbeats 8000000 in
theorem heapApart_walk (n : Int) (a : Option Addr) (cp : Nat) (l : List Int) (vk vn : Int) (vt : Bool) (w : World) (hz : IntsAt w a l) (_ : l.length ≤ maxLen) (_ : l.length ≤ cp) (_ : b64 vk) (_ : b64 vn) : Calls Try.prog 7 #[.int .i64 n, .slice a l.length cp, vlV (vk, vn, vt)] w fun e w' => e = .returned (.bool true) ∧ Keeps [] w w' := by
  have HZ := hid hz
  clear hz
  obtain ⟨L, hL⟩ : ∃ L, L = l.length := ⟨_, rfl⟩
  rw [← hL]
  have HL := hid hL
  clear hL
  go_enter Try.func7, Try.ntmps7
  go_upto_region 1 with fail
  have K0 := hid (Keeps.alloc [] w (.cells #[.int .i64 vk, .int .i64 vn, .bool vt] 29))
  have X0 := hid (heap_new w (.cells #[.int .i64 vk, .int .i64 vn, .bool vt] 29))
  generalize w.alloc (.cells #[.int .i64 vk, .int .i64 vn, .bool vt] 29) = w1 at *
  obtain ⟨xb, hxb⟩ : ∃ xb, xb = w.heap.size := ⟨_, rfl⟩
  rw [← hxb] at X0 ⊢
  have XB : Box (w.heap.size ≤ xb) := hid (by omega)
  clear hxb
  go_wp2_with fail
  refine (begun_any w1).mono ?_
  rintro e w2 ⟨rfl, k⟩
  have K2 := hid (K0.out.quiet k)
  have X2 := hid (keep_heap X0.out k)
  clear K0 X0 k
  by_cases h0 : n < 1
  · go_wp2_with fail
    go_ret
    exact ⟨rfl, K2.out⟩
  by_cases h1 : 20 < n
  · go_wp2_with fail
    go_ret
    exact ⟨rfl, K2.out⟩
  obtain ⟨N, rfl⟩ : ∃ N : Nat, n = (N : Int) := ⟨n.toNat, by omega⟩
  have hN : N ≤ 20 := by omega
  have hN0 : 0 < N := by omega
  go_wp2_with fail
  refine (new_hp w2).mono ?_
  rintro e w3 ⟨rfl, hh, hk⟩
  obtain ⟨hp, hhp⟩ : ∃ hp, hp = w2.heap.size := ⟨_, rfl⟩
  have M2 := Mine.new hh hk hhp
  have M3 : Box (Mine w w3 hp [] [hp]) := hid ⟨M2.has, K2.out.quiet M2.keeps, fun x hx => Nat.le_trans K2.out.size (M2.young x hx)⟩
  have X3 := hid (keep_heap X2.out hk)
  have XF : Box (xb ∉ [hp]) := hid (fun hx => by
    have := heap_lt X2.out
    rw [List.mem_singleton.1 hx, hhp] at this
    omega)
  rw [← hhp]
  clear hh hk hhp K2 M2 X2
  go_upto_region 8 with fail
  have A4 : Box (Apt w (w3.alloc (.cells #[.int .i64 0, .int .i64 0, .int .i64 1, .int .i64 0] 37)) hp w3.heap.size xb (vk, vn, vt) [] [hp]) := hid
    ⟨M3.out.quiet (Keeps.alloc [] _ _), heap_new w3 _, keep_heap X3.out (Keeps.alloc [] _ _), M3.out.off (Nat.le_refl _), XF.out⟩
  have R0 : Box (∀ w', Keeps [] (w3.alloc (.cells #[.int .i64 0, .int .i64 0, .int .i64 1, .int .i64 0] 37)) w' → True) := hid fun _ _ => trivial
  have RB : Box (w.heap.size ≤ w3.heap.size) := hid M3.out.keeps.size
  generalize w3.alloc (.cells #[.int .i64 0, .int .i64 0, .int .i64 1, .int .i64 0] 37) = w4 at *
  generalize w3.heap.size = rb at *
  clear M3 X3 XF R0
  go_wp2_with fail
  go_loopw [10] (fun iv wr => ∃ (k : Nat), k ≤ N ∧ iv = .int .i64 (k : Int) ∧ Box (∃ os F, Zs os k ∧ Apt w wr hp rb xb (vk, vn, vt) os F)) (fun iv _ => N - (intOf iv).toNat)
  case atStart => exact ⟨0, by omega, rfl, hid ⟨[], [hp], ⟨rfl, fun j o h => by simp at h⟩, A4.out⟩⟩
  case round =>
    obtain ⟨k, hk, rfl, HF⟩ := hrel
    clear A4
    by_cases hlt : k < N
    · have hlt' : (k : Int) < (N : Int) := by omega
      obtain ⟨os, F, zs, AA⟩ := HF.out
      have ZS := hid zs
      have AP := hid AA
      have RR : Box (RowsAt wr 2 TyC (some ⟨rb, 0, none⟩) [(0, 0), (1, 0)]) := hid (by
        refine .inr ⟨_, _, rfl, fun j y hj => ?_⟩
        match j, hj with
        | 0, hj =>
          simp at hj
          subst hj
          exact ⟨⟨hcell AP.out.lit 0, by unfold b64; decide⟩, ⟨hcell AP.out.lit 1, by unfold b64; decide⟩⟩
        | 1, hj =>
          simp at hj
          subst hj
          exact ⟨⟨hcell AP.out.lit 2, by unfold b64; decide⟩, ⟨hcell AP.out.lit 3, by unfold b64; decide⟩⟩
        | j + 2, hj => simp at hj)
      have C := hid (alloc_room (site := (k : Int)) (cp := 2) AP.out.mine.has (by rw [ZS.out.1]; omega) RR.out (by decide))
      rw [show ([((0 : Int), (0 : Int)), (1, 0)]).length = 2 from rfl] at C
      clear zs AA HF RR
      go_wp2_with fail
      refine C.out.mono ?_
      rintro e w5 ⟨rfl, fs, F5, h5, k5, n5, -⟩
      have H5 : Box (∃ os F, Zs os (k + 1) ∧ Apt w w5 hp rb xb (vk, vn, vt) os F) := hid ⟨_, _, ZS.out.push _ fs, AP.out.more h5 k5 n5⟩
      clear C ZS AP h5 k5 n5
      go_wp2_with fail
      go_roundw
      case rel => exact ⟨k + 1, by omega, by go_num, H5⟩
      case measure => simp [intOf]; omega
    · obtain rfl : N = k := by omega
      obtain ⟨os, F, zs, AA⟩ := HF.out
      have ZS := hid zs
      have AP := hid AA
      clear zs AA HF
      obtain ⟨Z, hZ⟩ : ∃ Z, Z = (row3 v3 (ini 0)).toArray := ⟨_, rfl⟩
      have zv := zero_arr wr
      rw [← hZ] at zv
      have HZR := hid hZ
      clear hZ
      go_upto_region 13 with fail
      have A5 := hid (AP.out.quiet (Keeps.alloc [] wr (.cells Z 52)))
      have R5 : Box (ArrAt (wr.alloc (.cells Z 52)) wr.heap.size (ini 0)) := hid (by rw [HZR.out]; exact heap_new wr _)
      have MF : Box (wr.heap.size ∉ F) := hid (AP.out.mine.off (Nat.le_refl _))
      have MB : Box (w.heap.size ≤ wr.heap.size) := hid AP.out.mine.keeps.size
      generalize wr.alloc (.cells Z 52) = w5 at *
      generalize wr.heap.size = mb at *
      clear zv HZR AP
      have NE : Box (rb ≠ mb ∧ xb ≠ mb) := hid ⟨types_ne A5.out.lit R5.out (by decide), types_ne A5.out.val R5.out (by decide)⟩
      have FT0 : Box (Fits os (ini N) N) := hid (ZS.out.fits hN)
      clear ZS
      go_wp2_with fail
      go_loopw [12] (fun iv w6 => ∃ (k : Nat), k ≤ N ∧ iv = .int .i64 (k : Int) ∧ Box (Apt w w6 hp rb xb (vk, vn, vt) os F) ∧ Box (ArrAt w6 mb (ini k))) (fun iv _ => N - (intOf iv).toNat)
      case atStart => exact ⟨0, by omega, rfl, A5, R5⟩
      case round =>
        obtain ⟨k, hk, rfl, AP, AR⟩ := hrel
        clear A5 R5
        by_cases hlt : k < N
        · have hlt' : (k : Int) < (N : Int) := by omega
          have hk20 : k < 20 := by omega
          have LB : Box (∀ w', Keeps [mb] wr w' → w'.heap[rb]? = some (.cells #[.int .i64 0, .int .i64 0, .int .i64 1, .int .i64 0] 37 (0, 0))) := hid fun w' k' => far_block AP.out.lit NE.out.1 k'
          have AS : Box (∀ w', ArrAt w' mb (ini k) → ArrAt ((((((w'.setCell ⟨mb, k * 6, none⟩ (v3 (0, 0, false)).1).setCell ⟨mb, k * 6 + 1, none⟩ (v3 (0, 0, false)).2.1).setCell ⟨mb, k * 6 + 2, none⟩ (v3 (0, 0, false)).2.2).setCell ⟨mb, k * 6 + 3, none⟩ (v3 (1, 0, false)).1).setCell ⟨mb, k * 6 + 4, none⟩ (v3 (1, 0, false)).2.1).setCell ⟨mb, k * 6 + 5, none⟩ (v3 (1, 0, false)).2.2) mb (ini (k + 1))) := hid fun w' h => by
            have := arr_set6 (k := k) h (by rw [ini_len]; omega) (0, 0, false) (1, 0, false)
            rwa [ini_step k hk20] at this
          go_upto_region 16 with fail
          refine wp_region_detF (fun w' => Keeps [mb] wr w') (PutE mb 11 (ini k) (ini (k + 1))) 128 [(.int .i64 (k : Int) : Value), (.slice (some ⟨rb, 0, none⟩) 2 2 : Value), (.pointer (some ⟨rb, 0, none⟩) : Value), (.agg #[.int .i64 0, .int .i64 0] : Value), (.agg #[.int .i64 0, .int .i64 0, .bool false] : Value), (.slice (some ⟨rb, 0, none⟩) 2 2 : Value), (.pointer (some ⟨rb, 2, none⟩) : Value), (.agg #[.int .i64 1, .int .i64 0] : Value), (.agg #[.int .i64 1, .int .i64 0, .bool false] : Value), (.agg #[.int .i64 0, .int .i64 0, .bool false, .int .i64 1, .int .i64 0, .bool false] : Value), (.pointer (some ⟨mb, k * 6, none⟩) : Value), (undef : Value)] (by kernel_rfl) (by rfl) (by kernel_rfl) (Keeps.drew [mb] wr) (PutE.start (keep_heap AR.out (Keeps.drew [] wr))) (fun A hA => ?_)
          simp only [putAll, Act.put, List.setIfInBounds_toArray, List.set_cons_zero, List.set_cons_succ] at hA
          subst hA
          refine ⟨AllGiveF.cons (giveF_yield (by rfl) (fun _ _ h => h.keep (by decide)) (fun _ _ => rfl)) (AllGiveF.cons (giveF_yield (by rfl) (fun _ _ h => h.keep (by decide)) (fun _ _ => rfl)) (AllGiveF.cons (giveF_yield (by rfl) (fun _ _ h => h.keep (by decide)) (fun _ _ => pc_ty0 rfl rfl rfl)) (AllGiveF.cons (giveF_yield (by rfl) (fun _ _ h => h.keep (by decide)) (fun w hs => pc_ld (hcell (LB.out w hs) 0) (hcell (LB.out w hs) 1) rfl rfl)) (AllGiveF.cons (giveF_call (by rfl) 10 #[tyV (0, 0)] (fun w => exec_call1 rfl rfl rfl (enter_rzero _ w)) (fun l w _ _ _ hs he => (rzero_any (0, 0) w).mono (fun e w' h => ⟨h.1, hs.step (h.2.mono (fun x hx => by cases hx)), (he.kept h.2).keep (by decide)⟩))) (AllGiveF.cons (giveF_yield (by rfl) (fun _ _ h => h.keep (by decide)) (fun _ _ => rfl)) (AllGiveF.cons (giveF_yield (by rfl) (fun _ _ h => h.keep (by decide)) (fun _ _ => pc_ty1 rfl rfl rfl)) (AllGiveF.cons (giveF_yield (by rfl) (fun _ _ h => h.keep (by decide)) (fun w hs => pc_ld (hcell (LB.out w hs) 2) (hcell (LB.out w hs) 3) rfl rfl)) (AllGiveF.cons (giveF_call (by rfl) 10 #[tyV (1, 0)] (fun w => exec_call1 rfl rfl rfl (enter_rzero _ w)) (fun l w _ _ _ hs he => (rzero_any (1, 0) w).mono (fun e w' h => ⟨h.1, hs.step (h.2.mono (fun x hx => by cases hx)), (he.kept h.2).keep (by decide)⟩))) (AllGiveF.cons (giveF_yield (by rfl) (fun _ _ h => h.keep (by decide)) (fun _ _ => pc_build rfl rfl rfl)) (AllGiveF.cons (giveF_yield (by rfl) (fun _ _ h => h.keep (by decide)) (fun _ _ => pc_ix rfl rfl rfl hk20)) (AllGiveF.cons (giveF_skip (by rfl) (fun l w hi hu _ hs he => ⟨_, pc_st6 (he.old hu) (by rw [arr_size, ini_len]; omega) rfl rfl rfl, hs.step (keeps6 _ _ _ _ _ _ _ _ _ _ _ _ _ _), PutE.new (AS.out w (he.old hu)) hi⟩)) (AllGiveF.nil)))))))))))), fun l7 w7 hall k7 e7 => ?_⟩
          have A7 := hid (AP.out.other k7 MF.out NE.out.1 NE.out.2 MB.out)
          have R7 := hid (e7.done (hall 11 (by decide)))
          clear LB AS AP AR k7 e7 hall
          go_wp2_with fail
          go_roundw
          case rel => exact ⟨k + 1, by omega, by go_num, A7, R7⟩
          case measure => simp [intOf]; omega
        · obtain rfl : N = k := by omega
          have AQ : Box (∃ os ms, Fits os ms N ∧ Apt w wr hp rb xb (vk, vn, vt) os F ∧ ArrAt wr mb ms) := hid ⟨_, _, FT0.out, AP.out, AR.out⟩
          clear AP AR FT0
          go_wp2_with fail
          go_loopw [13] (fun iv wr => ∃ (k : Nat), k ≤ L ∧ k ≤ 30 ∧ iv = .int .i64 (k : Int) ∧ Box (∃ os ms, Fits os ms N ∧ Apt w wr hp rb xb (vk, vn, vt) os F ∧ ArrAt wr mb ms)) (fun iv _ => L - (intOf iv).toNat)
          case atStart => exact ⟨0, by omega, by omega, rfl, AQ⟩
          case round =>
            obtain ⟨k, hk, hk30, rfl, AX⟩ := hrel
            clear AQ
            go_upto_region 18 with fail
            go_cut [66] (fun tt wz => tt = .bool (decide (k < L ∧ k < 30)) ∧ wz = wr)
            case first =>
              by_cases a1 : k < L
              · have c1 : (k : Int) < (L : Int) := by omega
                by_cases a2 : k < 30
                · have c2 : (k : Int) < 30 := by omega
                  have HD : Box (decide (k < L ∧ k < 30) = true) := hid (decide_eq_true ⟨a1, a2⟩)
                  clear a1 a2
                  go_wp2_with fail
                  go_meet
                  exact ⟨by rw [HD.out], rfl⟩
                · have c2 : ¬ (k : Int) < 30 := by omega
                  have HD : Box (decide (k < L ∧ k < 30) = false) := hid (decide_eq_false (fun h => a2 h.2))
                  clear a1 a2
                  go_wp2_with fail
                  go_meet
                  exact ⟨by rw [HD.out], rfl⟩
              · have c1 : ¬ (k : Int) < (L : Int) := by omega
                have HD : Box (decide (k < L ∧ k < 30) = false) := hid (decide_eq_false (fun h => a1 h.1))
                clear a1
                go_wp2_with fail
                go_meet
                exact ⟨by rw [HD.out], rfl⟩
            case rest =>
            obtain ⟨hte, hwz⟩ := hcut
            subst hte
            have hwz' := hwz.symm
            subst hwz'
            clear hwz
            by_cases hlt : k < L ∧ k < 30
            · obtain ⟨os1, ms1, ft1, ap1, ar1⟩ := AX.out
              have FT := hid ft1
              have AP := hid ap1
              have AR := hid ar1
              clear ft1 ap1 ar1 AX
              rw [decide_eq_true hlt]
              have c1 : (k : Int) < (L : Int) := by omega
              have HKL : Box (k < l.length) := hid (by rw [← HL.out]; exact hlt.1)
              have hk3 : k < 30 := hlt.2
              clear hlt
              obtain ⟨b0, off, ha, hc⟩ : ∃ b off, a = some ⟨b, off, none⟩ ∧ w.cell? ⟨b, off + k, none⟩ = some (.int .i64 (l.getD k 0)) := by
                rcases HZ.out with h0 | ⟨b, off, h1, h2⟩
                · exfalso
                  have := HKL.out
                  rw [h0] at this
                  simp at this
                · exact ⟨b, off, h1, h2 k HKL.out⟩
              subst ha
              have cz := cell_stays AP.out.mine.keeps hc
              clear hc HKL
              generalize l.getD k 0 = z at *
              obtain ⟨j, hj, hmod⟩ := drop_mod (z := z) hN0
              go_upto_region 22 with fail
              have e14 : (wrap64 (z.tmod (N : Int) + (N : Int))).tmod (N : Int) = (j : Int) := by
                rw [IntWalk.wrap64_in]
                · exact hmod
                · have h1 : -(N : Int) < z.tmod N := Int.lt_tmod_of_pos z (show (0 : Int) < N by omega)
                  have h2 : z.tmod N < (N : Int) := Int.tmod_lt_of_pos z (by omega)
                  omega
              rw [e14]
              obtain ⟨f, hf, ef⟩ : ∃ f : Nat, f < 2 ∧ (k : Int) % 2 = (f : Int) := ⟨k % 2, Nat.mod_lt _ (by decide), rfl⟩
              rw [ef]
              clear e14 hmod cz ef
              have x0 := hcell AP.out.val 0
              have x1 := hcell AP.out.val 1
              have x2 := hcell AP.out.val 2
              go_upto_region 24 with fail
              have A8 := hid (AP.out.quiet (Keeps.alloc [] wr (.cells #[.int .i64 vk, .int .i64 (wrap64 (vn + (k : Int))), .bool vt] 29)))
              have R8 : Box (ArrAt (wr.alloc (.cells #[.int .i64 vk, .int .i64 (wrap64 (vn + (k : Int))), .bool vt] 29)) mb ms1) := hid (keep_heap AR.out (Keeps.alloc [] wr (.cells #[.int .i64 vk, .int .i64 (wrap64 (vn + (k : Int))), .bool vt] 29)))
              have Q8 := hid (heap_new wr (.cells #[.int .i64 vk, .int .i64 (wrap64 (vn + (k : Int))), .bool vt] 29))
              have QF : Box (wr.heap.size ∉ F) := hid (AP.out.mine.off (Nat.le_refl _))
              generalize wr.alloc (.cells #[.int .i64 vk, .int .i64 (wrap64 (vn + (k : Int))), .bool vt] 29) = w8 at *
              generalize wr.heap.size = qb at *
              generalize wrap64 (vn + (k : Int)) = s at *
              clear x0 x1 x2 AP AR
              have C := hid (set_any A8.out.mine.has ((j : Int) + 1) (f : Int) (vk, s, vt))
              rw [(FT.out.set hj hN hf (vk, s, vt)).1] at C
              have F2 := hid (FT.out.set hj hN hf (vk, s, vt)).2
              have MS := hid FT.out.sz
              have q0 := hcell Q8.out 0
              have q1 := hcell Q8.out 1
              have q2 := hcell Q8.out 2
              go_wp2_with fail
              refine C.out.mono ?_
              rintro e w9 ⟨rfl, h9, k9⟩
              have A9 := hid (A8.out.step h9 k9)
              have R9 : Box (ArrAt w9 mb ms1) := hid ((k9.block mb (heap_lt R8.out) MF.out).trans R8.out)
              have Q9 := hid ((k9.block qb (heap_lt Q8.out) QF.out).trans Q8.out)
              clear C A8 R8 Q8 h9 k9 FT QF q0 q1 q2
              have hj20 : j < 20 := by omega
              have QB : Box (∀ w', Keeps [mb] w9 w' → w'.heap[qb]? = some (.cells #[.int .i64 vk, .int .i64 s, .bool vt] 29 (0, 0))) := hid fun w' k' => far_block Q9.out (types_ne Q9.out R9.out (by decide)) k'
              have AS : Box (∀ w', ArrAt w' mb ms1 → ArrAt (((w'.setCell ⟨mb, j * 6 + f * 3, none⟩ (v3 (vk, s, vt)).1).setCell ⟨mb, j * 6 + f * 3 + 1, none⟩ (v3 (vk, s, vt)).2.1).setCell ⟨mb, j * 6 + f * 3 + 2, none⟩ (v3 (vk, s, vt)).2.2) mb (ms1.set (2 * j + f) (vk, s, vt))) := hid fun w' h => by
                have := arr_set3 (j := 2 * j + f) h (by rw [MS.out]; omega) (vk, s, vt)
                rw [show (2 * j + f) * 3 = j * 6 + f * 3 by omega] at this
                exact this
              go_upto_region 26 with fail
              refine wp_region_detF (fun w' => Keeps [mb] w9 w') (PutE mb 5 ms1 (ms1.set (2 * j + f) (vk, s, vt))) 128 [(.int .i64 (j : Int) : Value), (.int .i64 (f : Int) : Value), (.agg #[.int .i64 vk, .int .i64 s, .bool vt] : Value), (.pointer (some ⟨mb, j * 6, none⟩) : Value), (.pointer (some ⟨mb, j * 6 + f * 3, none⟩) : Value), (undef : Value)] (by kernel_rfl) (by rfl) (by kernel_rfl) (Keeps.drew [mb] w9) (PutE.start (keep_heap R9.out (Keeps.drew [] w9))) (fun A hA => ?_)
              simp only [putAll, Act.put, List.setIfInBounds_toArray, List.set_cons_zero, List.set_cons_succ] at hA
              subst hA
              refine ⟨AllGiveF.cons (giveF_yield (by rfl) (fun _ _ h => h.keep (by decide)) (fun _ _ => rfl)) (AllGiveF.cons (giveF_yield (by rfl) (fun _ _ h => h.keep (by decide)) (fun _ _ => rfl)) (AllGiveF.cons (giveF_yield (by rfl) (fun _ _ h => h.keep (by decide)) (fun w hs => hld_v (QB.out w hs) rfl rfl)) (AllGiveF.cons (giveF_yield (by rfl) (fun _ _ h => h.keep (by decide)) (fun _ _ => pc_ix rfl rfl rfl hj20)) (AllGiveF.cons (giveF_yield (by rfl) (fun _ _ h => h.keep (by decide)) (fun _ _ => pc_ix2 rfl rfl rfl hf)) (AllGiveF.cons (giveF_skip (by rfl) (fun l w hi hu _ hs he => ⟨_, pc_st3 (he.old hu) (by rw [arr_size, MS.out]; omega) rfl rfl rfl, hs.step (keepsR _ _ _ _ _ _ _ _), PutE.new (AS.out w (he.old hu)) hi⟩)) (AllGiveF.nil)))))), fun l7 w7 hall k7 e7 => ?_⟩
              have AZ : Box (∃ os ms, Fits os ms N ∧ Apt w w7 hp rb xb (vk, vn, vt) os F ∧ ArrAt w7 mb ms) := hid ⟨_, _, F2.out, A9.out.other k7 MF.out NE.out.1 NE.out.2 MB.out, e7.done (hall 5 (by decide))⟩
              clear QB AS A9 R9 Q9 k7 e7 hall F2 MS
              go_wp2_with fail
              go_roundw
              case rel => exact ⟨k + 1, by omega, by omega, by go_num, AZ⟩
              case measure => simp [intOf]; omega
            · rw [decide_eq_false hlt]
              obtain ⟨os1, ms1, ft1, ap1, ar1⟩ := AX.out
              have FT := hid ft1
              have AQ := hid ap1
              have RQ := hid ar1
              clear ft1 ap1 ar1 AX hlt
              go_upto_region 27 with fail
              go_wp2_with fail
              go_loopw [17] (fun iv wr => ∃ (j : Nat), j ≤ N ∧ iv = .int .i64 (j : Int) ∧ Box (Apt w wr hp rb xb (vk, vn, vt) os1 F) ∧ Box (ArrAt wr mb ms1)) (fun iv _ => N - (intOf iv).toNat)
              case atStart => exact ⟨0, by omega, rfl, AQ, RQ⟩
              case round =>
                obtain ⟨j, hj, rfl, AP, AR⟩ := hrel
                clear AQ RQ
                by_cases hlt : j < N
                · have hlt' : (j : Int) < (N : Int) := by omega
                  have hj20 : j < 20 := by omega
                  go_wp2_with fail
                  go_loopw [18] (fun iv wr => ∃ (f : Nat), f ≤ 2 ∧ iv = .int .i64 (f : Int) ∧ Box (Apt w wr hp rb xb (vk, vn, vt) os1 F) ∧ Box (ArrAt wr mb ms1)) (fun iv _ => 2 - (intOf iv).toNat)
                  case atStart => exact ⟨0, by omega, rfl, AP, AR⟩
                  case round =>
                    obtain ⟨f, hf, rfl, A3, R3⟩ := hrel
                    clear AP AR
                    by_cases hf2 : f < 2
                    · have hf' : (f : Int) < 2 := by omega
                      obtain ⟨v, hv⟩ : ∃ v, v = getV os1 ((j : Int) + 1) (f : Int) := ⟨_, rfl⟩
                      have C := hid (get_any A3.out.mine.has ((j : Int) + 1) (f : Int))
                      have E := hid (FT.out.get hlt hN hf2)
                      rw [E.out.1, ← hv] at C
                      rw [← hv] at E
                      clear hv
                      go_wp2_with fail
                      refine C.out.mono ?_
                      rintro e w3 ⟨rfl, k3⟩
                      have A5 := hid (A3.out.quiet k3)
                      have R5 : Box (ArrAt w3 mb ms1) := hid (keep_heap R3.out k3)
                      clear C A3 R3 k3
                      go_upto_region 34 with fail
                      have A4 := hid (A5.out.quiet (Keeps.alloc [] w3 (.cells #[.int .i64 v.1, .int .i64 v.2.1, .bool v.2.2] 29)))
                      have R4 : Box (ArrAt (w3.alloc (.cells #[.int .i64 v.1, .int .i64 v.2.1, .bool v.2.2] 29)) mb ms1) := hid (keep_heap R5.out (Keeps.alloc [] w3 (.cells #[.int .i64 v.1, .int .i64 v.2.1, .bool v.2.2] 29)))
                      have V4 := hid (heap_new w3 (.cells #[.int .i64 v.1, .int .i64 v.2.1, .bool v.2.2] 29))
                      generalize w3.alloc (.cells #[.int .i64 v.1, .int .i64 v.2.1, .bool v.2.2] 29) = w4 at *
                      generalize w3.heap.size = qb at *
                      clear A5 R5
                      have CE : Box (w4.cell? ⟨mb, j * 6 + f * 3, none⟩ = some (.int .i64 v.1) ∧ w4.cell? ⟨mb, j * 6 + f * 3 + 1, none⟩ = some (.int .i64 v.2.1) ∧ w4.cell? ⟨mb, j * 6 + f * 3 + 2, none⟩ = some (.bool v.2.2)) := hid (by
                        have := arr_at R4.out E.out.2
                        rw [show (2 * j + f) * 3 = j * 6 + f * 3 by omega] at this
                        exact this)
                      refine wp_region_det (W0 := w4) 128 [(.int .i64 0 : Value), (.bool false : Value), (.bool false : Value), (.agg #[.int .i64 v.1, .int .i64 v.2.1, .bool v.2.2] : Value), (.int .i64 (j : Int) : Value), (.int .i64 (f : Int) : Value), (.pointer (some ⟨mb, j * 6, none⟩) : Value), (.pointer (some ⟨mb, j * 6 + f * 3, none⟩) : Value), (.agg #[.int .i64 v.1, .int .i64 v.2.1, .bool v.2.2] : Value), (.bool true : Value), (.bool false : Value), (.bool false : Value)] (by kernel_rfl) (by rfl) (by kernel_rfl) (Keeps.refl _ _) (fun A hA => ?_)
                      simp only [putAll, Act.put, List.setIfInBounds_toArray, List.set_cons_zero, List.set_cons_succ] at hA
                      subst hA
                      refine ⟨gR <| gY (fun _ _ => hb_neq rfl rfl rfl rfl) <| gR <| gY (fun _ k9 => hld_v (keep_heap V4.out k9) rfl rfl) <| gR <| gR <| gY (fun _ _ => pc_ix rfl rfl rfl hj20) <| gY (fun _ _ => pc_ix2 rfl rfl rfl hf2) <| gY (fun _ k9 => pc_ldv (cell_stays k9 CE.out.1) (cell_stays k9 CE.out.2.1) (cell_stays k9 CE.out.2.2) rfl rfl) <| AllGive.cons (give_call (by rfl) 13 #[vlV v, vlV v] (fun w => exec_call2 rfl rfl rfl rfl (enter_eqv _ _ w)) (fun w _ => eqv_same _ w)) <| gY (fun _ _ => hb_not rfl rfl) <| gR <| AllGive.nil, fun w9 k9 => ?_⟩
                      have A6 := hid (A4.out.quiet k9)
                      have R6 : Box (ArrAt w9 mb ms1) := hid (keep_heap R4.out k9)
                      clear A4 R4 V4 CE E k9
                      go_wp2_with fail
                      go_roundw
                      case rel => exact ⟨f + 1, by omega, by go_num, A6, R6⟩
                      case measure => simp [intOf]; omega
                    · obtain rfl : f = 2 := by omega
                      go_wp2_with fail
                      go_roundw
                      case rel => exact ⟨j + 1, by omega, by go_num, A3, R3⟩
                      case measure => simp [intOf]; omega
                · obtain rfl : N = j := by omega
                  go_wp2_with fail
                  go_ret
                  exact ⟨rfl, AP.out.mine.keeps⟩
end Go.Proofs.Ytpllhcifoiahpaa
