/-
  The statement UnionAll: its walk.
-/
import Derived.Test.YtllfgbgbbjajoaaUHand
import Derived.Deep.DeepCutAuto
namespace Go.Proofs.Ytllfgbgbbjajoaa
open Go.RowKit

set_option maxHeartbeats 40000000 in
set_option maxRecDepth 20000 in
theorem all_core (a : Int) (pa : Option Addr) (L cap : Nat) (zs : List (Int × Int)) (w : World) (hz : PairsAt w pa zs) (hL : zs.length = L) (hL2 : L ≤ 9223372036854775807) :
    Calls Try.prog 3 #[.int .i64 a, .slice pa L cap] w fun e w' => e = .returned (.bool true) ∧ Keeps [] w w' := by
  have HA := hid (begun_any w)
  have HZ := hid hz
  have HL := hid hL
  clear hz hL
  go_enter Try.func3, Try.ntmps3
  go_wp2_with fail
  refine HA.out.mono ?_
  rintro e w1 ⟨rfl, hk1⟩
  clear HA
  go_upto_if 25 with fail
  go_cut [0] (fun v0 wx => v0 = .int .i64 (min a 60) ∧ wx = w1)
  case first =>
    by_cases h : 60 < a
    · have hb : decide (60 < a) = true := decide_eq_true h
      go_wp2
      go_meet
      exact ⟨by rw [show min a 60 = 60 by omega], rfl⟩
    · have hb : decide (60 < a) = false := decide_eq_false h
      go_wp2
      go_meet
      exact ⟨by rw [show min a 60 = a by omega], rfl⟩
  case rest =>
    obtain ⟨rfl, rfl⟩ := hcut
    obtain ⟨n, hn⟩ : ∃ n : Nat, (min (max a 0) 60).toNat = n := ⟨_, rfl⟩
    have HN := hid (new_raw (min a 60) n wc (by omega))
    have hn60 : n ≤ 60 := by omega
    go_wp2_with fail
    refine HN.out.mono ?_
    rintro e w2 ⟨rfl, hu2, hk2⟩
    have hO : Box (One w w2 wc.heap.size n fun k => k) := hid ⟨hu2, hk1.quiet hk2, hk1.size⟩
    clear HN hu2 hk2 hk1
    generalize wc.heap.size = bl at hO ⊢
    go_upto_if 29 with fail
    go_cut [0] (fun v0 wx => v0 = .int .i64 (n : Int) ∧ wx = w2)
    case first =>
      by_cases h : min a 60 < 0
      · have hb : decide (min a 60 < 0) = true := decide_eq_true h
        go_wp2
        go_meet
        exact ⟨by rw [show (n : Int) = 0 by omega], rfl⟩
      · have hb : decide (min a 60 < 0) = false := decide_eq_false h
        go_wp2
        go_meet
        exact ⟨by rw [show (n : Int) = min a 60 by omega], rfl⟩
    case rest =>
      obtain ⟨rfl, rfl⟩ := hcut
      clear hn
      go_wp2_with (at_make; refine wpList_make_row _ rfl _ _ 26 rfl 3 Try.t3 (.int .i64 0) under_ints info_int zero_int size_int rfl .i64 .i64 n rfl rfl (by rw [bytes_int]; omega) (by omega) ?_)
      have hM := hid (name_new w wc bl n _ hO.out)
      clear hO
      generalize wc.alloc (Obj.cells (madeCells #[Value.int IntKind.i64 0] n) 3) = wd at hM ⊢
      generalize wc.heap.size = N at hM ⊢
      go_loopw [8] (fun i wr => ∃ k : Nat, k ≤ n ∧ i = .int .i64 k ∧ Box (AM w wr bl n N (fun k => k) (mixF (fun _ => 0) (fun k => k) k))) (fun i _ => n - (intOf i).toNat)
      case atStart => exact ⟨0, by omega, rfl, hM⟩
      case round =>
        clear hM
        obtain ⟨k, hk, rfl, hM⟩ := hrel
        by_cases hlt : k < n
        · have hlt' : (k : Int) < (n : Int) := by omega
          have c0 := hM.out.cell hlt
          have f0 := hM.out.frozen k
          have hM2 := hid (hM.out.put k k)
          rw [mix_step] at hM2
          clear hM
          go_wp2
          go_roundw
          case rel => exact ⟨k + 1, by omega, by go_num, hM2⟩
          case measure => simp [intOf]; omega
        · obtain rfl : k = n := by omega
          have hM2 : Box (AM w wr bl k N (fun k => k) (fun k => k)) := hid (hM.out.congr (mix_end _ _))
          clear hM
          go_wp2_with fail
          go_loopw [9] (fun i wr => ∃ (j : Nat) (r : Nat → Nat), j ≤ L ∧ j ≤ 60 ∧ i = .int .i64 j ∧ Box (AM w wr bl k N r r)) (fun i _ => L - (intOf i).toNat)
          case atStart => exact ⟨0, _, by omega, by omega, rfl, hM2⟩
          case round =>
            clear hM2
            obtain ⟨j, r, hj, hj60, rfl, hM⟩ := hrel
            by_cases hgo : j < L ∧ j < 60
            · obtain ⟨hlt, hlt60⟩ := hgo
              have hltj : (j : Int) < (L : Int) := by omega
              have hltj60 : (j : Int) < 60 := by omega
              rcases HZ.out with h0 | ⟨bp, op, rfl, hc⟩
              · have := HL.out
                rw [h0] at this
                simp at this
                omega
              · obtain ⟨c1, c2⟩ := hc j (by rw [HL.out]; exact hlt)
                have d1 := (hM.out.one.keep.cell (p := ⟨bp, op + j * 2, none⟩) (block_lt_of_cell c1) (by simp)).trans c1
                have d2 := (hM.out.one.keep.cell (p := ⟨bp, op + j * 2 + 1, none⟩) (block_lt_of_cell c2) (by simp)).trans c2
                clear c1 c2 hc
                generalize (zs.getD j (0, 0)).1 = p at d1
                generalize (zs.getD j (0, 0)).2 = q at d2
                go_wp2
                go_quiet (fail)
                have hM1 := hid (hM.out.quiet (Keeps.drewN [] _ nq))
                clear d1 d2 hM
                generalize wr.drewN nq = wx at hM1 ⊢
                go_upto_region 18 with fail
                go_cut [12] (fun v wz => v = .bool (decide ((0 ≤ p ∧ p < (k : Int)) ∧ 0 ≤ q ∧ q < (k : Int))) ∧ wz = wx)
                case first =>
                  by_cases h1 : 0 ≤ p
                  · by_cases h2 : p < (k : Int)
                    · by_cases h3 : 0 ≤ q
                      · by_cases h4 : q < (k : Int)
                        · have e4 : decide (q < (k : Int)) = true := decide_eq_true h4
                          go_wp2
                          go_meet
                          exact ⟨congrArg Value.bool (decide_eq_true ⟨⟨h1, h2⟩, h3, h4⟩).symm, rfl⟩
                        · have e4 : decide (q < (k : Int)) = false := decide_eq_false h4
                          go_wp2
                          go_meet
                          exact ⟨congrArg Value.bool (decide_eq_false fun hh => by omega).symm, rfl⟩
                      · go_wp2
                        go_meet
                        exact ⟨congrArg Value.bool (decide_eq_false fun hh => by omega).symm, rfl⟩
                    · go_wp2
                      go_meet
                      exact ⟨congrArg Value.bool (decide_eq_false fun hh => by omega).symm, rfl⟩
                  · go_wp2
                    go_meet
                    exact ⟨congrArg Value.bool (decide_eq_false fun hh => by omega).symm, rfl⟩
                case rest =>
                  obtain ⟨hv, rfl⟩ := hcut
                  by_cases hin : (0 ≤ p ∧ p < (k : Int)) ∧ 0 ≤ q ∧ q < (k : Int)
                  · rw [decide_eq_true hin] at hv
                    subst hv
                    obtain ⟨x, rfl⟩ := Int.eq_ofNat_of_zero_le hin.1.1
                    obtain ⟨y, rfl⟩ := Int.eq_ofNat_of_zero_le hin.2.1
                    have hx : x < k := by omega
                    have hy : y < k := by omega
                    have cx := hM1.out.cell hx
                    have cy := hM1.out.cell hy
                    clear hin
                    go_wp2
                    go_quiet (fail)
                    have hM2 := hid (hM1.out.quiet (Keeps.drewN [] _ nq))
                    clear cx cy hM1
                    generalize wc.drewN nq = wy at hM2 ⊢
                    have HJ := hid (am_join hM2.out (x : Int) (y : Int))
                    rw [joinB_in k r x y hx hy] at HJ
                    obtain ⟨Q, hQ⟩ : ∃ Q, (((r x : Nat) : Int) != ((r y : Nat) : Int)) = Q := ⟨_, rfl⟩
                    rw [hQ] at HJ ⊢
                    have hqq : (Q != Q) = false := by simp
                    have HQ := hid hQ
                    have hrx := hid (hM2.out.one.u.least)
                    clear hQ hM2
                    go_wp2_with fail
                    refine HJ.out.mono ?_
                    rintro e w5 ⟨rfl, hM5⟩
                    have H5 := hid hM5
                    clear HJ hM5
                    go_upto_if 95 with fail
                    go_cut [14, 15, 16] (fun _ _ _ wz => Box (AM w wz bl k N (joinI k r (x : Int) (y : Int)) (joinI k r (x : Int) (y : Int))))
                    case first =>
                      as_aux_lemma =>
                        cases Q with
                        | false =>
                          have e0 : joinI k r (x : Int) (y : Int) = r := by
                            have h := HQ.out
                            have h2 : r x = r y := by
                              by_cases hh : r x = r y
                              · exact hh
                              · rw [bne_iff_ne.2 (show ¬ ((r x : Nat) : Int) = ((r y : Nat) : Int) by omega)] at h
                                cases h
                            rw [joinI_in k r x y hx hy, h2, joined_same]
                          have H6 : Box (AM w w5 bl k N (joinI k r (x : Int) (y : Int)) (joinI k r (x : Int) (y : Int))) := hid (by have := H5.out; rw [e0] at this ⊢; exact this)
                          clear H5 e0
                          go_wp2
                          go_meet
                          exact H6
                        | true =>
                          have hne : r x ≠ r y := by
                            have h := HQ.out
                            intro hh
                            rw [hh] at h
                            simp at h
                          have cx := H5.out.cell hx
                          have cy := H5.out.cell hy
                          have hbx := (hrx.out.below x hx)
                          have hby := (hrx.out.below y hy)
                          have hst : Box (∀ i, joinI k r (x : Int) (y : Int) i = if r i = max (r x) (r y) then min (r x) (r y) else r i) := hid (fun i => by rw [joinI_in k r x y hx hy]; rfl)
                          have H6 : Box (AM w w5 bl k N (joinI k r (x : Int) (y : Int)) (mixF r (joinI k r (x : Int) (y : Int)) 0)) := hid (by rw [mix_0]; exact H5.out)
                          clear H5
                          generalize joinI k r (x : Int) (y : Int) = r2 at *
                          obtain ⟨x1, hx1⟩ : ∃ x1, r x = x1 := ⟨_, rfl⟩
                          obtain ⟨y1, hy1⟩ : ∃ y1, r y = y1 := ⟨_, rfl⟩
                          rw [hx1] at cx hne hbx hst
                          rw [hy1] at cy hne hby hst
                          clear hx1 hy1
                          go_wp2
                          go_quiet (fail)
                          have H7 := hid (H6.out.quiet (Keeps.drewN [] _ nq))
                          clear H6 cx cy
                          generalize w5.drewN nq = wy2 at H7 ⊢
                          have e1 : (if y1 < x1 then (y1 : Int) else (x1 : Int)) = ((min x1 y1 : Nat) : Int) := by split <;> omega
                          have e2 : (if x1 < y1 then (y1 : Int) else (x1 : Int)) = ((max x1 y1 : Nat) : Int) := by split <;> omega
                          rw [e1, e2]
                          clear e1 e2
                          obtain ⟨lo, hlo⟩ : ∃ lo, min x1 y1 = lo := ⟨_, rfl⟩
                          obtain ⟨hi, hhi⟩ : ∃ hi, max x1 y1 = hi := ⟨_, rfl⟩
                          rw [hlo, hhi] at hst ⊢
                          have hi60 : hi ≤ 60 := by omega
                          have lo60 : lo ≤ 60 := by omega
                          clear hlo hhi hne hbx hby hqq
                          go_wp2_with fail
                          go_loopw [16] (fun v wz => ∃ i : Nat, i ≤ k ∧ v = .int .i64 i ∧ Box (AM w wz bl k N r2 (mixF r r2 i))) (fun v _ => k - (intOf v).toNat)
                          case atStart => exact ⟨0, by omega, rfl, H7⟩
                          case round =>
                            clear H7
                            obtain ⟨i, hik, rfl, H7⟩ := hrel
                            by_cases hi' : i < k
                            · have hilt : (i : Int) < (k : Int) := by omega
                              have ci := H7.out.cell hi'
                              have fi := H7.out.frozen i
                              rw [mix_at] at ci
                              have hs := hst.out i
                              by_cases hri : r i = hi
                              · rw [if_pos hri] at hs
                                have H8 := hid (H7.out.put i lo)
                                rw [← hs, mix_step] at H8
                                rw [hri] at ci
                                rw [hs] at H8
                                have hbe : ((hi : Int) == (hi : Int)) = true := by simp
                                clear H7 hs hri
                                go_wp2
                                go_roundw
                                case rel => exact ⟨i + 1, by omega, by go_num, H8⟩
                                case measure => simp [intOf]; omega
                              · rw [if_neg hri] at hs
                                have H8 : Box (AM w wr bl k N r2 (mixF r r2 (i + 1))) := hid (by rw [← mix_same r r2 i hs]; exact H7.out)
                                have hbe : (((r i : Nat) : Int) == (hi : Int)) = false := by rw [beq_eq_false_iff_ne]; omega
                                generalize r i = z at *
                                clear H7 hs hri
                                go_wp2
                                go_roundw
                                case rel => exact ⟨i + 1, by omega, by go_num, H8⟩
                                case measure => simp [intOf]; omega
                            · obtain rfl : i = k := by omega
                              have H8 : Box (AM w wr bl i N r2 r2) := hid (H7.out.congr (mix_end _ _))
                              clear H7
                              go_wp2
                              go_meet
                              exact H8
                    case rest =>
                      as_aux_lemma =>
                        have HS : Box (∀ w9 : World, (Box (AM w w9 bl k N (joinI k r (x : Int) (y : Int)) (joinI k r (x : Int) (y : Int))) ∧ w9.cell? ⟨N, x, none⟩ = some (.int .i64 ((joinI k r (x : Int) (y : Int)) x : Nat))) → Calls Try.prog 7 #[.pointer (some ⟨bl, 0, none⟩), .int .i64 (x : Int), .int .i64 (y : Int)] w9 fun e w' => e = .returned (.bool true) ∧ (Box (AM w w' bl k N (joinI k r (x : Int) (y : Int)) (joinI k r (x : Int) (y : Int))) ∧ w'.cell? ⟨N, x, none⟩ = some (.int .i64 ((joinI k r (x : Int) (y : Int)) x : Nat)))) := hid fun w9 h9 => (am_same h9.1.out (x : Int) (y : Int)).mono fun e w' ⟨he, hm⟩ => ⟨by rw [he, sameB_joined k r x y hx hy], hid hm, hm.cell hx⟩
                        have HF : Box (∀ w9 : World, (Box (AM w w9 bl k N (joinI k r (x : Int) (y : Int)) (joinI k r (x : Int) (y : Int))) ∧ w9.cell? ⟨N, x, none⟩ = some (.int .i64 ((joinI k r (x : Int) (y : Int)) x : Nat))) → Calls Try.prog 8 #[.pointer (some ⟨bl, 0, none⟩), .int .i64 (x : Int)] w9 fun e w' => e = .returned (.int .i64 ((joinI k r (x : Int) (y : Int)) x : Nat)) ∧ (Box (AM w w' bl k N (joinI k r (x : Int) (y : Int)) (joinI k r (x : Int) (y : Int))) ∧ w'.cell? ⟨N, x, none⟩ = some (.int .i64 ((joinI k r (x : Int) (y : Int)) x : Nat)))) := hid fun w9 h9 => (am_find h9.1.out (x : Int)).mono fun e w' ⟨he, hm⟩ => ⟨by rw [he, findI_in k _ x hx], hid hm, hm.cell hx⟩
                        have hs0 : Box (AM w wc.drew bl k N (joinI k r (x : Int) (y : Int)) (joinI k r (x : Int) (y : Int))) ∧ wc.drew.cell? ⟨N, x, none⟩ = some (.int .i64 ((joinI k r (x : Int) (y : Int)) x : Nat)) := ⟨hid (hcut.out.quiet (Keeps.drew _ _)), (hcut.out.quiet (Keeps.drew _ _)).cell hx⟩
                        generalize joinI k r (x : Int) (y : Int) = r2 at *
                        have hff : (((r2 x : Nat) : Int) != ((r2 x : Nat) : Int)) = false := by simp
                        clear hcut hqq HQ
                        go_wp2
                        refine wp_region_held_drew (S := fun w' => Box (AM w w' bl k N r2 r2) ∧ w'.cell? ⟨N, x, none⟩ = some (.int .i64 (r2 x : Nat))) (by kernel_rfl) hs0 (fun _ => ?_)
                        refine take_yield (i := 0) (d := 129) (v := .bool true) rfl rfl (by as_aux_lemma => kernel_rfl) (by as_aux_lemma => kernel_rfl) (by as_aux_lemma => kernel_rfl) (fun _ _ _ h => h) (by rfl) hs0 (fun w9 hw9 => by (try dsimp only at hw9); go_simp) ?_
                        simp only [Act.put, List.setIfInBounds_toArray, List.set_cons_zero, List.set_cons_succ]
                        refine take_yield (i := 1) (d := 130) (v := .bool true) rfl rfl (by as_aux_lemma => kernel_rfl) (by as_aux_lemma => kernel_rfl) (by as_aux_lemma => kernel_rfl) (fun _ _ _ h => h) (by rfl) hs0 (fun w9 hw9 => by (try dsimp only at hw9); go_simp) ?_
                        simp only [Act.put, List.setIfInBounds_toArray, List.set_cons_zero, List.set_cons_succ]
                        refine take_yield (i := 2) (d := 131) (v := .pointer (some ⟨bl, 0, none⟩)) rfl rfl (by as_aux_lemma => kernel_rfl) (by as_aux_lemma => kernel_rfl) (by as_aux_lemma => kernel_rfl) (fun _ _ _ h => h) (by rfl) hs0 (fun w9 hw9 => by (try dsimp only at hw9); go_simp) ?_
                        simp only [Act.put, List.setIfInBounds_toArray, List.set_cons_zero, List.set_cons_succ]
                        refine take_yield (i := 3) (d := 132) (v := .int .i64 (x : Int)) rfl rfl (by as_aux_lemma => kernel_rfl) (by as_aux_lemma => kernel_rfl) (by as_aux_lemma => kernel_rfl) (fun _ _ _ h => h) (by rfl) hs0 (fun w9 hw9 => by (try dsimp only at hw9); go_simp) ?_
                        simp only [Act.put, List.setIfInBounds_toArray, List.set_cons_zero, List.set_cons_succ]
                        refine take_yield (i := 4) (d := 133) (v := .int .i64 (y : Int)) rfl rfl (by as_aux_lemma => kernel_rfl) (by as_aux_lemma => kernel_rfl) (by as_aux_lemma => kernel_rfl) (fun _ _ _ h => h) (by rfl) hs0 (fun w9 hw9 => by (try dsimp only at hw9); go_simp) ?_
                        simp only [Act.put, List.setIfInBounds_toArray, List.set_cons_zero, List.set_cons_succ]
                        refine take_call (i := 5) (d := 134) rfl rfl (by as_aux_lemma => kernel_rfl) (by rfl) 7 #[.pointer (some ⟨bl, 0, none⟩), .int .i64 (x : Int), .int .i64 (y : Int)] (by first | rfl | (go_simp; done)) (.bool true) (HS.out _ hs0) ?_
                        intro w7 hs7
                        simp only [Act.put, List.setIfInBounds_toArray, List.set_cons_zero, List.set_cons_succ]
                        refine take_yield (i := 6) (d := 135) (v := .bool false) rfl rfl (by as_aux_lemma => kernel_rfl) (by as_aux_lemma => kernel_rfl) (by as_aux_lemma => kernel_rfl) (fun _ _ _ h => h) (by rfl) hs7 (fun w9 hw9 => by (try dsimp only at hw9); go_simp) ?_
                        simp only [Act.put, List.setIfInBounds_toArray, List.set_cons_zero, List.set_cons_succ]
                        refine take_yield (i := 7) (d := 136) (v := .bool false) rfl rfl (by as_aux_lemma => kernel_rfl) (by as_aux_lemma => kernel_rfl) (by as_aux_lemma => kernel_rfl) (fun _ _ _ h => h) (by rfl) hs7 (fun w9 hw9 => by (try dsimp only at hw9); go_simp) ?_
                        simp only [Act.put, List.setIfInBounds_toArray, List.set_cons_zero, List.set_cons_succ]
                        refine take_yield (i := 8) (d := 137) (v := .pointer (some ⟨bl, 0, none⟩)) rfl rfl (by as_aux_lemma => kernel_rfl) (by as_aux_lemma => kernel_rfl) (by as_aux_lemma => kernel_rfl) (fun _ _ _ h => h) (by rfl) hs7 (fun w9 hw9 => by (try dsimp only at hw9); go_simp) ?_
                        simp only [Act.put, List.setIfInBounds_toArray, List.set_cons_zero, List.set_cons_succ]
                        refine take_yield (i := 9) (d := 138) (v := .int .i64 (x : Int)) rfl rfl (by as_aux_lemma => kernel_rfl) (by as_aux_lemma => kernel_rfl) (by as_aux_lemma => kernel_rfl) (fun _ _ _ h => h) (by rfl) hs7 (fun w9 hw9 => by (try dsimp only at hw9); go_simp) ?_
                        simp only [Act.put, List.setIfInBounds_toArray, List.set_cons_zero, List.set_cons_succ]
                        refine take_yield (i := 11) (d := 140) (v := .slice (some ⟨N, 0, none⟩) k k) rfl rfl (by as_aux_lemma => kernel_rfl) (by as_aux_lemma => kernel_rfl) (by as_aux_lemma => kernel_rfl) (fun _ _ _ h => h) (by rfl) hs7 (fun w9 hw9 => by (try dsimp only at hw9); go_simp) ?_
                        simp only [Act.put, List.setIfInBounds_toArray, List.set_cons_zero, List.set_cons_succ]
                        refine take_yield (i := 12) (d := 141) (v := .int .i64 (x : Int)) rfl rfl (by as_aux_lemma => kernel_rfl) (by as_aux_lemma => kernel_rfl) (by as_aux_lemma => kernel_rfl) (fun _ _ _ h => h) (by rfl) hs7 (fun w9 hw9 => by (try dsimp only at hw9); go_simp) ?_
                        simp only [Act.put, List.setIfInBounds_toArray, List.set_cons_zero, List.set_cons_succ]
                        refine take_yield (i := 13) (d := 142) (v := .pointer (some ⟨N, x, none⟩)) rfl rfl (by as_aux_lemma => kernel_rfl) (by as_aux_lemma => kernel_rfl) (by as_aux_lemma => kernel_rfl) (fun _ _ _ h => h) (by rfl) hs7 (fun w9 hw9 => by (try dsimp only at hw9); go_simp) ?_
                        simp only [Act.put, List.setIfInBounds_toArray, List.set_cons_zero, List.set_cons_succ]
                        refine take_yield (i := 14) (d := 143) (v := .int .i64 ((r2 x : Nat) : Int)) rfl rfl (by as_aux_lemma => kernel_rfl) (by as_aux_lemma => kernel_rfl) (by as_aux_lemma => kernel_rfl) (fun _ _ _ h => h) (by rfl) hs7 (fun w9 hw9 => by (try dsimp only at hw9); go_simp) ?_
                        simp only [Act.put, List.setIfInBounds_toArray, List.set_cons_zero, List.set_cons_succ]
                        refine take_call (i := 10) (d := 139) rfl rfl (by as_aux_lemma => kernel_rfl) (by rfl) 8 #[.pointer (some ⟨bl, 0, none⟩), .int .i64 (x : Int)] (by first | rfl | (go_simp; done)) (.int .i64 ((r2 x : Nat) : Int)) (HF.out _ hs7) ?_
                        intro w8 hs8
                        simp only [Act.put, List.setIfInBounds_toArray, List.set_cons_zero, List.set_cons_succ]
                        refine take_yield (i := 15) (d := 144) (v := .bool false) rfl rfl (by as_aux_lemma => kernel_rfl) (by as_aux_lemma => kernel_rfl) (by as_aux_lemma => kernel_rfl) (fun _ _ _ h => h) (by rfl) hs8 (fun w9 hw9 => by (try dsimp only at hw9); go_simp) ?_
                        simp only [Act.put, List.setIfInBounds_toArray, List.set_cons_zero, List.set_cons_succ]
                        refine take_yield (i := 16) (d := 145) (v := .bool false) rfl rfl (by as_aux_lemma => kernel_rfl) (by as_aux_lemma => kernel_rfl) (by as_aux_lemma => kernel_rfl) (fun _ _ _ h => h) (by rfl) hs8 (fun w9 hw9 => by (try dsimp only at hw9); go_simp) ?_
                        simp only [Act.put, List.setIfInBounds_toArray, List.set_cons_zero, List.set_cons_succ]
                        refine take_yield (i := 17) (d := 146) (v := .bool false) rfl rfl (by as_aux_lemma => kernel_rfl) (by as_aux_lemma => kernel_rfl) (by as_aux_lemma => kernel_rfl) (fun _ _ _ h => h) (by rfl) hs8 (fun w9 hw9 => by (try dsimp only at hw9); go_simp) ?_
                        simp only [Act.put, List.setIfInBounds_toArray, List.set_cons_zero, List.set_cons_succ]
                        refine take_yield (i := 18) (d := 147) (v := .bool false) rfl rfl (by as_aux_lemma => kernel_rfl) (by as_aux_lemma => kernel_rfl) (by as_aux_lemma => kernel_rfl) (fun _ _ _ h => h) (by rfl) hs8 (fun w9 hw9 => by (try dsimp only at hw9); go_simp) ?_
                        simp only [Act.put, List.setIfInBounds_toArray, List.set_cons_zero, List.set_cons_succ]
                        refine take_yield (i := 19) (d := 148) (v := .bool true) rfl rfl (by as_aux_lemma => kernel_rfl) (by as_aux_lemma => kernel_rfl) (by as_aux_lemma => kernel_rfl) (fun _ _ _ h => h) (by rfl) hs8 (fun w9 hw9 => by (try dsimp only at hw9); go_simp) ?_
                        simp only [Act.put, List.setIfInBounds_toArray, List.set_cons_zero, List.set_cons_succ]
                        refine take_yield (i := 20) (d := 149) (v := .bool false) rfl rfl (by as_aux_lemma => kernel_rfl) (by as_aux_lemma => kernel_rfl) (by as_aux_lemma => kernel_rfl) (fun _ _ _ h => h) (by rfl) hs8 (fun w9 hw9 => by (try dsimp only at hw9); go_simp) ?_
                        simp only [Act.put, List.setIfInBounds_toArray, List.set_cons_zero, List.set_cons_succ]
                        refine take_yield (i := 21) (d := 150) (v := .bool false) rfl rfl (by as_aux_lemma => kernel_rfl) (by as_aux_lemma => kernel_rfl) (by as_aux_lemma => kernel_rfl) (fun _ _ _ h => h) (by rfl) hs8 (fun w9 hw9 => by (try dsimp only at hw9); go_simp) ?_
                        simp only [Act.put, List.setIfInBounds_toArray, List.set_cons_zero, List.set_cons_succ]
                        refine take_pass (i := 22) (d := 151) rfl rfl (by as_aux_lemma => kernel_rfl) (by as_aux_lemma => kernel_rfl) (by as_aux_lemma => kernel_rfl) (fun _ _ _ h => h) (by rfl) hs8 ?_
                        simp only [Act.put, List.setIfInBounds_toArray, List.set_cons_zero, List.set_cons_succ]
                        refine take_pass (i := 23) (d := 152) rfl rfl (by as_aux_lemma => kernel_rfl) (by as_aux_lemma => kernel_rfl) (by as_aux_lemma => kernel_rfl) (fun _ _ _ h => h) (by rfl) hs8 ?_
                        simp only [Act.put, List.setIfInBounds_toArray, List.set_cons_zero, List.set_cons_succ]
                        refine take_pass (i := 24) (d := 153) rfl rfl (by as_aux_lemma => kernel_rfl) (by as_aux_lemma => kernel_rfl) (by as_aux_lemma => kernel_rfl) (fun _ _ _ h => h) (by rfl) hs8 ?_
                        simp only [Act.put, List.setIfInBounds_toArray, List.set_cons_zero, List.set_cons_succ]
                        refine take_pass (i := 25) (d := 154) rfl rfl (by as_aux_lemma => kernel_rfl) (by as_aux_lemma => kernel_rfl) (by as_aux_lemma => kernel_rfl) (fun _ _ _ h => h) (by rfl) hs8 ?_
                        simp only [Act.put, List.setIfInBounds_toArray, List.set_cons_zero, List.set_cons_succ]
                        refine take_yield (i := 26) (d := 155) (v := .bool false) rfl rfl (by as_aux_lemma => kernel_rfl) (by as_aux_lemma => kernel_rfl) (by as_aux_lemma => kernel_rfl) (fun _ _ _ h => h) (by rfl) hs8 (fun w9 hw9 => by (try dsimp only at hw9); go_simp) ?_
                        simp only [Act.put, List.setIfInBounds_toArray, List.set_cons_zero, List.set_cons_succ]
                        refine take_yield (i := 27) (d := 156) (v := .bool false) rfl rfl (by as_aux_lemma => kernel_rfl) (by as_aux_lemma => kernel_rfl) (by as_aux_lemma => kernel_rfl) (fun _ _ _ h => h) (by rfl) hs8 (fun w9 hw9 => by (try dsimp only at hw9); go_simp) ?_
                        simp only [Act.put, List.setIfInBounds_toArray, List.set_cons_zero, List.set_cons_succ]
                        refine wpAnyH_done (by as_aux_lemma => kernel_rfl) ?_ _
                        have H8 := hs8.1
                        go_wp2
                        go_roundw
                        case rel => exact ⟨j + 1, _, by omega, by omega, by go_num, H8⟩
                        case measure => simp [intOf]; omega
                  · rw [decide_eq_false hin] at hv
                    subst hv
                    go_wp2
                    go_quiet (fail)
                    have hM2 := hid (hM1.out.quiet (Keeps.drewN [] _ nq))
                    clear hM1
                    generalize wc.drewN nq = wy at hM2 ⊢
                    have HJ := hid (am_join hM2.out p q)
                    rw [joinB_out k r p q hin, joinI_out k r p q hin] at HJ
                    have HS : Box (∀ w9 : World, Box (AM w w9 bl k N r r) → Calls Try.prog 7 #[.pointer (some ⟨bl, 0, none⟩), .int .i64 p, .int .i64 q] w9 fun e w' => e = .returned (.bool false) ∧ Box (AM w w' bl k N r r)) := hid fun w9 h9 => (am_same h9.out p q).mono fun e w' ⟨he, hm⟩ => ⟨by rw [he, sameB_out k r p q hin], hid hm⟩
                    clear hin hM2
                    go_wp2_with fail
                    refine HJ.out.mono ?_
                    rintro e w5 ⟨rfl, hM5⟩
                    have hs0 := hid (hM5.quiet (Keeps.drew [] w5))
                    clear HJ hM5
                    go_wp2
                    refine wp_region_held_drew (S := fun w' => Box (AM w w' bl k N r r)) (by kernel_rfl) hs0 (fun _ => ?_)
                    refine take_yield (i := 0) (d := 129) (v := .bool false) rfl rfl (by as_aux_lemma => kernel_rfl) (by as_aux_lemma => kernel_rfl) (by as_aux_lemma => kernel_rfl) (fun _ _ _ h => h) (by rfl) hs0 (fun w9 hw9 => by (try dsimp only at hw9); go_simp) ?_
                    simp only [Act.put, List.setIfInBounds_toArray, List.set_cons_zero, List.set_cons_succ]
                    refine take_yield (i := 1) (d := 130) (v := .bool false) rfl rfl (by as_aux_lemma => kernel_rfl) (by as_aux_lemma => kernel_rfl) (by as_aux_lemma => kernel_rfl) (fun _ _ _ h => h) (by rfl) hs0 (fun w9 hw9 => by (try dsimp only at hw9); go_simp) ?_
                    simp only [Act.put, List.setIfInBounds_toArray, List.set_cons_zero, List.set_cons_succ]
                    refine take_pass (i := 2) (d := 131) rfl rfl (by as_aux_lemma => kernel_rfl) (by as_aux_lemma => kernel_rfl) (by as_aux_lemma => kernel_rfl) (fun _ _ _ h => h) (by rfl) hs0 ?_
                    simp only [Act.put, List.setIfInBounds_toArray, List.set_cons_zero, List.set_cons_succ]
                    refine take_pass (i := 3) (d := 132) rfl rfl (by as_aux_lemma => kernel_rfl) (by as_aux_lemma => kernel_rfl) (by as_aux_lemma => kernel_rfl) (fun _ _ _ h => h) (by rfl) hs0 ?_
                    simp only [Act.put, List.setIfInBounds_toArray, List.set_cons_zero, List.set_cons_succ]
                    refine take_pass (i := 4) (d := 133) rfl rfl (by as_aux_lemma => kernel_rfl) (by as_aux_lemma => kernel_rfl) (by as_aux_lemma => kernel_rfl) (fun _ _ _ h => h) (by rfl) hs0 ?_
                    simp only [Act.put, List.setIfInBounds_toArray, List.set_cons_zero, List.set_cons_succ]
                    refine take_pass (i := 5) (d := 134) rfl rfl (by as_aux_lemma => kernel_rfl) (by as_aux_lemma => kernel_rfl) (by as_aux_lemma => kernel_rfl) (fun _ _ _ h => h) (by rfl) hs0 ?_
                    simp only [Act.put, List.setIfInBounds_toArray, List.set_cons_zero, List.set_cons_succ]
                    refine take_pass (i := 6) (d := 135) rfl rfl (by as_aux_lemma => kernel_rfl) (by as_aux_lemma => kernel_rfl) (by as_aux_lemma => kernel_rfl) (fun _ _ _ h => h) (by rfl) hs0 ?_
                    simp only [Act.put, List.setIfInBounds_toArray, List.set_cons_zero, List.set_cons_succ]
                    refine take_pass (i := 7) (d := 136) rfl rfl (by as_aux_lemma => kernel_rfl) (by as_aux_lemma => kernel_rfl) (by as_aux_lemma => kernel_rfl) (fun _ _ _ h => h) (by rfl) hs0 ?_
                    simp only [Act.put, List.setIfInBounds_toArray, List.set_cons_zero, List.set_cons_succ]
                    refine take_pass (i := 8) (d := 137) rfl rfl (by as_aux_lemma => kernel_rfl) (by as_aux_lemma => kernel_rfl) (by as_aux_lemma => kernel_rfl) (fun _ _ _ h => h) (by rfl) hs0 ?_
                    simp only [Act.put, List.setIfInBounds_toArray, List.set_cons_zero, List.set_cons_succ]
                    refine take_pass (i := 9) (d := 138) rfl rfl (by as_aux_lemma => kernel_rfl) (by as_aux_lemma => kernel_rfl) (by as_aux_lemma => kernel_rfl) (fun _ _ _ h => h) (by rfl) hs0 ?_
                    simp only [Act.put, List.setIfInBounds_toArray, List.set_cons_zero, List.set_cons_succ]
                    refine take_pass (i := 10) (d := 139) rfl rfl (by as_aux_lemma => kernel_rfl) (by as_aux_lemma => kernel_rfl) (by as_aux_lemma => kernel_rfl) (fun _ _ _ h => h) (by rfl) hs0 ?_
                    simp only [Act.put, List.setIfInBounds_toArray, List.set_cons_zero, List.set_cons_succ]
                    refine take_pass (i := 11) (d := 140) rfl rfl (by as_aux_lemma => kernel_rfl) (by as_aux_lemma => kernel_rfl) (by as_aux_lemma => kernel_rfl) (fun _ _ _ h => h) (by rfl) hs0 ?_
                    simp only [Act.put, List.setIfInBounds_toArray, List.set_cons_zero, List.set_cons_succ]
                    refine take_pass (i := 12) (d := 141) rfl rfl (by as_aux_lemma => kernel_rfl) (by as_aux_lemma => kernel_rfl) (by as_aux_lemma => kernel_rfl) (fun _ _ _ h => h) (by rfl) hs0 ?_
                    simp only [Act.put, List.setIfInBounds_toArray, List.set_cons_zero, List.set_cons_succ]
                    refine take_pass (i := 13) (d := 142) rfl rfl (by as_aux_lemma => kernel_rfl) (by as_aux_lemma => kernel_rfl) (by as_aux_lemma => kernel_rfl) (fun _ _ _ h => h) (by rfl) hs0 ?_
                    simp only [Act.put, List.setIfInBounds_toArray, List.set_cons_zero, List.set_cons_succ]
                    refine take_pass (i := 14) (d := 143) rfl rfl (by as_aux_lemma => kernel_rfl) (by as_aux_lemma => kernel_rfl) (by as_aux_lemma => kernel_rfl) (fun _ _ _ h => h) (by rfl) hs0 ?_
                    simp only [Act.put, List.setIfInBounds_toArray, List.set_cons_zero, List.set_cons_succ]
                    refine take_pass (i := 15) (d := 144) rfl rfl (by as_aux_lemma => kernel_rfl) (by as_aux_lemma => kernel_rfl) (by as_aux_lemma => kernel_rfl) (fun _ _ _ h => h) (by rfl) hs0 ?_
                    simp only [Act.put, List.setIfInBounds_toArray, List.set_cons_zero, List.set_cons_succ]
                    refine take_pass (i := 16) (d := 145) rfl rfl (by as_aux_lemma => kernel_rfl) (by as_aux_lemma => kernel_rfl) (by as_aux_lemma => kernel_rfl) (fun _ _ _ h => h) (by rfl) hs0 ?_
                    simp only [Act.put, List.setIfInBounds_toArray, List.set_cons_zero, List.set_cons_succ]
                    refine take_yield (i := 17) (d := 146) (v := .bool false) rfl rfl (by as_aux_lemma => kernel_rfl) (by as_aux_lemma => kernel_rfl) (by as_aux_lemma => kernel_rfl) (fun _ _ _ h => h) (by rfl) hs0 (fun w9 hw9 => by (try dsimp only at hw9); go_simp) ?_
                    simp only [Act.put, List.setIfInBounds_toArray, List.set_cons_zero, List.set_cons_succ]
                    refine take_yield (i := 18) (d := 147) (v := .bool false) rfl rfl (by as_aux_lemma => kernel_rfl) (by as_aux_lemma => kernel_rfl) (by as_aux_lemma => kernel_rfl) (fun _ _ _ h => h) (by rfl) hs0 (fun w9 hw9 => by (try dsimp only at hw9); go_simp) ?_
                    simp only [Act.put, List.setIfInBounds_toArray, List.set_cons_zero, List.set_cons_succ]
                    refine take_yield (i := 19) (d := 148) (v := .bool false) rfl rfl (by as_aux_lemma => kernel_rfl) (by as_aux_lemma => kernel_rfl) (by as_aux_lemma => kernel_rfl) (fun _ _ _ h => h) (by rfl) hs0 (fun w9 hw9 => by (try dsimp only at hw9); go_simp) ?_
                    simp only [Act.put, List.setIfInBounds_toArray, List.set_cons_zero, List.set_cons_succ]
                    refine take_yield (i := 20) (d := 149) (v := .bool true) rfl rfl (by as_aux_lemma => kernel_rfl) (by as_aux_lemma => kernel_rfl) (by as_aux_lemma => kernel_rfl) (fun _ _ _ h => h) (by rfl) hs0 (fun w9 hw9 => by (try dsimp only at hw9); go_simp) ?_
                    simp only [Act.put, List.setIfInBounds_toArray, List.set_cons_zero, List.set_cons_succ]
                    refine take_yield (i := 21) (d := 150) (v := .bool true) rfl rfl (by as_aux_lemma => kernel_rfl) (by as_aux_lemma => kernel_rfl) (by as_aux_lemma => kernel_rfl) (fun _ _ _ h => h) (by rfl) hs0 (fun w9 hw9 => by (try dsimp only at hw9); go_simp) ?_
                    simp only [Act.put, List.setIfInBounds_toArray, List.set_cons_zero, List.set_cons_succ]
                    refine take_yield (i := 22) (d := 151) (v := .pointer (some ⟨bl, 0, none⟩)) rfl rfl (by as_aux_lemma => kernel_rfl) (by as_aux_lemma => kernel_rfl) (by as_aux_lemma => kernel_rfl) (fun _ _ _ h => h) (by rfl) hs0 (fun w9 hw9 => by (try dsimp only at hw9); go_simp) ?_
                    simp only [Act.put, List.setIfInBounds_toArray, List.set_cons_zero, List.set_cons_succ]
                    refine take_yield (i := 23) (d := 152) (v := .int .i64 p) rfl rfl (by as_aux_lemma => kernel_rfl) (by as_aux_lemma => kernel_rfl) (by as_aux_lemma => kernel_rfl) (fun _ _ _ h => h) (by rfl) hs0 (fun w9 hw9 => by (try dsimp only at hw9); go_simp) ?_
                    simp only [Act.put, List.setIfInBounds_toArray, List.set_cons_zero, List.set_cons_succ]
                    refine take_yield (i := 24) (d := 153) (v := .int .i64 q) rfl rfl (by as_aux_lemma => kernel_rfl) (by as_aux_lemma => kernel_rfl) (by as_aux_lemma => kernel_rfl) (fun _ _ _ h => h) (by rfl) hs0 (fun w9 hw9 => by (try dsimp only at hw9); go_simp) ?_
                    simp only [Act.put, List.setIfInBounds_toArray, List.set_cons_zero, List.set_cons_succ]
                    refine take_call (i := 25) (d := 154) rfl rfl (by as_aux_lemma => kernel_rfl) (by rfl) 7 #[.pointer (some ⟨bl, 0, none⟩), .int .i64 p, .int .i64 q] (by first | rfl | (go_simp; done)) (.bool false) (HS.out _ hs0) ?_
                    intro w7 hs7
                    simp only [Act.put, List.setIfInBounds_toArray, List.set_cons_zero, List.set_cons_succ]
                    refine take_yield (i := 26) (d := 155) (v := .bool false) rfl rfl (by as_aux_lemma => kernel_rfl) (by as_aux_lemma => kernel_rfl) (by as_aux_lemma => kernel_rfl) (fun _ _ _ h => h) (by rfl) hs7 (fun w9 hw9 => by (try dsimp only at hw9); go_simp) ?_
                    simp only [Act.put, List.setIfInBounds_toArray, List.set_cons_zero, List.set_cons_succ]
                    refine take_yield (i := 27) (d := 156) (v := .bool false) rfl rfl (by as_aux_lemma => kernel_rfl) (by as_aux_lemma => kernel_rfl) (by as_aux_lemma => kernel_rfl) (fun _ _ _ h => h) (by rfl) hs7 (fun w9 hw9 => by (try dsimp only at hw9); go_simp) ?_
                    simp only [Act.put, List.setIfInBounds_toArray, List.set_cons_zero, List.set_cons_succ]
                    refine wpAnyH_done (by as_aux_lemma => kernel_rfl) ?_ _
                    go_wp2
                    go_roundw
                    case rel => exact ⟨j + 1, _, by omega, by omega, by go_num, hs7⟩
                    case measure => simp [intOf]; omega
            · have hguard : (¬ j < L ∧ decide ((j : Int) < (L : Int)) = false ∧ decide (j < L) = false) ∨ ((j < L ∧ decide ((j : Int) < (L : Int)) = true ∧ decide (j < L) = true) ∧ ¬ j < 60 ∧ decide ((j : Int) < 60) = false ∧ decide (j < 60) = false) := by
                by_cases h2 : j < L
                · right; exact ⟨⟨h2, decide_eq_true (by omega), decide_eq_true h2⟩, by omega, decide_eq_false (by omega), decide_eq_false (by omega)⟩
                · left; exact ⟨h2, decide_eq_false (by omega), decide_eq_false h2⟩
              clear hgo HZ HL
              have hG0 := hid (g4_new hM.out)
              obtain ⟨B, hB⟩ : ∃ B, wr.heap.size = B := ⟨_, rfl⟩
              rw [hB] at hG0
              clear hB hM
              rcases hguard with ⟨hg, hg', hg''⟩ | ⟨⟨hg, hg', hg''⟩, hh, hh', hh''⟩
              all_goals
                as_aux_lemma =>
                  go_wp2_with fail
                  go_loopw [17, 18] (fun v i wz => ∃ m : Nat, m ≤ k ∧ i = .int .i64 m ∧ Box (G4 w wz bl k N B r v (half m k r))) (fun _ i _ => k - (intOf i).toNat)
                  case atStart => exact ⟨0, by omega, rfl, hG0⟩
                  case round =>
                    clear hG0
                    obtain ⟨m, hm, rfl, hG⟩ := hrel
                    by_cases hlt : m < k
                    · have hltm : (m : Int) < (k : Int) := by omega
                      have HF := hid fun (w9 : World) (h9 : Keeps [] wr w9) => g4_find (hG.out.quiet h9) (m : Int)
                      rw [findI_in k r m hlt] at HF
                      have cm := hG.out.am.cell hlt
                      have hrm := hG.out.am.one.u.least.below m hlt
                      have hff : (((r m : Nat) : Int) != ((r m : Nat) : Int)) = false := by simp
                      have hkd : Keeps [] wr wr.drew := Keeps.drew _ _
                      have hLl : (half m k r).length ≤ 60 := by rw [half_len]; have := leads_le m r; omega
                      clear hG
                      go_wp2
                      go_region_with (first | (go_at_call 8; refine (HF.out _ hkd).mono ?_; rintro e w5 ⟨rfl, hG5⟩; have H5 := hid hG5; have c5 := hG5.am.cell hlt; clear hG5))
                      all_goals
                        clear HF cm hkd hff
                        by_cases hr : r m = m
                        · have hRe := hid hr
                          rw [hr] at c5
                          have hbe : (((m : Nat) : Int) != (m : Int)) = false := by simp
                          clear hr hrm
                          go_wp2_with fail
                          go_loopw [19, 20] (fun l i wz => ∃ t : Nat, t ≤ k ∧ i = .int .i64 t ∧ Box (wz.ownsRow w5.heap.size 3 1 l (membs t r m).length (ints (membs t r m))) ∧ Keeps [] w5 wz) (fun _ i _ => k - (intOf i).toNat)
                          case atStart => exact ⟨0, by omega, rfl, hid (World.ownsRow_nil w5 _ _ _), Keeps.refl _ _⟩
                          case round =>
                            clear c5
                            obtain ⟨t, ht, rfl, hX, hkw⟩ := hrel
                            by_cases htk : t < k
                            · have htk' : (t : Int) < (k : Int) := by omega
                              have ct := (H5.out.quiet hkw).am.cell htk
                              have hml := membs_le t r m
                              by_cases hrt : r t = m
                              · have hst : Box ((membs (t + 1) r m).length = (membs t r m).length + 1 ∧ ints (membs (t + 1) r m) = ints (membs t r m) ++ [.int .i64 (t : Int)]) := hid (by rw [membs_succ, if_pos hrt, ints_snoc]; simp)
                                rw [hrt] at ct
                                have hbt : (((m : Nat) : Int) == (m : Int)) = true := by simp
                                clear hrt
                                generalize (membs t r m).length = nm at hX hml hst
                                generalize ints (membs t r m) = xm at hX hst
                                go_wp2_with (at_builtin; refine wpList_append_own_at _ rfl _ _ 26 rfl w5.heap.size 3 Try.t3 (.int .i64 0) 1 8 under_ints info_int zero_int size_int bytes_int rfl (by decide) _ _ _ rfl (hX.out.alloc _) _ 1 1 [.int .i64 (t : Int)] rfl rfl (cell_one_new _ _ _) (fun x hx => by simp at hx; subst hx; rfl) (by unfold maxLen; omega) (by omega) (by have := hkw.size; simp; omega) ?_; intro v' w6 hown6 hgrow6 hnil6 hat6)
                                have hk6 : Keeps [] w5 w6 := (hkw.quiet (Keeps.alloc [] _ _)).appended hX.out hgrow6 (Nat.le_refl _)
                                have hX6 : Box (w6.ownsRow w5.heap.size 3 1 v' (membs (t + 1) r m).length (ints (membs (t + 1) r m))) := hid (by rw [hst.out.1, hst.out.2]; exact hown6)
                                clear hown6 hgrow6 hnil6 hat6 hX hkw hst ct
                                go_wp2
                                go_roundw
                                case rel => exact ⟨t + 1, by omega, by go_num, hX6, hk6⟩
                                case measure => simp [intOf]; omega
                              · have hX6 : Box (wr.ownsRow w5.heap.size 3 1 u19 (membs (t + 1) r m).length (ints (membs (t + 1) r m))) := hid (by rw [membs_succ, if_neg hrt, List.append_nil]; exact hX.out)
                                have hbt : (((r t : Nat) : Int) == (m : Int)) = false := by rw [beq_eq_false_iff_ne]; omega
                                clear hX hrt
                                generalize r t = zt at ct hbt
                                go_wp2
                                go_roundw
                                case rel => exact ⟨t + 1, by omega, by go_num, hX6, hkw⟩
                                case measure => simp [intOf]; omega
                            · obtain rfl : t = k := by omega
                              obtain ⟨al, cl, hal⟩ := owns_slice hX.out
                              subst hal
                              have hGq := hid (H5.out.quiet hkw)
                              obtain ⟨vs, hgr⟩ := hGq.out.gr
                              have HGr := hid hgr
                              have HBw := hid hGq.out.hB
                              have HB5 := hid H5.out.hB
                              have hhl := hid (half_lead (n := t) hRe.out)
                              clear hgr H5 hkw
                              obtain ⟨nl, hnl⟩ : ∃ nl, (membs t r m).length = nl := ⟨_, rfl⟩
                              rw [hnl] at hX ⊢
                              have HNl := hid hnl
                              clear hnl
                              go_wp2_with (at_builtin; refine wpList_append_own_at _ rfl _ _ 30 rfl B 26 Try.t26 (.slice none 0 0) 1 24 under_lists info_ints zero_ints size_ints bytes_ints rfl (by decide) _ _ _ rfl (HGr.out.outer.alloc _) _ 1 1 [.slice al nl cl] rfl rfl (cell_one_new _ _ _) (fun x hx => by simp at hx; subst hx; rfl) (by unfold maxLen; omega) (by omega) (by have := HBw.out; simp; omega) ?_; intro v' w6 hown6 hgrow6 hnil6 hat6)
                              have H6 : Box (G4 w w6 bl t N B r v' (half (m + 1) t r)) := hid (by
                                rw [hhl.out]
                                exact hGq.out.push HGr.out (Keeps.alloc [] _ _) (by rw [HNl.out]; exact hX.out) HB5.out hown6 hgrow6)
                              clear hown6 hgrow6 hnil6 hat6 hX hGq HGr HBw HB5 hhl HNl
                              go_wp2
                              go_roundw
                              case rel => exact ⟨m + 1, by omega, by go_num, H6⟩
                              case measure => simp [intOf]; omega
                        · have H6 : Box (G4 w w5 bl k N B r u17 (half (m + 1) k r)) := hid (by rw [half_not hr]; exact H5.out)
                          have hbe : (((r m : Nat) : Int) != (m : Int)) = true := by rw [bne_iff_ne]; omega
                          clear H5 hr
                          generalize r m = zm at c5 hbe hrm
                          go_wp2
                          go_roundw
                          case rel => exact ⟨m + 1, by omega, by go_num, H6⟩
                          case measure => simp [intOf]; omega
                    · obtain rfl : m = k := by omega
                      obtain ⟨vs, hgr⟩ := hG.out.gr
                      obtain ⟨av, cv, hv, hls⟩ := hgr.lists
                      subst hv
                      have hLs := hid hls
                      clear hgr hls
                      have HGu := hid (groups_any bl m r wr hG.out.am.one.u)
                      obtain ⟨l6, hl6⟩ : ∃ l6, (listsI (groups m r)).length = l6 := ⟨_, rfl⟩
                      have e1 : (half m m r).length = l6 := by rw [← hl6, listsI_len]; rfl
                      have e2 : (leads m r).length = l6 := by rw [← e1, half_len]
                      rw [hl6] at HGu
                      rw [e1]
                      have E2 := hid e2
                      have HL6 := hid hl6
                      clear e1 e2 hl6
                      go_wp2_with fail
                      refine HGu.out.mono ?_
                      rintro e w5 ⟨g5, c5, rfl, hl5, hu5, hk5⟩
                      have hA5 := hid (hG.out.am.on hu5 hk5)
                      have hL5 := hid (hLs.out.kept hk5 (fun x hx => by have := hG.out.hb; simp at hx; omega))
                      have HE := hid (eqall_any (some ⟨g5, 0, none⟩) av wr.heap.size B c5 cv (listsI (groups m r)) (listsI (groups m r)) w5 hl5 hL5.out (groups_le m r (by omega)) (groups_li m r (by omega)))
                      rw [decide_eq_true rfl, HL6.out] at HE
                      clear HGu hl5 hu5 hk5 hG hLs hL5
                      go_wp2_with fail
                      refine HE.out.mono ?_
                      rintro e w6 ⟨rfl, m6, rfl⟩
                      have hA6 := hid (hA5.out.quiet (Keeps.drewN [] _ m6))
                      generalize w5.drewN m6 = w6 at hA6 ⊢
                      have HU := hid (ulen_any bl m r w6 hA6.out.one.u)
                      rw [E2.out] at HU
                      clear HE hA5
                      go_wp2_with fail
                      refine HU.out.mono ?_
                      rintro e w7 ⟨rfl, hw7⟩
                      obtain rfl := hw7.symm
                      clear hw7 HU
                      have hll : ((l6 : Int) == (l6 : Int)) = true := by simp
                      go_wp2
                      go_ret
                      exact ⟨rfl, hA6.out.one.keep⟩

theorem all_any (a : Int) (pa : Option Addr) (cap : Nat) (zs : List (Int × Int)) (w : World) (hz : PairsAt w pa zs) (hl : zs.length ≤ maxLen) (_ : zs.length ≤ cap) :
    Calls Try.prog 3 #[.int .i64 a, .slice pa zs.length cap] w fun e w' => e = .returned (.bool true) ∧ Keeps [] w w' :=
  all_core a pa zs.length cap zs w hz rfl (by unfold maxLen at hl; omega)
end Go.Proofs.Ytllfgbgbbjajoaa
