/-
  HeapAll: the walk.
-/
import Derived.Test.YtpllhcifoiahpaaHpHDk
namespace Go.Proofs.Ytpllhcifoiahpaa
open Go.RowKit

theorem want_out {ms : List Ob} {zk zo zf : Int} (h : foW ms zo ≠ 0) : wantZ ms zk zo zf = foW ms zo := by
  unfold wantZ
  split
  · exact slW_bad zf h
  · rfl
theorem want_other {ms : List Ob} {zk zo zf : Int} (h1 : zk ≠ 1) (h2 : zk ≠ 2) : wantZ ms zk zo zf = foW ms zo := if_neg (by omega)
theorem want_get {ms : List Ob} {zk zo zf : Int} (h : zk = 1 ∨ zk = 2) : wantZ ms zk zo zf = slW ms zo zf := if_pos h
set_option maxRecDepth 20000 in
set_option maxHeartbeats 16000000 in
theorem heapAll_walk (a : Option Addr) (cp : Nat) (zs : List HOp) (w : World) (hz : RowsAt w 8 HOpC a zs) (_ : zs.length ≤ maxLen) (_ : zs.length ≤ cp) : Calls Try.prog 3 #[.slice a zs.length cp] w fun e w' => e = .returned (.bool true) ∧ Keeps [] w w' := by
  have HZ := hid hz
  clear hz
  obtain ⟨L, hL⟩ : ∃ L, L = zs.length := ⟨_, rfl⟩
  rw [← hL]
  have HL := hid hL
  clear hL
  go_enter Try.func3, Try.ntmps3
  go_wp2_with fail
  refine (begun_any w).mono ?_
  rintro e w1 ⟨rfl, k⟩
  have K1 := hid k
  clear k
  go_wp2_with fail
  refine (new_hp w1).mono ?_
  rintro e w3 ⟨rfl, hh, hk⟩
  obtain ⟨hp, hhp⟩ : ∃ hp, hp = w1.heap.size := ⟨_, rfl⟩
  have M2 := Mine.new hh hk hhp
  have M3 : Mine w w3 hp [] [hp] := ⟨M2.has, K1.out.quiet M2.keeps, fun x hx => Nat.le_trans K1.out.size (M2.young x hx)⟩
  have H0 : Box (∃ os F ms G, Hs w w3 hp os F (.slice none 0 0) ms G ∧ Sim os ms ∧ ms.length ≤ 0) := hid ⟨[], [hp], [], [], ⟨M3, Obs.nil _ _ _ (fun _ h => by cases h), (fun _ h => by cases h), (fun _ _ h => by cases h)⟩, Sim.nil, Nat.le_refl _⟩
  rw [← hhp]
  clear hh hk hhp K1 M2 M3
  go_wp2_with fail
  go_loopw [5, 6] (fun mv iv wr => ∃ (k : Nat), k ≤ L ∧ k ≤ 60 ∧ iv = .int .i64 (k : Int) ∧ Box (∃ os F ms G, Hs w wr hp os F mv ms G ∧ Sim os ms ∧ ms.length ≤ k)) (fun _ iv _ => L - (intOf iv).toNat)
  case atStart => exact ⟨0, by omega, by omega, rfl, H0⟩
  case round =>
    obtain ⟨k, hk, hk60, rfl, HF⟩ := hrel
    clear H0
    obtain ⟨os, F, ms, G, hs, sm, hml⟩ := HF.out
    have HS := hid hs
    have SM := hid sm
    obtain ⟨ma, mc, hmv, hmc⟩ := HS.out.doc.len
    have MV := hid hmv
    obtain ⟨M, hM⟩ : ∃ M, M = ms.length := ⟨_, rfl⟩
    rw [← hM] at hmv hml hmc MV
    have HM := hid hM
    subst hmv
    clear hs sm HF hM MV
    by_cases hlt : k < L
    case neg => as_aux_lemma =>
      have hlt' : ¬ (k : Int) < (L : Int) := by omega
      go_wp2_with fail
      go_ret
      exact ⟨rfl, HS.out.mine.keeps⟩
    by_cases hl6 : k < 60
    case neg => as_aux_lemma =>
      have hlt' : (k : Int) < (L : Int) := by omega
      have hl6' : ¬ (k : Int) < 60 := by omega
      go_wp2_with fail
      go_ret
      exact ⟨rfl, HS.out.mine.keeps⟩
    have hlt' : (k : Int) < (L : Int) := by omega
    have hl6' : (k : Int) < 60 := by omega
    obtain ⟨z, hz⟩ : ∃ z, zs[k]? = some z := ⟨_, List.getElem?_eq_getElem (by rw [← HL.out]; exact hlt)⟩
    obtain ⟨rb, ro, ha, hc9⟩ := HZ.out.at hz
    have hc := HOpC.stays _ _ _ _ _ HS.out.mine.keeps hc9
    subst ha
    obtain ⟨zk, zn, zf, zo, zt, zvk, zvn, zvt⟩ := z
    obtain ⟨ra, rc, h4, hra, hrc, hrm⟩ := hc9.c4
    have c0 : wr.cell? ⟨rb, ro + k * 8, none⟩ = some (.int .i64 zk) := hc.c0.1
    have c1 : wr.cell? ⟨rb, ro + k * 8 + 1, none⟩ = some (.int .i64 zn) := hc.c1.1
    have c2 : wr.cell? ⟨rb, ro + k * 8 + 2, none⟩ = some (.int .i64 zf) := hc.c2.1
    have c3 : wr.cell? ⟨rb, ro + k * 8 + 3, none⟩ = some (.int .i64 zo) := hc.c3.1
    have c4 : wr.cell? ⟨rb, ro + k * 8 + 4, none⟩ = some (.slice ra zt.length rc) := cell_stays HS.out.mine.keeps h4
    have c5 : wr.cell? ⟨rb, ro + k * 8 + 5, none⟩ = some (.int .i64 zvk) := hc.c5.c0.1
    have c6 : wr.cell? ⟨rb, ro + k * 8 + 6, none⟩ = some (.int .i64 zvn) := hc.c5.c1.1
    have c7 : wr.cell? ⟨rb, ro + k * 8 + 7, none⟩ = some (.bool zvt) := hc.c5.c2
    have RA0 : Box (RowsAt w 2 TyC ra zt) := hid hra
    have RC : Box (zt.length ≤ rc ∧ zt.length ≤ maxLen) := hid (And.intro hrc hrm)
    obtain ⟨tn, htn⟩ : ∃ n, n = zt.length := ⟨_, rfl⟩
    rw [← htn] at c4
    have TN := hid htn
    clear hc hc9 h4 hra hrc hrm hz htn
    have hrb := block_lt_of_cell c0
    go_upto_region 10 with fail
    have HS2 := hid (HS.out.quiet (Keeps.alloc [] wr (.cells #[.int .i64 zk, .int .i64 zn, .int .i64 zf, .int .i64 zo, .slice ra tn rc, .int .i64 zvk, .int .i64 zvn, .bool zvt] 31)))
    have BK := hid (heap_new wr (.cells #[.int .i64 zk, .int .i64 zn, .int .i64 zf, .int .i64 zo, .slice ra tn rc, .int .i64 zvk, .int .i64 zvn, .bool zvt] 31))
    have OF : Box (wr.heap.size ∉ F ∧ wr.heap.size ∉ G) := hid ⟨HS.out.mine.off (Nat.le_refl _), fun hx => by
      have := HS.out.doc.lt _ hx
      omega⟩
    have YB : Box (w.heap.size ≤ wr.heap.size) := hid HS.out.mine.keeps.size
    generalize wr.alloc (.cells #[.int .i64 zk, .int .i64 zn, .int .i64 zf, .int .i64 zo, .slice ra tn rc, .int .i64 zvk, .int .i64 zvn, .bool zvt] 31) = w2 at *
    generalize wr.heap.size = ob at *
    have RD : Box (Rd w w2 ob #[.int .i64 zk, .int .i64 zn, .int .i64 zf, .int .i64 zo, .slice ra tn rc, .int .i64 zvk, .int .i64 zvn, .bool zvt] hp os F (.slice ma M mc) ms G) := hid ⟨HS2.out, BK.out, OF.out.1, OF.out.2⟩
    clear c0 c1 c2 c3 c4 c5 c6 c7 hrb HS HS2 BK OF
    go_cut [8] (fun t8 wz => ∃ inb : Bool, t8 = .bool inb ∧ Box (inb = decide (1 ≤ zo ∧ zo ≤ (M : Int))) ∧ wz = w2)
    case first => as_aux_lemma =>
      have o3 := hcell RD.out.blk 3
      by_cases h1 : (1 : Int) ≤ zo
      · by_cases h2 : zo ≤ (M : Int)
        · have HD : Box (decide (1 ≤ zo ∧ zo ≤ (M : Int)) = true) := hid (decide_eq_true ⟨h1, h2⟩)
          go_wp2_with fail
          go_meet
          exact ⟨true, rfl, hid HD.out.symm, rfl⟩
        · have HD : Box (decide (1 ≤ zo ∧ zo ≤ (M : Int)) = false) := hid (decide_eq_false (fun h => h2 h.2))
          go_wp2_with fail
          go_meet
          exact ⟨false, rfl, hid HD.out.symm, rfl⟩
      · have HD : Box (decide (1 ≤ zo ∧ zo ≤ (M : Int)) = false) := hid (decide_eq_false (fun h => h1 h.1))
        go_wp2_with fail
        go_meet
        exact ⟨false, rfl, hid HD.out.symm, rfl⟩
    case rest => as_aux_lemma =>
    obtain ⟨inb, hte, HIN, hwz⟩ := hcut
    subst hte
    have hwz' := hwz.symm
    subst hwz'
    clear hwz
    go_upto_if 45 with fail
    go_cut [9] (fun t9 wz => ∃ W : Int, t9 = .int .i64 W ∧ Box (W = wantZ ms zk zo zf) ∧ Box (Keeps [] w2 wz))
    case first => as_aux_lemma =>
      rcases foW_cases ms zo with ho | ⟨j, m, rfl, hm⟩
      · obtain rfl : inb = false := by rw [HIN.out]; exact decide_eq_false (by rw [HM.out]; omega)
        have HW : Box (wantZ ms zk zo zf = 1) := hid (by rw [want_out (by rw [foW_out ho]; decide), foW_out ho])
        clear ho
        go_wp2_with fail
        go_meet
        exact ⟨1, rfl, hid HW.out.symm, hid (Keeps.refl _ _)⟩
      · have hjm : j < ms.length := (List.getElem?_eq_some_iff.1 hm).1
        obtain rfl : inb = true := by rw [HIN.out]; exact decide_eq_true (by rw [HM.out]; omega)
        obtain ⟨mg, mc', hmv, hmc2, _, d0, d1, d2, _, _⟩ := RD.out.hs.doc.at hm
        rw [← HM.out] at hmv hjm
        simp at hmv
        obtain ⟨rfl, rfl⟩ := hmv
        have o3 := hcell RD.out.blk 3
        have hjk : j < 1000 := by omega
        have hj1 : (j : Int) < (M : Int) := by omega
        cases hfr : m.free with
        | true =>
          have HW : Box (wantZ ms zk ((j : Int) + 1) zf = 2) := hid (by
            have : foW ms ((j : Int) + 1) = 2 := by rw [foW_in hm, hfr]; rfl
            rw [want_out (by rw [this]; decide), this])
          have d2' : w2.cell? ⟨mg, j * 3 + 2, none⟩ = some (.bool true) := by rw [d2]; unfold obR; rw [hfr]
          clear d0 d1 d2 hm hfr hmc2
          go_wp2_with fail
          go_meet
          exact ⟨2, rfl, hid HW.out.symm, hid (Keeps.refl _ _)⟩
        | false =>
          obtain ⟨fa, fc, hfs⟩ := RD.out.hs.doc.fslen hm
          obtain ⟨VN, hVN⟩ : ∃ n, n = m.vs.length := ⟨_, rfl⟩
          rw [← hVN] at hfs
          have o0 := hcell RD.out.blk 0
          have o2 := hcell RD.out.blk 2
          have d1' : w2.cell? ⟨mg, 0 + j * 3 + 1, none⟩ = some (.slice fa VN fc) := by
            rw [Nat.zero_add, d1]
            unfold obR
            rw [hfs]
          have d2' : w2.cell? ⟨mg, j * 3 + 2, none⟩ = some (.bool false) := by rw [d2]; unfold obR; rw [hfr]
          have HS := hid (show slW ms ((j : Int) + 1) zf = if zf < 0 ∨ (VN : Int) ≤ zf then 1 else 0 by rw [slW_live zf hm hfr, hVN])
          have HF := hid (show foW ms ((j : Int) + 1) = 0 by rw [foW_in hm, hfr]; rfl)
          clear d0 d1 d2 hm hfr hmc2 hfs hVN
          go_upto_region 16 with fail
          by_cases h1 : zk = 1
          · have hk1 : (zk == 1) = true := by simpa using h1
            by_cases g1 : zf < 0
            · have hf1 : decide (zf < 0) = true := decide_eq_true g1
              as_aux_lemma =>
                refine wp_region_det (W0 := w2) 248 [(.pointer (some ⟨ob, 0, none⟩) : Value), (.int .i64 zk : Value), (.bool true : Value), (.bool true : Value), (undef : Value), (undef : Value), (undef : Value), (.bool true : Value), (.bool true : Value), (.pointer (some ⟨ob, 2, none⟩) : Value), (.int .i64 zf : Value), (.bool true : Value), (.bool true : Value), (undef : Value), (undef : Value), (undef : Value), (undef : Value), (undef : Value), (undef : Value), (undef : Value), (undef : Value), (undef : Value), (undef : Value), (undef : Value), (.bool true : Value), (.bool true : Value)] (by kernel_rfl) (by rfl) (by kernel_rfl) (Keeps.refl _ _) (fun A hA => ?_)
                simp only [putAll, Act.put, List.setIfInBounds_toArray, List.set_cons_zero, List.set_cons_succ] at hA
                subst hA
                refine ⟨gR <| gY (fun _ k9 => xld_int (cell_stays k9 o0) rfl rfl) <| gY (fun _ _ => xb_eql rfl rfl rfl hk1) <| gR <| gP <| gP <| gP <| gR <| gR <| gR <| gY (fun _ k9 => xld_int (cell_stays k9 o2) rfl rfl) <| gY (fun _ _ => xb_lss rfl rfl rfl hf1) <| gR <| gP <| gP <| gP <| gP <| gP <| gP <| gP <| gP <| gP <| gP <| gP <| gR <| gR <| AllGive.nil, fun w9 k9 => ?_⟩
                go_wp2_with fail
                go_meet
                exact ⟨1, rfl, hid (by rw [want_get (.inl h1), HS.out, if_pos (.inl g1)]), hid k9⟩
            · have hf1 : decide (zf < 0) = false := decide_eq_false g1
              by_cases g2 : (VN : Int) ≤ zf
              · have hf2 : decide ((VN : Int) ≤ zf) = true := decide_eq_true g2
                as_aux_lemma =>
                  refine wp_region_det (W0 := w2) 248 [(.pointer (some ⟨ob, 0, none⟩) : Value), (.int .i64 zk : Value), (.bool true : Value), (.bool true : Value), (undef : Value), (undef : Value), (undef : Value), (.bool true : Value), (.bool true : Value), (.pointer (some ⟨ob, 2, none⟩) : Value), (.int .i64 zf : Value), (.bool false : Value), (.bool false : Value), (.pointer (some ⟨ob, 2, none⟩) : Value), (.int .i64 zf : Value), (.slice (some ⟨mg, 0, none⟩) M mc : Value), (.pointer (some ⟨ob, 3, none⟩) : Value), (.int .i64 ((j : Int) + 1) : Value), (.int .i64 (j : Int) : Value), (.pointer (some ⟨mg, 0 + j * 3, none⟩) : Value), (.pointer (some ⟨mg, 0 + j * 3 + 1, none⟩) : Value), (.slice fa VN fc : Value), (.int .i64 (VN : Int) : Value), (.bool true : Value), (.bool true : Value), (.bool true : Value)] (by kernel_rfl) (by rfl) (by kernel_rfl) (Keeps.refl _ _) (fun A hA => ?_)
                  simp only [putAll, Act.put, List.setIfInBounds_toArray, List.set_cons_zero, List.set_cons_succ] at hA
                  subst hA
                  refine ⟨gR <| gY (fun _ k9 => xld_int (cell_stays k9 o0) rfl rfl) <| gY (fun _ _ => xb_eql rfl rfl rfl hk1) <| gR <| gP <| gP <| gP <| gR <| gR <| gR <| gY (fun _ k9 => xld_int (cell_stays k9 o2) rfl rfl) <| gY (fun _ _ => xb_lss rfl rfl rfl hf1) <| gR <| gR <| gY (fun _ k9 => xld_int (cell_stays k9 o2) rfl rfl) <| gR <| gR <| gY (fun _ k9 => xld_i64 (cell_stays k9 o3) rfl rfl) <| gY (fun _ _ => xsub6 rfl rfl rfl hjk) <| gY (fun _ _ => xix_objs rfl rfl rfl hj1) <| gR <| gY (fun _ k9 => xld_vls (cell_stays k9 d1') rfl rfl) <| gY (fun _ _ => xlen_vls rfl rfl) <| gY (fun _ _ => xb_geq rfl rfl rfl hf2) <| gR <| gR <| AllGive.nil, fun w9 k9 => ?_⟩
                  go_wp2_with fail
                  go_meet
                  exact ⟨1, rfl, hid (by rw [want_get (.inl h1), HS.out, if_pos (.inr g2)]), hid k9⟩
              · have hf2 : decide ((VN : Int) ≤ zf) = false := decide_eq_false g2
                as_aux_lemma =>
                  refine wp_region_det (W0 := w2) 248 [(.pointer (some ⟨ob, 0, none⟩) : Value), (.int .i64 zk : Value), (.bool true : Value), (.bool true : Value), (undef : Value), (undef : Value), (undef : Value), (.bool true : Value), (.bool true : Value), (.pointer (some ⟨ob, 2, none⟩) : Value), (.int .i64 zf : Value), (.bool false : Value), (.bool false : Value), (.pointer (some ⟨ob, 2, none⟩) : Value), (.int .i64 zf : Value), (.slice (some ⟨mg, 0, none⟩) M mc : Value), (.pointer (some ⟨ob, 3, none⟩) : Value), (.int .i64 ((j : Int) + 1) : Value), (.int .i64 (j : Int) : Value), (.pointer (some ⟨mg, 0 + j * 3, none⟩) : Value), (.pointer (some ⟨mg, 0 + j * 3 + 1, none⟩) : Value), (.slice fa VN fc : Value), (.int .i64 (VN : Int) : Value), (.bool false : Value), (.bool false : Value), (.bool false : Value)] (by kernel_rfl) (by rfl) (by kernel_rfl) (Keeps.refl _ _) (fun A hA => ?_)
                  simp only [putAll, Act.put, List.setIfInBounds_toArray, List.set_cons_zero, List.set_cons_succ] at hA
                  subst hA
                  refine ⟨gR <| gY (fun _ k9 => xld_int (cell_stays k9 o0) rfl rfl) <| gY (fun _ _ => xb_eql rfl rfl rfl hk1) <| gR <| gP <| gP <| gP <| gR <| gR <| gR <| gY (fun _ k9 => xld_int (cell_stays k9 o2) rfl rfl) <| gY (fun _ _ => xb_lss rfl rfl rfl hf1) <| gR <| gR <| gY (fun _ k9 => xld_int (cell_stays k9 o2) rfl rfl) <| gR <| gR <| gY (fun _ k9 => xld_i64 (cell_stays k9 o3) rfl rfl) <| gY (fun _ _ => xsub6 rfl rfl rfl hjk) <| gY (fun _ _ => xix_objs rfl rfl rfl hj1) <| gR <| gY (fun _ k9 => xld_vls (cell_stays k9 d1') rfl rfl) <| gY (fun _ _ => xlen_vls rfl rfl) <| gY (fun _ _ => xb_geq rfl rfl rfl hf2) <| gR <| gR <| AllGive.nil, fun w9 k9 => ?_⟩
                  go_wp2_with fail
                  go_meet
                  exact ⟨0, rfl, hid (by rw [want_get (.inl h1), HS.out, if_neg (by omega)]), hid k9⟩
          · have hk1 : (zk == 1) = false := by simpa using h1
            by_cases h2 : zk = 2
            · have hk2 : (zk == 2) = true := by simpa using h2
              by_cases g1 : zf < 0
              · have hf1 : decide (zf < 0) = true := decide_eq_true g1
                as_aux_lemma =>
                  refine wp_region_det (W0 := w2) 248 [(.pointer (some ⟨ob, 0, none⟩) : Value), (.int .i64 zk : Value), (.bool false : Value), (.bool false : Value), (.pointer (some ⟨ob, 0, none⟩) : Value), (.int .i64 zk : Value), (.bool true : Value), (.bool true : Value), (.bool true : Value), (.pointer (some ⟨ob, 2, none⟩) : Value), (.int .i64 zf : Value), (.bool true : Value), (.bool true : Value), (undef : Value), (undef : Value), (undef : Value), (undef : Value), (undef : Value), (undef : Value), (undef : Value), (undef : Value), (undef : Value), (undef : Value), (undef : Value), (.bool true : Value), (.bool true : Value)] (by kernel_rfl) (by rfl) (by kernel_rfl) (Keeps.refl _ _) (fun A hA => ?_)
                  simp only [putAll, Act.put, List.setIfInBounds_toArray, List.set_cons_zero, List.set_cons_succ] at hA
                  subst hA
                  refine ⟨gR <| gY (fun _ k9 => xld_int (cell_stays k9 o0) rfl rfl) <| gY (fun _ _ => xb_eql rfl rfl rfl hk1) <| gR <| gR <| gY (fun _ k9 => xld_int (cell_stays k9 o0) rfl rfl) <| gY (fun _ _ => xb_eql rfl rfl rfl hk2) <| gR <| gR <| gR <| gY (fun _ k9 => xld_int (cell_stays k9 o2) rfl rfl) <| gY (fun _ _ => xb_lss rfl rfl rfl hf1) <| gR <| gP <| gP <| gP <| gP <| gP <| gP <| gP <| gP <| gP <| gP <| gP <| gR <| gR <| AllGive.nil, fun w9 k9 => ?_⟩
                  go_wp2_with fail
                  go_meet
                  exact ⟨1, rfl, hid (by rw [want_get (.inr h2), HS.out, if_pos (.inl g1)]), hid k9⟩
              · have hf1 : decide (zf < 0) = false := decide_eq_false g1
                by_cases g2 : (VN : Int) ≤ zf
                · have hf2 : decide ((VN : Int) ≤ zf) = true := decide_eq_true g2
                  as_aux_lemma =>
                    refine wp_region_det (W0 := w2) 248 [(.pointer (some ⟨ob, 0, none⟩) : Value), (.int .i64 zk : Value), (.bool false : Value), (.bool false : Value), (.pointer (some ⟨ob, 0, none⟩) : Value), (.int .i64 zk : Value), (.bool true : Value), (.bool true : Value), (.bool true : Value), (.pointer (some ⟨ob, 2, none⟩) : Value), (.int .i64 zf : Value), (.bool false : Value), (.bool false : Value), (.pointer (some ⟨ob, 2, none⟩) : Value), (.int .i64 zf : Value), (.slice (some ⟨mg, 0, none⟩) M mc : Value), (.pointer (some ⟨ob, 3, none⟩) : Value), (.int .i64 ((j : Int) + 1) : Value), (.int .i64 (j : Int) : Value), (.pointer (some ⟨mg, 0 + j * 3, none⟩) : Value), (.pointer (some ⟨mg, 0 + j * 3 + 1, none⟩) : Value), (.slice fa VN fc : Value), (.int .i64 (VN : Int) : Value), (.bool true : Value), (.bool true : Value), (.bool true : Value)] (by kernel_rfl) (by rfl) (by kernel_rfl) (Keeps.refl _ _) (fun A hA => ?_)
                    simp only [putAll, Act.put, List.setIfInBounds_toArray, List.set_cons_zero, List.set_cons_succ] at hA
                    subst hA
                    refine ⟨gR <| gY (fun _ k9 => xld_int (cell_stays k9 o0) rfl rfl) <| gY (fun _ _ => xb_eql rfl rfl rfl hk1) <| gR <| gR <| gY (fun _ k9 => xld_int (cell_stays k9 o0) rfl rfl) <| gY (fun _ _ => xb_eql rfl rfl rfl hk2) <| gR <| gR <| gR <| gY (fun _ k9 => xld_int (cell_stays k9 o2) rfl rfl) <| gY (fun _ _ => xb_lss rfl rfl rfl hf1) <| gR <| gR <| gY (fun _ k9 => xld_int (cell_stays k9 o2) rfl rfl) <| gR <| gR <| gY (fun _ k9 => xld_i64 (cell_stays k9 o3) rfl rfl) <| gY (fun _ _ => xsub6 rfl rfl rfl hjk) <| gY (fun _ _ => xix_objs rfl rfl rfl hj1) <| gR <| gY (fun _ k9 => xld_vls (cell_stays k9 d1') rfl rfl) <| gY (fun _ _ => xlen_vls rfl rfl) <| gY (fun _ _ => xb_geq rfl rfl rfl hf2) <| gR <| gR <| AllGive.nil, fun w9 k9 => ?_⟩
                    go_wp2_with fail
                    go_meet
                    exact ⟨1, rfl, hid (by rw [want_get (.inr h2), HS.out, if_pos (.inr g2)]), hid k9⟩
                · have hf2 : decide ((VN : Int) ≤ zf) = false := decide_eq_false g2
                  as_aux_lemma =>
                    refine wp_region_det (W0 := w2) 248 [(.pointer (some ⟨ob, 0, none⟩) : Value), (.int .i64 zk : Value), (.bool false : Value), (.bool false : Value), (.pointer (some ⟨ob, 0, none⟩) : Value), (.int .i64 zk : Value), (.bool true : Value), (.bool true : Value), (.bool true : Value), (.pointer (some ⟨ob, 2, none⟩) : Value), (.int .i64 zf : Value), (.bool false : Value), (.bool false : Value), (.pointer (some ⟨ob, 2, none⟩) : Value), (.int .i64 zf : Value), (.slice (some ⟨mg, 0, none⟩) M mc : Value), (.pointer (some ⟨ob, 3, none⟩) : Value), (.int .i64 ((j : Int) + 1) : Value), (.int .i64 (j : Int) : Value), (.pointer (some ⟨mg, 0 + j * 3, none⟩) : Value), (.pointer (some ⟨mg, 0 + j * 3 + 1, none⟩) : Value), (.slice fa VN fc : Value), (.int .i64 (VN : Int) : Value), (.bool false : Value), (.bool false : Value), (.bool false : Value)] (by kernel_rfl) (by rfl) (by kernel_rfl) (Keeps.refl _ _) (fun A hA => ?_)
                    simp only [putAll, Act.put, List.setIfInBounds_toArray, List.set_cons_zero, List.set_cons_succ] at hA
                    subst hA
                    refine ⟨gR <| gY (fun _ k9 => xld_int (cell_stays k9 o0) rfl rfl) <| gY (fun _ _ => xb_eql rfl rfl rfl hk1) <| gR <| gR <| gY (fun _ k9 => xld_int (cell_stays k9 o0) rfl rfl) <| gY (fun _ _ => xb_eql rfl rfl rfl hk2) <| gR <| gR <| gR <| gY (fun _ k9 => xld_int (cell_stays k9 o2) rfl rfl) <| gY (fun _ _ => xb_lss rfl rfl rfl hf1) <| gR <| gR <| gY (fun _ k9 => xld_int (cell_stays k9 o2) rfl rfl) <| gR <| gR <| gY (fun _ k9 => xld_i64 (cell_stays k9 o3) rfl rfl) <| gY (fun _ _ => xsub6 rfl rfl rfl hjk) <| gY (fun _ _ => xix_objs rfl rfl rfl hj1) <| gR <| gY (fun _ k9 => xld_vls (cell_stays k9 d1') rfl rfl) <| gY (fun _ _ => xlen_vls rfl rfl) <| gY (fun _ _ => xb_geq rfl rfl rfl hf2) <| gR <| gR <| AllGive.nil, fun w9 k9 => ?_⟩
                    go_wp2_with fail
                    go_meet
                    exact ⟨0, rfl, hid (by rw [want_get (.inr h2), HS.out, if_neg (by omega)]), hid k9⟩
            · have hk2 : (zk == 2) = false := by simpa using h2
              as_aux_lemma =>
                refine wp_region_det (W0 := w2) 248 [(.pointer (some ⟨ob, 0, none⟩) : Value), (.int .i64 zk : Value), (.bool false : Value), (.bool false : Value), (.pointer (some ⟨ob, 0, none⟩) : Value), (.int .i64 zk : Value), (.bool false : Value), (.bool false : Value), (.bool false : Value), (undef : Value), (undef : Value), (undef : Value), (undef : Value), (undef : Value), (undef : Value), (undef : Value), (undef : Value), (undef : Value), (undef : Value), (undef : Value), (undef : Value), (undef : Value), (undef : Value), (undef : Value), (undef : Value), (.bool false : Value)] (by kernel_rfl) (by rfl) (by kernel_rfl) (Keeps.refl _ _) (fun A hA => ?_)
                simp only [putAll, Act.put, List.setIfInBounds_toArray, List.set_cons_zero, List.set_cons_succ] at hA
                subst hA
                refine ⟨gR <| gY (fun _ k9 => xld_int (cell_stays k9 o0) rfl rfl) <| gY (fun _ _ => xb_eql rfl rfl rfl hk1) <| gR <| gR <| gY (fun _ k9 => xld_int (cell_stays k9 o0) rfl rfl) <| gY (fun _ _ => xb_eql rfl rfl rfl hk2) <| gR <| gR <| gP <| gP <| gP <| gP <| gP <| gP <| gP <| gP <| gP <| gP <| gP <| gP <| gP <| gP <| gP <| gP <| gR <| AllGive.nil, fun w9 k9 => ?_⟩
                go_wp2_with fail
                go_meet
                exact ⟨0, rfl, hid (by rw [want_other h1 h2, HF.out]), hid k9⟩
    case rest => as_aux_lemma =>
    obtain ⟨W, hte, HWZ, HK9⟩ := hcut
    subst hte
    have RD9 := hid (RD.out.quiet HK9.out)
    clear RD HK9
    rename Box (Rd w wc ob _ hp os F _ ms G) => RD
    have o0 := hcell RD.out.blk 0
    go_upto_block 2 with fail
    clear o0
    go_cut [5] (fun mv' wz => ∃ os' F' ms' G', Box (Rd w wz ob #[.int .i64 zk, .int .i64 zn, .int .i64 zf, .int .i64 zo, .slice ra tn rc, .int .i64 zvk, .int .i64 zvn, .bool zvt] hp os' F' mv' ms' G') ∧ Box (Sim os' ms') ∧ Box (ms'.length ≤ k + 1 ∧ M ≤ ms'.length ∧ (zk ≠ 0 → ms'.length = M) ∧ ∀ i p, M ≤ i → ms'[i]? = some p → p.free = false))
    case first => as_aux_lemma =>
      by_cases h0 : zk = 0
      · as_aux_lemma =>
        have hk0 : (zk == 0) = true := by simpa using h0
        have H0 := hid h0
        clear h0
        have o4 := hcell RD.out.blk 4
        go_upto_if 101 with fail
        go_cut [10] (fun t10 wz => ∃ n : Nat, t10 = .slice ra n rc ∧ Box (n = min tn 6) ∧ Box (Keeps [] wc wz))
        case first => as_aux_lemma =>
          have hrc := RC.out.1
          rw [← TN.out] at hrc
          by_cases g6 : 6 < tn
          · have g6' : (6 : Int) < (tn : Int) := by omega
            have grc : (6 : Int) ≤ (rc : Int) := by omega
            go_wp2_with fail
            go_meet
            exact ⟨6, rfl, hid (by omega), hid (Keeps.refl _ _)⟩
          · have g6' : ¬ (6 : Int) < (tn : Int) := by omega
            go_wp2_with fail
            go_meet
            exact ⟨tn, rfl, hid (by omega), hid (Keeps.refl _ _)⟩
        case rest => as_aux_lemma =>
        obtain ⟨n, hte, HN, HK⟩ := hcut
        subst hte
        have RD1 := hid (RD.out.quiet HK.out)
        clear RD HK o4
        have o1 := hcell RD1.out.blk 1
        go_upto_region 28 with fail
        have X0 : Box (XS wc (wc.alloc (.cells #[.int .i64 zn, .slice none 0 0, .bool false] 34)) wc.heap.size zn (.slice none 0 0) []) := hid ⟨heap_new _ _, World.ownsRow_nil _ _ _ _, Keeps.alloc [] _ _, Nat.le_refl _⟩
        have RTL := hid ((rows_take RA0.out n).quiet TyC.stays RD1.out.hs.mine.keeps)
        obtain ⟨tl, htl⟩ : ∃ tl, tl = zt.take n := ⟨_, rfl⟩
        rw [← htl] at RTL
        have TLN : Box (tl.length = n) := hid (by rw [htl, List.length_take, ← TN.out, HN.out]; omega)
        have HN6 : n ≤ 6 := by rw [HN.out]; omega
        generalize wc.alloc (.cells #[.int .i64 zn, .slice none 0 0, .bool false] 34) = w6 at *
        generalize wc.heap.size = xb at *
        have HTL := hid htl
        clear o1 htl HN
        go_wp2_with fail
        go_loopw [12] (fun iv wr => ∃ q : Nat, q ≤ n ∧ iv = .int .i64 (q : Int) ∧ Box (∃ fv, XS wc wr xb zn fv ((tl.take q).map zeroV))) (fun iv _ => n - (intOf iv).toNat)
        case atStart => exact ⟨0, by omega, rfl, hid ⟨_, X0.out⟩⟩
        case round =>
          obtain ⟨q, hq, rfl, XE⟩ := hrel
          clear X0
          obtain ⟨fv, xx⟩ := XE.out
          by_cases hqn : q < n
          · as_aux_lemma =>
            have hqn' : (q : Int) < (n : Int) := by omega
            obtain ⟨⟨tk, tt⟩, ht⟩ : ∃ t, tl[q]? = some t := ⟨_, List.getElem?_eq_getElem (by rw [TLN.out]; exact hqn)⟩
            obtain ⟨rb2, ro2, hra, hct⟩ := RTL.out.at ht
            subst hra
            have TS : Box (∀ w', Keeps [] wc w' → w'.cell? ⟨rb2, ro2 + q * 2, none⟩ = some (.int .i64 tk) ∧ w'.cell? ⟨rb2, ro2 + q * 2 + 1, none⟩ = some (.int .i64 tt)) := hid fun w' k' => ⟨cell_stays k' hct.c0.1, cell_stays k' hct.c1.1⟩
            obtain ⟨vs, hvs⟩ : ∃ vs, vs = (tl.take q).map zeroV := ⟨_, rfl⟩
            rw [← hvs] at xx
            obtain ⟨u, hu⟩ : ∃ u, u = zeroV (tk, tt) := ⟨_, rfl⟩
            have HU := hid hu
            have VSU : Box ((tl.take (q + 1)).map zeroV = vs ++ [u]) := hid (by rw [take_snoc ht, hvs, hu])
            have VL : Box (vs.length = q) := hid (by rw [hvs, List.length_map, List.length_take, TLN.out]; omega)
            have hqn9 : (q : Int) < (n : Int) := hqn'
            have XX := hid xx
            clear xx XE hct ht hvs hu
            go_upto_region 31 with fail
            refine wp_region_held_drew (S := fun w' => Keeps [] wc w') (by kernel_rfl) (XX.out.keeps.quiet (Keeps.drew [] wr)) (fun _ => ?_)
            have XD := hid (XX.out.quiet (Keeps.drew [] wr))
            clear XX
            generalize wr.drew = wd at *
            refine tk_yield (i := 0) (d := 113) (v := .pointer (some ⟨xb, 1, none⟩)) rfl rfl (by as_aux_lemma => kernel_rfl) (by as_aux_lemma => kernel_rfl) (by as_aux_lemma => kernel_rfl) (fun _ _ _ h => h) (by rfl) XD.out.keeps (fun _ _ => rfl) ?_
            simp only [Act.put, List.setIfInBounds_toArray, List.set_cons_zero, List.set_cons_succ]
            refine tk_yield (i := 2) (d := 115) (v := .slice (some ⟨rb2, ro2, none⟩) n rc) rfl rfl (by as_aux_lemma => kernel_rfl) (by as_aux_lemma => kernel_rfl) (by as_aux_lemma => kernel_rfl) (fun _ _ _ h => h) (by rfl) XD.out.keeps (fun _ _ => rfl) ?_
            simp only [Act.put, List.setIfInBounds_toArray, List.set_cons_zero, List.set_cons_succ]
            refine tk_yield (i := 3) (d := 116) (v := .int .i64 (q : Int)) rfl rfl (by as_aux_lemma => kernel_rfl) (by as_aux_lemma => kernel_rfl) (by as_aux_lemma => kernel_rfl) (fun _ _ _ h => h) (by rfl) XD.out.keeps (fun _ _ => rfl) ?_
            simp only [Act.put, List.setIfInBounds_toArray, List.set_cons_zero, List.set_cons_succ]
            refine tk_yield (i := 4) (d := 117) (v := .pointer (some ⟨rb2, ro2 + q * 2, none⟩)) rfl rfl (by as_aux_lemma => kernel_rfl) (by as_aux_lemma => kernel_rfl) (by as_aux_lemma => kernel_rfl) (fun _ _ _ h => h) (by rfl) XD.out.keeps (fun _ _ => xix_tys rfl rfl rfl hqn9) ?_
            simp only [Act.put, List.setIfInBounds_toArray, List.set_cons_zero, List.set_cons_succ]
            refine tk_yield (i := 5) (d := 118) (v := .agg #[.int .i64 tk, .int .i64 tt]) rfl rfl (by as_aux_lemma => kernel_rfl) (by as_aux_lemma => kernel_rfl) (by as_aux_lemma => kernel_rfl) (fun _ _ _ h => h) (by rfl) XD.out.keeps (fun w9 h9 => pc_ld (TS.out w9 h9).1 (TS.out w9 h9).2 rfl rfl) ?_
            simp only [Act.put, List.setIfInBounds_toArray, List.set_cons_zero, List.set_cons_succ]
            refine tk_two (i := 1) (j := 6) (by as_aux_lemma => kernel_rfl) ?_ ?_
            · as_aux_lemma =>
                refine tk_run (i := 1) rfl (by rfl) (xld_vls (hcell XD.out.box 1) rfl rfl) ?_
                refine ⟨XD.out.keeps, ?_⟩
                simp only [Act.put, List.setIfInBounds_toArray, List.set_cons_zero, List.set_cons_succ]
                refine tk_one (i := 6) (by as_aux_lemma => kernel_rfl) ?_
                refine tk_call (R := fun v w' => v = vlV (zeroV (tk, tt)) ∧ Keeps [] wd w') (i := 6) (d := 119) rfl rfl (by rfl) 10 #[tyV (tk, tt)] (exec_call1 rfl rfl rfl (enter_rzero _ _)) ((rzero_any (tk, tt) _).mono (fun e w' h => ⟨_, h.1, rfl, h.2⟩)) ?_
                rintro v6 w6 ⟨rfl, k6⟩
                have X6 := hid (XD.out.quiet k6)
                clear k6
                refine ⟨X6.out.keeps, ?_⟩
                simp only [Act.put, List.setIfInBounds_toArray, List.set_cons_zero, List.set_cons_succ]
                rw [← HU.out]
                refine tk_one (i := 7) (by as_aux_lemma => kernel_rfl) ?_
                refine tk_run (i := 7) rfl (by rfl) (hb_bs1 rfl rfl) ?_
                have X7 := hid (X6.out.quiet (Keeps.alloc [] w6 (.cells #[.int .i64 u.1, .int .i64 u.2.1, .bool u.2.2] 29)))
                have UB := hid (heap_new w6 (.cells #[.int .i64 u.1, .int .i64 u.2.1, .bool u.2.2] 29))
                refine ⟨X7.out.keeps, ?_⟩
                simp only [Act.put, List.setIfInBounds_toArray, List.set_cons_zero, List.set_cons_succ]
                refine tk_one (i := 8) (by as_aux_lemma => kernel_rfl) ?_
                refine tk_appv (i := 8) (d := 121) rfl rfl rfl _ _ rfl rfl X7.out.own rfl u UB.out (by rw [VL.out]; omega) X7.out.keeps.size ?_
                intro g8 c8 w8 own8 hg8
                obtain ⟨b8, k8, X8⟩ := X7.out.push own8 hg8
                refine ⟨k8, ?_⟩
                simp only [Act.put, List.setIfInBounds_toArray, List.set_cons_zero, List.set_cons_succ]
                refine tk_one (i := 9) (by as_aux_lemma => kernel_rfl) ?_
                refine tk_run (i := 9) (v := .pointer (some ⟨xb, 1, none⟩)) rfl (by rfl) rfl ?_
                refine ⟨k8, ?_⟩
                simp only [Act.put, List.setIfInBounds_toArray, List.set_cons_zero, List.set_cons_succ]
                refine tk_one (i := 10) (by as_aux_lemma => kernel_rfl) ?_
                refine tk_skip (i := 10) rfl (by rfl) (hst_vls (hcell b8 1) (hfrozen b8 1) rfl rfl rfl) ?_
                refine ⟨X8.keeps, ?_⟩
                simp only [Act.put]
                refine wpAnyH_done (by as_aux_lemma => kernel_rfl) ?_ _
                have XZ : Box (∃ fv, XS wc (w8.setCell ⟨xb, 1, none⟩ (.slice (some ⟨g8, 0, none⟩) (vs.length + 1) c8)) xb zn fv ((tl.take (q + 1)).map zeroV)) := hid ⟨_, by rw [VSU.out]; exact X8⟩
                generalize w8.setCell ⟨xb, 1, none⟩ (.slice (some ⟨g8, 0, none⟩) (vs.length + 1) c8) = w10 at *
                clear X8 b8 k8 own8 hg8 UB X7 XD
                go_wp2_with fail
                go_roundw
                case rel =>
                  obtain ⟨fv', hx⟩ := XZ.out
                  exact ⟨q + 1, by omega, by go_num, hid ⟨fv', hx⟩⟩
                case measure => simp [intOf]; omega
            · as_aux_lemma =>
                refine tk_call (R := fun v w' => v = vlV (zeroV (tk, tt)) ∧ Keeps [] wd w') (i := 6) (d := 119) rfl rfl (by rfl) 10 #[tyV (tk, tt)] (exec_call1 rfl rfl rfl (enter_rzero _ _)) ((rzero_any (tk, tt) _).mono (fun e w' h => ⟨_, h.1, rfl, h.2⟩)) ?_
                rintro v6 w6 ⟨rfl, k6⟩
                have X6 := hid (XD.out.quiet k6)
                clear k6
                refine ⟨X6.out.keeps, ?_⟩
                simp only [Act.put, List.setIfInBounds_toArray, List.set_cons_zero, List.set_cons_succ]
                rw [← HU.out]
                refine tk_two (i := 1) (j := 7) (by as_aux_lemma => kernel_rfl) ?_ ?_
                · as_aux_lemma =>
                    refine tk_run (i := 1) rfl (by rfl) (xld_vls (hcell X6.out.box 1) rfl rfl) ?_
                    refine ⟨X6.out.keeps, ?_⟩
                    simp only [Act.put, List.setIfInBounds_toArray, List.set_cons_zero, List.set_cons_succ]
                    refine tk_one (i := 7) (by as_aux_lemma => kernel_rfl) ?_
                    refine tk_run (i := 7) rfl (by rfl) (hb_bs1 rfl rfl) ?_
                    have X7 := hid (X6.out.quiet (Keeps.alloc [] w6 (.cells #[.int .i64 u.1, .int .i64 u.2.1, .bool u.2.2] 29)))
                    have UB := hid (heap_new w6 (.cells #[.int .i64 u.1, .int .i64 u.2.1, .bool u.2.2] 29))
                    refine ⟨X7.out.keeps, ?_⟩
                    simp only [Act.put, List.setIfInBounds_toArray, List.set_cons_zero, List.set_cons_succ]
                    refine tk_one (i := 8) (by as_aux_lemma => kernel_rfl) ?_
                    refine tk_appv (i := 8) (d := 121) rfl rfl rfl _ _ rfl rfl X7.out.own rfl u UB.out (by rw [VL.out]; omega) X7.out.keeps.size ?_
                    intro g8 c8 w8 own8 hg8
                    obtain ⟨b8, k8, X8⟩ := X7.out.push own8 hg8
                    refine ⟨k8, ?_⟩
                    simp only [Act.put, List.setIfInBounds_toArray, List.set_cons_zero, List.set_cons_succ]
                    refine tk_one (i := 9) (by as_aux_lemma => kernel_rfl) ?_
                    refine tk_run (i := 9) (v := .pointer (some ⟨xb, 1, none⟩)) rfl (by rfl) rfl ?_
                    refine ⟨k8, ?_⟩
                    simp only [Act.put, List.setIfInBounds_toArray, List.set_cons_zero, List.set_cons_succ]
                    refine tk_one (i := 10) (by as_aux_lemma => kernel_rfl) ?_
                    refine tk_skip (i := 10) rfl (by rfl) (hst_vls (hcell b8 1) (hfrozen b8 1) rfl rfl rfl) ?_
                    refine ⟨X8.keeps, ?_⟩
                    simp only [Act.put]
                    refine wpAnyH_done (by as_aux_lemma => kernel_rfl) ?_ _
                    have XZ : Box (∃ fv, XS wc (w8.setCell ⟨xb, 1, none⟩ (.slice (some ⟨g8, 0, none⟩) (vs.length + 1) c8)) xb zn fv ((tl.take (q + 1)).map zeroV)) := hid ⟨_, by rw [VSU.out]; exact X8⟩
                    generalize w8.setCell ⟨xb, 1, none⟩ (.slice (some ⟨g8, 0, none⟩) (vs.length + 1) c8) = w10 at *
                    clear X8 b8 k8 own8 hg8 UB X7 XD
                    go_wp2_with fail
                    go_roundw
                    case rel =>
                      obtain ⟨fv', hx⟩ := XZ.out
                      exact ⟨q + 1, by omega, by go_num, hid ⟨fv', hx⟩⟩
                    case measure => simp [intOf]; omega
                · as_aux_lemma =>
                    refine tk_run (i := 7) rfl (by rfl) (hb_bs1 rfl rfl) ?_
                    have X7 := hid (X6.out.quiet (Keeps.alloc [] w6 (.cells #[.int .i64 u.1, .int .i64 u.2.1, .bool u.2.2] 29)))
                    have UB := hid (heap_new w6 (.cells #[.int .i64 u.1, .int .i64 u.2.1, .bool u.2.2] 29))
                    refine ⟨X7.out.keeps, ?_⟩
                    simp only [Act.put, List.setIfInBounds_toArray, List.set_cons_zero, List.set_cons_succ]
                    refine tk_one (i := 1) (by as_aux_lemma => kernel_rfl) ?_
                    refine tk_run (i := 1) rfl (by rfl) (xld_vls (hcell X7.out.box 1) rfl rfl) ?_
                    refine ⟨X7.out.keeps, ?_⟩
                    simp only [Act.put, List.setIfInBounds_toArray, List.set_cons_zero, List.set_cons_succ]
                    refine tk_one (i := 8) (by as_aux_lemma => kernel_rfl) ?_
                    refine tk_appv (i := 8) (d := 121) rfl rfl rfl _ _ rfl rfl X7.out.own rfl u UB.out (by rw [VL.out]; omega) X7.out.keeps.size ?_
                    intro g8 c8 w8 own8 hg8
                    obtain ⟨b8, k8, X8⟩ := X7.out.push own8 hg8
                    refine ⟨k8, ?_⟩
                    simp only [Act.put, List.setIfInBounds_toArray, List.set_cons_zero, List.set_cons_succ]
                    refine tk_one (i := 9) (by as_aux_lemma => kernel_rfl) ?_
                    refine tk_run (i := 9) (v := .pointer (some ⟨xb, 1, none⟩)) rfl (by rfl) rfl ?_
                    refine ⟨k8, ?_⟩
                    simp only [Act.put, List.setIfInBounds_toArray, List.set_cons_zero, List.set_cons_succ]
                    refine tk_one (i := 10) (by as_aux_lemma => kernel_rfl) ?_
                    refine tk_skip (i := 10) rfl (by rfl) (hst_vls (hcell b8 1) (hfrozen b8 1) rfl rfl rfl) ?_
                    refine ⟨X8.keeps, ?_⟩
                    simp only [Act.put]
                    refine wpAnyH_done (by as_aux_lemma => kernel_rfl) ?_ _
                    have XZ : Box (∃ fv, XS wc (w8.setCell ⟨xb, 1, none⟩ (.slice (some ⟨g8, 0, none⟩) (vs.length + 1) c8)) xb zn fv ((tl.take (q + 1)).map zeroV)) := hid ⟨_, by rw [VSU.out]; exact X8⟩
                    generalize w8.setCell ⟨xb, 1, none⟩ (.slice (some ⟨g8, 0, none⟩) (vs.length + 1) c8) = w10 at *
                    clear X8 b8 k8 own8 hg8 UB X7 XD
                    go_wp2_with fail
                    go_roundw
                    case rel =>
                      obtain ⟨fv', hx⟩ := XZ.out
                      exact ⟨q + 1, by omega, by go_num, hid ⟨fv', hx⟩⟩
                    case measure => simp [intOf]; omega
          · as_aux_lemma =>
            obtain rfl : n = q := by omega
            have xz : XS wc wr xb zn fv (tl.map zeroV) := by
              have e : tl.take n = tl := List.take_of_length_le (by rw [TLN.out]; exact Nat.le_refl _)
              rwa [e] at xx
            have XZ := hid xz
            have RD2 := hid (RD1.out.quiet xz.keeps)
            have OWN : Box (wr.ownsRow 0 34 3 (.slice ma M mc) M (row3 obR ms)) := hid (by
              have := RD2.out.hs.doc.own
              rwa [← HM.out] at this)
            have p0 := hcell xz.box 0
            have p1 := hcell xz.box 1
            have p2 := hcell xz.box 2
            have hM40 : M ≤ 60 := by omega
            clear xx xz XE
            go_upto_region 33 with (at_builtin; go_must (refine wpList_append_lies _ rfl _ _ _ rfl 0 34 Try.t34 (.agg #[.int .i64 0, .slice none 0 0, .bool false]) 3 40 under_robjs info_robj zero_robj size_robj bytes_robj rfl (by decide) (.slice ma M mc) M (row3 obR ms) rfl (OWN.out.alloc _) ⟨wr.heap.size, 0, none⟩ 1 1 [.int .i64 zn, fv, .bool false] rfl rfl (World.news_of_block (cs := #[.int .i64 zn, fv, .bool false]) (t := 34) (fr := (0, 0)) (heap_new wr _)) (three_robj _ _ (own_one XZ.out.own)) (by omega) (by unfold maxLen; omega) (by omega) (by simp) (wr.heap.size + 1) (by simp) ?_; intro g5 cap5 w5 hown5 hgrow5 hat5 hlt5; have RM := hid (RD1.out.more XZ.out HM.out hown5 hgrow5 hat5); clear hown5 hgrow5 hat5 hlt5))
            obtain ⟨G5, rd5⟩ := RM.out
            have RD5 := hid rd5
            have o1 := hcell rd5.blk 1
            have RT5 : Box (RowsAt w5 2 TyC ra tl) := hid (by rw [HTL.out]; exact (rows_take RA0.out n).quiet TyC.stays rd5.hs.mine.keeps)
            have OL : Box (os.length = M) := hid (by rw [SM.out.len, HM.out])
            have C := hid (alloc_room (site := zn) (cp := rc) RD5.out.hs.mine.has (by rw [OL.out]; omega) RT5.out (by rw [TLN.out]; omega))
            rw [TLN.out] at C
            clear rd5 RM p0 p1 p2 OWN XZ RD2
            go_wp2_with fail
            refine C.out.mono ?_
            rintro e w6 ⟨rfl, fs6, F6, h6, k6, n6, -⟩
            have RD6 := hid (RD5.out.heap h6 k6 n6)
            clear C RD5 RT5 h6 k6 n6 o1
            rw [OL.out]
            go_wp2_with fail
            go_meet
            refine ⟨_, F6, _, G5, hid RD6.out, hid (SM.out.push zn fs6 fv (tl.map zeroV)), hid ⟨by simp [← HM.out]; omega, by simp [HM.out], fun e => absurd H0.out e, fun i p hi hp => ?_⟩⟩
            rw [List.getElem?_append_right (by rw [← HM.out]; exact hi)] at hp
            by_cases e : i - ms.length = 0
            · rw [e] at hp
              simp at hp
              rw [← hp]
            · rw [List.getElem?_eq_none (by simp; omega)] at hp
              cases hp
      by_cases h1 : zk = 1
      · as_aux_lemma =>
        have hk0 : (zk == 0) = false := by simpa using h0
        have hk1 : (zk == 1) = true := by simpa using h1
        have H1 := hid h1
        clear h1
        have C := hid (get_any RD.out.hs.mine.has zo zf)
        have HW : Box (slW ms zo zf = W) := hid (by rw [HWZ.out, want_get (.inl H1.out)])
        obtain ⟨v, hv0⟩ : ∃ v, v = getV ms zo zf := ⟨_, rfl⟩
        rw [SM.out.sl, HW.out, SM.out.get, ← hv0] at C
        have HV := hid hv0
        have o2 := hcell RD.out.blk 2
        have o3 := hcell RD.out.blk 3
        clear HWZ hv0
        go_wp2_with fail
        refine C.out.mono ?_
        rintro e w4 ⟨rfl, k4⟩
        have RD4 := hid (RD.out.quiet k4)
        clear C k4 o2 o3
        go_upto_region 37 with fail
        have RD5 := hid (RD4.out.quiet (Keeps.alloc [] w4 (.cells #[.int .i64 v.1, .int .i64 v.2.1, .bool v.2.2] 29)))
        have VH := hid (heap_new w4 (.cells #[.int .i64 v.1, .int .i64 v.2.1, .bool v.2.2] 29))
        generalize w4.alloc (.cells #[.int .i64 v.1, .int .i64 v.2.1, .bool v.2.2] 29) = w5 at *
        generalize w4.heap.size = vb at *
        clear RD4
        by_cases hw0 : W = 0
        · rcases slW_cases ms zo zf with ⟨q1, q2, q3⟩ | ⟨_, _, _, _, _, _, q1⟩ | ⟨j, i, m, v', rfl, rfl, hm, hf, hv, hs0⟩
          · rw [HW.out, hw0] at q1
            exact absurd rfl q1
          · rw [HW.out, hw0] at q1
            omega
          have hvv : v' = v := by rw [HV.out, getV_in hm hv hs0]
          subst hvv
          obtain ⟨mg, mc', hmv, hmc2, hjm, d0, d1, d2, dz, hgl⟩ := RD5.out.hs.doc.at hm
          rw [← HM.out] at hmv hjm
          simp at hmv
          obtain ⟨rfl, rfl⟩ := hmv
          obtain ⟨fb, fc, hfs, hfbG, hfld⟩ := RD5.out.hs.doc.fieldAt hm hv
          obtain ⟨VN, hVN⟩ : ∃ n, n = m.vs.length := ⟨_, rfl⟩
          rw [← hVN] at hfs
          have hi1 : (i : Int) < (VN : Int) := by
            have := (List.getElem?_eq_some_iff.1 hv).1
            omega
          have hj1 : (j : Int) < (M : Int) := by omega
          have hjk : j < 1000 := by omega
          have d1' : w5.cell? ⟨mg, 0 + j * 3 + 1, none⟩ = some (.slice (some ⟨fb, 0, none⟩) VN fc) := by
            rw [Nat.zero_add, d1]
            unfold obR
            rw [hfs]
          have HMM := hid hm
          have HVV := hid hv
          have HFF := hid hf
          have HFS := hid hfs
          have HVN := hid hVN
          have FB := hid hfbG
          subst hw0
          have o2 : w5.cell? ⟨ob, 2, none⟩ = some (.int .i64 (i : Int)) := hcell RD5.out.blk 2
          have o3 : w5.cell? ⟨ob, 3, none⟩ = some (.int .i64 ((j : Int) + 1)) := hcell RD5.out.blk 3
          have v0 : w5.cell? ⟨vb, 0, none⟩ = some (.int .i64 v'.1) := hcell VH.out 0
          have v1 : w5.cell? ⟨vb, 1, none⟩ = some (.int .i64 v'.2.1) := hcell VH.out 1
          have v2 : w5.cell? ⟨vb, 2, none⟩ = some (.bool v'.2.2) := hcell VH.out 2
          obtain ⟨f0, f1, f2, _⟩ := hfld w5 (Keeps.refl _ _)
          rw [show i * 3 = 0 + i * 3 by omega] at f0 f1 f2
          clear d0 d1 d2 dz hfld hfs hVN hm hv hf hfbG hmc2 hs0
          refine wp_region_det (W0 := w5) 248 [(.int .i64 0 : Value), (.int .i64 0 : Value), (.bool false : Value), (.bool false : Value), (.int .i64 0 : Value), (.bool true : Value), (.bool true : Value), (.agg #[.int .i64 v'.1, .int .i64 v'.2.1, .bool v'.2.2] : Value), (.slice (some ⟨mg, 0, none⟩) M mc : Value), (.pointer (some ⟨ob, 3, none⟩) : Value), (.int .i64 ((j : Int) + 1) : Value), (.int .i64 (j : Int) : Value), (.pointer (some ⟨mg, 0 + j * 3, none⟩) : Value), (.pointer (some ⟨mg, 0 + j * 3 + 1, none⟩) : Value), (.slice (some ⟨fb, 0, none⟩) VN fc : Value), (.pointer (some ⟨ob, 2, none⟩) : Value), (.int .i64 (i : Int) : Value), (.pointer (some ⟨fb, 0 + i * 3, none⟩) : Value), (.agg #[.int .i64 v'.1, .int .i64 v'.2.1, .bool v'.2.2] : Value), (.bool true : Value), (.bool false : Value), (.bool false : Value), (.bool false : Value), (.bool false : Value), (.int .i64 0 : Value), (.bool false : Value), (.bool false : Value), (undef : Value), (undef : Value), (undef : Value), (undef : Value), (.bool false : Value), (.bool false : Value)] (by kernel_rfl) (by rfl) (by kernel_rfl) (Keeps.refl _ _) (fun A hA => ?_)
          simp only [putAll, Act.put, List.setIfInBounds_toArray, List.set_cons_zero, List.set_cons_succ] at hA
          subst hA
          refine ⟨gR <| gR <| gY (fun _ _ => xb_neq rfl rfl rfl (by simp)) <| gR <| gR <| gY (fun _ _ => xb_eql rfl rfl rfl rfl) <| gR <| gY (fun _ k9 => xld_vl (cell_stays k9 v0) (cell_stays k9 v1) (cell_stays k9 v2) rfl rfl) <| gR <| gR <| gY (fun _ k9 => xld_i64 (cell_stays k9 o3) rfl rfl) <| gY (fun _ _ => xsub6 rfl rfl rfl hjk) <| gY (fun _ _ => xix_objs rfl rfl rfl hj1) <| gR <| gY (fun _ k9 => xld_vls (cell_stays k9 d1') rfl rfl) <| gR <| gY (fun _ k9 => xld_int (cell_stays k9 o2) rfl rfl) <| gY (fun _ _ => xix_vls rfl rfl rfl hi1) <| gY (fun _ k9 => xld_vl (cell_stays k9 f0) (cell_stays k9 f1) (cell_stays k9 f2) rfl rfl) <| AllGive.cons (give_call (by rfl) 13 #[vlV v', vlV v'] (fun w => exec_call2 rfl rfl rfl rfl (enter_eqv _ _ w)) (fun w _ => eqv_same _ w)) <| gY (fun _ _ => xnot rfl rfl) <| gR <| gR <| gR <| gR <| gY (fun _ _ => xb_neq rfl rfl rfl rfl) <| gR <| gP <| gP <| gP <| gP <| gR <| gR <| AllGive.nil, fun w9 k9 => ?_⟩
          clear o2 o3 v0 v1 v2 f0 f1 f2 d1'
          go_wp2_with fail
          go_meet
          exact ⟨os, F, ms, G, hid (RD5.out.quiet k9), SM, hid ⟨by rw [← HM.out]; omega, by rw [HM.out]; exact Nat.le_refl _, fun _ => HM.out.symm, fun i p hi hp => by
            have := (List.getElem?_eq_some_iff.1 hp).1
            rw [← HM.out] at this
            omega⟩⟩
        · have hw1 : (W == 0) = false := by simpa using hw0
          have hw2 : (W != 0) = true := by simpa using hw0
          obtain rfl : v = (0, 0, false) := by rw [HV.out]; exact if_neg (by rw [HW.out]; exact hw0)
          have v0 : w5.cell? ⟨vb, 0, none⟩ = some (.int .i64 0) := hcell VH.out 0
          have v1 : w5.cell? ⟨vb, 1, none⟩ = some (.int .i64 0) := hcell VH.out 1
          have v2 : w5.cell? ⟨vb, 2, none⟩ = some (.bool false) := hcell VH.out 2
          refine wp_region_det (W0 := w5) 248 [(.int .i64 W : Value), (.int .i64 W : Value), (.bool false : Value), (.bool false : Value), (.int .i64 W : Value), (.bool false : Value), (.bool false : Value), (undef : Value), (undef : Value), (undef : Value), (undef : Value), (undef : Value), (undef : Value), (undef : Value), (undef : Value), (undef : Value), (undef : Value), (undef : Value), (undef : Value), (undef : Value), (undef : Value), (.bool false : Value), (.bool false : Value), (.bool false : Value), (.int .i64 W : Value), (.bool true : Value), (.bool true : Value), (.agg #[.int .i64 0, .int .i64 0, .bool false] : Value), (.agg #[.int .i64 0, .int .i64 0, .bool false] : Value), (.bool true : Value), (.bool false : Value), (.bool false : Value), (.bool false : Value)] (by kernel_rfl) (by rfl) (by kernel_rfl) (Keeps.refl _ _) (fun A hA => ?_)
          simp only [putAll, Act.put, List.setIfInBounds_toArray, List.set_cons_zero, List.set_cons_succ] at hA
          subst hA
          refine ⟨gR <| gR <| gY (fun _ _ => xb_neq rfl rfl rfl (by simp)) <| gR <| gR <| gY (fun _ _ => xb_eql rfl rfl rfl hw1) <| gR <| gP <| gP <| gP <| gP <| gP <| gP <| gP <| gP <| gP <| gP <| gP <| gP <| gP <| gP <| gR <| gR <| gR <| gR <| gY (fun _ _ => xb_neq rfl rfl rfl hw2) <| gR <| gY (fun _ k9 => xld_vl (cell_stays k9 v0) (cell_stays k9 v1) (cell_stays k9 v2) rfl rfl) <| gY (fun _ _ => hbuild0 rfl) <| AllGive.cons (give_call (by rfl) 13 #[vlV (0, 0, false), vlV (0, 0, false)] (fun w => exec_call2 rfl rfl rfl rfl (enter_eqv _ _ w)) (fun w _ => eqv_same _ w)) <| gY (fun _ _ => xnot rfl rfl) <| gR <| gR <| AllGive.nil, fun w9 k9 => ?_⟩
          clear v0 v1 v2
          go_wp2_with fail
          go_meet
          exact ⟨os, F, ms, G, hid (RD5.out.quiet k9), SM, hid ⟨by rw [← HM.out]; omega, by rw [HM.out]; exact Nat.le_refl _, fun _ => HM.out.symm, fun i p hi hp => by
            have := (List.getElem?_eq_some_iff.1 hp).1
            rw [← HM.out] at this
            omega⟩⟩
      by_cases h2 : zk = 2
      · as_aux_lemma =>
        have hk0 : (zk == 0) = false := by simpa using h0
        have hk1 : (zk == 1) = false := by simpa using h1
        have hk2 : (zk == 2) = true := by simpa using h2
        have H2 := hid h2
        clear h2
        have C := hid (set_any RD.out.hs.mine.has zo zf (zvk, zvn, zvt))
        have HW : Box (slW ms zo zf = W) := hid (by rw [HWZ.out, want_get (.inr H2.out)])
        rw [SM.out.sl, HW.out] at C
        have o2 := hcell RD.out.blk 2
        have o3 := hcell RD.out.blk 3
        have o5 := hcell RD.out.blk 5
        have o6 := hcell RD.out.blk 6
        have o7 := hcell RD.out.blk 7
        clear HWZ
        go_wp2_with fail
        refine C.out.mono ?_
        rintro e w5 ⟨rfl, h5, k5⟩
        have RD5 := hid (RD.out.heap h5 k5 (Near.refl _ _))
        clear C h5 k5 o2 o3 o5 o6 o7
        by_cases hw0 : W = 0
        · rcases slW_cases ms zo zf with ⟨q1, q2, q3⟩ | ⟨_, _, _, _, _, _, q1⟩ | ⟨j, i, m, v, rfl, rfl, hm, hf, hv, hs0⟩
          · rw [HW.out, hw0] at q1
            exact absurd rfl q1
          · rw [HW.out, hw0] at q1
            omega
          obtain ⟨mg, mc', hmv, hmc2, hjm, d0, d1, d2, dz, hgl⟩ := RD5.out.hs.doc.at hm
          rw [← HM.out] at hmv hjm
          simp at hmv
          obtain ⟨rfl, rfl⟩ := hmv
          obtain ⟨fb, fc, hfs, hfbG, hfld⟩ := RD5.out.hs.doc.fieldAt hm hv
          obtain ⟨VN, hVN⟩ : ∃ n, n = m.vs.length := ⟨_, rfl⟩
          rw [← hVN] at hfs
          have hi1 : (i : Int) < (VN : Int) := by
            have := (List.getElem?_eq_some_iff.1 hv).1
            omega
          have hj1 : (j : Int) < (M : Int) := by omega
          have hjk : j < 1000 := by omega
          have d1' : w5.cell? ⟨mg, 0 + j * 3 + 1, none⟩ = some (.slice (some ⟨fb, 0, none⟩) VN fc) := by
            rw [Nat.zero_add, d1]
            unfold obR
            rw [hfs]
          have HMM := hid hm
          have HVV := hid hv
          have HFF := hid hf
          have HFS := hid hfs
          have HVN := hid hVN
          have FB := hid hfbG
          have FLD : Box (∀ w', Keeps [] w5 w' → w'.cell? ⟨fb, 0 + i * 3, none⟩ = some (.int .i64 v.1) ∧ w'.cell? ⟨fb, 0 + i * 3 + 1, none⟩ = some (.int .i64 v.2.1) ∧ w'.cell? ⟨fb, 0 + i * 3 + 2, none⟩ = some (.bool v.2.2) ∧ ∀ k, w'.frozen? ⟨fb, k, none⟩ = false) := hid (by simpa only [Nat.zero_add] using hfld)
          have NE : Box (ob ≠ fb ∧ mg ≠ fb) := hid ⟨fun e => RD5.out.oG (by rw [e]; exact FB.out), fun e => by
            have r1 := RD5.out.hs.doc.own
            have r2 := RD5.out.hs.doc.fld j m HMM.out
            exact own_ne r1 r2 (by decide) rfl (by rw [HFS.out, ← e]; rfl)⟩
          clear d0 d1 d2 dz hfld hfs hVN hm hv hf hfbG hmc2
          subst hw0
          go_upto_region 43 with fail
          have o2 : w5.cell? ⟨ob, 2, none⟩ = some (.int .i64 (i : Int)) := hcell RD5.out.blk 2
          have o3 : w5.cell? ⟨ob, 3, none⟩ = some (.int .i64 ((j : Int) + 1)) := hcell RD5.out.blk 3
          have o5 : w5.cell? ⟨ob, 5, none⟩ = some (.int .i64 zvk) := hcell RD5.out.blk 5
          have o6 : w5.cell? ⟨ob, 6, none⟩ = some (.int .i64 zvn) := hcell RD5.out.blk 6
          have o7 : w5.cell? ⟨ob, 7, none⟩ = some (.bool zvt) := hcell RD5.out.blk 7
          refine wp_region_detF (fun w' => Keeps [fb] w5 w') (StE w5 12 (fun w => ((w.setCell ⟨fb, 0 + i * 3, none⟩ (.int .i64 zvk)).setCell ⟨fb, 0 + i * 3 + 1, none⟩ (.int .i64 zvn)).setCell ⟨fb, 0 + i * 3 + 2, none⟩ (.bool zvt))) 248 [(.slice (some ⟨mg, 0, none⟩) M mc : Value), (.pointer (some ⟨ob, 3, none⟩) : Value), (.int .i64 ((j : Int) + 1) : Value), (.int .i64 (j : Int) : Value), (.pointer (some ⟨mg, 0 + j * 3, none⟩) : Value), (.pointer (some ⟨mg, 0 + j * 3 + 1, none⟩) : Value), (.slice (some ⟨fb, 0, none⟩) VN fc : Value), (.pointer (some ⟨ob, 2, none⟩) : Value), (.int .i64 (i : Int) : Value), (.pointer (some ⟨ob, 5, none⟩) : Value), (.agg #[.int .i64 zvk, .int .i64 zvn, .bool zvt] : Value), (.pointer (some ⟨fb, 0 + i * 3, none⟩) : Value), (undef : Value)] (by kernel_rfl) (by rfl) (by kernel_rfl) (Keeps.drew [fb] w5) (StE.start (Keeps.drew [] w5)) (fun A hA => ?_)
          simp only [putAll, Act.put, List.setIfInBounds_toArray, List.set_cons_zero, List.set_cons_succ] at hA
          subst hA
          refine ⟨AllGiveF.cons (giveF_yield (by rfl) (fun _ _ h => h.keep (by decide)) (fun _ _ => rfl)) <| AllGiveF.cons (giveF_yield (by rfl) (fun _ _ h => h.keep (by decide)) (fun _ _ => rfl)) <| AllGiveF.cons (giveF_yield (by rfl) (fun _ _ h => h.keep (by decide)) (fun _ k9 => xld_i64 (cell_far o3 NE.out.1 k9) rfl rfl)) <| AllGiveF.cons (giveF_yield (by rfl) (fun _ _ h => h.keep (by decide)) (fun _ _ => xsub6 rfl rfl rfl hjk)) <| AllGiveF.cons (giveF_yield (by rfl) (fun _ _ h => h.keep (by decide)) (fun _ _ => xix_objs rfl rfl rfl hj1)) <| AllGiveF.cons (giveF_yield (by rfl) (fun _ _ h => h.keep (by decide)) (fun _ _ => rfl)) <| AllGiveF.cons (giveF_yield (by rfl) (fun _ _ h => h.keep (by decide)) (fun _ k9 => xld_vls (cell_far d1' NE.out.2 k9) rfl rfl)) <| AllGiveF.cons (giveF_yield (by rfl) (fun _ _ h => h.keep (by decide)) (fun _ _ => rfl)) <| AllGiveF.cons (giveF_yield (by rfl) (fun _ _ h => h.keep (by decide)) (fun _ k9 => xld_int (cell_far o2 NE.out.1 k9) rfl rfl)) <| AllGiveF.cons (giveF_yield (by rfl) (fun _ _ h => h.keep (by decide)) (fun _ _ => rfl)) <| AllGiveF.cons (giveF_yield (by rfl) (fun _ _ h => h.keep (by decide)) (fun _ k9 => xld_vl (cell_far o5 NE.out.1 k9) (cell_far o6 NE.out.1 k9) (cell_far o7 NE.out.1 k9) rfl rfl)) <| AllGiveF.cons (giveF_yield (by rfl) (fun _ _ h => h.keep (by decide)) (fun _ _ => xix_vls rfl rfl rfl hi1)) <| AllGiveF.cons (giveF_skip (by rfl) (fun l w hi hu _ hs he => ⟨_, pc_st3c (FLD.out w (he.old hu)).1 (FLD.out w (he.old hu)).2.1 (FLD.out w (he.old hu)).2.2.1 (FLD.out w (he.old hu)).2.2.2 rfl rfl rfl, hs.step (keepsB _ _ _ _ _ _ _ _), he.put hu hi⟩)) <| AllGiveF.nil, fun l9 w9 hall k9 e9 => ?_⟩
          obtain ⟨w0, k0, hw9⟩ := e9.new (hall 12 (by decide))
          have K0 := hid k0
          have HW9 := hid hw9
          clear e9 hall k9 k0 hw9 o2 o3 o5 o6 o7 d1'
          go_wp2_with fail
          go_meet
          have D := (RD5.out.hs.doc.quiet K0.out).put (by decide) (fun _ _ => rfl) HMM.out HVV.out (show m.fs = .slice (some ⟨fb, 0, none⟩) m.vs.length fc by rw [HFS.out, HVN.out]) (zvk, zvn, zvt)
          have e9' : w9 = ((w0.setCell ⟨fb, i * 3, none⟩ (.int .i64 zvk)).setCell ⟨fb, i * 3 + 1, none⟩ (.int .i64 zvn)).setCell ⟨fb, i * 3 + 2, none⟩ (.bool zvt) := by
            rw [HW9.out]
            simp only [Nat.zero_add]
          have kk : Keeps [fb] w0 w9 := by rw [e9']; exact keepsB _ _ _ _ _ _ _ _
          obtain ⟨x, hx, s1, s2, s3⟩ := SM.out.at HMM.out
          have hsw : slW os ((j : Int) + 1) (i : Int) = 0 := by rw [SM.out.sl, HW.out]
          refine ⟨os.set j { x with vs := x.vs.set i (zvk, zvn, zvt) }, F, ms.set j { m with vs := m.vs.set i (zvk, zvn, zvt) }, G, hid ?_, hid (SM.out.set ⟨s1, s2, fun e => by show x.vs.set i _ = m.vs.set i _; rw [s3 e]⟩), hid ⟨by simp [← HM.out]; omega, by simp [HM.out], fun _ => by simp [HM.out], fun i' p hi hp => ?_⟩⟩
          · rw [← setO_in (zvk, zvn, zvt) hx hsw]
            exact (RD5.out.quiet K0.out).turn (by rw [e9']; exact D) (kk.mono (fun y hy => by rw [List.mem_singleton.1 hy]; exact FB.out)) (Near.refl _ _)
          · have := (List.getElem?_eq_some_iff.1 hp).1
            rw [List.length_set, ← HM.out] at this
            omega
        · have hfw : setO os zo zf (zvk, zvn, zvt) = os := if_neg (by rw [SM.out.sl, HW.out]; exact hw0)
          go_wp2_with fail
          go_meet
          refine ⟨os, F, ms, G, hid ?_, SM, hid ⟨by rw [← HM.out]; omega, by rw [HM.out]; exact Nat.le_refl _, fun _ => HM.out.symm, fun i p hi hp => ?_⟩⟩
          · rw [← hfw]
            exact RD5.out
          · have := (List.getElem?_eq_some_iff.1 hp).1
            rw [← HM.out] at this
            omega
      · as_aux_lemma =>
        have hk0 : (zk == 0) = false := by simpa using h0
        have hk1 : (zk == 1) = false := by simpa using h1
        have hk2 : (zk == 2) = false := by simpa using h2
        have C := hid (free_any RD.out.hs.mine.has zo)
        have HW : Box (foW ms zo = W) := hid (by rw [HWZ.out, want_other h1 h2])
        rw [SM.out.fo, HW.out] at C
        have o3 := hcell RD.out.blk 3
        clear HWZ
        go_wp2_with fail
        refine C.out.mono ?_
        rintro e w5 ⟨rfl, h5, k5⟩
        have RD5 := hid (RD.out.heap h5 k5 (Near.refl _ _))
        clear C h5 k5 o3
        by_cases hw0 : W = 0
        · obtain ⟨j, m, rfl, hm, hf⟩ := foW_ok (show foW ms zo = 0 by rw [HW.out, hw0])
          obtain ⟨mg, mc', hmv, hmc2, hjm, d0, d1, d2, dz, hgl⟩ := RD5.out.hs.doc.at hm
          rw [← HM.out] at hmv hjm
          simp at hmv
          obtain ⟨rfl, rfl⟩ := hmv
          have o3 := hcell RD5.out.blk 3
          have hj1 : (j : Int) < (M : Int) := by omega
          have z2 := dz (j * 3 + 2)
          have HMM := hid hm
          have HFF := hid hf
          clear d0 d1 dz hmc2 hm hf
          subst hw0
          go_wp2_with fail
          go_meet
          have own := RD5.out.hs.doc.own
          rw [← HM.out] at own
          have o2 := (own.stored (j * 3 + 2) (.bool true)).1
          have er : row3 obR (ms.set j ⟨m.site, true, m.fs, m.vs⟩) = (row3 obR ms).set (j * 3 + 2) (.bool true) := by
            obtain ⟨g0, g1, _⟩ := row3_get obR ms j m HMM.out
            have g0' : (row3 obR ms)[j * 3]? = some (.int .i64 m.site) := g0
            have g1' : (row3 obR ms)[j * 3 + 1]? = some m.fs := g1
            rw [row3_set obR ms j m _ HMM.out]
            show (((row3 obR ms).set (j * 3) (.int .i64 m.site)).set (j * 3 + 1) m.fs).set (j * 3 + 2) (.bool true) = _
            rw [set_same g0', set_same g1']
          rw [← er] at o2
          have kk : Keeps [mg] w5 (w5.setCell ⟨mg, j * 3 + 2, none⟩ (.bool true)) := Keeps.setCell [mg] _ _ _ (List.mem_singleton.2 rfl)
          have D := RD5.out.hs.doc.turn (by decide) HMM.out (o' := ⟨m.site, true, m.fs, m.vs⟩) kk (by rw [← HM.out]; exact o2) (.inl ⟨rfl, rfl⟩)
          have hmG : mg ∈ G := RD5.out.hs.doc.row mg rfl
          obtain ⟨x, hx, s1, s2, s3⟩ := SM.out.at HMM.out
          have hfw : foW os ((j : Int) + 1) = 0 := by rw [SM.out.fo, HW.out]
          refine ⟨os.set j ⟨x.site, true, .slice none 0 0, []⟩, F, ms.set j ⟨m.site, true, m.fs, m.vs⟩, G, hid ?_, hid (SM.out.set ⟨s1, rfl, fun e => by cases e⟩), hid ⟨by simp [← HM.out]; omega, by simp [HM.out], fun _ => by simp [HM.out], fun i p hi hp => ?_⟩⟩
          · rw [← freeO_in hx hfw]
            exact RD5.out.turn D (kk.mono (fun y hy => by rw [List.mem_singleton.1 hy]; exact hmG)) (Near.refl _ _)
          · have := (List.getElem?_eq_some_iff.1 hp).1
            rw [List.length_set, ← HM.out] at this
            omega
        · have hfw : freeO os zo = os := if_neg (by rw [SM.out.fo, HW.out]; exact hw0)
          go_wp2_with fail
          go_meet
          refine ⟨os, F, ms, G, hid ?_, SM, hid ⟨by rw [← HM.out]; omega, by rw [HM.out]; exact Nat.le_refl _, fun _ => HM.out.symm, fun i p hi hp => ?_⟩⟩
          · rw [← hfw]
            exact RD5.out
          · have := (List.getElem?_eq_some_iff.1 hp).1
            rw [← HM.out] at this
            omega
    case rest => as_aux_lemma =>
    obtain ⟨os', F', ms', G', RX, SX, FX⟩ := hcut
    obtain ⟨ma', mc', hmv', hmc'⟩ := RX.out.hs.doc.len
    subst hmv'
    obtain ⟨M', hM'⟩ : ∃ n, n = ms'.length := ⟨_, rfl⟩
    rw [← hM'] at hmc' ⊢
    have RY : Box (Rd w wc ob #[.int .i64 zk, .int .i64 zn, .int .i64 zf, .int .i64 zo, .slice ra tn rc, .int .i64 zvk, .int .i64 zvn, .bool zvt] hp os' F' (.slice ma' M' mc') ms' G') := hid (by rw [hM']; exact RX.out)
    have HM' := hid hM'
    clear RX hM' RD
    have RX := hid RY.out
    clear RY
    go_upto_if 205 with fail
    go_cut [15] (fun t15 wz => ∃ s : Int, t15 = .int .i64 s ∧ Box ((inb = true → s = siteO os' zo) ∧ (inb = false → s = -1)) ∧ wz = wc)
    case first => as_aux_lemma =>
      cases inb with
      | false =>
        go_wp2_with fail
        go_meet
        exact ⟨-1, rfl, hid ⟨fun e => (by cases e), fun _ => rfl⟩, rfl⟩
      | true =>
        have hin := of_decide_eq_true HIN.out.symm
        obtain ⟨j, hj⟩ : ∃ j : Nat, zo = (j : Int) + 1 := ⟨(zo - 1).toNat, by omega⟩
        subst hj
        have hjm : j < ms'.length := by
          have := FX.out.2.1
          omega
        obtain ⟨m, hm⟩ : ∃ m, ms'[j]? = some m := ⟨_, List.getElem?_eq_getElem hjm⟩
        obtain ⟨mg, mc2, hmv, hmc2, _, d0, d1, d2, dz, hgl⟩ := RX.out.hs.doc.at hm
        rw [← HM'.out] at hmv hjm
        simp at hmv
        obtain ⟨rfl, rfl⟩ := hmv
        obtain ⟨x, hx, s1, s2, s3⟩ := SX.out.at hm
        have SV : Box (m.site = siteO os' ((j : Int) + 1)) := hid (by rw [(siteO_in hx).1, s1])
        have d0' : wc.cell? ⟨mg, j * 3, none⟩ = some (.int .i64 m.site) := d0
        have o3 := hcell RX.out.blk 3
        have hj1 : (j : Int) < (M' : Int) := by omega
        have hjk : j < 1000 := by
          have := FX.out.1
          have := HM'.out
          omega
        clear d0 d1 d2 dz hgl hm hx s1 s2 s3 hmc2 hin
        go_wp2_with fail
        go_meet
        exact ⟨_, rfl, hid ⟨fun _ => SV.out, fun e => (by cases e)⟩, rfl⟩
    case rest => as_aux_lemma =>
    obtain ⟨s, hte, HSS, hwz⟩ := hcut
    subst hte
    have hwz' := hwz.symm
    subst hwz'
    clear hwz
    have C1 := hid (hlen_any RX.out.hs.mine.has)
    rw [show os'.length = M' by rw [SX.out.len, HM'.out]] at C1
    cases inb with
    | true => as_aux_lemma =>
      have hin := of_decide_eq_true HIN.out.symm
      obtain ⟨j, hj⟩ : ∃ j : Nat, zo = (j : Int) + 1 := ⟨(zo - 1).toNat, by omega⟩
      subst hj
      have hjm : j < ms'.length := by
        have := FX.out.2.1
        omega
      obtain ⟨m, hm⟩ : ∃ m, ms'[j]? = some m := ⟨_, List.getElem?_eq_getElem hjm⟩
      obtain ⟨x, hx, s1, s2, s3⟩ := SX.out.at hm
      have HX := hid hx
      have HMM := hid hm
      have S2 := hid s2
      have hsv := HSS.out.1 rfl
      rw [(siteO_in hx).1] at hsv
      have hj1 : (j : Int) < (M' : Int) := by have := HM'.out; omega
      have hjk : j < 1000 := by
        have := FX.out.1
        omega
      subst hsv
      clear hm hx s1 s2 s3 hin hjm
      go_wp2_with fail
      refine C1.out.mono ?_
      rintro e w5 ⟨rfl, k5⟩
      have RD5 := hid (RX.out.quiet k5)
      clear C1 RX k5
      have C2 := hid (site_any RD5.out.hs.mine.has ((j : Int) + 1))
      have o3 := hcell RD5.out.blk 3
      have o0 := hcell RD5.out.blk 0
      rw [(siteO_in HX.out).1] at C2
      go_wp2_with fail
      refine C2.out.mono ?_
      rintro e w6 ⟨rfl, k6⟩
      have RD6 := hid (RD5.out.quiet k6)
      clear C2 RD5 k6 o3 o0
      have C3 := hid (freed_any RD6.out.hs.mine.has ((j : Int) + 1))
      have o3 := hcell RD6.out.blk 3
      have o0 := hcell RD6.out.blk 0
      rw [(siteO_in HX.out).2, S2.out] at C3
      go_wp2_with fail
      refine C3.out.mono ?_
      rintro e w7 ⟨rfl, k7⟩
      have RD7 := hid (RD6.out.quiet k7)
      clear C3 RD6 k7 o3 o0
      obtain ⟨mg, mc2, hmv, hmc2, _, d0, d1, d2, dz, hgl⟩ := RD7.out.hs.doc.at HMM.out
      rw [← HM'.out] at hmv
      simp at hmv
      obtain ⟨rfl, rfl⟩ := hmv
      have d2' : w7.cell? ⟨mg, j * 3 + 2, none⟩ = some (.bool m.free) := d2
      have o3 := hcell RD7.out.blk 3
      clear d0 d1 d2 dz hgl hmc2
      go_wp2_with fail
      go_roundw
      case rel => exact ⟨k + 1, by omega, by omega, by go_num, hid ⟨os', F', ms', G', RD7.out.hs, SX.out, FX.out.1⟩⟩
      case measure => simp [intOf]; omega
    | false => as_aux_lemma =>
      have hin := of_decide_eq_false HIN.out.symm
      have hsv := HSS.out.2 rfl
      subst hsv
      have HFR : Box (freedO os' zo = false ∧ (zk = 0 ∨ siteO os' zo = -1)) := hid (by
        by_cases ho : zo < 1 ∨ (os'.length : Int) < zo
        · exact ⟨if_pos ho, .inr (if_pos ho)⟩
        · have h1 := FX.out.2.2.1
          have h2 := FX.out.2.2.2
          have h3 := SX.out.len
          obtain ⟨j, hj⟩ : ∃ j : Nat, zo = (j : Int) + 1 := ⟨(zo - 1).toNat, by omega⟩
          subst hj
          obtain ⟨m, hm⟩ : ∃ m, ms'[j]? = some m := ⟨_, List.getElem?_eq_getElem (by omega)⟩
          obtain ⟨x, hx, s1, s2, s3⟩ := SX.out.at hm
          refine ⟨?_, .inl ?_⟩
          · rw [(siteO_in hx).2, s2]
            exact h2 j m (by omega) hm
          · apply Classical.byContradiction
            intro hne
            have := h1 hne
            omega)
      clear hin
      obtain ⟨sv, hsv⟩ : ∃ sv, sv = siteO os' zo := ⟨_, rfl⟩
      by_cases hs9 : sv = -1
      · subst hs9
        have HSV := hid hsv
        clear hsv
        go_wp2_with fail
        refine C1.out.mono ?_
        rintro e w5 ⟨rfl, k5⟩
        have RD5 := hid (RX.out.quiet k5)
        clear C1 RX k5
        have C2 := hid (site_any RD5.out.hs.mine.has zo)
        have o3 := hcell RD5.out.blk 3
        have o0 := hcell RD5.out.blk 0
        rw [← HSV.out] at C2
        go_wp2_with fail
        refine C2.out.mono ?_
        rintro e w6 ⟨rfl, k6⟩
        have RD6 := hid (RD5.out.quiet k6)
        clear C2 RD5 k6 o3 o0
        have C3 := hid (freed_any RD6.out.hs.mine.has zo)
        have o3 := hcell RD6.out.blk 3
        have o0 := hcell RD6.out.blk 0
        rw [HFR.out.1] at C3
        go_wp2_with fail
        refine C3.out.mono ?_
        rintro e w7 ⟨rfl, k7⟩
        have RD7 := hid (RD6.out.quiet k7)
        clear C3 RD6 k7 o3 o0
        have o3 := hcell RD7.out.blk 3
        go_wp2_with fail
        go_roundw
        case rel => exact ⟨k + 1, by omega, by omega, by go_num, hid ⟨os', F', ms', G', RD7.out.hs, SX.out, FX.out.1⟩⟩
        case measure => simp [intOf]; omega
      · have hk9 : zk = 0 := by
          rcases HFR.out.2 with e | e
          · exact e
          · exact absurd (hsv.trans e) hs9
        have hk0 : (zk != 0) = false := by rw [hk9]; rfl
        have hs8 : (sv != -1) = true := by simpa using hs9
        have HSV := hid hsv
        clear hk9 hsv
        go_wp2_with fail
        refine C1.out.mono ?_
        rintro e w5 ⟨rfl, k5⟩
        have RD5 := hid (RX.out.quiet k5)
        clear C1 RX k5
        have C2 := hid (site_any RD5.out.hs.mine.has zo)
        have o3 := hcell RD5.out.blk 3
        have o0 := hcell RD5.out.blk 0
        rw [← HSV.out] at C2
        go_wp2_with fail
        refine C2.out.mono ?_
        rintro e w6 ⟨rfl, k6⟩
        have RD6 := hid (RD5.out.quiet k6)
        clear C2 RD5 k6 o3 o0
        have C3 := hid (freed_any RD6.out.hs.mine.has zo)
        have o3 := hcell RD6.out.blk 3
        have o0 := hcell RD6.out.blk 0
        rw [HFR.out.1] at C3
        go_wp2_with fail
        refine C3.out.mono ?_
        rintro e w7 ⟨rfl, k7⟩
        have RD7 := hid (RD6.out.quiet k7)
        clear C3 RD6 k7 o3 o0
        have o3 := hcell RD7.out.blk 3
        go_wp2_with fail
        go_roundw
        case rel => exact ⟨k + 1, by omega, by omega, by go_num, hid ⟨os', F', ms', G', RD7.out.hs, SX.out, FX.out.1⟩⟩
        case measure => simp [intOf]; omega
end Go.Proofs.Ytpllhcifoiahpaa
