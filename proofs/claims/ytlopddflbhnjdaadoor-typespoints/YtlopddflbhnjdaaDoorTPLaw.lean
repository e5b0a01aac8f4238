/-
  TypesPoints: the walk.
-/
import Derived.Test.YtlopddflbhnjdaaDoorTPtM
namespace Go.Proofs.YtlopddflbhnjdaaDoor
open Go.RowKit

set_option maxRecDepth 20000 in
set_option maxHeartbeats 20000000 in
theorem tp_in (n al : Nat) (w : World) (hg : Glob w) (hn1 : 1 ≤ n) (hn2 : n ≤ 650) (ha1 : al ≤ 50) (ha2 : al + 12 ≤ n) : Calls Tryd.prog 4 #[.int .i64 (n : Int), .int .i64 (al : Int)] w fun e w' => e = .returned (.bool true) ∧ Keeps [] w w' := by
  have HG := hid hg
  have HB := hid (begun_any w hg)
  have HO := hid fun (w' : World) => one_any w'
  have h1 : ¬ (n : Int) < 1 := by omega
  have h2 : ¬ (650 : Int) < (n : Int) := by omega
  have h3 : ¬ (al : Int) < 0 := by omega
  have h4 : ¬ (50 : Int) < (al : Int) := by omega
  have h5 : ¬ (n : Int) - 12 < (al : Int) := by omega
  clear hg
  go_enter Tryd.func4, Tryd.ntmps4
  go_wp2_with fail
  refine HB.out.mono ?_
  rintro e w1 ⟨rfl, k1⟩
  have K1 := hid k1
  clear HB k1
  go_wp2_with fail
  refine (HO.out _).mono ?_
  rintro e w2 ⟨rfl, o2, k2⟩
  obtain ⟨q, hq⟩ : ∃ q, q = w1.heap.size := ⟨_, rfl⟩
  rw [← hq] at o2 ⊢
  have HQ := hid hq
  have p4 := hcell o2.h5 4
  have zc := hfrozen o2.h5 4
  have O2 := hid o2
  have K2 := hid (K1.out.quiet k2)
  clear o2 k2 hq
  go_upto_region 8 with fail
  have G0 : Box (PO w2 (w2.setCell ⟨q + 5, 4, none⟩ (.slice none 0 0)) q [] none 0) := hid ⟨heap_setCell_same _ _ 4 _ _ _ O2.out.h5, put_heap O2.out.h0 (by show q ≠ q + 5; omega), World.ownsRow_nil _ _ _ _, (fun e he => by cases he), Keeps.setCell _ _ _ _ (List.mem_singleton.2 rfl)⟩
  generalize w2.setCell ⟨q + 5, 4, none⟩ (.slice none 0 0) = w3 at *
  clear p4 zc O2
  go_wp2_with fail
  go_loopw [7, 8] (fun iv av wr => ∃ (fl : List (List (List Int × Option Addr × Nat) × Option Addr × Nat)) (fa : Option Addr) (fp L A : Nat), iv = .int .i64 (L : Int) ∧ av = .int .i64 (A : Int) ∧ fl.length ≤ 12 ∧ Box (ptE3 fl + L = n ∧ stE3 fl + A = al) ∧ Box (0 < L → 372 * fl.length ≤ ptE3 fl) ∧ Box (PO w2 wr q fl fa fp)) (fun iv _ _ => (intOf iv).toNat)
  case atStart => exact ⟨[], none, 0, n, al, rfl, rfl, by decide, hid ⟨by simp [ptE3, fsPt], by simp [stE3, fsSt]⟩, hid (fun _ => by simp), G0⟩
  case round =>
  obtain ⟨fl, fa, fp, L, A, rfl, rfl, hfl, HN, HL, HO⟩ := hrel
  have p4 := hcell HO.out.box 4
  have hLn : L ≤ n := by have := HN.out.1; omega
  have hAn : A ≤ al := by have := HN.out.2; omega
  obtain ⟨nf, hnf⟩ : ∃ nf, nf = fl.length := ⟨_, rfl⟩
  have HNF := hid hnf
  by_cases hL : 0 < L
  case pos =>
    have hL' : (0 : Int) < (L : Int) := by omega
    have hnf12 : nf < 12 := by
      rcases Nat.lt_or_ge nf 12 with h | h
      · exact h
      · have e1 := HL.out hL
        have e2 := HN.out.1
        omega
    have hnf' : (nf : Int) < 12 := by omega
    rw [← hnf] at p4
    clear hnf
    obtain ⟨wF, rfl⟩ : ∃ x : World, x = wr := ⟨wr, rfl⟩
    go_upto_region 12 with fail
    have F0 : Box (PF wF (wF.alloc (.cells #[.int .i64 0, .slice none 0 0, .slice none 0 0] 29)) [] none 0) := hid ⟨heap_new wF _, World.ownsRow_nil _ _ _ _, (fun c hc => by cases hc), Keeps.alloc [] _ _⟩
    obtain ⟨fbx, hfbx⟩ : ∃ x, x = wF.heap.size := ⟨_, rfl⟩
    rw [← hfbx]
    have HFB := hid hfbx
    clear hfbx
    generalize wF.alloc (.cells #[.int .i64 0, .slice none 0 0, .slice none 0 0] 29) = w4 at *
    go_wp2_with fail
    clear p4
    go_loopw [7, 8] (fun iv av wb => ∃ (bl : List (List Int × Option Addr × Nat)) (ba : Option Addr) (bp L1 A1 : Nat), iv = .int .i64 (L1 : Int) ∧ av = .int .i64 (A1 : Int) ∧ bl.length ≤ 12 ∧ Box (ptE2 bl + L1 = L ∧ stE2 bl + A1 = A) ∧ Box (0 < L1 → 31 * bl.length ≤ ptE2 bl) ∧ Box (PF wF wb bl ba bp)) (fun iv _ _ => (intOf iv).toNat)
    case atStart => exact ⟨[], none, 0, L, A, rfl, rfl, by decide, hid ⟨by simp [ptE2, bsPt], by simp [stE2, bsSt]⟩, hid (fun _ => by simp), F0⟩
    case round =>
    obtain ⟨bl, ba, bp, L1, A1, rfl, rfl, hbl, HN1, HL1, HF⟩ := hrel
    clear F0
    obtain ⟨wB, rfl⟩ : ∃ x : World, x = wr := ⟨wr, rfl⟩
    have b2 := hcell HF.out.box 2
    rw [← HFB.out] at b2
    obtain ⟨nb, hnb⟩ : ∃ nb, nb = bl.length := ⟨_, rfl⟩
    rw [← hnb] at b2
    have HNB := hid hnb
    have hL1 : L1 ≤ L := by have := HN1.out.1; omega
    have hA1 : A1 ≤ A := by have := HN1.out.2; omega
    rw [← hnb] at hbl
    by_cases hc : nb < 12 ∧ 0 < L1
    case pos =>
      obtain ⟨hc1, hc2⟩ := hc
      have hc1' : (nb : Int) < 12 := by omega
      have hc2' : (0 : Int) < (L1 : Int) := by omega
      clear hnb
      go_upto_region 14 with fail
      have C0 : Box (PC wB (wB.alloc (.cells #[.slice none 0 0, .int .i64 0, .int .i64 0, .int .i64 0, .int .i64 0] 44)) [] none 0) := hid ⟨heap_new wB _, World.ownsRow_nil _ _ _ _, (fun c hc => by cases hc), Keeps.alloc [] _ _⟩
      obtain ⟨bbx, hbbx⟩ : ∃ x, x = wB.heap.size := ⟨_, rfl⟩
      rw [← hbbx]
      have HBB := hid hbbx
      clear hbbx b2
      generalize wB.alloc (.cells #[.slice none 0 0, .int .i64 0, .int .i64 0, .int .i64 0, .int .i64 0] 44) = w5 at *
      obtain ⟨K, hK⟩ : ∃ K, K = min 30 (L1 - 1) := ⟨_, rfl⟩
      have hK30 : K ≤ 30 := by omega
      have HK := hid hK
      have hKL : K + 1 ≤ L1 := by omega
      go_cut [11] (fun v11 wz => v11 = .int .i64 (K : Int) ∧ wz = w5)
      case first =>
        by_cases hm : (L1 : Int) - 1 < 30
        · have hKe : (L1 : Int) - 1 = (K : Int) := by omega
          clear hK
          go_wp2_with fail
          go_meet
          exact ⟨by first | rfl | (rw [hKe]), rfl⟩
        · have hKe : (30 : Int) = (K : Int) := by omega
          clear hK
          go_wp2_with fail
          go_meet
          exact ⟨by first | rfl | (rw [hKe]), rfl⟩
      case rest =>
      obtain ⟨rfl, hw5⟩ := hcut
      subst hw5
      clear hK
      go_wp2_with fail
      go_loopw [12, 8] (fun iv av wc => ∃ (i A2 : Nat) (os : List Int) (ca : Option Addr) (cp : Nat), iv = .int .i64 (i : Int) ∧ av = .int .i64 (A2 : Int) ∧ i ≤ K ∧ Box (os.length = i ∧ c5 os + A2 = A1) ∧ Box (PC wB wc os ca cp)) (fun iv _ _ => K - (intOf iv).toNat)
      case atStart => exact ⟨0, A1, [], none, 0, rfl, rfl, by omega, hid ⟨rfl, by simp [c5]⟩, C0⟩
      case round =>
      obtain ⟨i, A2, os, ca, cp, rfl, rfl, hi, HI, HC⟩ := hrel
      clear C0
      have hA2 : A2 ≤ A1 := by have := HI.out.2; omega
      by_cases hiK : i < K
      case pos =>
        have hiK' : (i : Int) < (K : Int) := by omega
        have STEP : Box (∀ (z : Int), (z = 1 ∨ z = 5) → ∀ (wq wa w6 : World) (g cap : Nat), Keeps [] wr wq → Keeps [] wq wa → w6.ownsRow wB.heap.size 54 6 (.slice (some ⟨g, 0, none⟩) (i + 1) cap) (i + 1) (inCs os ++ [.int .i64 z, .int .i64 0, .int .i64 0, .int .i64 0, .int .i64 0, .slice none 0 0]) → wa.grownBy w6 (Value.slice ca i cp).ownBlock → w6.heap[bbx]? = some (.cells #[.slice ca i cp, .int .i64 0, .int .i64 0, .int .i64 0, .int .i64 0] 44 (0, 0)) ∧ PC wB (w6.setCell ⟨bbx, 0, none⟩ (.slice (some ⟨g, 0, none⟩) (i + 1) cap)) (os ++ [z]) (some ⟨g, 0, none⟩) cap) := hid fun z hz wq wa w6 g cap k1 k2 ho hgr => by
          have e := HI.out.1
          subst e
          rw [HBB.out]
          exact HC.out.grow hz (k1.quiet k2) ho hgr
        have OWQ : Box (∀ wq, Keeps [] wr wq → wq.ownsRow wB.heap.size 54 6 (.slice ca i cp) i (inCs os) ∧ wq.heap[bbx]? = some (.cells #[.slice ca i cp, .int .i64 0, .int .i64 0, .int .i64 0, .int .i64 0] 44 (0, 0)) ∧ wB.heap.size ≤ wq.heap.size) := hid fun wq k => by
          have e := HI.out.1
          subst e
          rw [HBB.out]
          exact ⟨ownsRow_keeps HC.out.own k (fun _ _ => by simp), keep_heap HC.out.box k, Nat.le_trans HC.out.keep.size k.size⟩
        have hi650 : i ≤ 650 := by omega
        by_cases hA : 0 < A2
        · have hA' : (0 : Int) < (A2 : Int) := by omega
          go_upto_region 22 with fail
          have EQ : Box ((wr.alloc (.cells #[.int .i64 5, .int .i64 0, .int .i64 0, .int .i64 0, .int .i64 0, .slice none 0 0] 54)).heap[wr.heap.size]? = some (.cells #[.int .i64 5, .int .i64 0, .int .i64 0, .int .i64 0, .int .i64 0, .slice none 0 0] 54 (0, 0)) ∧ Keeps [] wr (wr.alloc (.cells #[.int .i64 5, .int .i64 0, .int .i64 0, .int .i64 0, .int .i64 0, .slice none 0 0] 54))) := hid ⟨heap_new wr _, Keeps.alloc [] wr _⟩
          generalize wr.alloc (.cells #[.int .i64 5, .int .i64 0, .int .i64 0, .int .i64 0, .int .i64 0, .slice none 0 0] 54) = wq at *
          generalize wr.heap.size = cbx at *
          obtain ⟨OW1, BX1, SZ1⟩ := OWQ.out _ EQ.out.2
          have OWI := hid OW1
          have b0 := hcell BX1 0
          have b0' := hcell (keep_heap BX1 (Keeps.alloc [] wq (.cells #[.int .i64 5, .int .i64 0, .int .i64 0, .int .i64 0, .int .i64 0, .slice none 0 0] 54))) 0
          have d0 := hcell EQ.out.1 0
          have d1 := hcell EQ.out.1 1
          have d2 := hcell EQ.out.1 2
          have d3 := hcell EQ.out.1 3
          have d4 := hcell EQ.out.1 4
          have d5 := hcell EQ.out.1 5
          clear OW1 BX1
          go_upto_region 17 with (at_builtin; go_must (refine wpList_append_lies _ rfl _ _ _ rfl wB.heap.size 54 Tryd.t54 (.agg #[.int .i64 0, .int .i64 0, .int .i64 0, .int .i64 0, .int .i64 0, .slice none 0 0]) 6 64 under_ins info_in zero_in size_in bytes_in rfl (by decide) (.slice ca i cp) i (inCs os) rfl (OWI.out.alloc _) ⟨wq.heap.size, 0, none⟩ 1 1 [.int .i64 5, .int .i64 0, .int .i64 0, .int .i64 0, .int .i64 0, .slice none 0 0] rfl rfl (World.news_of_block (heap_new wq _)) (fun u hu => oneC u _ rfl hu) (by decide) (by unfold maxLen; omega) (by omega) (by simp; omega) (wq.heap.size + 1) (by simp) ?_; intro g6 cap6 w6a hown6 hgrow6 hat6 hlt6; have MG := STEP.out 5 (by decide) wq _ w6a g6 cap6 EQ.out.2 (Keeps.alloc [] wq (.cells #[.int .i64 5, .int .i64 0, .int .i64 0, .int .i64 0, .int .i64 0, .slice none 0 0] 54)) hown6 hgrow6; have y0 := hcell MG.1 0; have x0 := hfrozen MG.1 0; have HM6 := hid MG.2; clear MG hown6 hgrow6 hat6))
          clear y0 x0 b0 b0' d0 d1 d2 d3 d4 d5 SZ1 OWI
          generalize w6a.setCell ⟨bbx, 0, none⟩ (.slice (some ⟨g6, 0, none⟩) (i + 1) cap6) = w8 at *
          go_wp2_with fail
          go_roundw
          case rel => exact ⟨i + 1, A2 - 1, os ++ [5], _, _, by go_num, by go_num, by omega, hid ⟨by simp [HI.out.1], by have := HI.out.2; rw [c5_snoc]; simp; omega⟩, HM6⟩
          case measure => simp [intOf]; omega
        · have hA' : ¬ (0 : Int) < (A2 : Int) := by omega
          obtain rfl : A2 = 0 := by omega
          go_upto_region 22 with fail
          have EQ : Box ((wr.alloc (.cells #[.int .i64 1, .int .i64 0, .int .i64 0, .int .i64 0, .int .i64 0, .slice none 0 0] 54)).heap[wr.heap.size]? = some (.cells #[.int .i64 1, .int .i64 0, .int .i64 0, .int .i64 0, .int .i64 0, .slice none 0 0] 54 (0, 0)) ∧ Keeps [] wr (wr.alloc (.cells #[.int .i64 1, .int .i64 0, .int .i64 0, .int .i64 0, .int .i64 0, .slice none 0 0] 54))) := hid ⟨heap_new wr _, Keeps.alloc [] wr _⟩
          generalize wr.alloc (.cells #[.int .i64 1, .int .i64 0, .int .i64 0, .int .i64 0, .int .i64 0, .slice none 0 0] 54) = wq at *
          generalize wr.heap.size = cbx at *
          obtain ⟨OW1, BX1, SZ1⟩ := OWQ.out _ EQ.out.2
          have OWI := hid OW1
          have b0 := hcell BX1 0
          have b0' := hcell (keep_heap BX1 (Keeps.alloc [] wq (.cells #[.int .i64 1, .int .i64 0, .int .i64 0, .int .i64 0, .int .i64 0, .slice none 0 0] 54))) 0
          have d0 := hcell EQ.out.1 0
          have d1 := hcell EQ.out.1 1
          have d2 := hcell EQ.out.1 2
          have d3 := hcell EQ.out.1 3
          have d4 := hcell EQ.out.1 4
          have d5 := hcell EQ.out.1 5
          clear OW1 BX1
          go_upto_region 17 with (at_builtin; go_must (refine wpList_append_lies _ rfl _ _ _ rfl wB.heap.size 54 Tryd.t54 (.agg #[.int .i64 0, .int .i64 0, .int .i64 0, .int .i64 0, .int .i64 0, .slice none 0 0]) 6 64 under_ins info_in zero_in size_in bytes_in rfl (by decide) (.slice ca i cp) i (inCs os) rfl (OWI.out.alloc _) ⟨wq.heap.size, 0, none⟩ 1 1 [.int .i64 1, .int .i64 0, .int .i64 0, .int .i64 0, .int .i64 0, .slice none 0 0] rfl rfl (World.news_of_block (heap_new wq _)) (fun u hu => oneC u _ rfl hu) (by decide) (by unfold maxLen; omega) (by omega) (by simp; omega) (wq.heap.size + 1) (by simp) ?_; intro g6 cap6 w6a hown6 hgrow6 hat6 hlt6; have MG := STEP.out 1 (by decide) wq _ w6a g6 cap6 EQ.out.2 (Keeps.alloc [] wq (.cells #[.int .i64 1, .int .i64 0, .int .i64 0, .int .i64 0, .int .i64 0, .slice none 0 0] 54)) hown6 hgrow6; have y0 := hcell MG.1 0; have x0 := hfrozen MG.1 0; have HM6 := hid MG.2; clear MG hown6 hgrow6 hat6))
          clear y0 x0 b0 b0' d0 d1 d2 d3 d4 d5 SZ1 OWI
          generalize w6a.setCell ⟨bbx, 0, none⟩ (.slice (some ⟨g6, 0, none⟩) (i + 1) cap6) = w8 at *
          go_wp2_with fail
          go_roundw
          case rel => exact ⟨i + 1, 0, os ++ [1], _, _, by go_num, by go_num, by omega, hid ⟨by simp [HI.out.1], by have := HI.out.2; rw [c5_snoc]; simp; omega⟩, HM6⟩
          case measure => simp [intOf]; omega
      obtain rfl : K = i := by omega
      have HFr := hid (HF.out.quiet HC.out.keep)
      have hbx := HC.out.box
      rw [← HBB.out, HI.out.1] at hbx
      have HRW : Box (CodeRow wr (os, ca, cp)) := hid (HC.out.row (by rw [HI.out.1]; exact hK30))
      have hff := HFr.out.box
      rw [← HFB.out, ← HNB.out] at hff
      have OWF : Box (wr.ownsRow wF.heap.size 44 5 (.slice ba nb bp) nb (blCs bl)) := hid (by have := HFr.out.own; rw [← HNB.out] at this; exact this)
      have f2 := hcell hff 2
      have f2' := hcell (keep_heap hff (Keeps.alloc [] wr (.cells #[.slice ca K cp, .int .i64 0, .int .i64 0, .int .i64 0, .int .i64 0] 44))) 2
      have d0 := hcell hbx 0; have d1 := hcell hbx 1; have d2 := hcell hbx 2; have d3 := hcell hbx 3; have d4 := hcell hbx 4
      have hszF := HFr.out.keep.size
      have STEPF : Box (∀ (wa w6 : World) (g cap : Nat), Keeps [] wr wa → w6.ownsRow wF.heap.size 44 5 (.slice (some ⟨g, 0, none⟩) (nb + 1) cap) (nb + 1) (blCs bl ++ [.slice ca K cp, .int .i64 0, .int .i64 0, .int .i64 0, .int .i64 0]) → wa.grownBy w6 (Value.slice ba nb bp).ownBlock → w6.heap[fbx]? = some (.cells #[.int .i64 0, .slice none 0 0, .slice ba nb bp] 29 (0, 0)) ∧ PF wF (w6.setCell ⟨fbx, 2, none⟩ (.slice (some ⟨g, 0, none⟩) (nb + 1) cap)) (bl ++ [(os, ca, cp)]) (some ⟨g, 0, none⟩) cap) := hid fun wa w6 g cap k1 ho hgr => by
        have e := HNB.out
        subst e
        have e2 := HI.out.1
        rw [← e2] at ho
        rw [HFB.out]
        exact HFr.out.grow k1 (HRW.out.quiet k1) ho hgr
      clear hbx hff
      go_upto_region 24 with fail
      go_wp2_with (at_builtin; go_must (refine wpList_append_lies _ rfl _ _ _ rfl wF.heap.size 44 Tryd.t44 (.agg #[.slice none 0 0, .int .i64 0, .int .i64 0, .int .i64 0, .int .i64 0]) 5 56 under_bls info_bl zero_bl size_bl bytes_bl rfl (by decide) (.slice ba nb bp) nb (blCs bl) rfl (OWF.out.alloc _) ⟨wr.heap.size, 0, none⟩ 1 1 [.slice ca K cp, .int .i64 0, .int .i64 0, .int .i64 0, .int .i64 0] rfl rfl (World.news_of_block (heap_new wr _)) (fun u hu => oneC u _ rfl hu) (by decide) (by unfold maxLen; omega) (by omega) (by simp; omega) (wr.heap.size + 1) (by simp) ?_; intro g6 cap6 w6a hown6 hgrow6 hat6 hlt6; have MG := STEPF.out _ w6a g6 cap6 (Keeps.alloc [] wr (.cells #[.slice ca K cp, .int .i64 0, .int .i64 0, .int .i64 0, .int .i64 0] 44)) hown6 hgrow6; have y0 := hcell MG.1 2; have x0 := hfrozen MG.1 2; have HM6 := hid MG.2; clear MG hown6 hgrow6 hat6))
      go_roundw
      case rel => exact ⟨bl ++ [(os, ca, cp)], _, _, L1 - (K + 1), A2, by go_num, by go_num, by simp; have := HNB.out; omega, hid ⟨by have := HN1.out.1; have := HK.out; have := HI.out.1; rw [ptE2_snoc]; omega, by have := HN1.out.2; have := HI.out.2; rw [stE2_snoc]; omega⟩, hid (fun hp => by
        have e1 := HL1.out (by omega)
        have e2 := HK.out
        have e3 := HI.out.1
        rw [ptE2_snoc]
        simp
        omega), HM6⟩
      case measure => simp [intOf]; omega
    have hnb0 : 0 < nb := by
      rcases Nat.eq_zero_or_pos nb with h0 | h0
      · exfalso
        have e1 : bl = [] := List.length_eq_zero_iff.1 (by rw [← HNB.out]; exact h0)
        have e2 := HN1.out.1
        rw [e1] at e2
        have e3 : ptE2 [] = 0 := by simp [ptE2, bsPt]
        rw [e3] at e2
        exact hc ⟨by omega, by omega⟩
      · exact h0
    have hor : (12 ≤ nb) ∨ (nb < 12 ∧ L1 = 0) := by omega
    have hLL : L1 < L := by
      have e2 := HN1.out.1
      obtain ⟨c, l', e3⟩ : ∃ c l', bl = c :: l' := by
        cases hb : bl with
        | nil => rw [hb] at HNB; have := HNB.out; simp at this; omega
        | cons c l' => exact ⟨c, l', rfl⟩
      rw [e3] at e2
      unfold ptE2 bsPt at e2
      simp at e2
      omega
    have HOr := hid (HO.out.quiet HF.out.keep)
    have HROW : Box (BlkRow wB (bl, ba, bp)) := hid ⟨⟨_, HF.out.own⟩, ⟨by show 0 < bl.length; rw [← HNB.out]; exact hnb0, by show bl.length ≤ 12; rw [← HNB.out]; exact hbl⟩, HF.out.rows⟩
    have hff := HF.out.box
    rw [← HFB.out, ← HNB.out] at hff
    have f0 := hcell hff 0
    have f1 := hcell hff 1
    have f2 := hcell hff 2
    have OWO : Box (wB.ownsRow w2.heap.size 29 3 (.slice fa nf fp) nf (fnCs fl)) := hid (by have := HOr.out.own; rw [← HNF.out] at this; exact this)
    have hpb := HOr.out.box
    rw [← HNF.out] at hpb
    have p4 := hcell hpb 4
    have p4' := hcell (keep_heap hpb (Keeps.alloc [] wB (.cells #[.int .i64 0, .slice none 0 0, .slice ba nb bp] 29))) 4
    have NWF : Box ((wB.alloc (.cells #[.int .i64 0, .slice none 0 0, .slice ba nb bp] 29)).heap[wB.heap.size]? = some (.cells #[.int .i64 0, .slice none 0 0, .slice ba nb bp] 29 (0, 0))) := hid (heap_new wB _)
    have hsz2 := HOr.out.keep.size
    have STEPO : Box (∀ (wa w6 : World) (g cap : Nat), Keeps [] wB wa → w6.ownsRow w2.heap.size 29 3 (.slice (some ⟨g, 0, none⟩) (nf + 1) cap) (nf + 1) (fnCs fl ++ [.int .i64 0, .slice none 0 0, .slice ba nb bp]) → wa.grownBy w6 (Value.slice fa nf fp).ownBlock → w6.heap[q + 5]? = some (.cells #[.slice none 0 0, .slice (some ⟨q, 0, none⟩) 1 1, .slice none 0 0, .slice none 0 0, .slice fa nf fp, .int .i64 0] 36 (0, 0)) ∧ PO w2 (w6.setCell ⟨q + 5, 4, none⟩ (.slice (some ⟨g, 0, none⟩) (nf + 1) cap)) q (fl ++ [(bl, ba, bp)]) (some ⟨g, 0, none⟩) cap) := hid fun wa w6 g cap k1 ho hgr => by
      have e := HNF.out
      subst e
      have e2 := HNB.out
      rw [e2] at ho
      exact ⟨HOr.out.still k1 hgr, HOr.out.grow k1 (HROW.out.quiet k1) ho hgr⟩
    clear hnb hff hpb b2 hc
    rcases hor with hh | ⟨hh, hz⟩
    all_goals (
      have hh1 : (nb : Int) < 12 ∨ ¬ (nb : Int) < 12 := by omega
      have hh2 : ¬ (nb : Int) < 12 ∨ ((nb : Int) < 12 ∧ ¬ (0 : Int) < (L1 : Int)) := by omega
      rcases hh2 with g1 | ⟨g1, g2⟩ <;> first
        | (exfalso; omega)
        | (
      try clear hz
      go_upto_region 25 with fail
      go_region_law (go_loud (refine step_append_lies _ (by rfl) _ _ _ (by rfl) w2.heap.size 29 Tryd.t29 (.agg #[.int .i64 0, .slice none 0 0, .slice none 0 0]) 3 56 under_fns info_fn zero_fn size_fn bytes_fn rfl (by decide) (.slice fa nf fp) nf (fnCs fl) (by rfl) (ownsRow_drew (OWO.out.alloc _)) ⟨wB.heap.size, 0, none⟩ 1 1 [.int .i64 0, .slice none 0 0, .slice ba nb bp] (by rfl) (by rfl) (World.news_of_block NWF.out) (fun u hu => oneC u _ rfl hu) (by omega) (by unfold maxLen; omega) (by omega) (by simp; omega) (wB.heap.size + 1) (by simp) ?_; intro g7 cap7 w7a hown7 hgrow7 hat7 hlt7; have hgr : (wB.alloc (.cells #[.int .i64 0, .slice none 0 0, .slice ba nb bp] 29)).grownBy w7a (Value.slice fa nf fp).ownBlock := ⟨hgrow7.os, hgrow7.tape, hgrow7.output, hgrow7.size, hgrow7.block⟩; have MG := STEPO.out _ w7a g7 cap7 (Keeps.alloc [] wB (.cells #[.int .i64 0, .slice none 0 0, .slice ba nb bp] 29)) hown7 hgr; have y4 := hcell MG.1 4; have x4 := hfrozen MG.1 4; have HM7 := hid MG.2; clear MG hown7 hgrow7 hgr hat7))
      all_goals (
        clear y4 x4
        go_wp2_with fail
        go_roundw
        case rel => exact ⟨fl ++ [(bl, ba, bp)], _, _, L1, A1, rfl, rfl, by simp; have := HNF.out; omega, hid ⟨by have := HN.out.1; have := HN1.out.1; rw [ptE3_snoc]; omega, by have := HN.out.2; have := HN1.out.2; rw [stE3_snoc]; omega⟩, hid (fun hp => by
          have e1 := HL.out (by omega)
          have e2 := HL1.out hp
          have e3 := HNB.out
          rw [ptE3_snoc]
          simp
          omega), HM7⟩
        case measure => simp [intOf]; omega)))
  obtain rfl : L = 0 := by omega
  have hL' : ¬ (0 : Int) < ((0 : Nat) : Int) := by omega
  have HP := hid (HO.out.prc hfl)
  have hfl0 : 0 < fl.length := by
    rcases Nat.eq_zero_or_pos fl.length with h0 | h0
    · have e1 : fl = [] := List.length_eq_zero_iff.1 h0
      have e2 := HN.out.1
      rw [e1] at e2
      have e3 : ptE3 [] = 0 := by simp [ptE3, fsPt]
      omega
    · exact h0
  have HLB : Box (bndB ⟨[], [([], 0, 0)], [], [], fl.map toFn, 0⟩ = decide (ptE3 fl ≤ 600 ∧ stE3 fl ≤ 40)) := hid (bnd_points (by simpa using hfl0) (by simpa using hfl) (fun f hf => by
    obtain ⟨e, he, rfl⟩ := List.mem_map.1 hf
    exact row_bnd (HO.out.rows e he)))
  have HKZ : Box (Keeps [] w wr) := hid (K2.out.trans HO.out.keep (fun x hx hl => by
    rw [List.mem_singleton.1 hx] at hl
    have := K1.out.size
    have := HQ.out
    omega))
  clear G0 HL p4 HO hnf
  generalize (⟨[], [([], 0, 0)], [], [], fl.map toFn, 0⟩ : Pr8) = PP at *
  by_cases hA : 0 < A
  case pos =>
    have hA' : (0 : Int) < (A : Int) := by omega
    go_wp2_with fail
    go_ret
    exact ⟨rfl, HKZ.out⟩
  have hA' : ¬ (0 : Int) < (A : Int) := by omega
  obtain rfl : A = 0 := by omega
  have e1 := HN.out.1
  have e2 := HN.out.2
  rw [show ptE3 fl = n by omega, show stE3 fl = al by omega] at HLB
  clear e1 e2 HN
  by_cases hok : n ≤ 600 ∧ al ≤ 40
  · have g1 : ¬ (600 : Int) < (n : Int) := by omega
    have g2 : ¬ (40 : Int) < (al : Int) := by omega
    rw [decide_eq_true hok] at HLB
    go_wp2_with fail
    refine (bounds_any HP.out).mono ?_
    intro e w6 h6
    rw [HLB.out] at h6
    obtain ⟨rfl, k6⟩ := h6.yes
    have K6 := hid (HKZ.out.quiet k6)
    clear k6 h6
    go_wp2_with fail
    refine (nowhere_any _).mono ?_
    rintro e w7 ⟨rfl, k7⟩
    have K7 := hid (K6.out.quiet k7)
    clear k7
    go_wp2_with fail
    refine (says_none _ _ _ _).mono ?_
    rintro e w8 ⟨rfl, k8⟩
    have K8 := hid (K7.out.quiet k8)
    clear k8
    go_wp2_with fail
    go_ret
    exact ⟨rfl, K8.out⟩
  · have hor : (600 : Int) < (n : Int) ∨ (¬ (600 : Int) < (n : Int) ∧ (40 : Int) < (al : Int)) := by omega
    rw [decide_eq_false hok] at HLB
    clear hok
    rcases hor with g1 | ⟨g1, g2⟩
    all_goals (
      go_wp2_with fail
      refine (bounds_any HP.out).mono ?_
      intro e w6 h6
      rw [HLB.out] at h6
      obtain ⟨p, rfl, r6, k6⟩ := h6.no
      have K6 := hid (HKZ.out.quiet k6)
      have R6 := hid r6
      clear k6 h6 r6
      go_wp2_with fail
      refine (nowhere_any _).mono ?_
      rintro e w7 ⟨rfl, k7⟩
      have K7 := hid (K6.out.quiet k7)
      have R7 := hid (R6.out.quiet k7)
      clear k7
      go_wp2_with fail
      refine (says_now (HG.out.quiet K7.out) R7.out (by decide)).mono ?_
      rintro e w8 ⟨rfl, k8⟩
      have K8 := hid (K7.out.quiet k8)
      clear k8
      go_wp2_with fail
      go_ret
      exact ⟨rfl, K8.out⟩)
set_option maxRecDepth 20000 in
set_option maxHeartbeats 2000000 in
theorem tp_out (a b : Int) (w : World) (hg : Glob w) (ha : b64 a) (ho : a < 1 ∨ (¬ a < 1 ∧ (650 : Int) < a) ∨ (¬ a < 1 ∧ ¬ (650 : Int) < a ∧ b < 0) ∨ (¬ a < 1 ∧ ¬ (650 : Int) < a ∧ ¬ b < 0 ∧ (50 : Int) < b) ∨ (¬ a < 1 ∧ ¬ (650 : Int) < a ∧ ¬ b < 0 ∧ ¬ (50 : Int) < b ∧ a - 12 < b)) : Calls Tryd.prog 4 #[.int .i64 a, .int .i64 b] w fun e w' => e = .returned (.bool true) ∧ Keeps [] w w' := by
  have HB := hid (begun_any w hg)
  unfold b64 at ha
  clear hg
  rcases ho with h1 | ⟨h1, h2⟩ | ⟨h1, h2, h3⟩ | ⟨h1, h2, h3, h4⟩ | ⟨h1, h2, h3, h4, h5⟩
  all_goals (
    go_enter Tryd.func4, Tryd.ntmps4
    go_wp2_with fail
    refine HB.out.mono ?_
    rintro e w1 ⟨rfl, k1⟩
    have K1 := hid k1
    clear HB k1
    go_wp2_with fail
    go_ret
    exact ⟨rfl, K1.out⟩)
theorem tp_walk (a b : Int) (w : World) (hg : Glob w) (ha : b64 a) (_ : b64 b) : Calls Tryd.prog 4 #[.int .i64 a, .int .i64 b] w fun e w' => e = .returned (.bool true) ∧ Keeps [] w w' := by
  by_cases h1 : a < 1
  · exact tp_out a b w hg ha (.inl h1)
  by_cases h2 : (650 : Int) < a
  · exact tp_out a b w hg ha (.inr (.inl ⟨h1, h2⟩))
  by_cases h3 : b < 0
  · exact tp_out a b w hg ha (.inr (.inr (.inl ⟨h1, h2, h3⟩)))
  by_cases h4 : (50 : Int) < b
  · exact tp_out a b w hg ha (.inr (.inr (.inr (.inl ⟨h1, h2, h3, h4⟩))))
  by_cases h5 : a - 12 < b
  · exact tp_out a b w hg ha (.inr (.inr (.inr (.inr ⟨h1, h2, h3, h4, h5⟩))))
  obtain ⟨m, rfl⟩ : ∃ m : Nat, a = (m : Int) := ⟨a.toNat, by omega⟩
  obtain ⟨kd, rfl⟩ : ∃ kd : Nat, b = (kd : Int) := ⟨b.toNat, by omega⟩
  exact tp_in m kd w hg (by omega) (by omega) (by omega) (by omega)
end Go.Proofs.YtlopddflbhnjdaaDoor
