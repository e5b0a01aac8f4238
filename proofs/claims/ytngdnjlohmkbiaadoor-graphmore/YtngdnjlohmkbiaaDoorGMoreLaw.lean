/-
  The statement GraphMore.
-/
import Derived.Test.YtngdnjlohmkbiaaDoorGMorePl
import Derived.Test.YtngdnjlohmkbiaaDoorGMo
import Derived.Deep.RegionHeld3
import Derived.Deep.DrawnRows
namespace Go.Proofs.YtngdnjlohmkbiaaDoor
open Go.RowKit
attribute [local go_sem ↓] Go.wp_at_zero Go.wp_at_succ

set_option maxRecDepth 20000 in
set_option maxHeartbeats 8000000 in
theorem more_law (n : Int) (pa : Option Addr) (cap : Nat) (zs : List (Int × Int)) (za zb : Int) (w : World) (hT : TabAt w) (hz : PairsAt w pa zs) (hl : zs.length ≤ maxLen) :
    Calls Tryd.prog 7 #[.int .i64 n, .slice pa zs.length cap, .int .i64 za, .int .i64 zb] w fun e w' => e = .returned (.bool true) ∧ Keeps [] w w' := by
  have HBG := hid (begun5_any w hT)
  obtain ⟨N, g, L, hN2, hN1, hgl, hsm, hgd, hnn, hmd⟩ := made_pack n zs hl
  have HMD := hid (fun wz (k : Keeps [] w wz) => hmd pa cap wz (hz.kept k (fun _ _ _ => by simp)))
  have HS := hid hsm
  have HGD := hid hgd
  have HN := hid hgl
  have HSH : Box (∀ i, i < N → (L i).length ≤ 80) := hid (fun i hi => by
    have h1 := made_short n zs i
    rw [← hnn.2, hgd, nb_map _ _ _ hi] at h1
    exact h1)
  clear hT hz hl hmd hsm hgd hgl hnn
  generalize zs.length = zl at HMD
  go_enter Tryd.func7, Tryd.ntmps7
  go_wp2_with fail
  refine HBG.out.mono ?_
  rintro e w1 ⟨rfl, k1⟩
  clear HBG
  go_wp2_with fail
  refine (HMD.out w1 k1).mono ?_
  rintro e w2 ⟨p, vs, rfl, ho2, k2⟩
  have k12 := k1.quiet k2
  have G2 := hid ho2.graph
  rw [← HGD.out] at G2
  clear ho2
  go_wp2_with fail
  refine (HMD.out w2 k12).mono ?_
  rintro e w3 ⟨p3, vs3, rfl, ho3, k3⟩
  have kA : Keeps [] w3 (w3.alloc (.cells #[.int .i64 (N : Int), .slice (some ⟨p, 0, none⟩) N N] 27)) := Keeps.alloc _ _ _
  have kB : Keeps [] (w3.alloc (.cells #[.int .i64 (N : Int), .slice (some ⟨p, 0, none⟩) N N] 27)) ((w3.alloc (.cells #[.int .i64 (N : Int), .slice (some ⟨p, 0, none⟩) N N] 27)).alloc (.cells #[.int .i64 (N : Int), .slice (some ⟨p3, 0, none⟩) N N] 27)) := Keeps.alloc _ _ _
  have M4 : Box (MO w ((w3.alloc (.cells #[.int .i64 (N : Int), .slice (some ⟨p, 0, none⟩) N N] 27)).alloc (.cells #[.int .i64 (N : Int), .slice (some ⟨p3, 0, none⟩) N N] 27)) w2.heap.size p w3.heap.size (w3.heap.size + 1) p3 N vs3 L g) := hid (by
    have sA : (w3.alloc (.cells #[.int .i64 (N : Int), .slice (some ⟨p, 0, none⟩) N N] 27)).heap.size = w3.heap.size + 1 := by simp
    have tb := TwoAt.new (w3.alloc (.cells #[.int .i64 (N : Int), .slice (some ⟨p, 0, none⟩) N N] 27)) (.int .i64 (N : Int)) (.slice (some ⟨p3, 0, none⟩) N N)
    rw [sA] at tb
    exact ⟨((G2.out.quiet k3).quiet kA).quiet kB, (TwoAt.new w3 _ _).kept kB (by simp), tb, (ho3.quiet kA).quiet kB, ((k12.quiet k3).quiet kA).quiet kB, k12.size⟩)
  clear HMD G2 ho3 k3 kA kB k1 k2 k12
  go_upto_region 5 with fail
  generalize (w3.alloc (.cells #[.int .i64 (N : Int), .slice (some ⟨p, 0, none⟩) N N] 27)).alloc (.cells #[.int .i64 (N : Int), .slice (some ⟨p3, 0, none⟩) N N] 27) = w4 at M4 ⊢
  obtain ⟨bh, hbh⟩ : ∃ bh, w3.heap.size + 1 = bh := ⟨_, rfl⟩
  rw [hbh] at M4 ⊢
  generalize w3.heap.size = bx at M4 hbh ⊢
  have hbhx : bx < bh := by omega
  clear hbh
  generalize w2.heap.size = B at M4
  have c0 := M4.out.ta.c0
  go_quiet (fail)
  rw [node_num za N hN1 (by omega), node_num zb N hN1 (by omega)]
  have hxN := nd_lt hN1 za
  have hyN := nd_lt hN1 zb
  have M5 := hid (M4.out.quiet (Keeps.drewN [] _ nq))
  clear M4 c0
  generalize w4.drewN nq = wx at M5 ⊢
  generalize nd N za = x at hxN ⊢
  generalize nd N zb = y at hyN ⊢
  have HRW := hid (M5.out.own.inner x hxN)
  have hcp := M5.out.own.cell hxN
  have hfp := M5.out.own.outer.frozen x
  have ht1 := M5.out.tb.c1
  have hp := M5.out.own.outer.lt.2
  have hq := M5.out.tb.lt
  have hxN' : (x : Int) < (N : Int) := by omega
  have hws : B ≤ wx.heap.size := by have := M5.out.own.outer.lt; omega
  have hlen := HSH.out x hxN
  obtain ⟨lx, hlx⟩ : ∃ lx, (L x).length = lx := ⟨_, rfl⟩
  have HLX := hid hlx
  rw [hlx] at HRW hlen
  clear hlx
  go_upto_region 6 with fail
  go_cut [] (fun wz => ∃ vs', Box (MO w wz B p bx bh p3 N vs' (fun i => if i = x then L x ++ [y] else L i) g))
  case first =>
    go_region_law (refine step_append_lies _ (by rfl) _ _ _ (by rfl) B 3 Tryd.t3 (.int .i64 0) 1 8 under_ints info_int zero_int size_int bytes_int rfl (by decide) (vs3 x) lx (ints (L x)) (by rfl) (HRW.out.alloc _) ⟨wx.heap.size, 0, none⟩ 1 1 [.int .i64 (y : Int)] (by rfl) (by rfl) (World.news_of_block (cs := #[.int .i64 (y : Int)]) (t := 3) (fr := (0, 0)) (heap_alloc_new wx _)) (by simp [Value.oneCell']) (by omega) (by unfold maxLen; omega) (by omega) (by simp; omega) (wx.heap.size + 1) (by simp) ?_; intro g5 cap5 w5 hown5 hgrow5 hat5 hlt5; have HG5 := hid (M5.out.grow (v' := .slice (some ⟨g5, 0, none⟩) (lx + 1) cap5) (j := y) ((Keeps.alloc [] _ _).quiet (Keeps.drew [] _)) hxN (by rw [HLX.out]; exact hown5) hgrow5 (hat5.elim (fun e => .inl (by rw [e]; rfl)) (fun e => .inr (by rw [e]; simp [Value.ownBlock])))); have hcp5 := HG5.out.cell; have hq5 := HG5.out.head; have hfp5 := HG5.out.frozen; clear hown5 hgrow5 hat5)
    all_goals
      have HMD5 := hid HG5.out.md
      clear hcp5 hq5 hfp5 HG5 hcp hfp ht1 hp hq hws hlt5
      first
        | (go_meet; exact ⟨_, HMD5⟩)
        | (go_wp2_with fail
           go_meet
           exact ⟨_, HMD5⟩)
  case rest =>
    obtain ⟨vs6, M6⟩ := hcut
    have hta := M6.out.ta
    have htb := M6.out.tb
    have hlb := htb.lt
    have e1 : (moreG L N x y).length = N := by simp [moreG]
    have LGg : Box (LG w wc bx p wc.heap.size g) := hid ⟨by rw [HN.out]; exact hta, GAt.up M6.out.gr (by have := M6.out.own.outer.lt; omega), by omega, Nat.le_refl _, M6.out.keep, M6.out.keep.size⟩
    have LGh : Box (LG w wc bh p3 wc.heap.size (moreG L N x y)) := hid ⟨by rw [e1]; exact htb, M6.out.own.graph, hlb, Nat.le_refl _, M6.out.keep, M6.out.keep.size⟩
    have hsm2 : Sm ((List.range N).map L) := by rw [← HGD.out]; exact HS.out
    have HSM := hid (more_sm hsm2 (fun i hi => Nat.le_trans (HSH.out i hi) (by omega)) hxN hyN)
    have HRM := hid (fun i (hi : i < N) => rch_more hsm2 HSM.out hxN hyN hi)
    rw [← HGD.out] at HRM
    obtain ⟨h, hh⟩ : ∃ h, moreG L N x y = h := ⟨_, rfl⟩
    rw [hh] at LGh HSM HRM e1
    have HHN := hid e1
    clear hh e1 M6 HGD HSH hsm2 hta htb hlb M5 HRW HLX hcp hfp ht1 hp hq hws hlen
    generalize wc.heap.size = C at LGg LGh
    go_wp2_with fail
    go_loopw [14] (fun v wr => ∃ i : Nat, v = .int .i64 (i : Int) ∧ i ≤ N ∧ Box (LG w wr bx p C g) ∧ Box (LG w wr bh p3 C h)) (fun v _ => N - (intOf v).toNat)
    case atStart => exact ⟨0, rfl, by omega, LGg, LGh⟩
    case round =>
      clear LGg LGh
      obtain ⟨i, rfl, hi, HG, HH⟩ := hrel
      have t6 := HG.out.two
      rw [HN.out] at t6
      have c0 := t6.c0
      by_cases hiN : i < N
      · have hiN' : (i : Int) < (N : Int) := by omega
        have c1 := t6.c1
        have t7 := HH.out.two
        rw [HHN.out] at t7
        have d0 := t7.c0
        have d1 := t7.c1
        have l6 := t6.lt
        have l7 := t7.lt
        clear t6 t7
        have HRG : Box (∀ w9 b9, Keeps [] wr w9 → w9.cell? ⟨b9, 0, none⟩ = some (.int .i64 (i : Int)) → Calls Tryd.prog 12 #[.agg #[.int .i64 (N : Int), .slice (some ⟨p, 0, none⟩) N N], .slice (some ⟨b9, 0, none⟩) 1 1] w9 fun e w' => ∃ b, e = .returned (.pointer (some ⟨b, 0, none⟩)) ∧ SetAt w' b (rch g [(i : Int)]) ∧ Keeps [] w9 w' ∧ w9.heap.size ≤ b) := hid (fun w9 b9 k9 h9 => by
          have h := reach_any g HS.out (some ⟨p, 0, none⟩) g.length C w9 (HG.out.quiet k9).gr (HG.out.quiet k9).le (some ⟨b9, 0, none⟩) 1 w9.heap.size [(i : Int)] (one_in h9) (by simp) (Nat.le_refl _)
          rw [HN.out] at h
          exact h)
        have HRH : Box (∀ w9 b9, Keeps [] wr w9 → w9.cell? ⟨b9, 0, none⟩ = some (.int .i64 (i : Int)) → Calls Tryd.prog 12 #[.agg #[.int .i64 (N : Int), .slice (some ⟨p3, 0, none⟩) N N], .slice (some ⟨b9, 0, none⟩) 1 1] w9 fun e w' => ∃ b, e = .returned (.pointer (some ⟨b, 0, none⟩)) ∧ SetAt w' b (rch h [(i : Int)]) ∧ Keeps [] w9 w' ∧ w9.heap.size ≤ b) := hid (fun w9 b9 k9 h9 => by
          have h := reach_any h HSM.out (some ⟨p3, 0, none⟩) h.length C w9 (HH.out.quiet k9).gr (HH.out.quiet k9).le (some ⟨b9, 0, none⟩) 1 w9.heap.size [(i : Int)] (one_in h9) (by simp) (Nat.le_refl _)
          rw [HHN.out] at h
          exact h)
        have T7 := hid (fun w9 (k9 : Keeps [] wr w9) => (HH.out.quiet k9).two)
        rw [HHN.out] at T7
        have T6 := hid (fun w9 (k9 : Keeps [] wr w9) => (HG.out.quiet k9).two)
        rw [HN.out] at T6
        have kS1 : Box (Keeps [] wr (wr.alloc (Obj.cells #[.int .i64 (i : Int)] 3)).drew) := hid ((Keeps.alloc [] _ _).quiet (Keeps.drew [] _))
        have kS2 : Box (Keeps [] wr ((wr.alloc (Obj.cells #[.int .i64 (i : Int)] 3)).alloc (Obj.cells #[.int .i64 (i : Int)] 3)).drew) := hid (((Keeps.alloc [] _ _).quiet (Keeps.alloc [] _ _)).quiet (Keeps.drew [] _))
        have cS1 : Box ((wr.alloc (Obj.cells #[.int .i64 (i : Int)] 3)).drew.cell? ⟨wr.heap.size, 0, none⟩ = some (.int .i64 (i : Int))) := hid (cell_one_new wr _ _ 0 _ rfl)
        have cS2a : Box (((wr.alloc (Obj.cells #[.int .i64 (i : Int)] 3)).alloc (Obj.cells #[.int .i64 (i : Int)] 3)).drew.cell? ⟨wr.heap.size, 0, none⟩ = some (.int .i64 (i : Int))) := hid (by
          have h := cell_one_new wr (.int .i64 (i : Int)) 3 0 _ rfl
          exact ((Keeps.alloc [] (wr.alloc (Obj.cells #[.int .i64 (i : Int)] 3)) _).cell (p := ⟨wr.heap.size, 0, none⟩) (block_lt_of_cell h) (by simp)).trans h)
        have cS2b : Box (((wr.alloc (Obj.cells #[.int .i64 (i : Int)] 3)).alloc (Obj.cells #[.int .i64 (i : Int)] 3)).drew.cell? ⟨wr.heap.size + 1, 0, none⟩ = some (.int .i64 (i : Int))) := hid (by
          have h := cell_one_new (wr.alloc (Obj.cells #[.int .i64 (i : Int)] 3)) (.int .i64 (i : Int)) 3 0 _ rfl
          rw [World.size_alloc] at h
          exact h)
        go_upto_region 10 with fail
        go_cut [15, 16] (fun t15 t16 wz => ∃ b1 b2, t15 = .pointer (some ⟨b1, 0, none⟩) ∧ t16 = .pointer (some ⟨b2, 0, none⟩) ∧ Box (LG w wz bx p C g) ∧ Box (LG w wz bh p3 C h) ∧ Box (SetAt wz b1 (rch g [(i : Int)])) ∧ Box (SetAt wz b2 (rch h [(i : Int)])) ∧ b1 < b2 ∧ C ≤ b1)
        case first =>
          have hCr := HG.out.le
          have hbxr := l6
          go_region_held3 (fun w' => w'.cell? ⟨bx, 0, none⟩ = some (.int .i64 (N : Int)) ∧ w'.cell? ⟨bx, 1, none⟩ = some (.slice (some ⟨p, 0, none⟩) N N) ∧ w'.cell? ⟨bh, 0, none⟩ = some (.int .i64 (N : Int)) ∧ w'.cell? ⟨bh, 1, none⟩ = some (.slice (some ⟨p3, 0, none⟩) N N)) (go_keep) (first | (go_at_call 12; revert kk4; intro kk4; refine (HRH.out _ _ (by with_reducible (repeat (first | exact kk4 | refine Keeps.quiet ?_ (Keeps.alloc [] _ _) | refine Keeps.quiet ?_ (Keeps.drew [] _)))) (by first | exact litc _ _ _ _ rfl | exact ((k4.cell (p := ⟨_, 0, none⟩) (block_lt_of_cell cS2a.out) (by simp)).trans cS2a.out) | exact ((k4.cell (p := ⟨_, 0, none⟩) (block_lt_of_cell cS2b.out) (by simp)).trans cS2b.out) | fail)).mono ?_; rintro e w5 ⟨b5, rfl, hs5, k5, hb5⟩; have kk5 : Keeps [] wr w5 := Keeps.quiet (by with_reducible (repeat (first | exact kk4 | refine Keeps.quiet ?_ (Keeps.alloc [] _ _) | refine Keeps.quiet ?_ (Keeps.drew [] _)))) k5; have kw5 : Keeps [] w4 w5 := Keeps.quiet (by with_reducible (repeat (first | exact Keeps.refl _ _ | refine Keeps.quiet ?_ (Keeps.alloc [] _ _) | refine Keeps.quiet ?_ (Keeps.drew [] _)))) k5; have S45 := hid (S4.out.kept kw5 (by simp)); have S55 := hid hs5; have hb45 : b4 < b5 := (by have := S4.out.lt; have h8 := hb5; (try rw [World.size_alloc] at h8); omega); have f0 := (T6.out _ kk5).c0; have f1 := (T6.out _ kk5).c1; have g0 := (T7.out _ kk5).c0; have g1 := (T7.out _ kk5).c1; clear hs5 hb5) | (go_at_call 12; (fail_if_success (have := kk4)); refine (HRG.out _ _ (by with_reducible (repeat (first | exact Keeps.refl _ _ | refine Keeps.quiet ?_ (Keeps.alloc [] _ _) | refine Keeps.quiet ?_ (Keeps.drew [] _)))) (by first | exact cS1.out | exact cS2a.out | exact cS2b.out | fail)).mono ?_; rintro e w4 ⟨b4, rfl, hs4, k4, hb4⟩; have kk4 : Keeps [] wr w4 := Keeps.quiet (by with_reducible (repeat (first | exact Keeps.refl _ _ | refine Keeps.quiet ?_ (Keeps.alloc [] _ _) | refine Keeps.quiet ?_ (Keeps.drew [] _)))) k4; have S4 := hid hs4; have hC4 : C ≤ b4 := (by have h8 := hb4; simp only [size_drew, World.size_alloc] at h8; omega); have f0 := (T6.out _ kk4).c0; have f1 := (T6.out _ kk4).c1; have g0 := (T7.out _ kk4).c0; have g1 := (T7.out _ kk4).c1; clear hs4 hb4) | fail)
          all_goals
            have HGm := hid (HG.out.quiet kk5)
            have HHm := hid (HH.out.quiet kk5)
            clear k4 k5
            go_wp2_with fail
            go_meet
            exact ⟨b4, b5, rfl, rfl, HGm, HHm, S45, S55, hb45, hC4⟩
        case rest =>
          obtain ⟨b1, b2, rfl, rfl, HGz, HHz, S1, S2, hb12, hCb⟩ := hcut
          have hrm := HRM.out i hiN
          have f1 : Box (Fit (rch g [(i : Int)])) := hid (rchS_fit HS.out _ none_ fit_none)
          have f2 : Box (Fit (rch h [(i : Int)])) := hid (rchS_fit HSM.out _ none_ fit_none)
          have f3 : Box (Fit (rch g [(y : Int)])) := hid (rchS_fit HS.out _ none_ fit_none)
          have hyy : rch g [(y : Int)] y = true := (rch_iff HS.out.ok (by rw [HN.out]; exact hyN) y).2 (Pth.refl rfl)
          have HRY : Box (∀ w9 b9, Keeps [] wc w9 → w9.cell? ⟨b9, 0, none⟩ = some (.int .i64 (y : Int)) → Calls Tryd.prog 12 #[.agg #[.int .i64 (N : Int), .slice (some ⟨p, 0, none⟩) N N], .slice (some ⟨b9, 0, none⟩) 1 1] w9 fun e w' => ∃ b, e = .returned (.pointer (some ⟨b, 0, none⟩)) ∧ SetAt w' b (rch g [(y : Int)]) ∧ Keeps [] w9 w' ∧ w9.heap.size ≤ b) := hid (fun w9 b9 k9 h9 => by
            have h := reach_any g HS.out (some ⟨p, 0, none⟩) g.length C w9 (HGz.out.quiet k9).gr (HGz.out.quiet k9).le (some ⟨b9, 0, none⟩) 1 w9.heap.size [(y : Int)] (one_in h9) (by simp) (Nat.le_refl _)
            rw [HN.out] at h
            exact h)
          have hsub : subI (rch g [(i : Int)]) (rch h [(i : Int)]) = true := (subI_iff _ _ f1.out).2 (fun m hm => by
            rw [hrm]
            by_cases e : rch g [(i : Int)] x = true
            · rw [if_pos e]; show (rch g [(i : Int)] m || _) = true; rw [hm]; rfl
            · rw [if_neg e]; exact hm)
          have HIN := hid (in_any b1 b2 _ _ wc S1.out S2.out f1.out)
          rw [hsub] at HIN
          have HS1 := hid (fun w9 (k9 : Keeps [] wc w9) => has_any b1 _ (x : Int) w9 (S1.out.kept k9 (by simp)) f1.out)
          rw [show hasI (rch g [(i : Int)]) (x : Int) = rch g [(i : Int)] x from by simp [hasI]] at HS1
          have HS2 := hid (fun w9 (k9 : Keeps [] wc w9) => has_any b2 _ (y : Int) w9 (S2.out.kept k9 (by simp)) f2.out)
          rw [show hasI (rch h [(i : Int)]) (y : Int) = rch h [(i : Int)] y from by simp [hasI]] at HS2
          clear hsub HRG HRH T7 T6 kS1 kS2 cS1 cS2a cS2b HG HH c0 c1 d0 d1 l6 l7
          obtain ⟨s1, hs1⟩ : ∃ s1, rch g [(i : Int)] = s1 := ⟨_, rfl⟩
          obtain ⟨s2, hs2⟩ : ∃ s2, rch h [(i : Int)] = s2 := ⟨_, rfl⟩
          obtain ⟨s3, hs3⟩ : ∃ s3, rch g [(y : Int)] = s3 := ⟨_, rfl⟩
          rw [hs1, hs2, hs3] at hrm
          rw [hs1] at S1 f1 HS1
          rw [hs2] at S2 f2 HS2
          rw [hs3] at hyy f3 HRY
          clear hs1 hs2 hs3
          have hxN' : (x : Int) < (N : Int) := by omega
          cases hq : s1 x
          · rw [hq] at hrm HS1
            rw [if_neg (by simp)] at hrm
            subst hrm
            clear hq HRY HS2
            go_wp2_with fail
            refine HIN.out.mono ?_
            rintro e wa ⟨rfl, hwa⟩
            obtain rfl := hwa.symm
            clear hwa HIN
            go_wp2_with fail
            refine (HS1.out _ (Keeps.refl _ _)).mono ?_
            rintro e wb ⟨rfl, mb, rfl⟩
            go_wp2_with fail
            refine (HS1.out _ (Keeps.drewN [] _ mb)).mono ?_
            rintro e wd ⟨rfl, md, rfl⟩
            have kd2 : Keeps [] wc ((wc.drewN mb).drewN md) := (Keeps.drewN [] _ _).quiet (Keeps.drewN [] _ _)
            have HEQ := hid (seq_same b1 b2 s2 _ (S1.out.kept kd2 (by simp)) (S2.out.kept kd2 (by simp)) f2.out)
            have G9 := hid (HGz.out.quiet kd2)
            have H9 := hid (HHz.out.quiet kd2)
            clear HS1 S1 S2 HGz HHz
            generalize (wc.drewN mb).drewN md = wy at HEQ G9 H9 ⊢
            go_wp2_with fail
            refine HEQ.out.mono ?_
            rintro e wz ⟨rfl, hwz⟩
            obtain rfl := hwz.symm
            clear hwz HEQ kd2
            go_wp2
            go_roundw
            case rel => exact ⟨i + 1, by go_num, by omega, G9, H9⟩
            case measure => simp [intOf]; omega
          · rw [hq] at hrm HS1
            rw [if_pos rfl] at hrm
            have hty : s2 y = true := by rw [hrm]; show (s1 y || s3 y) = true; rw [hyy]; simp
            rw [hty] at HS2
            clear hq hyy hty
            go_wp2_with fail
            refine HIN.out.mono ?_
            rintro e wa ⟨rfl, hwa⟩
            obtain rfl := hwa.symm
            clear hwa HIN
            go_wp2_with fail
            refine (HS1.out _ (Keeps.refl _ _)).mono ?_
            rintro e wb ⟨rfl, mb, rfl⟩
            have kb : Keeps [] wc (wc.drewN mb) := Keeps.drewN _ _ _
            generalize wc.drewN mb = wb at kb ⊢
            go_wp2_with fail
            refine (HS2.out _ kb).mono ?_
            rintro e wd ⟨rfl, md, rfl⟩
            have kd2 : Keeps [] wc (wb.drewN md) := kb.quiet (Keeps.drewN [] _ _)
            generalize wb.drewN md = wd at kd2 ⊢
            go_wp2_with fail
            refine (HS1.out _ kd2).mono ?_
            rintro e we ⟨rfl, me, rfl⟩
            have ke : Keeps [] wc (wd.drewN me) := kd2.quiet (Keeps.drewN [] _ _)
            clear kb kd2 HS1 HS2
            generalize wd.drewN me = we at ke ⊢
            have G8 := hid (HGz.out.quiet ke)
            have t6 := G8.out.two
            rw [HN.out] at t6
            have c0 := t6.c0
            have c1 := t6.c1
            clear t6
            have kf : Keeps [] wc (we.alloc (Obj.cells #[.int .i64 (y : Int)] 3)) := ke.quiet (Keeps.alloc [] _ _)
            have HRY2 := hid (HRY.out _ _ kf (cell_one_new we (.int .i64 (y : Int)) 3 0 _ rfl))
            clear HRY
            go_wp2_with fail
            generalize we.alloc (Obj.cells #[.int .i64 (y : Int)] 3) = wf at kf HRY2 ⊢
            refine HRY2.out.mono ?_
            rintro e wg ⟨b3, rfl, hs3, k3, hb3⟩
            have kg := kf.quiet k3
            have HJ := hid (join_any b1 (some b3) s1 s3 wg (S1.out.kept kg (by simp)) hs3 f1.out f3.out)
            rw [← hrm] at HJ
            have G9 := hid (HGz.out.quiet kg)
            have H9 := hid (HHz.out.quiet kg)
            have S9 := hid (S2.out.kept kg (by simp))
            clear HRY2 hs3 k3 hb3 c0 c1 G8 ke kf kg HGz HHz S1 S2 hrm
            go_wp2_with fail
            refine HJ.out.mono ?_
            rintro e wh ⟨rfl, hs10, k10⟩
            have HEQ := hid (seq_same b1 b2 s2 wh hs10 (S9.out.kept k10 (by simp; omega)) f2.out)
            have G10 := hid (G9.out.kept k10 (fun u hu => by simp at hu; omega))
            have H10 := hid (H9.out.kept k10 (fun u hu => by simp at hu; omega))
            clear HJ hs10 k10 G9 H9 S9
            go_wp2_with fail
            refine HEQ.out.mono ?_
            rintro e wz ⟨rfl, hwz⟩
            obtain rfl := hwz.symm
            clear hwz HEQ
            go_wp2
            go_roundw
            case rel => exact ⟨i + 1, by go_num, by omega, G10, H10⟩
            case measure => simp [intOf]; omega
      · obtain rfl : i = N := by omega
        clear t6
        go_wp2
        go_ret
        exact ⟨rfl, HG.out.keep⟩
end Go.Proofs.YtngdnjlohmkbiaaDoor
