/-
  Contract: graph's Path, between two nodes.
-/
import Derived.Test.YtngdnjlohmkbiaaDoorGLoops
import Derived.Test.YtngdnjlohmkbiaaDoorGBack2
namespace Go.Proofs.YtngdnjlohmkbiaaDoor
open Go.RowKit

theorem cell_one_put (w : World) (ad : Addr) (v x : Value) (t : TypeId) : ∀ (j : Nat) (u : Value), [x][j]? = some u → ((w.setCell ad v).alloc (.cells #[x] t)).cell? ((⟨w.heap.size, 0, none⟩ : Addr).add j) = some u := by
  have h := cell_one_new (w.setCell ad v) x t
  rw [World.size_setCell] at h
  exact h
theorem path_yes {g : List (List Nat)} {fr t k f : Nat} {line : List Nat} {bf : Nat → Nat} (hb : Bf g fr line bf) (hp : pthS g t (g.length + 1) 0 [fr] (fun _ => 0) = pthS g t f k line bf) (ht : t ∈ line) : ∃ d, d ≤ g.length ∧ Back line bf fr d t ∧ pathM g fr t = (wb bf d t).reverse := by
  have h1 : pthS g t (g.length + 1) 0 [fr] (fun _ => 0) = (line, bf) := hp.trans (pthS_end (fun h => h.2 ht) f)
  obtain ⟨i, hi, rfl⟩ := List.getElem_of_mem ht
  obtain ⟨d, hd, hbk⟩ := hb.back i hi
  have e : line.getD i 0 = line[i] := by rw [List.getD_eq_getElem?_getD, List.getElem?_eq_getElem hi]; rfl
  rw [e] at hbk
  have hl := nodup_len_le hb.nodup hb.lt
  refine ⟨d, by omega, hbk, ?_⟩
  show (if line[i] ∈ (pthS g line[i] (g.length + 1) 0 [fr] (fun _ => 0)).1 then _ else _) = _
  rw [h1, if_pos ht]
  show (wbk bf fr g.length line[i]).reverse = _
  rw [wbk_wb d g.length _ (by omega) hbk]
theorem path_no {g : List (List Nat)} {fr t f : Nat} {line : List Nat} {bf : Nat → Nat} (hp : pthS g t (g.length + 1) 0 [fr] (fun _ => 0) = pthS g t f line.length line bf) (ht : t ∉ line) : pathM g fr t = [] := by
  have h1 : pthS g t (g.length + 1) 0 [fr] (fun _ => 0) = (line, bf) := hp.trans (pthS_end (fun h => absurd h.1 (by omega)) f)
  show (if t ∈ (pthS g t (g.length + 1) 0 [fr] (fun _ => 0)).1 then _ else _) = _
  rw [h1, if_neg ht]

set_option maxHeartbeats 4000000 in
theorem path_in (g : List (List Nat)) (hs : Sm g) (a : Option Addr) (cap B fr t : Nat) (w : World) (hG : GAt w B a g) (hT : TabAt w) (hfr : fr < g.length) (ht : t < g.length) :
    Calls Tryd.prog 21 #[.agg #[.int .i64 (g.length : Int), .slice a g.length cap], .int .i64 (fr : Int), .int .i64 (t : Int)] w fun e w' => ∃ v, e = .returned v ∧ w'.ownsRow w.heap.size 3 1 v (pathM g fr t).length (ints (pathM g fr t)) ∧ Keeps [] w w' := by
  have HG := hid hG
  have HS := hid hs
  have HT := hid hT
  have hg6 := hs.len
  have k1 : Keeps [] w (w.alloc (Obj.cells #[.int .i64 (g.length : Int), .slice a g.length cap] 27)) := Keeps.alloc _ _ _
  have H1 := hid (TwoAt.new w (.int .i64 (g.length : Int)) (.slice a g.length cap))
  have HC : Box (∀ w, GAt w B a g → Calls Tryd.prog 24 #[.agg #[.int .i64 (g.length : Int), .slice a g.length cap]] w fun e w' => e = .returned (.bool true) ∧ Keeps [] w w') := hid (fun w => gmay_yes g hs a cap B w)
  have HH1 := hid (fun w1 => ghas_yes (g.length : Int) (fr : Int) a g.length cap w1 (by omega) (by omega))
  have HH2 := hid (fun w1 => ghas_yes (g.length : Int) (t : Int) a g.length cap w1 (by omega) (by omega))
  have HST := hid (Bf.start hfr (fun _ => 0))
  obtain ⟨n, hn⟩ : ∃ n, g.length = n := ⟨_, rfl⟩
  have HC1 := HC.out _ (hG.quiet k1)
  rw [hn] at hg6 k1 H1 HH1 HH2 HC1 hfr ht ⊢
  have HN := hid hn
  clear hG hs hT hn HC
  go_enter Tryd.func21, Tryd.ntmps21
  go_wp2_with fail
  generalize w.alloc (Obj.cells #[.int .i64 (n : Int), .slice a n cap] 27) = w1 at k1 H1 HC1 ⊢
  refine HC1.mono ?_
  rintro e w2 ⟨rfl, hk2⟩
  have H2 := hid (H1.out.kept hk2 (by simp))
  have hw2 := k1.quiet hk2
  have hc0 := H2.out.c0
  have hc1 := H2.out.c1
  clear HC1 H1 hk2 k1
  go_wp2_with fail
  refine (HH1.out w2).mono ?_
  rintro e w3 ⟨rfl, hk3⟩
  have H3 := hid (H2.out.kept hk3 (by simp))
  have hw3 := hw2.quiet hk3
  clear hc0 hc1 H2 HH1 hk3 hw2
  have hc0 := H3.out.c0
  have hc1 := H3.out.c1
  go_wp2_with fail
  refine (HH2.out w3).mono ?_
  rintro e w4 ⟨rfl, hk4⟩
  have H4 := hid (H3.out.kept hk4 (by simp))
  have hw4 := hw3.quiet hk4
  clear hc0 hc1 H3 HH2 hk4 hw3
  have hc0 := H4.out.c0
  have hc1 := H4.out.c1
  have HOF := hid (of_any (some ⟨w4.heap.size, 0, none⟩) 1 [(fr : Int)] (w4.alloc (Obj.cells #[.int .i64 (fr : Int)] 3)) (.inr ⟨_, 0, rfl, fun i hi => by simp at hi; subst hi; exact cell_one_new w4 _ _ 0 _ rfl⟩) (by simp))
  rw [show ofI [(fr : Int)] = orL none_ [fr] from ofI_orL [fr] (by simp; omega) none_] at HOF
  have hw5 : Keeps [] w (w4.alloc (Obj.cells #[.int .i64 (fr : Int)] 3)) := hw4.quiet (Keeps.alloc _ _ _)
  have H5 := hid (H4.out.kept (Keeps.alloc [] w4 (Obj.cells #[.int .i64 (fr : Int)] 3)) (by simp))
  go_wp2_with fail
  generalize w4.alloc (Obj.cells #[.int .i64 (fr : Int)] 3) = w5 at HOF hw5 H5 ⊢
  refine HOF.out.mono ?_
  rintro e w6 ⟨rfl, hs6, hk6⟩
  have H6 := hid (H5.out.kept hk6 (by simp))
  have HS6 := hid hs6
  have hw6 := hw5.quiet hk6
  have hbr : w.heap.size < w5.heap.size := H5.out.lt
  have hbr6 := hs6.lt
  clear HOF H5 H4 hs6 hk6 hw5 hc0 hc1 hw4
  generalize w5.heap.size = br at HS6 hbr hbr6 ⊢
  have hc0 := H6.out.c0
  have hsz6 := hw6.size
  go_wp2_with (at_make; refine wpList_make_full _ rfl _ _ 23 rfl w.heap.size 3 Tryd.t3 (.int .i64 0) 1 under_ints info_int zero_int size_int .i64 .i64 _ _ n rfl rfl rfl rfl (by rw [bytes_int]; omega) (by unfold maxLen; omega) hsz6 ?_; intro w7 hown7 hgrow7)
  have hk7 : Keeps [] w6 w7 := Keeps.grown [] hgrow7 (by simp)
  have hk8 : Keeps [] w7 (w7.alloc (Obj.cells #[.int .i64 (fr : Int)] 3)) := Keeps.alloc _ _ _
  have hw8 := hw6.quiet (hk7.quiet hk8)
  have hp7 : RowAt w7 w.heap.size w6.heap.size n 3 (num fun _ => 0) := (RowAt.made hown7 rfl).congr (fun i _ => rfl)
  have hsz7 : w6.heap.size < w7.heap.size := hp7.lt.2
  have A8 : Box (AH w (w7.alloc (Obj.cells #[.int .i64 (fr : Int)] 3)) a cap n w6.heap.size br (.slice (some ⟨w7.heap.size, 0, none⟩) 1 1) [fr] (fun _ => 0) (orL none_ [fr])) := hid
    ⟨(H6.out.kept hk7 (by simp)).kept hk8 (by simp), hp7.kept hk8 (by simp), (HS6.out.kept hk7 (by simp)).kept hk8 (by simp), one_row fr (by omega), by simp [Value.ownBlock]; omega, hw8, hbr⟩
  clear hown7 hgrow7 hk7 hk8 hp7 H6 HS6 hc0 hw6
  generalize w7.alloc (Obj.cells #[.int .i64 (fr : Int)] 3) = w8 at A8 hw8 ⊢
  clear hw8
  generalize w6.heap.size = pw at A8 hsz7 hbr6 hsz6 ⊢
  generalize w7.heap.size = pl at A8 hsz7 ⊢
  clear hsz7 hbr6 hsz6
  have HP0 : Box (pthS g t (n + 1) 0 [fr] (fun _ => 0) = pthS g t (n + 1 - 0) 0 [fr] (fun _ => 0)) := hid rfl
  go_loopw [9, 10] (fun v9 v10 wr => ∃ (vl : Value) (line : List Nat) (bf : Nat → Nat) (k : Nat), v10 = .int .i64 (k : Int) ∧ vl = v9 ∧ k ≤ line.length ∧ Box (Bf g fr line bf) ∧ Box (pthS g t (n + 1) 0 [fr] (fun _ => 0) = pthS g t (n + 1 - k) k line bf) ∧ Box (AH w wr a cap n pw br vl line bf (orL none_ line))) (fun _ v10 _ => n - (intOf v10).toNat)
  case atStart => exact ⟨_, [fr], fun _ => 0, 0, rfl, rfl, by simp, HST, HP0, A8⟩
  case round =>
    clear A8 HP0 HST
    obtain ⟨vl, line, bf, k, rfl, rfl, hk, HBF, HPE, HR⟩ := hrel
    obtain ⟨al, cl, rfl, hnl, _, _⟩ := ownsRow_nat HR.out.row
    have HNL := hid hnl
    clear hnl
    have hln : line.length ≤ n := by rw [← HN.out]; exact nodup_len_le HBF.out.nodup HBF.out.lt
    have hfit : Box (Fit (orL none_ line)) := hid (fit_orL fit_none (fun x hx => by have := HBF.out.lt x hx; rw [HN.out] at this; omega))
    have HHS := hid (fun w9 (h9 : SetAt w9 br (orL none_ line)) => has_any br (orL none_ line) (t : Int) w9 h9 hfit.out)
    obtain ⟨q, hq⟩ : ∃ q, decide (t ∈ line) = q := ⟨_, rfl⟩
    have e0 : hasI (orL none_ line) (t : Int) = q := by rw [← hq]; simp [hasI, orL, none_]
    rw [e0] at HHS
    have HQ := hid hq
    clear hq e0
    obtain ⟨ll, hll⟩ : ∃ ll, line.length = ll := ⟨_, rfl⟩
    have HLL := hid hll
    rw [hll] at hk hln ⊢
    have HR' := HR.out
    rw [hll] at HR'
    have HR := hid HR'
    clear hll HR'
    have HPEg : Box (pthS g t (g.length + 1) 0 [fr] (fun _ => 0) = pthS g t (n + 1 - k) k line bf) := hid (by rw [HN.out]; exact HPE.out)
    by_cases hkl : k < ll
    · have HH1 := HHS.out wr HR.out.rd
      go_wp2_with fail
      refine HH1.mono ?_
      rintro e wv ⟨rfl, mv, rfl⟩
      have HV := hid (HR.out.quiet (Keeps.drewN [] _ mv))
      have HNV := hid (HNL.out.kept (Keeps.drewN [] _ mv) (by simp))
      clear HR HNL HH1
      generalize wr.drewN mv = wv at HV HNV ⊢
      cases q
      · have htl : t ∉ line := of_decide_eq_false HQ.out
        obtain ⟨bl, ol, rfl, hcl⟩ := HNV.out.at (k := k) (by rw [HLL.out]; exact hkl)
        have HBS := hid (HBF.out.step HS.out.ok (k := k) (by rw [HLL.out]; exact hkl))
        have HPE2 : Box (pthS g t (n + 1) 0 [fr] (fun _ => 0) = pthS g t (n + 1 - (k + 1)) (k + 1) (line ++ nxs g line (line.getD k 0) n) (bfJ g line (line.getD k 0) bf n)) := hid (by
          rw [HPE.out, show n + 1 - k = (n + 1 - (k + 1)) + 1 by omega, pthS_step ⟨by rw [HLL.out]; exact hkl, htl⟩, HN.out])
        rw [HN.out] at HBS
        have hxl : line.getD k 0 ∈ line := getD_mem line k 0 (by rw [HLL.out]; exact hkl)
        have hxn : line.getD k 0 < n := by have := HBF.out.lt _ hxl; rwa [HN.out] at this
        obtain ⟨x, hx⟩ : ∃ x, line.getD k 0 = x := ⟨_, rfl⟩
        rw [hx] at hcl HBS HPE2 hxl hxn
        have HX0 := hid hx
        clear hx HPE
        obtain ⟨bg, og, ai, ci, rfl, hcg, hin⟩ := HG.out.at (k := x) (by rw [HN.out]; exact hxn)
        have hcg9 := hcg
        rw [← HV.out.keep.cell (p := ⟨bg, og + x, none⟩) (block_lt_of_cell hcg) (by simp)] at hcg9
        have HIN := hid (hin.kept HV.out.keep (by simp))
        have hgb1 := HV.out.gb.c1
        have hxn' : (x : Int) < (n : Int) := by omega
        have hkl' : (k : Int) < (ll : Int) := by omega
        clear hcg hin
        have HOF : Box (∀ w9, Keeps [] wv w9 → Calls Tryd.prog 39 #[.slice ai (nb g x).length ci] w9 fun e w' => e = .returned (.pointer (some ⟨w9.heap.size, 0, none⟩)) ∧ SetAt w' w9.heap.size (orL none_ (nb g x)) ∧ Keeps [] w9 w') := hid (fun w9 k9 => by
          have h := of_any ai ci (intsI (nb g x)) w9 (HIN.out.kept k9 (by simp)).ints (by rw [intsI_len]; exact HS.out.inner x)
          rw [intsI_len, show ofI (intsI (nb g x)) = orL none_ (nb g x) from ofI_orL _ (fun y hy => by have := HS.out.ok x y hy; rw [HN.out] at this; omega) none_] at h
          exact h)
        have HLS : Box (∀ w9 b9, Keeps [] wv w9 → SetAt w9 b9 (orL none_ (nb g x)) → Calls Tryd.prog 42 #[.pointer (some ⟨b9, 0, none⟩), .pointer (some ⟨br, 0, none⟩)] w9 fun e w' => e = .returned (.pointer (some ⟨w9.heap.size, 0, none⟩)) ∧ SetAt w' w9.heap.size (nxt g line x) ∧ Keeps [] w9 w') := hid (fun w9 b9 k9 h9 => by
          have h := less_or (some b9) (some br) _ _ w9 h9 (HV.out.rd.kept k9 (by simp)) (fit_orL fit_none (fun y hy => by have := HS.out.ok x y hy; rw [HN.out] at this; omega)) hfit.out
          rw [less_nxt] at h
          exact h)
        have hkd : Keeps [] wv wv.drew := Keeps.drew _ _
        clear HIN
        go_upto_region 9 with fail
        go_cut [11] (fun t11 wz => ∃ bn, t11 = .pointer (some ⟨bn, 0, none⟩) ∧ Box (AH w wz (some ⟨bg, og, none⟩) cap n pw br (.slice (some ⟨bl, ol, none⟩) ll cl) line bf (orL none_ line)) ∧ Box (SetAt wz bn (nxt g line x)) ∧ br < bn)
        case first =>
          go_region_with (first | (go_at_call 39; refine (HOF.out _ hkd).mono ?_; rintro e w9 ⟨rfl, hs9, hk9⟩; have hkd9 := hkd.quiet hk9) | (go_at_call 42; refine (HLS.out _ _ hkd9 hs9).mono ?_; rintro e w10 ⟨rfl, hs10, hk10⟩))
          all_goals
            go_wp2_with fail
            go_meet
            have hA := HV.out.quiet (hkd9.quiet hk10)
            exact ⟨_, rfl, hid hA, hid hs10, by have := (HV.out.quiet hkd9).rd.lt; exact this⟩
        case rest =>
          obtain ⟨bn, rfl, HA, HX, hbn⟩ := hcut
          have HFI := hid (first_any bn _ 0 wc HX.out (nxt_fit HS.out.ok (by rw [HN.out]; exact hg6) line x) (HT.out.kept HA.out.keep (by simp)))
          clear HV HNV HOF HLS hkd hgb1 hcl hcg9
          go_wp2_with fail
          refine HFI.out.mono ?_
          rintro e w9 ⟨rfl, q9, rfl⟩
          have A9 : Box (AH w (wc.drewN q9) (some ⟨bg, og, none⟩) cap n pw br (.slice (some ⟨bl, ol, none⟩) ll cl) (line ++ nxs g line x 0) (bfJ g line x bf 0) (orL none_ line)) := hid (by
            rw [nxs_zero, List.append_nil]
            exact (HA.out.quiet (Keeps.drewN [] _ q9)).congr (fun i _ => (bfJ_zero g line x bf i).symm) rfl)
          have X9 := hid (HX.out.kept (Keeps.drewN [] _ q9) (by simp))
          obtain ⟨r0, hr0⟩ : ∃ r0, firstI (nxt g line x) 0 = r0 := ⟨_, rfl⟩
          rw [hr0]
          have Hr0 : Box (r0 = firstI (nxt g line x) ((0 : Nat) : Int)) := hid hr0.symm
          clear hr0 HFI HA HX
          generalize wc.drewN q9 = w9 at A9 X9 ⊢
          go_wp2_with fail
          go_loopw [9, 12] (fun v9 v12 wr => ∃ (vl : Value) (r : Int) (j : Nat), v12 = .int .i64 r ∧ vl = v9 ∧ j ≤ n ∧ Box (r = firstI (nxt g line x) (j : Int)) ∧ Box (AH w wr (some ⟨bg, og, none⟩) cap n pw br vl (line ++ nxs g line x j) (bfJ g line x bf j) (orL none_ line)) ∧ Box (SetAt wr bn (nxt g line x))) (fun _ v12 _ => mAll v12)
          case atStart => exact ⟨_, r0, 0, rfl, rfl, by omega, Hr0, A9, X9⟩
          case round =>
            clear A9 X9 Hr0
            obtain ⟨vl, r, j, rfl, rfl, hj, Hr, HR, HX⟩ := hrel
            rcases firstI_spec (nxt g line x) (j : Int) with ⟨e1, h1⟩ | ⟨m, e1, hm5, hjm, hmx, hskip⟩
            · have hr1 : r = -1 := Hr.out.trans e1
              subst hr1
              have A10 : Box (AH w wr (some ⟨bg, og, none⟩) cap n pw br vl (line ++ nxs g line x n) (bfJ g line x bf n) (orL none_ line)) := hid (by
                have h2 := nxs_end (g := g) (line := line) (x := x) (j := j) (by rw [HN.out]; exact hj) (by rw [HN.out]; exact hg6) h1
                rw [HN.out] at h2
                rw [h2]
                refine HR.out.congr (fun i hi => ?_) rfl
                have h3 := bfJ_end (g := g) (line := line) (x := x) (j := j) (bf := bf) (by rw [HN.out]; exact hg6) h1 i (by rw [HN.out]; exact hi)
                rw [HN.out] at h3
                exact h3)
              have HJ := hid (join_any br (some bn) (orL none_ line) (nxt g line x) wr A10.out.rd HX.out hfit.out (nxt_fit HS.out.ok (by rw [HN.out]; exact hg6) line x))
              have e2 := join_nxt HS.out.ok line x
              rw [HN.out] at e2
              rw [e2] at HJ
              clear e1 h1 Hr HR e2
              go_wp2_with fail
              refine HJ.out.mono ?_
              rintro e w11 ⟨rfl, hs11, hk11⟩
              have A11 := hid (A10.out.turn hk11 hs11)
              clear A10 HJ hs11 hk11
              go_wp2
              go_roundw
              case rel => exact ⟨vl, line ++ nxs g line x n, bfJ g line x bf n, k + 1, by go_num, rfl, by rw [List.length_append, HLL.out]; omega, HBS, HPE2, A11⟩
              case measure => simp [intOf]; omega
            · have hr1 : r = (m : Int) := Hr.out.trans e1
              subst hr1
              have hmn : m < n := by have := HS.out.ok x m (nxt_iff.1 hmx).1; rwa [HN.out] at this
              have hns := hid (nxs_step (by omega) hmx hskip)
              have hbs := hid (fun i => bfJ_step (bf := bf) (by omega) hmx hskip i)
              have hll2 : (line ++ nxs g line x j).length + 1 ≤ n := by
                have h2 := nodup_len_le (nxs_nodup g line x (m + 1) HBF.out.nodup) (nxs_lt HS.out.ok HBF.out.lt)
                rw [hns.out, HN.out, ← List.append_assoc, List.length_append] at h2
                exact h2
              obtain ⟨al2, cl2, rfl, hnl2, _, _⟩ := ownsRow_nat HR.out.row
              have hk2 : k < (line ++ nxs g line x j).length := by rw [List.length_append, HLL.out]; omega
              obtain ⟨b2, o2, rfl, hc2⟩ := hnl2.at hk2
              have e3 : (line ++ nxs g line x j).getD k 0 = x := by
                rw [← HX0.out, List.getD_eq_getElem?_getD, List.getElem?_append_left (by rw [HLL.out]; exact hkl), ← List.getD_eq_getElem?_getD]
              rw [e3] at hc2
              have hmc : wr.cell? ⟨pw, m, none⟩ = some (.int .i64 ((bfJ g line x bf j m : Nat) : Int)) := HR.out.wt.cell hmn
              have hmf := HR.out.wt.frozen m
              have HP := hid ((HR.out.put m x).congr (wt' := bfJ g line x bf (m + 1)) (fun i _ => hbs.out i) rfl)
              have HXP : Box (SetAt (wr.setCell ⟨pw, m, none⟩ (.int .i64 (x : Int))) bn (nxt g line x)) := hid (HX.out.kept (Keeps.setCell [pw] _ _ _ (by simp)) (by simp; exact fun e => set_ne_rowat HX.out HR.out.wt e))
              have HRW := hid HP.out.row
              obtain ⟨lj, hlj⟩ : ∃ lj, line ++ nxs g line x j = lj := ⟨_, rfl⟩
              have HLJ := hid hlj
              rw [hlj] at HR HP HRW hll2 hk2 ⊢
              generalize bfJ g line x bf j m = zz at hmc
              have hmn' : (m : Int) < (n : Int) := by omega
              have hk2' : (k : Int) < (lj.length : Int) := by omega
              have hm0 : (0 : Int) ≤ (m : Int) := by omega
              have hwsz : w.heap.size ≤ ((wr.setCell ⟨pw, m, none⟩ (.int .i64 (x : Int))).alloc (Obj.cells #[.int .i64 (m : Int)] 3)).heap.size := Nat.le_trans HP.out.keep.size (Keeps.alloc [] _ _).size
              have HFI := hid (fun w9 (h9 : SetAt w9 bn (nxt g line x)) (h8 : Keeps [] w w9) => first_any bn _ ((m : Int) + 1) w9 h9 (nxt_fit HS.out.ok (by rw [HN.out]; exact hg6) line x) (HT.out.kept h8 (by simp)))
              have hst := hid (mAll_step (nxt g line x) m hm5)
              clear hlj e3 hskip hmx hjm e1 Hr hnl2 HX hbs
              go_wp2_with (at_builtin; go_must (refine wpList_append_own_at _ rfl _ _ 23 rfl w.heap.size 3 Tryd.t3 (.int .i64 0) 1 8 under_ints info_int zero_int size_int bytes_int rfl (by decide) (.slice (some ⟨b2, o2, none⟩) lj.length cl2) _ _ rfl (HRW.out.alloc _) _ 1 1 [.int .i64 (m : Int)] rfl rfl (cell_one_put _ _ _ _ _) (fun x hx => by simp at hx; subst hx; rfl) (by unfold maxLen; omega) (by omega) hwsz ?_; intro v8 w8 hown8 hgrow8 hnil8 hat8; have A8 := hid (HP.out.append (Keeps.alloc [] _ _) hown8 hgrow8 hat8); have X8 := hid ((HXP.out.kept (Keeps.alloc [] _ _) (by simp)).kept (Keeps.grown (Value.slice (some ⟨b2, o2, none⟩) lj.length cl2).ownBlock.toList hgrow8 (fun y hy => by rw [hy]; simp)) (fun hx => set_ne_row HXP.out HRW.out (by simpa using hx))); clear hown8 hgrow8 hnil8 hat8))
              refine (HFI.out _ X8.out A8.out.keep).mono ?_
              rintro e w12 ⟨rfl, q12, rfl⟩
              have A12 : Box (AH w (w8.drewN q12) (some ⟨bg, og, none⟩) cap n pw br v8 (line ++ nxs g line x (m + 1)) (bfJ g line x bf (m + 1)) (orL none_ line)) := hid (by
                rw [hns.out, ← List.append_assoc, HLJ.out]
                exact A8.out.quiet (Keeps.drewN [] _ q12))
              have X12 := hid (X8.out.kept (Keeps.drewN [] _ q12) (by simp))
              clear A8 X8 HFI HP HXP HRW HR
              obtain ⟨r2, hr2⟩ : ∃ r2, firstI (nxt g line x) ((m : Int) + 1) = r2 := ⟨_, rfl⟩
              rw [hr2] at hst ⊢
              have Hr2 : Box (r2 = firstI (nxt g line x) ((m + 1 : Nat) : Int)) := hid (by rw [← hr2]; congr 1)
              clear hr2
              go_wp2
              go_roundw
              case rel => exact ⟨v8, r2, m + 1, rfl, rfl, by omega, Hr2, A12, X12⟩
              case measure => exact hst.out
      · have htl : t ∈ line := of_decide_eq_true HQ.out
        obtain ⟨d, hd, hbk, hpm⟩ := path_yes HBF.out HPEg.out htl
        have HHV := HHS.out wv HV.out.rd
        clear HNV
        go_wp2_with fail
        refine HHV.mono ?_
        rintro e wy ⟨rfl, my, rfl⟩
        have HY := hid (HV.out.quiet (Keeps.drewN [] _ my))
        clear HHV HHS
        generalize wv.drewN my = wy at HY ⊢
        have HWB := hid (wback_any line bf n fr d t pw w.heap.size wy HY.out.wt hbk (fun x hx => by have := HBF.out.lt x hx; rwa [HN.out] at this) (by rw [HN.out] at hd; omega))
        have HPMM := hid hpm
        clear hbk hpm
        go_wp2_with fail
        refine HWB.out.mono ?_
        rintro e w13 ⟨v13, rfl, hr13, hk13⟩
        have HR13 := hid hr13
        clear hr13
        go_wp2
        go_ret
        refine ⟨v13, rfl, ?_, HY.out.keep.quiet hk13⟩
        rw [HPMM.out]
        exact ownsRow_base HR13.out HY.out.keep.size
    · obtain rfl : k = ll := by omega
      have HV := HR
      have HNV := HNL
      obtain ⟨wv, hwv⟩ : ∃ wv, wv = wr := ⟨_, rfl⟩
      subst hwv
      cases q
      · have htl : t ∉ line := of_decide_eq_false HQ.out
        have hpm := hid (path_no (f := n + 1 - k) (bf := bf) (by rw [HPEg.out, HLL.out]) htl)
        have HHV := HHS.out wv HV.out.rd
        clear HNV
        go_wp2_with fail
        refine HHV.mono ?_
        rintro e wy ⟨rfl, my, rfl⟩
        go_wp2
        go_ret
        refine ⟨_, rfl, ?_, HV.out.keep.quiet (Keeps.drewN [] _ my)⟩
        rw [hpm.out]
        exact nil_row _ _
      · have htl : t ∈ line := of_decide_eq_true HQ.out
        obtain ⟨d, hd, hbk, hpm⟩ := path_yes HBF.out HPEg.out htl
        have HHV := HHS.out wv HV.out.rd
        clear HNV
        go_wp2_with fail
        refine HHV.mono ?_
        rintro e wy ⟨rfl, my, rfl⟩
        have HY := hid (HV.out.quiet (Keeps.drewN [] _ my))
        clear HHV HHS
        generalize wv.drewN my = wy at HY ⊢
        have HWB := hid (wback_any line bf n fr d t pw w.heap.size wy HY.out.wt hbk (fun x hx => by have := HBF.out.lt x hx; rwa [HN.out] at this) (by rw [HN.out] at hd; omega))
        have HPMM := hid hpm
        clear hbk hpm
        go_wp2_with fail
        refine HWB.out.mono ?_
        rintro e w13 ⟨v13, rfl, hr13, hk13⟩
        have HR13 := hid hr13
        clear hr13
        go_wp2
        go_ret
        refine ⟨v13, rfl, ?_, HY.out.keep.quiet hk13⟩
        rw [HPMM.out]
        exact ownsRow_base HR13.out HY.out.keep.size
end Go.Proofs.YtngdnjlohmkbiaaDoor
