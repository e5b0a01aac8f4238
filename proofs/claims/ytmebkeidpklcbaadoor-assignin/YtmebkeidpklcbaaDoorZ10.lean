/-
  The document's own points behind a point.
-/
import Derived.Deep.RegionLawGrows
import Derived.Deep.RegionHeldLaw
import Derived.Deep.DeepCutAuto
import Derived.Deep.CutBlock
import Derived.Test.YtmebkeidpklcbaaDoorZ03
import Derived.Test.YtmebkeidpklcbaaDoorZ04
import Derived.Test.YtmebkeidpklcbaaDoorZ08

namespace Go.Proofs.YtmebkeidpklcbaaDoor
open Go.RowKit

set_option maxRecDepth 20000 in
set_option maxHeartbeats 8000000 in
theorem rnext_new {w : World} {pb po : Nat} {P : Pr8} (h : PrC w pb po P) (hs : Sm8 P) (f b i : Nat) (hp : IsPt P f b i) : Calls Tryd.prog 44 #[.pointer (some ⟨pb, po, none⟩), ptV f b i] w (NexNew w P f b i) := by
  have ka := Keeps.alloc [] w (.cells #[.int .i64 (f : Int), .int .i64 (b : Int), .int .i64 (i : Int)] 43)
  have hq := heap_new w (.cells #[.int .i64 (f : Int), .int .i64 (b : Int), .int .i64 (i : Int)] 43)
  obtain ⟨fa, fcp, HH⟩ := h.fns
  obtain ⟨fb, fo, ba, bcp, rfl, B⟩ := HH.at hp.1
  obtain ⟨bb, bo, rfl, L⟩ := B.at hp.2.1
  obtain ⟨ca, ccp, hcc0, _⟩ := L.c0
  have hf := hp.1
  have hb := hp.2.1
  have hi := hp.2.2
  have hM14 := hs.bk f hf
  have hc9 := hs.code hf hb
  have H4 := hid HH.cell
  have H2 := hid B.cell
  have h4 := cell_stays ka HH.cell
  have h2 := cell_stays ka B.cell
  have hcc := cell_stays ka hcc0
  have m1 := cell_stays ka L.c1.1
  have m2 := cell_stays ka L.c2.1
  have m3 := cell_stays ka L.c3.1
  have m4 := cell_stays ka L.c4.1
  have KA := hid ka
  have HXX : Box (nex8 P f b i = if i < (blk8 (fun8 P f) b).code.length then [(f, b, i + 1)] else sel3 P f (tosB (blk8 (fun8 P f) b))) := hid rfl
  obtain ⟨M, hM⟩ : ∃ M, M = (fun8 P f).blocks.length := ⟨_, rfl⟩
  have HMM : Box (M = (fun8 P f).blocks.length) := hid hM
  rw [← hM] at h2 H2 hb hM14
  generalize P.funcs.length = N at *
  generalize blk8 (fun8 P f) b = x at *
  clear h hs hp ka HH B L hcc0 hM
  have g0 : ¬ (f : Int) < 0 := by omega
  have g1 : ¬ (N : Int) ≤ (f : Int) := by omega
  have g1' : (f : Int) < (N : Int) := by omega
  have g2 : ¬ (b : Int) < 0 := by omega
  have g3 : ¬ (M : Int) ≤ (b : Int) := by omega
  have g3' : (b : Int) < (M : Int) := by omega
  have g4 : ¬ (i : Int) < 0 := by omega
  have g5 : ¬ (x.code.length : Int) < (i : Int) := by omega
  unfold ptV
  go_enter Tryd.func44, Tryd.ntmps44
  go_upto_region 1 with fail
  generalize w.alloc (.cells #[.int .i64 (f : Int), .int .i64 (b : Int), .int .i64 (i : Int)] 43) = W at *
  generalize w.heap.size = q at *
  have p0 : W.cell? ⟨q, 0, none⟩ = some (.int .i64 (f : Int)) := hcell hq 0
  have p1 : W.cell? ⟨q, 1, none⟩ = some (.int .i64 (b : Int)) := hcell hq 1
  have p2 : W.cell? ⟨q, 2, none⟩ = some (.int .i64 (i : Int)) := hcell hq 2
  go_quiet (fail)
  go_wp2_with fail
  have HQ2 : Box ((W.drewN nq).heap[q]? = some (.cells #[.int .i64 (f : Int), .int .i64 (b : Int), .int .i64 (i : Int)] 43 (0, 0))) := hid hq
  have K2 := hid (KA.out.quiet (Keeps.drewN [] W nq))
  have q0 : (W.drewN nq).cell? ⟨q, 0, none⟩ = some (.int .i64 (f : Int)) := p0
  have q1 : (W.drewN nq).cell? ⟨q, 1, none⟩ = some (.int .i64 (b : Int)) := p1
  have l4 : (W.drewN nq).cell? ⟨pb, po + 4, none⟩ = some (.slice (some ⟨fb, fo, none⟩) N fcp) := h4
  have l2 : (W.drewN nq).cell? ⟨fb, fo + f * 3 + 2, none⟩ = some (.slice (some ⟨bb, bo, none⟩) M bcp) := h2
  have lc : (W.drewN nq).cell? ⟨bb, bo + b * 5, none⟩ = some (.slice ca x.code.length ccp) := hcc
  have n1 : (W.drewN nq).cell? ⟨bb, bo + b * 5 + 1, none⟩ = some (.int .i64 x.fin) := m1
  have n2 : (W.drewN nq).cell? ⟨bb, bo + b * 5 + 2, none⟩ = some (.int .i64 x.reg) := m2
  have n3 : (W.drewN nq).cell? ⟨bb, bo + b * 5 + 3, none⟩ = some (.int .i64 x.to) := m3
  have n4 : (W.drewN nq).cell? ⟨bb, bo + b * 5 + 4, none⟩ = some (.int .i64 x.els) := m4
  generalize W.drewN nq = W2 at *
  clear p0 p1 p2 h4 h2 hcc m1 m2 m3 m4 hq KA
  have kz := Keeps.alloc [] W2 (.cells #[.slice none 0 0, .int .i64 0, .int .i64 0, .int .i64 0, .int .i64 0] 63)
  have t0 := cell_stays kz q0
  have t1 := cell_stays kz q1
  have t4 := cell_stays kz l4
  have t2 := cell_stays kz l2
  have tc := cell_stays kz lc
  have s1 := cell_stays kz n1
  have s2 := cell_stays kz n2
  have s3 := cell_stays kz n3
  have s4 := cell_stays kz n4
  clear kz
  go_region
  clear t0 t1 t2 t4 tc s1 s2 s3 s4
  go_upto_region 4 with fail
  have hu : ((W2.alloc (.cells #[.slice ca x.code.length ccp, .int .i64 x.fin, .int .i64 x.reg, .int .i64 x.to, .int .i64 x.els] 63)).drew).heap[W2.heap.size]? = some (.cells #[.slice ca x.code.length ccp, .int .i64 x.fin, .int .i64 x.reg, .int .i64 x.to, .int .i64 x.els] 63 (0, 0)) := heap_new W2 _
  have kk : Keeps [] W2 ((W2.alloc (.cells #[.slice ca x.code.length ccp, .int .i64 x.fin, .int .i64 x.reg, .int .i64 x.to, .int .i64 x.els] 63)).drew) := (Keeps.alloc [] _ _).quiet (Keeps.drew [] _)
  have HQ3 := hid (keep_heap HQ2.out kk)
  have K3 := hid (K2.out.quiet kk)
  generalize (W2.alloc (.cells #[.slice ca x.code.length ccp, .int .i64 x.fin, .int .i64 x.reg, .int .i64 x.to, .int .i64 x.els] 63)).drew = W3 at *
  generalize W2.heap.size = u at *
  clear kk HQ2 K2 q0 q1 l4 l2 lc n1 n2 n3 n4
  have q0 := hcell HQ3.out 0
  have q1 := hcell HQ3.out 1
  have q2 := hcell HQ3.out 2
  have r0 := hcell hu 0
  have r1 := hcell hu 1
  have r3 := hcell hu 3
  have r4 := hcell hu 4
  by_cases hin : i < x.code.length
  · rw [if_pos hin] at HXX
    have hin' : (i : Int) < (x.code.length : Int) := by omega
    have w4 : IntKind.i64.wrap ((i : Int) + 1) = (i : Int) + 1 := IntWalk.i64_in _ (by omega)
    have w5 : (i : Int) + 1 ≤ 150 := by omega
    generalize x.code.length = n at *
    go_wp2_with fail
    go_ret
    unfold NexNew
    rw [HXX.out]
    exact ⟨_, _, rfl, pt_lit _ _ (by simp) f b (i + 1) _ (by omega), K3.out.quiet (Keeps.alloc [] _ _), fun g o e => by have h9 := K3.out.size; simp at e; omega⟩
  · rw [if_neg hin] at HXX
    have hne : ¬ (i : Int) < (x.code.length : Int) := by omega
    have HX := HXX
    clear HXX
    generalize x.code.length = n at *
    clear hin
    go_upto_block 0 with fail
    go_cut [6] (fun tv wz => ∃ ta tcp, tv = .slice ta (tosB x).length tcp ∧ Box (IntsAt wz ta (tosB x)) ∧ Box (Keeps [] W3 wz))
    case first =>
      have e1 : x.fin = 1 → tosB x = [x.to] := fun h => by unfold tosB; rw [if_pos h]
      have e2 : x.fin = 2 → x.els = x.to → tosB x = [x.to] := fun h h2 => by unfold tosB; rw [if_neg (by omega), if_pos h, if_pos h2]
      have e3 : x.fin = 2 → ¬ x.els = x.to → tosB x = [x.to, x.els] := fun h h2 => by unfold tosB; rw [if_neg (by omega), if_pos h, if_neg h2]
      have e4 : ¬ x.fin = 1 → ¬ x.fin = 2 → tosB x = [] := fun h h2 => by unfold tosB; rw [if_neg h, if_neg h2]
      have E1 := hid e1
      have E2 := hid e2
      have E3 := hid e3
      have E4 := hid e4
      clear e1 e2 e3 e4 HX HQ3 K3 q0 q1 q2 r0 hne hu
      by_cases f1 : x.fin = 1
      · have o1 := eqb f1
        go_wp2_with fail
        go_meet
        rw [E1.out f1]
        exact ⟨_, _, rfl, hid (lit1 W3 _ rfl x.to), hid (Keeps.alloc [] _ _)⟩
      · have o1 := neb f1
        by_cases f2 : x.fin = 2
        · have o2 := eqb f2
          by_cases f3 : x.els = x.to
          · have o3 := eqb f3
            have o4 : (x.els != x.to) = false := by simp [f3]
            have v3 := cell_stays (Keeps.alloc [] W3 (.cells #[.int .i64 x.to] 3)) r3
            have v4 := cell_stays (Keeps.alloc [] W3 (.cells #[.int .i64 x.to] 3)) r4
            go_wp2_with fail
            go_meet
            rw [E2.out f2 f3]
            exact ⟨_, _, rfl, hid (lit1 W3 _ rfl x.to), hid (Keeps.alloc [] _ _)⟩
          · have o3 := neb f3
            have o4 : (x.els != x.to) = true := by simp [f3]
            have v3 := cell_stays (Keeps.alloc [] W3 (.cells #[.int .i64 x.to] 3)) r3
            have v4 := cell_stays (Keeps.alloc [] W3 (.cells #[.int .i64 x.to] 3)) r4
            have F2 := hid f2
            clear f2
            go_wp2_with (at_builtin; go_must (refine wpList_append_own _ rfl _ _ 54 rfl W3.heap.size 3 Tryd.t3 (.int .i64 0) 1 8 under_ints info_int zero_int size_int bytes_int rfl (by decide) _ 1 [.int .i64 x.to] rfl ((row1 W3 _ _ rfl (Nat.le_refl _) x.to).alloc _) ⟨W3.heap.size + 1, 0, none⟩ 1 1 [.int .i64 x.els] rfl rfl (by rw [← World.size_alloc (w := W3) (o := .cells #[.int .i64 x.to] 3)]; exact cell_one_new _ _ _) (fun x hx => by simp at hx; subst hx; rfl) (by unfold maxLen; omega) (by omega) (by simp; omega) ?_; intro v' w6 hown6 hgrow6 hnil6))
            have HK6 := hid (((Keeps.alloc [] W3 (.cells #[.int .i64 x.to] 3)).quiet (Keeps.alloc [] _ (.cells #[.int .i64 x.els] 3))).appended ((row1 W3 _ _ rfl (Nat.le_refl _) x.to).alloc (.cells #[.int .i64 x.els] 3)) hgrow6 (Nat.le_refl _))
            obtain ⟨a, cp, ea, eb, ec, _, _⟩ := nums_open (l := [x.to, x.els]) hown6
            subst ea
            go_wp2_with fail
            go_meet
            rw [E3.out F2.out f3]
            exact ⟨_, _, rfl, hid ec, HK6⟩
        · have o2 := neb f2
          go_wp2_with fail
          go_meet
          rw [E4.out f1 f2]
          exact ⟨_, _, rfl, hid (.inl rfl), hid (Keeps.refl _ _)⟩
    case rest =>
      obtain ⟨ta, tcp, rfl, HTA, HK5⟩ := hcut
      have hts := tosB_len x
      generalize tosB x = ts at *
      have K5 := hid (K3.out.quiet HK5.out)
      have HQX := hid (keep_heap HQ3.out HK5.out)
      clear HK5 q0 q1 q2 r0 r1 r3 r4 hu HQ3 K3 hne
      generalize wc = w5 at *
      have H45 := hid (fun (w' : World) (k : Keeps [] w w') => cell_stays k H4.out)
      have H25 := hid (fun (w' : World) (k : Keeps [] w w') => cell_stays k H2.out)
      have HQ5 := hid (fun (w' : World) (k : Keeps [] w5 w') => (keep_heap HQX.out k : w'.heap[q]? = some (.cells #[.int .i64 (f : Int), .int .i64 (b : Int), .int .i64 (i : Int)] 43 (0, 0))))
      have HR0 : Box (w5.ownsRow w5.heap.size 43 3 (.slice none 0 0) (sel3 P f (ts.take 0)).length (ptCs (sel3 P f (ts.take 0)))) := hid (World.ownsRow_nil _ _ _ _)
      go_wp2_with fail
      go_loopw [7, 8] (fun lv kv wr => ∃ k : Nat, k ≤ ts.length ∧ kv = .int .i64 (k : Int) ∧ Box (wr.ownsRow w5.heap.size 43 3 lv (sel3 P f (ts.take k)).length (ptCs (sel3 P f (ts.take k)))) ∧ Box (Keeps [] w5 wr)) (fun _ kv _ => ts.length - (intOf kv).toNat)
      case atStart => exact ⟨0, by omega, rfl, HR0, hid (Keeps.refl _ _)⟩
      case round =>
        obtain ⟨k, hk, rfl, HR, HK⟩ := hrel
        clear HR0
        by_cases hlt : k < ts.length
        · have hlt' : (k : Int) < (ts.length : Int) := by omega
          obtain ⟨tb, tf, rfl, ht⟩ : ∃ tb tf, ta = some ⟨tb, tf, none⟩ ∧ wr.cell? ⟨tb, tf + k, none⟩ = some (.int .i64 (ts.getD k 0)) := by
            rcases HTA.out with e | ⟨tb, tf, e1, e2⟩
            · exfalso; rw [e] at hlt; simp at hlt
            · exact ⟨tb, tf, e1, cell_stays HK.out (e2 k hlt)⟩
          have hsn : Box (ts.take (k + 1) = ts.take k ++ [ts.getD k 0]) := hid (by
            rw [List.take_succ_eq_append_getElem hlt, List.getD_eq_getElem?_getD, List.getElem?_eq_getElem hlt]
            rfl)
          have hll : (sel3 P f (ts.take k)).length ≤ k := Nat.le_trans (sel3_len P f _) (by rw [List.length_take]; omega)
          have hks := HK.out.size
          have g4 := H45.out _ (K5.out.quiet HK.out)
          have g2 := H25.out _ (K5.out.quiet HK.out)
          have hz := HQ5.out _ HK.out
          have p0 : wr.cell? ⟨q, 0, none⟩ = some (.int .i64 (f : Int)) := hcell hz 0
          generalize ts.getD k 0 = t at *
          generalize ts.length = m at *
          by_cases hbk : 0 ≤ t ∧ t < (M : Int)
          · have hn : Box (sel3 P f (ts.take (k + 1)) = sel3 P f (ts.take k) ++ [(f, t.toNat, 0)]) := hid (by rw [hsn.out]; exact sel3_in P f _ t ⟨hbk.1, by have := HMM.out; omega⟩)
            have hN2 : Box ((sel3 P f (ts.take (k + 1))).length = (sel3 P f (ts.take k)).length + 1 ∧ ptCs (sel3 P f (ts.take (k + 1))) = ptCs (sel3 P f (ts.take k)) ++ [.int .i64 (f : Int), .int .i64 t, .int .i64 0]) := hid (by
              rw [hn.out, ptCs_snoc, show ((t.toNat : Nat) : Int) = t by omega]
              exact ⟨by simp, rfl⟩)
            have x1 := hbk.1
            have x2 := hbk.2
            have o1 : decide (0 ≤ t) = true := by simpa using x1
            have o2 : decide (t < (M : Int)) = true := by simpa using x2
            clear hn hsn hbk hz
            generalize (sel3 P f (ts.take k)).length = nn at *
            generalize ptCs (sel3 P f (ts.take k)) = xs at *
            go_wp2_with fail
            go_quiet (fail)
            go_wp2_with fail
            have HKd := hid (HK.out.quiet (Keeps.drewN [] wr nq))
            have HRd : Box ((wr.drewN nq).ownsRow w5.heap.size 43 3 u7 nn xs) := hid HR.out
            have p0' : (wr.drewN nq).cell? ⟨q, 0, none⟩ = some (.int .i64 (f : Int)) := p0
            have ht' : (wr.drewN nq).cell? ⟨tb, tf + k, none⟩ = some (.int .i64 t) := ht
            have hks' : w5.heap.size ≤ (wr.drewN nq).heap.size := hks
            generalize wr.drewN nq = wy at *
            clear HK HR p0 ht hks g4 g2 o1 o2
            go_region_law (refine step_append_lies _ (by rfl) _ _ _ (by rfl) w5.heap.size 43 Tryd.t43 (.agg #[.int .i64 0, .int .i64 0, .int .i64 0]) 3 24 under_pts info_pt zero_pt size_pt bytes_pt rfl (by decide) u7 nn xs (by rfl) (HRd.out.alloc _) ⟨wy.heap.size, 0, none⟩ 1 1 [.int .i64 (f : Int), .int .i64 t, .int .i64 0] (by rfl) (by rfl) (World.news_of_block (cs := #[.int .i64 (f : Int), .int .i64 t, .int .i64 0]) (t := 43) (fr := (0, 0)) (heap_alloc_new wy _)) (three_one _ _ _) (by omega) (by unfold maxLen; omega) (by omega) (by simp; omega) (wy.heap.size + 1) (by simp) ?_; intro g7 cap7 w7 hown7 hgrow7 hat7 hlt7; have HK7 := hid ((HKd.out.quiet ((Keeps.alloc [] wy _).quiet (Keeps.drew [] _))).appended HRd.out hgrow7 (Nat.le_refl _)); have HO7 := hid hown7; clear hown7 hgrow7 hat7 hlt7)
            all_goals
              go_wp2_with fail
              go_roundw
              case rel => exact ⟨k + 1, by omega, by go_num, hid (by rw [hN2.out.1, hN2.out.2]; exact HO7.out), HK7⟩
              case measure => simp [intOf]; omega
          · have hn : Box (sel3 P f (ts.take (k + 1)) = sel3 P f (ts.take k)) := hid (by rw [hsn.out]; exact sel3_out P f _ t (fun h => hbk ⟨h.1, by have := HMM.out; omega⟩))
            clear hsn hz
            by_cases x1 : 0 ≤ t
            · have x2 : ¬ t < (M : Int) := fun h => hbk ⟨x1, h⟩
              clear hbk
              go_wp2_with fail
              go_quiet (fail)
              go_wp2_with fail
              go_roundw
              case rel => exact ⟨k + 1, by omega, by go_num, hid (by rw [hn.out]; exact HR.out), hid (HK.out.quiet (Keeps.drewN [] _ _))⟩
              case measure => simp [intOf]; omega
            · clear hbk
              have x3 : t < 0 := by omega
              have o1 : decide (0 ≤ t) = false := by simpa using x1
              go_wp2_with fail
              go_quiet (fail)
              go_wp2_with fail
              go_roundw
              case rel => exact ⟨k + 1, by omega, by go_num, hid (by rw [hn.out]; exact HR.out), hid (HK.out.quiet (Keeps.drewN [] _ _))⟩
              case measure => simp [intOf]; omega
        · obtain hke : k = ts.length := by omega
          have he : Box (ts.take k = ts) := hid (by rw [hke, List.take_length])
          have hnl : ¬ (k : Int) < (ts.length : Int) := by omega
          generalize ts.length = m at *
          go_wp2_with fail
          go_ret
          obtain ⟨a, cp, e1, e2, e3, _⟩ := pts_open HR.out
          have hnw := row_new HR.out e1
          rw [he.out] at e1 e3
          unfold NexNew
          rw [HX.out]
          exact ⟨a, cp, congrArg Ending.returned e1, e3, K5.out.quiet HK.out, fun g o e => Nat.le_trans K5.out.size (hnw g o e)⟩
end Go.Proofs.YtmebkeidpklcbaaDoor
