/-
  The document's own bytes of a block.
-/
import Derived.Test.YtmipbaihlodmdaaDoorCRt
namespace Go.Proofs.YtmipbaihlodmdaaDoor
open Go.RowKit

set_option maxRecDepth 20000 in
set_option maxHeartbeats 8000000 in
theorem fblock_any {w : World} {v : Value} {x : Bl8} (hx : BlV w v x) (hs : (blE x).length ≤ 35184372088832) : Calls Tryd.prog 21 #[v] w (ObPost w (blE x)) := by
  obtain ⟨a, cp, rfl, h1, h2, h3, h4, h5⟩ := hx
  obtain ⟨_, hr, _, hl⟩ := h1.slice
  have hb : b64 (x.code.length : Int) := by unfold b64; unfold maxLen at hl; omega
  obtain ⟨wq, HWQ⟩ : ∃ wq, Box (wq = w.alloc (.cells #[.slice a x.code.length cp, .int .i64 x.fin, .int .i64 x.reg, .int .i64 x.to, .int .i64 x.els] 58)) := ⟨_, hid rfl⟩
  have hkq : Keeps [] w wq := by rw [HWQ.out]; exact Keeps.alloc [] w _
  have hq : wq.heap[w.heap.size]? = some (.cells #[.slice a x.code.length cp, .int .i64 x.fin, .int .i64 x.reg, .int .i64 x.to, .int .i64 x.els] 58 (0, 0)) := by rw [HWQ.out]; exact heap_new _ _
  have HKQ := hid hkq
  have H1 := hid (fnum_any _ hb wq)
  have HR := hid (hr.quiet InC.stays hkq)
  have hE : blE x = insE x.code ++ numE x.fin ++ numE x.reg ++ numE x.to ++ numE x.els := by simp only [blE, pairE, List.append_assoc]
  have HE9 : Box (∀ (v : Value) (w' : World), OB wq w' v (insE x.code ++ numE x.fin ++ numE x.reg ++ numE x.to ++ numE x.els) → OB w w' v (blE x)) := hid (fun v w' h => by rw [hE]; exact h.base hkq)
  rw [hE, List.length_append, List.length_append, List.length_append, List.length_append] at hs
  have HS9 := hid hs
  have HZ : Box (∀ k, (headE inE x.code k).length ≤ (insE x.code).length) := hid (headE_len inE x.code)
  have HW5 := hid HWQ.out.symm
  have HB2 := hid h2
  have HB3 := hid h3
  have HB4 := hid h4
  have HB5 := hid h5
  obtain ⟨n, hn⟩ : ∃ n, n = x.code.length := ⟨_, rfl⟩
  have HL := hid hn
  rw [← hn] at H1 hl hq HW5 ⊢
  have hn1 : (n : Int) ≤ 9223372036854775807 := by unfold maxLen at hl; omega
  have c0 := hcell hq 0
  have HQ := hid hq
  clear hr hb hl hn hs hE h1 h2 h3 h4 h5 hkq hq HWQ
  go_enter Tryd.func21, Tryd.ntmps21
  go_wp2_with fail
  rw [HW5.out]
  generalize w.heap.size = q at *
  clear HW5
  refine H1.out.mono ?_
  rintro e w1 ⟨v1, rfl, O1⟩
  have HO0 : Box (OB wq w1 v1 (headE inE x.code 0)) := hid (by rw [headE_zero, ← HL.out]; exact O1)
  clear H1 O1 c0
  go_wp2_with fail
  go_loopw [3, 4] (fun bv iv wr => ∃ k : Nat, k ≤ n ∧ iv = .int .i64 (k : Int) ∧ Box (OB wq wr bv (headE inE x.code k))) (fun _ iv _ => n - (intOf iv).toNat)
  case atStart => exact ⟨0, by omega, rfl, HO0⟩
  case round =>
    obtain ⟨k, hk, rfl, HO⟩ := hrel
    clear HO0
    have c0 := hcell (keep_heap HQ.out HO.out.keeps) 0
    by_cases hlt : k < n
    · have hlt' : (k : Int) < (n : Int) := by omega
      obtain ⟨y, hy⟩ : ∃ y, x.code[k]? = some y := ⟨_, List.getElem?_eq_getElem (by rw [← HL.out]; exact hlt)⟩
      obtain ⟨cb, co, rfl, hc⟩ := HR.out.at hy
      have d := InC.stays _ _ _ _ _ HO.out.keeps hc
      obtain ⟨ar, acp, d5, q5⟩ := SlC.val hc.c5
      replace d5 := cell_stays HO.out.keeps d5
      obtain ⟨_, qr, _, ql⟩ := q5.slice
      have d0 := d.c0.1
      have d1 := d.c1.1
      have d2 := d.c2.1
      have d3 := d.c3.1
      have d4 := d.c4.1
      have HE : Box (∀ (v : Value) (w' : World), OB wq w' v (headE inE x.code k ++ numE y.op ++ numE y.dst ++ numE y.a ++ numE y.b ++ numE y.n ++ intsE y.args) → OB wq w' v (headE inE x.code (k + 1))) := hid (fun v w' h => by
        rw [headE_succ inE hy]
        have e : headE inE x.code k ++ inE y = headE inE x.code k ++ numE y.op ++ numE y.dst ++ numE y.a ++ numE y.b ++ numE y.n ++ intsE y.args := by simp only [inE, pairE, List.append_assoc]
        rw [e]
        exact h)
      have hz := HZ.out (k + 1)
      rw [headE_succ inE hy, show headE inE x.code k ++ inE y = headE inE x.code k ++ numE y.op ++ numE y.dst ++ numE y.a ++ numE y.b ++ numE y.n ++ intsE y.args by simp only [inE, pairE, List.append_assoc], List.length_append, List.length_append, List.length_append, List.length_append, List.length_append, List.length_append] at hz
      have hs := HS9.out
      have HC1 := hid fun (w' : World) => fnum_any y.op d.c0.2 w'
      have HP1 := hid (numE_pos y.op)
      have HC2 := hid fun (w' : World) => fnum_any y.dst d.c1.2 w'
      have HP2 := hid (numE_pos y.dst)
      have HC3 := hid fun (w' : World) => fnum_any y.a d.c2.2 w'
      have HP3 := hid (numE_pos y.a)
      have HC4 := hid fun (w' : World) => fnum_any y.b d.c3.2 w'
      have HP4 := hid (numE_pos y.b)
      have HC5 := hid fun (w' : World) => fnum_any y.n d.c4.2 w'
      have HP5 := hid (numE_pos y.n)
      have HC6 : Box (∀ (w' : World), Keeps [] wq w' → Calls Tryd.prog 20 #[.slice ar y.args.length acp] w' (ObPost w' (intsE y.args))) := hid (fun w' kk => fnums_any (qr.quiet IntC.stays kk) ql (by omega))
      have HP6 := hid (Cd.ints.pos y.args)
      have HY : Box ((headE inE x.code k).length + (numE y.op).length + (numE y.dst).length + (numE y.a).length + (numE y.b).length + (numE y.n).length + (intsE y.args).length ≤ 35184372088832) := hid (by omega)
      obtain ⟨wb, HWB⟩ : ∃ wb, Box (wb = wr.alloc (.cells #[.int .i64 y.op, .int .i64 y.dst, .int .i64 y.a, .int .i64 y.b, .int .i64 y.n, .slice ar y.args.length acp] 86)) := ⟨_, hid rfl⟩
      have HU := hid (show wb.heap[wr.heap.size]? = some (.cells #[.int .i64 y.op, .int .i64 y.dst, .int .i64 y.a, .int .i64 y.b, .int .i64 y.n, .slice ar y.args.length acp] 86 (0, 0)) by rw [HWB.out]; exact heap_new _ _)
      have HKB : Box (Keeps [] wr wb) := hid (by rw [HWB.out]; exact Keeps.alloc [] wr _)
      have HB0 := hid (HO.out.quiet HKB.out)
      have HW6 := hid HWB.out.symm
      generalize hT1 : numE y.op = t1 at *
      generalize hT2 : numE y.dst = t2 at *
      generalize hT3 : numE y.a = t3 at *
      generalize hT4 : numE y.b = t4 at *
      generalize hT5 : numE y.n = t5 at *
      generalize hT6 : intsE y.args = t6 at *
      generalize headE inE x.code k = B0 at *
      generalize y.args.length = na at *
      generalize y.op = y1 at *
      generalize y.dst = y2 at *
      generalize y.a = y3 at *
      generalize y.b = y4 at *
      generalize y.n = y5 at *
      clear hT1 hT2 hT3 hT4 hT5 hT6 hc hy hz d q5 qr ql hs HWB
      go_upto_region 6 with fail
      rw [HW6.out]
      generalize wr.heap.size = u at *
      clear HW6 c0 d0 d1 d2 d3 d4 d5 HO
      have b0 := hcell HU.out 0
      go_wp2_with fail
      refine (HC1.out _).mono ?_
      rintro e x1 ⟨xv1, rfl, xo1⟩
      obtain ⟨xg1, xc1, rfl, xn1⟩ := xo1.row HP1.out
      have XN1 := hid xn1
      have XO1 := hid (HB0.out.quiet xo1.keeps)
      have XB1 := hid (keep_heap HU.out xo1.keeps)
      obtain ⟨xm1, hxm1⟩ : ∃ m, m = (t1).length := ⟨_, rfl⟩
      have XM1 := hid hxm1
      rw [← hxm1]
      clear xo1 xn1 hxm1
      go_wp2_with (at_builtin; go_must (refine app_b rfl _ _ rfl rfl XO1.out rfl XM1.out HP1.out XN1.out (by have := HY.out; omega) ?_; intro g1 cap1 N1 z1 hN1 hob hgr; have ZO1 := hid hob; have ZB1 := hid (box_app XB1.out (by decide) XO1.out hgr); have b1 := hcell ZB1.out 1; clear hob hgr))
      refine (HC2.out _).mono ?_
      rintro e x2 ⟨xv2, rfl, xo2⟩
      obtain ⟨xg2, xc2, rfl, xn2⟩ := xo2.row HP2.out
      have XN2 := hid xn2
      have XO2 := hid (ZO1.out.quiet xo2.keeps)
      have XB2 := hid (keep_heap ZB1.out xo2.keeps)
      obtain ⟨xm2, hxm2⟩ : ∃ m, m = (t2).length := ⟨_, rfl⟩
      have XM2 := hid hxm2
      rw [← hxm2]
      clear xo2 xn2 hxm2
      go_wp2_with (at_builtin; go_must (refine app_b rfl _ _ rfl rfl XO2.out rfl XM2.out HP2.out XN2.out (by have := HY.out; rw [List.length_append]; omega) ?_; intro g2 cap2 N2 z2 hN2 hob hgr; have ZO2 := hid hob; have ZB2 := hid (box_app XB2.out (by decide) XO2.out hgr); have b2 := hcell ZB2.out 2; clear hob hgr))
      refine (HC3.out _).mono ?_
      rintro e x3 ⟨xv3, rfl, xo3⟩
      obtain ⟨xg3, xc3, rfl, xn3⟩ := xo3.row HP3.out
      have XN3 := hid xn3
      have XO3 := hid (ZO2.out.quiet xo3.keeps)
      have XB3 := hid (keep_heap ZB2.out xo3.keeps)
      obtain ⟨xm3, hxm3⟩ : ∃ m, m = (t3).length := ⟨_, rfl⟩
      have XM3 := hid hxm3
      rw [← hxm3]
      clear xo3 xn3 hxm3
      go_wp2_with (at_builtin; go_must (refine app_b rfl _ _ rfl rfl XO3.out rfl XM3.out HP3.out XN3.out (by have := HY.out; rw [List.length_append, List.length_append]; omega) ?_; intro g3 cap3 N3 z3 hN3 hob hgr; have ZO3 := hid hob; have ZB3 := hid (box_app XB3.out (by decide) XO3.out hgr); have b3 := hcell ZB3.out 3; clear hob hgr))
      refine (HC4.out _).mono ?_
      rintro e x4 ⟨xv4, rfl, xo4⟩
      obtain ⟨xg4, xc4, rfl, xn4⟩ := xo4.row HP4.out
      have XN4 := hid xn4
      have XO4 := hid (ZO3.out.quiet xo4.keeps)
      have XB4 := hid (keep_heap ZB3.out xo4.keeps)
      obtain ⟨xm4, hxm4⟩ : ∃ m, m = (t4).length := ⟨_, rfl⟩
      have XM4 := hid hxm4
      rw [← hxm4]
      clear xo4 xn4 hxm4
      go_wp2_with (at_builtin; go_must (refine app_b rfl _ _ rfl rfl XO4.out rfl XM4.out HP4.out XN4.out (by have := HY.out; rw [List.length_append, List.length_append, List.length_append]; omega) ?_; intro g4 cap4 N4 z4 hN4 hob hgr; have ZO4 := hid hob; have ZB4 := hid (box_app XB4.out (by decide) XO4.out hgr); have b4 := hcell ZB4.out 4; clear hob hgr))
      refine (HC5.out _).mono ?_
      rintro e x5 ⟨xv5, rfl, xo5⟩
      obtain ⟨xg5, xc5, rfl, xn5⟩ := xo5.row HP5.out
      have XN5 := hid xn5
      have XO5 := hid (ZO4.out.quiet xo5.keeps)
      have XB5 := hid (keep_heap ZB4.out xo5.keeps)
      obtain ⟨xm5, hxm5⟩ : ∃ m, m = (t5).length := ⟨_, rfl⟩
      have XM5 := hid hxm5
      rw [← hxm5]
      clear xo5 xn5 hxm5
      go_wp2_with (at_builtin; go_must (refine app_b rfl _ _ rfl rfl XO5.out rfl XM5.out HP5.out XN5.out (by have := HY.out; rw [List.length_append, List.length_append, List.length_append, List.length_append]; omega) ?_; intro g5 cap5 N5 z5 hN5 hob hgr; have ZO5 := hid hob; have ZB5 := hid (box_app XB5.out (by decide) XO5.out hgr); have b5 := hcell ZB5.out 5; clear hob hgr))
      refine (HC6.out _ ZO5.out.keeps).mono ?_
      rintro e x6 ⟨xv6, rfl, xo6⟩
      obtain ⟨xg6, xc6, rfl, xn6⟩ := xo6.row HP6.out
      have XN6 := hid xn6
      have XO6 := hid (ZO5.out.quiet xo6.keeps)
      have XB6 := hid (keep_heap ZB5.out xo6.keeps)
      obtain ⟨xm6, hxm6⟩ : ∃ m, m = (t6).length := ⟨_, rfl⟩
      have XM6 := hid hxm6
      rw [← hxm6]
      clear xo6 xn6 hxm6
      go_wp2_with (at_builtin; go_must (refine app_b rfl _ _ rfl rfl XO6.out rfl XM6.out HP6.out XN6.out (by have := HY.out; rw [List.length_append, List.length_append, List.length_append, List.length_append, List.length_append]; omega) ?_; intro g6 cap6 N6 z6 hN6 hob hgr; have ZO6 := hid hob; have ZB6 := hid (box_app XB6.out (by decide) XO6.out hgr); clear hob hgr))
      go_roundw
      case rel => exact ⟨k + 1, by omega, by go_num, hid (HE.out _ _ ZO6.out)⟩
      case measure => simp [intOf]; omega
    · obtain rfl : k = n := by omega
      have HO1 : Box (OB wq wr u3 (insE x.code)) := hid (by rw [show insE x.code = headE inE x.code k by rw [HL.out]; exact (headE_all inE x.code).symm]; exact HO.out)
      have HDa : Box (∀ w', Keeps [] wq w' → w'.cell? ⟨q, 1, none⟩ = some (.int .i64 x.fin) ∧ w'.cell? ⟨q, 2, none⟩ = some (.int .i64 x.reg)) := hid (fun w' kk => ⟨hcell (keep_heap HQ.out kk) 1, hcell (keep_heap HQ.out kk) 2⟩)
      have HDb : Box (∀ w', Keeps [] wq w' → w'.cell? ⟨q, 3, none⟩ = some (.int .i64 x.to) ∧ w'.cell? ⟨q, 4, none⟩ = some (.int .i64 x.els)) := hid (fun w' kk => ⟨hcell (keep_heap HQ.out kk) 3, hcell (keep_heap HQ.out kk) 4⟩)
      have HC1a := hid fun (w' : World) => fnum_any x.fin HB2.out w'
      have HC2a := hid fun (w' : World) => fnum_any x.reg HB3.out w'
      have HC1b := hid fun (w' : World) => fnum_any x.to HB4.out w'
      have HC2b := hid fun (w' : World) => fnum_any x.els HB5.out w'
      have HP1a := hid (numE_pos x.fin)
      have HP2a := hid (numE_pos x.reg)
      have HP1b := hid (numE_pos x.to)
      have HP2b := hid (numE_pos x.els)
      have HOk := HO1.out.keeps
      obtain ⟨d0, d1⟩ := HDa.out _ HOk
      obtain ⟨e0, e1⟩ := HDb.out _ HOk
      have HODa := hid (HO1.out.quiet (Keeps.drew [] wr))
      obtain ⟨av, cv, hu3, _⟩ := HO1.out.open
      clear HO HO1 HQ HR HZ HB2 HB3 HB4 HB5 HOk
      generalize insE x.code = B0 at *
      generalize hta : numE x.fin = ta at *
      generalize htb : numE x.reg = tb at *
      generalize htc : numE x.to = tc at *
      generalize htd : numE x.els = td at *
      generalize x.fin = y1a at *
      generalize x.reg = y2a at *
      generalize x.to = y1b at *
      generalize x.els = y2b at *
      obtain ⟨m1, HM1a⟩ : ∃ m, Box (m = ta.length) := ⟨_, hid rfl⟩
      obtain ⟨m2, HM2a⟩ : ∃ m, Box (m = tb.length) := ⟨_, hid rfl⟩
      obtain ⟨m3, HM1b⟩ : ∃ m, Box (m = tc.length) := ⟨_, hid rfl⟩
      obtain ⟨m4, HM2b⟩ : ∃ m, Box (m = td.length) := ⟨_, hid rfl⟩
      have HYa : Box (B0.length + ta.length + tb.length ≤ 35184372088832) := hid (by have := HS9.out; omega)
      have HYb : Box ((B0 ++ ta ++ tb).length + tc.length + td.length ≤ 35184372088832) := hid (by have := HS9.out; rw [List.length_append, List.length_append]; omega)
      obtain ⟨n0, hn0⟩ : ∃ m, m = B0.length := ⟨_, rfl⟩
      rw [← hn0] at hu3
      subst hu3
      clear hn0 hta htb htc htd HL
      go_upto_region 12 with fail
      go_region_held3 (fun w' => w'.cell? ⟨q, 1, none⟩ = some (.int .i64 y1a) ∧ w'.cell? ⟨q, 2, none⟩ = some (.int .i64 y2a)) (go_keep) (first
        | (go_at_call 18; revert oFa; intro oFa; refine (HC2a.out _).mono ?_; rintro e w7a ⟨v7, rfl, O7⟩; obtain ⟨g7, c7, rfl, n7⟩ := O7.row HP2a.out; have nFa := NB.mk n7; have oFa := oFa.quiet O7.keeps; obtain ⟨d0, d1⟩ := HDa.out _ oFa.keeps; rw [← HM2a.out])
        | (go_at_call 18; revert oAa; intro oAa; refine (HC2a.out _).mono ?_; rintro e w7a ⟨v7, rfl, O7⟩; obtain ⟨g7, c7, rfl, n7⟩ := O7.row HP2a.out; have nBa := NB.mk n7; have hnea := oAa.apart O7; have nAa := nAa.quiet O7.keeps; have oAa := oAa.quiet O7.keeps; obtain ⟨d0, d1⟩ := HDa.out _ oAa.keeps; rw [← HM2a.out])
        | (go_at_call 18; refine (HC1a.out _).mono ?_; rintro e w6a ⟨v6, rfl, O6⟩; obtain ⟨g6, c6, rfl, n6⟩ := O6.row HP1a.out; have nAa := NB.mk n6; have oAa := HODa.out.quiet O6.keeps; obtain ⟨d0, d1⟩ := HDa.out _ oAa.keeps; rw [← HM1a.out])
        | (refine step_app_b (by rfl) _ _ (by rfl) (by rfl) oFa (by rfl) HM2a.out HP2a.out nFa.at_ (by have := HYa.out; rw [List.length_append]; omega) ?_; intro g9a c9a N9a w9a hN9 oZa hgr9; obtain ⟨d0, d1⟩ := HDa.out _ oZa.keeps)
        | (refine step_app_b (by rfl) _ _ (by rfl) (by rfl) oAa (by rfl) HM1a.out HP1a.out nAa.at_ (by have := HYa.out; omega) ?_; intro g8 c8 N8 w8 hN8 oFa hgr8; have nFa := nBa.grown hgr8 hnea; obtain ⟨d0, d1⟩ := HDa.out _ oFa.keeps)
        | (refine step_app_b (by rfl) _ _ (by rfl) (by rfl) oAa (by rfl) HM1a.out HP1a.out nAa.at_ (by have := HYa.out; omega) ?_; intro g8 c8 N8 w8 hN8 oFa hgr8; obtain ⟨d0, d1⟩ := HDa.out _ oFa.keeps))
      all_goals have HZa := hid oZa
      all_goals clear oZa
      all_goals have HODb := hid (HZa.out.quiet (Keeps.drew [] _))
      all_goals obtain ⟨d0, d1⟩ := HDb.out _ HZa.out.keeps
      all_goals go_upto_region 13 with fail
      all_goals go_region_held3 (fun w' => w'.cell? ⟨q, 3, none⟩ = some (.int .i64 y1b) ∧ w'.cell? ⟨q, 4, none⟩ = some (.int .i64 y2b)) (go_keep) (first
        | (go_at_call 18; revert oFb; intro oFb; refine (HC2b.out _).mono ?_; rintro e w7b ⟨v7, rfl, O7⟩; obtain ⟨g7, c7, rfl, n7⟩ := O7.row HP2b.out; have nFb := NB.mk n7; have oFb := oFb.quiet O7.keeps; obtain ⟨d0, d1⟩ := HDb.out _ oFb.keeps; rw [← HM2b.out])
        | (go_at_call 18; revert oAb; intro oAb; refine (HC2b.out _).mono ?_; rintro e w7b ⟨v7, rfl, O7⟩; obtain ⟨g7, c7, rfl, n7⟩ := O7.row HP2b.out; have nBb := NB.mk n7; have hneb := oAb.apart O7; have nAb := nAb.quiet O7.keeps; have oAb := oAb.quiet O7.keeps; obtain ⟨d0, d1⟩ := HDb.out _ oAb.keeps; rw [← HM2b.out])
        | (go_at_call 18; refine (HC1b.out _).mono ?_; rintro e w6b ⟨v6, rfl, O6⟩; obtain ⟨g6, c6, rfl, n6⟩ := O6.row HP1b.out; have nAb := NB.mk n6; have oAb := HODb.out.quiet O6.keeps; obtain ⟨d0, d1⟩ := HDb.out _ oAb.keeps; rw [← HM1b.out])
        | (refine step_app_b (by rfl) _ _ (by rfl) (by rfl) oFb (by rfl) HM2b.out HP2b.out nFb.at_ (by have := HYb.out; rw [List.length_append]; omega) ?_; intro g9b c9b N9b w9b hN9 oZb hgr9; obtain ⟨d0, d1⟩ := HDb.out _ oZb.keeps)
        | (refine step_app_b (by rfl) _ _ (by rfl) (by rfl) oAb (by rfl) HM1b.out HP1b.out nAb.at_ (by have := HYb.out; omega) ?_; intro g8 c8 N8 w8 hN8 oFb hgr8; have nFb := nBb.grown hgr8 hneb; obtain ⟨d0, d1⟩ := HDb.out _ oFb.keeps)
        | (refine step_app_b (by rfl) _ _ (by rfl) (by rfl) oAb (by rfl) HM1b.out HP1b.out nAb.at_ (by have := HYb.out; omega) ?_; intro g8 c8 N8 w8 hN8 oFb hgr8; obtain ⟨d0, d1⟩ := HDb.out _ oFb.keeps))
      all_goals have HZb := hid oZb
      all_goals clear oZb
      all_goals go_wp2_with fail
      all_goals go_ret
      all_goals exact ⟨_, rfl, HE9.out _ _ HZb.out⟩
end Go.Proofs.YtmipbaihlodmdaaDoor
