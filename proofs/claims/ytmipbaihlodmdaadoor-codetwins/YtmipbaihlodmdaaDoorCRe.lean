/-
  The document's own bytes of a program.
-/
import Derived.Test.YtmipbaihlodmdaaDoorCHand
namespace Go.Proofs.YtmipbaihlodmdaaDoor
open Go.RowKit

set_option maxRecDepth 40000 in
set_option maxHeartbeats 20000000 in
theorem fenc_any {w : World} {pb po : Nat} {P : Pr8} (hP : PrC w pb po P) (hs : (prE P).length ≤ 35184372088832) : Calls Tryd.prog 11 #[.pointer (some ⟨pb, po, none⟩)] w (ObPost w (prE P)) := by
  obtain ⟨a0, p0, e0, v0⟩ := SlC.val hP.c0
  obtain ⟨_, r0, _, l0⟩ := v0.slice
  have HI0 : Box (b64 (P.recs.length : Int)) := hid (by unfold b64; unfold maxLen at l0; omega)
  have HR0 := hid r0
  obtain ⟨a1, p1, e1, v1⟩ := SlC.val hP.c1
  obtain ⟨_, r1, _, l1⟩ := v1.slice
  have HI1 : Box (b64 (P.sigs.length : Int)) := hid (by unfold b64; unfold maxLen at l1; omega)
  have HR1 := hid r1
  obtain ⟨a2, p2, e2, v2⟩ := SlC.val hP.c2
  obtain ⟨_, r2, _, l2⟩ := v2.slice
  have HI2 : Box (b64 (P.ifs.length : Int)) := hid (by unfold b64; unfold maxLen at l2; omega)
  have HR2 := hid r2
  obtain ⟨a3, p3, e3, v3⟩ := SlC.val hP.c3
  obtain ⟨_, r3, _, l3⟩ := v3.slice
  have HI3 : Box (b64 (P.ims.length : Int)) := hid (by unfold b64; unfold maxLen at l3; omega)
  have HR3 := hid r3
  obtain ⟨a4, p4, e4, v4⟩ := SlC.val hP.c4
  obtain ⟨_, r4, _, l4⟩ := v4.slice
  have HI4 : Box (b64 (P.funcs.length : Int)) := hid (by unfold b64; unfold maxLen at l4; omega)
  have HR4 := hid r4
  have e5 := hP.c5.1
  have HV5 := hid hP.c5.2
  have HC : Box (∀ w', Keeps [] w w' → w'.cell? ⟨pb, po, none⟩ = some (.slice a0 P.recs.length p0) ∧ w'.cell? ⟨pb, po + 1, none⟩ = some (.slice a1 P.sigs.length p1) ∧ w'.cell? ⟨pb, po + 2, none⟩ = some (.slice a2 P.ifs.length p2) ∧ w'.cell? ⟨pb, po + 3, none⟩ = some (.slice a3 P.ims.length p3) ∧ w'.cell? ⟨pb, po + 4, none⟩ = some (.slice a4 P.funcs.length p4) ∧ w'.cell? ⟨pb, po + 5, none⟩ = some (.int .i64 P.main)) := hid (by
    have e0' := e0
    have e1' := e1
    have e2' := e2
    have e3' := e3
    have e4' := e4
    have e5' := e5
    exact fun w' k => ⟨cell_stays k e0', cell_stays k e1', cell_stays k e2', cell_stays k e3', cell_stays k e4', cell_stays k e5'⟩)
  have HE5 : Box (prE P = tyssE P.recs ++ sgsE P.sigs ++ ifsE P.ifs ++ imsE P.ims ++ fusE P.funcs ++ numE P.main) := hid (by simp only [prE, pairE, List.append_assoc])
  rw [HE5.out, List.length_append, List.length_append, List.length_append, List.length_append, List.length_append] at hs
  have HSZ := hid hs
  have HH0 := headE_len tysE P.recs
  have HH1 := headE_len sgE P.sigs
  have HH2 := headE_len intsE P.ifs
  have HH3 := headE_len imE P.ims
  have HH4 := headE_len fuE P.funcs
  obtain ⟨B0, HB0⟩ : ∃ B : List UInt8, Box (B = []) := ⟨_, hid rfl⟩
  have hb0 : B0.length = 0 := by rw [HB0.out]; rfl
  obtain ⟨B1, HB1⟩ : ∃ B : List UInt8, Box (B0 ++ tyssE P.recs = B) := ⟨_, hid rfl⟩
  have hb1 : B1.length = B0.length + (tyssE P.recs).length := by rw [← HB1.out, List.length_append]
  obtain ⟨B2, HB2⟩ : ∃ B : List UInt8, Box (B1 ++ sgsE P.sigs = B) := ⟨_, hid rfl⟩
  have hb2 : B2.length = B1.length + (sgsE P.sigs).length := by rw [← HB2.out, List.length_append]
  obtain ⟨B3, HB3⟩ : ∃ B : List UInt8, Box (B2 ++ ifsE P.ifs = B) := ⟨_, hid rfl⟩
  have hb3 : B3.length = B2.length + (ifsE P.ifs).length := by rw [← HB3.out, List.length_append]
  obtain ⟨B4, HB4⟩ : ∃ B : List UInt8, Box (B3 ++ imsE P.ims = B) := ⟨_, hid rfl⟩
  have hb4 : B4.length = B3.length + (imsE P.ims).length := by rw [← HB4.out, List.length_append]
  obtain ⟨B5, HB5⟩ : ∃ B : List UInt8, Box (B4 ++ fusE P.funcs = B) := ⟨_, hid rfl⟩
  have hb5 : B5.length = B4.length + (fusE P.funcs).length := by rw [← HB5.out, List.length_append]
  have HZ0 : Box (∀ k, B0.length + (headE tysE P.recs k).length ≤ 35184372088832) := hid (fun k => by have h9 : (headE tysE P.recs k).length ≤ (tyssE P.recs).length := HH0 k; omega)
  have HZ1 : Box (∀ k, B1.length + (headE sgE P.sigs k).length ≤ 35184372088832) := hid (fun k => by have h9 : (headE sgE P.sigs k).length ≤ (sgsE P.sigs).length := HH1 k; omega)
  have HZ2 : Box (∀ k, B2.length + (headE intsE P.ifs k).length ≤ 35184372088832) := hid (fun k => by have h9 : (headE intsE P.ifs k).length ≤ (ifsE P.ifs).length := HH2 k; omega)
  have HZ3 : Box (∀ k, B3.length + (headE imE P.ims k).length ≤ 35184372088832) := hid (fun k => by have h9 : (headE imE P.ims k).length ≤ (imsE P.ims).length := HH3 k; omega)
  have HZ4 : Box (∀ k, B4.length + (headE fuE P.funcs k).length ≤ 35184372088832) := hid (fun k => by have h9 : (headE fuE P.funcs k).length ≤ (fusE P.funcs).length := HH4 k; omega)
  have HZ5 : Box (B5.length + (numE P.main).length ≤ 35184372088832) := hid (by omega)
  have HE6 : Box (B5 ++ numE P.main = prE P) := hid (by rw [HE5.out, ← HB5.out, ← HB4.out, ← HB3.out, ← HB2.out, ← HB1.out, HB0.out, List.nil_append])
  clear hb0 hb1 hb2 hb3 hb4 hb5 HE5
  clear HH0 HH1 HH2 HH3 HH4
  obtain ⟨n0, hn0⟩ : ∃ n, n = P.recs.length := ⟨_, rfl⟩
  have HL0 := hid hn0
  have hm0 : (n0 : Int) ≤ 9223372036854775807 := by unfold maxLen at l0; omega
  obtain ⟨n1, hn1⟩ : ∃ n, n = P.sigs.length := ⟨_, rfl⟩
  have HL1 := hid hn1
  have hm1 : (n1 : Int) ≤ 9223372036854775807 := by unfold maxLen at l1; omega
  obtain ⟨n2, hn2⟩ : ∃ n, n = P.ifs.length := ⟨_, rfl⟩
  have HL2 := hid hn2
  have hm2 : (n2 : Int) ≤ 9223372036854775807 := by unfold maxLen at l2; omega
  obtain ⟨n3, hn3⟩ : ∃ n, n = P.ims.length := ⟨_, rfl⟩
  have HL3 := hid hn3
  have hm3 : (n3 : Int) ≤ 9223372036854775807 := by unfold maxLen at l3; omega
  obtain ⟨n4, hn4⟩ : ∃ n, n = P.funcs.length := ⟨_, rfl⟩
  have HL4 := hid hn4
  have hm4 : (n4 : Int) ≤ 9223372036854775807 := by unfold maxLen at l4; omega
  rw [← hn0, ← hn1, ← hn2, ← hn3, ← hn4] at HC
  rw [← hn0] at HI0
  rw [← hn1] at HI1
  rw [← hn2] at HI2
  rw [← hn3] at HI3
  rw [← hn4] at HI4
  clear v0 r0 l0 e0 hn0 v1 r1 l1 e1 hn1 v2 r2 l2 e2 hn2 v3 r3 l3 e3 hn3 v4 r4 l4 e4 hn4 e5 hP hs
  have HN0 := hid fun (w' : World) => fnum_any (n0 : Int) HI0.out w'
  have pc := (HC.out _ (Keeps.refl [] w)).1
  go_enter Tryd.func11, Tryd.ntmps11
  go_wp2_with fail
  refine (HN0.out _).mono ?_
  rintro e w1 ⟨v1, rfl, O1⟩
  have HS0 : Box (OB w w1 v1 (B0 ++ headE tysE P.recs 0)) := hid (by rw [headE_zero, HB0.out, ← HL0.out, List.nil_append]; exact O1)
  clear HN0 O1 pc
  go_wp2_with fail
  go_loopw [3, 4] (fun bv iv wr => ∃ k : Nat, k ≤ n0 ∧ iv = .int .i64 (k : Int) ∧ Box (OB w wr bv (B0 ++ headE tysE P.recs k))) (fun _ iv _ => n0 - (intOf iv).toNat)
  case atStart => exact ⟨0, by omega, rfl, HS0⟩
  case round =>
    obtain ⟨k, hk, rfl, HO⟩ := hrel
    clear HS0
    have pc := (HC.out _ HO.out.keeps).1
    by_cases hlt : k < n0
    · have hlt' : (k : Int) < (n0 : Int) := by omega
      have hk0 : (0 : Int) ≤ (k : Int) := by omega
      obtain ⟨y, hy⟩ : ∃ y, P.recs[k]? = some y := ⟨_, List.getElem?_eq_getElem (by rw [← HL0.out]; exact hlt)⟩
      obtain ⟨rb, ro, hra, hc⟩ := HR0.out.at hy
      subst hra
      rw [Nat.mul_one] at hc
      have hz := HZ0.out (k + 1)
      rw [headE_succ tysE hy, List.length_append] at hz
      obtain ⟨ar, acp, d5, q5⟩ := SlC.val hc
      obtain ⟨_, qr, _, ql⟩ := q5.slice
      replace d5 := cell_stays HO.out.keeps d5
      have HE : Box (∀ (v : Value) (w' : World), OB w w' v ((B0 ++ headE tysE P.recs k) ++ tysE y) → OB w w' v (B0 ++ headE tysE P.recs (k + 1))) := hid (fun v w' h => by rw [headE_succ tysE hy, ← List.append_assoc]; exact h)
      have HC1 : Box (∀ (w' : World), Keeps [] w w' → Calls Tryd.prog 19 #[.slice ar y.length acp] w' (ObPost w' (tysE y))) := hid (fun w' kk => ftypes_any (qr.quiet TyC.stays kk) ql (by omega))
      have HP1 := hid (Cd.tys.pos y)
      have HY : Box ((B0 ++ headE tysE P.recs k).length + (tysE y).length ≤ 35184372088832) := hid (by rw [List.length_append]; omega)
      generalize hT1 : tysE y = t1 at *
      generalize hB0 : (B0 ++ headE tysE P.recs k) = B9 at *
      generalize y.length = na at *
      clear hT1 hB0 hc hy hz q5 qr ql
      go_wp2_with fail
      refine (HC1.out _ HO.out.keeps).mono ?_
      rintro e x1 ⟨xv1, rfl, xo1⟩
      obtain ⟨xg1, xc1, rfl, xn1⟩ := xo1.row HP1.out
      have XN1 := hid xn1
      have XO1 := hid (HO.out.quiet xo1.keeps)
      obtain ⟨xm1, hxm1⟩ : ∃ m, m = (t1).length := ⟨_, rfl⟩
      have XM1 := hid hxm1
      rw [← hxm1]
      clear xo1 xn1 hxm1
      go_wp2_with (at_builtin; go_must (refine app_b rfl _ _ rfl rfl XO1.out rfl XM1.out HP1.out XN1.out (by have := HY.out; omega) ?_; intro g1 cap1 N1 z1 hN1 hob hgr; have ZO1 := hid hob; clear hob hgr))
      go_roundw
      case rel => exact ⟨k + 1, by omega, by go_num, hid (HE.out _ _ ZO1.out)⟩
      case measure => simp [intOf]; omega
    · obtain rfl : k = n0 := by omega
      have HX : Box (OB w wr u3 (B0 ++ tyssE P.recs)) := hid (by rw [show tyssE P.recs = headE tysE P.recs k by rw [HL0.out]; exact (headE_all tysE P.recs).symm]; exact HO.out)
      rw [HB1.out] at HX
      have pd := (HC.out _ HX.out.keeps).2.1
      have HN1 := hid fun (w' : World) => fnum_any (n1 : Int) HI1.out w'
      have HY1 : Box (B1.length + (numE (n1 : Int)).length ≤ 35184372088832) := hid (by
        have := HZ1.out 0
        rw [headE_zero, ← HL1.out] at this
        exact this)
      have HS9 : Box (∀ (v : Value) (w' : World), OB w w' v (B1 ++ numE (n1 : Int)) → OB w w' v (B1 ++ headE sgE P.sigs 0)) := hid (fun v w' h => by rw [headE_zero, ← HL1.out]; exact h)
      have HNP := hid (numE_pos (n1 : Int))
      generalize numE (n1 : Int) = tn at *
      clear HO
      go_wp2_with fail
      refine (HN1.out _).mono ?_
      rintro e x9 ⟨xv9, rfl, xo9⟩
      obtain ⟨xg9, xc9, rfl, xn9⟩ := xo9.row HNP.out
      have XN9 := hid xn9
      have XO9 := hid (HX.out.quiet xo9.keeps)
      obtain ⟨xm9, hxm9⟩ : ∃ m, m = (tn).length := ⟨_, rfl⟩
      have XM9 := hid hxm9
      rw [← hxm9]
      clear xo9 xn9 hxm9
      go_wp2_with (at_builtin; go_must (refine app_b rfl _ _ rfl rfl XO9.out rfl XM9.out HNP.out XN9.out (by have := HY1.out; omega) ?_; intro g9 cap9 N9 z9 hN9 hob hgr; have ZO9 := hid hob; clear hob hgr))
      have HS1 := hid (HS9.out _ _ ZO9.out)
      clear HX ZO9 XO9 XN9 XM9 HS9 HN1 HNP HY1
      go_loopw [3, 5] (fun bv iv wr => ∃ k : Nat, k ≤ n1 ∧ iv = .int .i64 (k : Int) ∧ Box (OB w wr bv (B1 ++ headE sgE P.sigs k))) (fun _ iv _ => n1 - (intOf iv).toNat)
      case atStart => exact ⟨0, by omega, rfl, HS1⟩
      case round =>
        obtain ⟨k, hk, rfl, HO⟩ := hrel
        clear HS1
        have pc := (HC.out _ HO.out.keeps).2.1
        by_cases hlt : k < n1
        · have hlt' : (k : Int) < (n1 : Int) := by omega
          have hk0 : (0 : Int) ≤ (k : Int) := by omega
          obtain ⟨y, hy⟩ : ∃ y, P.sigs[k]? = some y := ⟨_, List.getElem?_eq_getElem (by rw [← HL1.out]; exact hlt)⟩
          obtain ⟨rb, ro, hra, hc⟩ := HR1.out.at hy
          subst hra
          have hz := HZ1.out (k + 1)
          rw [headE_succ sgE hy, List.length_append] at hz
          obtain ⟨ar, acp, d5, q5⟩ := SlC.val hc.c0
          obtain ⟨_, qr, _, ql⟩ := q5.slice
          replace d5 := cell_stays HO.out.keeps d5
          have HE : Box (∀ (v : Value) (w' : World), OB w w' v ((B1 ++ headE sgE P.sigs k) ++ tysE y.1 ++ numE y.2.1 ++ numE y.2.2) → OB w w' v (B1 ++ headE sgE P.sigs (k + 1))) := hid (fun v w' h => by
            rw [headE_succ sgE hy]
            have e : B1 ++ (headE sgE P.sigs k ++ sgE y) = (B1 ++ headE sgE P.sigs k) ++ tysE y.1 ++ numE y.2.1 ++ numE y.2.2 := by simp only [sgE, tyE, pairE, List.append_assoc]
            rw [e]
            exact h)
          rw [show sgE y = tysE y.1 ++ numE y.2.1 ++ numE y.2.2 by simp only [sgE, tyE, pairE, List.append_assoc], List.length_append, List.length_append] at hz
          have HC0 : Box (∀ (w' : World), Keeps [] w w' → Calls Tryd.prog 19 #[.slice ar y.1.length acp] w' (ObPost w' (tysE y.1))) := hid (fun w' kk => ftypes_any (qr.quiet TyC.stays kk) ql (by omega))
          have HP0 := hid (Cd.tys.pos y.1)
          have HC1a := hid fun (w' : World) => fnum_any y.2.1 hc.c1.2 w'
          have HC2a := hid fun (w' : World) => fnum_any y.2.2 hc.c2.2 w'
          have HP1a := hid (numE_pos y.2.1)
          have HP2a := hid (numE_pos y.2.2)
          have HY : Box ((B1 ++ headE sgE P.sigs k).length + (tysE y.1).length + (numE y.2.1).length + (numE y.2.2).length ≤ 35184372088832) := hid (by rw [List.length_append]; omega)
          have HDa : Box (∀ w', Keeps [] w w' → w'.cell? ⟨pb, po + 1, none⟩ = some (.slice (some ⟨rb, ro, none⟩) n1 p1) ∧ w'.cell? ⟨rb, ro + k * 3 + 1, none⟩ = some (.int .i64 y.2.1) ∧ w'.cell? ⟨rb, ro + k * 3 + 2, none⟩ = some (.int .i64 y.2.2)) := hid (fun w' kk => ⟨(HC.out w' kk).2.1, cell_stays kk hc.c1.1, cell_stays kk hc.c2.1⟩)
          generalize hT1 : tysE y.1 = t1 at *
          generalize hT2 : numE y.2.1 = t2 at *
          generalize hT3 : numE y.2.2 = t3 at *
          generalize hB0 : (B1 ++ headE sgE P.sigs k) = B9 at *
          generalize y.1.length = na at *
          generalize y.2.1 = y1a at *
          generalize y.2.2 = y2a at *
          obtain ⟨m1, HM1a⟩ : ∃ m, Box (m = t2.length) := ⟨_, hid rfl⟩
          obtain ⟨m2, HM2a⟩ : ∃ m, Box (m = t3.length) := ⟨_, hid rfl⟩
          have HYa : Box ((B9 ++ t1).length + t2.length + t3.length ≤ 35184372088832) := hid (by have := HY.out; rw [List.length_append]; omega)
          clear hT1 hT2 hT3 hB0 hc hy hz q5 qr ql
          go_wp2_with fail
          refine (HC0.out _ HO.out.keeps).mono ?_
          rintro e x1 ⟨xv1, rfl, xo1⟩
          obtain ⟨xg1, xc1, rfl, xn1⟩ := xo1.row HP0.out
          have XN1 := hid xn1
          have XO1 := hid (HO.out.quiet xo1.keeps)
          obtain ⟨xm1, hxm1⟩ : ∃ m, m = (t1).length := ⟨_, rfl⟩
          have XM1 := hid hxm1
          rw [← hxm1]
          clear xo1 xn1 hxm1
          go_upto_region 11 with (at_builtin; go_must (refine app_b rfl _ _ rfl rfl XO1.out rfl XM1.out HP0.out XN1.out (by have := HY.out; omega) ?_; intro g1 cap1 N1 z1 hN1 hob hgr; have ZO1 := hid hob; obtain ⟨d0, d1, d2⟩ := HDa.out _ hob.keeps; clear hob hgr))
          have HODa := hid (ZO1.out.quiet (Keeps.drew [] _))
          refine wp_region_held_drew (S := fun w' => Keeps [] w w') (by kernel_rfl) HODa.out.keeps (fun _ => ?_)
          refine tk_yield (i := 0) (d := 64) (v := _) rfl rfl (by as_aux_lemma => kernel_rfl) (by as_aux_lemma => kernel_rfl) (by as_aux_lemma => kernel_rfl) (fun _ _ _ h => h) (by rfl) HODa.out.keeps (fun w9 hw9 => rfl) ?_
          simp only [Act.put, List.setIfInBounds_toArray, List.set_cons_zero, List.set_cons_succ]
          refine tk_yield (i := 1) (d := 65) (v := .pointer (some ⟨pb, po, none⟩)) rfl rfl (by as_aux_lemma => kernel_rfl) (by as_aux_lemma => kernel_rfl) (by as_aux_lemma => kernel_rfl) (fun _ _ _ h => h) (by rfl) HODa.out.keeps (fun w9 hw9 => rfl) ?_
          simp only [Act.put, List.setIfInBounds_toArray, List.set_cons_zero, List.set_cons_succ]
          refine tk_yield (i := 2) (d := 66) (v := .pointer (some ⟨pb, po, none⟩)) rfl rfl (by as_aux_lemma => kernel_rfl) (by as_aux_lemma => kernel_rfl) (by as_aux_lemma => kernel_rfl) (fun _ _ _ h => h) (by rfl) HODa.out.keeps (fun w9 hw9 => eval_swap (g := fun _ => .pointer (some ⟨pb, po, none⟩)) rfl (by obtain ⟨d0, d1, d2⟩ := HDa.out w9 hw9; go_simp)) ?_
          simp only [Act.put, List.setIfInBounds_toArray, List.set_cons_zero, List.set_cons_succ]
          refine tk_yield (i := 3) (d := 67) (v := .pointer (some ⟨pb, po + 1, none⟩)) rfl rfl (by as_aux_lemma => kernel_rfl) (by as_aux_lemma => kernel_rfl) (by as_aux_lemma => kernel_rfl) (fun _ _ _ h => h) (by rfl) HODa.out.keeps (fun w9 hw9 => eval_swap (g := fun _ => .pointer (some ⟨pb, po, none⟩)) rfl (by obtain ⟨d0, d1, d2⟩ := HDa.out w9 hw9; go_simp)) ?_
          simp only [Act.put, List.setIfInBounds_toArray, List.set_cons_zero, List.set_cons_succ]
          refine tk_yield (i := 4) (d := 68) (v := .slice (some ⟨rb, ro, none⟩) n1 p1) rfl rfl (by as_aux_lemma => kernel_rfl) (by as_aux_lemma => kernel_rfl) (by as_aux_lemma => kernel_rfl) (fun _ _ _ h => h) (by rfl) HODa.out.keeps (fun w9 hw9 => eval_swap (g := fun _ => .pointer (some ⟨pb, po + 1, none⟩)) rfl (by obtain ⟨d0, d1, d2⟩ := HDa.out w9 hw9; go_simp)) ?_
          simp only [Act.put, List.setIfInBounds_toArray, List.set_cons_zero, List.set_cons_succ]
          refine tk_yield (i := 5) (d := 69) (v := .int .i64 (k : Int)) rfl rfl (by as_aux_lemma => kernel_rfl) (by as_aux_lemma => kernel_rfl) (by as_aux_lemma => kernel_rfl) (fun _ _ _ h => h) (by rfl) HODa.out.keeps (fun w9 hw9 => rfl) ?_
          simp only [Act.put, List.setIfInBounds_toArray, List.set_cons_zero, List.set_cons_succ]
          refine tk_yield (i := 6) (d := 70) (v := .pointer (some ⟨rb, ro + k * 3, none⟩)) rfl rfl (by as_aux_lemma => kernel_rfl) (by as_aux_lemma => kernel_rfl) (by as_aux_lemma => kernel_rfl) (fun _ _ _ h => h) (by rfl) HODa.out.keeps (fun w9 hw9 => eval_swap (g := fun | .tmp 68 => .slice (some ⟨rb, ro, none⟩) n1 p1 | _ => .int .i64 (k : Int)) rfl (by obtain ⟨d0, d1, d2⟩ := HDa.out w9 hw9; go_simp)) ?_
          simp only [Act.put, List.setIfInBounds_toArray, List.set_cons_zero, List.set_cons_succ]
          refine tk_yield (i := 7) (d := 71) (v := .pointer (some ⟨rb, ro + k * 3 + 1, none⟩)) rfl rfl (by as_aux_lemma => kernel_rfl) (by as_aux_lemma => kernel_rfl) (by as_aux_lemma => kernel_rfl) (fun _ _ _ h => h) (by rfl) HODa.out.keeps (fun w9 hw9 => eval_swap (g := fun _ => .pointer (some ⟨rb, ro + k * 3, none⟩)) rfl (by obtain ⟨d0, d1, d2⟩ := HDa.out w9 hw9; go_simp)) ?_
          simp only [Act.put, List.setIfInBounds_toArray, List.set_cons_zero, List.set_cons_succ]
          refine tk_yield (i := 8) (d := 72) (v := .pointer (some ⟨rb, ro + k * 3 + 1, none⟩)) rfl rfl (by as_aux_lemma => kernel_rfl) (by as_aux_lemma => kernel_rfl) (by as_aux_lemma => kernel_rfl) (fun _ _ _ h => h) (by rfl) HODa.out.keeps (fun w9 hw9 => eval_swap (g := fun _ => .pointer (some ⟨rb, ro + k * 3 + 1, none⟩)) rfl (by obtain ⟨d0, d1, d2⟩ := HDa.out w9 hw9; go_simp)) ?_
          simp only [Act.put, List.setIfInBounds_toArray, List.set_cons_zero, List.set_cons_succ]
          refine tk_yield (i := 9) (d := 73) (v := .int .i64 y1a) rfl rfl (by as_aux_lemma => kernel_rfl) (by as_aux_lemma => kernel_rfl) (by as_aux_lemma => kernel_rfl) (fun _ _ _ h => h) (by rfl) HODa.out.keeps (fun w9 hw9 => eval_swap (g := fun _ => .pointer (some ⟨rb, ro + k * 3 + 1, none⟩)) rfl (by obtain ⟨d0, d1, d2⟩ := HDa.out w9 hw9; go_simp)) ?_
          simp only [Act.put, List.setIfInBounds_toArray, List.set_cons_zero, List.set_cons_succ]
          refine tk_yield (i := 12) (d := 76) (v := .pointer (some ⟨pb, po, none⟩)) rfl rfl (by as_aux_lemma => kernel_rfl) (by as_aux_lemma => kernel_rfl) (by as_aux_lemma => kernel_rfl) (fun _ _ _ h => h) (by rfl) HODa.out.keeps (fun w9 hw9 => rfl) ?_
          simp only [Act.put, List.setIfInBounds_toArray, List.set_cons_zero, List.set_cons_succ]
          refine tk_yield (i := 13) (d := 77) (v := .pointer (some ⟨pb, po, none⟩)) rfl rfl (by as_aux_lemma => kernel_rfl) (by as_aux_lemma => kernel_rfl) (by as_aux_lemma => kernel_rfl) (fun _ _ _ h => h) (by rfl) HODa.out.keeps (fun w9 hw9 => eval_swap (g := fun _ => .pointer (some ⟨pb, po, none⟩)) rfl (by obtain ⟨d0, d1, d2⟩ := HDa.out w9 hw9; go_simp)) ?_
          simp only [Act.put, List.setIfInBounds_toArray, List.set_cons_zero, List.set_cons_succ]
          refine tk_yield (i := 14) (d := 78) (v := .pointer (some ⟨pb, po + 1, none⟩)) rfl rfl (by as_aux_lemma => kernel_rfl) (by as_aux_lemma => kernel_rfl) (by as_aux_lemma => kernel_rfl) (fun _ _ _ h => h) (by rfl) HODa.out.keeps (fun w9 hw9 => eval_swap (g := fun _ => .pointer (some ⟨pb, po, none⟩)) rfl (by obtain ⟨d0, d1, d2⟩ := HDa.out w9 hw9; go_simp)) ?_
          simp only [Act.put, List.setIfInBounds_toArray, List.set_cons_zero, List.set_cons_succ]
          refine tk_yield (i := 15) (d := 79) (v := .slice (some ⟨rb, ro, none⟩) n1 p1) rfl rfl (by as_aux_lemma => kernel_rfl) (by as_aux_lemma => kernel_rfl) (by as_aux_lemma => kernel_rfl) (fun _ _ _ h => h) (by rfl) HODa.out.keeps (fun w9 hw9 => eval_swap (g := fun _ => .pointer (some ⟨pb, po + 1, none⟩)) rfl (by obtain ⟨d0, d1, d2⟩ := HDa.out w9 hw9; go_simp)) ?_
          simp only [Act.put, List.setIfInBounds_toArray, List.set_cons_zero, List.set_cons_succ]
          refine tk_yield (i := 16) (d := 80) (v := .int .i64 (k : Int)) rfl rfl (by as_aux_lemma => kernel_rfl) (by as_aux_lemma => kernel_rfl) (by as_aux_lemma => kernel_rfl) (fun _ _ _ h => h) (by rfl) HODa.out.keeps (fun w9 hw9 => rfl) ?_
          simp only [Act.put, List.setIfInBounds_toArray, List.set_cons_zero, List.set_cons_succ]
          refine tk_yield (i := 17) (d := 81) (v := .pointer (some ⟨rb, ro + k * 3, none⟩)) rfl rfl (by as_aux_lemma => kernel_rfl) (by as_aux_lemma => kernel_rfl) (by as_aux_lemma => kernel_rfl) (fun _ _ _ h => h) (by rfl) HODa.out.keeps (fun w9 hw9 => eval_swap (g := fun | .tmp 79 => .slice (some ⟨rb, ro, none⟩) n1 p1 | _ => .int .i64 (k : Int)) rfl (by obtain ⟨d0, d1, d2⟩ := HDa.out w9 hw9; go_simp)) ?_
          simp only [Act.put, List.setIfInBounds_toArray, List.set_cons_zero, List.set_cons_succ]
          refine tk_yield (i := 18) (d := 82) (v := .pointer (some ⟨rb, ro + k * 3 + 1, none⟩)) rfl rfl (by as_aux_lemma => kernel_rfl) (by as_aux_lemma => kernel_rfl) (by as_aux_lemma => kernel_rfl) (fun _ _ _ h => h) (by rfl) HODa.out.keeps (fun w9 hw9 => eval_swap (g := fun _ => .pointer (some ⟨rb, ro + k * 3, none⟩)) rfl (by obtain ⟨d0, d1, d2⟩ := HDa.out w9 hw9; go_simp)) ?_
          simp only [Act.put, List.setIfInBounds_toArray, List.set_cons_zero, List.set_cons_succ]
          refine tk_yield (i := 19) (d := 83) (v := .pointer (some ⟨rb, ro + k * 3 + 2, none⟩)) rfl rfl (by as_aux_lemma => kernel_rfl) (by as_aux_lemma => kernel_rfl) (by as_aux_lemma => kernel_rfl) (fun _ _ _ h => h) (by rfl) HODa.out.keeps (fun w9 hw9 => eval_swap (g := fun _ => .pointer (some ⟨rb, ro + k * 3 + 1, none⟩)) rfl (by obtain ⟨d0, d1, d2⟩ := HDa.out w9 hw9; go_simp)) ?_
          simp only [Act.put, List.setIfInBounds_toArray, List.set_cons_zero, List.set_cons_succ]
          refine tk_yield (i := 20) (d := 84) (v := .int .i64 y2a) rfl rfl (by as_aux_lemma => kernel_rfl) (by as_aux_lemma => kernel_rfl) (by as_aux_lemma => kernel_rfl) (fun _ _ _ h => h) (by rfl) HODa.out.keeps (fun w9 hw9 => eval_swap (g := fun _ => .pointer (some ⟨rb, ro + k * 3 + 2, none⟩)) rfl (by obtain ⟨d0, d1, d2⟩ := HDa.out w9 hw9; go_simp)) ?_
          simp only [Act.put, List.setIfInBounds_toArray, List.set_cons_zero, List.set_cons_succ]
          refine tk_one (i := 10) (by as_aux_lemma => kernel_rfl) ?_
          refine tk_call (i := 10) (d := 74) rfl rfl (by rfl) 18 #[.int .i64 y1a] (exec_call1 rfl rfl rfl (call_num _ _)) (HC1a.out _) ?_
          rintro v6 w6 O6
          obtain ⟨g6, c6, rfl, n6⟩ := O6.row HP1a.out
          rw [← HM1a.out]
          have oA := HODa.out.quiet O6.keeps
          refine ⟨oA.keeps, ?_⟩
          simp only [Act.put, List.setIfInBounds_toArray, List.set_cons_zero, List.set_cons_succ]
          refine tk_one (i := 11) (by as_aux_lemma => kernel_rfl) ?_
          refine tk_app (i := 11) (d := 75) rfl rfl rfl _ _ rfl rfl oA rfl HM1a.out HP1a.out n6 (by have := HYa.out; omega) ?_
          intro g8 c8 N8 w8 hN8 oF hgr8
          refine ⟨oF.keeps, ?_⟩
          simp only [Act.put, List.setIfInBounds_toArray, List.set_cons_zero, List.set_cons_succ]
          refine tk_one (i := 21) (by as_aux_lemma => kernel_rfl) ?_
          refine tk_call (i := 21) (d := 85) rfl rfl (by rfl) 18 #[.int .i64 y2a] (exec_call1 rfl rfl rfl (call_num _ _)) (HC2a.out _) ?_
          rintro v7 w7 O7
          obtain ⟨g7, c7, rfl, n7⟩ := O7.row HP2a.out
          rw [← HM2a.out]
          have oG := oF.quiet O7.keeps
          refine ⟨oG.keeps, ?_⟩
          simp only [Act.put, List.setIfInBounds_toArray, List.set_cons_zero, List.set_cons_succ]
          refine tk_one (i := 22) (by as_aux_lemma => kernel_rfl) ?_
          refine tk_app (i := 22) (d := 86) rfl rfl rfl _ _ rfl rfl oG rfl HM2a.out HP2a.out n7 (by have := HYa.out; rw [List.length_append]; omega) ?_
          intro g9a c9a N9a w9a hN9 oZa hgr9
          refine ⟨oZa.keeps, ?_⟩
          simp only [Act.put, List.setIfInBounds_toArray, List.set_cons_zero, List.set_cons_succ]
          refine tk_yield (i := 23) (d := 3) (v := .slice (some ⟨g9a, 0, none⟩) N9a c9a) rfl rfl (by as_aux_lemma => kernel_rfl) (by as_aux_lemma => kernel_rfl) (by as_aux_lemma => kernel_rfl) (fun _ _ _ h => h) (by rfl) oZa.keeps (fun _ _ => rfl) ?_
          simp only [Act.put, List.setIfInBounds_toArray, List.set_cons_zero, List.set_cons_succ]
          refine wpAnyH_done (by as_aux_lemma => kernel_rfl) ?_ _
          have HZa := hid oZa
          clear oZa
          go_wp2_with fail
          exact ⟨⟨k + 1, by omega, by go_num, hid (HE.out _ _ HZa.out)⟩, by simp [intOf]; omega⟩
        · obtain rfl : k = n1 := by omega
          have HX : Box (OB w wr u3 (B1 ++ sgsE P.sigs)) := hid (by rw [show sgsE P.sigs = headE sgE P.sigs k by rw [HL1.out]; exact (headE_all sgE P.sigs).symm]; exact HO.out)
          rw [HB2.out] at HX
          have pd := (HC.out _ HX.out.keeps).2.2.1
          have HN2 := hid fun (w' : World) => fnum_any (n2 : Int) HI2.out w'
          have HY2 : Box (B2.length + (numE (n2 : Int)).length ≤ 35184372088832) := hid (by
            have := HZ2.out 0
            rw [headE_zero, ← HL2.out] at this
            exact this)
          have HS9 : Box (∀ (v : Value) (w' : World), OB w w' v (B2 ++ numE (n2 : Int)) → OB w w' v (B2 ++ headE intsE P.ifs 0)) := hid (fun v w' h => by rw [headE_zero, ← HL2.out]; exact h)
          have HNP := hid (numE_pos (n2 : Int))
          generalize numE (n2 : Int) = tn at *
          clear HO
          go_wp2_with fail
          refine (HN2.out _).mono ?_
          rintro e x9 ⟨xv9, rfl, xo9⟩
          obtain ⟨xg9, xc9, rfl, xn9⟩ := xo9.row HNP.out
          have XN9 := hid xn9
          have XO9 := hid (HX.out.quiet xo9.keeps)
          obtain ⟨xm9, hxm9⟩ : ∃ m, m = (tn).length := ⟨_, rfl⟩
          have XM9 := hid hxm9
          rw [← hxm9]
          clear xo9 xn9 hxm9
          go_wp2_with (at_builtin; go_must (refine app_b rfl _ _ rfl rfl XO9.out rfl XM9.out HNP.out XN9.out (by have := HY2.out; omega) ?_; intro g9 cap9 N9 z9 hN9 hob hgr; have ZO9 := hid hob; clear hob hgr))
          have HS2 := hid (HS9.out _ _ ZO9.out)
          clear HX ZO9 XO9 XN9 XM9 HS9 HN2 HNP HY2
          go_loopw [3, 6] (fun bv iv wr => ∃ k : Nat, k ≤ n2 ∧ iv = .int .i64 (k : Int) ∧ Box (OB w wr bv (B2 ++ headE intsE P.ifs k))) (fun _ iv _ => n2 - (intOf iv).toNat)
          case atStart => exact ⟨0, by omega, rfl, HS2⟩
          case round =>
            obtain ⟨k, hk, rfl, HO⟩ := hrel
            clear HS2
            have pc := (HC.out _ HO.out.keeps).2.2.1
            by_cases hlt : k < n2
            · have hlt' : (k : Int) < (n2 : Int) := by omega
              have hk0 : (0 : Int) ≤ (k : Int) := by omega
              obtain ⟨y, hy⟩ : ∃ y, P.ifs[k]? = some y := ⟨_, List.getElem?_eq_getElem (by rw [← HL2.out]; exact hlt)⟩
              obtain ⟨rb, ro, hra, hc⟩ := HR2.out.at hy
              subst hra
              rw [Nat.mul_one] at hc
              have hz := HZ2.out (k + 1)
              rw [headE_succ intsE hy, List.length_append] at hz
              obtain ⟨ar, acp, d5, q5⟩ := SlC.val hc
              obtain ⟨_, qr, _, ql⟩ := q5.slice
              replace d5 := cell_stays HO.out.keeps d5
              have HE : Box (∀ (v : Value) (w' : World), OB w w' v ((B2 ++ headE intsE P.ifs k) ++ intsE y) → OB w w' v (B2 ++ headE intsE P.ifs (k + 1))) := hid (fun v w' h => by rw [headE_succ intsE hy, ← List.append_assoc]; exact h)
              have HC1 : Box (∀ (w' : World), Keeps [] w w' → Calls Tryd.prog 20 #[.slice ar y.length acp] w' (ObPost w' (intsE y))) := hid (fun w' kk => fnums_any (qr.quiet IntC.stays kk) ql (by omega))
              have HP1 := hid (Cd.ints.pos y)
              have HY : Box ((B2 ++ headE intsE P.ifs k).length + (intsE y).length ≤ 35184372088832) := hid (by rw [List.length_append]; omega)
              generalize hT1 : intsE y = t1 at *
              generalize hB0 : (B2 ++ headE intsE P.ifs k) = B9 at *
              generalize y.length = na at *
              clear hT1 hB0 hc hy hz q5 qr ql
              go_wp2_with fail
              refine (HC1.out _ HO.out.keeps).mono ?_
              rintro e x1 ⟨xv1, rfl, xo1⟩
              obtain ⟨xg1, xc1, rfl, xn1⟩ := xo1.row HP1.out
              have XN1 := hid xn1
              have XO1 := hid (HO.out.quiet xo1.keeps)
              obtain ⟨xm1, hxm1⟩ : ∃ m, m = (t1).length := ⟨_, rfl⟩
              have XM1 := hid hxm1
              rw [← hxm1]
              clear xo1 xn1 hxm1
              go_wp2_with (at_builtin; go_must (refine app_b rfl _ _ rfl rfl XO1.out rfl XM1.out HP1.out XN1.out (by have := HY.out; omega) ?_; intro g1 cap1 N1 z1 hN1 hob hgr; have ZO1 := hid hob; clear hob hgr))
              go_roundw
              case rel => exact ⟨k + 1, by omega, by go_num, hid (HE.out _ _ ZO1.out)⟩
              case measure => simp [intOf]; omega
            · obtain rfl : k = n2 := by omega
              have HX : Box (OB w wr u3 (B2 ++ ifsE P.ifs)) := hid (by rw [show ifsE P.ifs = headE intsE P.ifs k by rw [HL2.out]; exact (headE_all intsE P.ifs).symm]; exact HO.out)
              rw [HB3.out] at HX
              have pd := (HC.out _ HX.out.keeps).2.2.2.1
              have HN3 := hid fun (w' : World) => fnum_any (n3 : Int) HI3.out w'
              have HY3 : Box (B3.length + (numE (n3 : Int)).length ≤ 35184372088832) := hid (by
                have := HZ3.out 0
                rw [headE_zero, ← HL3.out] at this
                exact this)
              have HS9 : Box (∀ (v : Value) (w' : World), OB w w' v (B3 ++ numE (n3 : Int)) → OB w w' v (B3 ++ headE imE P.ims 0)) := hid (fun v w' h => by rw [headE_zero, ← HL3.out]; exact h)
              have HNP := hid (numE_pos (n3 : Int))
              generalize numE (n3 : Int) = tn at *
              clear HO
              go_wp2_with fail
              refine (HN3.out _).mono ?_
              rintro e x9 ⟨xv9, rfl, xo9⟩
              obtain ⟨xg9, xc9, rfl, xn9⟩ := xo9.row HNP.out
              have XN9 := hid xn9
              have XO9 := hid (HX.out.quiet xo9.keeps)
              obtain ⟨xm9, hxm9⟩ : ∃ m, m = (tn).length := ⟨_, rfl⟩
              have XM9 := hid hxm9
              rw [← hxm9]
              clear xo9 xn9 hxm9
              go_wp2_with (at_builtin; go_must (refine app_b rfl _ _ rfl rfl XO9.out rfl XM9.out HNP.out XN9.out (by have := HY3.out; omega) ?_; intro g9 cap9 N9 z9 hN9 hob hgr; have ZO9 := hid hob; clear hob hgr))
              have HS3 := hid (HS9.out _ _ ZO9.out)
              clear HX ZO9 XO9 XN9 XM9 HS9 HN3 HNP HY3
              go_loopw [3, 7] (fun bv iv wr => ∃ k : Nat, k ≤ n3 ∧ iv = .int .i64 (k : Int) ∧ Box (OB w wr bv (B3 ++ headE imE P.ims k))) (fun _ iv _ => n3 - (intOf iv).toNat)
              case atStart => exact ⟨0, by omega, rfl, HS3⟩
              case round =>
                obtain ⟨k, hk, rfl, HO⟩ := hrel
                clear HS3
                have pc := (HC.out _ HO.out.keeps).2.2.2.1
                by_cases hlt : k < n3
                · have hlt' : (k : Int) < (n3 : Int) := by omega
                  have hk0 : (0 : Int) ≤ (k : Int) := by omega
                  obtain ⟨y, hy⟩ : ∃ y, P.ims[k]? = some y := ⟨_, List.getElem?_eq_getElem (by rw [← HL3.out]; exact hlt)⟩
                  obtain ⟨rb, ro, hra, hc⟩ := HR3.out.at hy
                  subst hra
                  have hz := HZ3.out (k + 1)
                  rw [headE_succ imE hy, List.length_append] at hz
                  obtain ⟨ar, acp, d5, q5⟩ := SlC.val hc.c2
                  obtain ⟨_, qr, _, ql⟩ := q5.slice
                  have HE : Box (∀ (v : Value) (w' : World), OB w w' v ((B3 ++ headE imE P.ims k) ++ numE y.1 ++ numE y.2.1 ++ intsE y.2.2) → OB w w' v (B3 ++ headE imE P.ims (k + 1))) := hid (fun v w' h => by
                    rw [headE_succ imE hy]
                    have e : B3 ++ (headE imE P.ims k ++ imE y) = (B3 ++ headE imE P.ims k) ++ numE y.1 ++ numE y.2.1 ++ intsE y.2.2 := by simp only [imE, pairE, List.append_assoc]
                    rw [e]
                    exact h)
                  rw [show imE y = numE y.1 ++ numE y.2.1 ++ intsE y.2.2 by simp only [imE, pairE, List.append_assoc], List.length_append, List.length_append] at hz
                  have HC0 : Box (∀ (w' : World), Keeps [] w w' → Calls Tryd.prog 20 #[.slice ar y.2.2.length acp] w' (ObPost w' (intsE y.2.2))) := hid (fun w' kk => fnums_any (qr.quiet IntC.stays kk) ql (by omega))
                  have HP0 := hid (Cd.ints.pos y.2.2)
                  have HC1a := hid fun (w' : World) => fnum_any y.1 hc.c0.2 w'
                  have HC2a := hid fun (w' : World) => fnum_any y.2.1 hc.c1.2 w'
                  have HP1a := hid (numE_pos y.1)
                  have HP2a := hid (numE_pos y.2.1)
                  have HYa : Box ((B3 ++ headE imE P.ims k).length + (numE y.1).length + (numE y.2.1).length ≤ 35184372088832) := hid (by rw [List.length_append]; omega)
                  have HY : Box (((B3 ++ headE imE P.ims k) ++ numE y.1 ++ numE y.2.1).length + (intsE y.2.2).length ≤ 35184372088832) := hid (by rw [List.length_append, List.length_append, List.length_append]; omega)
                  have HDa : Box (∀ w', Keeps [] w w' → w'.cell? ⟨pb, po + 3, none⟩ = some (.slice (some ⟨rb, ro, none⟩) n3 p3) ∧ w'.cell? ⟨rb, ro + k * 3, none⟩ = some (.int .i64 y.1) ∧ w'.cell? ⟨rb, ro + k * 3 + 1, none⟩ = some (.int .i64 y.2.1)) := hid (fun w' kk => ⟨(HC.out w' kk).2.2.2.1, cell_stays kk hc.c0.1, cell_stays kk hc.c1.1⟩)
                  have HD5 : Box (∀ w', Keeps [] w w' → w'.cell? ⟨rb, ro + k * 3 + 2, none⟩ = some (.slice ar y.2.2.length acp)) := hid (by
                    have d5' := d5
                    exact fun w' kk => cell_stays kk d5')
                  obtain ⟨d0, d1, d2⟩ := HDa.out _ HO.out.keeps
                  have HODa := hid (HO.out.quiet (Keeps.drew [] _))
                  obtain ⟨av, cv, hu3, _⟩ := HO.out.open
                  generalize hT1 : numE y.1 = t1 at *
                  generalize hT2 : numE y.2.1 = t2 at *
                  generalize hT3 : intsE y.2.2 = t3 at *
                  generalize hB0 : (B3 ++ headE imE P.ims k) = B9 at *
                  generalize y.2.2.length = na at *
                  generalize y.2.1 = y2a at *
                  generalize y.1 = y1a at *
                  obtain ⟨m1, HM1a⟩ : ∃ m, Box (m = t1.length) := ⟨_, hid rfl⟩
                  obtain ⟨m2, HM2a⟩ : ∃ m, Box (m = t2.length) := ⟨_, hid rfl⟩
                  obtain ⟨n0, hn0⟩ : ∃ m, m = B9.length := ⟨_, rfl⟩
                  rw [← hn0] at hu3
                  subst hu3
                  clear hT1 hT2 hT3 hB0 hc hy hz q5 qr ql d5 hn0
                  go_upto_region 21 with fail
                  refine wp_region_held_drew (S := fun w' => Keeps [] w w') (by kernel_rfl) HODa.out.keeps (fun _ => ?_)
                  refine tk_yield (i := 0) (d := 132) (v := _) rfl rfl (by as_aux_lemma => kernel_rfl) (by as_aux_lemma => kernel_rfl) (by as_aux_lemma => kernel_rfl) (fun _ _ _ h => h) (by rfl) HODa.out.keeps (fun w9 hw9 => rfl) ?_
                  simp only [Act.put, List.setIfInBounds_toArray, List.set_cons_zero, List.set_cons_succ]
                  refine tk_yield (i := 1) (d := 133) (v := .pointer (some ⟨pb, po, none⟩)) rfl rfl (by as_aux_lemma => kernel_rfl) (by as_aux_lemma => kernel_rfl) (by as_aux_lemma => kernel_rfl) (fun _ _ _ h => h) (by rfl) HODa.out.keeps (fun w9 hw9 => rfl) ?_
                  simp only [Act.put, List.setIfInBounds_toArray, List.set_cons_zero, List.set_cons_succ]
                  refine tk_yield (i := 2) (d := 134) (v := .pointer (some ⟨pb, po, none⟩)) rfl rfl (by as_aux_lemma => kernel_rfl) (by as_aux_lemma => kernel_rfl) (by as_aux_lemma => kernel_rfl) (fun _ _ _ h => h) (by rfl) HODa.out.keeps (fun w9 hw9 => eval_swap (g := fun _ => .pointer (some ⟨pb, po, none⟩)) rfl (by obtain ⟨d0, d1, d2⟩ := HDa.out w9 hw9; go_simp)) ?_
                  simp only [Act.put, List.setIfInBounds_toArray, List.set_cons_zero, List.set_cons_succ]
                  refine tk_yield (i := 3) (d := 135) (v := .pointer (some ⟨pb, po + 3, none⟩)) rfl rfl (by as_aux_lemma => kernel_rfl) (by as_aux_lemma => kernel_rfl) (by as_aux_lemma => kernel_rfl) (fun _ _ _ h => h) (by rfl) HODa.out.keeps (fun w9 hw9 => eval_swap (g := fun _ => .pointer (some ⟨pb, po, none⟩)) rfl (by obtain ⟨d0, d1, d2⟩ := HDa.out w9 hw9; go_simp)) ?_
                  simp only [Act.put, List.setIfInBounds_toArray, List.set_cons_zero, List.set_cons_succ]
                  refine tk_yield (i := 4) (d := 136) (v := .slice (some ⟨rb, ro, none⟩) n3 p3) rfl rfl (by as_aux_lemma => kernel_rfl) (by as_aux_lemma => kernel_rfl) (by as_aux_lemma => kernel_rfl) (fun _ _ _ h => h) (by rfl) HODa.out.keeps (fun w9 hw9 => eval_swap (g := fun _ => .pointer (some ⟨pb, po + 3, none⟩)) rfl (by obtain ⟨d0, d1, d2⟩ := HDa.out w9 hw9; go_simp)) ?_
                  simp only [Act.put, List.setIfInBounds_toArray, List.set_cons_zero, List.set_cons_succ]
                  refine tk_yield (i := 5) (d := 137) (v := .int .i64 (k : Int)) rfl rfl (by as_aux_lemma => kernel_rfl) (by as_aux_lemma => kernel_rfl) (by as_aux_lemma => kernel_rfl) (fun _ _ _ h => h) (by rfl) HODa.out.keeps (fun w9 hw9 => rfl) ?_
                  simp only [Act.put, List.setIfInBounds_toArray, List.set_cons_zero, List.set_cons_succ]
                  refine tk_yield (i := 6) (d := 138) (v := .pointer (some ⟨rb, ro + k * 3, none⟩)) rfl rfl (by as_aux_lemma => kernel_rfl) (by as_aux_lemma => kernel_rfl) (by as_aux_lemma => kernel_rfl) (fun _ _ _ h => h) (by rfl) HODa.out.keeps (fun w9 hw9 => eval_swap (g := fun | .tmp 136 => .slice (some ⟨rb, ro, none⟩) n3 p3 | _ => .int .i64 (k : Int)) rfl (by obtain ⟨d0, d1, d2⟩ := HDa.out w9 hw9; go_simp)) ?_
                  simp only [Act.put, List.setIfInBounds_toArray, List.set_cons_zero, List.set_cons_succ]
                  refine tk_yield (i := 7) (d := 139) (v := .pointer (some ⟨rb, ro + k * 3, none⟩)) rfl rfl (by as_aux_lemma => kernel_rfl) (by as_aux_lemma => kernel_rfl) (by as_aux_lemma => kernel_rfl) (fun _ _ _ h => h) (by rfl) HODa.out.keeps (fun w9 hw9 => eval_swap (g := fun _ => .pointer (some ⟨rb, ro + k * 3, none⟩)) rfl (by obtain ⟨d0, d1, d2⟩ := HDa.out w9 hw9; go_simp)) ?_
                  simp only [Act.put, List.setIfInBounds_toArray, List.set_cons_zero, List.set_cons_succ]
                  refine tk_yield (i := 8) (d := 140) (v := .int .i64 y1a) rfl rfl (by as_aux_lemma => kernel_rfl) (by as_aux_lemma => kernel_rfl) (by as_aux_lemma => kernel_rfl) (fun _ _ _ h => h) (by rfl) HODa.out.keeps (fun w9 hw9 => eval_swap (g := fun _ => .pointer (some ⟨rb, ro + k * 3, none⟩)) rfl (by obtain ⟨d0, d1, d2⟩ := HDa.out w9 hw9; go_simp)) ?_
                  simp only [Act.put, List.setIfInBounds_toArray, List.set_cons_zero, List.set_cons_succ]
                  refine tk_yield (i := 11) (d := 143) (v := .pointer (some ⟨pb, po, none⟩)) rfl rfl (by as_aux_lemma => kernel_rfl) (by as_aux_lemma => kernel_rfl) (by as_aux_lemma => kernel_rfl) (fun _ _ _ h => h) (by rfl) HODa.out.keeps (fun w9 hw9 => rfl) ?_
                  simp only [Act.put, List.setIfInBounds_toArray, List.set_cons_zero, List.set_cons_succ]
                  refine tk_yield (i := 12) (d := 144) (v := .pointer (some ⟨pb, po, none⟩)) rfl rfl (by as_aux_lemma => kernel_rfl) (by as_aux_lemma => kernel_rfl) (by as_aux_lemma => kernel_rfl) (fun _ _ _ h => h) (by rfl) HODa.out.keeps (fun w9 hw9 => eval_swap (g := fun _ => .pointer (some ⟨pb, po, none⟩)) rfl (by obtain ⟨d0, d1, d2⟩ := HDa.out w9 hw9; go_simp)) ?_
                  simp only [Act.put, List.setIfInBounds_toArray, List.set_cons_zero, List.set_cons_succ]
                  refine tk_yield (i := 13) (d := 145) (v := .pointer (some ⟨pb, po + 3, none⟩)) rfl rfl (by as_aux_lemma => kernel_rfl) (by as_aux_lemma => kernel_rfl) (by as_aux_lemma => kernel_rfl) (fun _ _ _ h => h) (by rfl) HODa.out.keeps (fun w9 hw9 => eval_swap (g := fun _ => .pointer (some ⟨pb, po, none⟩)) rfl (by obtain ⟨d0, d1, d2⟩ := HDa.out w9 hw9; go_simp)) ?_
                  simp only [Act.put, List.setIfInBounds_toArray, List.set_cons_zero, List.set_cons_succ]
                  refine tk_yield (i := 14) (d := 146) (v := .slice (some ⟨rb, ro, none⟩) n3 p3) rfl rfl (by as_aux_lemma => kernel_rfl) (by as_aux_lemma => kernel_rfl) (by as_aux_lemma => kernel_rfl) (fun _ _ _ h => h) (by rfl) HODa.out.keeps (fun w9 hw9 => eval_swap (g := fun _ => .pointer (some ⟨pb, po + 3, none⟩)) rfl (by obtain ⟨d0, d1, d2⟩ := HDa.out w9 hw9; go_simp)) ?_
                  simp only [Act.put, List.setIfInBounds_toArray, List.set_cons_zero, List.set_cons_succ]
                  refine tk_yield (i := 15) (d := 147) (v := .int .i64 (k : Int)) rfl rfl (by as_aux_lemma => kernel_rfl) (by as_aux_lemma => kernel_rfl) (by as_aux_lemma => kernel_rfl) (fun _ _ _ h => h) (by rfl) HODa.out.keeps (fun w9 hw9 => rfl) ?_
                  simp only [Act.put, List.setIfInBounds_toArray, List.set_cons_zero, List.set_cons_succ]
                  refine tk_yield (i := 16) (d := 148) (v := .pointer (some ⟨rb, ro + k * 3, none⟩)) rfl rfl (by as_aux_lemma => kernel_rfl) (by as_aux_lemma => kernel_rfl) (by as_aux_lemma => kernel_rfl) (fun _ _ _ h => h) (by rfl) HODa.out.keeps (fun w9 hw9 => eval_swap (g := fun | .tmp 146 => .slice (some ⟨rb, ro, none⟩) n3 p3 | _ => .int .i64 (k : Int)) rfl (by obtain ⟨d0, d1, d2⟩ := HDa.out w9 hw9; go_simp)) ?_
                  simp only [Act.put, List.setIfInBounds_toArray, List.set_cons_zero, List.set_cons_succ]
                  refine tk_yield (i := 17) (d := 149) (v := .pointer (some ⟨rb, ro + k * 3 + 1, none⟩)) rfl rfl (by as_aux_lemma => kernel_rfl) (by as_aux_lemma => kernel_rfl) (by as_aux_lemma => kernel_rfl) (fun _ _ _ h => h) (by rfl) HODa.out.keeps (fun w9 hw9 => eval_swap (g := fun _ => .pointer (some ⟨rb, ro + k * 3, none⟩)) rfl (by obtain ⟨d0, d1, d2⟩ := HDa.out w9 hw9; go_simp)) ?_
                  simp only [Act.put, List.setIfInBounds_toArray, List.set_cons_zero, List.set_cons_succ]
                  refine tk_yield (i := 18) (d := 150) (v := .int .i64 y2a) rfl rfl (by as_aux_lemma => kernel_rfl) (by as_aux_lemma => kernel_rfl) (by as_aux_lemma => kernel_rfl) (fun _ _ _ h => h) (by rfl) HODa.out.keeps (fun w9 hw9 => eval_swap (g := fun _ => .pointer (some ⟨rb, ro + k * 3 + 1, none⟩)) rfl (by obtain ⟨d0, d1, d2⟩ := HDa.out w9 hw9; go_simp)) ?_
                  simp only [Act.put, List.setIfInBounds_toArray, List.set_cons_zero, List.set_cons_succ]
                  refine tk_one (i := 9) (by as_aux_lemma => kernel_rfl) ?_
                  refine tk_call (i := 9) (d := 141) rfl rfl (by rfl) 18 #[.int .i64 y1a] (exec_call1 rfl rfl rfl (call_num _ _)) (HC1a.out _) ?_
                  rintro v6 w6 O6
                  obtain ⟨g6, c6, rfl, n6⟩ := O6.row HP1a.out
                  rw [← HM1a.out]
                  have oA := HODa.out.quiet O6.keeps
                  refine ⟨oA.keeps, ?_⟩
                  simp only [Act.put, List.setIfInBounds_toArray, List.set_cons_zero, List.set_cons_succ]
                  refine tk_one (i := 10) (by as_aux_lemma => kernel_rfl) ?_
                  refine tk_app (i := 10) (d := 142) rfl rfl rfl _ _ rfl rfl oA rfl HM1a.out HP1a.out n6 (by have := HYa.out; omega) ?_
                  intro g8 c8 N8 w8 hN8 oF hgr8
                  refine ⟨oF.keeps, ?_⟩
                  simp only [Act.put, List.setIfInBounds_toArray, List.set_cons_zero, List.set_cons_succ]
                  refine tk_one (i := 19) (by as_aux_lemma => kernel_rfl) ?_
                  refine tk_call (i := 19) (d := 151) rfl rfl (by rfl) 18 #[.int .i64 y2a] (exec_call1 rfl rfl rfl (call_num _ _)) (HC2a.out _) ?_
                  rintro v7 w7 O7
                  obtain ⟨g7, c7, rfl, n7⟩ := O7.row HP2a.out
                  rw [← HM2a.out]
                  have oG := oF.quiet O7.keeps
                  refine ⟨oG.keeps, ?_⟩
                  simp only [Act.put, List.setIfInBounds_toArray, List.set_cons_zero, List.set_cons_succ]
                  refine tk_one (i := 20) (by as_aux_lemma => kernel_rfl) ?_
                  refine tk_app (i := 20) (d := 152) rfl rfl rfl _ _ rfl rfl oG rfl HM2a.out HP2a.out n7 (by have := HYa.out; rw [List.length_append]; omega) ?_
                  intro g9a c9a N9a w9a hN9 oZa hgr9
                  refine ⟨oZa.keeps, ?_⟩
                  simp only [Act.put, List.setIfInBounds_toArray, List.set_cons_zero, List.set_cons_succ]
                  refine tk_yield (i := 21) (d := 3) (v := .slice (some ⟨g9a, 0, none⟩) N9a c9a) rfl rfl (by as_aux_lemma => kernel_rfl) (by as_aux_lemma => kernel_rfl) (by as_aux_lemma => kernel_rfl) (fun _ _ _ h => h) (by rfl) oZa.keeps (fun _ _ => rfl) ?_
                  simp only [Act.put, List.setIfInBounds_toArray, List.set_cons_zero, List.set_cons_succ]
                  refine wpAnyH_done (by as_aux_lemma => kernel_rfl) ?_ _
                  have HZa := hid oZa
                  have d5 := HD5.out _ oZa.keeps
                  have pe := (HC.out _ oZa.keeps).2.2.2.1
                  clear oZa
                  go_wp2_with fail
                  refine (HC0.out _ HZa.out.keeps).mono ?_
                  rintro e x1 ⟨xv1, rfl, xo1⟩
                  obtain ⟨xg1, xc1, rfl, xn1⟩ := xo1.row HP0.out
                  have XN1 := hid xn1
                  have XO1 := hid (HZa.out.quiet xo1.keeps)
                  obtain ⟨xm1, hxm1⟩ : ∃ m, m = (t3).length := ⟨_, rfl⟩
                  have XM1 := hid hxm1
                  rw [← hxm1]
                  clear xo1 xn1 hxm1
                  go_wp2_with (at_builtin; go_must (refine app_b rfl _ _ rfl rfl XO1.out rfl XM1.out HP0.out XN1.out (by have := HY.out; omega) ?_; intro g1 cap1 N1 z1 hN1 hob hgr; have ZO1 := hid hob; clear hob hgr))
                  exact ⟨⟨k + 1, by omega, by go_num, hid (HE.out _ _ ZO1.out)⟩, by simp [intOf]; omega⟩
                · obtain rfl : k = n3 := by omega
                  have HX : Box (OB w wr u3 (B3 ++ imsE P.ims)) := hid (by rw [show imsE P.ims = headE imE P.ims k by rw [HL3.out]; exact (headE_all imE P.ims).symm]; exact HO.out)
                  rw [HB4.out] at HX
                  have pd := (HC.out _ HX.out.keeps).2.2.2.2.1
                  have HN4 := hid fun (w' : World) => fnum_any (n4 : Int) HI4.out w'
                  have HY4 : Box (B4.length + (numE (n4 : Int)).length ≤ 35184372088832) := hid (by
                    have := HZ4.out 0
                    rw [headE_zero, ← HL4.out] at this
                    exact this)
                  have HS9 : Box (∀ (v : Value) (w' : World), OB w w' v (B4 ++ numE (n4 : Int)) → OB w w' v (B4 ++ headE fuE P.funcs 0)) := hid (fun v w' h => by rw [headE_zero, ← HL4.out]; exact h)
                  have HNP := hid (numE_pos (n4 : Int))
                  generalize numE (n4 : Int) = tn at *
                  clear HO
                  go_wp2_with fail
                  refine (HN4.out _).mono ?_
                  rintro e x9 ⟨xv9, rfl, xo9⟩
                  obtain ⟨xg9, xc9, rfl, xn9⟩ := xo9.row HNP.out
                  have XN9 := hid xn9
                  have XO9 := hid (HX.out.quiet xo9.keeps)
                  obtain ⟨xm9, hxm9⟩ : ∃ m, m = (tn).length := ⟨_, rfl⟩
                  have XM9 := hid hxm9
                  rw [← hxm9]
                  clear xo9 xn9 hxm9
                  go_wp2_with (at_builtin; go_must (refine app_b rfl _ _ rfl rfl XO9.out rfl XM9.out HNP.out XN9.out (by have := HY4.out; omega) ?_; intro g9 cap9 N9 z9 hN9 hob hgr; have ZO9 := hid hob; clear hob hgr))
                  have HS4 := hid (HS9.out _ _ ZO9.out)
                  clear HX ZO9 XO9 XN9 XM9 HS9 HN4 HNP HY4
                  go_loopw [3, 8] (fun bv iv wr => ∃ k : Nat, k ≤ n4 ∧ iv = .int .i64 (k : Int) ∧ Box (OB w wr bv (B4 ++ headE fuE P.funcs k))) (fun _ iv _ => n4 - (intOf iv).toNat)
                  case atStart => exact ⟨0, by omega, rfl, HS4⟩
                  case round =>
                    obtain ⟨k, hk, rfl, HO⟩ := hrel
                    clear HS4
                    have pc := (HC.out _ HO.out.keeps).2.2.2.2.1
                    by_cases hlt : k < n4
                    · have hlt' : (k : Int) < (n4 : Int) := by omega
                      have hk0 : (0 : Int) ≤ (k : Int) := by omega
                      obtain ⟨y, hy⟩ : ∃ y, P.funcs[k]? = some y := ⟨_, List.getElem?_eq_getElem (by rw [← HL4.out]; exact hlt)⟩
                      obtain ⟨rb, ro, hra, hc⟩ := HR4.out.at hy
                      subst hra
                      have hz := HZ4.out (k + 1)
                      rw [headE_succ fuE hy, List.length_append] at hz
                      obtain ⟨ar, acp, d5, q5⟩ := SlC.val hc.c1
                      obtain ⟨_, qr, _, ql⟩ := q5.slice
                      obtain ⟨br, bcp, d6, q6⟩ := SlC.val hc.c2
                      obtain ⟨_, qs, _, qm⟩ := q6.slice
                      have d0 := cell_stays HO.out.keeps hc.c0.1
                      replace d5 := cell_stays HO.out.keeps d5
                      replace d6 := cell_stays HO.out.keeps d6
                      have HE : Box (∀ (v : Value) (w' : World), OB w w' v ((B4 ++ headE fuE P.funcs k) ++ numE y.sig ++ tysE y.regs ++ blsE y.blocks) → OB w w' v (B4 ++ headE fuE P.funcs (k + 1))) := hid (fun v w' h => by
                        rw [headE_succ fuE hy]
                        have e : B4 ++ (headE fuE P.funcs k ++ fuE y) = (B4 ++ headE fuE P.funcs k) ++ numE y.sig ++ tysE y.regs ++ blsE y.blocks := by simp only [fuE, pairE, List.append_assoc]
                        rw [e]
                        exact h)
                      rw [show fuE y = numE y.sig ++ tysE y.regs ++ blsE y.blocks by simp only [fuE, pairE, List.append_assoc], List.length_append, List.length_append] at hz
                      have hbm : b64 (y.blocks.length : Int) := by unfold b64; unfold maxLen at qm; omega
                      have HC1 := hid fun (w' : World) => fnum_any y.sig hc.c0.2 w'
                      have HP1 := hid (numE_pos y.sig)
                      have HC2 : Box (∀ (w' : World), Keeps [] w w' → Calls Tryd.prog 19 #[.slice ar y.regs.length acp] w' (ObPost w' (tysE y.regs))) := hid (fun w' kk => ftypes_any (qr.quiet TyC.stays kk) ql (by omega))
                      have HP2 := hid (Cd.tys.pos y.regs)
                      have HC3 := hid fun (w' : World) => fnum_any (y.blocks.length : Int) hbm w'
                      have HP3 := hid (numE_pos (y.blocks.length : Int))
                      have HBR := hid qs
                      have HBZ : Box (∀ i, (headE blE y.blocks i).length ≤ (blsE y.blocks).length) := hid (headE_len blE y.blocks)
                      have HY : Box ((B4 ++ headE fuE P.funcs k).length + (numE y.sig).length + (tysE y.regs).length + (blsE y.blocks).length ≤ 35184372088832) := hid (by rw [List.length_append]; omega)
                      have HY3 : Box ((numE (y.blocks.length : Int)).length ≤ (blsE y.blocks).length) := hid (by have := headE_len blE y.blocks 0; rw [headE_zero] at this; exact this)
                      obtain ⟨m4, hm4⟩ : ∃ m, m = y.blocks.length := ⟨_, rfl⟩
                      have HML := hid hm4
                      have hm40 : (0 : Int) ≤ (m4 : Int) := by omega
                      have hm49 : (m4 : Int) ≤ 9223372036854775807 := by rw [hm4]; unfold maxLen at qm; omega
                      obtain ⟨wb, HWB⟩ : ∃ wb, Box (wb = wr.alloc (.cells #[.int .i64 y.sig, .slice ar y.regs.length acp, .slice br m4 bcp] 55)) := ⟨_, hid rfl⟩
                      have HU := hid (show wb.heap[wr.heap.size]? = some (.cells #[.int .i64 y.sig, .slice ar y.regs.length acp, .slice br m4 bcp] 55 (0, 0)) by rw [HWB.out]; exact heap_new _ _)
                      have HKB : Box (Keeps [] wr wb) := hid (by rw [HWB.out]; exact Keeps.alloc [] wr _)
                      have HBB := hid (HO.out.quiet HKB.out)
                      have HW6 := hid HWB.out.symm
                      rw [← hm4] at d6 HC3 HP3 HY3
                      have HZ3 : Box (∀ (v : Value) (w' : World), OB w w' v ((B4 ++ headE fuE P.funcs k) ++ numE y.sig ++ tysE y.regs ++ numE (m4 : Int)) → OB w w' v ((B4 ++ headE fuE P.funcs k) ++ numE y.sig ++ tysE y.regs ++ headE blE y.blocks 0)) := hid (fun v w' h => by rw [headE_zero, ← hm4]; exact h)
                      have HFU : Box (∀ i z, y.blocks[i]? = some z → (blE z).length ≤ 35184372088832 ∧ headE blE y.blocks (i + 1) = headE blE y.blocks i ++ blE z ∧ (B4 ++ headE fuE P.funcs k).length + (numE y.sig).length + (tysE y.regs).length + (headE blE y.blocks i).length + (blE z).length ≤ 35184372088832) := hid (fun i z hz9 => by
                        have h1 := HBZ.out (i + 1)
                        have h2 := headE_succ blE hz9
                        rw [h2, List.length_append] at h1
                        have := HY.out
                        exact ⟨by omega, h2, by omega⟩)
                      generalize hT1 : numE y.sig = t1 at *
                      generalize hT2 : tysE y.regs = t2 at *
                      generalize hT3 : numE (m4 : Int) = t3 at *
                      generalize hB0 : (B4 ++ headE fuE P.funcs k) = B9 at *
                      generalize y.sig = ys at *
                      generalize y.regs.length = na at *
                      clear hT1 hT2 hT3 hB0 hc hy hz q5 qr ql q6 qs qm hbm hm4 HWB HBZ
                      go_upto_region 28 with fail
                      rw [HW6.out]
                      generalize wr.heap.size = u at *
                      clear HW6 d0 d5 d6 pc HO HKB
                      have b0 := hcell HU.out 0
                      go_wp2_with fail
                      refine (HC1.out _).mono ?_
                      rintro e x1 ⟨xv1, rfl, xo1⟩
                      obtain ⟨xg1, xc1, rfl, xn1⟩ := xo1.row HP1.out
                      have XN1 := hid xn1
                      have XO1 := hid (HBB.out.quiet xo1.keeps)
                      have XB1 := hid (keep_heap HU.out xo1.keeps)
                      obtain ⟨xm1, hxm1⟩ : ∃ m, m = (t1).length := ⟨_, rfl⟩
                      have XM1 := hid hxm1
                      rw [← hxm1]
                      clear xo1 xn1 hxm1
                      go_wp2_with (at_builtin; go_must (refine app_b rfl _ _ rfl rfl XO1.out rfl XM1.out HP1.out XN1.out (by have := HY.out; omega) ?_; intro g1 cap1 N1 z1 hN1 hob hgr; have ZO1 := hid hob; have ZB1 := hid (box_app XB1.out (by decide) XO1.out hgr); have b1 := hcell ZB1.out 1; clear hob hgr))
                      refine (HC2.out _ ZO1.out.keeps).mono ?_
                      rintro e x2 ⟨xv2, rfl, xo2⟩
                      obtain ⟨xg2, xc2, rfl, xn2⟩ := xo2.row HP2.out
                      have XN2 := hid xn2
                      have XO2 := hid (ZO1.out.quiet xo2.keeps)
                      have XB2 := hid (keep_heap ZB1.out xo2.keeps)
                      obtain ⟨xm2, hxm2⟩ : ∃ m, m = (t2).length := ⟨_, rfl⟩
                      have XM2 := hid hxm2
                      rw [← hxm2]
                      clear xo2 xn2 hxm2
                      go_wp2_with (at_builtin; go_must (refine app_b rfl _ _ rfl rfl XO2.out rfl XM2.out HP2.out XN2.out (by have := HY.out; rw [List.length_append]; omega) ?_; intro g2 cap2 N2 z2 hN2 hob hgr; have ZO2 := hid hob; have ZB2 := hid (box_app XB2.out (by decide) XO2.out hgr); have b2 := hcell ZB2.out 2; clear hob hgr))
                      refine (HC3.out _).mono ?_
                      rintro e x3 ⟨xv3, rfl, xo3⟩
                      obtain ⟨xg3, xc3, rfl, xn3⟩ := xo3.row HP3.out
                      have XN3 := hid xn3
                      have XO3 := hid (ZO2.out.quiet xo3.keeps)
                      have XB3 := hid (keep_heap ZB2.out xo3.keeps)
                      obtain ⟨xm3, hxm3⟩ : ∃ m, m = (t3).length := ⟨_, rfl⟩
                      have XM3 := hid hxm3
                      rw [← hxm3]
                      clear xo3 xn3 hxm3
                      go_wp2_with (at_builtin; go_must (refine app_b rfl _ _ rfl rfl XO3.out rfl XM3.out HP3.out XN3.out (by have := HY.out; have := HY3.out; rw [List.length_append, List.length_append]; omega) ?_; intro g3 cap3 N3 z3 hN3 hob hgr; have ZO3 := hid hob; have ZB3 := hid (box_app XB3.out (by decide) XO3.out hgr); have b2 := hcell ZB3.out 2; clear hob hgr))
                      have HI9 := hid (HZ3.out _ _ ZO3.out)
                      clear HZ3 HU ZB1 ZO1 XO1 XN1 XM1 XB1 ZB2 ZO2 XO2 XN2 XM2 XB2 XO3 XN3 XM3 XB3 ZO3 HBB b0 b1 b2
                      go_loopw [3, 10] (fun bv iv wz => ∃ i : Nat, i ≤ m4 ∧ iv = .int .i64 (i : Int) ∧ Box (OB w wz bv (B9 ++ t1 ++ t2 ++ headE blE y.blocks i)) ∧ Box (wz.heap[u]? = some (.cells #[.int .i64 ys, .slice ar na acp, .slice br m4 bcp] 55 (0, 0)))) (fun _ iv _ => m4 - (intOf iv).toNat)
                      case atStart => exact ⟨0, by omega, rfl, HI9, ZB3⟩
                      case round =>
                        obtain ⟨i, hi, rfl, HOI, HUI⟩ := hrel
                        clear HI9 ZB3
                        have b2 := hcell HUI.out 2
                        by_cases hli : i < m4
                        · have hli' : (i : Int) < (m4 : Int) := by omega
                          obtain ⟨z, hz9⟩ : ∃ z, y.blocks[i]? = some z := ⟨_, List.getElem?_eq_getElem (by rw [← HML.out]; exact hli)⟩
                          obtain ⟨zb, zo, hza, hzc⟩ := HBR.out.at hz9
                          subst hza
                          obtain ⟨g1, g2, g3⟩ := HFU.out i z hz9
                          have d := BlC.stays _ _ _ _ _ HOI.out.keeps hzc
                          obtain ⟨cr, ccp, f0, q0⟩ := SlC.val d.c0
                          have f1 := d.c1.1
                          have f2 := d.c2.1
                          have f3 := d.c3.1
                          have f4 := d.c4.1
                          have HCB : Box (∀ (w' : World), Keeps [] wr w' → Calls Tryd.prog 21 #[.agg #[.slice cr z.code.length ccp, .int .i64 z.fin, .int .i64 z.reg, .int .i64 z.to, .int .i64 z.els]] w' (ObPost w' (blE z))) := hid (fun w' kk => fblock_any (x := z) ⟨cr, ccp, rfl, SlV.sub InC.sub _ _ _ _ (Sub.of kk) q0, d.c1.2, d.c2.2, d.c3.2, d.c4.2⟩ g1)
                          have HPB := hid (Cd.bl.pos z)
                          have HYB : Box ((B9 ++ t1 ++ t2 ++ headE blE y.blocks i).length + (blE z).length ≤ 35184372088832) := hid (by rw [List.length_append, List.length_append, List.length_append]; omega)
                          have HEB : Box (∀ (v : Value) (w' : World), OB w w' v (B9 ++ t1 ++ t2 ++ headE blE y.blocks i ++ blE z) → OB w w' v (B9 ++ t1 ++ t2 ++ headE blE y.blocks (i + 1))) := hid (fun v w' h => by rw [g2, ← List.append_assoc]; exact h)
                          generalize blE z = tz at *
                          generalize B9 ++ t1 ++ t2 ++ headE blE y.blocks i = BI at *
                          generalize z.code.length = nz at *
                          generalize z.fin = z1 at *
                          generalize z.reg = z2 at *
                          generalize z.to = z3 at *
                          generalize z.els = z4 at *
                          clear hz9 hzc g1 g2 g3 d q0
                          go_wp2_with fail
                          refine (HCB.out _ (Keeps.refl _ _)).mono ?_
                          rintro e x7 ⟨xv7, rfl, xo7⟩
                          obtain ⟨xg7, xc7, rfl, xn7⟩ := xo7.row HPB.out
                          have XN7 := hid xn7
                          have XO7 := hid (HOI.out.quiet xo7.keeps)
                          have XB7 := hid (keep_heap HUI.out xo7.keeps)
                          obtain ⟨xm7, hxm7⟩ : ∃ m, m = (tz).length := ⟨_, rfl⟩
                          have XM7 := hid hxm7
                          rw [← hxm7]
                          clear xo7 xn7 hxm7
                          go_wp2_with (at_builtin; go_must (refine app_b rfl _ _ rfl rfl XO7.out rfl XM7.out HPB.out XN7.out (by have := HYB.out; omega) ?_; intro g7 cap7 N7 z7 hN7 hob hgr; have ZO7 := hid hob; have ZB7 := hid (box_app XB7.out (by decide) XO7.out hgr); clear hob hgr))
                          go_roundw
                          case rel => exact ⟨i + 1, by omega, by go_num, hid (HEB.out _ _ ZO7.out), ZB7⟩
                          case measure => simp [intOf]; omega
                        · obtain rfl : i = m4 := by omega
                          have HOK : Box (OB w wr u3 (B9 ++ t1 ++ t2 ++ blsE y.blocks)) := hid (by rw [show blsE y.blocks = headE blE y.blocks i by rw [HML.out]; exact (headE_all blE y.blocks).symm]; exact HOI.out)
                          clear HOI
                          go_wp2_with fail
                          go_roundw
                          case rel => exact ⟨k + 1, by omega, by go_num, hid (HE.out _ _ HOK.out)⟩
                          case measure => simp [intOf]; omega
                    · obtain rfl : k = n4 := by omega
                      have HX : Box (OB w wr u3 (B4 ++ fusE P.funcs)) := hid (by rw [show fusE P.funcs = headE fuE P.funcs k by rw [HL4.out]; exact (headE_all fuE P.funcs).symm]; exact HO.out)
                      rw [HB5.out] at HX
                      have pd := (HC.out _ HX.out.keeps).2.2.2.2.2
                      have HN9 := hid fun (w' : World) => fnum_any P.main HV5.out w'
                      have HNP := hid (numE_pos P.main)
                      generalize numE P.main = tn at *
                      generalize P.main = nm at *
                      clear HO
                      go_wp2_with fail
                      refine (HN9.out _).mono ?_
                      rintro e x9 ⟨xv9, rfl, xo9⟩
                      obtain ⟨xg9, xc9, rfl, xn9⟩ := xo9.row HNP.out
                      have XN9 := hid xn9
                      have XO9 := hid (HX.out.quiet xo9.keeps)
                      obtain ⟨xm9, hxm9⟩ : ∃ m, m = (tn).length := ⟨_, rfl⟩
                      have XM9 := hid hxm9
                      rw [← hxm9]
                      clear xo9 xn9 hxm9
                      go_wp2_with (at_builtin; go_must (refine app_b rfl _ _ rfl rfl XO9.out rfl XM9.out HNP.out XN9.out (by have := HZ5.out; omega) ?_; intro g9 cap9 N9 z9 hN9 hob hgr; have ZO9 := hid hob; clear hob hgr))
                      go_ret
                      exact ⟨_, rfl, by rw [← HE6.out]; exact ZO9.out⟩
end Go.Proofs.YtmipbaihlodmdaaDoor
