/-
  types.implemented, types.argsFit, types.called.
-/
import Derived.Test.YtlopddflbhnjdaaDoorTPar
namespace Go.Proofs.YtlopddflbhnjdaaDoor
open Go.RowKit

/-- Is there an Impl of a record for an interface? -/
def implB (P : Pr8) (r i : Int) : Bool := P.ims.any fun m => m.1 == r && m.2.1 == i
set_option maxHeartbeats 4000000 in
theorem impl_any {w : World} {pb po : Nat} {P : Pr8} (h : PrC w pb po P) (r i : Int) : Calls Tryd.prog 66 #[.pointer (some ⟨pb, po, none⟩), .int .i64 r, .int .i64 i] w fun e w' => e = .returned (.bool (implB P r i)) ∧ w' = w := by
  obtain ⟨a, cp, c3, hr, _, hm⟩ := h.c3
  have HR := hid hr
  obtain ⟨n, hn⟩ : ∃ n, n = P.ims.length := ⟨_, rfl⟩
  rw [← hn] at c3 hm
  have HL := hid hn
  have hn1 : (n : Int) ≤ 9223372036854775807 := by unfold maxLen at hm; omega
  clear h hr hn hm
  go_enter Tryd.func66, Tryd.ntmps66
  go_wp2_with fail
  go_loop [13] (fun kv => ∃ k : Nat, k ≤ n ∧ kv = .int .i64 (k : Int) ∧ Box (∀ j y, j < k → P.ims[j]? = some y → (y.1 == r && y.2.1 == i) = false)) (fun kv => n - (intOf kv).toNat)
  case atStart => exact ⟨0, by omega, rfl, hid fun j y hj => by omega⟩
  case round =>
    obtain ⟨k, hk, rfl, HB⟩ := hrel
    by_cases hlt : k < n
    · have hlt' : (k : Int) < (n : Int) := by omega
      have HY := hid (getD_get (l := P.ims) (k := k) (d := (0, 0, [])) (by rw [← HL.out]; exact hlt))
      obtain ⟨b, off, rfl, hc⟩ := HR.out.at HY.out
      have d0 := hc.c0.1
      have d1 := hc.c1.1
      have NEXT : Box (∀ y, P.ims[k]? = some y → (y.1 == r && y.2.1 == i) = false → ∀ j z, j < k + 1 → P.ims[j]? = some z → (z.1 == r && z.2.1 == i) = false) := hid fun y hy hg j z hj hz => by
        by_cases e : j < k
        · exact HB.out j z e hz
        · obtain rfl : j = k := by omega
          rw [hy] at hz
          cases hz
          exact hg
      clear hc HB
      generalize P.ims.getD k (0, 0, []) = y at *
      by_cases e1 : y.1 = r
      · have q1 : (y.1 == r) = true := eqb e1
        by_cases e2 : y.2.1 = i
        · have q2 : (y.2.1 == i) = true := eqb e2
          have HT : Box (implB P r i = true) := hid (List.any_eq_true.2 ⟨y, List.mem_of_getElem? HY.out, by rw [q1, q2]; rfl⟩)
          clear e1 e2 NEXT
          go_wp2_with fail
          go_ret
          exact ⟨by rw [HT.out]; rfl, rfl⟩
        · have q2 : (y.2.1 == i) = false := neb e2
          have HN := hid (NEXT.out y HY.out (by rw [q1, q2]; rfl))
          clear e1 e2 NEXT
          go_wp2_with fail
          go_round
          case rel => exact ⟨k + 1, by omega, by go_num, HN⟩
          case measure => simp [intOf]; omega
      · have q1 : (y.1 == r) = false := neb e1
        have HN := hid (NEXT.out y HY.out (by rw [q1]; rfl))
        clear e1 NEXT
        go_wp2_with fail
        go_round
        case rel => exact ⟨k + 1, by omega, by go_num, HN⟩
        case measure => simp [intOf]; omega
    · obtain rfl : n = k := by omega
      have HF : Box (implB P r i = false) := hid (List.any_eq_false.2 fun y hy => by
        obtain ⟨j, hj, e⟩ := List.getElem_of_mem hy
        have := HB.out j y (by rw [HL.out]; exact hj) (by rw [List.getElem?_eq_getElem hj, e])
        rw [this]
        simp)
      go_wp2_with fail
      go_ret
      exact ⟨by rw [HF.out]; rfl, rfl⟩
/-- Do registers have the types of parameters? -/
def argsB (f : Fu8) (l : List Int) (ps : List (Int × Int)) : Bool := decide (l.length = ps.length) && (List.range l.length).all fun k => tyE (regT f (l.getD k 0)) (ps.getD k (0, 0))
set_option maxRecDepth 20000 in
set_option maxHeartbeats 4000000 in
theorem args_any {w : World} {fb fo : Nat} {f : Fu8} (hf : FuC w fb fo f) {a : Option Addr} {cp : Nat} {l : List Int} (hz : IntsAt w a l) (hl : l.length ≤ 1000) {pa : Option Addr} {pp : Nat} {ps : List (Int × Int)} (hp : RowsAt w 2 TyC pa ps) : Calls Tryd.prog 68 #[.pointer (some ⟨fb, fo, none⟩), .slice a l.length cp, .slice pa ps.length pp] w fun e w' => e = .returned (.bool (argsB f l ps)) ∧ Keeps [] w w' := by
  have HZ := hid hz
  have HP := hid hp
  have HRT := hid fun (r : Int) (w' : World) (k : Keeps [] w w') => regtype_any (FuC.stays _ _ _ _ _ k hf) r
  have HE : Box (argsB f l ps = (decide (l.length = ps.length) && (List.range l.length).all fun k => tyE (regT f (l.getD k 0)) (ps.getD k (0, 0)))) := hid rfl
  obtain ⟨n, hn⟩ : ∃ n, n = l.length := ⟨_, rfl⟩
  obtain ⟨m, hm⟩ : ∃ m, m = ps.length := ⟨_, rfl⟩
  rw [← hn, ← hm] at HE
  rw [← hn, ← hm]
  have HL := hid hn
  have HM := hid hm
  have hn1 : (n : Int) ≤ 9223372036854775807 := by omega
  clear hf hz hl hp hn hm
  by_cases hnm : n = m
  case neg =>
    have q1 : ((n : Int) != (m : Int)) = true := nneb (by omega)
    have HF : Box (argsB f l ps = false) := hid (by rw [HE.out]; simp [hnm])
    clear hnm HE
    go_enter Tryd.func68, Tryd.ntmps68
    go_wp2_with fail
    go_ret
    exact ⟨by rw [HF.out]; rfl, Keeps.refl _ _⟩
  obtain rfl : m = n := hnm.symm
  have q1 : ((m : Int) != (m : Int)) = false := neqb rfl
  have HG : Box (argsB f l ps = (List.range m).all fun k => tyE (regT f (l.getD k 0)) (ps.getD k (0, 0))) := hid (by rw [HE.out]; simp)
  clear hnm HE
  go_enter Tryd.func68, Tryd.ntmps68
  go_wp2_with fail
  go_loopw [16] (fun kv wr => ∃ k : Nat, k ≤ m ∧ kv = .int .i64 (k : Int) ∧ Box (Keeps [] w wr) ∧ Box (∀ j, j < k → tyE (regT f (l.getD j 0)) (ps.getD j (0, 0)) = true)) (fun kv _ => m - (intOf kv).toNat)
  case atStart => exact ⟨0, by omega, rfl, hid (Keeps.refl _ _), hid fun j hj => by omega⟩
  case round =>
    obtain ⟨k, hk, rfl, HK, HA⟩ := hrel
    by_cases hlt : k < m
    · have hlt' : (k : Int) < (m : Int) := by omega
      obtain ⟨b, off, rfl, hc⟩ : ∃ b off, a = some ⟨b, off, none⟩ ∧ w.cell? ⟨b, off + k, none⟩ = some (.int .i64 (l.getD k 0)) := by
        rcases HZ.out with e | ⟨b, off, e, h⟩
        · rw [e] at HL; have := HL.out; simp at this; omega
        · exact ⟨b, off, e, h k (by rw [← HL.out]; exact hlt)⟩
      obtain ⟨b', off', rfl, hc'⟩ := HP.out.at (getD_get (l := ps) (k := k) (d := (0, 0)) (by rw [← HM.out]; exact hlt))
      have d := cell_stays HK.out hc
      have d0 := cell_stays HK.out hc'.c0.1
      have d1 := cell_stays HK.out hc'.c1.1
      have HC := hid (HRT.out (l.getD k 0))
      have REL : Box (tyE (regT f (l.getD k 0)) (ps.getD k (0, 0)) = true → ∀ j, j < k + 1 → tyE (regT f (l.getD j 0)) (ps.getD j (0, 0)) = true) := hid fun hg j hj => by
        by_cases e : j < k
        · exact HA.out j e
        · obtain rfl : j = k := by omega
          exact hg
      have BAD : Box (tyE (regT f (l.getD k 0)) (ps.getD k (0, 0)) = false → argsB f l ps = false) := hid fun hg => by
        rw [HG.out, List.all_eq_false]
        exact ⟨k, List.mem_range.2 hlt, by rw [hg]; simp⟩
      clear hc hc'
      generalize regT f (l.getD k 0) = U at *
      generalize l.getD k 0 = r at *
      generalize ps.getD k (0, 0) = T at *
      have rn := fun w' => run_tyN U.1 U.2 T.1 T.2 w'
      unfold tyV at HC
      cases hg : tyE U T with
      | true =>
        have hg' : tyE (U.1, U.2) (T.1, T.2) = true := hg
        rw [hg'] at rn
        have HR2 := hid (REL.out hg)
        clear hg hg' REL BAD
        go_upto_region 6 with fail
        go_region_held3 (fun w' => w'.cell? ⟨b', off' + k * 2, none⟩ = some (.int .i64 T.1) ∧ w'.cell? ⟨b', off' + k * 2 + 1, none⟩ = some (.int .i64 T.2)) (go_keep) (first | (go_at_call 63; refine (HC.out _ (HK.out.quiet (Keeps.drew [] _))).mono ?_; rintro e w5 ⟨rfl, k5⟩; have e0 := cell_stays ((Keeps.drew [] _).quiet k5) d0; have e1 := cell_stays ((Keeps.drew [] _).quiet k5) d1; have K5 := hid ((HK.out.quiet (Keeps.drew [] _)).quiet k5); clear k5))
        go_wp2_with fail
        go_roundw
        case rel => exact ⟨k + 1, by omega, by go_num, K5, HR2⟩
        case measure => simp [intOf]; omega
      | false =>
        have hg' : tyE (U.1, U.2) (T.1, T.2) = false := hg
        rw [hg'] at rn
        have HF := hid (BAD.out hg)
        clear hg hg' REL BAD
        go_upto_region 6 with fail
        go_region_held3 (fun w' => w'.cell? ⟨b', off' + k * 2, none⟩ = some (.int .i64 T.1) ∧ w'.cell? ⟨b', off' + k * 2 + 1, none⟩ = some (.int .i64 T.2)) (go_keep) (first | (go_at_call 63; refine (HC.out _ (HK.out.quiet (Keeps.drew [] _))).mono ?_; rintro e w5 ⟨rfl, k5⟩; have e0 := cell_stays ((Keeps.drew [] _).quiet k5) d0; have e1 := cell_stays ((Keeps.drew [] _).quiet k5) d1; have K5 := hid ((HK.out.quiet (Keeps.drew [] _)).quiet k5); clear k5))
        go_wp2_with fail
        go_ret
        exact ⟨by rw [HF.out]; rfl, K5.out⟩
    · obtain rfl : m = k := by omega
      have HF : Box (argsB f l ps = true) := hid (by rw [HG.out, List.all_eq_true]; exact fun j hj => HA.out j (List.mem_range.1 hj))
      go_wp2_with fail
      go_ret
      exact ⟨by rw [HF.out]; rfl, HK.out⟩
theorem SigPost.yes {O : Option (List (Int × Int) × Int × Int)} {s : List (Int × Int) × Int × Int} {w0 w w' : World} {v : Value} (h : O = some s) (k : Keeps [] w w') (hv : SgV w0 v s) : SigPost O w0 w (.returned (.tuple #[v, .bool true])) w' := by
  subst h
  exact ⟨k, v, rfl, hv⟩
theorem SigPost.no {O : Option (List (Int × Int) × Int × Int)} {w0 w w' : World} (h : O = none) (k : Keeps [] w w') : SigPost O w0 w (.returned (.tuple #[.agg #[.slice none 0 0, .int .i64 0, .int .i64 0], .bool false])) w' := by
  subst h
  exact ⟨k, rfl⟩
set_option maxRecDepth 20000 in
set_option maxHeartbeats 4000000 in
theorem called_13 {w : World} {pb po fb fo : Nat} {P : Pr8} {f : Fu8} (h : PrC w pb po P) (hf : FuC w fb fo f) (x : In8) (ar : Value) (hop : x.op = 13) : Calls Tryd.prog 67 #[.pointer (some ⟨pb, po, none⟩), .pointer (some ⟨fb, fo, none⟩), insV x ar] w (SigPost (if (regT f x.a).1 = 2 then sigO P (regT f x.a).2 else none) w w) := by
  unfold insV
  rw [hop]
  obtain ⟨O, hO⟩ : ∃ O, O = if (regT f x.a).1 = 2 then sigO P (regT f x.a).2 else none := ⟨_, rfl⟩
  rw [← hO]
  have HO := hid hO
  clear hO
  obtain ⟨W, hW⟩ : ∃ W, W = (w.alloc (.cells #[.int .i64 13, .int .i64 x.dst, .int .i64 x.a, .int .i64 x.b, .int .i64 x.n, ar] 54)).alloc (.cells #[.slice none 0 0, .int .i64 0, .int .i64 0] 41) := ⟨_, rfl⟩
  have k2 : Keeps [] w W := by rw [hW]; exact (Keeps.alloc [] w _).quiet (Keeps.alloc [] _ _)
  have hn1 : W.heap[w.heap.size]? = some (.cells #[.int .i64 13, .int .i64 x.dst, .int .i64 x.a, .int .i64 x.b, .int .i64 x.n, ar] 54 (0, 0)) := by rw [hW]; exact keep_heap (heap_new w _) (Keeps.alloc [] _ _)
  have hn2 : W.heap[w.heap.size + 1]? = some (.cells #[.slice none 0 0, .int .i64 0, .int .i64 0] 41 (0, 0)) := by
    have := heap_new (w.alloc (.cells #[.int .i64 13, .int .i64 x.dst, .int .i64 x.a, .int .i64 x.b, .int .i64 x.n, ar] 54)) (.cells #[.slice none 0 0, .int .i64 0, .int .i64 0] 41)
    rw [World.size_alloc] at this
    rw [hW]
    exact this
  have HRT := hid (regtype_any (FuC.stays _ _ _ _ _ k2 hf) x.a)
  have K2 := hid k2
  have HN1 := hid hn1
  have HN2 := hid hn2
  have HWE := hid hW
  have HP := hid h
  have i2 := hcell hn1 2
  have fin : ∀ W' u0 u1 u2, Keeps [] W W' → Keeps [] w (((W'.setCell ⟨w.heap.size + 1, 0, none⟩ u0).setCell ⟨w.heap.size + 1, 1, none⟩ u1).setCell ⟨w.heap.size + 1, 2, none⟩ u2) := fun W' u0 u1 u2 k => (K2.out.quiet k).trans (keeps3 _ (w.heap.size + 1) _ _ _) (fun x hx hl => by simp at hx; omega)
  have FIN := hid fin
  have HSG := hid fun (w' : World) (k : Keeps [] w w') => sig_any HP.out k (regT f x.a).2
  clear hW k2 hn1 hn2 fin hop h hf
  generalize regT f x.a = T at *
  unfold tyV at HRT
  go_enter Tryd.func67, Tryd.ntmps67
  go_upto_region 1 with fail
  rw [← HWE.out]
  clear HWE
  generalize w.heap.size = q at *
  go_wp2_with fail
  refine HRT.out.mono ?_
  rintro e w1 ⟨rfl, k1⟩
  have KT := k1.quiet (Keeps.alloc [] w1 (.cells #[.int .i64 T.1, .int .i64 T.2] 39))
  have j1 := keep_heap HN1.out KT
  have j2 := keep_heap HN2.out KT
  have j3 := heap_new w1 (.cells #[.int .i64 T.1, .int .i64 T.2] 39)
  have KW := hid KT
  have J2 := hid j2
  have a0 := hcell j1 0
  have a4 := hcell j1 4
  have t0 := hcell j3 0
  have t1 := hcell j3 1
  clear k1 i2 KT j1 HRT HN1 HN2
  go_upto_region 2 with fail
  have Z3 := hid j3
  clear j3 j2
  generalize w1.alloc (.cells #[.int .i64 T.1, .int .i64 T.2] 39) = W2 at *
  generalize w1.heap.size = q2 at *
  go_quiet (fail)
  have KDR : Box (Keeps [] W2 (W2.drewN nq)) := hid (Keeps.drewN _ _ _)
  generalize W2.drewN nq = W3 at *
  replace a0 := cell_stays KDR.out a0
  replace a4 := cell_stays KDR.out a4
  replace t0 := cell_stays KDR.out t0
  replace t1 := cell_stays KDR.out t1
  by_cases hT : T.1 = 2
  · replace HO := hid (HO.out.trans (if_pos hT))
    have o1 := eqb hT
    clear hT
    go_wp2_with fail
    cases hs : sigO P T.2 with
    | none =>
      have HOO : Box (O = none) := hid (HO.out.trans hs)
      rw [hs] at HSG
      clear HO hs
      refine (HSG.out _ ((K2.out.quiet KW.out).quiet KDR.out)).mono ?_
      rintro e w5 ⟨k5, rfl⟩
      have hb5 := keep_heap J2.out (KDR.out.quiet k5)
      have K5 := hid ((KW.out.quiet KDR.out).quiet k5)
      have y0 := hfrozen hb5 0
      have y1 := hfrozen hb5 1
      have y2 := hfrozen hb5 2
      have x0 := hcell hb5 0
      have x1 := hcell hb5 1
      have x2 := hcell hb5 2
      have HB5 := hid hb5
      clear hb5 k5
      go_wp2_with fail
      have h3 := set3 HB5.out (.slice none 0 0) (.int .i64 0) (.int .i64 0)
      have e0 := hcell h3 0
      have e1 := hcell h3 1
      have e2 := hcell h3 2
      exact bodyPost_ret (v := .tuple #[.agg #[.slice none 0 0, .int .i64 0, .int .i64 0], .bool false]) (by simp [results, Tryd.results67, go_sem, e0, e1, e2]) rfl (SigPost.no HOO.out (FIN.out _ _ _ _ K5.out))
    | some sg =>
      have HOO : Box (O = some sg) := hid (HO.out.trans hs)
      rw [hs] at HSG
      clear HO hs
      refine (HSG.out _ ((K2.out.quiet KW.out).quiet KDR.out)).mono ?_
      rintro e w5 ⟨k5, v5, rfl, ga, gp, rfl, hv6⟩
      have hb5 := keep_heap J2.out (KDR.out.quiet k5)
      have K5 := hid ((KW.out.quiet KDR.out).quiet k5)
      have HV6 := hid hv6
      have y0 := hfrozen hb5 0
      have y1 := hfrozen hb5 1
      have y2 := hfrozen hb5 2
      have x0 := hcell hb5 0
      have x1 := hcell hb5 1
      have x2 := hcell hb5 2
      have HB5 := hid hb5
      clear hb5 k5 hv6
      go_wp2_with fail
      have h3 := set3 HB5.out (.slice ga sg.1.length gp) (.int .i64 sg.2.1) (.int .i64 sg.2.2)
      have e0 := hcell h3 0
      have e1 := hcell h3 1
      have e2 := hcell h3 2
      exact bodyPost_ret (v := .tuple #[.agg #[.slice ga sg.1.length gp, .int .i64 sg.2.1, .int .i64 sg.2.2], .bool true]) (by simp [results, Tryd.results67, go_sem, e0, e1, e2]) rfl (SigPost.yes HOO.out (FIN.out _ _ _ _ K5.out) ⟨ga, gp, rfl, HV6.out⟩)
  · have HOO : Box (O = none) := hid (HO.out.trans (if_neg hT))
    clear HO
    have o1 := neb hT
    have hb5 := keep_heap J2.out KDR.out
    have y0 := hfrozen hb5 0
    have y1 := hfrozen hb5 1
    have y2 := hfrozen hb5 2
    have x0 := hcell hb5 0
    have x1 := hcell hb5 1
    have x2 := hcell hb5 2
    have HB5 := hid hb5
    have K5 := hid (KW.out.quiet KDR.out)
    clear hT HSG hb5
    go_wp2_with fail
    have h3 := set3 HB5.out (.slice none 0 0) (.int .i64 0) (.int .i64 0)
    have e0 := hcell h3 0
    have e1 := hcell h3 1
    have e2 := hcell h3 2
    exact bodyPost_ret (v := .tuple #[.agg #[.slice none 0 0, .int .i64 0, .int .i64 0], .bool false]) (by simp [results, Tryd.results67, go_sem, e0, e1, e2]) rfl (SigPost.no HOO.out (FIN.out _ _ _ _ K5.out))
set_option maxRecDepth 20000 in
set_option maxHeartbeats 4000000 in
theorem called_14 {w : World} {pb po fb fo : Nat} {P : Pr8} {f : Fu8} (h : PrC w pb po P) (hf : FuC w fb fo f) (x : In8) (ar : Value) (hop : x.op = 14) : Calls Tryd.prog 67 #[.pointer (some ⟨pb, po, none⟩), .pointer (some ⟨fb, fo, none⟩), insV x ar] w (SigPost (methO P (regT f x.a) x.n) w w) := by
  unfold insV
  rw [hop]
  obtain ⟨O, hO⟩ : ∃ O, O = methO P (regT f x.a) x.n := ⟨_, rfl⟩
  rw [← hO]
  have HO := hid hO
  clear hO
  obtain ⟨W, hW⟩ : ∃ W, W = (w.alloc (.cells #[.int .i64 14, .int .i64 x.dst, .int .i64 x.a, .int .i64 x.b, .int .i64 x.n, ar] 54)).alloc (.cells #[.slice none 0 0, .int .i64 0, .int .i64 0] 41) := ⟨_, rfl⟩
  have k2 : Keeps [] w W := by rw [hW]; exact (Keeps.alloc [] w _).quiet (Keeps.alloc [] _ _)
  have hn1 : W.heap[w.heap.size]? = some (.cells #[.int .i64 14, .int .i64 x.dst, .int .i64 x.a, .int .i64 x.b, .int .i64 x.n, ar] 54 (0, 0)) := by rw [hW]; exact keep_heap (heap_new w _) (Keeps.alloc [] _ _)
  have hn2 : W.heap[w.heap.size + 1]? = some (.cells #[.slice none 0 0, .int .i64 0, .int .i64 0] 41 (0, 0)) := by
    have := heap_new (w.alloc (.cells #[.int .i64 14, .int .i64 x.dst, .int .i64 x.a, .int .i64 x.b, .int .i64 x.n, ar] 54)) (.cells #[.slice none 0 0, .int .i64 0, .int .i64 0] 41)
    rw [World.size_alloc] at this
    rw [hW]
    exact this
  have HRT := hid (regtype_any (FuC.stays _ _ _ _ _ k2 hf) x.a)
  have K2 := hid k2
  have HN1 := hid hn1
  have HN2 := hid hn2
  have HWE := hid hW
  have HP := hid h
  have i2 := hcell hn1 2
  have fin : ∀ W' u0 u1 u2, Keeps [] W W' → Keeps [] w (((W'.setCell ⟨w.heap.size + 1, 0, none⟩ u0).setCell ⟨w.heap.size + 1, 1, none⟩ u1).setCell ⟨w.heap.size + 1, 2, none⟩ u2) := fun W' u0 u1 u2 k => (K2.out.quiet k).trans (keeps3 _ (w.heap.size + 1) _ _ _) (fun x hx hl => by simp at hx; omega)
  have FIN := hid fin
  have HSG := hid fun (w' : World) (k : Keeps [] w w') => method_any HP.out k (regT f x.a) x.n
  clear hW k2 hn1 hn2 fin hop h hf
  generalize regT f x.a = T at *
  unfold tyV at HRT
  go_enter Tryd.func67, Tryd.ntmps67
  go_upto_region 1 with fail
  rw [← HWE.out]
  clear HWE
  generalize w.heap.size = q at *
  go_wp2_with fail
  refine HRT.out.mono ?_
  rintro e w1 ⟨rfl, k1⟩
  have KT := k1.quiet (Keeps.alloc [] w1 (.cells #[.int .i64 T.1, .int .i64 T.2] 39))
  have j1 := keep_heap HN1.out KT
  have j2 := keep_heap HN2.out KT
  have j3 := heap_new w1 (.cells #[.int .i64 T.1, .int .i64 T.2] 39)
  have KW := hid KT
  have J2 := hid j2
  have a0 := hcell j1 0
  have a4 := hcell j1 4
  have t0 := hcell j3 0
  have t1 := hcell j3 1
  clear k1 i2 KT j1 HRT HN1 HN2
  go_upto_region 2 with fail
  have Z3 := hid j3
  clear j3 j2
  generalize w1.alloc (.cells #[.int .i64 T.1, .int .i64 T.2] 39) = W2 at *
  generalize w1.heap.size = q2 at *
  go_quiet (fail)
  have KDR : Box (Keeps [] W2 (W2.drewN nq)) := hid (Keeps.drewN _ _ _)
  generalize W2.drewN nq = W3 at *
  replace a0 := cell_stays KDR.out a0
  replace a4 := cell_stays KDR.out a4
  replace t0 := cell_stays KDR.out t0
  replace t1 := cell_stays KDR.out t1
  go_wp2_with fail
  cases hs : methO P T x.n with
  | none =>
    have HOO : Box (O = none) := hid (HO.out.trans hs)
    rw [hs] at HSG
    clear HO hs
    refine (HSG.out _ ((K2.out.quiet KW.out).quiet KDR.out)).mono ?_
    rintro e w5 ⟨k5, rfl⟩
    have hb5 := keep_heap J2.out (KDR.out.quiet k5)
    have K5 := hid ((KW.out.quiet KDR.out).quiet k5)
    have y0 := hfrozen hb5 0
    have y1 := hfrozen hb5 1
    have y2 := hfrozen hb5 2
    have x0 := hcell hb5 0
    have x1 := hcell hb5 1
    have x2 := hcell hb5 2
    have HB5 := hid hb5
    clear hb5 k5
    go_wp2_with fail
    have h3 := set3 HB5.out (.slice none 0 0) (.int .i64 0) (.int .i64 0)
    have e0 := hcell h3 0
    have e1 := hcell h3 1
    have e2 := hcell h3 2
    exact bodyPost_ret (v := .tuple #[.agg #[.slice none 0 0, .int .i64 0, .int .i64 0], .bool false]) (by simp [results, Tryd.results67, go_sem, e0, e1, e2]) rfl (SigPost.no HOO.out (FIN.out _ _ _ _ K5.out))
  | some sg =>
    have HOO : Box (O = some sg) := hid (HO.out.trans hs)
    rw [hs] at HSG
    clear HO hs
    refine (HSG.out _ ((K2.out.quiet KW.out).quiet KDR.out)).mono ?_
    rintro e w5 ⟨k5, v5, rfl, ga, gp, rfl, hv6⟩
    have hb5 := keep_heap J2.out (KDR.out.quiet k5)
    have K5 := hid ((KW.out.quiet KDR.out).quiet k5)
    have HV6 := hid hv6
    have y0 := hfrozen hb5 0
    have y1 := hfrozen hb5 1
    have y2 := hfrozen hb5 2
    have x0 := hcell hb5 0
    have x1 := hcell hb5 1
    have x2 := hcell hb5 2
    have HB5 := hid hb5
    clear hb5 k5 hv6
    go_wp2_with fail
    have h3 := set3 HB5.out (.slice ga sg.1.length gp) (.int .i64 sg.2.1) (.int .i64 sg.2.2)
    have e0 := hcell h3 0
    have e1 := hcell h3 1
    have e2 := hcell h3 2
    exact bodyPost_ret (v := .tuple #[.agg #[.slice ga sg.1.length gp, .int .i64 sg.2.1, .int .i64 sg.2.2], .bool true]) (by simp [results, Tryd.results67, go_sem, e0, e1, e2]) rfl (SigPost.yes HOO.out (FIN.out _ _ _ _ K5.out) ⟨ga, gp, rfl, HV6.out⟩)
set_option maxRecDepth 20000 in
set_option maxHeartbeats 4000000 in
theorem called_12 {w : World} {pb po fb fo : Nat} {P : Pr8} {f : Fu8} (h : PrC w pb po P) (hf : FuC w fb fo f) (x : In8) (ar : Value) (hop : x.op = 12) (hn : inB x.n P.funcs.length = true) : Calls Tryd.prog 67 #[.pointer (some ⟨pb, po, none⟩), .pointer (some ⟨fb, fo, none⟩), insV x ar] w (SigPost (sigO P (fun8 P x.n.toNat).sig) w w) := by
  unfold insV
  rw [hop]
  obtain ⟨O, hO⟩ : ∃ O, O = sigO P (fun8 P x.n.toNat).sig := ⟨_, rfl⟩
  rw [← hO]
  have HO := hid hO
  clear hO
  obtain ⟨W, hW⟩ : ∃ W, W = (w.alloc (.cells #[.int .i64 12, .int .i64 x.dst, .int .i64 x.a, .int .i64 x.b, .int .i64 x.n, ar] 54)).alloc (.cells #[.slice none 0 0, .int .i64 0, .int .i64 0] 41) := ⟨_, rfl⟩
  have k2 : Keeps [] w W := by rw [hW]; exact (Keeps.alloc [] w _).quiet (Keeps.alloc [] _ _)
  have hn1 : W.heap[w.heap.size]? = some (.cells #[.int .i64 12, .int .i64 x.dst, .int .i64 x.a, .int .i64 x.b, .int .i64 x.n, ar] 54 (0, 0)) := by rw [hW]; exact keep_heap (heap_new w _) (Keeps.alloc [] _ _)
  have hn2 : W.heap[w.heap.size + 1]? = some (.cells #[.slice none 0 0, .int .i64 0, .int .i64 0] 41 (0, 0)) := by
    have := heap_new (w.alloc (.cells #[.int .i64 12, .int .i64 x.dst, .int .i64 x.a, .int .i64 x.b, .int .i64 x.n, ar] 54)) (.cells #[.slice none 0 0, .int .i64 0, .int .i64 0] 41)
    rw [World.size_alloc] at this
    rw [hW]
    exact this
  have HRT := hid (regtype_any (FuC.stays _ _ _ _ _ k2 hf) x.a)
  have K2 := hid k2
  have HN1 := hid hn1
  have HN2 := hid hn2
  have HWE := hid hW
  have HP := hid h
  have i2 := hcell hn1 2
  have fin : ∀ W' u0 u1 u2, Keeps [] W W' → Keeps [] w (((W'.setCell ⟨w.heap.size + 1, 0, none⟩ u0).setCell ⟨w.heap.size + 1, 1, none⟩ u1).setCell ⟨w.heap.size + 1, 2, none⟩ u2) := fun W' u0 u1 u2 k => (K2.out.quiet k).trans (keeps3 _ (w.heap.size + 1) _ _ _) (fun x hx hl => by simp at hx; omega)
  have FIN := hid fin
  obtain ⟨g0, g1⟩ := inB_iff.1 hn
  obtain ⟨m, hm⟩ : ∃ m : Nat, x.n = (m : Int) := ⟨x.n.toNat, by omega⟩
  rw [hm] at g1
  have HW : Box (∀ w, Calls Tryd.prog 29 #[.int .i64 x.n, .int .i64 (P.funcs.length : Int)] w fun e w' => e = .returned (.bool true) ∧ w' = w) := hid fun w => by rw [← hn]; exact within_any _ _ w
  obtain ⟨fa, fp, c4, r4, _⟩ := h.c4
  obtain ⟨gb, go, rfl, hfu0⟩ := r4.at (getD_get (l := P.funcs) (k := m) (d := ⟨0, [], []⟩) (by omega))
  have HC4 : Box (∀ w', Keeps [] w w' → w'.cell? ⟨pb, po + 4, none⟩ = some (.slice (some ⟨gb, go, none⟩) P.funcs.length fp) ∧ w'.cell? ⟨gb, go + m * 3, none⟩ = some (.int .i64 (fun8 P m).sig)) := hid fun w' k => ⟨cell_stays k c4, cell_stays k hfu0.c0.1⟩
  have HSG := hid fun (w' : World) (k : Keeps [] w w') => sig_any HP.out k (fun8 P m).sig
  have em : x.n.toNat = m := by omega
  rw [em] at HO
  have hmm := hid hm
  clear c4 r4 hfu0 hn g0 em hm
  clear hW k2 hn1 hn2 fin hop h hf
  generalize regT f x.a = T at *
  unfold tyV at HRT
  go_enter Tryd.func67, Tryd.ntmps67
  go_upto_region 1 with fail
  rw [← HWE.out]
  clear HWE
  generalize w.heap.size = q at *
  go_wp2_with fail
  refine HRT.out.mono ?_
  rintro e w1 ⟨rfl, k1⟩
  have KT := k1.quiet (Keeps.alloc [] w1 (.cells #[.int .i64 T.1, .int .i64 T.2] 39))
  have j1 := keep_heap HN1.out KT
  have j2 := keep_heap HN2.out KT
  have j3 := heap_new w1 (.cells #[.int .i64 T.1, .int .i64 T.2] 39)
  have KW := hid KT
  have J2 := hid j2
  have a0 := hcell j1 0
  have a4 := hcell j1 4
  have t0 := hcell j3 0
  have t1 := hcell j3 1
  clear k1 i2 KT j1 HRT HN1 HN2
  go_upto_region 2 with fail
  have Z3 := hid j3
  clear j3 j2
  generalize w1.alloc (.cells #[.int .i64 T.1, .int .i64 T.2] 39) = W2 at *
  generalize w1.heap.size = q2 at *
  rw [hmm.out] at a4 HW
  clear hmm
  obtain ⟨f4, f5⟩ := HC4.out _ (K2.out.quiet KW.out)
  generalize (fun8 P m).sig = sn at *
  generalize P.funcs.length = FN at *
  go_quiet ((go_at_call 29; exact Calls.quiet_of_same (HW.out _)))
  have KDR : Box (Keeps [] W2 (W2.drewN nq)) := hid (Keeps.drewN _ _ _)
  go_upto_region 3 with fail
  generalize W2.drewN nq = W3 at *
  replace a4 := cell_stays KDR.out a4
  replace f4 := cell_stays KDR.out f4
  replace f5 := cell_stays KDR.out f5
  clear a0 t0 t1
  cases hs : sigO P sn with
  | none =>
    have HOO : Box (O = none) := hid (HO.out.trans hs)
    rw [hs] at HSG
    clear HO hs
    go_region_with (go_at_call 69; refine (HSG.out _ (((K2.out.quiet KW.out).quiet KDR.out).quiet (Keeps.drew [] _))).mono ?_; rintro e w5 ⟨k5, rfl⟩; have kk := (Keeps.drew [] W3).quiet k5; have g4 := cell_stays kk f4; have g5 := cell_stays kk f5; have g6 := cell_stays kk a4; have hb5 := keep_heap J2.out (KDR.out.quiet kk); have K5 := hid ((KW.out.quiet KDR.out).quiet kk); have y0 := hfrozen hb5 0; have y1 := hfrozen hb5 1; have y2 := hfrozen hb5 2; have x0 := hcell hb5 0; have x1 := hcell hb5 1; have x2 := hcell hb5 2; have HB5 := hid hb5; clear hb5 k5 kk)
    all_goals (
      go_wp2_with fail
      have h3 := set3 HB5.out (.slice none 0 0) (.int .i64 0) (.int .i64 0)
      have e0 := hcell h3 0
      have e1 := hcell h3 1
      have e2 := hcell h3 2
      exact bodyPost_ret (v := .tuple #[.agg #[.slice none 0 0, .int .i64 0, .int .i64 0], .bool false]) (by simp [results, Tryd.results67, go_sem, e0, e1, e2]) rfl (SigPost.no HOO.out (FIN.out _ _ _ _ K5.out)))
  | some sg =>
    have HOO : Box (O = some sg) := hid (HO.out.trans hs)
    rw [hs] at HSG
    clear HO hs
    go_region_with (go_at_call 69; refine (HSG.out _ (((K2.out.quiet KW.out).quiet KDR.out).quiet (Keeps.drew [] _))).mono ?_; rintro e w5 ⟨k5, v5, rfl, ga, gp, rfl, hv6⟩; have kk := (Keeps.drew [] W3).quiet k5; have g4 := cell_stays kk f4; have g5 := cell_stays kk f5; have g6 := cell_stays kk a4; have hb5 := keep_heap J2.out (KDR.out.quiet kk); have K5 := hid ((KW.out.quiet KDR.out).quiet kk); have y0 := hfrozen hb5 0; have y1 := hfrozen hb5 1; have y2 := hfrozen hb5 2; have x0 := hcell hb5 0; have x1 := hcell hb5 1; have x2 := hcell hb5 2; have HB5 := hid hb5; have HV6 := hid hv6; clear hb5 k5 kk hv6)
    all_goals (
      go_wp2_with fail
      have h3 := set3 HB5.out (.slice ga sg.1.length gp) (.int .i64 sg.2.1) (.int .i64 sg.2.2)
      have e0 := hcell h3 0
      have e1 := hcell h3 1
      have e2 := hcell h3 2
      exact bodyPost_ret (v := .tuple #[.agg #[.slice ga sg.1.length gp, .int .i64 sg.2.1, .int .i64 sg.2.2], .bool true]) (by simp [results, Tryd.results67, go_sem, e0, e1, e2]) rfl (SigPost.yes HOO.out (FIN.out _ _ _ _ K5.out) ⟨ga, gp, rfl, HV6.out⟩))
end Go.Proofs.YtlopddflbhnjdaaDoor
