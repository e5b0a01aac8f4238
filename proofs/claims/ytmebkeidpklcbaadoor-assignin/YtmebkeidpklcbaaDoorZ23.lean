/-
  Contract: the document's own Blocks.
-/
import Derived.Deep.DeepCutAuto
import Derived.Test.YtmebkeidpklcbaaDoorZ22

namespace Go.Proofs.YtmebkeidpklcbaaDoor
open Go.RowKit

theorem zero_intsY : Tryd.t54.zero = some (.slice none 0 0) := by kernel_rfl
theorem size_intsY : Tryd.t54.size = 1 := by kernel_rfl
theorem bytes_intsY : Tryd.t54.bytes = 24 := by kernel_rfl
theorem info_intsY : Tryd.prog.info? 54 = some Tryd.t54 := by kernel_rfl
theorem under_listsY : Tryd.prog.underlying 32 = some (.slice 54) := by kernel_rfl
theorem own_cellsY {w : World} {base : Nat} {e : TypeId} {size : Nat} {v : Value} {n : Nat} {xs : List Value} (h : w.ownsRow base e size v n xs) {b : Nat} (hb : v.ownBlock = some b) : ∃ cur, w.heap[b]? = some (.cells cur e (0, 0)) := by
  rcases h.2 with ⟨rfl, _⟩ | ⟨g, cap, cur, rfl, _, hg, _⟩
  · simp [Value.ownBlock] at hb
  · simp [Value.ownBlock] at hb
    subst hb
    exact ⟨cur, hg⟩
/-- Lists in a row that grows. -/
structure LsY (w : World) (base : Nat) (v : Value) (vs : List Value) (ps : List (List Nat)) : Prop where
  outer : w.ownsRow base 54 1 v ps.length vs
  inner : ∀ i, i < ps.length → w.ownsRow base 3 1 (vs.getD i nilL) (nb ps i).length (ints (nb ps i))
theorem LsY.quiet {w w' : World} {base : Nat} {v : Value} {vs : List Value} {ps : List (List Nat)} (h : LsY w base v vs ps) (k : Keeps [] w w') : LsY w' base v vs ps :=
  ⟨ownsRow_keeps h.outer k (fun _ _ => by simp), fun i hi => ownsRow_keeps (h.inner i hi) k (fun _ _ => by simp)⟩
theorem LsY.graph {w : World} {base : Nat} {v : Value} {vs : List Value} {ps : List (List Nat)} (h : LsY w base v vs ps) : ∃ a cap, v = .slice a ps.length cap ∧ GAt w w.heap.size a ps := by
  have hvl : vs.length = ps.length := by have := h.outer.1; omega
  rcases h.outer.2 with ⟨rfl, h0⟩ | ⟨p, cap, cur, rfl, _, hg, _⟩
  · have : ps = [] := List.length_eq_zero_iff.1 h0
    subst this
    exact ⟨none, 0, rfl, .inl rfl⟩
  · have hcell : ∀ j, j < ps.length → w.cell? ⟨p, j, none⟩ = some (vs.getD j nilL) := by
      intro j hj
      rw [h.outer.cellAt j (by omega), List.getD_eq_getElem?_getD, List.getElem?_eq_getElem (by omega)]
      rfl
    refine ⟨_, cap, rfl, .inr ⟨p, 0, rfl, (Array.getElem?_eq_some_iff.1 hg).1, fun j hj => ?_⟩⟩
    rw [listsI_len] at hj
    obtain ⟨a, c, hv, hn⟩ := own_inAt (h.inner j hj)
    refine ⟨a, c, ?_, ?_⟩
    · rw [Nat.zero_add, hcell j hj, hv, listsI_get, intsI_len]
    · rw [listsI_get]; exact hn
/-- One list more. -/
theorem LsY.snoc {w wa w' : World} {base : Nat} {v v' x : Value} {vs : List Value} {ps : List (List Nat)} {l : List Nat} (h : LsY w base v vs ps) (ka : Keeps [] w wa) (hx : w.ownsRow base 3 1 x l.length (ints l)) (ho : w'.ownsRow base 54 1 v' (ps.length + 1) (vs ++ [x])) (hg : wa.grownBy w' v.ownBlock) :
    LsY w' base v' (vs ++ [x]) (ps ++ [l]) := by
  have hvl : vs.length = ps.length := by have := h.outer.1; omega
  have k : Keeps v.ownBlock.toList wa w' := Keeps.grown _ hg (fun y hy => by rw [hy]; simp)
  have ow := ownsRow_keeps h.outer ka (by simp)
  have stay : ∀ (u : Value) (m : List Nat), w.ownsRow base 3 1 u m.length (ints m) → w'.ownsRow base 3 1 u m.length (ints m) := by
    intro u m hu
    have hu2 := ownsRow_keeps hu ka (by simp)
    refine ownsRow_keeps hu2 k (fun b hb hx => ?_)
    obtain ⟨cur, hc⟩ := own_cellsY hu2 hb
    exact Lib.ownBlock_ne ow hc (by decide) (by simpa using hx)
  refine ⟨by rw [List.length_append]; exact ho, fun i hi => ?_⟩
  rw [List.length_append] at hi
  by_cases e : i < ps.length
  · have e1 : (vs ++ [x]).getD i nilL = vs.getD i nilL := by rw [List.getD_eq_getElem?_getD, List.getD_eq_getElem?_getD, List.getElem?_append_left (by omega)]
    have e2 : nb (ps ++ [l]) i = nb ps i := by unfold nb; rw [List.getD_eq_getElem?_getD, List.getD_eq_getElem?_getD, List.getElem?_append_left e]
    rw [e1, e2]
    exact stay _ _ (h.inner i e)
  · obtain rfl : i = ps.length := by simp at hi; omega
    have e1 : (vs ++ [x]).getD ps.length nilL = x := by rw [List.getD_eq_getElem?_getD, ← hvl]; simp
    have e2 : nb (ps ++ [l]) ps.length = l := by unfold nb; rw [List.getD_eq_getElem?_getD]; simp
    rw [e1, e2]
    exact stay _ _ hx
/-- A list is laid into the row: at the operation. -/
theorem wpList_appL {ops : Array Oper} {rest : List Oper} {o : Oper} {a : Act} {Q : Exit → Act → World → Prop} (w0 wr w : World) (hgd : o.guard = none) (s x' : Operand)
    (ho : o.op = .call { callee := .builtin .append, args := #[s, x'], argTypes := #[32, 32] })
    {v x : Value} {vs : List Value} {ps : List (List Nat)} {l : List Nat} (hs : a.eval s = v) (hv : LsY wr w0.heap.size v vs ps) (ka : Keeps [] wr w) (k : Keeps [] w0 wr) (hx1 : wr.ownsRow w0.heap.size 3 1 x l.length (ints l))
    (b c : Nat) (hx : a.eval x' = .slice (some ⟨b, 0, none⟩) 1 c) (hb : w.cell? ⟨b, 0, none⟩ = some x) (hl : ps.length < 1000)
    (h : ∀ v' w', LsY w' w0.heap.size v' (vs ++ [x]) (ps ++ [l]) → Keeps [] w0 w' → wpList Tryd.prog ops Q rest (a.put o.dst v') w') :
    wpList Tryd.prog ops Q (o :: rest) a w := by
  refine wpList_plain hgd fun K hK => ?_
  have hvo := ownsRow_keeps hv.outer ka (fun _ _ => by simp)
  have hone : x.oneCell' = true := by
    obtain ⟨a, c, rfl, _⟩ := own_inAt hx1
    rfl
  obtain ⟨v', w', hr, h2, hg, _⟩ := run_append_own (P := Tryd.prog) w w0.heap.size 32 o.type 54 Tryd.t54 (.slice none 0 0) 1 24 under_listsY info_intsY zero_intsY size_intsY bytes_intsY rfl (by decide) v ps.length vs hvo ⟨b, 0, none⟩ 1 c [x] rfl (fun j u e => by
    cases j with
    | zero => simp at e; subst e; exact hb
    | succ j => simp at e) (fun u hu => by simp at hu; subst hu; exact hone) (by unfold maxLen; omega) (by omega) (k.quiet ka).size
  unfold Oper.wp execOp
  simp only [ho, resolve, invoke, builtin, Sem.run_bind, Sem.run_pure, Result.andThen_ok, List.map_toArray, List.map_cons, List.map_nil, hs, hx, hr]
  exact hK _ _ (h v' w' (hv.snoc ka hx1 h2 hg) ((k.quiet ka).appended hvo hg (Nat.le_refl _)))
/-- All ends lead to blocks. -/
def EndsIn (F : Fu8) : Prop := ∀ b, b < F.blocks.length → ((blk8 F b).fin = 1 ∨ (blk8 F b).fin = 2 → inB (blk8 F b).to F.blocks.length = true) ∧ ((blk8 F b).fin = 2 → inB (blk8 F b).els F.blocks.length = true)
theorem flow_take {F : Fu8} {k : Nat} (h : k < F.blocks.length) : (flowF F).take (k + 1) = (flowF F).take k ++ [tgB F.blocks.length (blk8 F k)] := by
  have := take_snoc (flowF F) k [] (by rw [flowF_len]; exact h)
  rw [this]
  have e : (flowF F).getD k [] = nb (flowF F) k := rfl
  rw [e, flowF_nb h]
set_option maxRecDepth 20000 in
set_option maxHeartbeats 8000000 in
theorem rblocks_any {w : World} (F : Fu8) (s : Int) (ra : Option Addr) (R rp : Nat) (ba : Option Addr) (bcp : Nat) (hB : RowsAt w 5 BlC ba F.blocks) (hE : EndsIn F) (hn : F.blocks.length ≤ 600) :
    Calls Tryd.prog 12 #[.agg #[.int .i64 s, .slice ra R rp, .slice ba F.blocks.length bcp]] w fun e w' => ∃ a cp, e = .returned (.slice a F.blocks.length cp) ∧ GAt w' w'.heap.size a (flowF F) ∧ Keeps [] w w' := by
  obtain ⟨n, hne⟩ : ∃ n, F.blocks.length = n := ⟨_, rfl⟩
  have HNE := hid hne
  have hn' : n ≤ 600 := hne ▸ hn
  have k0 := Keeps.alloc [] w (.cells #[.int .i64 s, .slice ra R rp, .slice ba n bcp] 39)
  have hh := heap_new w (.cells #[.int .i64 s, .slice ra R rp, .slice ba n bcp] 39)
  have c2 := hcell hh 2
  have HRW := hid (hB.quiet BlC.stays k0)
  have HE := hid hE
  have HK0 := hid k0
  rw [hne]
  clear hB hE hn hne hh k0
  go_enter Tryd.func12, Tryd.ntmps12
  go_upto_region 1 with fail
  generalize hbx : w.heap.size = bx at *
  generalize w.alloc (.cells #[.int .i64 s, .slice ra R rp, .slice ba n bcp] 39) = W at *
  clear hbx
  have HC2 : Box (∀ w', Keeps [] W w' → w'.cell? ⟨bx, 2, none⟩ = some (.slice ba n bcp)) := hid fun w' k => cell_stays k c2
  clear c2
  go_wp2_with fail
  generalize hv0 : Value.slice none 0 0 = v0
  have H0 : Box (LsY W W.heap.size v0 [] ((flowF F).take 0)) := hid (by rw [← hv0]; exact ⟨World.ownsRow_nil W _ _ _, fun i hi => by simp at hi⟩)
  have HV0 := hid hv0
  clear hv0
  go_loopw [3, 4] (fun lv iv wr => ∃ (k : Nat) (v : Value) (vs : List Value), k ≤ n ∧ v = lv ∧ iv = .int .i64 (k : Int) ∧ Box (LsY wr W.heap.size v vs ((flowF F).take k)) ∧ Box (Keeps [] W wr)) (fun _ iv _ => n - (intOf iv).toNat)
  case atStart => exact ⟨0, v0, [], by omega, rfl, rfl, H0, hid (Keeps.refl _ _)⟩
  case round =>
    clear H0
    obtain ⟨k, v, vs, hk, rfl, rfl, HL, HK⟩ := hrel
    have c2 := HC2.out _ HK.out
    by_cases hlt : k < n
    · have hlt' : (k : Int) < (n : Int) := by omega
      have hlt2 : k < F.blocks.length := by rw [HNE.out]; exact hlt
      obtain ⟨bb, bo, rfl, hbl⟩ := (HRW.out.quiet BlC.stays HK.out).at (j := k) (y := blk8 F k) (getD_get hlt2)
      have HTK := hid (flow_take hlt2)
      have hee := HE.out k hlt2
      have HLT : Box (((flowF F).take k).length < 1000) := hid (by rw [List.length_take, flowF_len, HNE.out]; omega)
      rw [HNE.out] at HTK hee
      obtain ⟨x, hx⟩ : ∃ x, blk8 F k = x := ⟨_, rfl⟩
      rw [hx] at hbl hee HTK
      clear hx hlt2
      have q1 := hbl.c1.1
      have q3 := hbl.c3.1
      have q4 := hbl.c4.1
      have Q : Box (∀ w', Keeps [] wr w' → w'.cell? ⟨bb, bo + k * 5 + 1, none⟩ = some (.int .i64 x.fin) ∧ w'.cell? ⟨bb, bo + k * 5 + 3, none⟩ = some (.int .i64 x.to) ∧ w'.cell? ⟨bb, bo + k * 5 + 4, none⟩ = some (.int .i64 x.els)) := hid fun w' kk => ⟨cell_stays kk q1, cell_stays kk q3, cell_stays kk q4⟩
      clear hbl
      have HNIL : Box (wr.ownsRow wr.heap.size 3 1 v0 ([] : List Nat).length (ints [])) := hid (by rw [← HV0.out]; exact World.ownsRow_nil wr _ _ _)
      have ct : Box (∀ (w' : World) v, (w'.alloc (.cells #[v] 3)).cell? ⟨w'.heap.size, 0, none⟩ = some v) := hid fun w' v => by rw [World.cell?_alloc_at _ _ _ _ rfl]; rfl
      have cl : Box (∀ (w' : World) v, (w'.alloc (.cells #[v] 54)).cell? ⟨w'.heap.size, 0, none⟩ = some v) := hid fun w' v => by rw [World.cell?_alloc_at _ _ _ _ rfl]; rfl
      have HSZ : Box (W.heap.size ≤ wr.heap.size) := hid HK.out.size
      have FIN : Box (∀ (wy : World) (u : Value) (l : List Nat), Keeps [] wr wy → wy.ownsRow wr.heap.size 3 1 u l.length (ints l) → wy.ownsRow W.heap.size 3 1 u l.length (ints l) ∧ LsY wy W.heap.size v vs ((flowF F).take k) ∧ Keeps [] W wy) := hid fun wy u l ky hu => ⟨⟨hu.1, by
          rcases hu.2 with hn | ⟨b, cap, cur, h1, h2, h3⟩
          · exact .inl hn
          · exact .inr ⟨b, cap, cur, h1, Nat.le_trans HSZ.out h2, h3⟩⟩, HL.out.quiet ky, HK.out.quiet ky⟩
      by_cases f1 : x.fin = 1
      · have HTG : Box (tgB n x = [] ++ [x.to.toNat]) := hid (by unfold tgB; simp [f1, hee.1 (.inl f1)])
        have ht := hid (show x.to = (x.to.toNat : Int) by have := inB_iff.1 (hee.1 (.inl f1)); omega)
        rw [f1] at q1 Q
        clear f1 hee
        go_upto_region 7 with fail
        go_upto_region 8 with (at_builtin; go_must (refine wpList_app1 wr _ rfl _ _ rfl [] x.to.toNat v0 rfl (HNIL.out.alloc _) (Keeps.alloc [] _ _) x.to ht.out _ _ rfl (ct.out _ _) (by simp) ?_; intro v1 w4 ho4 hk4))
        have HO4 := hid ho4
        have HK4 := hid hk4
        obtain ⟨p1, p3, p4⟩ := Q.out _ hk4
        have p2 := cell_stays hk4 c2
        clear ho4 hk4 q1 q3 q4 c2
        go_quiet (fail)
        obtain ⟨y1, y2, y3⟩ := FIN.out (w4.drewN nq) v1 _ (HK4.out.quiet (Keeps.drewN [] _ _)) (ownsRow_keeps HO4.out (Keeps.drewN [] _ _) (fun _ _ => by simp))
        have Y1 := hid y1
        have Y2 := hid y2
        have Y3 := hid y3
        clear y1 y2 y3 HO4 HK4 p1 p2 p3 p4 FIN HNIL
        generalize w4.drewN nq = wz at *
        obtain ⟨ax, cx, hvx, -⟩ := own_inAt Y1.out
        subst hvx
        go_wp2_with (at_builtin; go_must (refine wpList_appL W wz _ rfl _ _ rfl rfl Y2.out (Keeps.alloc [] _ _) Y3.out Y1.out _ _ rfl (cl.out _ _) HLT.out ?_; intro v6 w6 h6 k6))
        go_roundw
        case rel => exact ⟨k + 1, v6, _, by omega, rfl, by go_num, hid (by rw [HTK.out, HTG.out]; exact h6), hid k6⟩
        case measure => simp [intOf]; omega
      by_cases f2 : x.fin = 2
      · by_cases e1 : x.els = x.to
        · have HTG : Box (tgB n x = [] ++ [x.to.toNat]) := hid (by unfold tgB; simp [f2, e1, hee.1 (.inr f2)])
          have ht := hid (show x.to = (x.to.toNat : Int) by have := inB_iff.1 (hee.1 (.inr f2)); omega)
          have o1 := (show (x.fin == 1) = false by simpa using f1)
          have o3 : (x.els != x.to) = false := by simpa using e1
          rw [f2] at q1 Q o1
          clear f1 f2 hee e1
          go_upto_region 7 with fail
          go_upto_region 8 with (at_builtin; go_must (refine wpList_app1 wr _ rfl _ _ rfl [] x.to.toNat v0 rfl (HNIL.out.alloc _) (Keeps.alloc [] _ _) x.to ht.out _ _ rfl (ct.out _ _) (by simp) ?_; intro v1 w4 ho4 hk4))
          have HO4 := hid ho4
          have HK4 := hid hk4
          obtain ⟨p1, p3, p4⟩ := Q.out _ hk4
          have p2 := cell_stays hk4 c2
          clear ho4 hk4 q1 q3 q4 c2
          go_quiet (fail)
          obtain ⟨y1, y2, y3⟩ := FIN.out (w4.drewN nq) v1 _ (HK4.out.quiet (Keeps.drewN [] _ _)) (ownsRow_keeps HO4.out (Keeps.drewN [] _ _) (fun _ _ => by simp))
          have Y1 := hid y1
          have Y2 := hid y2
          have Y3 := hid y3
          clear y1 y2 y3 HO4 HK4 p1 p2 p3 p4 FIN HNIL
          generalize w4.drewN nq = wz at *
          obtain ⟨ax, cx, hvx, -⟩ := own_inAt Y1.out
          subst hvx
          go_wp2_with (at_builtin; go_must (refine wpList_appL W wz _ rfl _ _ rfl rfl Y2.out (Keeps.alloc [] _ _) Y3.out Y1.out _ _ rfl (cl.out _ _) HLT.out ?_; intro v6 w6 h6 k6))
          go_roundw
          case rel => exact ⟨k + 1, v6, _, by omega, rfl, by go_num, hid (by rw [HTK.out, HTG.out]; exact h6), hid k6⟩
          case measure => simp [intOf]; omega
        · have HTG : Box (tgB n x = ([] ++ [x.to.toNat]) ++ [x.els.toNat]) := hid (by unfold tgB; simp [f2, e1, hee.1 (.inr f2), hee.2 f2])
          have ht := hid (show x.to = (x.to.toNat : Int) by have := inB_iff.1 (hee.1 (.inr f2)); omega)
          have hu := hid (show x.els = (x.els.toNat : Int) by have := inB_iff.1 (hee.2 f2); omega)
          have o1 := (show (x.fin == 1) = false by simpa using f1)
          have o3 : (x.els != x.to) = true := by simpa using e1
          rw [f2] at q1 Q o1
          clear f1 f2 hee e1
          go_upto_region 7 with fail
          go_upto_region 8 with (at_builtin; go_must (refine wpList_app1 wr _ rfl _ _ rfl [] x.to.toNat v0 rfl (HNIL.out.alloc _) (Keeps.alloc [] _ _) x.to ht.out _ _ rfl (ct.out _ _) (by simp) ?_; intro v1 w4 ho4 hk4))
          have HO4 := hid ho4
          have HK4 := hid hk4
          obtain ⟨p1, p3, p4⟩ := Q.out _ hk4
          have p2 := cell_stays hk4 c2
          clear ho4 hk4 q1 q3 q4 c2
          go_quiet (fail)
          have HO5 := hid (ownsRow_keeps HO4.out (Keeps.drewN [] w4 nq) (fun _ _ => by simp))
          have HK5 := hid (HK4.out.quiet (Keeps.drewN [] w4 nq))
          have e1' : (w4.drewN nq).cell? ⟨bb, bo + k * 5 + 4, none⟩ = some (.int .i64 x.els) := p4
          have e2' : (w4.drewN nq).cell? ⟨bx, 2, none⟩ = some (.slice (some ⟨bb, bo, none⟩) n bcp) := p2
          clear HO4 HK4 p1 p2 p3 p4 HNIL
          generalize w4.drewN nq = wz at *
          go_upto_region 10 with (at_builtin; go_must (refine wpList_app1 wr _ rfl _ _ rfl ([] ++ [x.to.toNat]) x.els.toNat v1 rfl (HO5.out.alloc _) (HK5.out.quiet (Keeps.alloc [] _ _)) x.els hu.out _ _ rfl (ct.out _ _) (by simp) ?_; intro v2 w5 ho5 hk5))
          obtain ⟨y1, y2, y3⟩ := FIN.out w5 v2 _ hk5 ho5
          have Y1 := hid y1
          have Y2 := hid y2
          have Y3 := hid y3
          clear y1 y2 y3 HO5 HK5 ho5 hk5 e1' e2' FIN
          obtain ⟨ax, cx, hvx, -⟩ := own_inAt Y1.out
          subst hvx
          go_wp2_with (at_builtin; go_must (refine wpList_appL W w5 _ rfl _ _ rfl rfl Y2.out (Keeps.alloc [] _ _) Y3.out Y1.out _ _ rfl (cl.out _ _) HLT.out ?_; intro v6 w6 h6 k6))
          go_roundw
          case rel => exact ⟨k + 1, v6, _, by omega, rfl, by go_num, hid (by rw [HTK.out, HTG.out]; exact h6), hid k6⟩
          case measure => simp [intOf]; omega
      have HTG : Box (tgB n x = []) := hid (by unfold tgB; simp [f1, f2])
      have o1 := (show (x.fin == 1) = false by simpa using f1)
      have o2 := (show (x.fin == 2) = false by simpa using f2)
      clear f1 f2 hee
      go_upto_region 8 with fail
      go_quiet (fail)
      obtain ⟨y1, y2, y3⟩ := FIN.out (wr.drewN nq) v0 [] (Keeps.drewN [] _ _) (ownsRow_keeps HNIL.out (Keeps.drewN [] _ _) (fun _ _ => by simp))
      have Y1 := hid y1
      have Y2 := hid y2
      have Y3 := hid y3
      clear y1 y2 y3 q1 q3 q4 c2 FIN HNIL
      generalize wr.drewN nq = wz at *
      have hv0 := HV0.out
      clear HV0
      subst hv0
      go_wp2_with (at_builtin; go_must (refine wpList_appL W wz _ rfl _ _ rfl rfl Y2.out (Keeps.alloc [] _ _) Y3.out Y1.out _ _ rfl (cl.out _ _) HLT.out ?_; intro v6 w6 h6 k6))
      go_roundw
      case rel => exact ⟨k + 1, v6, _, by omega, rfl, by go_num, hid (by rw [HTK.out, HTG.out]; exact h6), hid k6⟩
      case measure => simp [intOf]; omega
    · obtain rfl : k = n := by omega
      have hall : (flowF F).take k = flowF F := List.take_of_length_le (by rw [flowF_len, HNE.out]; exact Nat.le_refl _)
      rw [hall] at HL
      obtain ⟨a, cp, hve, hgr⟩ := HL.out.graph
      rw [flowF_len, HNE.out] at hve
      have HG := hid hgr
      clear hgr hall HL
      subst hve
      go_wp2_with fail
      go_ret
      exact ⟨a, cp, rfl, HG.out, HK0.out.quiet HK.out⟩
end Go.Proofs.YtmebkeidpklcbaaDoor
