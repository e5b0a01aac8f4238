/-
  CodeTwins: two programs have the same bytes just where they are the same, and what comes back prints the same.
-/
import Derived.Test.YtmipbaihlodmdaaDoorCTwPl
import Derived.Test.YtmipbaihlodmdaaDoorJRpr
import Derived.Test.YtmipbaihlodmdaaDoorCSm
import Derived.Test.YtmipbaihlodmdaaDoorCOpen
namespace Go.Proofs.YtmipbaihlodmdaaDoor
open Go.RowKit

section
variable {P : Program} {md : Region.Mode} {ops : Array Oper} {Q : Exit → Act → World → Prop} {S : World → Prop}
theorem tk_three {i j k : Nat} {fuel : Nat} {listed : Array Bool} {a : Act} {w : World} (hr : Region.ready md ops listed = [i, j, k])
    (h1 : wpOp P ops Q i (fun a' w' => S w' ∧ wpAnyH P md ops Q S fuel (listed.setIfInBounds i true) a' w') a w)
    (h2 : wpOp P ops Q j (fun a' w' => S w' ∧ wpAnyH P md ops Q S fuel (listed.setIfInBounds j true) a' w') a w)
    (h3 : wpOp P ops Q k (fun a' w' => S w' ∧ wpAnyH P md ops Q S fuel (listed.setIfInBounds k true) a' w') a w) : wpAnyH P md ops Q S (fuel + 1) listed a w :=
  wpAnyH_all hr (by simp) (fun x hx => by
    rcases List.mem_cons.1 hx with rfl | hx
    · exact h1
    · rcases List.mem_cons.1 hx with rfl | hx
      · exact h2
      · obtain rfl := List.mem_singleton.1 hx
        exact h3)
theorem exec_call2 {ev : Operand → Value} {oi : Oper} {f : Nat} {x y : Operand} {ts : Array TypeId} {v u : Value} {w : World} (ho : oi.op = .call { callee := .value (.func f), args := #[x, y], argTypes := ts }) (hf : ev (.func f) = .func (.func f) #[] #[]) (hx : ev x = v) (hy : ev y = u) (hc : (callFunc f #[v, u]).run P w = .ok (.enter f #[v, u]) w) : (execOp ev oi).run P w = .ok (.enter f #[v, u]) w := by
  subst hx
  subst hy
  simp [execOp, ho, hf, go_sem, hc]
end
theorem call_eqp (v v' : Value) (w : World) : (callFunc 15 #[v, v']).run Tryd.prog w = .ok (.enter 15 #[v, v']) w := by go_simp
theorem call_prn (v : Value) (w : World) : (callFunc 17 #[v]).run Tryd.prog w = .ok (.enter 17 #[v]) w := by go_simp

set_option maxRecDepth 20000 in
set_option maxHeartbeats 16000000 in
theorem codeTwins_in {w : World} {pb po qb qo : Nat} {P Q : Pr8} (hg : Glob w) (hp : PrC w pb po P) (hq : PrC w qb qo Q) :
    Calls Tryd.prog 8 #[.pointer (some ⟨pb, po, none⟩), .pointer (some ⟨qb, qo, none⟩)] w fun e w' => e = .returned (.bool true) ∧ Keeps [] w w' := by
  have HB := hid (begun_any w hg)
  have HP := hid hp
  have HQ := hid hq
  clear hg hp hq
  go_enter Tryd.func8, Tryd.ntmps8
  go_wp2_with fail
  refine HB.out.mono ?_
  rintro e w1 ⟨rfl, k1⟩
  have K1 := hid k1
  have HP1 := hid (PrC.stays _ _ _ _ _ k1 HP.out)
  have HQ1 := hid (PrC.stays _ _ _ _ _ k1 HQ.out)
  have HSP := hid (small9_any HP1.out)
  have HSQ := hid (small9_any HQ1.out)
  clear HB k1
  go_wp2_with fail
  refine HSP.out.mono ?_
  rintro e w2 ⟨s, rfl, hw2, hs⟩
  rw [hw2]
  clear hw2
  cases s with
  | false =>
    go_wp2_with fail
    go_ret
    exact ⟨rfl, K1.out⟩
  | true =>
    have HZP := hid (hs rfl).sm
    clear hs HSP
    go_wp2_with fail
    refine HSQ.out.mono ?_
    rintro e w2 ⟨s, rfl, hw2, hs⟩
    rw [hw2]
    clear hw2
    cases s with
    | false =>
      go_wp2_with fail
      go_ret
      exact ⟨rfl, K1.out⟩
    | true =>
      have HEP := hid (encode_any HP1.out)
      clear hs HSQ
      go_wp2_with fail
      refine HEP.out.mono ?_
      intro e w3 h3
      by_cases hl : (prE P).length ≤ 20000
      · obtain ⟨a3, c3, rfl, B3, C3, k3⟩ := enc_good hl h3
        have HEQ := hid (encode_any (PrC.stays _ _ _ _ _ k3 HQ1.out))
        have HB3 := hid B3
        have HC3 := hid C3
        have K3 := hid (K1.out.quiet k3)
        have HL := hid hl
        obtain ⟨m, hm⟩ : ∃ m, m = (prE P).length := ⟨_, rfl⟩
        have HM := hid hm
        rw [← hm]
        clear HEP h3 B3 C3 k3 hl hm
        go_wp2_with fail
        refine HEQ.out.mono ?_
        intro e w4 h4
        by_cases hl2 : (prE Q).length ≤ 20000
        · obtain ⟨a4, c4, rfl, B4, _, k4⟩ := enc_good hl2 h4
          have K4 := hid (K3.out.quiet k4)
          have HB34 := hid (HB3.out.quiet k4)
          have HB4 := hid B4
          have HD := hid (decode_any HB34.out HC3.out (by have := HL.out; omega))
          have HL2 := hid hl2
          obtain ⟨n, hn⟩ : ∃ n, n = (prE Q).length := ⟨_, rfl⟩
          have HN := hid hn
          rw [← HM.out] at HD
          rw [← hn]
          clear HEQ h4 B4 k4 hl2 hn HB3
          go_wp2_with fail
          refine HD.out.mono ?_
          intro e w5 h5
          obtain ⟨xb, rfl, hx, k5⟩ := dec_good HP.out.ok HL.out h5
          have K5 := hid (K4.out.quiet k5)
          have B35 := hid (HB34.out.quiet k5)
          have B45 := hid (HB4.out.quiet k5)
          have HX := hid hx
          have HEE := hid fun (w' : World) (k : Keeps [] w5 w') => eqp_any (PrC.stays _ _ _ _ _ (K5.out.quiet k) HP.out) (PrC.stays _ _ _ _ _ (K5.out.quiet k) HQ.out) (by have := HL.out; omega) (by have := HL2.out; omega)
          have HPX := hid fun (w' : World) (k : Keeps [] w5 w') => rprint_any (PrC.stays _ _ _ _ _ k HX.out) HZP.out (few8_of HL.out)
          have HPP := hid fun (w' : World) (k : Keeps [] w5 w') => rprint_any (PrC.stays _ _ _ _ _ (K5.out.quiet k) HP.out) HZP.out (few8_of HL.out)
          have HD0 := hid (Keeps.drew [] w5)
          have HE := hid (strB_eq (prE P) (prE Q))
          have HN1 := hid (prE_ne P)
          have HN2 := hid (prE_ne Q)
          clear HD h5 hx k5 K4 HB34 HB4 HC3
          have cvt : ∀ {W : World} {a : Option Addr} {cp m : Nat} {L : List UInt8} {ev : Operand → Value} {oi : Oper} {x : Operand}, BytesAt W a L → L ≠ [] → m = L.length → oi.op = .convert 25 9 x → ev x = .slice a m cp → (execOp ev oi).run Tryd.prog W = .ok (.value (.string (strB L))) W := fun hb hL hm ho hx => by
            subst hm
            simp [execOp, ho, hx, conv_bytes hb hL, go_sem]
          have fin : ∀ {S T : ByteArray} {W : World} {ev : Operand → Value} {oi : Oper} {x y : Operand}, oi.op = .binOp .eql 9 x y 9 → ev x = .string S → ev y = .string T → (execOp ev oi).run Tryd.prog W = .ok (.value (.bool (S.toList == T.toList))) W := fun ho hx hy => by
            simp [execOp, ho, hx, hy, go_sem]
          have finb : ∀ {s t : Bool} {W : World} {ev : Operand → Value} {oi : Oper} {x y : Operand}, oi.op = .binOp .eql 4 x y 4 → ev x = .bool s → ev y = .bool t → (execOp ev oi).run Tryd.prog W = .ok (.value (.bool (s == t))) W := fun ho hx hy => by
            simp [execOp, ho, hx, hy, go_sem]
          go_wp2_with fail
          refine wp_region_held_drew (S := fun w' => Keeps [] w5 w') (by kernel_rfl) HD0.out (fun _ => ?_)
          refine tk_yield (i := 0) (d := 43) (v := .nilIface) rfl rfl (by as_aux_lemma => kernel_rfl) (by as_aux_lemma => kernel_rfl) (by as_aux_lemma => kernel_rfl) (fun _ _ _ h => h) (by rfl) HD0.out (fun _ _ => rfl) ?_
          simp only [Act.put, List.setIfInBounds_toArray, List.set_cons_zero, List.set_cons_succ]
          refine tk_yield (i := 1) (d := 44) (v := .bool true) rfl rfl (by as_aux_lemma => kernel_rfl) (by as_aux_lemma => kernel_rfl) (by as_aux_lemma => kernel_rfl) (fun _ _ _ h => h) (by rfl) HD0.out (fun _ _ => rfl) ?_
          simp only [Act.put, List.setIfInBounds_toArray, List.set_cons_zero, List.set_cons_succ]
          refine tk_yield (i := 2) (d := 45) (v := .bool true) rfl rfl (by as_aux_lemma => kernel_rfl) (by as_aux_lemma => kernel_rfl) (by as_aux_lemma => kernel_rfl) (fun _ _ _ h => h) (by rfl) HD0.out (fun _ _ => rfl) ?_
          simp only [Act.put, List.setIfInBounds_toArray, List.set_cons_zero, List.set_cons_succ]
          refine tk_yield (i := 3) (d := 46) (v := .slice a3 m c3) rfl rfl (by as_aux_lemma => kernel_rfl) (by as_aux_lemma => kernel_rfl) (by as_aux_lemma => kernel_rfl) (fun _ _ _ h => h) (by rfl) HD0.out (fun _ _ => rfl) ?_
          simp only [Act.put, List.setIfInBounds_toArray, List.set_cons_zero, List.set_cons_succ]
          refine tk_yield (i := 5) (d := 48) (v := .slice a4 n c4) rfl rfl (by as_aux_lemma => kernel_rfl) (by as_aux_lemma => kernel_rfl) (by as_aux_lemma => kernel_rfl) (fun _ _ _ h => h) (by rfl) HD0.out (fun _ _ => rfl) ?_
          simp only [Act.put, List.setIfInBounds_toArray, List.set_cons_zero, List.set_cons_succ]
          refine tk_yield (i := 8) (d := 51) (v := .pointer (some ⟨pb, po, none⟩)) rfl rfl (by as_aux_lemma => kernel_rfl) (by as_aux_lemma => kernel_rfl) (by as_aux_lemma => kernel_rfl) (fun _ _ _ h => h) (by rfl) HD0.out (fun _ _ => rfl) ?_
          simp only [Act.put, List.setIfInBounds_toArray, List.set_cons_zero, List.set_cons_succ]
          refine tk_yield (i := 9) (d := 52) (v := .pointer (some ⟨qb, qo, none⟩)) rfl rfl (by as_aux_lemma => kernel_rfl) (by as_aux_lemma => kernel_rfl) (by as_aux_lemma => kernel_rfl) (fun _ _ _ h => h) (by rfl) HD0.out (fun _ _ => rfl) ?_
          simp only [Act.put, List.setIfInBounds_toArray, List.set_cons_zero, List.set_cons_succ]
          refine tk_three (i := 4) (j := 6) (k := 10) (by as_aux_lemma => kernel_rfl) ?_ ?_ ?_
          · refine tk_run (i := 4) (d := 47) (.string (strB (prE P))) rfl rfl (by rfl) (cvt (B35.out.quiet HD0.out) HN1.out HM.out rfl rfl) ?_
            refine ⟨HD0.out, ?_⟩
            simp only [Act.put, List.setIfInBounds_toArray, List.set_cons_zero, List.set_cons_succ]
            refine tk_two (i := 6) (j := 10) (by as_aux_lemma => kernel_rfl) ?_ ?_
            · refine tk_run (i := 6) (d := 49) (.string (strB (prE Q))) rfl rfl (by rfl) (cvt (B45.out.quiet HD0.out) HN2.out HN.out rfl rfl) ?_
              refine ⟨HD0.out, ?_⟩
              simp only [Act.put, List.setIfInBounds_toArray, List.set_cons_zero, List.set_cons_succ]
              refine tk_yield (i := 7) (d := 50) (v := .bool ((strB (prE P)).toList == (strB (prE Q)).toList)) rfl rfl (by as_aux_lemma => kernel_rfl) (by as_aux_lemma => kernel_rfl) (by as_aux_lemma => kernel_rfl) (fun _ _ _ h => h) (by rfl) HD0.out (fun _ _ => fin rfl rfl rfl) ?_
              simp only [Act.put, List.setIfInBounds_toArray, List.set_cons_zero, List.set_cons_succ]
              refine tk_one (i := 10) (by as_aux_lemma => kernel_rfl) ?_
              refine tk_call (i := 10) (d := 53) rfl rfl (by rfl) 15 #[.pointer (some ⟨pb, po, none⟩), .pointer (some ⟨qb, qo, none⟩)] (exec_call2 rfl rfl rfl rfl (call_eqp _ _ _)) (R := fun v w8 => v = .bool (decide (prE P = prE Q)) ∧ Keeps [] _ w8) ((HEE.out _ HD0.out).mono fun _ _ ⟨h1, h2⟩ => ⟨_, h1, rfl, h2⟩) ?_
              rintro v6 w6 ⟨rfl, k6⟩
              have T6 := Keeps.quiet HD0.out k6
              refine ⟨T6, ?_⟩
              simp only [Act.put, List.setIfInBounds_toArray, List.set_cons_zero, List.set_cons_succ]
              refine tk_yield (i := 11) (d := 54) (v := .bool (((strB (prE P)).toList == (strB (prE Q)).toList) == decide (prE P = prE Q))) rfl rfl (by as_aux_lemma => kernel_rfl) (by as_aux_lemma => kernel_rfl) (by as_aux_lemma => kernel_rfl) (fun _ _ _ h => h) (by rfl) T6 (fun _ _ => finb rfl rfl rfl) ?_
              simp only [Act.put, List.setIfInBounds_toArray, List.set_cons_zero, List.set_cons_succ]
              rw [HE.out, beq_self_eq_true]
              refine tk_yield (i := 12) (d := 55) (v := .bool true) rfl rfl (by as_aux_lemma => kernel_rfl) (by as_aux_lemma => kernel_rfl) (by as_aux_lemma => kernel_rfl) (fun _ _ _ h => h) (by rfl) T6 (fun _ _ => rfl) ?_
              simp only [Act.put, List.setIfInBounds_toArray, List.set_cons_zero, List.set_cons_succ]
              refine tk_yield (i := 13) (d := 56) (v := .bool true) rfl rfl (by as_aux_lemma => kernel_rfl) (by as_aux_lemma => kernel_rfl) (by as_aux_lemma => kernel_rfl) (fun _ _ _ h => h) (by rfl) T6 (fun _ _ => rfl) ?_
              simp only [Act.put, List.setIfInBounds_toArray, List.set_cons_zero, List.set_cons_succ]
              refine tk_yield (i := 14) (d := 57) (v := .pointer (some ⟨xb, 0, none⟩)) rfl rfl (by as_aux_lemma => kernel_rfl) (by as_aux_lemma => kernel_rfl) (by as_aux_lemma => kernel_rfl) (fun _ _ _ h => h) (by rfl) T6 (fun _ _ => rfl) ?_
              simp only [Act.put, List.setIfInBounds_toArray, List.set_cons_zero, List.set_cons_succ]
              refine tk_yield (i := 16) (d := 59) (v := .pointer (some ⟨pb, po, none⟩)) rfl rfl (by as_aux_lemma => kernel_rfl) (by as_aux_lemma => kernel_rfl) (by as_aux_lemma => kernel_rfl) (fun _ _ _ h => h) (by rfl) T6 (fun _ _ => rfl) ?_
              simp only [Act.put, List.setIfInBounds_toArray, List.set_cons_zero, List.set_cons_succ]
              refine tk_one (i := 15) (by as_aux_lemma => kernel_rfl) ?_
              refine tk_call (i := 15) (d := 58) rfl rfl (by rfl) 17 #[.pointer (some ⟨xb, 0, none⟩)] (exec_call1 rfl rfl rfl (call_prn _ _)) (R := fun v w8 => v = .string ⟨(textL P).toArray⟩ ∧ Keeps [] _ w8) ((HPX.out _ T6).mono fun _ _ ⟨h1, h2⟩ => ⟨_, h1, rfl, h2⟩) ?_
              rintro v7 w7 ⟨rfl, k7⟩
              have T7 := Keeps.quiet T6 k7
              clear k7
              refine ⟨T7, ?_⟩
              simp only [Act.put, List.setIfInBounds_toArray, List.set_cons_zero, List.set_cons_succ]
              refine tk_one (i := 17) (by as_aux_lemma => kernel_rfl) ?_
              refine tk_call (i := 17) (d := 60) rfl rfl (by rfl) 17 #[.pointer (some ⟨pb, po, none⟩)] (exec_call1 rfl rfl rfl (call_prn _ _)) (R := fun v w8 => v = .string ⟨(textL P).toArray⟩ ∧ Keeps [] _ w8) ((HPP.out _ T7).mono fun _ _ ⟨h1, h2⟩ => ⟨_, h1, rfl, h2⟩) ?_
              rintro v7 w7 ⟨rfl, k7⟩
              have T8 := Keeps.quiet T7 k7
              clear k7
              refine ⟨T8, ?_⟩
              simp only [Act.put, List.setIfInBounds_toArray, List.set_cons_zero, List.set_cons_succ]
              refine tk_yield (i := 18) (d := 61) (v := .bool ((⟨(textL P).toArray⟩ : ByteArray).toList == (⟨(textL P).toArray⟩ : ByteArray).toList)) rfl rfl (by as_aux_lemma => kernel_rfl) (by as_aux_lemma => kernel_rfl) (by as_aux_lemma => kernel_rfl) (fun _ _ _ h => h) (by rfl) T8 (fun _ _ => fin rfl rfl rfl) ?_
              simp only [Act.put, List.setIfInBounds_toArray, List.set_cons_zero, List.set_cons_succ]
              rw [beq_self_eq_true]
              refine tk_yield (i := 19) (d := 62) (v := .bool true) rfl rfl (by as_aux_lemma => kernel_rfl) (by as_aux_lemma => kernel_rfl) (by as_aux_lemma => kernel_rfl) (fun _ _ _ h => h) (by rfl) T8 (fun _ _ => rfl) ?_
              simp only [Act.put, List.setIfInBounds_toArray, List.set_cons_zero, List.set_cons_succ]
              refine tk_yield (i := 20) (d := 4) (v := .bool true) rfl rfl (by as_aux_lemma => kernel_rfl) (by as_aux_lemma => kernel_rfl) (by as_aux_lemma => kernel_rfl) (fun _ _ _ h => h) (by rfl) T8 (fun _ _ => rfl) ?_
              simp only [Act.put, List.setIfInBounds_toArray, List.set_cons_zero, List.set_cons_succ]
              refine wpAnyH_done (by as_aux_lemma => kernel_rfl) ?_ _
              go_wp2_with fail
              go_ret
              exact ⟨rfl, K5.out.quiet T8⟩
            · refine tk_call (i := 10) (d := 53) rfl rfl (by rfl) 15 #[.pointer (some ⟨pb, po, none⟩), .pointer (some ⟨qb, qo, none⟩)] (exec_call2 rfl rfl rfl rfl (call_eqp _ _ _)) (R := fun v w8 => v = .bool (decide (prE P = prE Q)) ∧ Keeps [] _ w8) ((HEE.out _ HD0.out).mono fun _ _ ⟨h1, h2⟩ => ⟨_, h1, rfl, h2⟩) ?_
              rintro v6 w6 ⟨rfl, k6⟩
              have T6 := Keeps.quiet HD0.out k6
              refine ⟨T6, ?_⟩
              simp only [Act.put, List.setIfInBounds_toArray, List.set_cons_zero, List.set_cons_succ]
              refine tk_one (i := 6) (by as_aux_lemma => kernel_rfl) ?_
              refine tk_run (i := 6) (d := 49) (.string (strB (prE Q))) rfl rfl (by rfl) (cvt (B45.out.quiet T6) HN2.out HN.out rfl rfl) ?_
              refine ⟨T6, ?_⟩
              simp only [Act.put, List.setIfInBounds_toArray, List.set_cons_zero, List.set_cons_succ]
              refine tk_yield (i := 7) (d := 50) (v := .bool ((strB (prE P)).toList == (strB (prE Q)).toList)) rfl rfl (by as_aux_lemma => kernel_rfl) (by as_aux_lemma => kernel_rfl) (by as_aux_lemma => kernel_rfl) (fun _ _ _ h => h) (by rfl) T6 (fun _ _ => fin rfl rfl rfl) ?_
              simp only [Act.put, List.setIfInBounds_toArray, List.set_cons_zero, List.set_cons_succ]
              refine tk_yield (i := 11) (d := 54) (v := .bool (((strB (prE P)).toList == (strB (prE Q)).toList) == decide (prE P = prE Q))) rfl rfl (by as_aux_lemma => kernel_rfl) (by as_aux_lemma => kernel_rfl) (by as_aux_lemma => kernel_rfl) (fun _ _ _ h => h) (by rfl) T6 (fun _ _ => finb rfl rfl rfl) ?_
              simp only [Act.put, List.setIfInBounds_toArray, List.set_cons_zero, List.set_cons_succ]
              rw [HE.out, beq_self_eq_true]
              refine tk_yield (i := 12) (d := 55) (v := .bool true) rfl rfl (by as_aux_lemma => kernel_rfl) (by as_aux_lemma => kernel_rfl) (by as_aux_lemma => kernel_rfl) (fun _ _ _ h => h) (by rfl) T6 (fun _ _ => rfl) ?_
              simp only [Act.put, List.setIfInBounds_toArray, List.set_cons_zero, List.set_cons_succ]
              refine tk_yield (i := 13) (d := 56) (v := .bool true) rfl rfl (by as_aux_lemma => kernel_rfl) (by as_aux_lemma => kernel_rfl) (by as_aux_lemma => kernel_rfl) (fun _ _ _ h => h) (by rfl) T6 (fun _ _ => rfl) ?_
              simp only [Act.put, List.setIfInBounds_toArray, List.set_cons_zero, List.set_cons_succ]
              refine tk_yield (i := 14) (d := 57) (v := .pointer (some ⟨xb, 0, none⟩)) rfl rfl (by as_aux_lemma => kernel_rfl) (by as_aux_lemma => kernel_rfl) (by as_aux_lemma => kernel_rfl) (fun _ _ _ h => h) (by rfl) T6 (fun _ _ => rfl) ?_
              simp only [Act.put, List.setIfInBounds_toArray, List.set_cons_zero, List.set_cons_succ]
              refine tk_yield (i := 16) (d := 59) (v := .pointer (some ⟨pb, po, none⟩)) rfl rfl (by as_aux_lemma => kernel_rfl) (by as_aux_lemma => kernel_rfl) (by as_aux_lemma => kernel_rfl) (fun _ _ _ h => h) (by rfl) T6 (fun _ _ => rfl) ?_
              simp only [Act.put, List.setIfInBounds_toArray, List.set_cons_zero, List.set_cons_succ]
              refine tk_one (i := 15) (by as_aux_lemma => kernel_rfl) ?_
              refine tk_call (i := 15) (d := 58) rfl rfl (by rfl) 17 #[.pointer (some ⟨xb, 0, none⟩)] (exec_call1 rfl rfl rfl (call_prn _ _)) (R := fun v w8 => v = .string ⟨(textL P).toArray⟩ ∧ Keeps [] _ w8) ((HPX.out _ T6).mono fun _ _ ⟨h1, h2⟩ => ⟨_, h1, rfl, h2⟩) ?_
              rintro v7 w7 ⟨rfl, k7⟩
              have T7 := Keeps.quiet T6 k7
              clear k7
              refine ⟨T7, ?_⟩
              simp only [Act.put, List.setIfInBounds_toArray, List.set_cons_zero, List.set_cons_succ]
              refine tk_one (i := 17) (by as_aux_lemma => kernel_rfl) ?_
              refine tk_call (i := 17) (d := 60) rfl rfl (by rfl) 17 #[.pointer (some ⟨pb, po, none⟩)] (exec_call1 rfl rfl rfl (call_prn _ _)) (R := fun v w8 => v = .string ⟨(textL P).toArray⟩ ∧ Keeps [] _ w8) ((HPP.out _ T7).mono fun _ _ ⟨h1, h2⟩ => ⟨_, h1, rfl, h2⟩) ?_
              rintro v7 w7 ⟨rfl, k7⟩
              have T8 := Keeps.quiet T7 k7
              clear k7
              refine ⟨T8, ?_⟩
              simp only [Act.put, List.setIfInBounds_toArray, List.set_cons_zero, List.set_cons_succ]
              refine tk_yield (i := 18) (d := 61) (v := .bool ((⟨(textL P).toArray⟩ : ByteArray).toList == (⟨(textL P).toArray⟩ : ByteArray).toList)) rfl rfl (by as_aux_lemma => kernel_rfl) (by as_aux_lemma => kernel_rfl) (by as_aux_lemma => kernel_rfl) (fun _ _ _ h => h) (by rfl) T8 (fun _ _ => fin rfl rfl rfl) ?_
              simp only [Act.put, List.setIfInBounds_toArray, List.set_cons_zero, List.set_cons_succ]
              rw [beq_self_eq_true]
              refine tk_yield (i := 19) (d := 62) (v := .bool true) rfl rfl (by as_aux_lemma => kernel_rfl) (by as_aux_lemma => kernel_rfl) (by as_aux_lemma => kernel_rfl) (fun _ _ _ h => h) (by rfl) T8 (fun _ _ => rfl) ?_
              simp only [Act.put, List.setIfInBounds_toArray, List.set_cons_zero, List.set_cons_succ]
              refine tk_yield (i := 20) (d := 4) (v := .bool true) rfl rfl (by as_aux_lemma => kernel_rfl) (by as_aux_lemma => kernel_rfl) (by as_aux_lemma => kernel_rfl) (fun _ _ _ h => h) (by rfl) T8 (fun _ _ => rfl) ?_
              simp only [Act.put, List.setIfInBounds_toArray, List.set_cons_zero, List.set_cons_succ]
              refine wpAnyH_done (by as_aux_lemma => kernel_rfl) ?_ _
              go_wp2_with fail
              go_ret
              exact ⟨rfl, K5.out.quiet T8⟩
          · refine tk_run (i := 6) (d := 49) (.string (strB (prE Q))) rfl rfl (by rfl) (cvt (B45.out.quiet HD0.out) HN2.out HN.out rfl rfl) ?_
            refine ⟨HD0.out, ?_⟩
            simp only [Act.put, List.setIfInBounds_toArray, List.set_cons_zero, List.set_cons_succ]
            refine tk_two (i := 4) (j := 10) (by as_aux_lemma => kernel_rfl) ?_ ?_
            · refine tk_run (i := 4) (d := 47) (.string (strB (prE P))) rfl rfl (by rfl) (cvt (B35.out.quiet HD0.out) HN1.out HM.out rfl rfl) ?_
              refine ⟨HD0.out, ?_⟩
              simp only [Act.put, List.setIfInBounds_toArray, List.set_cons_zero, List.set_cons_succ]
              refine tk_yield (i := 7) (d := 50) (v := .bool ((strB (prE P)).toList == (strB (prE Q)).toList)) rfl rfl (by as_aux_lemma => kernel_rfl) (by as_aux_lemma => kernel_rfl) (by as_aux_lemma => kernel_rfl) (fun _ _ _ h => h) (by rfl) HD0.out (fun _ _ => fin rfl rfl rfl) ?_
              simp only [Act.put, List.setIfInBounds_toArray, List.set_cons_zero, List.set_cons_succ]
              refine tk_one (i := 10) (by as_aux_lemma => kernel_rfl) ?_
              refine tk_call (i := 10) (d := 53) rfl rfl (by rfl) 15 #[.pointer (some ⟨pb, po, none⟩), .pointer (some ⟨qb, qo, none⟩)] (exec_call2 rfl rfl rfl rfl (call_eqp _ _ _)) (R := fun v w8 => v = .bool (decide (prE P = prE Q)) ∧ Keeps [] _ w8) ((HEE.out _ HD0.out).mono fun _ _ ⟨h1, h2⟩ => ⟨_, h1, rfl, h2⟩) ?_
              rintro v6 w6 ⟨rfl, k6⟩
              have T6 := Keeps.quiet HD0.out k6
              refine ⟨T6, ?_⟩
              simp only [Act.put, List.setIfInBounds_toArray, List.set_cons_zero, List.set_cons_succ]
              refine tk_yield (i := 11) (d := 54) (v := .bool (((strB (prE P)).toList == (strB (prE Q)).toList) == decide (prE P = prE Q))) rfl rfl (by as_aux_lemma => kernel_rfl) (by as_aux_lemma => kernel_rfl) (by as_aux_lemma => kernel_rfl) (fun _ _ _ h => h) (by rfl) T6 (fun _ _ => finb rfl rfl rfl) ?_
              simp only [Act.put, List.setIfInBounds_toArray, List.set_cons_zero, List.set_cons_succ]
              rw [HE.out, beq_self_eq_true]
              refine tk_yield (i := 12) (d := 55) (v := .bool true) rfl rfl (by as_aux_lemma => kernel_rfl) (by as_aux_lemma => kernel_rfl) (by as_aux_lemma => kernel_rfl) (fun _ _ _ h => h) (by rfl) T6 (fun _ _ => rfl) ?_
              simp only [Act.put, List.setIfInBounds_toArray, List.set_cons_zero, List.set_cons_succ]
              refine tk_yield (i := 13) (d := 56) (v := .bool true) rfl rfl (by as_aux_lemma => kernel_rfl) (by as_aux_lemma => kernel_rfl) (by as_aux_lemma => kernel_rfl) (fun _ _ _ h => h) (by rfl) T6 (fun _ _ => rfl) ?_
              simp only [Act.put, List.setIfInBounds_toArray, List.set_cons_zero, List.set_cons_succ]
              refine tk_yield (i := 14) (d := 57) (v := .pointer (some ⟨xb, 0, none⟩)) rfl rfl (by as_aux_lemma => kernel_rfl) (by as_aux_lemma => kernel_rfl) (by as_aux_lemma => kernel_rfl) (fun _ _ _ h => h) (by rfl) T6 (fun _ _ => rfl) ?_
              simp only [Act.put, List.setIfInBounds_toArray, List.set_cons_zero, List.set_cons_succ]
              refine tk_yield (i := 16) (d := 59) (v := .pointer (some ⟨pb, po, none⟩)) rfl rfl (by as_aux_lemma => kernel_rfl) (by as_aux_lemma => kernel_rfl) (by as_aux_lemma => kernel_rfl) (fun _ _ _ h => h) (by rfl) T6 (fun _ _ => rfl) ?_
              simp only [Act.put, List.setIfInBounds_toArray, List.set_cons_zero, List.set_cons_succ]
              refine tk_one (i := 15) (by as_aux_lemma => kernel_rfl) ?_
              refine tk_call (i := 15) (d := 58) rfl rfl (by rfl) 17 #[.pointer (some ⟨xb, 0, none⟩)] (exec_call1 rfl rfl rfl (call_prn _ _)) (R := fun v w8 => v = .string ⟨(textL P).toArray⟩ ∧ Keeps [] _ w8) ((HPX.out _ T6).mono fun _ _ ⟨h1, h2⟩ => ⟨_, h1, rfl, h2⟩) ?_
              rintro v7 w7 ⟨rfl, k7⟩
              have T7 := Keeps.quiet T6 k7
              clear k7
              refine ⟨T7, ?_⟩
              simp only [Act.put, List.setIfInBounds_toArray, List.set_cons_zero, List.set_cons_succ]
              refine tk_one (i := 17) (by as_aux_lemma => kernel_rfl) ?_
              refine tk_call (i := 17) (d := 60) rfl rfl (by rfl) 17 #[.pointer (some ⟨pb, po, none⟩)] (exec_call1 rfl rfl rfl (call_prn _ _)) (R := fun v w8 => v = .string ⟨(textL P).toArray⟩ ∧ Keeps [] _ w8) ((HPP.out _ T7).mono fun _ _ ⟨h1, h2⟩ => ⟨_, h1, rfl, h2⟩) ?_
              rintro v7 w7 ⟨rfl, k7⟩
              have T8 := Keeps.quiet T7 k7
              clear k7
              refine ⟨T8, ?_⟩
              simp only [Act.put, List.setIfInBounds_toArray, List.set_cons_zero, List.set_cons_succ]
              refine tk_yield (i := 18) (d := 61) (v := .bool ((⟨(textL P).toArray⟩ : ByteArray).toList == (⟨(textL P).toArray⟩ : ByteArray).toList)) rfl rfl (by as_aux_lemma => kernel_rfl) (by as_aux_lemma => kernel_rfl) (by as_aux_lemma => kernel_rfl) (fun _ _ _ h => h) (by rfl) T8 (fun _ _ => fin rfl rfl rfl) ?_
              simp only [Act.put, List.setIfInBounds_toArray, List.set_cons_zero, List.set_cons_succ]
              rw [beq_self_eq_true]
              refine tk_yield (i := 19) (d := 62) (v := .bool true) rfl rfl (by as_aux_lemma => kernel_rfl) (by as_aux_lemma => kernel_rfl) (by as_aux_lemma => kernel_rfl) (fun _ _ _ h => h) (by rfl) T8 (fun _ _ => rfl) ?_
              simp only [Act.put, List.setIfInBounds_toArray, List.set_cons_zero, List.set_cons_succ]
              refine tk_yield (i := 20) (d := 4) (v := .bool true) rfl rfl (by as_aux_lemma => kernel_rfl) (by as_aux_lemma => kernel_rfl) (by as_aux_lemma => kernel_rfl) (fun _ _ _ h => h) (by rfl) T8 (fun _ _ => rfl) ?_
              simp only [Act.put, List.setIfInBounds_toArray, List.set_cons_zero, List.set_cons_succ]
              refine wpAnyH_done (by as_aux_lemma => kernel_rfl) ?_ _
              go_wp2_with fail
              go_ret
              exact ⟨rfl, K5.out.quiet T8⟩
            · refine tk_call (i := 10) (d := 53) rfl rfl (by rfl) 15 #[.pointer (some ⟨pb, po, none⟩), .pointer (some ⟨qb, qo, none⟩)] (exec_call2 rfl rfl rfl rfl (call_eqp _ _ _)) (R := fun v w8 => v = .bool (decide (prE P = prE Q)) ∧ Keeps [] _ w8) ((HEE.out _ HD0.out).mono fun _ _ ⟨h1, h2⟩ => ⟨_, h1, rfl, h2⟩) ?_
              rintro v6 w6 ⟨rfl, k6⟩
              have T6 := Keeps.quiet HD0.out k6
              refine ⟨T6, ?_⟩
              simp only [Act.put, List.setIfInBounds_toArray, List.set_cons_zero, List.set_cons_succ]
              refine tk_one (i := 4) (by as_aux_lemma => kernel_rfl) ?_
              refine tk_run (i := 4) (d := 47) (.string (strB (prE P))) rfl rfl (by rfl) (cvt (B35.out.quiet T6) HN1.out HM.out rfl rfl) ?_
              refine ⟨T6, ?_⟩
              simp only [Act.put, List.setIfInBounds_toArray, List.set_cons_zero, List.set_cons_succ]
              refine tk_yield (i := 7) (d := 50) (v := .bool ((strB (prE P)).toList == (strB (prE Q)).toList)) rfl rfl (by as_aux_lemma => kernel_rfl) (by as_aux_lemma => kernel_rfl) (by as_aux_lemma => kernel_rfl) (fun _ _ _ h => h) (by rfl) T6 (fun _ _ => fin rfl rfl rfl) ?_
              simp only [Act.put, List.setIfInBounds_toArray, List.set_cons_zero, List.set_cons_succ]
              refine tk_yield (i := 11) (d := 54) (v := .bool (((strB (prE P)).toList == (strB (prE Q)).toList) == decide (prE P = prE Q))) rfl rfl (by as_aux_lemma => kernel_rfl) (by as_aux_lemma => kernel_rfl) (by as_aux_lemma => kernel_rfl) (fun _ _ _ h => h) (by rfl) T6 (fun _ _ => finb rfl rfl rfl) ?_
              simp only [Act.put, List.setIfInBounds_toArray, List.set_cons_zero, List.set_cons_succ]
              rw [HE.out, beq_self_eq_true]
              refine tk_yield (i := 12) (d := 55) (v := .bool true) rfl rfl (by as_aux_lemma => kernel_rfl) (by as_aux_lemma => kernel_rfl) (by as_aux_lemma => kernel_rfl) (fun _ _ _ h => h) (by rfl) T6 (fun _ _ => rfl) ?_
              simp only [Act.put, List.setIfInBounds_toArray, List.set_cons_zero, List.set_cons_succ]
              refine tk_yield (i := 13) (d := 56) (v := .bool true) rfl rfl (by as_aux_lemma => kernel_rfl) (by as_aux_lemma => kernel_rfl) (by as_aux_lemma => kernel_rfl) (fun _ _ _ h => h) (by rfl) T6 (fun _ _ => rfl) ?_
              simp only [Act.put, List.setIfInBounds_toArray, List.set_cons_zero, List.set_cons_succ]
              refine tk_yield (i := 14) (d := 57) (v := .pointer (some ⟨xb, 0, none⟩)) rfl rfl (by as_aux_lemma => kernel_rfl) (by as_aux_lemma => kernel_rfl) (by as_aux_lemma => kernel_rfl) (fun _ _ _ h => h) (by rfl) T6 (fun _ _ => rfl) ?_
              simp only [Act.put, List.setIfInBounds_toArray, List.set_cons_zero, List.set_cons_succ]
              refine tk_yield (i := 16) (d := 59) (v := .pointer (some ⟨pb, po, none⟩)) rfl rfl (by as_aux_lemma => kernel_rfl) (by as_aux_lemma => kernel_rfl) (by as_aux_lemma => kernel_rfl) (fun _ _ _ h => h) (by rfl) T6 (fun _ _ => rfl) ?_
              simp only [Act.put, List.setIfInBounds_toArray, List.set_cons_zero, List.set_cons_succ]
              refine tk_one (i := 15) (by as_aux_lemma => kernel_rfl) ?_
              refine tk_call (i := 15) (d := 58) rfl rfl (by rfl) 17 #[.pointer (some ⟨xb, 0, none⟩)] (exec_call1 rfl rfl rfl (call_prn _ _)) (R := fun v w8 => v = .string ⟨(textL P).toArray⟩ ∧ Keeps [] _ w8) ((HPX.out _ T6).mono fun _ _ ⟨h1, h2⟩ => ⟨_, h1, rfl, h2⟩) ?_
              rintro v7 w7 ⟨rfl, k7⟩
              have T7 := Keeps.quiet T6 k7
              clear k7
              refine ⟨T7, ?_⟩
              simp only [Act.put, List.setIfInBounds_toArray, List.set_cons_zero, List.set_cons_succ]
              refine tk_one (i := 17) (by as_aux_lemma => kernel_rfl) ?_
              refine tk_call (i := 17) (d := 60) rfl rfl (by rfl) 17 #[.pointer (some ⟨pb, po, none⟩)] (exec_call1 rfl rfl rfl (call_prn _ _)) (R := fun v w8 => v = .string ⟨(textL P).toArray⟩ ∧ Keeps [] _ w8) ((HPP.out _ T7).mono fun _ _ ⟨h1, h2⟩ => ⟨_, h1, rfl, h2⟩) ?_
              rintro v7 w7 ⟨rfl, k7⟩
              have T8 := Keeps.quiet T7 k7
              clear k7
              refine ⟨T8, ?_⟩
              simp only [Act.put, List.setIfInBounds_toArray, List.set_cons_zero, List.set_cons_succ]
              refine tk_yield (i := 18) (d := 61) (v := .bool ((⟨(textL P).toArray⟩ : ByteArray).toList == (⟨(textL P).toArray⟩ : ByteArray).toList)) rfl rfl (by as_aux_lemma => kernel_rfl) (by as_aux_lemma => kernel_rfl) (by as_aux_lemma => kernel_rfl) (fun _ _ _ h => h) (by rfl) T8 (fun _ _ => fin rfl rfl rfl) ?_
              simp only [Act.put, List.setIfInBounds_toArray, List.set_cons_zero, List.set_cons_succ]
              rw [beq_self_eq_true]
              refine tk_yield (i := 19) (d := 62) (v := .bool true) rfl rfl (by as_aux_lemma => kernel_rfl) (by as_aux_lemma => kernel_rfl) (by as_aux_lemma => kernel_rfl) (fun _ _ _ h => h) (by rfl) T8 (fun _ _ => rfl) ?_
              simp only [Act.put, List.setIfInBounds_toArray, List.set_cons_zero, List.set_cons_succ]
              refine tk_yield (i := 20) (d := 4) (v := .bool true) rfl rfl (by as_aux_lemma => kernel_rfl) (by as_aux_lemma => kernel_rfl) (by as_aux_lemma => kernel_rfl) (fun _ _ _ h => h) (by rfl) T8 (fun _ _ => rfl) ?_
              simp only [Act.put, List.setIfInBounds_toArray, List.set_cons_zero, List.set_cons_succ]
              refine wpAnyH_done (by as_aux_lemma => kernel_rfl) ?_ _
              go_wp2_with fail
              go_ret
              exact ⟨rfl, K5.out.quiet T8⟩
          · refine tk_call (i := 10) (d := 53) rfl rfl (by rfl) 15 #[.pointer (some ⟨pb, po, none⟩), .pointer (some ⟨qb, qo, none⟩)] (exec_call2 rfl rfl rfl rfl (call_eqp _ _ _)) (R := fun v w8 => v = .bool (decide (prE P = prE Q)) ∧ Keeps [] _ w8) ((HEE.out _ HD0.out).mono fun _ _ ⟨h1, h2⟩ => ⟨_, h1, rfl, h2⟩) ?_
            rintro v6 w6 ⟨rfl, k6⟩
            have T6 := Keeps.quiet HD0.out k6
            refine ⟨T6, ?_⟩
            simp only [Act.put, List.setIfInBounds_toArray, List.set_cons_zero, List.set_cons_succ]
            refine tk_two (i := 4) (j := 6) (by as_aux_lemma => kernel_rfl) ?_ ?_
            · refine tk_run (i := 4) (d := 47) (.string (strB (prE P))) rfl rfl (by rfl) (cvt (B35.out.quiet T6) HN1.out HM.out rfl rfl) ?_
              refine ⟨T6, ?_⟩
              simp only [Act.put, List.setIfInBounds_toArray, List.set_cons_zero, List.set_cons_succ]
              refine tk_one (i := 6) (by as_aux_lemma => kernel_rfl) ?_
              refine tk_run (i := 6) (d := 49) (.string (strB (prE Q))) rfl rfl (by rfl) (cvt (B45.out.quiet T6) HN2.out HN.out rfl rfl) ?_
              refine ⟨T6, ?_⟩
              simp only [Act.put, List.setIfInBounds_toArray, List.set_cons_zero, List.set_cons_succ]
              refine tk_yield (i := 7) (d := 50) (v := .bool ((strB (prE P)).toList == (strB (prE Q)).toList)) rfl rfl (by as_aux_lemma => kernel_rfl) (by as_aux_lemma => kernel_rfl) (by as_aux_lemma => kernel_rfl) (fun _ _ _ h => h) (by rfl) T6 (fun _ _ => fin rfl rfl rfl) ?_
              simp only [Act.put, List.setIfInBounds_toArray, List.set_cons_zero, List.set_cons_succ]
              refine tk_yield (i := 11) (d := 54) (v := .bool (((strB (prE P)).toList == (strB (prE Q)).toList) == decide (prE P = prE Q))) rfl rfl (by as_aux_lemma => kernel_rfl) (by as_aux_lemma => kernel_rfl) (by as_aux_lemma => kernel_rfl) (fun _ _ _ h => h) (by rfl) T6 (fun _ _ => finb rfl rfl rfl) ?_
              simp only [Act.put, List.setIfInBounds_toArray, List.set_cons_zero, List.set_cons_succ]
              rw [HE.out, beq_self_eq_true]
              refine tk_yield (i := 12) (d := 55) (v := .bool true) rfl rfl (by as_aux_lemma => kernel_rfl) (by as_aux_lemma => kernel_rfl) (by as_aux_lemma => kernel_rfl) (fun _ _ _ h => h) (by rfl) T6 (fun _ _ => rfl) ?_
              simp only [Act.put, List.setIfInBounds_toArray, List.set_cons_zero, List.set_cons_succ]
              refine tk_yield (i := 13) (d := 56) (v := .bool true) rfl rfl (by as_aux_lemma => kernel_rfl) (by as_aux_lemma => kernel_rfl) (by as_aux_lemma => kernel_rfl) (fun _ _ _ h => h) (by rfl) T6 (fun _ _ => rfl) ?_
              simp only [Act.put, List.setIfInBounds_toArray, List.set_cons_zero, List.set_cons_succ]
              refine tk_yield (i := 14) (d := 57) (v := .pointer (some ⟨xb, 0, none⟩)) rfl rfl (by as_aux_lemma => kernel_rfl) (by as_aux_lemma => kernel_rfl) (by as_aux_lemma => kernel_rfl) (fun _ _ _ h => h) (by rfl) T6 (fun _ _ => rfl) ?_
              simp only [Act.put, List.setIfInBounds_toArray, List.set_cons_zero, List.set_cons_succ]
              refine tk_yield (i := 16) (d := 59) (v := .pointer (some ⟨pb, po, none⟩)) rfl rfl (by as_aux_lemma => kernel_rfl) (by as_aux_lemma => kernel_rfl) (by as_aux_lemma => kernel_rfl) (fun _ _ _ h => h) (by rfl) T6 (fun _ _ => rfl) ?_
              simp only [Act.put, List.setIfInBounds_toArray, List.set_cons_zero, List.set_cons_succ]
              refine tk_one (i := 15) (by as_aux_lemma => kernel_rfl) ?_
              refine tk_call (i := 15) (d := 58) rfl rfl (by rfl) 17 #[.pointer (some ⟨xb, 0, none⟩)] (exec_call1 rfl rfl rfl (call_prn _ _)) (R := fun v w8 => v = .string ⟨(textL P).toArray⟩ ∧ Keeps [] _ w8) ((HPX.out _ T6).mono fun _ _ ⟨h1, h2⟩ => ⟨_, h1, rfl, h2⟩) ?_
              rintro v7 w7 ⟨rfl, k7⟩
              have T7 := Keeps.quiet T6 k7
              clear k7
              refine ⟨T7, ?_⟩
              simp only [Act.put, List.setIfInBounds_toArray, List.set_cons_zero, List.set_cons_succ]
              refine tk_one (i := 17) (by as_aux_lemma => kernel_rfl) ?_
              refine tk_call (i := 17) (d := 60) rfl rfl (by rfl) 17 #[.pointer (some ⟨pb, po, none⟩)] (exec_call1 rfl rfl rfl (call_prn _ _)) (R := fun v w8 => v = .string ⟨(textL P).toArray⟩ ∧ Keeps [] _ w8) ((HPP.out _ T7).mono fun _ _ ⟨h1, h2⟩ => ⟨_, h1, rfl, h2⟩) ?_
              rintro v7 w7 ⟨rfl, k7⟩
              have T8 := Keeps.quiet T7 k7
              clear k7
              refine ⟨T8, ?_⟩
              simp only [Act.put, List.setIfInBounds_toArray, List.set_cons_zero, List.set_cons_succ]
              refine tk_yield (i := 18) (d := 61) (v := .bool ((⟨(textL P).toArray⟩ : ByteArray).toList == (⟨(textL P).toArray⟩ : ByteArray).toList)) rfl rfl (by as_aux_lemma => kernel_rfl) (by as_aux_lemma => kernel_rfl) (by as_aux_lemma => kernel_rfl) (fun _ _ _ h => h) (by rfl) T8 (fun _ _ => fin rfl rfl rfl) ?_
              simp only [Act.put, List.setIfInBounds_toArray, List.set_cons_zero, List.set_cons_succ]
              rw [beq_self_eq_true]
              refine tk_yield (i := 19) (d := 62) (v := .bool true) rfl rfl (by as_aux_lemma => kernel_rfl) (by as_aux_lemma => kernel_rfl) (by as_aux_lemma => kernel_rfl) (fun _ _ _ h => h) (by rfl) T8 (fun _ _ => rfl) ?_
              simp only [Act.put, List.setIfInBounds_toArray, List.set_cons_zero, List.set_cons_succ]
              refine tk_yield (i := 20) (d := 4) (v := .bool true) rfl rfl (by as_aux_lemma => kernel_rfl) (by as_aux_lemma => kernel_rfl) (by as_aux_lemma => kernel_rfl) (fun _ _ _ h => h) (by rfl) T8 (fun _ _ => rfl) ?_
              simp only [Act.put, List.setIfInBounds_toArray, List.set_cons_zero, List.set_cons_succ]
              refine wpAnyH_done (by as_aux_lemma => kernel_rfl) ?_ _
              go_wp2_with fail
              go_ret
              exact ⟨rfl, K5.out.quiet T8⟩
            · refine tk_run (i := 6) (d := 49) (.string (strB (prE Q))) rfl rfl (by rfl) (cvt (B45.out.quiet T6) HN2.out HN.out rfl rfl) ?_
              refine ⟨T6, ?_⟩
              simp only [Act.put, List.setIfInBounds_toArray, List.set_cons_zero, List.set_cons_succ]
              refine tk_one (i := 4) (by as_aux_lemma => kernel_rfl) ?_
              refine tk_run (i := 4) (d := 47) (.string (strB (prE P))) rfl rfl (by rfl) (cvt (B35.out.quiet T6) HN1.out HM.out rfl rfl) ?_
              refine ⟨T6, ?_⟩
              simp only [Act.put, List.setIfInBounds_toArray, List.set_cons_zero, List.set_cons_succ]
              refine tk_yield (i := 7) (d := 50) (v := .bool ((strB (prE P)).toList == (strB (prE Q)).toList)) rfl rfl (by as_aux_lemma => kernel_rfl) (by as_aux_lemma => kernel_rfl) (by as_aux_lemma => kernel_rfl) (fun _ _ _ h => h) (by rfl) T6 (fun _ _ => fin rfl rfl rfl) ?_
              simp only [Act.put, List.setIfInBounds_toArray, List.set_cons_zero, List.set_cons_succ]
              refine tk_yield (i := 11) (d := 54) (v := .bool (((strB (prE P)).toList == (strB (prE Q)).toList) == decide (prE P = prE Q))) rfl rfl (by as_aux_lemma => kernel_rfl) (by as_aux_lemma => kernel_rfl) (by as_aux_lemma => kernel_rfl) (fun _ _ _ h => h) (by rfl) T6 (fun _ _ => finb rfl rfl rfl) ?_
              simp only [Act.put, List.setIfInBounds_toArray, List.set_cons_zero, List.set_cons_succ]
              rw [HE.out, beq_self_eq_true]
              refine tk_yield (i := 12) (d := 55) (v := .bool true) rfl rfl (by as_aux_lemma => kernel_rfl) (by as_aux_lemma => kernel_rfl) (by as_aux_lemma => kernel_rfl) (fun _ _ _ h => h) (by rfl) T6 (fun _ _ => rfl) ?_
              simp only [Act.put, List.setIfInBounds_toArray, List.set_cons_zero, List.set_cons_succ]
              refine tk_yield (i := 13) (d := 56) (v := .bool true) rfl rfl (by as_aux_lemma => kernel_rfl) (by as_aux_lemma => kernel_rfl) (by as_aux_lemma => kernel_rfl) (fun _ _ _ h => h) (by rfl) T6 (fun _ _ => rfl) ?_
              simp only [Act.put, List.setIfInBounds_toArray, List.set_cons_zero, List.set_cons_succ]
              refine tk_yield (i := 14) (d := 57) (v := .pointer (some ⟨xb, 0, none⟩)) rfl rfl (by as_aux_lemma => kernel_rfl) (by as_aux_lemma => kernel_rfl) (by as_aux_lemma => kernel_rfl) (fun _ _ _ h => h) (by rfl) T6 (fun _ _ => rfl) ?_
              simp only [Act.put, List.setIfInBounds_toArray, List.set_cons_zero, List.set_cons_succ]
              refine tk_yield (i := 16) (d := 59) (v := .pointer (some ⟨pb, po, none⟩)) rfl rfl (by as_aux_lemma => kernel_rfl) (by as_aux_lemma => kernel_rfl) (by as_aux_lemma => kernel_rfl) (fun _ _ _ h => h) (by rfl) T6 (fun _ _ => rfl) ?_
              simp only [Act.put, List.setIfInBounds_toArray, List.set_cons_zero, List.set_cons_succ]
              refine tk_one (i := 15) (by as_aux_lemma => kernel_rfl) ?_
              refine tk_call (i := 15) (d := 58) rfl rfl (by rfl) 17 #[.pointer (some ⟨xb, 0, none⟩)] (exec_call1 rfl rfl rfl (call_prn _ _)) (R := fun v w8 => v = .string ⟨(textL P).toArray⟩ ∧ Keeps [] _ w8) ((HPX.out _ T6).mono fun _ _ ⟨h1, h2⟩ => ⟨_, h1, rfl, h2⟩) ?_
              rintro v7 w7 ⟨rfl, k7⟩
              have T7 := Keeps.quiet T6 k7
              clear k7
              refine ⟨T7, ?_⟩
              simp only [Act.put, List.setIfInBounds_toArray, List.set_cons_zero, List.set_cons_succ]
              refine tk_one (i := 17) (by as_aux_lemma => kernel_rfl) ?_
              refine tk_call (i := 17) (d := 60) rfl rfl (by rfl) 17 #[.pointer (some ⟨pb, po, none⟩)] (exec_call1 rfl rfl rfl (call_prn _ _)) (R := fun v w8 => v = .string ⟨(textL P).toArray⟩ ∧ Keeps [] _ w8) ((HPP.out _ T7).mono fun _ _ ⟨h1, h2⟩ => ⟨_, h1, rfl, h2⟩) ?_
              rintro v7 w7 ⟨rfl, k7⟩
              have T8 := Keeps.quiet T7 k7
              clear k7
              refine ⟨T8, ?_⟩
              simp only [Act.put, List.setIfInBounds_toArray, List.set_cons_zero, List.set_cons_succ]
              refine tk_yield (i := 18) (d := 61) (v := .bool ((⟨(textL P).toArray⟩ : ByteArray).toList == (⟨(textL P).toArray⟩ : ByteArray).toList)) rfl rfl (by as_aux_lemma => kernel_rfl) (by as_aux_lemma => kernel_rfl) (by as_aux_lemma => kernel_rfl) (fun _ _ _ h => h) (by rfl) T8 (fun _ _ => fin rfl rfl rfl) ?_
              simp only [Act.put, List.setIfInBounds_toArray, List.set_cons_zero, List.set_cons_succ]
              rw [beq_self_eq_true]
              refine tk_yield (i := 19) (d := 62) (v := .bool true) rfl rfl (by as_aux_lemma => kernel_rfl) (by as_aux_lemma => kernel_rfl) (by as_aux_lemma => kernel_rfl) (fun _ _ _ h => h) (by rfl) T8 (fun _ _ => rfl) ?_
              simp only [Act.put, List.setIfInBounds_toArray, List.set_cons_zero, List.set_cons_succ]
              refine tk_yield (i := 20) (d := 4) (v := .bool true) rfl rfl (by as_aux_lemma => kernel_rfl) (by as_aux_lemma => kernel_rfl) (by as_aux_lemma => kernel_rfl) (fun _ _ _ h => h) (by rfl) T8 (fun _ _ => rfl) ?_
              simp only [Act.put, List.setIfInBounds_toArray, List.set_cons_zero, List.set_cons_succ]
              refine wpAnyH_done (by as_aux_lemma => kernel_rfl) ?_ _
              go_wp2_with fail
              go_ret
              exact ⟨rfl, K5.out.quiet T8⟩
        · obtain ⟨p, rfl, r4, k4⟩ := enc_bad (by omega) h4
          have K4 := hid (K3.out.quiet k4)
          clear HEQ h4 r4 k4 hl2
          go_wp2_with fail
          go_ret
          exact ⟨rfl, K4.out⟩
      · obtain ⟨p, rfl, r3, k3⟩ := enc_bad (by omega) h3
        have HEQ := hid (encode_any (PrC.stays _ _ _ _ _ k3 HQ1.out))
        have K3 := hid (K1.out.quiet k3)
        clear HEP h3 r3 k3 hl
        go_wp2_with fail
        refine HEQ.out.mono ?_
        intro e w4 h4
        by_cases hl2 : (prE Q).length ≤ 20000
        · obtain ⟨a4, c4, rfl, B4, _, k4⟩ := enc_good hl2 h4
          have K4 := hid (K3.out.quiet k4)
          clear HEQ h4 B4 k4 hl2
          go_wp2_with fail
          go_ret
          exact ⟨rfl, K4.out⟩
        · obtain ⟨p4, rfl, r4, k4⟩ := enc_bad (by omega) h4
          have K4 := hid (K3.out.quiet k4)
          clear HEQ h4 r4 k4 hl2
          go_wp2_with fail
          go_ret
          exact ⟨rfl, K4.out⟩
theorem codeTwins_nil {w : World} (v : Value) (hg : Glob w) : Calls Tryd.prog 8 #[.pointer none, v] w fun e w' => e = .returned (.bool true) ∧ Keeps [] w w' := by
  have HB := hid (begun_any w hg)
  have HS := hid fun (w' : World) => small_nil w'
  clear hg
  go_enter Tryd.func8, Tryd.ntmps8
  go_wp2_with fail
  refine HB.out.mono ?_
  rintro e w1 ⟨rfl, k1⟩
  go_wp2_with fail
  refine (HS.out _).mono ?_
  rintro e w2 ⟨rfl, rfl⟩
  go_wp2_with fail
  go_ret
  exact ⟨rfl, k1⟩
theorem codeTwins_half {w : World} {pb po : Nat} {P : Pr8} (hg : Glob w) (hp : PrC w pb po P) : Calls Tryd.prog 8 #[.pointer (some ⟨pb, po, none⟩), .pointer none] w fun e w' => e = .returned (.bool true) ∧ Keeps [] w w' := by
  have HB := hid (begun_any w hg)
  have HP := hid hp
  have HS := hid fun (w' : World) => small_nil w'
  clear hg hp
  go_enter Tryd.func8, Tryd.ntmps8
  go_wp2_with fail
  refine HB.out.mono ?_
  rintro e w1 ⟨rfl, k1⟩
  have K1 := hid k1
  have HSP := hid (small9_any (PrC.stays _ _ _ _ _ k1 HP.out))
  clear HB k1
  go_wp2_with fail
  refine HSP.out.mono ?_
  rintro e w2 ⟨s, rfl, hw2, hs⟩
  rw [hw2]
  clear hw2 hs
  cases s with
  | false =>
    go_wp2_with fail
    go_ret
    exact ⟨rfl, K1.out⟩
  | true =>
    go_wp2_with fail
    refine (HS.out _).mono ?_
    rintro e w2 ⟨rfl, rfl⟩
    go_wp2_with fail
    go_ret
    exact ⟨rfl, K1.out⟩
theorem codeTwins_walk (v u : Value) (w : World) (hg : Glob w) (hp : ProgAt 17592186044416 w v) (hq : ProgAt 17592186044416 w u) : Calls Tryd.prog 8 #[v, u] w fun e w' => e = .returned (.bool true) ∧ Keeps [] w w' := by
  rcases hp with rfl | ⟨b, o, P, rfl, h1, _⟩
  · exact codeTwins_nil u hg
  · rcases hq with rfl | ⟨c, d, Q, rfl, h2, _⟩
    · exact codeTwins_half hg h1
    · exact codeTwins_in hg h1 h2
end Go.Proofs.YtmipbaihlodmdaaDoor
