/-
  CodeCut: a program's bytes that are cut anywhere, or longer, are no program's.
-/
import Derived.Test.YtmipbaihlodmdaaDoorCFew
namespace Go.Proofs.YtmipbaihlodmdaaDoor
open Go.RowKit

theorem call_dec (v : Value) (w : World) : (callFunc 14 #[v]).run Tryd.prog w = .ok (.enter 14 #[v]) w := by go_simp
theorem cut_none {P : Pr8} (hP : prOk P) {k : Nat} (hk : k < (prE P).length) : ∀ Q, prOk Q → prE Q ≠ (prE P).take k := by
  intro Q hQ e
  have h1 : prE Q ++ (prE P).drop k = prE P ++ [] := by rw [e, List.take_append_drop, List.append_nil]
  have h2 := (Cd.pr.uniq Q P _ _ hQ hP h1).2
  have := congrArg List.length h2
  rw [List.length_drop] at this
  simp at this
  omega
theorem more_none {P : Pr8} (hP : prOk P) {S : List UInt8} (hS : S ≠ []) : ∀ Q, prOk Q → prE Q ≠ prE P ++ S := by
  intro Q hQ e
  exact hS (Cd.pr.uniq Q P [] S hQ hP (by rw [List.append_nil]; exact e)).2.symm
theorem BytesAt.take {w : World} {a : Option Addr} {L : List UInt8} (h : BytesAt w a L) (k : Nat) : BytesAt w a (L.take k) := by
  rcases h with h | ⟨b, off, h1, h2⟩
  · exact .inl (by rw [h]; simp)
  · refine .inr ⟨b, off, h1, fun i hi => ?_⟩
    rw [List.length_take] at hi
    rw [h2 i (by omega), List.getD_eq_getElem?_getD, List.getD_eq_getElem?_getD, List.getElem?_take, if_pos (by omega)]
theorem BytesAt.row {w : World} {a : Option Addr} {L : List UInt8} (h : BytesAt w a L) (hL : L ≠ []) : ∃ b off, a = some ⟨b, off, none⟩ ∧ ∀ i, i < L.length → w.cell? ⟨b, off + i, none⟩ = some (.int .u8 ((L.getD i 0).toNat : Int)) := by
  rcases h with h | h
  · exact absurd h hL
  · exact h
set_option maxRecDepth 20000 in
set_option maxHeartbeats 4000000 in
theorem codeCut_in {w : World} {pb po : Nat} {P : Pr8} (n : Int) (hg : Glob w) (h : PrC w pb po P) (hf : FewP 1048576 P) : Calls Tryd.prog 7 #[.pointer (some ⟨pb, po, none⟩), .int .i64 n] w fun e w' => e = .returned (.bool true) ∧ Keeps [] w w' := by
  have HG := hid hg
  have HB := hid (begun_any w hg)
  have HS := hid fun (w' : World) (k : Keeps [] w w') => small9_any (PrC.stays _ _ _ _ _ k h)
  have HP := hid h
  have HF := hid hf
  clear hg h hf
  go_enter Tryd.func7, Tryd.ntmps7
  go_wp2_with fail
  refine HB.out.mono ?_
  rintro e w1 ⟨rfl, k1⟩
  have K1 := hid k1
  clear HB k1
  go_wp2_with fail
  refine (HS.out _ K1.out).mono ?_
  rintro e w2 ⟨s, rfl, hw2, hs⟩
  rw [hw2]
  clear hw2
  cases s with
  | false =>
    go_wp2_with fail
    go_ret
    exact ⟨rfl, K1.out⟩
  | true =>
    have HLE := hid (few_le HP.out.ok (hs rfl) HF.out)
    have HP1 := hid (PrC.stays _ _ _ _ _ K1.out HP.out)
    have HFE := hid (fe_any HP1.out HLE.out)
    clear hs HS HF
    go_wp2_with fail
    refine HFE.out.mono ?_
    rintro e w3 ⟨v3, rfl, a3, c3, rfl, B3, C3, k3⟩
    obtain ⟨b, off, rfl, hrow⟩ := B3.row (prE_ne P)
    have HB3 := hid B3
    have HROW := hid hrow
    have K3 := hid (K1.out.quiet k3)
    obtain ⟨m, hm⟩ : ∃ m, m = (prE P).length := ⟨_, rfl⟩
    have HM := hid hm
    rw [← hm] at C3 ⊢
    have hm0 : (0 : Int) ≤ (m : Int) := by omega
    have hmx : (m : Int) ≤ 35184372088832 := by have := HLE.out; omega
    clear HFE B3 k3 hm hrow
    by_cases g1 : n < 0
    · go_wp2_with fail
      go_ret
      exact ⟨rfl, K3.out⟩
    by_cases g2 : (m : Int) ≤ n
    · go_wp2_with fail
      go_ret
      exact ⟨rfl, K3.out⟩
    by_cases g3 : 5000 < m
    · have g3' : (5000 : Int) < (m : Int) := by omega
      go_wp2_with fail
      go_ret
      exact ⟨rfl, K3.out⟩
    have g3' : ¬ (5000 : Int) < (m : Int) := by omega
    obtain ⟨k, rfl⟩ := Int.eq_ofNat_of_zero_le (show 0 ≤ n by omega)
    have hkm : k < m := by omega
    have hkm' : (k : Int) < (m : Int) := by omega
    have hk0 : (0 : Int) ≤ (k : Int) := by omega
    have hkc : k ≤ c3 := by omega
    have hkc' : (k : Int) ≤ (c3 : Int) := by omega
    have hkd : k + 1 ≤ c3 := by omega
    have hkd' : (k : Int) + 1 ≤ (c3 : Int) := by omega
    have HD := hid (decode_any (cp := c3) (HB3.out.take k) (by rw [List.length_take]; omega) (by rw [List.length_take]; omega))
    rw [show ((prE P).take k).length = k by rw [List.length_take, ← HM.out]; omega] at HD
    have HKM := hid hkm
    clear g1 g3
    go_wp2_with fail
    refine HD.out.mono ?_
    intro e w4 h4
    obtain ⟨p4, rfl, r4, k4⟩ := dec_bad (cut_none HP.out.ok (by rw [← HM.out]; exact HKM.out)) h4
    have R4 := hid r4
    have K4 := hid (K3.out.quiet k4)
    have HROW4 : Box (∀ i, i < (prE P).length → w4.drew.cell? ⟨b, off + i, none⟩ = some (.int .u8 (((prE P).getD i 0).toNat : Int))) := hid (fun i hi => cell_stays (k4.quiet (Keeps.drew [] w4)) (HROW.out i hi))
    have HDR := hid (Keeps.drew [] w4)
    have HL1 : Box (((prE P).take (k + 1)).length = k + 1) := hid (by rw [List.length_take, ← HM.out]; omega)
    have HPP : Box (0 < (prE P).length) := hid (by rw [← HM.out]; omega)
    clear HD h4 r4 k4 HROW HB3
    go_wp2_with fail
    refine wp_region_held_drew (S := fun w' => Keeps [] w4.drew w') (by kernel_rfl) (Keeps.refl _ _) (fun _ => ?_)
    refine tk_yield (i := 0) (d := 40) (v := .slice (some ⟨b, off, none⟩) m c3) rfl rfl (by as_aux_lemma => kernel_rfl) (by as_aux_lemma => kernel_rfl) (by as_aux_lemma => kernel_rfl) (fun _ _ _ h => h) (by rfl) (Keeps.refl _ _) (fun _ _ => rfl) ?_
    simp only [Act.put, List.setIfInBounds_toArray, List.set_cons_zero, List.set_cons_succ]
    refine tk_yield (i := 2) (d := 42) (v := .slice (some ⟨b, off, none⟩) m c3) rfl rfl (by as_aux_lemma => kernel_rfl) (by as_aux_lemma => kernel_rfl) (by as_aux_lemma => kernel_rfl) (fun _ _ _ h => h) (by rfl) (Keeps.refl _ _) (fun _ _ => rfl) ?_
    simp only [Act.put, List.setIfInBounds_toArray, List.set_cons_zero, List.set_cons_succ]
    refine tk_yield (i := 3) (d := 43) (v := .int .i64 (k : Int)) rfl rfl (by as_aux_lemma => kernel_rfl) (by as_aux_lemma => kernel_rfl) (by as_aux_lemma => kernel_rfl) (fun _ _ _ h => h) (by rfl) (Keeps.refl _ _) (fun _ _ => rfl) ?_
    simp only [Act.put, List.setIfInBounds_toArray, List.set_cons_zero, List.set_cons_succ]
    refine tk_yield (i := 4) (d := 44) (v := .int .i64 ((k : Int) + 1)) rfl rfl (by as_aux_lemma => kernel_rfl) (by as_aux_lemma => kernel_rfl) (by as_aux_lemma => kernel_rfl) (fun _ _ _ h => h) (by rfl) (Keeps.refl _ _) (fun w9 hw9 => by go_simp; exact IntWalk.i64_in _ (by omega)) ?_
    have hk1 : ¬ (k : Int) + 1 < 0 := by omega
    have hk2 : ((k : Int) + 1).toNat = k + 1 := by omega
    simp only [Act.put, List.setIfInBounds_toArray, List.set_cons_zero, List.set_cons_succ]
    refine tk_yield (i := 5) (d := 45) (v := .slice (some ⟨b, off, none⟩) (k + 1) c3) rfl rfl (by as_aux_lemma => kernel_rfl) (by as_aux_lemma => kernel_rfl) (by as_aux_lemma => kernel_rfl) (fun _ _ _ h => h) (by rfl) (Keeps.refl _ _) (fun w9 hw9 => by go_simp) ?_
    simp only [Act.put, List.setIfInBounds_toArray, List.set_cons_zero, List.set_cons_succ]
    refine tk_one (i := 1) (by as_aux_lemma => kernel_rfl) ?_
    refine tk_app (i := 1) (d := 41) rfl rfl rfl _ _ rfl rfl (OB.nil (Keeps.refl [] w4.drew)) rfl HM.out HPP.out HROW4.out (by have := HLE.out; simp only [List.length_nil]; omega) ?_
    intro g5 c5 N5 w5 hN5 o5 hgr5
    refine ⟨o5.keeps, ?_⟩
    simp only [Act.put, List.setIfInBounds_toArray, List.set_cons_zero, List.set_cons_succ]
    refine tk_one (i := 6) (by as_aux_lemma => kernel_rfl) ?_
    refine tk_app (i := 6) (d := 46) rfl rfl rfl _ _ rfl rfl o5 rfl (T := (prE P).take (k + 1)) HL1.out.symm (by rw [HL1.out]; omega) (fun i hi => ?_) (by rw [HL1.out, List.nil_append, ← HM.out]; omega) ?_
    · rw [HL1.out] at hi
      have := cell_stays o5.keeps (HROW4.out i (by rw [← HM.out]; omega))
      rw [this, List.getD_eq_getElem?_getD, List.getD_eq_getElem?_getD, List.getElem?_take, if_pos hi]
    intro g6 c6 N6 w6 hN6 o6 hgr6
    refine ⟨o6.keeps, ?_⟩
    simp only [Act.put, List.setIfInBounds_toArray, List.set_cons_zero, List.set_cons_succ]
    obtain ⟨a7, c7, e7, b7, l7, _⟩ := o6.open
    have hN : N6 = ([] ++ prE P ++ (prE P).take (k + 1)).length := hN6.out
    rw [List.nil_append] at hN b7 l7 e7
    simp only [Value.slice.injEq] at e7
    obtain ⟨rfl, _, rfl⟩ := e7
    have HD2 := hid (decode_any b7 l7 (by rw [← hN]; rw [List.length_append, HL1.out, ← HM.out] at hN; omega))
    rw [← hN] at HD2
    have hcall : Calls Tryd.prog 14 #[.slice (some ⟨g6, 0, none⟩) N6 c6] w6 (fun e w' => ∃ v, e = .returned v ∧ (∃ p, v = .tuple #[.pointer none, errV p] ∧ RefAt w' p ∧ Keeps [] w6 w')) := by
      refine HD2.out.mono ?_
      intro e w' h9
      obtain ⟨p, rfl, r, kk⟩ := dec_bad (more_none HP.out.ok (fun e => by have := HL1.out; rw [e] at this; simp at this)) h9
      exact ⟨_, rfl, p, rfl, r, kk⟩
    refine tk_one (i := 7) (by as_aux_lemma => kernel_rfl) ?_
    refine tk_call (i := 7) (d := 47) rfl rfl (by rfl) 14 #[.slice (some ⟨g6, 0, none⟩) N6 c6] (exec_call1 rfl rfl rfl (call_dec _ _)) hcall ?_
    rintro v8 w8 ⟨p8, rfl, r8, k8⟩
    have T8 := o6.keeps.quiet k8
    refine ⟨T8, ?_⟩
    simp only [Act.put, List.setIfInBounds_toArray, List.set_cons_zero, List.set_cons_succ]
    refine tk_yield (i := 8) (d := 39) (v := .tuple #[.pointer none, errV p8]) rfl rfl (by as_aux_lemma => kernel_rfl) (by as_aux_lemma => kernel_rfl) (by as_aux_lemma => kernel_rfl) (fun _ _ _ h => h) (by rfl) T8 (fun _ _ => rfl) ?_
    simp only [Act.put, List.setIfInBounds_toArray, List.set_cons_zero, List.set_cons_succ]
    refine tk_yield (i := 9) (d := 48) (v := .pointer none) rfl rfl (by as_aux_lemma => kernel_rfl) (by as_aux_lemma => kernel_rfl) (by as_aux_lemma => kernel_rfl) (fun _ _ _ h => h) (by rfl) T8 (fun _ _ => by go_simp) ?_
    simp only [Act.put, List.setIfInBounds_toArray, List.set_cons_zero, List.set_cons_succ]
    refine tk_yield (i := 10) (d := 49) (v := errV p8) rfl rfl (by as_aux_lemma => kernel_rfl) (by as_aux_lemma => kernel_rfl) (by as_aux_lemma => kernel_rfl) (fun _ _ _ h => h) (by rfl) T8 (fun _ _ => by go_simp) ?_
    simp only [Act.put, List.setIfInBounds_toArray, List.set_cons_zero, List.set_cons_succ]
    refine tk_yield (i := 11) (d := 9) (v := .pointer none) rfl rfl (by as_aux_lemma => kernel_rfl) (by as_aux_lemma => kernel_rfl) (by as_aux_lemma => kernel_rfl) (fun _ _ _ h => h) (by rfl) T8 (fun _ _ => rfl) ?_
    simp only [Act.put, List.setIfInBounds_toArray, List.set_cons_zero, List.set_cons_succ]
    refine tk_yield (i := 12) (d := 10) (v := errV p8) rfl rfl (by as_aux_lemma => kernel_rfl) (by as_aux_lemma => kernel_rfl) (by as_aux_lemma => kernel_rfl) (fun _ _ _ h => h) (by rfl) T8 (fun _ _ => rfl) ?_
    simp only [Act.put, List.setIfInBounds_toArray, List.set_cons_zero, List.set_cons_succ]
    refine wpAnyH_done (by as_aux_lemma => kernel_rfl) ?_ _
    have kk := HDR.out.quiet T8
    have K8 := hid (K4.out.quiet kk)
    have R48 := keep_heap R4.out kk
    have HW1 := hid (why_ref p4 w8 (HG.out.quiet K8.out) R48)
    have R8 := hid r8
    clear HD2 hcall r8 k8 T8 kk R4 R48 o5 o6 hgr5 hgr6 b7 l7 hN hN5 hN6
    go_wp2_with fail
    refine HW1.out.mono ?_
    rintro e w9 ⟨rfl, k9⟩
    have HW2 := hid (why_ref p8 w9 (HG.out.quiet (K8.out.quiet k9)) (keep_heap R8.out k9))
    have K9 := hid (K8.out.quiet k9)
    clear HW1 k9 R8
    go_wp2_with fail
    refine HW2.out.mono ?_
    rintro e w10 ⟨rfl, k10⟩
    go_wp2_with fail
    go_ret
    exact ⟨rfl, K9.out.quiet k10⟩
theorem codeCut_nil (n : Int) (w : World) (hg : Glob w) : Calls Tryd.prog 7 #[.pointer none, .int .i64 n] w fun e w' => e = .returned (.bool true) ∧ Keeps [] w w' := by
  have HB := hid (begun_any w hg)
  have HS := hid fun (w' : World) => small_nil w'
  clear hg
  go_enter Tryd.func7, Tryd.ntmps7
  go_wp2_with fail
  refine HB.out.mono ?_
  rintro e w1 ⟨rfl, k1⟩
  go_wp2_with fail
  refine (HS.out _).mono ?_
  rintro e w2 ⟨rfl, rfl⟩
  go_wp2_with fail
  go_ret
  exact ⟨rfl, k1⟩
theorem codeCut_walk (v : Value) (n : Int) (w : World) (hg : Glob w) (hp : ProgAt 1048576 w v) (_ : b64 n) : Calls Tryd.prog 7 #[v, .int .i64 n] w fun e w' => e = .returned (.bool true) ∧ Keeps [] w w' := by
  rcases hp with rfl | ⟨b, o, P, rfl, h1, h2⟩
  · exact codeCut_nil n w hg
  · exact codeCut_in n hg h1 h2
end Go.Proofs.YtmipbaihlodmdaaDoor
