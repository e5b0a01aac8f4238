/-
  told: are bytes a program's, whose they are, or refused?
-/
import Derived.Test.YtmipbaihlodmdaaDoorCBg
namespace Go.Proofs.YtmipbaihlodmdaaDoor
open Go.RowKit

set_option maxRecDepth 20000 in
set_option maxHeartbeats 4000000 in
theorem told_any {w : World} {a : Option Addr} {cp : Nat} {L : List UInt8} (hg : Glob w) (hb : BytesAt w a L) (hcp : L.length ≤ cp) (hL : L.length ≤ 9223372036854775807) : Calls Tryd.prog 16 #[.slice a L.length cp] w fun e w' => e = .returned (.bool true) ∧ Keeps [] w w' := by
  have HG := hid hg
  have HD := hid (decode_any hb hcp hL)
  have HB := hid hb
  obtain ⟨n, hn⟩ : ∃ n, n = L.length := ⟨_, rfl⟩
  have HN := hid hn
  rw [← hn] at HD ⊢
  clear hg hb hcp hL hn
  go_enter Tryd.func16, Tryd.ntmps16
  go_wp2_with fail
  refine HD.out.mono ?_
  intro e w1 h1
  obtain ⟨k1, ⟨hl, b, P, rfl, hP, hE⟩ | ⟨_, p, rfl, hr⟩⟩ := h1
  · have HFE := hid fun (w' : World) (k : Keeps [] w1 w') => fe_any (PrC.stays _ _ _ _ _ k hP) (by rw [hE]; omega)
    have HE := hid hE
    have K1 := hid k1
    have HB1 := hid (HB.out.quiet k1)
    have HNE : Box (L ≠ []) := hid (by rw [← hE]; exact prE_ne P)
    have HDR := hid (Keeps.drew [] w1)
    have cvt : ∀ {W : World} {a : Option Addr} {cp n : Nat} {M : List UInt8} {ev : Operand → Value} {oi : Oper} {x : Operand}, BytesAt W a M → M ≠ [] → n = M.length → oi.op = .convert 25 9 x → ev x = .slice a n cp → (execOp ev oi).run Tryd.prog W = .ok (.value (.string (strB M))) W := fun hb hL hn ho hx => by
      subst hn
      simp [execOp, ho, hx, conv_bytes hb hL, go_sem]
    have fin : ∀ {S T : ByteArray} {W : World} {ev : Operand → Value} {oi : Oper} {x y : Operand}, oi.op = .binOp .eql 9 x y 9 → ev x = .string S → ev y = .string T → (execOp ev oi).run Tryd.prog W = .ok (.value (.bool (S.toList == T.toList))) W := fun ho hx hy => by
      simp [execOp, ho, hx, hy, go_sem]
    have HCV := hid @cvt
    have HFI := hid @fin
    clear HD hP hE k1 cvt fin hl
    go_wp2_with fail
    refine wp_region_held_drew (S := fun w' => Keeps [] w1 w') (by kernel_rfl) HDR.out (fun _ => ?_)
    refine tk_yield (i := 0) (d := 30) (v := .pointer (some ⟨b, 0, none⟩)) rfl rfl (by as_aux_lemma => kernel_rfl) (by as_aux_lemma => kernel_rfl) (by as_aux_lemma => kernel_rfl) (fun _ _ _ h => h) (by rfl) HDR.out (fun _ _ => rfl) ?_
    simp only [Act.put, List.setIfInBounds_toArray, List.set_cons_zero, List.set_cons_succ]
    refine tk_yield (i := 3) (d := 33) (v := .slice a n cp) rfl rfl (by as_aux_lemma => kernel_rfl) (by as_aux_lemma => kernel_rfl) (by as_aux_lemma => kernel_rfl) (fun _ _ _ h => h) (by rfl) HDR.out (fun _ _ => rfl) ?_
    simp only [Act.put, List.setIfInBounds_toArray, List.set_cons_zero, List.set_cons_succ]
    refine tk_yield (i := 4) (d := 34) (v := .string (strB L)) rfl rfl (by as_aux_lemma => kernel_rfl) (by as_aux_lemma => kernel_rfl) (by as_aux_lemma => kernel_rfl) (fun _ _ _ h => h) (by rfl) HDR.out (fun w9 hw9 => HCV.out (HB1.out.quiet hw9) HNE.out HN.out rfl rfl) ?_
    simp only [Act.put, List.setIfInBounds_toArray, List.set_cons_zero, List.set_cons_succ]
    refine tk_one (i := 1) (by as_aux_lemma => kernel_rfl) ?_
    refine tk_call (i := 1) (d := 31) rfl rfl (by rfl) 11 #[.pointer (some ⟨b, 0, none⟩)] (exec_call1 rfl rfl rfl (call_enc _ _)) (HFE.out _ HDR.out) ?_
    rintro v6 w6 ⟨a6, c6, rfl, B6, _, K6⟩
    have T6 := HDR.out.quiet K6
    rw [HE.out] at B6 ⊢
    refine ⟨T6, ?_⟩
    simp only [Act.put, List.setIfInBounds_toArray, List.set_cons_zero, List.set_cons_succ]
    refine tk_one (i := 2) (by as_aux_lemma => kernel_rfl) ?_
    refine tk_run (i := 2) (d := 32) (.string (strB L)) rfl rfl (by rfl) (HCV.out B6 HNE.out rfl rfl rfl) ?_
    refine ⟨T6, ?_⟩
    simp only [Act.put, List.setIfInBounds_toArray, List.set_cons_zero, List.set_cons_succ]
    refine tk_yield (i := 5) (d := 35) (v := .bool ((strB L).toList == (strB L).toList)) rfl rfl (by as_aux_lemma => kernel_rfl) (by as_aux_lemma => kernel_rfl) (by as_aux_lemma => kernel_rfl) (fun _ _ _ h => h) (by rfl) T6 (fun _ _ => HFI.out rfl rfl rfl) ?_
    simp only [Act.put, List.setIfInBounds_toArray, List.set_cons_zero, List.set_cons_succ]
    refine tk_yield (i := 6) (d := 2) (v := .bool ((strB L).toList == (strB L).toList)) rfl rfl (by as_aux_lemma => kernel_rfl) (by as_aux_lemma => kernel_rfl) (by as_aux_lemma => kernel_rfl) (fun _ _ _ h => h) (by rfl) T6 (fun _ _ => rfl) ?_
    simp only [Act.put, List.setIfInBounds_toArray, List.set_cons_zero, List.set_cons_succ]
    refine wpAnyH_done (by as_aux_lemma => kernel_rfl) ?_ _
    rw [show ((strB L).toList == (strB L).toList) = true by rw [strB_eq]; exact decide_eq_true rfl]
    go_wp2_with fail
    go_ret
    exact ⟨rfl, K1.out.quiet T6⟩
  · have HRF := hid hr
    have K1 := hid k1
    have HWH := hid (where_ref p w1 (HG.out.quiet k1) hr)
    clear HD hr k1
    go_wp2_with fail
    refine HWH.out.mono ?_
    rintro e w2 ⟨rfl, k2⟩
    have ka := Keeps.alloc [] w2 (.cells #[.int .i64 0, .int .i64 0, .int .i64 0] 75)
    have HW := hid (why_ref p _ (HG.out.quiet ((K1.out.quiet k2).quiet ka)) (keep_heap (keep_heap HRF.out k2) ka))
    have K2 := hid ((K1.out.quiet k2).quiet ka)
    clear HWH k2 ka
    go_wp2_with fail
    refine HW.out.mono ?_
    rintro e w3 ⟨rfl, k3⟩
    go_wp2_with fail
    go_ret
    exact ⟨rfl, K2.out.quiet k3⟩
end Go.Proofs.YtmipbaihlodmdaaDoor
