/-
  Bytes as strings; the document's own 'the same program'; begun; told.
-/
import Derived.Test.YtmipbaihlodmdaaDoorCDec
import Derived.Test.YtmipbaihlodmdaaDoorCRe
import Derived.Laws.IdiomStrings
namespace Go.Proofs.YtmipbaihlodmdaaDoor
open Go.RowKit

/-- Bytes as a string. -/
def strB (L : List UInt8) : ByteArray := ⟨L.toArray⟩
theorem conv_bytes {w : World} {a : Option Addr} {cp : Nat} {L : List UInt8} (h : BytesAt w a L) (hL : L ≠ []) : (convert 25 9 (.slice a L.length cp)).run Tryd.prog w = .ok (.string (strB L)) w := by
  rcases h with h | ⟨b, off, rfl, h⟩
  · exact absurd h hL
  · refine run_convert_bytes_back (P := Tryd.prog) w 25 9 5 ⟨b, off, none⟩ cp L Tryd.underlying25 Tryd.underlying5 Tryd.underlying9 ?_
    intro j hj
    rw [add_off, h j hj, List.getD_eq_getElem?_getD, List.getElem?_eq_getElem hj]
    rfl
theorem strB_list (L : List UInt8) : (strB L).toList = L := by
  rw [ByteArray.toList_eq]
  rfl
theorem strB_eq (L M : List UInt8) : ((strB L).toList == (strB M).toList) = decide (L = M) := by
  rw [strB_list, strB_list]
  by_cases h : L = M
  · subst h
    simp
  · rw [decide_eq_false h, beq_eq_false_iff_ne]
    exact h
theorem prE_len (P : Pr8) : 6 ≤ (prE P).length := by
  have e : prE P = tyssE P.recs ++ sgsE P.sigs ++ ifsE P.ifs ++ imsE P.ims ++ fusE P.funcs ++ numE P.main := by simp only [prE, pairE, List.append_assoc]
  rw [e]
  simp only [List.length_append]
  have h1 := Cd.tyss.pos P.recs
  have h2 := Cd.sgs.pos P.sigs
  have h3 := Cd.ifs.pos P.ifs
  have h4 := Cd.ims.pos P.ims
  have h5 := Cd.fus.pos P.funcs
  have h6 := numE_pos P.main
  omega
theorem prE_ne (P : Pr8) : prE P ≠ [] := fun e => by
  have := prE_len P
  rw [e] at this
  simp at this
/-- An operation that yields. -/
theorem tk_run {P : Program} {ops : Array Oper} {Q : Exit → Act → World → Prop} {i d : Nat} {oi : Oper} {K : Act → World → Prop} {a : Act} {w w' : World} (v : Value) (hi : ops.toList[i]? = some oi) (hd : oi.dst = some d)
    (hw : Region.wanted oi (yielded ops a.tmps) = true) (he : (execOp a.eval oi).run P w = .ok (.value v) w') (h : K (a.put (some d) v) w') : wpOp P ops Q i K a w := by
  rw [Array.getElem?_toList] at hi
  rw [← hd] at h
  refine wpOp_step hi (fun K' hK => ?_)
  rw [if_pos hw]
  unfold Oper.wp
  rw [he]
  simp only [Oper.upon]
  exact hK _ _ h
/-- What the document's own Encode tells, as a call's answer. -/
def FePost (w : World) (P : Pr8) (v : Value) (w' : World) : Prop := ∃ a cp, v = .slice a (prE P).length cp ∧ BytesAt w' a (prE P) ∧ (prE P).length ≤ cp ∧ Keeps [] w w'
theorem fe_any {w : World} {pb po : Nat} {P : Pr8} (hP : PrC w pb po P) (hs : (prE P).length ≤ 35184372088832) : Calls Tryd.prog 11 #[.pointer (some ⟨pb, po, none⟩)] w (fun e w' => ∃ v, e = .returned v ∧ FePost w P v w') := by
  refine (fenc_any hP hs).mono ?_
  rintro e w' ⟨v, rfl, h⟩
  obtain ⟨a, cp, rfl, h1, h2, _⟩ := h.open
  exact ⟨_, rfl, a, cp, rfl, h1, h2, h.keeps⟩
theorem call_enc (v : Value) (w : World) : (callFunc 11 #[v]).run Tryd.prog w = .ok (.enter 11 #[v]) w := by go_simp

set_option maxRecDepth 20000 in
set_option maxHeartbeats 4000000 in
theorem eqp_any {w : World} {pb po qb qo : Nat} {P Q : Pr8} (hP : PrC w pb po P) (hQ : PrC w qb qo Q) (hp : (prE P).length ≤ 35184372088832) (hq : (prE Q).length ≤ 35184372088832) :
    Calls Tryd.prog 15 #[.pointer (some ⟨pb, po, none⟩), .pointer (some ⟨qb, qo, none⟩)] w fun e w' => e = .returned (.bool (decide (prE P = prE Q))) ∧ Keeps [] w w' := by
  have HP := hid fun (w' : World) (k : Keeps [] w w') => fe_any (PrC.stays _ _ _ _ _ k hP) hp
  have HQ := hid fun (w' : World) (k : Keeps [] w w') => fe_any (PrC.stays _ _ _ _ _ k hQ) hq
  have HD := hid (Keeps.drew [] w)
  have HE := hid (strB_eq (prE P) (prE Q))
  have HN1 := hid (prE_ne P)
  have HN2 := hid (prE_ne Q)
  clear hP hQ hp hq
  go_enter Tryd.func15, Tryd.ntmps15
  go_wp2_with fail
  refine wp_region_held_drew (S := fun w' => Keeps [] w w') (by kernel_rfl) HD.out (fun _ => ?_)
  refine tk_yield (i := 0) (d := 17) (v := .pointer (some ⟨pb, po, none⟩)) rfl rfl (by as_aux_lemma => kernel_rfl) (by as_aux_lemma => kernel_rfl) (by as_aux_lemma => kernel_rfl) (fun _ _ _ h => h) (by rfl) HD.out (fun _ _ => rfl) ?_
  simp only [Act.put, List.setIfInBounds_toArray, List.set_cons_zero, List.set_cons_succ]
  refine tk_yield (i := 3) (d := 20) (v := .pointer (some ⟨qb, qo, none⟩)) rfl rfl (by as_aux_lemma => kernel_rfl) (by as_aux_lemma => kernel_rfl) (by as_aux_lemma => kernel_rfl) (fun _ _ _ h => h) (by rfl) HD.out (fun _ _ => rfl) ?_
  simp only [Act.put, List.setIfInBounds_toArray, List.set_cons_zero, List.set_cons_succ]
  refine tk_one (i := 1) (by as_aux_lemma => kernel_rfl) ?_
  refine tk_call (i := 1) (d := 18) rfl rfl (by rfl) 11 #[.pointer (some ⟨pb, po, none⟩)] (exec_call1 rfl rfl rfl (call_enc _ _)) (HP.out _ HD.out) ?_
  rintro v6 w6 ⟨a6, c6, rfl, B6, _, K6⟩
  have T6 := HD.out.quiet K6
  refine ⟨T6, ?_⟩
  simp only [Act.put, List.setIfInBounds_toArray, List.set_cons_zero, List.set_cons_succ]
  have cvt : ∀ {W : World} {a : Option Addr} {cp : Nat} {L : List UInt8} {ev : Operand → Value} {oi : Oper} {x : Operand}, BytesAt W a L → L ≠ [] → oi.op = .convert 25 9 x → ev x = .slice a L.length cp → (execOp ev oi).run Tryd.prog W = .ok (.value (.string (strB L))) W := fun hb hL ho hx => by
    simp [execOp, ho, hx, conv_bytes hb hL, go_sem]
  have fin : ∀ {S T : ByteArray} {W : World} {ev : Operand → Value} {oi : Oper} {x y : Operand}, oi.op = .binOp .eql 9 x y 9 → ev x = .string S → ev y = .string T → (execOp ev oi).run Tryd.prog W = .ok (.value (.bool (S.toList == T.toList))) W := fun ho hx hy => by
    simp [execOp, ho, hx, hy, go_sem]
  refine tk_two (i := 2) (j := 4) (by as_aux_lemma => kernel_rfl) ?_ ?_
  · refine tk_run (i := 2) (d := 19) (.string (strB (prE P))) rfl rfl (by rfl) (cvt B6 HN1.out rfl rfl) ?_
    refine ⟨T6, ?_⟩
    simp only [Act.put, List.setIfInBounds_toArray, List.set_cons_zero, List.set_cons_succ]
    refine tk_one (i := 4) (by as_aux_lemma => kernel_rfl) ?_
    refine tk_call (i := 4) (d := 21) rfl rfl (by rfl) 11 #[.pointer (some ⟨qb, qo, none⟩)] (exec_call1 rfl rfl rfl (call_enc _ _)) (HQ.out _ T6) ?_
    rintro v7 w7 ⟨a7, c7, rfl, B7, _, K7⟩
    have T7 := T6.quiet K7
    refine ⟨T7, ?_⟩
    simp only [Act.put, List.setIfInBounds_toArray, List.set_cons_zero, List.set_cons_succ]
    refine tk_one (i := 5) (by as_aux_lemma => kernel_rfl) ?_
    refine tk_run (i := 5) (d := 22) (.string (strB (prE Q))) rfl rfl (by rfl) (cvt B7 HN2.out rfl rfl) ?_
    refine ⟨T7, ?_⟩
    simp only [Act.put, List.setIfInBounds_toArray, List.set_cons_zero, List.set_cons_succ]
    refine tk_yield (i := 6) (d := 23) (v := .bool ((strB (prE P)).toList == (strB (prE Q)).toList)) rfl rfl (by as_aux_lemma => kernel_rfl) (by as_aux_lemma => kernel_rfl) (by as_aux_lemma => kernel_rfl) (fun _ _ _ h => h) (by rfl) T7 (fun _ _ => fin rfl rfl rfl) ?_
    simp only [Act.put, List.setIfInBounds_toArray, List.set_cons_zero, List.set_cons_succ]
    refine tk_yield (i := 7) (d := 4) (v := .bool ((strB (prE P)).toList == (strB (prE Q)).toList)) rfl rfl (by as_aux_lemma => kernel_rfl) (by as_aux_lemma => kernel_rfl) (by as_aux_lemma => kernel_rfl) (fun _ _ _ h => h) (by rfl) T7 (fun _ _ => rfl) ?_
    simp only [Act.put, List.setIfInBounds_toArray, List.set_cons_zero, List.set_cons_succ]
    refine wpAnyH_done (by as_aux_lemma => kernel_rfl) ?_ _
    rw [HE.out]
    go_wp2_with fail
    go_ret
    exact ⟨rfl, T7⟩
  · refine tk_call (i := 4) (d := 21) rfl rfl (by rfl) 11 #[.pointer (some ⟨qb, qo, none⟩)] (exec_call1 rfl rfl rfl (call_enc _ _)) (HQ.out _ T6) ?_
    rintro v7 w7 ⟨a7, c7, rfl, B7, _, K7⟩
    have T7 := T6.quiet K7
    refine ⟨T7, ?_⟩
    simp only [Act.put, List.setIfInBounds_toArray, List.set_cons_zero, List.set_cons_succ]
    refine tk_two (i := 2) (j := 5) (by as_aux_lemma => kernel_rfl) ?_ ?_
    · refine tk_run (i := 2) (d := 19) (.string (strB (prE P))) rfl rfl (by rfl) (cvt (B6.quiet K7) HN1.out rfl rfl) ?_
      refine ⟨T7, ?_⟩
      simp only [Act.put, List.setIfInBounds_toArray, List.set_cons_zero, List.set_cons_succ]
      refine tk_one (i := 5) (by as_aux_lemma => kernel_rfl) ?_
      refine tk_run (i := 5) (d := 22) (.string (strB (prE Q))) rfl rfl (by rfl) (cvt B7 HN2.out rfl rfl) ?_
      refine ⟨T7, ?_⟩
      simp only [Act.put, List.setIfInBounds_toArray, List.set_cons_zero, List.set_cons_succ]
      refine tk_yield (i := 6) (d := 23) (v := .bool ((strB (prE P)).toList == (strB (prE Q)).toList)) rfl rfl (by as_aux_lemma => kernel_rfl) (by as_aux_lemma => kernel_rfl) (by as_aux_lemma => kernel_rfl) (fun _ _ _ h => h) (by rfl) T7 (fun _ _ => fin rfl rfl rfl) ?_
      simp only [Act.put, List.setIfInBounds_toArray, List.set_cons_zero, List.set_cons_succ]
      refine tk_yield (i := 7) (d := 4) (v := .bool ((strB (prE P)).toList == (strB (prE Q)).toList)) rfl rfl (by as_aux_lemma => kernel_rfl) (by as_aux_lemma => kernel_rfl) (by as_aux_lemma => kernel_rfl) (fun _ _ _ h => h) (by rfl) T7 (fun _ _ => rfl) ?_
      simp only [Act.put, List.setIfInBounds_toArray, List.set_cons_zero, List.set_cons_succ]
      refine wpAnyH_done (by as_aux_lemma => kernel_rfl) ?_ _
      rw [HE.out]
      go_wp2_with fail
      go_ret
      exact ⟨rfl, T7⟩
    · refine tk_run (i := 5) (d := 22) (.string (strB (prE Q))) rfl rfl (by rfl) (cvt B7 HN2.out rfl rfl) ?_
      refine ⟨T7, ?_⟩
      simp only [Act.put, List.setIfInBounds_toArray, List.set_cons_zero, List.set_cons_succ]
      refine tk_one (i := 2) (by as_aux_lemma => kernel_rfl) ?_
      refine tk_run (i := 2) (d := 19) (.string (strB (prE P))) rfl rfl (by rfl) (cvt (B6.quiet K7) HN1.out rfl rfl) ?_
      refine ⟨T7, ?_⟩
      simp only [Act.put, List.setIfInBounds_toArray, List.set_cons_zero, List.set_cons_succ]
      refine tk_yield (i := 6) (d := 23) (v := .bool ((strB (prE P)).toList == (strB (prE Q)).toList)) rfl rfl (by as_aux_lemma => kernel_rfl) (by as_aux_lemma => kernel_rfl) (by as_aux_lemma => kernel_rfl) (fun _ _ _ h => h) (by rfl) T7 (fun _ _ => fin rfl rfl rfl) ?_
      simp only [Act.put, List.setIfInBounds_toArray, List.set_cons_zero, List.set_cons_succ]
      refine tk_yield (i := 7) (d := 4) (v := .bool ((strB (prE P)).toList == (strB (prE Q)).toList)) rfl rfl (by as_aux_lemma => kernel_rfl) (by as_aux_lemma => kernel_rfl) (by as_aux_lemma => kernel_rfl) (fun _ _ _ h => h) (by rfl) T7 (fun _ _ => rfl) ?_
      simp only [Act.put, List.setIfInBounds_toArray, List.set_cons_zero, List.set_cons_succ]
      refine wpAnyH_done (by as_aux_lemma => kernel_rfl) ?_ _
      rw [HE.out]
      go_wp2_with fail
      go_ret
      exact ⟨rfl, T7⟩
end Go.Proofs.YtmipbaihlodmdaaDoor
