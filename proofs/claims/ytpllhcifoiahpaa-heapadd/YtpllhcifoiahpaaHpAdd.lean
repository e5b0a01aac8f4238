/-
  HeapAdd: values are added; what comes from without stays so.
-/
import Derived.Test.YtpllhcifoiahpaaHpDk
namespace Go.Proofs.Ytpllhcifoiahpaa
open Go.RowKit

set_option maxRecDepth 20000 in
set_option maxHeartbeats 4000000 in
theorem heapAdd_walk (ak an : Int) (at' : Bool) (bk bn : Int) (bt : Bool) (tk tn : Int) (w : World) (_ : b64 ak) (_ : b64 an) (_ : b64 bk) (_ : b64 bn) (_ : b64 tk) (_ : b64 tn) : Calls Try.prog 4 #[vlV (ak, an, at'), vlV (bk, bn, bt), tyV (tk, tn)] w fun e w' => e = .returned (.bool true) ∧ Keeps [] w w' := by
  go_enter Try.func4, Try.ntmps4
  go_upto_region 1 with fail
  have K0 := hid (three_new w (.cells #[.int .i64 ak, .int .i64 an, .bool at'] 29) (.cells #[.int .i64 bk, .int .i64 bn, .bool bt] 29) (.cells #[.int .i64 tk, .int .i64 tn] 37))
  have A0 := hid (keep_heap (heap_new w (.cells #[.int .i64 ak, .int .i64 an, .bool at'] 29)) ((Keeps.alloc [] _ (.cells #[.int .i64 bk, .int .i64 bn, .bool bt] 29)).quiet (Keeps.alloc [] _ (.cells #[.int .i64 tk, .int .i64 tn] 37))))
  have B0 := hid (keep_heap (heap_new (w.alloc (.cells #[.int .i64 ak, .int .i64 an, .bool at'] 29)) (.cells #[.int .i64 bk, .int .i64 bn, .bool bt] 29)) (Keeps.alloc [] _ (.cells #[.int .i64 tk, .int .i64 tn] 37)))
  have C0 := hid (heap_new ((w.alloc (.cells #[.int .i64 ak, .int .i64 an, .bool at'] 29)).alloc (.cells #[.int .i64 bk, .int .i64 bn, .bool bt] 29)) (.cells #[.int .i64 tk, .int .i64 tn] 37))
  have e1 : (w.alloc (.cells #[.int .i64 ak, .int .i64 an, .bool at'] 29)).heap.size = w.heap.size + 1 := by simp
  have e2 : ((w.alloc (.cells #[.int .i64 ak, .int .i64 an, .bool at'] 29)).alloc (.cells #[.int .i64 bk, .int .i64 bn, .bool bt] 29)).heap.size = w.heap.size + 1 + 1 := by simp
  rw [e1] at B0
  rw [e2] at C0
  clear e1 e2
  generalize ((w.alloc (.cells #[.int .i64 ak, .int .i64 an, .bool at'] 29)).alloc (.cells #[.int .i64 bk, .int .i64 bn, .bool bt] 29)).alloc (.cells #[.int .i64 tk, .int .i64 tn] 37) = w1 at *
  generalize w.heap.size + 1 + 1 = x2 at *
  generalize w.heap.size + 1 = x1 at *
  generalize w.heap.size = x0 at *
  go_wp2_with fail
  refine (begun_any w1).mono ?_
  rintro e w2 ⟨rfl, k⟩
  have K2 := hid (K0.out.quiet k)
  have CA := hid (keep_heap A0.out k)
  have CB := hid (keep_heap B0.out k)
  have CT := hid (keep_heap C0.out k)
  clear K0 A0 B0 C0 k
  go_upto_region 4 with fail
  have a0 := hcell CA.out 0
  have a1 := hcell CA.out 1
  have a2 := hcell CA.out 2
  have b0 := hcell CB.out 0
  have b1 := hcell CB.out 1
  have b2 := hcell CB.out 2
  go_wp2_with fail
  refine (vadd_any (ak, an, at') (bk, bn, bt) w2).mono ?_
  rintro e w3 ⟨rfl, k⟩
  have K3 := hid (K2.out.quiet k)
  have CA3 := hid (keep_heap CA.out k)
  have CB3 := hid (keep_heap CB.out k)
  have CT3 := hid (keep_heap CT.out k)
  clear K2 CA CB CT k a0 a1 a2 b0 b1 b2
  by_cases h1 : ak = 0
  · by_cases h2 : bk = 0
    · have e : addV (ak, an, at') (bk, bn, bt) = (0, wrap64 (an + bn), at' || bt) := if_neg (by simp [h1, h2])
      rw [e]
      clear e
      subst h1 h2
      obtain ⟨s, hs⟩ : ∃ s, s = wrap64 (an + bn) := ⟨_, rfl⟩
      rw [← hs]
      have HS := hid hs
      clear hs
      cases at'
      · go_upto_region 5 with fail
        have K4 := hid (K3.out.quiet (Keeps.alloc [] w3 (.cells #[.int .i64 0, .int .i64 s, .bool bt] 29)))
        have C8 := hid (heap_new w3 (.cells #[.int .i64 0, .int .i64 s, .bool bt] 29))
        have CA := hid (keep_heap CA3.out (Keeps.alloc [] w3 (.cells #[.int .i64 0, .int .i64 s, .bool bt] 29)))
        have CB := hid (keep_heap CB3.out (Keeps.alloc [] w3 (.cells #[.int .i64 0, .int .i64 s, .bool bt] 29)))
        have C5 := hid (keep_heap CT3.out (Keeps.alloc [] w3 (.cells #[.int .i64 0, .int .i64 s, .bool bt] 29)))
        generalize w3.alloc (.cells #[.int .i64 0, .int .i64 s, .bool bt] 29) = w8 at *
        generalize w3.heap.size = x8 at *
        clear K3 CA3 CB3 CT3
        have a0 := hcell CA.out 0
        have b0 := hcell CB.out 0
        go_upto_region 7 with fail
        clear a0 b0
        refine wp_region_det (W0 := w8) 54 [(.agg #[.int .i64 0, .int .i64 s, .bool bt] : Value), (.pointer (some ⟨x0, 1, none⟩) : Value), (.int .i64 an : Value), (.pointer (some ⟨x1, 1, none⟩) : Value), (.int .i64 bn : Value), (.int .i64 s : Value), (.pointer (some ⟨x0, 2, none⟩) : Value), (.bool false : Value), (.bool false : Value), (.pointer (some ⟨x1, 2, none⟩) : Value), (.bool bt : Value), (.bool bt : Value), (.agg #[.int .i64 0, .int .i64 s, .bool bt] : Value), (.bool true : Value), (.bool true : Value), (.agg #[.int .i64 tk, .int .i64 tn] : Value), (vlV (zeroV (tk, tn)) : Value), (.agg #[.int .i64 tk, .int .i64 tn] : Value), (vlV (zeroV (tk, tn)) : Value), (.bool true : Value), (.bool true : Value), (.bool true : Value)] (by kernel_rfl) (by rfl) (by kernel_rfl) (Keeps.refl _ _) (fun A hA => ?_)
        simp only [putAll, Act.put, List.setIfInBounds_toArray, List.set_cons_zero, List.set_cons_succ] at hA
        subst hA
        refine ⟨gY (fun _ k9 => hld_v (keep_heap C8.out k9) rfl rfl) <| gR <| gY (fun _ k9 => hld_i (hcell (keep_heap CA.out k9) 1) rfl rfl) <| gR <| gY (fun _ k9 => hld_i (hcell (keep_heap CB.out k9) 1) rfl rfl) <| gY (fun _ _ => HS.out ▸ hb_add rfl rfl rfl) <| gR <| gY (fun _ k9 => hld_b (hcell (keep_heap CA.out k9) 2) rfl rfl) <| gR <| gR <| gY (fun _ k9 => hld_b (hcell (keep_heap CB.out k9) 2) rfl rfl) <| gR <| gY (fun _ _ => hbuild2 rfl rfl rfl) <| AllGive.cons (give_call (by rfl) 13 #[vlV (0, s, bt), vlV (0, s, bt)] (fun w => exec_call2 rfl rfl rfl rfl (enter_eqv _ _ w)) (fun w _ => eqv_same _ w)) <| gR <| gY (fun _ k9 => hld_t (keep_heap C5.out k9) rfl rfl) <| AllGive.cons (give_call (by rfl) 20 #[tyV (tk, tn)] (fun w => exec_call1 rfl rfl rfl (enter_zero _ w)) (fun w _ => zero_any (tk, tn) w)) <| gY (fun _ k9 => hld_t (keep_heap C5.out k9) rfl rfl) <| AllGive.cons (give_call (by rfl) 10 #[tyV (tk, tn)] (fun w => exec_call1 rfl rfl rfl (enter_rzero _ w)) (fun w _ => rzero_any (tk, tn) w)) <| AllGive.cons (give_call (by rfl) 13 #[vlV (zeroV (tk, tn)), vlV (zeroV (tk, tn))] (fun w => exec_call2 rfl rfl rfl rfl (enter_eqv _ _ w)) (fun w _ => eqv_same _ w)) <| gR <| gR <| AllGive.nil, fun w9 k9 => ?_⟩
        go_wp2_with fail
        go_ret
        exact ⟨rfl, K4.out.quiet k9⟩
      · go_upto_region 5 with fail
        have K4 := hid (K3.out.quiet (Keeps.alloc [] w3 (.cells #[.int .i64 0, .int .i64 s, .bool true] 29)))
        have C8 := hid (heap_new w3 (.cells #[.int .i64 0, .int .i64 s, .bool true] 29))
        have CA := hid (keep_heap CA3.out (Keeps.alloc [] w3 (.cells #[.int .i64 0, .int .i64 s, .bool true] 29)))
        have CB := hid (keep_heap CB3.out (Keeps.alloc [] w3 (.cells #[.int .i64 0, .int .i64 s, .bool true] 29)))
        have C5 := hid (keep_heap CT3.out (Keeps.alloc [] w3 (.cells #[.int .i64 0, .int .i64 s, .bool true] 29)))
        generalize w3.alloc (.cells #[.int .i64 0, .int .i64 s, .bool true] 29) = w8 at *
        generalize w3.heap.size = x8 at *
        clear K3 CA3 CB3 CT3
        have a0 := hcell CA.out 0
        have b0 := hcell CB.out 0
        go_upto_region 7 with fail
        clear a0 b0
        refine wp_region_det (W0 := w8) 54 [(.agg #[.int .i64 0, .int .i64 s, .bool true] : Value), (.pointer (some ⟨x0, 1, none⟩) : Value), (.int .i64 an : Value), (.pointer (some ⟨x1, 1, none⟩) : Value), (.int .i64 bn : Value), (.int .i64 s : Value), (.pointer (some ⟨x0, 2, none⟩) : Value), (.bool true : Value), (.bool true : Value), (undef : Value), (undef : Value), (.bool true : Value), (.agg #[.int .i64 0, .int .i64 s, .bool true] : Value), (.bool true : Value), (.bool true : Value), (.agg #[.int .i64 tk, .int .i64 tn] : Value), (vlV (zeroV (tk, tn)) : Value), (.agg #[.int .i64 tk, .int .i64 tn] : Value), (vlV (zeroV (tk, tn)) : Value), (.bool true : Value), (.bool true : Value), (.bool true : Value)] (by kernel_rfl) (by rfl) (by kernel_rfl) (Keeps.refl _ _) (fun A hA => ?_)
        simp only [putAll, Act.put, List.setIfInBounds_toArray, List.set_cons_zero, List.set_cons_succ] at hA
        subst hA
        refine ⟨gY (fun _ k9 => hld_v (keep_heap C8.out k9) rfl rfl) <| gR <| gY (fun _ k9 => hld_i (hcell (keep_heap CA.out k9) 1) rfl rfl) <| gR <| gY (fun _ k9 => hld_i (hcell (keep_heap CB.out k9) 1) rfl rfl) <| gY (fun _ _ => HS.out ▸ hb_add rfl rfl rfl) <| gR <| gY (fun _ k9 => hld_b (hcell (keep_heap CA.out k9) 2) rfl rfl) <| gR <| gP <| gP <| gR <| gY (fun _ _ => hbuild2 rfl rfl rfl) <| AllGive.cons (give_call (by rfl) 13 #[vlV (0, s, true), vlV (0, s, true)] (fun w => exec_call2 rfl rfl rfl rfl (enter_eqv _ _ w)) (fun w _ => eqv_same _ w)) <| gR <| gY (fun _ k9 => hld_t (keep_heap C5.out k9) rfl rfl) <| AllGive.cons (give_call (by rfl) 20 #[tyV (tk, tn)] (fun w => exec_call1 rfl rfl rfl (enter_zero _ w)) (fun w _ => zero_any (tk, tn) w)) <| gY (fun _ k9 => hld_t (keep_heap C5.out k9) rfl rfl) <| AllGive.cons (give_call (by rfl) 10 #[tyV (tk, tn)] (fun w => exec_call1 rfl rfl rfl (enter_rzero _ w)) (fun w _ => rzero_any (tk, tn) w)) <| AllGive.cons (give_call (by rfl) 13 #[vlV (zeroV (tk, tn)), vlV (zeroV (tk, tn))] (fun w => exec_call2 rfl rfl rfl rfl (enter_eqv _ _ w)) (fun w _ => eqv_same _ w)) <| gR <| gR <| AllGive.nil, fun w9 k9 => ?_⟩
        go_wp2_with fail
        go_ret
        exact ⟨rfl, K4.out.quiet k9⟩
    · have e : addV (ak, an, at') (bk, bn, bt) = (0, 0, false) := if_pos (.inr h2)
      rw [e]
      subst h1
      clear e
      have hb : (bk != 0) = true := by simpa using h2
      go_upto_region 5 with fail
      have K4 := hid (K3.out.quiet (Keeps.alloc [] w3 (.cells #[.int .i64 0, .int .i64 0, .bool false] 29)))
      have C8 := hid (heap_new w3 (.cells #[.int .i64 0, .int .i64 0, .bool false] 29))
      have CA := hid (keep_heap CA3.out (Keeps.alloc [] w3 (.cells #[.int .i64 0, .int .i64 0, .bool false] 29)))
      have CB := hid (keep_heap CB3.out (Keeps.alloc [] w3 (.cells #[.int .i64 0, .int .i64 0, .bool false] 29)))
      have C5 := hid (keep_heap CT3.out (Keeps.alloc [] w3 (.cells #[.int .i64 0, .int .i64 0, .bool false] 29)))
      generalize w3.alloc (.cells #[.int .i64 0, .int .i64 0, .bool false] 29) = w8 at *
      generalize w3.heap.size = x8 at *
      clear K3 CA3 CB3 CT3
      have a0 := hcell CA.out 0
      have b0 := hcell CB.out 0
      go_upto_region 6 with fail
      clear a0 b0
      refine wp_region_det (W0 := w8) 54 [(.agg #[.int .i64 0, .int .i64 0, .bool false] : Value), (.agg #[.int .i64 0, .int .i64 0, .bool false] : Value), (.bool true : Value), (.bool true : Value), (.agg #[.int .i64 tk, .int .i64 tn] : Value), (vlV (zeroV (tk, tn)) : Value), (.agg #[.int .i64 tk, .int .i64 tn] : Value), (vlV (zeroV (tk, tn)) : Value), (.bool true : Value), (.bool true : Value), (.bool true : Value)] (by kernel_rfl) (by rfl) (by kernel_rfl) (Keeps.refl _ _) (fun A hA => ?_)
      simp only [putAll, Act.put, List.setIfInBounds_toArray, List.set_cons_zero, List.set_cons_succ] at hA
      subst hA
      refine ⟨gY (fun _ k9 => hld_v (keep_heap C8.out k9) rfl rfl) <| gY (fun _ _ => hbuild0 rfl) <| AllGive.cons (give_call (by rfl) 13 #[vlV (0, 0, false), vlV (0, 0, false)] (fun w => exec_call2 rfl rfl rfl rfl (enter_eqv _ _ w)) (fun w _ => eqv_same _ w)) <| gR <| gY (fun _ k9 => hld_t (keep_heap C5.out k9) rfl rfl) <| AllGive.cons (give_call (by rfl) 20 #[tyV (tk, tn)] (fun w => exec_call1 rfl rfl rfl (enter_zero _ w)) (fun w _ => zero_any (tk, tn) w)) <| gY (fun _ k9 => hld_t (keep_heap C5.out k9) rfl rfl) <| AllGive.cons (give_call (by rfl) 10 #[tyV (tk, tn)] (fun w => exec_call1 rfl rfl rfl (enter_rzero _ w)) (fun w _ => rzero_any (tk, tn) w)) <| AllGive.cons (give_call (by rfl) 13 #[vlV (zeroV (tk, tn)), vlV (zeroV (tk, tn))] (fun w => exec_call2 rfl rfl rfl rfl (enter_eqv _ _ w)) (fun w _ => eqv_same _ w)) <| gR <| gR <| AllGive.nil, fun w9 k9 => ?_⟩
      go_wp2_with fail
      go_ret
      exact ⟨rfl, K4.out.quiet k9⟩
  · have e : addV (ak, an, at') (bk, bn, bt) = (0, 0, false) := if_pos (.inl h1)
    rw [e]
    clear e
    have ha : (ak != 0) = true := by simpa using h1
    go_upto_region 5 with fail
    have K4 := hid (K3.out.quiet (Keeps.alloc [] w3 (.cells #[.int .i64 0, .int .i64 0, .bool false] 29)))
    have C8 := hid (heap_new w3 (.cells #[.int .i64 0, .int .i64 0, .bool false] 29))
    have CA := hid (keep_heap CA3.out (Keeps.alloc [] w3 (.cells #[.int .i64 0, .int .i64 0, .bool false] 29)))
    have CB := hid (keep_heap CB3.out (Keeps.alloc [] w3 (.cells #[.int .i64 0, .int .i64 0, .bool false] 29)))
    have C5 := hid (keep_heap CT3.out (Keeps.alloc [] w3 (.cells #[.int .i64 0, .int .i64 0, .bool false] 29)))
    generalize w3.alloc (.cells #[.int .i64 0, .int .i64 0, .bool false] 29) = w8 at *
    generalize w3.heap.size = x8 at *
    clear K3 CA3 CB3 CT3
    have a0 := hcell CA.out 0
    have b0 := hcell CB.out 0
    go_upto_region 6 with fail
    clear a0 b0
    refine wp_region_det (W0 := w8) 54 [(.agg #[.int .i64 0, .int .i64 0, .bool false] : Value), (.agg #[.int .i64 0, .int .i64 0, .bool false] : Value), (.bool true : Value), (.bool true : Value), (.agg #[.int .i64 tk, .int .i64 tn] : Value), (vlV (zeroV (tk, tn)) : Value), (.agg #[.int .i64 tk, .int .i64 tn] : Value), (vlV (zeroV (tk, tn)) : Value), (.bool true : Value), (.bool true : Value), (.bool true : Value)] (by kernel_rfl) (by rfl) (by kernel_rfl) (Keeps.refl _ _) (fun A hA => ?_)
    simp only [putAll, Act.put, List.setIfInBounds_toArray, List.set_cons_zero, List.set_cons_succ] at hA
    subst hA
    refine ⟨gY (fun _ k9 => hld_v (keep_heap C8.out k9) rfl rfl) <| gY (fun _ _ => hbuild0 rfl) <| AllGive.cons (give_call (by rfl) 13 #[vlV (0, 0, false), vlV (0, 0, false)] (fun w => exec_call2 rfl rfl rfl rfl (enter_eqv _ _ w)) (fun w _ => eqv_same _ w)) <| gR <| gY (fun _ k9 => hld_t (keep_heap C5.out k9) rfl rfl) <| AllGive.cons (give_call (by rfl) 20 #[tyV (tk, tn)] (fun w => exec_call1 rfl rfl rfl (enter_zero _ w)) (fun w _ => zero_any (tk, tn) w)) <| gY (fun _ k9 => hld_t (keep_heap C5.out k9) rfl rfl) <| AllGive.cons (give_call (by rfl) 10 #[tyV (tk, tn)] (fun w => exec_call1 rfl rfl rfl (enter_rzero _ w)) (fun w _ => rzero_any (tk, tn) w)) <| AllGive.cons (give_call (by rfl) 13 #[vlV (zeroV (tk, tn)), vlV (zeroV (tk, tn))] (fun w => exec_call2 rfl rfl rfl rfl (enter_eqv _ _ w)) (fun w _ => eqv_same _ w)) <| gR <| gR <| AllGive.nil, fun w9 k9 => ?_⟩
    go_wp2_with fail
    go_ret
    exact ⟨rfl, K4.out.quiet k9⟩
end Go.Proofs.Ytpllhcifoiahpaa
