/-
  The statement SetLaws: its walk.
-/
import Derived.Test.YtcmbhmlpififiaaDoorOrder
namespace Go.Proofs.YtcmbhmlpififiaaDoor
open Go.RowKit

theorem laws_join (x y z : Nat → Bool) : both or (both or z x) y = both or (both or x y) z := by
  funext n; simp only [both]; cases x n <;> cases y n <;> cases z n <;> rfl
theorem laws_back (x y : Nat → Bool) : both or (both lessB x y) (both and x y) = x := by
  funext n; simp only [both, lessB]; cases x n <;> cases y n <;> rfl
theorem laws_meet (x y : Nat → Bool) : both and y x = both and x y := by
  funext n; simp only [both]; cases x n <;> cases y n <;> rfl
theorem laws_meet3 (x y z : Nat → Bool) : both and x (both and y z) = both and (both and x y) z := by
  funext n; simp only [both]; cases x n <;> cases y n <;> cases z n <;> rfl
theorem laws_in (x y z : Nat → Bool) (hf : Fit x) : subI x (both or (both or x y) z) = true := by
  rw [subI_iff x _ hf]; intro n h; simp [both, h]
theorem laws_less (x : Nat → Bool) : both lessB x x = none_ := by
  funext n; simp only [both, lessB, none_]; cases x n <;> rfl
theorem laws_meetl (x y z : Nat → Bool) : both and x (both or (both or x y) z) = x := by
  funext n; simp only [both]; cases x n <;> cases y n <;> cases z n <;> rfl
theorem laws_none : elems none_ = [] := elems_none

set_option maxHeartbeats 4000000 in
theorem laws_any (a0 : Option Addr) (cap0 : Nat) (z0 : List Int) (a1 : Option Addr) (cap1 : Nat) (z1 : List Int) (a2 : Option Addr) (cap2 : Nat) (z2 : List Int) (w : World) (hT : TabAt w)
    (h0 : IntsAt w a0 z0) (_l0 : z0.length ≤ maxLen) (c0 : z0.length ≤ cap0) (h1 : IntsAt w a1 z1) (_l1 : z1.length ≤ maxLen) (c1 : z1.length ≤ cap1) (h2 : IntsAt w a2 z2) (_l2 : z2.length ≤ maxLen) (c2 : z2.length ≤ cap2) :
    Calls Tryd.prog 8 #[.slice a0 z0.length cap0, .slice a1 z1.length cap1, .slice a2 z2.length cap2] w fun e w' => e = .returned (.bool true) ∧ Keeps [] w w' := by
  have HB := hid (begun_any w hT)
  have HCt0 := hid fun (w1 : World) (hk : Keeps [] w w1) => cut_any a0 cap0 z0 30 w1 (h0.kept hk (fun _ _ _ => by simp)) c0
  have HI0 := hid (h0.take 30)
  have hL0 : (z0.take 30).length ≤ 30 := List.length_take_le _ _
  generalize z0.take 30 = y0 at HCt0 HI0 hL0
  generalize hn0 : y0.length = n0 at HCt0 hL0
  have HN0 := hid hn0
  clear hn0 h0 c0
  have HCt1 := hid fun (w1 : World) (hk : Keeps [] w w1) => cut_any a1 cap1 z1 30 w1 (h1.kept hk (fun _ _ _ => by simp)) c1
  have HI1 := hid (h1.take 30)
  have hL1 : (z1.take 30).length ≤ 30 := List.length_take_le _ _
  generalize z1.take 30 = y1 at HCt1 HI1 hL1
  generalize hn1 : y1.length = n1 at HCt1 hL1
  have HN1 := hid hn1
  clear hn1 h1 c1
  have HCt2 := hid fun (w1 : World) (hk : Keeps [] w w1) => cut_any a2 cap2 z2 30 w1 (h2.kept hk (fun _ _ _ => by simp)) c2
  have HI2 := hid (h2.take 30)
  have hL2 : (z2.take 30).length ≤ 30 := List.length_take_le _ _
  generalize z2.take 30 = y2 at HCt2 HI2 hL2
  generalize hn2 : y2.length = n2 at HCt2 hL2
  have HN2 := hid hn2
  clear hn2 h2 c2
  have hKw := Keeps.refl [] w
  clear hT _l0 _l1 _l2
  go_enter Tryd.func8, Tryd.ntmps8
  go_wp2_with fail
  refine HB.out.mono ?_
  rintro e w1 ⟨rfl, hk1⟩
  have hI01 := hid (HI0.out.kept hk1 (fun _ _ _ => by simp))
  have hI11 := hid (HI1.out.kept hk1 (fun _ _ _ => by simp))
  have hI21 := hid (HI2.out.kept hk1 (fun _ _ _ => by simp))
  have hK1 := hKw.quiet hk1
  clear HB hk1 HI0 HI1 HI2 hKw
  have HA := hid (HCt0.out _ hK1)
  go_wp2_with fail
  refine HA.out.mono ?_
  rintro e w2 ⟨rfl, hw2⟩
  obtain rfl := hw2.symm
  clear hw2 HA
  clear HCt0
  have HA := hid (HCt1.out _ hK1)
  go_wp2_with fail
  refine HA.out.mono ?_
  rintro e w3 ⟨rfl, hw3⟩
  obtain rfl := hw3.symm
  clear hw3 HA
  clear HCt1
  have HA := hid (HCt2.out _ hK1)
  go_wp2_with fail
  refine HA.out.mono ?_
  rintro e w4 ⟨rfl, hw4⟩
  obtain rfl := hw4.symm
  clear hw4 HA
  clear HCt2
  have HA := hid (of_any a0 cap0 y0 w1 hI01.out (by rw [HN0.out]; omega))
  rw [HN0.out] at HA
  clear hI01 HN0
  go_wp2_with fail
  refine HA.out.mono ?_
  rintro e w5 ⟨rfl, hs5, hk5⟩
  have hnX : w.heap.size ≤ w1.heap.size := hK1.size
  have hI15 := hid (hI11.out.kept hk5 (fun _ _ _ => by simp))
  have hI25 := hid (hI21.out.kept hk5 (fun _ _ _ => by simp))
  have hK5 := hK1.quiet hk5
  have hSX5 := hid hs5
  clear HA hs5 hk5 hI11 hI21 hK1
  generalize w1.heap.size = X at hnX hSX5 ⊢
  have hFX : Box (Fit (ofI y0)) := hid (fit_ofI y0)
  generalize ofI y0 = x at hFX hSX5
  have HA := hid (of_any a1 cap1 y1 w5 hI15.out (by rw [HN1.out]; omega))
  rw [HN1.out] at HA
  clear hI15 HN1
  go_wp2_with fail
  refine HA.out.mono ?_
  rintro e w6 ⟨rfl, hs6, hk6⟩
  have hnY : w.heap.size ≤ w5.heap.size ∧ X < w5.heap.size := ⟨hK5.size, hSX5.out.lt⟩
  have hSX6 := hid (hSX5.out.kept hk6 (by simp))
  have hI26 := hid (hI25.out.kept hk6 (fun _ _ _ => by simp))
  have hK6 := hK5.quiet hk6
  have hSY6 := hid hs6
  clear HA hs6 hk6 hSX5 hI25 hK5
  generalize w5.heap.size = Y at hnY hSY6 ⊢
  have hFY : Box (Fit (ofI y1)) := hid (fit_ofI y1)
  generalize ofI y1 = y at hFY hSY6
  have HA := hid (of_any a2 cap2 y2 w6 hI26.out (by rw [HN2.out]; omega))
  rw [HN2.out] at HA
  clear hI26 HN2
  go_wp2_with fail
  refine HA.out.mono ?_
  rintro e w7 ⟨rfl, hs7, hk7⟩
  have hnZ : w.heap.size ≤ w6.heap.size ∧ X < w6.heap.size ∧ Y < w6.heap.size := ⟨hK6.size, hSX6.out.lt, hSY6.out.lt⟩
  have hSX7 := hid (hSX6.out.kept hk7 (by simp))
  have hSY7 := hid (hSY6.out.kept hk7 (by simp))
  have hK7 := hK6.quiet hk7
  have hSZ7 := hid hs7
  clear HA hs7 hk7 hSX6 hSY6 hK6
  generalize w6.heap.size = Z at hnZ hSZ7 ⊢
  have hFZ : Box (Fit (ofI y2)) := hid (fit_ofI y2)
  generalize ofI y2 = z at hFZ hSZ7
  have HA := hid (copy_any X x w7 hSX7.out)
  go_wp2_with fail
  refine HA.out.mono ?_
  rintro e w8 ⟨rfl, hs8, hk8⟩
  have hnL : w.heap.size ≤ w7.heap.size ∧ X < w7.heap.size ∧ Y < w7.heap.size ∧ Z < w7.heap.size := ⟨hK7.size, hSX7.out.lt, hSY7.out.lt, hSZ7.out.lt⟩
  have hSX8 := hid (hSX7.out.kept hk8 (by simp))
  have hSY8 := hid (hSY7.out.kept hk8 (by simp))
  have hSZ8 := hid (hSZ7.out.kept hk8 (by simp))
  have hK8 := hK7.quiet hk8
  have hSL8 := hid hs8
  clear HA hs8 hk8 hSX7 hSY7 hSZ7 hK7
  generalize w7.heap.size = L at hnL hSL8 ⊢
  have HA := hid (join_any L (some Y) x y w8 hSL8.out hSY8.out hFX.out hFY.out)
  generalize (!subI y x) = bb at HA
  go_wp2_with fail
  refine HA.out.mono ?_
  rintro e w9 ⟨rfl, hs9, hk9⟩
  have hSX9 := hid (hSX8.out.kept hk9 (by simp; omega))
  have hSY9 := hid (hSY8.out.kept hk9 (by simp; omega))
  have hSZ9 := hid (hSZ8.out.kept hk9 (by simp; omega))
  have hK9 : Keeps [] w w9 := hK8.trans hk9 fun x hx hl => by simp at hx; omega
  have hSL9 := hid hs9
  clear HA hs9 hk9 hSL8 hSX8 hSY8 hSZ8 hK8
  have HA := hid (join_any L (some Z) (both or x y) z w9 hSL9.out hSZ9.out (fit_both or _ _ hFX.out hFY.out rfl) hFZ.out)
  generalize (!subI z (both or x y)) = bb at HA
  go_wp2_with fail
  refine HA.out.mono ?_
  rintro e w10 ⟨rfl, hs10, hk10⟩
  have hSX10 := hid (hSX9.out.kept hk10 (by simp; omega))
  have hSY10 := hid (hSY9.out.kept hk10 (by simp; omega))
  have hSZ10 := hid (hSZ9.out.kept hk10 (by simp; omega))
  have hK10 : Keeps [] w w10 := hK9.trans hk10 fun x hx hl => by simp at hx; omega
  have hSL10 := hid hs10
  clear HA hs10 hk10 hSL9 hSX9 hSY9 hSZ9 hK9
  have hFL := hid (fit_both or _ _ (fit_both or _ _ hFX.out hFY.out rfl) hFZ.out rfl)
  have HA := hid (copy_any Z z w10 hSZ10.out)
  go_wp2_with fail
  refine HA.out.mono ?_
  rintro e w11 ⟨rfl, hs11, hk11⟩
  have hnM : w.heap.size ≤ w10.heap.size ∧ X < w10.heap.size ∧ Y < w10.heap.size ∧ Z < w10.heap.size ∧ L < w10.heap.size := ⟨hK10.size, hSX10.out.lt, hSY10.out.lt, hSZ10.out.lt, hSL10.out.lt⟩
  have hSX11 := hid (hSX10.out.kept hk11 (by simp))
  have hSY11 := hid (hSY10.out.kept hk11 (by simp))
  have hSZ11 := hid (hSZ10.out.kept hk11 (by simp))
  have hSL11 := hid (hSL10.out.kept hk11 (by simp))
  have hK11 := hK10.quiet hk11
  have hSM11 := hid hs11
  clear HA hs11 hk11 hSX10 hSY10 hSZ10 hSL10 hK10
  generalize w10.heap.size = M at hnM hSM11 ⊢
  have HA := hid (join_any M (some X) z x w11 hSM11.out hSX11.out hFZ.out hFX.out)
  generalize (!subI x z) = bb at HA
  go_wp2_with fail
  refine HA.out.mono ?_
  rintro e w12 ⟨rfl, hs12, hk12⟩
  have hSX12 := hid (hSX11.out.kept hk12 (by simp; omega))
  have hSY12 := hid (hSY11.out.kept hk12 (by simp; omega))
  have hSZ12 := hid (hSZ11.out.kept hk12 (by simp; omega))
  have hSL12 := hid (hSL11.out.kept hk12 (by simp; omega))
  have hK12 : Keeps [] w w12 := hK11.trans hk12 fun x hx hl => by simp at hx; omega
  have hSM12 := hid hs12
  clear HA hs12 hk12 hSM11 hSX11 hSY11 hSZ11 hSL11 hK11
  have HA := hid (join_any M (some Y) (both or z x) y w12 hSM12.out hSY12.out (fit_both or _ _ hFZ.out hFX.out rfl) hFY.out)
  rw [laws_join x y z] at HA
  generalize (!subI y (both or z x)) = bb at HA
  go_wp2_with fail
  refine HA.out.mono ?_
  rintro e w13 ⟨rfl, hs13, hk13⟩
  have hSX13 := hid (hSX12.out.kept hk13 (by simp; omega))
  have hSY13 := hid (hSY12.out.kept hk13 (by simp; omega))
  have hSZ13 := hid (hSZ12.out.kept hk13 (by simp; omega))
  have hSL13 := hid (hSL12.out.kept hk13 (by simp; omega))
  have hK13 : Keeps [] w w13 := hK12.trans hk13 fun x hx hl => by simp at hx; omega
  have hSM13 := hid hs13
  clear HA hs13 hk13 hSM12 hSX12 hSY12 hSZ12 hSL12 hK12
  have HA := hid (less_or (some X) (some Y) x y w13 hSX13.out hSY13.out hFX.out hFY.out)
  go_wp2_with fail
  refine HA.out.mono ?_
  rintro e w14 ⟨rfl, hs14, hk14⟩
  have hnN : w.heap.size ≤ w13.heap.size ∧ X < w13.heap.size ∧ Y < w13.heap.size ∧ Z < w13.heap.size ∧ L < w13.heap.size ∧ M < w13.heap.size := ⟨hK13.size, hSX13.out.lt, hSY13.out.lt, hSZ13.out.lt, hSL13.out.lt, hSM13.out.lt⟩
  have hSX14 := hid (hSX13.out.kept hk14 (by simp))
  have hSY14 := hid (hSY13.out.kept hk14 (by simp))
  have hSZ14 := hid (hSZ13.out.kept hk14 (by simp))
  have hSL14 := hid (hSL13.out.kept hk14 (by simp))
  have hSM14 := hid (hSM13.out.kept hk14 (by simp))
  have hK14 := hK13.quiet hk14
  have hSN14 := hid hs14
  clear HA hs14 hk14 hSX13 hSY13 hSZ13 hSL13 hSM13 hK13
  generalize w13.heap.size = N at hnN hSN14 ⊢
  have HA := hid (meet_or (some X) (some Y) x y w14 hSX14.out hSY14.out hFX.out hFY.out)
  go_wp2_with fail
  refine HA.out.mono ?_
  rintro e w15 ⟨rfl, hs15, hk15⟩
  have hnT : w.heap.size ≤ w14.heap.size ∧ X < w14.heap.size ∧ Y < w14.heap.size ∧ Z < w14.heap.size ∧ L < w14.heap.size ∧ M < w14.heap.size ∧ N < w14.heap.size := ⟨hK14.size, hSX14.out.lt, hSY14.out.lt, hSZ14.out.lt, hSL14.out.lt, hSM14.out.lt, hSN14.out.lt⟩
  have hSX15 := hid (hSX14.out.kept hk15 (by simp))
  have hSY15 := hid (hSY14.out.kept hk15 (by simp))
  have hSZ15 := hid (hSZ14.out.kept hk15 (by simp))
  have hSL15 := hid (hSL14.out.kept hk15 (by simp))
  have hSM15 := hid (hSM14.out.kept hk15 (by simp))
  have hSN15 := hid (hSN14.out.kept hk15 (by simp))
  have hK15 := hK14.quiet hk15
  have hST15 := hid hs15
  clear HA hs15 hk15 hSX14 hSY14 hSZ14 hSL14 hSM14 hSN14 hK14
  generalize w14.heap.size = T at hnT hST15 ⊢
  have HA := hid (join_any N (some T) (both lessB x y) (both and x y) w15 hSN15.out hST15.out (fit_both lessB _ _ hFX.out hFY.out rfl) (fit_both and _ _ hFX.out hFY.out rfl))
  rw [laws_back x y] at HA
  generalize (!subI (both and x y) (both lessB x y)) = bb at HA
  go_wp2_with fail
  refine HA.out.mono ?_
  rintro e w16 ⟨rfl, hs16, hk16⟩
  have hSX16 := hid (hSX15.out.kept hk16 (by simp; omega))
  have hSY16 := hid (hSY15.out.kept hk16 (by simp; omega))
  have hSZ16 := hid (hSZ15.out.kept hk16 (by simp; omega))
  have hSL16 := hid (hSL15.out.kept hk16 (by simp; omega))
  have hSM16 := hid (hSM15.out.kept hk16 (by simp; omega))
  have hST16 := hid (hST15.out.kept hk16 (by simp; omega))
  have hK16 : Keeps [] w w16 := hK15.trans hk16 fun x hx hl => by simp at hx; omega
  have hSN16 := hid hs16
  clear HA hs16 hk16 hSN15 hSX15 hSY15 hSZ15 hSL15 hSM15 hST15 hK15
  clear hST16 hnT
  have HA := hid (seq_or (some L) (some M) (both or (both or x y) z) (both or (both or x y) z) w16 hSL16.out hSM16.out hFL.out hFL.out)
  rw [eqI_self _ hFL.out] at HA
  go_wp2_with fail
  refine HA.out.mono ?_
  rintro e w17 ⟨rfl, hw17⟩
  obtain rfl := hw17.symm
  clear hw17 HA
  have HA := hid (seq_or (some N) (some X) x x w16 hSN16.out hSX16.out hFX.out hFX.out)
  rw [eqI_self _ hFX.out] at HA
  go_wp2_with fail
  refine HA.out.mono ?_
  rintro e w18 ⟨rfl, hw18⟩
  obtain rfl := hw18.symm
  clear hw18 HA
  have HA := hid (meet_or (some X) (some Y) x y w16 hSX16.out hSY16.out hFX.out hFY.out)
  go_wp2_with fail
  refine HA.out.mono ?_
  rintro e w19 ⟨rfl, hs19, hk19⟩
  have hnT1 : w.heap.size ≤ w16.heap.size ∧ X < w16.heap.size ∧ Y < w16.heap.size ∧ Z < w16.heap.size ∧ L < w16.heap.size ∧ M < w16.heap.size ∧ N < w16.heap.size := ⟨hK16.size, hSX16.out.lt, hSY16.out.lt, hSZ16.out.lt, hSL16.out.lt, hSM16.out.lt, hSN16.out.lt⟩
  have hSX19 := hid (hSX16.out.kept hk19 (by simp))
  have hSY19 := hid (hSY16.out.kept hk19 (by simp))
  have hSZ19 := hid (hSZ16.out.kept hk19 (by simp))
  have hSL19 := hid (hSL16.out.kept hk19 (by simp))
  have hSM19 := hid (hSM16.out.kept hk19 (by simp))
  have hSN19 := hid (hSN16.out.kept hk19 (by simp))
  have hK19 := hK16.quiet hk19
  have hST119 := hid hs19
  clear HA hs19 hk19 hSX16 hSY16 hSZ16 hSL16 hSM16 hSN16 hK16
  generalize w16.heap.size = T1 at hnT1 hST119 ⊢
  have HA := hid (meet_or (some Y) (some X) y x w19 hSY19.out hSX19.out hFY.out hFX.out)
  rw [laws_meet x y] at HA
  go_wp2_with fail
  refine HA.out.mono ?_
  rintro e w20 ⟨rfl, hs20, hk20⟩
  have hnT2 : w.heap.size ≤ w19.heap.size ∧ X < w19.heap.size ∧ Y < w19.heap.size ∧ Z < w19.heap.size ∧ L < w19.heap.size ∧ M < w19.heap.size ∧ N < w19.heap.size ∧ T1 < w19.heap.size := ⟨hK19.size, hSX19.out.lt, hSY19.out.lt, hSZ19.out.lt, hSL19.out.lt, hSM19.out.lt, hSN19.out.lt, hST119.out.lt⟩
  have hSX20 := hid (hSX19.out.kept hk20 (by simp))
  have hSY20 := hid (hSY19.out.kept hk20 (by simp))
  have hSZ20 := hid (hSZ19.out.kept hk20 (by simp))
  have hSL20 := hid (hSL19.out.kept hk20 (by simp))
  have hSM20 := hid (hSM19.out.kept hk20 (by simp))
  have hSN20 := hid (hSN19.out.kept hk20 (by simp))
  have hST120 := hid (hST119.out.kept hk20 (by simp))
  have hK20 := hK19.quiet hk20
  have hST220 := hid hs20
  clear HA hs20 hk20 hSX19 hSY19 hSZ19 hSL19 hSM19 hSN19 hST119 hK19
  generalize w19.heap.size = T2 at hnT2 hST220 ⊢
  have HA := hid (seq_or (some T1) (some T2) (both and x y) (both and x y) w20 hST120.out hST220.out (fit_both and _ _ hFX.out hFY.out rfl) (fit_both and _ _ hFX.out hFY.out rfl))
  rw [eqI_self _ (fit_both and _ _ hFX.out hFY.out rfl)] at HA
  go_wp2_with fail
  refine HA.out.mono ?_
  rintro e w21 ⟨rfl, hw21⟩
  obtain rfl := hw21.symm
  clear hw21 HA
  clear hST220 hnT2
  clear hST120 hnT1
  have HA := hid (meet_or (some X) (some Y) x y w20 hSX20.out hSY20.out hFX.out hFY.out)
  go_wp2_with fail
  refine HA.out.mono ?_
  rintro e w22 ⟨rfl, hs22, hk22⟩
  have hnT3 : w.heap.size ≤ w20.heap.size ∧ X < w20.heap.size ∧ Y < w20.heap.size ∧ Z < w20.heap.size ∧ L < w20.heap.size ∧ M < w20.heap.size ∧ N < w20.heap.size := ⟨hK20.size, hSX20.out.lt, hSY20.out.lt, hSZ20.out.lt, hSL20.out.lt, hSM20.out.lt, hSN20.out.lt⟩
  have hSX22 := hid (hSX20.out.kept hk22 (by simp))
  have hSY22 := hid (hSY20.out.kept hk22 (by simp))
  have hSZ22 := hid (hSZ20.out.kept hk22 (by simp))
  have hSL22 := hid (hSL20.out.kept hk22 (by simp))
  have hSM22 := hid (hSM20.out.kept hk22 (by simp))
  have hSN22 := hid (hSN20.out.kept hk22 (by simp))
  have hK22 := hK20.quiet hk22
  have hST322 := hid hs22
  clear HA hs22 hk22 hSX20 hSY20 hSZ20 hSL20 hSM20 hSN20 hK20
  generalize w20.heap.size = T3 at hnT3 hST322 ⊢
  have HA := hid (meet_or (some T3) (some Z) (both and x y) z w22 hST322.out hSZ22.out (fit_both and _ _ hFX.out hFY.out rfl) hFZ.out)
  go_wp2_with fail
  refine HA.out.mono ?_
  rintro e w23 ⟨rfl, hs23, hk23⟩
  have hnT4 : w.heap.size ≤ w22.heap.size ∧ X < w22.heap.size ∧ Y < w22.heap.size ∧ Z < w22.heap.size ∧ L < w22.heap.size ∧ M < w22.heap.size ∧ N < w22.heap.size ∧ T3 < w22.heap.size := ⟨hK22.size, hSX22.out.lt, hSY22.out.lt, hSZ22.out.lt, hSL22.out.lt, hSM22.out.lt, hSN22.out.lt, hST322.out.lt⟩
  have hSX23 := hid (hSX22.out.kept hk23 (by simp))
  have hSY23 := hid (hSY22.out.kept hk23 (by simp))
  have hSZ23 := hid (hSZ22.out.kept hk23 (by simp))
  have hSL23 := hid (hSL22.out.kept hk23 (by simp))
  have hSM23 := hid (hSM22.out.kept hk23 (by simp))
  have hSN23 := hid (hSN22.out.kept hk23 (by simp))
  have hST323 := hid (hST322.out.kept hk23 (by simp))
  have hK23 := hK22.quiet hk23
  have hST423 := hid hs23
  clear HA hs23 hk23 hSX22 hSY22 hSZ22 hSL22 hSM22 hSN22 hST322 hK22
  generalize w22.heap.size = T4 at hnT4 hST423 ⊢
  have HA := hid (meet_or (some Y) (some Z) y z w23 hSY23.out hSZ23.out hFY.out hFZ.out)
  go_wp2_with fail
  refine HA.out.mono ?_
  rintro e w24 ⟨rfl, hs24, hk24⟩
  have hnT5 : w.heap.size ≤ w23.heap.size ∧ X < w23.heap.size ∧ Y < w23.heap.size ∧ Z < w23.heap.size ∧ L < w23.heap.size ∧ M < w23.heap.size ∧ N < w23.heap.size ∧ T3 < w23.heap.size ∧ T4 < w23.heap.size := ⟨hK23.size, hSX23.out.lt, hSY23.out.lt, hSZ23.out.lt, hSL23.out.lt, hSM23.out.lt, hSN23.out.lt, hST323.out.lt, hST423.out.lt⟩
  have hSX24 := hid (hSX23.out.kept hk24 (by simp))
  have hSY24 := hid (hSY23.out.kept hk24 (by simp))
  have hSZ24 := hid (hSZ23.out.kept hk24 (by simp))
  have hSL24 := hid (hSL23.out.kept hk24 (by simp))
  have hSM24 := hid (hSM23.out.kept hk24 (by simp))
  have hSN24 := hid (hSN23.out.kept hk24 (by simp))
  have hST324 := hid (hST323.out.kept hk24 (by simp))
  have hST424 := hid (hST423.out.kept hk24 (by simp))
  have hK24 := hK23.quiet hk24
  have hST524 := hid hs24
  clear HA hs24 hk24 hSX23 hSY23 hSZ23 hSL23 hSM23 hSN23 hST323 hST423 hK23
  generalize w23.heap.size = T5 at hnT5 hST524 ⊢
  have HA := hid (meet_or (some X) (some T5) x (both and y z) w24 hSX24.out hST524.out hFX.out (fit_both and _ _ hFY.out hFZ.out rfl))
  rw [laws_meet3 x y z] at HA
  go_wp2_with fail
  refine HA.out.mono ?_
  rintro e w25 ⟨rfl, hs25, hk25⟩
  have hnT6 : w.heap.size ≤ w24.heap.size ∧ X < w24.heap.size ∧ Y < w24.heap.size ∧ Z < w24.heap.size ∧ L < w24.heap.size ∧ M < w24.heap.size ∧ N < w24.heap.size ∧ T3 < w24.heap.size ∧ T4 < w24.heap.size ∧ T5 < w24.heap.size := ⟨hK24.size, hSX24.out.lt, hSY24.out.lt, hSZ24.out.lt, hSL24.out.lt, hSM24.out.lt, hSN24.out.lt, hST324.out.lt, hST424.out.lt, hST524.out.lt⟩
  have hSX25 := hid (hSX24.out.kept hk25 (by simp))
  have hSY25 := hid (hSY24.out.kept hk25 (by simp))
  have hSZ25 := hid (hSZ24.out.kept hk25 (by simp))
  have hSL25 := hid (hSL24.out.kept hk25 (by simp))
  have hSM25 := hid (hSM24.out.kept hk25 (by simp))
  have hSN25 := hid (hSN24.out.kept hk25 (by simp))
  have hST325 := hid (hST324.out.kept hk25 (by simp))
  have hST425 := hid (hST424.out.kept hk25 (by simp))
  have hST525 := hid (hST524.out.kept hk25 (by simp))
  have hK25 := hK24.quiet hk25
  have hST625 := hid hs25
  clear HA hs25 hk25 hSX24 hSY24 hSZ24 hSL24 hSM24 hSN24 hST324 hST424 hST524 hK24
  generalize w24.heap.size = T6 at hnT6 hST625 ⊢
  have HA := hid (seq_or (some T4) (some T6) (both and (both and x y) z) (both and (both and x y) z) w25 hST425.out hST625.out (fit_both and _ _ (fit_both and _ _ hFX.out hFY.out rfl) hFZ.out rfl) (fit_both and _ _ (fit_both and _ _ hFX.out hFY.out rfl) hFZ.out rfl))
  rw [eqI_self _ (fit_both and _ _ (fit_both and _ _ hFX.out hFY.out rfl) hFZ.out rfl)] at HA
  go_wp2_with fail
  refine HA.out.mono ?_
  rintro e w26 ⟨rfl, hw26⟩
  obtain rfl := hw26.symm
  clear hw26 HA
  clear hST625 hnT6
  clear hST525 hnT5
  clear hST425 hnT4
  clear hST325 hnT3
  have HA := hid (in_or (some X) (some L) x (both or (both or x y) z) w25 hSX25.out hSL25.out hFX.out)
  rw [laws_in x y z hFX.out] at HA
  go_wp2_with fail
  refine HA.out.mono ?_
  rintro e w27 ⟨rfl, hw27⟩
  obtain rfl := hw27.symm
  clear hw27 HA
  have HA := hid (less_or (some X) (some X) x x w25 hSX25.out hSX25.out hFX.out hFX.out)
  rw [laws_less x] at HA
  go_wp2_with fail
  refine HA.out.mono ?_
  rintro e w28 ⟨rfl, hs28, hk28⟩
  have hnT7 : w.heap.size ≤ w25.heap.size ∧ X < w25.heap.size ∧ Y < w25.heap.size ∧ Z < w25.heap.size ∧ L < w25.heap.size ∧ M < w25.heap.size ∧ N < w25.heap.size := ⟨hK25.size, hSX25.out.lt, hSY25.out.lt, hSZ25.out.lt, hSL25.out.lt, hSM25.out.lt, hSN25.out.lt⟩
  have hSX28 := hid (hSX25.out.kept hk28 (by simp))
  have hSY28 := hid (hSY25.out.kept hk28 (by simp))
  have hSZ28 := hid (hSZ25.out.kept hk28 (by simp))
  have hSL28 := hid (hSL25.out.kept hk28 (by simp))
  have hSM28 := hid (hSM25.out.kept hk28 (by simp))
  have hSN28 := hid (hSN25.out.kept hk28 (by simp))
  have hK28 := hK25.quiet hk28
  have hST728 := hid hs28
  clear HA hs28 hk28 hSX25 hSY25 hSZ25 hSL25 hSM25 hSN25 hK25
  generalize w25.heap.size = T7 at hnT7 hST728 ⊢
  have HA := hid (len_any T7 none_ w28 hST728.out fit_none)
  rw [laws_none] at HA
  go_wp2_with fail
  refine HA.out.mono ?_
  rintro e w29 ⟨rfl, hw29⟩
  obtain rfl := hw29.symm
  clear hw29 HA
  clear hST728 hnT7
  have HA := hid (meet_or (some X) (some L) x (both or (both or x y) z) w28 hSX28.out hSL28.out hFX.out hFL.out)
  rw [laws_meetl x y z] at HA
  go_wp2_with fail
  refine HA.out.mono ?_
  rintro e w30 ⟨rfl, hs30, hk30⟩
  have hnT8 : w.heap.size ≤ w28.heap.size ∧ X < w28.heap.size ∧ Y < w28.heap.size ∧ Z < w28.heap.size ∧ L < w28.heap.size ∧ M < w28.heap.size ∧ N < w28.heap.size := ⟨hK28.size, hSX28.out.lt, hSY28.out.lt, hSZ28.out.lt, hSL28.out.lt, hSM28.out.lt, hSN28.out.lt⟩
  have hSX30 := hid (hSX28.out.kept hk30 (by simp))
  have hSY30 := hid (hSY28.out.kept hk30 (by simp))
  have hSZ30 := hid (hSZ28.out.kept hk30 (by simp))
  have hSL30 := hid (hSL28.out.kept hk30 (by simp))
  have hSM30 := hid (hSM28.out.kept hk30 (by simp))
  have hSN30 := hid (hSN28.out.kept hk30 (by simp))
  have hK30 := hK28.quiet hk30
  have hST830 := hid hs30
  clear HA hs30 hk30 hSX28 hSY28 hSZ28 hSL28 hSM28 hSN28 hK28
  generalize w28.heap.size = T8 at hnT8 hST830 ⊢
  have HA := hid (seq_or (some T8) (some X) x x w30 hST830.out hSX30.out hFX.out hFX.out)
  rw [eqI_self _ hFX.out] at HA
  go_wp2_with fail
  refine HA.out.mono ?_
  rintro e w31 ⟨rfl, hw31⟩
  obtain rfl := hw31.symm
  clear hw31 HA
  go_wp2
  go_ret
  exact ⟨rfl, hK30⟩
end Go.Proofs.YtcmbhmlpififiaaDoor
