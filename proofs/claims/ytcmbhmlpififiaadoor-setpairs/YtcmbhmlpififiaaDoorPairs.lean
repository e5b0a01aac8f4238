/-
  The statement SetPairs: its walk.
-/
import Derived.Test.YtcmbhmlpififiaaDoorWithout
import Derived.Test.YtcmbhmlpififiaaDoorCut
namespace Go.Proofs.YtcmbhmlpififiaaDoor
open Go.RowKit

theorem pairs_eqI_self (s : Nat → Bool) (hf : Fit s) : eqI s s = true := (eqI_iff s s hf hf).2 rfl

set_option maxHeartbeats 4000000 in
theorem pairs_any (a0 : Option Addr) (cap0 : Nat) (z0 : List Int) (a1 : Option Addr) (cap1 : Nat) (z1 : List Int) (w : World) (hT : TabAt w)
    (h0 : IntsAt w a0 z0) (_l0 : z0.length ≤ maxLen) (c0 : z0.length ≤ cap0) (h1 : IntsAt w a1 z1) (_l1 : z1.length ≤ maxLen) (c1 : z1.length ≤ cap1) :
    Calls Tryd.prog 4 #[.slice a0 z0.length cap0, .slice a1 z1.length cap1] w fun e w' => e = .returned (.bool true) ∧ Keeps [] w w' := by
  have HB := hid (begun_any w hT)
  have HT := hid hT
  have HCt0 := hid fun (w1 : World) (hk : Keeps [] w w1) => cut_any a0 cap0 z0 40 w1 (h0.kept hk (fun _ _ _ => by simp)) c0
  have HI0 := hid (h0.take 40)
  have hL0 : (z0.take 40).length ≤ 40 := List.length_take_le _ _
  generalize z0.take 40 = y0 at HCt0 HI0 hL0
  generalize hn0 : y0.length = n0 at HCt0 hL0
  have HN0 := hid hn0
  clear hn0 h0 c0
  have HCt1 := hid fun (w1 : World) (hk : Keeps [] w w1) => cut_any a1 cap1 z1 40 w1 (h1.kept hk (fun _ _ _ => by simp)) c1
  have HI1 := hid (h1.take 40)
  have hL1 : (z1.take 40).length ≤ 40 := List.length_take_le _ _
  generalize z1.take 40 = y1 at HCt1 HI1 hL1
  generalize hn1 : y1.length = n1 at HCt1 hL1
  have HN1 := hid hn1
  clear hn1 h1 c1
  have HSo0 := hid fun (w1 : World) (hk : Keeps [] w w1) => of_any a0 cap0 y0 w1 (HI0.out.kept hk (fun _ _ _ => by simp)) (by rw [HN0.out]; omega)
  have HOf0 := hid fun (w1 : World) (hk : Keeps [] w w1) => lof_any a0 cap0 y0 w1 (HI0.out.kept hk (fun _ _ _ => by simp)) (by rw [HN0.out]; unfold maxLen; omega)
  have htk0 : y0.take 40 = y0 := List.take_of_length_le (by rw [HN0.out]; omega)
  rw [htk0, HN0.out] at HOf0
  rw [HN0.out] at HSo0
  have hFX := hid (fit_ofI y0)
  clear htk0 HI0 HN0 hL0
  generalize ofI y0 = x at HSo0 HOf0 hFX
  have HSo1 := hid fun (w1 : World) (hk : Keeps [] w w1) => of_any a1 cap1 y1 w1 (HI1.out.kept hk (fun _ _ _ => by simp)) (by rw [HN1.out]; omega)
  have HOf1 := hid fun (w1 : World) (hk : Keeps [] w w1) => lof_any a1 cap1 y1 w1 (HI1.out.kept hk (fun _ _ _ => by simp)) (by rw [HN1.out]; unfold maxLen; omega)
  have htk1 : y1.take 40 = y1 := List.take_of_length_le (by rw [HN1.out]; omega)
  rw [htk1, HN1.out] at HOf1
  rw [HN1.out] at HSo1
  have hFY := hid (fit_ofI y1)
  clear htk1 HI1 HN1 hL1
  generalize ofI y1 = y at HSo1 HOf1 hFY
  have hKw := Keeps.refl [] w
  clear hT _l0 _l1
  go_enter Tryd.func4, Tryd.ntmps4
  go_wp2_with fail
  refine HB.out.mono ?_
  rintro e w1 ⟨rfl, hk1⟩
  have hK1 := hKw.quiet hk1
  clear HB hk1 hKw
  have HA := hid (HCt0.out _ hK1)
  go_wp2_with fail
  refine HA.out.mono ?_
  rintro e w2 ⟨rfl, hw2⟩
  obtain rfl := hw2.symm
  clear hw2 HA
  clear HCt0
  have HA := hid (HCt1.out _ hK1)
  go_wp2_with fail
  refine HA.out.mono ?_
  rintro e w3 ⟨rfl, hw3⟩
  obtain rfl := hw3.symm
  clear hw3 HA
  clear HCt1
  have HA := hid (HSo0.out _ hK1)
  clear HSo0
  go_wp2_with fail
  refine HA.out.mono ?_
  rintro e w4 ⟨rfl, hs4, hk4⟩
  have hnX : w.heap.size ≤ w1.heap.size := hK1.size
  have hK4 := hK1.quiet hk4
  have hSX4 := hid hs4
  clear HA hs4 hk4 hK1
  generalize w1.heap.size = X at hnX hSX4 ⊢
  have HA := hid (HSo1.out _ hK4)
  clear HSo1
  go_wp2_with fail
  refine HA.out.mono ?_
  rintro e w5 ⟨rfl, hs5, hk5⟩
  have hnY : w.heap.size ≤ w4.heap.size ∧ X < w4.heap.size := ⟨hK4.size, hSX4.out.lt⟩
  have hSX5 := hid (hSX4.out.kept hk5 (by simp))
  have hK5 := hK4.quiet hk5
  have hSY5 := hid hs5
  clear HA hs5 hk5 hSX4 hK4
  generalize w4.heap.size = Y at hnY hSY5 ⊢
  have HA := hid (HOf0.out _ hK5)
  clear HOf0
  go_wp2_with fail
  refine HA.out.mono ?_
  rintro e w6 ⟨v6, rfl, hl6, hk6⟩
  obtain ⟨al, cl, rfl, hi6⟩ := hl6.open3
  have hSX6 := hid (hSX5.out.kept hk6 (by simp))
  have hSY6 := hid (hSY5.out.kept hk6 (by simp))
  have hK6 := hK5.quiet hk6
  have hIl6 := hid hi6
  obtain ⟨nl, hn6⟩ : ∃ n, (elI x).length = n := ⟨_, rfl⟩
  rw [hn6]
  have HNl := hid hn6
  clear hn6
  clear HA hl6 hi6 hk6 hSX5 hSY5 hK5
  have HA := hid (HOf1.out _ hK6)
  clear HOf1
  go_wp2_with fail
  refine HA.out.mono ?_
  rintro e w7 ⟨v7, rfl, hl7, hk7⟩
  obtain ⟨am, cm, rfl, hi7⟩ := hl7.open3
  have hSX7 := hid (hSX6.out.kept hk7 (by simp))
  have hSY7 := hid (hSY6.out.kept hk7 (by simp))
  have hIl7 := hid (hIl6.out.kept hk7 (fun _ _ _ => by simp))
  have hK7 := hK6.quiet hk7
  have hIm7 := hid hi7
  obtain ⟨nm, hn7⟩ : ∃ n, (elI y).length = n := ⟨_, rfl⟩
  rw [hn7]
  have HNm := hid hn7
  clear hn7
  clear HA hl7 hi7 hk7 hSX6 hSY6 hIl6 hK6
  have hFd : Box (Fit (both lessB x y)) := hid (fit_both lessB x y hFX.out hFY.out rfl)
  have hFm : Box (Fit (both and x y)) := hid (fit_both and x y hFX.out hFY.out rfl)
  have HA := hid (wout_any al cl (elI x) am cm (elI y) w7 hIl7.out.1 hIm7.out.1 (Nat.le_trans (elI_le _) (by omega)) (Nat.le_trans (elI_le _) (by omega)))
  rw [wo_less x y hFX.out hFY.out, HNl.out, HNm.out] at HA
  go_wp2_with fail
  refine HA.out.mono ?_
  rintro e w8 ⟨v8, rfl, hl8, hk8⟩
  obtain ⟨ad, cd, rfl, hi8⟩ := hl8.open3
  have hSX8 := hid (hSX7.out.kept hk8 (by simp))
  have hSY8 := hid (hSY7.out.kept hk8 (by simp))
  have hIl8 := hid (hIl7.out.kept hk8 (fun _ _ _ => by simp))
  have hIm8 := hid (hIm7.out.kept hk8 (fun _ _ _ => by simp))
  have hK8 := hK7.quiet hk8
  have hId8 := hid hi8
  obtain ⟨nd, hn8⟩ : ∃ n, (elI (both lessB x y)).length = n := ⟨_, rfl⟩
  rw [hn8]
  have HNd := hid hn8
  clear hn8
  clear HA hl8 hi8 hk8 hSX7 hSY7 hIl7 hIm7 hK7
  have HA := hid (wout_any al cl (elI x) ad cd (elI (both lessB x y)) w8 hIl8.out.1 hId8.out.1 (Nat.le_trans (elI_le _) (by omega)) (Nat.le_trans (elI_le _) (by omega)))
  rw [wo_less x (both lessB x y) hFX.out hFd.out, less_less, HNl.out, HNd.out] at HA
  go_wp2_with fail
  refine HA.out.mono ?_
  rintro e w9 ⟨v9, rfl, hl9, hk9⟩
  obtain ⟨ak, ck, rfl, hi9⟩ := hl9.open3
  have hSX9 := hid (hSX8.out.kept hk9 (by simp))
  have hSY9 := hid (hSY8.out.kept hk9 (by simp))
  have hIl9 := hid (hIl8.out.kept hk9 (fun _ _ _ => by simp))
  have hIm9 := hid (hIm8.out.kept hk9 (fun _ _ _ => by simp))
  have hId9 := hid (hId8.out.kept hk9 (fun _ _ _ => by simp))
  have hK9 := hK8.quiet hk9
  have hIk9 := hid hi9
  obtain ⟨nk, hn9⟩ : ∃ n, (elI (both and x y)).length = n := ⟨_, rfl⟩
  rw [hn9]
  have HNk := hid hn9
  clear hn9
  clear HA hl9 hi9 hk9 hSX8 hSY8 hIl8 hIm8 hId8 hK8
  clear hId9
  have HA := hid (copy_any X x w9 hSX9.out)
  go_wp2_with fail
  refine HA.out.mono ?_
  rintro e w10 ⟨rfl, hs10, hk10⟩
  have hnC : w.heap.size ≤ w9.heap.size ∧ X < w9.heap.size ∧ Y < w9.heap.size := ⟨hK9.size, hSX9.out.lt, hSY9.out.lt⟩
  have hltlC := hid hIl9.out.2
  have hltmC := hid hIm9.out.2
  have hltkC := hid hIk9.out.2
  have hSX10 := hid (hSX9.out.kept hk10 (by simp))
  have hSY10 := hid (hSY9.out.kept hk10 (by simp))
  have hIl10 := hid (hIl9.out.kept hk10 (fun _ _ _ => by simp))
  have hIm10 := hid (hIm9.out.kept hk10 (fun _ _ _ => by simp))
  have hIk10 := hid (hIk9.out.kept hk10 (fun _ _ _ => by simp))
  have hK10 := hK9.quiet hk10
  have hSC10 := hid hs10
  clear HA hs10 hk10 hSX9 hSY9 hIl9 hIm9 hIk9 hK9
  generalize w9.heap.size = C at hnC hSC10 hltlC hltmC hltkC ⊢
  have HA := hid (add_any C x 77 w10 hSC10.out hFX.out)
  generalize (decide ((0 : Int) ≤ 77 ∧ (77 : Int) < 5000) && !hasI x 77) = bb at HA
  go_wp2_with fail
  refine HA.out.mono ?_
  rintro e w11 ⟨rfl, hs11, hk11⟩
  have hSX11 := hid (hSX10.out.kept hk11 (by simp; omega))
  have hSY11 := hid (hSY10.out.kept hk11 (by simp; omega))
  have hIl11 := hid (hIl10.out.kept hk11 (fun b0 o0 e0 => by have := hltlC.out b0 o0 e0; simp; omega))
  have hIm11 := hid (hIm10.out.kept hk11 (fun b0 o0 e0 => by have := hltmC.out b0 o0 e0; simp; omega))
  have hIk11 := hid (hIk10.out.kept hk11 (fun b0 o0 e0 => by have := hltkC.out b0 o0 e0; simp; omega))
  have hK11 : Keeps [] w w11 := hK10.trans hk11 fun x hx hl => by simp at hx; omega
  have hSC11 := hid hs11
  clear HA hs11 hk11 hSC10 hSX10 hSY10 hIl10 hIm10 hIk10 hK10
  clear hSC11 hnC hltlC hltmC hltkC
  have HA := hid (less_or (some X) (some Y) x y w11 hSX11.out hSY11.out hFX.out hFY.out)
  go_wp2_with fail
  refine HA.out.mono ?_
  rintro e w12 ⟨rfl, hs12, hk12⟩
  have hnT : w.heap.size ≤ w11.heap.size ∧ X < w11.heap.size ∧ Y < w11.heap.size := ⟨hK11.size, hSX11.out.lt, hSY11.out.lt⟩
  have hSX12 := hid (hSX11.out.kept hk12 (by simp))
  have hSY12 := hid (hSY11.out.kept hk12 (by simp))
  have hIl12 := hid (hIl11.out.kept hk12 (fun _ _ _ => by simp))
  have hIm12 := hid (hIm11.out.kept hk12 (fun _ _ _ => by simp))
  have hIk12 := hid (hIk11.out.kept hk12 (fun _ _ _ => by simp))
  have hK12 := hK11.quiet hk12
  have hST12 := hid hs12
  clear HA hs12 hk12 hSX11 hSY11 hIl11 hIm11 hIk11 hK11
  generalize w11.heap.size = T at hnT hST12 ⊢
  have HA := hid (all_any T (both lessB x y) w12 hST12.out hFd.out (HT.out.kept hK12 (by simp)))
  go_wp2_with fail
  refine HA.out.mono ?_
  rintro e w13 ⟨v13, rfl, hl13, hk13⟩
  obtain ⟨ap, cp, rfl, hi13⟩ := owns_open3 hl13
  have hSX13 := hid (hSX12.out.kept hk13 (by simp))
  have hSY13 := hid (hSY12.out.kept hk13 (by simp))
  have hST13 := hid (hST12.out.kept hk13 (by simp))
  have hIl13 := hid (hIl12.out.kept hk13 (fun _ _ _ => by simp))
  have hIm13 := hid (hIm12.out.kept hk13 (fun _ _ _ => by simp))
  have hIk13 := hid (hIk12.out.kept hk13 (fun _ _ _ => by simp))
  have hK13 := hK12.quiet hk13
  have hIp13 := hid hi13
  rw [HNd.out]
  clear HA hl13 hi13 hk13 hSX12 hSY12 hST12 hIl12 hIm12 hIk12 hK12
  clear hST13 hnT
  have HA := hid (wout_any al cl (elI x) am cm (elI y) w13 hIl13.out.1 hIm13.out.1 (Nat.le_trans (elI_le _) (by omega)) (Nat.le_trans (elI_le _) (by omega)))
  rw [wo_less x y hFX.out hFY.out, HNl.out, HNm.out] at HA
  go_wp2_with fail
  refine HA.out.mono ?_
  rintro e w14 ⟨v14, rfl, hl14, hk14⟩
  obtain ⟨ad2, cd2, rfl, hi14⟩ := hl14.open3
  have hSX14 := hid (hSX13.out.kept hk14 (by simp))
  have hSY14 := hid (hSY13.out.kept hk14 (by simp))
  have hIl14 := hid (hIl13.out.kept hk14 (fun _ _ _ => by simp))
  have hIm14 := hid (hIm13.out.kept hk14 (fun _ _ _ => by simp))
  have hIk14 := hid (hIk13.out.kept hk14 (fun _ _ _ => by simp))
  have hIp14 := hid (hIp13.out.kept hk14 (fun _ _ _ => by simp))
  have hK14 := hK13.quiet hk14
  have hId214 := hid hi14
  rw [HNd.out]
  clear HA hl14 hi14 hk14 hSX13 hSY13 hIl13 hIm13 hIk13 hIp13 hK13
  have HA := hid (eq_any ap ad2 cp cd2 (elI (both lessB x y)) (elI (both lessB x y)) w14 hIp14.out.1 hId214.out.1 (Nat.le_trans (elI_le _) (by omega)))
  rw [decide_eq_true rfl] at HA
  rw [HNd.out] at HA
  go_wp2_with fail
  refine HA.out.mono ?_
  rintro e w15 ⟨rfl, m15, hw15⟩
  have hk15 : Keeps [] w14 w15 := by rw [hw15]; exact Keeps.drewN _ _ _
  clear hw15
  have hSX15 := hid (hSX14.out.kept hk15 (by simp))
  have hSY15 := hid (hSY14.out.kept hk15 (by simp))
  have hIl15 := hid (hIl14.out.kept hk15 (fun _ _ _ => by simp))
  have hIm15 := hid (hIm14.out.kept hk15 (fun _ _ _ => by simp))
  have hIk15 := hid (hIk14.out.kept hk15 (fun _ _ _ => by simp))
  have hIp15 := hid (hIp14.out.kept hk15 (fun _ _ _ => by simp))
  have hId215 := hid (hId214.out.kept hk15 (fun _ _ _ => by simp))
  have hK15 := hK14.quiet hk15
  clear HA hk15 hSX14 hSY14 hIl14 hIm14 hIk14 hIp14 hId214 hK14
  clear hIp15
  clear hId215
  have HA := hid (meet_or (some X) (some Y) x y w15 hSX15.out hSY15.out hFX.out hFY.out)
  go_wp2_with fail
  refine HA.out.mono ?_
  rintro e w16 ⟨rfl, hs16, hk16⟩
  have hnU : w.heap.size ≤ w15.heap.size ∧ X < w15.heap.size ∧ Y < w15.heap.size := ⟨hK15.size, hSX15.out.lt, hSY15.out.lt⟩
  have hSX16 := hid (hSX15.out.kept hk16 (by simp))
  have hSY16 := hid (hSY15.out.kept hk16 (by simp))
  have hIl16 := hid (hIl15.out.kept hk16 (fun _ _ _ => by simp))
  have hIm16 := hid (hIm15.out.kept hk16 (fun _ _ _ => by simp))
  have hIk16 := hid (hIk15.out.kept hk16 (fun _ _ _ => by simp))
  have hK16 := hK15.quiet hk16
  have hSU16 := hid hs16
  clear HA hs16 hk16 hSX15 hSY15 hIl15 hIm15 hIk15 hK15
  generalize w15.heap.size = U at hnU hSU16 ⊢
  have HA := hid (all_any U (both and x y) w16 hSU16.out hFm.out (HT.out.kept hK16 (by simp)))
  go_wp2_with fail
  refine HA.out.mono ?_
  rintro e w17 ⟨v17, rfl, hl17, hk17⟩
  obtain ⟨aq, cq, rfl, hi17⟩ := owns_open3 hl17
  have hSX17 := hid (hSX16.out.kept hk17 (by simp))
  have hSY17 := hid (hSY16.out.kept hk17 (by simp))
  have hSU17 := hid (hSU16.out.kept hk17 (by simp))
  have hIl17 := hid (hIl16.out.kept hk17 (fun _ _ _ => by simp))
  have hIm17 := hid (hIm16.out.kept hk17 (fun _ _ _ => by simp))
  have hIk17 := hid (hIk16.out.kept hk17 (fun _ _ _ => by simp))
  have hK17 := hK16.quiet hk17
  have hIq17 := hid hi17
  rw [HNk.out]
  clear HA hl17 hi17 hk17 hSX16 hSY16 hSU16 hIl16 hIm16 hIk16 hK16
  clear hSU17 hnU
  have HA := hid (eq_any aq ak cq ck (elI (both and x y)) (elI (both and x y)) w17 hIq17.out.1 hIk17.out.1 (Nat.le_trans (elI_le _) (by omega)))
  rw [decide_eq_true rfl] at HA
  rw [HNk.out] at HA
  go_wp2_with fail
  refine HA.out.mono ?_
  rintro e w18 ⟨rfl, m18, hw18⟩
  have hk18 : Keeps [] w17 w18 := by rw [hw18]; exact Keeps.drewN _ _ _
  clear hw18
  have hSX18 := hid (hSX17.out.kept hk18 (by simp))
  have hSY18 := hid (hSY17.out.kept hk18 (by simp))
  have hIl18 := hid (hIl17.out.kept hk18 (fun _ _ _ => by simp))
  have hIm18 := hid (hIm17.out.kept hk18 (fun _ _ _ => by simp))
  have hIk18 := hid (hIk17.out.kept hk18 (fun _ _ _ => by simp))
  have hIq18 := hid (hIq17.out.kept hk18 (fun _ _ _ => by simp))
  have hK18 := hK17.quiet hk18
  clear HA hk18 hSX17 hSY17 hIl17 hIm17 hIk17 hIq17 hK17
  clear hIq18
  obtain ⟨Q1, hQ1⟩ : ∃ Q, eqI x y = Q := ⟨_, rfl⟩
  have HQ1 := hid hQ1
  clear hQ1
  have HA := hid (seq_or (some X) (some Y) x y w18 hSX18.out hSY18.out hFX.out hFY.out)
  rw [HQ1.out] at HA
  go_wp2_with fail
  refine HA.out.mono ?_
  rintro e w19 ⟨rfl, hw19⟩
  obtain rfl := hw19.symm
  clear hw19 HA
  have hqq : (Q1 == Q1) = true := by simp
  have HA := hid (eq_any al am cl cm (elI x) (elI y) w18 hIl18.out.1 hIm18.out.1 (Nat.le_trans (elI_le _) (by omega)))
  rw [elI_inj x y hFX.out hFY.out, HQ1.out] at HA
  rw [HNl.out, HNm.out] at HA
  go_wp2_with fail
  refine HA.out.mono ?_
  rintro e w20 ⟨rfl, m20, hw20⟩
  have hk20 : Keeps [] w18 w20 := by rw [hw20]; exact Keeps.drewN _ _ _
  clear hw20
  have hSX20 := hid (hSX18.out.kept hk20 (by simp))
  have hSY20 := hid (hSY18.out.kept hk20 (by simp))
  have hIl20 := hid (hIl18.out.kept hk20 (fun _ _ _ => by simp))
  have hIm20 := hid (hIm18.out.kept hk20 (fun _ _ _ => by simp))
  have hIk20 := hid (hIk18.out.kept hk20 (fun _ _ _ => by simp))
  have hK20 := hK18.quiet hk20
  clear HA hk20 hSX18 hSY18 hIl18 hIm18 hIk18 hK18
  have hsl := sub_len x y hFX.out hFY.out
  rw [HNk.out, HNl.out] at hsl
  obtain ⟨Q2, hQ2⟩ : ∃ Q, subI x y = Q := ⟨_, rfl⟩
  rw [hQ2] at hsl
  have HQ2 := hid hQ2
  clear hQ2
  have hq2 : ((nk : Int) == (nl : Int)) = Q2 := hsl.symm
  clear hsl
  have hqq2 : (Q2 == Q2) = true := by simp
  have HA := hid (in_or (some X) (some Y) x y w20 hSX20.out hSY20.out hFX.out)
  rw [HQ2.out] at HA
  go_wp2_with fail
  refine HA.out.mono ?_
  rintro e w21 ⟨rfl, hw21⟩
  obtain rfl := hw21.symm
  clear hw21 HA
  have HA := hid (all_any X x w20 hSX20.out hFX.out (HT.out.kept hK20 (by simp)))
  go_wp2_with fail
  refine HA.out.mono ?_
  rintro e w22 ⟨v22, rfl, hl22, hk22⟩
  obtain ⟨ap2, cp2, rfl, hi22⟩ := owns_open3 hl22
  have hSX22 := hid (hSX20.out.kept hk22 (by simp))
  have hSY22 := hid (hSY20.out.kept hk22 (by simp))
  have hIl22 := hid (hIl20.out.kept hk22 (fun _ _ _ => by simp))
  have hIm22 := hid (hIm20.out.kept hk22 (fun _ _ _ => by simp))
  have hIk22 := hid (hIk20.out.kept hk22 (fun _ _ _ => by simp))
  have hK22 := hK20.quiet hk22
  have hIp222 := hid hi22
  rw [HNl.out]
  clear HA hl22 hi22 hk22 hSX20 hSY20 hIl20 hIm20 hIk20 hK20
  have HA := hid (eq_any ap2 al cp2 cl (elI x) (elI x) w22 hIp222.out.1 hIl22.out.1 (Nat.le_trans (elI_le _) (by omega)))
  rw [decide_eq_true rfl] at HA
  rw [HNl.out] at HA
  go_wp2_with fail
  refine HA.out.mono ?_
  rintro e w23 ⟨rfl, m23, hw23⟩
  have hk23 : Keeps [] w22 w23 := by rw [hw23]; exact Keeps.drewN _ _ _
  clear hw23
  have hSX23 := hid (hSX22.out.kept hk23 (by simp))
  have hSY23 := hid (hSY22.out.kept hk23 (by simp))
  have hIl23 := hid (hIl22.out.kept hk23 (fun _ _ _ => by simp))
  have hIm23 := hid (hIm22.out.kept hk23 (fun _ _ _ => by simp))
  have hIk23 := hid (hIk22.out.kept hk23 (fun _ _ _ => by simp))
  have hIp223 := hid (hIp222.out.kept hk23 (fun _ _ _ => by simp))
  have hK23 := hK22.quiet hk23
  clear HA hk23 hSX22 hSY22 hIl22 hIm22 hIk22 hIp222 hK22
  clear hIp223
  have HA := hid (all_any Y y w23 hSY23.out hFY.out (HT.out.kept hK23 (by simp)))
  go_wp2_with fail
  refine HA.out.mono ?_
  rintro e w24 ⟨v24, rfl, hl24, hk24⟩
  obtain ⟨ap3, cp3, rfl, hi24⟩ := owns_open3 hl24
  have hSX24 := hid (hSX23.out.kept hk24 (by simp))
  have hSY24 := hid (hSY23.out.kept hk24 (by simp))
  have hIl24 := hid (hIl23.out.kept hk24 (fun _ _ _ => by simp))
  have hIm24 := hid (hIm23.out.kept hk24 (fun _ _ _ => by simp))
  have hIk24 := hid (hIk23.out.kept hk24 (fun _ _ _ => by simp))
  have hK24 := hK23.quiet hk24
  have hIp324 := hid hi24
  rw [HNm.out]
  clear HA hl24 hi24 hk24 hSX23 hSY23 hIl23 hIm23 hIk23 hK23
  have HA := hid (eq_any ap3 am cp3 cm (elI y) (elI y) w24 hIp324.out.1 hIm24.out.1 (Nat.le_trans (elI_le _) (by omega)))
  rw [decide_eq_true rfl] at HA
  rw [HNm.out] at HA
  go_wp2_with fail
  refine HA.out.mono ?_
  rintro e w25 ⟨rfl, m25, hw25⟩
  have hk25 : Keeps [] w24 w25 := by rw [hw25]; exact Keeps.drewN _ _ _
  clear hw25
  have hSX25 := hid (hSX24.out.kept hk25 (by simp))
  have hSY25 := hid (hSY24.out.kept hk25 (by simp))
  have hIl25 := hid (hIl24.out.kept hk25 (fun _ _ _ => by simp))
  have hIm25 := hid (hIm24.out.kept hk25 (fun _ _ _ => by simp))
  have hIk25 := hid (hIk24.out.kept hk25 (fun _ _ _ => by simp))
  have hIp325 := hid (hIp324.out.kept hk25 (fun _ _ _ => by simp))
  have hK25 := hK24.quiet hk25
  clear HA hk25 hSX24 hSY24 hIl24 hIm24 hIk24 hIp324 hK24
  clear hIp325
  go_wp2
  go_ret
  exact ⟨rfl, hK25⟩
end Go.Proofs.YtcmbhmlpififiaaDoor
