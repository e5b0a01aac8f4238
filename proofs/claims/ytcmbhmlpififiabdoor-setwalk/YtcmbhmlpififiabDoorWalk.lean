/-
  The statement SetWalk: its walk.
-/
import Derived.Test.YtcmbhmlpififiabDoorLists
namespace Go.Proofs.YtcmbhmlpififiabDoor
open Go.RowKit

set_option maxHeartbeats 400000 in
theorem wcut_short (a : Option Addr) (len cap n : Nat) (w : World) (h : len ≤ n) :
    Calls Tryd.prog 6 #[.slice a len cap, .int .i64 (n : Int)] w fun e w' => e = .returned (.slice a len cap) ∧ w' = w := by
  go_enter Tryd.func6, Tryd.ntmps6
  go_wp2
  go_ret
  exact ⟨rfl, rfl⟩

set_option maxHeartbeats 400000 in
theorem wcut_long (b off len cap n : Nat) (w : World) (h : n < len) (hc : len ≤ cap) :
    Calls Tryd.prog 6 #[.slice (some ⟨b, off, none⟩) len cap, .int .i64 (n : Int)] w fun e w' => e = .returned (.slice (some ⟨b, off, none⟩) n cap) ∧ w' = w := by
  go_enter Tryd.func6, Tryd.ntmps6
  go_wp2
  go_ret
  exact ⟨rfl, rfl⟩

theorem wcut_any (a : Option Addr) (cap : Nat) (zs : List Int) (n : Nat) (w : World) (hz : IntsAt w a zs) (hc : zs.length ≤ cap) :
    Calls Tryd.prog 6 #[.slice a zs.length cap, .int .i64 (n : Int)] w fun e w' => e = .returned (.slice a (zs.take n).length cap) ∧ w' = w := by
  by_cases h : zs.length ≤ n
  · rw [List.take_of_length_le h]
    exact wcut_short a _ cap n w h
  · have e : (zs.take n).length = n := by rw [List.length_take]; omega
    rw [e]
    rcases hz with rfl | ⟨b, off, rfl, _⟩
    · simp at h
    · exact wcut_long b off _ cap n w (by omega) hc

theorem ints_take {w : World} {a : Option Addr} {zs : List Int} (h : IntsAt w a zs) (n : Nat) : IntsAt w a (zs.take n) := by
  rcases h with rfl | ⟨b, off, rfl, hc⟩
  · left; simp
  · right
    refine ⟨b, off, rfl, fun i hi => ?_⟩
    rw [List.length_take] at hi
    rw [hc i (by omega), take_getD zs n i (by omega)]

theorem elems_ins_le (s : Nat → Bool) (z : Int) : (elems (insI s z)).length ≤ (elems s).length + 1 := by
  by_cases h : 0 ≤ z ∧ z < 5000
  · obtain ⟨n, rfl⟩ := Int.eq_ofNat_of_zero_le h.1
    by_cases hs : s n = true
    · rw [insI_in s n hs]; omega
    · rw [elems_ins s n (by omega) (by simpa using hs)]; omega
  · rw [insI_out s z h]; omega
theorem elems_fold_le : ∀ (zs : List Int) (s : Nat → Bool), (elems (zs.foldl insI s)).length ≤ (elems s).length + zs.length
  | [], s => by simp
  | z :: zs, s => by
    have h1 := elems_fold_le zs (insI s z)
    have h2 := elems_ins_le s z
    rw [List.foldl_cons, List.length_cons]
    omega
theorem elems_of_le (zs : List Int) : (elems (ofI zs)).length ≤ zs.length := by
  have h := elems_fold_le zs none_
  rw [show elems none_ = [] from elems_none] at h
  simpa [ofI] using h
theorem pre_le (s : Nat → Bool) (c : Nat) (h : c ≤ 5000) : (pre s c).length ≤ (elems s).length := by
  have e : elems s = (List.range 5000).filter s := rfl
  unfold pre
  rw [e, ← cnt_range, ← cnt_range]
  have h2 := cnt_add s c (5000 - c) 0
  rw [show c + (5000 - c) = 5000 by omega] at h2
  omega
theorem firstI_neg (s : Nat → Bool) : firstI s (-5) = firstI s ((0 : Nat) : Int) := by
  rcases firstI_spec s (-5) with ⟨e1, h1⟩ | ⟨j, e1, hj, _, hs, hm⟩
  · rcases firstI_spec s ((0 : Nat) : Int) with ⟨e2, _⟩ | ⟨i, _, hi, _, hs2, _⟩
    · rw [e1, e2]
    · rw [h1 i hi (by omega)] at hs2; cases hs2
  · rcases firstI_spec s ((0 : Nat) : Int) with ⟨_, h2⟩ | ⟨i, e2, hi, _, hs2, hm2⟩
    · rw [h2 j hj (by omega)] at hs; cases hs
    · rw [e1, e2]
      by_cases hij : i < j
      · rw [hm i hij (by omega)] at hs2; cases hs2
      · by_cases hji : j < i
        · rw [hm2 j hji (by omega)] at hs; cases hs
        · have : i = j := by omega
          rw [this]

theorem ints_el (s : Nat → Bool) : (elems s).map (fun n : Nat => (n : Int)) = elI s := rfl

theorem grown_form {s : Nat → Bool} {j nn base : Nat} {xs : List Value} {v' : Value} {w3 : World} (hn : Box ((pre s (j + 1)).length = nn + 1 ∧ ints (pre s (j + 1)) = xs ++ [.int .i64 (j : Int)])) (h : w3.ownsRow base 3 1 v' (nn + 1) (xs ++ [.int .i64 (j : Int)])) :
    ∃ a cap, v' = .slice a (nn + 1) cap ∧ Box (w3.ownsRow base 3 1 (.slice a (nn + 1) cap) (pre s (j + 1)).length (ints (pre s (j + 1)))) := by
  have h4 : w3.ownsRow base 3 1 v' (pre s (j + 1)).length (ints (pre s (j + 1))) := by rw [hn.out.1, hn.out.2]; exact h
  obtain ⟨a, c, hv, _, _⟩ := ownsRow_ints h4
  rw [hn.out.1] at hv
  exact ⟨a, c, hv, hid (by rw [← hv]; exact h4)⟩

set_option maxHeartbeats 4000000 in
theorem walk_core (a : Option Addr) (n0 cap : Nat) (ys : List Int) (v0 : Value) (w : World) (hT : TabAt w) (hz : IntsAt w a ys) (hn0 : ys.length = n0) (hL : n0 ≤ 60) (hcap : n0 ≤ cap)
    (hcut : ∀ w1, Keeps [] w w1 → Calls Tryd.prog 6 #[v0, .int .i64 60] w1 fun e w' => e = .returned (.slice a n0 cap) ∧ w' = w1) :
    Calls Tryd.prog 3 #[v0] w fun e w' => e = .returned (.bool true) ∧ Keeps [] w w' := by
  have HB := hid (begun_any w hT)
  have HT := hid hT
  have HZ := hid hz
  have HN := hid hn0
  have HCut := hid hcut
  have hCapB := hid hcap
  clear hT hz hn0 hcut hcap
  go_enter Tryd.func3, Tryd.ntmps3
  go_wp2_with fail
  refine HB.out.mono ?_
  rintro e w1 ⟨rfl, hk1⟩
  clear HB
  go_wp2_with fail
  refine (HCut.out _ hk1).mono ?_
  rintro e w2 ⟨rfl, hw2⟩
  obtain rfl := hw2.symm
  clear hw2 HCut
  have HA := hid (of_any a cap ys w1 (HZ.out.kept hk1 (fun _ _ _ => by simp)) (by rw [HN.out]; omega))
  rw [HN.out] at HA
  go_wp2_with fail
  refine HA.out.mono ?_
  rintro e w2 ⟨rfl, hs2, hk2⟩
  have hK2 := hk1.quiet hk2
  generalize w1.heap.size = b at hs2 ⊢
  have hblt := hs2.lt
  have hS2 := hid hs2
  have hF := hid (fit_ofI ys)
  have hEl : Box ((elems (ofI ys)).length ≤ 60) := hid (by have := elems_of_le ys; rw [HN.out] at this; omega)
  clear hk1 hk2 hs2 HA
  have HF := hid fun (x : Int) (w9 : World) (h9 : Keeps [] w2 w9) => first_any b (ofI ys) x w9 (hS2.out.kept h9 (by simp)) hF.out (HT.out.kept (hK2.quiet h9) (by simp))
  have HAl := hid fun (w9 : World) (h9 : Keeps [] w2 w9) => all_any b (ofI ys) w9 (hS2.out.kept h9 (by simp)) hF.out (HT.out.kept (hK2.quiet h9) (by simp))
  have hSd : Box (ofI ys = ofI ys) := hid rfl
  obtain ⟨s, hs⟩ : ∃ s, ofI ys = s := ⟨_, rfl⟩
  have hSeq := hid hs
  rw [hs] at HF HAl hEl
  clear hs hSd hS2 hF
  have HF0 := hid (HF.out (-5) w2 (Keeps.refl _ _))
  rw [firstI_neg] at HF0
  go_wp2_with fail
  refine HF0.out.mono ?_
  rintro e w3 ⟨rfl, m3, rfl⟩
  have hk3 : Keeps [] w2 (w2.drewN m3) := Keeps.drewN _ _ _
  clear HF0
  generalize w2.drewN m3 = w3 at hk3 ⊢
  obtain ⟨r0, hr0⟩ : ∃ r0, firstI s ((0 : Nat) : Int) = r0 := ⟨_, rfl⟩
  rw [hr0]
  have hs0 : Box (r0 = firstI s ((0 : Nat) : Int)) := hid hr0.symm
  clear hr0
  go_wp2_with fail
  go_loopw [5, 6] (fun l n wr => ∃ (c : Nat) (r : Int), n = .int .i64 r ∧ c ≤ 5000 ∧ Box (r = firstI s c) ∧ wr.ownsRow w2.heap.size 3 1 l (pre s c).length (ints (pre s c)) ∧ Keeps [] w2 wr) (fun _ n _ => mAll n)
  case atStart => exact ⟨0, r0, rfl, by omega, hs0, World.ownsRow_nil w3 _ _ _, hk3⟩
  case round =>
    clear hk3 hs0
    obtain ⟨c, r, rfl, hc, hr, hown, hk⟩ := hrel
    rcases firstI_spec s c with ⟨e1, _⟩ | ⟨j, e1, hj, _, _, _⟩
    · have hr1 : r = -1 := hr.out.trans e1
      have hend := pre_end s c hc e1
      subst hr1
      rw [hend] at hown
      obtain ⟨a5, c5, rfl, hi5, hb5⟩ := ownsRow_ints hown
      have hI5 := hid hi5
      have hel60 := hEl.out
      obtain ⟨ne, hne⟩ : ∃ ne, (elems s).length = ne := ⟨_, rfl⟩
      rw [hne] at hel60 ⊢
      have hNe := hid hne
      clear e1 hr hend hown hi5 hb5 hne
      go_wp2_with fail
      refine (HAl.out _ hk).mono ?_
      rintro e w5 ⟨v6, rfl, hown6, hk6⟩
      obtain ⟨a6, c6, rfl, hi6, _⟩ := ownsRow_ints hown6
      have hI6 := hid hi6
      have hI5' := hid (hI5.out.kept hk6 (fun _ _ _ => by simp))
      have hk6' := hk.quiet hk6
      rw [hNe.out]
      have HE := hid (eq_any a5 a6 c5 c6 (elI s) (elI s) w5 hI5'.out hI6.out (by have := elI_le s; omega))
      rw [decide_eq_true rfl, elI_len, hNe.out] at HE
      clear hown6 hi6 hk6 hI5 hk HAl HF
      go_wp2_with fail
      refine HE.out.mono ?_
      rintro e w6 ⟨rfl, m6, rfl⟩
      have hk7 : Keeps [] w2 (w5.drewN m6) := hk6'.quiet (Keeps.drewN _ _ _)
      have hI7 : Box (IntsAt (w5.drewN m6) a5 (elI s)) := hid (hI5'.out.kept (Keeps.drewN [] _ m6) (fun _ _ _ => by simp))
      clear HE hI5' hI6 hk6'
      generalize w5.drewN m6 = w7 at hk7 hI7 ⊢
      have hK7 := hK2.quiet hk7
      have hZ7 := HZ.out.kept hK7 (fun _ _ _ => by simp)
      have HC := hid (wcut_any a cap ys 40 w7 hZ7 (by rw [HN.out]; exact hCapB.out))
      have HO := hid (lof_any a cap (ys.take 40) w7 (ints_take hZ7 40) (by rw [List.length_take, HN.out]; unfold maxLen; omega))
      have htt : (ys.take 40).take 40 = ys.take 40 := List.take_of_length_le (List.length_take_le _ _)
      rw [htt] at HO
      have hq : Box (n0 ≤ 40 → elI s = elI (ofI (ys.take 40))) := hid fun h => by rw [List.take_of_length_le (by rw [HN.out]; exact h), hSeq.out]
      rw [HN.out] at HC
      generalize ys.take 40 = xs at HC HO hq
      generalize xs.length = nx at HC HO
      clear hZ7 htt
      go_wp2_with fail
      refine HC.out.mono ?_
      rintro e w8 ⟨rfl, hw8⟩
      obtain rfl := hw8.symm
      clear hw8 HC
      go_wp2_with fail
      refine HO.out.mono ?_
      rintro e w8 ⟨v8, rfl, hl8, hk8⟩
      obtain ⟨a8, c8, rfl, hi8, _, _⟩ := hl8.open
      have hI8 := hid (hI7.out.kept hk8 (fun _ _ _ => by simp))
      have HE := hid (eq_any a5 a8 c5 c8 (elI s) (elI (ofI xs)) w8 hI8.out hi8 (by have := elI_le (ofI xs); omega))
      have hK8 := hK7.quiet hk8
      have hq2 : Box (n0 ≤ 40 → decide (elI s = elI (ofI xs)) = true) := hid fun h => decide_eq_true (hq.out h)
      generalize decide (elI s = elI (ofI xs)) = Q at HE hq2
      rw [elI_len, hNe.out] at HE
      generalize (elI (ofI xs)).length = n8 at HE ⊢
      clear HO hl8 hi8 hk8 hI7 hI8 hq hk7 hK7
      go_wp2_with fail
      refine HE.out.mono ?_
      rintro e w9 ⟨rfl, m9, rfl⟩
      have hK9 : Keeps [] w (w8.drewN m9) := hK8.quiet (Keeps.drewN _ _ _)
      clear HE hK8
      generalize w8.drewN m9 = w9 at hK9 ⊢
      cases Q with
      | true =>
        clear hq2
        go_wp2
        go_ret
        exact ⟨rfl, hK9⟩
      | false =>
        have h40 : 40 < n0 := by
          apply Nat.lt_of_not_le
          intro h
          have := hq2.out h
          cases this
        have h40d : decide ((40 : Int) < (n0 : Int)) = true := decide_eq_true (by omega)
        clear hq2 h40
        go_wp2
        go_ret
        exact ⟨rfl, hK9⟩
    · have hr1 : r = (j : Int) := hr.out.trans e1
      obtain ⟨hcj, _, hst⟩ := pre_step s c j e1
      have hst' := hid hst
      have hpl := pre_len s c
      subst hr1
      clear e1 hr hst
      have hn : Box ((pre s (j + 1)).length = (pre s c).length + 1 ∧ ints (pre s (j + 1)) = ints (pre s c) ++ [.int .i64 (j : Int)]) := hid (by rw [hst'.out]; simp [ints])
      have hle60 : (pre s c).length + 1 ≤ 60 := by
        have h1 := pre_le s (j + 1) (by omega)
        have h2 := hEl.out
        rw [hn.out.1] at h1
        omega
      generalize (pre s c).length = nn at hown hpl hn hle60
      generalize ints (pre s c) = xs at hown hn
      have hown' := hid hown
      have h100 : decide ((100 : Int) < (nn : Int) + 1) = false := decide_eq_false (by omega)
      clear hown
      go_wp2_with (at_builtin; refine wpList_append_own _ rfl _ _ 22 rfl w2.heap.size 3 Tryd.t3 (.int .i64 0) 1 8 under_ints info_int zero_int size_int bytes_int rfl (by decide) _ _ _ rfl (hown'.out.alloc _) ⟨wr.heap.size, 0, none⟩ 1 1 [.int .i64 (j : Int)] rfl rfl (cell_one_new _ _ _) (fun x hx => by simp at hx; subst hx; rfl) (by unfold maxLen; omega) (by omega) (by have := hk.size; simp; omega) ?_; intro v' w3 hown3 hgrow3 hnil3; obtain ⟨a9, c9, hv9, hO4⟩ := grown_form hn hown3; rw [hv9])
      have hk2 : Keeps [] wr (wr.alloc (Obj.cells #[.int .i64 (j : Int)] 3)) := Keeps.alloc _ _ _
      have hk3 : Keeps [] w2 w3 := (hk.quiet hk2).appended hown'.out hgrow3 (Nat.le_refl _)
      clear hk2 hgrow3 hnil3 hown'
      clear hown3 hk hv9
      refine (HF.out _ _ hk3).mono ?_
      rintro e w4 ⟨rfl, m4, rfl⟩
      have hk4 : Keeps [] w2 (w3.drewN m4) := hk3.quiet (Keeps.drewN _ _ m4)
      have hO5 : Box ((w3.drewN m4).ownsRow w2.heap.size 3 1 (.slice a9 (nn + 1) c9) (pre s (j + 1)).length (ints (pre s (j + 1)))) := hid hO4.out
      clear hk3 hO4
      generalize w3.drewN m4 = w4 at hk4 hO5 ⊢
      have hmeas := hid (mAll_step s j hj)
      obtain ⟨r1, hr1⟩ : ∃ r1, firstI s ((j : Int) + 1) = r1 := ⟨_, rfl⟩
      rw [hr1] at hmeas ⊢
      have hb1 : Box (r1 = firstI s ((j + 1 : Nat) : Int)) := hid (by rw [← hr1]; exact congrArg (firstI s) (by omega))
      clear hr1
      go_wp2
      go_roundw
      case rel => exact ⟨j + 1, r1, rfl, by omega, hb1, hO5.out, hk4⟩
      case measure => exact hmeas.out

/-- SetWalk: every list. -/
theorem walk_any (a : Option Addr) (cap : Nat) (zs : List Int) (w : World) (hT : TabAt w) (hz : IntsAt w a zs) (_hl : zs.length ≤ maxLen) (hc : zs.length ≤ cap) :
    Calls Tryd.prog 3 #[.slice a zs.length cap] w fun e w' => e = .returned (.bool true) ∧ Keeps [] w w' := by
  have hl60 : (zs.take 60).length ≤ 60 := List.length_take_le _ _
  have hlc : (zs.take 60).length ≤ cap := by rw [List.length_take]; omega
  exact walk_core a _ cap (zs.take 60) _ w hT (ints_take hz 60) rfl hl60 hlc fun w1 hk => wcut_any a cap zs 60 w1 (hz.kept hk (fun _ _ _ => by simp)) hc
end Go.Proofs.YtcmbhmlpififiabDoor
