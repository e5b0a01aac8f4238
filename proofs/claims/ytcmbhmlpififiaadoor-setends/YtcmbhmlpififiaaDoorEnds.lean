/-
  The statement SetEnds: its walk.
-/
import Derived.Test.YtcmbhmlpififiaaDoorBegun
namespace Go.Proofs.YtcmbhmlpififiaaDoor
open Go.RowKit

set_option maxHeartbeats 400000 in
theorem lmay_any (a : Int) (w : World) :
    Calls Tryd.prog 10 #[.int .i64 a] w fun e w' => e = .returned (.bool (decide (0 ≤ a ∧ a < 5000))) ∧ w' = w := by
  by_cases h0 : 0 ≤ a <;> by_cases h1 : a < 5000 <;> (go_enter Tryd.func10, Tryd.ntmps10; go_wp2; go_ret; exact ⟨by simp [h0, h1], rfl⟩)

theorem filter_one (n : Nat) : ∀ N, (List.range N).filter (fun m => m == n) = if n < N then [n] else []
  | 0 => by simp
  | N + 1 => by
    rw [List.range_succ, List.filter_append, filter_one n N]
    by_cases h : n < N
    · have h2 : n < N + 1 := by omega
      have h3 : ¬ N = n := by omega
      simp [h, h2, h3]
    · by_cases he : N = n
      · subst he; simp
      · have h2 : ¬ n < N + 1 := by omega
        simp [h, h2, he]

theorem ends_elems (a : Int) (h : 0 ≤ a ∧ a < 5000) : (elems (insI none_ a)).length = 1 := by
  obtain ⟨n, rfl⟩ := Int.eq_ofNat_of_zero_le h.1
  have hn : n < 5000 := by omega
  have e : insI none_ (n : Int) = fun m => m == n := by
    rw [insI_nat none_ n hn]
    funext m
    simp [ins, none_]
  unfold elems
  rw [e, filter_one, if_pos hn]
  rfl

theorem ends_del (a : Int) : delI (insI none_ a) a = none_ := by
  funext m
  unfold delI insI none_
  by_cases h : (m : Int) = a <;> simp [h]

theorem hasI_none (a : Int) : hasI none_ a = false := by simp [hasI, none_]
theorem hasI_ins (a : Int) : hasI (insI none_ a) a = decide (0 ≤ a ∧ a < 5000) := by
  unfold hasI insI none_
  by_cases h0 : 0 ≤ a
  · have : ((a.toNat : Nat) : Int) = a := by omega
    rw [this]
    by_cases h1 : a < 5000 <;> simp [h0, h1]
  · simp [h0]

theorem ends_len (a : Int) : (elems (insI none_ a)).length = if 0 ≤ a ∧ a < 5000 then 1 else 0 := by
  by_cases h : 0 ≤ a ∧ a < 5000
  · rw [if_pos h, ends_elems a h]
  · rw [if_neg h, insI_out none_ a h]
    exact congrArg List.length elems_none

theorem elems_none_ : elems none_ = [] := elems_none

def e1 : Nat → Bool := insI none_ 4999
def e2 : Nat → Bool := insI e1 5000
def e3 : Nat → Bool := insI e2 0
theorem ends_v1 : (decide ((0 : Int) ≤ 4999 ∧ (4999 : Int) < 5000) && !hasI none_ 4999) = true := by decide
theorem ends_v2 : (decide ((0 : Int) ≤ 5000 ∧ (5000 : Int) < 5000) && !hasI e1 5000) = false := by decide
theorem ends_v3 : (decide ((0 : Int) ≤ 0 ∧ (0 : Int) < 5000) && !hasI e2 0) = true := by decide
theorem ends_v4 : (decide ((0 : Int) ≤ -1 ∧ (-1 : Int) < 5000) && !hasI e3 (-1)) = false := by decide

set_option maxHeartbeats 2000000 in
theorem ends_any (n : Int) (w : World) (hT : TabAt w) :
    Calls Tryd.prog 6 #[.int .i64 n] w fun e w' => e = .returned (.bool true) ∧ Keeps [] w w' := by
  have HT := hid hT
  have HBe := hid (begun_any w hT)
  clear hT
  have hzero := zero_set
  obtain ⟨M, hM⟩ : ∃ M : Bool, decide (0 ≤ n ∧ n < 5000) = M := ⟨_, rfl⟩
  obtain ⟨N, hN⟩ : ∃ N : Nat, (elems (insI none_ n)).length = N ∧ ((N : Int) == 1) = M := by
    refine ⟨_, rfl, ?_⟩
    rw [ends_len]
    by_cases h : 0 ≤ n ∧ n < 5000
    · rw [if_pos h, ← hM, decide_eq_true h]; rfl
    · rw [if_neg h, ← hM, decide_eq_false h]; rfl
  have hN1 := hN.2
  have HN := hid hN.1
  have HM := hid hM
  clear hM hN
  have HMay : Box (∀ w1 : World, Calls Tryd.prog 10 #[.int .i64 n] w1 fun e w' => e = .returned (.bool M) ∧ w' = w1) := by
    rw [← HM.out]; exact hid (lmay_any n)
  have hbN : ((N : Int) == (N : Int)) = true := by simp
  have hMM : (M == M) = true := by simp
  go_enter Tryd.func6, Tryd.ntmps6
  go_wp2_with fail
  refine HBe.out.mono ?_
  rintro e w1 ⟨rfl, hk1⟩
  clear HBe
  have hnew := hid (setAt_new w1 none_)
  have hkn : Keeps [] w (w1.alloc (Obj.cells (row none_) 28)) := hk1.quiet (Keeps.alloc _ _ _)
  have hle : w.heap.size ≤ w1.heap.size := hk1.size
  clear hk1
  go_wp2_with fail
  generalize w1.alloc (Obj.cells (row none_) 28) = w2 at hnew hkn ⊢
  generalize row none_ = R
  generalize w1.heap.size = b at hnew hle ⊢
  have HA := hid (add_any b none_ n w2 hnew.out fit_none)
  rw [hasI_none, HM.out] at HA
  have hMt : (M && !false) = M := by simp
  rw [hMt] at HA
  clear hMt
  go_wp2_with fail
  refine HA.out.mono ?_
  rintro e w3 ⟨rfl, hq3, hk3⟩
  have hK3 : Keeps [] w w3 := hkn.trans hk3 fun x hx hl => by simp at hx; omega
  have hQ3 := hid hq3
  clear HA hk3 hq3 hkn hnew
  have f1 : Fit (insI none_ n) := fit_none.ins n
  go_wp2_with fail
  refine (HMay.out _).mono ?_
  rintro e w4 ⟨rfl, hw4⟩
  obtain rfl := hw4.symm
  clear hw4
  have HB := hid (has_any b (insI none_ n) n w3 hQ3.out f1)
  rw [hasI_ins, HM.out] at HB
  go_wp2_with fail
  refine HB.out.mono ?_
  rintro e w5 ⟨rfl, m5, rfl⟩
  have hQ5 := hid (hQ3.out.drewN m5)
  have hK5 := hK3.quiet (Keeps.drewN [] _ m5)
  clear HB hQ3 hK3
  generalize w3.drewN m5 = w5 at hQ5 hK5 ⊢
  go_wp2_with fail
  refine (HMay.out _).mono ?_
  rintro e w6 ⟨rfl, hw6⟩
  obtain rfl := hw6.symm
  clear hw6
  have HC := hid (len_any b (insI none_ n) w5 hQ5.out f1)
  rw [HN.out] at HC
  go_wp2_with fail
  refine (HC.out).mono ?_
  rintro e w7 ⟨rfl, hw7⟩
  obtain rfl := hw7.symm
  clear hw7 HC
  have HD := hid (all_any b (insI none_ n) w5 hQ5.out f1 (HT.out.kept hK5 (by simp)))
  go_wp2_with fail
  refine HD.out.mono ?_
  rintro e w8 ⟨v8, rfl, hown8, hk8⟩
  obtain ⟨a8, c8, rfl, _, _⟩ := ownsRow_ints hown8
  rw [HN.out]
  have hQ8 := hid (hQ5.out.kept hk8 (by simp))
  have hK8 := hK5.quiet hk8
  clear HD hown8 hk8 hQ5 hK5
  have HC := hid (len_any b (insI none_ n) w8 hQ8.out f1)
  rw [HN.out] at HC
  go_wp2_with fail
  refine (HC.out).mono ?_
  rintro e w9 ⟨rfl, hw9⟩
  obtain rfl := hw9.symm
  clear hw9 HC
  go_wp2_with fail
  refine (HMay.out _).mono ?_
  rintro e w10 ⟨rfl, hw10⟩
  obtain rfl := hw10.symm
  clear hw10
  have HE := hid (rem_any b (insI none_ n) n w8 hQ8.out f1)
  rw [hasI_ins, HM.out, ends_del] at HE
  go_wp2_with fail
  refine HE.out.mono ?_
  rintro e w11 ⟨rfl, hq11, hk11⟩
  have hK11 : Keeps [] w w11 := hK8.trans hk11 fun x hx hl => by simp at hx; omega
  have hQ11 := hid hq11
  clear HE hk11 hq11 hK8 hQ8
  go_wp2_with fail
  refine (HMay.out _).mono ?_
  rintro e w12 ⟨rfl, hw12⟩
  obtain rfl := hw12.symm
  clear hw12
  have HC := hid (len_any b none_ w11 hQ11.out fit_none)
  rw [elems_none_] at HC
  go_wp2_with fail
  refine (HC.out).mono ?_
  rintro e w13 ⟨rfl, hw13⟩
  obtain rfl := hw13.symm
  clear hw13 HC
  have HG := hid (add_any b none_ 4999 w11 hQ11.out fit_none)
  rw [ends_v1] at HG
  go_wp2_with fail
  refine HG.out.mono ?_
  rintro e w14 ⟨rfl, hq14, hk14⟩
  have hK14 : Keeps [] w w14 := hK11.trans hk14 fun x hx hl => by simp at hx; omega
  have hQ14 := hid hq14
  clear HG hk14 hq14 hK11 hQ11
  have HG := hid (add_any b e1 5000 w14 hQ14.out (fit_none.ins 4999))
  rw [ends_v2] at HG
  go_wp2_with fail
  refine HG.out.mono ?_
  rintro e w15 ⟨rfl, hq15, hk15⟩
  have hK15 : Keeps [] w w15 := hK14.trans hk15 fun x hx hl => by simp at hx; omega
  have hQ15 := hid hq15
  clear HG hk15 hq15 hK14 hQ14
  have HG := hid (add_any b e2 0 w15 hQ15.out ((fit_none.ins 4999).ins 5000))
  rw [ends_v3] at HG
  go_wp2_with fail
  refine HG.out.mono ?_
  rintro e w16 ⟨rfl, hq16, hk16⟩
  have hK16 : Keeps [] w w16 := hK15.trans hk16 fun x hx hl => by simp at hx; omega
  have hQ16 := hid hq16
  clear HG hk16 hq16 hK15 hQ15
  have HG := hid (add_any b e3 (-1) w16 hQ16.out (((fit_none.ins 4999).ins 5000).ins 0))
  rw [ends_v4] at HG
  go_wp2_with fail
  refine HG.out.mono ?_
  rintro e w17 ⟨rfl, hq17, hk17⟩
  have hK17 : Keeps [] w w17 := hK16.trans hk17 fun x hx hl => by simp at hx; omega
  have hQ17 := hid hq17
  clear HG hk17 hq17 hK16 hQ16
  go_wp2
  go_ret
  exact ⟨rfl, hK17⟩
end Go.Proofs.YtcmbhmlpififiaaDoor
