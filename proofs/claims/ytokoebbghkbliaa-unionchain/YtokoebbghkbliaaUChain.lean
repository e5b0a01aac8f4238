/-
  The statement UnionChain: its walk.
-/
import Derived.Test.YtokoebbghkbliaaUTwo
namespace Go.Proofs.Ytokoebbghkbliaa
open Go.RowKit

/-- The numbers below k are together; every second one is. -/
def cu (k : Nat) : Nat → Nat := fun a => if a < k then 0 else a
def cv (k : Nat) : Nat → Nat := fun a => if a < k then a % 2 else a

theorem cu_1 : (fun k => k) = cu 1 := by
  funext a
  unfold cu
  by_cases h : a < 1
  · rw [if_pos h]; omega
  · rw [if_neg h]
theorem cv_2 : (fun k => k) = cv 2 := by
  funext a
  unfold cv
  by_cases h : a < 2
  · rw [if_pos h]; omega
  · rw [if_neg h]
theorem cv_12 : cv 1 = cv 2 := by
  funext a
  unfold cv
  by_cases h : a < 1
  · rw [if_pos h, if_pos (by omega)]
  · by_cases h2 : a < 2
    · rw [if_neg h, if_pos h2]; omega
    · rw [if_neg h, if_neg h2]
theorem cu_step (n k : Nat) (h1 : 1 ≤ k) (hk : k < n) : joinI n (cu k) (k : Int) ((k : Int) - 1) = cu (k + 1) := by
  have e : (k : Int) - 1 = ((k - 1 : Nat) : Int) := by omega
  rw [e, joinI_in n _ k (k - 1) hk (by omega)]
  have e1 : cu k k = k := by unfold cu; rw [if_neg (by omega)]
  have e2 : cu k (k - 1) = 0 := by unfold cu; rw [if_pos (by omega)]
  rw [e1, e2]
  funext a
  unfold joined cu
  by_cases h : a < k
  · rw [if_pos h, if_pos (show a < k + 1 by omega), if_neg (by omega)]
  · rw [if_neg h]
    by_cases h2 : a = k
    · subst h2
      rw [if_pos (show a < a + 1 by omega), if_pos (by omega)]; omega
    · rw [if_neg (show ¬ a < k + 1 by omega), if_neg (by omega)]
theorem cv_step (n k : Nat) (h1 : 1 < k) (hk : k < n) : joinI n (cv k) (k : Int) ((k : Int) - 2) = cv (k + 1) := by
  have e : (k : Int) - 2 = ((k - 2 : Nat) : Int) := by omega
  rw [e, joinI_in n _ k (k - 2) hk (by omega)]
  have e1 : cv k k = k := by unfold cv; rw [if_neg (by omega)]
  have e2 : cv k (k - 2) = k % 2 := by unfold cv; rw [if_pos (by omega)]; omega
  rw [e1, e2]
  funext a
  unfold joined cv
  by_cases h : a < k
  · rw [if_pos h, if_pos (show a < k + 1 by omega), if_neg (by omega)]
  · rw [if_neg h]
    by_cases h2 : a = k
    · subst h2
      rw [if_pos (show a < a + 1 by omega), if_pos (by omega)]; omega
    · rw [if_neg (show ¬ a < k + 1 by omega), if_neg (by omega)]
theorem cu_find (n a : Nat) (h : a < n) : findI n (cu n) (a : Int) = 0 := by
  rw [findI_in n _ a h]; unfold cu; rw [if_pos h]; rfl
theorem cv_find (n a : Nat) (h : a < n) : findI n (cv n) (a : Int) = ((a % 2 : Nat) : Int) := by
  rw [findI_in n _ a h]; unfold cv; rw [if_pos h]
theorem cu_len (n : Nat) (h : 3 ≤ n) : (leads n (cu n)).length = 1 := by
  have e : leads n (cu n) = (List.range n).filter fun a => a == 0 := by
    unfold leads
    apply filter_range_congr
    intro k hk
    unfold cu
    rw [if_pos hk]
    by_cases h0 : k = 0
    · subst h0; rfl
    · have a1 : (k == 0) = false := by simpa using h0
      have a2 : (0 == k) = false := by simpa using fun e => h0 e.symm
      rw [a1, a2]
  rw [e]
  have := filter_one (fun a => a == 0) (fun _ => false) 0 rfl rfl (fun k hk => by simpa using hk) n
  rw [this, if_pos (by omega)]
  simp
theorem cv_len (n : Nat) (h : 3 ≤ n) : (leads n (cv n)).length = 2 := by
  have e : leads n (cv n) = (List.range n).filter fun a => decide (a < 2) := by
    unfold leads
    apply filter_range_congr
    intro k hk
    unfold cv
    rw [if_pos hk]
    by_cases h0 : k < 2
    · have : k % 2 = k := by omega
      simp [this, h0]
    · have : ¬ k % 2 = k := by omega
      have a1 : (k % 2 == k) = false := by simpa using this
      rw [a1, decide_eq_false h0]
  rw [e]
  have h1 := filter_one (fun a => decide (a < 2)) (fun a => a == 0) 1 rfl rfl (fun k hk => by
    by_cases h0 : k = 0
    · subst h0; rfl
    · have a1 : (k == 0) = false := by simpa using h0
      rw [a1, decide_eq_false (by omega)]) n
  have h2 := filter_one (fun a => a == 0) (fun _ => false) 0 rfl rfl (fun k hk => by simpa using hk) n
  rw [h1, h2, if_pos (by omega), if_pos (by omega)]
  simp

set_option maxHeartbeats 1000000 in
theorem chain_out (a : Int) (w : World) (h : a < 3 ∨ 400 < a) :
    Calls Try.prog 7 #[.int .i64 a] w fun e w' => e = .returned (.bool true) ∧ Keeps [] w w' := by
  have HA := hid (begun_any w)
  rcases h with h | h
  · have hb : decide (a < 3) = true := decide_eq_true h
    go_enter Try.func7, Try.ntmps7
    go_wp2_with fail
    refine HA.out.mono ?_
    rintro e w1 ⟨rfl, hk1⟩
    clear HA
    go_wp2
    go_ret
    exact ⟨rfl, hk1⟩
  · have hb : decide (a < 3) = false := decide_eq_false (by omega)
    have hb2 : decide (400 < a) = true := decide_eq_true h
    go_enter Try.func7, Try.ntmps7
    go_wp2_with fail
    refine HA.out.mono ?_
    rintro e w1 ⟨rfl, hk1⟩
    clear HA
    go_wp2
    go_ret
    exact ⟨rfl, hk1⟩

set_option maxHeartbeats 2000000 in
theorem chain_in (n : Nat) (w : World) (h3 : 3 ≤ n) (h4 : n ≤ 400) :
    Calls Try.prog 7 #[.int .i64 (n : Int)] w fun e w' => e = .returned (.bool true) ∧ Keeps [] w w' := by
  have HA := hid (begun_any w)
  go_enter Try.func7, Try.ntmps7
  go_wp2_with fail
  refine HA.out.mono ?_
  rintro e w1 ⟨rfl, hk1⟩
  clear HA
  have HA := hid (new_nat n w1 (by omega))
  go_wp2_with fail
  refine HA.out.mono ?_
  rintro e w2 ⟨rfl, hu2, hk2⟩
  clear HA
  have HA := hid (new_nat n w2 (by omega))
  go_wp2_with fail
  refine HA.out.mono ?_
  rintro e w3 ⟨rfl, hv3, hk3⟩
  have hT := hid (two_new hk1 hu2 hk2 hv3 hk3)
  clear HA hk1 hu2 hk2 hv3 hk3
  generalize w1.heap.size = bu at hT ⊢
  generalize w2.heap.size = bv at hT ⊢
  go_wp2_with fail
  go_loopw [6] (fun i wr => ∃ k : Nat, 1 ≤ k ∧ k ≤ n ∧ i = .int .i64 k ∧ Box (Two w wr bu bv n (cu k) (cv k))) (fun i _ => n - (intOf i).toNat)
  case atStart => exact ⟨1, by omega, by omega, rfl, hid (by have := hT.out; rw [cv_12, ← cv_2, ← cu_1]; exact this)⟩
  case round =>
    clear hT
    obtain ⟨k, hk1, hk, rfl, hT⟩ := hrel
    by_cases hlt : k < n
    · have HJ := hid (join_any bu n (cu k) (k : Int) ((k : Int) - 1) wr hT.out.u)
      rw [cu_step n k hk1 hlt] at HJ
      have hlt' : (k : Int) < (n : Int) := by omega
      go_wp2_with fail
      refine HJ.out.mono ?_
      rintro e w4 ⟨rfl, hu4, hk4⟩
      have hT4 := hid (hT.out.onU hu4 hk4)
      clear HJ hT hu4 hk4
      by_cases h1 : 1 < k
      · have HJ := hid (join_any bv n (cv k) (k : Int) ((k : Int) - 2) w4 hT4.out.v)
        rw [cv_step n k h1 hlt] at HJ
        have h1' : decide ((1 : Int) < (k : Int)) = true := decide_eq_true (by omega)
        go_wp2_with fail
        refine HJ.out.mono ?_
        rintro e w5 ⟨rfl, hv5, hk5⟩
        have hT5 := hid (hT4.out.onV hv5 hk5)
        clear HJ hT4 hv5 hk5
        go_wp2
        go_roundw
        case rel => exact ⟨k + 1, by omega, by omega, by go_num, hT5⟩
        case measure => simp [intOf]; omega
      · obtain rfl : k = 1 := by omega
        have hT5 : Box (Two w w4 bu bv n (cu (1 + 1)) (cv (1 + 1))) := hid (by have := hT4.out; rw [cv_12] at this; exact this)
        clear hT4
        go_wp2
        go_roundw
        case rel => exact ⟨2, by omega, by omega, by go_num, hT5⟩
        case measure => simp [intOf]; omega
    · obtain rfl : k = n := by omega
      go_wp2_with fail
      go_loopw [7] (fun i wr => ∃ j : Nat, j ≤ k ∧ i = .int .i64 j ∧ Box (Two w wr bu bv k (cu k) (cv k))) (fun i _ => k - (intOf i).toNat)
      case atStart => exact ⟨0, by omega, rfl, hT⟩
      case round =>
        clear hT
        obtain ⟨j, hj, rfl, hT⟩ := hrel
        by_cases hlt : j < k
        · have HF := hid (find_any bu k (cu k) (j : Int) wr hT.out.u)
          rw [cu_find k j hlt] at HF
          have hlt' : (j : Int) < (k : Int) := by omega
          go_wp2_with fail
          refine HF.out.mono ?_
          rintro e w4 ⟨rfl, hu4, hk4⟩
          have hT4 := hid (hT.out.onU hu4 hk4)
          clear HF hT hu4 hk4
          have HF := hid (find_any bv k (cv k) (j : Int) w4 hT4.out.v)
          rw [cv_find k j hlt] at HF
          go_wp2_with fail
          refine HF.out.mono ?_
          rintro e w5 ⟨rfl, hv5, hk5⟩
          have hT5 := hid (hT4.out.onV hv5 hk5)
          clear HF hT4 hv5 hk5
          have hm : (((j % 2 : Nat) : Int) != (j : Int) % 2) = false := by
            have : ((j % 2 : Nat) : Int) = (j : Int) % 2 := by omega
            rw [this]; simp
          go_wp2
          go_roundw
          case rel => exact ⟨j + 1, by omega, by go_num, hT5⟩
          case measure => simp [intOf]; omega
        · obtain rfl : j = k := by omega
          have HL := hid (ulen_any bu j (cu j) wr hT.out.u)
          rw [cu_len j h3] at HL
          go_wp2_with fail
          refine HL.out.mono ?_
          rintro e w4 ⟨rfl, hw4⟩
          obtain rfl := hw4.symm
          clear hw4 HL
          have HL := hid (ulen_any bv j (cv j) wr hT.out.v)
          rw [cv_len j h3] at HL
          go_wp2_with fail
          refine HL.out.mono ?_
          rintro e w4 ⟨rfl, hw4⟩
          obtain rfl := hw4.symm
          clear hw4 HL
          go_wp2
          go_ret
          exact ⟨rfl, hT.out.keep⟩

theorem chain_any (a : Int) (w : World) :
    Calls Try.prog 7 #[.int .i64 a] w fun e w' => e = .returned (.bool true) ∧ Keeps [] w w' := by
  by_cases h : a < 3 ∨ 400 < a
  · exact chain_out a w h
  · obtain ⟨n, rfl⟩ := Int.eq_ofNat_of_zero_le (show 0 ≤ a by omega)
    exact chain_in n w (by omega) (by omega)
end Go.Proofs.Ytokoebbghkbliaa
