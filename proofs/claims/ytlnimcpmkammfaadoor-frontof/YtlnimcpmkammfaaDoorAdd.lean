/-
  Contracts: bitset's Add and Remove.
-/
import Derived.Test.YtlnimcpmkammfaaDoorHas
import Derived.RegionTactic
import Derived.ChangeAlike
namespace Go.Proofs.YtlnimcpmkammfaaDoor
open Go.RowKit

set_option maxHeartbeats 400000 in
theorem add_nil (a : Int) (w : World) :
    Calls Tryd.prog 31 #[.pointer none, .int .i64 a] w fun e w' => e = .returned (.bool false) ∧ w' = w := by
  go_enter Tryd.func31, Tryd.ntmps31
  go_wp2
  go_ret
  exact ⟨rfl, rfl⟩

set_option maxHeartbeats 400000 in
theorem add_out (b : Nat) (a : Int) (w : World) (h : ¬ (0 ≤ a ∧ a < 5000)) :
    Calls Tryd.prog 31 #[.pointer (some ⟨b, 0, none⟩), .int .i64 a] w fun e w' => e = .returned (.bool false) ∧ w' = w := by
  have H := hid h
  clear h
  go_enter Tryd.func31, Tryd.ntmps31
  go_wp2_with (go_at_call 33; refine (may_no _ _ H.out).mono ?_; rintro e w' ⟨rfl, rfl⟩)
  go_ret
  exact ⟨rfl, rfl⟩

set_option maxHeartbeats 400000 in
theorem add_in (b n : Nat) (w : World) (h : n < 5000)
    (hh : ∀ w1, w1 = w → Calls Tryd.prog 20 #[.pointer (some ⟨b, 0, none⟩), .int .i64 n] w1 fun e w' => e = .returned (.bool true) ∧ ∃ m, w' = w1.drewN m) :
    Calls Tryd.prog 31 #[.pointer (some ⟨b, 0, none⟩), .int .i64 n] w fun e w' => e = .returned (.bool false) ∧ ∃ m, w' = w.drewN m := by
  have H := hid hh
  clear hh
  go_enter Tryd.func31, Tryd.ntmps31
  go_wp2_with fail
  refine (may_yes n _ h).mono ?_
  rintro e w' ⟨rfl, rfl⟩
  go_wp2_with fail
  refine (H.out _ rfl).mono ?_
  rintro e w' ⟨rfl, m, rfl⟩
  go_wp2
  go_ret
  exact ⟨rfl, _, rfl⟩

set_option maxHeartbeats 400000 in
theorem add_core (b n k p x z : Nat) (w : World) (h : n < 5000) (hk : k < 79) (hz : bits BinOp.or IntKind.u64 (x : Int) (p : Int) = (z : Int)) (hc : w.cell? ⟨b, k, none⟩ = some (.int .u64 x)) (hfz : w.frozen? ⟨b, k, none⟩ = false)
    (hh : ∀ w1, w1 = w → Calls Tryd.prog 20 #[.pointer (some ⟨b, 0, none⟩), .int .i64 n] w1 fun e w' => e = .returned (.bool false) ∧ ∃ m, w' = w1.drewN m)
    (hpl : ∀ w1, Calls Tryd.prog 34 #[.int .i64 n] w1 fun e w' => e = .returned (.tuple #[.int .i64 k, .int .u64 p]) ∧ ∃ m, w' = w1.drewN m) :
    Calls Tryd.prog 31 #[.pointer (some ⟨b, 0, none⟩), .int .i64 n] w fun e w' => e = .returned (.bool true) ∧ ∃ m, w' = (w.setCell ⟨b, k, none⟩ (.int .u64 z)).drewN m := by
  have H := hid hh
  have H2 := hid hpl
  clear hh hpl
  go_enter Tryd.func31, Tryd.ntmps31
  go_wp2_with fail
  refine (may_yes n _ h).mono ?_
  rintro e w' ⟨rfl, rfl⟩
  go_wp2_with fail
  refine (H.out _ rfl).mono ?_
  rintro e w' ⟨rfl, m, rfl⟩
  go_wp2_with fail
  refine (H2.out _).mono ?_
  rintro e w' ⟨rfl, m2, rfl⟩
  go_wp2
  go_region
  go_wp2
  go_ret
  exact ⟨rfl, _, rfl⟩

theorem place_at (n : Nat) (hn : n < 5000) (w1 : World) : Calls Tryd.prog 34 #[.int .i64 (n : Int)] w1 fun e w' => e = .returned (.tuple #[.int .i64 ((n / 64 : Nat) : Int), .int .u64 ((2 ^ (n % 64) : Nat) : Int)]) ∧ ∃ m, w' = w1.drewN m := by
  refine (place_any n w1 hn).mono ?_
  rintro e w' ⟨k, p, he, _, _, hh, hw⟩
  obtain ⟨rfl, rfl⟩ := hh.out
  exact ⟨he, hw⟩

/-- Add: every number. -/
theorem add_any (b : Nat) (s : Nat → Bool) (a : Int) (w : World) (hs : SetAt w b s) (hf : Fit s) :
    Calls Tryd.prog 31 #[.pointer (some ⟨b, 0, none⟩), .int .i64 a] w fun e w' => e = .returned (.bool (decide (0 ≤ a ∧ a < 5000) && !hasI s a)) ∧ SetAt w' b (insI s a) ∧ Keeps [b] w w' := by
  by_cases h : 0 ≤ a ∧ a < 5000
  · have hd : decide (0 ≤ a ∧ a < 5000) = true := by simpa using h
    rw [hd]
    obtain ⟨n, rfl⟩ := Int.eq_ofNat_of_zero_le h.1
    have hn : n < 5000 := by omega
    have e2 : hasI s (n : Int) = s n := by simp [hasI]
    rw [e2]
    have hh : ∀ w1, w1 = w → Calls Tryd.prog 20 #[.pointer (some ⟨b, 0, none⟩), .int .i64 (n : Int)] w1 fun e w' => e = .returned (.bool (s n)) ∧ ∃ m, w' = w1.drewN m := by
      intro w1 hw
      subst hw
      have := has_any b s n w1 hs hf
      rw [e2] at this
      exact this
    cases hsn : s n
    · have hp : 2 ^ (n % 64) < 18446744073709551616 := pow_lt64 (Nat.mod_lt _ (by decide))
      have hc := hs.cell (k := n / 64) (by omega)
      rw [hsn] at hh
      refine (add_core b n (n / 64) (2 ^ (n % 64)) (wd s (n / 64)) (wd s (n / 64) ||| 2 ^ (n % 64)) w hn (by omega) (u64_or_nat _ _ (wd_lt s _) hp) hc (hs.frozen _) hh (place_at n hn)).mono ?_
      rintro e w' ⟨he, m, hw⟩
      subst hw
      refine ⟨by rw [he]; rfl, ?_, ?_⟩
      · rw [insI_nat s n hn]
        exact (hs.put (ins s n) (n / 64) _ (fun j hj => wd_ins_off s n j hj) (wd_ins_at s n)).drewN m
      · exact (Keeps.setCell [b] w ⟨b, n / 64, none⟩ _ (by simp)).quiet (Keeps.drewN _ _ m)
    · rw [hsn] at hh
      refine (add_in b n w hn hh).mono ?_
      rintro e w' ⟨he, m, hw⟩
      subst hw
      exact ⟨by rw [he]; rfl, by rw [insI_in s n hsn]; exact hs.drewN m, Keeps.drewN _ _ m⟩
  · have hd : decide (0 ≤ a ∧ a < 5000) = false := by simpa using h
    rw [hd]
    refine (add_out b a w h).mono ?_
    rintro e w' ⟨he, hw⟩
    subst hw
    exact ⟨by rw [he]; rfl, by rw [insI_out s a h]; exact hs, Keeps.refl _ _⟩

set_option maxHeartbeats 400000 in
theorem rem_not (pv : Value) (a : Int) (w : World)
    (hh : Calls Tryd.prog 20 #[pv, .int .i64 a] w fun e w' => e = .returned (.bool false) ∧ ∃ m, w' = w.drewN m) :
    Calls Tryd.prog 30 #[pv, .int .i64 a] w fun e w' => e = .returned (.bool false) ∧ ∃ m, w' = w.drewN m := by
  have H := hid hh
  clear hh
  go_enter Tryd.func30, Tryd.ntmps30
  go_wp2_with fail
  refine H.out.mono ?_
  rintro e w' ⟨rfl, m, rfl⟩
  go_wp2
  go_ret
  exact ⟨rfl, _, rfl⟩

set_option maxHeartbeats 400000 in
theorem rem_core (b n k p x z : Nat) (w : World) (hk : k < 79) (hz : bits BinOp.andNot IntKind.u64 (x : Int) (p : Int) = (z : Int)) (hc : w.cell? ⟨b, k, none⟩ = some (.int .u64 x)) (hfz : w.frozen? ⟨b, k, none⟩ = false)
    (hh : Calls Tryd.prog 20 #[.pointer (some ⟨b, 0, none⟩), .int .i64 n] w fun e w' => e = .returned (.bool true) ∧ ∃ m, w' = w.drewN m)
    (hpl : ∀ w1, Calls Tryd.prog 34 #[.int .i64 n] w1 fun e w' => e = .returned (.tuple #[.int .i64 k, .int .u64 p]) ∧ ∃ m, w' = w1.drewN m) :
    Calls Tryd.prog 30 #[.pointer (some ⟨b, 0, none⟩), .int .i64 n] w fun e w' => e = .returned (.bool true) ∧ ∃ m, w' = (w.setCell ⟨b, k, none⟩ (.int .u64 z)).drewN m := by
  have H := hid hh
  have H2 := hid hpl
  clear hh hpl
  go_enter Tryd.func30, Tryd.ntmps30
  go_wp2_with fail
  refine H.out.mono ?_
  rintro e w' ⟨rfl, m, rfl⟩
  go_wp2_with fail
  refine (H2.out _).mono ?_
  rintro e w' ⟨rfl, m2, rfl⟩
  go_wp2
  go_region
  go_wp2
  go_ret
  exact ⟨rfl, _, rfl⟩

/-- Remove: every number. -/
theorem rem_any (b : Nat) (s : Nat → Bool) (a : Int) (w : World) (hs : SetAt w b s) (hf : Fit s) :
    Calls Tryd.prog 30 #[.pointer (some ⟨b, 0, none⟩), .int .i64 a] w fun e w' => e = .returned (.bool (hasI s a)) ∧ SetAt w' b (delI s a) ∧ Keeps [b] w w' := by
  have hh := has_any b s a w hs hf
  cases hsn : hasI s a
  · rw [hsn] at hh
    refine (rem_not _ a w hh).mono ?_
    rintro e w' ⟨he, m, hw⟩
    subst hw
    exact ⟨by rw [he], by rw [delI_not s a hsn]; exact hs.drewN m, Keeps.drewN _ _ m⟩
  · rw [hsn] at hh
    have h0 : 0 ≤ a := by
      by_cases h0 : 0 ≤ a
      · exact h0
      · simp [hasI, h0] at hsn
    obtain ⟨n, rfl⟩ := Int.eq_ofNat_of_zero_le h0
    have hsn' : s n = true := by simpa [hasI] using hsn
    have hn : n < 5000 := by
      apply Nat.lt_of_not_le
      intro hle
      rw [hf n hle] at hsn'
      cases hsn'
    have hp : 2 ^ (n % 64) < 18446744073709551616 := pow_lt64 (Nat.mod_lt _ (by decide))
    have hc := hs.cell (k := n / 64) (by omega)
    refine (rem_core b n (n / 64) (2 ^ (n % 64)) (wd s (n / 64)) (wd s (n / 64) &&& (18446744073709551615 - 2 ^ (n % 64))) w (by omega) (u64_andNot_nat _ _ (wd_lt s _) hp) hc (hs.frozen _) hh (place_at n hn)).mono ?_
    rintro e w' ⟨he, m, hw⟩
    subst hw
    refine ⟨by rw [he], ?_, ?_⟩
    · rw [delI_nat s n]
      exact (hs.put (del s n) (n / 64) _ (fun j hj => wd_del_off s n j hj) (wd_del_at s n)).drewN m
    · exact (Keeps.setCell [b] w ⟨b, n / 64, none⟩ _ (by simp)).quiet (Keeps.drewN _ _ m)

theorem rem_nil (a : Int) (w : World) :
    Calls Tryd.prog 30 #[.pointer none, .int .i64 a] w fun e w' => e = .returned (.bool false) ∧ ∃ m, w' = w.drewN m :=
  rem_not _ a w ((has_nil a w).mono fun _ _ ⟨he, hw⟩ => ⟨he, 0, hw⟩)
end Go.Proofs.YtlnimcpmkammfaaDoor
