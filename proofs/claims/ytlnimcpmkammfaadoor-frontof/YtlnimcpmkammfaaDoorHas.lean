/-
  Contracts: bitset's may, place, Has.
-/
import Derived.Test.YtlnimcpmkammfaaDoorMem
import Derived.Deep.QuietTactic
import Derived.BigQuiet
import Derived.Laws.BitsAllLaws
namespace Go.Proofs.YtlnimcpmkammfaaDoor
open Go.RowKit

set_option maxHeartbeats 400000 in
theorem may_any (a : Int) (w : World) :
    Calls Tryd.prog 33 #[.int .i64 a] w fun e w' => e = .returned (.bool (decide (0 ≤ a ∧ a < 5000))) ∧ w' = w := by
  by_cases h0 : 0 ≤ a <;> by_cases h1 : a < 5000 <;> (go_enter Tryd.func33, Tryd.ntmps33; go_wp2; go_ret; exact ⟨by simp [h0, h1], rfl⟩)

theorem may_yes (n : Nat) (w : World) (h : n < 5000) :
    Calls Tryd.prog 33 #[.int .i64 (n : Int)] w fun e w' => e = .returned (.bool true) ∧ w' = w :=
  (may_any n w).mono fun e w' ⟨he, hw⟩ => ⟨by rw [he]; simp; omega, hw⟩
theorem may_no (a : Int) (w : World) (h : ¬ (0 ≤ a ∧ a < 5000)) :
    Calls Tryd.prog 33 #[.int .i64 a] w fun e w' => e = .returned (.bool false) ∧ w' = w :=
  (may_any a w).mono fun e w' ⟨he, hw⟩ => ⟨by rw [he]; simp; omega, hw⟩

set_option maxHeartbeats 400000 in
theorem place_raw (n : Nat) (w : World) (h1 : n < 5000) :
    Calls Tryd.prog 34 #[.int .i64 n] w fun e w' => e = .returned (.tuple #[.int .i64 ((n : Int) / 64), .int .u64 (IntKind.u64.wrap (2 ^ ((n : Int) % 64).toNat))]) ∧ ∃ m, w' = w.drewN m := by
  go_enter Tryd.func34, Tryd.ntmps34
  go_wp2
  go_quiet (fail)
  go_wp2
  go_ret2
  exact ⟨rfl, _, rfl⟩

theorem place_any (n : Nat) (w : World) (h1 : n < 5000) :
    Calls Tryd.prog 34 #[.int .i64 n] w fun e w' => ∃ k p : Nat, e = .returned (.tuple #[.int .i64 k, .int .u64 p]) ∧ k < 79 ∧ p < 18446744073709551616 ∧ Box (k = n / 64 ∧ p = 2 ^ (n % 64)) ∧ ∃ m, w' = w.drewN m := by
  refine (place_raw n w h1).mono fun e w' ⟨he, hw⟩ => ?_
  have hp : 2 ^ (n % 64) < 18446744073709551616 := pow_lt64 (Nat.mod_lt _ (by decide))
  refine ⟨n / 64, 2 ^ (n % 64), ?_, by omega, hp, hid ⟨rfl, rfl⟩, hw⟩
  have e1 : ((n : Int) % 64).toNat = n % 64 := by omega
  have e2 : IntKind.u64.wrap (2 ^ (n % 64)) = ((2 ^ (n % 64) : Nat) : Int) := by
    rw [IntKind.wrap_u64]
    have : ((2 ^ (n % 64) : Nat) : Int) = (2 : Int) ^ (n % 64) := by simp
    rw [← this]
    generalize 2 ^ (n % 64) = q at hp
    omega
  rw [he, e1, e2]
  rfl

set_option maxHeartbeats 400000 in
theorem has_nil (a : Int) (w : World) :
    Calls Tryd.prog 20 #[.pointer none, .int .i64 a] w fun e w' => e = .returned (.bool false) ∧ w' = w := by
  go_enter Tryd.func20, Tryd.ntmps20
  go_wp2
  go_ret
  exact ⟨rfl, rfl⟩

set_option maxHeartbeats 400000 in
theorem has_out (b : Nat) (a : Int) (w : World) (h : ¬ (0 ≤ a ∧ a < 5000)) :
    Calls Tryd.prog 20 #[.pointer (some ⟨b, 0, none⟩), .int .i64 a] w fun e w' => e = .returned (.bool false) ∧ w' = w := by
  have H := hid h
  clear h
  go_enter Tryd.func20, Tryd.ntmps20
  go_wp2_with (go_at_call 33; refine (may_no _ _ H.out).mono ?_; rintro e w' ⟨rfl, rfl⟩)
  go_ret
  exact ⟨rfl, rfl⟩

set_option maxHeartbeats 400000 in
theorem has_core (b n k p x y : Nat) (w : World) (h : n < 5000) (hk : k < 79) (hy : bits BinOp.and IntKind.u64 (x : Int) (p : Int) = (y : Int)) (hc : w.cell? ⟨b, k, none⟩ = some (.int .u64 x))
    (hpl : ∀ w1, Calls Tryd.prog 34 #[.int .i64 n] w1 fun e w' => e = .returned (.tuple #[.int .i64 k, .int .u64 p]) ∧ ∃ m, w' = w1.drewN m) :
    Calls Tryd.prog 20 #[.pointer (some ⟨b, 0, none⟩), .int .i64 n] w fun e w' => e = .returned (.bool ((y : Int) != 0)) ∧ ∃ m, w' = w.drewN m := by
  have H := hid hpl
  clear hpl
  go_enter Tryd.func20, Tryd.ntmps20
  go_wp2_with fail
  refine (may_yes n _ h).mono ?_
  rintro e w' ⟨rfl, rfl⟩
  go_wp2_with fail
  refine (H.out _).mono ?_
  rintro e w' ⟨rfl, m, rfl⟩
  go_wp2
  go_ret
  exact ⟨rfl, _, rfl⟩

/-- Has of a set: every number. -/
theorem has_any (b : Nat) (s : Nat → Bool) (a : Int) (w : World) (hs : SetAt w b s) (hf : Fit s) :
    Calls Tryd.prog 20 #[.pointer (some ⟨b, 0, none⟩), .int .i64 a] w fun e w' => e = .returned (.bool (hasI s a)) ∧ ∃ m, w' = w.drewN m := by
  by_cases h : 0 ≤ a ∧ a < 5000
  · obtain ⟨n, rfl⟩ := Int.eq_ofNat_of_zero_le h.1
    have hn : n < 5000 := by omega
    have hp : 2 ^ (n % 64) < 18446744073709551616 := pow_lt64 (Nat.mod_lt _ (by decide))
    have hc := hs.cell (k := n / 64) (by omega)
    refine (has_core b n (n / 64) (2 ^ (n % 64)) (wd s (n / 64)) (wd s (n / 64) &&& 2 ^ (n % 64)) w hn (by omega) (u64_and_nat _ _ (wd_lt s _) hp) hc (fun w1 => ?_)).mono fun e w' ⟨he, hw⟩ => ⟨?_, hw⟩
    · refine (place_any n w1 hn).mono ?_
      rintro e w' ⟨k, p, he, _, _, hh, hw⟩
      obtain ⟨rfl, rfl⟩ := hh.out
      exact ⟨he, hw⟩
    · rw [he]
      have hb := bit_has s n
      have e2 : hasI s (n : Int) = s n := by simp [hasI]
      rw [e2]
      generalize wd s (n / 64) &&& 2 ^ (n % 64) = y at hb
      cases hsn : s n
      · rw [hsn] at hb
        have : y = 0 := by simpa using hb
        subst this; rfl
      · rw [hsn] at hb
        have : y ≠ 0 := hb.2 rfl
        simp; omega
  · refine (has_out b a w h).mono fun e w' ⟨he, hw⟩ => ⟨?_, 0, hw⟩
    rw [he]
    have : hasI s a = false := by
      unfold hasI
      by_cases h0 : 0 ≤ a
      · simp [h0, hf a.toNat (by omega)]
      · simp [h0]
    rw [this]
end Go.Proofs.YtlnimcpmkammfaaDoor
