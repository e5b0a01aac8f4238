/-
  haruspexref8.Dec, of every number.
-/
import Derived.Test.YtmipbaihlodmdaaDoorJDec
namespace Go.Proofs.YtmipbaihlodmdaaDoor
open Go.RowKit

theorem dec_nat (u : Nat) : u ≤ 9223372036854775807 → ∀ w : World, Calls Tryd.prog 28 #[.int .i64 (u : Int)] w fun e w' => e = .returned (.string (digB u)) ∧ Keeps [] w w' := by
  induction u using Nat.strongRecOn with
  | _ u ih =>
    intro hu w
    by_cases h : u < 10
    · exact decF_small u h w
    · exact decF_step u h hu w fun w' => ih (u / 10) (by omega) (by omega) w'

theorem decB_nat (u : Nat) : decB (u : Int) = digB u := by
  unfold decB digB Lib.itoa
  rw [if_neg (by omega), Int.toNat_natCast]
theorem decB_neg (m : Nat) (h : 0 < m) : decB (-(m : Int)) = ⟨#[45]⟩ ++ digB m := by
  unfold decB digB Lib.itoa
  rw [if_pos (by omega), show (-(m : Int)).natAbs = m by omega]
  apply ByteArray.ext
  simp

set_option maxHeartbeats 2000000 in
theorem dec_neg (m : Nat) (h0 : 0 < m) (h1 : m ≤ 4611686018427387904) (w : World) : Calls Tryd.prog 28 #[.int .i64 (-(m : Int))] w fun e w' => e = .returned (.string (decB (-(m : Int)))) ∧ Keeps [] w w' := by
  have g0 : -(m : Int) < 0 := by omega
  have g1 : ¬ -(m : Int) < -4611686018427387904 := by omega
  have hr := hid (dec_nat m (by omega) w)
  have hz := digB_size m (by omega)
  rw [decB_neg m h0]
  generalize digB m = D at *
  have hs : (⟨#[45]⟩ : ByteArray).size = 1 := rfl
  have ha := fun w => add_str ⟨#[45]⟩ D (by omega) (by omega) w
  have b1 : (m : Int) ≤ 9223372036854775807 := by omega
  have b2 : (0 : Int) ≤ (m : Int) := by omega
  have b3 : D.size + 1 ≤ 9223372036854775807 := by omega
  go_enter Tryd.func28, Tryd.ntmps28
  clear h1 hz hs
  go_wp2_with (go_at_call 28; refine hr.out.mono ?_; rintro e w' ⟨rfl, hk⟩; have HK := hid hk; clear hk)
  go_ret
  exact ⟨rfl, HK.out⟩

set_option maxHeartbeats 2000000 in
theorem dec_far (m : Nat) (h0 : 4611686018427387904 < m) (h1 : m ≤ 9223372036854775808) (w : World) : Calls Tryd.prog 28 #[.int .i64 (-(m : Int))] w fun e w' => e = .returned (.string (decB (-(m : Int)))) ∧ Keeps [] w w' := by
  have g0 : -(m : Int) < 0 := by omega
  have g1 : -(m : Int) < -4611686018427387904 := by omega
  have hr := hid (dec_nat (m / 10) (by omega))
  have hr2 := hid (dec_nat (m % 10) (by omega))
  have hz := digB_size (m / 10) (by omega)
  have hz2 := digB_size (m % 10) (by omega)
  have q1 : (-(m : Int)).tdiv 10 = -((m / 10 : Nat) : Int) := by rw [Int.neg_tdiv, Int.tdiv_eq_ediv_of_nonneg (by omega)]; simp
  have q2 : (-(m : Int)).tmod 10 = -((m % 10 : Nat) : Int) := by rw [Int.neg_tmod, Int.tmod_eq_emod_of_nonneg (by omega)]; simp
  have hd : decB (-(m : Int)) = (⟨#[45]⟩ ++ digB (m / 10)) ++ digB (m % 10) := by
    rw [decB_neg m (by omega), digB_step m (by omega), digB_small (m % 10) (by omega), ByteArray.append_assoc]
  rw [hd]
  have hs : (⟨#[45]⟩ : ByteArray).size = 1 := rfl
  have u0 : ((m / 10 : Nat) : Int) ≤ 9223372036854775807 := by omega
  have u1 : ((m % 10 : Nat) : Int) ≤ 9 := by omega
  have u2 : (0 : Int) ≤ ((m / 10 : Nat) : Int) := by omega
  have u3 : (0 : Int) ≤ ((m % 10 : Nat) : Int) := by omega
  generalize digB (m / 10) = D at *
  generalize digB (m % 10) = C at *
  have b3 : D.size + 1 ≤ 1000 := by omega
  have b4 : (D.size + 1) + C.size ≤ 1000 := by omega
  have B := hid (show D.size + 1 ≤ 1000 ∧ (D.size + 1) + C.size ≤ 1000 from ⟨b3, b4⟩)
  generalize hm1 : m / 10 = a at *
  generalize hm2 : m % 10 = c at *
  clear hm1 hm2
  clear h1 hz hs hd h0 hz2
  go_enter Tryd.func28, Tryd.ntmps28
  go_wp2_with fail
  refine (hr.out _).mono ?_
  rintro e w1 ⟨rfl, hk1⟩
  have K1 := hid hk1
  clear hk1
  go_wp2_with fail
  refine (hr2.out _).mono ?_
  rintro e w2 ⟨rfl, hk2⟩
  have K2 := hid hk2
  clear hk2
  have e4 : (⟨#[45]⟩ ++ D : ByteArray).size = D.size + 1 := by rw [ByteArray.size_append]; show 1 + D.size = _; omega
  go_wp2_with fail
  go_ret
  exact ⟨rfl, K1.out.step K2.out⟩

/-- Dec: the decimal numeral of every number. -/
theorem dec_any (n : Int) (h : wf64 n) (w : World) : Calls Tryd.prog 28 #[.int .i64 n] w fun e w' => e = .returned (.string (decB n)) ∧ Keeps [] w w' := by
  obtain ⟨h0, h1⟩ := h
  by_cases hn : 0 ≤ n
  · obtain ⟨u, rfl⟩ : ∃ u : Nat, n = (u : Int) := ⟨n.toNat, by omega⟩
    rw [decB_nat]
    exact dec_nat u (by omega) w
  · obtain ⟨m, rfl⟩ : ∃ m : Nat, n = -(m : Int) := ⟨n.natAbs, by omega⟩
    by_cases hm : m ≤ 4611686018427387904
    · exact dec_neg m (by omega) hm w
    · exact dec_far m (by omega) (by omega) w
end Go.Proofs.YtmipbaihlodmdaaDoor
