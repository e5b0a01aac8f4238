/-
  CodeAny: with no program, and the whole.
-/
import Derived.Test.YtmipbaihlodmdaaDoorCAny
namespace Go.Proofs.YtmipbaihlodmdaaDoor
open Go.RowKit

set_option maxRecDepth 20000 in
set_option maxHeartbeats 3000000 in
theorem codeAny_nil {w : World} (ra : Option Addr) (rcp : Nat) (rl : List UInt8) (at0 : Int) (xn : Int) (cut0 : Int) (hg : Glob w) (hr : BytesAt w ra rl) (hrc : rl.length ≤ rcp) (hrm : rl.length ≤ maxLen) :
    Calls Tryd.prog 4 #[.pointer none, .slice ra rl.length rcp, .int .i64 at0, .int .u8 xn, .int .i64 cut0] w fun e w' => e = .returned (.bool true) ∧ Keeps [] w w' := by
  have HG := hid hg
  have HB := hid (begun_any w hg)
  have HS := hid fun (w' : World) => small_nil w'
  have HRB := hid hr
  obtain ⟨rn, hrn⟩ : ∃ n, n = rl.length := ⟨_, rfl⟩
  have HRN := hid hrn
  rw [← hrn] at hrc hrm ⊢
  have hrm' : (rn : Int) ≤ 9223372036854775807 := by unfold maxLen at hrm; omega
  clear hg hr hrn hrm
  go_enter Tryd.func4, Tryd.ntmps4
  go_wp2_with fail
  refine HB.out.mono ?_
  rintro e w0 ⟨rfl, k0⟩
  have K0 := hid k0
  clear HB k0
  go_upto_if 18 with fail
  go_cut [1] (fun v wz => wz = w0 ∧ ∃ n, v = .slice ra n rcp ∧ Box (∃ l, n = l.length ∧ BytesAt w ra l ∧ n ≤ rcp ∧ n ≤ 9223372036854775807))
  case first =>
    by_cases q1 : 200 < rn
    · have q1' : (200 : Int) < (rn : Int) := by omega
      have q2 : (200 : Int) ≤ (rcp : Int) := by omega
      have q3 : 200 ≤ rcp := by omega
      go_wp2_with fail
      go_meet
      exact ⟨rfl, 200, rfl, hid ⟨rl.take 200, by rw [List.length_take, ← HRN.out]; omega, HRB.out.take 200, q3, by omega⟩⟩
    · have q1' : ¬ (200 : Int) < (rn : Int) := by omega
      go_wp2_with fail
      go_meet
      exact ⟨rfl, rn, rfl, hid ⟨rl, HRN.out, HRB.out, hrc, by omega⟩⟩
  case rest =>
    obtain ⟨hw, n9, rfl, HL9⟩ := hcut
    have hw' := hw.symm
    subst hw'
    clear hw
    obtain ⟨l9, hl9, hb9, hc9, hx9⟩ := HL9.out
    have HT := hid (told_any (cp := rcp) (HG.out.quiet K0.out) (hb9.quiet K0.out) (by rw [← hl9]; exact hc9) (by rw [← hl9]; exact hx9))
    rw [← hl9] at HT
    clear HL9 hl9 hb9 hc9 hx9 HRN HRB hrc hrm'
    go_wp2_with fail
    refine HT.out.mono ?_
    rintro e w1 ⟨rfl, k1⟩
    have K1 := hid (K0.out.quiet k1)
    clear HT k1 K0
    go_wp2_with fail
    refine (HS.out _).mono ?_
    rintro e w2 ⟨rfl, rfl⟩
    go_wp2_with fail
    go_ret
    exact ⟨rfl, K1.out⟩
theorem codeAny_walk (v : Value) (ra : Option Addr) (rcp : Nat) (rl : List UInt8) (at0 : Int) (xn : Int) (cut0 : Int) (w : World) (hg : Glob w) (hp : ProgAt 1048576 w v) (hr : BytesAt w ra rl) (hrc : rl.length ≤ rcp) (hrm : rl.length ≤ maxLen) (ha : b64 at0) (hx : 0 ≤ xn ∧ xn < 256) (hcu : b64 cut0) : Calls Tryd.prog 4 #[v, .slice ra rl.length rcp, .int .i64 at0, .int .u8 xn, .int .i64 cut0] w fun e w' => e = .returned (.bool true) ∧ Keeps [] w w' := by
  rcases hp with rfl | ⟨b, o, P, rfl, h1, h2⟩
  · exact codeAny_nil ra rcp rl at0 xn cut0 hg hr hrc hrm
  · obtain ⟨m, rfl⟩ : ∃ m : Nat, xn = (m : Int) := ⟨xn.toNat, by omega⟩
    exact codeAny_in ra rcp rl at0 m cut0 (by omega) ha hcu hg h1 h2 hr hrc hrm
end Go.Proofs.YtmipbaihlodmdaaDoor
