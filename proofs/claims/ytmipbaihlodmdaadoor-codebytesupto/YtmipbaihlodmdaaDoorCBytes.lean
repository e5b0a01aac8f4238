/-
  CodeBytes: any program goes to its bytes and back.
-/
import Derived.Test.YtmipbaihlodmdaaDoorCFew
namespace Go.Proofs.YtmipbaihlodmdaaDoor
open Go.RowKit

set_option maxRecDepth 20000 in
set_option maxHeartbeats 4000000 in
theorem codeBytes_in {w : World} {pb po : Nat} {P : Pr8} (hg : Glob w) (h : PrC w pb po P) (hf : FewP 1048576 P) : Calls Tryd.prog 3 #[.pointer (some ⟨pb, po, none⟩)] w fun e w' => e = .returned (.bool true) ∧ Keeps [] w w' := by
  have HG := hid hg
  have HB := hid (begun_any w hg)
  have HS := hid fun (w' : World) (k : Keeps [] w w') => small9_any (PrC.stays _ _ _ _ _ k h)
  have HP := hid h
  have HF := hid hf
  clear hg h hf
  go_enter Tryd.func3, Tryd.ntmps3
  go_wp2_with fail
  refine HB.out.mono ?_
  rintro e w1 ⟨rfl, k1⟩
  have K1 := hid k1
  clear HB k1
  go_wp2_with fail
  refine (HS.out _ K1.out).mono ?_
  rintro e w2 ⟨s, rfl, hw2, hs⟩
  rw [hw2]
  clear hw2
  cases s with
  | false =>
    go_wp2_with fail
    go_ret
    exact ⟨rfl, K1.out⟩
  | true =>
    have HLE := hid (few_le HP.out.ok (hs rfl) HF.out)
    have HP1 := hid (PrC.stays _ _ _ _ _ K1.out HP.out)
    have HFE := hid (fe_any HP1.out HLE.out)
    clear hs HS HF
    go_wp2_with fail
    refine HFE.out.mono ?_
    rintro e w3 ⟨v3, rfl, a3, c3, rfl, B3, _, k3⟩
    have HEN := hid (encode_any (PrC.stays _ _ _ _ _ k3 HP1.out))
    have HB3 := hid B3
    have K3 := hid k3
    obtain ⟨m, hm⟩ : ∃ m, m = (prE P).length := ⟨_, rfl⟩
    have HM := hid hm
    rw [← hm]
    clear HFE B3 k3 hm
    go_wp2_with fail
    refine HEN.out.mono ?_
    intro e w4 h4
    by_cases hl : (prE P).length ≤ 20000
    · obtain ⟨a4, c4, rfl, B4, C4, k4⟩ := enc_good hl h4
      have HD := hid (decode_any B4 C4 (by omega))
      have HB4 := hid B4
      have HB34 := hid (HB3.out.quiet k4)
      have K4 := hid (K3.out.quiet k4)
      rw [← HM.out] at HD
      rw [← HM.out]
      have hm1 : ¬ (20000 : Int) < (m : Int) := by have := HM.out; omega
      clear HEN h4 B4 C4 k4 HB3 K3
      go_wp2_with fail
      refine HD.out.mono ?_
      intro e w5 h5
      obtain ⟨qb, rfl, hq, k5⟩ := dec_good HP.out.ok hl h5
      have cv1 := conv_bytes (cp := c4) (HB4.out.quiet k5) (prE_ne P)
      have cv2 := conv_bytes (cp := c3) (HB34.out.quiet k5) (prE_ne P)
      rw [← HM.out] at cv1 cv2
      have K5 := hid (K4.out.quiet k5)
      have HEQ := hid (eqp_any (PrC.stays _ _ _ _ _ K5.out HP1.out) hq HLE.out HLE.out)
      rw [decide_eq_true rfl] at HEQ
      generalize strB (prE P) = SB at *
      clear HD h5 hq k5 hl HB4 HB34 K4
      go_wp2_with fail
      refine HEQ.out.mono ?_
      rintro e w6 ⟨rfl, k6⟩
      go_wp2_with fail
      go_ret
      exact ⟨rfl, (K1.out.quiet K5.out).quiet k6⟩
    · obtain ⟨p, rfl, r4, k4⟩ := enc_bad (by omega) h4
      have K4 := hid (K1.out.quiet (K3.out.quiet k4))
      have HW := hid (why_ref p w4 (HG.out.quiet K4.out) r4)
      have hm1 : (20000 : Int) < (m : Int) := by have := HM.out; omega
      clear HEN h4 r4 k4 hl
      go_wp2_with fail
      refine HW.out.mono ?_
      rintro e w5 ⟨rfl, k5⟩
      go_wp2_with fail
      go_ret
      exact ⟨rfl, K4.out.quiet k5⟩
theorem codeBytes_nil (w : World) (hg : Glob w) : Calls Tryd.prog 3 #[.pointer none] w fun e w' => e = .returned (.bool true) ∧ Keeps [] w w' := by
  have HB := hid (begun_any w hg)
  have HS := hid fun (w' : World) => small_nil w'
  clear hg
  go_enter Tryd.func3, Tryd.ntmps3
  go_wp2_with fail
  refine HB.out.mono ?_
  rintro e w1 ⟨rfl, k1⟩
  go_wp2_with fail
  refine (HS.out _).mono ?_
  rintro e w2 ⟨rfl, rfl⟩
  go_wp2_with fail
  go_ret
  exact ⟨rfl, k1⟩
theorem codeBytes_walk (v : Value) (w : World) (hg : Glob w) (hp : ProgAt 1048576 w v) : Calls Tryd.prog 3 #[v] w fun e w' => e = .returned (.bool true) ∧ Keeps [] w w' := by
  rcases hp with rfl | ⟨b, o, P, rfl, h1, h2⟩
  · exact codeBytes_nil w hg
  · exact codeBytes_in hg h1 h2
end Go.Proofs.YtmipbaihlodmdaaDoor
