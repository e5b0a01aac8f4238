/-
  CodeAny: any bytes are a program's, and just its, or are refused.
-/
import Derived.Test.YtmipbaihlodmdaaDoorCFew
import Derived.Test.YtmipbaihlodmdaaDoorCTold
import Derived.Test.YtmipbaihlodmdaaDoorCCutPl
import Derived.Deep.DeepCutAuto
namespace Go.Proofs.YtmipbaihlodmdaaDoor
open Go.RowKit

set_option maxRecDepth 20000 in
set_option maxHeartbeats 3000000 in
theorem codeAny_in {w : World} {pb po : Nat} {P : Pr8} (ra : Option Addr) (rcp : Nat) (rl : List UInt8) (at0 : Int) (xn : Nat) (cut0 : Int) (hxb : xn < 256) (ha : b64 at0) (hcu : b64 cut0) (hg : Glob w) (h : PrC w pb po P) (hf : FewP 1048576 P) (hr : BytesAt w ra rl) (hrc : rl.length ≤ rcp) (hrm : rl.length ≤ maxLen) :
    Calls Tryd.prog 4 #[.pointer (some ⟨pb, po, none⟩), .slice ra rl.length rcp, .int .i64 at0, .int .u8 (xn : Int), .int .i64 cut0] w fun e w' => e = .returned (.bool true) ∧ Keeps [] w w' := by
  have HG := hid hg
  have HB := hid (begun_any w hg)
  have HP := hid h
  have HF := hid hf
  obtain ⟨a1, a2⟩ := ha
  obtain ⟨u1, u2⟩ := hcu
  have HRB := hid hr
  obtain ⟨rn, hrn⟩ : ∃ n, n = rl.length := ⟨_, rfl⟩
  have HRN := hid hrn
  rw [← hrn] at hrc hrm ⊢
  have hrm' : (rn : Int) ≤ 9223372036854775807 := by unfold maxLen at hrm; omega
  have hxn0 : (0 : Int) ≤ (xn : Int) := by omega
  have hxn1 : (xn : Int) < 256 := by omega
  clear hg h hf hr hrn hrm
  go_enter Tryd.func4, Tryd.ntmps4
  go_wp2_with fail
  refine HB.out.mono ?_
  rintro e w0 ⟨rfl, k0⟩
  have K0 := hid k0
  clear HB k0
  go_upto_if 18 with fail
  go_cut [1] (fun v wz => wz = w0 ∧ ∃ n, v = .slice ra n rcp ∧ Box (∃ l, n = l.length ∧ BytesAt w ra l ∧ n ≤ rcp ∧ n ≤ 9223372036854775807))
  case first =>
    by_cases q1 : 200 < rn
    · have q1' : (200 : Int) < (rn : Int) := by omega
      have q2 : (200 : Int) ≤ (rcp : Int) := by omega
      have q3 : 200 ≤ rcp := by omega
      go_wp2_with fail
      go_meet
      exact ⟨rfl, 200, rfl, hid ⟨rl.take 200, by rw [List.length_take, ← HRN.out]; omega, HRB.out.take 200, q3, by omega⟩⟩
    · have q1' : ¬ (200 : Int) < (rn : Int) := by omega
      go_wp2_with fail
      go_meet
      exact ⟨rfl, rn, rfl, hid ⟨rl, HRN.out, HRB.out, hrc, by omega⟩⟩
  case rest =>
    obtain ⟨hw, n9, rfl, HL9⟩ := hcut
    have hw' := hw.symm
    subst hw'
    clear hw
    obtain ⟨l9, hl9, hb9, hc9, hx9⟩ := HL9.out
    have HT := hid (told_any (cp := rcp) (HG.out.quiet K0.out) (hb9.quiet K0.out) (by rw [← hl9]; exact hc9) (by rw [← hl9]; exact hx9))
    rw [← hl9] at HT
    clear HL9 hl9 hb9 hc9 hx9 HRN HRB hrc hrm'
    go_wp2_with fail
    refine HT.out.mono ?_
    rintro e w1 ⟨rfl, k1⟩
    have K1 := hid (K0.out.quiet k1)
    have HP1 := hid (PrC.stays _ _ _ _ _ K1.out HP.out)
    have HSM := hid (small9_any HP1.out)
    clear HT k1 K0
    go_wp2_with fail
    refine HSM.out.mono ?_
    rintro e w2 ⟨s, rfl, hw2, hs⟩
    rw [hw2]
    clear hw2
    cases s with
    | false =>
      go_wp2_with fail
      go_ret
      exact ⟨rfl, K1.out⟩
    | true =>
      have HLE := hid (few_le HP.out.ok (hs rfl) HF.out)
      have HFE := hid (fenc_any HP1.out HLE.out)
      clear hs HSM HF
      go_wp2_with fail
      refine HFE.out.mono ?_
      rintro e w3 ⟨v3, rfl, o3⟩
      obtain ⟨g, cp, rfl, _⟩ := o3.row (by have := prE_len P; omega)
      obtain ⟨B, hB⟩ : ∃ B, B = prE P := ⟨_, rfl⟩
      obtain ⟨m, hm⟩ : ∃ m, m = (prE P).length := ⟨_, rfl⟩
      have HM : Box (m = B.length) := hid (by rw [hB]; exact hm)
      rw [← hm]
      have HO : Box (OB w1 w3 (.slice (some ⟨g, 0, none⟩) m cp) B) := hid (by rw [hB, hm]; exact o3)
      have hcm : m ≤ cp := by
        obtain ⟨_, _, e9, _, l9, _⟩ := o3.open
        simp only [Value.slice.injEq] at e9
        rw [e9.2.2, hm]
        exact l9
      have hmx : (m : Int) ≤ 35184372088832 := by have := HLE.out; omega
      have hm0 : (0 : Int) ≤ (m : Int) := by omega
      clear HFE o3 hB hm HP HP1 HLE
      go_upto_region 11 with fail
      go_cut [36] (fun b wz => wz = w3 ∧ ∃ s : Bool, b = .bool s ∧ Box (s = true → 0 < cut0 ∧ cut0 ≤ (m : Int)))
      case first =>
        by_cases y2 : 0 < cut0
        · by_cases y3 : cut0 ≤ (m : Int)
          · go_wp2_with fail
            go_meet
            exact ⟨rfl, true, rfl, hid (fun _ => ⟨y2, y3⟩)⟩
          · go_wp2_with fail
            go_meet
            exact ⟨rfl, false, rfl, hid (fun e => by cases e)⟩
        · go_wp2_with fail
          go_meet
          exact ⟨rfl, false, rfl, hid (fun e => by cases e)⟩
      case rest =>
        obtain ⟨hw, s, rfl, HY⟩ := hcut
        have hw' := hw.symm
        subst hw'
        clear hw
        go_upto_if 36 with fail
        go_cut [12] (fun v wz => wz = w3 ∧ ∃ n1 : Nat, v = .slice (some ⟨g, 0, none⟩) n1 cp ∧ n1 ≤ m)
        case first =>
          cases s with
          | true =>
            obtain ⟨y2, y3⟩ := HY.out rfl
            obtain ⟨cn, rfl⟩ := Int.eq_ofNat_of_zero_le (show 0 ≤ cut0 by omega)
            obtain ⟨n1, hn1⟩ : ∃ n1, n1 = m - cn := ⟨_, rfl⟩
            have hsub : IntKind.i64.wrap ((m : Int) - (cn : Int)) = (n1 : Int) := by rw [IntWalk.i64_in _ (by omega)]; omega
            have hsub2 : (m : Int) - (cn : Int) = (n1 : Int) := by omega
            have hn10 : (0 : Int) ≤ (n1 : Int) := by omega
            have hc1 : n1 ≤ cp := by omega
            have hc1' : (n1 : Int) ≤ (cp : Int) := by omega
            have hnm : n1 ≤ m := by omega
            clear hn1 HY
            go_wp2_with fail
            go_meet
            exact ⟨rfl, n1, rfl, hnm⟩
          | false =>
            go_wp2_with fail
            go_meet
            exact ⟨rfl, m, rfl, Nat.le_refl _⟩
        case rest =>
          obtain ⟨hw, n1, rfl, hnm⟩ := hcut
          have hw' := hw.symm
          subst hw'
          clear hw
          obtain ⟨L1, hL1⟩ : ∃ L1, L1 = B.take n1 := ⟨_, rfl⟩
          have HB1 := hid hL1
          have HN1 : Box (n1 = L1.length) := hid (by rw [hL1, List.length_take, ← HM.out]; omega)
          have hc1 : n1 ≤ cp := by omega
          have hn1x : (n1 : Int) ≤ 35184372088832 := by omega
          clear hL1 HM HY hmx hm0 u1 u2
          go_upto_region 13 with fail
          go_cut [49] (fun b wz => wz = w3 ∧ ∃ s : Bool, b = .bool s ∧ Box (s = true → 0 < n1 ∧ 0 ≤ at0))
          case first =>
            by_cases y2 : 0 < n1
            · have y2' : (0 : Int) < (n1 : Int) := by omega
              by_cases y3 : 0 ≤ at0
              · go_wp2_with fail
                go_meet
                exact ⟨rfl, true, rfl, hid (fun _ => ⟨y2, y3⟩)⟩
              · go_wp2_with fail
                go_meet
                exact ⟨rfl, false, rfl, hid (fun e => by cases e)⟩
            · have y2' : ¬ (0 : Int) < (n1 : Int) := by omega
              go_wp2_with fail
              go_meet
              exact ⟨rfl, false, rfl, hid (fun e => by cases e)⟩
          case rest =>
            obtain ⟨hw, s2, rfl, HY⟩ := hcut
            have hw' := hw.symm
            subst hw'
            clear hw
            go_upto_if 49 with fail
            go_cut [12] (fun v wz => v = .slice (some ⟨g, 0, none⟩) n1 cp ∧ Box (Keeps [] w wz) ∧ Box (∃ L2, BytesAt wz (some ⟨g, 0, none⟩) L2 ∧ n1 = L2.length))
            case first =>
              cases s2 with
              | true =>
                obtain ⟨x2, x3⟩ := HY.out rfl
                have x2' : (0 : Int) < (n1 : Int) := by omega
                obtain ⟨an, rfl⟩ := Int.eq_ofNat_of_zero_le x3
                have x4 : ¬ n1 = 0 := by omega
                have hj : an % n1 < n1 := Nat.mod_lt _ x2
                obtain ⟨j, hjj⟩ : ∃ j, j = an % n1 := ⟨_, rfl⟩
                have HJ := hid hjj
                rw [← hjj] at hj
                have hj' : (j : Int) < (n1 : Int) := by omega
                have hj0 : (0 : Int) ≤ (j : Int) := by omega
                have hmod : ((an : Int)).tmod (n1 : Int) = (j : Int) := by rw [HJ.out, Int.tmod_eq_emod_of_nonneg (by omega)]; omega
                have hmod2 : (an : Int) % (n1 : Int) = (j : Int) := by rw [HJ.out]; omega
                obtain ⟨c, hc⟩ : ∃ c, L1[j]? = some c := ⟨_, List.getElem?_eq_getElem (by rw [← HN1.out]; exact hj)⟩
                obtain ⟨cell0, fz0⟩ := ob_cell HO.out HB1.out hc
                obtain ⟨y, hy⟩ : ∃ y, y = c.toNat := ⟨_, rfl⟩
                rw [← hy] at cell0
                have hx : bits BinOp.xor IntKind.u8 (y : Int) (xn : Int) = ((y ^^^ xn : Nat) : Int) := u8_xor_nat y xn (by rw [hy]; exact c.toNat_lt) hxb
                have hxl : y ^^^ xn < 256 := Nat.xor_lt_two_pow (n := 8) (by rw [hy]; exact c.toNat_lt) hxb
                obtain ⟨z, hz⟩ : ∃ z : UInt8, z.toNat = y ^^^ xn := ⟨UInt8.ofNat (y ^^^ xn), u8_small hxl⟩
                rw [← hz] at hx
                have HL2 := hid (ob_put (j := j) HO.out HB1.out z)
                have HKW := hid (K1.out.quiet (ob_put_keeps (j := j) (v := .int .u8 (z.toNat : Int)) HO.out))
                clear hz hy hjj hc x3 x2 hxl HY
                go_wp2_with fail
                go_meet
                exact ⟨rfl, HKW, hid ⟨_, HL2.out, by rw [List.length_set]; exact HN1.out⟩⟩
              | false =>
                go_wp2_with fail
                go_meet
                exact ⟨rfl, hid (K1.out.quiet HO.out.keeps), hid ⟨L1, ob_bytes HO.out HB1.out, HN1.out⟩⟩
            case rest =>
              obtain ⟨rfl, HKW, HLZ⟩ := hcut
              obtain ⟨L2, hl2, hl3⟩ := HLZ.out
              have HL2 := hid hl2
              have HN2 := hid hl3
              have hc2 := hc1
              generalize n1 = n2 at *
              clear HLZ hl2 hl3 hc1 HO HB1 HN1 HY K1 a1 a2 hnm hcm
              by_cases t1 : 20000 < n2
              · have t1' : (20000 : Int) < (n2 : Int) := by omega
                go_wp2_with fail
                go_ret
                exact ⟨rfl, HKW.out⟩
              · have t1' : ¬ (20000 : Int) < (n2 : Int) := by omega
                have HT1 := hid (told_any (cp := cp) (HG.out.quiet HKW.out) HL2.out (by rw [← HN2.out]; exact hc2) (by rw [← HN2.out]; omega))
                rw [← HN2.out] at HT1
                go_wp2_with fail
                refine HT1.out.mono ?_
                rintro e w7 ⟨rfl, k7⟩
                have HL7 := hid (HL2.out.quiet k7)
                have K7 := hid (HKW.out.quiet k7)
                clear HT1 k7 HL2 HKW
                by_cases t2 : n2 = 0
                · obtain ⟨v8, w8, r8, o8⟩ := run_app0 w7 g 0 cp t2
                  obtain ⟨g9, c9, N9, w9, hN9, r9, o9⟩ := run_app (o8.quiet (Keeps.alloc [] w8 (.cells #[.int .u8 0] 5))) (T := [0]) 1 rfl (by simp) (one_news (heap_new w8 (.cells #[.int .u8 0] 5)) rfl) (by simp)
                  obtain ⟨a9, d9, e9, b9, l9, _⟩ := o9.open
                  have hN : N9 = ([] ++ [0] : List UInt8).length := hN9.out
                  simp only [Value.slice.injEq] at e9
                  obtain ⟨rfl, -, rfl⟩ := e9
                  have K9 := hid (K7.out.quiet o9.keeps)
                  have HT2 := hid (told_any (HG.out.quiet K9.out) b9 l9 (by simp))
                  rw [← hN] at HT2
                  rw [show ([0] : List UInt8).length = 1 from rfl] at r9
                  have R8 := hid r8
                  have R9 := hid r9
                  clear b9 l9 hN o8 o9 t2 r8 r9
                  go_wp2_with (first | (at_builtin; refine gapp (by rfl) _ _ rfl rfl rfl rfl R9.out ?_) | (at_builtin; refine gapp (by rfl) _ _ rfl rfl rfl rfl R8.out ?_))
                  refine HT2.out.mono ?_
                  rintro e w10 ⟨rfl, k10⟩
                  go_wp2_with fail
                  go_ret
                  exact ⟨rfl, K9.out.quiet k10⟩
                · have hne : L2 ≠ [] := fun e => t2 (by rw [HN2.out, e]; rfl)
                  have hrow : ∀ i, i < L2.length → w7.cell? ⟨g, 0 + i, none⟩ = some (.int .u8 ((L2.getD i 0).toNat : Int)) := by
                    obtain ⟨b9, off9, e9, h9⟩ := HL7.out.row hne
                    cases e9
                    exact h9
                  have hbd : L2.length ≤ 20000 := by rw [← HN2.out]; omega
                  obtain ⟨g8, c8, N8, w8, hN8, r8, o8⟩ := run_app (OB.nil (Keeps.refl [] w7)) cp HN2.out (by rw [← HN2.out]; omega) hrow (by simp; omega)
                  obtain ⟨g9, c9, N9, w9, hN9, r9, o9⟩ := run_app (o8.quiet (Keeps.alloc [] w8 (.cells #[.int .u8 0] 5))) (T := [0]) 1 rfl (by simp) (one_news (heap_new w8 (.cells #[.int .u8 0] 5)) rfl) (by simp; omega)
                  obtain ⟨a9, d9, e9, b9, l9, _⟩ := o9.open
                  have hN : N9 = ([] ++ L2 ++ [0] : List UInt8).length := hN9.out
                  simp only [Value.slice.injEq] at e9
                  obtain ⟨rfl, -, rfl⟩ := e9
                  have K9 := hid (K7.out.quiet o9.keeps)
                  have HT2 := hid (told_any (HG.out.quiet K9.out) b9 l9 (by simp; omega))
                  rw [← hN] at HT2
                  rw [show ([0] : List UInt8).length = 1 from rfl] at r9
                  have R8 := hid r8
                  have R9 := hid r9
                  clear b9 l9 hN o8 o9 hrow hne hbd r8 r9
                  go_wp2_with (first | (at_builtin; refine gapp (by rfl) _ _ rfl rfl rfl rfl R9.out ?_) | (at_builtin; refine gapp (by rfl) _ _ rfl rfl rfl rfl R8.out ?_))
                  refine HT2.out.mono ?_
                  rintro e w10 ⟨rfl, k10⟩
                  go_wp2_with fail
                  go_ret
                  exact ⟨rfl, K9.out.quiet k10⟩
end Go.Proofs.YtmipbaihlodmdaaDoor
