/-
  types.regsTyped: what an instruction defines and reads are registers whose types are types.
-/
import Derived.Test.YtlopddflbhnjdaaDoorTRgN
namespace Go.Proofs.YtlopddflbhnjdaaDoor
open Go.RowKit

def rtB (P : Pr8) (f : Fu8) (x : In8) : Bool := (!isDef x || tyB P (regT f x.dst)) && (usesL x).all fun r => tyB P (regT f r)
set_option maxRecDepth 20000 in
set_option maxHeartbeats 4000000 in
theorem regsty_any {w : World} {pb po fb fo : Nat} {P : Pr8} {f : Fu8} (h : PrC w pb po P) (hf : FuC w fb fo f) (x : In8) {a : Option Addr} {cp : Nat} (hz : IntsAt w a x.args) (hl : x.args.length ≤ 1000) : Calls Tryd.prog 31 #[.pointer (some ⟨pb, po, none⟩), .pointer (some ⟨fb, fo, none⟩), insV x (.slice a x.args.length cp)] w fun e w' => e = .returned (.bool (rtB P f x)) ∧ Keeps [] w w' := by
  have ka := Keeps.alloc [] w (.cells #[.int .i64 x.op, .int .i64 x.dst, .int .i64 x.a, .int .i64 x.b, .int .i64 x.n, .slice a x.args.length cp] 54)
  have hn := heap_new w (.cells #[.int .i64 x.op, .int .i64 x.dst, .int .i64 x.a, .int .i64 x.b, .int .i64 x.n, .slice a x.args.length cp] 54)
  have HD := hid fun (w' : World) => def_any x (.slice a x.args.length cp) w'
  have HU := hid fun (w' : World) (k : Keeps [] w w') => uuse_any x a cp w' (hz.kept k (fun _ _ _ => by simp)) (by omega)
  have hul := usesL_len x
  have HRT := hid fun (r : Int) (w' : World) (k : Keeps [] w w') => regtype_any (FuC.stays _ _ _ _ _ k hf) r
  have HTN := hid fun (t : Int × Int) (w' : World) (k : Keeps [] w w') => tnamed_any (PrC.stays _ _ _ _ _ k h) t
  have IN : Box (∀ w', Keeps [] (w.alloc (.cells #[.int .i64 x.op, .int .i64 x.dst, .int .i64 x.a, .int .i64 x.b, .int .i64 x.n, .slice a x.args.length cp] 54)) w' → InW w' w.heap.size x (.slice a x.args.length cp)) := hid fun w' k => by
    have := keep_heap hn k
    exact ⟨hcell this 0, hcell this 1, hcell this 2, hcell this 3, hcell this 4, hcell this 5⟩
  have KA := hid ka
  have HE : Box (rtB P f x = ((!isDef x || tyB P (regT f x.dst)) && (usesL x).all fun r => tyB P (regT f r))) := hid rfl
  obtain ⟨d0, d1, d2, d3, d4, d5⟩ := IN.out _ (Keeps.refl _ _)
  obtain ⟨N, hN⟩ : ∃ N, N = (usesL x).length := ⟨_, rfl⟩
  have HN := hid hN
  have hN9 : (N : Int) ≤ 2000 := by omega
  rw [← hN] at HU
  clear h hf ka hn hz hl hul hN
  unfold insV at *
  generalize rtB P f x = res at *
  generalize hWA : w.alloc (.cells #[.int .i64 x.op, .int .i64 x.dst, .int .i64 x.a, .int .i64 x.b, .int .i64 x.n, .slice a x.args.length cp] 54) = WA at *
  have HWA := hid hWA
  clear hWA
  by_cases hdd : isDef x = true ∧ tyB P (regT f x.dst) = false
  · obtain ⟨hd, ht⟩ := hdd
    rw [defV_yes hd] at HD
    have HR : Box (res = false) := hid (by rw [HE.out, hd, ht]; rfl)
    have HC := hid fun (w' : World) (k : Keeps [] w w') => HTN.out (regT f x.dst) w' k
    rw [ht] at HC
    clear HE hd ht
    go_enter Tryd.func31, Tryd.ntmps31
    go_upto_region 1 with fail
    rw [HWA.out]
    clear HWA
    generalize w.heap.size = q at *
    go_wp2_with fail
    refine (HD.out _).mono ?_
    rintro e w1 ⟨rfl, k1⟩
    have K1 := hid (KA.out.quiet k1)
    go_wp2_with fail
    refine (HRT.out _ _ K1.out).mono ?_
    rintro e w2 ⟨rfl, k2⟩
    have K2 := hid (K1.out.quiet k2)
    go_wp2_with fail
    refine (HC.out _ K2.out).mono ?_
    rintro e w3 ⟨rfl, k3⟩
    have K3 := hid (K2.out.quiet k3)
    clear k1 k2 k3
    go_wp2_with fail
    go_ret
    exact ⟨by rw [HR.out]; rfl, K3.out⟩
  · have HR : Box (res = (usesL x).all fun r => tyB P (regT f r)) := hid (by
      rw [HE.out]
      cases hd : isDef x with
      | false => simp
      | true =>
        cases ht : tyB P (regT f x.dst) with
        | true => simp
        | false => exact absurd ⟨hd, ht⟩ hdd)
    clear HE
    go_enter Tryd.func31, Tryd.ntmps31
    go_upto_region 1 with fail
    rw [HWA.out]
    clear HWA
    generalize w.heap.size = q at *
    go_wp2_with fail
    refine (HD.out _).mono ?_
    rintro e w1 ⟨rfl, k1⟩
    have K1 := hid (KA.out.quiet k1)
    have KW1 := hid k1
    clear k1 d0 d1 d2 d3 d4 d5
    rcases defV_cases x with ⟨hd, hv⟩ | ⟨hd, hv⟩
    · rw [hv]
      have ht : tyB P (regT f x.dst) = true := by
        cases ht : tyB P (regT f x.dst) with
        | true => rfl
        | false => exact absurd ⟨hd, ht⟩ hdd
      have HC := hid fun (w' : World) (k : Keeps [] w w') => HTN.out (regT f x.dst) w' k
      rw [ht] at HC
      clear ht hd hv hdd
      go_wp2_with fail
      refine (HRT.out _ _ K1.out).mono ?_
      rintro e w2 ⟨rfl, k2⟩
      have K2 := hid (K1.out.quiet k2)
      go_wp2_with fail
      refine (HC.out _ K2.out).mono ?_
      rintro e w3 ⟨rfl, k3⟩
      have K3 := hid (K2.out.quiet k3)
      obtain ⟨d0, d1, d2, d3, d4, d5⟩ := IN.out _ ((KW1.out.quiet k2).quiet k3)
      clear k2 k3
      go_wp2_with fail
      refine (HU.out _ K3.out).mono ?_
      rintro e w4 ⟨ua, up, rfl, hu, k4⟩
      have K4 := hid (K3.out.quiet k4)
      have HUU := hid hu
      clear hu k4 d0 d1 d2 d3 d4 d5
      go_wp2_with fail
      go_loopw [28] (fun kv wr => ∃ k : Nat, k ≤ N ∧ kv = .int .i64 (k : Int) ∧ Box (Keeps [] w4 wr) ∧ Box (∀ j y, j < k → (usesL x)[j]? = some y → tyB P (regT f y) = true)) (fun kv _ => N - (intOf kv).toNat)
      case atStart => exact ⟨0, by omega, rfl, hid (Keeps.refl _ _), hid fun j y hj => by omega⟩
      case round =>
        obtain ⟨k, hk, rfl, HK, HB⟩ := hrel
        by_cases hlt : k < N
        · have hlt' : (k : Int) < (N : Int) := by omega
          have hkl : k < (usesL x).length := by rw [← HN.out]; exact hlt
          obtain ⟨y, hy⟩ : ∃ y, (usesL x)[k]? = some y := ⟨_, List.getElem?_eq_getElem hkl⟩
          obtain ⟨b, off, rfl, hc⟩ : ∃ b off, ua = some ⟨b, off, none⟩ ∧ w4.cell? ⟨b, off + k, none⟩ = some (.int .i64 y) := by
            rcases HUU.out with e | ⟨b, off, e, h⟩
            · rw [e] at hy; simp at hy
            · refine ⟨b, off, e, ?_⟩
              rw [h k hkl, List.getD_eq_getElem?_getD, hy]
              rfl
          replace hc := cell_stays HK.out hc
          have KK := hid (K4.out.quiet HK.out)
          have HY := hid hy
          clear hy hkl
          cases hg : tyB P (regT f y) with
          | true =>
            have HC := hid fun (w' : World) (k : Keeps [] w w') => HTN.out (regT f y) w' k
            rw [hg] at HC
            have HG := hid hg
            clear hg
            go_wp2_with fail
            refine (HRT.out _ _ KK.out).mono ?_
            rintro e w5 ⟨rfl, k5⟩
            have K5 := hid (KK.out.quiet k5)
            go_wp2_with fail
            refine (HC.out _ K5.out).mono ?_
            rintro e w6 ⟨rfl, k6⟩
            have K6 := hid ((HK.out.quiet k5).quiet k6)
            clear k5 k6
            go_wp2_with fail
            go_roundw
            case rel => exact ⟨k + 1, by omega, by go_num, K6, hid fun j z hj hz => by
              by_cases e : j < k
              · exact HB.out j z e hz
              · obtain rfl : j = k := by omega
                rw [HY.out] at hz
                cases hz
                exact HG.out⟩
            case measure => simp [intOf]; omega
          | false =>
            have HC := hid fun (w' : World) (k : Keeps [] w w') => HTN.out (regT f y) w' k
            rw [hg] at HC
            have HF : Box (res = false) := hid (by rw [HR.out]; exact all_bad HY.out hg)
            clear hg
            go_wp2_with fail
            refine (HRT.out _ _ KK.out).mono ?_
            rintro e w5 ⟨rfl, k5⟩
            have K5 := hid (KK.out.quiet k5)
            go_wp2_with fail
            refine (HC.out _ K5.out).mono ?_
            rintro e w6 ⟨rfl, k6⟩
            have K6 := hid (K5.out.quiet k6)
            clear k5 k6
            go_wp2_with fail
            go_ret
            exact ⟨by rw [HF.out]; rfl, K6.out⟩
        · obtain rfl : N = k := by omega
          have HF : Box (res = true) := hid (by rw [HR.out]; exact all_good (fun j y hy => HB.out j y (by rw [HN.out]; exact (List.getElem?_eq_some_iff.1 hy).1) hy))
          go_wp2_with fail
          go_ret
          exact ⟨by rw [HF.out]; rfl, K4.out.quiet HK.out⟩
    · rw [hv]
      clear hd hv hdd
      have K3 := K1
      obtain ⟨d0, d1, d2, d3, d4, d5⟩ := IN.out _ KW1.out
      go_wp2_with fail
      refine (HU.out _ K3.out).mono ?_
      rintro e w4 ⟨ua, up, rfl, hu, k4⟩
      have K4 := hid (K3.out.quiet k4)
      have HUU := hid hu
      clear hu k4 d0 d1 d2 d3 d4 d5
      go_wp2_with fail
      go_loopw [28] (fun kv wr => ∃ k : Nat, k ≤ N ∧ kv = .int .i64 (k : Int) ∧ Box (Keeps [] w4 wr) ∧ Box (∀ j y, j < k → (usesL x)[j]? = some y → tyB P (regT f y) = true)) (fun kv _ => N - (intOf kv).toNat)
      case atStart => exact ⟨0, by omega, rfl, hid (Keeps.refl _ _), hid fun j y hj => by omega⟩
      case round =>
        obtain ⟨k, hk, rfl, HK, HB⟩ := hrel
        by_cases hlt : k < N
        · have hlt' : (k : Int) < (N : Int) := by omega
          have hkl : k < (usesL x).length := by rw [← HN.out]; exact hlt
          obtain ⟨y, hy⟩ : ∃ y, (usesL x)[k]? = some y := ⟨_, List.getElem?_eq_getElem hkl⟩
          obtain ⟨b, off, rfl, hc⟩ : ∃ b off, ua = some ⟨b, off, none⟩ ∧ w4.cell? ⟨b, off + k, none⟩ = some (.int .i64 y) := by
            rcases HUU.out with e | ⟨b, off, e, h⟩
            · rw [e] at hy; simp at hy
            · refine ⟨b, off, e, ?_⟩
              rw [h k hkl, List.getD_eq_getElem?_getD, hy]
              rfl
          replace hc := cell_stays HK.out hc
          have KK := hid (K4.out.quiet HK.out)
          have HY := hid hy
          clear hy hkl
          cases hg : tyB P (regT f y) with
          | true =>
            have HC := hid fun (w' : World) (k : Keeps [] w w') => HTN.out (regT f y) w' k
            rw [hg] at HC
            have HG := hid hg
            clear hg
            go_wp2_with fail
            refine (HRT.out _ _ KK.out).mono ?_
            rintro e w5 ⟨rfl, k5⟩
            have K5 := hid (KK.out.quiet k5)
            go_wp2_with fail
            refine (HC.out _ K5.out).mono ?_
            rintro e w6 ⟨rfl, k6⟩
            have K6 := hid ((HK.out.quiet k5).quiet k6)
            clear k5 k6
            go_wp2_with fail
            go_roundw
            case rel => exact ⟨k + 1, by omega, by go_num, K6, hid fun j z hj hz => by
              by_cases e : j < k
              · exact HB.out j z e hz
              · obtain rfl : j = k := by omega
                rw [HY.out] at hz
                cases hz
                exact HG.out⟩
            case measure => simp [intOf]; omega
          | false =>
            have HC := hid fun (w' : World) (k : Keeps [] w w') => HTN.out (regT f y) w' k
            rw [hg] at HC
            have HF : Box (res = false) := hid (by rw [HR.out]; exact all_bad HY.out hg)
            clear hg
            go_wp2_with fail
            refine (HRT.out _ _ KK.out).mono ?_
            rintro e w5 ⟨rfl, k5⟩
            have K5 := hid (KK.out.quiet k5)
            go_wp2_with fail
            refine (HC.out _ K5.out).mono ?_
            rintro e w6 ⟨rfl, k6⟩
            have K6 := hid (K5.out.quiet k6)
            clear k5 k6
            go_wp2_with fail
            go_ret
            exact ⟨by rw [HF.out]; rfl, K6.out⟩
        · obtain rfl : N = k := by omega
          have HF : Box (res = true) := hid (by rw [HR.out]; exact all_good (fun j y hy => HB.out j y (by rw [HN.out]; exact (List.getElem?_eq_some_iff.1 hy).1) hy))
          go_wp2_with fail
          go_ret
          exact ⟨by rw [HF.out]; rfl, K4.out.quiet HK.out⟩
end Go.Proofs.YtlopddflbhnjdaaDoor
