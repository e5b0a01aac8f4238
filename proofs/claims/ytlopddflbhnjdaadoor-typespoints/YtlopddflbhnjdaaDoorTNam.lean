/-
  types.within, typeNamed, typesNamed, allWithin, regType, sig, field, method.
-/
import Derived.Test.YtlopddflbhnjdaaDoorTBounds
namespace Go.Proofs.YtlopddflbhnjdaaDoor
open Go.RowKit

theorem within_any (k : Int) (n : Nat) (w : World) : Calls Tryd.prog 29 #[.int .i64 k, .int .i64 (n : Int)] w fun e w' => e = .returned (.bool (inB k n)) ∧ w' = w := by
  by_cases h1 : 0 ≤ k
  · by_cases h2 : k < (n : Int)
    · rw [inB_yes h1 h2]
      go_enter Tryd.func29, Tryd.ntmps29
      go_wp2
      go_ret
      exact ⟨rfl, rfl⟩
    · rw [inB_no (fun h => h2 h.2)]
      have hd : decide (k < (n : Int)) = false := decide_eq_false h2
      clear h2
      go_enter Tryd.func29, Tryd.ntmps29
      go_wp2
      go_ret
      exact ⟨rfl, rfl⟩
  · rw [inB_no (fun h => h1 h.1)]
    have hd : decide (0 ≤ k) = false := decide_eq_false h1
    go_enter Tryd.func29, Tryd.ntmps29
    go_wp2
    go_ret
    exact ⟨rfl, rfl⟩
theorem tyB_int {P : Pr8} {t : Int × Int} (h : t.1 = 0) : tyB P t = decide (t.2 = 0) := by unfold tyB; rw [if_pos h]
theorem tyB_ptr {P : Pr8} {t : Int × Int} (h : t.1 = 1) : tyB P t = inB t.2 P.recs.length := by unfold tyB; rw [if_neg (by omega), if_pos h]
theorem tyB_fun {P : Pr8} {t : Int × Int} (h : t.1 = 2) : tyB P t = inB t.2 P.sigs.length := by unfold tyB; rw [if_neg (by omega), if_neg (by omega), if_pos h]
theorem tyB_ifc {P : Pr8} {t : Int × Int} (h : t.1 = 3) : tyB P t = inB t.2 P.ifs.length := by unfold tyB; rw [if_neg (by omega), if_neg (by omega), if_neg (by omega), if_pos h]
theorem tyB_not {P : Pr8} {t : Int × Int} (h0 : t.1 ≠ 0) (h1 : t.1 ≠ 1) (h2 : t.1 ≠ 2) (h3 : t.1 ≠ 3) : tyB P t = false := by unfold tyB; rw [if_neg h0, if_neg h1, if_neg h2, if_neg h3]
abbrev tyV (t : Int × Int) : Value := .agg #[.int .i64 t.1, .int .i64 t.2]
set_option maxHeartbeats 4000000 in
theorem tnamed_any {w : World} {pb po : Nat} {P : Pr8} (h : PrC w pb po P) (t : Int × Int) : Calls Tryd.prog 62 #[.pointer (some ⟨pb, po, none⟩), tyV t] w fun e w' => e = .returned (.bool (tyB P t)) ∧ Keeps [] w w' := by
  obtain ⟨a0, p0, c0, _⟩ := h.c0
  obtain ⟨a1, p1, c1, _⟩ := h.c1
  obtain ⟨a2, p2, c2, _⟩ := h.c2
  have ka := Keeps.alloc [] w (.cells #[.int .i64 t.1, .int .i64 t.2] 39)
  replace c0 := cell_stays ka c0
  replace c1 := cell_stays ka c1
  replace c2 := cell_stays ka c2
  have KA := hid ka
  have HW := hid fun (k : Int) (n : Nat) (w : World) => within_any k n w
  have i0 := tyB_int (P := P) (t := t)
  have i1 := tyB_ptr (P := P) (t := t)
  have i2 := tyB_fun (P := P) (t := t)
  have i3 := tyB_ifc (P := P) (t := t)
  have i4 := tyB_not (P := P) (t := t)
  clear h ka
  generalize tyB P t = res at *
  generalize P.recs.length = n0 at *
  generalize P.sigs.length = n1 at *
  generalize P.ifs.length = n2 at *
  obtain ⟨k, n⟩ := t
  simp only at *
  by_cases h0 : k = 0
  · have HE := hid (i0 h0)
    subst h0
    clear i0 i1 i2 i3 i4
    have hd : (n == 0) = decide (n = 0) := rfl
    go_enter Tryd.func62, Tryd.ntmps62
    go_wp2_with fail
    go_ret
    exact ⟨by rw [HE.out]; rfl, KA.out⟩
  by_cases h1 : k = 1
  · have HE := hid (i1 h1)
    subst h1
    clear i0 i1 i2 i3 i4
    go_enter Tryd.func62, Tryd.ntmps62
    go_upto_region 5 with fail
    go_quiet ((go_at_call 29; exact Calls.quiet_of_same (HW.out _ _ _)))
    go_wp2_with fail
    go_ret
    exact ⟨by rw [HE.out]; rfl, KA.out.quiet (Keeps.drewN _ _ _)⟩
  by_cases h2 : k = 2
  · have HE := hid (i2 h2)
    subst h2
    clear i0 i1 i2 i3 i4
    go_enter Tryd.func62, Tryd.ntmps62
    go_upto_region 7 with fail
    go_quiet ((go_at_call 29; exact Calls.quiet_of_same (HW.out _ _ _)))
    go_wp2_with fail
    go_ret
    exact ⟨by rw [HE.out]; rfl, KA.out.quiet (Keeps.drewN _ _ _)⟩
  by_cases h3 : k = 3
  · have HE := hid (i3 h3)
    subst h3
    clear i0 i1 i2 i3 i4
    go_enter Tryd.func62, Tryd.ntmps62
    go_upto_region 9 with fail
    go_quiet ((go_at_call 29; exact Calls.quiet_of_same (HW.out _ _ _)))
    go_wp2_with fail
    go_ret
    exact ⟨by rw [HE.out]; rfl, KA.out.quiet (Keeps.drewN _ _ _)⟩
  have HE := hid (i4 h0 h1 h2 h3)
  have o0 := neb h0
  have o1 := neb h1
  have o2 := neb h2
  have o3 := neb h3
  clear i0 i1 i2 i3 i4 h0 h1 h2 h3
  go_enter Tryd.func62, Tryd.ntmps62
  go_wp2_with fail
  go_ret
  exact ⟨by rw [HE.out]; rfl, KA.out⟩

set_option maxHeartbeats 4000000 in
theorem tysnamed_any {w : World} {pb po : Nat} {P : Pr8} (h : PrC w pb po P) {v : Value} {l : List (Int × Int)} (hv : TysV w v l) : Calls Tryd.prog 73 #[.pointer (some ⟨pb, po, none⟩), v] w fun e w' => e = .returned (.bool (tysB P l)) ∧ Keeps [] w w' := by
  obtain ⟨a, cp, rfl, hr, _, hl⟩ := hv
  have HP := hid h
  have HR := hid hr
  have HT := hid fun (w' : World) (k : Keeps [] w w') (t : Int × Int) => tnamed_any (PrC.stays _ _ _ _ _ k h) t
  obtain ⟨n, hn⟩ : ∃ n, n = l.length := ⟨_, rfl⟩
  rw [← hn]
  have HL := hid hn
  have hn1 : (n : Int) ≤ 9223372036854775807 := by unfold maxLen at hl; omega
  clear h hr hl hn
  go_enter Tryd.func73, Tryd.ntmps73
  go_wp2_with fail
  go_loopw [9] (fun kv wr => ∃ k : Nat, k ≤ n ∧ kv = .int .i64 (k : Int) ∧ Box (Keeps [] w wr ∧ ∀ j y, j < k → l[j]? = some y → tyB P y = true)) (fun kv _ => n - (intOf kv).toNat)
  case atStart => exact ⟨0, by omega, rfl, hid ⟨Keeps.refl _ _, fun j y hj => by omega⟩⟩
  case round =>
    obtain ⟨k, hk, rfl, HB⟩ := hrel
    have HK := hid HB.out.1
    by_cases hlt : k < n
    · have hlt' : (k : Int) < (n : Int) := by omega
      obtain ⟨y, hy⟩ : ∃ y, l[k]? = some y := ⟨_, List.getElem?_eq_getElem (by rw [← HL.out]; exact hlt)⟩
      obtain ⟨b, off, rfl, hc⟩ := HR.out.at hy
      have d0 := cell_stays HK.out hc.c0.1
      have d1 := cell_stays HK.out hc.c1.1
      have HC := hid (HT.out _ (HK.out.quiet (Keeps.alloc [] wr (.cells #[.int .i64 y.1, .int .i64 y.2] 39))) y)
      have HKA := hid (HK.out.quiet (Keeps.alloc [] wr (.cells #[.int .i64 y.1, .int .i64 y.2] 39)))
      have HY := hid hy
      clear hc hy
      cases hgy : tyB P y with
      | true =>
        rw [hgy] at HC
        have HG := hid hgy
        clear hgy
        go_wp2_with fail
        refine HC.out.mono ?_
        rintro e w3 ⟨rfl, k3⟩
        have K3 := hid (HKA.out.quiet k3)
        clear k3
        go_wp2_with fail
        go_roundw
        case rel => exact ⟨k + 1, by omega, by go_num, hid ⟨K3.out, fun j z hj hz => by
          by_cases e : j < k
          · exact HB.out.2 j z e hz
          · obtain rfl : j = k := by omega
            rw [HY.out] at hz
            cases hz
            exact HG.out⟩⟩
        case measure => simp [intOf]; omega
      | false =>
        rw [hgy] at HC
        have HE : Box (tysB P l = false) := hid (all_bad HY.out hgy)
        clear hgy
        go_wp2_with fail
        refine HC.out.mono ?_
        rintro e w3 ⟨rfl, k3⟩
        have K3 := hid (HKA.out.quiet k3)
        clear k3
        go_wp2_with fail
        go_ret
        exact ⟨by rw [HE.out]; rfl, K3.out⟩
    · obtain rfl : k = n := by omega
      have HE : Box (tysB P l = true) := hid (all_good (fun j y hy => HB.out.2 j y (by rw [HL.out]; exact (List.getElem?_eq_some_iff.1 hy).1) hy))
      go_wp2_with fail
      go_ret
      exact ⟨by rw [HE.out]; rfl, HK.out⟩
set_option maxHeartbeats 4000000 in
theorem allwithin_any {w : World} {a : Option Addr} {cp : Nat} {l : List Int} (hz : IntsAt w a l) (hl : l.length ≤ maxLen) (m : Nat) : Calls Tryd.prog 74 #[.slice a l.length cp, .int .i64 (m : Int)] w fun e w' => e = .returned (.bool (insB l m)) ∧ w' = w := by
  have HZ := hid hz
  have HW := hid fun (k : Int) (n : Nat) (w : World) => within_any k n w
  obtain ⟨n, hn⟩ : ∃ n, n = l.length := ⟨_, rfl⟩
  rw [← hn]
  have HL := hid hn
  have hn1 : (n : Int) ≤ 9223372036854775807 := by unfold maxLen at hl; omega
  clear hz hl hn
  go_enter Tryd.func74, Tryd.ntmps74
  go_wp2_with fail
  go_loop [9] (fun kv => ∃ k : Nat, k ≤ n ∧ kv = .int .i64 (k : Int) ∧ Box (∀ j y, j < k → l[j]? = some y → inB y m = true)) (fun kv => n - (intOf kv).toNat)
  case atStart => exact ⟨0, by omega, rfl, hid fun j y hj => by omega⟩
  case round =>
    obtain ⟨k, hk, rfl, HB⟩ := hrel
    by_cases hlt : k < n
    · have hlt' : (k : Int) < (n : Int) := by omega
      have hkl : k < l.length := by rw [← HL.out]; exact hlt
      obtain ⟨y, hy⟩ : ∃ y, l[k]? = some y := ⟨_, List.getElem?_eq_getElem hkl⟩
      obtain ⟨b, off, rfl, hc⟩ : ∃ b off, a = some ⟨b, off, none⟩ ∧ w.cell? ⟨b, off + k, none⟩ = some (.int .i64 y) := by
        rcases HZ.out with e | ⟨b, off, e, h⟩
        · rw [e] at hy; simp at hy
        · refine ⟨b, off, e, ?_⟩
          rw [h k hkl, List.getD_eq_getElem?_getD, hy]
          rfl
      have HC := hid (HW.out y m w)
      have HY := hid hy
      clear hy hkl
      cases hgy : inB y m with
      | true =>
        rw [hgy] at HC
        have HG := hid hgy
        clear hgy
        go_wp2_with fail
        refine HC.out.mono ?_
        rintro e w3 ⟨rfl, hw3⟩
        rw [hw3]
        clear hw3
        go_wp2_with fail
        go_round
        case rel => exact ⟨k + 1, by omega, by go_num, hid fun j z hj hz => by
          by_cases e : j < k
          · exact HB.out j z e hz
          · obtain rfl : j = k := by omega
            rw [HY.out] at hz
            cases hz
            exact HG.out⟩
        case measure => simp [intOf]; omega
      | false =>
        rw [hgy] at HC
        have HE : Box (insB l m = false) := hid (all_bad HY.out hgy)
        clear hgy
        go_wp2_with fail
        refine HC.out.mono ?_
        rintro e w3 ⟨rfl, hw3⟩
        rw [hw3]
        clear hw3
        go_wp2_with fail
        go_ret
        exact ⟨by rw [HE.out]; rfl, rfl⟩
    · obtain rfl : k = n := by omega
      have HE : Box (insB l m = true) := hid (all_good (fun j y hy => HB.out j y (by rw [HL.out]; exact (List.getElem?_eq_some_iff.1 hy).1) hy))
      go_wp2_with fail
      go_ret
      exact ⟨by rw [HE.out]; rfl, rfl⟩
end Go.Proofs.YtlopddflbhnjdaaDoor
