/-
  types.tablesNamed.
-/
import Derived.Test.YtlopddflbhnjdaaDoorTNam
import Derived.Deep.RegionHeld3
namespace Go.Proofs.YtlopddflbhnjdaaDoor
open Go.RowKit

theorem tab_no0 {P : Pr8} (h : P.recs.all (tysB P) = false) : tablesB P = false := by unfold tablesB; rw [h]; rfl
theorem tab_no1 {P : Pr8} (h : P.sigs.all (sgnB P) = false) : tablesB P = false := by unfold tablesB; rw [h]; simp
theorem tab_no2 {P : Pr8} (h : P.ifs.all (fun l => insB l P.sigs.length) = false) : tablesB P = false := by unfold tablesB; rw [h]; simp
theorem tab_no3 {P : Pr8} (h : P.ims.all (imnB P) = false) : tablesB P = false := by unfold tablesB; rw [h]; simp
set_option maxRecDepth 20000 in
set_option maxHeartbeats 8000000 in
theorem tables_any {w : World} {pb po : Nat} {P : Pr8} (h : PrC w pb po P) : Calls Tryd.prog 42 #[.pointer (some ⟨pb, po, none⟩)] w fun e w' => e = .returned (.bool (tablesB P)) ∧ Keeps [] w w' := by
  obtain ⟨a0, p0, c0, r0, _, l0⟩ := h.c0
  have R0 := hid r0
  obtain ⟨n0, hn0⟩ : ∃ n, n = P.recs.length := ⟨_, rfl⟩
  rw [← hn0] at c0 l0
  have N0 := hid hn0
  have m0 : (n0 : Int) ≤ 9223372036854775807 := by unfold maxLen at l0; omega
  have C0 : Box (∀ w', Keeps [] w w' → w'.cell? ⟨pb, po, none⟩ = some (.slice a0 n0 p0)) := hid (by have c := c0; exact fun w' k => cell_stays k c)
  obtain ⟨a1, p1, c1, r1, _, l1⟩ := h.c1
  have R1 := hid r1
  obtain ⟨n1, hn1⟩ : ∃ n, n = P.sigs.length := ⟨_, rfl⟩
  rw [← hn1] at c1 l1
  have N1 := hid hn1
  have m1 : (n1 : Int) ≤ 9223372036854775807 := by unfold maxLen at l1; omega
  have C1 : Box (∀ w', Keeps [] w w' → w'.cell? ⟨pb, po + 1, none⟩ = some (.slice a1 n1 p1)) := hid (by have c := c1; exact fun w' k => cell_stays k c)
  obtain ⟨a2, p2, c2, r2, _, l2⟩ := h.c2
  have R2 := hid r2
  obtain ⟨n2, hn2⟩ : ∃ n, n = P.ifs.length := ⟨_, rfl⟩
  rw [← hn2] at c2 l2
  have N2 := hid hn2
  have m2 : (n2 : Int) ≤ 9223372036854775807 := by unfold maxLen at l2; omega
  have C2 : Box (∀ w', Keeps [] w w' → w'.cell? ⟨pb, po + 2, none⟩ = some (.slice a2 n2 p2)) := hid (by have c := c2; exact fun w' k => cell_stays k c)
  obtain ⟨a3, p3, c3, r3, _, l3⟩ := h.c3
  have R3 := hid r3
  obtain ⟨n3, hn3⟩ : ∃ n, n = P.ims.length := ⟨_, rfl⟩
  rw [← hn3] at c3 l3
  have N3 := hid hn3
  have m3 : (n3 : Int) ≤ 9223372036854775807 := by unfold maxLen at l3; omega
  have C3 : Box (∀ w', Keeps [] w w' → w'.cell? ⟨pb, po + 3, none⟩ = some (.slice a3 n3 p3)) := hid (by have c := c3; exact fun w' k => cell_stays k c)
  obtain ⟨a4, p4, c4, r4, _, l4⟩ := h.c4
  have R4 := hid r4
  obtain ⟨n4, hn4⟩ : ∃ n, n = P.funcs.length := ⟨_, rfl⟩
  rw [← hn4] at c4 l4
  have N4 := hid hn4
  have m4 : (n4 : Int) ≤ 9223372036854775807 := by unfold maxLen at l4; omega
  have C4 : Box (∀ w', Keeps [] w w' → w'.cell? ⟨pb, po + 4, none⟩ = some (.slice a4 n4 p4)) := hid (by have c := c4; exact fun w' k => cell_stays k c)
  have HT := hid fun (w' : World) (k : Keeps [] w w') (v : Value) (l : List (Int × Int)) (hv : TysV w v l) => tysnamed_any (PrC.stays _ _ _ _ _ k h) (hv.keeps TyC.stays k)
  have HTY := hid fun (w' : World) (k : Keeps [] w w') (t : Int × Int) => tnamed_any (PrC.stays _ _ _ _ _ k h) t
  have HW := hid fun (k : Int) (n : Nat) (w' : World) => within_any k n w'
  have HAW := hid fun (w' : World) (k : Keeps [] w w') (a : Option Addr) (cp : Nat) (l : List Int) (hz : IntsAt w a l) (hl : l.length ≤ maxLen) (m : Nat) => allwithin_any (cp := cp) (hz.kept k (fun _ _ _ => by simp)) hl m
  clear r0 r1 r2 r3 r4 hn0 hn1 hn2 hn3 hn4 l0 l1 l2 l3 l4 h m4
  go_enter Tryd.func42, Tryd.ntmps42
  go_wp2_with fail
  have K0 := hid (Keeps.refl [] w)
  clear c1 c2 c3 c4
  go_loopw [16] (fun kv wr => ∃ k : Nat, k ≤ n0 ∧ kv = .int .i64 (k : Int) ∧ Box (Keeps [] w wr) ∧ Box (∀ j y, j < k → P.recs[j]? = some y → tysB P y = true)) (fun kv _ => n0 - (intOf kv).toNat)
  case atStart => exact ⟨0, by omega, rfl, K0, hid fun j y hj => by omega⟩
  case round =>
    obtain ⟨k, hk, rfl, HK, HB⟩ := hrel
    clear K0 c0
    by_cases hlt : k < n0
    · have hlt' : (k : Int) < (n0 : Int) := by omega
      obtain ⟨y, hy⟩ : ∃ y, P.recs[k]? = some y := ⟨_, List.getElem?_eq_getElem (by rw [← N0.out]; exact hlt)⟩
      obtain ⟨b, off, rfl, hc⟩ := R0.out.at hy
      rw [Nat.mul_one] at hc
      obtain ⟨ga, gp, e5, q5⟩ := hc.val
      have d5 := cell_stays HK.out e5
      have HC := hid (HT.out wr HK.out _ _ q5)
      clear e5 q5
      have HY := hid hy
      clear hy hc
      have REL : Box (tysB P y = true → ∀ j z, j < k + 1 → P.recs[j]? = some z → tysB P z = true) := hid fun hg j z hj hz => by
        by_cases e : j < k
        · exact HB.out j z e hz
        · obtain rfl : j = k := by omega
          rw [HY.out] at hz
          cases hz
          exact hg
      cases hg : tysB P y with
      | true =>
        rw [hg] at HC
        have HG := hid hg
        clear hg
        go_wp2_with fail
        refine HC.out.mono ?_
        rintro e w3 ⟨rfl, k3⟩
        have K3 := hid (HK.out.quiet k3)
        clear k3
        go_wp2_with fail
        go_roundw
        case rel => exact ⟨k + 1, by omega, by go_num, K3, hid (REL.out HG.out)⟩
        case measure => simp [intOf]; omega
      | false =>
        rw [hg] at HC
        have HE : Box (tablesB P = false) := hid (tab_no0 (all_bad HY.out hg))
        clear hg
        go_wp2_with fail
        refine HC.out.mono ?_
        rintro e w3 ⟨rfl, k3⟩
        have K3 := hid (HK.out.quiet k3)
        clear k3
        go_wp2_with fail
        go_ret
        exact ⟨by rw [HE.out]; rfl, K3.out⟩
    · obtain rfl : n0 = k := by omega
      have T0 : Box (P.recs.all (tysB P) = true) := hid (all_good (fun j y hy => HB.out j y (by rw [N0.out]; exact (List.getElem?_eq_some_iff.1 hy).1) hy))
      have c1 := C1.out _ HK.out
      clear HB hk
      go_wp2_with fail
      clear hlt
      have K1 := HK
      clear HK
      go_loopw [30] (fun kv wr => ∃ k : Nat, k ≤ n1 ∧ kv = .int .i64 (k : Int) ∧ Box (Keeps [] w wr) ∧ Box (∀ j y, j < k → P.sigs[j]? = some y → sgnB P y = true)) (fun kv _ => n1 - (intOf kv).toNat)
      case atStart => exact ⟨0, by omega, rfl, K1, hid fun j y hj => by omega⟩
      case round =>
        obtain ⟨k, hk, rfl, HK, HB⟩ := hrel
        clear K1 c1
        by_cases hlt : k < n1
        · have hlt' : (k : Int) < (n1 : Int) := by omega
          obtain ⟨y, hy⟩ : ∃ y, P.sigs[k]? = some y := ⟨_, List.getElem?_eq_getElem (by rw [← N1.out]; exact hlt)⟩
          obtain ⟨b, off, rfl, hc⟩ := R1.out.at hy
          obtain ⟨ga, gp, e5, q5⟩ := hc.c0.val
          have d0 := cell_stays HK.out e5
          have d1 := cell_stays HK.out hc.c1.1
          have d2 := cell_stays HK.out hc.c2.1
          have HN := hid (heap_new wr (.cells #[.slice ga y.1.length gp, .int .i64 y.2.1, .int .i64 y.2.2] 41))
          have HKA := hid (HK.out.quiet (Keeps.alloc [] wr (.cells #[.slice ga y.1.length gp, .int .i64 y.2.1, .int .i64 y.2.2] 41)))
          have HC := hid (HT.out _ HKA.out _ _ q5)
          have HSG : Box (sgnB P y = (tysB P y.1 && tyB P y.2)) := hid rfl
          clear e5 q5
          have HY := hid hy
          clear hy hc
          have REL : Box (sgnB P y = true → ∀ j z, j < k + 1 → P.sigs[j]? = some z → sgnB P z = true) := hid fun hg j z hj hz => by
            by_cases e : j < k
            · exact HB.out j z e hz
            · obtain rfl : j = k := by omega
              rw [HY.out] at hz
              cases hz
              exact hg
          go_upto_region 10 with fail
          generalize wr.alloc (.cells #[.slice ga y.1.length gp, .int .i64 y.2.1, .int .i64 y.2.2] 41) = w2 at *
          generalize wr.heap.size = q at *
          have s0 := hcell HN.out 0
          cases h1 : tysB P y.1 with
          | false =>
            rw [h1] at HC
            have HE : Box (tablesB P = false) := hid (tab_no1 (all_bad HY.out (by rw [HSG.out, h1]; rfl)))
            clear h1
            go_wp2_with fail
            refine HC.out.mono ?_
            rintro e w3 ⟨rfl, k3⟩
            have K3 := hid (HKA.out.quiet k3)
            clear k3
            go_wp2_with fail
            go_ret
            exact ⟨by rw [HE.out]; rfl, K3.out⟩
          | true =>
            rw [h1] at HC
            go_wp2_with fail
            refine HC.out.mono ?_
            rintro e w3 ⟨rfl, k3⟩
            have K3 := hid (HKA.out.quiet k3)
            have h3 := keep_heap HN.out k3
            have s1 := hcell h3 1
            have s2 := hcell h3 2
            have HC2 := hid (HTY.out w3 K3.out y.2)
            clear k3 h3 s0
            cases h2 : tyB P y.2 with
            | false =>
              rw [h2] at HC2
              have HE : Box (tablesB P = false) := hid (tab_no1 (all_bad HY.out (by rw [HSG.out, h1, h2]; rfl)))
              clear h1 h2
              go_wp2_with fail
              refine HC2.out.mono ?_
              rintro e w4 ⟨rfl, k3⟩
              have K4 := hid (K3.out.quiet k3)
              clear k3
              go_wp2_with fail
              go_ret
              exact ⟨by rw [HE.out]; rfl, K4.out⟩
            | true =>
              rw [h2] at HC2
              have HG : Box (sgnB P y = true) := hid (by rw [HSG.out, h1, h2]; rfl)
              clear h1 h2
              go_wp2_with fail
              refine HC2.out.mono ?_
              rintro e w4 ⟨rfl, k3⟩
              have K4 := hid (K3.out.quiet k3)
              clear k3
              go_wp2_with fail
              go_roundw
              case rel => exact ⟨k + 1, by omega, by go_num, K4, hid (REL.out HG.out)⟩
              case measure => simp [intOf]; omega
        · obtain rfl : n1 = k := by omega
          have T1 : Box (P.sigs.all (sgnB P) = true) := hid (all_good (fun j y hy => HB.out j y (by rw [N1.out]; exact (List.getElem?_eq_some_iff.1 hy).1) hy))
          have c2 := C2.out _ HK.out
          clear HB hk
          go_wp2_with fail
          clear hlt
          have K2 := HK
          clear HK
          go_loopw [52] (fun kv wr => ∃ k : Nat, k ≤ n2 ∧ kv = .int .i64 (k : Int) ∧ Box (Keeps [] w wr) ∧ Box (∀ j y, j < k → P.ifs[j]? = some y → insB y P.sigs.length = true)) (fun kv _ => n2 - (intOf kv).toNat)
          case atStart => exact ⟨0, by omega, rfl, K2, hid fun j y hj => by omega⟩
          case round =>
            obtain ⟨k, hk, rfl, HK, HB⟩ := hrel
            clear K2 c2
            by_cases hlt : k < n2
            · have hlt' : (k : Int) < (n2 : Int) := by omega
              obtain ⟨y, hy⟩ : ∃ y, P.ifs[k]? = some y := ⟨_, List.getElem?_eq_getElem (by rw [← N2.out]; exact hlt)⟩
              obtain ⟨b, off, rfl, hc⟩ := R2.out.at hy
              rw [Nat.mul_one] at hc
              obtain ⟨ga, gp, e5, q5⟩ := SlC.val hc
              have d0 := cell_stays HK.out e5
              have HN := hid (heap_new wr (.cells #[.slice ga y.length gp] 61))
              have HKA := hid (HK.out.quiet (Keeps.alloc [] wr (.cells #[.slice ga y.length gp] 61)))
              have HZ := hid (rows_ints q5.slice.2.1)
              have HL := hid q5.slice.2.2.2
              clear e5 q5
              have HY := hid hy
              clear hy hc
              have REL : Box (insB y P.sigs.length = true → ∀ j z, j < k + 1 → P.ifs[j]? = some z → insB z P.sigs.length = true) := hid fun hg j z hj hz => by
                by_cases e : j < k
                · exact HB.out j z e hz
                · obtain rfl : j = k := by omega
                  rw [HY.out] at hz
                  cases hz
                  exact hg
              go_upto_region 16 with fail
              generalize wr.alloc (.cells #[.slice ga y.length gp] 61) = w2 at *
              generalize wr.heap.size = q at *
              have s0 := hcell HN.out 0
              have c1 := C1.out _ HKA.out
              have HC := hid fun (m : Nat) => HAW.out (w2.drewN m) (HKA.out.quiet (Keeps.drewN _ _ _)) ga gp y HZ.out HL.out P.sigs.length
              rw [← N1.out] at HC REL
              cases hg : insB y n1 with
              | true =>
                rw [hg] at HC
                have HG := hid hg
                clear hg
                go_quiet ((go_at_call 74; exact Calls.quiet_of_same (HC.out _)))
                go_wp2_with fail
                go_roundw
                case rel => exact ⟨k + 1, by omega, by go_num, hid (HKA.out.quiet (Keeps.drewN _ _ _)), hid (by rw [← N1.out]; exact REL.out HG.out)⟩
                case measure => simp [intOf]; omega
              | false =>
                rw [hg] at HC
                have HE : Box (tablesB P = false) := hid (tab_no2 (all_bad HY.out (by rw [← N1.out]; exact hg)))
                clear hg
                go_quiet ((go_at_call 74; exact Calls.quiet_of_same (HC.out _)))
                go_wp2_with fail
                go_ret
                exact ⟨by rw [HE.out]; rfl, HKA.out.quiet (Keeps.drewN _ _ _)⟩
            · obtain rfl : n2 = k := by omega
              have T2 : Box (P.ifs.all (fun l => insB l P.sigs.length) = true) := hid (all_good (fun j y hy => HB.out j y (by rw [N2.out]; exact (List.getElem?_eq_some_iff.1 hy).1) hy))
              have c3 := C3.out _ HK.out
              clear HB hk
              go_wp2_with fail
              clear hlt
              have K3 := HK
              clear HK
              go_loopw [71] (fun kv wr => ∃ k : Nat, k ≤ n3 ∧ kv = .int .i64 (k : Int) ∧ Box (Keeps [] w wr) ∧ Box (∀ j y, j < k → P.ims[j]? = some y → imnB P y = true)) (fun kv _ => n3 - (intOf kv).toNat)
              case atStart => exact ⟨0, by omega, rfl, K3, hid fun j y hj => by omega⟩
              case round =>
                obtain ⟨k, hk, rfl, HK, HB⟩ := hrel
                clear K3 c3
                by_cases hlt : k < n3
                · have hlt' : (k : Int) < (n3 : Int) := by omega
                  obtain ⟨y, hy⟩ : ∃ y, P.ims[k]? = some y := ⟨_, List.getElem?_eq_getElem (by rw [← N3.out]; exact hlt)⟩
                  obtain ⟨b, off, rfl, hc⟩ := R3.out.at hy
                  obtain ⟨ga, gp, e5, q5⟩ := SlC.val hc.c2
                  have d0 := cell_stays HK.out hc.c0.1
                  have d1 := cell_stays HK.out hc.c1.1
                  have d2 := cell_stays HK.out e5
                  have HN := hid (heap_new wr (.cells #[.int .i64 y.1, .int .i64 y.2.1, .slice ga y.2.2.length gp] 63))
                  have HKA := hid (HK.out.quiet (Keeps.alloc [] wr (.cells #[.int .i64 y.1, .int .i64 y.2.1, .slice ga y.2.2.length gp] 63)))
                  have HZ := hid (rows_ints q5.slice.2.1)
                  have HL := hid q5.slice.2.2.2
                  clear e5 q5
                  have HY := hid hy
                  clear hy hc
                  have REL : Box (imnB P y = true → ∀ j z, j < k + 1 → P.ims[j]? = some z → imnB P z = true) := hid fun hg j z hj hz => by
                    by_cases e : j < k
                    · exact HB.out j z e hz
                    · obtain rfl : j = k := by omega
                      rw [HY.out] at hz
                      cases hz
                      exact hg
                  go_upto_region 22 with fail
                  generalize wr.alloc (.cells #[.int .i64 y.1, .int .i64 y.2.1, .slice ga y.2.2.length gp] 63) = w2 at *
                  generalize wr.heap.size = q at *
                  have s0 := hcell HN.out 0
                  have s1 := hcell HN.out 1
                  have s2 := hcell HN.out 2
                  have c0 := C0.out _ HKA.out
                  have c2 := C2.out _ HKA.out
                  have c4 := C4.out _ HKA.out
                  have H1 := hid fun (m : Nat) => HW.out y.1 n0 (w2.drewN m)
                  have H2 := hid fun (m : Nat) => HW.out y.2.1 n2 (w2.drewN m)
                  have H3 := hid fun (m : Nat) => HAW.out (w2.drewN m) (HKA.out.quiet (Keeps.drewN _ _ _)) ga gp y.2.2 HZ.out HL.out n4
                  have HIM : Box (imnB P y = (inB y.1 n0 && (inB y.2.1 n2 && insB y.2.2 n4))) := hid (by rw [N0.out, N2.out, N4.out]; rfl)
                  cases h1 : inB y.1 n0 with
                  | false =>
                    rw [h1] at H1
                    have HE : Box (tablesB P = false) := hid (tab_no3 (all_bad HY.out (by rw [HIM.out, h1]; rfl)))
                    clear h1
                    go_quiet (first | (go_at_call 29; with_reducible exact Calls.quiet_of_same (H1.out _)))
                    go_wp2_with fail
                    go_ret
                    exact ⟨by rw [HE.out]; rfl, HKA.out.quiet (Keeps.drewN _ _ _)⟩
                  | true =>
                    rw [h1] at H1
                    cases h2 : inB y.2.1 n2 with
                    | false =>
                      rw [h2] at H2
                      have HE : Box (tablesB P = false) := hid (tab_no3 (all_bad HY.out (by rw [HIM.out, h1, h2]; rfl)))
                      clear h1 h2
                      go_quiet (first | (go_at_call 29; with_reducible exact Calls.quiet_of_same (H1.out _)) | (go_at_call 29; with_reducible exact Calls.quiet_of_same (H2.out _)))
                      go_wp2_with fail
                      go_ret
                      exact ⟨by rw [HE.out]; rfl, HKA.out.quiet (Keeps.drewN _ _ _)⟩
                    | true =>
                      rw [h2] at H2
                      cases h3 : insB y.2.2 n4 with
                      | false =>
                        rw [h3] at H3
                        have HE : Box (tablesB P = false) := hid (tab_no3 (all_bad HY.out (by rw [HIM.out, h1, h2, h3]; rfl)))
                        clear h1 h2 h3
                        go_quiet (first | (go_at_call 29; with_reducible exact Calls.quiet_of_same (H1.out _)) | (go_at_call 29; with_reducible exact Calls.quiet_of_same (H2.out _)) | (go_at_call 74; with_reducible exact Calls.quiet_of_same (H3.out _)))
                        go_wp2_with fail
                        go_ret
                        exact ⟨by rw [HE.out]; rfl, HKA.out.quiet (Keeps.drewN _ _ _)⟩
                      | true =>
                        rw [h3] at H3
                        have HG : Box (imnB P y = true) := hid (by rw [HIM.out, h1, h2, h3]; rfl)
                        clear h1 h2 h3
                        go_quiet (first | (go_at_call 29; with_reducible exact Calls.quiet_of_same (H1.out _)) | (go_at_call 29; with_reducible exact Calls.quiet_of_same (H2.out _)) | (go_at_call 74; with_reducible exact Calls.quiet_of_same (H3.out _)))
                        go_wp2_with fail
                        go_roundw
                        case rel => exact ⟨k + 1, by omega, by go_num, hid (HKA.out.quiet (Keeps.drewN _ _ _)), hid (REL.out HG.out)⟩
                        case measure => simp [intOf]; omega
                · obtain rfl : n3 = k := by omega
                  have T3 : Box (P.ims.all (imnB P) = true) := hid (all_good (fun j y hy => HB.out j y (by rw [N3.out]; exact (List.getElem?_eq_some_iff.1 hy).1) hy))
                  have HE : Box (tablesB P = true) := hid (by unfold tablesB; rw [T0.out, T1.out, T2.out, T3.out]; rfl)
                  clear HB hk
                  go_wp2_with fail
                  go_ret
                  exact ⟨by rw [HE.out]; rfl, HK.out⟩
end Go.Proofs.YtlopddflbhnjdaaDoor
