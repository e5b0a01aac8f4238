/-
  types.each at each type of its lists.
-/
import Derived.Test.YtlopddflbhnjdaaDoorTVal
import Derived.Test.YtlopddflbhnjdaaDoorTPl
namespace Go.Proofs.YtlopddflbhnjdaaDoor
open Go.RowKit

set_option maxRecDepth 20000 in
set_option maxHeartbeats 4000000 in
theorem each_instr {w : World} {v : Value} {l : List In8} (hx : InsV w v l) (m : Nat) (g : In8 → Bool) (hm : m ≤ 100) (hg : ∀ w' v y, Keeps [] w w' → InV w v y → Calls Tryd.prog 87 #[v] w' fun e w2 => e = .returned (.bool (g y)) ∧ Keeps [] w' w2) :
    Calls Tryd.prog 86 #[v, .int .i64 (m : Int), .func (.func 87) #[] #[]] w fun e w' => e = .returned (.bool (lenB l m g)) ∧ Keeps [] w w' := by
  obtain ⟨a, cp, rfl, hr, _, hl⟩ := hx
  have HP := hid hg
  have HR := hid hr
  obtain ⟨n, hn⟩ : ∃ n, n = l.length := ⟨_, rfl⟩
  rw [← hn]
  have HL := hid hn
  clear hg hr hl hn
  by_cases hlong : m < n
  · have hl' : (m : Int) < (n : Int) := by omega
    have HE := hid (lenB_long (g := g) (show m < l.length by rw [← HL.out]; exact hlong))
    generalize lenB l m g = res at *
    clear hlong
    go_enter Tryd.func86, Tryd.ntmps86
    go_wp2
    go_ret
    exact ⟨by rw [HE.out]; rfl, Keeps.refl _ _⟩
  · have hl' : ¬ (m : Int) < (n : Int) := by omega
    have hn1 : (n : Int) ≤ 100 := by omega
    have HM : Box (l.length ≤ m) := hid (by rw [← HL.out]; omega)
    clear hlong
    go_enter Tryd.func86, Tryd.ntmps86
    go_wp2_with fail
    go_loopw [14] (fun kv wr => ∃ k : Nat, k ≤ n ∧ kv = .int .i64 (k : Int) ∧ Box (Keeps [] w wr ∧ ∀ j y, j < k → l[j]? = some y → g y = true)) (fun kv _ => n - (intOf kv).toNat)
    case atStart => exact ⟨0, by omega, rfl, hid ⟨Keeps.refl _ _, fun j y hj => by omega⟩⟩
    case round =>
      obtain ⟨k, hk, rfl, HB⟩ := hrel
      have HK := hid HB.out.1
      by_cases hlt : k < n
      · have hlt' : (k : Int) < (n : Int) := by omega
        obtain ⟨y, hy⟩ : ∃ y, l[k]? = some y := ⟨_, List.getElem?_eq_getElem (by rw [← HL.out]; exact hlt)⟩
        obtain ⟨b, off, rfl, hc⟩ := HR.out.at hy
        skip
        obtain ⟨ar, acp, h5, q5⟩ := SlC.val hc.c5
        have d0 := cell_stays HK.out hc.c0.1
        have d1 := cell_stays HK.out hc.c1.1
        have d2 := cell_stays HK.out hc.c2.1
        have d3 := cell_stays HK.out hc.c3.1
        have d4 := cell_stays HK.out hc.c4.1
        have d5 := cell_stays HK.out h5
        have HC := hid (HP.out wr (.agg #[.int .i64 y.op, .int .i64 y.dst, .int .i64 y.a, .int .i64 y.b, .int .i64 y.n, .slice ar y.args.length acp]) y HK.out (⟨ar, acp, rfl, hc.c0.2, hc.c1.2, hc.c2.2, hc.c3.2, hc.c4.2, q5⟩))
        have HY := hid hy
        clear hc hy h5 q5
        cases hgy : g y with
        | true =>
          rw [hgy] at HC
          have HG := hid hgy
          clear hgy
          go_wp2_with fail
          refine HC.out.mono ?_
          rintro e w3 ⟨rfl, k3⟩
          have K3 := hid (HK.out.quiet k3)
          clear k3
          go_wp2_with fail
          go_roundw
          case rel => exact ⟨k + 1, by omega, by go_num, hid ⟨K3.out, fun j z hj hz => by
            by_cases e : j < k
            · exact HB.out.2 j z e hz
            · obtain rfl : j = k := by omega
              rw [HY.out] at hz
              cases hz
              exact HG.out⟩⟩
          case measure => simp [intOf]; omega
        | false =>
          rw [hgy] at HC
          have HE := hid (lenB_bad (m := m) HY.out hgy)
          clear hgy
          go_wp2_with fail
          refine HC.out.mono ?_
          rintro e w3 ⟨rfl, k3⟩
          have K3 := hid (HK.out.quiet k3)
          clear k3
          go_wp2_with fail
          go_ret
          exact ⟨by rw [HE.out]; rfl, K3.out⟩
      · obtain rfl : k = n := by omega
        have HE := hid (lenB_good (g := g) HM.out (fun j y hy => HB.out.2 j y (by rw [HL.out]; exact (List.getElem?_eq_some_iff.1 hy).1) hy))
        go_wp2_with fail
        go_ret
        exact ⟨by rw [HE.out]; rfl, HK.out⟩

set_option maxRecDepth 20000 in
set_option maxHeartbeats 4000000 in
theorem each_block {w : World} {v : Value} {l : List Bl8} (hx : BlsV w v l) (m : Nat) (g : Bl8 → Bool) (hm : m ≤ 100) (hg : ∀ w' v y, Keeps [] w w' → BlV w v y → Calls Tryd.prog 79 #[v] w' fun e w2 => e = .returned (.bool (g y)) ∧ Keeps [] w' w2) :
    Calls Tryd.prog 78 #[v, .int .i64 (m : Int), .func (.func 79) #[] #[]] w fun e w' => e = .returned (.bool (lenB l m g)) ∧ Keeps [] w w' := by
  obtain ⟨a, cp, rfl, hr, _, hl⟩ := hx
  have HP := hid hg
  have HR := hid hr
  obtain ⟨n, hn⟩ : ∃ n, n = l.length := ⟨_, rfl⟩
  rw [← hn]
  have HL := hid hn
  clear hg hr hl hn
  by_cases hlong : m < n
  · have hl' : (m : Int) < (n : Int) := by omega
    have HE := hid (lenB_long (g := g) (show m < l.length by rw [← HL.out]; exact hlong))
    generalize lenB l m g = res at *
    clear hlong
    go_enter Tryd.func78, Tryd.ntmps78
    go_wp2
    go_ret
    exact ⟨by rw [HE.out]; rfl, Keeps.refl _ _⟩
  · have hl' : ¬ (m : Int) < (n : Int) := by omega
    have hn1 : (n : Int) ≤ 100 := by omega
    have HM : Box (l.length ≤ m) := hid (by rw [← HL.out]; omega)
    clear hlong
    go_enter Tryd.func78, Tryd.ntmps78
    go_wp2_with fail
    go_loopw [14] (fun kv wr => ∃ k : Nat, k ≤ n ∧ kv = .int .i64 (k : Int) ∧ Box (Keeps [] w wr ∧ ∀ j y, j < k → l[j]? = some y → g y = true)) (fun kv _ => n - (intOf kv).toNat)
    case atStart => exact ⟨0, by omega, rfl, hid ⟨Keeps.refl _ _, fun j y hj => by omega⟩⟩
    case round =>
      obtain ⟨k, hk, rfl, HB⟩ := hrel
      have HK := hid HB.out.1
      by_cases hlt : k < n
      · have hlt' : (k : Int) < (n : Int) := by omega
        obtain ⟨y, hy⟩ : ∃ y, l[k]? = some y := ⟨_, List.getElem?_eq_getElem (by rw [← HL.out]; exact hlt)⟩
        obtain ⟨b, off, rfl, hc⟩ := HR.out.at hy
        skip
        obtain ⟨ar, acp, h5, q5⟩ := hc.c0.val
        have d0 := cell_stays HK.out hc.c1.1
        have d1 := cell_stays HK.out hc.c2.1
        have d2 := cell_stays HK.out hc.c3.1
        have d3 := cell_stays HK.out hc.c4.1
        have d4 := cell_stays HK.out h5
        have HC := hid (HP.out wr (.agg #[.slice ar y.code.length acp, .int .i64 y.fin, .int .i64 y.reg, .int .i64 y.to, .int .i64 y.els]) y HK.out (⟨ar, acp, rfl, q5, hc.c1.2, hc.c2.2, hc.c3.2, hc.c4.2⟩))
        have HY := hid hy
        clear hc hy h5 q5
        cases hgy : g y with
        | true =>
          rw [hgy] at HC
          have HG := hid hgy
          clear hgy
          go_wp2_with fail
          refine HC.out.mono ?_
          rintro e w3 ⟨rfl, k3⟩
          have K3 := hid (HK.out.quiet k3)
          clear k3
          go_wp2_with fail
          go_roundw
          case rel => exact ⟨k + 1, by omega, by go_num, hid ⟨K3.out, fun j z hj hz => by
            by_cases e : j < k
            · exact HB.out.2 j z e hz
            · obtain rfl : j = k := by omega
              rw [HY.out] at hz
              cases hz
              exact HG.out⟩⟩
          case measure => simp [intOf]; omega
        | false =>
          rw [hgy] at HC
          have HE := hid (lenB_bad (m := m) HY.out hgy)
          clear hgy
          go_wp2_with fail
          refine HC.out.mono ?_
          rintro e w3 ⟨rfl, k3⟩
          have K3 := hid (HK.out.quiet k3)
          clear k3
          go_wp2_with fail
          go_ret
          exact ⟨by rw [HE.out]; rfl, K3.out⟩
      · obtain rfl : k = n := by omega
        have HE := hid (lenB_good (g := g) HM.out (fun j y hy => HB.out.2 j y (by rw [HL.out]; exact (List.getElem?_eq_some_iff.1 hy).1) hy))
        go_wp2_with fail
        go_ret
        exact ⟨by rw [HE.out]; rfl, HK.out⟩

set_option maxRecDepth 20000 in
set_option maxHeartbeats 4000000 in
theorem each_func {w : World} {v : Value} {l : List Fu8} (hx : SlV 3 FuC w v l) (m : Nat) (g : Fu8 → Bool) (hm : m ≤ 100) (hg : ∀ w' v y, Keeps [] w w' → FuV w v y → Calls Tryd.prog 55 #[v] w' fun e w2 => e = .returned (.bool (g y)) ∧ Keeps [] w' w2) :
    Calls Tryd.prog 54 #[v, .int .i64 (m : Int), .func (.func 55) #[] #[]] w fun e w' => e = .returned (.bool (lenB l m g)) ∧ Keeps [] w w' := by
  obtain ⟨a, cp, rfl, hr, _, hl⟩ := hx
  have HP := hid hg
  have HR := hid hr
  obtain ⟨n, hn⟩ : ∃ n, n = l.length := ⟨_, rfl⟩
  rw [← hn]
  have HL := hid hn
  clear hg hr hl hn
  by_cases hlong : m < n
  · have hl' : (m : Int) < (n : Int) := by omega
    have HE := hid (lenB_long (g := g) (show m < l.length by rw [← HL.out]; exact hlong))
    generalize lenB l m g = res at *
    clear hlong
    go_enter Tryd.func54, Tryd.ntmps54
    go_wp2
    go_ret
    exact ⟨by rw [HE.out]; rfl, Keeps.refl _ _⟩
  · have hl' : ¬ (m : Int) < (n : Int) := by omega
    have hn1 : (n : Int) ≤ 100 := by omega
    have HM : Box (l.length ≤ m) := hid (by rw [← HL.out]; omega)
    clear hlong
    go_enter Tryd.func54, Tryd.ntmps54
    go_wp2_with fail
    go_loopw [14] (fun kv wr => ∃ k : Nat, k ≤ n ∧ kv = .int .i64 (k : Int) ∧ Box (Keeps [] w wr ∧ ∀ j y, j < k → l[j]? = some y → g y = true)) (fun kv _ => n - (intOf kv).toNat)
    case atStart => exact ⟨0, by omega, rfl, hid ⟨Keeps.refl _ _, fun j y hj => by omega⟩⟩
    case round =>
      obtain ⟨k, hk, rfl, HB⟩ := hrel
      have HK := hid HB.out.1
      by_cases hlt : k < n
      · have hlt' : (k : Int) < (n : Int) := by omega
        obtain ⟨y, hy⟩ : ∃ y, l[k]? = some y := ⟨_, List.getElem?_eq_getElem (by rw [← HL.out]; exact hlt)⟩
        obtain ⟨b, off, rfl, hc⟩ := HR.out.at hy
        skip
        obtain ⟨ar, acp, h5, q5⟩ := hc.c1.val
        obtain ⟨br, bcp, h6, q6⟩ := hc.c2.val
        have d0 := cell_stays HK.out hc.c0.1
        have d1 := cell_stays HK.out h5
        have d2 := cell_stays HK.out h6
        have HC := hid (HP.out wr (.agg #[.int .i64 y.sig, .slice ar y.regs.length acp, .slice br y.blocks.length bcp]) y HK.out (⟨ar, acp, br, bcp, rfl, hc.c0.2, q5, q6⟩))
        have HY := hid hy
        clear hc hy h5 q5 h6 q6
        cases hgy : g y with
        | true =>
          rw [hgy] at HC
          have HG := hid hgy
          clear hgy
          go_wp2_with fail
          refine HC.out.mono ?_
          rintro e w3 ⟨rfl, k3⟩
          have K3 := hid (HK.out.quiet k3)
          clear k3
          go_wp2_with fail
          go_roundw
          case rel => exact ⟨k + 1, by omega, by go_num, hid ⟨K3.out, fun j z hj hz => by
            by_cases e : j < k
            · exact HB.out.2 j z e hz
            · obtain rfl : j = k := by omega
              rw [HY.out] at hz
              cases hz
              exact HG.out⟩⟩
          case measure => simp [intOf]; omega
        | false =>
          rw [hgy] at HC
          have HE := hid (lenB_bad (m := m) HY.out hgy)
          clear hgy
          go_wp2_with fail
          refine HC.out.mono ?_
          rintro e w3 ⟨rfl, k3⟩
          have K3 := hid (HK.out.quiet k3)
          clear k3
          go_wp2_with fail
          go_ret
          exact ⟨by rw [HE.out]; rfl, K3.out⟩
      · obtain rfl : k = n := by omega
        have HE := hid (lenB_good (g := g) HM.out (fun j y hy => HB.out.2 j y (by rw [HL.out]; exact (List.getElem?_eq_some_iff.1 hy).1) hy))
        go_wp2_with fail
        go_ret
        exact ⟨by rw [HE.out]; rfl, HK.out⟩

set_option maxRecDepth 20000 in
set_option maxHeartbeats 4000000 in
theorem each_rec {w : World} {v : Value} {l : List (List (Int × Int))} (hx : SlV 1 (SlC 2 TyC) w v l) (m : Nat) (g : (List (Int × Int)) → Bool) (hm : m ≤ 100) (hg : ∀ w' v y, Keeps [] w w' → TysV w v y → Calls Tryd.prog 47 #[v] w' fun e w2 => e = .returned (.bool (g y)) ∧ Keeps [] w' w2) :
    Calls Tryd.prog 46 #[v, .int .i64 (m : Int), .func (.func 47) #[] #[]] w fun e w' => e = .returned (.bool (lenB l m g)) ∧ Keeps [] w w' := by
  obtain ⟨a, cp, rfl, hr, _, hl⟩ := hx
  have HP := hid hg
  have HR := hid hr
  obtain ⟨n, hn⟩ : ∃ n, n = l.length := ⟨_, rfl⟩
  rw [← hn]
  have HL := hid hn
  clear hg hr hl hn
  by_cases hlong : m < n
  · have hl' : (m : Int) < (n : Int) := by omega
    have HE := hid (lenB_long (g := g) (show m < l.length by rw [← HL.out]; exact hlong))
    generalize lenB l m g = res at *
    clear hlong
    go_enter Tryd.func46, Tryd.ntmps46
    go_wp2
    go_ret
    exact ⟨by rw [HE.out]; rfl, Keeps.refl _ _⟩
  · have hl' : ¬ (m : Int) < (n : Int) := by omega
    have hn1 : (n : Int) ≤ 100 := by omega
    have HM : Box (l.length ≤ m) := hid (by rw [← HL.out]; omega)
    clear hlong
    go_enter Tryd.func46, Tryd.ntmps46
    go_wp2_with fail
    go_loopw [14] (fun kv wr => ∃ k : Nat, k ≤ n ∧ kv = .int .i64 (k : Int) ∧ Box (Keeps [] w wr ∧ ∀ j y, j < k → l[j]? = some y → g y = true)) (fun kv _ => n - (intOf kv).toNat)
    case atStart => exact ⟨0, by omega, rfl, hid ⟨Keeps.refl _ _, fun j y hj => by omega⟩⟩
    case round =>
      obtain ⟨k, hk, rfl, HB⟩ := hrel
      have HK := hid HB.out.1
      by_cases hlt : k < n
      · have hlt' : (k : Int) < (n : Int) := by omega
        obtain ⟨y, hy⟩ : ∃ y, l[k]? = some y := ⟨_, List.getElem?_eq_getElem (by rw [← HL.out]; exact hlt)⟩
        obtain ⟨b, off, rfl, hc⟩ := HR.out.at hy
        rw [Nat.mul_one] at hc
        obtain ⟨ar, acp, h5, q5⟩ := hc.val
        have d0 := cell_stays HK.out h5
        have HC := hid (HP.out wr (.slice ar y.length acp) y HK.out (q5))
        have HY := hid hy
        clear hc hy h5 q5
        cases hgy : g y with
        | true =>
          rw [hgy] at HC
          have HG := hid hgy
          clear hgy
          go_wp2_with fail
          refine HC.out.mono ?_
          rintro e w3 ⟨rfl, k3⟩
          have K3 := hid (HK.out.quiet k3)
          clear k3
          go_wp2_with fail
          go_roundw
          case rel => exact ⟨k + 1, by omega, by go_num, hid ⟨K3.out, fun j z hj hz => by
            by_cases e : j < k
            · exact HB.out.2 j z e hz
            · obtain rfl : j = k := by omega
              rw [HY.out] at hz
              cases hz
              exact HG.out⟩⟩
          case measure => simp [intOf]; omega
        | false =>
          rw [hgy] at HC
          have HE := hid (lenB_bad (m := m) HY.out hgy)
          clear hgy
          go_wp2_with fail
          refine HC.out.mono ?_
          rintro e w3 ⟨rfl, k3⟩
          have K3 := hid (HK.out.quiet k3)
          clear k3
          go_wp2_with fail
          go_ret
          exact ⟨by rw [HE.out]; rfl, K3.out⟩
      · obtain rfl : k = n := by omega
        have HE := hid (lenB_good (g := g) HM.out (fun j y hy => HB.out.2 j y (by rw [HL.out]; exact (List.getElem?_eq_some_iff.1 hy).1) hy))
        go_wp2_with fail
        go_ret
        exact ⟨by rw [HE.out]; rfl, HK.out⟩

set_option maxRecDepth 20000 in
set_option maxHeartbeats 4000000 in
theorem each_sig {w : World} {v : Value} {l : List (List (Int × Int) × Int × Int)} (hx : SlV 3 SgC w v l) (m : Nat) (g : (List (Int × Int) × Int × Int) → Bool) (hm : m ≤ 100) (hg : ∀ w' v y, Keeps [] w w' → SgV w v y → Calls Tryd.prog 49 #[v] w' fun e w2 => e = .returned (.bool (g y)) ∧ Keeps [] w' w2) :
    Calls Tryd.prog 48 #[v, .int .i64 (m : Int), .func (.func 49) #[] #[]] w fun e w' => e = .returned (.bool (lenB l m g)) ∧ Keeps [] w w' := by
  obtain ⟨a, cp, rfl, hr, _, hl⟩ := hx
  have HP := hid hg
  have HR := hid hr
  obtain ⟨n, hn⟩ : ∃ n, n = l.length := ⟨_, rfl⟩
  rw [← hn]
  have HL := hid hn
  clear hg hr hl hn
  by_cases hlong : m < n
  · have hl' : (m : Int) < (n : Int) := by omega
    have HE := hid (lenB_long (g := g) (show m < l.length by rw [← HL.out]; exact hlong))
    generalize lenB l m g = res at *
    clear hlong
    go_enter Tryd.func48, Tryd.ntmps48
    go_wp2
    go_ret
    exact ⟨by rw [HE.out]; rfl, Keeps.refl _ _⟩
  · have hl' : ¬ (m : Int) < (n : Int) := by omega
    have hn1 : (n : Int) ≤ 100 := by omega
    have HM : Box (l.length ≤ m) := hid (by rw [← HL.out]; omega)
    clear hlong
    go_enter Tryd.func48, Tryd.ntmps48
    go_wp2_with fail
    go_loopw [14] (fun kv wr => ∃ k : Nat, k ≤ n ∧ kv = .int .i64 (k : Int) ∧ Box (Keeps [] w wr ∧ ∀ j y, j < k → l[j]? = some y → g y = true)) (fun kv _ => n - (intOf kv).toNat)
    case atStart => exact ⟨0, by omega, rfl, hid ⟨Keeps.refl _ _, fun j y hj => by omega⟩⟩
    case round =>
      obtain ⟨k, hk, rfl, HB⟩ := hrel
      have HK := hid HB.out.1
      by_cases hlt : k < n
      · have hlt' : (k : Int) < (n : Int) := by omega
        obtain ⟨y, hy⟩ : ∃ y, l[k]? = some y := ⟨_, List.getElem?_eq_getElem (by rw [← HL.out]; exact hlt)⟩
        obtain ⟨b, off, rfl, hc⟩ := HR.out.at hy
        skip
        obtain ⟨ar, acp, h5, q5⟩ := hc.c0.val
        have d0 := cell_stays HK.out hc.c1.1
        have d1 := cell_stays HK.out hc.c2.1
        have d2 := cell_stays HK.out h5
        have HC := hid (HP.out wr (.agg #[.slice ar y.1.length acp, .int .i64 y.2.1, .int .i64 y.2.2]) y HK.out (⟨ar, acp, rfl, q5, hc.c1.2, hc.c2.2⟩))
        have HY := hid hy
        clear hc hy h5 q5
        cases hgy : g y with
        | true =>
          rw [hgy] at HC
          have HG := hid hgy
          clear hgy
          go_wp2_with fail
          refine HC.out.mono ?_
          rintro e w3 ⟨rfl, k3⟩
          have K3 := hid (HK.out.quiet k3)
          clear k3
          go_wp2_with fail
          go_roundw
          case rel => exact ⟨k + 1, by omega, by go_num, hid ⟨K3.out, fun j z hj hz => by
            by_cases e : j < k
            · exact HB.out.2 j z e hz
            · obtain rfl : j = k := by omega
              rw [HY.out] at hz
              cases hz
              exact HG.out⟩⟩
          case measure => simp [intOf]; omega
        | false =>
          rw [hgy] at HC
          have HE := hid (lenB_bad (m := m) HY.out hgy)
          clear hgy
          go_wp2_with fail
          refine HC.out.mono ?_
          rintro e w3 ⟨rfl, k3⟩
          have K3 := hid (HK.out.quiet k3)
          clear k3
          go_wp2_with fail
          go_ret
          exact ⟨by rw [HE.out]; rfl, K3.out⟩
      · obtain rfl : k = n := by omega
        have HE := hid (lenB_good (g := g) HM.out (fun j y hy => HB.out.2 j y (by rw [HL.out]; exact (List.getElem?_eq_some_iff.1 hy).1) hy))
        go_wp2_with fail
        go_ret
        exact ⟨by rw [HE.out]; rfl, HK.out⟩

set_option maxRecDepth 20000 in
set_option maxHeartbeats 4000000 in
theorem each_iface {w : World} {v : Value} {l : List (List Int)} (hx : SlV 1 IntsC w v l) (m : Nat) (g : (List Int) → Bool) (hm : m ≤ 100) (hg : ∀ w' v y, Keeps [] w w' → IfV w v y → Calls Tryd.prog 51 #[v] w' fun e w2 => e = .returned (.bool (g y)) ∧ Keeps [] w' w2) :
    Calls Tryd.prog 50 #[v, .int .i64 (m : Int), .func (.func 51) #[] #[]] w fun e w' => e = .returned (.bool (lenB l m g)) ∧ Keeps [] w w' := by
  obtain ⟨a, cp, rfl, hr, _, hl⟩ := hx
  have HP := hid hg
  have HR := hid hr
  obtain ⟨n, hn⟩ : ∃ n, n = l.length := ⟨_, rfl⟩
  rw [← hn]
  have HL := hid hn
  clear hg hr hl hn
  by_cases hlong : m < n
  · have hl' : (m : Int) < (n : Int) := by omega
    have HE := hid (lenB_long (g := g) (show m < l.length by rw [← HL.out]; exact hlong))
    generalize lenB l m g = res at *
    clear hlong
    go_enter Tryd.func50, Tryd.ntmps50
    go_wp2
    go_ret
    exact ⟨by rw [HE.out]; rfl, Keeps.refl _ _⟩
  · have hl' : ¬ (m : Int) < (n : Int) := by omega
    have hn1 : (n : Int) ≤ 100 := by omega
    have HM : Box (l.length ≤ m) := hid (by rw [← HL.out]; omega)
    clear hlong
    go_enter Tryd.func50, Tryd.ntmps50
    go_wp2_with fail
    go_loopw [14] (fun kv wr => ∃ k : Nat, k ≤ n ∧ kv = .int .i64 (k : Int) ∧ Box (Keeps [] w wr ∧ ∀ j y, j < k → l[j]? = some y → g y = true)) (fun kv _ => n - (intOf kv).toNat)
    case atStart => exact ⟨0, by omega, rfl, hid ⟨Keeps.refl _ _, fun j y hj => by omega⟩⟩
    case round =>
      obtain ⟨k, hk, rfl, HB⟩ := hrel
      have HK := hid HB.out.1
      by_cases hlt : k < n
      · have hlt' : (k : Int) < (n : Int) := by omega
        obtain ⟨y, hy⟩ : ∃ y, l[k]? = some y := ⟨_, List.getElem?_eq_getElem (by rw [← HL.out]; exact hlt)⟩
        obtain ⟨b, off, rfl, hc⟩ := HR.out.at hy
        rw [Nat.mul_one] at hc
        obtain ⟨ar, acp, h5, q5⟩ := SlC.val hc
        have d0 := cell_stays HK.out h5
        have HC := hid (HP.out wr (.agg #[.slice ar y.length acp]) y HK.out (⟨ar, acp, rfl, q5⟩))
        have HY := hid hy
        clear hc hy h5 q5
        cases hgy : g y with
        | true =>
          rw [hgy] at HC
          have HG := hid hgy
          clear hgy
          go_wp2_with fail
          refine HC.out.mono ?_
          rintro e w3 ⟨rfl, k3⟩
          have K3 := hid (HK.out.quiet k3)
          clear k3
          go_wp2_with fail
          go_roundw
          case rel => exact ⟨k + 1, by omega, by go_num, hid ⟨K3.out, fun j z hj hz => by
            by_cases e : j < k
            · exact HB.out.2 j z e hz
            · obtain rfl : j = k := by omega
              rw [HY.out] at hz
              cases hz
              exact HG.out⟩⟩
          case measure => simp [intOf]; omega
        | false =>
          rw [hgy] at HC
          have HE := hid (lenB_bad (m := m) HY.out hgy)
          clear hgy
          go_wp2_with fail
          refine HC.out.mono ?_
          rintro e w3 ⟨rfl, k3⟩
          have K3 := hid (HK.out.quiet k3)
          clear k3
          go_wp2_with fail
          go_ret
          exact ⟨by rw [HE.out]; rfl, K3.out⟩
      · obtain rfl : k = n := by omega
        have HE := hid (lenB_good (g := g) HM.out (fun j y hy => HB.out.2 j y (by rw [HL.out]; exact (List.getElem?_eq_some_iff.1 hy).1) hy))
        go_wp2_with fail
        go_ret
        exact ⟨by rw [HE.out]; rfl, HK.out⟩

set_option maxRecDepth 20000 in
set_option maxHeartbeats 4000000 in
theorem each_impl {w : World} {v : Value} {l : List (Int × Int × List Int)} (hx : SlV 3 ImC w v l) (m : Nat) (g : (Int × Int × List Int) → Bool) (hm : m ≤ 100) (hg : ∀ w' v y, Keeps [] w w' → ImV w v y → Calls Tryd.prog 53 #[v] w' fun e w2 => e = .returned (.bool (g y)) ∧ Keeps [] w' w2) :
    Calls Tryd.prog 52 #[v, .int .i64 (m : Int), .func (.func 53) #[] #[]] w fun e w' => e = .returned (.bool (lenB l m g)) ∧ Keeps [] w w' := by
  obtain ⟨a, cp, rfl, hr, _, hl⟩ := hx
  have HP := hid hg
  have HR := hid hr
  obtain ⟨n, hn⟩ : ∃ n, n = l.length := ⟨_, rfl⟩
  rw [← hn]
  have HL := hid hn
  clear hg hr hl hn
  by_cases hlong : m < n
  · have hl' : (m : Int) < (n : Int) := by omega
    have HE := hid (lenB_long (g := g) (show m < l.length by rw [← HL.out]; exact hlong))
    generalize lenB l m g = res at *
    clear hlong
    go_enter Tryd.func52, Tryd.ntmps52
    go_wp2
    go_ret
    exact ⟨by rw [HE.out]; rfl, Keeps.refl _ _⟩
  · have hl' : ¬ (m : Int) < (n : Int) := by omega
    have hn1 : (n : Int) ≤ 100 := by omega
    have HM : Box (l.length ≤ m) := hid (by rw [← HL.out]; omega)
    clear hlong
    go_enter Tryd.func52, Tryd.ntmps52
    go_wp2_with fail
    go_loopw [14] (fun kv wr => ∃ k : Nat, k ≤ n ∧ kv = .int .i64 (k : Int) ∧ Box (Keeps [] w wr ∧ ∀ j y, j < k → l[j]? = some y → g y = true)) (fun kv _ => n - (intOf kv).toNat)
    case atStart => exact ⟨0, by omega, rfl, hid ⟨Keeps.refl _ _, fun j y hj => by omega⟩⟩
    case round =>
      obtain ⟨k, hk, rfl, HB⟩ := hrel
      have HK := hid HB.out.1
      by_cases hlt : k < n
      · have hlt' : (k : Int) < (n : Int) := by omega
        obtain ⟨y, hy⟩ : ∃ y, l[k]? = some y := ⟨_, List.getElem?_eq_getElem (by rw [← HL.out]; exact hlt)⟩
        obtain ⟨b, off, rfl, hc⟩ := HR.out.at hy
        skip
        obtain ⟨ar, acp, h5, q5⟩ := SlC.val hc.c2
        have d0 := cell_stays HK.out hc.c0.1
        have d1 := cell_stays HK.out hc.c1.1
        have d2 := cell_stays HK.out h5
        have HC := hid (HP.out wr (.agg #[.int .i64 y.1, .int .i64 y.2.1, .slice ar y.2.2.length acp]) y HK.out (⟨ar, acp, rfl, hc.c0.2, hc.c1.2, q5⟩))
        have HY := hid hy
        clear hc hy h5 q5
        cases hgy : g y with
        | true =>
          rw [hgy] at HC
          have HG := hid hgy
          clear hgy
          go_wp2_with fail
          refine HC.out.mono ?_
          rintro e w3 ⟨rfl, k3⟩
          have K3 := hid (HK.out.quiet k3)
          clear k3
          go_wp2_with fail
          go_roundw
          case rel => exact ⟨k + 1, by omega, by go_num, hid ⟨K3.out, fun j z hj hz => by
            by_cases e : j < k
            · exact HB.out.2 j z e hz
            · obtain rfl : j = k := by omega
              rw [HY.out] at hz
              cases hz
              exact HG.out⟩⟩
          case measure => simp [intOf]; omega
        | false =>
          rw [hgy] at HC
          have HE := hid (lenB_bad (m := m) HY.out hgy)
          clear hgy
          go_wp2_with fail
          refine HC.out.mono ?_
          rintro e w3 ⟨rfl, k3⟩
          have K3 := hid (HK.out.quiet k3)
          clear k3
          go_wp2_with fail
          go_ret
          exact ⟨by rw [HE.out]; rfl, K3.out⟩
      · obtain rfl : k = n := by omega
        have HE := hid (lenB_good (g := g) HM.out (fun j y hy => HB.out.2 j y (by rw [HL.out]; exact (List.getElem?_eq_some_iff.1 hy).1) hy))
        go_wp2_with fail
        go_ret
        exact ⟨by rw [HE.out]; rfl, HK.out⟩

end Go.Proofs.YtlopddflbhnjdaaDoor
