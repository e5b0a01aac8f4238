/-
  The document's own Bounds.
-/
import Derived.Test.YtmebkeidpklcbaaDoorRows
import Derived.WalkKit
import Derived.WalkSpells
import Derived.WalkLawsBesides
import Derived.OwnWalk
import Derived.Deep.QuietTactic
import Derived.BigQuiet
import Derived.Maps.AppendAt
import Derived.Lib.Builder
import Derived.Deep.OwnRows
import Derived.Deep.DeepCutAuto
import Derived.Deep.AppendLies
import Derived.Test.YtmebkeidpklcbaaDoorZ03
import Derived.Test.YtmebkeidpklcbaaDoorZ04

namespace Go.Proofs.YtmebkeidpklcbaaDoor
open Go.RowKit

theorem bnd_no0 {P : Pr8} (h : lenB P.recs 6 recB = false) : bndB P = false := by unfold bndB tabB; rw [h]; simp
theorem bnd_no1 {P : Pr8} (h : lenB P.sigs 10 sigB = false) : bndB P = false := by unfold bndB tabB; rw [h]; simp
theorem bnd_no2 {P : Pr8} (h : lenB P.ifs 4 ifB = false) : bndB P = false := by unfold bndB tabB; rw [h]; simp
theorem bnd_no3 {P : Pr8} (h : lenB P.ims 12 imB = false) : bndB P = false := by unfold bndB tabB; rw [h]; simp
theorem bnd_no4 {P : Pr8} (h : lenB P.funcs 12 fnB = false) : bndB P = false := by unfold bndB tabB; rw [h]; simp
theorem bnd_none {P : Pr8} (h : P.funcs.length = 0) : bndB P = false := by unfold bndB tabB; rw [h]; simp
theorem bnd_func {P : Pr8} {k : Nat} (hk : k < P.funcs.length) (h : fnB (fun8 P k) = false) : bndB P = false := bnd_no4 (lenB_bad (getD_get hk) h)
theorem fnB_regs {f : Fu8} (h : 16 < f.regs.length) : fnB f = false := by
  unfold fnB
  have : ¬ f.regs.length ≤ 16 := by omega
  simp [this]
theorem fnB_none {f : Fu8} (h : f.blocks.length = 0) : fnB f = false := by unfold fnB; rw [h]; simp
theorem fnB_blocks {f : Fu8} (h : lenB f.blocks 12 blkB = false) : fnB f = false := by unfold fnB; rw [h]; simp
theorem fnB_yes {f : Fu8} (h1 : f.regs.length ≤ 16) (h2 : 0 < f.blocks.length) (h3 : lenB f.blocks 12 blkB = true) : fnB f = true := by unfold fnB; simp [h1, h2, h3]
theorem blkB_bad {b : Bl8} {k : Nat} (hk : k < b.code.length) (h : 4 < (ins8 b k).args.length) : blkB b = false := by
  refine lenB_bad (show b.code[k]? = some (ins8 b k) from getD_get hk) ?_
  unfold argB
  exact decide_eq_false (by omega)
theorem bnd_end {P : Pr8} (hf : 0 < P.funcs.length) (h0 : lenB P.recs 6 recB = true) (h1 : lenB P.sigs 10 sigB = true) (h2 : lenB P.ifs 4 ifB = true) (h3 : lenB P.ims 12 imB = true) (h4 : lenB P.funcs 12 fnB = true) : bndB P = (decide ((pts P).length ≤ 600) && decide (sitesN P (pts P) ≤ 40)) := by
  unfold bndB tabB
  rw [h0, h1, h2, h3, h4]
  simp [hf]
theorem site_end (P : Pr8) (f b : Nat) : isSite P (f, b, (blk8 (fun8 P f) b).code.length) = false := by
  unfold isSite
  simp
theorem site_at {P : Pr8} {f b i : Nat} (h : i < (blk8 (fun8 P f) b).code.length) : isSite P (f, b, i) = decide ((ins8 (blk8 (fun8 P f) b) i).op = 5) := by
  unfold isSite
  simp [h]
/-- Where the count stands: points, sites, so many at most. -/
structure Cnt (P : Pr8) (l : List (Nat × Nat × Nat)) (n s m : Nat) : Prop where
  en : n = l.length
  es : s = sitesN P l
  em : n ≤ m
theorem Cnt.nil (P : Pr8) (m : Nat) : Cnt P [] 0 0 m := ⟨rfl, rfl, Nat.zero_le _⟩
theorem Cnt.le {P : Pr8} {l : List (Nat × Nat × Nat)} {n s m : Nat} (h : Cnt P l n s m) : s ≤ n := by rw [h.es, h.en]; exact sitesN_le P l
theorem Cnt.snoc {P : Pr8} {l : List (Nat × Nat × Nat)} {n s m : Nat} (h : Cnt P l n s m) (q : Nat × Nat × Nat) : Cnt P (l ++ [q]) (n + 1) (s + (if isSite P q then 1 else 0)) (m + 1) :=
  ⟨by rw [List.length_append, h.en]; rfl, by rw [sitesN_snoc, h.es], by have := h.em; omega⟩
theorem Cnt.cast {P : Pr8} {l l' : List (Nat × Nat × Nat)} {n s m n' s' m' : Nat} (h : Cnt P l n s m) (e1 : l = l') (e2 : n = n') (e3 : s = s') (e4 : m ≤ m') : Cnt P l' n' s' m' := by
  subst e1 e2 e3
  exact ⟨h.en, h.es, Nat.le_trans h.em e4⟩
set_option maxRecDepth 40000 in
set_option maxHeartbeats 40000000 in
theorem rbounds_any {w : World} {pb po : Nat} {P : Pr8} (h : PrC w pb po P) : Calls Tryd.prog 24 #[.pointer (some ⟨pb, po, none⟩)] w fun e w' => e = .returned (.bool (bndB P)) ∧ Keeps [] w w' := by
  obtain ⟨a0, p0, c0, r0, _⟩ := h.c0
  obtain ⟨a1, p1, c1, r1, _⟩ := h.c1
  obtain ⟨a2, p2, c2, r2, _⟩ := h.c2
  obtain ⟨a3, p3, c3, r3, _⟩ := h.c3
  obtain ⟨a4, p4, c4, r4, _⟩ := h.c4
  have R0 := hid r0
  obtain ⟨n0, hn0⟩ : ∃ n, n = P.recs.length := ⟨_, rfl⟩
  rw [← hn0] at c0
  have N0 := hid hn0
  have R1 := hid r1
  obtain ⟨n1, hn1⟩ : ∃ n, n = P.sigs.length := ⟨_, rfl⟩
  rw [← hn1] at c1
  have N1 := hid hn1
  have R2 := hid r2
  obtain ⟨n2, hn2⟩ : ∃ n, n = P.ifs.length := ⟨_, rfl⟩
  rw [← hn2] at c2
  have N2 := hid hn2
  have R3 := hid r3
  obtain ⟨n3, hn3⟩ : ∃ n, n = P.ims.length := ⟨_, rfl⟩
  rw [← hn3] at c3
  have N3 := hid hn3
  have R4 := hid r4
  obtain ⟨n4, hn4⟩ : ∃ n, n = P.funcs.length := ⟨_, rfl⟩
  rw [← hn4] at c4
  have N4 := hid hn4
  have C4 : Box (∀ w', Keeps [] w w' → w'.cell? ⟨pb, po + 4, none⟩ = some (.slice a4 n4 p4)) := hid (by have c := c4; exact fun w' k => cell_stays k c)
  clear r0 r1 r2 r3 r4 hn0 hn1 hn2 hn3 hn4 h
  by_cases g0 : n0 ≤ 6
  case neg =>
    have g0' : (6 : Int) < (n0 : Int) := by omega
    have HR : Box (bndB P = false) := hid (bnd_no0 (lenB_long (by rw [← N0.out]; omega)))
    clear g0
    go_enter Tryd.func24, Tryd.ntmps24
    go_wp2
    go_ret
    exact ⟨by rw [HR.out]; rfl, Keeps.refl _ _⟩
  have g0' : ¬ (6 : Int) < (n0 : Int) := by omega
  by_cases g1 : n1 ≤ 10
  case neg =>
    have g1' : (10 : Int) < (n1 : Int) := by omega
    have HR : Box (bndB P = false) := hid (bnd_no1 (lenB_long (by rw [← N1.out]; omega)))
    clear g1
    go_enter Tryd.func24, Tryd.ntmps24
    go_wp2
    go_ret
    exact ⟨by rw [HR.out]; rfl, Keeps.refl _ _⟩
  have g1' : ¬ (10 : Int) < (n1 : Int) := by omega
  by_cases g2 : n2 ≤ 4
  case neg =>
    have g2' : (4 : Int) < (n2 : Int) := by omega
    have HR : Box (bndB P = false) := hid (bnd_no2 (lenB_long (by rw [← N2.out]; omega)))
    clear g2
    go_enter Tryd.func24, Tryd.ntmps24
    go_wp2
    go_ret
    exact ⟨by rw [HR.out]; rfl, Keeps.refl _ _⟩
  have g2' : ¬ (4 : Int) < (n2 : Int) := by omega
  by_cases g3 : n3 ≤ 12
  case neg =>
    have g3' : (12 : Int) < (n3 : Int) := by omega
    have HR : Box (bndB P = false) := hid (bnd_no3 (lenB_long (by rw [← N3.out]; omega)))
    clear g3
    go_enter Tryd.func24, Tryd.ntmps24
    go_wp2
    go_ret
    exact ⟨by rw [HR.out]; rfl, Keeps.refl _ _⟩
  have g3' : ¬ (12 : Int) < (n3 : Int) := by omega
  by_cases g4 : n4 ≤ 12
  case neg =>
    have g4' : (12 : Int) < (n4 : Int) := by omega
    have HR : Box (bndB P = false) := hid (bnd_no4 (lenB_long (by rw [← N4.out]; omega)))
    clear g4
    go_enter Tryd.func24, Tryd.ntmps24
    go_wp2
    go_ret
    exact ⟨by rw [HR.out]; rfl, Keeps.refl _ _⟩
  have g4' : ¬ (12 : Int) < (n4 : Int) := by omega
  by_cases gz : n4 = 0
  case pos =>
    have HR : Box (bndB P = false) := hid (bnd_none (by rw [← N4.out]; exact gz))
    have gz' : ((n4 : Int) == 0) = true := eqb (by omega)
    clear gz
    go_enter Tryd.func24, Tryd.ntmps24
    go_wp2
    go_ret
    exact ⟨by rw [HR.out]; rfl, Keeps.refl _ _⟩
  have gz' : ((n4 : Int) == 0) = false := neb (by omega)
  have HPOS : Box (0 < P.funcs.length) := hid (by rw [← N4.out]; omega)
  clear gz
  go_enter Tryd.func24, Tryd.ntmps24
  go_wp2_with fail
  clear gz' g0' g1' g2' g3' g4'
  go_loop [3] (fun kv => ∃ k : Nat, k ≤ n0 ∧ kv = .int .i64 (k : Int) ∧ Box (∀ j y, j < k → P.recs[j]? = some y → recB y = true)) (fun kv => n0 - (intOf kv).toNat)
  case atStart => exact ⟨0, by omega, rfl, hid fun j y hj => by omega⟩
  case round =>
    obtain ⟨k, hk, rfl, HB⟩ := hrel
    by_cases hlt : k < n0
    · have hlt' : (k : Int) < (n0 : Int) := by omega
      obtain ⟨y, hy⟩ : ∃ y, P.recs[k]? = some y := ⟨_, List.getElem?_eq_getElem (by rw [← N0.out]; exact hlt)⟩
      obtain ⟨b, off, rfl, hc⟩ := R0.out.at hy
      rw [Nat.mul_one] at hc
      obtain ⟨ea, ep, e0, _⟩ := hc
      have HY := hid hy
      clear hy
      obtain ⟨m, hm⟩ : ∃ m, m = y.length := ⟨_, rfl⟩
      rw [← hm] at e0
      have HM := hid hm
      clear hm
      by_cases hml : m ≤ 4
      · have hml' : ¬ (4 : Int) < (m : Int) := by omega
        have HG : Box (recB y = true) := hid (by unfold recB; exact decide_eq_true (by rw [← HM.out]; exact hml))
        clear hml
        go_wp2_with fail
        go_round
        case rel => exact ⟨k + 1, by omega, by go_num, hid fun j z hj hz => by
          by_cases e : j < k
          · exact HB.out j z e hz
          · obtain rfl : j = k := by omega
            rw [HY.out] at hz
            cases hz
            exact HG.out⟩
        case measure => simp [intOf]; omega
      · have hml' : (4 : Int) < (m : Int) := by omega
        have HR : Box (bndB P = false) := hid (bnd_no0 (lenB_bad HY.out (by unfold recB; exact decide_eq_false (by rw [← HM.out]; exact hml))))
        clear hml
        go_wp2_with fail
        go_ret
        exact ⟨by rw [HR.out]; rfl, Keeps.refl _ _⟩
    · obtain rfl : k = n0 := by omega
      have T0 : Box (lenB P.recs 6 recB = true) := hid (lenB_good (by rw [← N0.out]; exact g0) (fun j y hy => HB.out j y (by rw [N0.out]; exact (List.getElem?_eq_some_iff.1 hy).1) hy))
      clear HB hk g0
      go_wp2_with fail
      clear c0 hlt
      go_loop [4] (fun kv => ∃ k : Nat, k ≤ n1 ∧ kv = .int .i64 (k : Int) ∧ Box (∀ j y, j < k → P.sigs[j]? = some y → sigB y = true)) (fun kv => n1 - (intOf kv).toNat)
      case atStart => exact ⟨0, by omega, rfl, hid fun j y hj => by omega⟩
      case round =>
        obtain ⟨k, hk, rfl, HB⟩ := hrel
        by_cases hlt : k < n1
        · have hlt' : (k : Int) < (n1 : Int) := by omega
          obtain ⟨y, hy⟩ : ∃ y, P.sigs[k]? = some y := ⟨_, List.getElem?_eq_getElem (by rw [← N1.out]; exact hlt)⟩
          obtain ⟨b, off, rfl, hc⟩ := R1.out.at hy
          skip
          obtain ⟨ea, ep, e0, _⟩ := hc.c0
          have HY := hid hy
          clear hc hy
          obtain ⟨m, hm⟩ : ∃ m, m = y.1.length := ⟨_, rfl⟩
          rw [← hm] at e0
          have HM := hid hm
          clear hm
          by_cases hml : m ≤ 4
          · have hml' : ¬ (4 : Int) < (m : Int) := by omega
            have HG : Box (sigB y = true) := hid (by unfold sigB; exact decide_eq_true (by rw [← HM.out]; exact hml))
            clear hml
            go_wp2_with fail
            go_round
            case rel => exact ⟨k + 1, by omega, by go_num, hid fun j z hj hz => by
              by_cases e : j < k
              · exact HB.out j z e hz
              · obtain rfl : j = k := by omega
                rw [HY.out] at hz
                cases hz
                exact HG.out⟩
            case measure => simp [intOf]; omega
          · have hml' : (4 : Int) < (m : Int) := by omega
            have HR : Box (bndB P = false) := hid (bnd_no1 (lenB_bad HY.out (by unfold sigB; exact decide_eq_false (by rw [← HM.out]; exact hml))))
            clear hml
            go_wp2_with fail
            go_ret
            exact ⟨by rw [HR.out]; rfl, Keeps.refl _ _⟩
        · obtain rfl : k = n1 := by omega
          have T1 : Box (lenB P.sigs 10 sigB = true) := hid (lenB_good (by rw [← N1.out]; exact g1) (fun j y hy => HB.out j y (by rw [N1.out]; exact (List.getElem?_eq_some_iff.1 hy).1) hy))
          clear HB hk g1
          go_wp2_with fail
          clear c1 hlt
          go_loop [5] (fun kv => ∃ k : Nat, k ≤ n2 ∧ kv = .int .i64 (k : Int) ∧ Box (∀ j y, j < k → P.ifs[j]? = some y → ifB y = true)) (fun kv => n2 - (intOf kv).toNat)
          case atStart => exact ⟨0, by omega, rfl, hid fun j y hj => by omega⟩
          case round =>
            obtain ⟨k, hk, rfl, HB⟩ := hrel
            by_cases hlt : k < n2
            · have hlt' : (k : Int) < (n2 : Int) := by omega
              obtain ⟨y, hy⟩ : ∃ y, P.ifs[k]? = some y := ⟨_, List.getElem?_eq_getElem (by rw [← N2.out]; exact hlt)⟩
              obtain ⟨b, off, rfl, hc⟩ := R2.out.at hy
              rw [Nat.mul_one] at hc
              obtain ⟨ea, ep, e0, _⟩ := hc
              have HY := hid hy
              clear hy
              obtain ⟨m, hm⟩ : ∃ m, m = y.length := ⟨_, rfl⟩
              rw [← hm] at e0
              have HM := hid hm
              clear hm
              by_cases hml : m ≤ 3
              · have hml' : ¬ (3 : Int) < (m : Int) := by omega
                have HG : Box (ifB y = true) := hid (by unfold ifB; exact decide_eq_true (by rw [← HM.out]; exact hml))
                clear hml
                go_wp2_with fail
                go_round
                case rel => exact ⟨k + 1, by omega, by go_num, hid fun j z hj hz => by
                  by_cases e : j < k
                  · exact HB.out j z e hz
                  · obtain rfl : j = k := by omega
                    rw [HY.out] at hz
                    cases hz
                    exact HG.out⟩
                case measure => simp [intOf]; omega
              · have hml' : (3 : Int) < (m : Int) := by omega
                have HR : Box (bndB P = false) := hid (bnd_no2 (lenB_bad HY.out (by unfold ifB; exact decide_eq_false (by rw [← HM.out]; exact hml))))
                clear hml
                go_wp2_with fail
                go_ret
                exact ⟨by rw [HR.out]; rfl, Keeps.refl _ _⟩
            · obtain rfl : k = n2 := by omega
              have T2 : Box (lenB P.ifs 4 ifB = true) := hid (lenB_good (by rw [← N2.out]; exact g2) (fun j y hy => HB.out j y (by rw [N2.out]; exact (List.getElem?_eq_some_iff.1 hy).1) hy))
              clear HB hk g2
              go_wp2_with fail
              clear c2 hlt
              go_loop [6] (fun kv => ∃ k : Nat, k ≤ n3 ∧ kv = .int .i64 (k : Int) ∧ Box (∀ j y, j < k → P.ims[j]? = some y → imB y = true)) (fun kv => n3 - (intOf kv).toNat)
              case atStart => exact ⟨0, by omega, rfl, hid fun j y hj => by omega⟩
              case round =>
                obtain ⟨k, hk, rfl, HB⟩ := hrel
                by_cases hlt : k < n3
                · have hlt' : (k : Int) < (n3 : Int) := by omega
                  obtain ⟨y, hy⟩ : ∃ y, P.ims[k]? = some y := ⟨_, List.getElem?_eq_getElem (by rw [← N3.out]; exact hlt)⟩
                  obtain ⟨b, off, rfl, hc⟩ := R3.out.at hy
                  skip
                  obtain ⟨ea, ep, e0, _⟩ := hc.c2
                  have HY := hid hy
                  clear hc hy
                  obtain ⟨m, hm⟩ : ∃ m, m = y.2.2.length := ⟨_, rfl⟩
                  rw [← hm] at e0
                  have HM := hid hm
                  clear hm
                  by_cases hml : m ≤ 3
                  · have hml' : ¬ (3 : Int) < (m : Int) := by omega
                    have HG : Box (imB y = true) := hid (by unfold imB; exact decide_eq_true (by rw [← HM.out]; exact hml))
                    clear hml
                    go_wp2_with fail
                    go_round
                    case rel => exact ⟨k + 1, by omega, by go_num, hid fun j z hj hz => by
                      by_cases e : j < k
                      · exact HB.out j z e hz
                      · obtain rfl : j = k := by omega
                        rw [HY.out] at hz
                        cases hz
                        exact HG.out⟩
                    case measure => simp [intOf]; omega
                  · have hml' : (3 : Int) < (m : Int) := by omega
                    have HR : Box (bndB P = false) := hid (bnd_no3 (lenB_bad HY.out (by unfold imB; exact decide_eq_false (by rw [← HM.out]; exact hml))))
                    clear hml
                    go_wp2_with fail
                    go_ret
                    exact ⟨by rw [HR.out]; rfl, Keeps.refl _ _⟩
                · obtain rfl : k = n3 := by omega
                  have T3 : Box (lenB P.ims 12 imB = true) := hid (lenB_good (by rw [← N3.out]; exact g3) (fun j y hy => HB.out j y (by rw [N3.out]; exact (List.getElem?_eq_some_iff.1 hy).1) hy))
                  clear HB hk g3
                  go_wp2_with fail
                  clear c3 hlt
                  have c4' := c4
                  go_loopw [7, 8, 9] (fun nv sv kv wr => ∃ (k n s : Nat), k ≤ n4 ∧ kv = .int .i64 (k : Int) ∧ nv = .int .i64 (n : Int) ∧ sv = .int .i64 (s : Int) ∧ Box (Cnt P (ptP P k) n s (372 * k)) ∧ Box (Keeps [] w wr) ∧ Box (∀ j, j < k → fnB (fun8 P j) = true)) (fun _ _ kv _ => n4 - (intOf kv).toNat)
                  case atStart => exact ⟨0, 0, 0, by omega, rfl, rfl, rfl, hid (Cnt.nil _ _), hid (Keeps.refl _ _), hid fun j hj => by omega⟩
                  case round =>
                    obtain ⟨k, n, s, hk, rfl, rfl, rfl, HC, HK, HB⟩ := hrel
                    have d4 := C4.out _ HK.out
                    have hn9 : n ≤ 372 * k := HC.out.em
                    have hs9 : s ≤ n := HC.out.le
                    clear c4 c4'
                    by_cases hlt : k < n4
                    · have hlt' : (k : Int) < (n4 : Int) := by omega
                      have hkf : Box (k < P.funcs.length) := hid (by rw [← N4.out]; exact hlt)
                      obtain ⟨fb, fo, rfl, hfu⟩ := R4.out.at (getD_get (d := ⟨0, [], []⟩) hkf.out)
                      have hfu' : FuC w fb (fo + k * 3) (fun8 P k) := hfu
                      obtain ⟨ra, rp, e1, _⟩ := hfu'.c1
                      obtain ⟨ba, bp, e2, rb, _⟩ := hfu'.c2
                      have e0 := cell_stays HK.out hfu'.c0.1
                      replace e1 := cell_stays HK.out e1
                      replace e2 := cell_stays HK.out e2
                      have RB := hid rb
                      obtain ⟨rn, hrn⟩ : ∃ m, m = (fun8 P k).regs.length := ⟨_, rfl⟩
                      obtain ⟨bn, hbn⟩ : ∃ m, m = (fun8 P k).blocks.length := ⟨_, rfl⟩
                      rw [← hrn] at e1
                      rw [← hbn] at e2
                      have HRN := hid hrn
                      have HBN := hid hbn
                      clear hfu hfu' rb hrn hbn
                      generalize (fun8 P k).sig = sg at *
                      have ka := Keeps.alloc [] wr (.cells #[.int .i64 sg, .slice ra rn rp, .slice ba bn bp] 39)
                      have hnew := heap_new wr (.cells #[.int .i64 sg, .slice ra rn rp, .slice ba bn bp] 39)
                      have HK2 := hid (HK.out.quiet ka)
                      clear ka
                      by_cases gr : rn ≤ 16
                      case neg =>
                        have gr' : (16 : Int) < (rn : Int) := by omega
                        have HR : Box (bndB P = false) := hid (bnd_func hkf.out (fnB_regs (by rw [← HRN.out]; omega)))
                        clear gr hn9 hs9
                        go_wp2_with fail
                        go_ret
                        exact ⟨by rw [HR.out]; rfl, HK2.out⟩
                      have gr' : ¬ (16 : Int) < (rn : Int) := by omega
                      by_cases gb : bn ≤ 12
                      case neg =>
                        have gb' : (12 : Int) < (bn : Int) := by omega
                        have HR : Box (bndB P = false) := hid (bnd_func hkf.out (fnB_blocks (lenB_long (by rw [← HBN.out]; omega))))
                        clear gb hn9 hs9
                        go_wp2_with fail
                        go_ret
                        exact ⟨by rw [HR.out]; rfl, HK2.out⟩
                      have gb' : ¬ (12 : Int) < (bn : Int) := by omega
                      by_cases gz : bn = 0
                      case pos =>
                        have gz' : ((bn : Int) == 0) = true := eqb (by omega)
                        have HR : Box (bndB P = false) := hid (bnd_func hkf.out (fnB_none (by rw [← HBN.out]; exact gz)))
                        clear gz hn9 hs9
                        go_wp2_with fail
                        go_ret
                        exact ⟨by rw [HR.out]; rfl, HK2.out⟩
                      have gz' : ((bn : Int) == 0) = false := neb (by omega)
                      have HFY := hid fun (hh : lenB (fun8 P k).blocks 12 blkB = true) => fnB_yes (f := fun8 P k) (by rw [← HRN.out]; exact gr) (by rw [← HBN.out]; omega) hh
                      clear gz gr
                      go_wp2_with fail
                      clear gz' gr' gb' e0 e1 e2 d4 HK
                      generalize wr.alloc (.cells #[.int .i64 sg, .slice ra rn rp, .slice ba bn bp] 39) = w3 at *
                      generalize wr.heap.size = q at *
                      have z2 := hcell hnew 2
                      clear hnew
                      have HC2 : Box (Cnt P (ptP P k ++ ptF (fun8 P k) k 0) n s (372 * k + 31 * 0)) := hid (HC.out.cast (by rw [ptF_zero, List.append_nil]) rfl rfl (by omega))
                      go_loop [7, 8, 11] (fun nv sv bv => ∃ (b n s : Nat), b ≤ bn ∧ bv = .int .i64 (b : Int) ∧ nv = .int .i64 (n : Int) ∧ sv = .int .i64 (s : Int) ∧ Box (Cnt P (ptP P k ++ ptF (fun8 P k) k b) n s (372 * k + 31 * b)) ∧ Box (∀ j, j < b → blkB (blk8 (fun8 P k) j) = true)) (fun _ _ bv => bn - (intOf bv).toNat)
                      case atStart => exact ⟨0, n, s, by omega, rfl, rfl, rfl, HC2, hid fun j hj => by omega⟩
                      case round =>
                        obtain ⟨b, n, s, hb, rfl, rfl, rfl, HC, HBB⟩ := hrel
                        clear HC2 hn9 hs9
                        have hn9 : n ≤ 372 * k + 31 * b := HC.out.em
                        have hs9 : s ≤ n := HC.out.le
                        by_cases hlb : b < bn
                        · have hlb' : (b : Int) < (bn : Int) := by omega
                          have hbf : Box (b < (fun8 P k).blocks.length) := hid (by rw [← HBN.out]; exact hlb)
                          obtain ⟨bb, bo, rfl, hbl⟩ := RB.out.at (show (fun8 P k).blocks[b]? = some (blk8 (fun8 P k) b) from getD_get hbf.out)
                          obtain ⟨ca, cp, e3, rc, _⟩ := hbl.c0
                          have E3 := cell_stays HK2.out e3
                          have RC := hid rc
                          obtain ⟨cn, hcn⟩ : ∃ m, m = (blk8 (fun8 P k) b).code.length := ⟨_, rfl⟩
                          rw [← hcn] at E3
                          have HCN := hid hcn
                          clear hbl e3 rc hcn
                          by_cases gc : cn ≤ 30
                          case neg =>
                            have gc' : (30 : Int) < (cn : Int) := by omega
                            have HR : Box (bndB P = false) := hid (bnd_func hkf.out (fnB_blocks (lenB_bad (show (fun8 P k).blocks[b]? = some (blk8 (fun8 P k) b) from getD_get hbf.out) (lenB_long (by rw [← HCN.out]; omega)))))
                            clear gc hn9 hs9
                            go_wp2_with fail
                            go_ret
                            exact ⟨by rw [HR.out]; rfl, HK2.out⟩
                          have gc' : ¬ (30 : Int) < (cn : Int) := by omega
                          go_wp2_with fail
                          clear gc'
                          have HC3 : Box (Cnt P (ptP P k ++ ptF (fun8 P k) k b ++ ptB k b 0) n s (372 * k + 31 * b + 0)) := hid (HC.out.cast (by rw [ptB_zero, List.append_nil]) rfl rfl (by omega))
                          go_loop [7, 8, 12] (fun nv sv iv => ∃ (i n s : Nat), i ≤ cn ∧ iv = .int .i64 (i : Int) ∧ nv = .int .i64 (n : Int) ∧ sv = .int .i64 (s : Int) ∧ Box (Cnt P (ptP P k ++ ptF (fun8 P k) k b ++ ptB k b i) n s (372 * k + 31 * b + i)) ∧ Box (∀ j, j < i → argB (ins8 (blk8 (fun8 P k) b) j) = true)) (fun _ _ iv => cn - (intOf iv).toNat)
                          case atStart => exact ⟨0, n, s, by omega, rfl, rfl, rfl, HC3, hid fun j hj => by omega⟩
                          case round =>
                            obtain ⟨i, n, s, hi, rfl, rfl, rfl, HC, HIB⟩ := hrel
                            clear HC3 hn9 hs9
                            have hn9 : n ≤ 372 * k + 31 * b + i := HC.out.em
                            have hs9 : s ≤ n := HC.out.le
                            by_cases hli : i < cn
                            · have hli' : (i : Int) < (cn : Int) := by omega
                              have hif : Box (i < (blk8 (fun8 P k) b).code.length) := hid (by rw [← HCN.out]; exact hli)
                              obtain ⟨ib, io, rfl, hin⟩ := RC.out.at (show (blk8 (fun8 P k) b).code[i]? = some (ins8 (blk8 (fun8 P k) b) i) from getD_get hif.out)
                              obtain ⟨ga, gp, e5, _⟩ := hin.c5
                              have E5 := cell_stays HK2.out e5
                              have E0 := cell_stays HK2.out hin.c0.1
                              obtain ⟨an, han⟩ : ∃ m, m = (ins8 (blk8 (fun8 P k) b) i).args.length := ⟨_, rfl⟩
                              rw [← han] at E5
                              have HAN := hid han
                              clear hin e5 han
                              have HSN : Box (ptP P k ++ ptF (fun8 P k) k b ++ ptB k b (i + 1) = (ptP P k ++ ptF (fun8 P k) k b ++ ptB k b i) ++ [(k, b, i)]) := hid (by rw [ptB_succ, ← List.append_assoc])
                              have HSI := hid (site_at (P := P) (f := k) (b := b) hif.out)
                              generalize (ins8 (blk8 (fun8 P k) b) i).op = op at *
                              by_cases ga' : an ≤ 4
                              case neg =>
                                have g5 : (4 : Int) < (an : Int) := by omega
                                have HR : Box (bndB P = false) := hid (bnd_func hkf.out (fnB_blocks (lenB_bad (show (fun8 P k).blocks[b]? = some (blk8 (fun8 P k) b) from getD_get hbf.out) (blkB_bad hif.out (by rw [← HAN.out]; omega)))))
                                clear ga' hn9 hs9
                                go_wp2_with fail
                                go_ret
                                exact ⟨by rw [HR.out]; rfl, HK2.out⟩
                              have g5 : ¬ (4 : Int) < (an : Int) := by omega
                              have HIB2 : Box (∀ j, j < i + 1 → argB (ins8 (blk8 (fun8 P k) b) j) = true) := hid fun j hj => by
                                by_cases e : j < i
                                · exact HIB.out j e
                                · obtain rfl : j = i := by omega
                                  unfold argB
                                  exact decide_eq_true (by rw [← HAN.out]; exact ga')
                              have hn8 : (n : Int) ≤ 6000 := by omega
                              have hs8 : (s : Int) ≤ 6000 := by omega
                              by_cases hop : op = 5
                              · have hop' := eqb hop
                                have HC9 : Box (Cnt P (ptP P k ++ ptF (fun8 P k) k b ++ ptB k b (i + 1)) (n + 1) (s + 1) (372 * k + 31 * b + (i + 1))) := hid ((HC.out.snoc (k, b, i)).cast HSN.out.symm rfl (by rw [HSI.out]; simp [hop]) (by omega))
                                clear hop ga' hn9 hs9
                                go_wp2_with fail
                                go_round
                                case rel => exact ⟨i + 1, n + 1, s + 1, by omega, by go_num, by go_num, by go_num, HC9, HIB2⟩
                                case measure => simp [intOf]; omega
                              · have hop' := neb hop
                                have HC9 : Box (Cnt P (ptP P k ++ ptF (fun8 P k) k b ++ ptB k b (i + 1)) (n + 1) s (372 * k + 31 * b + (i + 1))) := hid ((HC.out.snoc (k, b, i)).cast HSN.out.symm rfl (by rw [HSI.out]; simp [hop]) (by omega))
                                clear hop ga' hn9 hs9
                                go_wp2_with fail
                                go_round
                                case rel => exact ⟨i + 1, n + 1, s, by omega, by go_num, by go_num, rfl, HC9, HIB2⟩
                                case measure => simp [intOf]; omega
                            · obtain rfl : i = cn := by omega
                              have hn8 : (n : Int) ≤ 6000 := by omega
                              have HBL : Box (blkB (blk8 (fun8 P k) b) = true) := hid (lenB_good (by rw [← HCN.out]; exact gc) (fun j y hy => by
                                have hj := (List.getElem?_eq_some_iff.1 hy).1
                                have := HIB.out j (by rw [HCN.out]; exact hj)
                                rw [show (blk8 (fun8 P k) b).code[j]? = some (ins8 (blk8 (fun8 P k) b) j) from getD_get hj] at hy
                                cases hy
                                exact this))
                              have HC9 : Box (Cnt P (ptP P k ++ ptF (fun8 P k) k (b + 1)) (n + 1) s (372 * k + 31 * (b + 1))) := hid ((HC.out.snoc (k, b, i)).cast (by rw [ptF_succ, ← HCN.out, ptB_succ]; simp only [List.append_assoc]) rfl (by rw [HCN.out, site_end]; simp) (by omega))
                              have HBB2 : Box (∀ j, j < b + 1 → blkB (blk8 (fun8 P k) j) = true) := hid fun j hj => by
                                by_cases e : j < b
                                · exact HBB.out j e
                                · obtain rfl : j = b := by omega
                                  exact HBL.out
                              clear hn9 hs9 hlb
                              go_wp2_with fail
                              go_round
                              case rel => exact ⟨b + 1, n + 1, s, by omega, by go_num, by go_num, rfl, HC9, HBB2⟩
                              case measure => simp [intOf]; omega
                        · obtain rfl : b = bn := by omega
                          have HFN : Box (fnB (fun8 P k) = true) := hid (HFY.out (lenB_good (by rw [← HBN.out]; exact gb) (fun j y hy => by
                            have hj := (List.getElem?_eq_some_iff.1 hy).1
                            have := HBB.out j (by rw [HBN.out]; exact hj)
                            rw [show (fun8 P k).blocks[j]? = some (blk8 (fun8 P k) j) from getD_get hj] at hy
                            cases hy
                            exact this)))
                          have HC9 : Box (Cnt P (ptP P (k + 1)) n s (372 * (k + 1))) := hid (HC.out.cast (by rw [ptP_succ, ← HBN.out]) rfl rfl (by omega))
                          have HB2 : Box (∀ j, j < k + 1 → fnB (fun8 P j) = true) := hid fun j hj => by
                            by_cases e : j < k
                            · exact HB.out j e
                            · obtain rfl : j = k := by omega
                              exact HFN.out
                          clear hn9 hs9
                          go_wp2_with fail
                          go_roundw
                          case rel => exact ⟨k + 1, n, s, by omega, by go_num, rfl, rfl, HC9, HK2, HB2⟩
                          case measure => simp [intOf]; omega
                    · obtain rfl : k = n4 := by omega
                      have T4 : Box (lenB P.funcs 12 fnB = true) := hid (lenB_good (by rw [← N4.out]; exact g4) (fun j y hy => by
                        have hj := (List.getElem?_eq_some_iff.1 hy).1
                        have := HB.out j (by rw [N4.out]; exact hj)
                        rw [show P.funcs[j]? = some (fun8 P j) from getD_get hj] at hy
                        cases hy
                        exact this))
                      have HE : Box (bndB P = (decide (n ≤ 600) && decide (s ≤ 40))) := hid (by
                        rw [bnd_end HPOS.out T0.out T1.out T2.out T3.out T4.out]
                        have e1 : ptP P k = pts P := by rw [N4.out]; rfl
                        rw [← e1, ← HC.out.en, ← HC.out.es])
                      by_cases h6 : n ≤ 600
                      · have h6' : (n : Int) ≤ 600 := by omega
                        have hd : decide ((s : Int) ≤ 40) = decide (s ≤ 40) := by congr 1; exact propext ⟨fun h => by omega, fun h => by omega⟩
                        have HR : Box (bndB P = decide ((s : Int) ≤ 40)) := hid (by rw [HE.out, hd]; simp [h6])
                        clear hd h6 hn9 hs9 HE
                        go_wp2_with fail
                        go_ret
                        exact ⟨by rw [HR.out]; first | rfl | simp, HK.out⟩
                      · have h6' : ¬ (n : Int) ≤ 600 := by omega
                        have HR : Box (bndB P = false) := hid (by rw [HE.out]; simp [h6])
                        clear h6 hn9 hs9 HE
                        go_wp2_with fail
                        go_ret
                        exact ⟨by rw [HR.out]; rfl, HK.out⟩
end Go.Proofs.YtmebkeidpklcbaaDoor
