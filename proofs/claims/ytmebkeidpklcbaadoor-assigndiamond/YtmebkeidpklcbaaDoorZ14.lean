/-
  The document's own instr: plain.
  The document's own instr, by Op.
  The document's own instr, by Op.
  The document's own instr, by Op.
  The document's own instr, by Op.
  The document's own instr: any instruction.
-/
import Derived.Test.YtmebkeidpklcbaaDoorRows
import Derived.WalkKit
import Derived.WalkSpells
import Derived.WalkLawsBesides
import Derived.OwnWalk
import Derived.Deep.QuietTactic
import Derived.BigQuiet
import Derived.Maps.AppendAt
import Derived.Lib.Builder
import Derived.Deep.OwnRows
import Derived.Deep.DeepCutAuto
import Derived.Deep.AppendLies
import Derived.LaidEql
import Derived.Stop.Asserts
import Derived.RowKitTokens
import Derived.Defers
import Derived.Recover
import Derived.Deep.RegionLaw
import Derived.Deep.RegionHeld
import Derived.Deep.RegionWith
import Derived.Deep.RegionHeld3
import Derived.Laws.AppendOwnNone
import Derived.Test.YtmebkeidpklcbaaDoorZ05
import Derived.Test.YtmebkeidpklcbaaDoorZ09
import Derived.Test.YtmebkeidpklcbaaDoorZ13

namespace Go.Proofs.YtmebkeidpklcbaaDoor
open Go.RowKit

theorem num_f1 {P : Pr8} {f : Fu8} {x : In8} (hop : x.op = 7 ∨ x.op = 8) (ht : (regT f x.a).1 = 1) (h2 : inB (regT f x.a).2 P.recs.length = true) : numB P f x = inB x.n (recOf P (regT f x.a).2).length := by
  unfold numB
  rw [if_neg (by omega), if_pos hop]
  unfold fieldO
  cases h3 : inB x.n (recOf P (regT f x.a).2).length with
  | true => rw [if_pos ⟨ht, h2, rfl⟩]; rfl
  | false => rw [if_neg (fun h => by cases h.2.2)]; simp [ht]
theorem num_f0 {P : Pr8} {f : Fu8} {x : In8} (hop : x.op = 7 ∨ x.op = 8) (ht : (regT f x.a).1 ≠ 1) : numB P f x = true := by
  unfold numB
  rw [if_neg (by omega), if_pos hop]
  simp [ht]
theorem num_m1 {P : Pr8} {f : Fu8} {x : In8} (hop : x.op = 14) (hi : P.ifs.all (fun l => insB l P.sigs.length) = true) (ht : (regT f x.a).1 = 3) (h2 : inB (regT f x.a).2 P.ifs.length = true) : numB P f x = inB x.n (ifOf P (regT f x.a).2).length := by
  unfold numB
  rw [if_neg (by omega), if_neg (by omega), if_pos hop]
  unfold methO
  cases h3 : inB x.n (ifOf P (regT f x.a).2).length with
  | false => rw [if_neg (fun h => by cases h.2.2)]; simp [ht]
  | true =>
    rw [if_pos ⟨ht, h2, rfl⟩]
    obtain ⟨a0, a1⟩ := inB_iff.1 h2
    obtain ⟨b0, b1⟩ := inB_iff.1 h3
    have e1 : insB (ifOf P (regT f x.a).2) P.sigs.length = true := all_at hi (getD_get (l := P.ifs) (k := (regT f x.a).2.toNat) (d := []) (by omega))
    have e2 : inB ((ifOf P (regT f x.a).2).getD x.n.toNat 0) P.sigs.length = true := all_at e1 (getD_get (d := 0) (by omega))
    rw [sigO_in e2]
    rfl
theorem num_m0 {P : Pr8} {f : Fu8} {x : In8} (hop : x.op = 14) (ht : (regT f x.a).1 ≠ 3) : numB P f x = true := by
  unfold numB
  rw [if_neg (by omega), if_neg (by omega), if_pos hop]
  simp [ht]
theorem reg_named {P : Pr8} {f : Fu8} {r : Int} (h : tysB P f.regs = true) (hr : inB r f.regs.length = true) : tyB P (regT f r) = true := by
  obtain ⟨a0, a1⟩ := inB_iff.1 hr
  rw [regT_in hr]
  exact all_at h (getD_get (d := (0, 0)) (by omega))
theorem ty_1 {P : Pr8} {t : Int × Int} (h : tyB P t = true) (ht : t.1 = 1) : inB t.2 P.recs.length = true := by unfold tyB at h; rw [if_neg (by omega), if_pos ht] at h; exact h
theorem ty_3 {P : Pr8} {t : Int × Int} (h : tyB P t = true) (ht : t.1 = 3) : inB t.2 P.ifs.length = true := by unfold tyB at h; rw [if_neg (by omega), if_neg (by omega), if_neg (by omega), if_pos ht] at h; exact h
theorem regs_all {R : Nat} {x : In8} (h1 : (!isDef x || inB x.dst R) = true) (h2 : ∀ (j : Nat) (y : Int), (usesL x)[j]? = some y → inB y R = true) : regsB R x = true := by
  unfold regsB insB
  rw [h1, all_good h2]
  rfl
theorem regs_bad {R : Nat} {x : In8} {k : Nat} {y : Int} (hy : (usesL x)[k]? = some y) (h : inB y R = false) : regsB R x = false := by
  unfold regsB insB
  rw [all_bad hy h, Bool.and_false]
set_option maxRecDepth 20000 in
set_option maxHeartbeats 8000000 in
theorem rins_1 {w : World} {pb po : Nat} {P : Pr8} (h : PrC w pb po P) {f : Fu8} {ra : Option Addr} {R : Nat} (hr : RowsAt w 2 TyC ra f.regs) (hR : R = f.regs.length) (rp : Nat) (bv : Value) (hty : tysB P f.regs = true) (hif : P.ifs.all (fun l => insB l P.sigs.length) = true) (x : In8) {a : Option Addr} {cp : Nat} (hz : IntsAt w a x.args) (hl : x.args.length ≤ 1000) (hop : x.op = 1) : Calls Tryd.prog 53 #[.pointer (some ⟨pb, po, none⟩), fnV f.sig ra R rp bv, insV x (.slice a x.args.length cp)] w fun e w' => e = .returned (.bool (insOk P f x)) ∧ Keeps [] w w' := by
  have HD := hid fun (w' : World) => rdef_any x (.slice a x.args.length cp) w'
  rw [defV_yes (by unfold isDef; rw [hop]; rfl)] at HD
  have HU := hid fun (w' : World) (k : Keeps [] w w') => vuse_any x a cp w' (hz.kept k (fun _ _ _ => by simp)) (by omega)
  have HIN := hid fun (r : Int) (n : Nat) (w' : World) => rfin_any r n w'
  have hul := usesL_len x
  have hul9 : ((usesL x).length : Int) ≤ 9223372036854775807 := by omega
  have HE0 : Box (insOk P f x = (restB x && (regsB R x && numB P f x))) := hid (by rw [hR]; rfl)
  have HOP := hid hop
  have HRR := hid hr
  have HRL := hid hR
  have HTY := hid hty
  have HIF := hid hif
  have HPR := hid h
  have h15 := hid hl
  unfold insV at HD HU
  unfold insV fnV
  rw [hop] at HD HU
  rw [hop]
  obtain ⟨W, hW⟩ : ∃ W, W = (w.alloc (.cells #[.int .i64 f.sig, .slice ra R rp, bv] 39)).alloc (.cells #[.int .i64 1, .int .i64 x.dst, .int .i64 x.a, .int .i64 x.b, .int .i64 x.n, .slice a x.args.length cp] 65) := ⟨_, rfl⟩
  have k2 : Keeps [] w W := by rw [hW]; exact (Keeps.alloc [] w _).quiet (Keeps.alloc [] _ _)
  have hn1 : W.heap[w.heap.size]? = some (.cells #[.int .i64 f.sig, .slice ra R rp, bv] 39 (0, 0)) := by rw [hW]; exact keep_heap (heap_new w _) (Keeps.alloc [] _ _)
  have hn2 : W.heap[w.heap.size + 1]? = some (.cells #[.int .i64 1, .int .i64 x.dst, .int .i64 x.a, .int .i64 x.b, .int .i64 x.n, .slice a x.args.length cp] 65 (0, 0)) := by
    have := heap_new (w.alloc (.cells #[.int .i64 f.sig, .slice ra R rp, bv] 39)) (.cells #[.int .i64 1, .int .i64 x.dst, .int .i64 x.a, .int .i64 x.b, .int .i64 x.n, .slice a x.args.length cp] 65)
    rw [World.size_alloc] at this
    rw [hW]
    exact this
  have B : Box (∀ w', Keeps [] W w' → w'.cell? ⟨w.heap.size, 1, none⟩ = some (.slice ra R rp) ∧ w'.cell? ⟨w.heap.size + 1, 0, none⟩ = some (.int .i64 1) ∧ w'.cell? ⟨w.heap.size + 1, 1, none⟩ = some (.int .i64 x.dst) ∧ w'.cell? ⟨w.heap.size + 1, 2, none⟩ = some (.int .i64 x.a) ∧ w'.cell? ⟨w.heap.size + 1, 3, none⟩ = some (.int .i64 x.b) ∧ w'.cell? ⟨w.heap.size + 1, 4, none⟩ = some (.int .i64 x.n) ∧ w'.cell? ⟨w.heap.size + 1, 5, none⟩ = some (.slice a x.args.length cp)) := hid fun w' k => ⟨hcell (keep_heap hn1 k) 1, hcell (keep_heap hn2 k) 0, hcell (keep_heap hn2 k) 1, hcell (keep_heap hn2 k) 2, hcell (keep_heap hn2 k) 3, hcell (keep_heap hn2 k) 4, hcell (keep_heap hn2 k) 5⟩
  have HWE := hid hW
  have HK2 := hid k2
  clear h hr hR hty hif hz hl hop hul hW k2 hn1 hn2
  generalize hres : insOk P f x = res at *
  clear hres
  generalize hul : usesL x = ul at *
  have HUL := hid hul
  clear hul
  go_enter Tryd.func53, Tryd.ntmps53
  go_upto_region 1 with fail
  rw [← HWE.out]
  clear HWE
  generalize w.heap.size = q at *
  obtain ⟨b1, c0, c1, c2, c3, c4, c5⟩ := B.out _ (Keeps.refl _ _)
  go_wp2_with fail
  refine (HD.out _).mono ?_
  rintro e w1 ⟨rfl, k1⟩
  have KW1 := hid k1
  clear b1 c0 c1 c2 c3 c4 c5 k1
  obtain ⟨b1, c0, c1, c2, c3, c4, c5⟩ := B.out _ KW1.out
  go_wp2_with fail
  refine (HU.out _ (HK2.out.quiet KW1.out)).mono ?_
  rintro e w2 ⟨ua, uc, rfl, hu, k2⟩
  have KW2 := hid (KW1.out.quiet k2)
  have HUA := hid hu
  clear b1 c0 c1 c2 c3 c4 c5 k2 hu KW1 HD HU
  obtain ⟨b1, c0, c1, c2, c3, c4, c5⟩ := B.out _ KW2.out
  have KZ : Box (Keeps [] w w2) := hid (HK2.out.quiet KW2.out)
  obtain ⟨U, hU⟩ : ∃ U, U = ul.length := ⟨_, rfl⟩
  rw [← hU] at hul9
  rw [← hU]
  have HUN := hid hU
  clear hU
  have HID : Box (isDef x = true) := hid (by unfold isDef; rw [HOP.out]; rfl)
  go_wp2_with fail
  refine (HIN.out _ _ _).mono ?_
  rintro e w3 ⟨rfl, hw3⟩
  rw [hw3]
  clear hw3
  cases hin : inB x.dst R with
  | false =>
    have HF : Box (res = false) := hid (by
      have : regsB R x = false := by unfold regsB; rw [HID.out, hin]; rfl
      rw [HE0.out, this, Bool.false_and, Bool.and_false])
    clear hin
    go_wp2_with fail
    go_ret
    exact ⟨by rw [HF.out]; rfl, KZ.out⟩
  | true =>
  have HDI : Box ((!isDef x || inB x.dst R) = true) := hid (by rw [HID.out, hin]; rfl)
  have HDB : Box ((cntD x.op || decide (x.dst = 0)) = true) := hid (by rw [HOP.out]; rfl)
  have HDN := hid hin
  clear hin
  go_upto_region 8 with fail
  go_wp2_with fail
  go_loop [11] (fun kv => ∃ k : Nat, k ≤ U ∧ kv = .int .i64 (k : Int) ∧ Box (∀ (j : Nat) (y : Int), j < k → ul[j]? = some y → inB y R = true)) (fun kv => U - (intOf kv).toNat)
  case atStart => exact ⟨0, by omega, rfl, hid fun j y hj => by omega⟩
  case round =>
  obtain ⟨k, hk, rfl, HB⟩ := hrel
  by_cases hlt : k < U
  case pos =>
    have hlt' : (k : Int) < (U : Int) := by omega
    have hkl : k < ul.length := by rw [← HUN.out]; exact hlt
    obtain ⟨y, hy⟩ : ∃ y, ul[k]? = some y := ⟨_, List.getElem?_eq_getElem hkl⟩
    obtain ⟨ub, uo, rfl, hc⟩ : ∃ b off, ua = some ⟨b, off, none⟩ ∧ w2.cell? ⟨b, off + k, none⟩ = some (.int .i64 y) := by
      rcases HUA.out with e | ⟨b, off, e, h⟩
      · rw [e] at hy; simp at hy
      · refine ⟨b, off, e, ?_⟩
        rw [h k hkl, List.getD_eq_getElem?_getD, hy]
        rfl
    have HY := hid hy
    clear hy hkl
    go_wp2_with fail
    refine (HIN.out _ _ _).mono ?_
    rintro e w3 ⟨rfl, hw3⟩
    rw [hw3]
    clear hw3
    cases hgy : inB y R with
    | true =>
      have HG := hid hgy
      clear hgy
      go_wp2_with fail
      go_round
      case rel => exact ⟨k + 1, by omega, by go_num, hid fun j z hj hz => by
        by_cases e : j < k
        · exact HB.out j z e hz
        · obtain rfl : j = k := by omega
          rw [HY.out] at hz
          cases hz
          exact HG.out⟩
      case measure => simp [intOf]; omega
    | false =>
      have HF : Box (res = false) := hid (by
        rw [HE0.out, regs_bad (by rw [HUL.out]; exact HY.out) hgy, Bool.false_and, Bool.and_false])
      clear hgy
      go_wp2_with fail
      go_ret
      exact ⟨by rw [HF.out]; rfl, KZ.out⟩
  obtain rfl : U = k := by omega
  have HREG : Box (regsB R x = true) := hid (regs_all HDI.out (fun j y hy => HB.out j y (by rw [HUN.out, ← HUL.out]; exact (List.getElem?_eq_some_iff.1 hy).1) (by rw [← HUL.out]; exact hy)))
  have HE1 : Box (res = (restB x && numB P f x)) := hid (by rw [HE0.out, HREG.out, Bool.true_and])
  have HUI : Box (∀ (j : Nat) (y : Int), (usesL x)[j]? = some y → inB y R = true) := hid (fun j y hy => HB.out j y (by rw [HUN.out, ← HUL.out]; exact (List.getElem?_eq_some_iff.1 hy).1) (by rw [← HUL.out]; exact hy))
  clear HE0 HB hlt
  by_cases ha : x.a = 0
  case neg =>
    have oa := nneb ha
    have HF : Box (res = false) := hid (by
      have : restB x = false := by unfold restB; rw [HOP.out]; simp [cntD, cntA, cntB, cntN, cntR, ha]
      rw [HE1.out, this]
      rfl)
    clear ha
    go_wp2_with fail
    go_ret
    exact ⟨by rw [HF.out]; rfl, KZ.out⟩
  have oa := neqb ha
  have HA0 := hid ha
  clear ha
  by_cases hb : x.b = 0
  case neg =>
    have ob := nneb hb
    have HF : Box (res = false) := hid (by
      have : restB x = false := by unfold restB; rw [HOP.out]; simp [cntD, cntA, cntB, cntN, cntR, hb]
      rw [HE1.out, this]
      rfl)
    clear hb
    go_wp2_with fail
    go_ret
    exact ⟨by rw [HF.out]; rfl, KZ.out⟩
  have ob := neqb hb
  have HB0 := hid hb
  clear hb
  obtain ⟨L, hL⟩ : ∃ L, L = x.args.length := ⟨_, rfl⟩
  rw [← hL] at c5 ⊢
  have HLN := hid hL
  clear hL
  by_cases hg : L = 0
  case neg =>
    have og : decide ((0 : Int) < (L : Int)) = true := decide_eq_true (by omega)
    have og2 : (0 : Int) < (L : Int) := by omega
    have og3 : 0 < L := by omega
    have hgx : ¬ x.args = [] := fun e => hg (by rw [HLN.out, e]; rfl)
    have HF : Box (res = false) := hid (by
      have : restB x = false := by unfold restB; rw [HOP.out]; simp [cntD, cntA, cntB, cntN, cntR, hgx]
      rw [HE1.out, this]
      rfl)
    clear hg hgx
    go_wp2_with fail
    go_ret
    exact ⟨by rw [HF.out]; rfl, KZ.out⟩
  have og : ¬ (0 : Int) < (L : Int) := by omega
  have og3 : ¬ 0 < L := by omega
  have HG0 : Box (x.args.length = 0) := hid (by rw [← HLN.out]; exact hg)
  clear hg
  have HF : Box (res = true) := hid (by
    have hrest : restB x = true := by unfold restB; rw [HOP.out]; simp [cntD, cntA, cntB, cntN, cntR, HA0.out, HB0.out, HG0.out]
    rw [HE1.out, hrest, show numB P f x = true by unfold numB; rw [HOP.out]; rfl]; rfl)
  go_wp2_with fail
  go_ret
  exact ⟨by rw [HF.out]; rfl, KZ.out⟩
set_option maxRecDepth 20000 in
set_option maxHeartbeats 8000000 in
theorem rins_2 {w : World} {pb po : Nat} {P : Pr8} (h : PrC w pb po P) {f : Fu8} {ra : Option Addr} {R : Nat} (hr : RowsAt w 2 TyC ra f.regs) (hR : R = f.regs.length) (rp : Nat) (bv : Value) (hty : tysB P f.regs = true) (hif : P.ifs.all (fun l => insB l P.sigs.length) = true) (x : In8) {a : Option Addr} {cp : Nat} (hz : IntsAt w a x.args) (hl : x.args.length ≤ 1000) (hop : x.op = 2) : Calls Tryd.prog 53 #[.pointer (some ⟨pb, po, none⟩), fnV f.sig ra R rp bv, insV x (.slice a x.args.length cp)] w fun e w' => e = .returned (.bool (insOk P f x)) ∧ Keeps [] w w' := by
  have HD := hid fun (w' : World) => rdef_any x (.slice a x.args.length cp) w'
  rw [defV_yes (by unfold isDef; rw [hop]; rfl)] at HD
  have HU := hid fun (w' : World) (k : Keeps [] w w') => vuse_any x a cp w' (hz.kept k (fun _ _ _ => by simp)) (by omega)
  have HIN := hid fun (r : Int) (n : Nat) (w' : World) => rfin_any r n w'
  have hul := usesL_len x
  have hul9 : ((usesL x).length : Int) ≤ 9223372036854775807 := by omega
  have HE0 : Box (insOk P f x = (restB x && (regsB R x && numB P f x))) := hid (by rw [hR]; rfl)
  have HOP := hid hop
  have HRR := hid hr
  have HRL := hid hR
  have HTY := hid hty
  have HIF := hid hif
  have HPR := hid h
  have h15 := hid hl
  unfold insV at HD HU
  unfold insV fnV
  rw [hop] at HD HU
  rw [hop]
  obtain ⟨W, hW⟩ : ∃ W, W = (w.alloc (.cells #[.int .i64 f.sig, .slice ra R rp, bv] 39)).alloc (.cells #[.int .i64 2, .int .i64 x.dst, .int .i64 x.a, .int .i64 x.b, .int .i64 x.n, .slice a x.args.length cp] 65) := ⟨_, rfl⟩
  have k2 : Keeps [] w W := by rw [hW]; exact (Keeps.alloc [] w _).quiet (Keeps.alloc [] _ _)
  have hn1 : W.heap[w.heap.size]? = some (.cells #[.int .i64 f.sig, .slice ra R rp, bv] 39 (0, 0)) := by rw [hW]; exact keep_heap (heap_new w _) (Keeps.alloc [] _ _)
  have hn2 : W.heap[w.heap.size + 1]? = some (.cells #[.int .i64 2, .int .i64 x.dst, .int .i64 x.a, .int .i64 x.b, .int .i64 x.n, .slice a x.args.length cp] 65 (0, 0)) := by
    have := heap_new (w.alloc (.cells #[.int .i64 f.sig, .slice ra R rp, bv] 39)) (.cells #[.int .i64 2, .int .i64 x.dst, .int .i64 x.a, .int .i64 x.b, .int .i64 x.n, .slice a x.args.length cp] 65)
    rw [World.size_alloc] at this
    rw [hW]
    exact this
  have B : Box (∀ w', Keeps [] W w' → w'.cell? ⟨w.heap.size, 1, none⟩ = some (.slice ra R rp) ∧ w'.cell? ⟨w.heap.size + 1, 0, none⟩ = some (.int .i64 2) ∧ w'.cell? ⟨w.heap.size + 1, 1, none⟩ = some (.int .i64 x.dst) ∧ w'.cell? ⟨w.heap.size + 1, 2, none⟩ = some (.int .i64 x.a) ∧ w'.cell? ⟨w.heap.size + 1, 3, none⟩ = some (.int .i64 x.b) ∧ w'.cell? ⟨w.heap.size + 1, 4, none⟩ = some (.int .i64 x.n) ∧ w'.cell? ⟨w.heap.size + 1, 5, none⟩ = some (.slice a x.args.length cp)) := hid fun w' k => ⟨hcell (keep_heap hn1 k) 1, hcell (keep_heap hn2 k) 0, hcell (keep_heap hn2 k) 1, hcell (keep_heap hn2 k) 2, hcell (keep_heap hn2 k) 3, hcell (keep_heap hn2 k) 4, hcell (keep_heap hn2 k) 5⟩
  have HWE := hid hW
  have HK2 := hid k2
  clear h hr hR hty hif hz hl hop hul hW k2 hn1 hn2
  generalize hres : insOk P f x = res at *
  clear hres
  generalize hul : usesL x = ul at *
  have HUL := hid hul
  clear hul
  go_enter Tryd.func53, Tryd.ntmps53
  go_upto_region 1 with fail
  rw [← HWE.out]
  clear HWE
  generalize w.heap.size = q at *
  obtain ⟨b1, c0, c1, c2, c3, c4, c5⟩ := B.out _ (Keeps.refl _ _)
  go_wp2_with fail
  refine (HD.out _).mono ?_
  rintro e w1 ⟨rfl, k1⟩
  have KW1 := hid k1
  clear b1 c0 c1 c2 c3 c4 c5 k1
  obtain ⟨b1, c0, c1, c2, c3, c4, c5⟩ := B.out _ KW1.out
  go_wp2_with fail
  refine (HU.out _ (HK2.out.quiet KW1.out)).mono ?_
  rintro e w2 ⟨ua, uc, rfl, hu, k2⟩
  have KW2 := hid (KW1.out.quiet k2)
  have HUA := hid hu
  clear b1 c0 c1 c2 c3 c4 c5 k2 hu KW1 HD HU
  obtain ⟨b1, c0, c1, c2, c3, c4, c5⟩ := B.out _ KW2.out
  have KZ : Box (Keeps [] w w2) := hid (HK2.out.quiet KW2.out)
  obtain ⟨U, hU⟩ : ∃ U, U = ul.length := ⟨_, rfl⟩
  rw [← hU] at hul9
  rw [← hU]
  have HUN := hid hU
  clear hU
  have HID : Box (isDef x = true) := hid (by unfold isDef; rw [HOP.out]; rfl)
  go_wp2_with fail
  refine (HIN.out _ _ _).mono ?_
  rintro e w3 ⟨rfl, hw3⟩
  rw [hw3]
  clear hw3
  cases hin : inB x.dst R with
  | false =>
    have HF : Box (res = false) := hid (by
      have : regsB R x = false := by unfold regsB; rw [HID.out, hin]; rfl
      rw [HE0.out, this, Bool.false_and, Bool.and_false])
    clear hin
    go_wp2_with fail
    go_ret
    exact ⟨by rw [HF.out]; rfl, KZ.out⟩
  | true =>
  have HDI : Box ((!isDef x || inB x.dst R) = true) := hid (by rw [HID.out, hin]; rfl)
  have HDB : Box ((cntD x.op || decide (x.dst = 0)) = true) := hid (by rw [HOP.out]; rfl)
  have HDN := hid hin
  clear hin
  go_upto_region 8 with fail
  go_wp2_with fail
  go_loop [11] (fun kv => ∃ k : Nat, k ≤ U ∧ kv = .int .i64 (k : Int) ∧ Box (∀ (j : Nat) (y : Int), j < k → ul[j]? = some y → inB y R = true)) (fun kv => U - (intOf kv).toNat)
  case atStart => exact ⟨0, by omega, rfl, hid fun j y hj => by omega⟩
  case round =>
  obtain ⟨k, hk, rfl, HB⟩ := hrel
  by_cases hlt : k < U
  case pos =>
    have hlt' : (k : Int) < (U : Int) := by omega
    have hkl : k < ul.length := by rw [← HUN.out]; exact hlt
    obtain ⟨y, hy⟩ : ∃ y, ul[k]? = some y := ⟨_, List.getElem?_eq_getElem hkl⟩
    obtain ⟨ub, uo, rfl, hc⟩ : ∃ b off, ua = some ⟨b, off, none⟩ ∧ w2.cell? ⟨b, off + k, none⟩ = some (.int .i64 y) := by
      rcases HUA.out with e | ⟨b, off, e, h⟩
      · rw [e] at hy; simp at hy
      · refine ⟨b, off, e, ?_⟩
        rw [h k hkl, List.getD_eq_getElem?_getD, hy]
        rfl
    have HY := hid hy
    clear hy hkl
    go_wp2_with fail
    refine (HIN.out _ _ _).mono ?_
    rintro e w3 ⟨rfl, hw3⟩
    rw [hw3]
    clear hw3
    cases hgy : inB y R with
    | true =>
      have HG := hid hgy
      clear hgy
      go_wp2_with fail
      go_round
      case rel => exact ⟨k + 1, by omega, by go_num, hid fun j z hj hz => by
        by_cases e : j < k
        · exact HB.out j z e hz
        · obtain rfl : j = k := by omega
          rw [HY.out] at hz
          cases hz
          exact HG.out⟩
      case measure => simp [intOf]; omega
    | false =>
      have HF : Box (res = false) := hid (by
        rw [HE0.out, regs_bad (by rw [HUL.out]; exact HY.out) hgy, Bool.false_and, Bool.and_false])
      clear hgy
      go_wp2_with fail
      go_ret
      exact ⟨by rw [HF.out]; rfl, KZ.out⟩
  obtain rfl : U = k := by omega
  have HREG : Box (regsB R x = true) := hid (regs_all HDI.out (fun j y hy => HB.out j y (by rw [HUN.out, ← HUL.out]; exact (List.getElem?_eq_some_iff.1 hy).1) (by rw [← HUL.out]; exact hy)))
  have HE1 : Box (res = (restB x && numB P f x)) := hid (by rw [HE0.out, HREG.out, Bool.true_and])
  have HUI : Box (∀ (j : Nat) (y : Int), (usesL x)[j]? = some y → inB y R = true) := hid (fun j y hy => HB.out j y (by rw [HUN.out, ← HUL.out]; exact (List.getElem?_eq_some_iff.1 hy).1) (by rw [← HUL.out]; exact hy))
  clear HE0 HB hlt
  obtain ⟨L, hL⟩ : ∃ L, L = x.args.length := ⟨_, rfl⟩
  rw [← hL] at c5 ⊢
  have HLN := hid hL
  clear hL
  by_cases hg : L = 0
  case neg =>
    have og : decide ((0 : Int) < (L : Int)) = true := decide_eq_true (by omega)
    have og2 : (0 : Int) < (L : Int) := by omega
    have og3 : 0 < L := by omega
    have hgx : ¬ x.args = [] := fun e => hg (by rw [HLN.out, e]; rfl)
    have HF : Box (res = false) := hid (by
      have : restB x = false := by unfold restB; rw [HOP.out]; simp [cntD, cntA, cntB, cntN, cntR, hgx]
      rw [HE1.out, this]
      rfl)
    clear hg hgx
    go_wp2_with fail
    go_ret
    exact ⟨by rw [HF.out]; rfl, KZ.out⟩
  have og : ¬ (0 : Int) < (L : Int) := by omega
  have og3 : ¬ 0 < L := by omega
  have HG0 : Box (x.args.length = 0) := hid (by rw [← HLN.out]; exact hg)
  clear hg
  have HF : Box (res = (x.n == 0)) := hid (by
    have hrest : restB x = (x.n == 0) := by
      have e9 : (x.n == 0) = decide (x.n = 0) := by by_cases e : x.n = 0 <;> simp [e]
      unfold restB
      rw [HOP.out, e9]
      simp [cntD, cntA, cntB, cntN, cntR, HG0.out]
    rw [HE1.out, hrest, show numB P f x = true by unfold numB; rw [HOP.out]; rfl, Bool.and_true])
  go_wp2_with fail
  go_ret
  exact ⟨by rw [HF.out]; rfl, KZ.out⟩
set_option maxRecDepth 20000 in
set_option maxHeartbeats 8000000 in
theorem rins_3 {w : World} {pb po : Nat} {P : Pr8} (h : PrC w pb po P) {f : Fu8} {ra : Option Addr} {R : Nat} (hr : RowsAt w 2 TyC ra f.regs) (hR : R = f.regs.length) (rp : Nat) (bv : Value) (hty : tysB P f.regs = true) (hif : P.ifs.all (fun l => insB l P.sigs.length) = true) (x : In8) {a : Option Addr} {cp : Nat} (hz : IntsAt w a x.args) (hl : x.args.length ≤ 1000) (hop : x.op = 3) : Calls Tryd.prog 53 #[.pointer (some ⟨pb, po, none⟩), fnV f.sig ra R rp bv, insV x (.slice a x.args.length cp)] w fun e w' => e = .returned (.bool (insOk P f x)) ∧ Keeps [] w w' := by
  have HD := hid fun (w' : World) => rdef_any x (.slice a x.args.length cp) w'
  rw [defV_yes (by unfold isDef; rw [hop]; rfl)] at HD
  have HU := hid fun (w' : World) (k : Keeps [] w w') => vuse_any x a cp w' (hz.kept k (fun _ _ _ => by simp)) (by omega)
  have HIN := hid fun (r : Int) (n : Nat) (w' : World) => rfin_any r n w'
  have hul := usesL_len x
  have hul9 : ((usesL x).length : Int) ≤ 9223372036854775807 := by omega
  have HE0 : Box (insOk P f x = (restB x && (regsB R x && numB P f x))) := hid (by rw [hR]; rfl)
  have HOP := hid hop
  have HRR := hid hr
  have HRL := hid hR
  have HTY := hid hty
  have HIF := hid hif
  have HPR := hid h
  have h15 := hid hl
  unfold insV at HD HU
  unfold insV fnV
  rw [hop] at HD HU
  rw [hop]
  obtain ⟨W, hW⟩ : ∃ W, W = (w.alloc (.cells #[.int .i64 f.sig, .slice ra R rp, bv] 39)).alloc (.cells #[.int .i64 3, .int .i64 x.dst, .int .i64 x.a, .int .i64 x.b, .int .i64 x.n, .slice a x.args.length cp] 65) := ⟨_, rfl⟩
  have k2 : Keeps [] w W := by rw [hW]; exact (Keeps.alloc [] w _).quiet (Keeps.alloc [] _ _)
  have hn1 : W.heap[w.heap.size]? = some (.cells #[.int .i64 f.sig, .slice ra R rp, bv] 39 (0, 0)) := by rw [hW]; exact keep_heap (heap_new w _) (Keeps.alloc [] _ _)
  have hn2 : W.heap[w.heap.size + 1]? = some (.cells #[.int .i64 3, .int .i64 x.dst, .int .i64 x.a, .int .i64 x.b, .int .i64 x.n, .slice a x.args.length cp] 65 (0, 0)) := by
    have := heap_new (w.alloc (.cells #[.int .i64 f.sig, .slice ra R rp, bv] 39)) (.cells #[.int .i64 3, .int .i64 x.dst, .int .i64 x.a, .int .i64 x.b, .int .i64 x.n, .slice a x.args.length cp] 65)
    rw [World.size_alloc] at this
    rw [hW]
    exact this
  have B : Box (∀ w', Keeps [] W w' → w'.cell? ⟨w.heap.size, 1, none⟩ = some (.slice ra R rp) ∧ w'.cell? ⟨w.heap.size + 1, 0, none⟩ = some (.int .i64 3) ∧ w'.cell? ⟨w.heap.size + 1, 1, none⟩ = some (.int .i64 x.dst) ∧ w'.cell? ⟨w.heap.size + 1, 2, none⟩ = some (.int .i64 x.a) ∧ w'.cell? ⟨w.heap.size + 1, 3, none⟩ = some (.int .i64 x.b) ∧ w'.cell? ⟨w.heap.size + 1, 4, none⟩ = some (.int .i64 x.n) ∧ w'.cell? ⟨w.heap.size + 1, 5, none⟩ = some (.slice a x.args.length cp)) := hid fun w' k => ⟨hcell (keep_heap hn1 k) 1, hcell (keep_heap hn2 k) 0, hcell (keep_heap hn2 k) 1, hcell (keep_heap hn2 k) 2, hcell (keep_heap hn2 k) 3, hcell (keep_heap hn2 k) 4, hcell (keep_heap hn2 k) 5⟩
  have HWE := hid hW
  have HK2 := hid k2
  clear h hr hR hty hif hz hl hop hul hW k2 hn1 hn2
  generalize hres : insOk P f x = res at *
  clear hres
  generalize hul : usesL x = ul at *
  have HUL := hid hul
  clear hul
  go_enter Tryd.func53, Tryd.ntmps53
  go_upto_region 1 with fail
  rw [← HWE.out]
  clear HWE
  generalize w.heap.size = q at *
  obtain ⟨b1, c0, c1, c2, c3, c4, c5⟩ := B.out _ (Keeps.refl _ _)
  go_wp2_with fail
  refine (HD.out _).mono ?_
  rintro e w1 ⟨rfl, k1⟩
  have KW1 := hid k1
  clear b1 c0 c1 c2 c3 c4 c5 k1
  obtain ⟨b1, c0, c1, c2, c3, c4, c5⟩ := B.out _ KW1.out
  go_wp2_with fail
  refine (HU.out _ (HK2.out.quiet KW1.out)).mono ?_
  rintro e w2 ⟨ua, uc, rfl, hu, k2⟩
  have KW2 := hid (KW1.out.quiet k2)
  have HUA := hid hu
  clear b1 c0 c1 c2 c3 c4 c5 k2 hu KW1 HD HU
  obtain ⟨b1, c0, c1, c2, c3, c4, c5⟩ := B.out _ KW2.out
  have KZ : Box (Keeps [] w w2) := hid (HK2.out.quiet KW2.out)
  obtain ⟨U, hU⟩ : ∃ U, U = ul.length := ⟨_, rfl⟩
  rw [← hU] at hul9
  rw [← hU]
  have HUN := hid hU
  clear hU
  have HID : Box (isDef x = true) := hid (by unfold isDef; rw [HOP.out]; rfl)
  go_wp2_with fail
  refine (HIN.out _ _ _).mono ?_
  rintro e w3 ⟨rfl, hw3⟩
  rw [hw3]
  clear hw3
  cases hin : inB x.dst R with
  | false =>
    have HF : Box (res = false) := hid (by
      have : regsB R x = false := by unfold regsB; rw [HID.out, hin]; rfl
      rw [HE0.out, this, Bool.false_and, Bool.and_false])
    clear hin
    go_wp2_with fail
    go_ret
    exact ⟨by rw [HF.out]; rfl, KZ.out⟩
  | true =>
  have HDI : Box ((!isDef x || inB x.dst R) = true) := hid (by rw [HID.out, hin]; rfl)
  have HDB : Box ((cntD x.op || decide (x.dst = 0)) = true) := hid (by rw [HOP.out]; rfl)
  have HDN := hid hin
  clear hin
  go_upto_region 8 with fail
  go_wp2_with fail
  go_loop [11] (fun kv => ∃ k : Nat, k ≤ U ∧ kv = .int .i64 (k : Int) ∧ Box (∀ (j : Nat) (y : Int), j < k → ul[j]? = some y → inB y R = true)) (fun kv => U - (intOf kv).toNat)
  case atStart => exact ⟨0, by omega, rfl, hid fun j y hj => by omega⟩
  case round =>
  obtain ⟨k, hk, rfl, HB⟩ := hrel
  by_cases hlt : k < U
  case pos =>
    have hlt' : (k : Int) < (U : Int) := by omega
    have hkl : k < ul.length := by rw [← HUN.out]; exact hlt
    obtain ⟨y, hy⟩ : ∃ y, ul[k]? = some y := ⟨_, List.getElem?_eq_getElem hkl⟩
    obtain ⟨ub, uo, rfl, hc⟩ : ∃ b off, ua = some ⟨b, off, none⟩ ∧ w2.cell? ⟨b, off + k, none⟩ = some (.int .i64 y) := by
      rcases HUA.out with e | ⟨b, off, e, h⟩
      · rw [e] at hy; simp at hy
      · refine ⟨b, off, e, ?_⟩
        rw [h k hkl, List.getD_eq_getElem?_getD, hy]
        rfl
    have HY := hid hy
    clear hy hkl
    go_wp2_with fail
    refine (HIN.out _ _ _).mono ?_
    rintro e w3 ⟨rfl, hw3⟩
    rw [hw3]
    clear hw3
    cases hgy : inB y R with
    | true =>
      have HG := hid hgy
      clear hgy
      go_wp2_with fail
      go_round
      case rel => exact ⟨k + 1, by omega, by go_num, hid fun j z hj hz => by
        by_cases e : j < k
        · exact HB.out j z e hz
        · obtain rfl : j = k := by omega
          rw [HY.out] at hz
          cases hz
          exact HG.out⟩
      case measure => simp [intOf]; omega
    | false =>
      have HF : Box (res = false) := hid (by
        rw [HE0.out, regs_bad (by rw [HUL.out]; exact HY.out) hgy, Bool.false_and, Bool.and_false])
      clear hgy
      go_wp2_with fail
      go_ret
      exact ⟨by rw [HF.out]; rfl, KZ.out⟩
  obtain rfl : U = k := by omega
  have HREG : Box (regsB R x = true) := hid (regs_all HDI.out (fun j y hy => HB.out j y (by rw [HUN.out, ← HUL.out]; exact (List.getElem?_eq_some_iff.1 hy).1) (by rw [← HUL.out]; exact hy)))
  have HE1 : Box (res = (restB x && numB P f x)) := hid (by rw [HE0.out, HREG.out, Bool.true_and])
  have HUI : Box (∀ (j : Nat) (y : Int), (usesL x)[j]? = some y → inB y R = true) := hid (fun j y hy => HB.out j y (by rw [HUN.out, ← HUL.out]; exact (List.getElem?_eq_some_iff.1 hy).1) (by rw [← HUL.out]; exact hy))
  clear HE0 HB hlt
  by_cases ha : x.a = 0
  case neg =>
    have oa := nneb ha
    have HF : Box (res = false) := hid (by
      have : restB x = false := by unfold restB; rw [HOP.out]; simp [cntD, cntA, cntB, cntN, cntR, ha]
      rw [HE1.out, this]
      rfl)
    clear ha
    go_wp2_with fail
    go_ret
    exact ⟨by rw [HF.out]; rfl, KZ.out⟩
  have oa := neqb ha
  have HA0 := hid ha
  clear ha
  by_cases hb : x.b = 0
  case neg =>
    have ob := nneb hb
    have HF : Box (res = false) := hid (by
      have : restB x = false := by unfold restB; rw [HOP.out]; simp [cntD, cntA, cntB, cntN, cntR, hb]
      rw [HE1.out, this]
      rfl)
    clear hb
    go_wp2_with fail
    go_ret
    exact ⟨by rw [HF.out]; rfl, KZ.out⟩
  have ob := neqb hb
  have HB0 := hid hb
  clear hb
  obtain ⟨L, hL⟩ : ∃ L, L = x.args.length := ⟨_, rfl⟩
  rw [← hL] at c5 ⊢
  have HLN := hid hL
  clear hL
  by_cases hg : L = 0
  case neg =>
    have og : decide ((0 : Int) < (L : Int)) = true := decide_eq_true (by omega)
    have og2 : (0 : Int) < (L : Int) := by omega
    have og3 : 0 < L := by omega
    have hgx : ¬ x.args = [] := fun e => hg (by rw [HLN.out, e]; rfl)
    have HF : Box (res = false) := hid (by
      have : restB x = false := by unfold restB; rw [HOP.out]; simp [cntD, cntA, cntB, cntN, cntR, hgx]
      rw [HE1.out, this]
      rfl)
    clear hg hgx
    go_wp2_with fail
    go_ret
    exact ⟨by rw [HF.out]; rfl, KZ.out⟩
  have og : ¬ (0 : Int) < (L : Int) := by omega
  have og3 : ¬ 0 < L := by omega
  have HG0 : Box (x.args.length = 0) := hid (by rw [← HLN.out]; exact hg)
  clear hg
  have HF : Box (res = (x.n == 0)) := hid (by
    have hrest : restB x = (x.n == 0) := by
      have e9 : (x.n == 0) = decide (x.n = 0) := by by_cases e : x.n = 0 <;> simp [e]
      unfold restB
      rw [HOP.out, e9]
      simp [cntD, cntA, cntB, cntN, cntR, HA0.out, HB0.out, HG0.out]
    rw [HE1.out, hrest, show numB P f x = true by unfold numB; rw [HOP.out]; rfl, Bool.and_true])
  go_wp2_with fail
  go_ret
  exact ⟨by rw [HF.out]; rfl, KZ.out⟩
set_option maxRecDepth 20000 in
set_option maxHeartbeats 8000000 in
theorem rins_4 {w : World} {pb po : Nat} {P : Pr8} (h : PrC w pb po P) {f : Fu8} {ra : Option Addr} {R : Nat} (hr : RowsAt w 2 TyC ra f.regs) (hR : R = f.regs.length) (rp : Nat) (bv : Value) (hty : tysB P f.regs = true) (hif : P.ifs.all (fun l => insB l P.sigs.length) = true) (x : In8) {a : Option Addr} {cp : Nat} (hz : IntsAt w a x.args) (hl : x.args.length ≤ 1000) (hop : x.op = 4) : Calls Tryd.prog 53 #[.pointer (some ⟨pb, po, none⟩), fnV f.sig ra R rp bv, insV x (.slice a x.args.length cp)] w fun e w' => e = .returned (.bool (insOk P f x)) ∧ Keeps [] w w' := by
  have HD := hid fun (w' : World) => rdef_any x (.slice a x.args.length cp) w'
  rw [defV_yes (by unfold isDef; rw [hop]; rfl)] at HD
  have HU := hid fun (w' : World) (k : Keeps [] w w') => vuse_any x a cp w' (hz.kept k (fun _ _ _ => by simp)) (by omega)
  have HIN := hid fun (r : Int) (n : Nat) (w' : World) => rfin_any r n w'
  have hul := usesL_len x
  have hul9 : ((usesL x).length : Int) ≤ 9223372036854775807 := by omega
  have HE0 : Box (insOk P f x = (restB x && (regsB R x && numB P f x))) := hid (by rw [hR]; rfl)
  have HOP := hid hop
  have HRR := hid hr
  have HRL := hid hR
  have HTY := hid hty
  have HIF := hid hif
  have HPR := hid h
  have h15 := hid hl
  unfold insV at HD HU
  unfold insV fnV
  rw [hop] at HD HU
  rw [hop]
  obtain ⟨W, hW⟩ : ∃ W, W = (w.alloc (.cells #[.int .i64 f.sig, .slice ra R rp, bv] 39)).alloc (.cells #[.int .i64 4, .int .i64 x.dst, .int .i64 x.a, .int .i64 x.b, .int .i64 x.n, .slice a x.args.length cp] 65) := ⟨_, rfl⟩
  have k2 : Keeps [] w W := by rw [hW]; exact (Keeps.alloc [] w _).quiet (Keeps.alloc [] _ _)
  have hn1 : W.heap[w.heap.size]? = some (.cells #[.int .i64 f.sig, .slice ra R rp, bv] 39 (0, 0)) := by rw [hW]; exact keep_heap (heap_new w _) (Keeps.alloc [] _ _)
  have hn2 : W.heap[w.heap.size + 1]? = some (.cells #[.int .i64 4, .int .i64 x.dst, .int .i64 x.a, .int .i64 x.b, .int .i64 x.n, .slice a x.args.length cp] 65 (0, 0)) := by
    have := heap_new (w.alloc (.cells #[.int .i64 f.sig, .slice ra R rp, bv] 39)) (.cells #[.int .i64 4, .int .i64 x.dst, .int .i64 x.a, .int .i64 x.b, .int .i64 x.n, .slice a x.args.length cp] 65)
    rw [World.size_alloc] at this
    rw [hW]
    exact this
  have B : Box (∀ w', Keeps [] W w' → w'.cell? ⟨w.heap.size, 1, none⟩ = some (.slice ra R rp) ∧ w'.cell? ⟨w.heap.size + 1, 0, none⟩ = some (.int .i64 4) ∧ w'.cell? ⟨w.heap.size + 1, 1, none⟩ = some (.int .i64 x.dst) ∧ w'.cell? ⟨w.heap.size + 1, 2, none⟩ = some (.int .i64 x.a) ∧ w'.cell? ⟨w.heap.size + 1, 3, none⟩ = some (.int .i64 x.b) ∧ w'.cell? ⟨w.heap.size + 1, 4, none⟩ = some (.int .i64 x.n) ∧ w'.cell? ⟨w.heap.size + 1, 5, none⟩ = some (.slice a x.args.length cp)) := hid fun w' k => ⟨hcell (keep_heap hn1 k) 1, hcell (keep_heap hn2 k) 0, hcell (keep_heap hn2 k) 1, hcell (keep_heap hn2 k) 2, hcell (keep_heap hn2 k) 3, hcell (keep_heap hn2 k) 4, hcell (keep_heap hn2 k) 5⟩
  have HWE := hid hW
  have HK2 := hid k2
  clear h hr hR hty hif hz hl hop hul hW k2 hn1 hn2
  generalize hres : insOk P f x = res at *
  clear hres
  generalize hul : usesL x = ul at *
  have HUL := hid hul
  clear hul
  go_enter Tryd.func53, Tryd.ntmps53
  go_upto_region 1 with fail
  rw [← HWE.out]
  clear HWE
  generalize w.heap.size = q at *
  obtain ⟨b1, c0, c1, c2, c3, c4, c5⟩ := B.out _ (Keeps.refl _ _)
  go_wp2_with fail
  refine (HD.out _).mono ?_
  rintro e w1 ⟨rfl, k1⟩
  have KW1 := hid k1
  clear b1 c0 c1 c2 c3 c4 c5 k1
  obtain ⟨b1, c0, c1, c2, c3, c4, c5⟩ := B.out _ KW1.out
  go_wp2_with fail
  refine (HU.out _ (HK2.out.quiet KW1.out)).mono ?_
  rintro e w2 ⟨ua, uc, rfl, hu, k2⟩
  have KW2 := hid (KW1.out.quiet k2)
  have HUA := hid hu
  clear b1 c0 c1 c2 c3 c4 c5 k2 hu KW1 HD HU
  obtain ⟨b1, c0, c1, c2, c3, c4, c5⟩ := B.out _ KW2.out
  have KZ : Box (Keeps [] w w2) := hid (HK2.out.quiet KW2.out)
  obtain ⟨U, hU⟩ : ∃ U, U = ul.length := ⟨_, rfl⟩
  rw [← hU] at hul9
  rw [← hU]
  have HUN := hid hU
  clear hU
  have HID : Box (isDef x = true) := hid (by unfold isDef; rw [HOP.out]; rfl)
  go_wp2_with fail
  refine (HIN.out _ _ _).mono ?_
  rintro e w3 ⟨rfl, hw3⟩
  rw [hw3]
  clear hw3
  cases hin : inB x.dst R with
  | false =>
    have HF : Box (res = false) := hid (by
      have : regsB R x = false := by unfold regsB; rw [HID.out, hin]; rfl
      rw [HE0.out, this, Bool.false_and, Bool.and_false])
    clear hin
    go_wp2_with fail
    go_ret
    exact ⟨by rw [HF.out]; rfl, KZ.out⟩
  | true =>
  have HDI : Box ((!isDef x || inB x.dst R) = true) := hid (by rw [HID.out, hin]; rfl)
  have HDB : Box ((cntD x.op || decide (x.dst = 0)) = true) := hid (by rw [HOP.out]; rfl)
  have HDN := hid hin
  clear hin
  go_upto_region 8 with fail
  go_wp2_with fail
  go_loop [11] (fun kv => ∃ k : Nat, k ≤ U ∧ kv = .int .i64 (k : Int) ∧ Box (∀ (j : Nat) (y : Int), j < k → ul[j]? = some y → inB y R = true)) (fun kv => U - (intOf kv).toNat)
  case atStart => exact ⟨0, by omega, rfl, hid fun j y hj => by omega⟩
  case round =>
  obtain ⟨k, hk, rfl, HB⟩ := hrel
  by_cases hlt : k < U
  case pos =>
    have hlt' : (k : Int) < (U : Int) := by omega
    have hkl : k < ul.length := by rw [← HUN.out]; exact hlt
    obtain ⟨y, hy⟩ : ∃ y, ul[k]? = some y := ⟨_, List.getElem?_eq_getElem hkl⟩
    obtain ⟨ub, uo, rfl, hc⟩ : ∃ b off, ua = some ⟨b, off, none⟩ ∧ w2.cell? ⟨b, off + k, none⟩ = some (.int .i64 y) := by
      rcases HUA.out with e | ⟨b, off, e, h⟩
      · rw [e] at hy; simp at hy
      · refine ⟨b, off, e, ?_⟩
        rw [h k hkl, List.getD_eq_getElem?_getD, hy]
        rfl
    have HY := hid hy
    clear hy hkl
    go_wp2_with fail
    refine (HIN.out _ _ _).mono ?_
    rintro e w3 ⟨rfl, hw3⟩
    rw [hw3]
    clear hw3
    cases hgy : inB y R with
    | true =>
      have HG := hid hgy
      clear hgy
      go_wp2_with fail
      go_round
      case rel => exact ⟨k + 1, by omega, by go_num, hid fun j z hj hz => by
        by_cases e : j < k
        · exact HB.out j z e hz
        · obtain rfl : j = k := by omega
          rw [HY.out] at hz
          cases hz
          exact HG.out⟩
      case measure => simp [intOf]; omega
    | false =>
      have HF : Box (res = false) := hid (by
        rw [HE0.out, regs_bad (by rw [HUL.out]; exact HY.out) hgy, Bool.false_and, Bool.and_false])
      clear hgy
      go_wp2_with fail
      go_ret
      exact ⟨by rw [HF.out]; rfl, KZ.out⟩
  obtain rfl : U = k := by omega
  have HREG : Box (regsB R x = true) := hid (regs_all HDI.out (fun j y hy => HB.out j y (by rw [HUN.out, ← HUL.out]; exact (List.getElem?_eq_some_iff.1 hy).1) (by rw [← HUL.out]; exact hy)))
  have HE1 : Box (res = (restB x && numB P f x)) := hid (by rw [HE0.out, HREG.out, Bool.true_and])
  have HUI : Box (∀ (j : Nat) (y : Int), (usesL x)[j]? = some y → inB y R = true) := hid (fun j y hy => HB.out j y (by rw [HUN.out, ← HUL.out]; exact (List.getElem?_eq_some_iff.1 hy).1) (by rw [← HUL.out]; exact hy))
  clear HE0 HB hlt
  by_cases ha : x.a = 0
  case neg =>
    have oa := nneb ha
    have HF : Box (res = false) := hid (by
      have : restB x = false := by unfold restB; rw [HOP.out]; simp [cntD, cntA, cntB, cntN, cntR, ha]
      rw [HE1.out, this]
      rfl)
    clear ha
    go_wp2_with fail
    go_ret
    exact ⟨by rw [HF.out]; rfl, KZ.out⟩
  have oa := neqb ha
  have HA0 := hid ha
  clear ha
  by_cases hb : x.b = 0
  case neg =>
    have ob := nneb hb
    have HF : Box (res = false) := hid (by
      have : restB x = false := by unfold restB; rw [HOP.out]; simp [cntD, cntA, cntB, cntN, cntR, hb]
      rw [HE1.out, this]
      rfl)
    clear hb
    go_wp2_with fail
    go_ret
    exact ⟨by rw [HF.out]; rfl, KZ.out⟩
  have ob := neqb hb
  have HB0 := hid hb
  clear hb
  obtain ⟨L, hL⟩ : ∃ L, L = x.args.length := ⟨_, rfl⟩
  rw [← hL] at c5 ⊢
  have HLN := hid hL
  clear hL
  by_cases hg : L = 0
  case neg =>
    have og : decide ((0 : Int) < (L : Int)) = true := decide_eq_true (by omega)
    have og2 : (0 : Int) < (L : Int) := by omega
    have og3 : 0 < L := by omega
    have hgx : ¬ x.args = [] := fun e => hg (by rw [HLN.out, e]; rfl)
    have HF : Box (res = false) := hid (by
      have : restB x = false := by unfold restB; rw [HOP.out]; simp [cntD, cntA, cntB, cntN, cntR, hgx]
      rw [HE1.out, this]
      rfl)
    clear hg hgx
    go_wp2_with fail
    go_ret
    exact ⟨by rw [HF.out]; rfl, KZ.out⟩
  have og : ¬ (0 : Int) < (L : Int) := by omega
  have og3 : ¬ 0 < L := by omega
  have HG0 : Box (x.args.length = 0) := hid (by rw [← HLN.out]; exact hg)
  clear hg
  have HF : Box (res = (x.n == 0)) := hid (by
    have hrest : restB x = (x.n == 0) := by
      have e9 : (x.n == 0) = decide (x.n = 0) := by by_cases e : x.n = 0 <;> simp [e]
      unfold restB
      rw [HOP.out, e9]
      simp [cntD, cntA, cntB, cntN, cntR, HA0.out, HB0.out, HG0.out]
    rw [HE1.out, hrest, show numB P f x = true by unfold numB; rw [HOP.out]; rfl, Bool.and_true])
  go_wp2_with fail
  go_ret
  exact ⟨by rw [HF.out]; rfl, KZ.out⟩
set_option maxRecDepth 20000 in
set_option maxHeartbeats 8000000 in
theorem rins_5 {w : World} {pb po : Nat} {P : Pr8} (h : PrC w pb po P) {f : Fu8} {ra : Option Addr} {R : Nat} (hr : RowsAt w 2 TyC ra f.regs) (hR : R = f.regs.length) (rp : Nat) (bv : Value) (hty : tysB P f.regs = true) (hif : P.ifs.all (fun l => insB l P.sigs.length) = true) (x : In8) {a : Option Addr} {cp : Nat} (hz : IntsAt w a x.args) (hl : x.args.length ≤ 1000) (hop : x.op = 5) : Calls Tryd.prog 53 #[.pointer (some ⟨pb, po, none⟩), fnV f.sig ra R rp bv, insV x (.slice a x.args.length cp)] w fun e w' => e = .returned (.bool (insOk P f x)) ∧ Keeps [] w w' := by
  have HD := hid fun (w' : World) => rdef_any x (.slice a x.args.length cp) w'
  rw [defV_yes (by unfold isDef; rw [hop]; rfl)] at HD
  have HU := hid fun (w' : World) (k : Keeps [] w w') => vuse_any x a cp w' (hz.kept k (fun _ _ _ => by simp)) (by omega)
  have HIN := hid fun (r : Int) (n : Nat) (w' : World) => rfin_any r n w'
  have hul := usesL_len x
  have hul9 : ((usesL x).length : Int) ≤ 9223372036854775807 := by omega
  have HE0 : Box (insOk P f x = (restB x && (regsB R x && numB P f x))) := hid (by rw [hR]; rfl)
  have HOP := hid hop
  have HRR := hid hr
  have HRL := hid hR
  have HTY := hid hty
  have HIF := hid hif
  have HPR := hid h
  have h15 := hid hl
  unfold insV at HD HU
  unfold insV fnV
  rw [hop] at HD HU
  rw [hop]
  obtain ⟨W, hW⟩ : ∃ W, W = (w.alloc (.cells #[.int .i64 f.sig, .slice ra R rp, bv] 39)).alloc (.cells #[.int .i64 5, .int .i64 x.dst, .int .i64 x.a, .int .i64 x.b, .int .i64 x.n, .slice a x.args.length cp] 65) := ⟨_, rfl⟩
  have k2 : Keeps [] w W := by rw [hW]; exact (Keeps.alloc [] w _).quiet (Keeps.alloc [] _ _)
  have hn1 : W.heap[w.heap.size]? = some (.cells #[.int .i64 f.sig, .slice ra R rp, bv] 39 (0, 0)) := by rw [hW]; exact keep_heap (heap_new w _) (Keeps.alloc [] _ _)
  have hn2 : W.heap[w.heap.size + 1]? = some (.cells #[.int .i64 5, .int .i64 x.dst, .int .i64 x.a, .int .i64 x.b, .int .i64 x.n, .slice a x.args.length cp] 65 (0, 0)) := by
    have := heap_new (w.alloc (.cells #[.int .i64 f.sig, .slice ra R rp, bv] 39)) (.cells #[.int .i64 5, .int .i64 x.dst, .int .i64 x.a, .int .i64 x.b, .int .i64 x.n, .slice a x.args.length cp] 65)
    rw [World.size_alloc] at this
    rw [hW]
    exact this
  have B : Box (∀ w', Keeps [] W w' → w'.cell? ⟨w.heap.size, 1, none⟩ = some (.slice ra R rp) ∧ w'.cell? ⟨w.heap.size + 1, 0, none⟩ = some (.int .i64 5) ∧ w'.cell? ⟨w.heap.size + 1, 1, none⟩ = some (.int .i64 x.dst) ∧ w'.cell? ⟨w.heap.size + 1, 2, none⟩ = some (.int .i64 x.a) ∧ w'.cell? ⟨w.heap.size + 1, 3, none⟩ = some (.int .i64 x.b) ∧ w'.cell? ⟨w.heap.size + 1, 4, none⟩ = some (.int .i64 x.n) ∧ w'.cell? ⟨w.heap.size + 1, 5, none⟩ = some (.slice a x.args.length cp)) := hid fun w' k => ⟨hcell (keep_heap hn1 k) 1, hcell (keep_heap hn2 k) 0, hcell (keep_heap hn2 k) 1, hcell (keep_heap hn2 k) 2, hcell (keep_heap hn2 k) 3, hcell (keep_heap hn2 k) 4, hcell (keep_heap hn2 k) 5⟩
  have HWE := hid hW
  have HK2 := hid k2
  clear h hr hR hty hif hz hl hop hul hW k2 hn1 hn2
  generalize hres : insOk P f x = res at *
  clear hres
  generalize hul : usesL x = ul at *
  have HUL := hid hul
  clear hul
  go_enter Tryd.func53, Tryd.ntmps53
  go_upto_region 1 with fail
  rw [← HWE.out]
  clear HWE
  generalize w.heap.size = q at *
  obtain ⟨b1, c0, c1, c2, c3, c4, c5⟩ := B.out _ (Keeps.refl _ _)
  go_wp2_with fail
  refine (HD.out _).mono ?_
  rintro e w1 ⟨rfl, k1⟩
  have KW1 := hid k1
  clear b1 c0 c1 c2 c3 c4 c5 k1
  obtain ⟨b1, c0, c1, c2, c3, c4, c5⟩ := B.out _ KW1.out
  go_wp2_with fail
  refine (HU.out _ (HK2.out.quiet KW1.out)).mono ?_
  rintro e w2 ⟨ua, uc, rfl, hu, k2⟩
  have KW2 := hid (KW1.out.quiet k2)
  have HUA := hid hu
  clear b1 c0 c1 c2 c3 c4 c5 k2 hu KW1 HD HU
  obtain ⟨b1, c0, c1, c2, c3, c4, c5⟩ := B.out _ KW2.out
  have KZ : Box (Keeps [] w w2) := hid (HK2.out.quiet KW2.out)
  obtain ⟨U, hU⟩ : ∃ U, U = ul.length := ⟨_, rfl⟩
  rw [← hU] at hul9
  rw [← hU]
  have HUN := hid hU
  clear hU
  have HID : Box (isDef x = true) := hid (by unfold isDef; rw [HOP.out]; rfl)
  go_wp2_with fail
  refine (HIN.out _ _ _).mono ?_
  rintro e w3 ⟨rfl, hw3⟩
  rw [hw3]
  clear hw3
  cases hin : inB x.dst R with
  | false =>
    have HF : Box (res = false) := hid (by
      have : regsB R x = false := by unfold regsB; rw [HID.out, hin]; rfl
      rw [HE0.out, this, Bool.false_and, Bool.and_false])
    clear hin
    go_wp2_with fail
    go_ret
    exact ⟨by rw [HF.out]; rfl, KZ.out⟩
  | true =>
  have HDI : Box ((!isDef x || inB x.dst R) = true) := hid (by rw [HID.out, hin]; rfl)
  have HDB : Box ((cntD x.op || decide (x.dst = 0)) = true) := hid (by rw [HOP.out]; rfl)
  have HDN := hid hin
  clear hin
  go_upto_region 8 with fail
  go_wp2_with fail
  go_loop [11] (fun kv => ∃ k : Nat, k ≤ U ∧ kv = .int .i64 (k : Int) ∧ Box (∀ (j : Nat) (y : Int), j < k → ul[j]? = some y → inB y R = true)) (fun kv => U - (intOf kv).toNat)
  case atStart => exact ⟨0, by omega, rfl, hid fun j y hj => by omega⟩
  case round =>
  obtain ⟨k, hk, rfl, HB⟩ := hrel
  by_cases hlt : k < U
  case pos =>
    have hlt' : (k : Int) < (U : Int) := by omega
    have hkl : k < ul.length := by rw [← HUN.out]; exact hlt
    obtain ⟨y, hy⟩ : ∃ y, ul[k]? = some y := ⟨_, List.getElem?_eq_getElem hkl⟩
    obtain ⟨ub, uo, rfl, hc⟩ : ∃ b off, ua = some ⟨b, off, none⟩ ∧ w2.cell? ⟨b, off + k, none⟩ = some (.int .i64 y) := by
      rcases HUA.out with e | ⟨b, off, e, h⟩
      · rw [e] at hy; simp at hy
      · refine ⟨b, off, e, ?_⟩
        rw [h k hkl, List.getD_eq_getElem?_getD, hy]
        rfl
    have HY := hid hy
    clear hy hkl
    go_wp2_with fail
    refine (HIN.out _ _ _).mono ?_
    rintro e w3 ⟨rfl, hw3⟩
    rw [hw3]
    clear hw3
    cases hgy : inB y R with
    | true =>
      have HG := hid hgy
      clear hgy
      go_wp2_with fail
      go_round
      case rel => exact ⟨k + 1, by omega, by go_num, hid fun j z hj hz => by
        by_cases e : j < k
        · exact HB.out j z e hz
        · obtain rfl : j = k := by omega
          rw [HY.out] at hz
          cases hz
          exact HG.out⟩
      case measure => simp [intOf]; omega
    | false =>
      have HF : Box (res = false) := hid (by
        rw [HE0.out, regs_bad (by rw [HUL.out]; exact HY.out) hgy, Bool.false_and, Bool.and_false])
      clear hgy
      go_wp2_with fail
      go_ret
      exact ⟨by rw [HF.out]; rfl, KZ.out⟩
  obtain rfl : U = k := by omega
  have HREG : Box (regsB R x = true) := hid (regs_all HDI.out (fun j y hy => HB.out j y (by rw [HUN.out, ← HUL.out]; exact (List.getElem?_eq_some_iff.1 hy).1) (by rw [← HUL.out]; exact hy)))
  have HE1 : Box (res = (restB x && numB P f x)) := hid (by rw [HE0.out, HREG.out, Bool.true_and])
  have HUI : Box (∀ (j : Nat) (y : Int), (usesL x)[j]? = some y → inB y R = true) := hid (fun j y hy => HB.out j y (by rw [HUN.out, ← HUL.out]; exact (List.getElem?_eq_some_iff.1 hy).1) (by rw [← HUL.out]; exact hy))
  clear HE0 HB hlt
  by_cases ha : x.a = 0
  case neg =>
    have oa := nneb ha
    have HF : Box (res = false) := hid (by
      have : restB x = false := by unfold restB; rw [HOP.out]; simp [cntD, cntA, cntB, cntN, cntR, ha]
      rw [HE1.out, this]
      rfl)
    clear ha
    go_wp2_with fail
    go_ret
    exact ⟨by rw [HF.out]; rfl, KZ.out⟩
  have oa := neqb ha
  have HA0 := hid ha
  clear ha
  by_cases hb : x.b = 0
  case neg =>
    have ob := nneb hb
    have HF : Box (res = false) := hid (by
      have : restB x = false := by unfold restB; rw [HOP.out]; simp [cntD, cntA, cntB, cntN, cntR, hb]
      rw [HE1.out, this]
      rfl)
    clear hb
    go_wp2_with fail
    go_ret
    exact ⟨by rw [HF.out]; rfl, KZ.out⟩
  have ob := neqb hb
  have HB0 := hid hb
  clear hb
  obtain ⟨L, hL⟩ : ∃ L, L = x.args.length := ⟨_, rfl⟩
  rw [← hL] at c5 ⊢
  have HLN := hid hL
  clear hL
  by_cases hg : L = 0
  case neg =>
    have og : decide ((0 : Int) < (L : Int)) = true := decide_eq_true (by omega)
    have og2 : (0 : Int) < (L : Int) := by omega
    have og3 : 0 < L := by omega
    have hgx : ¬ x.args = [] := fun e => hg (by rw [HLN.out, e]; rfl)
    have HF : Box (res = false) := hid (by
      have : restB x = false := by unfold restB; rw [HOP.out]; simp [cntD, cntA, cntB, cntN, cntR, hgx]
      rw [HE1.out, this]
      rfl)
    clear hg hgx
    go_wp2_with fail
    go_ret
    exact ⟨by rw [HF.out]; rfl, KZ.out⟩
  have og : ¬ (0 : Int) < (L : Int) := by omega
  have og3 : ¬ 0 < L := by omega
  have HG0 : Box (x.args.length = 0) := hid (by rw [← HLN.out]; exact hg)
  clear hg
  have HF : Box (res = (x.n == 0)) := hid (by
    have hrest : restB x = (x.n == 0) := by
      have e9 : (x.n == 0) = decide (x.n = 0) := by by_cases e : x.n = 0 <;> simp [e]
      unfold restB
      rw [HOP.out, e9]
      simp [cntD, cntA, cntB, cntN, cntR, HA0.out, HB0.out, HG0.out]
    rw [HE1.out, hrest, show numB P f x = true by unfold numB; rw [HOP.out]; rfl, Bool.and_true])
  go_wp2_with fail
  go_ret
  exact ⟨by rw [HF.out]; rfl, KZ.out⟩
set_option maxRecDepth 20000 in
set_option maxHeartbeats 8000000 in
theorem rins_6 {w : World} {pb po : Nat} {P : Pr8} (h : PrC w pb po P) {f : Fu8} {ra : Option Addr} {R : Nat} (hr : RowsAt w 2 TyC ra f.regs) (hR : R = f.regs.length) (rp : Nat) (bv : Value) (hty : tysB P f.regs = true) (hif : P.ifs.all (fun l => insB l P.sigs.length) = true) (x : In8) {a : Option Addr} {cp : Nat} (hz : IntsAt w a x.args) (hl : x.args.length ≤ 1000) (hop : x.op = 6) : Calls Tryd.prog 53 #[.pointer (some ⟨pb, po, none⟩), fnV f.sig ra R rp bv, insV x (.slice a x.args.length cp)] w fun e w' => e = .returned (.bool (insOk P f x)) ∧ Keeps [] w w' := by
  have HD := hid fun (w' : World) => rdef_any x (.slice a x.args.length cp) w'
  rw [defV_yes (by unfold isDef; rw [hop]; rfl)] at HD
  have HU := hid fun (w' : World) (k : Keeps [] w w') => vuse_any x a cp w' (hz.kept k (fun _ _ _ => by simp)) (by omega)
  have HIN := hid fun (r : Int) (n : Nat) (w' : World) => rfin_any r n w'
  have hul := usesL_len x
  have hul9 : ((usesL x).length : Int) ≤ 9223372036854775807 := by omega
  have HE0 : Box (insOk P f x = (restB x && (regsB R x && numB P f x))) := hid (by rw [hR]; rfl)
  have HOP := hid hop
  have HRR := hid hr
  have HRL := hid hR
  have HTY := hid hty
  have HIF := hid hif
  have HPR := hid h
  have h15 := hid hl
  unfold insV at HD HU
  unfold insV fnV
  rw [hop] at HD HU
  rw [hop]
  obtain ⟨W, hW⟩ : ∃ W, W = (w.alloc (.cells #[.int .i64 f.sig, .slice ra R rp, bv] 39)).alloc (.cells #[.int .i64 6, .int .i64 x.dst, .int .i64 x.a, .int .i64 x.b, .int .i64 x.n, .slice a x.args.length cp] 65) := ⟨_, rfl⟩
  have k2 : Keeps [] w W := by rw [hW]; exact (Keeps.alloc [] w _).quiet (Keeps.alloc [] _ _)
  have hn1 : W.heap[w.heap.size]? = some (.cells #[.int .i64 f.sig, .slice ra R rp, bv] 39 (0, 0)) := by rw [hW]; exact keep_heap (heap_new w _) (Keeps.alloc [] _ _)
  have hn2 : W.heap[w.heap.size + 1]? = some (.cells #[.int .i64 6, .int .i64 x.dst, .int .i64 x.a, .int .i64 x.b, .int .i64 x.n, .slice a x.args.length cp] 65 (0, 0)) := by
    have := heap_new (w.alloc (.cells #[.int .i64 f.sig, .slice ra R rp, bv] 39)) (.cells #[.int .i64 6, .int .i64 x.dst, .int .i64 x.a, .int .i64 x.b, .int .i64 x.n, .slice a x.args.length cp] 65)
    rw [World.size_alloc] at this
    rw [hW]
    exact this
  have B : Box (∀ w', Keeps [] W w' → w'.cell? ⟨w.heap.size, 1, none⟩ = some (.slice ra R rp) ∧ w'.cell? ⟨w.heap.size + 1, 0, none⟩ = some (.int .i64 6) ∧ w'.cell? ⟨w.heap.size + 1, 1, none⟩ = some (.int .i64 x.dst) ∧ w'.cell? ⟨w.heap.size + 1, 2, none⟩ = some (.int .i64 x.a) ∧ w'.cell? ⟨w.heap.size + 1, 3, none⟩ = some (.int .i64 x.b) ∧ w'.cell? ⟨w.heap.size + 1, 4, none⟩ = some (.int .i64 x.n) ∧ w'.cell? ⟨w.heap.size + 1, 5, none⟩ = some (.slice a x.args.length cp)) := hid fun w' k => ⟨hcell (keep_heap hn1 k) 1, hcell (keep_heap hn2 k) 0, hcell (keep_heap hn2 k) 1, hcell (keep_heap hn2 k) 2, hcell (keep_heap hn2 k) 3, hcell (keep_heap hn2 k) 4, hcell (keep_heap hn2 k) 5⟩
  have HWE := hid hW
  have HK2 := hid k2
  clear h hr hR hty hif hz hl hop hul hW k2 hn1 hn2
  generalize hres : insOk P f x = res at *
  clear hres
  generalize hul : usesL x = ul at *
  have HUL := hid hul
  clear hul
  go_enter Tryd.func53, Tryd.ntmps53
  go_upto_region 1 with fail
  rw [← HWE.out]
  clear HWE
  generalize w.heap.size = q at *
  obtain ⟨b1, c0, c1, c2, c3, c4, c5⟩ := B.out _ (Keeps.refl _ _)
  go_wp2_with fail
  refine (HD.out _).mono ?_
  rintro e w1 ⟨rfl, k1⟩
  have KW1 := hid k1
  clear b1 c0 c1 c2 c3 c4 c5 k1
  obtain ⟨b1, c0, c1, c2, c3, c4, c5⟩ := B.out _ KW1.out
  go_wp2_with fail
  refine (HU.out _ (HK2.out.quiet KW1.out)).mono ?_
  rintro e w2 ⟨ua, uc, rfl, hu, k2⟩
  have KW2 := hid (KW1.out.quiet k2)
  have HUA := hid hu
  clear b1 c0 c1 c2 c3 c4 c5 k2 hu KW1 HD HU
  obtain ⟨b1, c0, c1, c2, c3, c4, c5⟩ := B.out _ KW2.out
  have KZ : Box (Keeps [] w w2) := hid (HK2.out.quiet KW2.out)
  obtain ⟨U, hU⟩ : ∃ U, U = ul.length := ⟨_, rfl⟩
  rw [← hU] at hul9
  rw [← hU]
  have HUN := hid hU
  clear hU
  have HID : Box (isDef x = true) := hid (by unfold isDef; rw [HOP.out]; rfl)
  go_wp2_with fail
  refine (HIN.out _ _ _).mono ?_
  rintro e w3 ⟨rfl, hw3⟩
  rw [hw3]
  clear hw3
  cases hin : inB x.dst R with
  | false =>
    have HF : Box (res = false) := hid (by
      have : regsB R x = false := by unfold regsB; rw [HID.out, hin]; rfl
      rw [HE0.out, this, Bool.false_and, Bool.and_false])
    clear hin
    go_wp2_with fail
    go_ret
    exact ⟨by rw [HF.out]; rfl, KZ.out⟩
  | true =>
  have HDI : Box ((!isDef x || inB x.dst R) = true) := hid (by rw [HID.out, hin]; rfl)
  have HDB : Box ((cntD x.op || decide (x.dst = 0)) = true) := hid (by rw [HOP.out]; rfl)
  have HDN := hid hin
  clear hin
  go_upto_region 8 with fail
  go_wp2_with fail
  go_loop [11] (fun kv => ∃ k : Nat, k ≤ U ∧ kv = .int .i64 (k : Int) ∧ Box (∀ (j : Nat) (y : Int), j < k → ul[j]? = some y → inB y R = true)) (fun kv => U - (intOf kv).toNat)
  case atStart => exact ⟨0, by omega, rfl, hid fun j y hj => by omega⟩
  case round =>
  obtain ⟨k, hk, rfl, HB⟩ := hrel
  by_cases hlt : k < U
  case pos =>
    have hlt' : (k : Int) < (U : Int) := by omega
    have hkl : k < ul.length := by rw [← HUN.out]; exact hlt
    obtain ⟨y, hy⟩ : ∃ y, ul[k]? = some y := ⟨_, List.getElem?_eq_getElem hkl⟩
    obtain ⟨ub, uo, rfl, hc⟩ : ∃ b off, ua = some ⟨b, off, none⟩ ∧ w2.cell? ⟨b, off + k, none⟩ = some (.int .i64 y) := by
      rcases HUA.out with e | ⟨b, off, e, h⟩
      · rw [e] at hy; simp at hy
      · refine ⟨b, off, e, ?_⟩
        rw [h k hkl, List.getD_eq_getElem?_getD, hy]
        rfl
    have HY := hid hy
    clear hy hkl
    go_wp2_with fail
    refine (HIN.out _ _ _).mono ?_
    rintro e w3 ⟨rfl, hw3⟩
    rw [hw3]
    clear hw3
    cases hgy : inB y R with
    | true =>
      have HG := hid hgy
      clear hgy
      go_wp2_with fail
      go_round
      case rel => exact ⟨k + 1, by omega, by go_num, hid fun j z hj hz => by
        by_cases e : j < k
        · exact HB.out j z e hz
        · obtain rfl : j = k := by omega
          rw [HY.out] at hz
          cases hz
          exact HG.out⟩
      case measure => simp [intOf]; omega
    | false =>
      have HF : Box (res = false) := hid (by
        rw [HE0.out, regs_bad (by rw [HUL.out]; exact HY.out) hgy, Bool.false_and, Bool.and_false])
      clear hgy
      go_wp2_with fail
      go_ret
      exact ⟨by rw [HF.out]; rfl, KZ.out⟩
  obtain rfl : U = k := by omega
  have HREG : Box (regsB R x = true) := hid (regs_all HDI.out (fun j y hy => HB.out j y (by rw [HUN.out, ← HUL.out]; exact (List.getElem?_eq_some_iff.1 hy).1) (by rw [← HUL.out]; exact hy)))
  have HE1 : Box (res = (restB x && numB P f x)) := hid (by rw [HE0.out, HREG.out, Bool.true_and])
  have HUI : Box (∀ (j : Nat) (y : Int), (usesL x)[j]? = some y → inB y R = true) := hid (fun j y hy => HB.out j y (by rw [HUN.out, ← HUL.out]; exact (List.getElem?_eq_some_iff.1 hy).1) (by rw [← HUL.out]; exact hy))
  clear HE0 HB hlt
  by_cases hb : x.b = 0
  case neg =>
    have ob := nneb hb
    have HF : Box (res = false) := hid (by
      have : restB x = false := by unfold restB; rw [HOP.out]; simp [cntD, cntA, cntB, cntN, cntR, hb]
      rw [HE1.out, this]
      rfl)
    clear hb
    go_wp2_with fail
    go_ret
    exact ⟨by rw [HF.out]; rfl, KZ.out⟩
  have ob := neqb hb
  have HB0 := hid hb
  clear hb
  obtain ⟨L, hL⟩ : ∃ L, L = x.args.length := ⟨_, rfl⟩
  rw [← hL] at c5 ⊢
  have HLN := hid hL
  clear hL
  by_cases hg : L = 0
  case neg =>
    have og : decide ((0 : Int) < (L : Int)) = true := decide_eq_true (by omega)
    have og2 : (0 : Int) < (L : Int) := by omega
    have og3 : 0 < L := by omega
    have hgx : ¬ x.args = [] := fun e => hg (by rw [HLN.out, e]; rfl)
    have HF : Box (res = false) := hid (by
      have : restB x = false := by unfold restB; rw [HOP.out]; simp [cntD, cntA, cntB, cntN, cntR, hgx]
      rw [HE1.out, this]
      rfl)
    clear hg hgx
    go_wp2_with fail
    go_ret
    exact ⟨by rw [HF.out]; rfl, KZ.out⟩
  have og : ¬ (0 : Int) < (L : Int) := by omega
  have og3 : ¬ 0 < L := by omega
  have HG0 : Box (x.args.length = 0) := hid (by rw [← HLN.out]; exact hg)
  clear hg
  have HF : Box (res = (x.n == 0)) := hid (by
    have hrest : restB x = (x.n == 0) := by
      have e9 : (x.n == 0) = decide (x.n = 0) := by by_cases e : x.n = 0 <;> simp [e]
      unfold restB
      rw [HOP.out, e9]
      simp [cntD, cntA, cntB, cntN, cntR, HB0.out, HG0.out]
    rw [HE1.out, hrest, show numB P f x = true by unfold numB; rw [HOP.out]; rfl, Bool.and_true])
  go_wp2_with fail
  go_ret
  exact ⟨by rw [HF.out]; rfl, KZ.out⟩
set_option maxRecDepth 20000 in
set_option maxHeartbeats 8000000 in
theorem rins_9 {w : World} {pb po : Nat} {P : Pr8} (h : PrC w pb po P) {f : Fu8} {ra : Option Addr} {R : Nat} (hr : RowsAt w 2 TyC ra f.regs) (hR : R = f.regs.length) (rp : Nat) (bv : Value) (hty : tysB P f.regs = true) (hif : P.ifs.all (fun l => insB l P.sigs.length) = true) (x : In8) {a : Option Addr} {cp : Nat} (hz : IntsAt w a x.args) (hl : x.args.length ≤ 1000) (hop : x.op = 9) : Calls Tryd.prog 53 #[.pointer (some ⟨pb, po, none⟩), fnV f.sig ra R rp bv, insV x (.slice a x.args.length cp)] w fun e w' => e = .returned (.bool (insOk P f x)) ∧ Keeps [] w w' := by
  have HD := hid fun (w' : World) => rdef_any x (.slice a x.args.length cp) w'
  rw [defV_no (by unfold isDef; rw [hop]; rfl)] at HD
  have HU := hid fun (w' : World) (k : Keeps [] w w') => vuse_any x a cp w' (hz.kept k (fun _ _ _ => by simp)) (by omega)
  have HIN := hid fun (r : Int) (n : Nat) (w' : World) => rfin_any r n w'
  have hul := usesL_len x
  have hul9 : ((usesL x).length : Int) ≤ 9223372036854775807 := by omega
  have HE0 : Box (insOk P f x = (restB x && (regsB R x && numB P f x))) := hid (by rw [hR]; rfl)
  have HOP := hid hop
  have HRR := hid hr
  have HRL := hid hR
  have HTY := hid hty
  have HIF := hid hif
  have HPR := hid h
  have h15 := hid hl
  unfold insV at HD HU
  unfold insV fnV
  rw [hop] at HD HU
  rw [hop]
  obtain ⟨W, hW⟩ : ∃ W, W = (w.alloc (.cells #[.int .i64 f.sig, .slice ra R rp, bv] 39)).alloc (.cells #[.int .i64 9, .int .i64 x.dst, .int .i64 x.a, .int .i64 x.b, .int .i64 x.n, .slice a x.args.length cp] 65) := ⟨_, rfl⟩
  have k2 : Keeps [] w W := by rw [hW]; exact (Keeps.alloc [] w _).quiet (Keeps.alloc [] _ _)
  have hn1 : W.heap[w.heap.size]? = some (.cells #[.int .i64 f.sig, .slice ra R rp, bv] 39 (0, 0)) := by rw [hW]; exact keep_heap (heap_new w _) (Keeps.alloc [] _ _)
  have hn2 : W.heap[w.heap.size + 1]? = some (.cells #[.int .i64 9, .int .i64 x.dst, .int .i64 x.a, .int .i64 x.b, .int .i64 x.n, .slice a x.args.length cp] 65 (0, 0)) := by
    have := heap_new (w.alloc (.cells #[.int .i64 f.sig, .slice ra R rp, bv] 39)) (.cells #[.int .i64 9, .int .i64 x.dst, .int .i64 x.a, .int .i64 x.b, .int .i64 x.n, .slice a x.args.length cp] 65)
    rw [World.size_alloc] at this
    rw [hW]
    exact this
  have B : Box (∀ w', Keeps [] W w' → w'.cell? ⟨w.heap.size, 1, none⟩ = some (.slice ra R rp) ∧ w'.cell? ⟨w.heap.size + 1, 0, none⟩ = some (.int .i64 9) ∧ w'.cell? ⟨w.heap.size + 1, 1, none⟩ = some (.int .i64 x.dst) ∧ w'.cell? ⟨w.heap.size + 1, 2, none⟩ = some (.int .i64 x.a) ∧ w'.cell? ⟨w.heap.size + 1, 3, none⟩ = some (.int .i64 x.b) ∧ w'.cell? ⟨w.heap.size + 1, 4, none⟩ = some (.int .i64 x.n) ∧ w'.cell? ⟨w.heap.size + 1, 5, none⟩ = some (.slice a x.args.length cp)) := hid fun w' k => ⟨hcell (keep_heap hn1 k) 1, hcell (keep_heap hn2 k) 0, hcell (keep_heap hn2 k) 1, hcell (keep_heap hn2 k) 2, hcell (keep_heap hn2 k) 3, hcell (keep_heap hn2 k) 4, hcell (keep_heap hn2 k) 5⟩
  have HWE := hid hW
  have HK2 := hid k2
  clear h hr hR hty hif hz hl hop hul hW k2 hn1 hn2
  generalize hres : insOk P f x = res at *
  clear hres
  generalize hul : usesL x = ul at *
  have HUL := hid hul
  clear hul
  go_enter Tryd.func53, Tryd.ntmps53
  go_upto_region 1 with fail
  rw [← HWE.out]
  clear HWE
  generalize w.heap.size = q at *
  obtain ⟨b1, c0, c1, c2, c3, c4, c5⟩ := B.out _ (Keeps.refl _ _)
  go_wp2_with fail
  refine (HD.out _).mono ?_
  rintro e w1 ⟨rfl, k1⟩
  have KW1 := hid k1
  clear b1 c0 c1 c2 c3 c4 c5 k1
  obtain ⟨b1, c0, c1, c2, c3, c4, c5⟩ := B.out _ KW1.out
  go_wp2_with fail
  refine (HU.out _ (HK2.out.quiet KW1.out)).mono ?_
  rintro e w2 ⟨ua, uc, rfl, hu, k2⟩
  have KW2 := hid (KW1.out.quiet k2)
  have HUA := hid hu
  clear b1 c0 c1 c2 c3 c4 c5 k2 hu KW1 HD HU
  obtain ⟨b1, c0, c1, c2, c3, c4, c5⟩ := B.out _ KW2.out
  have KZ : Box (Keeps [] w w2) := hid (HK2.out.quiet KW2.out)
  obtain ⟨U, hU⟩ : ∃ U, U = ul.length := ⟨_, rfl⟩
  rw [← hU] at hul9
  rw [← hU]
  have HUN := hid hU
  clear hU
  have HID : Box (isDef x = false) := hid (by unfold isDef; rw [HOP.out]; rfl)
  by_cases hd0 : x.dst = 0
  case neg =>
    have od := nneb hd0
    have HF : Box (res = false) := hid (by
      have : restB x = false := by unfold restB; rw [HOP.out]; simp [cntD, hd0]
      rw [HE0.out, this]
      rfl)
    clear hd0
    go_wp2_with fail
    go_ret
    exact ⟨by rw [HF.out]; rfl, KZ.out⟩
  have od := neqb hd0
  have HDI : Box ((!isDef x || inB x.dst R) = true) := hid (by rw [HID.out]; rfl)
  have HDB : Box ((cntD x.op || decide (x.dst = 0)) = true) := hid (by rw [HOP.out]; simp [hd0])
  clear hd0
  go_upto_region 8 with fail
  go_wp2_with fail
  go_loop [11] (fun kv => ∃ k : Nat, k ≤ U ∧ kv = .int .i64 (k : Int) ∧ Box (∀ (j : Nat) (y : Int), j < k → ul[j]? = some y → inB y R = true)) (fun kv => U - (intOf kv).toNat)
  case atStart => exact ⟨0, by omega, rfl, hid fun j y hj => by omega⟩
  case round =>
  obtain ⟨k, hk, rfl, HB⟩ := hrel
  by_cases hlt : k < U
  case pos =>
    have hlt' : (k : Int) < (U : Int) := by omega
    have hkl : k < ul.length := by rw [← HUN.out]; exact hlt
    obtain ⟨y, hy⟩ : ∃ y, ul[k]? = some y := ⟨_, List.getElem?_eq_getElem hkl⟩
    obtain ⟨ub, uo, rfl, hc⟩ : ∃ b off, ua = some ⟨b, off, none⟩ ∧ w2.cell? ⟨b, off + k, none⟩ = some (.int .i64 y) := by
      rcases HUA.out with e | ⟨b, off, e, h⟩
      · rw [e] at hy; simp at hy
      · refine ⟨b, off, e, ?_⟩
        rw [h k hkl, List.getD_eq_getElem?_getD, hy]
        rfl
    have HY := hid hy
    clear hy hkl
    go_wp2_with fail
    refine (HIN.out _ _ _).mono ?_
    rintro e w3 ⟨rfl, hw3⟩
    rw [hw3]
    clear hw3
    cases hgy : inB y R with
    | true =>
      have HG := hid hgy
      clear hgy
      go_wp2_with fail
      go_round
      case rel => exact ⟨k + 1, by omega, by go_num, hid fun j z hj hz => by
        by_cases e : j < k
        · exact HB.out j z e hz
        · obtain rfl : j = k := by omega
          rw [HY.out] at hz
          cases hz
          exact HG.out⟩
      case measure => simp [intOf]; omega
    | false =>
      have HF : Box (res = false) := hid (by
        rw [HE0.out, regs_bad (by rw [HUL.out]; exact HY.out) hgy, Bool.false_and, Bool.and_false])
      clear hgy
      go_wp2_with fail
      go_ret
      exact ⟨by rw [HF.out]; rfl, KZ.out⟩
  obtain rfl : U = k := by omega
  have HREG : Box (regsB R x = true) := hid (regs_all HDI.out (fun j y hy => HB.out j y (by rw [HUN.out, ← HUL.out]; exact (List.getElem?_eq_some_iff.1 hy).1) (by rw [← HUL.out]; exact hy)))
  have HE1 : Box (res = (restB x && numB P f x)) := hid (by rw [HE0.out, HREG.out, Bool.true_and])
  have HUI : Box (∀ (j : Nat) (y : Int), (usesL x)[j]? = some y → inB y R = true) := hid (fun j y hy => HB.out j y (by rw [HUN.out, ← HUL.out]; exact (List.getElem?_eq_some_iff.1 hy).1) (by rw [← HUL.out]; exact hy))
  clear HE0 HB hlt
  by_cases hb : x.b = 0
  case neg =>
    have ob := nneb hb
    have HF : Box (res = false) := hid (by
      have : restB x = false := by unfold restB; rw [HOP.out]; simp [cntD, cntA, cntB, cntN, cntR, hb]
      rw [HE1.out, this]
      rfl)
    clear hb
    go_wp2_with fail
    go_ret
    exact ⟨by rw [HF.out]; rfl, KZ.out⟩
  have ob := neqb hb
  have HB0 := hid hb
  clear hb
  obtain ⟨L, hL⟩ : ∃ L, L = x.args.length := ⟨_, rfl⟩
  rw [← hL] at c5 ⊢
  have HLN := hid hL
  clear hL
  by_cases hg : L = 0
  case neg =>
    have og : decide ((0 : Int) < (L : Int)) = true := decide_eq_true (by omega)
    have og2 : (0 : Int) < (L : Int) := by omega
    have og3 : 0 < L := by omega
    have hgx : ¬ x.args = [] := fun e => hg (by rw [HLN.out, e]; rfl)
    have HF : Box (res = false) := hid (by
      have : restB x = false := by unfold restB; rw [HOP.out]; simp [cntD, cntA, cntB, cntN, cntR, hgx]
      rw [HE1.out, this]
      rfl)
    clear hg hgx
    go_wp2_with fail
    go_ret
    exact ⟨by rw [HF.out]; rfl, KZ.out⟩
  have og : ¬ (0 : Int) < (L : Int) := by omega
  have og3 : ¬ 0 < L := by omega
  have HG0 : Box (x.args.length = 0) := hid (by rw [← HLN.out]; exact hg)
  clear hg
  have HF : Box (res = (x.n == 0)) := hid (by
    have hrest : restB x = (x.n == 0) := by
      have e9 : (x.n == 0) = decide (x.n = 0) := by by_cases e : x.n = 0 <;> simp [e]
      unfold restB
      rw [HOP.out, e9]
      have hdb := HDB.out
      rw [HOP.out] at hdb
      simp [cntD] at hdb
      simp [cntD, cntA, cntB, cntN, cntR, hdb, HB0.out, HG0.out]
    rw [HE1.out, hrest, show numB P f x = true by unfold numB; rw [HOP.out]; rfl, Bool.and_true])
  go_wp2_with fail
  go_ret
  exact ⟨by rw [HF.out]; rfl, KZ.out⟩
set_option maxRecDepth 20000 in
set_option maxHeartbeats 8000000 in
theorem rins_10 {w : World} {pb po : Nat} {P : Pr8} (h : PrC w pb po P) {f : Fu8} {ra : Option Addr} {R : Nat} (hr : RowsAt w 2 TyC ra f.regs) (hR : R = f.regs.length) (rp : Nat) (bv : Value) (hty : tysB P f.regs = true) (hif : P.ifs.all (fun l => insB l P.sigs.length) = true) (x : In8) {a : Option Addr} {cp : Nat} (hz : IntsAt w a x.args) (hl : x.args.length ≤ 1000) (hop : x.op = 10) : Calls Tryd.prog 53 #[.pointer (some ⟨pb, po, none⟩), fnV f.sig ra R rp bv, insV x (.slice a x.args.length cp)] w fun e w' => e = .returned (.bool (insOk P f x)) ∧ Keeps [] w w' := by
  have HD := hid fun (w' : World) => rdef_any x (.slice a x.args.length cp) w'
  rw [defV_yes (by unfold isDef; rw [hop]; rfl)] at HD
  have HU := hid fun (w' : World) (k : Keeps [] w w') => vuse_any x a cp w' (hz.kept k (fun _ _ _ => by simp)) (by omega)
  have HIN := hid fun (r : Int) (n : Nat) (w' : World) => rfin_any r n w'
  have hul := usesL_len x
  have hul9 : ((usesL x).length : Int) ≤ 9223372036854775807 := by omega
  have HE0 : Box (insOk P f x = (restB x && (regsB R x && numB P f x))) := hid (by rw [hR]; rfl)
  have HOP := hid hop
  have HRR := hid hr
  have HRL := hid hR
  have HTY := hid hty
  have HIF := hid hif
  have HPR := hid h
  have h15 := hid hl
  unfold insV at HD HU
  unfold insV fnV
  rw [hop] at HD HU
  rw [hop]
  obtain ⟨W, hW⟩ : ∃ W, W = (w.alloc (.cells #[.int .i64 f.sig, .slice ra R rp, bv] 39)).alloc (.cells #[.int .i64 10, .int .i64 x.dst, .int .i64 x.a, .int .i64 x.b, .int .i64 x.n, .slice a x.args.length cp] 65) := ⟨_, rfl⟩
  have k2 : Keeps [] w W := by rw [hW]; exact (Keeps.alloc [] w _).quiet (Keeps.alloc [] _ _)
  have hn1 : W.heap[w.heap.size]? = some (.cells #[.int .i64 f.sig, .slice ra R rp, bv] 39 (0, 0)) := by rw [hW]; exact keep_heap (heap_new w _) (Keeps.alloc [] _ _)
  have hn2 : W.heap[w.heap.size + 1]? = some (.cells #[.int .i64 10, .int .i64 x.dst, .int .i64 x.a, .int .i64 x.b, .int .i64 x.n, .slice a x.args.length cp] 65 (0, 0)) := by
    have := heap_new (w.alloc (.cells #[.int .i64 f.sig, .slice ra R rp, bv] 39)) (.cells #[.int .i64 10, .int .i64 x.dst, .int .i64 x.a, .int .i64 x.b, .int .i64 x.n, .slice a x.args.length cp] 65)
    rw [World.size_alloc] at this
    rw [hW]
    exact this
  have B : Box (∀ w', Keeps [] W w' → w'.cell? ⟨w.heap.size, 1, none⟩ = some (.slice ra R rp) ∧ w'.cell? ⟨w.heap.size + 1, 0, none⟩ = some (.int .i64 10) ∧ w'.cell? ⟨w.heap.size + 1, 1, none⟩ = some (.int .i64 x.dst) ∧ w'.cell? ⟨w.heap.size + 1, 2, none⟩ = some (.int .i64 x.a) ∧ w'.cell? ⟨w.heap.size + 1, 3, none⟩ = some (.int .i64 x.b) ∧ w'.cell? ⟨w.heap.size + 1, 4, none⟩ = some (.int .i64 x.n) ∧ w'.cell? ⟨w.heap.size + 1, 5, none⟩ = some (.slice a x.args.length cp)) := hid fun w' k => ⟨hcell (keep_heap hn1 k) 1, hcell (keep_heap hn2 k) 0, hcell (keep_heap hn2 k) 1, hcell (keep_heap hn2 k) 2, hcell (keep_heap hn2 k) 3, hcell (keep_heap hn2 k) 4, hcell (keep_heap hn2 k) 5⟩
  have HWE := hid hW
  have HK2 := hid k2
  clear h hr hR hty hif hz hl hop hul hW k2 hn1 hn2
  generalize hres : insOk P f x = res at *
  clear hres
  generalize hul : usesL x = ul at *
  have HUL := hid hul
  clear hul
  go_enter Tryd.func53, Tryd.ntmps53
  go_upto_region 1 with fail
  rw [← HWE.out]
  clear HWE
  generalize w.heap.size = q at *
  obtain ⟨b1, c0, c1, c2, c3, c4, c5⟩ := B.out _ (Keeps.refl _ _)
  go_wp2_with fail
  refine (HD.out _).mono ?_
  rintro e w1 ⟨rfl, k1⟩
  have KW1 := hid k1
  clear b1 c0 c1 c2 c3 c4 c5 k1
  obtain ⟨b1, c0, c1, c2, c3, c4, c5⟩ := B.out _ KW1.out
  go_wp2_with fail
  refine (HU.out _ (HK2.out.quiet KW1.out)).mono ?_
  rintro e w2 ⟨ua, uc, rfl, hu, k2⟩
  have KW2 := hid (KW1.out.quiet k2)
  have HUA := hid hu
  clear b1 c0 c1 c2 c3 c4 c5 k2 hu KW1 HD HU
  obtain ⟨b1, c0, c1, c2, c3, c4, c5⟩ := B.out _ KW2.out
  have KZ : Box (Keeps [] w w2) := hid (HK2.out.quiet KW2.out)
  obtain ⟨U, hU⟩ : ∃ U, U = ul.length := ⟨_, rfl⟩
  rw [← hU] at hul9
  rw [← hU]
  have HUN := hid hU
  clear hU
  have HID : Box (isDef x = true) := hid (by unfold isDef; rw [HOP.out]; rfl)
  go_wp2_with fail
  refine (HIN.out _ _ _).mono ?_
  rintro e w3 ⟨rfl, hw3⟩
  rw [hw3]
  clear hw3
  cases hin : inB x.dst R with
  | false =>
    have HF : Box (res = false) := hid (by
      have : regsB R x = false := by unfold regsB; rw [HID.out, hin]; rfl
      rw [HE0.out, this, Bool.false_and, Bool.and_false])
    clear hin
    go_wp2_with fail
    go_ret
    exact ⟨by rw [HF.out]; rfl, KZ.out⟩
  | true =>
  have HDI : Box ((!isDef x || inB x.dst R) = true) := hid (by rw [HID.out, hin]; rfl)
  have HDB : Box ((cntD x.op || decide (x.dst = 0)) = true) := hid (by rw [HOP.out]; rfl)
  have HDN := hid hin
  clear hin
  go_upto_region 8 with fail
  go_wp2_with fail
  go_loop [11] (fun kv => ∃ k : Nat, k ≤ U ∧ kv = .int .i64 (k : Int) ∧ Box (∀ (j : Nat) (y : Int), j < k → ul[j]? = some y → inB y R = true)) (fun kv => U - (intOf kv).toNat)
  case atStart => exact ⟨0, by omega, rfl, hid fun j y hj => by omega⟩
  case round =>
  obtain ⟨k, hk, rfl, HB⟩ := hrel
  by_cases hlt : k < U
  case pos =>
    have hlt' : (k : Int) < (U : Int) := by omega
    have hkl : k < ul.length := by rw [← HUN.out]; exact hlt
    obtain ⟨y, hy⟩ : ∃ y, ul[k]? = some y := ⟨_, List.getElem?_eq_getElem hkl⟩
    obtain ⟨ub, uo, rfl, hc⟩ : ∃ b off, ua = some ⟨b, off, none⟩ ∧ w2.cell? ⟨b, off + k, none⟩ = some (.int .i64 y) := by
      rcases HUA.out with e | ⟨b, off, e, h⟩
      · rw [e] at hy; simp at hy
      · refine ⟨b, off, e, ?_⟩
        rw [h k hkl, List.getD_eq_getElem?_getD, hy]
        rfl
    have HY := hid hy
    clear hy hkl
    go_wp2_with fail
    refine (HIN.out _ _ _).mono ?_
    rintro e w3 ⟨rfl, hw3⟩
    rw [hw3]
    clear hw3
    cases hgy : inB y R with
    | true =>
      have HG := hid hgy
      clear hgy
      go_wp2_with fail
      go_round
      case rel => exact ⟨k + 1, by omega, by go_num, hid fun j z hj hz => by
        by_cases e : j < k
        · exact HB.out j z e hz
        · obtain rfl : j = k := by omega
          rw [HY.out] at hz
          cases hz
          exact HG.out⟩
      case measure => simp [intOf]; omega
    | false =>
      have HF : Box (res = false) := hid (by
        rw [HE0.out, regs_bad (by rw [HUL.out]; exact HY.out) hgy, Bool.false_and, Bool.and_false])
      clear hgy
      go_wp2_with fail
      go_ret
      exact ⟨by rw [HF.out]; rfl, KZ.out⟩
  obtain rfl : U = k := by omega
  have HREG : Box (regsB R x = true) := hid (regs_all HDI.out (fun j y hy => HB.out j y (by rw [HUN.out, ← HUL.out]; exact (List.getElem?_eq_some_iff.1 hy).1) (by rw [← HUL.out]; exact hy)))
  have HE1 : Box (res = (restB x && numB P f x)) := hid (by rw [HE0.out, HREG.out, Bool.true_and])
  have HUI : Box (∀ (j : Nat) (y : Int), (usesL x)[j]? = some y → inB y R = true) := hid (fun j y hy => HB.out j y (by rw [HUN.out, ← HUL.out]; exact (List.getElem?_eq_some_iff.1 hy).1) (by rw [← HUL.out]; exact hy))
  clear HE0 HB hlt
  by_cases ha : x.a = 0
  case neg =>
    have oa := nneb ha
    have HF : Box (res = false) := hid (by
      have : restB x = false := by unfold restB; rw [HOP.out]; simp [cntD, cntA, cntB, cntN, cntR, ha]
      rw [HE1.out, this]
      rfl)
    clear ha
    go_wp2_with fail
    go_ret
    exact ⟨by rw [HF.out]; rfl, KZ.out⟩
  have oa := neqb ha
  have HA0 := hid ha
  clear ha
  by_cases hb : x.b = 0
  case neg =>
    have ob := nneb hb
    have HF : Box (res = false) := hid (by
      have : restB x = false := by unfold restB; rw [HOP.out]; simp [cntD, cntA, cntB, cntN, cntR, hb]
      rw [HE1.out, this]
      rfl)
    clear hb
    go_wp2_with fail
    go_ret
    exact ⟨by rw [HF.out]; rfl, KZ.out⟩
  have ob := neqb hb
  have HB0 := hid hb
  clear hb
  obtain ⟨L, hL⟩ : ∃ L, L = x.args.length := ⟨_, rfl⟩
  rw [← hL] at c5 ⊢
  have HLN := hid hL
  clear hL
  by_cases hg : L = 0
  case neg =>
    have og : decide ((0 : Int) < (L : Int)) = true := decide_eq_true (by omega)
    have og2 : (0 : Int) < (L : Int) := by omega
    have og3 : 0 < L := by omega
    have hgx : ¬ x.args = [] := fun e => hg (by rw [HLN.out, e]; rfl)
    have HF : Box (res = false) := hid (by
      have : restB x = false := by unfold restB; rw [HOP.out]; simp [cntD, cntA, cntB, cntN, cntR, hgx]
      rw [HE1.out, this]
      rfl)
    clear hg hgx
    go_wp2_with fail
    go_ret
    exact ⟨by rw [HF.out]; rfl, KZ.out⟩
  have og : ¬ (0 : Int) < (L : Int) := by omega
  have og3 : ¬ 0 < L := by omega
  have HG0 : Box (x.args.length = 0) := hid (by rw [← HLN.out]; exact hg)
  clear hg
  have HF : Box (res = inB x.n P.funcs.length) := hid (by
    have hrest : restB x = true := by unfold restB; rw [HOP.out]; simp [cntD, cntA, cntB, cntN, cntR, HA0.out, HB0.out, HG0.out]
    have hnum : numB P f x = inB x.n P.funcs.length := by unfold numB; rw [HOP.out]; rfl
    rw [HE1.out, hrest, hnum, Bool.true_and])
  obtain ⟨fa, fp, c4f, _⟩ := HPR.out.c4
  have c4p := cell_stays KZ.out c4f
  clear c4f
  generalize P.funcs.length = FN at *
  have HQ := hid (HIN.out x.n FN)
  generalize inB x.n FN = RB at *
  go_upto_region 25 with fail
  go_quiet ((go_at_call 52; exact Calls.quiet_of_same (HQ.out _)))
  go_wp2_with fail
  go_ret
  exact ⟨by rw [HF.out]; rfl, KZ.out.quiet (Keeps.drewN _ _ _)⟩
set_option maxRecDepth 20000 in
set_option maxHeartbeats 8000000 in
theorem rins_11 {w : World} {pb po : Nat} {P : Pr8} (h : PrC w pb po P) {f : Fu8} {ra : Option Addr} {R : Nat} (hr : RowsAt w 2 TyC ra f.regs) (hR : R = f.regs.length) (rp : Nat) (bv : Value) (hty : tysB P f.regs = true) (hif : P.ifs.all (fun l => insB l P.sigs.length) = true) (x : In8) {a : Option Addr} {cp : Nat} (hz : IntsAt w a x.args) (hl : x.args.length ≤ 1000) (hop : x.op = 11) : Calls Tryd.prog 53 #[.pointer (some ⟨pb, po, none⟩), fnV f.sig ra R rp bv, insV x (.slice a x.args.length cp)] w fun e w' => e = .returned (.bool (insOk P f x)) ∧ Keeps [] w w' := by
  have HD := hid fun (w' : World) => rdef_any x (.slice a x.args.length cp) w'
  rw [defV_yes (by unfold isDef; rw [hop]; rfl)] at HD
  have HU := hid fun (w' : World) (k : Keeps [] w w') => vuse_any x a cp w' (hz.kept k (fun _ _ _ => by simp)) (by omega)
  have HIN := hid fun (r : Int) (n : Nat) (w' : World) => rfin_any r n w'
  have hul := usesL_len x
  have hul9 : ((usesL x).length : Int) ≤ 9223372036854775807 := by omega
  have HE0 : Box (insOk P f x = (restB x && (regsB R x && numB P f x))) := hid (by rw [hR]; rfl)
  have HOP := hid hop
  have HRR := hid hr
  have HRL := hid hR
  have HTY := hid hty
  have HIF := hid hif
  have HPR := hid h
  have h15 := hid hl
  unfold insV at HD HU
  unfold insV fnV
  rw [hop] at HD HU
  rw [hop]
  obtain ⟨W, hW⟩ : ∃ W, W = (w.alloc (.cells #[.int .i64 f.sig, .slice ra R rp, bv] 39)).alloc (.cells #[.int .i64 11, .int .i64 x.dst, .int .i64 x.a, .int .i64 x.b, .int .i64 x.n, .slice a x.args.length cp] 65) := ⟨_, rfl⟩
  have k2 : Keeps [] w W := by rw [hW]; exact (Keeps.alloc [] w _).quiet (Keeps.alloc [] _ _)
  have hn1 : W.heap[w.heap.size]? = some (.cells #[.int .i64 f.sig, .slice ra R rp, bv] 39 (0, 0)) := by rw [hW]; exact keep_heap (heap_new w _) (Keeps.alloc [] _ _)
  have hn2 : W.heap[w.heap.size + 1]? = some (.cells #[.int .i64 11, .int .i64 x.dst, .int .i64 x.a, .int .i64 x.b, .int .i64 x.n, .slice a x.args.length cp] 65 (0, 0)) := by
    have := heap_new (w.alloc (.cells #[.int .i64 f.sig, .slice ra R rp, bv] 39)) (.cells #[.int .i64 11, .int .i64 x.dst, .int .i64 x.a, .int .i64 x.b, .int .i64 x.n, .slice a x.args.length cp] 65)
    rw [World.size_alloc] at this
    rw [hW]
    exact this
  have B : Box (∀ w', Keeps [] W w' → w'.cell? ⟨w.heap.size, 1, none⟩ = some (.slice ra R rp) ∧ w'.cell? ⟨w.heap.size + 1, 0, none⟩ = some (.int .i64 11) ∧ w'.cell? ⟨w.heap.size + 1, 1, none⟩ = some (.int .i64 x.dst) ∧ w'.cell? ⟨w.heap.size + 1, 2, none⟩ = some (.int .i64 x.a) ∧ w'.cell? ⟨w.heap.size + 1, 3, none⟩ = some (.int .i64 x.b) ∧ w'.cell? ⟨w.heap.size + 1, 4, none⟩ = some (.int .i64 x.n) ∧ w'.cell? ⟨w.heap.size + 1, 5, none⟩ = some (.slice a x.args.length cp)) := hid fun w' k => ⟨hcell (keep_heap hn1 k) 1, hcell (keep_heap hn2 k) 0, hcell (keep_heap hn2 k) 1, hcell (keep_heap hn2 k) 2, hcell (keep_heap hn2 k) 3, hcell (keep_heap hn2 k) 4, hcell (keep_heap hn2 k) 5⟩
  have HWE := hid hW
  have HK2 := hid k2
  clear h hr hR hty hif hz hl hop hul hW k2 hn1 hn2
  generalize hres : insOk P f x = res at *
  clear hres
  generalize hul : usesL x = ul at *
  have HUL := hid hul
  clear hul
  go_enter Tryd.func53, Tryd.ntmps53
  go_upto_region 1 with fail
  rw [← HWE.out]
  clear HWE
  generalize w.heap.size = q at *
  obtain ⟨b1, c0, c1, c2, c3, c4, c5⟩ := B.out _ (Keeps.refl _ _)
  go_wp2_with fail
  refine (HD.out _).mono ?_
  rintro e w1 ⟨rfl, k1⟩
  have KW1 := hid k1
  clear b1 c0 c1 c2 c3 c4 c5 k1
  obtain ⟨b1, c0, c1, c2, c3, c4, c5⟩ := B.out _ KW1.out
  go_wp2_with fail
  refine (HU.out _ (HK2.out.quiet KW1.out)).mono ?_
  rintro e w2 ⟨ua, uc, rfl, hu, k2⟩
  have KW2 := hid (KW1.out.quiet k2)
  have HUA := hid hu
  clear b1 c0 c1 c2 c3 c4 c5 k2 hu KW1 HD HU
  obtain ⟨b1, c0, c1, c2, c3, c4, c5⟩ := B.out _ KW2.out
  have KZ : Box (Keeps [] w w2) := hid (HK2.out.quiet KW2.out)
  obtain ⟨U, hU⟩ : ∃ U, U = ul.length := ⟨_, rfl⟩
  rw [← hU] at hul9
  rw [← hU]
  have HUN := hid hU
  clear hU
  have HID : Box (isDef x = true) := hid (by unfold isDef; rw [HOP.out]; rfl)
  go_wp2_with fail
  refine (HIN.out _ _ _).mono ?_
  rintro e w3 ⟨rfl, hw3⟩
  rw [hw3]
  clear hw3
  cases hin : inB x.dst R with
  | false =>
    have HF : Box (res = false) := hid (by
      have : regsB R x = false := by unfold regsB; rw [HID.out, hin]; rfl
      rw [HE0.out, this, Bool.false_and, Bool.and_false])
    clear hin
    go_wp2_with fail
    go_ret
    exact ⟨by rw [HF.out]; rfl, KZ.out⟩
  | true =>
  have HDI : Box ((!isDef x || inB x.dst R) = true) := hid (by rw [HID.out, hin]; rfl)
  have HDB : Box ((cntD x.op || decide (x.dst = 0)) = true) := hid (by rw [HOP.out]; rfl)
  have HDN := hid hin
  clear hin
  go_upto_region 8 with fail
  go_wp2_with fail
  go_loop [11] (fun kv => ∃ k : Nat, k ≤ U ∧ kv = .int .i64 (k : Int) ∧ Box (∀ (j : Nat) (y : Int), j < k → ul[j]? = some y → inB y R = true)) (fun kv => U - (intOf kv).toNat)
  case atStart => exact ⟨0, by omega, rfl, hid fun j y hj => by omega⟩
  case round =>
  obtain ⟨k, hk, rfl, HB⟩ := hrel
  by_cases hlt : k < U
  case pos =>
    have hlt' : (k : Int) < (U : Int) := by omega
    have hkl : k < ul.length := by rw [← HUN.out]; exact hlt
    obtain ⟨y, hy⟩ : ∃ y, ul[k]? = some y := ⟨_, List.getElem?_eq_getElem hkl⟩
    obtain ⟨ub, uo, rfl, hc⟩ : ∃ b off, ua = some ⟨b, off, none⟩ ∧ w2.cell? ⟨b, off + k, none⟩ = some (.int .i64 y) := by
      rcases HUA.out with e | ⟨b, off, e, h⟩
      · rw [e] at hy; simp at hy
      · refine ⟨b, off, e, ?_⟩
        rw [h k hkl, List.getD_eq_getElem?_getD, hy]
        rfl
    have HY := hid hy
    clear hy hkl
    go_wp2_with fail
    refine (HIN.out _ _ _).mono ?_
    rintro e w3 ⟨rfl, hw3⟩
    rw [hw3]
    clear hw3
    cases hgy : inB y R with
    | true =>
      have HG := hid hgy
      clear hgy
      go_wp2_with fail
      go_round
      case rel => exact ⟨k + 1, by omega, by go_num, hid fun j z hj hz => by
        by_cases e : j < k
        · exact HB.out j z e hz
        · obtain rfl : j = k := by omega
          rw [HY.out] at hz
          cases hz
          exact HG.out⟩
      case measure => simp [intOf]; omega
    | false =>
      have HF : Box (res = false) := hid (by
        rw [HE0.out, regs_bad (by rw [HUL.out]; exact HY.out) hgy, Bool.false_and, Bool.and_false])
      clear hgy
      go_wp2_with fail
      go_ret
      exact ⟨by rw [HF.out]; rfl, KZ.out⟩
  obtain rfl : U = k := by omega
  have HREG : Box (regsB R x = true) := hid (regs_all HDI.out (fun j y hy => HB.out j y (by rw [HUN.out, ← HUL.out]; exact (List.getElem?_eq_some_iff.1 hy).1) (by rw [← HUL.out]; exact hy)))
  have HE1 : Box (res = (restB x && numB P f x)) := hid (by rw [HE0.out, HREG.out, Bool.true_and])
  have HUI : Box (∀ (j : Nat) (y : Int), (usesL x)[j]? = some y → inB y R = true) := hid (fun j y hy => HB.out j y (by rw [HUN.out, ← HUL.out]; exact (List.getElem?_eq_some_iff.1 hy).1) (by rw [← HUL.out]; exact hy))
  clear HE0 HB hlt
  by_cases hb : x.b = 0
  case neg =>
    have ob := nneb hb
    have HF : Box (res = false) := hid (by
      have : restB x = false := by unfold restB; rw [HOP.out]; simp [cntD, cntA, cntB, cntN, cntR, hb]
      rw [HE1.out, this]
      rfl)
    clear hb
    go_wp2_with fail
    go_ret
    exact ⟨by rw [HF.out]; rfl, KZ.out⟩
  have ob := neqb hb
  have HB0 := hid hb
  clear hb
  obtain ⟨L, hL⟩ : ∃ L, L = x.args.length := ⟨_, rfl⟩
  rw [← hL] at c5 ⊢
  have HLN := hid hL
  clear hL
  by_cases hg : L = 0
  case neg =>
    have og : decide ((0 : Int) < (L : Int)) = true := decide_eq_true (by omega)
    have og2 : (0 : Int) < (L : Int) := by omega
    have og3 : 0 < L := by omega
    have hgx : ¬ x.args = [] := fun e => hg (by rw [HLN.out, e]; rfl)
    have HF : Box (res = false) := hid (by
      have : restB x = false := by unfold restB; rw [HOP.out]; simp [cntD, cntA, cntB, cntN, cntR, hgx]
      rw [HE1.out, this]
      rfl)
    clear hg hgx
    go_wp2_with fail
    go_ret
    exact ⟨by rw [HF.out]; rfl, KZ.out⟩
  have og : ¬ (0 : Int) < (L : Int) := by omega
  have og3 : ¬ 0 < L := by omega
  have HG0 : Box (x.args.length = 0) := hid (by rw [← HLN.out]; exact hg)
  clear hg
  have HF : Box (res = (x.n == 0)) := hid (by
    have hrest : restB x = (x.n == 0) := by
      have e9 : (x.n == 0) = decide (x.n = 0) := by by_cases e : x.n = 0 <;> simp [e]
      unfold restB
      rw [HOP.out, e9]
      simp [cntD, cntA, cntB, cntN, cntR, HB0.out, HG0.out]
    rw [HE1.out, hrest, show numB P f x = true by unfold numB; rw [HOP.out]; rfl, Bool.and_true])
  go_wp2_with fail
  go_ret
  exact ⟨by rw [HF.out]; rfl, KZ.out⟩
set_option maxRecDepth 20000 in
set_option maxHeartbeats 8000000 in
theorem rins_15 {w : World} {pb po : Nat} {P : Pr8} (h : PrC w pb po P) {f : Fu8} {ra : Option Addr} {R : Nat} (hr : RowsAt w 2 TyC ra f.regs) (hR : R = f.regs.length) (rp : Nat) (bv : Value) (hty : tysB P f.regs = true) (hif : P.ifs.all (fun l => insB l P.sigs.length) = true) (x : In8) {a : Option Addr} {cp : Nat} (hz : IntsAt w a x.args) (hl : x.args.length ≤ 1000) (hop : x.op = 15) : Calls Tryd.prog 53 #[.pointer (some ⟨pb, po, none⟩), fnV f.sig ra R rp bv, insV x (.slice a x.args.length cp)] w fun e w' => e = .returned (.bool (insOk P f x)) ∧ Keeps [] w w' := by
  have HD := hid fun (w' : World) => rdef_any x (.slice a x.args.length cp) w'
  rw [defV_no (by unfold isDef; rw [hop]; rfl)] at HD
  have HU := hid fun (w' : World) (k : Keeps [] w w') => vuse_any x a cp w' (hz.kept k (fun _ _ _ => by simp)) (by omega)
  have HIN := hid fun (r : Int) (n : Nat) (w' : World) => rfin_any r n w'
  have hul := usesL_len x
  have hul9 : ((usesL x).length : Int) ≤ 9223372036854775807 := by omega
  have HE0 : Box (insOk P f x = (restB x && (regsB R x && numB P f x))) := hid (by rw [hR]; rfl)
  have HOP := hid hop
  have HRR := hid hr
  have HRL := hid hR
  have HTY := hid hty
  have HIF := hid hif
  have HPR := hid h
  have h15 := hid hl
  unfold insV at HD HU
  unfold insV fnV
  rw [hop] at HD HU
  rw [hop]
  obtain ⟨W, hW⟩ : ∃ W, W = (w.alloc (.cells #[.int .i64 f.sig, .slice ra R rp, bv] 39)).alloc (.cells #[.int .i64 15, .int .i64 x.dst, .int .i64 x.a, .int .i64 x.b, .int .i64 x.n, .slice a x.args.length cp] 65) := ⟨_, rfl⟩
  have k2 : Keeps [] w W := by rw [hW]; exact (Keeps.alloc [] w _).quiet (Keeps.alloc [] _ _)
  have hn1 : W.heap[w.heap.size]? = some (.cells #[.int .i64 f.sig, .slice ra R rp, bv] 39 (0, 0)) := by rw [hW]; exact keep_heap (heap_new w _) (Keeps.alloc [] _ _)
  have hn2 : W.heap[w.heap.size + 1]? = some (.cells #[.int .i64 15, .int .i64 x.dst, .int .i64 x.a, .int .i64 x.b, .int .i64 x.n, .slice a x.args.length cp] 65 (0, 0)) := by
    have := heap_new (w.alloc (.cells #[.int .i64 f.sig, .slice ra R rp, bv] 39)) (.cells #[.int .i64 15, .int .i64 x.dst, .int .i64 x.a, .int .i64 x.b, .int .i64 x.n, .slice a x.args.length cp] 65)
    rw [World.size_alloc] at this
    rw [hW]
    exact this
  have B : Box (∀ w', Keeps [] W w' → w'.cell? ⟨w.heap.size, 1, none⟩ = some (.slice ra R rp) ∧ w'.cell? ⟨w.heap.size + 1, 0, none⟩ = some (.int .i64 15) ∧ w'.cell? ⟨w.heap.size + 1, 1, none⟩ = some (.int .i64 x.dst) ∧ w'.cell? ⟨w.heap.size + 1, 2, none⟩ = some (.int .i64 x.a) ∧ w'.cell? ⟨w.heap.size + 1, 3, none⟩ = some (.int .i64 x.b) ∧ w'.cell? ⟨w.heap.size + 1, 4, none⟩ = some (.int .i64 x.n) ∧ w'.cell? ⟨w.heap.size + 1, 5, none⟩ = some (.slice a x.args.length cp)) := hid fun w' k => ⟨hcell (keep_heap hn1 k) 1, hcell (keep_heap hn2 k) 0, hcell (keep_heap hn2 k) 1, hcell (keep_heap hn2 k) 2, hcell (keep_heap hn2 k) 3, hcell (keep_heap hn2 k) 4, hcell (keep_heap hn2 k) 5⟩
  have HWE := hid hW
  have HK2 := hid k2
  clear h hr hR hty hif hz hl hop hul hW k2 hn1 hn2
  generalize hres : insOk P f x = res at *
  clear hres
  generalize hul : usesL x = ul at *
  have HUL := hid hul
  clear hul
  go_enter Tryd.func53, Tryd.ntmps53
  go_upto_region 1 with fail
  rw [← HWE.out]
  clear HWE
  generalize w.heap.size = q at *
  obtain ⟨b1, c0, c1, c2, c3, c4, c5⟩ := B.out _ (Keeps.refl _ _)
  go_wp2_with fail
  refine (HD.out _).mono ?_
  rintro e w1 ⟨rfl, k1⟩
  have KW1 := hid k1
  clear b1 c0 c1 c2 c3 c4 c5 k1
  obtain ⟨b1, c0, c1, c2, c3, c4, c5⟩ := B.out _ KW1.out
  go_wp2_with fail
  refine (HU.out _ (HK2.out.quiet KW1.out)).mono ?_
  rintro e w2 ⟨ua, uc, rfl, hu, k2⟩
  have KW2 := hid (KW1.out.quiet k2)
  have HUA := hid hu
  clear b1 c0 c1 c2 c3 c4 c5 k2 hu KW1 HD HU
  obtain ⟨b1, c0, c1, c2, c3, c4, c5⟩ := B.out _ KW2.out
  have KZ : Box (Keeps [] w w2) := hid (HK2.out.quiet KW2.out)
  obtain ⟨U, hU⟩ : ∃ U, U = ul.length := ⟨_, rfl⟩
  rw [← hU] at hul9
  rw [← hU]
  have HUN := hid hU
  clear hU
  have HID : Box (isDef x = false) := hid (by unfold isDef; rw [HOP.out]; rfl)
  by_cases hd0 : x.dst = 0
  case neg =>
    have od := nneb hd0
    have HF : Box (res = false) := hid (by
      have : restB x = false := by unfold restB; rw [HOP.out]; simp [cntD, hd0]
      rw [HE0.out, this]
      rfl)
    clear hd0
    go_wp2_with fail
    go_ret
    exact ⟨by rw [HF.out]; rfl, KZ.out⟩
  have od := neqb hd0
  have HDI : Box ((!isDef x || inB x.dst R) = true) := hid (by rw [HID.out]; rfl)
  have HDB : Box ((cntD x.op || decide (x.dst = 0)) = true) := hid (by rw [HOP.out]; simp [hd0])
  clear hd0
  go_upto_region 8 with fail
  go_wp2_with fail
  go_loop [11] (fun kv => ∃ k : Nat, k ≤ U ∧ kv = .int .i64 (k : Int) ∧ Box (∀ (j : Nat) (y : Int), j < k → ul[j]? = some y → inB y R = true)) (fun kv => U - (intOf kv).toNat)
  case atStart => exact ⟨0, by omega, rfl, hid fun j y hj => by omega⟩
  case round =>
  obtain ⟨k, hk, rfl, HB⟩ := hrel
  by_cases hlt : k < U
  case pos =>
    have hlt' : (k : Int) < (U : Int) := by omega
    have hkl : k < ul.length := by rw [← HUN.out]; exact hlt
    obtain ⟨y, hy⟩ : ∃ y, ul[k]? = some y := ⟨_, List.getElem?_eq_getElem hkl⟩
    obtain ⟨ub, uo, rfl, hc⟩ : ∃ b off, ua = some ⟨b, off, none⟩ ∧ w2.cell? ⟨b, off + k, none⟩ = some (.int .i64 y) := by
      rcases HUA.out with e | ⟨b, off, e, h⟩
      · rw [e] at hy; simp at hy
      · refine ⟨b, off, e, ?_⟩
        rw [h k hkl, List.getD_eq_getElem?_getD, hy]
        rfl
    have HY := hid hy
    clear hy hkl
    go_wp2_with fail
    refine (HIN.out _ _ _).mono ?_
    rintro e w3 ⟨rfl, hw3⟩
    rw [hw3]
    clear hw3
    cases hgy : inB y R with
    | true =>
      have HG := hid hgy
      clear hgy
      go_wp2_with fail
      go_round
      case rel => exact ⟨k + 1, by omega, by go_num, hid fun j z hj hz => by
        by_cases e : j < k
        · exact HB.out j z e hz
        · obtain rfl : j = k := by omega
          rw [HY.out] at hz
          cases hz
          exact HG.out⟩
      case measure => simp [intOf]; omega
    | false =>
      have HF : Box (res = false) := hid (by
        rw [HE0.out, regs_bad (by rw [HUL.out]; exact HY.out) hgy, Bool.false_and, Bool.and_false])
      clear hgy
      go_wp2_with fail
      go_ret
      exact ⟨by rw [HF.out]; rfl, KZ.out⟩
  obtain rfl : U = k := by omega
  have HREG : Box (regsB R x = true) := hid (regs_all HDI.out (fun j y hy => HB.out j y (by rw [HUN.out, ← HUL.out]; exact (List.getElem?_eq_some_iff.1 hy).1) (by rw [← HUL.out]; exact hy)))
  have HE1 : Box (res = (restB x && numB P f x)) := hid (by rw [HE0.out, HREG.out, Bool.true_and])
  have HUI : Box (∀ (j : Nat) (y : Int), (usesL x)[j]? = some y → inB y R = true) := hid (fun j y hy => HB.out j y (by rw [HUN.out, ← HUL.out]; exact (List.getElem?_eq_some_iff.1 hy).1) (by rw [← HUL.out]; exact hy))
  clear HE0 HB hlt
  by_cases hb : x.b = 0
  case neg =>
    have ob := nneb hb
    have HF : Box (res = false) := hid (by
      have : restB x = false := by unfold restB; rw [HOP.out]; simp [cntD, cntA, cntB, cntN, cntR, hb]
      rw [HE1.out, this]
      rfl)
    clear hb
    go_wp2_with fail
    go_ret
    exact ⟨by rw [HF.out]; rfl, KZ.out⟩
  have ob := neqb hb
  have HB0 := hid hb
  clear hb
  obtain ⟨L, hL⟩ : ∃ L, L = x.args.length := ⟨_, rfl⟩
  rw [← hL] at c5 ⊢
  have HLN := hid hL
  clear hL
  by_cases hg : L = 0
  case neg =>
    have og : decide ((0 : Int) < (L : Int)) = true := decide_eq_true (by omega)
    have og2 : (0 : Int) < (L : Int) := by omega
    have og3 : 0 < L := by omega
    have hgx : ¬ x.args = [] := fun e => hg (by rw [HLN.out, e]; rfl)
    have HF : Box (res = false) := hid (by
      have : restB x = false := by unfold restB; rw [HOP.out]; simp [cntD, cntA, cntB, cntN, cntR, hgx]
      rw [HE1.out, this]
      rfl)
    clear hg hgx
    go_wp2_with fail
    go_ret
    exact ⟨by rw [HF.out]; rfl, KZ.out⟩
  have og : ¬ (0 : Int) < (L : Int) := by omega
  have og3 : ¬ 0 < L := by omega
  have HG0 : Box (x.args.length = 0) := hid (by rw [← HLN.out]; exact hg)
  clear hg
  have HF : Box (res = (x.n == 0)) := hid (by
    have hrest : restB x = (x.n == 0) := by
      have e9 : (x.n == 0) = decide (x.n = 0) := by by_cases e : x.n = 0 <;> simp [e]
      unfold restB
      rw [HOP.out, e9]
      have hdb := HDB.out
      rw [HOP.out] at hdb
      simp [cntD] at hdb
      simp [cntD, cntA, cntB, cntN, cntR, hdb, HB0.out, HG0.out]
    rw [HE1.out, hrest, show numB P f x = true by unfold numB; rw [HOP.out]; rfl, Bool.and_true])
  go_wp2_with fail
  go_ret
  exact ⟨by rw [HF.out]; rfl, KZ.out⟩
set_option maxRecDepth 20000 in
set_option maxHeartbeats 8000000 in
theorem rins_7 {w : World} {pb po : Nat} {P : Pr8} (h : PrC w pb po P) {f : Fu8} {ra : Option Addr} {R : Nat} (hr : RowsAt w 2 TyC ra f.regs) (hR : R = f.regs.length) (rp : Nat) (bv : Value) (hty : tysB P f.regs = true) (hif : P.ifs.all (fun l => insB l P.sigs.length) = true) (x : In8) {a : Option Addr} {cp : Nat} (hz : IntsAt w a x.args) (hl : x.args.length ≤ 1000) (hop : x.op = 7) : Calls Tryd.prog 53 #[.pointer (some ⟨pb, po, none⟩), fnV f.sig ra R rp bv, insV x (.slice a x.args.length cp)] w fun e w' => e = .returned (.bool (insOk P f x)) ∧ Keeps [] w w' := by
  have HD := hid fun (w' : World) => rdef_any x (.slice a x.args.length cp) w'
  rw [defV_yes (by unfold isDef; rw [hop]; rfl)] at HD
  have HU := hid fun (w' : World) (k : Keeps [] w w') => vuse_any x a cp w' (hz.kept k (fun _ _ _ => by simp)) (by omega)
  have HIN := hid fun (r : Int) (n : Nat) (w' : World) => rfin_any r n w'
  have hul := usesL_len x
  have hul9 : ((usesL x).length : Int) ≤ 9223372036854775807 := by omega
  have HE0 : Box (insOk P f x = (restB x && (regsB R x && numB P f x))) := hid (by rw [hR]; rfl)
  have HOP := hid hop
  have HRR := hid hr
  have HRL := hid hR
  have HTY := hid hty
  have HIF := hid hif
  have HPR := hid h
  have h15 := hid hl
  unfold insV at HD HU
  unfold insV fnV
  rw [hop] at HD HU
  rw [hop]
  obtain ⟨W, hW⟩ : ∃ W, W = (w.alloc (.cells #[.int .i64 f.sig, .slice ra R rp, bv] 39)).alloc (.cells #[.int .i64 7, .int .i64 x.dst, .int .i64 x.a, .int .i64 x.b, .int .i64 x.n, .slice a x.args.length cp] 65) := ⟨_, rfl⟩
  have k2 : Keeps [] w W := by rw [hW]; exact (Keeps.alloc [] w _).quiet (Keeps.alloc [] _ _)
  have hn1 : W.heap[w.heap.size]? = some (.cells #[.int .i64 f.sig, .slice ra R rp, bv] 39 (0, 0)) := by rw [hW]; exact keep_heap (heap_new w _) (Keeps.alloc [] _ _)
  have hn2 : W.heap[w.heap.size + 1]? = some (.cells #[.int .i64 7, .int .i64 x.dst, .int .i64 x.a, .int .i64 x.b, .int .i64 x.n, .slice a x.args.length cp] 65 (0, 0)) := by
    have := heap_new (w.alloc (.cells #[.int .i64 f.sig, .slice ra R rp, bv] 39)) (.cells #[.int .i64 7, .int .i64 x.dst, .int .i64 x.a, .int .i64 x.b, .int .i64 x.n, .slice a x.args.length cp] 65)
    rw [World.size_alloc] at this
    rw [hW]
    exact this
  have B : Box (∀ w', Keeps [] W w' → w'.cell? ⟨w.heap.size, 1, none⟩ = some (.slice ra R rp) ∧ w'.cell? ⟨w.heap.size + 1, 0, none⟩ = some (.int .i64 7) ∧ w'.cell? ⟨w.heap.size + 1, 1, none⟩ = some (.int .i64 x.dst) ∧ w'.cell? ⟨w.heap.size + 1, 2, none⟩ = some (.int .i64 x.a) ∧ w'.cell? ⟨w.heap.size + 1, 3, none⟩ = some (.int .i64 x.b) ∧ w'.cell? ⟨w.heap.size + 1, 4, none⟩ = some (.int .i64 x.n) ∧ w'.cell? ⟨w.heap.size + 1, 5, none⟩ = some (.slice a x.args.length cp)) := hid fun w' k => ⟨hcell (keep_heap hn1 k) 1, hcell (keep_heap hn2 k) 0, hcell (keep_heap hn2 k) 1, hcell (keep_heap hn2 k) 2, hcell (keep_heap hn2 k) 3, hcell (keep_heap hn2 k) 4, hcell (keep_heap hn2 k) 5⟩
  have HWE := hid hW
  have HK2 := hid k2
  clear h hr hR hty hif hz hl hop hul hW k2 hn1 hn2
  generalize hres : insOk P f x = res at *
  clear hres
  generalize hul : usesL x = ul at *
  have HUL := hid hul
  clear hul
  go_enter Tryd.func53, Tryd.ntmps53
  go_upto_region 1 with fail
  rw [← HWE.out]
  clear HWE
  generalize w.heap.size = q at *
  obtain ⟨b1, c0, c1, c2, c3, c4, c5⟩ := B.out _ (Keeps.refl _ _)
  go_wp2_with fail
  refine (HD.out _).mono ?_
  rintro e w1 ⟨rfl, k1⟩
  have KW1 := hid k1
  clear b1 c0 c1 c2 c3 c4 c5 k1
  obtain ⟨b1, c0, c1, c2, c3, c4, c5⟩ := B.out _ KW1.out
  go_wp2_with fail
  refine (HU.out _ (HK2.out.quiet KW1.out)).mono ?_
  rintro e w2 ⟨ua, uc, rfl, hu, k2⟩
  have KW2 := hid (KW1.out.quiet k2)
  have HUA := hid hu
  clear b1 c0 c1 c2 c3 c4 c5 k2 hu KW1 HD HU
  obtain ⟨b1, c0, c1, c2, c3, c4, c5⟩ := B.out _ KW2.out
  have KZ : Box (Keeps [] w w2) := hid (HK2.out.quiet KW2.out)
  obtain ⟨U, hU⟩ : ∃ U, U = ul.length := ⟨_, rfl⟩
  rw [← hU] at hul9
  rw [← hU]
  have HUN := hid hU
  clear hU
  have HID : Box (isDef x = true) := hid (by unfold isDef; rw [HOP.out]; rfl)
  go_wp2_with fail
  refine (HIN.out _ _ _).mono ?_
  rintro e w3 ⟨rfl, hw3⟩
  rw [hw3]
  clear hw3
  cases hin : inB x.dst R with
  | false =>
    have HF : Box (res = false) := hid (by
      have : regsB R x = false := by unfold regsB; rw [HID.out, hin]; rfl
      rw [HE0.out, this, Bool.false_and, Bool.and_false])
    clear hin
    go_wp2_with fail
    go_ret
    exact ⟨by rw [HF.out]; rfl, KZ.out⟩
  | true =>
  have HDI : Box ((!isDef x || inB x.dst R) = true) := hid (by rw [HID.out, hin]; rfl)
  have HDB : Box ((cntD x.op || decide (x.dst = 0)) = true) := hid (by rw [HOP.out]; rfl)
  have HDN := hid hin
  clear hin
  go_upto_region 8 with fail
  go_wp2_with fail
  go_loop [11] (fun kv => ∃ k : Nat, k ≤ U ∧ kv = .int .i64 (k : Int) ∧ Box (∀ (j : Nat) (y : Int), j < k → ul[j]? = some y → inB y R = true)) (fun kv => U - (intOf kv).toNat)
  case atStart => exact ⟨0, by omega, rfl, hid fun j y hj => by omega⟩
  case round =>
  obtain ⟨k, hk, rfl, HB⟩ := hrel
  by_cases hlt : k < U
  case pos =>
    have hlt' : (k : Int) < (U : Int) := by omega
    have hkl : k < ul.length := by rw [← HUN.out]; exact hlt
    obtain ⟨y, hy⟩ : ∃ y, ul[k]? = some y := ⟨_, List.getElem?_eq_getElem hkl⟩
    obtain ⟨ub, uo, rfl, hc⟩ : ∃ b off, ua = some ⟨b, off, none⟩ ∧ w2.cell? ⟨b, off + k, none⟩ = some (.int .i64 y) := by
      rcases HUA.out with e | ⟨b, off, e, h⟩
      · rw [e] at hy; simp at hy
      · refine ⟨b, off, e, ?_⟩
        rw [h k hkl, List.getD_eq_getElem?_getD, hy]
        rfl
    have HY := hid hy
    clear hy hkl
    go_wp2_with fail
    refine (HIN.out _ _ _).mono ?_
    rintro e w3 ⟨rfl, hw3⟩
    rw [hw3]
    clear hw3
    cases hgy : inB y R with
    | true =>
      have HG := hid hgy
      clear hgy
      go_wp2_with fail
      go_round
      case rel => exact ⟨k + 1, by omega, by go_num, hid fun j z hj hz => by
        by_cases e : j < k
        · exact HB.out j z e hz
        · obtain rfl : j = k := by omega
          rw [HY.out] at hz
          cases hz
          exact HG.out⟩
      case measure => simp [intOf]; omega
    | false =>
      have HF : Box (res = false) := hid (by
        rw [HE0.out, regs_bad (by rw [HUL.out]; exact HY.out) hgy, Bool.false_and, Bool.and_false])
      clear hgy
      go_wp2_with fail
      go_ret
      exact ⟨by rw [HF.out]; rfl, KZ.out⟩
  obtain rfl : U = k := by omega
  have HREG : Box (regsB R x = true) := hid (regs_all HDI.out (fun j y hy => HB.out j y (by rw [HUN.out, ← HUL.out]; exact (List.getElem?_eq_some_iff.1 hy).1) (by rw [← HUL.out]; exact hy)))
  have HE1 : Box (res = (restB x && numB P f x)) := hid (by rw [HE0.out, HREG.out, Bool.true_and])
  have HUI : Box (∀ (j : Nat) (y : Int), (usesL x)[j]? = some y → inB y R = true) := hid (fun j y hy => HB.out j y (by rw [HUN.out, ← HUL.out]; exact (List.getElem?_eq_some_iff.1 hy).1) (by rw [← HUL.out]; exact hy))
  clear HE0 HB hlt
  by_cases hb : x.b = 0
  case neg =>
    have ob := nneb hb
    have HF : Box (res = false) := hid (by
      have : restB x = false := by unfold restB; rw [HOP.out]; simp [cntD, cntA, cntB, cntN, cntR, hb]
      rw [HE1.out, this]
      rfl)
    clear hb
    go_wp2_with fail
    go_ret
    exact ⟨by rw [HF.out]; rfl, KZ.out⟩
  have ob := neqb hb
  have HB0 := hid hb
  clear hb
  obtain ⟨L, hL⟩ : ∃ L, L = x.args.length := ⟨_, rfl⟩
  rw [← hL] at c5 ⊢
  have HLN := hid hL
  clear hL
  by_cases hg : L = 0
  case neg =>
    have og : decide ((0 : Int) < (L : Int)) = true := decide_eq_true (by omega)
    have og2 : (0 : Int) < (L : Int) := by omega
    have og3 : 0 < L := by omega
    have hgx : ¬ x.args = [] := fun e => hg (by rw [HLN.out, e]; rfl)
    have HF : Box (res = false) := hid (by
      have : restB x = false := by unfold restB; rw [HOP.out]; simp [cntD, cntA, cntB, cntN, cntR, hgx]
      rw [HE1.out, this]
      rfl)
    clear hg hgx
    go_wp2_with fail
    go_ret
    exact ⟨by rw [HF.out]; rfl, KZ.out⟩
  have og : ¬ (0 : Int) < (L : Int) := by omega
  have og3 : ¬ 0 < L := by omega
  have HG0 : Box (x.args.length = 0) := hid (by rw [← HLN.out]; exact hg)
  clear hg
  have hrest : Box (restB x = true) := hid (by unfold restB; rw [HOP.out]; simp [cntD, cntA, cntB, cntN, cntR, HB0.out, HG0.out])
  have hua : inB x.a R = true := HUI.out 0 x.a (by unfold usesL; rw [HOP.out]; rfl)
  have htn : tyB P (regT f x.a) = true := reg_named HTY.out (by rw [← HRL.out]; exact hua)
  obtain ⟨g0, g1⟩ := inB_iff.1 hua
  obtain ⟨A, hA⟩ : ∃ A : Nat, x.a = (A : Int) := ⟨x.a.toNat, by omega⟩
  have hAr : (A : Int) < (R : Int) := by omega
  obtain ⟨rb, ro, heq, hrc⟩ := HRR.out.at (getD_get (l := f.regs) (k := A) (d := (0, 0)) (by have := HRL.out; omega))
  subst heq
  have hTA : regT f x.a = f.regs.getD A (0, 0) := by rw [hA, regT_in (by rw [← HRL.out, ← hA]; exact hua)]; rfl
  have t0 := cell_stays KZ.out hrc.c0.1
  have t1 := cell_stays KZ.out hrc.c1.1
  have HNUM1 : Box ((f.regs.getD A (0, 0)).1 = 1 → inB (f.regs.getD A (0, 0)).2 P.recs.length = true ∧ res = inB x.n (recOf P (f.regs.getD A (0, 0)).2).length) := hid (by
    intro ht
    rw [← hTA] at ht ⊢
    have h2 := ty_1 htn ht
    exact ⟨h2, by rw [HE1.out, hrest.out, num_f1 (by rw [HOP.out]; decide) ht h2, Bool.true_and]⟩)
  have HNUM0 : Box ((f.regs.getD A (0, 0)).1 ≠ 1 → res = true) := hid (by
    intro ht
    rw [← hTA] at ht
    rw [HE1.out, hrest.out, num_f0 (by rw [HOP.out]; decide) ht]
    rfl)
  rw [hA] at c2
  have HPC := hid HPR.out.c0
  clear hua htn g0 g1 hA hrc hTA HRR
  generalize f.regs.getD A (0, 0) = T at *
  go_upto_region 22 with fail
  have hnt := heap_new w2 (.cells #[.int .i64 T.1, .int .i64 T.2] 70)
  have KT : Box (Keeps [] w2 (w2.alloc (.cells #[.int .i64 T.1, .int .i64 T.2] 70))) := hid (Keeps.alloc [] _ _)
  have n0 := hcell hnt 0
  have n1 := hcell hnt 1
  replace c4 := cell_stays KT.out c4
  clear hnt
  generalize w2.alloc (.cells #[.int .i64 T.1, .int .i64 T.2] 70) = w5 at *
  generalize w2.heap.size = q5 at *
  have KY : Box (Keeps [] w w5) := hid (KZ.out.quiet KT.out)
  clear KT t0 t1 b1 c0 c1 c2 c3 c5
  by_cases ht : T.1 = 1
  case neg =>
    have HF := hid (HNUM0.out ht)
    have ot := nneb ht
    clear ht HNUM1 HNUM0 HPC
    go_quiet (fail)
    go_wp2_with fail
    go_ret
    exact ⟨by rw [HF.out]; rfl, KY.out.quiet (Keeps.drewN _ _ _)⟩
  have h12 := HNUM1.out ht
  have ot := neqb ht
  obtain ⟨j0, j1⟩ := inB_iff.1 h12.1
  have HF0 := hid h12.2
  clear ht HNUM1 HNUM0 h12
  obtain ⟨J, hJ⟩ : ∃ J : Nat, T.2 = (J : Int) := ⟨T.2.toNat, by omega⟩
  obtain ⟨pa, pp, pc, prr, _⟩ := HPC.out
  obtain ⟨gb, go, rfl, hgc⟩ := prr.at (getD_get (l := P.recs) (k := J) (d := []) (by omega))
  obtain ⟨ga, gp, gc, _⟩ := hgc
  have HF : Box (res = inB x.n (P.recs.getD J []).length) := hid (by
    have := HF0.out
    unfold recOf at this
    rw [hJ, show ((J : Int)).toNat = J by omega] at this
    exact this)
  have pc5 := cell_stays KY.out pc
  have gc5 := cell_stays KY.out gc
  have hJl : (J : Int) < (P.recs.length : Int) := by omega
  rw [hJ] at n1
  rw [Nat.mul_one] at gc5
  clear pc prr gc HPC HF0 j0 j1 hJ
  generalize (P.recs.getD J []).length = M at *
  generalize P.recs.length = TN at *
  have HQ := hid (HIN.out x.n M)
  generalize inB x.n M = RB at *
  go_quiet ((go_at_call 52; exact Calls.quiet_of_same (HQ.out _)))
  go_wp2_with fail
  go_ret
  exact ⟨by rw [HF.out]; rfl, KY.out.quiet (Keeps.drewN _ _ _)⟩
set_option maxRecDepth 20000 in
set_option maxHeartbeats 8000000 in
theorem rins_8 {w : World} {pb po : Nat} {P : Pr8} (h : PrC w pb po P) {f : Fu8} {ra : Option Addr} {R : Nat} (hr : RowsAt w 2 TyC ra f.regs) (hR : R = f.regs.length) (rp : Nat) (bv : Value) (hty : tysB P f.regs = true) (hif : P.ifs.all (fun l => insB l P.sigs.length) = true) (x : In8) {a : Option Addr} {cp : Nat} (hz : IntsAt w a x.args) (hl : x.args.length ≤ 1000) (hop : x.op = 8) : Calls Tryd.prog 53 #[.pointer (some ⟨pb, po, none⟩), fnV f.sig ra R rp bv, insV x (.slice a x.args.length cp)] w fun e w' => e = .returned (.bool (insOk P f x)) ∧ Keeps [] w w' := by
  have HD := hid fun (w' : World) => rdef_any x (.slice a x.args.length cp) w'
  rw [defV_no (by unfold isDef; rw [hop]; rfl)] at HD
  have HU := hid fun (w' : World) (k : Keeps [] w w') => vuse_any x a cp w' (hz.kept k (fun _ _ _ => by simp)) (by omega)
  have HIN := hid fun (r : Int) (n : Nat) (w' : World) => rfin_any r n w'
  have hul := usesL_len x
  have hul9 : ((usesL x).length : Int) ≤ 9223372036854775807 := by omega
  have HE0 : Box (insOk P f x = (restB x && (regsB R x && numB P f x))) := hid (by rw [hR]; rfl)
  have HOP := hid hop
  have HRR := hid hr
  have HRL := hid hR
  have HTY := hid hty
  have HIF := hid hif
  have HPR := hid h
  have h15 := hid hl
  unfold insV at HD HU
  unfold insV fnV
  rw [hop] at HD HU
  rw [hop]
  obtain ⟨W, hW⟩ : ∃ W, W = (w.alloc (.cells #[.int .i64 f.sig, .slice ra R rp, bv] 39)).alloc (.cells #[.int .i64 8, .int .i64 x.dst, .int .i64 x.a, .int .i64 x.b, .int .i64 x.n, .slice a x.args.length cp] 65) := ⟨_, rfl⟩
  have k2 : Keeps [] w W := by rw [hW]; exact (Keeps.alloc [] w _).quiet (Keeps.alloc [] _ _)
  have hn1 : W.heap[w.heap.size]? = some (.cells #[.int .i64 f.sig, .slice ra R rp, bv] 39 (0, 0)) := by rw [hW]; exact keep_heap (heap_new w _) (Keeps.alloc [] _ _)
  have hn2 : W.heap[w.heap.size + 1]? = some (.cells #[.int .i64 8, .int .i64 x.dst, .int .i64 x.a, .int .i64 x.b, .int .i64 x.n, .slice a x.args.length cp] 65 (0, 0)) := by
    have := heap_new (w.alloc (.cells #[.int .i64 f.sig, .slice ra R rp, bv] 39)) (.cells #[.int .i64 8, .int .i64 x.dst, .int .i64 x.a, .int .i64 x.b, .int .i64 x.n, .slice a x.args.length cp] 65)
    rw [World.size_alloc] at this
    rw [hW]
    exact this
  have B : Box (∀ w', Keeps [] W w' → w'.cell? ⟨w.heap.size, 1, none⟩ = some (.slice ra R rp) ∧ w'.cell? ⟨w.heap.size + 1, 0, none⟩ = some (.int .i64 8) ∧ w'.cell? ⟨w.heap.size + 1, 1, none⟩ = some (.int .i64 x.dst) ∧ w'.cell? ⟨w.heap.size + 1, 2, none⟩ = some (.int .i64 x.a) ∧ w'.cell? ⟨w.heap.size + 1, 3, none⟩ = some (.int .i64 x.b) ∧ w'.cell? ⟨w.heap.size + 1, 4, none⟩ = some (.int .i64 x.n) ∧ w'.cell? ⟨w.heap.size + 1, 5, none⟩ = some (.slice a x.args.length cp)) := hid fun w' k => ⟨hcell (keep_heap hn1 k) 1, hcell (keep_heap hn2 k) 0, hcell (keep_heap hn2 k) 1, hcell (keep_heap hn2 k) 2, hcell (keep_heap hn2 k) 3, hcell (keep_heap hn2 k) 4, hcell (keep_heap hn2 k) 5⟩
  have HWE := hid hW
  have HK2 := hid k2
  clear h hr hR hty hif hz hl hop hul hW k2 hn1 hn2
  generalize hres : insOk P f x = res at *
  clear hres
  generalize hul : usesL x = ul at *
  have HUL := hid hul
  clear hul
  go_enter Tryd.func53, Tryd.ntmps53
  go_upto_region 1 with fail
  rw [← HWE.out]
  clear HWE
  generalize w.heap.size = q at *
  obtain ⟨b1, c0, c1, c2, c3, c4, c5⟩ := B.out _ (Keeps.refl _ _)
  go_wp2_with fail
  refine (HD.out _).mono ?_
  rintro e w1 ⟨rfl, k1⟩
  have KW1 := hid k1
  clear b1 c0 c1 c2 c3 c4 c5 k1
  obtain ⟨b1, c0, c1, c2, c3, c4, c5⟩ := B.out _ KW1.out
  go_wp2_with fail
  refine (HU.out _ (HK2.out.quiet KW1.out)).mono ?_
  rintro e w2 ⟨ua, uc, rfl, hu, k2⟩
  have KW2 := hid (KW1.out.quiet k2)
  have HUA := hid hu
  clear b1 c0 c1 c2 c3 c4 c5 k2 hu KW1 HD HU
  obtain ⟨b1, c0, c1, c2, c3, c4, c5⟩ := B.out _ KW2.out
  have KZ : Box (Keeps [] w w2) := hid (HK2.out.quiet KW2.out)
  obtain ⟨U, hU⟩ : ∃ U, U = ul.length := ⟨_, rfl⟩
  rw [← hU] at hul9
  rw [← hU]
  have HUN := hid hU
  clear hU
  have HID : Box (isDef x = false) := hid (by unfold isDef; rw [HOP.out]; rfl)
  by_cases hd0 : x.dst = 0
  case neg =>
    have od := nneb hd0
    have HF : Box (res = false) := hid (by
      have : restB x = false := by unfold restB; rw [HOP.out]; simp [cntD, hd0]
      rw [HE0.out, this]
      rfl)
    clear hd0
    go_wp2_with fail
    go_ret
    exact ⟨by rw [HF.out]; rfl, KZ.out⟩
  have od := neqb hd0
  have HDI : Box ((!isDef x || inB x.dst R) = true) := hid (by rw [HID.out]; rfl)
  have HDB : Box ((cntD x.op || decide (x.dst = 0)) = true) := hid (by rw [HOP.out]; simp [hd0])
  clear hd0
  go_upto_region 8 with fail
  go_wp2_with fail
  go_loop [11] (fun kv => ∃ k : Nat, k ≤ U ∧ kv = .int .i64 (k : Int) ∧ Box (∀ (j : Nat) (y : Int), j < k → ul[j]? = some y → inB y R = true)) (fun kv => U - (intOf kv).toNat)
  case atStart => exact ⟨0, by omega, rfl, hid fun j y hj => by omega⟩
  case round =>
  obtain ⟨k, hk, rfl, HB⟩ := hrel
  by_cases hlt : k < U
  case pos =>
    have hlt' : (k : Int) < (U : Int) := by omega
    have hkl : k < ul.length := by rw [← HUN.out]; exact hlt
    obtain ⟨y, hy⟩ : ∃ y, ul[k]? = some y := ⟨_, List.getElem?_eq_getElem hkl⟩
    obtain ⟨ub, uo, rfl, hc⟩ : ∃ b off, ua = some ⟨b, off, none⟩ ∧ w2.cell? ⟨b, off + k, none⟩ = some (.int .i64 y) := by
      rcases HUA.out with e | ⟨b, off, e, h⟩
      · rw [e] at hy; simp at hy
      · refine ⟨b, off, e, ?_⟩
        rw [h k hkl, List.getD_eq_getElem?_getD, hy]
        rfl
    have HY := hid hy
    clear hy hkl
    go_wp2_with fail
    refine (HIN.out _ _ _).mono ?_
    rintro e w3 ⟨rfl, hw3⟩
    rw [hw3]
    clear hw3
    cases hgy : inB y R with
    | true =>
      have HG := hid hgy
      clear hgy
      go_wp2_with fail
      go_round
      case rel => exact ⟨k + 1, by omega, by go_num, hid fun j z hj hz => by
        by_cases e : j < k
        · exact HB.out j z e hz
        · obtain rfl : j = k := by omega
          rw [HY.out] at hz
          cases hz
          exact HG.out⟩
      case measure => simp [intOf]; omega
    | false =>
      have HF : Box (res = false) := hid (by
        rw [HE0.out, regs_bad (by rw [HUL.out]; exact HY.out) hgy, Bool.false_and, Bool.and_false])
      clear hgy
      go_wp2_with fail
      go_ret
      exact ⟨by rw [HF.out]; rfl, KZ.out⟩
  obtain rfl : U = k := by omega
  have HREG : Box (regsB R x = true) := hid (regs_all HDI.out (fun j y hy => HB.out j y (by rw [HUN.out, ← HUL.out]; exact (List.getElem?_eq_some_iff.1 hy).1) (by rw [← HUL.out]; exact hy)))
  have HE1 : Box (res = (restB x && numB P f x)) := hid (by rw [HE0.out, HREG.out, Bool.true_and])
  have HUI : Box (∀ (j : Nat) (y : Int), (usesL x)[j]? = some y → inB y R = true) := hid (fun j y hy => HB.out j y (by rw [HUN.out, ← HUL.out]; exact (List.getElem?_eq_some_iff.1 hy).1) (by rw [← HUL.out]; exact hy))
  clear HE0 HB hlt
  obtain ⟨L, hL⟩ : ∃ L, L = x.args.length := ⟨_, rfl⟩
  rw [← hL] at c5 ⊢
  have HLN := hid hL
  clear hL
  by_cases hg : L = 0
  case neg =>
    have og : decide ((0 : Int) < (L : Int)) = true := decide_eq_true (by omega)
    have og2 : (0 : Int) < (L : Int) := by omega
    have og3 : 0 < L := by omega
    have hgx : ¬ x.args = [] := fun e => hg (by rw [HLN.out, e]; rfl)
    have HF : Box (res = false) := hid (by
      have : restB x = false := by unfold restB; rw [HOP.out]; simp [cntD, cntA, cntB, cntN, cntR, hgx]
      rw [HE1.out, this]
      rfl)
    clear hg hgx
    go_wp2_with fail
    go_ret
    exact ⟨by rw [HF.out]; rfl, KZ.out⟩
  have og : ¬ (0 : Int) < (L : Int) := by omega
  have og3 : ¬ 0 < L := by omega
  have HG0 : Box (x.args.length = 0) := hid (by rw [← HLN.out]; exact hg)
  clear hg
  have hrest : Box (restB x = true) := hid (by unfold restB; rw [HOP.out]; have hdb := HDB.out; rw [HOP.out] at hdb; simp [cntD] at hdb; simp [cntD, cntA, cntB, cntN, cntR, hdb, HG0.out])
  have hua : inB x.a R = true := HUI.out 0 x.a (by unfold usesL; rw [HOP.out]; rfl)
  have htn : tyB P (regT f x.a) = true := reg_named HTY.out (by rw [← HRL.out]; exact hua)
  obtain ⟨g0, g1⟩ := inB_iff.1 hua
  obtain ⟨A, hA⟩ : ∃ A : Nat, x.a = (A : Int) := ⟨x.a.toNat, by omega⟩
  have hAr : (A : Int) < (R : Int) := by omega
  obtain ⟨rb, ro, heq, hrc⟩ := HRR.out.at (getD_get (l := f.regs) (k := A) (d := (0, 0)) (by have := HRL.out; omega))
  subst heq
  have hTA : regT f x.a = f.regs.getD A (0, 0) := by rw [hA, regT_in (by rw [← HRL.out, ← hA]; exact hua)]; rfl
  have t0 := cell_stays KZ.out hrc.c0.1
  have t1 := cell_stays KZ.out hrc.c1.1
  have HNUM1 : Box ((f.regs.getD A (0, 0)).1 = 1 → inB (f.regs.getD A (0, 0)).2 P.recs.length = true ∧ res = inB x.n (recOf P (f.regs.getD A (0, 0)).2).length) := hid (by
    intro ht
    rw [← hTA] at ht ⊢
    have h2 := ty_1 htn ht
    exact ⟨h2, by rw [HE1.out, hrest.out, num_f1 (by rw [HOP.out]; decide) ht h2, Bool.true_and]⟩)
  have HNUM0 : Box ((f.regs.getD A (0, 0)).1 ≠ 1 → res = true) := hid (by
    intro ht
    rw [← hTA] at ht
    rw [HE1.out, hrest.out, num_f0 (by rw [HOP.out]; decide) ht]
    rfl)
  rw [hA] at c2
  have HPC := hid HPR.out.c0
  clear hua htn g0 g1 hA hrc hTA HRR
  generalize f.regs.getD A (0, 0) = T at *
  go_upto_region 22 with fail
  have hnt := heap_new w2 (.cells #[.int .i64 T.1, .int .i64 T.2] 70)
  have KT : Box (Keeps [] w2 (w2.alloc (.cells #[.int .i64 T.1, .int .i64 T.2] 70))) := hid (Keeps.alloc [] _ _)
  have n0 := hcell hnt 0
  have n1 := hcell hnt 1
  replace c4 := cell_stays KT.out c4
  clear hnt
  generalize w2.alloc (.cells #[.int .i64 T.1, .int .i64 T.2] 70) = w5 at *
  generalize w2.heap.size = q5 at *
  have KY : Box (Keeps [] w w5) := hid (KZ.out.quiet KT.out)
  clear KT t0 t1 b1 c0 c1 c2 c3 c5
  by_cases ht : T.1 = 1
  case neg =>
    have HF := hid (HNUM0.out ht)
    have ot := nneb ht
    clear ht HNUM1 HNUM0 HPC
    go_quiet (fail)
    go_wp2_with fail
    go_ret
    exact ⟨by rw [HF.out]; rfl, KY.out.quiet (Keeps.drewN _ _ _)⟩
  have h12 := HNUM1.out ht
  have ot := neqb ht
  obtain ⟨j0, j1⟩ := inB_iff.1 h12.1
  have HF0 := hid h12.2
  clear ht HNUM1 HNUM0 h12
  obtain ⟨J, hJ⟩ : ∃ J : Nat, T.2 = (J : Int) := ⟨T.2.toNat, by omega⟩
  obtain ⟨pa, pp, pc, prr, _⟩ := HPC.out
  obtain ⟨gb, go, rfl, hgc⟩ := prr.at (getD_get (l := P.recs) (k := J) (d := []) (by omega))
  obtain ⟨ga, gp, gc, _⟩ := hgc
  have HF : Box (res = inB x.n (P.recs.getD J []).length) := hid (by
    have := HF0.out
    unfold recOf at this
    rw [hJ, show ((J : Int)).toNat = J by omega] at this
    exact this)
  have pc5 := cell_stays KY.out pc
  have gc5 := cell_stays KY.out gc
  have hJl : (J : Int) < (P.recs.length : Int) := by omega
  rw [hJ] at n1
  rw [Nat.mul_one] at gc5
  clear pc prr gc HPC HF0 j0 j1 hJ
  generalize (P.recs.getD J []).length = M at *
  generalize P.recs.length = TN at *
  have HQ := hid (HIN.out x.n M)
  generalize inB x.n M = RB at *
  go_quiet ((go_at_call 52; exact Calls.quiet_of_same (HQ.out _)))
  go_wp2_with fail
  go_ret
  exact ⟨by rw [HF.out]; rfl, KY.out.quiet (Keeps.drewN _ _ _)⟩
set_option maxRecDepth 20000 in
set_option maxHeartbeats 8000000 in
theorem rins_12 {w : World} {pb po : Nat} {P : Pr8} (h : PrC w pb po P) {f : Fu8} {ra : Option Addr} {R : Nat} (hr : RowsAt w 2 TyC ra f.regs) (hR : R = f.regs.length) (rp : Nat) (bv : Value) (hty : tysB P f.regs = true) (hif : P.ifs.all (fun l => insB l P.sigs.length) = true) (x : In8) {a : Option Addr} {cp : Nat} (hz : IntsAt w a x.args) (hl : x.args.length ≤ 1000) (hop : x.op = 12) : Calls Tryd.prog 53 #[.pointer (some ⟨pb, po, none⟩), fnV f.sig ra R rp bv, insV x (.slice a x.args.length cp)] w fun e w' => e = .returned (.bool (insOk P f x)) ∧ Keeps [] w w' := by
  have HD := hid fun (w' : World) => rdef_any x (.slice a x.args.length cp) w'
  rw [defV_yes (by unfold isDef; rw [hop]; rfl)] at HD
  have HU := hid fun (w' : World) (k : Keeps [] w w') => vuse_any x a cp w' (hz.kept k (fun _ _ _ => by simp)) (by omega)
  have HIN := hid fun (r : Int) (n : Nat) (w' : World) => rfin_any r n w'
  have hul := usesL_len x
  have hul9 : ((usesL x).length : Int) ≤ 9223372036854775807 := by omega
  have HE0 : Box (insOk P f x = (restB x && (regsB R x && numB P f x))) := hid (by rw [hR]; rfl)
  have HOP := hid hop
  have HRR := hid hr
  have HRL := hid hR
  have HTY := hid hty
  have HIF := hid hif
  have HPR := hid h
  have h15 := hid hl
  unfold insV at HD HU
  unfold insV fnV
  rw [hop] at HD HU
  rw [hop]
  obtain ⟨W, hW⟩ : ∃ W, W = (w.alloc (.cells #[.int .i64 f.sig, .slice ra R rp, bv] 39)).alloc (.cells #[.int .i64 12, .int .i64 x.dst, .int .i64 x.a, .int .i64 x.b, .int .i64 x.n, .slice a x.args.length cp] 65) := ⟨_, rfl⟩
  have k2 : Keeps [] w W := by rw [hW]; exact (Keeps.alloc [] w _).quiet (Keeps.alloc [] _ _)
  have hn1 : W.heap[w.heap.size]? = some (.cells #[.int .i64 f.sig, .slice ra R rp, bv] 39 (0, 0)) := by rw [hW]; exact keep_heap (heap_new w _) (Keeps.alloc [] _ _)
  have hn2 : W.heap[w.heap.size + 1]? = some (.cells #[.int .i64 12, .int .i64 x.dst, .int .i64 x.a, .int .i64 x.b, .int .i64 x.n, .slice a x.args.length cp] 65 (0, 0)) := by
    have := heap_new (w.alloc (.cells #[.int .i64 f.sig, .slice ra R rp, bv] 39)) (.cells #[.int .i64 12, .int .i64 x.dst, .int .i64 x.a, .int .i64 x.b, .int .i64 x.n, .slice a x.args.length cp] 65)
    rw [World.size_alloc] at this
    rw [hW]
    exact this
  have B : Box (∀ w', Keeps [] W w' → w'.cell? ⟨w.heap.size, 1, none⟩ = some (.slice ra R rp) ∧ w'.cell? ⟨w.heap.size + 1, 0, none⟩ = some (.int .i64 12) ∧ w'.cell? ⟨w.heap.size + 1, 1, none⟩ = some (.int .i64 x.dst) ∧ w'.cell? ⟨w.heap.size + 1, 2, none⟩ = some (.int .i64 x.a) ∧ w'.cell? ⟨w.heap.size + 1, 3, none⟩ = some (.int .i64 x.b) ∧ w'.cell? ⟨w.heap.size + 1, 4, none⟩ = some (.int .i64 x.n) ∧ w'.cell? ⟨w.heap.size + 1, 5, none⟩ = some (.slice a x.args.length cp)) := hid fun w' k => ⟨hcell (keep_heap hn1 k) 1, hcell (keep_heap hn2 k) 0, hcell (keep_heap hn2 k) 1, hcell (keep_heap hn2 k) 2, hcell (keep_heap hn2 k) 3, hcell (keep_heap hn2 k) 4, hcell (keep_heap hn2 k) 5⟩
  have HWE := hid hW
  have HK2 := hid k2
  clear h hr hR hty hif hz hl hop hul hW k2 hn1 hn2
  generalize hres : insOk P f x = res at *
  clear hres
  generalize hul : usesL x = ul at *
  have HUL := hid hul
  clear hul
  go_enter Tryd.func53, Tryd.ntmps53
  go_upto_region 1 with fail
  rw [← HWE.out]
  clear HWE
  generalize w.heap.size = q at *
  obtain ⟨b1, c0, c1, c2, c3, c4, c5⟩ := B.out _ (Keeps.refl _ _)
  go_wp2_with fail
  refine (HD.out _).mono ?_
  rintro e w1 ⟨rfl, k1⟩
  have KW1 := hid k1
  clear b1 c0 c1 c2 c3 c4 c5 k1
  obtain ⟨b1, c0, c1, c2, c3, c4, c5⟩ := B.out _ KW1.out
  go_wp2_with fail
  refine (HU.out _ (HK2.out.quiet KW1.out)).mono ?_
  rintro e w2 ⟨ua, uc, rfl, hu, k2⟩
  have KW2 := hid (KW1.out.quiet k2)
  have HUA := hid hu
  clear b1 c0 c1 c2 c3 c4 c5 k2 hu KW1 HD HU
  obtain ⟨b1, c0, c1, c2, c3, c4, c5⟩ := B.out _ KW2.out
  have KZ : Box (Keeps [] w w2) := hid (HK2.out.quiet KW2.out)
  obtain ⟨U, hU⟩ : ∃ U, U = ul.length := ⟨_, rfl⟩
  rw [← hU] at hul9
  rw [← hU]
  have HUN := hid hU
  clear hU
  have HID : Box (isDef x = true) := hid (by unfold isDef; rw [HOP.out]; rfl)
  go_wp2_with fail
  refine (HIN.out _ _ _).mono ?_
  rintro e w3 ⟨rfl, hw3⟩
  rw [hw3]
  clear hw3
  cases hin : inB x.dst R with
  | false =>
    have HF : Box (res = false) := hid (by
      have : regsB R x = false := by unfold regsB; rw [HID.out, hin]; rfl
      rw [HE0.out, this, Bool.false_and, Bool.and_false])
    clear hin
    go_wp2_with fail
    go_ret
    exact ⟨by rw [HF.out]; rfl, KZ.out⟩
  | true =>
  have HDI : Box ((!isDef x || inB x.dst R) = true) := hid (by rw [HID.out, hin]; rfl)
  have HDB : Box ((cntD x.op || decide (x.dst = 0)) = true) := hid (by rw [HOP.out]; rfl)
  have HDN := hid hin
  clear hin
  go_upto_region 8 with fail
  go_wp2_with fail
  go_loop [11] (fun kv => ∃ k : Nat, k ≤ U ∧ kv = .int .i64 (k : Int) ∧ Box (∀ (j : Nat) (y : Int), j < k → ul[j]? = some y → inB y R = true)) (fun kv => U - (intOf kv).toNat)
  case atStart => exact ⟨0, by omega, rfl, hid fun j y hj => by omega⟩
  case round =>
  obtain ⟨k, hk, rfl, HB⟩ := hrel
  by_cases hlt : k < U
  case pos =>
    have hlt' : (k : Int) < (U : Int) := by omega
    have hkl : k < ul.length := by rw [← HUN.out]; exact hlt
    obtain ⟨y, hy⟩ : ∃ y, ul[k]? = some y := ⟨_, List.getElem?_eq_getElem hkl⟩
    obtain ⟨ub, uo, rfl, hc⟩ : ∃ b off, ua = some ⟨b, off, none⟩ ∧ w2.cell? ⟨b, off + k, none⟩ = some (.int .i64 y) := by
      rcases HUA.out with e | ⟨b, off, e, h⟩
      · rw [e] at hy; simp at hy
      · refine ⟨b, off, e, ?_⟩
        rw [h k hkl, List.getD_eq_getElem?_getD, hy]
        rfl
    have HY := hid hy
    clear hy hkl
    go_wp2_with fail
    refine (HIN.out _ _ _).mono ?_
    rintro e w3 ⟨rfl, hw3⟩
    rw [hw3]
    clear hw3
    cases hgy : inB y R with
    | true =>
      have HG := hid hgy
      clear hgy
      go_wp2_with fail
      go_round
      case rel => exact ⟨k + 1, by omega, by go_num, hid fun j z hj hz => by
        by_cases e : j < k
        · exact HB.out j z e hz
        · obtain rfl : j = k := by omega
          rw [HY.out] at hz
          cases hz
          exact HG.out⟩
      case measure => simp [intOf]; omega
    | false =>
      have HF : Box (res = false) := hid (by
        rw [HE0.out, regs_bad (by rw [HUL.out]; exact HY.out) hgy, Bool.false_and, Bool.and_false])
      clear hgy
      go_wp2_with fail
      go_ret
      exact ⟨by rw [HF.out]; rfl, KZ.out⟩
  obtain rfl : U = k := by omega
  have HREG : Box (regsB R x = true) := hid (regs_all HDI.out (fun j y hy => HB.out j y (by rw [HUN.out, ← HUL.out]; exact (List.getElem?_eq_some_iff.1 hy).1) (by rw [← HUL.out]; exact hy)))
  have HE1 : Box (res = (restB x && numB P f x)) := hid (by rw [HE0.out, HREG.out, Bool.true_and])
  have HUI : Box (∀ (j : Nat) (y : Int), (usesL x)[j]? = some y → inB y R = true) := hid (fun j y hy => HB.out j y (by rw [HUN.out, ← HUL.out]; exact (List.getElem?_eq_some_iff.1 hy).1) (by rw [← HUL.out]; exact hy))
  clear HE0 HB hlt
  by_cases ha : x.a = 0
  case neg =>
    have oa := nneb ha
    have HF : Box (res = false) := hid (by
      have : restB x = false := by unfold restB; rw [HOP.out]; simp [cntD, cntA, cntB, cntN, cntR, ha]
      rw [HE1.out, this]
      rfl)
    clear ha
    go_wp2_with fail
    go_ret
    exact ⟨by rw [HF.out]; rfl, KZ.out⟩
  have oa := neqb ha
  have HA0 := hid ha
  clear ha
  by_cases hb : x.b = 0
  case neg =>
    have ob := nneb hb
    have HF : Box (res = false) := hid (by
      have : restB x = false := by unfold restB; rw [HOP.out]; simp [cntD, cntA, cntB, cntN, cntR, hb]
      rw [HE1.out, this]
      rfl)
    clear hb
    go_wp2_with fail
    go_ret
    exact ⟨by rw [HF.out]; rfl, KZ.out⟩
  have ob := neqb hb
  have HB0 := hid hb
  clear hb
  obtain ⟨L, hL⟩ : ∃ L, L = x.args.length := ⟨_, rfl⟩
  rw [← hL] at c5 ⊢
  have HLN := hid hL
  clear hL
  by_cases hg : 0 < L
  case neg =>
    have og : ¬ (0 : Int) < (L : Int) := by omega
    have og3 : ¬ 0 < L := by omega
    clear hg
    have HF : Box (res = inB x.n P.funcs.length) := hid (by
      have hrest : restB x = true := by unfold restB; rw [HOP.out]; simp [cntD, cntA, cntB, cntN, cntR, HA0.out, HB0.out]
      have hnum : numB P f x = inB x.n P.funcs.length := by unfold numB; rw [HOP.out]; rfl
      rw [HE1.out, hrest, hnum, Bool.true_and])
    obtain ⟨fa, fp, c4f, _⟩ := HPR.out.c4
    have c4p := cell_stays KZ.out c4f
    clear c4f
    generalize P.funcs.length = FN at *
    have HQ := hid (HIN.out x.n FN)
    generalize inB x.n FN = RB at *
    go_upto_region 25 with fail
    go_quiet ((go_at_call 52; exact Calls.quiet_of_same (HQ.out _)))
    go_wp2_with fail
    go_ret
    exact ⟨by rw [HF.out]; rfl, KZ.out.quiet (Keeps.drewN _ _ _)⟩
  have og : (0 : Int) < (L : Int) := by omega
  have og3 : 0 < L := hg
  clear hg
  have HF : Box (res = inB x.n P.funcs.length) := hid (by
    have hrest : restB x = true := by unfold restB; rw [HOP.out]; simp [cntD, cntA, cntB, cntN, cntR, HA0.out, HB0.out]
    have hnum : numB P f x = inB x.n P.funcs.length := by unfold numB; rw [HOP.out]; rfl
    rw [HE1.out, hrest, hnum, Bool.true_and])
  obtain ⟨fa, fp, c4f, _⟩ := HPR.out.c4
  have c4p := cell_stays KZ.out c4f
  clear c4f
  generalize P.funcs.length = FN at *
  have HQ := hid (HIN.out x.n FN)
  generalize inB x.n FN = RB at *
  go_upto_region 25 with fail
  go_quiet ((go_at_call 52; exact Calls.quiet_of_same (HQ.out _)))
  go_wp2_with fail
  go_ret
  exact ⟨by rw [HF.out]; rfl, KZ.out.quiet (Keeps.drewN _ _ _)⟩
set_option maxRecDepth 20000 in
set_option maxHeartbeats 8000000 in
theorem rins_13 {w : World} {pb po : Nat} {P : Pr8} (h : PrC w pb po P) {f : Fu8} {ra : Option Addr} {R : Nat} (hr : RowsAt w 2 TyC ra f.regs) (hR : R = f.regs.length) (rp : Nat) (bv : Value) (hty : tysB P f.regs = true) (hif : P.ifs.all (fun l => insB l P.sigs.length) = true) (x : In8) {a : Option Addr} {cp : Nat} (hz : IntsAt w a x.args) (hl : x.args.length ≤ 1000) (hop : x.op = 13) : Calls Tryd.prog 53 #[.pointer (some ⟨pb, po, none⟩), fnV f.sig ra R rp bv, insV x (.slice a x.args.length cp)] w fun e w' => e = .returned (.bool (insOk P f x)) ∧ Keeps [] w w' := by
  have HD := hid fun (w' : World) => rdef_any x (.slice a x.args.length cp) w'
  rw [defV_yes (by unfold isDef; rw [hop]; rfl)] at HD
  have HU := hid fun (w' : World) (k : Keeps [] w w') => vuse_any x a cp w' (hz.kept k (fun _ _ _ => by simp)) (by omega)
  have HIN := hid fun (r : Int) (n : Nat) (w' : World) => rfin_any r n w'
  have hul := usesL_len x
  have hul9 : ((usesL x).length : Int) ≤ 9223372036854775807 := by omega
  have HE0 : Box (insOk P f x = (restB x && (regsB R x && numB P f x))) := hid (by rw [hR]; rfl)
  have HOP := hid hop
  have HRR := hid hr
  have HRL := hid hR
  have HTY := hid hty
  have HIF := hid hif
  have HPR := hid h
  have h15 := hid hl
  unfold insV at HD HU
  unfold insV fnV
  rw [hop] at HD HU
  rw [hop]
  obtain ⟨W, hW⟩ : ∃ W, W = (w.alloc (.cells #[.int .i64 f.sig, .slice ra R rp, bv] 39)).alloc (.cells #[.int .i64 13, .int .i64 x.dst, .int .i64 x.a, .int .i64 x.b, .int .i64 x.n, .slice a x.args.length cp] 65) := ⟨_, rfl⟩
  have k2 : Keeps [] w W := by rw [hW]; exact (Keeps.alloc [] w _).quiet (Keeps.alloc [] _ _)
  have hn1 : W.heap[w.heap.size]? = some (.cells #[.int .i64 f.sig, .slice ra R rp, bv] 39 (0, 0)) := by rw [hW]; exact keep_heap (heap_new w _) (Keeps.alloc [] _ _)
  have hn2 : W.heap[w.heap.size + 1]? = some (.cells #[.int .i64 13, .int .i64 x.dst, .int .i64 x.a, .int .i64 x.b, .int .i64 x.n, .slice a x.args.length cp] 65 (0, 0)) := by
    have := heap_new (w.alloc (.cells #[.int .i64 f.sig, .slice ra R rp, bv] 39)) (.cells #[.int .i64 13, .int .i64 x.dst, .int .i64 x.a, .int .i64 x.b, .int .i64 x.n, .slice a x.args.length cp] 65)
    rw [World.size_alloc] at this
    rw [hW]
    exact this
  have B : Box (∀ w', Keeps [] W w' → w'.cell? ⟨w.heap.size, 1, none⟩ = some (.slice ra R rp) ∧ w'.cell? ⟨w.heap.size + 1, 0, none⟩ = some (.int .i64 13) ∧ w'.cell? ⟨w.heap.size + 1, 1, none⟩ = some (.int .i64 x.dst) ∧ w'.cell? ⟨w.heap.size + 1, 2, none⟩ = some (.int .i64 x.a) ∧ w'.cell? ⟨w.heap.size + 1, 3, none⟩ = some (.int .i64 x.b) ∧ w'.cell? ⟨w.heap.size + 1, 4, none⟩ = some (.int .i64 x.n) ∧ w'.cell? ⟨w.heap.size + 1, 5, none⟩ = some (.slice a x.args.length cp)) := hid fun w' k => ⟨hcell (keep_heap hn1 k) 1, hcell (keep_heap hn2 k) 0, hcell (keep_heap hn2 k) 1, hcell (keep_heap hn2 k) 2, hcell (keep_heap hn2 k) 3, hcell (keep_heap hn2 k) 4, hcell (keep_heap hn2 k) 5⟩
  have HWE := hid hW
  have HK2 := hid k2
  clear h hr hR hty hif hz hl hop hul hW k2 hn1 hn2
  generalize hres : insOk P f x = res at *
  clear hres
  generalize hul : usesL x = ul at *
  have HUL := hid hul
  clear hul
  go_enter Tryd.func53, Tryd.ntmps53
  go_upto_region 1 with fail
  rw [← HWE.out]
  clear HWE
  generalize w.heap.size = q at *
  obtain ⟨b1, c0, c1, c2, c3, c4, c5⟩ := B.out _ (Keeps.refl _ _)
  go_wp2_with fail
  refine (HD.out _).mono ?_
  rintro e w1 ⟨rfl, k1⟩
  have KW1 := hid k1
  clear b1 c0 c1 c2 c3 c4 c5 k1
  obtain ⟨b1, c0, c1, c2, c3, c4, c5⟩ := B.out _ KW1.out
  go_wp2_with fail
  refine (HU.out _ (HK2.out.quiet KW1.out)).mono ?_
  rintro e w2 ⟨ua, uc, rfl, hu, k2⟩
  have KW2 := hid (KW1.out.quiet k2)
  have HUA := hid hu
  clear b1 c0 c1 c2 c3 c4 c5 k2 hu KW1 HD HU
  obtain ⟨b1, c0, c1, c2, c3, c4, c5⟩ := B.out _ KW2.out
  have KZ : Box (Keeps [] w w2) := hid (HK2.out.quiet KW2.out)
  obtain ⟨U, hU⟩ : ∃ U, U = ul.length := ⟨_, rfl⟩
  rw [← hU] at hul9
  rw [← hU]
  have HUN := hid hU
  clear hU
  have HID : Box (isDef x = true) := hid (by unfold isDef; rw [HOP.out]; rfl)
  go_wp2_with fail
  refine (HIN.out _ _ _).mono ?_
  rintro e w3 ⟨rfl, hw3⟩
  rw [hw3]
  clear hw3
  cases hin : inB x.dst R with
  | false =>
    have HF : Box (res = false) := hid (by
      have : regsB R x = false := by unfold regsB; rw [HID.out, hin]; rfl
      rw [HE0.out, this, Bool.false_and, Bool.and_false])
    clear hin
    go_wp2_with fail
    go_ret
    exact ⟨by rw [HF.out]; rfl, KZ.out⟩
  | true =>
  have HDI : Box ((!isDef x || inB x.dst R) = true) := hid (by rw [HID.out, hin]; rfl)
  have HDB : Box ((cntD x.op || decide (x.dst = 0)) = true) := hid (by rw [HOP.out]; rfl)
  have HDN := hid hin
  clear hin
  go_upto_region 8 with fail
  go_wp2_with fail
  go_loop [11] (fun kv => ∃ k : Nat, k ≤ U ∧ kv = .int .i64 (k : Int) ∧ Box (∀ (j : Nat) (y : Int), j < k → ul[j]? = some y → inB y R = true)) (fun kv => U - (intOf kv).toNat)
  case atStart => exact ⟨0, by omega, rfl, hid fun j y hj => by omega⟩
  case round =>
  obtain ⟨k, hk, rfl, HB⟩ := hrel
  by_cases hlt : k < U
  case pos =>
    have hlt' : (k : Int) < (U : Int) := by omega
    have hkl : k < ul.length := by rw [← HUN.out]; exact hlt
    obtain ⟨y, hy⟩ : ∃ y, ul[k]? = some y := ⟨_, List.getElem?_eq_getElem hkl⟩
    obtain ⟨ub, uo, rfl, hc⟩ : ∃ b off, ua = some ⟨b, off, none⟩ ∧ w2.cell? ⟨b, off + k, none⟩ = some (.int .i64 y) := by
      rcases HUA.out with e | ⟨b, off, e, h⟩
      · rw [e] at hy; simp at hy
      · refine ⟨b, off, e, ?_⟩
        rw [h k hkl, List.getD_eq_getElem?_getD, hy]
        rfl
    have HY := hid hy
    clear hy hkl
    go_wp2_with fail
    refine (HIN.out _ _ _).mono ?_
    rintro e w3 ⟨rfl, hw3⟩
    rw [hw3]
    clear hw3
    cases hgy : inB y R with
    | true =>
      have HG := hid hgy
      clear hgy
      go_wp2_with fail
      go_round
      case rel => exact ⟨k + 1, by omega, by go_num, hid fun j z hj hz => by
        by_cases e : j < k
        · exact HB.out j z e hz
        · obtain rfl : j = k := by omega
          rw [HY.out] at hz
          cases hz
          exact HG.out⟩
      case measure => simp [intOf]; omega
    | false =>
      have HF : Box (res = false) := hid (by
        rw [HE0.out, regs_bad (by rw [HUL.out]; exact HY.out) hgy, Bool.false_and, Bool.and_false])
      clear hgy
      go_wp2_with fail
      go_ret
      exact ⟨by rw [HF.out]; rfl, KZ.out⟩
  obtain rfl : U = k := by omega
  have HREG : Box (regsB R x = true) := hid (regs_all HDI.out (fun j y hy => HB.out j y (by rw [HUN.out, ← HUL.out]; exact (List.getElem?_eq_some_iff.1 hy).1) (by rw [← HUL.out]; exact hy)))
  have HE1 : Box (res = (restB x && numB P f x)) := hid (by rw [HE0.out, HREG.out, Bool.true_and])
  have HUI : Box (∀ (j : Nat) (y : Int), (usesL x)[j]? = some y → inB y R = true) := hid (fun j y hy => HB.out j y (by rw [HUN.out, ← HUL.out]; exact (List.getElem?_eq_some_iff.1 hy).1) (by rw [← HUL.out]; exact hy))
  clear HE0 HB hlt
  by_cases hb : x.b = 0
  case neg =>
    have ob := nneb hb
    have HF : Box (res = false) := hid (by
      have : restB x = false := by unfold restB; rw [HOP.out]; simp [cntD, cntA, cntB, cntN, cntR, hb]
      rw [HE1.out, this]
      rfl)
    clear hb
    go_wp2_with fail
    go_ret
    exact ⟨by rw [HF.out]; rfl, KZ.out⟩
  have ob := neqb hb
  have HB0 := hid hb
  clear hb
  obtain ⟨L, hL⟩ : ∃ L, L = x.args.length := ⟨_, rfl⟩
  rw [← hL] at c5 ⊢
  have HLN := hid hL
  clear hL
  by_cases hg : 0 < L
  case neg =>
    have og : ¬ (0 : Int) < (L : Int) := by omega
    have og3 : ¬ 0 < L := by omega
    clear hg
    have HF : Box (res = (x.n == 0)) := hid (by
      have hrest : restB x = (x.n == 0) := by
        have e9 : (x.n == 0) = decide (x.n = 0) := by by_cases e : x.n = 0 <;> simp [e]
        unfold restB
        rw [HOP.out, e9]
        simp [cntD, cntA, cntB, cntN, cntR, HB0.out]
      rw [HE1.out, hrest, show numB P f x = true by unfold numB; rw [HOP.out]; rfl, Bool.and_true])
    go_wp2_with fail
    go_ret
    exact ⟨by rw [HF.out]; rfl, KZ.out⟩
  have og : (0 : Int) < (L : Int) := by omega
  have og3 : 0 < L := hg
  clear hg
  have HF : Box (res = (x.n == 0)) := hid (by
    have hrest : restB x = (x.n == 0) := by
      have e9 : (x.n == 0) = decide (x.n = 0) := by by_cases e : x.n = 0 <;> simp [e]
      unfold restB
      rw [HOP.out, e9]
      simp [cntD, cntA, cntB, cntN, cntR, HB0.out]
    rw [HE1.out, hrest, show numB P f x = true by unfold numB; rw [HOP.out]; rfl, Bool.and_true])
  go_wp2_with fail
  go_ret
  exact ⟨by rw [HF.out]; rfl, KZ.out⟩
set_option maxRecDepth 20000 in
set_option maxHeartbeats 8000000 in
theorem rins_14 {w : World} {pb po : Nat} {P : Pr8} (h : PrC w pb po P) {f : Fu8} {ra : Option Addr} {R : Nat} (hr : RowsAt w 2 TyC ra f.regs) (hR : R = f.regs.length) (rp : Nat) (bv : Value) (hty : tysB P f.regs = true) (hif : P.ifs.all (fun l => insB l P.sigs.length) = true) (x : In8) {a : Option Addr} {cp : Nat} (hz : IntsAt w a x.args) (hl : x.args.length ≤ 1000) (hop : x.op = 14) : Calls Tryd.prog 53 #[.pointer (some ⟨pb, po, none⟩), fnV f.sig ra R rp bv, insV x (.slice a x.args.length cp)] w fun e w' => e = .returned (.bool (insOk P f x)) ∧ Keeps [] w w' := by
  have HD := hid fun (w' : World) => rdef_any x (.slice a x.args.length cp) w'
  rw [defV_yes (by unfold isDef; rw [hop]; rfl)] at HD
  have HU := hid fun (w' : World) (k : Keeps [] w w') => vuse_any x a cp w' (hz.kept k (fun _ _ _ => by simp)) (by omega)
  have HIN := hid fun (r : Int) (n : Nat) (w' : World) => rfin_any r n w'
  have hul := usesL_len x
  have hul9 : ((usesL x).length : Int) ≤ 9223372036854775807 := by omega
  have HE0 : Box (insOk P f x = (restB x && (regsB R x && numB P f x))) := hid (by rw [hR]; rfl)
  have HOP := hid hop
  have HRR := hid hr
  have HRL := hid hR
  have HTY := hid hty
  have HIF := hid hif
  have HPR := hid h
  have h15 := hid hl
  unfold insV at HD HU
  unfold insV fnV
  rw [hop] at HD HU
  rw [hop]
  obtain ⟨W, hW⟩ : ∃ W, W = (w.alloc (.cells #[.int .i64 f.sig, .slice ra R rp, bv] 39)).alloc (.cells #[.int .i64 14, .int .i64 x.dst, .int .i64 x.a, .int .i64 x.b, .int .i64 x.n, .slice a x.args.length cp] 65) := ⟨_, rfl⟩
  have k2 : Keeps [] w W := by rw [hW]; exact (Keeps.alloc [] w _).quiet (Keeps.alloc [] _ _)
  have hn1 : W.heap[w.heap.size]? = some (.cells #[.int .i64 f.sig, .slice ra R rp, bv] 39 (0, 0)) := by rw [hW]; exact keep_heap (heap_new w _) (Keeps.alloc [] _ _)
  have hn2 : W.heap[w.heap.size + 1]? = some (.cells #[.int .i64 14, .int .i64 x.dst, .int .i64 x.a, .int .i64 x.b, .int .i64 x.n, .slice a x.args.length cp] 65 (0, 0)) := by
    have := heap_new (w.alloc (.cells #[.int .i64 f.sig, .slice ra R rp, bv] 39)) (.cells #[.int .i64 14, .int .i64 x.dst, .int .i64 x.a, .int .i64 x.b, .int .i64 x.n, .slice a x.args.length cp] 65)
    rw [World.size_alloc] at this
    rw [hW]
    exact this
  have B : Box (∀ w', Keeps [] W w' → w'.cell? ⟨w.heap.size, 1, none⟩ = some (.slice ra R rp) ∧ w'.cell? ⟨w.heap.size + 1, 0, none⟩ = some (.int .i64 14) ∧ w'.cell? ⟨w.heap.size + 1, 1, none⟩ = some (.int .i64 x.dst) ∧ w'.cell? ⟨w.heap.size + 1, 2, none⟩ = some (.int .i64 x.a) ∧ w'.cell? ⟨w.heap.size + 1, 3, none⟩ = some (.int .i64 x.b) ∧ w'.cell? ⟨w.heap.size + 1, 4, none⟩ = some (.int .i64 x.n) ∧ w'.cell? ⟨w.heap.size + 1, 5, none⟩ = some (.slice a x.args.length cp)) := hid fun w' k => ⟨hcell (keep_heap hn1 k) 1, hcell (keep_heap hn2 k) 0, hcell (keep_heap hn2 k) 1, hcell (keep_heap hn2 k) 2, hcell (keep_heap hn2 k) 3, hcell (keep_heap hn2 k) 4, hcell (keep_heap hn2 k) 5⟩
  have HWE := hid hW
  have HK2 := hid k2
  clear h hr hR hty hif hz hl hop hul hW k2 hn1 hn2
  generalize hres : insOk P f x = res at *
  clear hres
  generalize hul : usesL x = ul at *
  have HUL := hid hul
  clear hul
  go_enter Tryd.func53, Tryd.ntmps53
  go_upto_region 1 with fail
  rw [← HWE.out]
  clear HWE
  generalize w.heap.size = q at *
  obtain ⟨b1, c0, c1, c2, c3, c4, c5⟩ := B.out _ (Keeps.refl _ _)
  go_wp2_with fail
  refine (HD.out _).mono ?_
  rintro e w1 ⟨rfl, k1⟩
  have KW1 := hid k1
  clear b1 c0 c1 c2 c3 c4 c5 k1
  obtain ⟨b1, c0, c1, c2, c3, c4, c5⟩ := B.out _ KW1.out
  go_wp2_with fail
  refine (HU.out _ (HK2.out.quiet KW1.out)).mono ?_
  rintro e w2 ⟨ua, uc, rfl, hu, k2⟩
  have KW2 := hid (KW1.out.quiet k2)
  have HUA := hid hu
  clear b1 c0 c1 c2 c3 c4 c5 k2 hu KW1 HD HU
  obtain ⟨b1, c0, c1, c2, c3, c4, c5⟩ := B.out _ KW2.out
  have KZ : Box (Keeps [] w w2) := hid (HK2.out.quiet KW2.out)
  obtain ⟨U, hU⟩ : ∃ U, U = ul.length := ⟨_, rfl⟩
  rw [← hU] at hul9
  rw [← hU]
  have HUN := hid hU
  clear hU
  have HID : Box (isDef x = true) := hid (by unfold isDef; rw [HOP.out]; rfl)
  go_wp2_with fail
  refine (HIN.out _ _ _).mono ?_
  rintro e w3 ⟨rfl, hw3⟩
  rw [hw3]
  clear hw3
  cases hin : inB x.dst R with
  | false =>
    have HF : Box (res = false) := hid (by
      have : regsB R x = false := by unfold regsB; rw [HID.out, hin]; rfl
      rw [HE0.out, this, Bool.false_and, Bool.and_false])
    clear hin
    go_wp2_with fail
    go_ret
    exact ⟨by rw [HF.out]; rfl, KZ.out⟩
  | true =>
  have HDI : Box ((!isDef x || inB x.dst R) = true) := hid (by rw [HID.out, hin]; rfl)
  have HDB : Box ((cntD x.op || decide (x.dst = 0)) = true) := hid (by rw [HOP.out]; rfl)
  have HDN := hid hin
  clear hin
  go_upto_region 8 with fail
  go_wp2_with fail
  go_loop [11] (fun kv => ∃ k : Nat, k ≤ U ∧ kv = .int .i64 (k : Int) ∧ Box (∀ (j : Nat) (y : Int), j < k → ul[j]? = some y → inB y R = true)) (fun kv => U - (intOf kv).toNat)
  case atStart => exact ⟨0, by omega, rfl, hid fun j y hj => by omega⟩
  case round =>
  obtain ⟨k, hk, rfl, HB⟩ := hrel
  by_cases hlt : k < U
  case pos =>
    have hlt' : (k : Int) < (U : Int) := by omega
    have hkl : k < ul.length := by rw [← HUN.out]; exact hlt
    obtain ⟨y, hy⟩ : ∃ y, ul[k]? = some y := ⟨_, List.getElem?_eq_getElem hkl⟩
    obtain ⟨ub, uo, rfl, hc⟩ : ∃ b off, ua = some ⟨b, off, none⟩ ∧ w2.cell? ⟨b, off + k, none⟩ = some (.int .i64 y) := by
      rcases HUA.out with e | ⟨b, off, e, h⟩
      · rw [e] at hy; simp at hy
      · refine ⟨b, off, e, ?_⟩
        rw [h k hkl, List.getD_eq_getElem?_getD, hy]
        rfl
    have HY := hid hy
    clear hy hkl
    go_wp2_with fail
    refine (HIN.out _ _ _).mono ?_
    rintro e w3 ⟨rfl, hw3⟩
    rw [hw3]
    clear hw3
    cases hgy : inB y R with
    | true =>
      have HG := hid hgy
      clear hgy
      go_wp2_with fail
      go_round
      case rel => exact ⟨k + 1, by omega, by go_num, hid fun j z hj hz => by
        by_cases e : j < k
        · exact HB.out j z e hz
        · obtain rfl : j = k := by omega
          rw [HY.out] at hz
          cases hz
          exact HG.out⟩
      case measure => simp [intOf]; omega
    | false =>
      have HF : Box (res = false) := hid (by
        rw [HE0.out, regs_bad (by rw [HUL.out]; exact HY.out) hgy, Bool.false_and, Bool.and_false])
      clear hgy
      go_wp2_with fail
      go_ret
      exact ⟨by rw [HF.out]; rfl, KZ.out⟩
  obtain rfl : U = k := by omega
  have HREG : Box (regsB R x = true) := hid (regs_all HDI.out (fun j y hy => HB.out j y (by rw [HUN.out, ← HUL.out]; exact (List.getElem?_eq_some_iff.1 hy).1) (by rw [← HUL.out]; exact hy)))
  have HE1 : Box (res = (restB x && numB P f x)) := hid (by rw [HE0.out, HREG.out, Bool.true_and])
  have HUI : Box (∀ (j : Nat) (y : Int), (usesL x)[j]? = some y → inB y R = true) := hid (fun j y hy => HB.out j y (by rw [HUN.out, ← HUL.out]; exact (List.getElem?_eq_some_iff.1 hy).1) (by rw [← HUL.out]; exact hy))
  clear HE0 HB hlt
  by_cases hb : x.b = 0
  case neg =>
    have ob := nneb hb
    have HF : Box (res = false) := hid (by
      have : restB x = false := by unfold restB; rw [HOP.out]; simp [cntD, cntA, cntB, cntN, cntR, hb]
      rw [HE1.out, this]
      rfl)
    clear hb
    go_wp2_with fail
    go_ret
    exact ⟨by rw [HF.out]; rfl, KZ.out⟩
  have ob := neqb hb
  have HB0 := hid hb
  clear hb
  obtain ⟨L, hL⟩ : ∃ L, L = x.args.length := ⟨_, rfl⟩
  rw [← hL] at c5 ⊢
  have HLN := hid hL
  clear hL
  by_cases hg : 0 < L
  case neg =>
    have og : ¬ (0 : Int) < (L : Int) := by omega
    have og3 : ¬ 0 < L := by omega
    clear hg
    have hrest : Box (restB x = true) := hid (by unfold restB; rw [HOP.out]; simp [cntD, cntA, cntB, cntN, cntR, HB0.out])
    have hua : inB x.a R = true := HUI.out 0 x.a (by unfold usesL; rw [HOP.out]; rfl)
    have htn : tyB P (regT f x.a) = true := reg_named HTY.out (by rw [← HRL.out]; exact hua)
    obtain ⟨g0, g1⟩ := inB_iff.1 hua
    obtain ⟨A, hA⟩ : ∃ A : Nat, x.a = (A : Int) := ⟨x.a.toNat, by omega⟩
    have hAr : (A : Int) < (R : Int) := by omega
    obtain ⟨rb, ro, heq, hrc⟩ := HRR.out.at (getD_get (l := f.regs) (k := A) (d := (0, 0)) (by have := HRL.out; omega))
    subst heq
    have hTA : regT f x.a = f.regs.getD A (0, 0) := by rw [hA, regT_in (by rw [← HRL.out, ← hA]; exact hua)]; rfl
    have t0 := cell_stays KZ.out hrc.c0.1
    have t1 := cell_stays KZ.out hrc.c1.1
    have HNUM1 : Box ((f.regs.getD A (0, 0)).1 = 3 → inB (f.regs.getD A (0, 0)).2 P.ifs.length = true ∧ res = inB x.n (ifOf P (f.regs.getD A (0, 0)).2).length) := hid (by
      intro ht
      rw [← hTA] at ht ⊢
      have h2 := ty_3 htn ht
      exact ⟨h2, by rw [HE1.out, hrest.out, num_m1 HOP.out HIF.out ht h2, Bool.true_and]⟩)
    have HNUM0 : Box ((f.regs.getD A (0, 0)).1 ≠ 3 → res = true) := hid (by
      intro ht
      rw [← hTA] at ht
      rw [HE1.out, hrest.out, num_m0 HOP.out ht]
      rfl)
    rw [hA] at c2
    have HPC := hid HPR.out.c2
    clear hua htn g0 g1 hA hrc hTA HRR
    generalize f.regs.getD A (0, 0) = T at *
    go_upto_region 28 with fail
    have hnt := heap_new w2 (.cells #[.int .i64 T.1, .int .i64 T.2] 70)
    have KT : Box (Keeps [] w2 (w2.alloc (.cells #[.int .i64 T.1, .int .i64 T.2] 70))) := hid (Keeps.alloc [] _ _)
    have n0 := hcell hnt 0
    have n1 := hcell hnt 1
    replace c4 := cell_stays KT.out c4
    clear hnt
    generalize w2.alloc (.cells #[.int .i64 T.1, .int .i64 T.2] 70) = w5 at *
    generalize w2.heap.size = q5 at *
    have KY : Box (Keeps [] w w5) := hid (KZ.out.quiet KT.out)
    clear KT t0 t1 b1 c0 c1 c2 c3 c5
    by_cases ht : T.1 = 3
    case neg =>
      have HF := hid (HNUM0.out ht)
      have ot := nneb ht
      clear ht HNUM1 HNUM0 HPC
      go_quiet (fail)
      go_wp2_with fail
      go_ret
      exact ⟨by rw [HF.out]; rfl, KY.out.quiet (Keeps.drewN _ _ _)⟩
    have h12 := HNUM1.out ht
    have ot := neqb ht
    obtain ⟨j0, j1⟩ := inB_iff.1 h12.1
    have HF0 := hid h12.2
    clear ht HNUM1 HNUM0 h12
    obtain ⟨J, hJ⟩ : ∃ J : Nat, T.2 = (J : Int) := ⟨T.2.toNat, by omega⟩
    obtain ⟨pa, pp, pc, prr, _⟩ := HPC.out
    obtain ⟨gb, go, rfl, hgc⟩ := prr.at (getD_get (l := P.ifs) (k := J) (d := []) (by omega))
    obtain ⟨ga, gp, gc, _⟩ := hgc
    have HF : Box (res = inB x.n (P.ifs.getD J []).length) := hid (by
      have := HF0.out
      unfold ifOf at this
      rw [hJ, show ((J : Int)).toNat = J by omega] at this
      exact this)
    have pc5 := cell_stays KY.out pc
    have gc5 := cell_stays KY.out gc
    have hJl : (J : Int) < (P.ifs.length : Int) := by omega
    rw [hJ] at n1
    rw [Nat.mul_one] at gc5
    clear pc prr gc HPC HF0 j0 j1 hJ
    generalize (P.ifs.getD J []).length = M at *
    generalize P.ifs.length = TN at *
    have HQ := hid (HIN.out x.n M)
    generalize inB x.n M = RB at *
    go_quiet ((go_at_call 52; exact Calls.quiet_of_same (HQ.out _)))
    go_wp2_with fail
    go_ret
    exact ⟨by rw [HF.out]; rfl, KY.out.quiet (Keeps.drewN _ _ _)⟩
  have og : (0 : Int) < (L : Int) := by omega
  have og3 : 0 < L := hg
  clear hg
  have hrest : Box (restB x = true) := hid (by unfold restB; rw [HOP.out]; simp [cntD, cntA, cntB, cntN, cntR, HB0.out])
  have hua : inB x.a R = true := HUI.out 0 x.a (by unfold usesL; rw [HOP.out]; rfl)
  have htn : tyB P (regT f x.a) = true := reg_named HTY.out (by rw [← HRL.out]; exact hua)
  obtain ⟨g0, g1⟩ := inB_iff.1 hua
  obtain ⟨A, hA⟩ : ∃ A : Nat, x.a = (A : Int) := ⟨x.a.toNat, by omega⟩
  have hAr : (A : Int) < (R : Int) := by omega
  obtain ⟨rb, ro, heq, hrc⟩ := HRR.out.at (getD_get (l := f.regs) (k := A) (d := (0, 0)) (by have := HRL.out; omega))
  subst heq
  have hTA : regT f x.a = f.regs.getD A (0, 0) := by rw [hA, regT_in (by rw [← HRL.out, ← hA]; exact hua)]; rfl
  have t0 := cell_stays KZ.out hrc.c0.1
  have t1 := cell_stays KZ.out hrc.c1.1
  have HNUM1 : Box ((f.regs.getD A (0, 0)).1 = 3 → inB (f.regs.getD A (0, 0)).2 P.ifs.length = true ∧ res = inB x.n (ifOf P (f.regs.getD A (0, 0)).2).length) := hid (by
    intro ht
    rw [← hTA] at ht ⊢
    have h2 := ty_3 htn ht
    exact ⟨h2, by rw [HE1.out, hrest.out, num_m1 HOP.out HIF.out ht h2, Bool.true_and]⟩)
  have HNUM0 : Box ((f.regs.getD A (0, 0)).1 ≠ 3 → res = true) := hid (by
    intro ht
    rw [← hTA] at ht
    rw [HE1.out, hrest.out, num_m0 HOP.out ht]
    rfl)
  rw [hA] at c2
  have HPC := hid HPR.out.c2
  clear hua htn g0 g1 hA hrc hTA HRR
  generalize f.regs.getD A (0, 0) = T at *
  go_upto_region 28 with fail
  have hnt := heap_new w2 (.cells #[.int .i64 T.1, .int .i64 T.2] 70)
  have KT : Box (Keeps [] w2 (w2.alloc (.cells #[.int .i64 T.1, .int .i64 T.2] 70))) := hid (Keeps.alloc [] _ _)
  have n0 := hcell hnt 0
  have n1 := hcell hnt 1
  replace c4 := cell_stays KT.out c4
  clear hnt
  generalize w2.alloc (.cells #[.int .i64 T.1, .int .i64 T.2] 70) = w5 at *
  generalize w2.heap.size = q5 at *
  have KY : Box (Keeps [] w w5) := hid (KZ.out.quiet KT.out)
  clear KT t0 t1 b1 c0 c1 c2 c3 c5
  by_cases ht : T.1 = 3
  case neg =>
    have HF := hid (HNUM0.out ht)
    have ot := nneb ht
    clear ht HNUM1 HNUM0 HPC
    go_quiet (fail)
    go_wp2_with fail
    go_ret
    exact ⟨by rw [HF.out]; rfl, KY.out.quiet (Keeps.drewN _ _ _)⟩
  have h12 := HNUM1.out ht
  have ot := neqb ht
  obtain ⟨j0, j1⟩ := inB_iff.1 h12.1
  have HF0 := hid h12.2
  clear ht HNUM1 HNUM0 h12
  obtain ⟨J, hJ⟩ : ∃ J : Nat, T.2 = (J : Int) := ⟨T.2.toNat, by omega⟩
  obtain ⟨pa, pp, pc, prr, _⟩ := HPC.out
  obtain ⟨gb, go, rfl, hgc⟩ := prr.at (getD_get (l := P.ifs) (k := J) (d := []) (by omega))
  obtain ⟨ga, gp, gc, _⟩ := hgc
  have HF : Box (res = inB x.n (P.ifs.getD J []).length) := hid (by
    have := HF0.out
    unfold ifOf at this
    rw [hJ, show ((J : Int)).toNat = J by omega] at this
    exact this)
  have pc5 := cell_stays KY.out pc
  have gc5 := cell_stays KY.out gc
  have hJl : (J : Int) < (P.ifs.length : Int) := by omega
  rw [hJ] at n1
  rw [Nat.mul_one] at gc5
  clear pc prr gc HPC HF0 j0 j1 hJ
  generalize (P.ifs.getD J []).length = M at *
  generalize P.ifs.length = TN at *
  have HQ := hid (HIN.out x.n M)
  generalize inB x.n M = RB at *
  go_quiet ((go_at_call 52; exact Calls.quiet_of_same (HQ.out _)))
  go_wp2_with fail
  go_ret
  exact ⟨by rw [HF.out]; rfl, KY.out.quiet (Keeps.drewN _ _ _)⟩
set_option maxRecDepth 20000 in
set_option maxHeartbeats 2000000 in
theorem rins_out {w : World} {pb po : Nat} {P : Pr8} {f : Fu8} (v1 v2 v3 : Value) (x : In8) (ar : Value) (ho : x.op < 1 ∨ (¬ x.op < 1 ∧ 15 < x.op)) : Calls Tryd.prog 53 #[.pointer (some ⟨pb, po, none⟩), .agg #[v1, v2, v3], insV x ar] w fun e w' => e = .returned (.bool (insOk P f x)) ∧ Keeps [] w w' := by
  have HF : Box (insOk P f x = false) := hid (by
    have : restB x = false := by
      unfold restB
      rw [show decide (1 ≤ x.op ∧ x.op ≤ 15) = false from decide_eq_false (by omega)]
      rfl
    unfold insOk
    rw [this]
    rfl)
  generalize insOk P f x = res at *
  have HK : Box (Keeps [] w ((w.alloc (.cells #[v1, v2, v3] 39)).alloc (.cells #[.int .i64 x.op, .int .i64 x.dst, .int .i64 x.a, .int .i64 x.b, .int .i64 x.n, ar] 65))) := hid ((Keeps.alloc [] _ _).quiet (Keeps.alloc [] _ _))
  unfold insV
  rcases ho with h1 | ⟨h1, h2⟩
  all_goals (
    go_enter Tryd.func53, Tryd.ntmps53
    go_wp2_with fail
    go_ret
    exact ⟨by rw [HF.out]; rfl, HK.out⟩)
theorem rinstr_any {w : World} {pb po : Nat} {P : Pr8} (h : PrC w pb po P) {f : Fu8} {ra : Option Addr} {R : Nat} (hr : RowsAt w 2 TyC ra f.regs) (hR : R = f.regs.length) (rp : Nat) (bv : Value) (hty : tysB P f.regs = true) (hif : P.ifs.all (fun l => insB l P.sigs.length) = true) (x : In8) {a : Option Addr} {cp : Nat} (hz : IntsAt w a x.args) (hl : x.args.length ≤ 1000) : Calls Tryd.prog 53 #[.pointer (some ⟨pb, po, none⟩), fnV f.sig ra R rp bv, insV x (.slice a x.args.length cp)] w fun e w' => e = .returned (.bool (insOk P f x)) ∧ Keeps [] w w' := by
  by_cases ho : x.op < 1 ∨ (¬ x.op < 1 ∧ 15 < x.op)
  · exact rins_out _ _ _ x _ ho
  have h15 : x.op = 1 ∨ x.op = 2 ∨ x.op = 3 ∨ x.op = 4 ∨ x.op = 5 ∨ x.op = 6 ∨ x.op = 7 ∨ x.op = 8 ∨ x.op = 9 ∨ x.op = 10 ∨ x.op = 11 ∨ x.op = 12 ∨ x.op = 13 ∨ x.op = 14 ∨ x.op = 15 := by omega
  rcases h15 with e | e | e | e | e | e | e | e | e | e | e | e | e | e | e
  · exact rins_1 h hr hR rp bv hty hif x hz hl e
  · exact rins_2 h hr hR rp bv hty hif x hz hl e
  · exact rins_3 h hr hR rp bv hty hif x hz hl e
  · exact rins_4 h hr hR rp bv hty hif x hz hl e
  · exact rins_5 h hr hR rp bv hty hif x hz hl e
  · exact rins_6 h hr hR rp bv hty hif x hz hl e
  · exact rins_7 h hr hR rp bv hty hif x hz hl e
  · exact rins_8 h hr hR rp bv hty hif x hz hl e
  · exact rins_9 h hr hR rp bv hty hif x hz hl e
  · exact rins_10 h hr hR rp bv hty hif x hz hl e
  · exact rins_11 h hr hR rp bv hty hif x hz hl e
  · exact rins_12 h hr hR rp bv hty hif x hz hl e
  · exact rins_13 h hr hR rp bv hty hif x hz hl e
  · exact rins_14 h hr hR rp bv hty hif x hz hl e
  · exact rins_15 h hr hR rp bv hty hif x hz hl e
end Go.Proofs.YtmebkeidpklcbaaDoor
