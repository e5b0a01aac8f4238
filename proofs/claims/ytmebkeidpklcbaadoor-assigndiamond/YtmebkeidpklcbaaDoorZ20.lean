/-
  The document's own ending.
  A region that draws its order, whose operations read, make new memory, or write what is one's own: what each gives is named ahead, what is written is told by which operations have come up.
  More helpers for regions whose values are named ahead; lists by their heads.
-/
import Derived.Test.YtmebkeidpklcbaaDoorRows
import Derived.WalkKit
import Derived.WalkSpells
import Derived.WalkLawsBesides
import Derived.OwnWalk
import Derived.Deep.QuietTactic
import Derived.BigQuiet
import Derived.Maps.AppendAt
import Derived.Lib.Builder
import Derived.Deep.OwnRows
import Derived.Deep.DeepCutAuto
import Derived.Deep.AppendLies
import Derived.LaidEql
import Derived.Stop.Asserts
import Derived.RowKitTokens
import Derived.Defers
import Derived.Recover
import Derived.Deep.RegionLaw
import Derived.Deep.RegionHeld
import Derived.Deep.RegionWith
import Derived.Deep.RegionHeld3
import Derived.Laws.AppendOwnNone
import Derived.Test.YtmebkeidpklcbaaDoorZ04
import Derived.Test.YtmebkeidpklcbaaDoorZ06
import Derived.Test.YtmebkeidpklcbaaDoorZ13

namespace Go.Proofs.YtmebkeidpklcbaaDoor
open Go.RowKit

set_option maxRecDepth 20000 in
set_option maxHeartbeats 2000000 in
theorem rend_1 (sg : Int) (ra : Option Addr) (R rp : Nat) (ba : Option Addr) (B bp : Nat) (cv : Value) (reg tt els : Int) (w : World) : Calls Tryd.prog 54 #[.agg #[.int .i64 sg, .slice ra R rp, .slice ba B bp], .agg #[cv, .int .i64 1, .int .i64 reg, .int .i64 tt, .int .i64 els]] w fun e w' => e = .returned (.bool (endB R B 1 reg tt els)) ∧ Keeps [] w w' := by
  obtain ⟨W, hW⟩ : ∃ W, W = (w.alloc (.cells #[.int .i64 sg, .slice ra R rp, .slice ba B bp] 39)).alloc (.cells #[cv, .int .i64 1, .int .i64 reg, .int .i64 tt, .int .i64 els] 63) := ⟨_, rfl⟩
  have k2 : Keeps [] w W := by rw [hW]; exact (Keeps.alloc [] w _).quiet (Keeps.alloc [] _ _)
  have hn1 : W.heap[w.heap.size]? = some (.cells #[.int .i64 sg, .slice ra R rp, .slice ba B bp] 39 (0, 0)) := by rw [hW]; exact keep_heap (heap_new w _) (Keeps.alloc [] _ _)
  have hn2 : W.heap[w.heap.size + 1]? = some (.cells #[cv, .int .i64 1, .int .i64 reg, .int .i64 tt, .int .i64 els] 63 (0, 0)) := by
    have := heap_new (w.alloc (.cells #[.int .i64 sg, .slice ra R rp, .slice ba B bp] 39)) (.cells #[cv, .int .i64 1, .int .i64 reg, .int .i64 tt, .int .i64 els] 63)
    rw [World.size_alloc] at this
    rw [hW]
    exact this
  have HN1 := hid hn1
  have HN2 := hid hn2
  have HIN := hid fun (k : Int) (n : Nat) (w : World) => rfin_any k n w
  have HQ := hid (rfin_any reg R)
  have HWE := hid hW
  have HK := hid k2
  clear k2 hn1 hn2 hW
  have HE : Box (endB R B 1 reg tt els = (decide (reg = 0) && (inB tt B && decide (els = 0)))) := hid rfl
  generalize endB R B 1 reg tt els = res at *
  go_enter Tryd.func54, Tryd.ntmps54
  go_upto_region 1 with fail
  rw [← HWE.out]
  clear HWE
  generalize w.heap.size = q at *
  have f1 := hcell HN1.out 1
  have f2 := hcell HN1.out 2
  have b2 := hcell HN2.out 2
  generalize inB reg R = rb at *
  go_quiet ((go_at_call 52; exact Calls.quiet_of_same (HQ.out _)))
  have KD : Box (Keeps [] W (W.drewN nq)) := hid (Keeps.drewN _ _ _)
  generalize W.drewN nq = W3 at *
  have j2 := keep_heap HN2.out KD.out
  have KZ := hid (HK.out.quiet KD.out)
  clear f1 f2 b2
  have b1 := hcell j2 1
  have b2 := hcell j2 2
  have b3 := hcell j2 3
  have b4 := hcell j2 4
  clear j2
  by_cases h0 : reg = 0
  case neg =>
    have q0 := neb h0
    have HF : Box (res = false) := hid (by rw [HE.out]; simp [h0])
    clear h0 HE
    go_wp2_with fail
    go_ret
    exact ⟨by rw [HF.out]; rfl, KZ.out⟩
  have q0 := eqb h0
  by_cases h4 : els = 0
  case neg =>
    have q4 := neb h4
    have HF : Box (res = false) := hid (by rw [HE.out]; simp [h4])
    clear h0 h4 HE
    go_wp2_with fail
    go_ret
    exact ⟨by rw [HF.out]; rfl, KZ.out⟩
  have q4 := eqb h4
  have HF : Box (res = inB tt B) := hid (by rw [HE.out]; simp [h0, h4])
  clear h0 h4 HE
  go_wp2_with fail
  refine (HIN.out _ _ _).mono ?_
  rintro e w5 ⟨rfl, hw5⟩
  rw [hw5]
  clear hw5
  go_wp2_with fail
  go_ret
  exact ⟨by rw [HF.out]; rfl, KZ.out⟩
set_option maxRecDepth 20000 in
set_option maxHeartbeats 2000000 in
theorem rend_2 (sg : Int) (ra : Option Addr) (R rp : Nat) (ba : Option Addr) (B bp : Nat) (cv : Value) (reg tt els : Int) (w : World) : Calls Tryd.prog 54 #[.agg #[.int .i64 sg, .slice ra R rp, .slice ba B bp], .agg #[cv, .int .i64 2, .int .i64 reg, .int .i64 tt, .int .i64 els]] w fun e w' => e = .returned (.bool (endB R B 2 reg tt els)) ∧ Keeps [] w w' := by
  obtain ⟨W, hW⟩ : ∃ W, W = (w.alloc (.cells #[.int .i64 sg, .slice ra R rp, .slice ba B bp] 39)).alloc (.cells #[cv, .int .i64 2, .int .i64 reg, .int .i64 tt, .int .i64 els] 63) := ⟨_, rfl⟩
  have k2 : Keeps [] w W := by rw [hW]; exact (Keeps.alloc [] w _).quiet (Keeps.alloc [] _ _)
  have hn1 : W.heap[w.heap.size]? = some (.cells #[.int .i64 sg, .slice ra R rp, .slice ba B bp] 39 (0, 0)) := by rw [hW]; exact keep_heap (heap_new w _) (Keeps.alloc [] _ _)
  have hn2 : W.heap[w.heap.size + 1]? = some (.cells #[cv, .int .i64 2, .int .i64 reg, .int .i64 tt, .int .i64 els] 63 (0, 0)) := by
    have := heap_new (w.alloc (.cells #[.int .i64 sg, .slice ra R rp, .slice ba B bp] 39)) (.cells #[cv, .int .i64 2, .int .i64 reg, .int .i64 tt, .int .i64 els] 63)
    rw [World.size_alloc] at this
    rw [hW]
    exact this
  have HN1 := hid hn1
  have HN2 := hid hn2
  have HIN := hid fun (k : Int) (n : Nat) (w : World) => rfin_any k n w
  have HQ := hid (rfin_any reg R)
  have HWE := hid hW
  have HK := hid k2
  clear k2 hn1 hn2 hW
  have HE : Box (endB R B 2 reg tt els = (inB reg R && (inB tt B && inB els B))) := hid rfl
  generalize endB R B 2 reg tt els = res at *
  go_enter Tryd.func54, Tryd.ntmps54
  go_upto_region 1 with fail
  rw [← HWE.out]
  clear HWE
  generalize w.heap.size = q at *
  have f1 := hcell HN1.out 1
  have f2 := hcell HN1.out 2
  have b2 := hcell HN2.out 2
  generalize inB reg R = rb at *
  go_quiet ((go_at_call 52; exact Calls.quiet_of_same (HQ.out _)))
  have KD : Box (Keeps [] W (W.drewN nq)) := hid (Keeps.drewN _ _ _)
  generalize W.drewN nq = W3 at *
  have j2 := keep_heap HN2.out KD.out
  have KZ := hid (HK.out.quiet KD.out)
  clear f1 f2 b2
  have b1 := hcell j2 1
  have b2 := hcell j2 2
  have b3 := hcell j2 3
  have b4 := hcell j2 4
  clear j2
  cases rb with
  | false =>
    have HF : Box (res = false) := hid (by rw [HE.out]; rfl)
    clear HE
    go_wp2_with fail
    go_ret
    exact ⟨by rw [HF.out]; rfl, KZ.out⟩
  | true =>
    go_wp2_with fail
    refine (HIN.out _ _ _).mono ?_
    rintro e w5 ⟨rfl, hw5⟩
    rw [hw5]
    clear hw5
    have HE2 : Box (res = (inB tt B && inB els B)) := hid (by rw [HE.out, Bool.true_and])
    clear HE
    generalize inB tt B = tb at *
    cases tb with
    | false =>
      have HF : Box (res = false) := hid (by rw [HE2.out]; rfl)
      go_wp2_with fail
      go_ret
      exact ⟨by rw [HF.out]; rfl, KZ.out⟩
    | true =>
      have HF : Box (res = inB els B) := hid (by rw [HE2.out]; rfl)
      go_wp2_with fail
      refine (HIN.out _ _ _).mono ?_
      rintro e w5 ⟨rfl, hw5⟩
      rw [hw5]
      clear hw5
      go_wp2_with fail
      go_ret
      exact ⟨by rw [HF.out]; rfl, KZ.out⟩
set_option maxRecDepth 20000 in
set_option maxHeartbeats 2000000 in
theorem rend_3 (sg : Int) (ra : Option Addr) (R rp : Nat) (ba : Option Addr) (B bp : Nat) (cv : Value) (reg tt els : Int) (w : World) : Calls Tryd.prog 54 #[.agg #[.int .i64 sg, .slice ra R rp, .slice ba B bp], .agg #[cv, .int .i64 3, .int .i64 reg, .int .i64 tt, .int .i64 els]] w fun e w' => e = .returned (.bool (endB R B 3 reg tt els)) ∧ Keeps [] w w' := by
  obtain ⟨W, hW⟩ : ∃ W, W = (w.alloc (.cells #[.int .i64 sg, .slice ra R rp, .slice ba B bp] 39)).alloc (.cells #[cv, .int .i64 3, .int .i64 reg, .int .i64 tt, .int .i64 els] 63) := ⟨_, rfl⟩
  have k2 : Keeps [] w W := by rw [hW]; exact (Keeps.alloc [] w _).quiet (Keeps.alloc [] _ _)
  have hn1 : W.heap[w.heap.size]? = some (.cells #[.int .i64 sg, .slice ra R rp, .slice ba B bp] 39 (0, 0)) := by rw [hW]; exact keep_heap (heap_new w _) (Keeps.alloc [] _ _)
  have hn2 : W.heap[w.heap.size + 1]? = some (.cells #[cv, .int .i64 3, .int .i64 reg, .int .i64 tt, .int .i64 els] 63 (0, 0)) := by
    have := heap_new (w.alloc (.cells #[.int .i64 sg, .slice ra R rp, .slice ba B bp] 39)) (.cells #[cv, .int .i64 3, .int .i64 reg, .int .i64 tt, .int .i64 els] 63)
    rw [World.size_alloc] at this
    rw [hW]
    exact this
  have HN1 := hid hn1
  have HN2 := hid hn2
  have HIN := hid fun (k : Int) (n : Nat) (w : World) => rfin_any k n w
  have HQ := hid (rfin_any reg R)
  have HWE := hid hW
  have HK := hid k2
  clear k2 hn1 hn2 hW
  have HE : Box (endB R B 3 reg tt els = (inB reg R && (decide (tt = 0) && decide (els = 0)))) := hid rfl
  generalize endB R B 3 reg tt els = res at *
  go_enter Tryd.func54, Tryd.ntmps54
  go_upto_region 1 with fail
  rw [← HWE.out]
  clear HWE
  generalize w.heap.size = q at *
  have f1 := hcell HN1.out 1
  have f2 := hcell HN1.out 2
  have b2 := hcell HN2.out 2
  generalize inB reg R = rb at *
  go_quiet ((go_at_call 52; exact Calls.quiet_of_same (HQ.out _)))
  have KD : Box (Keeps [] W (W.drewN nq)) := hid (Keeps.drewN _ _ _)
  generalize W.drewN nq = W3 at *
  have j2 := keep_heap HN2.out KD.out
  have KZ := hid (HK.out.quiet KD.out)
  clear f1 f2 b2
  have b1 := hcell j2 1
  have b2 := hcell j2 2
  have b3 := hcell j2 3
  have b4 := hcell j2 4
  clear j2
  cases rb with
  | false =>
    have HF : Box (res = false) := hid (by rw [HE.out]; rfl)
    clear HE
    go_wp2_with fail
    go_ret
    exact ⟨by rw [HF.out]; rfl, KZ.out⟩
  | true =>
    by_cases h3 : tt = 0
    case neg =>
      have q3 := neb h3
      have HF : Box (res = false) := hid (by rw [HE.out]; simp [h3])
      clear h3 HE
      go_wp2_with fail
      go_ret
      exact ⟨by rw [HF.out]; rfl, KZ.out⟩
    have q3 := eqb h3
    have HF : Box (res = (els == 0)) := hid (by
      rw [HE.out, h3]
      by_cases e : els = 0 <;> simp [e])
    clear h3 HE
    go_wp2_with fail
    go_ret
    exact ⟨by rw [HF.out]; rfl, KZ.out⟩
set_option maxRecDepth 20000 in
set_option maxHeartbeats 2000000 in
theorem rend_no (sg : Int) (ra : Option Addr) (R rp : Nat) (ba : Option Addr) (B bp : Nat) (cv : Value) (reg tt els : Int) (w : World) (fin : Int) (h1 : fin ≠ 1) (h2 : fin ≠ 2) (h3 : fin ≠ 3) : Calls Tryd.prog 54 #[.agg #[.int .i64 sg, .slice ra R rp, .slice ba B bp], .agg #[cv, .int .i64 fin, .int .i64 reg, .int .i64 tt, .int .i64 els]] w fun e w' => e = .returned (.bool (endB R B fin reg tt els)) ∧ Keeps [] w w' := by
  obtain ⟨W, hW⟩ : ∃ W, W = (w.alloc (.cells #[.int .i64 sg, .slice ra R rp, .slice ba B bp] 39)).alloc (.cells #[cv, .int .i64 fin, .int .i64 reg, .int .i64 tt, .int .i64 els] 63) := ⟨_, rfl⟩
  have k2 : Keeps [] w W := by rw [hW]; exact (Keeps.alloc [] w _).quiet (Keeps.alloc [] _ _)
  have hn1 : W.heap[w.heap.size]? = some (.cells #[.int .i64 sg, .slice ra R rp, .slice ba B bp] 39 (0, 0)) := by rw [hW]; exact keep_heap (heap_new w _) (Keeps.alloc [] _ _)
  have hn2 : W.heap[w.heap.size + 1]? = some (.cells #[cv, .int .i64 fin, .int .i64 reg, .int .i64 tt, .int .i64 els] 63 (0, 0)) := by
    have := heap_new (w.alloc (.cells #[.int .i64 sg, .slice ra R rp, .slice ba B bp] 39)) (.cells #[cv, .int .i64 fin, .int .i64 reg, .int .i64 tt, .int .i64 els] 63)
    rw [World.size_alloc] at this
    rw [hW]
    exact this
  have HN1 := hid hn1
  have HN2 := hid hn2
  have HIN := hid fun (k : Int) (n : Nat) (w : World) => rfin_any k n w
  have HQ := hid (rfin_any reg R)
  have HWE := hid hW
  have HK := hid k2
  clear k2 hn1 hn2 hW
  have HE : Box (endB R B fin reg tt els = false) := hid (by unfold endB; rw [if_neg h1, if_neg h2, if_neg h3])
  have o1 := neb h1
  have o2 := neb h2
  have o3 := neb h3
  clear h1 h2 h3
  generalize endB R B fin reg tt els = res at *
  go_enter Tryd.func54, Tryd.ntmps54
  go_upto_region 1 with fail
  rw [← HWE.out]
  clear HWE
  generalize w.heap.size = q at *
  have f1 := hcell HN1.out 1
  have f2 := hcell HN1.out 2
  have b2 := hcell HN2.out 2
  generalize inB reg R = rb at *
  go_quiet ((go_at_call 52; exact Calls.quiet_of_same (HQ.out _)))
  have KD : Box (Keeps [] W (W.drewN nq)) := hid (Keeps.drewN _ _ _)
  generalize W.drewN nq = W3 at *
  have j2 := keep_heap HN2.out KD.out
  have KZ := hid (HK.out.quiet KD.out)
  clear f1 f2 b2
  have b1 := hcell j2 1
  have b2 := hcell j2 2
  have b3 := hcell j2 3
  have b4 := hcell j2 4
  clear j2
  go_wp2_with fail
  go_ret
  exact ⟨by rw [HE.out]; rfl, KZ.out⟩
theorem rend_any (sg : Int) (ra : Option Addr) (R rp : Nat) (ba : Option Addr) (B bp : Nat) (cv : Value) (fin reg tt els : Int) (w : World) : Calls Tryd.prog 54 #[.agg #[.int .i64 sg, .slice ra R rp, .slice ba B bp], .agg #[cv, .int .i64 fin, .int .i64 reg, .int .i64 tt, .int .i64 els]] w fun e w' => e = .returned (.bool (endB R B fin reg tt els)) ∧ Keeps [] w w' := by
  by_cases h1 : fin = 1
  · subst h1; exact rend_1 sg ra R rp ba B bp cv reg tt els w
  by_cases h2 : fin = 2
  · subst h2; exact rend_2 sg ra R rp ba B bp cv reg tt els w
  by_cases h3 : fin = 3
  · subst h3; exact rend_3 sg ra R rp ba B bp cv reg tt els w
  exact rend_no sg ra R rp ba B bp cv reg tt els w fin h1 h2 h3
section
variable {P : Program} {ops : Array Oper} {Q : Exit → Act → World → Prop} {S : World → Prop} {E : Array Bool → World → Prop}

/-- What an operation gives. -/
def GiveE (P : Program) (ops : Array Oper) (A : Act) (S : World → Prop) (E : Array Bool → World → Prop) (i : Nat) (o : Oper) (v : Value) : Prop :=
  (Region.wanted o (yielded ops A.tmps) = true ∧ ∀ l w, i < l.size → S w → E l w →
    ((∃ w', (execOp A.eval o).run P w = .ok (.value v) w' ∧ S w' ∧ E (l.setIfInBounds i true) w') ∨
     (∃ w', (execOp A.eval o).run P w = .ok .skip w' ∧ v = undef ∧ S w' ∧ E (l.setIfInBounds i true) w') ∨
     (∃ f args, (execOp A.eval o).run P w = .ok (.enter f args) w ∧ Calls P f args w fun e w' => e = .returned v ∧ S w' ∧ E (l.setIfInBounds i true) w'))) ∨
  (Region.wanted o (yielded ops A.tmps) = false ∧ v = undef ∧ ∀ l w, S w → E l w → E (l.setIfInBounds i true) w)
theorem giveE_yield {A : Act} {i : Nat} {o : Oper} {v : Value} (hw : Region.wanted o (yielded ops A.tmps) = true) (hE : ∀ l w, E l w → E (l.setIfInBounds i true) w) (h : ∀ w, S w → (execOp A.eval o).run P w = .ok (.value v) w) : GiveE P ops A S E i o v :=
  .inl ⟨hw, fun l w _ hs he => .inl ⟨w, h w hs, hs, hE l w he⟩⟩
theorem giveE_pass {A : Act} {i : Nat} {o : Oper} (hw : Region.wanted o (yielded ops A.tmps) = false) (hE : ∀ l w, E l w → E (l.setIfInBounds i true) w) : GiveE P ops A S E i o undef := .inr ⟨hw, rfl, fun l w _ he => hE l w he⟩
theorem giveE_skip {A : Act} {i : Nat} {o : Oper} (hw : Region.wanted o (yielded ops A.tmps) = true) (h : ∀ l w, i < l.size → S w → E l w → ∃ w', (execOp A.eval o).run P w = .ok .skip w' ∧ S w' ∧ E (l.setIfInBounds i true) w') : GiveE P ops A S E i o undef :=
  .inl ⟨hw, fun l w hi hs he => by
    obtain ⟨w', h1, h2, h3⟩ := h l w hi hs he
    exact .inr (.inl ⟨w', h1, rfl, h2, h3⟩)⟩
theorem giveE_call {A : Act} {i : Nat} {o : Oper} {v : Value} (hw : Region.wanted o (yielded ops A.tmps) = true) (f : Nat) (args : Array Value) (he : ∀ w, (execOp A.eval o).run P w = .ok (.enter f args) w)
    (hc : ∀ l w, i < l.size → S w → E l w → Calls P f args w fun e w' => e = .returned v ∧ S w' ∧ E (l.setIfInBounds i true) w') : GiveE P ops A S E i o v :=
  .inl ⟨hw, fun l w hi hs hE => .inr (.inr ⟨f, args, he w, hc l w hi hs hE⟩)⟩
def AllGiveE (P : Program) (ops : Array Oper) (A : Act) (S : World → Prop) (E : Array Bool → World → Prop) : Nat → List Oper → List Value → Prop
  | i, o :: os, v :: vs => GiveE P ops A S E i o v ∧ AllGiveE P ops A S E (i + 1) os vs
  | _, [], [] => True
  | _, _, _ => False
theorem AllGiveE.cons {A : Act} {i : Nat} {o : Oper} {v : Value} {os : List Oper} {vs : List Value} (h : GiveE P ops A S E i o v) (t : AllGiveE P ops A S E (i + 1) os vs) : AllGiveE P ops A S E i (o :: os) (v :: vs) := ⟨h, t⟩
theorem AllGiveE.nil {A : Act} {i : Nat} : AllGiveE P ops A S E i [] [] := trivial
theorem AllGiveE.at {A : Act} : ∀ {os : List Oper} {vs : List Value} {i : Nat}, AllGiveE P ops A S E i os vs → ∀ {k : Nat} {o : Oper}, os[k]? = some o → ∃ v, vs[k]? = some v ∧ GiveE P ops A S E (i + k) o v
  | [], _, _, _, k, o, ho => by simp at ho
  | _ :: _, [], _, h, _, _, _ => by cases h
  | o :: os, v :: vs, i, h, 0, o', ho => by
    simp at ho
    subst ho
    exact ⟨v, rfl, h.1⟩
  | o :: os, v :: vs, i, h, k + 1, o', ho => by
    obtain ⟨u, hu, hg⟩ := AllGiveE.at h.2 (k := k) (by simpa using ho)
    exact ⟨u, by simpa using hu, by rw [show i + (k + 1) = i + 1 + k by omega]; exact hg⟩
/-- Whatever has come up. -/
structure DetE (ops : Array Oper) (S : World → Prop) (E : Array Bool → World → Prop) (a A : Act) (l : Array Bool) (a' : Act) (w : World) : Prop where
  size : l.size = ops.size
  kept : S w
  told : E l w
  sz : a'.tmps.size = a.tmps.size
  df : a'.defers = a.defers
  on : ∀ (i : Nat) (oi : Oper) (d : Nat), ops[i]? = some oi → oi.dst = some d → l.getD i false = true → a'.tmps[d]? = A.tmps[d]?
  off : ∀ d : Nat, (∀ (i : Nat) (oi : Oper), ops[i]? = some oi → oi.dst = some d → l.getD i false = false) → a'.tmps[d]? = a.tmps[d]?
theorem wp_region_detE {id : Nat} {a : Act} {w : World} (S : World → Prop) (E : Array Bool → World → Prop) (n : Nat) (vs : List Value) (hm : P.follows .mixedOrders = true) (hn : a.tmps.size = n) (hok : detOk ops n = true) (hk : S w.drew) (he : E (Array.replicate ops.size false) w.drew)
    (h : ∀ A, putAll ops.toList vs a = A → AllGiveE P ops A S E 0 ops.toList vs ∧ ∀ l w', (∀ i, i < ops.size → l.getD i false = true) → S w' → E l w' → Q .normal A w') : (Code.region id ops true).wp P Q a w := by
  obtain ⟨A, hA⟩ : ∃ A, putAll ops.toList vs a = A := ⟨_, rfl⟩
  obtain ⟨hg, hQ⟩ := h A hA
  unfold detOk at hok
  rw [Bool.and_eq_true, Bool.and_eq_true] at hok
  obtain ⟨hsel, hp, hall⟩ := hok
  have pair : ∀ (i j : Nat) (oi oj : Oper), ops[i]? = some oi → ops[j]? = some oj → detPair ops n i j = true := fun i j oi oj hi hj => by
    have h1 := List.all_eq_true.1 hp i (List.mem_range.2 (Array.getElem?_eq_some_iff.1 hi).1)
    exact List.all_eq_true.1 h1 j (List.mem_range.2 (Array.getElem?_eq_some_iff.1 hj).1)
  have dist : ∀ (i j : Nat) (oi oj : Oper) (d : Nat), ops[i]? = some oi → ops[j]? = some oj → i ≠ j → oi.dst = some d → oj.dst ≠ some d := fun i j oi oj d hi hj hij hd he => by
    have := pair i j oi oj hi hj
    unfold detPair at this
    rw [hi, hj] at this
    simp [hij, hd, he] at this
  have lt : ∀ (i : Nat) (oi : Oper) (d : Nat), ops[i]? = some oi → oi.dst = some d → d < n := fun i oi d hi hd => by
    have := pair i i oi oi hi hi
    unfold detPair at this
    rw [hi] at this
    simp only [hd, Bool.and_eq_true, decide_eq_true_eq] at this
    exact this.2.1
  have waits : ∀ (i j : Nat) (oi oj : Oper) (d : Nat), ops[i]? = some oi → ops[j]? = some oj → oj.dst = some d → d ∈ oi.looksAt ops → oi.after.any (fun e => Region.binds .any e && e.on == j) = true := fun i j oi oj d hi hj hd hm => by
    have := pair i j oi oj hi hj
    unfold detPair at this
    rw [hi, hj] at this
    simp only [hd, Bool.and_eq_true, Bool.or_eq_true, Bool.not_eq_true', decide_eq_true_eq] at this
    rcases this.2.2 with h0 | h0
    · rw [List.contains_iff_mem.2 hm] at h0
      cases h0
    · exact h0
  have aOther : ∀ d : Nat, (∀ (i : Nat) (oi : Oper), ops[i]? = some oi → oi.dst ≠ some d) → A.tmps[d]? = a.tmps[d]? := fun d hd => by
    rw [← hA]
    exact putAll_other _ _ _ (fun k o ho => hd k o (by rw [← Array.getElem?_toList]; exact ho))
  have aAt : ∀ (i : Nat) (oi : Oper) (d : Nat) (v : Value), ops[i]? = some oi → oi.dst = some d → vs[i]? = some v → A.tmps[d]? = some v := fun i oi d v hi hd hv => by
    rw [← hA]
    exact putAll_at _ _ _ i (by rw [Array.getElem?_toList]; exact hi) hv hd (by rw [hn]; exact lt i oi d hi hd) (fun j oj hj ho => dist i j oi oj d hi (by rw [← Array.getElem?_toList]; exact ho) (Ne.symm hj) hd)
  refine wp_region_held_drew (S := S) hm hk (fun hS => ?_)
  refine wpAnyH_inv (DetE ops S E a A) (fun _ _ _ h => h.kept) (fun l a' w' hI hr => ?_) (fun l a' w' i hI hr => ?_) _ _ _ _ ?_ ?_
  · have hl := all_listed (md := .any) (ops := ops) hI.size hr hall
    have e : a' = A := by
      have ht : a'.tmps = A.tmps := by
        apply Array.ext_getElem?
        intro d
        by_cases hx : ∃ (i : Nat) (oi : Oper), ops[i]? = some oi ∧ oi.dst = some d
        · obtain ⟨i, oi, hi, hd⟩ := hx
          exact hI.on i oi d hi hd (hl i (Array.getElem?_eq_some_iff.1 hi).1)
        · have hno : ∀ (i : Nat) (oi : Oper), ops[i]? = some oi → oi.dst ≠ some d := fun i oi hi hd => hx ⟨i, oi, hi, hd⟩
          rw [hI.off d (fun i oi hi hd => absurd hd (hno i oi hi)), aOther d hno]
      have hdf : a'.defers = A.defers := by rw [hI.df, ← hA, putAll_defers]
      cases a'
      cases A
      simp only at ht hdf
      rw [ht, hdf]
    rw [e]
    exact hQ l w' hl hI.kept hI.told
  · obtain ⟨hun, oi, hi, hw8⟩ := mem_ready.1 hr
    have hil : i < l.size := by rw [hI.size]; exact (Array.getElem?_eq_some_iff.1 hi).1
    obtain ⟨v, hv, hgv⟩ := hg.at (k := i) (by rw [Array.getElem?_toList]; exact hi)
    rw [Nat.zero_add] at hgv
    have agree : ∀ t, t ∈ oi.looksAt ops → a'.tmps[t]? = A.tmps[t]? := fun t ht => by
      by_cases hx : ∃ (j : Nat) (oj : Oper), ops[j]? = some oj ∧ oj.dst = some t
      · obtain ⟨j, oj, hj, hd⟩ := hx
        have := waits i j oi oj t hi hj hd ht
        rw [Array.any_eq_true'] at this
        obtain ⟨e, he, h1⟩ := this
        rw [Bool.and_eq_true, beq_iff_eq] at h1
        have h2 := hw8 e he h1.1
        rw [h1.2] at h2
        exact hI.on j oj t hj hd h2
      · have hno : ∀ (i : Nat) (oi : Oper), ops[i]? = some oi → oi.dst ≠ some t := fun i oi hi hd => hx ⟨i, oi, hi, hd⟩
        rw [hI.off t (fun i oi hi hd => absurd hd (hno i oi hi)), aOther t hno]
    have hex : execOp a'.eval oi = execOp A.eval oi := execOp_congr oi (fun cs b => by
        exact Region.noSelect_spec hsel i oi cs b hi) (fun x hx => by
      cases x with
      | tmp t =>
        have := agree t (List.mem_append_left _ (List.mem_filterMap.2 ⟨.tmp t, by simpa using hx, rfl⟩))
        simp only [Act.eval, Array.getD_eq_getD_getElem?, this]
      | const v => rfl
      | global g => rfl
      | func f => rfl)
    have hwt : Region.wanted oi (yielded ops a'.tmps) = Region.wanted oi (yielded ops A.tmps) := by
      unfold Region.wanted
      cases hgd : oi.guard with
      | none => rfl
      | some gw =>
        obtain ⟨g, want⟩ := gw
        have hy : yielded ops a'.tmps g = yielded ops A.tmps g := by
          unfold yielded
          cases ht : (ops[g]?).bind (·.dst) with
          | none => rfl
          | some t =>
            have := agree t (by simp [Oper.looksAt, hgd, ht])
            simp [this]
        simp only [hy]
    have next : ∀ w2, S w2 → E (l.setIfInBounds i true) w2 → DetE ops S E a A (l.setIfInBounds i true) (a'.put oi.dst v) w2 := fun w2 k2 e2 => by
      refine ⟨by simpa using hI.size, k2, e2, by rw [put_size, hI.sz], by rw [put_defers, hI.df], fun j oj d hj hd hl => ?_, fun d hd => ?_⟩
      · by_cases hij : i = j
        · subst hij
          rw [hi] at hj
          cases hj
          rw [hd, put_at (by rw [hI.sz, hn]; exact lt i oi d hi hd), aAt i oi d v hi hd hv]
        · rw [put_other (dist j i oj oi d hj hi (Ne.symm hij) hd)]
          rw [bit_ne' hij] at hl
          exact hI.on j oj d hj hd hl
      · have h1 : oi.dst ≠ some d := fun e => by
          have := hd i oi hi e
          rw [bit_self' hil] at this
          cases this
        rw [put_other h1]
        refine hI.off d (fun j oj hj hdj => ?_)
        have := hd j oj hj hdj
        by_cases hij : i = j
        · subst hij
          rw [hi] at hj
          cases hj
          exact absurd hdj h1
        · rw [bit_ne' hij] at this
          exact this
    refine wpOp_step hi (fun K' hK => ?_)
    rw [hwt]
    rcases hgv with ⟨hw1, hr1⟩ | ⟨hw1, rfl, hpass⟩
    · rw [if_pos hw1]
      unfold Oper.wp
      rw [hex]
      rcases hr1 l w' hil hI.kept hI.told with ⟨w2, he, k2, e2⟩ | ⟨w2, he, rfl, k2, e2⟩ | ⟨f, args, he, hc⟩
      · rw [he]
        exact hK _ _ (next w2 k2 e2)
      · rw [he]
        exact hK _ _ (next w2 k2 e2)
      · rw [he]
        simp only [Oper.upon]
        refine Calls.mono hc (fun e w2 => ?_)
        rintro ⟨rfl, k2, e2⟩
        exact hK _ _ (next w2 k2 e2)
    · rw [if_neg (by rw [hw1]; simp)]
      exact hK _ _ (next w' hI.kept (hpass l w' hI.kept hI.told))
  · refine ⟨by simp, hS, he, rfl, rfl, fun i oi d hi hd hl => ?_, fun d hd => rfl⟩
    exfalso
    rw [Array.getD_eq_getD_getElem?] at hl
    by_cases hlt : i < ops.size
    · rw [Array.getElem?_replicate, if_pos hlt] at hl
      cases hl
    · rw [Array.getElem?_replicate, if_neg hlt] at hl
      cases hl
  · unfold left
    exact Nat.le_trans List.countP_le_length (by simp)
end
theorem bin_lss {w : World} {a b : Int} {r : Bool} {ev : Operand → Value} {oi : Oper} {x y : Operand} (ho : oi.op = .binOp .lss 3 x y 3) (hx : ev x = .int .i64 a) (hy : ev y = .int .i64 b) (hr : decide (a < b) = r) : (execOp ev oi).run Tryd.prog w = .ok (.value (.bool r)) w := by
  simp [execOp, ho, hx, hy, go_sem, hr]
theorem enter_instr (v u t : Value) (w : World) : (callFunc 53 #[v, u, t]).run Tryd.prog w = .ok (.enter 53 #[v, u, t]) w := by go_simp
theorem enter_ending (v u : Value) (w : World) : (callFunc 54 #[v, u]).run Tryd.prog w = .ok (.enter 54 #[v, u]) w := by go_simp
theorem ld_bls {w : World} {ad : Addr} {v : Value} {ev : Operand → Value} {oi : Oper} {y : Operand} (hc : w.cell? ad = some v) (ho : oi.op = .load 37 y) (hy : ev y = .pointer (some ad)) : (execOp ev oi).run Tryd.prog w = .ok (.value v) w := by simp [execOp, ho, hy, go_sem, hc]
theorem ld_inss {w : World} {ad : Addr} {v : Value} {ev : Operand → Value} {oi : Oper} {y : Operand} (hc : w.cell? ad = some v) (ho : oi.op = .load 61 y) (hy : ev y = .pointer (some ad)) : (execOp ev oi).run Tryd.prog w = .ok (.value v) w := by simp [execOp, ho, hy, go_sem, hc]
theorem ld_bl {w : World} {b o : Nat} {v0 v1 v2 v3 v4 : Value} {ev : Operand → Value} {oi : Oper} {y : Operand} (h0 : w.cell? ⟨b, o + 0, none⟩ = some v0) (h1 : w.cell? ⟨b, o + 1, none⟩ = some v1) (h2 : w.cell? ⟨b, o + 2, none⟩ = some v2) (h3 : w.cell? ⟨b, o + 3, none⟩ = some v3) (h4 : w.cell? ⟨b, o + 4, none⟩ = some v4) (ho : oi.op = .load 63 y) (hy : ev y = .pointer (some ⟨b, o, none⟩)) : (execOp ev oi).run Tryd.prog w = .ok (.value (.agg #[v0, v1, v2, v3, v4])) w := by
  rw [Nat.add_zero] at h0
  simp [execOp, ho, hy, go_sem, h0, h1, h2, h3, h4]
theorem ix_bls {w : World} {b o n c j : Nat} {ev : Operand → Value} {oi : Oper} {x y : Operand} (ho : oi.op = .indexAddr 37 x y) (hx : ev x = .slice (some ⟨b, o, none⟩) n c) (hy : ev y = .int .i64 (j : Int)) (hj : (j : Int) < (n : Int)) : (execOp ev oi).run Tryd.prog w = .ok (.value (.pointer (some ⟨b, o + j * 5, none⟩))) w := by
  simp [execOp, ho, hx, hy, go_sem]
  intro h'
  omega
theorem ix_inss {w : World} {b o n c j : Nat} {ev : Operand → Value} {oi : Oper} {x y : Operand} (ho : oi.op = .indexAddr 61 x y) (hx : ev x = .slice (some ⟨b, o, none⟩) n c) (hy : ev y = .int .i64 (j : Int)) (hj : (j : Int) < (n : Int)) : (execOp ev oi).run Tryd.prog w = .ok (.value (.pointer (some ⟨b, o + j * 6, none⟩))) w := by
  simp [execOp, ho, hx, hy, go_sem]
  intro h'
  omega
theorem len_inss {w : World} {a : Option Addr} {n c : Nat} {ev : Operand → Value} {oi : Oper} {x : Operand} (ho : oi.op = .call { callee := .builtin .len, args := #[x], argTypes := #[61] }) (hx : ev x = .slice a n c) : (execOp ev oi).run Tryd.prog w = .ok (.value (.int .i64 (n : Int))) w := by
  obtain ⟨dst, op, type, pos, after, guard⟩ := oi
  simp only at ho
  subst ho
  simp [hx, go_sem]
theorem len_fns {w : World} {a : Option Addr} {n c : Nat} {ev : Operand → Value} {oi : Oper} {x : Operand} (ho : oi.op = .call { callee := .builtin .len, args := #[x], argTypes := #[29] }) (hx : ev x = .slice a n c) : (execOp ev oi).run Tryd.prog w = .ok (.value (.int .i64 (n : Int))) w := by
  obtain ⟨dst, op, type, pos, after, guard⟩ := oi
  simp only at ho
  subst ho
  simp [hx, go_sem]
theorem exec_call0 {P : Program} {ev : Operand → Value} {oi : Oper} {f : Nat} {ts : Array TypeId} {w : World} (ho : oi.op = .call { callee := .value (.func f), args := #[], argTypes := ts }) (hf : ev (.func f) = .func (.func f) #[] #[]) (hc : (callFunc f #[]).run P w = .ok (.enter f #[]) w) : (execOp ev oi).run P w = .ok (.enter f #[]) w := by
  simp [execOp, ho, hf, go_sem, hc]
theorem enter_nowhere (w : World) : (callFunc 30 #[]).run Tryd.prog w = .ok (.enter 30 #[]) w := by go_simp
theorem enter_in (v u : Value) (w : World) : (callFunc 52 #[v, u]).run Tryd.prog w = .ok (.enter 52 #[v, u]) w := by go_simp
theorem st_pt {w : World} {q : Nat} {z0 z1 z2 : Value} {u0 u1 u2 : Int} {ev : Operand → Value} {oi : Oper} {y z : Operand} (h : w.heap[q]? = some (.cells #[z0, z1, z2] 43 (0, 0))) (ho : oi.op = .store 43 y z) (hy : ev y = .pointer (some ⟨q, 0, none⟩)) (hz : ev z = .agg #[.int .i64 u0, .int .i64 u1, .int .i64 u2]) : (execOp ev oi).run Tryd.prog w = .ok .skip (((w.setCell ⟨q, 0, none⟩ (.int .i64 u0)).setCell ⟨q, 1, none⟩ (.int .i64 u1)).setCell ⟨q, 2, none⟩ (.int .i64 u2)) := by
  have y0 := hfrozen h 0
  have y1 := hfrozen h 1
  have y2 := hfrozen h 2
  have x0 := hcell h 0
  have x1 := hcell h 1
  have x2 := hcell h 2
  simp [execOp, ho, hy, hz, go_sem, y0, y1, y2, x0, x1, x2]
/-- A point in its box: written, once operation 11 has come up. -/
def ptE (q : Nat) (l : Array Bool) (w : World) : Prop := w.heap[q]? = some (.cells (bif l.getD 11 false then #[.int .i64 (-1), .int .i64 0, .int .i64 0] else #[.int .i64 0, .int .i64 0, .int .i64 0]) 43 (0, 0))
theorem ptE.keep {q i : Nat} {l : Array Bool} {w : World} (h : ptE q l w) (hi : i ≠ 11) : ptE q (l.setIfInBounds i true) w := by
  unfold ptE
  rw [bit_ne' hi]
  exact h
theorem ptE.quiet {q : Nat} {l : Array Bool} {w w' : World} (h : ptE q l w) (k : Keeps [] w w') : ptE q l w' := keep_heap h k
theorem ptE.put {q : Nat} {l : Array Bool} {w : World} (h : ptE q l w) (hi : 11 < l.size) {ev : Operand → Value} {oi : Oper} {y z : Operand} (ho : oi.op = .store 43 y z) (hy : ev y = .pointer (some ⟨q, 0, none⟩)) (hz : ev z = .agg #[.int .i64 (-1), .int .i64 0, .int .i64 0]) : (execOp ev oi).run Tryd.prog w = .ok .skip (((w.setCell ⟨q, 0, none⟩ (.int .i64 (-1))).setCell ⟨q, 1, none⟩ (.int .i64 0)).setCell ⟨q, 2, none⟩ (.int .i64 0)) ∧ ptE q (l.setIfInBounds 11 true) (((w.setCell ⟨q, 0, none⟩ (.int .i64 (-1))).setCell ⟨q, 1, none⟩ (.int .i64 0)).setCell ⟨q, 2, none⟩ (.int .i64 0)) := by
  unfold ptE at h ⊢
  rw [bit_self' hi]
  cases hl : l.getD 11 false with
  | true =>
    rw [hl] at h
    exact ⟨st_pt h ho hy hz, set3 h _ _ _⟩
  | false =>
    rw [hl] at h
    exact ⟨st_pt h ho hy hz, set3 h _ _ _⟩
theorem ptE.put2 {q : Nat} {l : Array Bool} {w : World} (h : ptE q l w) (hi : 11 < l.size) : ptE q (l.setIfInBounds 11 true) (((w.setCell ⟨q, 0, none⟩ (.int .i64 (-1))).setCell ⟨q, 1, none⟩ (.int .i64 0)).setCell ⟨q, 2, none⟩ (.int .i64 0)) := by
  unfold ptE at h ⊢
  rw [bit_self' hi]
  cases hl : l.getD 11 false with
  | true =>
    rw [hl] at h
    exact set3 h _ _ _
  | false =>
    rw [hl] at h
    exact set3 h _ _ _
theorem ptE.all {q : Nat} {l : Array Bool} {w : World} (h : ptE q l w) (hl : l.getD 11 false = true) : w.heap[q]? = some (.cells #[.int .i64 (-1), .int .i64 0, .int .i64 0] 43 (0, 0)) := by
  unfold ptE at h
  rw [hl] at h
  exact h
theorem ptE.start {q n : Nat} {w : World} (h : w.heap[q]? = some (.cells #[.int .i64 0, .int .i64 0, .int .i64 0] 43 (0, 0))) : ptE q (Array.replicate n false) w := by
  unfold ptE
  have : (Array.replicate n false).getD 11 false = false := by
    rw [Array.getD_eq_getD_getElem?, Array.getElem?_replicate]
    split <;> rfl
  rw [this]
  exact h
/-- All of the first k. -/
def allK {α : Type} (l : List α) (g : α → Bool) (k : Nat) : Bool := (l.take k).all g
theorem allK_zero {α : Type} (l : List α) (g : α → Bool) : allK l g 0 = true := by unfold allK; simp
theorem allK_succ {α : Type} {l : List α} {g : α → Bool} {k : Nat} {y : α} (hy : l[k]? = some y) : allK l g (k + 1) = (allK l g k && g y) := by
  unfold allK
  rw [List.take_add_one, hy]
  simp
theorem allK_full {α : Type} {l : List α} {g : α → Bool} {k : Nat} (h : k = l.length) : allK l g k = l.all g := by unfold allK; rw [h, List.take_length]
end Go.Proofs.YtmebkeidpklcbaaDoor
