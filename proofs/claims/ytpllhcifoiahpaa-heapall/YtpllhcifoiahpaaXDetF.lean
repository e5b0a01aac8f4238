/-
  A region that draws, whose values are named ahead, and whose operations may make memory: what is there is told by which operations have come up.
-/
import Derived.Test.YtpllhcifoiahpaaRows
import Derived.WalkKit
import Derived.WalkSpells
import Derived.WalkLawsBesides
import Derived.OwnWalk
import Derived.Deep.QuietTactic
import Derived.BigQuiet
import Derived.Maps.AppendAt
import Derived.Lib.Builder
import Derived.Deep.OwnRows
import Derived.Deep.DeepCutAuto
import Derived.Deep.AppendLies
import Derived.LaidEql
import Derived.Stop.Asserts
import Derived.RowKitTokens
import Derived.Defers
import Derived.Recover
import Derived.Deep.RegionLaw
import Derived.Deep.RegionHeld
import Derived.Deep.RegionWith
import Derived.Deep.RegionHeld3
import Derived.Laws.AppendOwnNone
import Derived.Test.YtpllhcifoiahpaaTDk
namespace Go.Proofs.Ytpllhcifoiahpaa
open Go.RowKit

section
variable {P : Program} {ops : Array Oper} {Q : Exit → Act → World → Prop} {S : World → Prop} {E : Array Bool → World → Prop}

/-- What an operation gives. -/
def GiveF (P : Program) (ops : Array Oper) (A : Act) (S : World → Prop) (E : Array Bool → World → Prop) (i : Nat) (o : Oper) (v : Value) : Prop :=
  (Region.wanted o (yielded ops A.tmps) = true ∧ ∀ l w, i < l.size → l.getD i false = false → (∀ e, e ∈ o.after → Region.binds .any e = true → l.getD e.on false = true) → S w → E l w →
    ((∃ w', (execOp A.eval o).run P w = .ok (.value v) w' ∧ S w' ∧ E (l.setIfInBounds i true) w') ∨
     (∃ w', (execOp A.eval o).run P w = .ok .skip w' ∧ v = undef ∧ S w' ∧ E (l.setIfInBounds i true) w') ∨
     (∃ f args, (execOp A.eval o).run P w = .ok (.enter f args) w ∧ Calls P f args w fun e w' => e = .returned v ∧ S w' ∧ E (l.setIfInBounds i true) w'))) ∨
  (Region.wanted o (yielded ops A.tmps) = false ∧ v = undef ∧ ∀ l w, S w → E l w → E (l.setIfInBounds i true) w)
theorem giveF_yield {A : Act} {i : Nat} {o : Oper} {v : Value} (hw : Region.wanted o (yielded ops A.tmps) = true) (hE : ∀ l w, E l w → E (l.setIfInBounds i true) w) (h : ∀ w, S w → (execOp A.eval o).run P w = .ok (.value v) w) : GiveF P ops A S E i o v :=
  .inl ⟨hw, fun l w _ _ _ hs he => .inl ⟨w, h w hs, hs, hE l w he⟩⟩
theorem giveF_pass {A : Act} {i : Nat} {o : Oper} (hw : Region.wanted o (yielded ops A.tmps) = false) (hE : ∀ l w, E l w → E (l.setIfInBounds i true) w) : GiveF P ops A S E i o undef := .inr ⟨hw, rfl, fun l w _ he => hE l w he⟩
theorem giveF_skip {A : Act} {i : Nat} {o : Oper} (hw : Region.wanted o (yielded ops A.tmps) = true) (h : ∀ l w, i < l.size → l.getD i false = false → (∀ e, e ∈ o.after → Region.binds .any e = true → l.getD e.on false = true) → S w → E l w → ∃ w', (execOp A.eval o).run P w = .ok .skip w' ∧ S w' ∧ E (l.setIfInBounds i true) w') : GiveF P ops A S E i o undef :=
  .inl ⟨hw, fun l w hi hu hp hs he => by
    obtain ⟨w', h1, h2, h3⟩ := h l w hi hu hp hs he
    exact .inr (.inl ⟨w', h1, rfl, h2, h3⟩)⟩
theorem giveF_call {A : Act} {i : Nat} {o : Oper} {v : Value} (hw : Region.wanted o (yielded ops A.tmps) = true) (f : Nat) (args : Array Value) (he : ∀ w, (execOp A.eval o).run P w = .ok (.enter f args) w)
    (hc : ∀ l w, i < l.size → l.getD i false = false → (∀ e, e ∈ o.after → Region.binds .any e = true → l.getD e.on false = true) → S w → E l w → Calls P f args w fun e w' => e = .returned v ∧ S w' ∧ E (l.setIfInBounds i true) w') : GiveF P ops A S E i o v :=
  .inl ⟨hw, fun l w hi hu hp hs hE => .inr (.inr ⟨f, args, he w, hc l w hi hu hp hs hE⟩)⟩
def AllGiveF (P : Program) (ops : Array Oper) (A : Act) (S : World → Prop) (E : Array Bool → World → Prop) : Nat → List Oper → List Value → Prop
  | i, o :: os, v :: vs => GiveF P ops A S E i o v ∧ AllGiveF P ops A S E (i + 1) os vs
  | _, [], [] => True
  | _, _, _ => False
theorem AllGiveF.cons {A : Act} {i : Nat} {o : Oper} {v : Value} {os : List Oper} {vs : List Value} (h : GiveF P ops A S E i o v) (t : AllGiveF P ops A S E (i + 1) os vs) : AllGiveF P ops A S E i (o :: os) (v :: vs) := ⟨h, t⟩
theorem AllGiveF.nil {A : Act} {i : Nat} : AllGiveF P ops A S E i [] [] := trivial
theorem AllGiveF.at {A : Act} : ∀ {os : List Oper} {vs : List Value} {i : Nat}, AllGiveF P ops A S E i os vs → ∀ {k : Nat} {o : Oper}, os[k]? = some o → ∃ v, vs[k]? = some v ∧ GiveF P ops A S E (i + k) o v
  | [], _, _, _, k, o, ho => by simp at ho
  | _ :: _, [], _, h, _, _, _ => by cases h
  | o :: os, v :: vs, i, h, 0, o', ho => by
    simp at ho
    subst ho
    exact ⟨v, rfl, h.1⟩
  | o :: os, v :: vs, i, h, k + 1, o', ho => by
    obtain ⟨u, hu, hg⟩ := AllGiveF.at h.2 (k := k) (by simpa using ho)
    exact ⟨u, by simpa using hu, by rw [show i + (k + 1) = i + 1 + k by omega]; exact hg⟩
/-- Whatever has come up. -/
structure DetF (ops : Array Oper) (S : World → Prop) (E : Array Bool → World → Prop) (a A : Act) (l : Array Bool) (a' : Act) (w : World) : Prop where
  size : l.size = ops.size
  kept : S w
  told : E l w
  sz : a'.tmps.size = a.tmps.size
  df : a'.defers = a.defers
  on : ∀ (i : Nat) (oi : Oper) (d : Nat), ops[i]? = some oi → oi.dst = some d → l.getD i false = true → a'.tmps[d]? = A.tmps[d]?
  off : ∀ d : Nat, (∀ (i : Nat) (oi : Oper), ops[i]? = some oi → oi.dst = some d → l.getD i false = false) → a'.tmps[d]? = a.tmps[d]?
theorem wp_region_detF {id : Nat} {a : Act} {w : World} (S : World → Prop) (E : Array Bool → World → Prop) (n : Nat) (vs : List Value) (hm : P.follows .mixedOrders = true) (hn : a.tmps.size = n) (hok : detOk ops n = true) (hk : S w.drew) (he : E (Array.replicate ops.size false) w.drew)
    (h : ∀ A, putAll ops.toList vs a = A → AllGiveF P ops A S E 0 ops.toList vs ∧ ∀ l w', (∀ i, i < ops.size → l.getD i false = true) → S w' → E l w' → Q .normal A w') : (Code.region id ops true).wp P Q a w := by
  obtain ⟨A, hA⟩ : ∃ A, putAll ops.toList vs a = A := ⟨_, rfl⟩
  obtain ⟨hg, hQ⟩ := h A hA
  unfold detOk at hok
  rw [Bool.and_eq_true, Bool.and_eq_true] at hok
  obtain ⟨hsel, hp, hall⟩ := hok
  have pair : ∀ (i j : Nat) (oi oj : Oper), ops[i]? = some oi → ops[j]? = some oj → detPair ops n i j = true := fun i j oi oj hi hj => by
    have h1 := List.all_eq_true.1 hp i (List.mem_range.2 (Array.getElem?_eq_some_iff.1 hi).1)
    exact List.all_eq_true.1 h1 j (List.mem_range.2 (Array.getElem?_eq_some_iff.1 hj).1)
  have dist : ∀ (i j : Nat) (oi oj : Oper) (d : Nat), ops[i]? = some oi → ops[j]? = some oj → i ≠ j → oi.dst = some d → oj.dst ≠ some d := fun i j oi oj d hi hj hij hd he => by
    have := pair i j oi oj hi hj
    unfold detPair at this
    rw [hi, hj] at this
    simp [hij, hd, he] at this
  have lt : ∀ (i : Nat) (oi : Oper) (d : Nat), ops[i]? = some oi → oi.dst = some d → d < n := fun i oi d hi hd => by
    have := pair i i oi oi hi hi
    unfold detPair at this
    rw [hi] at this
    simp only [hd, Bool.and_eq_true, decide_eq_true_eq] at this
    exact this.2.1
  have waits : ∀ (i j : Nat) (oi oj : Oper) (d : Nat), ops[i]? = some oi → ops[j]? = some oj → oj.dst = some d → d ∈ oi.looksAt ops → oi.after.any (fun e => Region.binds .any e && e.on == j) = true := fun i j oi oj d hi hj hd hm => by
    have := pair i j oi oj hi hj
    unfold detPair at this
    rw [hi, hj] at this
    simp only [hd, Bool.and_eq_true, Bool.or_eq_true, Bool.not_eq_true', decide_eq_true_eq] at this
    rcases this.2.2 with h0 | h0
    · rw [List.contains_iff_mem.2 hm] at h0
      cases h0
    · exact h0
  have aOther : ∀ d : Nat, (∀ (i : Nat) (oi : Oper), ops[i]? = some oi → oi.dst ≠ some d) → A.tmps[d]? = a.tmps[d]? := fun d hd => by
    rw [← hA]
    exact putAll_other _ _ _ (fun k o ho => hd k o (by rw [← Array.getElem?_toList]; exact ho))
  have aAt : ∀ (i : Nat) (oi : Oper) (d : Nat) (v : Value), ops[i]? = some oi → oi.dst = some d → vs[i]? = some v → A.tmps[d]? = some v := fun i oi d v hi hd hv => by
    rw [← hA]
    exact putAll_at _ _ _ i (by rw [Array.getElem?_toList]; exact hi) hv hd (by rw [hn]; exact lt i oi d hi hd) (fun j oj hj ho => dist i j oi oj d hi (by rw [← Array.getElem?_toList]; exact ho) (Ne.symm hj) hd)
  refine wp_region_held_drew (S := S) hm hk (fun hS => ?_)
  refine wpAnyH_inv (DetF ops S E a A) (fun _ _ _ h => h.kept) (fun l a' w' hI hr => ?_) (fun l a' w' i hI hr => ?_) _ _ _ _ ?_ ?_
  · have hl := all_listed (md := .any) (ops := ops) hI.size hr hall
    have e : a' = A := by
      have ht : a'.tmps = A.tmps := by
        apply Array.ext_getElem?
        intro d
        by_cases hx : ∃ (i : Nat) (oi : Oper), ops[i]? = some oi ∧ oi.dst = some d
        · obtain ⟨i, oi, hi, hd⟩ := hx
          exact hI.on i oi d hi hd (hl i (Array.getElem?_eq_some_iff.1 hi).1)
        · have hno : ∀ (i : Nat) (oi : Oper), ops[i]? = some oi → oi.dst ≠ some d := fun i oi hi hd => hx ⟨i, oi, hi, hd⟩
          rw [hI.off d (fun i oi hi hd => absurd hd (hno i oi hi)), aOther d hno]
      have hdf : a'.defers = A.defers := by rw [hI.df, ← hA, putAll_defers]
      cases a'
      cases A
      simp only at ht hdf
      rw [ht, hdf]
    rw [e]
    exact hQ l w' hl hI.kept hI.told
  · obtain ⟨hun, oi, hi, hw8⟩ := mem_ready.1 hr
    have hil : i < l.size := by rw [hI.size]; exact (Array.getElem?_eq_some_iff.1 hi).1
    obtain ⟨v, hv, hgv⟩ := hg.at (k := i) (by rw [Array.getElem?_toList]; exact hi)
    rw [Nat.zero_add] at hgv
    have agree : ∀ t, t ∈ oi.looksAt ops → a'.tmps[t]? = A.tmps[t]? := fun t ht => by
      by_cases hx : ∃ (j : Nat) (oj : Oper), ops[j]? = some oj ∧ oj.dst = some t
      · obtain ⟨j, oj, hj, hd⟩ := hx
        have := waits i j oi oj t hi hj hd ht
        rw [Array.any_eq_true'] at this
        obtain ⟨e, he, h1⟩ := this
        rw [Bool.and_eq_true, beq_iff_eq] at h1
        have h2 := hw8 e he h1.1
        rw [h1.2] at h2
        exact hI.on j oj t hj hd h2
      · have hno : ∀ (i : Nat) (oi : Oper), ops[i]? = some oi → oi.dst ≠ some t := fun i oi hi hd => hx ⟨i, oi, hi, hd⟩
        rw [hI.off t (fun i oi hi hd => absurd hd (hno i oi hi)), aOther t hno]
    have hex : execOp a'.eval oi = execOp A.eval oi := execOp_congr oi (fun cs b => by
        exact Region.noSelect_spec hsel i oi cs b hi) (fun x hx => by
      cases x with
      | tmp t =>
        have := agree t (List.mem_append_left _ (List.mem_filterMap.2 ⟨.tmp t, by simpa using hx, rfl⟩))
        simp only [Act.eval, Array.getD_eq_getD_getElem?, this]
      | const v => rfl
      | global g => rfl
      | func f => rfl)
    have hwt : Region.wanted oi (yielded ops a'.tmps) = Region.wanted oi (yielded ops A.tmps) := by
      unfold Region.wanted
      cases hgd : oi.guard with
      | none => rfl
      | some gw =>
        obtain ⟨g, want⟩ := gw
        have hy : yielded ops a'.tmps g = yielded ops A.tmps g := by
          unfold yielded
          cases ht : (ops[g]?).bind (·.dst) with
          | none => rfl
          | some t =>
            have := agree t (by simp [Oper.looksAt, hgd, ht])
            simp [this]
        simp only [hy]
    have next : ∀ w2, S w2 → E (l.setIfInBounds i true) w2 → DetF ops S E a A (l.setIfInBounds i true) (a'.put oi.dst v) w2 := fun w2 k2 e2 => by
      refine ⟨by simpa using hI.size, k2, e2, by rw [put_size, hI.sz], by rw [put_defers, hI.df], fun j oj d hj hd hl => ?_, fun d hd => ?_⟩
      · by_cases hij : i = j
        · subst hij
          rw [hi] at hj
          cases hj
          rw [hd, put_at (by rw [hI.sz, hn]; exact lt i oi d hi hd), aAt i oi d v hi hd hv]
        · rw [put_other (dist j i oj oi d hj hi (Ne.symm hij) hd)]
          rw [bit_ne' hij] at hl
          exact hI.on j oj d hj hd hl
      · have h1 : oi.dst ≠ some d := fun e => by
          have := hd i oi hi e
          rw [bit_self' hil] at this
          cases this
        rw [put_other h1]
        refine hI.off d (fun j oj hj hdj => ?_)
        have := hd j oj hj hdj
        by_cases hij : i = j
        · subst hij
          rw [hi] at hj
          cases hj
          exact absurd hdj h1
        · rw [bit_ne' hij] at this
          exact this
    refine wpOp_step hi (fun K' hK => ?_)
    rw [hwt]
    rcases hgv with ⟨hw1, hr1⟩ | ⟨hw1, rfl, hpass⟩
    · rw [if_pos hw1]
      unfold Oper.wp
      rw [hex]
      rcases hr1 l w' hil (by rw [Array.getD_eq_getD_getElem?, Array.getElem?_eq_getElem hil] at hun ⊢; exact hun) hw8 hI.kept hI.told with ⟨w2, he, k2, e2⟩ | ⟨w2, he, rfl, k2, e2⟩ | ⟨f, args, he, hc⟩
      · rw [he]
        exact hK _ _ (next w2 k2 e2)
      · rw [he]
        exact hK _ _ (next w2 k2 e2)
      · rw [he]
        simp only [Oper.upon]
        refine Calls.mono hc (fun e w2 => ?_)
        rintro ⟨rfl, k2, e2⟩
        exact hK _ _ (next w2 k2 e2)
    · rw [if_neg (by rw [hw1]; simp)]
      exact hK _ _ (next w' hI.kept (hpass l w' hI.kept hI.told))
  · refine ⟨by simp, hS, he, rfl, rfl, fun i oi d hi hd hl => ?_, fun d hd => rfl⟩
    exfalso
    rw [Array.getD_eq_getD_getElem?] at hl
    by_cases hlt : i < ops.size
    · rw [Array.getElem?_replicate, if_pos hlt] at hl
      cases hl
    · rw [Array.getElem?_replicate, if_neg hlt] at hl
      cases hl
  · unfold left
    exact Nat.le_trans List.countP_le_length (by simp)
end
end Go.Proofs.Ytpllhcifoiahpaa
