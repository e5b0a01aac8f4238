/-
  A region that draws its order, whose operations only read or make new memory: what each gives is named ahead, whatever the order.
-/
import Derived.Test.YtpllhcifoiahpaaRows
import Derived.WalkKit
import Derived.WalkSpells
import Derived.WalkLawsBesides
import Derived.OwnWalk
import Derived.Deep.QuietTactic
import Derived.BigQuiet
import Derived.Maps.AppendAt
import Derived.Lib.Builder
import Derived.Deep.OwnRows
import Derived.Deep.DeepCutAuto
import Derived.Deep.AppendLies
import Derived.Deep.RegionHeld
import Derived.Test.YtpllhcifoiahpaaTHand
namespace Go.Proofs.Ytpllhcifoiahpaa
open Go.RowKit

section
variable {P : Program} {ops : Array Oper} {Q : Exit → Act → World → Prop}

/-- The values of all operations laid into their slots. -/
def putAll : List Oper → List Value → Act → Act
  | o :: os, v :: vs, a => putAll os vs (a.put o.dst v)
  | _, _, a => a
theorem put_size (a : Act) (d : Option Tmp) (v : Value) : (a.put d v).tmps.size = a.tmps.size := by cases d <;> simp [Act.put]
theorem put_defers (a : Act) (d : Option Tmp) (v : Value) : (a.put d v).defers = a.defers := by cases d <;> rfl
theorem put_other {a : Act} {d : Option Tmp} {v : Value} {s : Nat} (h : d ≠ some s) : (a.put d v).tmps[s]? = a.tmps[s]? := by
  cases d with
  | none => rfl
  | some d =>
    have hne : d ≠ s := fun e => h (e ▸ rfl)
    simp [Act.put, Array.getElem?_setIfInBounds_ne hne]
theorem put_at {a : Act} {s : Nat} {v : Value} (h : s < a.tmps.size) : (a.put (some s) v).tmps[s]? = some v := by
  simp [Act.put, Array.getElem?_setIfInBounds_self_of_lt h]
theorem putAll_size : ∀ (os : List Oper) (vs : List Value) (a : Act), (putAll os vs a).tmps.size = a.tmps.size
  | [], _, _ => rfl
  | _ :: _, [], _ => rfl
  | o :: os, v :: vs, a => by
    show (putAll os vs (a.put o.dst v)).tmps.size = _
    rw [putAll_size os vs, put_size]
theorem putAll_defers : ∀ (os : List Oper) (vs : List Value) (a : Act), (putAll os vs a).defers = a.defers
  | [], _, _ => rfl
  | _ :: _, [], _ => rfl
  | o :: os, v :: vs, a => by
    show (putAll os vs (a.put o.dst v)).defers = _
    rw [putAll_defers os vs, put_defers]
theorem putAll_other {s : Nat} : ∀ (os : List Oper) (vs : List Value) (a : Act), (∀ (k : Nat) (o : Oper), os[k]? = some o → o.dst ≠ some s) → (putAll os vs a).tmps[s]? = a.tmps[s]?
  | [], _, _, _ => rfl
  | _ :: _, [], _, _ => rfl
  | o :: os, v :: vs, a, h => by
    show (putAll os vs (a.put o.dst v)).tmps[s]? = _
    rw [putAll_other os vs _ (fun k x hx => h (k + 1) x (by simpa using hx)), put_other (h 0 o rfl)]
theorem putAll_at {s : Nat} {v0 : Value} {o0 : Oper} : ∀ (os : List Oper) (vs : List Value) (a : Act) (k : Nat), os[k]? = some o0 → vs[k]? = some v0 → o0.dst = some s → s < a.tmps.size → (∀ (j : Nat) (o : Oper), j ≠ k → os[j]? = some o → o.dst ≠ some s) → (putAll os vs a).tmps[s]? = some v0
  | [], _, _, k, h, _, _, _, _ => by simp at h
  | _ :: _, [], _, k, _, h, _, _, _ => by simp at h
  | o :: os, v :: vs, a, 0, ho, hv, hd, hs, hn => by
    simp at ho hv
    subst ho hv
    show (putAll os vs (a.put o.dst v)).tmps[s]? = _
    rw [putAll_other os vs _ (fun k x hx => hn (k + 1) x (by omega) (by simpa using hx)), hd]
    exact put_at hs
  | o :: os, v :: vs, a, k + 1, ho, hv, hd, hs, hn => by
    show (putAll os vs (a.put o.dst v)).tmps[s]? = _
    exact putAll_at os vs _ k (by simpa using ho) (by simpa using hv) hd (by rw [put_size]; exact hs) (fun j x hj hx => hn (j + 1) x (by omega) (by simpa using hx))
/-- What can be seen of the operations alone: each slot is one operation's; who looks at a slot waits for it. -/
def detPair (ops : Array Oper) (n i j : Nat) : Bool :=
  match ops[i]?, ops[j]? with
  | some oi, some oj => (i == j || oi.dst.isNone || oi.dst != oj.dst) && (match oj.dst with
    | some d => decide (d < n) && (!(oi.looksAt ops).contains d || oi.after.any fun e => Region.binds .any e && e.on == j)
    | none => true)
  | _, _ => false
def detOk (ops : Array Oper) (n : Nat) : Bool :=
  Region.noSelect ops && ((List.range ops.size).all (fun i => (List.range ops.size).all fun j => detPair ops n i j) &&
    (List.range ops.size).all (fun i => (ops[i]?).isSome && ((ops[i]?).map (fun o => o.after.all fun e => !Region.binds .any e || decide (e.on < i))).getD false))
/-- What an operation gives. -/
def Give (P : Program) (ops : Array Oper) (A : Act) (W0 : World) (o : Oper) (v : Value) : Prop :=
  (Region.wanted o (yielded ops A.tmps) = true ∧ ∀ w, Keeps [] W0 w →
    ((∃ w', (execOp A.eval o).run P w = .ok (.value v) w' ∧ Keeps [] w w') ∨
     (∃ f args, (execOp A.eval o).run P w = .ok (.enter f args) w ∧ Calls P f args w fun e w' => e = .returned v ∧ Keeps [] w w'))) ∨
  (Region.wanted o (yielded ops A.tmps) = false ∧ v = undef)
theorem give_yield {A : Act} {W0 : World} {o : Oper} {v : Value} (hw : Region.wanted o (yielded ops A.tmps) = true) (h : ∀ w, Keeps [] W0 w → (execOp A.eval o).run P w = .ok (.value v) w) : Give P ops A W0 o v :=
  .inl ⟨hw, fun w k => .inl ⟨w, h w k, Keeps.refl _ _⟩⟩
theorem give_pass {A : Act} {W0 : World} {o : Oper} (hw : Region.wanted o (yielded ops A.tmps) = false) : Give P ops A W0 o undef := .inr ⟨hw, rfl⟩
theorem give_call {A : Act} {W0 : World} {o : Oper} {v : Value} (hw : Region.wanted o (yielded ops A.tmps) = true) (f : Nat) (args : Array Value) (he : ∀ w, (execOp A.eval o).run P w = .ok (.enter f args) w)
    (hc : ∀ w, Keeps [] W0 w → Calls P f args w fun e w' => e = .returned v ∧ Keeps [] w w') : Give P ops A W0 o v :=
  .inl ⟨hw, fun w k => .inr ⟨f, args, he w, hc w k⟩⟩
def AllGive (P : Program) (ops : Array Oper) (A : Act) (W0 : World) : List Oper → List Value → Prop
  | o :: os, v :: vs => Give P ops A W0 o v ∧ AllGive P ops A W0 os vs
  | [], [] => True
  | _, _ => False
theorem AllGive.at {A : Act} {W0 : World} : ∀ {os : List Oper} {vs : List Value}, AllGive P ops A W0 os vs → ∀ {k : Nat} {o : Oper}, os[k]? = some o → ∃ v, vs[k]? = some v ∧ Give P ops A W0 o v
  | [], _, _, k, o, ho => by simp at ho
  | _ :: _, [], h, _, _, _ => by cases h
  | o :: os, v :: vs, h, 0, o', ho => by
    simp at ho
    subst ho
    exact ⟨v, rfl, h.1⟩
  | o :: os, v :: vs, h, k + 1, o', ho => by
    obtain ⟨u, hu, hg⟩ := AllGive.at h.2 (k := k) (by simpa using ho)
    exact ⟨u, by simpa using hu, hg⟩
/-- Whatever has come up. -/
structure DetI (ops : Array Oper) (W0 : World) (a A : Act) (l : Array Bool) (a' : Act) (w : World) : Prop where
  size : l.size = ops.size
  kept : Keeps [] W0 w
  sz : a'.tmps.size = a.tmps.size
  df : a'.defers = a.defers
  on : ∀ (i : Nat) (oi : Oper) (d : Nat), ops[i]? = some oi → oi.dst = some d → l.getD i false = true → a'.tmps[d]? = A.tmps[d]?
  off : ∀ d : Nat, (∀ (i : Nat) (oi : Oper), ops[i]? = some oi → oi.dst = some d → l.getD i false = false) → a'.tmps[d]? = a.tmps[d]?
theorem bit_ne' {l : Array Bool} {i j : Nat} (h : i ≠ j) : (l.setIfInBounds i true).getD j false = l.getD j false := getD_set_ne false h
theorem bit_self' {l : Array Bool} {i : Nat} (h : i < l.size) : (l.setIfInBounds i true).getD i false = true := by
  rw [Array.getD_eq_getD_getElem?, Array.getElem?_setIfInBounds_self_of_lt h]
  rfl
theorem wp_region_det {id : Nat} {a : Act} {w W0 : World} (n : Nat) (vs : List Value) (hm : P.follows .mixedOrders = true) (hn : a.tmps.size = n) (hok : detOk ops n = true) (hk : Keeps [] W0 w)
    (h : ∀ A, putAll ops.toList vs a = A → AllGive P ops A W0 ops.toList vs ∧ ∀ w', Keeps [] W0 w' → Q .normal A w') : (Code.region id ops true).wp P Q a w := by
  obtain ⟨A, hA⟩ : ∃ A, putAll ops.toList vs a = A := ⟨_, rfl⟩
  obtain ⟨hg, hQ⟩ := h A hA
  unfold detOk at hok
  rw [Bool.and_eq_true, Bool.and_eq_true] at hok
  obtain ⟨hsel, hp, hall⟩ := hok
  have pair : ∀ (i j : Nat) (oi oj : Oper), ops[i]? = some oi → ops[j]? = some oj → detPair ops n i j = true := fun i j oi oj hi hj => by
    have h1 := List.all_eq_true.1 hp i (List.mem_range.2 (Array.getElem?_eq_some_iff.1 hi).1)
    exact List.all_eq_true.1 h1 j (List.mem_range.2 (Array.getElem?_eq_some_iff.1 hj).1)
  have dist : ∀ (i j : Nat) (oi oj : Oper) (d : Nat), ops[i]? = some oi → ops[j]? = some oj → i ≠ j → oi.dst = some d → oj.dst ≠ some d := fun i j oi oj d hi hj hij hd he => by
    have := pair i j oi oj hi hj
    unfold detPair at this
    rw [hi, hj] at this
    simp [hij, hd, he] at this
  have lt : ∀ (i : Nat) (oi : Oper) (d : Nat), ops[i]? = some oi → oi.dst = some d → d < n := fun i oi d hi hd => by
    have := pair i i oi oi hi hi
    unfold detPair at this
    rw [hi] at this
    simp only [hd, Bool.and_eq_true, decide_eq_true_eq] at this
    exact this.2.1
  have waits : ∀ (i j : Nat) (oi oj : Oper) (d : Nat), ops[i]? = some oi → ops[j]? = some oj → oj.dst = some d → d ∈ oi.looksAt ops → oi.after.any (fun e => Region.binds .any e && e.on == j) = true := fun i j oi oj d hi hj hd hm => by
    have := pair i j oi oj hi hj
    unfold detPair at this
    rw [hi, hj] at this
    simp only [hd, Bool.and_eq_true, Bool.or_eq_true, Bool.not_eq_true', decide_eq_true_eq] at this
    rcases this.2.2 with h0 | h0
    · rw [List.contains_iff_mem.2 hm] at h0
      cases h0
    · exact h0
  have aOther : ∀ d : Nat, (∀ (i : Nat) (oi : Oper), ops[i]? = some oi → oi.dst ≠ some d) → A.tmps[d]? = a.tmps[d]? := fun d hd => by
    rw [← hA]
    exact putAll_other _ _ _ (fun k o ho => hd k o (by rw [← Array.getElem?_toList]; exact ho))
  have aAt : ∀ (i : Nat) (oi : Oper) (d : Nat) (v : Value), ops[i]? = some oi → oi.dst = some d → vs[i]? = some v → A.tmps[d]? = some v := fun i oi d v hi hd hv => by
    rw [← hA]
    exact putAll_at _ _ _ i (by rw [Array.getElem?_toList]; exact hi) hv hd (by rw [hn]; exact lt i oi d hi hd) (fun j oj hj ho => dist i j oi oj d hi (by rw [← Array.getElem?_toList]; exact ho) (Ne.symm hj) hd)
  refine wp_region_held_drew (S := fun w' => Keeps [] W0 w') hm (hk.quiet (Keeps.drew [] w)) (fun hS => ?_)
  refine wpAnyH_inv (DetI ops W0 a A) (fun _ _ _ h => h.kept) (fun l a' w' hI hr => ?_) (fun l a' w' i hI hr => ?_) _ _ _ _ ?_ ?_
  · have hl := all_listed (md := .any) (ops := ops) hI.size hr hall
    have e : a' = A := by
      have ht : a'.tmps = A.tmps := by
        apply Array.ext_getElem?
        intro d
        by_cases hx : ∃ (i : Nat) (oi : Oper), ops[i]? = some oi ∧ oi.dst = some d
        · obtain ⟨i, oi, hi, hd⟩ := hx
          exact hI.on i oi d hi hd (hl i (Array.getElem?_eq_some_iff.1 hi).1)
        · have hno : ∀ (i : Nat) (oi : Oper), ops[i]? = some oi → oi.dst ≠ some d := fun i oi hi hd => hx ⟨i, oi, hi, hd⟩
          rw [hI.off d (fun i oi hi hd => absurd hd (hno i oi hi)), aOther d hno]
      have hdf : a'.defers = A.defers := by rw [hI.df, ← hA, putAll_defers]
      cases a'
      cases A
      simp only at ht hdf
      rw [ht, hdf]
    rw [e]
    exact hQ w' hI.kept
  · obtain ⟨hun, oi, hi, hw8⟩ := mem_ready.1 hr
    have hil : i < l.size := by rw [hI.size]; exact (Array.getElem?_eq_some_iff.1 hi).1
    obtain ⟨v, hv, hgv⟩ := hg.at (k := i) (by rw [Array.getElem?_toList]; exact hi)
    have agree : ∀ t, t ∈ oi.looksAt ops → a'.tmps[t]? = A.tmps[t]? := fun t ht => by
      by_cases hx : ∃ (j : Nat) (oj : Oper), ops[j]? = some oj ∧ oj.dst = some t
      · obtain ⟨j, oj, hj, hd⟩ := hx
        have := waits i j oi oj t hi hj hd ht
        rw [Array.any_eq_true'] at this
        obtain ⟨e, he, h1⟩ := this
        rw [Bool.and_eq_true, beq_iff_eq] at h1
        have h2 := hw8 e he h1.1
        rw [h1.2] at h2
        exact hI.on j oj t hj hd h2
      · have hno : ∀ (i : Nat) (oi : Oper), ops[i]? = some oi → oi.dst ≠ some t := fun i oi hi hd => hx ⟨i, oi, hi, hd⟩
        rw [hI.off t (fun i oi hi hd => absurd hd (hno i oi hi)), aOther t hno]
    have hex : execOp a'.eval oi = execOp A.eval oi := execOp_congr oi (fun cs b => by
        exact Region.noSelect_spec hsel i oi cs b hi) (fun x hx => by
      cases x with
      | tmp t =>
        have := agree t (List.mem_append_left _ (List.mem_filterMap.2 ⟨.tmp t, by simpa using hx, rfl⟩))
        simp only [Act.eval, Array.getD_eq_getD_getElem?, this]
      | const v => rfl
      | global g => rfl
      | func f => rfl)
    have hwt : Region.wanted oi (yielded ops a'.tmps) = Region.wanted oi (yielded ops A.tmps) := by
      unfold Region.wanted
      cases hgd : oi.guard with
      | none => rfl
      | some gw =>
        obtain ⟨g, want⟩ := gw
        have hy : yielded ops a'.tmps g = yielded ops A.tmps g := by
          unfold yielded
          cases ht : (ops[g]?).bind (·.dst) with
          | none => rfl
          | some t =>
            have := agree t (by simp [Oper.looksAt, hgd, ht])
            simp [this]
        simp only [hy]
    have next : ∀ w2, Keeps [] w' w2 → DetI ops W0 a A (l.setIfInBounds i true) (a'.put oi.dst v) w2 := fun w2 k2 => by
      refine ⟨by simpa using hI.size, hI.kept.quiet k2, by rw [put_size, hI.sz], by rw [put_defers, hI.df], fun j oj d hj hd hl => ?_, fun d hd => ?_⟩
      · by_cases hij : i = j
        · subst hij
          rw [hi] at hj
          cases hj
          rw [hd, put_at (by rw [hI.sz, hn]; exact lt i oi d hi hd), aAt i oi d v hi hd hv]
        · rw [put_other (dist j i oj oi d hj hi (Ne.symm hij) hd)]
          rw [bit_ne' hij] at hl
          exact hI.on j oj d hj hd hl
      · have h1 : oi.dst ≠ some d := fun e => by
          have := hd i oi hi e
          rw [bit_self' hil] at this
          cases this
        rw [put_other h1]
        refine hI.off d (fun j oj hj hdj => ?_)
        have := hd j oj hj hdj
        by_cases hij : i = j
        · subst hij
          rw [hi] at hj
          cases hj
          exact absurd hdj h1
        · rw [bit_ne' hij] at this
          exact this
    refine wpOp_step hi (fun K' hK => ?_)
    rw [hwt]
    rcases hgv with ⟨hw1, hr1⟩ | ⟨hw1, rfl⟩
    · rw [if_pos hw1]
      unfold Oper.wp
      rw [hex]
      rcases hr1 w' hI.kept with ⟨w2, he, k2⟩ | ⟨f, args, he, hc⟩
      · rw [he]
        exact hK _ _ (next w2 k2)
      · rw [he]
        simp only [Oper.upon]
        refine Calls.mono hc (fun e w2 => ?_)
        rintro ⟨rfl, k2⟩
        exact hK _ _ (next w2 k2)
    · rw [if_neg (by rw [hw1]; simp)]
      exact hK _ _ (next w' (Keeps.refl _ _))
  · refine ⟨by simp, hS, rfl, rfl, fun i oi d hi hd hl => ?_, fun d hd => rfl⟩
    exfalso
    rw [Array.getD_eq_getD_getElem?] at hl
    by_cases hlt : i < ops.size
    · rw [Array.getElem?_replicate, if_pos hlt] at hl
      cases hl
    · rw [Array.getElem?_replicate, if_neg hlt] at hl
      cases hl
  · unfold left
    exact Nat.le_trans List.countP_le_length (by simp)
end
end Go.Proofs.Ytpllhcifoiahpaa
