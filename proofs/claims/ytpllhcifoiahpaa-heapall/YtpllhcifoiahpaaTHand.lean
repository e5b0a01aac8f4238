/-
  A region that draws its order, by what holds whatever has come up: calls, variables that are made, stores into them.
-/
import Derived.Test.YtpllhcifoiahpaaRows
import Derived.WalkKit
import Derived.WalkSpells
import Derived.WalkLawsBesides
import Derived.OwnWalk
import Derived.Deep.QuietTactic
import Derived.BigQuiet
import Derived.Maps.AppendAt
import Derived.Lib.Builder
import Derived.Deep.OwnRows
import Derived.Deep.DeepCutAuto
import Derived.Deep.AppendLies
import Derived.Deep.RegionHeld
import Derived.Test.YtpllhcifoiahpaaBase
namespace Go.Proofs.Ytpllhcifoiahpaa
open Go.RowKit

section
variable {P : Program} {ops : Array Oper} {Q : Exit → Act → World → Prop} {md : Region.Mode} {S : World → Prop}

theorem tk_yield {i d : Nat} {oi : Oper} {v : Value} {fuel : Nat} {listed : Array Bool} {a : Act} {w : World} (hi : ops.toList[i]? = some oi) (hd : oi.dst = some d)
    (hs : Region.noSelect ops = true) (hf : Region.free md ops listed i = true) (hr : (Region.ready md ops listed).contains i = true)
    (hQ : ∀ c a w, Q (.panic c) (a.put (some d) v) w → Q (.panic c) a w) (hw : Region.wanted oi (yielded ops a.tmps) = true) (hS : S w)
    (hy : ∀ w, S w → (execOp a.eval oi).run P w = .ok (.value v) w)
    (h : wpAnyH P md ops Q S fuel (listed.setIfInBounds i true) (a.put (some d) v) w) : wpAnyH P md ops Q S (fuel + 1) listed a w := by
  rw [Array.getElem?_toList] at hi
  rw [← hd] at hQ h
  exact wpAnyH_take hi hs hf hr hQ (Or.inl ⟨hw, hy⟩) hS h
/-- How many have not come up. -/
def left (l : Array Bool) : Nat := l.toList.countP fun b => !b
theorem left_set {l : Array Bool} {i : Nat} (h : l.getD i true = false) : left (l.setIfInBounds i true) + 1 = left l := by
  have hi : i < l.size := by
    rcases Nat.lt_or_ge i l.size with h' | h'
    · exact h'
    · rw [Array.getD_eq_getD_getElem?, Array.getElem?_eq_none h'] at h
      cases h
  have hv : l.toList[i]'(by simpa using hi) = false := by
    rw [Array.getD_eq_getD_getElem?, Array.getElem?_eq_getElem hi] at h
    simpa using h
  unfold left
  rw [Array.toList_setIfInBounds, List.countP_set (by simpa using hi), hv]
  have hp : 0 < l.toList.countP fun b => !b := List.countP_pos_iff.2 ⟨false, by rw [← hv]; exact List.getElem_mem _, rfl⟩
  simp only [Bool.not_false, if_true, Bool.not_true, Bool.false_eq_true, if_false]
  omega
/-- What holds in the beginning and behind each operation holds in the end. -/
theorem wpAnyH_inv (I : Array Bool → Act → World → Prop) (hS : ∀ l a w, I l a w → S w) (hd : ∀ l a w, I l a w → Region.ready md ops l = [] → Q .normal a w)
    (hstep : ∀ l a w i, I l a w → i ∈ Region.ready md ops l → wpOp P ops Q i (I (l.setIfInBounds i true)) a w) :
    ∀ (fuel : Nat) (l : Array Bool) (a : Act) (w : World), I l a w → left l ≤ fuel → wpAnyH P md ops Q S fuel l a w
  | 0, l, a, w, h, hf => by
    have hr : Region.ready md ops l = [] := by
      apply List.eq_nil_iff_forall_not_mem.2
      intro i hi
      have := left_set (mem_ready.1 hi).1
      omega
    exact ⟨hr, hd l a w h hr⟩
  | fuel + 1, l, a, w, h, hf => ⟨hd l a w h, fun i hi => wpOp_mono (fun a' w' h' => ⟨hS _ _ _ h', wpAnyH_inv I hS hd hstep fuel _ a' w' h' (by have := left_set (mem_ready.1 hi).1; omega)⟩) (hstep l a w i h hi)⟩
/-- Who may come up has those behind it that it waits for. -/
theorem ready_after {l : Array Bool} {i : Nat} (h : i ∈ Region.ready md ops l) (k : Nat) (hk : (ops[i]?).map (fun o => o.after.toList.any fun e => Region.binds md e && e.on == k) = some true) : l.getD k false = true := by
  obtain ⟨_, o, ho, hall⟩ := mem_ready.1 h
  rw [ho] at hk
  simp only [Option.map_some, Option.some.injEq, List.any_eq_true, Bool.and_eq_true, beq_iff_eq] at hk
  obtain ⟨e, he, hb, rfl⟩ := hk
  exact hall e (Array.mem_toList_iff.1 he) hb
theorem ready_lt {l : Array Bool} {i : Nat} (h : i ∈ Region.ready md ops l) : i < ops.size := by
  obtain ⟨_, o, ho, _⟩ := mem_ready.1 h
  exact (Array.getElem?_eq_some_iff.1 ho).1
theorem all_listed {l : Array Bool} {n : Nat} (hl : l.size = n) (h : Region.ready md ops l = []) (hc : (List.range n).all (fun i => (ops[i]?).isSome && ((ops[i]?).map (fun o => o.after.all fun e => !Region.binds md e || decide (e.on < i))).getD false) = true) : ∀ i, i < n → l.getD i false = true := by
  intro i
  induction i using Nat.strongRecOn with
  | _ i ih =>
    intro hi
    cases hv : l.getD i false with
    | true => rfl
    | false =>
      exfalso
      have hm : i ∈ Region.ready md ops l := by
        rw [mem_ready]
        have h1 := List.all_eq_true.1 hc i (List.mem_range.2 hi)
        rw [Bool.and_eq_true] at h1
        obtain ⟨o, ho⟩ := Option.isSome_iff_exists.1 h1.1
        refine ⟨?_, o, ho, fun e he hb => ?_⟩
        · rw [Array.getD_eq_getD_getElem?, Array.getElem?_eq_getElem (by omega)] at hv ⊢
          exact hv
        · have h2 := h1.2
          rw [ho] at h2
          have h3 := Array.all_eq_true_iff_forall_mem.1 h2 e he
          rw [hb] at h3
          exact ih e.on (by simpa using h3) (by have : e.on < i := by simpa using h3
                                                omega)
      rw [h] at hm
      cases hm
/-- An operation that is a call. -/
theorem tk_call {i d : Nat} {oi : Oper} {K : Act → World → Prop} {a : Act} {w : World} (hi : ops.toList[i]? = some oi) (hd : oi.dst = some d)
    (hw : Region.wanted oi (yielded ops a.tmps) = true) (f : Nat) (args : Array Value) (he : (execOp a.eval oi).run P w = .ok (.enter f args) w) {R : Value → World → Prop}
    (hc : Calls P f args w fun e w' => ∃ v, e = .returned v ∧ R v w') (h : ∀ v w', R v w' → K (a.put (some d) v) w') : wpOp P ops Q i K a w := by
  rw [Array.getElem?_toList] at hi
  rw [← hd] at h
  refine wpOp_step hi (fun K' hK => ?_)
  rw [if_pos hw]
  unfold Oper.wp
  rw [he]
  simp only [Oper.upon]
  refine Calls.mono hc (fun e w' => ?_)
  rintro ⟨v, rfl, hs⟩
  exact hK _ _ (h v w' hs)
/-- An operation that gives a value. -/
theorem tk_run {i : Nat} {oi : Oper} {K : Act → World → Prop} {a : Act} {w w' : World} {v : Value} (hi : ops.toList[i]? = some oi) (hw : Region.wanted oi (yielded ops a.tmps) = true)
    (he : (execOp a.eval oi).run P w = .ok (.value v) w') (h : K (a.put oi.dst v) w') : wpOp P ops Q i K a w := by
  rw [Array.getElem?_toList] at hi
  refine wpOp_step hi (fun K' hK => ?_)
  rw [if_pos hw]
  unfold Oper.wp
  rw [he]
  exact hK _ _ h
/-- An operation that gives nothing. -/
theorem tk_skip {i : Nat} {oi : Oper} {K : Act → World → Prop} {a : Act} {w w' : World} (hi : ops.toList[i]? = some oi) (hw : Region.wanted oi (yielded ops a.tmps) = true)
    (he : (execOp a.eval oi).run P w = .ok .skip w') (h : K (a.put oi.dst undef) w') : wpOp P ops Q i K a w := by
  rw [Array.getElem?_toList] at hi
  refine wpOp_step hi (fun K' hK => ?_)
  rw [if_pos hw]
  unfold Oper.wp
  rw [he]
  exact hK _ _ h
theorem exec_call2 {ev : Operand → Value} {oi : Oper} {f : Nat} {x y : Operand} {ts : Array TypeId} {v u : Value} {w : World} (ho : oi.op = .call { callee := .value (.func f), args := #[x, y], argTypes := ts }) (hf : ev (.func f) = .func (.func f) #[] #[]) (hx : ev x = v) (hy : ev y = u) (hc : (callFunc f #[v, u]).run P w = .ok (.enter f #[v, u]) w) : (execOp ev oi).run P w = .ok (.enter f #[v, u]) w := by
  subst hx
  subst hy
  simp [execOp, ho, hf, go_sem, hc]
end
end Go.Proofs.Ytpllhcifoiahpaa
