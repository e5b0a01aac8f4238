/-
  A region that draws its order and appends twice, step by step.
-/
import Derived.Test.YtmipbaihlodmdaaDoorCRk
import Derived.Deep.RegionHeld
namespace Go.Proofs.YtmipbaihlodmdaaDoor
open Go.RowKit

section
variable {P : Program} {ops : Array Oper} {Q : Exit → Act → World → Prop} {md : Region.Mode} {S : World → Prop}

theorem tk_yield {i d : Nat} {oi : Oper} {v : Value} {fuel : Nat} {listed : Array Bool} {a : Act} {w : World} (hi : ops.toList[i]? = some oi) (hd : oi.dst = some d)
    (hs : Region.noSelect ops = true) (hf : Region.free md ops listed i = true) (hr : (Region.ready md ops listed).contains i = true)
    (hQ : ∀ c a w, Q (.panic c) (a.put (some d) v) w → Q (.panic c) a w) (hw : Region.wanted oi (yielded ops a.tmps) = true) (hS : S w)
    (hy : ∀ w, S w → (execOp a.eval oi).run P w = .ok (.value v) w)
    (h : wpAnyH P md ops Q S fuel (listed.setIfInBounds i true) (a.put (some d) v) w) : wpAnyH P md ops Q S (fuel + 1) listed a w := by
  rw [Array.getElem?_toList] at hi
  rw [← hd] at hQ h
  exact wpAnyH_take hi hs hf hr hQ (Or.inl ⟨hw, hy⟩) hS h
/-- One of two may come up. -/
theorem tk_two {i j : Nat} {fuel : Nat} {listed : Array Bool} {a : Act} {w : World} (hr : Region.ready md ops listed = [i, j])
    (h1 : wpOp P ops Q i (fun a' w' => S w' ∧ wpAnyH P md ops Q S fuel (listed.setIfInBounds i true) a' w') a w)
    (h2 : wpOp P ops Q j (fun a' w' => S w' ∧ wpAnyH P md ops Q S fuel (listed.setIfInBounds j true) a' w') a w) : wpAnyH P md ops Q S (fuel + 1) listed a w :=
  wpAnyH_all hr (by simp) (fun x hx => by
    rcases List.mem_cons.1 hx with rfl | hx
    · exact h1
    · obtain rfl := List.mem_singleton.1 hx
      exact h2)
/-- One alone may come up. -/
theorem tk_one {i : Nat} {fuel : Nat} {listed : Array Bool} {a : Act} {w : World} (hr : Region.ready md ops listed = [i])
    (h1 : wpOp P ops Q i (fun a' w' => S w' ∧ wpAnyH P md ops Q S fuel (listed.setIfInBounds i true) a' w') a w) : wpAnyH P md ops Q S (fuel + 1) listed a w :=
  wpAnyH_all hr (by simp) (fun x hx => by
    obtain rfl := List.mem_singleton.1 hx
    exact h1)
/-- An operation that is a call. -/
theorem tk_call {i d : Nat} {oi : Oper} {K : Act → World → Prop} {a : Act} {w : World} (hi : ops.toList[i]? = some oi) (hd : oi.dst = some d)
    (hw : Region.wanted oi (yielded ops a.tmps) = true) (f : Nat) (args : Array Value) (he : (execOp a.eval oi).run P w = .ok (.enter f args) w) {R : Value → World → Prop}
    (hc : Calls P f args w fun e w' => ∃ v, e = .returned v ∧ R v w') (h : ∀ v w', R v w' → K (a.put (some d) v) w') : wpOp P ops Q i K a w := by
  rw [Array.getElem?_toList] at hi
  rw [← hd] at h
  refine wpOp_step hi (fun K' hK => ?_)
  rw [if_pos hw]
  unfold Oper.wp
  rw [he]
  simp only [Oper.upon]
  refine Calls.mono hc (fun e w' => ?_)
  rintro ⟨v, rfl, hs⟩
  exact hK _ _ (h v w' hs)
/-- A call of one argument. -/
theorem exec_call1 {ev : Operand → Value} {oi : Oper} {f : Nat} {x : Operand} {ts : Array TypeId} {v : Value} {w : World} (ho : oi.op = .call { callee := .value (.func f), args := #[x], argTypes := ts }) (hf : ev (.func f) = .func (.func f) #[] #[]) (hx : ev x = v) (hc : (callFunc f #[v]).run P w = .ok (.enter f #[v]) w) : (execOp ev oi).run P w = .ok (.enter f #[v]) w := by
  subst hx
  simp [execOp, ho, hf, go_sem, hc]
/-- What an operation gives hangs on its operands alone. -/
theorem eval_swap {f g : Operand → Value} {oi : Oper} {w : World} {r : Result Next} (h : execOp f oi = execOp g oi) (k : (execOp g oi).run P w = r) : (execOp f oi).run P w = r := by rw [h]; exact k
end
/-- Bytes are appended. -/
theorem tk_app {ops : Array Oper} {Q : Exit → Act → World → Prop} {i d : Nat} {oi : Oper} {K : Act → World → Prop} {a : Act} (hi : ops.toList[i]? = some oi) (hd : oi.dst = some d) (hgd : oi.guard = none) (s x : Operand) (ho : oi.op = .call { callee := .builtin .append, args := #[s, x], argTypes := #[25, 25] })
    {w0 w : World} {v : Value} {B : List UInt8} (hs : a.eval s = v) (hB : OB w0 w v B) {b off m c : Nat} {T : List UInt8} (hx : a.eval x = .slice (some ⟨b, off, none⟩) m c) (hm : m = T.length) (hT : 0 < T.length) (hnews : ∀ i, i < T.length → w.cell? ⟨b, off + i, none⟩ = some (.int .u8 ((T.getD i 0).toNat : Int)))
    (hlen : B.length + T.length ≤ 140737488355328)
    (h : ∀ g cap N w', Box (N = (B ++ T).length) → OB w0 w' (.slice (some ⟨g, 0, none⟩) N cap) (B ++ T) → w.grownBy w' v.ownBlock → K (a.put (some d) (.slice (some ⟨g, 0, none⟩) N cap)) w') : wpOp Tryd.prog ops Q i K a w := by
  rw [Array.getElem?_toList] at hi
  rw [← hd] at h
  refine wpOp_step hi (fun K' hK => ?_)
  exact step_app_b hgd s x ho hs hB hx hm hT hnews hlen (fun g cap N w' h1 h2 h3 => hK _ _ (h g cap N w' h1 h2 h3))
theorem call_num (v : Value) (w : World) : (callFunc 18 #[v]).run Tryd.prog w = .ok (.enter 18 #[v]) w := by go_simp
end Go.Proofs.YtmipbaihlodmdaaDoor
