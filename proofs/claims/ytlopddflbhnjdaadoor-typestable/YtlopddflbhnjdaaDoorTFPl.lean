/-
  types.Fits and the document's: the same, where names are right.
-/
import Derived.Test.YtlopddflbhnjdaaDoorTRfit
import Derived.Test.YtlopddflbhnjdaaDoorTNames
namespace Go.Proofs.YtlopddflbhnjdaaDoor
open Go.RowKit

theorem enter_fits (v u t : Value) (w : World) : (callFunc 16 #[v, u, t]).run Tryd.prog w = .ok (.enter 16 #[v, u, t]) w := by go_simp
theorem enter_rfits (v u t : Value) (w : World) : (callFunc 17 #[v, u, t]).run Tryd.prog w = .ok (.enter 17 #[v, u, t]) w := by go_simp
theorem rt_true {P : Pr8} {f : Fu8} {x : In8} (h : insOk P f x = true) (ht : tysB P f.regs = true) : rtB P f x = true := by
  obtain ⟨hr, _⟩ := insOk_parts h
  unfold rtB
  rw [Bool.and_eq_true]
  refine ⟨?_, ?_⟩
  · cases hd : isDef x with
    | false => rfl
    | true => exact reg_named ht (regs_dst hr hd)
  · exact all_good fun k y hy => reg_named ht (regs_use hr k y hy)
theorem fit_same {P : Pr8} {f : Fu8} {x : In8} (ht : tysB P f.regs = true) : (insOk P f x && (rtB P f x && fitB P f x)) = (insOk P f x && fitB P f x) := by
  cases h : insOk P f x with
  | false => rfl
  | true => rw [rt_true h ht, Bool.true_and]
theorem names_tab {P : Pr8} (h : namesO P = none) : tablesB P = true := by
  cases ht : tablesB P with
  | true => rfl
  | false => rw [namesO_tab ht] at h; cases h
theorem names_head {P : Pr8} (h : namesO P = none) {k : Nat} (hk : k < P.funcs.length) : headOk P k = true := by
  have ht := names_tab h
  unfold namesO at h
  rw [if_pos ht] at h
  cases hf : (List.range P.funcs.length).findSome? (fnNm P) with
  | some q => rw [hf] at h; cases h
  | none =>
    have h1 := List.findSome?_eq_none_iff.1 hf k (List.mem_range.2 hk)
    cases hh : headOk P k with
    | true => rfl
    | false => rw [fnNm_head hh] at h1; cases h1
theorem names_ty {P : Pr8} (h : namesO P = none) {k : Nat} (hk : k < P.funcs.length) : tysB P (fun8 P k).regs = true := by
  have := names_head h hk
  unfold headOk at this
  rw [Bool.and_eq_true] at this
  exact this.2
theorem names_if {P : Pr8} (h : namesO P = none) : P.ifs.all (fun l => insB l P.sigs.length) = true := by
  have := names_tab h
  unfold tablesB at this
  rw [Bool.and_eq_true, Bool.and_eq_true, Bool.and_eq_true] at this
  exact this.2.2.1
theorem names_sg {P : Pr8} (h : namesO P = none) : P.funcs.all (fun g => inB g.sig P.sigs.length) = true := all_good fun k y hy => by
  have hk := (List.getElem?_eq_some_iff.1 hy).1
  have := names_head h hk
  unfold headOk at this
  rw [Bool.and_eq_true] at this
  have e : fun8 P k = y := by
    have h2 := getD_get (l := P.funcs) (k := k) (d := ⟨0, [], []⟩) hk
    rw [hy] at h2
    exact (Option.some.inj h2).symm
  rw [e] at this
  exact this.1
end Go.Proofs.YtlopddflbhnjdaaDoor
