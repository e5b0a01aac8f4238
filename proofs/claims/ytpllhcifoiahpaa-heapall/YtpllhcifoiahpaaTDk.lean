/-
  Helpers for regions whose values are named ahead.
-/
import Derived.Test.YtpllhcifoiahpaaRows
import Derived.WalkKit
import Derived.WalkSpells
import Derived.WalkLawsBesides
import Derived.OwnWalk
import Derived.Deep.QuietTactic
import Derived.BigQuiet
import Derived.Maps.AppendAt
import Derived.Lib.Builder
import Derived.Deep.OwnRows
import Derived.Deep.DeepCutAuto
import Derived.Deep.AppendLies
import Derived.LaidEql
import Derived.Stop.Asserts
import Derived.RowKitTokens
import Derived.Defers
import Derived.Recover
import Derived.Deep.RegionLaw
import Derived.Deep.RegionHeld
import Derived.Deep.RegionWith
import Derived.Deep.RegionHeld3
import Derived.Laws.AppendOwnNone
import Derived.Test.YtpllhcifoiahpaaTDet
namespace Go.Proofs.Ytpllhcifoiahpaa
open Go.RowKit

section
variable {P : Program} {ops : Array Oper} {A : Act} {W0 : World}
theorem AllGive.cons {o : Oper} {v : Value} {os : List Oper} {vs : List Value} (h : Give P ops A W0 o v) (t : AllGive P ops A W0 os vs) : AllGive P ops A W0 (o :: os) (v :: vs) := ⟨h, t⟩
theorem AllGive.nil : AllGive P ops A W0 [] [] := trivial
theorem gY {o : Oper} {v : Value} {os : List Oper} {vs : List Value} (h : ∀ w, Keeps [] W0 w → (execOp A.eval o).run P w = .ok (.value v) w) (t : AllGive P ops A W0 os vs) (hw : Region.wanted o (yielded ops A.tmps) = true := by rfl) : AllGive P ops A W0 (o :: os) (v :: vs) := ⟨give_yield hw h, t⟩
theorem gR {o : Oper} {v : Value} {os : List Oper} {vs : List Value} (t : AllGive P ops A W0 os vs) (h : ∀ w, Keeps [] W0 w → (execOp A.eval o).run P w = .ok (.value v) w := by exact fun _ _ => rfl) (hw : Region.wanted o (yielded ops A.tmps) = true := by rfl) : AllGive P ops A W0 (o :: os) (v :: vs) := ⟨give_yield hw h, t⟩
theorem gP {o : Oper} {os : List Oper} {vs : List Value} (t : AllGive P ops A W0 os vs) (hw : Region.wanted o (yielded ops A.tmps) = false := by rfl) : AllGive P ops A W0 (o :: os) (undef :: vs) := ⟨give_pass hw, t⟩
theorem exec_call1 {ev : Operand → Value} {oi : Oper} {f : Nat} {x : Operand} {ts : Array TypeId} {v : Value} {w : World} (ho : oi.op = .call { callee := .value (.func f), args := #[x], argTypes := ts }) (hf : ev (.func f) = .func (.func f) #[] #[]) (hx : ev x = v) (hc : (callFunc f #[v]).run P w = .ok (.enter f #[v]) w) : (execOp ev oi).run P w = .ok (.enter f #[v]) w := by
  subst hx
  simp [execOp, ho, hf, go_sem, hc]
theorem exec_call3 {ev : Operand → Value} {oi : Oper} {f : Nat} {x y z : Operand} {ts : Array TypeId} {v u t : Value} {w : World} (ho : oi.op = .call { callee := .value (.func f), args := #[x, y, z], argTypes := ts }) (hf : ev (.func f) = .func (.func f) #[] #[]) (hx : ev x = v) (hy : ev y = u) (hz : ev z = t) (hc : (callFunc f #[v, u, t]).run P w = .ok (.enter f #[v, u, t]) w) : (execOp ev oi).run P w = .ok (.enter f #[v, u, t]) w := by
  subst hx hy hz
  simp [execOp, ho, hf, go_sem, hc]
theorem exec_call4 {ev : Operand → Value} {oi : Oper} {f : Nat} {x y z p : Operand} {ts : Array TypeId} {v u t s : Value} {w : World} (ho : oi.op = .call { callee := .value (.func f), args := #[x, y, z, p], argTypes := ts }) (hf : ev (.func f) = .func (.func f) #[] #[]) (hx : ev x = v) (hy : ev y = u) (hz : ev z = t) (hp : ev p = s) (hc : (callFunc f #[v, u, t, s]).run P w = .ok (.enter f #[v, u, t, s]) w) : (execOp ev oi).run P w = .ok (.enter f #[v, u, t, s]) w := by
  subst hx hy hz hp
  simp [execOp, ho, hf, go_sem, hc]
end
end Go.Proofs.Ytpllhcifoiahpaa
