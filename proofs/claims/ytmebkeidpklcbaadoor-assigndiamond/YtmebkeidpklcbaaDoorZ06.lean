/-
  Helpers for regions whose values are named ahead.
-/
import Derived.Test.YtmebkeidpklcbaaDoorRows
import Derived.WalkKit
import Derived.WalkSpells
import Derived.WalkLawsBesides
import Derived.OwnWalk
import Derived.Deep.QuietTactic
import Derived.BigQuiet
import Derived.Maps.AppendAt
import Derived.Lib.Builder
import Derived.Deep.OwnRows
import Derived.Deep.DeepCutAuto
import Derived.Deep.AppendLies
import Derived.LaidEql
import Derived.Stop.Asserts
import Derived.RowKitTokens
import Derived.Defers
import Derived.Recover
import Derived.Deep.RegionLaw
import Derived.Deep.RegionHeld
import Derived.Deep.RegionWith
import Derived.Deep.RegionHeld3
import Derived.Laws.AppendOwnNone
import Derived.Test.YtmebkeidpklcbaaDoorZ05

namespace Go.Proofs.YtmebkeidpklcbaaDoor
open Go.RowKit

section
variable {P : Program} {ops : Array Oper} {A : Act} {W0 : World}
theorem AllGive.cons {o : Oper} {v : Value} {os : List Oper} {vs : List Value} (h : Give P ops A W0 o v) (t : AllGive P ops A W0 os vs) : AllGive P ops A W0 (o :: os) (v :: vs) := ⟨h, t⟩
theorem AllGive.nil : AllGive P ops A W0 [] [] := trivial
theorem exec_call1 {ev : Operand → Value} {oi : Oper} {f : Nat} {x : Operand} {ts : Array TypeId} {v : Value} {w : World} (ho : oi.op = .call { callee := .value (.func f), args := #[x], argTypes := ts }) (hf : ev (.func f) = .func (.func f) #[] #[]) (hx : ev x = v) (hc : (callFunc f #[v]).run P w = .ok (.enter f #[v]) w) : (execOp ev oi).run P w = .ok (.enter f #[v]) w := by
  subst hx
  simp [execOp, ho, hf, go_sem, hc]
theorem exec_call3 {ev : Operand → Value} {oi : Oper} {f : Nat} {x y z : Operand} {ts : Array TypeId} {v u t : Value} {w : World} (ho : oi.op = .call { callee := .value (.func f), args := #[x, y, z], argTypes := ts }) (hf : ev (.func f) = .func (.func f) #[] #[]) (hx : ev x = v) (hy : ev y = u) (hz : ev z = t) (hc : (callFunc f #[v, u, t]).run P w = .ok (.enter f #[v, u, t]) w) : (execOp ev oi).run P w = .ok (.enter f #[v, u, t]) w := by
  subst hx hy hz
  simp [execOp, ho, hf, go_sem, hc]
theorem exec_call4 {ev : Operand → Value} {oi : Oper} {f : Nat} {x y z p : Operand} {ts : Array TypeId} {v u t s : Value} {w : World} (ho : oi.op = .call { callee := .value (.func f), args := #[x, y, z, p], argTypes := ts }) (hf : ev (.func f) = .func (.func f) #[] #[]) (hx : ev x = v) (hy : ev y = u) (hz : ev z = t) (hp : ev p = s) (hc : (callFunc f #[v, u, t, s]).run P w = .ok (.enter f #[v, u, t, s]) w) : (execOp ev oi).run P w = .ok (.enter f #[v, u, t, s]) w := by
  subst hx hy hz hp
  simp [execOp, ho, hf, go_sem, hc]
end
theorem ld_int {w : World} {ad : Addr} {v : Value} {ev : Operand → Value} {oi : Oper} {y : Operand} (hc : w.cell? ad = some v) (ho : oi.op = .load 3 y) (hy : ev y = .pointer (some ad)) : (execOp ev oi).run Tryd.prog w = .ok (.value v) w := by simp [execOp, ho, hy, go_sem, hc]
theorem ld_fns {w : World} {ad : Addr} {v : Value} {ev : Operand → Value} {oi : Oper} {y : Operand} (hc : w.cell? ad = some v) (ho : oi.op = .load 29 y) (hy : ev y = .pointer (some ad)) : (execOp ev oi).run Tryd.prog w = .ok (.value v) w := by simp [execOp, ho, hy, go_sem, hc]
theorem ld_fn {w : World} {b o : Nat} {v0 v1 v2 : Value} {ev : Operand → Value} {oi : Oper} {y : Operand} (h0 : w.cell? ⟨b, o + 0, none⟩ = some v0) (h1 : w.cell? ⟨b, o + 1, none⟩ = some v1) (h2 : w.cell? ⟨b, o + 2, none⟩ = some v2) (ho : oi.op = .load 39 y) (hy : ev y = .pointer (some ⟨b, o, none⟩)) : (execOp ev oi).run Tryd.prog w = .ok (.value (.agg #[v0, v1, v2])) w := by
  rw [Nat.add_zero] at h0
  simp [execOp, ho, hy, go_sem, h0, h1, h2]
theorem ld_in {w : World} {b o : Nat} {v0 v1 v2 v3 v4 v5 : Value} {ev : Operand → Value} {oi : Oper} {y : Operand} (h0 : w.cell? ⟨b, o + 0, none⟩ = some v0) (h1 : w.cell? ⟨b, o + 1, none⟩ = some v1) (h2 : w.cell? ⟨b, o + 2, none⟩ = some v2) (h3 : w.cell? ⟨b, o + 3, none⟩ = some v3) (h4 : w.cell? ⟨b, o + 4, none⟩ = some v4) (h5 : w.cell? ⟨b, o + 5, none⟩ = some v5) (ho : oi.op = .load 65 y) (hy : ev y = .pointer (some ⟨b, o, none⟩)) : (execOp ev oi).run Tryd.prog w = .ok (.value (.agg #[v0, v1, v2, v3, v4, v5])) w := by
  rw [Nat.add_zero] at h0
  simp [execOp, ho, hy, go_sem, h0, h1, h2, h3, h4, h5]
theorem bin_eql {w : World} {a b : Int} {r : Bool} {ev : Operand → Value} {oi : Oper} {x y : Operand} (ho : oi.op = .binOp .eql 3 x y 3) (hx : ev x = .int .i64 a) (hy : ev y = .int .i64 b) (hr : (a == b) = r) : (execOp ev oi).run Tryd.prog w = .ok (.value (.bool r)) w := by
  simp [execOp, ho, hx, hy, go_sem, hr]
end Go.Proofs.YtmebkeidpklcbaaDoor
