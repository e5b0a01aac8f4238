/-
  Helpers for regions whose values are named ahead.
-/
import Derived.Test.YtlopddflbhnjdaaDoorTRi
namespace Go.Proofs.YtlopddflbhnjdaaDoor
open Go.RowKit

section
variable {P : Program} {ops : Array Oper} {A : Act} {W0 : World}
theorem AllGive.cons {o : Oper} {v : Value} {os : List Oper} {vs : List Value} (h : Give P ops A W0 o v) (t : AllGive P ops A W0 os vs) : AllGive P ops A W0 (o :: os) (v :: vs) := ⟨h, t⟩
theorem AllGive.nil : AllGive P ops A W0 [] [] := trivial
theorem exec_call1 {ev : Operand → Value} {oi : Oper} {f : Nat} {x : Operand} {ts : Array TypeId} {v : Value} {w : World} (ho : oi.op = .call { callee := .value (.func f), args := #[x], argTypes := ts }) (hf : ev (.func f) = .func (.func f) #[] #[]) (hx : ev x = v) (hc : (callFunc f #[v]).run P w = .ok (.enter f #[v]) w) : (execOp ev oi).run P w = .ok (.enter f #[v]) w := by
  subst hx
  simp [execOp, ho, hf, go_sem, hc]
theorem exec_call3 {ev : Operand → Value} {oi : Oper} {f : Nat} {x y z : Operand} {ts : Array TypeId} {v u t : Value} {w : World} (ho : oi.op = .call { callee := .value (.func f), args := #[x, y, z], argTypes := ts }) (hf : ev (.func f) = .func (.func f) #[] #[]) (hx : ev x = v) (hy : ev y = u) (hz : ev z = t) (hc : (callFunc f #[v, u, t]).run P w = .ok (.enter f #[v, u, t]) w) : (execOp ev oi).run P w = .ok (.enter f #[v, u, t]) w := by
  subst hx hy hz
  simp [execOp, ho, hf, go_sem, hc]
theorem exec_call4 {ev : Operand → Value} {oi : Oper} {f : Nat} {x y z p : Operand} {ts : Array TypeId} {v u t s : Value} {w : World} (ho : oi.op = .call { callee := .value (.func f), args := #[x, y, z, p], argTypes := ts }) (hf : ev (.func f) = .func (.func f) #[] #[]) (hx : ev x = v) (hy : ev y = u) (hz : ev z = t) (hp : ev p = s) (hc : (callFunc f #[v, u, t, s]).run P w = .ok (.enter f #[v, u, t, s]) w) : (execOp ev oi).run P w = .ok (.enter f #[v, u, t, s]) w := by
  subst hx hy hz hp
  simp [execOp, ho, hf, go_sem, hc]
end
theorem enter_typ (v u : Value) (w : World) : (callFunc 33 #[v, u]).run Tryd.prog w = .ok (.enter 33 #[v, u]) w := by go_simp
theorem enter_eq (v u : Value) (w : World) : (callFunc 34 #[v, u]).run Tryd.prog w = .ok (.enter 34 #[v, u]) w := by go_simp
theorem enter_impl (v u t : Value) (w : World) : (callFunc 35 #[v, u, t]).run Tryd.prog w = .ok (.enter 35 #[v, u, t]) w := by go_simp
theorem enter_call (v u t s : Value) (w : World) : (callFunc 36 #[v, u, t, s]).run Tryd.prog w = .ok (.enter 36 #[v, u, t, s]) w := by go_simp
theorem ld_int {w : World} {ad : Addr} {v : Value} {ev : Operand → Value} {oi : Oper} {y : Operand} (hc : w.cell? ad = some v) (ho : oi.op = .load 3 y) (hy : ev y = .pointer (some ad)) : (execOp ev oi).run Tryd.prog w = .ok (.value v) w := by simp [execOp, ho, hy, go_sem, hc]
theorem ld_tys {w : World} {ad : Addr} {v : Value} {ev : Operand → Value} {oi : Oper} {y : Operand} (hc : w.cell? ad = some v) (ho : oi.op = .load 26 y) (hy : ev y = .pointer (some ad)) : (execOp ev oi).run Tryd.prog w = .ok (.value v) w := by simp [execOp, ho, hy, go_sem, hc]
theorem ld_tyss {w : World} {ad : Addr} {v : Value} {ev : Operand → Value} {oi : Oper} {y : Operand} (hc : w.cell? ad = some v) (ho : oi.op = .load 30 y) (hy : ev y = .pointer (some ad)) : (execOp ev oi).run Tryd.prog w = .ok (.value v) w := by simp [execOp, ho, hy, go_sem, hc]
theorem ld_sigs {w : World} {ad : Addr} {v : Value} {ev : Operand → Value} {oi : Oper} {y : Operand} (hc : w.cell? ad = some v) (ho : oi.op = .load 31 y) (hy : ev y = .pointer (some ad)) : (execOp ev oi).run Tryd.prog w = .ok (.value v) w := by simp [execOp, ho, hy, go_sem, hc]
theorem ld_ifs {w : World} {ad : Addr} {v : Value} {ev : Operand → Value} {oi : Oper} {y : Operand} (hc : w.cell? ad = some v) (ho : oi.op = .load 32 y) (hy : ev y = .pointer (some ad)) : (execOp ev oi).run Tryd.prog w = .ok (.value v) w := by simp [execOp, ho, hy, go_sem, hc]
theorem ld_fns {w : World} {ad : Addr} {v : Value} {ev : Operand → Value} {oi : Oper} {y : Operand} (hc : w.cell? ad = some v) (ho : oi.op = .load 34 y) (hy : ev y = .pointer (some ad)) : (execOp ev oi).run Tryd.prog w = .ok (.value v) w := by simp [execOp, ho, hy, go_sem, hc]
theorem ld_ints {w : World} {ad : Addr} {v : Value} {ev : Operand → Value} {oi : Oper} {y : Operand} (hc : w.cell? ad = some v) (ho : oi.op = .load 37 y) (hy : ev y = .pointer (some ad)) : (execOp ev oi).run Tryd.prog w = .ok (.value v) w := by simp [execOp, ho, hy, go_sem, hc]
theorem ld_ty {w : World} {b o : Nat} {v0 v1 : Value} {ev : Operand → Value} {oi : Oper} {y : Operand} (h0 : w.cell? ⟨b, o + 0, none⟩ = some v0) (h1 : w.cell? ⟨b, o + 1, none⟩ = some v1) (ho : oi.op = .load 39 y) (hy : ev y = .pointer (some ⟨b, o, none⟩)) : (execOp ev oi).run Tryd.prog w = .ok (.value (.agg #[v0, v1])) w := by
  rw [Nat.add_zero] at h0
  simp [execOp, ho, hy, go_sem, h0, h1]
theorem ld_fn {w : World} {b o : Nat} {v0 v1 v2 : Value} {ev : Operand → Value} {oi : Oper} {y : Operand} (h0 : w.cell? ⟨b, o + 0, none⟩ = some v0) (h1 : w.cell? ⟨b, o + 1, none⟩ = some v1) (h2 : w.cell? ⟨b, o + 2, none⟩ = some v2) (ho : oi.op = .load 29 y) (hy : ev y = .pointer (some ⟨b, o, none⟩)) : (execOp ev oi).run Tryd.prog w = .ok (.value (.agg #[v0, v1, v2])) w := by
  rw [Nat.add_zero] at h0
  simp [execOp, ho, hy, go_sem, h0, h1, h2]
theorem ld_sg {w : World} {b o : Nat} {v0 v1 v2 : Value} {ev : Operand → Value} {oi : Oper} {y : Operand} (h0 : w.cell? ⟨b, o + 0, none⟩ = some v0) (h1 : w.cell? ⟨b, o + 1, none⟩ = some v1) (h2 : w.cell? ⟨b, o + 2, none⟩ = some v2) (ho : oi.op = .load 41 y) (hy : ev y = .pointer (some ⟨b, o, none⟩)) : (execOp ev oi).run Tryd.prog w = .ok (.value (.agg #[v0, v1, v2])) w := by
  rw [Nat.add_zero] at h0
  simp [execOp, ho, hy, go_sem, h0, h1, h2]
theorem ld_in {w : World} {b o : Nat} {v0 v1 v2 v3 v4 v5 : Value} {ev : Operand → Value} {oi : Oper} {y : Operand} (h0 : w.cell? ⟨b, o + 0, none⟩ = some v0) (h1 : w.cell? ⟨b, o + 1, none⟩ = some v1) (h2 : w.cell? ⟨b, o + 2, none⟩ = some v2) (h3 : w.cell? ⟨b, o + 3, none⟩ = some v3) (h4 : w.cell? ⟨b, o + 4, none⟩ = some v4) (h5 : w.cell? ⟨b, o + 5, none⟩ = some v5) (ho : oi.op = .load 54 y) (hy : ev y = .pointer (some ⟨b, o, none⟩)) : (execOp ev oi).run Tryd.prog w = .ok (.value (.agg #[v0, v1, v2, v3, v4, v5])) w := by
  rw [Nat.add_zero] at h0
  simp [execOp, ho, hy, go_sem, h0, h1, h2, h3, h4, h5]
theorem bin_eql {w : World} {a b : Int} {r : Bool} {ev : Operand → Value} {oi : Oper} {x y : Operand} (ho : oi.op = .binOp .eql 3 x y 3) (hx : ev x = .int .i64 a) (hy : ev y = .int .i64 b) (hr : (a == b) = r) : (execOp ev oi).run Tryd.prog w = .ok (.value (.bool r)) w := by
  simp [execOp, ho, hx, hy, go_sem, hr]
theorem bin_geq {w : World} {a : Int} {r : Bool} {ev : Operand → Value} {oi : Oper} {x y : Operand} (ho : oi.op = .binOp .geq 3 x y 3) (hx : ev x = .int .i64 a) (hy : ev y = .int .i64 0) (hr : decide (0 ≤ a) = r) : (execOp ev oi).run Tryd.prog w = .ok (.value (.bool r)) w := by
  simp [execOp, ho, hx, hy, go_sem, hr]
theorem bin_eqlB {w : World} {a b r : Bool} {ev : Operand → Value} {oi : Oper} {x y : Operand} (ho : oi.op = .binOp .eql 4 x y 4) (hx : ev x = .bool a) (hy : ev y = .bool b) (hr : (a == b) = r) : (execOp ev oi).run Tryd.prog w = .ok (.value (.bool r)) w := by
  simp [execOp, ho, hx, hy, go_sem, hr]
theorem ix_fns {w : World} {b o n c j : Nat} {ev : Operand → Value} {oi : Oper} {x y : Operand} (ho : oi.op = .indexAddr 34 x y) (hx : ev x = .slice (some ⟨b, o, none⟩) n c) (hy : ev y = .int .i64 (j : Int)) (hj : (j : Int) < (n : Int)) : (execOp ev oi).run Tryd.prog w = .ok (.value (.pointer (some ⟨b, o + j * 3, none⟩))) w := by
  simp [execOp, ho, hx, hy, go_sem]
  intro h'
  omega
theorem ix_sigs {w : World} {b o n c j : Nat} {ev : Operand → Value} {oi : Oper} {x y : Operand} (ho : oi.op = .indexAddr 31 x y) (hx : ev x = .slice (some ⟨b, o, none⟩) n c) (hy : ev y = .int .i64 (j : Int)) (hj : (j : Int) < (n : Int)) : (execOp ev oi).run Tryd.prog w = .ok (.value (.pointer (some ⟨b, o + j * 3, none⟩))) w := by
  simp [execOp, ho, hx, hy, go_sem]
  intro h'
  omega
theorem ix_tyss {w : World} {b o n c j : Nat} {ev : Operand → Value} {oi : Oper} {x y : Operand} (ho : oi.op = .indexAddr 30 x y) (hx : ev x = .slice (some ⟨b, o, none⟩) n c) (hy : ev y = .int .i64 (j : Int)) (hj : (j : Int) < (n : Int)) : (execOp ev oi).run Tryd.prog w = .ok (.value (.pointer (some ⟨b, o + j, none⟩))) w := by
  simp [execOp, ho, hx, hy, go_sem]
  intro h'
  omega
theorem ix_tys {w : World} {b o n c j : Nat} {ev : Operand → Value} {oi : Oper} {x y : Operand} (ho : oi.op = .indexAddr 26 x y) (hx : ev x = .slice (some ⟨b, o, none⟩) n c) (hy : ev y = .int .i64 (j : Int)) (hj : (j : Int) < (n : Int)) : (execOp ev oi).run Tryd.prog w = .ok (.value (.pointer (some ⟨b, o + j * 2, none⟩))) w := by
  simp [execOp, ho, hx, hy, go_sem]
  intro h'
  omega
theorem ix_ifs {w : World} {b o n c j : Nat} {ev : Operand → Value} {oi : Oper} {x y : Operand} (ho : oi.op = .indexAddr 32 x y) (hx : ev x = .slice (some ⟨b, o, none⟩) n c) (hy : ev y = .int .i64 (j : Int)) (hj : (j : Int) < (n : Int)) : (execOp ev oi).run Tryd.prog w = .ok (.value (.pointer (some ⟨b, o + j, none⟩))) w := by
  simp [execOp, ho, hx, hy, go_sem]
  intro h'
  omega
theorem ix_ints {w : World} {b o n c j : Nat} {ev : Operand → Value} {oi : Oper} {x y : Operand} (ho : oi.op = .indexAddr 37 x y) (hx : ev x = .slice (some ⟨b, o, none⟩) n c) (hy : ev y = .int .i64 (j : Int)) (hj : (j : Int) < (n : Int)) : (execOp ev oi).run Tryd.prog w = .ok (.value (.pointer (some ⟨b, o + j, none⟩))) w := by
  simp [execOp, ho, hx, hy, go_sem]
  intro h'
  omega
end Go.Proofs.YtlopddflbhnjdaaDoor
