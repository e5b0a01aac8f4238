/-
  AssignDiamond: helpers for a region whose values are named ahead.
-/
import Derived.Test.YtmebkeidpklcbaaDoorZYDiE
import Derived.Test.YtmebkeidpklcbaaDoorZ06
namespace Go.Proofs.YtmebkeidpklcbaaDoor
open Go.RowKit

theorem enter_hasY (v u : Value) (w : World) : (callFunc 19 #[v, u]).run Tryd.prog w = .ok (.enter 19 #[v, u]) w := by go_simp
theorem ld_boolY {w : World} {ad : Addr} {v : Value} {ev : Operand → Value} {oi : Oper} {y : Operand} (hc : w.cell? ad = some v) (ho : oi.op = .load 4 y) (hy : ev y = .pointer (some ad)) : (execOp ev oi).run Tryd.prog w = .ok (.value v) w := by simp [execOp, ho, hy, go_sem, hc]
theorem ld_setY {w : World} {ad : Addr} {v : Value} {ev : Operand → Value} {oi : Oper} {y : Operand} (hc : w.cell? ad = some v) (ho : oi.op = .load 56 y) (hy : ev y = .pointer (some ad)) : (execOp ev oi).run Tryd.prog w = .ok (.value v) w := by simp [execOp, ho, hy, go_sem, hc]
theorem ix_setsY {w : World} {b j : Nat} {ev : Operand → Value} {oi : Oper} {x y : Operand} (ho : oi.op = .indexAddr 50 x y) (hx : ev x = .slice (some ⟨b, 0, none⟩) 4 4) (hy : ev y = .int .i64 (j : Int)) (hj : j < 4) : (execOp ev oi).run Tryd.prog w = .ok (.value (.pointer (some ⟨b, j, none⟩))) w := by
  simp [execOp, ho, hx, hy, go_sem]
  intro h'
  omega
theorem ix_arrY {w : World} {b j : Nat} {ev : Operand → Value} {oi : Oper} {x y : Operand} (ho : oi.op = .indexAddr 60 x y) (hx : ev x = .pointer (some ⟨b, 0, none⟩)) (hy : ev y = .int .i64 (j : Int)) (hj : j < 5) : (execOp ev oi).run Tryd.prog w = .ok (.value (.pointer (some ⟨b, j, none⟩))) w := by
  simp [execOp, ho, hx, hy, go_sem]
  intro h'
  omega
theorem add_oneY {w : World} {j : Nat} {ev : Operand → Value} {oi : Oper} {x y : Operand} (ho : oi.op = .binOp .add 3 x y 3) (hx : ev x = .int .i64 (j : Int)) (hy : ev y = .int .i64 1) (hj : j < 5) : (execOp ev oi).run Tryd.prog w = .ok (.value (.int .i64 ((j : Int) + 1))) w := by
  simp [execOp, ho, hx, hy, go_sem]
  exact IntWalk.i64_in _ (by omega)
theorem neq_boolY {w : World} {a b r : Bool} {ev : Operand → Value} {oi : Oper} {x y : Operand} (ho : oi.op = .binOp .neq 4 x y 4) (hx : ev x = .bool a) (hy : ev y = .bool b) (hr : (a != b) = r) : (execOp ev oi).run Tryd.prog w = .ok (.value (.bool r)) w := by
  subst hr
  cases a <;> cases b <;> simp [execOp, ho, hx, hy, go_sem]
end Go.Proofs.YtmebkeidpklcbaaDoor
