/-
  Helpers for regions whose values are named ahead.
-/
import Derived.Test.YtpllhcifoiahpaaHpAll0
namespace Go.Proofs.Ytpllhcifoiahpaa
open Go.RowKit

theorem xnot {w : World} {b r : Bool} {ev : Operand → Value} {oi : Oper} {x : Operand} (ho : oi.op = .unOp .not 4 x) (hx : ev x = .bool b) (hr : (!b) = r := by rfl) : (execOp ev oi).run Try.prog w = .ok (.value (.bool r)) w := by
  subst hr
  simp [execOp, ho, hx, go_sem]
theorem xld_int {w : World} {ad : Addr} {v : Value} {ev : Operand → Value} {oi : Oper} {y : Operand} (hc : w.cell? ad = some v) (ho : oi.op = .load 3 y) (hy : ev y = .pointer (some ad)) : (execOp ev oi).run Try.prog w = .ok (.value v) w := by simp [execOp, ho, hy, go_sem, hc]
theorem xld_i64 {w : World} {ad : Addr} {v : Value} {ev : Operand → Value} {oi : Oper} {y : Operand} (hc : w.cell? ad = some v) (ho : oi.op = .load 2 y) (hy : ev y = .pointer (some ad)) : (execOp ev oi).run Try.prog w = .ok (.value v) w := by simp [execOp, ho, hy, go_sem, hc]
theorem xld_boo {w : World} {ad : Addr} {v : Value} {ev : Operand → Value} {oi : Oper} {y : Operand} (hc : w.cell? ad = some v) (ho : oi.op = .load 4 y) (hy : ev y = .pointer (some ad)) : (execOp ev oi).run Try.prog w = .ok (.value v) w := by simp [execOp, ho, hy, go_sem, hc]
theorem xld_vls {w : World} {ad : Addr} {v : Value} {ev : Operand → Value} {oi : Oper} {y : Operand} (hc : w.cell? ad = some v) (ho : oi.op = .load 32 y) (hy : ev y = .pointer (some ad)) : (execOp ev oi).run Try.prog w = .ok (.value v) w := by simp [execOp, ho, hy, go_sem, hc]
theorem xix_vls {w : World} {b o n c j : Nat} {ev : Operand → Value} {oi : Oper} {x y : Operand} (ho : oi.op = .indexAddr 32 x y) (hx : ev x = .slice (some ⟨b, o, none⟩) n c) (hy : ev y = .int .i64 (j : Int)) (hj : (j : Int) < (n : Int)) : (execOp ev oi).run Try.prog w = .ok (.value (.pointer (some ⟨b, o + j * 3, none⟩))) w := by
  simp [execOp, ho, hx, hy, go_sem]
  intro h'
  omega
theorem xlen_vls {w : World} {a : Option Addr} {n c : Nat} {ev : Operand → Value} {oi : Oper} {x : Operand} (ho : oi.op = .call { callee := .builtin .len, args := #[x], argTypes := #[32] }) (hx : ev x = .slice a n c) : (execOp ev oi).run Try.prog w = .ok (.value (.int .i64 (n : Int))) w := by
  obtain ⟨dst, op, type, pos, after, guard⟩ := oi
  simp only at ho
  subst ho
  simp [hx, go_sem]
theorem xld_objs {w : World} {ad : Addr} {v : Value} {ev : Operand → Value} {oi : Oper} {y : Operand} (hc : w.cell? ad = some v) (ho : oi.op = .load 26 y) (hy : ev y = .pointer (some ad)) : (execOp ev oi).run Try.prog w = .ok (.value v) w := by simp [execOp, ho, hy, go_sem, hc]
theorem xix_objs {w : World} {b o n c j : Nat} {ev : Operand → Value} {oi : Oper} {x y : Operand} (ho : oi.op = .indexAddr 26 x y) (hx : ev x = .slice (some ⟨b, o, none⟩) n c) (hy : ev y = .int .i64 (j : Int)) (hj : (j : Int) < (n : Int)) : (execOp ev oi).run Try.prog w = .ok (.value (.pointer (some ⟨b, o + j * 3, none⟩))) w := by
  simp [execOp, ho, hx, hy, go_sem]
  intro h'
  omega
theorem xlen_objs {w : World} {a : Option Addr} {n c : Nat} {ev : Operand → Value} {oi : Oper} {x : Operand} (ho : oi.op = .call { callee := .builtin .len, args := #[x], argTypes := #[26] }) (hx : ev x = .slice a n c) : (execOp ev oi).run Try.prog w = .ok (.value (.int .i64 (n : Int))) w := by
  obtain ⟨dst, op, type, pos, after, guard⟩ := oi
  simp only at ho
  subst ho
  simp [hx, go_sem]
theorem xld_tys {w : World} {ad : Addr} {v : Value} {ev : Operand → Value} {oi : Oper} {y : Operand} (hc : w.cell? ad = some v) (ho : oi.op = .load 27 y) (hy : ev y = .pointer (some ad)) : (execOp ev oi).run Try.prog w = .ok (.value v) w := by simp [execOp, ho, hy, go_sem, hc]
theorem xix_tys {w : World} {b o n c j : Nat} {ev : Operand → Value} {oi : Oper} {x y : Operand} (ho : oi.op = .indexAddr 27 x y) (hx : ev x = .slice (some ⟨b, o, none⟩) n c) (hy : ev y = .int .i64 (j : Int)) (hj : (j : Int) < (n : Int)) : (execOp ev oi).run Try.prog w = .ok (.value (.pointer (some ⟨b, o + j * 2, none⟩))) w := by
  simp [execOp, ho, hx, hy, go_sem]
  intro h'
  omega
theorem xlen_tys {w : World} {a : Option Addr} {n c : Nat} {ev : Operand → Value} {oi : Oper} {x : Operand} (ho : oi.op = .call { callee := .builtin .len, args := #[x], argTypes := #[27] }) (hx : ev x = .slice a n c) : (execOp ev oi).run Try.prog w = .ok (.value (.int .i64 (n : Int))) w := by
  obtain ⟨dst, op, type, pos, after, guard⟩ := oi
  simp only at ho
  subst ho
  simp [hx, go_sem]
theorem xld_vl {w : World} {b o : Nat} {v0 v1 v2 : Value} {ev : Operand → Value} {oi : Oper} {y : Operand} (h0 : w.cell? ⟨b, o + 0, none⟩ = some v0) (h1 : w.cell? ⟨b, o + 1, none⟩ = some v1) (h2 : w.cell? ⟨b, o + 2, none⟩ = some v2) (ho : oi.op = .load 29 y) (hy : ev y = .pointer (some ⟨b, o, none⟩)) : (execOp ev oi).run Try.prog w = .ok (.value (.agg #[v0, v1, v2])) w := by
  rw [Nat.add_zero] at h0
  simp [execOp, ho, hy, go_sem, h0, h1, h2]
theorem xb_eql {w : World} {a b : Int} {r : Bool} {ev : Operand → Value} {oi : Oper} {x y : Operand} (ho : oi.op = .binOp .eql 3 x y 3) (hx : ev x = .int .i64 a) (hy : ev y = .int .i64 b) (hr : (a == b) = r) : (execOp ev oi).run Try.prog w = .ok (.value (.bool r)) w := by
  simp [execOp, ho, hx, hy, go_sem, hr]
theorem xb_neq {w : World} {a b : Int} {r : Bool} {ev : Operand → Value} {oi : Oper} {x y : Operand} (ho : oi.op = .binOp .neq 3 x y 3) (hx : ev x = .int .i64 a) (hy : ev y = .int .i64 b) (hr : (a != b) = r) : (execOp ev oi).run Try.prog w = .ok (.value (.bool r)) w := by
  simp [execOp, ho, hx, hy, go_sem, hr]
theorem xb_lss {w : World} {a b : Int} {r : Bool} {ev : Operand → Value} {oi : Oper} {x y : Operand} (ho : oi.op = .binOp .lss 3 x y 3) (hx : ev x = .int .i64 a) (hy : ev y = .int .i64 b) (hr : decide (a < b) = r) : (execOp ev oi).run Try.prog w = .ok (.value (.bool r)) w := by
  simp [execOp, ho, hx, hy, go_sem, hr]
theorem xb_gtr {w : World} {a b : Int} {r : Bool} {ev : Operand → Value} {oi : Oper} {x y : Operand} (ho : oi.op = .binOp .gtr 3 x y 3) (hx : ev x = .int .i64 a) (hy : ev y = .int .i64 b) (hr : decide (b < a) = r) : (execOp ev oi).run Try.prog w = .ok (.value (.bool r)) w := by
  simp [execOp, ho, hx, hy, go_sem, hr]
theorem xb_eql6 {w : World} {a b : Int} {r : Bool} {ev : Operand → Value} {oi : Oper} {x y : Operand} (ho : oi.op = .binOp .eql 2 x y 2) (hx : ev x = .int .i64 a) (hy : ev y = .int .i64 b) (hr : (a == b) = r) : (execOp ev oi).run Try.prog w = .ok (.value (.bool r)) w := by
  simp [execOp, ho, hx, hy, go_sem, hr]
theorem xb_neq6 {w : World} {a b : Int} {r : Bool} {ev : Operand → Value} {oi : Oper} {x y : Operand} (ho : oi.op = .binOp .neq 2 x y 2) (hx : ev x = .int .i64 a) (hy : ev y = .int .i64 b) (hr : (a != b) = r) : (execOp ev oi).run Try.prog w = .ok (.value (.bool r)) w := by
  simp [execOp, ho, hx, hy, go_sem, hr]
theorem xb_geq {w : World} {a b : Int} {r : Bool} {ev : Operand → Value} {oi : Oper} {x y : Operand} (ho : oi.op = .binOp .geq 3 x y 3) (hx : ev x = .int .i64 a) (hy : ev y = .int .i64 b) (hr : decide (b ≤ a) = r) : (execOp ev oi).run Try.prog w = .ok (.value (.bool r)) w := by
  simp [execOp, ho, hx, hy, go_sem, hr]
theorem xb_geq6 {w : World} {a b : Int} {r : Bool} {ev : Operand → Value} {oi : Oper} {x y : Operand} (ho : oi.op = .binOp .geq 2 x y 2) (hx : ev x = .int .i64 a) (hy : ev y = .int .i64 b) (hr : decide (b ≤ a) = r) : (execOp ev oi).run Try.prog w = .ok (.value (.bool r)) w := by
  simp [execOp, ho, hx, hy, go_sem, hr]
theorem xb_leq {w : World} {a b : Int} {r : Bool} {ev : Operand → Value} {oi : Oper} {x y : Operand} (ho : oi.op = .binOp .leq 3 x y 3) (hx : ev x = .int .i64 a) (hy : ev y = .int .i64 b) (hr : decide (a ≤ b) = r) : (execOp ev oi).run Try.prog w = .ok (.value (.bool r)) w := by
  simp [execOp, ho, hx, hy, go_sem, hr]
theorem xb_leq6 {w : World} {a b : Int} {r : Bool} {ev : Operand → Value} {oi : Oper} {x y : Operand} (ho : oi.op = .binOp .leq 2 x y 2) (hx : ev x = .int .i64 a) (hy : ev y = .int .i64 b) (hr : decide (a ≤ b) = r) : (execOp ev oi).run Try.prog w = .ok (.value (.bool r)) w := by
  simp [execOp, ho, hx, hy, go_sem, hr]
theorem xsub6 {w : World} {j : Nat} {ev : Operand → Value} {oi : Oper} {x y : Operand} (ho : oi.op = .binOp .sub 2 x y 2) (hx : ev x = .int .i64 ((j : Int) + 1)) (hy : ev y = .int .i64 1) (hj : j < 1000) : (execOp ev oi).run Try.prog w = .ok (.value (.int .i64 (j : Int))) w := by
  have : wrap64 ((j : Int) + 1 - 1) = (j : Int) := by
    rw [IntWalk.wrap64_in] <;> omega
  simp [execOp, ho, hx, hy, go_sem, IntWalk.i64_left]
  simpa using this
end Go.Proofs.Ytpllhcifoiahpaa
