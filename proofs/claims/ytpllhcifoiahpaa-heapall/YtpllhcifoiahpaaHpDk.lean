/-
  Helpers for regions whose values are named ahead: loads of values and types, calls.
-/
import Derived.Test.YtpllhcifoiahpaaTDk
import Derived.Test.YtpllhcifoiahpaaHpBeg
namespace Go.Proofs.Ytpllhcifoiahpaa
open Go.RowKit

theorem hld_v {w : World} {b : Nat} {k n : Int} {t : Bool} {ev : Operand → Value} {oi : Oper} {y : Operand} (h : w.heap[b]? = some (.cells #[.int .i64 k, .int .i64 n, .bool t] 29 (0, 0))) (ho : oi.op = .load 29 y) (hy : ev y = .pointer (some ⟨b, 0, none⟩)) : (execOp ev oi).run Try.prog w = .ok (.value (.agg #[.int .i64 k, .int .i64 n, .bool t])) w := by
  have h0 := hcell h 0
  have h1 := hcell h 1
  have h2 := hcell h 2
  simp at h0 h1 h2
  simp [execOp, ho, hy, go_sem, h0, h1, h2]
theorem hld_t {w : World} {b : Nat} {k n : Int} {ev : Operand → Value} {oi : Oper} {y : Operand} (h : w.heap[b]? = some (.cells #[.int .i64 k, .int .i64 n] 37 (0, 0))) (ho : oi.op = .load 37 y) (hy : ev y = .pointer (some ⟨b, 0, none⟩)) : (execOp ev oi).run Try.prog w = .ok (.value (.agg #[.int .i64 k, .int .i64 n])) w := by
  have h0 := hcell h 0
  have h1 := hcell h 1
  simp at h0 h1
  simp [execOp, ho, hy, go_sem, h0, h1]
theorem hld_i {w : World} {ad : Addr} {v : Value} {ev : Operand → Value} {oi : Oper} {y : Operand} (hc : w.cell? ad = some v) (ho : oi.op = .load 2 y) (hy : ev y = .pointer (some ad)) : (execOp ev oi).run Try.prog w = .ok (.value v) w := by simp [execOp, ho, hy, go_sem, hc]
theorem hld_b {w : World} {ad : Addr} {v : Value} {ev : Operand → Value} {oi : Oper} {y : Operand} (hc : w.cell? ad = some v) (ho : oi.op = .load 4 y) (hy : ev y = .pointer (some ad)) : (execOp ev oi).run Try.prog w = .ok (.value v) w := by simp [execOp, ho, hy, go_sem, hc]
theorem hb_add {w : World} {a b : Int} {ev : Operand → Value} {oi : Oper} {x y : Operand} (ho : oi.op = .binOp .add 2 x y 2) (hx : ev x = .int .i64 a) (hy : ev y = .int .i64 b) : (execOp ev oi).run Try.prog w = .ok (.value (.int .i64 (wrap64 (a + b)))) w := by
  simp [execOp, ho, hx, hy, go_sem, IntWalk.i64_left]
theorem hbuild0 {w : World} {ev : Operand → Value} {oi : Oper} (ho : oi.op = .build 29 #[]) : (execOp ev oi).run Try.prog w = .ok (.value (.agg #[.int .i64 0, .int .i64 0, .bool false])) w := by
  simp [execOp, ho, go_sem]
theorem hbuild2 {w : World} {ev : Operand → Value} {oi : Oper} {x y : Operand} {n : Int} {t : Bool} (ho : oi.op = .build 29 #[(1, x), (2, y)]) (hx : ev x = .int .i64 n) (hy : ev y = .bool t) : (execOp ev oi).run Try.prog w = .ok (.value (.agg #[.int .i64 0, .int .i64 n, .bool t])) w := by
  simp [execOp, ho, hx, hy, go_sem]
theorem enter_eqv (v u : Value) (w : World) : (callFunc 13 #[v, u]).run Try.prog w = .ok (.enter 13 #[v, u]) w := by go_simp
theorem enter_zero (v : Value) (w : World) : (callFunc 20 #[v]).run Try.prog w = .ok (.enter 20 #[v]) w := by go_simp
theorem enter_rzero (v : Value) (w : World) : (callFunc 10 #[v]).run Try.prog w = .ok (.enter 10 #[v]) w := by go_simp
theorem eqv_same (a : V3) (w : World) : Calls Try.prog 13 #[vlV a, vlV a] w fun e w' => e = .returned (.bool true) ∧ Keeps [] w w' := by
  have := eqv_any a a w
  rwa [decide_eq_true rfl] at this
/-- The sum of two values. -/
def addV (a b : V3) : V3 := if a.1 ≠ 0 ∨ b.1 ≠ 0 then (0, 0, false) else (0, wrap64 (a.2.1 + b.2.1), a.2.2 || b.2.2)
theorem three_new (w : World) (x y z : Obj) : Keeps [] w (((w.alloc x).alloc y).alloc z) := ((Keeps.alloc [] _ _).quiet (Keeps.alloc [] _ _)).quiet (Keeps.alloc [] _ _)
set_option maxHeartbeats 4000000 in
theorem vadd_any (a b : V3) (w : World) : Calls Try.prog 19 #[vlV a, vlV b] w fun e w' => e = .returned (vlV (addV a b)) ∧ Keeps [] w w' := by
  obtain ⟨ak, an, at'⟩ := a
  obtain ⟨bk, bn, bt⟩ := b
  by_cases h1 : ak = 0
  · by_cases h2 : bk = 0
    · have e : addV (ak, an, at') (bk, bn, bt) = (0, wrap64 (an + bn), at' || bt) := if_neg (by simp [h1, h2])
      rw [e]
      clear e
      subst h1 h2
      generalize hs : wrap64 (an + bn) = s
      cases at' <;> (
        go_enter Try.func19, Try.ntmps19
        go_wp2
        exact bodyPost_ret (by simp (maxDischargeDepth := 10) [results, Try.results19, go_sem]) rfl ⟨rfl, three_new _ _ _ _⟩)
    · have e : addV (ak, an, at') (bk, bn, bt) = (0, 0, false) := if_pos (.inr h2)
      rw [e]
      subst h1
      clear e
      go_enter Try.func19, Try.ntmps19
      go_wp2
      exact bodyPost_ret (v := vlV (0, 0, false)) (by simp (maxDischargeDepth := 10) [results, Try.results19, go_sem]) rfl ⟨rfl, three_new _ _ _ _⟩
  · have e : addV (ak, an, at') (bk, bn, bt) = (0, 0, false) := if_pos (.inl h1)
    rw [e]
    clear e
    go_enter Try.func19, Try.ntmps19
    go_wp2
    exact bodyPost_ret (v := vlV (0, 0, false)) (by simp (maxDischargeDepth := 10) [results, Try.results19, go_sem]) rfl ⟨rfl, three_new _ _ _ _⟩
end Go.Proofs.Ytpllhcifoiahpaa
