/-
  Pieces of HeapApart: the array of pairs of values.
-/
import Derived.Test.YtpllhcifoiahpaaHpDk
namespace Go.Proofs.Ytpllhcifoiahpaa
open Go.RowKit

theorem pc_build {w : World} {ev : Operand → Value} {oi : Oper} {x y : Operand} {k n k' n' : Int} {t t' : Bool} (ho : oi.op = .build 51 #[(0, x), (1, y)]) (hx : ev x = .agg #[.int .i64 k, .int .i64 n, .bool t]) (hy : ev y = .agg #[.int .i64 k', .int .i64 n', .bool t']) : (execOp ev oi).run Try.prog w = .ok (.value (.agg #[.int .i64 k, .int .i64 n, .bool t, .int .i64 k', .int .i64 n', .bool t'])) w := by
  simp [execOp, ho, hx, hy, go_sem]
theorem pc_ix {w : World} {mb k : Nat} {ev : Operand → Value} {oi : Oper} {x y : Operand} (ho : oi.op = .indexAddr 52 x y) (hx : ev x = .pointer (some ⟨mb, 0, none⟩)) (hy : ev y = .int .i64 (k : Int)) (hk : k < 20) : (execOp ev oi).run Try.prog w = .ok (.value (.pointer (some ⟨mb, k * 6, none⟩))) w := by
  simp [execOp, ho, hx, hy, go_sem]
  omega
theorem pc_ix2 {w : World} {mb o k : Nat} {ev : Operand → Value} {oi : Oper} {x y : Operand} (ho : oi.op = .indexAddr 51 x y) (hx : ev x = .pointer (some ⟨mb, o, none⟩)) (hy : ev y = .int .i64 (k : Int)) (hk : k < 2) : (execOp ev oi).run Try.prog w = .ok (.value (.pointer (some ⟨mb, o + k * 3, none⟩))) w := by
  simp [execOp, ho, hx, hy, go_sem]
  omega
theorem pc_ty0 {w : World} {b : Nat} {ev : Operand → Value} {oi : Oper} {x y : Operand} (ho : oi.op = .indexAddr 27 x y) (hx : ev x = .slice (some ⟨b, 0, none⟩) 2 2) (hy : ev y = .int .i64 0) : (execOp ev oi).run Try.prog w = .ok (.value (.pointer (some ⟨b, 0, none⟩))) w := by
  simp [execOp, ho, hx, hy, go_sem]
theorem pc_ty1 {w : World} {b : Nat} {ev : Operand → Value} {oi : Oper} {x y : Operand} (ho : oi.op = .indexAddr 27 x y) (hx : ev x = .slice (some ⟨b, 0, none⟩) 2 2) (hy : ev y = .int .i64 1) : (execOp ev oi).run Try.prog w = .ok (.value (.pointer (some ⟨b, 2, none⟩))) w := by
  simp [execOp, ho, hx, hy, go_sem]
theorem pc_ld {w : World} {b o : Nat} {k n : Int} {ev : Operand → Value} {oi : Oper} {y : Operand} (h0 : w.cell? ⟨b, o, none⟩ = some (.int .i64 k)) (h1 : w.cell? ⟨b, o + 1, none⟩ = some (.int .i64 n)) (ho : oi.op = .load 37 y) (hy : ev y = .pointer (some ⟨b, o, none⟩)) : (execOp ev oi).run Try.prog w = .ok (.value (.agg #[.int .i64 k, .int .i64 n])) w := by
  simp [execOp, ho, hy, go_sem, h0, h1]
theorem pc_st6 {w : World} {mb o : Nat} {k n k' n' : Int} {t t' : Bool} {ev : Operand → Value} {oi : Oper} {x y : Operand} {M : Array Value} {T : TypeId} (h : w.heap[mb]? = some (.cells M T (0, 0))) (hs : o + 6 ≤ M.size) (ho : oi.op = .store 51 x y) (hx : ev x = .pointer (some ⟨mb, o, none⟩)) (hy : ev y = .agg #[.int .i64 k, .int .i64 n, .bool t, .int .i64 k', .int .i64 n', .bool t']) : (execOp ev oi).run Try.prog w = .ok .skip ((((((w.setCell ⟨mb, o, none⟩ (.int .i64 k)).setCell ⟨mb, o + 1, none⟩ (.int .i64 n)).setCell ⟨mb, o + 2, none⟩ (.bool t)).setCell ⟨mb, o + 3, none⟩ (.int .i64 k')).setCell ⟨mb, o + 4, none⟩ (.int .i64 n')).setCell ⟨mb, o + 5, none⟩ (.bool t')) := by
  have c0 : w.cell? ⟨mb, o, none⟩ = some (M[o]'(by omega)) := (hcell h (o)).trans (Array.getElem?_eq_getElem (by omega))
  have z0 := hfrozen h (o)
  have c1 : w.cell? ⟨mb, o + 1, none⟩ = some (M[o + 1]'(by omega)) := (hcell h (o + 1)).trans (Array.getElem?_eq_getElem (by omega))
  have z1 := hfrozen h (o + 1)
  have c2 : w.cell? ⟨mb, o + 2, none⟩ = some (M[o + 2]'(by omega)) := (hcell h (o + 2)).trans (Array.getElem?_eq_getElem (by omega))
  have z2 := hfrozen h (o + 2)
  have c3 : w.cell? ⟨mb, o + 3, none⟩ = some (M[o + 3]'(by omega)) := (hcell h (o + 3)).trans (Array.getElem?_eq_getElem (by omega))
  have z3 := hfrozen h (o + 3)
  have c4 : w.cell? ⟨mb, o + 4, none⟩ = some (M[o + 4]'(by omega)) := (hcell h (o + 4)).trans (Array.getElem?_eq_getElem (by omega))
  have z4 := hfrozen h (o + 4)
  have c5 : w.cell? ⟨mb, o + 5, none⟩ = some (M[o + 5]'(by omega)) := (hcell h (o + 5)).trans (Array.getElem?_eq_getElem (by omega))
  have z5 := hfrozen h (o + 5)
  simp [execOp, ho, hx, hy, go_sem, c0, z0, c1, z1, c2, z2, c3, z3, c4, z4, c5, z5]
theorem pc_st3 {w : World} {mb o : Nat} {k n : Int} {t : Bool} {ev : Operand → Value} {oi : Oper} {x y : Operand} {M : Array Value} {T : TypeId} (h : w.heap[mb]? = some (.cells M T (0, 0))) (hs : o + 3 ≤ M.size) (ho : oi.op = .store 29 x y) (hx : ev x = .pointer (some ⟨mb, o, none⟩)) (hy : ev y = .agg #[.int .i64 k, .int .i64 n, .bool t]) : (execOp ev oi).run Try.prog w = .ok .skip (((w.setCell ⟨mb, o, none⟩ (.int .i64 k)).setCell ⟨mb, o + 1, none⟩ (.int .i64 n)).setCell ⟨mb, o + 2, none⟩ (.bool t)) := by
  have c0 : w.cell? ⟨mb, o, none⟩ = some (M[o]'(by omega)) := (hcell h (o)).trans (Array.getElem?_eq_getElem (by omega))
  have z0 := hfrozen h (o)
  have c1 : w.cell? ⟨mb, o + 1, none⟩ = some (M[o + 1]'(by omega)) := (hcell h (o + 1)).trans (Array.getElem?_eq_getElem (by omega))
  have z1 := hfrozen h (o + 1)
  have c2 : w.cell? ⟨mb, o + 2, none⟩ = some (M[o + 2]'(by omega)) := (hcell h (o + 2)).trans (Array.getElem?_eq_getElem (by omega))
  have z2 := hfrozen h (o + 2)
  simp [execOp, ho, hx, hy, go_sem, c0, z0, c1, z1, c2, z2]
theorem arr_set3 {w : World} {mb j : Nat} {ms : List V3} {T : TypeId} (h : w.heap[mb]? = some (.cells (row3 v3 ms).toArray T (0, 0))) (hj : j < ms.length) (u : V3) :
    (((w.setCell ⟨mb, j * 3, none⟩ (v3 u).1).setCell ⟨mb, j * 3 + 1, none⟩ (v3 u).2.1).setCell ⟨mb, j * 3 + 2, none⟩ (v3 u).2.2).heap[mb]? = some (.cells (row3 v3 (ms.set j u)).toArray T (0, 0)) := by
  have := heap_setCell_same _ mb (j * 3 + 2) _ _ (v3 u).2.2 (heap_setCell_same _ mb (j * 3 + 1) _ _ (v3 u).2.1 (heap_setCell_same w mb (j * 3) _ _ (v3 u).1 h))
  rw [this, row3_set v3 ms j _ u (List.getElem?_eq_getElem hj)]
  simp
theorem arr_size (ms : List V3) : (row3 v3 ms).toArray.size = ms.length * 3 := by
  rw [List.size_toArray, row3_len]
theorem arr_at {w : World} {mb j : Nat} {ms : List V3} {T : TypeId} (h : w.heap[mb]? = some (.cells (row3 v3 ms).toArray T (0, 0))) {x : V3} (hj : ms[j]? = some x) : w.cell? ⟨mb, j * 3, none⟩ = some (.int .i64 x.1) ∧ w.cell? ⟨mb, j * 3 + 1, none⟩ = some (.int .i64 x.2.1) ∧ w.cell? ⟨mb, j * 3 + 2, none⟩ = some (.bool x.2.2) := by
  obtain ⟨g0, g1, g2⟩ := row3_get v3 ms j x hj
  refine ⟨?_, ?_, ?_⟩ <;> rw [hcell h, List.getElem?_toArray]
  · exact g0
  · exact g1
  · exact g2
theorem pc_ldv {w : World} {b o : Nat} {k n : Int} {t : Bool} {ev : Operand → Value} {oi : Oper} {y : Operand} (h0 : w.cell? ⟨b, o, none⟩ = some (.int .i64 k)) (h1 : w.cell? ⟨b, o + 1, none⟩ = some (.int .i64 n)) (h2 : w.cell? ⟨b, o + 2, none⟩ = some (.bool t)) (ho : oi.op = .load 29 y) (hy : ev y = .pointer (some ⟨b, o, none⟩)) : (execOp ev oi).run Try.prog w = .ok (.value (.agg #[.int .i64 k, .int .i64 n, .bool t])) w := by
  simp [execOp, ho, hy, go_sem, h0, h1, h2]
theorem hb_neq {w : World} {a b : Int} {r : Bool} {ev : Operand → Value} {oi : Oper} {x y : Operand} (ho : oi.op = .binOp .neq 3 x y 3) (hx : ev x = .int .i64 a) (hy : ev y = .int .i64 b) (hr : (a != b) = r) : (execOp ev oi).run Try.prog w = .ok (.value (.bool r)) w := by
  simp [execOp, ho, hx, hy, go_sem, hr]
theorem hb_not {w : World} {b r : Bool} {ev : Operand → Value} {oi : Oper} {x : Operand} (ho : oi.op = .unOp .not 4 x) (hx : ev x = .bool b) (hr : (!b) = r := by rfl) : (execOp ev oi).run Try.prog w = .ok (.value (.bool r)) w := by
  subst hr
  simp [execOp, ho, hx, go_sem]
end Go.Proofs.Ytpllhcifoiahpaa
