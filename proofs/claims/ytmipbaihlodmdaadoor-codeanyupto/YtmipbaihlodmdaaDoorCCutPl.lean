/-
  Bytes that a call has made, cut and written into.
-/
import Derived.Test.YtmipbaihlodmdaaDoorCEq
namespace Go.Proofs.YtmipbaihlodmdaaDoor
open Go.RowKit

theorem BytesAt.take {w : World} {a : Option Addr} {L : List UInt8} (h : BytesAt w a L) (k : Nat) : BytesAt w a (L.take k) := by
  rcases h with h | ⟨b, off, h1, h2⟩
  · exact .inl (by rw [h]; simp)
  · refine .inr ⟨b, off, h1, fun i hi => ?_⟩
    rw [List.length_take] at hi
    rw [h2 i (by omega), List.getD_eq_getElem?_getD, List.getD_eq_getElem?_getD, List.getElem?_take, if_pos (by omega)]
theorem BytesAt.row {w : World} {a : Option Addr} {L : List UInt8} (h : BytesAt w a L) (hL : L ≠ []) : ∃ b off, a = some ⟨b, off, none⟩ ∧ ∀ i, i < L.length → w.cell? ⟨b, off + i, none⟩ = some (.int .u8 ((L.getD i 0).toNat : Int)) := by
  rcases h with h | h
  · exact absurd h hL
  · exact h
theorem ob_bytes {w0 w : World} {g m cp n1 : Nat} {B L1 : List UInt8} (h : OB w0 w (.slice (some ⟨g, 0, none⟩) m cp) B) (hL : L1 = B.take n1) : BytesAt w (some ⟨g, 0, none⟩) L1 := by
  obtain ⟨a, c, e, hb, _⟩ := h.open
  simp only [Value.slice.injEq] at e
  obtain ⟨rfl, _⟩ := e
  rw [hL]
  exact hb.take n1
theorem ob_frozen {w0 w : World} {g m cp : Nat} {B : List UInt8} (h : OB w0 w (.slice (some ⟨g, 0, none⟩) m cp) B) (j : Nat) : w.frozen? ⟨g, j, none⟩ = false := by
  rcases h.own.2 with ⟨e, _⟩ | ⟨g', cap, cur, e, _, hg, _⟩
  · cases e
  · simp only [Value.slice.injEq, Option.some.injEq, Addr.mk.injEq, and_true] at e
    obtain ⟨rfl, _⟩ := e
    exact pfrozen hg j
theorem ob_cell {w0 w : World} {g m cp n1 j : Nat} {B L1 : List UInt8} {c : UInt8} (h : OB w0 w (.slice (some ⟨g, 0, none⟩) m cp) B) (hL : L1 = B.take n1) (hc : L1[j]? = some c) : w.cell? ⟨g, j, none⟩ = some (.int .u8 (c.toNat : Int)) ∧ w.frozen? ⟨g, j, none⟩ = false := by
  refine ⟨?_, ob_frozen h j⟩
  have hj : j < L1.length := by
    rcases Nat.lt_or_ge j L1.length with h | h
    · exact h
    · rw [List.getElem?_eq_none h] at hc; cases hc
  obtain ⟨b, off, e, h9⟩ := (ob_bytes h hL).row (fun e => by rw [e] at hj; simp at hj)
  cases e
  have := h9 j hj
  rw [Nat.zero_add, List.getD_eq_getElem?_getD, hc] at this
  exact this
theorem ob_lt {w0 w : World} {g m cp : Nat} {B : List UInt8} (h : OB w0 w (.slice (some ⟨g, 0, none⟩) m cp) B) : w0.heap.size ≤ g ∧ g < w.heap.size := h.own.lt g rfl
theorem ob_put_keeps {w0 w : World} {g m cp j : Nat} {B : List UInt8} {v : Value} (h : OB w0 w (.slice (some ⟨g, 0, none⟩) m cp) B) : Keeps [] w0 (w.setCell ⟨g, j, none⟩ v) :=
  h.keeps.trans (Keeps.setCell [g] w _ _ (List.mem_singleton.2 rfl)) (fun x hx hlt => by rw [List.mem_singleton] at hx; have := (ob_lt h).1; omega)
theorem ob_put {w0 w : World} {g m cp n1 j : Nat} {B L1 : List UInt8} (h : OB w0 w (.slice (some ⟨g, 0, none⟩) m cp) B) (hL : L1 = B.take n1) (z : UInt8) : BytesAt (w.setCell ⟨g, j, none⟩ (.int .u8 (z.toNat : Int))) (some ⟨g, 0, none⟩) (L1.set j z) := by
  by_cases hne : L1 = []
  · exact .inl (by rw [hne]; rfl)
  · obtain ⟨b, off, e, h9⟩ := (ob_bytes h hL).row hne
    cases e
    refine .inr ⟨g, 0, rfl, fun i hi => ?_⟩
    rw [List.length_set] at hi
    have h1 := h9 i hi
    rw [Nat.zero_add] at h1 ⊢
    rcases h.own.2 with ⟨e, _⟩ | ⟨g', cap, cur, e, _, hg, _⟩
    · cases e
    · simp only [Value.slice.injEq, Option.some.injEq, Addr.mk.injEq, and_true] at e
      obtain ⟨rfl, _⟩ := e
      rw [hcell (heap_setCell_same w g j cur _ _ hg) i]
      rw [hcell hg i] at h1
      rw [Array.getElem?_setIfInBounds, List.getD_eq_getElem?_getD, List.getElem?_set]
      by_cases e : j = i
      · subst e
        have hlt : j < cur.size := (Array.getElem?_eq_some_iff.1 h1).1
        simp [hlt, hi]
      · rw [if_neg e, if_neg e, h1, List.getD_eq_getElem?_getD]
/-- Nothing is appended to nothing. -/
theorem run_app0 (w : World) (b off c : Nat) {n : Nat} (hn : n = 0) : ∃ v w', (Builtin.append_ #[25, 25] 25 #[.slice none 0 0, .slice (some ⟨b, off, none⟩) n c]).run Tryd.prog w = .ok v w' ∧ OB w w' v [] := by
  subst hn
  obtain ⟨v', w', hr, _, h2, h3⟩ := run_append_own (P := Tryd.prog) w w.heap.size 25 25 5 Tryd.t5 (.int .u8 0) 1 1 under_bytes info_u8 zero_u8 size_u8 bytes_u8 rfl (by decide) (.slice none 0 0) 0 [] (World.ownsRow_nil _ _ _ _) ⟨b, off, none⟩ 0 c [] rfl (fun j u e => by simp at e) (fun u e => by cases e) (by unfold maxLen; omega) (by omega) (Nat.le_refl _)
  obtain rfl := h3.2 ⟨rfl, rfl⟩
  exact ⟨_, w', hr, OB.nil (Keeps.grown [] h2 (fun k e => by simp [Value.ownBlock] at e))⟩
/-- Bytes are appended: the run. -/
theorem run_app {w0 w : World} {v : Value} {B : List UInt8} (hB : OB w0 w v B) {b off m : Nat} (c : Nat) {T : List UInt8} (hm : m = T.length) (hT : 0 < T.length) (hnews : ∀ i, i < T.length → w.cell? ⟨b, off + i, none⟩ = some (.int .u8 ((T.getD i 0).toNat : Int))) (hlen : B.length + T.length ≤ 140737488355328) :
    ∃ g cap N w', Box (N = (B ++ T).length) ∧ (Builtin.append_ #[25, 25] 25 #[v, .slice (some ⟨b, off, none⟩) m c]).run Tryd.prog w = .ok (.slice (some ⟨g, 0, none⟩) N cap) w' ∧ OB w0 w' (.slice (some ⟨g, 0, none⟩) N cap) (B ++ T) := by
  subst hm
  obtain ⟨g, cap, w', hr, h1, h2, _⟩ := run_append_lies (P := Tryd.prog) w 25 25 w0.heap.size 5 Tryd.t5 (.int .u8 0) 1 1 under_bytes info_u8 zero_u8 size_u8 bytes_u8 rfl (by decide) v B.length (Lib.byteCells B) hB.own ⟨b, off, none⟩ T.length c (Lib.byteCells T) (by rw [Lib.byteCells_length]; omega) (bytes_news hnews) (bytes_one T) hT (by unfold maxLen; omega) (by omega) hB.keeps.size w.heap.size rfl
  exact ⟨g, cap, B.length + T.length, w', hid List.length_append.symm, hr, ⟨by rw [List.length_append, Lib.byteCells_append]; exact h1, (Keeps.refl [] w0).quiet (hB.keeps.appended hB.own h2 (Nat.le_refl _))⟩⟩
/-- An append whose run is known, guarded or not. -/
theorem gapp {ops : Array Oper} {rest : List Oper} {o : Oper} {a : Act} {Q : Exit → Act → World → Prop} {w w' : World} {v xv v' : Value} (hw : Region.wanted o (yielded ops a.tmps) = true) (s x : Operand) (ho : o.op = .call { callee := .builtin .append, args := #[s, x], argTypes := #[25, 25] }) (ht : o.type = 25)
    (hs : a.eval s = v) (hx : a.eval x = xv) (hr : (Builtin.append_ #[25, 25] 25 #[v, xv]).run Tryd.prog w = .ok v' w') (h : wpList Tryd.prog ops Q rest (a.put o.dst v') w') : wpList Tryd.prog ops Q (o :: rest) a w :=
  wpList_step fun K hK => by
    rw [if_pos hw]
    unfold Oper.wp execOp
    simp only [ho, ht, resolve, invoke, builtin, Sem.run_bind, Sem.run_pure, Result.andThen_ok, List.map_toArray, List.map_cons, List.map_nil, hs, hx, hr]
    exact hK _ _ h
end Go.Proofs.YtmipbaihlodmdaaDoor
