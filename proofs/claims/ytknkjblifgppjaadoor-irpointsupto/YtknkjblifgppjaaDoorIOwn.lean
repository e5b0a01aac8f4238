/-
  Rows of points, rows of numbers that a call has made by append.
-/
import Derived.Test.YtknkjblifgppjaaDoorIPlc
import Derived.Deep.AppendLies
namespace Go.Proofs.YtknkjblifgppjaaDoor
open Go.RowKit

/-- A point in three cells. -/
structure PtC (w : World) (b o : Nat) (q : Nat × Nat × Nat) : Prop where
  c0 : w.cell? ⟨b, o, none⟩ = some (.int .i64 (q.1 : Int))
  c1 : w.cell? ⟨b, o + 1, none⟩ = some (.int .i64 (q.2.1 : Int))
  c2 : w.cell? ⟨b, o + 2, none⟩ = some (.int .i64 (q.2.2 : Int))
theorem PtC.stays : Stays PtC := fun _ _ _ _ _ k h => ⟨cell_stays k h.c0, cell_stays k h.c1, cell_stays k h.c2⟩
/-- Points as cells. -/
def ptCs (l : List (Nat × Nat × Nat)) : List Value := l.flatMap fun q => [.int .i64 (q.1 : Int), .int .i64 (q.2.1 : Int), .int .i64 (q.2.2 : Int)]
theorem ptCs_nil : ptCs [] = [] := rfl
theorem ptCs_snoc (l : List (Nat × Nat × Nat)) (f b i : Nat) : ptCs (l ++ [(f, b, i)]) = ptCs l ++ [.int .i64 (f : Int), .int .i64 (b : Int), .int .i64 (i : Int)] := by
  unfold ptCs
  rw [List.flatMap_append]
  rfl
theorem ptCs_len (l : List (Nat × Nat × Nat)) : (ptCs l).length = l.length * 3 := by
  induction l with
  | nil => rfl
  | cons q l ih =>
    have : ptCs (q :: l) = [.int .i64 (q.1 : Int), .int .i64 (q.2.1 : Int), .int .i64 (q.2.2 : Int)] ++ ptCs l := rfl
    rw [this, List.length_append, ih, List.length_cons]
    show 3 + l.length * 3 = (l.length + 1) * 3
    omega
theorem ptCs_get (l : List (Nat × Nat × Nat)) : ∀ (j : Nat) (q : Nat × Nat × Nat), l[j]? = some q → (ptCs l)[j * 3]? = some (.int .i64 (q.1 : Int)) ∧ (ptCs l)[j * 3 + 1]? = some (.int .i64 (q.2.1 : Int)) ∧ (ptCs l)[j * 3 + 2]? = some (.int .i64 (q.2.2 : Int)) := by
  induction l with
  | nil => intro j q h; simp at h
  | cons p l ih =>
    intro j q h
    have e : ptCs (p :: l) = [.int .i64 (p.1 : Int), .int .i64 (p.2.1 : Int), .int .i64 (p.2.2 : Int)] ++ ptCs l := rfl
    cases j with
    | zero =>
      simp at h
      subst h
      rw [e]
      exact ⟨rfl, rfl, rfl⟩
    | succ j =>
      have h' := ih j q (by simpa using h)
      rw [e, show (j + 1) * 3 = j * 3 + 3 by omega]
      refine ⟨?_, ?_, ?_⟩ <;> rw [List.getElem?_append_right (by simp)]
      · exact h'.1
      · rw [show j * 3 + 3 + 1 - [Value.int .i64 (p.1 : Int), .int .i64 (p.2.1 : Int), .int .i64 (p.2.2 : Int)].length = j * 3 + 1 by simp]
        exact h'.2.1
      · rw [show j * 3 + 3 + 2 - [Value.int .i64 (p.1 : Int), .int .i64 (p.2.1 : Int), .int .i64 (p.2.2 : Int)].length = j * 3 + 2 by simp]
        exact h'.2.2
/-- A row of points that was made, looked at. -/
theorem pts_open {w : World} {base n : Nat} {v : Value} {l : List (Nat × Nat × Nat)} (h : w.ownsRow base 24 3 v n (ptCs l)) : ∃ a cp, v = .slice a n cp ∧ n = l.length ∧ RowsAt w 3 PtC a l ∧ l.length ≤ cp := by
  have hl : n = l.length := by have := h.1; rw [ptCs_len] at this; omega
  rcases h.2 with ⟨rfl, h0⟩ | ⟨g, cap, cur, rfl, _, hg, hle, _, hs, ht⟩
  · subst h0
    exact ⟨none, 0, rfl, hl, .inl (List.eq_nil_of_length_eq_zero hl.symm), by omega⟩
  · refine ⟨_, cap, rfl, hl, .inr ⟨g, 0, rfl, fun j q hq => ?_⟩, by omega⟩
    have hj : j < l.length := by
      rcases Nat.lt_or_ge j l.length with h | h
      · exact h
      · rw [List.getElem?_eq_none h] at hq; cases hq
    have key : ∀ i, i < n * 3 → w.cell? ⟨g, i, none⟩ = (ptCs l)[i]? := fun i hi => by
      rw [cell_of_row w g i cur _ _ hg, ← ht, List.getElem?_take, if_pos hi]
      simp
    obtain ⟨g0, g1, g2⟩ := ptCs_get l j q hq
    rw [Nat.zero_add]
    exact ⟨(key _ (by omega)).trans g0, (key _ (by omega)).trans g1, (key _ (by omega)).trans g2⟩
theorem zero_pt : Tryd.t24.zero = some (.agg #[.int .i64 0, .int .i64 0, .int .i64 0]) := by kernel_rfl
theorem size_pt : Tryd.t24.size = 3 := by kernel_rfl
theorem bytes_pt : Tryd.t24.bytes = 24 := by kernel_rfl
theorem info_pt : Tryd.prog.info? 24 = some Tryd.t24 := by kernel_rfl
theorem under_pts : Tryd.prog.underlying 27 = some (.slice 24) := by kernel_rfl
theorem three_one (x y z : Int) : ∀ u ∈ [Value.int .i64 x, .int .i64 y, .int .i64 z], u.oneCell' = true := by
  intro u hu
  simp at hu
  rcases hu with rfl | rfl | rfl <;> rfl

/-- Numbers as cells. -/
def numC (l : List Int) : List Value := l.map fun z => .int .i64 z
theorem numC_len (l : List Int) : (numC l).length = l.length := by unfold numC; rw [List.length_map]
theorem numC_one (l : List Int) : ∀ u ∈ numC l, u.oneCell' = true := by
  intro u hu
  unfold numC at hu
  rw [List.mem_map] at hu
  obtain ⟨z, _, rfl⟩ := hu
  rfl
theorem numC_snoc (l : List Int) (z : Int) : numC (l ++ [z]) = numC l ++ [.int .i64 z] := by unfold numC; rw [List.map_append]; rfl
theorem nums_open {w : World} {base n : Nat} {v : Value} {l : List Int} (h : w.ownsRow base 3 1 v n (numC l)) : ∃ a cp, v = .slice a n cp ∧ n = l.length ∧ IntsAt w a l ∧ n ≤ cp ∧ ∀ b off, a = some ⟨b, off, none⟩ → base ≤ b := by
  have hl : n = l.length := by have := h.1; rw [numC_len] at this; omega
  rcases h.2 with ⟨rfl, h0⟩ | ⟨g, cap, cur, rfl, hbs, hg, hle, _, hs, ht⟩
  · subst h0
    exact ⟨none, 0, rfl, hl, .inl (List.eq_nil_of_length_eq_zero hl.symm), by omega, fun _ _ e => by cases e⟩
  · refine ⟨_, cap, rfl, hl, .inr ⟨g, 0, rfl, fun i hi => ?_⟩, hle, fun b off e => by cases e; assumption⟩
    rw [Nat.zero_add, cell_of_row w g i cur _ _ hg]
    have e2 : (cur.toList.take (n * 1))[i]? = cur.toList[i]? := by rw [List.getElem?_take, if_pos (by omega)]
    have e1 : cur[i]? = cur.toList[i]? := by simp
    rw [e1, ← e2, ht]
    unfold numC
    rw [List.getElem?_map, List.getElem?_eq_getElem hi, List.getD_eq_getElem?_getD, List.getElem?_eq_getElem hi]
    rfl
theorem numC_at {w : World} {b off : Nat} {l : List Int} (h : ∀ i, i < l.length → w.cell? ⟨b, off + i, none⟩ = some (.int .i64 (l.getD i 0))) : ∀ j u, (numC l)[j]? = some u → w.cell? ((⟨b, off, none⟩ : Addr).add j) = some u := by
  intro j u hu
  have hadd : (⟨b, off, none⟩ : Addr).add j = ⟨b, off + j, none⟩ := by unfold Addr.add; by_cases e : j = 0 <;> simp [e]
  unfold numC at hu
  rw [List.getElem?_map] at hu
  by_cases hj : j < l.length
  · rw [hadd, h j hj]
    rw [List.getElem?_eq_getElem hj] at hu
    simp at hu
    rw [List.getD_eq_getElem?_getD, List.getElem?_eq_getElem hj, ← hu]
    rfl
  · rw [List.getElem?_eq_none (by omega)] at hu
    cases hu
end Go.Proofs.YtknkjblifgppjaaDoor
