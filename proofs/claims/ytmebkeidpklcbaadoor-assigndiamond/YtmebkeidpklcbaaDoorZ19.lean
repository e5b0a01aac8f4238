/-
  A slice of points at any place of its row, with the room behind it; one point is appended; the first one goes.
-/
import Derived.ArgAppend
import Derived.Test.YtmebkeidpklcbaaDoorZ04
import Derived.Test.YtmebkeidpklcbaaDoorZ05
import Derived.Test.YtmebkeidpklcbaaDoorZ18

namespace Go.Proofs.YtmebkeidpklcbaaDoor
open Go.RowKit

/-- A point's three cells. -/
def pc (q : Int × Int × Int) : List Value := [.int .i64 q.1, .int .i64 q.2.1, .int .i64 q.2.2]
def flat : List (Int × Int × Int) → List Value
  | [] => []
  | q :: l => .int .i64 q.1 :: .int .i64 q.2.1 :: .int .i64 q.2.2 :: flat l
theorem flat_len : ∀ l : List (Int × Int × Int), (flat l).length = l.length * 3
  | [] => rfl
  | q :: l => by
    have := flat_len l
    simp only [flat, List.length_cons]
    omega
theorem flat_snoc : ∀ (l : List (Int × Int × Int)) (q : Int × Int × Int), flat (l ++ [q]) = flat l ++ pc q
  | [], _ => rfl
  | a :: l, q => by
    have := flat_snoc l q
    simp only [List.cons_append, flat, this]
/-- A row's values, from place off of block g on, and the room behind them: n cells. -/
structure LineV (w : World) (g off n : Nat) (vs : List Value) : Prop where
  cell : ∀ i, i < vs.length → w.cell? ⟨g, off + i, none⟩ = vs[i]?
  room : ∀ k, k < n → (w.cell? ⟨g, off + k, none⟩).isSome = true ∧ w.frozen? ⟨g, off + k, none⟩ = false
  len : vs.length ≤ n
  lt : g < w.heap.size
theorem LineV.kept {w w' : World} {g off n : Nat} {vs : List Value} {L : List Nat} (h : LineV w g off n vs) (k : Keeps L w w') (hn : g ∉ L) : LineV w' g off n vs :=
  ⟨fun i hi => by rw [k.cell (p := ⟨g, off + i, none⟩) h.lt hn]; exact h.cell i hi,
   fun i hi => by rw [k.cell (p := ⟨g, off + i, none⟩) h.lt hn, World.frozen?_of_block (w := w) (k.block g h.lt hn)]; exact h.room i hi,
   h.len, Nat.lt_of_lt_of_le h.lt k.size⟩
/-- Points that wait: the slice's value. -/
structure PLine (w : World) (base : Nat) (lv : Value) (l : List (Int × Int × Int)) : Prop where
  val : ∃ g off cap, lv = .slice (some ⟨g, off, none⟩) l.length cap ∧ base ≤ g ∧ LineV w g off (cap * 3) (flat l) ∧ cap ≤ maxLen ∧ l.length ≤ cap
theorem PLine.own {w : World} {base : Nat} {lv : Value} {l : List (Int × Int × Int)} (h : PLine w base lv l) : ∃ g, lv.ownBlock = some g ∧ base ≤ g ∧ g < w.heap.size := by
  obtain ⟨g, off, cap, rfl, h1, h2, _⟩ := h.val
  exact ⟨g, rfl, h1, h2.lt⟩
theorem PLine.kept {w w' : World} {base : Nat} {lv : Value} {l : List (Int × Int × Int)} {L : List Nat} (h : PLine w base lv l) (k : Keeps L w w') (hL : ∀ x, lv.ownBlock = some x → x ∉ L) : PLine w' base lv l := by
  obtain ⟨g, off, cap, rfl, h1, h2, h3⟩ := h.val
  exact ⟨g, off, cap, rfl, h1, h2.kept k (hL g rfl), h3⟩
theorem PLine.first {w : World} {base : Nat} {lv : Value} {q : Int × Int × Int} {l : List (Int × Int × Int)} (h : PLine w base lv (q :: l)) :
    ∃ g off cap, lv = .slice (some ⟨g, off, none⟩) (l.length + 1) cap ∧ 1 ≤ cap ∧ cap ≤ maxLen ∧ w.cell? ⟨g, off, none⟩ = some (.int .i64 q.1) ∧ w.cell? ⟨g, off + 1, none⟩ = some (.int .i64 q.2.1) ∧ w.cell? ⟨g, off + 2, none⟩ = some (.int .i64 q.2.2) ∧ (1 < cap → PLine w base (.slice (some ⟨g, off + 3, none⟩) l.length (cap - 1)) l) ∧ (cap = 1 → l = [] ∧ PLine w base (.slice (some ⟨g, off, none⟩) 0 0) []) := by
  obtain ⟨g, off, cap, rfl, h1, h2, h3, h4⟩ := h.val
  simp only [List.length_cons] at h4
  have hl := flat_len l
  refine ⟨g, off, cap, rfl, by omega, h3, h2.cell 0 (by simp [flat]), h2.cell 1 (by simp [flat]), h2.cell 2 (by simp [flat]), fun hc => ?_, fun hc => ?_⟩
  · refine ⟨g, off + 3, cap - 1, rfl, h1, ⟨fun i hi => ?_, fun k hk => ?_, by omega, h2.lt⟩, by omega, by omega⟩
    · have := h2.cell (i + 3) (by simp only [flat, List.length_cons]; omega)
      rw [show off + 3 + i = off + (i + 3) by omega, this]
      rfl
    · rw [show off + 3 + k = off + (k + 3) by omega]
      exact h2.room (k + 3) (by omega)
  · have hn : l = [] := List.eq_nil_of_length_eq_zero (by omega)
    exact ⟨hn, ⟨g, off, 0, rfl, h1, ⟨fun i hi => by simp [flat] at hi, fun k hk => by omega, by simp [flat], h2.lt⟩, by omega, by simp⟩⟩
theorem flat_get {l : List (Int × Int × Int)} {q : Int × Int × Int} : ∀ {j : Nat}, l[j]? = some q → (flat l)[j * 3]? = some (.int .i64 q.1) ∧ (flat l)[j * 3 + 1]? = some (.int .i64 q.2.1) ∧ (flat l)[j * 3 + 2]? = some (.int .i64 q.2.2) := by
  induction l with
  | nil => intro j h; simp at h
  | cons a l ih =>
    intro j h
    cases j with
    | zero =>
      obtain rfl : a = q := by simpa using h
      exact ⟨rfl, rfl, rfl⟩
    | succ j =>
      have := ih (j := j) (by simpa using h)
      rw [show (j + 1) * 3 = j * 3 + 3 by omega]
      exact this
theorem owns_pline {w : World} {base : Nat} {v : Value} {n : Nat} {l : List (Int × Int × Int)} (h : w.ownsRow base 43 3 v n (flat l)) (hn : 0 < n) : PLine w base v l := by
  have hl : l.length = n := by have := h.1; rw [flat_len] at this; omega
  rcases h.2 with ⟨_, e⟩ | ⟨g, cap, cur, rfl, hb, hg, hnc, hcm, hcs, ht⟩
  · omega
  · refine ⟨g, 0, cap, by rw [hl], hb, ⟨fun i hi => ?_, fun k hk => ?_, by rw [flat_len]; omega, (Array.getElem?_eq_some_iff.1 hg).1⟩, hcm, by omega⟩
    · rw [cell_of_row w g _ _ _ _ hg, Nat.zero_add, ← ht, List.getElem?_take_of_lt (by rw [flat_len] at hi; omega), Array.getElem?_toList]
    · refine ⟨?_, frozen_of_row w g _ _ _ hg⟩
      rw [cell_of_row w g _ _ _ _ hg, Nat.zero_add, Array.getElem?_eq_getElem (by omega)]
      rfl
theorem pc_one (q : Int × Int × Int) : ∀ u ∈ pc q, u.oneCell' = true := three_one _ _ _
theorem run_append_pts (w : World) (ty : TypeId) (base : Nat) (hw : base ≤ w.heap.size) (l : List (Int × Int × Int)) (q : Int × Int × Int) (lv : Value) (hv : PLine w base lv l) (ad : Addr) (c : Nat)
    (hnew : ∀ j u, (pc q)[j]? = some u → w.cell? (ad.add j) = some u) (hb : l.length < 1000000) :
    ∃ v' w', (Builtin.append_ #[88, 88] ty #[lv, .slice (some ad) 1 c]).run Tryd.prog w = .ok v' w' ∧ PLine w' base v' (l ++ [q]) ∧ Keeps lv.ownBlock.toList w w' ∧ (v'.ownBlock = lv.ownBlock ∨ ∃ g, v'.ownBlock = some g ∧ w.heap.size ≤ g) := by
  obtain ⟨g, off, cap, rfl, hg, hline, hcm, hlc⟩ := hv.val
  have hfl := flat_len l
  by_cases hroom : l.length + 1 ≤ cap
  · have hr := run_append_room_cells (P := Tryd.prog) w 88 ty 43 Tryd.t43 under_pts info_pt g off l.length cap ad 1 c (pc q) (by rw [size_pt]; rfl) hnew (pc_one q) hroom
      (fun j hj => by have hj' : j < 3 := hj
                      rw [size_pt, Nat.add_assoc]; exact (hline.room _ (by omega)).1) (fun j hj => by have hj' : j < 3 := hj
                                                                                                      rw [size_pt, Nat.add_assoc]; exact (hline.room _ (by omega)).2)
    rw [size_pt] at hr
    have ht : ∀ j, j < (pc q).length → (w.cell? ⟨g, off + l.length * 3 + j, none⟩).isSome = true := fun j hj => by
      have hj' : j < 3 := hj
      rw [Nat.add_assoc]; exact (hline.room _ (by omega)).1
    refine ⟨_, _, hr, ⟨g, off, cap, by simp, hg, ⟨fun i hi => ?_, fun k hk => ⟨some_setCells w g _ _ (pc q) ht (hline.room k hk).1, by rw [World.frozen?_setCells]; exact (hline.room k hk).2⟩, by rw [flat_len, List.length_append]; simp; omega, Nat.lt_of_lt_of_le hline.lt (Keeps.setCells g (pc q) _ w).size⟩, hcm, by simpa using hroom⟩, Keeps.setCells g (pc q) _ w, .inl rfl⟩
    rw [cell_setCells w g _ _ (pc q) ht, flat_snoc]
    rw [flat_len, List.length_append] at hi
    simp at hi
    by_cases hlt : i < l.length * 3
    · rw [if_neg (by omega), hline.cell i (by omega), List.getElem?_append_left (by omega)]
    · rw [if_pos (by simp [pc]; omega), List.getElem?_append_right (by omega), hfl, show off + i - (off + l.length * 3) = i - l.length * 3 by omega]
  · have hol : ∀ j u, (flat l)[j]? = some u → w.cell? ((⟨g, off, none⟩ : Addr).add j) = some u := by
      intro j u hu
      rw [Addr.add_lit, hline.cell j (List.getElem?_eq_some_iff.1 hu).1]
      exact hu
    obtain ⟨v', w', hr, ho, hgr⟩ := run_append_arg_grows (P := Tryd.prog) w 88 ty 43 Tryd.t43 (.agg #[.int .i64 0, .int .i64 0, .int .i64 0]) 3 24 under_pts info_pt zero_pt size_pt bytes_pt rfl (by decide) ⟨g, off, none⟩ l.length cap (flat l) hfl hol ad 1 c (pc q) rfl hnew (by omega) (by unfold maxLen; omega) (by omega)
    rw [← flat_snoc] at ho
    have hp := owns_pline ho (by omega)
    refine ⟨v', w', hr, ?_, Keeps.grown _ hgr (fun k hk => by cases hk), .inr ?_⟩
    · obtain ⟨g', off', cap', e, h1, h2⟩ := hp.val
      exact ⟨g', off', cap', e, Nat.le_trans hw h1, h2⟩
    · obtain ⟨g', h1, h2, _⟩ := hp.own
      exact ⟨g', h1, h2⟩
/-- The same at the operation. -/
theorem wpList_append_pts {ops : Array Oper} {rest : List Oper} {o : Oper} {a : Act} {Q : Exit → Act → World → Prop} (w : World) (hgd : o.guard = none) (s x' : Operand)
    (ho : o.op = .call { callee := .builtin .append, args := #[s, x'], argTypes := #[88, 88] })
    (base : Nat) (hw : base ≤ w.heap.size) (l : List (Int × Int × Int)) (q : Int × Int × Int) (lv : Value) (hs : a.eval s = lv) (hv : PLine w base lv l)
    (ad : Addr) (c : Nat) (hx : a.eval x' = .slice (some ad) 1 c) (hnew : ∀ j u, (pc q)[j]? = some u → w.cell? (ad.add j) = some u) (hb : l.length < 1000000)
    (h : ∀ v' w', PLine w' base v' (l ++ [q]) → Keeps lv.ownBlock.toList w w' → (v'.ownBlock = lv.ownBlock ∨ ∃ g, v'.ownBlock = some g ∧ w.heap.size ≤ g) → wpList Tryd.prog ops Q rest (a.put o.dst v') w') :
    wpList Tryd.prog ops Q (o :: rest) a w := by
  refine wpList_plain hgd fun K hK => ?_
  obtain ⟨v', w', hr, h2, h3, h4⟩ := run_append_pts w o.type base hw l q lv hv ad c hnew hb
  unfold Oper.wp execOp
  simp only [ho, resolve, invoke, builtin, Sem.run_bind, Sem.run_pure, Result.andThen_ok, List.map_toArray, List.map_cons, List.map_nil, hs, hx, hr]
  exact hK _ _ (h v' w' h2 h3 h4)
end Go.Proofs.YtmebkeidpklcbaaDoor
