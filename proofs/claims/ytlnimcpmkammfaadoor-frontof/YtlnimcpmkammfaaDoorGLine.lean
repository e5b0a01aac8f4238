/-
  A slice of numbers at any place of its row, with the room behind it; one number is appended.
-/
import Derived.Test.YtlnimcpmkammfaaDoorGLst
import Derived.ArgAppend
import Derived.Laws.IdiomCopy
namespace Go.Proofs.YtlnimcpmkammfaaDoor
open Go.RowKit

def nums (l : List Int) : List Value := l.map (Value.int .i64)
theorem nums_len (l : List Int) : (nums l).length = l.length := by unfold nums; rw [List.length_map]
theorem nums_get (l : List Int) (i : Nat) (h : i < l.length) : (nums l)[i]? = some (.int .i64 (l.getD i 0)) := by
  unfold nums
  simp [List.getD, List.getElem?_eq_getElem h]
theorem nums_one (l : List Int) : ∀ u ∈ nums l, u.oneCell' = true := ints_oneCell .i64 l

/-- A slice's numbers, from place off of block g on, and the room behind them. -/
structure LineAt (w : World) (g off cap : Nat) (l : List Int) : Prop where
  cell : ∀ i, i < l.length → w.cell? ⟨g, off + i, none⟩ = some (.int .i64 (l.getD i 0))
  room : ∀ k, k < cap → (w.cell? ⟨g, off + k, none⟩).isSome = true ∧ w.frozen? ⟨g, off + k, none⟩ = false
  len : l.length ≤ cap
  max : cap ≤ 9223372036854775807
  lt : g < w.heap.size

theorem Keeps.frozen {L : List Nat} {w w' : World} (h : Keeps L w w') {p : Addr} (hp : p.block < w.heap.size) (hn : p.block ∉ L) : w'.frozen? p = w.frozen? p :=
  World.frozen?_of_block (w := w) (h.block p.block hp hn)

theorem LineAt.kept {w w' : World} {g off cap : Nat} {l : List Int} {L : List Nat} (h : LineAt w g off cap l) (k : Keeps L w w') (hn : g ∉ L) : LineAt w' g off cap l :=
  ⟨fun i hi => by rw [k.cell (p := ⟨g, off + i, none⟩) h.lt hn]; exact h.cell i hi,
   fun i hi => by rw [k.cell (p := ⟨g, off + i, none⟩) h.lt hn, k.frozen (p := ⟨g, off + i, none⟩) h.lt hn]; exact h.room i hi,
   h.len, h.max, Nat.lt_of_lt_of_le h.lt k.size⟩

theorem LineAt.of_owns {w : World} {base : Nat} {v : Value} {n : Nat} {l : List Int} (h : w.ownsRow base 3 1 v n (nums l)) (hv : v ≠ .slice none 0 0) :
    ∃ g cap, v = .slice (some ⟨g, 0, none⟩) n cap ∧ base ≤ g ∧ l.length = n ∧ LineAt w g 0 cap l := by
  have hl : l.length = n := by have := h.1; rw [nums_len] at this; omega
  rcases h.2 with ⟨e, _⟩ | ⟨g, cap, cur, rfl, hb, hg, hnc, hcm, hcs, ht⟩
  · exact absurd e hv
  · refine ⟨g, cap, rfl, hb, hl, ⟨fun i hi => ?_, fun k hk => ?_, by omega, by unfold maxLen at hcm; omega, (Array.getElem?_eq_some_iff.1 hg).1⟩⟩
    · rw [Nat.zero_add, h.cellAt i (by omega), nums_get l i hi]
    · refine ⟨?_, frozen_of_row w g _ _ _ hg⟩
      rw [cell_of_row w g _ _ _ _ hg, Nat.zero_add, Array.getElem?_eq_getElem (by omega)]
      rfl

theorem cell_setCells (w : World) (b o k : Nat) (vs : List Value) (ht : ∀ j, j < vs.length → (w.cell? ⟨b, o + j, none⟩).isSome = true) :
    (w.setCells b o vs).cell? ⟨b, k, none⟩ = if o ≤ k ∧ k < o + vs.length then vs[k - o]? else w.cell? ⟨b, k, none⟩ := by
  by_cases h : o ≤ k ∧ k < o + vs.length
  · rw [if_pos h]
    have := World.cell?_setCells_in b vs o w ht (k - o) (by omega)
    rw [show o + (k - o) = k by omega] at this
    rw [this, List.getElem?_eq_getElem]
  · rw [if_neg h]
    exact World.cell?_setCells_out b vs o w _ (fun _ _ => by show k < o ∨ o + vs.length ≤ k; omega)

theorem Keeps.setCells (g : Nat) : ∀ (vs : List Value) (o : Nat) (w : World), Keeps [g] w (w.setCells g o vs)
  | [], _, w => Keeps.refl _ _
  | v :: r, o, w => by
    rw [World.setCells]
    exact (Keeps.setCell [g] w ⟨g, o, none⟩ v (by simp)).step (Keeps.setCells g r (o + 1) _)

theorem some_setCells (w : World) (b o k : Nat) (vs : List Value) (ht : ∀ j, j < vs.length → (w.cell? ⟨b, o + j, none⟩).isSome = true) (hk : (w.cell? ⟨b, k, none⟩).isSome = true) : ((w.setCells b o vs).cell? ⟨b, k, none⟩).isSome = true := by
  rw [cell_setCells w b o k vs ht]
  by_cases h : o ≤ k ∧ k < o + vs.length
  · rw [if_pos h, List.getElem?_eq_getElem (by omega)]; rfl
  · rw [if_neg h]; exact hk

/-- Cells of the row are written: what the row then holds. -/
theorem LineAt.set {w : World} {g off cap : Nat} {l : List Int} (h : LineAt w g off cap l) (o : Nat) (vs : List Value) (l' : List Int) (ho : o + vs.length ≤ cap) (hl : l'.length ≤ cap)
    (hc : ∀ i, i < l'.length → (if o ≤ i ∧ i < o + vs.length then vs[i - o]? else w.cell? ⟨g, off + i, none⟩) = some (.int .i64 (l'.getD i 0))) : LineAt (w.setCells g (off + o) vs) g off cap l' := by
  have ht : ∀ j, j < vs.length → (w.cell? ⟨g, off + o + j, none⟩).isSome = true := fun j hj => by rw [Nat.add_assoc]; exact (h.room (o + j) (by omega)).1
  refine ⟨fun i hi => ?_, fun k hk => ⟨some_setCells w g _ _ vs ht (h.room k hk).1, by rw [World.frozen?_setCells]; exact (h.room k hk).2⟩, hl, h.max, Nat.lt_of_lt_of_le h.lt (Keeps.setCells g vs _ w).size⟩
  rw [cell_setCells w g (off + o) (off + i) vs ht, ← hc i hi]
  by_cases c : o ≤ i ∧ i < o + vs.length
  · rw [if_pos c, if_pos (by omega), show off + i - (off + o) = i - o by omega]
  · rw [if_neg c, if_neg (by omega)]

theorem info3_int : (Tryd.prog.info? 3).map (fun i => (i.zero, i.size, i.bytes)) = some (some (.int .i64 0), 1, 8) := by kernel_rfl

theorem getD_snoc (l : List Int) (x : Int) (i : Nat) (h : i < l.length + 1) : (l ++ [x]).getD i 0 = if i < l.length then l.getD i 0 else x := by
  rw [List.getD_eq_getElem?_getD, List.getD_eq_getElem?_getD]
  by_cases c : i < l.length
  · rw [if_pos c, List.getElem?_append_left c]
  · obtain rfl : i = l.length := by omega
    rw [if_neg c]; simp

/-- One number is appended to the line: where there is room, and where there is none. -/
theorem run_append_line (w : World) (ty : TypeId) (l : List Int) (x : Int) (lv : Value)
    (hv : (lv = .slice none 0 0 ∧ l = []) ∨ ∃ g off cap, lv = .slice (some ⟨g, off, none⟩) l.length cap ∧ LineAt w g off cap l) (ad : Addr) (c : Nat)
    (hnew : ∀ j u, [Value.int .i64 x][j]? = some u → w.cell? (ad.add j) = some u) (hb : l.length < 1000000) :
    ∃ g' off' cap' w', (Builtin.append_ #[23, 23] ty #[lv, .slice (some ad) 1 c]).run Tryd.prog w = .ok (.slice (some ⟨g', off', none⟩) (l.length + 1) cap') w' ∧
      LineAt w' g' off' cap' (l ++ [x]) ∧ Keeps lv.ownBlock.toList w w' ∧ (lv.ownBlock = some g' ∨ g' = w.heap.size) := by
  obtain ⟨i0, hi, hz0, hz1, hz2⟩ := info_parts info3_int
  have h1 : ∀ u ∈ [Value.int .i64 x], u.oneCell' = true := by intro u hu; simp at hu; subst hu; rfl
  have fresh : ∀ (v' : Value) (w' : World), w'.ownsRow w.heap.size 3 1 v' (l.length + 1) (nums l ++ [Value.int .i64 x]) → w.grownBy w' none → w'.heap.size = w.heap.size + 1 →
      ∃ g' off' cap', v' = .slice (some ⟨g', off', none⟩) (l.length + 1) cap' ∧ LineAt w' g' off' cap' (l ++ [x]) ∧ Keeps lv.ownBlock.toList w w' ∧ (lv.ownBlock = some g' ∨ g' = w.heap.size) := by
    intro v' w' ho hg hsz
    have e : nums l ++ [Value.int .i64 x] = nums (l ++ [x]) := by unfold nums; rw [List.map_append]; rfl
    rw [e] at ho
    obtain ⟨g', cap', rfl, hbg, hl, hline⟩ := LineAt.of_owns ho (by
      intro ev
      rcases ho.2 with ⟨_, h0⟩ | ⟨_, _, _, h', _⟩
      · omega
      · rw [ev] at h'; simp at h')
    have := hline.lt
    exact ⟨g', 0, cap', rfl, hline, Keeps.grown _ hg (fun k hk => by cases hk), Or.inr (by omega)⟩
  rcases hv with ⟨rfl, rfl⟩ | ⟨g, off, cap, rfl, hline⟩
  · have hr := run_append_nil (P := Tryd.prog) w 23 ty 3 i0 (.int .i64 0) Tryd.underlying23 hi hz0 ad 1 c [Value.int .i64 x] (by rw [hz1]; rfl) hnew (by omega) (by omega) (by rw [hz2]; omega)
    have hge := grownCap_ge w 1 0 3
    have hle := grownCap_le_maxLen w 1 0 3 (by unfold maxLen; omega)
    have ho : (w.drew.alloc (.cells ([Value.int .i64 x].toArray ++ Builtin.zeroCells (Value.int .i64 0).cells (grownCap w 1 0 3 - 1)) 3)).ownsRow w.heap.size 3 1 (.slice (some ⟨w.heap.size, 0, none⟩) 1 (grownCap w 1 0 3)) 1 (nums [] ++ [Value.int .i64 x]) := by
      refine ⟨rfl, .inr ⟨_, _, _, rfl, Nat.le_refl _, heap_alloc_new w.drew _, hge, hle, ?_, ?_⟩⟩
      · simp only [Array.size_append, List.size_toArray, size_zeroCells]
        show 1 + (grownCap w 1 0 3 - 1) * 1 = _
        omega
      · simp [nums]
    obtain ⟨g', off', cap', e, r⟩ := fresh _ _ ho ⟨rfl, rfl, rfl, by simp, fun k hk _ => heap_alloc_old w.drew _ hk⟩ (by simp)
    exact ⟨g', off', cap', _, by rw [hr, ← e], r⟩
  · by_cases hroom : l.length + 1 ≤ cap
    · have hr := run_append_room_cells (P := Tryd.prog) w 23 ty 3 i0 Tryd.underlying23 hi g off l.length cap ad 1 c [Value.int .i64 x] (by rw [hz1]; rfl) hnew h1 hroom
        (fun j hj => by rw [hz1, Nat.mul_one, Nat.add_assoc]; simp at hj; exact (hline.room _ (by omega)).1) (fun j hj => by rw [hz1, Nat.mul_one, Nat.add_assoc]; simp at hj; exact (hline.room _ (by omega)).2)
      rw [hz1, Nat.mul_one] at hr
      refine ⟨g, off, cap, _, hr, hline.set l.length _ (l ++ [x]) (by simpa using hroom) (by simpa using hroom) (fun i hi => ?_), Keeps.setCells g _ _ w, Or.inl rfl⟩
      rw [List.length_append] at hi
      simp at hi
      rw [getD_snoc l x i hi]
      by_cases ci : i < l.length
      · rw [if_pos ci, if_neg (by omega)]; exact hline.cell i ci
      · obtain rfl : i = l.length := by omega
        rw [if_neg ci, if_pos (by simp)]; simp
    · have hr0 : ∃ v' w', (Builtin.append_ #[23, 23] ty #[.slice (some ⟨g, off, none⟩) l.length cap, .slice (some ad) 1 c]).run Tryd.prog w = .ok v' w' ∧ w'.ownsRow w.heap.size 3 1 v' (l.length + 1) (nums l ++ [Value.int .i64 x]) ∧ w.grownBy w' none ∧ w'.heap.size = w.heap.size + 1 := by
        have hlo : (nums l).length = l.length * i0.size := by rw [nums_len, hz1]; omega
        have hol : ∀ j u, (nums l)[j]? = some u → w.cell? ((⟨g, off, none⟩ : Addr).add j) = some u := by
          intro j u hu
          have hj : j < l.length := by
            have := (List.getElem?_eq_some_iff.1 hu).1
            rwa [nums_len] at this
          rw [nums_get l j hj] at hu
          rw [Addr.add_lit, hline.cell j hj]
          exact hu
        have hr := run_append_grow (P := Tryd.prog) w 23 ty 3 i0 (.int .i64 0) Tryd.underlying23 hi hz0 ⟨g, off, none⟩ l.length cap (nums l) hlo hol ad 1 c [Value.int .i64 x] (by rw [hz1]; rfl) hnew (by omega) (by omega) (growslice_fits (by omega) (by rw [hz2]; omega))
        refine ⟨_, _, hr, ?_, ⟨rfl, rfl, rfl, by simp, fun k hk _ => heap_alloc_old w.drew _ hk⟩, by simp⟩
        have hge := grownCap_ge w (l.length + 1) cap 3
        have hle := grownCap_le_maxLen w (l.length + 1) cap 3 (by unfold maxLen; omega)
        have hll : (nums l ++ [Value.int .i64 x]).length = l.length + 1 := by rw [List.length_append, nums_len]; rfl
        refine ⟨by rw [hll]; omega, .inr ⟨_, _, _, rfl, Nat.le_refl _, heap_alloc_new w.drew _, hge, hle, ?_, ?_⟩⟩
        · simp only [Array.size_append, List.size_toArray, size_zeroCells, nums_len]
          show l.length + 1 + (grownCap w (l.length + 1) cap 3 - (l.length + 1)) * 1 = _
          omega
        · simp only [Array.toList_append, List.append_assoc, Nat.mul_one]
          rw [← List.append_assoc]
          exact List.take_left' hll
      obtain ⟨v', w', hr, ho, hg, hsz⟩ := hr0
      obtain ⟨g', off', cap', rfl, r⟩ := fresh v' w' ho hg hsz
      exact ⟨g', off', cap', w', hr, r⟩

/-- The same at the operation. -/
theorem wpList_append_line {ops : Array Oper} {rest : List Oper} {o : Oper} {a : Act} {Q : Exit → Act → World → Prop} (w : World) (hgd : o.guard = none) (s x' : Operand)
    (ho : o.op = .call { callee := .builtin .append, args := #[s, x'], argTypes := #[23, 23] })
    (l : List Int) (x : Int) (lv : Value) (hs : a.eval s = lv) (hv : (lv = .slice none 0 0 ∧ l = []) ∨ ∃ g off cap, lv = .slice (some ⟨g, off, none⟩) l.length cap ∧ LineAt w g off cap l)
    (ad : Addr) (c : Nat) (hx : a.eval x' = .slice (some ad) 1 c) (hnew : ∀ j u, [Value.int .i64 x][j]? = some u → w.cell? (ad.add j) = some u) (hb : l.length < 1000000)
    (h : ∀ g' off' cap' w', LineAt w' g' off' cap' (l ++ [x]) → Keeps lv.ownBlock.toList w w' → (lv.ownBlock = some g' ∨ g' = w.heap.size) → wpList Tryd.prog ops Q rest (a.put o.dst (.slice (some ⟨g', off', none⟩) (l.length + 1) cap')) w') :
    wpList Tryd.prog ops Q (o :: rest) a w := by
  refine wpList_plain hgd fun K hK => ?_
  obtain ⟨g', off', cap', w', hr, h2, h3, h4⟩ := run_append_line w o.type l x lv hv ad c hnew hb
  unfold Oper.wp execOp
  simp only [ho, resolve, invoke, builtin, Sem.run_bind, Sem.run_pure, Result.andThen_ok, List.map_toArray, List.map_cons, List.map_nil, hs, hx, hr]
  exact hK _ _ (h g' off' cap' w' h2 h3 h4)

end Go.Proofs.YtlnimcpmkammfaaDoor
