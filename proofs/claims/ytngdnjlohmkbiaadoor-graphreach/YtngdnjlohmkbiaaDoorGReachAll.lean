/-
  A slice of numbers at any place of its row, with the room behind it; one number is appended.
  Plain: a search by a queue that keeps off some nodes finds who is reached without them.
  Contract: the statements' own Reach.
  Plain: who reaches itself stands in a part with others, or has an edge to itself.
  Plain: what Reach and Loops tell; contracts: the statements' own Set and Loops.
  Contracts: the statements' own Set and Loops.
  The statement GraphReach.
-/
import Derived.Test.YtngdnjlohmkbiaaDoorGLst
import Derived.ArgAppend
import Derived.Laws.IdiomCopy
import Derived.Test.YtngdnjlohmkbiaaDoorGScc
import Derived.Test.YtngdnjlohmkbiaaDoorGInto
import Derived.Deep.LoopGhost
import Derived.Deep.DeepCutAuto
import Derived.Test.YtngdnjlohmkbiaaDoorGLaw
import Derived.Deep.RegionHeld3
import Derived.Deep.DrawnRows

namespace Go.Proofs.YtngdnjlohmkbiaaDoor
open Go.RowKit

def nums (l : List Int) : List Value := l.map (Value.int .i64)
theorem nums_len (l : List Int) : (nums l).length = l.length := by unfold nums; rw [List.length_map]
theorem nums_get (l : List Int) (i : Nat) (h : i < l.length) : (nums l)[i]? = some (.int .i64 (l.getD i 0)) := by
  unfold nums
  simp [List.getD, List.getElem?_eq_getElem h]
theorem nums_one (l : List Int) : ∀ u ∈ nums l, u.oneCell' = true := ints_oneCell .i64 l

/-- A slice's numbers, from place off of block g on, and the room behind them. -/
structure LineAt (w : World) (g off cap : Nat) (l : List Int) : Prop where
  cell : ∀ i, i < l.length → w.cell? ⟨g, off + i, none⟩ = some (.int .i64 (l.getD i 0))
  room : ∀ k, k < cap → (w.cell? ⟨g, off + k, none⟩).isSome = true ∧ w.frozen? ⟨g, off + k, none⟩ = false
  len : l.length ≤ cap
  max : cap ≤ 9223372036854775807
  lt : g < w.heap.size

theorem Keeps.frozen {L : List Nat} {w w' : World} (h : Keeps L w w') {p : Addr} (hp : p.block < w.heap.size) (hn : p.block ∉ L) : w'.frozen? p = w.frozen? p :=
  World.frozen?_of_block (w := w) (h.block p.block hp hn)

theorem LineAt.kept {w w' : World} {g off cap : Nat} {l : List Int} {L : List Nat} (h : LineAt w g off cap l) (k : Keeps L w w') (hn : g ∉ L) : LineAt w' g off cap l :=
  ⟨fun i hi => by rw [k.cell (p := ⟨g, off + i, none⟩) h.lt hn]; exact h.cell i hi,
   fun i hi => by rw [k.cell (p := ⟨g, off + i, none⟩) h.lt hn, k.frozen (p := ⟨g, off + i, none⟩) h.lt hn]; exact h.room i hi,
   h.len, h.max, Nat.lt_of_lt_of_le h.lt k.size⟩

theorem LineAt.of_owns {w : World} {base : Nat} {v : Value} {n : Nat} {l : List Int} (h : w.ownsRow base 3 1 v n (nums l)) (hv : v ≠ .slice none 0 0) :
    ∃ g cap, v = .slice (some ⟨g, 0, none⟩) n cap ∧ base ≤ g ∧ l.length = n ∧ LineAt w g 0 cap l := by
  have hl : l.length = n := by have := h.1; rw [nums_len] at this; omega
  rcases h.2 with ⟨e, _⟩ | ⟨g, cap, cur, rfl, hb, hg, hnc, hcm, hcs, ht⟩
  · exact absurd e hv
  · refine ⟨g, cap, rfl, hb, hl, ⟨fun i hi => ?_, fun k hk => ?_, by omega, by unfold maxLen at hcm; omega, (Array.getElem?_eq_some_iff.1 hg).1⟩⟩
    · rw [Nat.zero_add, h.cellAt i (by omega), nums_get l i hi]
    · refine ⟨?_, frozen_of_row w g _ _ _ hg⟩
      rw [cell_of_row w g _ _ _ _ hg, Nat.zero_add, Array.getElem?_eq_getElem (by omega)]
      rfl

theorem cell_setCells (w : World) (b o k : Nat) (vs : List Value) (ht : ∀ j, j < vs.length → (w.cell? ⟨b, o + j, none⟩).isSome = true) :
    (w.setCells b o vs).cell? ⟨b, k, none⟩ = if o ≤ k ∧ k < o + vs.length then vs[k - o]? else w.cell? ⟨b, k, none⟩ := by
  by_cases h : o ≤ k ∧ k < o + vs.length
  · rw [if_pos h]
    have := World.cell?_setCells_in b vs o w ht (k - o) (by omega)
    rw [show o + (k - o) = k by omega] at this
    rw [this, List.getElem?_eq_getElem]
  · rw [if_neg h]
    exact World.cell?_setCells_out b vs o w _ (fun _ _ => by show k < o ∨ o + vs.length ≤ k; omega)

theorem Keeps.setCells (g : Nat) : ∀ (vs : List Value) (o : Nat) (w : World), Keeps [g] w (w.setCells g o vs)
  | [], _, w => Keeps.refl _ _
  | v :: r, o, w => by
    rw [World.setCells]
    exact (Keeps.setCell [g] w ⟨g, o, none⟩ v (by simp)).step (Keeps.setCells g r (o + 1) _)

theorem some_setCells (w : World) (b o k : Nat) (vs : List Value) (ht : ∀ j, j < vs.length → (w.cell? ⟨b, o + j, none⟩).isSome = true) (hk : (w.cell? ⟨b, k, none⟩).isSome = true) : ((w.setCells b o vs).cell? ⟨b, k, none⟩).isSome = true := by
  rw [cell_setCells w b o k vs ht]
  by_cases h : o ≤ k ∧ k < o + vs.length
  · rw [if_pos h, List.getElem?_eq_getElem (by omega)]; rfl
  · rw [if_neg h]; exact hk

/-- Cells of the row are written: what the row then holds. -/
theorem LineAt.set {w : World} {g off cap : Nat} {l : List Int} (h : LineAt w g off cap l) (o : Nat) (vs : List Value) (l' : List Int) (ho : o + vs.length ≤ cap) (hl : l'.length ≤ cap)
    (hc : ∀ i, i < l'.length → (if o ≤ i ∧ i < o + vs.length then vs[i - o]? else w.cell? ⟨g, off + i, none⟩) = some (.int .i64 (l'.getD i 0))) : LineAt (w.setCells g (off + o) vs) g off cap l' := by
  have ht : ∀ j, j < vs.length → (w.cell? ⟨g, off + o + j, none⟩).isSome = true := fun j hj => by rw [Nat.add_assoc]; exact (h.room (o + j) (by omega)).1
  refine ⟨fun i hi => ?_, fun k hk => ⟨some_setCells w g _ _ vs ht (h.room k hk).1, by rw [World.frozen?_setCells]; exact (h.room k hk).2⟩, hl, h.max, Nat.lt_of_lt_of_le h.lt (Keeps.setCells g vs _ w).size⟩
  rw [cell_setCells w g (off + o) (off + i) vs ht, ← hc i hi]
  by_cases c : o ≤ i ∧ i < o + vs.length
  · rw [if_pos c, if_pos (by omega), show off + i - (off + o) = i - o by omega]
  · rw [if_neg c, if_neg (by omega)]

theorem info3_int : (Tryd.prog.info? 3).map (fun i => (i.zero, i.size, i.bytes)) = some (some (.int .i64 0), 1, 8) := by kernel_rfl

theorem getD_snoc (l : List Int) (x : Int) (i : Nat) (h : i < l.length + 1) : (l ++ [x]).getD i 0 = if i < l.length then l.getD i 0 else x := by
  rw [List.getD_eq_getElem?_getD, List.getD_eq_getElem?_getD]
  by_cases c : i < l.length
  · rw [if_pos c, List.getElem?_append_left c]
  · obtain rfl : i = l.length := by omega
    rw [if_neg c]; simp

/-- One number is appended to the line: where there is room, and where there is none. -/
theorem run_append_line (w : World) (ty : TypeId) (l : List Int) (x : Int) (lv : Value)
    (hv : (lv = .slice none 0 0 ∧ l = []) ∨ ∃ g off cap, lv = .slice (some ⟨g, off, none⟩) l.length cap ∧ LineAt w g off cap l) (ad : Addr) (c : Nat)
    (hnew : ∀ j u, [Value.int .i64 x][j]? = some u → w.cell? (ad.add j) = some u) (hb : l.length < 1000000) :
    ∃ g' off' cap' w', (Builtin.append_ #[23, 23] ty #[lv, .slice (some ad) 1 c]).run Tryd.prog w = .ok (.slice (some ⟨g', off', none⟩) (l.length + 1) cap') w' ∧
      LineAt w' g' off' cap' (l ++ [x]) ∧ Keeps lv.ownBlock.toList w w' ∧ (lv.ownBlock = some g' ∨ g' = w.heap.size) := by
  obtain ⟨i0, hi, hz0, hz1, hz2⟩ := info_parts info3_int
  have h1 : ∀ u ∈ [Value.int .i64 x], u.oneCell' = true := by intro u hu; simp at hu; subst hu; rfl
  have fresh : ∀ (v' : Value) (w' : World), w'.ownsRow w.heap.size 3 1 v' (l.length + 1) (nums l ++ [Value.int .i64 x]) → w.grownBy w' none → w'.heap.size = w.heap.size + 1 →
      ∃ g' off' cap', v' = .slice (some ⟨g', off', none⟩) (l.length + 1) cap' ∧ LineAt w' g' off' cap' (l ++ [x]) ∧ Keeps lv.ownBlock.toList w w' ∧ (lv.ownBlock = some g' ∨ g' = w.heap.size) := by
    intro v' w' ho hg hsz
    have e : nums l ++ [Value.int .i64 x] = nums (l ++ [x]) := by unfold nums; rw [List.map_append]; rfl
    rw [e] at ho
    obtain ⟨g', cap', rfl, hbg, hl, hline⟩ := LineAt.of_owns ho (by
      intro ev
      rcases ho.2 with ⟨_, h0⟩ | ⟨_, _, _, h', _⟩
      · omega
      · rw [ev] at h'; simp at h')
    have := hline.lt
    exact ⟨g', 0, cap', rfl, hline, Keeps.grown _ hg (fun k hk => by cases hk), Or.inr (by omega)⟩
  rcases hv with ⟨rfl, rfl⟩ | ⟨g, off, cap, rfl, hline⟩
  · have hr := run_append_nil (P := Tryd.prog) w 23 ty 3 i0 (.int .i64 0) Tryd.underlying23 hi hz0 ad 1 c [Value.int .i64 x] (by rw [hz1]; rfl) hnew (by omega) (by omega) (by rw [hz2]; omega)
    have hge := grownCap_ge w 1 0 3
    have hle := grownCap_le_maxLen w 1 0 3 (by unfold maxLen; omega)
    have ho : (w.drew.alloc (.cells ([Value.int .i64 x].toArray ++ Builtin.zeroCells (Value.int .i64 0).cells (grownCap w 1 0 3 - 1)) 3)).ownsRow w.heap.size 3 1 (.slice (some ⟨w.heap.size, 0, none⟩) 1 (grownCap w 1 0 3)) 1 (nums [] ++ [Value.int .i64 x]) := by
      refine ⟨rfl, .inr ⟨_, _, _, rfl, Nat.le_refl _, heap_alloc_new w.drew _, hge, hle, ?_, ?_⟩⟩
      · simp only [Array.size_append, List.size_toArray, size_zeroCells]
        show 1 + (grownCap w 1 0 3 - 1) * 1 = _
        omega
      · simp [nums]
    obtain ⟨g', off', cap', e, r⟩ := fresh _ _ ho ⟨rfl, rfl, rfl, by simp, fun k hk _ => heap_alloc_old w.drew _ hk⟩ (by simp)
    exact ⟨g', off', cap', _, by rw [hr, ← e], r⟩
  · by_cases hroom : l.length + 1 ≤ cap
    · have hr := run_append_room_cells (P := Tryd.prog) w 23 ty 3 i0 Tryd.underlying23 hi g off l.length cap ad 1 c [Value.int .i64 x] (by rw [hz1]; rfl) hnew h1 hroom
        (fun j hj => by rw [hz1, Nat.mul_one, Nat.add_assoc]; simp at hj; exact (hline.room _ (by omega)).1) (fun j hj => by rw [hz1, Nat.mul_one, Nat.add_assoc]; simp at hj; exact (hline.room _ (by omega)).2)
      rw [hz1, Nat.mul_one] at hr
      refine ⟨g, off, cap, _, hr, hline.set l.length _ (l ++ [x]) (by simpa using hroom) (by simpa using hroom) (fun i hi => ?_), Keeps.setCells g _ _ w, Or.inl rfl⟩
      rw [List.length_append] at hi
      simp at hi
      rw [getD_snoc l x i hi]
      by_cases ci : i < l.length
      · rw [if_pos ci, if_neg (by omega)]; exact hline.cell i ci
      · obtain rfl : i = l.length := by omega
        rw [if_neg ci, if_pos (by simp)]; simp
    · have hr0 : ∃ v' w', (Builtin.append_ #[23, 23] ty #[.slice (some ⟨g, off, none⟩) l.length cap, .slice (some ad) 1 c]).run Tryd.prog w = .ok v' w' ∧ w'.ownsRow w.heap.size 3 1 v' (l.length + 1) (nums l ++ [Value.int .i64 x]) ∧ w.grownBy w' none ∧ w'.heap.size = w.heap.size + 1 := by
        have hlo : (nums l).length = l.length * i0.size := by rw [nums_len, hz1]; omega
        have hol : ∀ j u, (nums l)[j]? = some u → w.cell? ((⟨g, off, none⟩ : Addr).add j) = some u := by
          intro j u hu
          have hj : j < l.length := by
            have := (List.getElem?_eq_some_iff.1 hu).1
            rwa [nums_len] at this
          rw [nums_get l j hj] at hu
          rw [Addr.add_lit, hline.cell j hj]
          exact hu
        have hr := run_append_grow (P := Tryd.prog) w 23 ty 3 i0 (.int .i64 0) Tryd.underlying23 hi hz0 ⟨g, off, none⟩ l.length cap (nums l) hlo hol ad 1 c [Value.int .i64 x] (by rw [hz1]; rfl) hnew (by omega) (by omega) (growslice_fits (by omega) (by rw [hz2]; omega))
        refine ⟨_, _, hr, ?_, ⟨rfl, rfl, rfl, by simp, fun k hk _ => heap_alloc_old w.drew _ hk⟩, by simp⟩
        have hge := grownCap_ge w (l.length + 1) cap 3
        have hle := grownCap_le_maxLen w (l.length + 1) cap 3 (by unfold maxLen; omega)
        have hll : (nums l ++ [Value.int .i64 x]).length = l.length + 1 := by rw [List.length_append, nums_len]; rfl
        refine ⟨by rw [hll]; omega, .inr ⟨_, _, _, rfl, Nat.le_refl _, heap_alloc_new w.drew _, hge, hle, ?_, ?_⟩⟩
        · simp only [Array.size_append, List.size_toArray, size_zeroCells, nums_len]
          show l.length + 1 + (grownCap w (l.length + 1) cap 3 - (l.length + 1)) * 1 = _
          omega
        · simp only [Array.toList_append, List.append_assoc, Nat.mul_one]
          rw [← List.append_assoc]
          exact List.take_left' hll
      obtain ⟨v', w', hr, ho, hg, hsz⟩ := hr0
      obtain ⟨g', off', cap', rfl, r⟩ := fresh v' w' ho hg hsz
      exact ⟨g', off', cap', w', hr, r⟩

/-- The same at the operation. -/
theorem wpList_append_line {ops : Array Oper} {rest : List Oper} {o : Oper} {a : Act} {Q : Exit → Act → World → Prop} (w : World) (hgd : o.guard = none) (s x' : Operand)
    (ho : o.op = .call { callee := .builtin .append, args := #[s, x'], argTypes := #[23, 23] })
    (l : List Int) (x : Int) (lv : Value) (hs : a.eval s = lv) (hv : (lv = .slice none 0 0 ∧ l = []) ∨ ∃ g off cap, lv = .slice (some ⟨g, off, none⟩) l.length cap ∧ LineAt w g off cap l)
    (ad : Addr) (c : Nat) (hx : a.eval x' = .slice (some ad) 1 c) (hnew : ∀ j u, [Value.int .i64 x][j]? = some u → w.cell? (ad.add j) = some u) (hb : l.length < 1000000)
    (h : ∀ g' off' cap' w', LineAt w' g' off' cap' (l ++ [x]) → Keeps lv.ownBlock.toList w w' → (lv.ownBlock = some g' ∨ g' = w.heap.size) → wpList Tryd.prog ops Q rest (a.put o.dst (.slice (some ⟨g', off', none⟩) (l.length + 1) cap')) w') :
    wpList Tryd.prog ops Q (o :: rest) a w := by
  refine wpList_plain hgd fun K hK => ?_
  obtain ⟨g', off', cap', w', hr, h2, h3, h4⟩ := run_append_line w o.type l x lv hv ad c hnew hb
  unfold Oper.wp execOp
  simp only [ho, resolve, invoke, builtin, Sem.run_bind, Sem.run_pure, Result.andThen_ok, List.map_toArray, List.map_cons, List.map_nil, hs, hx, hr]
  exact hK _ _ (h g' off' cap' w' h2 h3 h4)

end Go.Proofs.YtngdnjlohmkbiaaDoor

namespace Go.Proofs.YtngdnjlohmkbiaaDoor

/-- One more into the queue, if it is new and not barred. -/
def push1 (av : Nat → Bool) (st : (Nat → Bool) × List Nat) (b : Nat) : (Nat → Bool) × List Nat := if st.1 b = true ∨ av b = true then st else (ins st.1 b, st.2 ++ [b])
def pushes (av : Nat → Bool) (st : (Nat → Bool) × List Nat) (l : List Nat) : (Nat → Bool) × List Nat := l.foldl (push1 av) st
theorem pushes_cons (av : Nat → Bool) (st : (Nat → Bool) × List Nat) (b : Nat) (l : List Nat) : pushes av st (b :: l) = pushes av (push1 av st b) l := rfl
theorem pushes_snoc (av : Nat → Bool) (st : (Nat → Bool) × List Nat) (b : Nat) (l : List Nat) : pushes av st (l ++ [b]) = push1 av (pushes av st l) b := by
  unfold pushes
  rw [List.foldl_append]
  rfl
theorem ins_true {s : Nat → Bool} {b u : Nat} : ins s b u = true ↔ s u = true ∨ u = b := by
  show (s u || (u == b)) = true ↔ _
  rw [Bool.or_eq_true, beq_iff_eq]
theorem push1_set (av : Nat → Bool) (st : (Nat → Bool) × List Nat) (b u : Nat) : (push1 av st b).1 u = true ↔ st.1 u = true ∨ (u = b ∧ av b = false) := by
  unfold push1
  by_cases h : st.1 b = true ∨ av b = true
  · rw [if_pos h]
    constructor
    · exact .inl
    · rintro (h1 | ⟨rfl, h1⟩)
      · exact h1
      · rcases h with h | h
        · exact h
        · rw [h1] at h; cases h
  · rw [if_neg h, ins_true]
    have h2 : av b = false := by
      cases e : av b with
      | false => rfl
      | true => exact absurd (.inr e) h
    exact ⟨fun q => q.imp id fun e => ⟨e, h2⟩, fun q => q.imp id fun e => e.1⟩
theorem push1_line (av : Nat → Bool) (st : (Nat → Bool) × List Nat) (b u : Nat) : u ∈ (push1 av st b).2 ↔ u ∈ st.2 ∨ (u = b ∧ st.1 u = false ∧ av u = false) := by
  unfold push1
  by_cases h : st.1 b = true ∨ av b = true
  · rw [if_pos h]
    constructor
    · exact .inl
    · rintro (h1 | ⟨rfl, h2, h3⟩)
      · exact h1
      · rcases h with h | h
        · rw [h] at h2; cases h2
        · rw [h] at h3; cases h3
  · rw [if_neg h]
    have h1 : st.1 b = false := by
      cases e : st.1 b with
      | false => rfl
      | true => exact absurd (.inl e) h
    have h2 : av b = false := by
      cases e : av b with
      | false => rfl
      | true => exact absurd (.inr e) h
    simp only [List.mem_append, List.mem_singleton]
    constructor
    · rintro (h3 | rfl)
      · exact .inl h3
      · exact .inr ⟨rfl, h1, h2⟩
    · rintro (h3 | ⟨rfl, _⟩)
      · exact .inl h3
      · exact .inr rfl
theorem pushes_set (av : Nat → Bool) (l : List Nat) : ∀ (st : (Nat → Bool) × List Nat) (u : Nat), (pushes av st l).1 u = true ↔ st.1 u = true ∨ (u ∈ l ∧ av u = false) := by
  induction l with
  | nil => intro st u; simp [pushes]
  | cons b l ih =>
    intro st u
    rw [pushes_cons, ih, push1_set, List.mem_cons, or_assoc]
    refine or_congr Iff.rfl ?_
    constructor
    · rintro (⟨rfl, h⟩ | ⟨h1, h2⟩)
      · exact ⟨.inl rfl, h⟩
      · exact ⟨.inr h1, h2⟩
    · rintro ⟨rfl | h1, h2⟩
      · exact .inl ⟨rfl, h2⟩
      · exact .inr ⟨h1, h2⟩
theorem pushes_keep (av : Nat → Bool) (l : List Nat) : ∀ (st : (Nat → Bool) × List Nat) (u : Nat), u ∈ st.2 → u ∈ (pushes av st l).2 := by
  induction l with
  | nil => intro st u h; exact h
  | cons b l ih => intro st u h; rw [pushes_cons]; exact ih _ u ((push1_line av st b u).2 (.inl h))
theorem pushes_new (av : Nat → Bool) (l : List Nat) : ∀ (st : (Nat → Bool) × List Nat) (u : Nat), (pushes av st l).1 u = true → st.1 u = false → u ∈ (pushes av st l).2 := by
  induction l with
  | nil => intro st u h1 h2; rw [show (pushes av st []).1 u = st.1 u from rfl, h2] at h1; cases h1
  | cons b l ih =>
    intro st u h1 h2
    rw [pushes_cons] at h1 ⊢
    cases h3 : (push1 av st b).1 u with
    | false => exact ih _ u h1 h3
    | true =>
      rcases (push1_set av st b u).1 h3 with h4 | ⟨rfl, h4⟩
      · rw [h2] at h4; cases h4
      · exact pushes_keep av l _ u ((push1_line av st u u).2 (.inr ⟨rfl, h2, h4⟩))
theorem pushes_in (av : Nat → Bool) (l : List Nat) : ∀ (st : (Nat → Bool) × List Nat), (∀ u, u ∈ st.2 → st.1 u = true) → ∀ u, u ∈ (pushes av st l).2 → (pushes av st l).1 u = true := by
  induction l with
  | nil => intro st h u hu; exact h u hu
  | cons b l ih =>
    intro st h u hu
    rw [pushes_cons] at hu ⊢
    refine ih _ (fun v hv => ?_) u hu
    rcases (push1_line av st b v).1 hv with h1 | ⟨rfl, _, h2⟩
    · exact (push1_set av st b v).2 (.inl (h v h1))
    · exact (push1_set av st v v).2 (.inr ⟨rfl, h2⟩)
theorem pushes_un (av : Nat → Bool) (g : List (List Nat)) (l : List Nat) : ∀ (st : (Nat → Bool) × List Nat), (∀ b, b ∈ l → b < g.length) → un g (pushes av st l).1 + (pushes av st l).2.length ≤ un g st.1 + st.2.length := by
  induction l with
  | nil => intro st _; exact Nat.le_refl _
  | cons b l ih =>
    intro st hl
    rw [pushes_cons]
    refine Nat.le_trans (ih _ (fun x hx => hl x (by simp [hx]))) ?_
    unfold push1
    by_cases h : st.1 b = true ∨ av b = true
    · rw [if_pos h]; exact Nat.le_refl _
    · rw [if_neg h]
      have h1 : st.1 b = false := by
        cases e : st.1 b with
        | false => rfl
        | true => exact absurd (.inl e) h
      have := un_ins g st.1 b h1 (hl b (by simp))
      simp only [List.length_append, List.length_singleton]
      omega
theorem pushes_lt (av : Nat → Bool) {N : Nat} (l : List Nat) : ∀ (st : (Nat → Bool) × List Nat), (∀ b, b ∈ l → b < N) → (∀ u, u ∈ st.2 → u < N) → ∀ u, u ∈ (pushes av st l).2 → u < N := by
  induction l with
  | nil => intro st _ h u hu; exact h u hu
  | cons b l ih =>
    intro st hl h u hu
    rw [pushes_cons] at hu
    refine ih _ (fun x hx => hl x (by simp [hx])) (fun v hv => ?_) u hu
    rcases (push1_line av st b v).1 hv with h1 | ⟨rfl, _⟩
    · exact h v h1
    · exact hl v (by simp)
structure Qu (g : List (List Nat)) (av : Nat → Bool) (ns : List Nat) (st : (Nat → Bool) × List Nat) : Prop where
  from_ : ∀ u, st.1 u = true → ∃ z, z ∈ ns ∧ Pth g av z u
  line : ∀ u, u ∈ st.2 → st.1 u = true
  closed : ∀ u, st.1 u = true → u ∉ st.2 → ∀ v, v ∈ nb g u → av v = false → st.1 v = true
  start : ∀ z, z ∈ ns → av z = false → st.1 z = true
theorem Qu.begin (g : List (List Nat)) (av : Nat → Bool) (ns : List Nat) : Qu g av ns (pushes av (noS, []) ns) := by
  have h0 : ∀ u, noS u = false := fun _ => rfl
  refine ⟨fun u hu => ?_, pushes_in av ns _ (by simp), fun u hu hn => absurd (pushes_new av ns (noS, []) u hu (h0 u)) hn, fun z hz ha => (pushes_set av ns _ z).2 (.inr ⟨hz, ha⟩)⟩
  rcases (pushes_set av ns _ u).1 hu with h | ⟨h, ha⟩
  · cases h
  · exact ⟨u, h, Pth.refl ha⟩
theorem Qu.step {g : List (List Nat)} {av : Nat → Bool} {ns : List Nat} {s : Nat → Bool} {a : Nat} {q : List Nat} (h : Qu g av ns (s, a :: q)) : Qu g av ns (pushes av (s, q) (nb g a)) := by
  have ha : s a = true := h.line a (by simp)
  refine ⟨fun u hu => ?_, pushes_in av _ _ (fun u hu => h.line u (List.mem_cons_of_mem _ hu)), fun u hu hn v hv hav => ?_, fun z hz hav => (pushes_set av _ _ z).2 (.inl (h.start z hz hav))⟩
  · rcases (pushes_set av _ _ u).1 hu with h1 | ⟨h1, h2⟩
    · exact h.from_ u h1
    · obtain ⟨z, hz, p⟩ := h.from_ a ha
      exact ⟨z, hz, p.snoc h1 h2⟩
  · by_cases hs : s u = true
    · by_cases e : u = a
      · subst e; exact (pushes_set av _ _ v).2 (.inr ⟨hv, hav⟩)
      · have hnq : u ∉ a :: q := by
          intro hm
          rcases List.mem_cons.1 hm with h1 | h1
          · exact e h1
          · exact hn (pushes_keep av _ _ u h1)
        exact (pushes_set av _ _ v).2 (.inl (h.closed u hs hnq v hv hav))
    · exact absurd (pushes_new av _ (s, q) u hu (by simpa using hs)) hn
theorem Qu.done {g : List (List Nat)} {av : Nat → Bool} {ns : List Nat} {st : (Nat → Bool) × List Nat} (h : Qu g av ns st) (he : st.2 = []) (u : Nat) : st.1 u = true ↔ ∃ z, z ∈ ns ∧ Pth g av z u := by
  refine ⟨h.from_ u, ?_⟩
  rintro ⟨z, hz, p⟩
  exact p.carry (C := fun u => st.1 u = true) (fun x hx _ v hv hs => h.closed x hx (by rw [he]; simp) v hv hs) (h.start z hz p.start)
end Go.Proofs.YtngdnjlohmkbiaaDoor

namespace Go.Proofs.YtngdnjlohmkbiaaDoor
open Go.RowKit

/-- Marks. -/
def bw (s : Nat → Bool) (i : Nat) : Value := .bool (s i)
theorem bw_put {w : World} {B0 b gn : Nat} {s : Nat → Bool} (h : RowAt w B0 b gn 4 (bw s)) (n : Nat) : RowAt (w.setCell ⟨b, n, none⟩ (.bool true)) B0 b gn 4 (bw (ins s n)) := by
  refine (h.put n (.bool true)).congr (fun i _ => ?_)
  unfold bw ins
  by_cases e : i = n
  · subst e; simp
  · simp [e]
theorem bzero : Tryd.t4.zero = some (.bool false) := by kernel_rfl
theorem bsize : Tryd.t4.size = 1 := by kernel_rfl
theorem bbytes : Tryd.t4.bytes = 1 := by kernel_rfl
theorem binfo : Tryd.prog.info? 4 = some Tryd.t4 := by kernel_rfl
theorem bunder : Tryd.prog.underlying 34 = some (.slice 4) := by kernel_rfl

/-- Whom to keep off. -/
def avI (wo : Int) : Nat → Bool := fun m => decide ((m : Int) = wo)
/-- The queue in memory. -/
def WLine (w : World) (base ps : Nat) (lv : Value) (l : List Nat) : Prop :=
  (lv = .slice none 0 0 ∧ l = []) ∨ ∃ g off cap, lv = .slice (some ⟨g, off, none⟩) l.length cap ∧ LineAt w g off cap (intsI l) ∧ base ≤ g ∧ g ≠ ps
structure RQ (w wr : World) (ps N : Nat) (lv : Value) (st : (Nat → Bool) × List Nat) : Prop where
  row : RowAt wr w.heap.size ps N 4 (bw st.1)
  line : WLine wr w.heap.size ps lv st.2
  keep : Keeps [] w wr
theorem WLine.arm {w : World} {base ps : Nat} {lv : Value} {l : List Nat} (h : WLine w base ps lv l) : (lv = .slice none 0 0 ∧ intsI l = []) ∨ ∃ g off cap, lv = .slice (some ⟨g, off, none⟩) (intsI l).length cap ∧ LineAt w g off cap (intsI l) := by
  rcases h with ⟨h1, h2⟩ | ⟨g, off, cap, h1, h2, _, _⟩
  · exact .inl ⟨h1, by rw [h2]; rfl⟩
  · exact .inr ⟨g, off, cap, by rw [intsI_len]; exact h1, h2⟩
theorem WLine.len {w : World} {base ps : Nat} {lv : Value} {l : List Nat} (h : WLine w base ps lv l) : ∃ a c, lv = .slice a l.length c := by
  rcases h with ⟨rfl, rfl⟩ | ⟨g, off, cap, rfl, _⟩
  · exact ⟨none, 0, rfl⟩
  · exact ⟨_, _, rfl⟩
theorem WLine.kept {w w' : World} {base ps : Nat} {lv : Value} {l L : List Nat} (h : WLine w base ps lv l) (k : Keeps L w w') (hL : ∀ x, x ∈ L → lv.ownBlock ≠ some x) : WLine w' base ps lv l := by
  rcases h with h | ⟨g, off, cap, rfl, h2, h3, h4⟩
  · exact .inl h
  · exact .inr ⟨g, off, cap, rfl, h2.kept k (fun hx => hL g hx rfl), h3, h4⟩
theorem WLine.own {w : World} {base ps : Nat} {lv : Value} {l : List Nat} (h : WLine w base ps lv l) : ∀ x, lv.ownBlock = some x → base ≤ x ∧ x ≠ ps ∧ x < w.heap.size := by
  intro x hx
  rcases h with ⟨rfl, _⟩ | ⟨g, off, cap, rfl, h2, h3, h4⟩
  · cases hx
  · have : g = x := Option.some.inj hx
    subst this
    exact ⟨h3, h4, h2.lt⟩
theorem intsI_snoc (l : List Nat) (x : Nat) : intsI (l ++ [x]) = intsI l ++ [(x : Int)] := by unfold intsI; rw [List.map_append]; rfl
/-- A mark is set. -/
theorem RQ.mark {w wr : World} {ps N : Nat} {lv : Value} {st : (Nat → Bool) × List Nat} (h : RQ w wr ps N lv st) (b : Nat) : RQ w (wr.setCell ⟨ps, b, none⟩ (.bool true)) ps N lv (ins st.1 b, st.2) := by
  have k : Keeps [ps] wr (wr.setCell ⟨ps, b, none⟩ (.bool true)) := Keeps.setCell _ _ _ _ (by simp)
  exact ⟨bw_put h.row b, h.line.kept k (fun x hx e => by simp at hx; exact (h.line.own x e).2.1 hx), h.keep.fresh k (fun x hx => by have := h.row.lt.1; simp at hx; omega)⟩
theorem RQ.quiet {w wr wy : World} {ps N : Nat} {lv : Value} {st : (Nat → Bool) × List Nat} (h : RQ w wr ps N lv st) (k : Keeps [] wr wy) : RQ w wy ps N lv st :=
  ⟨h.row.kept k (by simp), h.line.kept k (by simp), h.keep.quiet k⟩
/-- One more stands at the end. -/
theorem RQ.push {w wr wa w5 : World} {ps N : Nat} {lv : Value} {st : (Nat → Bool) × List Nat} {b g5 off5 cap5 : Nat} (h : RQ w wr ps N lv st) (ka : Keeps [] wr wa) (hl : LineAt w5 g5 off5 cap5 (intsI st.2 ++ [(b : Int)])) (k5 : Keeps lv.ownBlock.toList wa w5) (hat : lv.ownBlock = some g5 ∨ g5 = wa.heap.size) :
    RQ w w5 ps N (.slice (some ⟨g5, off5, none⟩) ((intsI st.2).length + 1) cap5) (st.1, st.2 ++ [b]) := by
  have h2 := h.quiet ka
  have hps := h2.row.lt
  refine ⟨h2.row.kept k5 (fun hx => (h2.line.own ps (by simpa using hx)).2.1 rfl), .inr ⟨g5, off5, cap5, ?_, ?_, ?_, ?_⟩, h2.keep.fresh k5 (fun x hx => (h2.line.own x (by simpa using hx)).1)⟩
  · rw [intsI_len, List.length_append]; rfl
  · show LineAt w5 g5 off5 cap5 (intsI (st.2 ++ [b]))
    rw [intsI_snoc]; exact hl
  · rcases hat with e | e
    · exact (h2.line.own g5 e).1
    · have := h2.keep.size; omega
  · rcases hat with e | e
    · exact (h2.line.own g5 e).2.1
    · omega

/-- The first one goes. -/
theorem LineAt.tail {w : World} {g off cap : Nat} {x : Int} {l : List Int} (h : LineAt w g off cap (x :: l)) : LineAt w g (off + 1) (cap - 1) l := by
  have hl := h.len
  have hm := h.max
  have hlen : (x :: l).length = l.length + 1 := rfl
  refine ⟨fun i hi => ?_, fun k hk => ?_, by omega, by omega, h.lt⟩
  · have := h.cell (i + 1) (by omega)
    rw [Nat.add_assoc, Nat.add_comm 1 i]
    exact this
  · have := h.room (k + 1) (by omega)
    rw [Nat.add_assoc, Nat.add_comm 1 k]
    exact this
theorem WLine.pop {w : World} {base ps g off cap x : Nat} {l : List Nat} (h : LineAt w g off cap (intsI (x :: l))) (h1 : base ≤ g) (h2 : g ≠ ps) : WLine w base ps (.slice (some ⟨g, off + 1, none⟩) l.length (cap - 1)) l :=
  .inr ⟨g, off + 1, cap - 1, rfl, LineAt.tail (l := intsI l) h, h1, h2⟩
theorem WLine.pop1 {w : World} {base ps g off x : Nat} {l : List Nat} (h : LineAt w g off 1 (intsI (x :: l))) (h1 : base ≤ g) (h2 : g ≠ ps) : l = [] ∧ WLine w base ps (.slice (some ⟨g, off, none⟩) 0 0) [] := by
  have hl := h.len
  rw [intsI_len] at hl
  have hlen : (x :: l).length = l.length + 1 := rfl
  refine ⟨List.eq_nil_of_length_eq_zero (by omega), .inr ⟨g, off, 0, rfl, ⟨fun i hi => by simp [intsI] at hi, fun k hk => by omega, by simp [intsI], by omega, h.lt⟩, h1, h2⟩⟩

/-- Those that are nodes. -/
def nodI (N : Nat) (zs : List Int) : List Nat := (zs.filter fun z => decide (0 ≤ z ∧ z < (N : Int))).map Int.toNat
theorem nodI_snoc_in {N : Nat} {zs : List Int} {z : Int} (h : 0 ≤ z ∧ z < (N : Int)) : nodI N (zs ++ [z]) = nodI N zs ++ [z.toNat] := by
  unfold nodI
  rw [List.filter_append, List.map_append]
  simp [h]
theorem nodI_snoc_out {N : Nat} {zs : List Int} {z : Int} (h : ¬ (0 ≤ z ∧ z < (N : Int))) : nodI N (zs ++ [z]) = nodI N zs := by
  unfold nodI
  rw [List.filter_append, List.map_append, List.filter_cons, if_neg (by simpa using h)]
  simp
theorem mem_nodI {N : Nat} {zs : List Int} {u : Nat} : u ∈ nodI N zs ↔ (u : Int) ∈ zs ∧ u < N := by
  unfold nodI
  constructor
  · intro h
    obtain ⟨z, hz, rfl⟩ := List.mem_map.1 h
    obtain ⟨h1, h2⟩ := List.mem_filter.1 hz
    have h3 := of_decide_eq_true h2
    rw [Int.toNat_of_nonneg h3.1]
    exact ⟨h1, by omega⟩
  · rintro ⟨h1, h2⟩
    exact List.mem_map.2 ⟨(u : Int), List.mem_filter.2 ⟨h1, by simp; omega⟩, by simp⟩
theorem nodI_lt {N : Nat} {zs : List Int} : ∀ u, u ∈ nodI N zs → u < N := fun _ hu => (mem_nodI.1 hu).2

set_option maxRecDepth 20000 in
set_option maxHeartbeats 8000000 in
theorem rreach_any (g : List (List Nat)) (hs : Sm g) (a : Option Addr) (cap B : Nat) (w : World) (hG : GAt w B a g) (af : Option Addr) (fc Bf : Nat) (zs : List Int) (hz : InAt w Bf af zs) (hl : zs.length ≤ 1000) (wo : Int) :
    Calls Tryd.prog 15 #[.slice a g.length cap, .slice af zs.length fc, .int .i64 wo] w fun e w' => ∃ ps, e = .returned (.slice (some ⟨ps, 0, none⟩) g.length g.length) ∧ ∃ s, RowAt w' w.heap.size ps g.length 4 (bw s) ∧ Keeps [] w w' ∧ ∀ u, s u = true ↔ ∃ z, z ∈ nodI g.length zs ∧ Pth g (avI wo) z u := by
  have HS := hid hs
  have HG := hid hG
  have HZ := hid hz
  have hg6 := hs.len
  have HUN := hid (fun st : (Nat → Bool) × List Nat => un_le g st.1)
  obtain ⟨N, hN⟩ : ∃ N, g.length = N := ⟨_, rfl⟩
  have HN := hid hN
  rw [hN] at hg6 HUN ⊢
  obtain ⟨zl, hzl⟩ : ∃ zl, zs.length = zl := ⟨_, rfl⟩
  have HZL := hid hzl
  rw [hzl] at hl ⊢
  clear hs hG hz hN hzl
  have hww : w.heap.size ≤ w.heap.size := Nat.le_refl _
  go_enter Tryd.func15, Tryd.ntmps15
  go_wp2_with (at_make; go_must (refine wpList_make_full _ rfl _ _ 34 rfl w.heap.size 4 Tryd.t4 (.bool false) 1 bunder binfo bzero bsize .i64 .i64 _ _ N rfl rfl rfl rfl (by rw [bbytes]; omega) (by unfold maxLen; omega) hww ?_; intro w2 hown2 hgrow2))
  have k2 : Keeps [] w w2 := Keeps.grown [] hgrow2 (by simp)
  obtain ⟨ps, hps⟩ : ∃ ps, w.heap.size = ps := ⟨_, rfl⟩
  have HPS := hid hps
  have R2 : Box (RQ w w2 ps N (.slice none 0 0) (pushes (avI wo) (noS, []) (nodI N (zs.take 0)))) := hid ⟨by
    rw [← hps]
    exact (RowAt.made hown2 rfl).congr (fun i _ => rfl), .inl ⟨rfl, rfl⟩, k2⟩
  rw [hps]
  clear hown2 hgrow2 k2 hww hps
  have wsz : w.heap.size = ps := HPS.out
  clear wsz
  go_loopw [8, 9] (fun lv iv wr => ∃ (i : Nat) (v : Value), v = lv ∧ iv = .int .i64 (i : Int) ∧ i ≤ zl ∧ Box (RQ w wr ps N v (pushes (avI wo) (noS, []) (nodI N (zs.take i))))) (fun _ iv _ => zl - (intOf iv).toNat)
  case atStart => exact ⟨0, _, rfl, rfl, by omega, R2⟩
  case round =>
    clear R2
    obtain ⟨i, v, rfl, rfl, hi, HR⟩ := hrel
    by_cases hlt : i < zl
    · have hlt' : (i : Int) < (zl : Int) := by omega
      obtain ⟨bz, oz, rfl, hcz⟩ := (HZ.out.kept HR.out.keep (by simp)).at (k := i) (by rw [HZL.out]; exact hlt)
      have htk := hid (take_snoc zs i 0 (by rw [HZL.out]; exact hlt))
      obtain ⟨z, hzz⟩ : ∃ z, zs.getD i 0 = z := ⟨_, rfl⟩
      rw [hzz] at hcz htk
      clear hzz
      by_cases hin : 0 ≤ z ∧ z < (N : Int)
      · obtain ⟨b, rfl⟩ := Int.eq_ofNat_of_zero_le hin.1
        have hbN : b < N := by omega
        have hbN' := hin.2
        have hb0 := hin.1
        have hst : Box (pushes (avI wo) (noS, []) (nodI N (zs.take (i + 1))) = push1 (avI wo) (pushes (avI wo) (noS, []) (nodI N (zs.take i))) b) := hid (by rw [htk.out, nodI_snoc_in hin, pushes_snoc, Int.toNat_natCast])
        have hun := pushes_un (avI wo) g (nodI N (zs.take i)) (noS, []) (fun x hx => by rw [HN.out]; exact nodI_lt x hx)
        have hu0 := un_le g noS
        obtain ⟨st, hste⟩ : ∃ st, pushes (avI wo) (noS, []) (nodI N (zs.take i)) = st := ⟨_, rfl⟩
        rw [hste] at HR hst hun
        have hlen : st.2.length ≤ 600 := by
          have : (([] : List Nat)).length = 0 := rfl
          have h9 : un g st.1 + st.2.length ≤ un g noS + 0 := hun
          have := HN.out
          omega
        have cs := HR.out.row.cell hbN
        unfold bw at cs
        have fs := HR.out.row.frozen b
        clear hun hu0 hste hin htk
        cases hsb : st.1 b with
        | true =>
          rw [hsb] at cs
          have hst2 : Box (push1 (avI wo) st b = st) := hid (by unfold push1; rw [if_pos (.inl hsb)])
          clear hsb
          go_wp2
          go_roundw
          case rel => exact ⟨i + 1, v, rfl, by go_num, by omega, hid (by rw [hst.out, hst2.out]; exact HR.out)⟩
          case measure => simp [intOf]; omega
        | false =>
          rw [hsb] at cs
          by_cases hwo : (b : Int) = wo
          · have hb1 : ((b : Int) != wo) = false := by rw [hwo]; simp
            have hst2 : Box (push1 (avI wo) st b = st) := hid (by unfold push1 avI; rw [if_pos (.inr (decide_eq_true hwo))])
            clear hsb hwo
            go_wp2
            go_roundw
            case rel => exact ⟨i + 1, v, rfl, by go_num, by omega, hid (by rw [hst.out, hst2.out]; exact HR.out)⟩
            case measure => simp [intOf]; omega
          · have hb1 : ((b : Int) != wo) = true := by rw [bne_iff_ne]; exact hwo
            have hst2 : Box (push1 (avI wo) st b = (ins st.1 b, st.2 ++ [b])) := hid (by
              unfold push1
              rw [if_neg]
              rintro (h | h)
              · rw [hsb] at h; cases h
              · exact hwo (of_decide_eq_true h))
            have HM := hid (HR.out.mark b)
            clear hsb hwo HR
            obtain ⟨av, cv, rfl⟩ := HM.out.line.len
            go_upto_region 9 with fail
            clear cs fs
            generalize wr.setCell ⟨ps, b, none⟩ (.bool true) = wm at HM ⊢
            go_wp2_with (at_builtin; go_must (refine wpList_append_line _ rfl _ _ rfl (intsI st.2) (b : Int) (.slice av st.2.length cv) rfl (HM.out.quiet (Keeps.alloc [] _ _)).line.arm ⟨_, 0, none⟩ 1 rfl (cell_one_new _ _ _) (by rw [intsI_len]; omega) ?_; intro g5 off5 cap5 w5 hl5 k5 hat5))
            have HR5 := hid (HM.out.push (Keeps.alloc [] _ _) hl5 k5 hat5)
            clear hl5 k5 hat5 HM
            go_roundw
            case rel => exact ⟨i + 1, _, rfl, by go_num, by omega, hid (by rw [hst.out, hst2.out]; exact HR5.out)⟩
            case measure => simp [intOf]; omega
      · have hst : Box (pushes (avI wo) (noS, []) (nodI N (zs.take (i + 1))) = pushes (avI wo) (noS, []) (nodI N (zs.take i))) := hid (by rw [htk.out, nodI_snoc_out hin])
        clear htk
        by_cases h0 : 0 ≤ z
        · have h1 : ¬ z < (N : Int) := fun h => hin ⟨h0, h⟩
          clear hin
          go_wp2
          go_roundw
          case rel => exact ⟨i + 1, v, rfl, by go_num, by omega, hid (by rw [hst.out]; exact HR.out)⟩
          case measure => simp [intOf]; omega
        · clear hin
          go_wp2
          go_roundw
          case rel => exact ⟨i + 1, v, rfl, by go_num, by omega, hid (by rw [hst.out]; exact HR.out)⟩
          case measure => simp [intOf]; omega
    · obtain rfl : i = zl := by omega
      have hall : zs.take i = zs := by rw [← HZL.out]; exact List.take_length
      rw [hall] at HR
      have HQ := hid (Qu.begin g (avI wo) (nodI N zs))
      have HLT : Box (∀ u, u ∈ (pushes (avI wo) (noS, []) (nodI N zs)).2 → u < N) := hid (pushes_lt (avI wo) (nodI N zs) (noS, []) nodI_lt (by simp))
      have hun : un g (pushes (avI wo) (noS, []) (nodI N zs)).1 + (pushes (avI wo) (noS, []) (nodI N zs)).2.length ≤ N := by
        have h1 := pushes_un (avI wo) g (nodI N zs) (noS, []) (fun x hx => by rw [HN.out]; exact nodI_lt x hx)
        have h2 : un g (noS, ([] : List Nat)).1 + (noS, ([] : List Nat)).2.length ≤ N := by
          have := un_le g noS
          have := HN.out
          show un g noS + 0 ≤ N
          omega
        omega
      clear hall HZ
      go_wp2_with fail
      go_loopg [8] N (fun q lv wr => ∃ (v : Value) (st : (Nat → Bool) × List Nat), v = lv ∧ un g st.1 + st.2.length ≤ q ∧ q ≤ N ∧ Box (RQ w wr ps N v st) ∧ Box (Qu g (avI wo) (nodI N zs) st) ∧ Box (∀ u, u ∈ st.2 → u < N))
      case atStart => exact ⟨v, _, rfl, hun, Nat.le_refl _, HR, HQ, HLT⟩
      case round =>
        clear HR HQ HLT hun
        obtain ⟨v, ⟨s, l⟩, rfl, hq, hqN, HR, HQ, HLT⟩ := hrel
        cases l with
        | nil =>
          obtain ⟨av, cv, rfl⟩ := HR.out.line.len
          have hdone := hid (HQ.out.done rfl)
          go_wp2
          go_ret
          exact ⟨ps, rfl, s, HR.out.row, HR.out.keep, hdone.out⟩
        | cons x l =>
          have hx : x < N := HLT.out x (by simp)
          obtain ⟨g5, off5, cap5, rfl, hline, hb5, hne5⟩ := HR.out.line.resolve_left (fun h => by simp at h)
          have hcell := hline.cell 0 (by rw [intsI_len]; simp)
          rw [Nat.add_zero] at hcell
          have hcell' : wr.cell? ⟨g5, off5, none⟩ = some (.int .i64 (x : Int)) := hcell
          have hlc := hline.len
          have hmx := hline.max
          rw [intsI_len] at hlc
          have hlen : (x :: l).length = l.length + 1 := rfl
          rw [hlen] at hlc
          have hl1 : (1 : Int) ≤ ((l.length + 1 : Nat) : Int) := by omega
          have hrow := hid HR.out.row
          have HK := hid HR.out.keep
          have HQ2 := hid HQ.out.step
          have HLT2 : Box (∀ u, u ∈ l → u < N) := hid (fun u hu => HLT.out u (List.mem_cons_of_mem _ hu))
          have hun2 := pushes_un (avI wo) g (nb g x) (s, l) (fun y hy => HS.out.ok x y hy)
          have hq' : un g s + (l.length + 1) ≤ gk := hq
          have HPO : Box (WLine wr w.heap.size ps (.slice (some ⟨g5, off5 + 1, none⟩) l.length (cap5 - 1)) l) := hid (WLine.pop hline hb5 hne5)
          have HP1 : Box (∀ hc : cap5 = 1, l = [] ∧ WLine wr w.heap.size ps (.slice (some ⟨g5, off5, none⟩) 0 0) []) := hid (fun hc => by subst hc; exact WLine.pop1 hline hb5 hne5)
          obtain ⟨bl, ol, ai, ci, rfl, hcl, hnl⟩ := HG.out.at (k := x) (by rw [HN.out]; exact hx)
          have HCL : Box (∀ w9, Keeps [] w w9 → w9.cell? ⟨bl, ol + x, none⟩ = some (.slice ai (nb g x).length ci)) := hid (fun w9 k9 => by rw [k9.cell (p := ⟨bl, ol + x, none⟩) (block_lt_of_cell hcl) (by simp)]; exact hcl)
          have HNL := hid hnl
          have hnb := HS.out.short x
          have Hnb : Box (∀ y, y ∈ nb g x → y < N) := hid (fun y hy => by rw [← HN.out]; exact HS.out.ok x y hy)
          have hx' : (x : Int) < (N : Int) := by omega
          have hx6 : x < 600 := by omega
          clear hcell hline HR HQ HLT hq hnl hlen hcl
          have hMid : Box (∃ v2, WLine wr w.heap.size ps v2 l ∧ (cap5 = 1 → v2 = .slice (some ⟨g5, off5, none⟩) 0 0) ∧ (cap5 ≠ 1 → v2 = .slice (some ⟨g5, off5 + 1, none⟩) l.length (cap5 - 1))) := hid (by
            by_cases hc : cap5 = 1
            · obtain ⟨rfl, h9⟩ := HP1.out hc
              exact ⟨_, h9, fun _ => rfl, fun h => absurd hc h⟩
            · exact ⟨_, HPO.out, fun h => absurd h hc, fun _ => rfl⟩)
          clear HP1 HPO
          have hlen1 : ((x :: l).length : Nat) = l.length + 1 := rfl
          rw [hlen1]
          clear hlen1
          generalize hNB : nb g x = NB at HCL HNL hnb Hnb hun2 HQ2
          clear hNB
          obtain ⟨ll, hll⟩ : ∃ ll, l.length = ll := ⟨_, rfl⟩
          have HLL := hid hll
          rw [hll] at hlc hl1 hq' ⊢
          have hMid2 := hMid.out
          rw [hll] at hMid2
          obtain ⟨v2, hw2, hv1, hv2⟩ := hMid2
          have R0 : Box (RQ w wr ps N v2 (pushes (avI wo) (s, l) (NB.take 0))) := hid ⟨hrow.out, hw2, HK.out⟩
          clear hll hMid hw2 hrow
          have hcc : (1 : Int) ≤ (cap5 : Int) := by omega
          by_cases hc1 : cap5 = 1
          all_goals
            first
              | (subst hc1
                 obtain rfl : ll = 0 := by omega
                 obtain rfl := hv1 rfl
                 clear hv1 hv2
                 go_upto_region 13 with fail
                 generalize (Value.slice (some ⟨g5, off5, none⟩) 0 0) = v2 at R0 ⊢)
              | (obtain rfl := hv2 hc1
                 clear hv1 hv2
                 go_upto_region 13 with fail
                 generalize (Value.slice (some ⟨g5, off5 + 1, none⟩) ll (cap5 - 1)) = v2 at R0 ⊢)
            clear hcell' hlc hl1 hmx hcc
            go_wp2_with fail
            go_loopw [8, 12] (fun lv kv wr2 => ∃ (k : Nat) (v : Value), v = lv ∧ kv = .int .i64 (k : Int) ∧ k ≤ NB.length ∧ Box (RQ w wr2 ps N v (pushes (avI wo) (s, l) (NB.take k)))) (fun _ kv _ => NB.length - (intOf kv).toNat)
            case atStart => exact ⟨0, v2, rfl, rfl, by omega, R0⟩
            case round =>
              clear R0 HK
              obtain ⟨k, v, rfl, rfl, hk, HR⟩ := hrel
              have cto := HCL.out wr HR.out.keep
              by_cases hlt : k < NB.length
              · have hlt' : (k : Int) < (NB.length : Int) := by omega
                obtain ⟨bm, om, rfl, hcm⟩ := (HNL.out.kept HR.out.keep (by simp)).at hlt
                obtain ⟨b, hb⟩ : ∃ b, NB.getD k 0 = b := ⟨_, rfl⟩
                have hbN : b < N := by rw [← hb]; exact Hnb.out _ (getD_mem NB k 0 hlt)
                have htk := hid (take_snoc NB k 0 hlt)
                rw [hb] at hcm htk
                clear hb
                have hbN' : (b : Int) < (N : Int) := by omega
                have hb6 : b < 600 := by omega
                have hst : Box (pushes (avI wo) (s, l) (NB.take (k + 1)) = push1 (avI wo) (pushes (avI wo) (s, l) (NB.take k)) b) := hid (by rw [htk.out, pushes_snoc])
                have hun := pushes_un (avI wo) g (NB.take k) (s, l) (fun y hy => by rw [HN.out]; exact Hnb.out y (List.mem_of_mem_take hy))
                obtain ⟨st, hste⟩ : ∃ st, pushes (avI wo) (s, l) (NB.take k) = st := ⟨_, rfl⟩
                rw [hste] at HR hst hun
                have hlen : st.2.length ≤ 600 := by
                  have h9 : un g st.1 + st.2.length ≤ un g s + l.length := hun
                  have := HLL.out
                  omega
                have cs := HR.out.row.cell hbN
                unfold bw at cs
                have fs := HR.out.row.frozen b
                clear hun hste htk
                cases hsb : st.1 b with
                | true =>
                  rw [hsb] at cs
                  have hst2 : Box (push1 (avI wo) st b = st) := hid (by unfold push1; rw [if_pos (.inl hsb)])
                  clear hsb
                  go_wp2
                  go_roundw
                  case rel => exact ⟨k + 1, v, rfl, by go_num, by omega, hid (by rw [hst.out, hst2.out]; exact HR.out)⟩
                  case measure => simp [intOf]; omega
                | false =>
                  rw [hsb] at cs
                  by_cases hwo : (b : Int) = wo
                  · have hb1 : ((b : Int) != wo) = false := by rw [hwo]; simp
                    have hst2 : Box (push1 (avI wo) st b = st) := hid (by unfold push1 avI; rw [if_pos (.inr (decide_eq_true hwo))])
                    clear hsb hwo
                    go_wp2
                    go_roundw
                    case rel => exact ⟨k + 1, v, rfl, by go_num, by omega, hid (by rw [hst.out, hst2.out]; exact HR.out)⟩
                    case measure => simp [intOf]; omega
                  · have hb1 : ((b : Int) != wo) = true := by rw [bne_iff_ne]; exact hwo
                    have hst2 : Box (push1 (avI wo) st b = (ins st.1 b, st.2 ++ [b])) := hid (by
                      unfold push1
                      rw [if_neg]
                      rintro (h | h)
                      · rw [hsb] at h; cases h
                      · exact hwo (of_decide_eq_true h))
                    have HM := hid (HR.out.mark b)
                    clear hsb hwo HR
                    obtain ⟨av, cv, rfl⟩ := HM.out.line.len
                    go_upto_region 19 with fail
                    clear cs fs cto hcm
                    generalize wr.setCell ⟨ps, b, none⟩ (.bool true) = wm at HM ⊢
                    go_wp2_with (at_builtin; go_must (refine wpList_append_line _ rfl _ _ rfl (intsI st.2) (b : Int) (.slice av st.2.length cv) rfl (HM.out.quiet (Keeps.alloc [] _ _)).line.arm ⟨_, 0, none⟩ 1 rfl (cell_one_new _ _ _) (by rw [intsI_len]; omega) ?_; intro g6 off6 cap6 w6 hl6 k6 hat6))
                    have HR6 := hid (HM.out.push (Keeps.alloc [] _ _) hl6 k6 hat6)
                    clear hl6 k6 hat6 HM
                    go_roundw
                    case rel => exact ⟨k + 1, _, rfl, by go_num, by omega, hid (by rw [hst.out, hst2.out]; exact HR6.out)⟩
                    case measure => simp [intOf]; omega
              · obtain rfl : k = NB.length := by omega
                rw [List.take_length] at HR
                have HLT3 : Box (∀ u, u ∈ (pushes (avI wo) (s, l) NB).2 → u < N) := hid (pushes_lt (avI wo) NB (s, l) Hnb.out HLT2.out)
                have hq2 : un g (pushes (avI wo) (s, l) NB).1 + (pushes (avI wo) (s, l) NB).2.length ≤ gk - 1 := by
                  have h9 : un g (pushes (avI wo) (s, l) NB).1 + (pushes (avI wo) (s, l) NB).2.length ≤ un g s + l.length := hun2
                  have := HLL.out
                  omega
                go_wp2_with fail
                go_roundg (gk - 1)
                case measure => omega
                case rel => exact ⟨v, _, rfl, hq2, by omega, HR, HQ2, HLT3⟩
end Go.Proofs.YtngdnjlohmkbiaaDoor

namespace Go.Proofs.YtngdnjlohmkbiaaDoor
open Go.RowKit

theorem sccs_part {g : List (List Nat)} {p : List Nat} (hp : p ∈ sccs g) : ∃ a, a < g.length ∧ p = part g a := by
  obtain ⟨a, ha, rfl⟩ := List.mem_map.1 hp
  exact ⟨a, List.mem_range.1 (List.mem_filter.1 ha).1, rfl⟩
theorem sccs_same {g : List (List Nat)} (hg : Ok g) {p q : List Nat} (hp : p ∈ sccs g) (hq : q ∈ sccs g) {x : Nat} (h1 : x ∈ p) (h2 : x ∈ q) : p = q := by
  obtain ⟨a, ha, rfl⟩ := sccs_part hp
  obtain ⟨b, hb, rfl⟩ := sccs_part hq
  exact part_eq hg ha hb (((mem_part hg x ha).1 h1).2.trans ((mem_part hg x hb).1 h2).2.symm)
theorem nb_mem {l : List (List Nat)} {k : Nat} (hk : k < l.length) : nb l k ∈ l := getD_mem l k [] hk
theorem parts_mem {g : List (List Nat)} {p : List Nat} (hp : p ∈ partsM g) : p ∈ sccs g := by
  obtain ⟨k, hk, rfl⟩ := List.mem_map.1 hp
  have h := ahd_lt (smallG g (sccs g)) _ [] (fun _ h => absurd h List.not_mem_nil) k hk
  rw [smallG_len] at h
  exact nb_mem h
theorem loopS_part {g : List (List Nat)} (hg : Ok g) {p : List Nat} (hp : p ∈ sccs g) {x : Nat} (hx : x ∈ p) : loopS g (sccs g) x = loopB g p := by
  unfold loopS
  show (none_ x || decide (x ∈ ((sccs g).filter (loopB g)).flatten)) = _
  cases h : loopB g p
  · rw [decide_eq_false]
    · rfl
    · intro hm
      obtain ⟨q, hq, hxq⟩ := List.mem_flatten.1 hm
      have := sccs_same hg hp (List.mem_filter.1 hq).1 hx hxq
      subst this
      have := (List.mem_filter.1 hq).2
      rw [h] at this
      cases this
  · rw [decide_eq_true]
    · rfl
    · exact List.mem_flatten.2 ⟨p, List.mem_filter.2 ⟨hp, h⟩, hx⟩
theorem loopB_node {g : List (List Nat)} {p : List Nat} {x : Nat} (hx : x ∈ p) : loopB g p = (decide (1 < p.length) || decide (x ∈ nb g x)) := by
  unfold loopB
  by_cases h : 1 < p.length
  · simp [h]
  · have : p = [x] := by
      match p, h with
      | [], _ => cases hx
      | [y], _ => simp at hx; rw [hx]
      | _ :: _ :: _, h => simp at h
    rw [this]
    rfl

theorem part_nodup (g : List (List Nat)) (a : Nat) : (part g a).Nodup := List.nodup_range.filter _
end Go.Proofs.YtngdnjlohmkbiaaDoor

namespace Go.Proofs.YtngdnjlohmkbiaaDoor
open Go.RowKit

theorem vis_closed {g : List (List Nat)} (hg : Ok g) {s : Nat → Bool} (hs : ∀ u, s u = true → ∀ v, v ∈ nb g u → s v = true) {z : Nat} (hz : z < g.length) :
    (∀ u, (vis g (g.length + 1) z (s, [])).1 u = true ↔ s u = true ∨ Pth g noS z u) ∧ ∀ u, (vis g (g.length + 1) z (s, [])).1 u = true → ∀ v, v ∈ nb g u → (vis g (g.length + 1) z (s, [])).1 v = true := by
  obtain ⟨N, e, h⟩ := vis_spec g hg (g.length + 1) z s [] hz (Nat.lt_succ_of_le (un_le g _))
  rw [e]
  have hcl : ∀ u, orL s N u = true → ∀ v, v ∈ nb g u → orL s N v = true := by
    intro u hu v hv
    rcases orL_true.1 hu with h1 | h1
    · exact orL_true.2 (.inl (hs u h1 v hv))
    · rcases h.good.closed u h1 v hv with h2 | h2
      · exact orL_true.2 (.inl h2)
      · exact orL_true.2 (.inr h2)
  refine ⟨fun u => ⟨fun hu => ?_, ?_⟩, hcl⟩
  · rcases orL_true.1 hu with h1 | h1
    · exact .inl h1
    · obtain ⟨n, hn, p⟩ := (h.iff u).1 h1
      rw [List.mem_singleton.1 hn] at p
      exact .inr (p.mono fun _ _ => rfl)
  · rintro (h1 | p)
    · exact orL_true.2 (.inl h1)
    · refine p.carry (C := fun u => orL s N u = true) (fun u hu _ v hv _ => hcl u hu v hv) ?_
      rcases h.all z (by simp) with h1 | h1
      · exact orL_true.2 (.inl h1)
      · exact orL_true.2 (.inr h1)
theorem rchS_all {g : List (List Nat)} (hg : Ok g) : ∀ (zs : List Int) (s : Nat → Bool), (∀ u, s u = true → ∀ v, v ∈ nb g u → s v = true) → ∀ u, rchS g zs s u = true ↔ s u = true ∨ ∃ z, z ∈ nodI g.length zs ∧ Pth g noS z u
  | [], s, _, u => by simp [rchS, nodI]
  | z :: zs, s, hs, u => by
    show rchS g zs (if 0 ≤ z ∧ z < (g.length : Int) then (vis g (g.length + 1) z.toNat (s, [])).1 else s) u = true ↔ _
    by_cases h : 0 ≤ z ∧ z < (g.length : Int)
    · rw [if_pos h]
      have hv := vis_closed hg hs (z := z.toNat) (by omega)
      rw [rchS_all hg zs _ hv.2 u, hv.1 u, or_assoc]
      refine or_congr Iff.rfl ?_
      have e : ∀ x, x ∈ nodI g.length (z :: zs) ↔ x = z.toNat ∨ x ∈ nodI g.length zs := by
        intro x
        rw [mem_nodI, mem_nodI, List.mem_cons]
        constructor
        · rintro ⟨h1 | h1, h2⟩
          · exact .inl (by omega)
          · exact .inr ⟨h1, h2⟩
        · rintro (h1 | ⟨h1, h2⟩)
          · exact ⟨.inl (by omega), by omega⟩
          · exact ⟨.inr h1, h2⟩
      constructor
      · rintro (p | ⟨x, hx, p⟩)
        · exact ⟨z.toNat, (e _).2 (.inl rfl), p⟩
        · exact ⟨x, (e _).2 (.inr hx), p⟩
      · rintro ⟨x, hx, p⟩
        rcases (e x).1 hx with rfl | h1
        · exact .inl p
        · exact .inr ⟨x, h1, p⟩
    · rw [if_neg h, rchS_all hg zs s hs u]
      refine or_congr Iff.rfl ?_
      have e : ∀ x, x ∈ nodI g.length (z :: zs) ↔ x ∈ nodI g.length zs := by
        intro x
        rw [mem_nodI, mem_nodI, List.mem_cons]
        constructor
        · rintro ⟨h1 | h1, h2⟩
          · exact absurd (by omega) h
          · exact ⟨h1, h2⟩
        · rintro ⟨h1, h2⟩
          exact ⟨.inr h1, h2⟩
      exact ⟨fun ⟨x, hx, p⟩ => ⟨x, (e x).2 hx, p⟩, fun ⟨x, hx, p⟩ => ⟨x, (e x).1 hx, p⟩⟩
theorem rch_all {g : List (List Nat)} (hg : Ok g) (zs : List Int) (u : Nat) : rch g zs u = true ↔ ∃ z, z ∈ nodI g.length zs ∧ Pth g noS z u := by
  unfold rch
  rw [rchS_all hg zs none_ (fun u hu => by cases hu) u]
  constructor
  · rintro (h | h)
    · cases h
    · exact h
  · exact .inr
/-- Who reaches itself. -/
theorem loop_iff {g : List (List Nat)} (hg : Ok g) {x : Nat} (hx : x < g.length) : loopS g (sccs g) x = true ↔ ∃ z, z ∈ nb g x ∧ Pth g noS z x := by
  have hp : part g x ∈ sccs g := (mem_sccs hg _).2 ⟨x, hx, rfl⟩
  have hm := part_self hg hx
  rw [loopS_part hg hp hm, loopB_node hm, Bool.or_eq_true, decide_eq_true_iff, decide_eq_true_iff]
  constructor
  · rintro (h | h)
    · -- another one of its part
      obtain ⟨y, hy, hne⟩ : ∃ y, y ∈ part g x ∧ y ≠ x := by
        apply Classical.byContradiction
        intro hn
        have hall : ∀ y, y ∈ part g x → y = x := fun y hy => Classical.byContradiction fun e => hn ⟨y, hy, e⟩
        have := List.Nodup.length_le_of_subset (part_nodup g x) (l₂ := [x]) (fun y hy => by rw [hall y hy]; simp)
        simp at this
        omega
      obtain ⟨_, hmut⟩ := (mem_part hg y hx).1 hy
      obtain ⟨k, hk⟩ := hmut.1
      cases k with
      | zero => exact absurd hk.2.symm hne
      | succ k =>
        obtain ⟨_, c, hc, hw⟩ := hk
        exact ⟨c, hc, Pth.trans ⟨k, hw⟩ hmut.2⟩
    · exact ⟨x, h, Pth.refl rfl⟩
  · rintro ⟨z, hz, p⟩
    by_cases e : z = x
    · subst e; exact .inr hz
    · have hzN := hg x z hz
      have hmz : z ∈ part g x := (mem_part hg z hx).2 ⟨hzN, Pth.cons rfl hz (Pth.refl rfl), p⟩
      refine .inl ?_
      have h2 := List.Nodup.length_le_of_subset (l₁ := [x, z]) (l₂ := part g x) (by simp; exact fun e' => e e'.symm) (fun y hy => by
        simp at hy
        rcases hy with rfl | rfl
        · exact hm
        · exact hmz)
      simp at h2
      omega
end Go.Proofs.YtngdnjlohmkbiaaDoor

namespace Go.Proofs.YtngdnjlohmkbiaaDoor
open Go.RowKit

set_option maxRecDepth 20000 in
set_option maxHeartbeats 4000000 in
theorem rset_any (ps N : Nat) (s : Nat → Bool) (w : World) (hs : ∀ i, i < N → w.cell? ⟨ps, i, none⟩ = some (.bool (s i))) (hN : N ≤ 600) :
    Calls Tryd.prog 14 #[.slice (some ⟨ps, 0, none⟩) N N] w fun e w' => ∃ v, e = .returned v ∧ w'.ownsRow w.heap.size 3 1 v ((List.range N).filter s).length (ints ((List.range N).filter s)) ∧ Keeps [] w w' := by
  have HS := hid hs
  have hps : N = 0 ∨ ps < w.heap.size := by
    by_cases e : N = 0
    · exact .inl e
    · exact .inr (block_lt_of_cell (hs 0 (by omega)))
  have HP := hid hps
  clear hs hps
  go_enter Tryd.func14, Tryd.ntmps14
  go_wp2_with fail
  go_loopw [3, 4] (fun ov iv wr => ∃ (i : Nat) (v : Value), v = ov ∧ iv = .int .i64 (i : Int) ∧ i ≤ N ∧ Box (wr.ownsRow w.heap.size 3 1 v ((List.range i).filter s).length (ints ((List.range i).filter s))) ∧ Box (Keeps [] w wr)) (fun _ iv _ => N - (intOf iv).toNat)
  case atStart => exact ⟨0, _, rfl, rfl, by omega, hid (nil_row _ _), hid (Keeps.refl _ _)⟩
  case round =>
    obtain ⟨i, v, rfl, rfl, hi, HO, HK⟩ := hrel
    by_cases hlt : i < N
    · have hlt' : (i : Int) < (N : Int) := by omega
      have hc := HS.out i hlt
      have cs : wr.cell? ⟨ps, i, none⟩ = some (.bool (s i)) := by
        rw [HK.out.cell (p := ⟨ps, i, none⟩) (block_lt_of_cell hc) (by simp)]
        exact hc
      have hrs : Box (List.range (i + 1) = List.range i ++ [i]) := hid List.range_succ
      have hll : ((List.range i).filter s).length ≤ i := by
        have := List.length_filter_le s (List.range i)
        rw [List.length_range] at this
        exact this
      cases hsi : s i with
      | false =>
        rw [hsi] at cs
        have HO2 : Box (wr.ownsRow w.heap.size 3 1 v ((List.range (i + 1)).filter s).length (ints ((List.range (i + 1)).filter s))) := hid (by
          rw [hrs.out, List.filter_append]
          have e : [i].filter s = [] := by simp [hsi]
          rw [e, List.append_nil]
          exact HO.out)
        clear hsi hc HO
        go_wp2
        go_roundw
        case rel => exact ⟨i + 1, v, rfl, by go_num, by omega, HO2, HK⟩
        case measure => simp [intOf]; omega
      | true =>
        rw [hsi] at cs
        have hws := HK.out.size
        have hfl : Box ((List.range (i + 1)).filter s = (List.range i).filter s ++ [i]) := hid (by rw [hrs.out, List.filter_append]; simp [hsi])
        clear hsi hc
        generalize (List.range i).filter s = l at HO hll hfl
        obtain ⟨ll, hle⟩ : ∃ ll, l.length = ll := ⟨_, rfl⟩
        rw [hle] at HO hll
        have HLL := hid hle
        clear hle
        go_wp2_with (at_builtin; go_must (refine wpList_append_own _ rfl _ _ 23 rfl w.heap.size 3 Tryd.t3 (.int .i64 0) 1 8 under_ints info_int zero_int size_int bytes_int rfl (by decide) v _ _ rfl (HO.out.alloc _) _ 1 1 [.int .i64 (i : Int)] rfl rfl (cell_one_new _ _ _) (fun x hx => by simp at hx; subst hx; rfl) (by unfold maxLen; omega) (by omega) (by simp; omega) ?_; intro v8 w8 hown8 hgrow8 hnil8))
        have HO8 : Box (w8.ownsRow w.heap.size 3 1 v8 ((List.range (i + 1)).filter s).length (ints ((List.range (i + 1)).filter s))) := hid (by
          rw [hfl.out, List.length_append, HLL.out, show ints (l ++ [i]) = ints l ++ [.int .i64 (i : Int)] from by simp [ints]]
          exact hown8)
        have k8 := hid ((HK.out.quiet (Keeps.alloc [] _ _)).fresh (Keeps.grown v.ownBlock.toList hgrow8 (fun y hy => by rw [hy]; simp)) (own_new HO.out))
        clear hown8 hgrow8 hnil8
        go_roundw
        case rel => exact ⟨i + 1, v8, rfl, by go_num, by omega, HO8, k8⟩
        case measure => simp [intOf]; omega
    · obtain rfl : i = N := by omega
      go_wp2
      go_ret
      exact ⟨_, rfl, HO.out, HK.out⟩

theorem nodI_nat {N : Nat} {l : List Nat} (h : ∀ x, x ∈ l → x < N) (u : Nat) : u ∈ nodI N (intsI l) ↔ u ∈ l := by
  rw [mem_nodI]
  unfold intsI
  constructor
  · rintro ⟨h1, _⟩
    obtain ⟨x, hx, e⟩ := List.mem_map.1 h1
    rw [show u = x by omega]
    exact hx
  · intro h1
    exact ⟨List.mem_map.2 ⟨u, h1, rfl⟩, h u h1⟩

theorem avI_no : avI (-1) = noS := by
  funext m
  unfold avI noS
  exact decide_eq_false (by omega)

set_option maxRecDepth 20000 in
set_option maxHeartbeats 4000000 in
theorem rloops_any (g : List (List Nat)) (hs : Sm g) (a : Option Addr) (cap B : Nat) (w : World) (hG : GAt w B a g) :
    Calls Tryd.prog 17 #[.slice a g.length cap] w fun e w' => ∃ v, e = .returned v ∧ w'.ownsRow w.heap.size 3 1 v ((List.range g.length).filter (loopS g (sccs g))).length (ints ((List.range g.length).filter (loopS g (sccs g)))) ∧ Keeps [] w w' := by
  have HG := hid hG
  have HS := hid hs
  have hN := hs.len
  have HLI := hid (fun x (hx : x < g.length) => loop_iff hs.ok hx)
  have HRE := hid (fun wz (k : Keeps [] w wz) af c zs (hz : InAt wz B af zs) (hl : zs.length ≤ 1000) => rreach_any g hs a cap B wz (hG.quiet k) af c B zs hz hl (-1))
  generalize hss : loopS g (sccs g) = s at HLI ⊢
  obtain ⟨N, hNe⟩ : ∃ N, g.length = N := ⟨_, rfl⟩
  have HN := hid hNe
  rw [hNe] at hN HLI HRE ⊢
  clear hG hs hss hNe
  go_enter Tryd.func17, Tryd.ntmps17
  go_wp2_with fail
  go_loopw [3, 4] (fun ov iv wr => ∃ (i : Nat) (v : Value), v = ov ∧ iv = .int .i64 (i : Int) ∧ i ≤ N ∧ Box (wr.ownsRow w.heap.size 3 1 v ((List.range i).filter s).length (ints ((List.range i).filter s))) ∧ Box (Keeps [] w wr)) (fun _ iv _ => N - (intOf iv).toNat)
  case atStart => exact ⟨0, _, rfl, rfl, by omega, hid (nil_row _ _), hid (Keeps.refl _ _)⟩
  case round =>
    obtain ⟨i, v, rfl, rfl, hi, HO, HK⟩ := hrel
    by_cases hlt : i < N
    · have hlt' : (i : Int) < (N : Int) := by omega
      obtain ⟨bl, ol, ai, ci, rfl, hcl, hnl⟩ := (HG.out.quiet HK.out).at (k := i) (by rw [HN.out]; exact hlt)
      have hsh := HS.out.short i
      have HC := hid (HRE.out wr HK.out ai ci (intsI (nb g i)) hnl (by rw [intsI_len]; exact hsh))
      rw [intsI_len] at HC
      have hws := HK.out.size
      have hrs : Box (List.range (i + 1) = List.range i ++ [i]) := hid List.range_succ
      have hll : ((List.range i).filter s).length ≤ i := by
        have := List.length_filter_le s (List.range i)
        rw [List.length_range] at this
        exact this
      have HNB := hid (fun x (hx : x ∈ nb g i) => HS.out.ok i x hx)
      rw [HN.out] at HNB
      have hsi := HLI.out i hlt
      have HSI := hid hsi
      clear hnl HRE hsi
      go_wp2_with fail
      refine HC.out.mono ?_
      rintro e w3 ⟨ps, rfl, t, r3, k3, ht⟩
      have cs := r3.cell hlt
      unfold bw at cs
      have hti : t i = s i := by
        rw [Bool.eq_iff_iff, ht i, HSI.out, avI_no]
        constructor
        · rintro ⟨z, hz, p⟩
          exact ⟨z, (nodI_nat HNB.out z).1 hz, p⟩
        · rintro ⟨z, hz, p⟩
          exact ⟨z, (nodI_nat HNB.out z).2 hz, p⟩
      rw [hti] at cs
      have HO3 := hid (ownsRow_keeps HO.out k3 (by simp))
      have K3 := hid (HK.out.quiet k3)
      have hws3 := K3.out.size
      clear r3 k3 ht hti HC HO HK HSI hcl
      cases hsi : s i with
      | false =>
        rw [hsi] at cs
        have HO2 : Box (w3.ownsRow w.heap.size 3 1 v ((List.range (i + 1)).filter s).length (ints ((List.range (i + 1)).filter s))) := hid (by
          rw [hrs.out, List.filter_append]
          have e : [i].filter s = [] := by simp [hsi]
          rw [e, List.append_nil]
          exact HO3.out)
        clear hsi HO3
        go_wp2
        go_roundw
        case rel => exact ⟨i + 1, v, rfl, by go_num, by omega, HO2, K3⟩
        case measure => simp [intOf]; omega
      | true =>
        rw [hsi] at cs
        have hfl : Box ((List.range (i + 1)).filter s = (List.range i).filter s ++ [i]) := hid (by rw [hrs.out, List.filter_append]; simp [hsi])
        clear hsi
        generalize (List.range i).filter s = l at HO3 hll hfl
        obtain ⟨ll, hle⟩ : ∃ ll, l.length = ll := ⟨_, rfl⟩
        rw [hle] at HO3 hll
        have HLL := hid hle
        clear hle
        go_wp2_with (at_builtin; go_must (refine wpList_append_own _ rfl _ _ 23 rfl w.heap.size 3 Tryd.t3 (.int .i64 0) 1 8 under_ints info_int zero_int size_int bytes_int rfl (by decide) v _ _ rfl (HO3.out.alloc _) _ 1 1 [.int .i64 (i : Int)] rfl rfl (cell_one_new _ _ _) (fun x hx => by simp at hx; subst hx; rfl) (by unfold maxLen; omega) (by omega) (by simp; omega) ?_; intro v8 w8 hown8 hgrow8 hnil8))
        have HO8 : Box (w8.ownsRow w.heap.size 3 1 v8 ((List.range (i + 1)).filter s).length (ints ((List.range (i + 1)).filter s))) := hid (by
          rw [hfl.out, List.length_append, HLL.out, show ints (l ++ [i]) = ints l ++ [.int .i64 (i : Int)] from by simp [ints]]
          exact hown8)
        have k8 := hid ((K3.out.quiet (Keeps.alloc [] _ _)).fresh (Keeps.grown v.ownBlock.toList hgrow8 (fun y hy => by rw [hy]; simp)) (own_new HO3.out))
        clear hown8 hgrow8 hnil8
        go_roundw
        case rel => exact ⟨i + 1, v8, rfl, by go_num, by omega, HO8, k8⟩
        case measure => simp [intOf]; omega
    · obtain rfl : i = N := by omega
      go_wp2
      go_ret
      exact ⟨_, rfl, HO.out, HK.out⟩
end Go.Proofs.YtngdnjlohmkbiaaDoor

namespace Go.Proofs.YtngdnjlohmkbiaaDoor
open Go.RowKit
attribute [local go_sem ↓] Go.wp_at_zero Go.wp_at_succ

theorem ints_in {w : World} {a : Option Addr} {zs : List Int} (h : IntsAt w a zs) : InAt w w.heap.size a zs := by
  rcases h with h | ⟨b, off, h1, h2⟩
  · exact .inl h
  · by_cases e : zs.length = 0
    · exact .inl (List.eq_nil_of_length_eq_zero e)
    · exact .inr ⟨b, off, h1, block_lt_of_cell (h2 0 (by omega)), h2⟩
theorem ints_take {w : World} {a : Option Addr} {zs : List Int} (h : IntsAt w a zs) (n : Nat) : IntsAt w a (zs.take n) := by
  rcases h with h | ⟨b, off, h1, h2⟩
  · exact .inl (by rw [h]; simp)
  · refine .inr ⟨b, off, h1, fun i hi => ?_⟩
    rw [List.length_take] at hi
    rw [h2 i (by omega), List.getD_eq_getElem?_getD, List.getD_eq_getElem?_getD, List.getElem?_take, if_pos (by omega)]
theorem filter_eq {N : Nat} {s t : Nat → Bool} (h : ∀ i, i < N → s i = t i) : (List.range N).filter s = (List.range N).filter t :=
  List.filter_congr fun i hi => h i (List.mem_range.1 hi)

set_option maxRecDepth 20000 in
set_option maxHeartbeats 8000000 in
theorem reach_law (n : Int) (pa : Option Addr) (cap : Nat) (zs : List (Int × Int)) (fa : Option Addr) (fc : Nat) (fs : List Int) (w : World) (hT : TabAt w) (hz : PairsAt w pa zs) (hl : zs.length ≤ maxLen) (hf : IntsAt w fa fs) (hfl : fs.length ≤ maxLen) (hfc : fs.length ≤ fc) :
    Calls Tryd.prog 3 #[.int .i64 n, .slice pa zs.length cap, .slice fa fs.length fc] w fun e w' => e = .returned (.bool true) ∧ Keeps [] w w' := by
  have HBG := hid (begun5_any w hT)
  obtain ⟨N, g, L, hN2, hN1, hgl, hsm, hgd, hnn, hmd⟩ := made_pack n zs hl
  have HMD := hid (fun wz (k : Keeps [] w wz) => hmd pa cap wz (hz.kept k (fun _ _ _ => by simp)))
  have HS := hid hsm
  have HGD := hid hgd
  have HN := hid hgl
  have HT := hid (fun wz (k : Keeps [] w wz) => tab_of hT k)
  have HF := hid (fun wz (k : Keeps [] w wz) => (ints_in (ints_take hf 10)).kept k (by simp))
  have hmin : (fs.take 10).length = min fs.length 10 := by rw [List.length_take, Nat.min_comm]
  have HMIN := hid hmin
  clear hT hz hl hmd hsm hgd hgl hnn hf hmin
  generalize zs.length = zl at HMD
  obtain ⟨fl, hfle⟩ : ∃ fl, fs.length = fl := ⟨_, rfl⟩
  rw [hfle] at hfl hfc HMIN ⊢
  clear hfle
  unfold maxLen at hfl
  go_enter Tryd.func3, Tryd.ntmps3
  go_wp2_with fail
  refine HBG.out.mono ?_
  rintro e w1 ⟨rfl, k1⟩
  clear HBG
  go_wp2_with fail
  refine (HMD.out w1 k1).mono ?_
  rintro e w2 ⟨p, vs, rfl, ho2, k2⟩
  have L3 := hid (LG.make ho2 (k1.quiet k2))
  rw [← HGD.out] at L3
  clear ho2 k2 k1 HMD HGD
  go_upto_region 5 with fail
  generalize w2.alloc (Obj.cells #[.int .i64 (N : Int), .slice (some ⟨p, 0, none⟩) N N] 27) = w3 at L3 ⊢
  obtain ⟨B, hB⟩ : ∃ B, w2.heap.size + 1 = B := ⟨_, rfl⟩
  rw [hB] at L3
  generalize w2.heap.size = bx at L3 ⊢
  clear hB
  by_cases h10 : 10 < fl
  all_goals
    first
      | (have hm : min fl 10 = 10 := by omega
         rw [hm] at HMIN
         have h10' : (10 : Int) < (fl : Int) := by omega
         have hc10 : (10 : Int) ≤ (fc : Int) := by omega
         go_upto_region 7 with fail
         obtain ⟨q, hq⟩ : ∃ q, (fs.take 10).length = q := ⟨_, rfl⟩
         have hq2 := HMIN.out
         rw [hq] at hq2
         subst hq2
         clear hm h10' hc10)
      | (have hm : min fl 10 = fl := by omega
         rw [hm] at HMIN
         have h10' : ¬ (10 : Int) < (fl : Int) := by omega
         go_upto_region 7 with fail
         obtain ⟨q, hq⟩ : ∃ q, (fs.take 10).length = q := ⟨_, rfl⟩
         have hq2 := HMIN.out
         rw [hq] at hq2
         subst hq2
         clear hm h10')
    have hq9 : (fs.take 10).length ≤ 10 := by rw [List.length_take]; omega
    have HR1 := hid (fun wz (k : Keeps [] w3 wz) => reach_any g HS.out (some ⟨p, 0, none⟩) g.length B wz (L3.out.quiet k).gr (L3.out.quiet k).le fa fc w.heap.size (fs.take 10) (HF.out wz (L3.out.keep.quiet k)) (by omega) (L3.out.keep.quiet k).size)
    have HR2 := hid (fun wz (k : Keeps [] w3 wz) => rreach_any g HS.out (some ⟨p, 0, none⟩) g.length B wz (L3.out.quiet k).gr fa fc w.heap.size (fs.take 10) (HF.out wz (L3.out.keep.quiet k)) (by omega) (-1))
    have HL1 := hid (fun wz (k : Keeps [] w3 wz) => loops_any g HS.out (some ⟨p, 0, none⟩) g.length B wz (L3.out.quiet k).gr (L3.out.quiet k).le)
    have HL2 := hid (fun wz (k : Keeps [] w3 wz) => rloops_any g HS.out (some ⟨p, 0, none⟩) g.length B wz (L3.out.quiet k).gr)
    rw [hq] at HR1 HR2
    have hout1 : ∀ i, g.length ≤ i → rch g (fs.take 10) i = false := fun i hi => rch_out HS.out.ok _ i hi
    have hout2 : ∀ i, g.length ≤ i → loopS g (sccs g) i = false := fun i hi => by
      cases e : loopS g (sccs g) i with
      | false => rfl
      | true =>
        unfold loopS at e
        rcases orL_true.1 e with h1 | h1
        · cases h1
        · obtain ⟨q', hq1, hq2⟩ := List.mem_flatten.1 h1
          obtain ⟨a', ha', rfl⟩ := sccs_part (List.mem_filter.1 hq1).1
          have := ((mem_part HS.out.ok i ha').1 hq2).1
          omega
    have HE1 : Box (elems (rch g (fs.take 10)) = (List.range N).filter (rch g (fs.take 10))) := hid (by rw [← HN.out]; exact elems_cut _ _ (by have := HS.out.len; omega) hout1)
    have HE2 : Box (elems (loopS g (sccs g)) = (List.range N).filter (loopS g (sccs g))) := hid (by rw [← HN.out]; exact elems_cut _ _ (by have := HS.out.len; omega) hout2)
    have f1 : Box (Fit (rch g (fs.take 10))) := hid (rchS_fit HS.out _ none_ fit_none)
    have f2 : Box (Fit (loopS g (sccs g))) := hid (fun i hi => hout2 i (by have := HS.out.len; omega))
    have HA1 := hid (fun b wz (k : Keeps [] w3 wz) (hs : SetAt wz b (rch g (fs.take 10))) => all_any b _ wz hs f1.out (HT.out wz (L3.out.keep.quiet k)))
    have HA2 := hid (fun b wz (k : Keeps [] w3 wz) (hs : SetAt wz b (loopS g (sccs g))) => all_any b _ wz hs f2.out (HT.out wz (L3.out.keep.quiet k)))
    have HRC : Box (∀ s : Nat → Bool, (∀ u, s u = true ↔ ∃ z, z ∈ nodI g.length (fs.take 10) ∧ Pth g (avI (-1)) z u) → (List.range N).filter s = (List.range N).filter (rch g (fs.take 10))) := hid (fun s hs => filter_eq (fun i _ => by rw [Bool.eq_iff_iff, hs i, avI_no, rch_all HS.out.ok]))
    rw [HE1.out] at HA1
    rw [HE2.out] at HA2
    rw [HN.out] at HR1 HR2 HL1 HL2
    have HRS := hid (fun ps s wz (hs : ∀ i, i < N → wz.cell? ⟨ps, i, none⟩ = some (.bool (s i))) => rset_any ps N s wz hs (by omega))
    have hl1 : ((List.range N).filter (rch g (fs.take 10))).length ≤ 1000000 := by
      have := List.length_filter_le (rch g (fs.take 10)) (List.range N)
      rw [List.length_range] at this
      omega
    have hl2 : ((List.range N).filter (loopS g (sccs g))).length ≤ 1000000 := by
      have := List.length_filter_le (loopS g (sccs g)) (List.range N)
      rw [List.length_range] at this
      omega
    clear HE1 HE2 hout1 hout2 HF HT f1 f2
    generalize hr1 : (List.range N).filter (rch g (fs.take 10)) = r1 at HA1 HRC hl1
    generalize hr2 : (List.range N).filter (loopS g (sccs g)) = r2 at HA2 HL2 hl2
    clear hr1 hr2
    have HQ1 := hid (fun a1 a2 c1 c2 wz (h1 : NAt wz wz.heap.size a1 r1) (h2 : NAt wz wz.heap.size a2 r1) => geq_any a1 a2 _ _ c1 c2 r1 r1 wz h1 h2 hl1)
    have HQ2 := hid (fun a1 a2 c1 c2 wz (h1 : NAt wz wz.heap.size a1 r2) (h2 : NAt wz wz.heap.size a2 r2) => geq_any a1 a2 _ _ c1 c2 r2 r2 wz h1 h2 hl2)
    rw [decide_eq_true rfl] at HQ1 HQ2
    clear hl1 hl2
    have t6 := L3.out.two
    rw [HN.out] at t6
    have c0 := t6.c0
    have c1 := t6.c1
    have T6 := hid t6
    clear t6
    have kd : Keeps [] w3 w3.drew := Keeps.drew _ _
    go_region_held3 (fun w' => w'.cell? ⟨bx, 0, none⟩ = some (.int .i64 (N : Int)) ∧ w'.cell? ⟨bx, 1, none⟩ = some (.slice (some ⟨p, 0, none⟩) N N)) (go_keep) (first
      | (go_at_call 12; refine (HR1.out _ kd).mono ?_; rintro e w4 ⟨b4, rfl, hs4, k4, _⟩; have kk4 := kd.quiet k4; have S4 := hid hs4; have g4 := (T6.out.kept kk4 (by simp)).c0; have h4 := (T6.out.kept kk4 (by simp)).c1; clear hs4 k4)
      | (go_at_call 13; revert kk8; intro kk8; refine (HA2.out _ _ kk8 S8.out).mono ?_; rintro e w9 ⟨v9, rfl, h9, k9⟩; obtain ⟨a9, c9, rfl, n9, _, _⟩ := ownsRow_nat h9; have N9 := hid n9; have kk9 := kk8.quiet k9; have g9 := (T6.out.kept kk9 (by simp)).c0; have i9 := (T6.out.kept kk9 (by simp)).c1; clear h9 n9 k9)
      | (go_at_call 13; refine (HA1.out _ _ kk4 S4.out).mono ?_; rintro e w5 ⟨v5, rfl, h5, k5⟩; obtain ⟨a5, c5, rfl, n5, _, _⟩ := ownsRow_nat h5; have N5 := hid n5; have kk5 := kk4.quiet k5; have g5 := (T6.out.kept kk5 (by simp)).c0; have i5 := (T6.out.kept kk5 (by simp)).c1; clear h5 n5 k5)
      | (go_at_call 15; refine (HR2.out _ kk5).mono ?_; rintro e w6 ⟨ps, rfl, s6, r6, k6, hs6⟩; have e6 := hid (HRC.out s6 (by rw [HN.out]; exact hs6)); have C6 := hid (fun i (hi : i < N) => r6.cell hi); have kk6 := kk5.quiet k6; have k56 := hid k6; have g6 := (T6.out.kept kk6 (by simp)).c0; have i6 := (T6.out.kept kk6 (by simp)).c1; clear r6 k6 hs6)
      | (go_at_call 14; refine (HRS.out _ s6 _ C6.out).mono ?_; rintro e w7 ⟨v7, rfl, h7, k7⟩; rw [e6.out] at h7; obtain ⟨a7, c7, rfl, n7, _, _⟩ := ownsRow_nat h7; have N7 := hid n7; have M7 := hid (InAt.up (N5.out.kept (k56.out.quiet k7) (by simp)) (k56.out.quiet k7).size); have kk7 := kk6.quiet k7; have g7 := (T6.out.kept kk7 (by simp)).c0; have i7 := (T6.out.kept kk7 (by simp)).c1; clear h7 n7 k7)
      | (go_at_call 11; revert kk10; intro kk10; refine (HQ2.out _ _ _ _ _ M10.out N10.out).mono ?_; rintro e wb ⟨rfl, mb, rfl⟩; have kkb := kk10.quiet (Keeps.drewN [] _ mb); have gb := (T6.out.kept kkb (by simp)).c0; have ib := (T6.out.kept kkb (by simp)).c1)
      | (go_at_call 11; refine (HQ1.out _ _ _ _ _ M7.out N7.out).mono ?_; rintro e wq ⟨rfl, mq, rfl⟩; have kkq := kk7.quiet (Keeps.drewN [] _ mq); have gq := (T6.out.kept kkq (by simp)).c0; have iq := (T6.out.kept kkq (by simp)).c1)
      | (go_at_call 16; refine (HL1.out _ kkq).mono ?_; rintro e w8 ⟨b8, rfl, hs8, k8, _⟩; have kk8 := kkq.quiet k8; have S8 := hid hs8; have g8 := (T6.out.kept kk8 (by simp)).c0; have i8 := (T6.out.kept kk8 (by simp)).c1; clear hs8 k8)
      | (go_at_call 17; refine (HL2.out _ kk9).mono ?_; rintro e w10 ⟨v10, rfl, h10, k10⟩; obtain ⟨a10, c10, rfl, n10, _, _⟩ := ownsRow_nat h10; have N10 := hid n10; have M10 := hid (InAt.up (N9.out.kept k10 (by simp)) k10.size); have kk10 := kk9.quiet k10; have g10 := (T6.out.kept kk10 (by simp)).c0; have i10 := (T6.out.kept kk10 (by simp)).c1; clear h10 n10 k10)
      | fail)
    all_goals
      go_wp2
      go_ret
      exact ⟨rfl, L3.out.keep.quiet kkb⟩
end Go.Proofs.YtngdnjlohmkbiaaDoor
