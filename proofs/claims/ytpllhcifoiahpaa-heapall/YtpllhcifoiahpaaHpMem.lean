/-
  A run's heap as it lies in memory: objects, their fields.
-/
import Derived.Test.YtpllhcifoiahpaaIDat
import Derived.Deep.AppendLies
import Derived.Laws.OwnMore
import Derived.Deep.RegionLaw
import Derived.OneCell
import Derived.Lib.Builder
namespace Go.Proofs.Ytpllhcifoiahpaa
open Go.RowKit

theorem hcell {w : World} {b : Nat} {cs : Array Value} {T : TypeId} (h : w.heap[b]? = some (.cells cs T (0, 0))) (j : Nat) : w.cell? ⟨b, j, none⟩ = cs[j]? := Lib.cell_of_heap h j
theorem hfrozen {w : World} {b : Nat} {cs : Array Value} {T : TypeId} (h : w.heap[b]? = some (.cells cs T (0, 0))) (j : Nat) : w.frozen? ⟨b, j, none⟩ = false := Lib.frozen_of_heap h j
theorem heap_lt {w : World} {p : Nat} {o : Obj} (h : w.heap[p]? = some o) : p < w.heap.size := by
  rw [Array.getElem?_eq_some_iff] at h
  exact h.1
theorem keep_heap {w w' : World} {s : Nat} {o : Obj} (h : w.heap[s]? = some o) (k : Keeps [] w w') : w'.heap[s]? = some o := (k.block s (heap_lt h) (by simp)).trans h
theorem heap_new (w : World) (o : Obj) : (w.alloc o).heap[w.heap.size]? = some o := heap_alloc_new w o
theorem ownsRow_keeps {w w' : World} {F : List Nat} {base : Nat} {e : TypeId} {size : Nat} {v : Value} {n : Nat} {xs : List Value} (h : w.ownsRow base e size v n xs) (k : Keeps F w w') (hF : ∀ b, v.ownBlock = some b → b ∉ F) : w'.ownsRow base e size v n xs := by
  refine ⟨h.1, ?_⟩
  rcases h.2 with hn | ⟨g, cap, cur, rfl, hb, hg, rest⟩
  · exact .inl hn
  · refine .inr ⟨g, cap, cur, rfl, hb, ?_, rest⟩
    rw [k.block g (Array.getElem?_eq_some_iff.1 hg).1 (hF g rfl)]
    exact hg
theorem set3 {w : World} {b : Nat} {x y z : Value} {T : TypeId} (h : w.heap[b]? = some (.cells #[x, y, z] T (0, 0))) (u0 u1 u2 : Value) :
    (((w.setCell ⟨b, 0, none⟩ u0).setCell ⟨b, 1, none⟩ u1).setCell ⟨b, 2, none⟩ u2).heap[b]? = some (.cells #[u0, u1, u2] T (0, 0)) :=
  heap_setCell_same _ b 2 _ _ u2 (heap_setCell_same _ b 1 _ _ u1 (heap_setCell_same w b 0 _ _ u0 h))
theorem keeps3 (w : World) (b : Nat) (u0 u1 u2 : Value) : Keeps [b] w (((w.setCell ⟨b, 0, none⟩ u0).setCell ⟨b, 1, none⟩ u1).setCell ⟨b, 2, none⟩ u2) :=
  ((Keeps.setCell [b] _ _ _ (List.mem_singleton.2 rfl)).step (Keeps.setCell [b] _ _ _ (List.mem_singleton.2 rfl))).step (Keeps.setCell [b] _ _ _ (List.mem_singleton.2 rfl))
/-- Rows of three cells. -/
def row3 {α : Type} (f : α → Value × Value × Value) (l : List α) : List Value := l.flatMap fun x => [(f x).1, (f x).2.1, (f x).2.2]
theorem row3_cons {α : Type} (f : α → Value × Value × Value) (x : α) (l : List α) : row3 f (x :: l) = [(f x).1, (f x).2.1, (f x).2.2] ++ row3 f l := rfl
theorem row3_snoc {α : Type} (f : α → Value × Value × Value) (l : List α) (x : α) : row3 f (l ++ [x]) = row3 f l ++ [(f x).1, (f x).2.1, (f x).2.2] := by
  unfold row3
  rw [List.flatMap_append]
  rfl
theorem row3_len {α : Type} (f : α → Value × Value × Value) (l : List α) : (row3 f l).length = l.length * 3 := by
  induction l with
  | nil => rfl
  | cons q l ih =>
    rw [row3_cons, List.length_append, ih, List.length_cons]
    show 3 + l.length * 3 = (l.length + 1) * 3
    omega
theorem row3_get {α : Type} (f : α → Value × Value × Value) (l : List α) : ∀ (j : Nat) (x : α), l[j]? = some x → (row3 f l)[j * 3]? = some (f x).1 ∧ (row3 f l)[j * 3 + 1]? = some (f x).2.1 ∧ (row3 f l)[j * 3 + 2]? = some (f x).2.2 := by
  induction l with
  | nil => intro j q h; simp at h
  | cons p l ih =>
    intro j x h
    cases j with
    | zero =>
      simp at h
      subst h
      rw [row3_cons]
      exact ⟨rfl, rfl, rfl⟩
    | succ j =>
      have h' := ih j x (by simpa using h)
      rw [row3_cons, show (j + 1) * 3 = j * 3 + 3 by omega]
      refine ⟨?_, ?_, ?_⟩ <;> rw [List.getElem?_append_right (by simp)]
      · exact h'.1
      · rw [show j * 3 + 3 + 1 - [(f p).1, (f p).2.1, (f p).2.2].length = j * 3 + 1 by simp]
        exact h'.2.1
      · rw [show j * 3 + 3 + 2 - [(f p).1, (f p).2.1, (f p).2.2].length = j * 3 + 2 by simp]
        exact h'.2.2
theorem row3_set {α : Type} (f : α → Value × Value × Value) (l : List α) : ∀ (j : Nat) (x y : α), l[j]? = some x → row3 f (l.set j y) = (((row3 f l).set (j * 3) (f y).1).set (j * 3 + 1) (f y).2.1).set (j * 3 + 2) (f y).2.2 := by
  induction l with
  | nil => intro j x y h; simp at h
  | cons p l ih =>
    intro j x y h
    cases j with
    | zero => rfl
    | succ j =>
      rw [List.set_cons_succ, row3_cons, row3_cons, ih j x y (by simpa using h), show (j + 1) * 3 = j * 3 + 3 by omega]
      simp [List.set_cons_succ]
theorem set_same {l : List Value} {i : Nat} {v : Value} (h : l[i]? = some v) : l.set i v = l := by
  apply List.ext_getElem?
  intro k
  rw [List.getElem?_set]
  split
  · rename_i e
    subst e
    split
    · exact h.symm
    · rename_i hn
      rw [List.getElem?_eq_none (by omega)]
  · rfl
theorem row3_same {α : Type} (f : α → Value × Value × Value) {l : List α} {j : Nat} {x y : α} (h : l[j]? = some x) (e : f y = f x) : row3 f (l.set j y) = row3 f l := by
  obtain ⟨h0, h1, h2⟩ := row3_get f l j x h
  rw [row3_set f l j x y h, e, set_same h0, set_same h1, set_same h2]

/-- A value: kind, number, taint. -/
abbrev V3 : Type := Int × Int × Bool
def v3 (x : V3) : Value × Value × Value := (.int .i64 x.1, .int .i64 x.2.1, .bool x.2.2)
abbrev vlV (x : V3) : Value := .agg #[.int .i64 x.1, .int .i64 x.2.1, .bool x.2.2]
/-- An object: its site, whether it is free, its fields' list and what they hold. -/
structure Ob where
  site : Int
  free : Bool
  fs : Value
  vs : List V3
def ob3 (o : Ob) : Value × Value × Value := (.int .i64 o.site, .bool o.free, o.fs)
/-- Objects in a row of type T; F: the blocks that are theirs. -/
structure Obs (w : World) (T : TypeId) (f : Ob → Value × Value × Value) (sv : Value) (os : List Ob) (F : List Nat) : Prop where
  own : w.ownsRow 0 T 3 sv os.length (row3 f os)
  fld : ∀ (j : Nat) (o : Ob), os[j]? = some o → w.ownsRow 0 29 3 o.fs o.vs.length (row3 v3 o.vs)
  apart : ∀ (i j : Nat) (o p : Ob) (k : Nat), os[i]? = some o → os[j]? = some p → o.fs.ownBlock = some k → p.fs.ownBlock = some k → i = j
  row : ∀ k, sv.ownBlock = some k → k ∈ F
  fin : ∀ (j : Nat) (o : Ob) (k : Nat), os[j]? = some o → o.fs.ownBlock = some k → k ∈ F
  lt : ∀ x, x ∈ F → x < w.heap.size
theorem Obs.kept {w w' : World} {T : TypeId} {f : Ob → Value × Value × Value} {sv : Value} {os : List Ob} {F L : List Nat} (h : Obs w T f sv os F) (k : Keeps L w w') (hL : ∀ x, x ∈ F → x ∉ L) : Obs w' T f sv os F :=
  ⟨ownsRow_keeps h.own k (fun b hb => hL b (h.row b hb)), fun j o hj => ownsRow_keeps (h.fld j o hj) k (fun b hb => hL b (h.fin j o b hj hb)), h.apart, h.row, h.fin, fun x hx => Nat.lt_of_lt_of_le (h.lt x hx) k.size⟩
theorem Obs.quiet {w w' : World} {T : TypeId} {f : Ob → Value × Value × Value} {sv : Value} {os : List Ob} {F : List Nat} (h : Obs w T f sv os F) (k : Keeps [] w w') : Obs w' T f sv os F := h.kept k fun _ _ => by simp
theorem Obs.nil (w : World) (T : TypeId) (f : Ob → Value × Value × Value) {F : List Nat} (hF : ∀ x, x ∈ F → x < w.heap.size) : Obs w T f (.slice none 0 0) [] F :=
  ⟨World.ownsRow_nil w _ _ _, fun j o h => by simp at h, fun i j o p k h => by simp at h, fun k h => by simp [Value.ownBlock] at h, fun j o k h => by simp at h, hF⟩
/-- The row's block. -/
theorem Obs.at {w : World} {T : TypeId} {f : Ob → Value × Value × Value} {sv : Value} {os : List Ob} {F : List Nat} (h : Obs w T f sv os F) {j : Nat} {o : Ob} (hj : os[j]? = some o) :
    ∃ g cap, sv = .slice (some ⟨g, 0, none⟩) os.length cap ∧ os.length ≤ cap ∧ j < os.length ∧ w.cell? ⟨g, j * 3, none⟩ = some (f o).1 ∧ w.cell? ⟨g, j * 3 + 1, none⟩ = some (f o).2.1 ∧ w.cell? ⟨g, j * 3 + 2, none⟩ = some (f o).2.2 ∧ (∀ i, w.frozen? ⟨g, i, none⟩ = false) ∧ g < w.heap.size := by
  have hlt := (List.getElem?_eq_some_iff.1 hj).1
  rcases h.own.2 with ⟨_, h0⟩ | ⟨g, cap, cur, hv, _, hg, hn, _⟩
  · omega
  · have own := h.own
    rw [hv] at own
    obtain ⟨g0, g1, g2⟩ := row3_get f os j o hj
    exact ⟨g, cap, hv, hn, hlt, (own.cellAt _ (by omega)).trans g0, (own.cellAt _ (by omega)).trans g1, (own.cellAt _ (by omega)).trans g2, own.frozenAt, heap_lt hg⟩
/-- A field's cells. -/
theorem Obs.field {w : World} {T : TypeId} {f : Ob → Value × Value × Value} {sv : Value} {os : List Ob} {F : List Nat} (h : Obs w T f sv os F) {j : Nat} {o : Ob} (hj : os[j]? = some o) {i : Nat} {v : V3} (hi : o.vs[i]? = some v) :
    ∃ b cap, o.fs = .slice (some ⟨b, 0, none⟩) o.vs.length cap ∧ b ∈ F ∧ w.cell? ⟨b, i * 3, none⟩ = some (v3 v).1 ∧ w.cell? ⟨b, i * 3 + 1, none⟩ = some (v3 v).2.1 ∧ w.cell? ⟨b, i * 3 + 2, none⟩ = some (v3 v).2.2 ∧ (∀ i, w.frozen? ⟨b, i, none⟩ = false) := by
  have hlt := (List.getElem?_eq_some_iff.1 hi).1
  have own := h.fld j o hj
  rcases own.2 with ⟨_, h0⟩ | ⟨g, cap, cur, hv, _, hg, hn, _⟩
  · omega
  · have hin := h.fin j o g hj (by rw [hv]; rfl)
    rw [hv] at own
    obtain ⟨g0, g1, g2⟩ := row3_get v3 o.vs i v hi
    exact ⟨g, cap, hv, hin, (own.cellAt _ (by omega)).trans g0, (own.cellAt _ (by omega)).trans g1, (own.cellAt _ (by omega)).trans g2, own.frozenAt⟩
theorem Obs.len {w : World} {T : TypeId} {f : Ob → Value × Value × Value} {sv : Value} {os : List Ob} {F : List Nat} (h : Obs w T f sv os F) : ∃ a cap, sv = .slice a os.length cap ∧ os.length ≤ cap := by
  rcases h.own.2 with ⟨hv, h0⟩ | ⟨g, cap, cur, hv, _, _, hn, _⟩
  · exact ⟨none, 0, by rw [hv, h0], by omega⟩
  · exact ⟨_, cap, hv, hn⟩
theorem own_ne {w : World} {base base' : Nat} {T U : TypeId} {c c' : Nat} {v u : Value} {n m : Nat} {xs ys : List Value} (h : w.ownsRow base T c v n xs) (h' : w.ownsRow base' U c' u m ys) (hne : T ≠ U) {k : Nat} (hv : v.ownBlock = some k) : u.ownBlock ≠ some k := by
  intro hu
  rcases h.2 with ⟨rfl, _⟩ | ⟨g, cap, cur, rfl, _, hg, _⟩
  · simp [Value.ownBlock] at hv
  · rcases h'.2 with ⟨rfl, _⟩ | ⟨g', cap', cur', rfl, _, hg', _⟩
    · simp [Value.ownBlock] at hu
    · simp [Value.ownBlock] at hv hu
      subst hv
      subst hu
      rw [hg] at hg'
      simp at hg'
      exact hne hg'.2
/-- A field is written. -/
theorem Obs.put {w : World} {T : TypeId} {f : Ob → Value × Value × Value} {sv : Value} {os : List Ob} {F : List Nat} (h : Obs w T f sv os F) (hT : 29 ≠ T) (hf : ∀ o vs, f { o with vs := vs } = f o) {j : Nat} {o : Ob} (hj : os[j]? = some o) {i : Nat} {v : V3} (hi : o.vs[i]? = some v) {b cap : Nat} (hb : o.fs = .slice (some ⟨b, 0, none⟩) o.vs.length cap) (u : V3) :
    Obs (((w.setCell ⟨b, i * 3, none⟩ (v3 u).1).setCell ⟨b, i * 3 + 1, none⟩ (v3 u).2.1).setCell ⟨b, i * 3 + 2, none⟩ (v3 u).2.2) T f sv (os.set j { o with vs := o.vs.set i u }) F := by
  have own := h.fld j o hj
  have hob : o.fs.ownBlock = some b := by rw [hb]; rfl
  have hjl := (List.getElem?_eq_some_iff.1 hj).1
  have kk : Keeps [b] w (((w.setCell ⟨b, i * 3, none⟩ (v3 u).1).setCell ⟨b, i * 3 + 1, none⟩ (v3 u).2.1).setCell ⟨b, i * 3 + 2, none⟩ (v3 u).2.2) :=
    ((Keeps.setCell [b] _ _ _ (List.mem_singleton.2 rfl)).step (Keeps.setCell [b] _ _ _ (List.mem_singleton.2 rfl))).step (Keeps.setCell [b] _ _ _ (List.mem_singleton.2 rfl))
  have own' := own
  rw [hb] at own'
  have o3 := (((own'.stored (i * 3) (v3 u).1).1.stored (i * 3 + 1) (v3 u).2.1).1.stored (i * 3 + 2) (v3 u).2.2).1
  rw [← row3_set v3 o.vs i v u hi, ← hb] at o3
  have each : ∀ (m : Nat) (p : Ob), (os.set j { o with vs := o.vs.set i u })[m]? = some p → (m = j ∧ p = { o with vs := o.vs.set i u }) ∨ (m ≠ j ∧ os[m]? = some p) := fun m p hm => by
    by_cases e : j = m
    · subst e
      rw [List.getElem?_set_self hjl] at hm
      exact .inl ⟨rfl, by simpa using hm.symm⟩
    · rw [List.getElem?_set_ne e] at hm
      exact .inr ⟨fun e' => e e'.symm, hm⟩
  refine ⟨?_, fun m p hm => ?_, fun m n p q k hm hn h1 h2 => ?_, h.row, fun m p k hm hk => ?_, fun x hx => Nat.lt_of_lt_of_le (h.lt x hx) kk.size⟩
  · rw [List.length_set, row3_same f hj (hf o _)]
    exact ownsRow_keeps h.own kk (fun c hc hm => by
      rw [List.mem_singleton] at hm
      subst hm
      exact own_ne own h.own hT hob hc)
  · rcases each m p hm with ⟨rfl, rfl⟩ | ⟨hne, hp⟩
    · rw [List.length_set]
      exact o3
    · exact ownsRow_keeps (h.fld m p hp) kk (fun c hc hx => by
        rw [List.mem_singleton] at hx
        subst hx
        exact hne (h.apart m j p o c hp hj hc hob))
  · have back : ∀ (m : Nat) (p : Ob), (os.set j { o with vs := o.vs.set i u })[m]? = some p → ∃ q, os[m]? = some q ∧ q.fs = p.fs := fun m p hm => by
      rcases each m p hm with ⟨rfl, rfl⟩ | ⟨_, hp⟩
      · exact ⟨o, hj, rfl⟩
      · exact ⟨p, hp, rfl⟩
    obtain ⟨p', a1, a2⟩ := back m p hm
    obtain ⟨q', b1, b2⟩ := back n q hn
    exact h.apart m n p' q' k a1 b1 (by rw [a2]; exact h1) (by rw [b2]; exact h2)
  · rcases each m p hm with ⟨rfl, rfl⟩ | ⟨_, hp⟩
    · exact h.fin m o k hj hk
    · exact h.fin m p k hp hk
/-- An object's own cells are written; its fields stay, or it has none any more. -/
theorem Obs.turn {w w' : World} {T : TypeId} {f : Ob → Value × Value × Value} {sv : Value} {os : List Ob} {F : List Nat} (h : Obs w T f sv os F) (hT : T ≠ 29) {j : Nat} {o o' : Ob} (hj : os[j]? = some o) (k : Keeps sv.ownBlock.toList w w') (own : w'.ownsRow 0 T 3 sv os.length (row3 f (os.set j o'))) (hf : (o'.fs = o.fs ∧ o'.vs = o.vs) ∨ (o'.fs = .slice none 0 0 ∧ o'.vs = [])) : Obs w' T f sv (os.set j o') F := by
  have hjl := (List.getElem?_eq_some_iff.1 hj).1
  have each : ∀ (m : Nat) (p : Ob), (os.set j o')[m]? = some p → (m = j ∧ p = o') ∨ (m ≠ j ∧ os[m]? = some p) := fun m p hm => by
    by_cases e : j = m
    · subst e
      rw [List.getElem?_set_self hjl] at hm
      exact .inl ⟨rfl, by simpa using hm.symm⟩
    · rw [List.getElem?_set_ne e] at hm
      exact .inr ⟨fun e' => e e'.symm, hm⟩
  have back : ∀ (m : Nat) (p : Ob) (c : Nat), (os.set j o')[m]? = some p → p.fs.ownBlock = some c → ∃ q, os[m]? = some q ∧ q.fs = p.fs ∧ q.vs = p.vs := fun m p c hm hc => by
    rcases each m p hm with ⟨rfl, rfl⟩ | ⟨_, hp⟩
    · rcases hf with ⟨e1, e2⟩ | ⟨e1, _⟩
      · exact ⟨o, hj, e1.symm, e2.symm⟩
      · rw [e1] at hc
        simp [Value.ownBlock] at hc
    · exact ⟨p, hp, rfl, rfl⟩
  have fkeep : ∀ (m : Nat) (p : Ob), os[m]? = some p → w'.ownsRow 0 29 3 p.fs p.vs.length (row3 v3 p.vs) := fun m p hp =>
    ownsRow_keeps (h.fld m p hp) k (fun c hc hx => own_ne h.own (h.fld m p hp) hT (by simpa using hx) hc)
  refine ⟨by rw [List.length_set]; exact own, fun m p hm => ?_, fun m n p q c hm hn h1 h2 => ?_, h.row, fun m p c hm hc => ?_, fun x hx => Nat.lt_of_lt_of_le (h.lt x hx) k.size⟩
  · rcases each m p hm with ⟨rfl, rfl⟩ | ⟨_, hp⟩
    · rcases hf with ⟨e1, e2⟩ | ⟨e1, e2⟩
      · rw [e1, e2]
        exact fkeep m o hj
      · rw [e1, e2]
        exact World.ownsRow_nil _ _ _ _
    · exact fkeep m p hp
  · obtain ⟨p', a1, a2, _⟩ := back m p c hm h1
    obtain ⟨q', b1, b2, _⟩ := back n q c hn h2
    exact h.apart m n p' q' c a1 b1 (by rw [a2]; exact h1) (by rw [b2]; exact h2)
  · obtain ⟨p', a1, a2, _⟩ := back m p c hm hc
    exact h.fin m p' c a1 (by rw [a2]; exact hc)
/-- One object more. -/
theorem Obs.push {w wa w' : World} {T : TypeId} {f : Ob → Value × Value × Value} {sv sv' : Value} {os : List Ob} {F : List Nat} (h : Obs w T f sv os F) (hT : T ≠ 29) (ka : Keeps [] w wa) {o : Ob} (ho : wa.ownsRow 0 29 3 o.fs o.vs.length (row3 v3 o.vs)) (hnew : ∀ k, o.fs.ownBlock = some k → k ∉ F) (own : w'.ownsRow 0 T 3 sv' (os.length + 1) (row3 f (os ++ [o]))) (hg : wa.grownBy w' sv.ownBlock) :
    Obs w' T f sv' (os ++ [o]) (F ++ (sv'.ownBlock.toList ++ o.fs.ownBlock.toList)) := by
  have h1 := h.quiet ka
  have kk : Keeps sv.ownBlock.toList wa w' := Keeps.grown _ hg (fun x hx => by rw [hx]; simp)
  have each : ∀ (m : Nat) (p : Ob), (os ++ [o])[m]? = some p → (m = os.length ∧ p = o) ∨ os[m]? = some p := fun m p hm => by
    by_cases e : m < os.length
    · rw [List.getElem?_append_left e] at hm
      exact .inr hm
    · rw [List.getElem?_append_right (by omega)] at hm
      have e0 : m - os.length = 0 := by
        apply Classical.byContradiction
        intro hne
        rw [List.getElem?_eq_none (by simp; omega)] at hm
        cases hm
      rw [e0] at hm
      exact .inl ⟨by omega, by simpa using hm.symm⟩
  have hown' : ∀ {v : Value} {n : Nat} {xs : List Value}, wa.ownsRow 0 29 3 v n xs → w'.ownsRow 0 29 3 v n xs := fun hv =>
    ownsRow_keeps hv kk (fun c hc hx => own_ne h1.own hv hT (by simpa using hx) hc)
  refine ⟨by rw [List.length_append]; exact own, fun m p hm => ?_, fun m n p q c hm hn a1 a2 => ?_, fun k hk => by simp [hk], fun m p c hm hc => ?_, fun x hx => ?_⟩
  · rcases each m p hm with ⟨_, rfl⟩ | hp
    · exact hown' ho
    · exact hown' (h1.fld m p hp)
  · rcases each m p hm with ⟨e1, rfl⟩ | hp
    · rcases each n q hn with ⟨e2, _⟩ | hq
      · omega
      · exact absurd (h.fin n q c hq a2) (hnew c a1)
    · rcases each n q hn with ⟨e2, rfl⟩ | hq
      · exact absurd (h.fin m p c hp a1) (hnew c a2)
      · exact h.apart m n p q c hp hq a1 a2
  · rcases each m p hm with ⟨_, rfl⟩ | hp
    · simp [hc]
    · exact List.mem_append_left _ (h.fin m p c hp hc)
  · rcases List.mem_append.1 hx with hx | hx
    · exact Nat.lt_of_lt_of_le (h1.lt x hx) kk.size
    · rcases List.mem_append.1 hx with hx | hx
      · exact (own.lt x (by simpa using hx)).2
      · exact Nat.lt_of_lt_of_le (ho.lt x (by simpa using hx)).2 kk.size
/-- The heap's block, and its objects. -/
structure HpV (w : World) (hp : Nat) (sv : Value) (os : List Ob) (F : List Nat) : Prop where
  box : w.heap[hp]? = some (.cells #[sv] 56 (0, 0))
  hin : hp ∈ F
  obs : Obs w 58 ob3 sv os F
def Hp (w : World) (hp : Nat) (os : List Ob) (F : List Nat) : Prop := ∃ sv, HpV w hp sv os F
theorem HpV.kept {w w' : World} {hp : Nat} {sv : Value} {os : List Ob} {F L : List Nat} (h : HpV w hp sv os F) (k : Keeps L w w') (hL : ∀ x, x ∈ F → x ∉ L) : HpV w' hp sv os F :=
  ⟨by rw [k.block hp (heap_lt h.box) (hL hp h.hin)]; exact h.box, h.hin, h.obs.kept k hL⟩
theorem Hp.kept {w w' : World} {hp : Nat} {os : List Ob} {F L : List Nat} (h : Hp w hp os F) (k : Keeps L w w') (hL : ∀ x, x ∈ F → x ∉ L) : Hp w' hp os F := by
  obtain ⟨sv, h⟩ := h
  exact ⟨sv, h.kept k hL⟩
theorem Hp.quiet {w w' : World} {hp : Nat} {os : List Ob} {F : List Nat} (h : Hp w hp os F) (k : Keeps [] w w') : Hp w' hp os F := h.kept k fun _ _ => by simp
theorem Hp.lt {w : World} {hp : Nat} {os : List Ob} {F : List Nat} (h : Hp w hp os F) : ∀ x, x ∈ F → x < w.heap.size := by
  obtain ⟨sv, h⟩ := h
  exact h.obs.lt
/-- What is new in F' is new memory. -/
def Near (w : World) (F F' : List Nat) : Prop := ∀ x, x ∈ F' → x ∈ F ∨ w.heap.size ≤ x
end Go.Proofs.Ytpllhcifoiahpaa
