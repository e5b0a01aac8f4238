/-
  What lies in new memory alone; a reader's state in memory; lists that are filled part by part.
-/
import Derived.Test.YtmipbaihlodmdaaDoorCVal
namespace Go.Proofs.YtmipbaihlodmdaaDoor
open Go.RowKit

/-- Whatever cell one has the other has, too. -/
def Sub (w w' : World) : Prop := ∀ p v, w.cell? p = some v → w'.cell? p = some v
theorem Sub.of {w w' : World} (k : Keeps [] w w') : Sub w w' := fun _ _ h => cell_stays k h
def SubS {α : Type} (R : World → Nat → Nat → α → Prop) : Prop := ∀ w w' b o y, Sub w w' → R w b o y → R w' b o y
theorem RowsAt.sub {α : Type} {w w' : World} {c : Nat} {R : World → Nat → Nat → α → Prop} {a : Option Addr} {l : List α} (h : RowsAt w c R a l) (hR : SubS R) (k : Sub w w') : RowsAt w' c R a l := by
  rcases h with h | ⟨b, off, h1, h2⟩
  · exact .inl h
  · exact .inr ⟨b, off, h1, fun j y hy => hR w w' b _ y k (h2 j y hy)⟩
theorem IntC.sub : SubS IntC := fun _ _ _ _ _ k h => ⟨k _ _ h.1, h.2⟩
theorem SlC.sub {α : Type} {c : Nat} {R : World → Nat → Nat → α → Prop} (hR : SubS R) : SubS (SlC c R) := by
  rintro w w' b o l k ⟨a, cp, h1, h2, h3⟩
  exact ⟨a, cp, k _ _ h1, h2.sub hR k, h3⟩
theorem IntsC.sub : SubS IntsC := SlC.sub IntC.sub
theorem TyC.sub : SubS TyC := fun _ _ _ _ _ k h => ⟨IntC.sub _ _ _ _ _ k h.c0, IntC.sub _ _ _ _ _ k h.c1⟩
theorem TysC.sub : SubS (SlC 2 TyC) := SlC.sub TyC.sub
theorem InC.sub : SubS InC := fun _ _ _ _ _ k h => ⟨IntC.sub _ _ _ _ _ k h.c0, IntC.sub _ _ _ _ _ k h.c1, IntC.sub _ _ _ _ _ k h.c2, IntC.sub _ _ _ _ _ k h.c3, IntC.sub _ _ _ _ _ k h.c4, IntsC.sub _ _ _ _ _ k h.c5⟩
theorem BlC.sub : SubS BlC := fun _ _ _ _ _ k h => ⟨SlC.sub InC.sub _ _ _ _ _ k h.c0, IntC.sub _ _ _ _ _ k h.c1, IntC.sub _ _ _ _ _ k h.c2, IntC.sub _ _ _ _ _ k h.c3, IntC.sub _ _ _ _ _ k h.c4⟩
theorem FuC.sub : SubS FuC := fun _ _ _ _ _ k h => ⟨IntC.sub _ _ _ _ _ k h.c0, TysC.sub _ _ _ _ _ k h.c1, SlC.sub BlC.sub _ _ _ _ _ k h.c2⟩
theorem SgC.sub : SubS SgC := fun _ _ _ _ _ k h => ⟨TysC.sub _ _ _ _ _ k h.c0, IntC.sub _ _ _ _ _ k h.c1, IntC.sub _ _ _ _ _ k h.c2⟩
theorem ImC.sub : SubS ImC := fun _ _ _ _ _ k h => ⟨IntC.sub _ _ _ _ _ k h.c0, IntC.sub _ _ _ _ _ k h.c1, IntsC.sub _ _ _ _ _ k h.c2⟩
theorem PrC.sub : SubS PrC := fun _ _ _ _ _ k h => ⟨SlC.sub TysC.sub _ _ _ _ _ k h.c0, SlC.sub SgC.sub _ _ _ _ _ k h.c1, SlC.sub IntsC.sub _ _ _ _ _ k h.c2, SlC.sub ImC.sub _ _ _ _ _ k h.c3, SlC.sub FuC.sub _ _ _ _ _ k h.c4, IntC.sub _ _ _ _ _ k h.c5⟩

/-- The memory from block B on, alone. -/
def above (B : Nat) (w : World) : World := { w with heap := w.heap.mapIdx fun i o => if i < B then .cells #[] 0 (0, 0) else o }
theorem above_heap (B : Nat) (w : World) (k : Nat) : (above B w).heap[k]? = (w.heap[k]?).map fun o => if k < B then Obj.cells #[] 0 (0, 0) else o := by
  unfold above
  rw [Array.getElem?_mapIdx]
theorem above_size (B : Nat) (w : World) : (above B w).heap.size = w.heap.size := by
  unfold above
  rw [Array.size_mapIdx]
theorem above_ge {B : Nat} {w : World} {k : Nat} (h : B ≤ k) : (above B w).heap[k]? = w.heap[k]? := by
  rw [above_heap]
  have : ¬ k < B := by omega
  simp [this]
theorem above_cell {B : Nat} {w : World} {p : Addr} {v : Value} (h : (above B w).cell? p = some v) : B ≤ p.block ∧ w.cell? p = some v := by
  by_cases hb : p.block < B
  · exfalso
    unfold World.cell? at h
    rw [above_heap] at h
    cases e : w.heap[p.block]? with
    | none => rw [e] at h; simp at h
    | some o => rw [e] at h; simp [hb] at h
  · refine ⟨by omega, ?_⟩
    rw [← World.cell?_of_block (w := w) (above_ge (show B ≤ p.block by omega))]
    exact h
theorem above_has {B : Nat} {w : World} {p : Addr} {v : Value} (hb : B ≤ p.block) (h : w.cell? p = some v) : (above B w).cell? p = some v := by
  rw [World.cell?_of_block (w := w) (above_ge hb)]
  exact h
theorem Sub.down {B B' : Nat} (w : World) (h : B' ≤ B) : Sub (above B w) (above B' w) := fun _ _ e => above_has (Nat.le_trans h (above_cell e).1) (above_cell e).2
theorem Sub.all (B : Nat) (w : World) : Sub (above B w) w := fun _ _ e => (above_cell e).2
theorem Sub.kept {B : Nat} {L : List Nat} {w w' : World} (k : Keeps L w w') (h : ∀ x, x ∈ L → x < B) : Sub (above B w) (above B w') := fun p _ e => by
  obtain ⟨h1, h2⟩ := above_cell e
  refine above_has h1 ?_
  rw [k.cell (block_lt_of_cell h2) (fun hm => by have := h _ hm; omega)]
  exact h2
theorem Sub.trans {a b c : World} (h : Sub a b) (k : Sub b c) : Sub a c := fun p v e => k p v (h p v e)

/-- Values: in more memory they are the same. -/
def SubV {α : Type} (V : World → Value → α → Prop) : Prop := ∀ w w' v y, Sub w w' → V w v y → V w' v y
theorem IntV.sub : SubV IntV := fun _ _ _ _ _ h => h
theorem TyV.sub : SubV TyV := fun _ _ _ _ _ h => h
theorem SlV.sub {α : Type} {c : Nat} {R : World → Nat → Nat → α → Prop} (hR : SubS R) : SubV (SlV c R) := by
  rintro w w' v l k ⟨a, cp, h1, h2, h3⟩
  exact ⟨a, cp, h1, h2.sub hR k, h3⟩
theorem IntsV.sub : SubV IntsV := SlV.sub IntC.sub
theorem TysV.sub : SubV TysV := SlV.sub TyC.sub
theorem InsV.sub : SubV InsV := SlV.sub InC.sub
theorem BlsV.sub : SubV BlsV := SlV.sub BlC.sub
theorem SgV.sub : SubV SgV := by
  rintro w w' v x k ⟨a, cp, h1, h2, h3⟩
  exact ⟨a, cp, h1, TysV.sub _ _ _ _ k h2, h3⟩
theorem IfV.sub : SubV IfV := by
  rintro w w' v x k ⟨a, cp, h1, h2⟩
  exact ⟨a, cp, h1, IntsV.sub _ _ _ _ k h2⟩
theorem ImV.sub : SubV ImV := by
  rintro w w' v x k ⟨a, cp, h1, h2, h3, h4⟩
  exact ⟨a, cp, h1, h2, h3, IntsV.sub _ _ _ _ k h4⟩
theorem InV.sub : SubV InV := by
  rintro w w' v x k ⟨a, cp, h1, h2, h3, h4, h5, h6, h7⟩
  exact ⟨a, cp, h1, h2, h3, h4, h5, h6, IntsV.sub _ _ _ _ k h7⟩
theorem BlV.sub : SubV BlV := by
  rintro w w' v x k ⟨a, cp, h1, h2, h3⟩
  exact ⟨a, cp, h1, InsV.sub _ _ _ _ k h2, h3⟩
theorem FuV.sub : SubV FuV := by
  rintro w w' v x k ⟨a, cp, a', cp', h1, h2, h3, h4⟩
  exact ⟨a, cp, a', cp', h1, h2, TysV.sub _ _ _ _ k h3, BlsV.sub _ _ _ _ k h4⟩
/-- A value whose cells lie in a row is what the row tells. -/
def Links {α : Type} (c : Nat) (V : World → Value → α → Prop) (R : World → Nat → Nat → α → Prop) : Prop :=
  ∀ w v y b o, V w v y → v.cells.size = c ∧ ((∀ i, i < c → w.cell? ⟨b, o + i, none⟩ = v.cells[i]?) → R w b o y)
theorem IntV.links : Links 1 IntV IntC := by
  rintro w v y b o ⟨rfl, h⟩
  exact ⟨rfl, fun hc => ⟨hc 0 (by omega), h⟩⟩
theorem TyV.links : Links 2 TyV TyC := by
  rintro w v y b o ⟨rfl, h1, h2⟩
  exact ⟨rfl, fun hc => ⟨⟨hc 0 (by omega), h1⟩, ⟨hc 1 (by omega), h2⟩⟩⟩
theorem SlV.links {α : Type} {c : Nat} {R : World → Nat → Nat → α → Prop} : Links 1 (SlV c R) (SlC c R) := by
  rintro w v y b o ⟨a, cp, rfl, h⟩
  exact ⟨rfl, fun hc => ⟨a, cp, hc 0 (by omega), h⟩⟩
theorem SlV.cell {α : Type} {c : Nat} {R : World → Nat → Nat → α → Prop} {w : World} {a : Option Addr} {cp b o : Nat} {l : List α} (h : SlV c R w (.slice a l.length cp) l) (hc : w.cell? ⟨b, o, none⟩ = some (.slice a l.length cp)) : SlC c R w b o l := by
  obtain ⟨_, h1⟩ := h.slice
  exact ⟨a, cp, hc, h1⟩
theorem SgV.links : Links 3 SgV SgC := by
  rintro w v y b o ⟨a, cp, rfl, h1, h2, h3⟩
  exact ⟨rfl, fun hc => ⟨SlV.cell h1 (hc 0 (by omega)), ⟨hc 1 (by omega), h2⟩, ⟨hc 2 (by omega), h3⟩⟩⟩
theorem IfV.links : Links 1 IfV IntsC := by
  rintro w v y b o ⟨a, cp, rfl, h1⟩
  exact ⟨rfl, fun hc => SlV.cell h1 (hc 0 (by omega))⟩
theorem ImV.links : Links 3 ImV ImC := by
  rintro w v y b o ⟨a, cp, rfl, h1, h2, h3⟩
  exact ⟨rfl, fun hc => ⟨⟨hc 0 (by omega), h1⟩, ⟨hc 1 (by omega), h2⟩, SlV.cell h3 (hc 2 (by omega))⟩⟩
theorem InV.links : Links 6 InV InC := by
  rintro w v y b o ⟨a, cp, rfl, h1, h2, h3, h4, h5, h6⟩
  exact ⟨rfl, fun hc => ⟨⟨hc 0 (by omega), h1⟩, ⟨hc 1 (by omega), h2⟩, ⟨hc 2 (by omega), h3⟩, ⟨hc 3 (by omega), h4⟩, ⟨hc 4 (by omega), h5⟩, SlV.cell h6 (hc 5 (by omega))⟩⟩
theorem BlV.links : Links 5 BlV BlC := by
  rintro w v y b o ⟨a, cp, rfl, h1, h2, h3, h4, h5⟩
  exact ⟨rfl, fun hc => ⟨SlV.cell h1 (hc 0 (by omega)), ⟨hc 1 (by omega), h2⟩, ⟨hc 2 (by omega), h3⟩, ⟨hc 3 (by omega), h4⟩, ⟨hc 4 (by omega), h5⟩⟩⟩
theorem FuV.links : Links 3 FuV FuC := by
  rintro w v y b o ⟨a, cp, a', cp', rfl, h1, h2, h3⟩
  exact ⟨rfl, fun hc => ⟨⟨hc 0 (by omega), h1⟩, SlV.cell h2 (hc 1 (by omega)), SlV.cell h3 (hc 2 (by omega))⟩⟩

/-- A reader. -/
def RdAt (w : World) (rb : Nat) : Option (List UInt8) → Prop
  | none => w.heap[rb]? = some (.cells #[.slice none 0 0, .bool true] 79 (0, 0))
  | some L => ∃ a cp, w.heap[rb]? = some (.cells #[.slice a L.length cp, .bool false] 79 (0, 0)) ∧ BytesAt w a L ∧ L.length ≤ cp ∧ L.length ≤ 20000 ∧ (L ≠ [] → ∀ b off, a = some ⟨b, off, none⟩ → b < rb)
theorem RdAt.lt {w : World} {rb : Nat} {s : Option (List UInt8)} (h : RdAt w rb s) : rb < w.heap.size := by
  cases s with
  | none => exact heap_lt h
  | some L =>
    obtain ⟨_, _, h1, _⟩ := h
    exact heap_lt h1
theorem RdAt.kept {w w' : World} {rb : Nat} {s : Option (List UInt8)} (h : RdAt w rb s) {F : List Nat} (k : Keeps F w w') (hF : ∀ x, x ∈ F → rb < x) : RdAt w' rb s := by
  have hn : rb ∉ F := fun hm => by have := hF rb hm; omega
  cases s with
  | none =>
    have h' : w.heap[rb]? = _ := h
    show w'.heap[rb]? = _
    rw [k.block rb (heap_lt h') hn]
    exact h'
  | some L =>
    obtain ⟨a, cp, h1, h2, h3, h4, h5⟩ := h
    refine ⟨a, cp, ?_, ?_, h3, h4, h5⟩
    · rw [k.block rb (heap_lt h1) hn]
      exact h1
    · by_cases e : L = []
      · exact .inl e
      · exact h2.kept k (fun b off e9 hm => by have := h5 e b off e9; have := hF b hm; omega)
theorem RdAt.quiet {w w' : World} {rb : Nat} {s : Option (List UInt8)} (h : RdAt w rb s) (k : Keeps [] w w') : RdAt w' rb s := h.kept k (fun x hx => by cases hx)
/-- What a reader's step tells: a value in new memory, what it has read, and what is left. -/
def RdPost {α : Type} (V : World → Value → α → Prop) (E : α → List UInt8) (ok : α → Prop) (w : World) (rb : Nat) (s : Option (List UInt8)) (e : Ending) (w' : World) : Prop :=
  ∃ v x s', e = .returned v ∧ V (above w.heap.size w') v x ∧ Stp E ok s x s' ∧ RdAt w' rb s' ∧ Keeps [rb] w w'

/-- A list of n parts of c cells each, of which the first l.length are there. -/
structure LM {α : Type} (V : World → Value → α → Prop) (w : World) (g n c : Nat) (T : TypeId) (l : List α) : Prop where
  ex : ∃ cur : Array Value, w.heap[g]? = some (.cells cur T (0, 0)) ∧ cur.size = n * c ∧ ∀ j y, l[j]? = some y → ∃ v, V (above (g + 1) w) v y ∧ ∀ i, i < c → cur[j * c + i]? = v.cells[i]?
theorem LM.kept {α : Type} {V : World → Value → α → Prop} {w w' : World} {g n c rb : Nat} {T : TypeId} {l : List α} (hV : SubV V) (h : LM V w g n c T l) (k : Keeps [rb] w w') (hr : rb < g) : LM V w' g n c T l := by
  obtain ⟨cur, h1, h2, h3⟩ := h.ex
  refine ⟨cur, ?_, h2, fun j y hy => ?_⟩
  · rw [k.block g (heap_lt h1) (by simp; omega)]
    exact h1
  · obtain ⟨v, h4, h5⟩ := h3 j y hy
    exact ⟨v, hV _ _ _ _ (Sub.kept k (fun x hx => by rw [List.mem_singleton] at hx; omega)) h4, h5⟩
/-- Cells that are stored one behind the other. -/
def putL (w : World) (g o : Nat) : Nat → List Value → World
  | _, [] => w
  | i, v :: vs => putL (w.setCell ⟨g, o + i, none⟩ v) g o (i + 1) vs
def setL (cur : Array Value) (o : Nat) : Nat → List Value → Array Value
  | _, [] => cur
  | i, v :: vs => setL (cur.setIfInBounds (o + i) v) o (i + 1) vs
theorem putL_heap {g o : Nat} {T : TypeId} : ∀ (vs : List Value) (i : Nat) (w : World) (cur : Array Value), w.heap[g]? = some (.cells cur T (0, 0)) → (putL w g o i vs).heap[g]? = some (.cells (setL cur o i vs) T (0, 0))
  | [], _, _, _, h => h
  | v :: vs, i, w, cur, h => putL_heap vs (i + 1) _ _ (heap_setCell_same w g (o + i) cur T v h)
theorem putL_keeps {g o : Nat} : ∀ (vs : List Value) (i : Nat) (w : World), Keeps [g] w (putL w g o i vs)
  | [], _, _ => Keeps.refl _ _
  | v :: vs, i, w => (Keeps.setCell [g] w ⟨g, o + i, none⟩ v (List.mem_singleton.2 rfl)).step (putL_keeps vs (i + 1) _)
theorem setL_size (o : Nat) : ∀ (vs : List Value) (i : Nat) (cur : Array Value), (setL cur o i vs).size = cur.size
  | [], _, _ => rfl
  | v :: vs, i, cur => by rw [setL, setL_size o vs, Array.size_setIfInBounds]
theorem setL_off (o : Nat) : ∀ (vs : List Value) (i : Nat) (cur : Array Value) (k : Nat), k < o + i ∨ o + i + vs.length ≤ k → (setL cur o i vs)[k]? = cur[k]?
  | [], _, _, _, _ => rfl
  | v :: vs, i, cur, k, h => by
    rw [List.length_cons] at h
    rw [setL, setL_off o vs (i + 1) _ k (by omega), Array.getElem?_setIfInBounds, if_neg (by omega)]
theorem setL_at (o : Nat) : ∀ (vs : List Value) (i : Nat) (cur : Array Value) (k : Nat), o + i + vs.length ≤ cur.size → k < vs.length → (setL cur o i vs)[o + i + k]? = vs[k]?
  | [], _, _, _, _, h => by simp at h
  | v :: vs, i, cur, k, hs, h => by
    rw [List.length_cons] at hs h
    rw [setL]
    cases k with
    | zero =>
      show (setL (cur.setIfInBounds (o + i) v) o (i + 1) vs)[o + i]? = some v
      rw [setL_off o vs (i + 1) _ (o + i) (by omega), Array.getElem?_setIfInBounds, if_pos rfl, if_pos (by omega)]
    | succ k =>
      have := setL_at o vs (i + 1) (cur.setIfInBounds (o + i) v) k (by rw [Array.size_setIfInBounds]; omega) (by omega)
      rw [show o + i + (k + 1) = o + (i + 1) + k by omega, this]
      rfl
/-- The next part is stored. -/
theorem LM.put {α : Type} {V : World → Value → α → Prop} {w : World} {g n c : Nat} {T : TypeId} {l : List α} (hV : SubV V) (h : LM V w g n c T l) (hl : l.length < n) {v : Value} {y : α} (hv : V (above (g + 1) w) v y) (hc : v.cells.toList.length = c) : LM V (putL w g (l.length * c) 0 v.cells.toList) g n c T (l ++ [y]) := by
  obtain ⟨cur, h1, h2, h3⟩ := h.ex
  have hfit : l.length * c + c ≤ n * c := by
    rw [← Nat.succ_mul]
    exact Nat.mul_le_mul_right c hl
  have hs := Sub.kept (B := g + 1) (putL_keeps (g := g) (o := l.length * c) v.cells.toList 0 w) (fun x hx => by rw [List.mem_singleton] at hx; omega)
  refine ⟨_, putL_heap v.cells.toList 0 w cur h1, by rw [setL_size, h2], fun j z hz => ?_⟩
  by_cases hj : j < l.length
  · rw [List.getElem?_append_left hj] at hz
    obtain ⟨u, h4, h5⟩ := h3 j z hz
    refine ⟨u, hV _ _ _ _ hs h4, fun i hi => ?_⟩
    rw [setL_off _ _ _ _ _ (.inl (by
      have : j * c + c ≤ l.length * c := by rw [← Nat.succ_mul]; exact Nat.mul_le_mul_right c hj
      omega))]
    exact h5 i hi
  · rw [List.getElem?_append_right (by omega)] at hz
    have e0 : j - l.length = 0 := by
      apply Classical.byContradiction
      intro hne
      rw [List.getElem?_eq_none (by simp; omega)] at hz
      cases hz
    rw [e0] at hz
    simp at hz
    subst hz
    obtain rfl : j = l.length := by omega
    refine ⟨v, hV _ _ _ _ hs hv, fun i hi => ?_⟩
    have := setL_at (l.length * c) v.cells.toList 0 cur i (by rw [h2, hc]; omega) (by omega)
    rw [Nat.add_zero] at this
    rw [this, Array.getElem?_toList]
/-- All parts are there. -/
theorem LM.rows {α : Type} {V : World → Value → α → Prop} {R : World → Nat → Nat → α → Prop} {w : World} {B g n c : Nat} {T : TypeId} {l : List α} (hV : SubV V) (hL : Links c V R) (h : LM V w g n c T l) (hB : B ≤ g) : RowsAt (above B w) c R (some ⟨g, 0, none⟩) l := by
  obtain ⟨cur, h1, h2, h3⟩ := h.ex
  refine .inr ⟨g, 0, rfl, fun j y hy => ?_⟩
  obtain ⟨v, h4, h5⟩ := h3 j y hy
  have h6 := hV _ _ _ _ (Sub.down w (show B ≤ g + 1 by omega)) h4
  refine (hL _ v y g (0 + j * c) h6).2 (fun i hi => ?_)
  rw [Nat.zero_add, ← h5 i hi]
  rw [World.cell?_of_block (w := w) (above_ge hB)]
  exact hcell h1 _
theorem LM.new {α : Type} {V : World → Value → α → Prop} {w : World} {g n c : Nat} {T : TypeId} {cur : Array Value} (h : w.heap[g]? = some (.cells cur T (0, 0))) (hs : cur.size = n * c) : LM V w g n c T ([] : List α) :=
  ⟨cur, h, hs, fun j y hy => by simp at hy⟩
/-- A cell that can be stored into. -/
theorem LM.cell {α : Type} {V : World → Value → α → Prop} {w : World} {g n c : Nat} {T : TypeId} {l : List α} (h : LM V w g n c T l) {k i : Nat} (hk : k < n) (hi : i < c) : (∃ u, w.cell? ⟨g, k * c + i, none⟩ = some u) ∧ w.frozen? ⟨g, k * c + i, none⟩ = false := by
  obtain ⟨cur, h1, h2, h3⟩ := h.ex
  have hfit : k * c + c ≤ n * c := by
    rw [← Nat.succ_mul]
    exact Nat.mul_le_mul_right c hk
  refine ⟨?_, pfrozen h1 _⟩
  rw [hcell h1]
  exact ⟨_, Array.getElem?_eq_getElem (by omega)⟩
end Go.Proofs.YtmipbaihlodmdaaDoor
