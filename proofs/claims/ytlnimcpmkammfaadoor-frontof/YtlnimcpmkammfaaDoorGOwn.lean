/-
  A list of lists that the call has made: each list in a block of its own.
-/
import Derived.Test.YtlnimcpmkammfaaDoorGInto
namespace Go.Proofs.YtlnimcpmkammfaaDoor
open Go.RowKit

def nilS : Value := .slice none 0 0

/-- The outer row p of n lists; list i is the value vs i and holds L i. -/
structure OwnL (w : World) (base p n : Nat) (vs : Nat → Value) (L : Nat → List Nat) : Prop where
  outer : RowAt w base p n 23 vs
  inner : ∀ i, i < n → w.ownsRow base 3 1 (vs i) (L i).length (ints (L i))
  apart : ∀ i j k, i < n → j < n → (vs i).ownBlock = some k → (vs j).ownBlock = some k → i = j

theorem OwnL.ne {w : World} {base p n : Nat} {vs : Nat → Value} {L : Nat → List Nat} (h : OwnL w base p n vs L) {i : Nat} (hi : i < n) : (vs i).ownBlock ≠ some p := by
  obtain ⟨cur, hg⟩ := h.outer.heap
  exact Lib.ownBlock_ne (h.inner i hi) hg (by decide)
theorem OwnL.kept {w w' : World} {F : List Nat} {base p n : Nat} {vs : Nat → Value} {L : Nat → List Nat} (h : OwnL w base p n vs L) (k : Keeps F w w') (hp : p ∉ F) (hF : ∀ i, i < n → ∀ b, (vs i).ownBlock = some b → b ∉ F) : OwnL w' base p n vs L :=
  ⟨h.outer.kept k hp, fun i hi => ownsRow_keeps (h.inner i hi) k (hF i hi), h.apart⟩
theorem OwnL.quiet {w w' : World} {base p n : Nat} {vs : Nat → Value} {L : Nat → List Nat} (h : OwnL w base p n vs L) (k : Keeps [] w w') : OwnL w' base p n vs L :=
  h.kept k (by simp) (by simp)
/-- Blocks older than the lists are turned. -/
theorem OwnL.old {w w' : World} {F : List Nat} {base p n : Nat} {vs : Nat → Value} {L : Nat → List Nat} (h : OwnL w base p n vs L) (k : Keeps F w w') (hF : ∀ x, x ∈ F → x < base) : OwnL w' base p n vs L :=
  h.kept k (fun hx => by have := h.outer.lt; have := hF p hx; omega) (fun i hi b hb hx => by have := ((h.inner i hi).lt b hb).1; have := hF b hx; omega)
theorem OwnL.congr {w : World} {base p n : Nat} {vs vs' : Nat → Value} {L L' : Nat → List Nat} (h : OwnL w base p n vs L) (e : ∀ i, i < n → vs i = vs' i ∧ L i = L' i) : OwnL w base p n vs' L' := by
  refine ⟨h.outer.congr fun i hi => (e i hi).1, fun i hi => ?_, fun i j k hi hj h1 h2 => ?_⟩
  · rw [← (e i hi).1, ← (e i hi).2]; exact h.inner i hi
  · rw [← (e i hi).1] at h1
    rw [← (e j hj).1] at h2
    exact h.apart i j k hi hj h1 h2

/-- List k gets another value, in its own block or in a new one. -/
theorem OwnL.put {w wa w2 : World} {base p n : Nat} {vs : Nat → Value} {L : Nat → List Nat} (h : OwnL w base p n vs L) (ha : Keeps [] w wa) {k : Nat} (hk : k < n) {v' : Value} {l' : List Nat}
    (ho : w2.ownsRow base 3 1 v' l'.length (ints l')) (hg : wa.grownBy w2 (vs k).ownBlock) (hat : v'.ownBlock = (vs k).ownBlock ∨ v'.ownBlock = some wa.heap.size) :
    OwnL (w2.setCell ⟨p, k, none⟩ v') base p n (fun i => if i = k then v' else vs i) (fun i => if i = k then l' else L i) := by
  have h2 := h.quiet ha
  have hkeep : Keeps (vs k).ownBlock.toList wa w2 := Keeps.grown _ hg (fun x hx => by rw [hx]; simp)
  have hout : RowAt w2 base p n 23 vs := h2.outer.kept hkeep (fun hx => h2.ne hk (by simpa using hx))
  obtain ⟨cur, hgc⟩ := hout.heap
  have hothers : ∀ j, j < n → j ≠ k → w2.ownsRow base 3 1 (vs j) (L j).length (ints (L j)) := by
    intro j hj hjk
    refine ownsRow_keeps (h2.inner j hj) hkeep ?_
    intro b hb hx
    exact hjk (h.apart j k b hj hk hb (by simpa using hx))
  refine ⟨hout.put k v', fun j hj => ?_, fun i j q hi hj h1 h3 => ?_⟩
  · by_cases e : j = k
    · subst e
      rw [if_pos rfl, if_pos rfl]
      exact ownsRow_setCell_other ho (fun e => Lib.ownBlock_ne ho hgc (by decide) e) _
    · rw [if_neg e, if_neg e]
      exact ownsRow_setCell_other (hothers j hj e) (fun e2 => Lib.ownBlock_ne (hothers j hj e) hgc (by decide) e2) _
  · have hb : ∀ m, m < n → m ≠ k → (vs m).ownBlock = some q → v'.ownBlock ≠ some q := by
      intro m hm hmk hq e
      rcases hat with hx | hx
      · exact hmk (h.apart m k q hm hk hq (hx.symm.trans e))
      · rw [hx] at e
        have := ((h2.inner m hm).lt q hq).2
        simp at e
        omega
    by_cases ei : i = k
    · by_cases ej : j = k
      · omega
      · rw [if_pos ei] at h1
        rw [if_neg ej] at h3
        exact absurd h1 (hb j hj ej h3)
    · by_cases ej : j = k
      · rw [if_neg ei] at h1
        rw [if_pos ej] at h3
        exact absurd h3 (hb i hi ei h1)
      · rw [if_neg ei] at h1
        rw [if_neg ej] at h3
        exact h.apart i j q hi hj h1 h3
theorem OwnL.cell {w : World} {base p n : Nat} {vs : Nat → Value} {L : Nat → List Nat} (h : OwnL w base p n vs L) {k : Nat} (hk : k < n) : w.cell? ⟨p, k, none⟩ = some (vs k) := h.outer.cell hk
/-- n lists that are nil. -/
theorem OwnL.nil {w : World} {base p n : Nat} (h : RowAt w base p n 23 (fun _ => nilS)) : OwnL w base p n (fun _ => nilS) (fun _ => []) :=
  ⟨h, fun _ _ => World.ownsRow_nil w _ _ _, fun _ _ _ _ _ h1 _ => by simp [nilS, Value.ownBlock] at h1⟩

theorem ownsRow_nat {w : World} {base : Nat} {v : Value} {l : List Nat} (h : w.ownsRow base 3 1 v l.length (ints l)) : ∃ a cap, v = .slice a l.length cap ∧ NAt w w.heap.size a l ∧ l.length ≤ cap ∧ (∀ b off, a = some ⟨b, off, none⟩ → base ≤ b) := by
  rcases h.2 with ⟨rfl, h0⟩ | ⟨g, cap, cur, rfl, hb, hg, hn, _, _, ht⟩
  · have : l = [] := List.length_eq_zero_iff.1 h0
    subst this
    exact ⟨none, 0, rfl, .inl rfl, Nat.le_refl _, fun _ _ h => by cases h⟩
  · refine ⟨_, cap, rfl, .inr ⟨g, 0, rfl, (Array.getElem?_eq_some_iff.1 hg).1, fun i hi => ?_⟩, hn, fun b off e => ?_⟩
    · rw [intsI_len] at hi
      rw [Nat.zero_add, h.cellAt i (by omega), intsI_get]
      unfold ints
      rw [List.getElem?_map, List.getElem?_eq_getElem hi, List.getD_eq_getElem?_getD, List.getElem?_eq_getElem hi]
      rfl
    · simp at e
      omega

theorem nb_map (f : Nat → List Nat) (n k : Nat) (hk : k < n) : nb ((List.range n).map f) k = f k := by
  unfold nb
  rw [List.getD_eq_getElem?_getD, List.getElem?_map, List.getElem?_range hk]
  rfl
/-- The lists are a graph's. -/
theorem OwnL.graph {w : World} {base p n : Nat} {vs : Nat → Value} {L : Nat → List Nat} (h : OwnL w base p n vs L) : GAt w w.heap.size (some ⟨p, 0, none⟩) ((List.range n).map L) := by
  refine .inr ⟨p, 0, rfl, h.outer.lt.2, fun j hj => ?_⟩
  rw [listsI_len, List.length_map, List.length_range] at hj
  obtain ⟨a, cap, hv, hn, _, _⟩ := ownsRow_nat (h.inner j hj)
  refine ⟨a, cap, ?_, ?_⟩
  · rw [Nat.zero_add, h.cell hj, hv, listsI_get, intsI_len, nb_map L n j hj]
  · rw [listsI_get, nb_map L n j hj]; exact hn
end Go.Proofs.YtlnimcpmkammfaaDoor
