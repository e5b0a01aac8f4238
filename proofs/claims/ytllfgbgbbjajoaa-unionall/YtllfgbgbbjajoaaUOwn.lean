/-
  A list of lists of numbers that the call has made: each list in a block of its own.
-/
import Derived.Test.YtllfgbgbbjajoaaUMem
import Derived.Test.YtllfgbgbbjajoaaUPlain2
import Derived.Maps.AppendAt
import Derived.Lib.Builder
import Derived.Deep.OwnRows
import Derived.OwnWalk
namespace Go.Proofs.Ytllfgbgbbjajoaa
open Go.RowKit

/-- Numbers as values. -/
def ints (l : List Nat) : List Value := l.map fun n : Nat => .int .i64 (n : Int)
theorem ints_snoc (l : List Nat) (a : Nat) : ints (l ++ [a]) = ints l ++ [.int .i64 (a : Int)] := by unfold ints; rw [List.map_append]; rfl
theorem ints_len (l : List Nat) : (ints l).length = l.length := by unfold ints; rw [List.length_map]

def nilS : Value := .slice none 0 0

theorem ownsRow_keeps {w w' : World} {F : List Nat} {base : Nat} {e : TypeId} {size : Nat} {v : Value} {n : Nat} {xs : List Value} (h : w.ownsRow base e size v n xs) (k : Keeps F w w') (hF : ∀ b, v.ownBlock = some b → b ∉ F) : w'.ownsRow base e size v n xs := by
  refine ⟨h.1, ?_⟩
  rcases h.2 with hn | ⟨g, cap, cur, rfl, hb, hg, rest⟩
  · exact .inl hn
  · refine .inr ⟨g, cap, cur, rfl, hb, ?_, rest⟩
    rw [k.block g (Array.getElem?_eq_some_iff.1 hg).1 (hF g rfl)]
    exact hg

/-- None of these blocks is one of the lists': it is older, or of another type. -/
def Far (w : World) (base : Nat) (F : List Nat) : Prop := ∀ x, x ∈ F → x < base ∨ ∃ cs T fr, w.heap[x]? = some (.cells cs T fr) ∧ T ≠ 3 ∧ T ≠ 26

structure Own2 (w : World) (base g cap : Nat) (vs : List Value) (L : List (List Nat)) : Prop where
  outer : w.ownsRow base 26 1 (.slice (some ⟨g, 0, none⟩) L.length cap) L.length vs
  inner : ∀ j, j < L.length → w.ownsRow base 3 1 (vs.getD j nilS) (L.getD j []).length (ints (L.getD j []))
  apart : ∀ i j k, i < L.length → j < L.length → (vs.getD i nilS).ownBlock = some k → (vs.getD j nilS).ownBlock = some k → i = j

theorem Own2.len {w : World} {base g cap : Nat} {vs : List Value} {L : List (List Nat)} (h : Own2 w base g cap vs L) : vs.length = L.length := by
  have := h.outer.1
  omega
theorem Own2.outerHeap {w : World} {base g cap : Nat} {vs : List Value} {L : List (List Nat)} (h : Own2 w base g cap vs L) : base ≤ g ∧ g < w.heap.size ∧ ∃ cur, w.heap[g]? = some (.cells cur 26 (0, 0)) := by
  obtain ⟨h1, h2⟩ := h.outer.lt g rfl
  refine ⟨h1, h2, ?_⟩
  rcases h.outer.2 with ⟨h', _⟩ | ⟨g', cap', cur, h', _, hg, _⟩
  · simp at h'
  · simp only [Value.slice.injEq, Option.some.injEq, Addr.mk.injEq, and_true, true_and] at h'
    obtain ⟨rfl, rfl⟩ := h'
    exact ⟨cur, hg⟩
theorem Own2.innerNe {w : World} {base g cap : Nat} {vs : List Value} {L : List (List Nat)} (h : Own2 w base g cap vs L) {j : Nat} (hj : j < L.length) : (vs.getD j nilS).ownBlock ≠ some g := by
  obtain ⟨_, _, cur, hg⟩ := h.outerHeap
  exact Lib.ownBlock_ne (h.inner j hj) hg (by decide)

theorem Own2.kept {w w' : World} {F : List Nat} {base g cap : Nat} {vs : List Value} {L : List (List Nat)} (h : Own2 w base g cap vs L) (k : Keeps F w w') (hF : Far w base F) : Own2 w' base g cap vs L := by
  refine ⟨ownsRow_keeps h.outer k ?_, fun j hj => ownsRow_keeps (h.inner j hj) k ?_, h.apart⟩
  · intro b hb hx
    rcases hF b hx with hlt | ⟨cs, T, fr, hh, _, h2⟩
    · have := (h.outer.lt b hb).1; omega
    · exact Lib.ownBlock_ne h.outer hh h2 hb
  · intro b hb hx
    rcases hF b hx with hlt | ⟨cs, T, fr, hh, h1, _⟩
    · have := ((h.inner j hj).lt b hb).1; omega
    · exact Lib.ownBlock_ne (h.inner j hj) hh h1 hb
theorem Own2.quiet {w w' : World} {base g cap : Nat} {vs : List Value} {L : List (List Nat)} (h : Own2 w base g cap vs L) (k : Keeps [] w w') : Own2 w' base g cap vs L :=
  h.kept k (fun x hx => by simp at hx)

theorem getD_snoc_lt {α : Type} (l : List α) (x d : α) (j : Nat) (h : j < l.length) : (l ++ [x]).getD j d = l.getD j d := by
  rw [List.getD_eq_getElem?_getD, List.getD_eq_getElem?_getD, List.getElem?_append_left h]
theorem getD_snoc_at {α : Type} (l : List α) (x d : α) : (l ++ [x]).getD l.length d = x := by
  rw [List.getD_eq_getElem?_getD]; simp
theorem getD_set_ne {α : Type} (l : List α) (x d : α) (k j : Nat) (h : j ≠ k) : (l.set k x).getD j d = l.getD j d := by
  rw [List.getD_eq_getElem?_getD, List.getD_eq_getElem?_getD, List.getElem?_set_ne (fun e => h e.symm)]
theorem getD_set_at {α : Type} (l : List α) (x d : α) (k : Nat) (h : k < l.length) : (l.set k x).getD k d = x := by
  rw [List.getD_eq_getElem?_getD, List.getElem?_set_self h]; rfl

/-- One more list, empty, at the end. -/
theorem Own2.push {w wa w' : World} {base g cap : Nat} {vs : List Value} {L : List (List Nat)} (h : Own2 w base g cap vs L) (ha : Keeps [] w wa)
    (ho : w'.ownsRow base 26 1 (.slice (some ⟨g, 0, none⟩) (L.length + 1) cap) (L.length + 1) (vs ++ [nilS])) (hg : wa.grownBy w' (some g)) : Own2 w' base g cap (vs ++ [nilS]) (L ++ [[]]) := by
  have h2 := h.quiet ha
  have hl := h.len
  refine ⟨?_, fun j hj => ?_, fun i j k hi hj h1 h2' => ?_⟩
  · have e : (L ++ [[]]).length = L.length + 1 := by simp
    rw [e]
    exact ho
  · rw [List.length_append] at hj
    by_cases e : j < L.length
    · rw [getD_snoc_lt vs _ _ j (by omega), getD_snoc_lt L _ _ j e]
      exact (h2.inner j e).kept hg (.inr (h2.innerNe e))
    · obtain rfl : j = L.length := by simp at hj; omega
      rw [getD_snoc_at L, ← hl, getD_snoc_at vs]
      exact World.ownsRow_nil w' _ _ _
  · rw [List.length_append] at hi hj
    have nb : ∀ m, m < L.length + 1 → ((vs ++ [nilS]).getD m nilS).ownBlock = some k → m < L.length := by
      intro m hm hb
      by_cases e : m < L.length
      · exact e
      · obtain rfl : m = vs.length := by omega
        rw [getD_snoc_at vs] at hb
        simp [nilS, Value.ownBlock] at hb
    have hi' := nb i (by simpa using hi) h1
    have hj' := nb j (by simpa using hj) h2'
    rw [getD_snoc_lt vs _ _ i (by omega)] at h1
    rw [getD_snoc_lt vs _ _ j (by omega)] at h2'
    exact h.apart i j k hi' hj' h1 h2'

/-- One more number at the end of list k. -/
theorem Own2.grow {w wa w' : World} {base g cap : Nat} {vs : List Value} {L : List (List Nat)} (h : Own2 w base g cap vs L) (ha : Keeps [] w wa) {k : Nat} (hk : k < L.length) {v' : Value} {a : Nat}
    (ho : w'.ownsRow base 3 1 v' ((L.getD k []).length + 1) (ints (L.getD k []) ++ [.int .i64 (a : Int)])) (hg : wa.grownBy w' (vs.getD k nilS).ownBlock)
    (hat : v'.ownBlock = (vs.getD k nilS).ownBlock ∨ v'.ownBlock = some wa.heap.size) :
    Own2 (w'.setCell ⟨g, k, none⟩ v') base g cap (vs.set k v') (L.set k (L.getD k [] ++ [a])) := by
  have h2 := h.quiet ha
  have hl := h.len
  obtain ⟨hbg, hgw, _⟩ := h2.outerHeap
  have hout : w'.ownsRow base 26 1 (.slice (some ⟨g, 0, none⟩) L.length cap) L.length vs := by
    refine h2.outer.kept hg (.inr ?_)
    intro e
    exact h2.innerNe hk e.symm
  obtain ⟨hs1, hs2⟩ := hout.stored k v'
  have hgt : ∃ cur, w'.heap[g]? = some (.cells cur 26 (0, 0)) := by
    rcases hout.2 with ⟨h', _⟩ | ⟨g', cap', cur, h', _, hg, _⟩
    · simp at h'
    · simp only [Value.slice.injEq, Option.some.injEq, Addr.mk.injEq, and_true, true_and] at h'
      obtain ⟨rfl, rfl⟩ := h'
      exact ⟨cur, hg⟩
  obtain ⟨cur, hgc⟩ := hgt
  have hothers : ∀ j, j < L.length → j ≠ k → w'.ownsRow base 3 1 (vs.getD j nilS) (L.getD j []).length (ints (L.getD j [])) := by
    intro j hj hjk
    refine (h2.inner j hj).kept hg ?_
    cases hb : (vs.getD j nilS).ownBlock with
    | none => exact .inl rfl
    | some q =>
      right
      intro e
      exact hjk (h.apart j k q hj hk hb e.symm)
  refine ⟨?_, fun j hj => ?_, fun i j q hi hj h1 h3 => ?_⟩
  · rw [List.length_set]
    exact hs1
  · rw [List.length_set] at hj
    by_cases e : j = k
    · subst e
      rw [getD_set_at vs _ _ j (by omega), getD_set_at L _ _ j hj, ints_snoc, List.length_append]
      exact ownsRow_setCell_other ho (fun e => Lib.ownBlock_ne ho hgc (by decide) e) _
    · rw [getD_set_ne vs _ _ k j e, getD_set_ne L _ _ k j e]
      exact ownsRow_setCell_other (hothers j hj e) (fun e2 => Lib.ownBlock_ne (hothers j hj e) hgc (by decide) e2) _
  · rw [List.length_set] at hi hj
    have hb : ∀ m, m < L.length → m ≠ k → (vs.getD m nilS).ownBlock = some q → v'.ownBlock ≠ some q := by
      intro m hm hmk hq e
      rcases hat with hx | hx
      · exact hmk (h.apart m k q hm hk hq (hx.symm.trans e))
      · rw [hx] at e
        have := ((h2.inner m hm).lt q hq).2
        simp at e
        omega
    by_cases ei : i = k
    · by_cases ej : j = k
      · omega
      · subst ei
        rw [getD_set_at vs _ _ i (by omega)] at h1
        rw [getD_set_ne vs _ _ i j ej] at h3
        exact absurd h1 (hb j hj ej h3)
    · by_cases ej : j = k
      · subst ej
        rw [getD_set_at vs _ _ j (by omega)] at h3
        rw [getD_set_ne vs _ _ j i ei] at h1
        exact absurd h3 (hb i hi ei h1)
      · rw [getD_set_ne vs _ _ k i ei] at h1
        rw [getD_set_ne vs _ _ k j ej] at h3
        exact h.apart i j q hi hj h1 h3

theorem Own2.cell {w : World} {base g cap : Nat} {vs : List Value} {L : List (List Nat)} (h : Own2 w base g cap vs L) {k : Nat} (hk : k < L.length) : w.cell? ⟨g, k, none⟩ = some (vs.getD k nilS) := by
  have hl := h.len
  rw [h.outer.cellAt k (by omega), List.getD_eq_getElem?_getD, List.getElem?_eq_getElem (by omega)]
  rfl
end Go.Proofs.Ytllfgbgbbjajoaa
