/-
  A new list is put into its place in a list of lists.
-/
import Derived.Test.YtlnimcpmkammfaaDoorGLaw
namespace Go.Proofs.YtlnimcpmkammfaaDoor
open Go.RowKit

/-- A new list is put into its place. -/
theorem OwnL.lit {w : World} {base p n : Nat} {vs : Nat → Value} {L : Nat → List Nat} (h : OwnL w base p n vs L) {k : Nat} (hk : k < n) (l : List Nat) (xs : Array Value) (hx : xs = (ints l).toArray) (hl : l.length ≤ maxLen) (hb : base ≤ w.heap.size) :
    OwnL ((w.alloc (.cells xs 3)).setCell ⟨p, k, none⟩ (.slice (some ⟨w.heap.size, 0, none⟩) l.length l.length)) base p n (fun i => if i = k then .slice (some ⟨w.heap.size, 0, none⟩) l.length l.length else vs i) (fun i => if i = k then l else L i) := by
  have ka : Keeps [] w (w.alloc (.cells xs 3)) := Keeps.alloc _ _ _
  have h2 := h.quiet ka
  have hnew : (w.alloc (.cells xs 3)).ownsRow base 3 1 (.slice (some ⟨w.heap.size, 0, none⟩) l.length l.length) l.length (ints l) := by
    refine ⟨by simp [ints], .inr ⟨w.heap.size, l.length, xs, rfl, hb, heap_alloc_new w _, Nat.le_refl _, hl, by rw [hx]; simp [ints], ?_⟩⟩
    rw [hx, List.take_of_length_le (by simp [ints])]
  have ks : Keeps [p] (w.alloc (.cells xs 3)) ((w.alloc (.cells xs 3)).setCell ⟨p, k, none⟩ (.slice (some ⟨w.heap.size, 0, none⟩) l.length l.length)) := Keeps.setCell _ _ _ _ (by simp)
  have hp := h.outer.lt.2
  refine ⟨h2.outer.put k _, fun i hi => ?_, fun i j b hi hj hbi hbj => ?_⟩
  · by_cases e : i = k
    · subst e
      simp only [if_true]
      exact ownsRow_keeps hnew ks (fun b hb' => by simp [Value.ownBlock] at hb'; simp; omega)
    · simp only [e, if_false]
      exact ownsRow_keeps (h2.inner i hi) ks (fun b hb' hx' => h2.ne hi (by simp at hx'; rw [hb', hx']))
  · by_cases e1 : i = k
    · by_cases e2 : j = k
      · omega
      · simp only [e1, if_true] at hbi
        simp only [e2, if_false] at hbj
        have := ((h.inner j hj).lt b hbj).2
        simp [Value.ownBlock] at hbi
        omega
    · by_cases e2 : j = k
      · simp only [e2, if_true] at hbj
        simp only [e1, if_false] at hbi
        have := ((h.inner i hi).lt b hbi).2
        simp [Value.ownBlock] at hbj
        omega
      · simp only [e1, if_false] at hbi
        simp only [e2, if_false] at hbj
        exact h.apart i j b hi hj hbi hbj

end Go.Proofs.YtlnimcpmkammfaaDoor
