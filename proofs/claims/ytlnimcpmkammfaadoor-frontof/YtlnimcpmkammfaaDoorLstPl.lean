/-
  Plain facts: a set's numbers as one rising list.
-/
import Derived.Test.YtlnimcpmkammfaaDoorGPut
import Derived.Test.YtlnimcpmkammfaaDoorOf
namespace Go.Proofs.YtlnimcpmkammfaaDoor
open Go.RowKit

theorem sorted_ext : ∀ l1 l2 : List Int, l1.Pairwise (· < ·) → l2.Pairwise (· < ·) → (∀ x, x ∈ l1 ↔ x ∈ l2) → l1 = l2
  | [], [], _, _, _ => rfl
  | [], y :: ys, _, _, h => by have := (h y).2 (by simp); simp at this
  | x :: xs, [], _, _, h => by have := (h x).1 (by simp); simp at this
  | x :: xs, y :: ys, h1, h2, h => by
    rw [List.pairwise_cons] at h1 h2
    have hxy : x = y := by
      rcases List.mem_cons.1 ((h x).1 (by simp)) with e | hx
      · exact e
      · rcases List.mem_cons.1 ((h y).2 (by simp)) with e | hy
        · exact e.symm
        · have a := h2.1 x hx
          have b := h1.1 y hy
          omega
    subst hxy
    congr 1
    refine sorted_ext xs ys h1.2 h2.2 fun z => ?_
    constructor
    · intro hz
      rcases List.mem_cons.1 ((h z).1 (List.mem_cons_of_mem _ hz)) with e | hz'
      · have := h1.1 z hz; omega
      · exact hz'
    · intro hz
      rcases List.mem_cons.1 ((h z).2 (List.mem_cons_of_mem _ hz)) with e | hz'
      · have := h2.1 z hz; omega
      · exact hz'

/-- l is the rising list of s. -/
structure IsL (s : Nat → Bool) (l : List Int) : Prop where
  rise : l.Pairwise (· < ·)
  mem : ∀ x : Int, x ∈ l ↔ hasI s x = true

theorem IsL.uniq {s : Nat → Bool} {l1 l2 : List Int} (h1 : IsL s l1) (h2 : IsL s l2) : l1 = l2 :=
  sorted_ext l1 l2 h1.rise h2.rise fun x => (h1.mem x).trans (h2.mem x).symm

def elI (s : Nat → Bool) : List Int := (elems s).map fun n : Nat => (n : Int)

theorem elI_len (s : Nat → Bool) : (elI s).length = (elems s).length := by simp [elI]
theorem elI_le (s : Nat → Bool) : (elI s).length ≤ 5000 := by rw [elI_len]; exact pre_len s 5000

theorem elI_is (s : Nat → Bool) (hf : Fit s) : IsL s (elI s) := by
  refine ⟨?_, fun x => ?_⟩
  · unfold elI elems
    rw [List.pairwise_map]
    refine List.Pairwise.filter _ ?_
    exact (List.pairwise_lt_range).imp fun h => by omega
  · unfold elI elems hasI
    rw [List.mem_map]
    constructor
    · rintro ⟨n, hn, rfl⟩
      rw [List.mem_filter] at hn
      simp [hn.2]
    · intro h
      simp at h
      refine ⟨x.toNat, ?_, by omega⟩
      rw [List.mem_filter]
      refine ⟨?_, h.2⟩
      rw [List.mem_range]
      apply Nat.lt_of_not_le
      intro hle
      rw [hf _ hle] at h
      simp at h

theorem hasI_insI (s : Nat → Bool) (n x : Int) (h : 0 ≤ n ∧ n < 5000) : hasI (insI s n) x = (hasI s x || decide (x = n)) := by
  unfold hasI insI
  by_cases hx : 0 ≤ x
  · have e : ((x.toNat : Nat) : Int) = x := by omega
    have h5 : decide (n < 5000) = true := decide_eq_true h.2
    rw [e, h5]
    simp [hx]
  · have : ¬ x = n := by omega
    simp [hx, this]

theorem put_is (s : Nat → Bool) (l l' : List Int) (n : Int) (h : 0 ≤ n ∧ n < 5000) (hl : IsL s l) (hp : PutIs l n l') : IsL (insI s n) l' := by
  rcases hp with ⟨hm, rfl⟩ | ⟨hm, k, hk, h1, h2, rfl⟩
  · refine ⟨hl.rise, fun x => ?_⟩
    rw [hasI_insI s n x h, hl.mem x]
    by_cases hx : x = n
    · subst hx
      rw [(hl.mem x).1 hm]; simp
    · simp [hx]
  · have hbig : ∀ y, y ∈ l.drop k → n < y := by
      intro y hy
      have hkl : k < l.length := by
        apply Nat.lt_of_not_le
        intro hle
        rw [List.drop_eq_nil_of_le hle] at hy
        simp at hy
      have hge := h2 hkl
      have hne : l.getD k 0 ≠ n := fun e => hm (by rw [← e]; exact getD_mem' l k hkl)
      have hdr : l.drop k = l[k] :: l.drop (k + 1) := List.drop_eq_getElem_cons hkl
      have hgk : l.getD k 0 = l[k] := by simp [List.getD, List.getElem?_eq_getElem hkl]
      have hr := hl.rise.drop (i := k)
      rw [hdr] at hr hy
      rw [List.pairwise_cons] at hr
      rcases List.mem_cons.1 hy with e | hy'
      · rw [e]; omega
      · have := hr.1 y hy'; omega
    have hsmall : ∀ y, y ∈ l.take k → y < n := by
      intro y hy
      obtain ⟨i, hi, he⟩ := List.getElem_of_mem hy
      rw [List.length_take] at hi
      have := h1 i (by omega)
      rw [List.getElem_take] at he
      have hg : l.getD i 0 = l[i] := by simp [List.getD, List.getElem?_eq_getElem (show i < l.length by omega)]
      omega
    refine ⟨?_, fun x => ?_⟩
    · rw [List.pairwise_append]
      refine ⟨hl.rise.take, ?_, ?_⟩
      · rw [List.pairwise_cons]
        exact ⟨hbig, hl.rise.drop⟩
      · intro y hy z hz
        have a := hsmall y hy
        rcases List.mem_cons.1 hz with e | hz'
        · omega
        · have := hbig z hz'; omega
    · rw [hasI_insI s n x h, Bool.or_eq_true, ← hl.mem x, decide_eq_true_eq]
      have hsplit : x ∈ l ↔ x ∈ l.take k ∨ x ∈ l.drop k := by rw [← List.mem_append, List.take_append_drop]
      rw [hsplit, List.mem_append, List.mem_cons]
      constructor
      · rintro (a | a | a)
        · exact Or.inl (Or.inl a)
        · exact Or.inr a
        · exact Or.inl (Or.inr a)
      · rintro ((a | a) | a)
        · exact Or.inl a
        · exact Or.inr (Or.inr a)
        · exact Or.inr (Or.inl a)

theorem put_el (s : Nat → Bool) (hf : Fit s) (l' : List Int) (n : Int) (h : 0 ≤ n ∧ n < 5000) (hp : PutIs (elI s) n l') : l' = elI (insI s n) :=
  (put_is s _ l' n h (elI_is s hf) hp).uniq (elI_is _ (hf.ins n))

end Go.Proofs.YtlnimcpmkammfaaDoor
