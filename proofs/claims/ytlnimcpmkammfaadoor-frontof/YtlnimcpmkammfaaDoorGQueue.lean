/-
  Plain: a search by a queue that keeps off some nodes finds who is reached without them.
-/
import Derived.Test.YtlnimcpmkammfaaDoorGScc
namespace Go.Proofs.YtlnimcpmkammfaaDoor

/-- One more into the queue, if it is new and not barred. -/
def push1 (av : Nat → Bool) (st : (Nat → Bool) × List Nat) (b : Nat) : (Nat → Bool) × List Nat := if st.1 b = true ∨ av b = true then st else (ins st.1 b, st.2 ++ [b])
def pushes (av : Nat → Bool) (st : (Nat → Bool) × List Nat) (l : List Nat) : (Nat → Bool) × List Nat := l.foldl (push1 av) st
theorem pushes_cons (av : Nat → Bool) (st : (Nat → Bool) × List Nat) (b : Nat) (l : List Nat) : pushes av st (b :: l) = pushes av (push1 av st b) l := rfl
theorem pushes_snoc (av : Nat → Bool) (st : (Nat → Bool) × List Nat) (b : Nat) (l : List Nat) : pushes av st (l ++ [b]) = push1 av (pushes av st l) b := by
  unfold pushes
  rw [List.foldl_append]
  rfl
theorem ins_true {s : Nat → Bool} {b u : Nat} : ins s b u = true ↔ s u = true ∨ u = b := by
  show (s u || (u == b)) = true ↔ _
  rw [Bool.or_eq_true, beq_iff_eq]
theorem push1_set (av : Nat → Bool) (st : (Nat → Bool) × List Nat) (b u : Nat) : (push1 av st b).1 u = true ↔ st.1 u = true ∨ (u = b ∧ av b = false) := by
  unfold push1
  by_cases h : st.1 b = true ∨ av b = true
  · rw [if_pos h]
    constructor
    · exact .inl
    · rintro (h1 | ⟨rfl, h1⟩)
      · exact h1
      · rcases h with h | h
        · exact h
        · rw [h1] at h; cases h
  · rw [if_neg h, ins_true]
    have h2 : av b = false := by
      cases e : av b with
      | false => rfl
      | true => exact absurd (.inr e) h
    exact ⟨fun q => q.imp id fun e => ⟨e, h2⟩, fun q => q.imp id fun e => e.1⟩
theorem push1_line (av : Nat → Bool) (st : (Nat → Bool) × List Nat) (b u : Nat) : u ∈ (push1 av st b).2 ↔ u ∈ st.2 ∨ (u = b ∧ st.1 u = false ∧ av u = false) := by
  unfold push1
  by_cases h : st.1 b = true ∨ av b = true
  · rw [if_pos h]
    constructor
    · exact .inl
    · rintro (h1 | ⟨rfl, h2, h3⟩)
      · exact h1
      · rcases h with h | h
        · rw [h] at h2; cases h2
        · rw [h] at h3; cases h3
  · rw [if_neg h]
    have h1 : st.1 b = false := by
      cases e : st.1 b with
      | false => rfl
      | true => exact absurd (.inl e) h
    have h2 : av b = false := by
      cases e : av b with
      | false => rfl
      | true => exact absurd (.inr e) h
    simp only [List.mem_append, List.mem_singleton]
    constructor
    · rintro (h3 | rfl)
      · exact .inl h3
      · exact .inr ⟨rfl, h1, h2⟩
    · rintro (h3 | ⟨rfl, _⟩)
      · exact .inl h3
      · exact .inr rfl
theorem pushes_set (av : Nat → Bool) (l : List Nat) : ∀ (st : (Nat → Bool) × List Nat) (u : Nat), (pushes av st l).1 u = true ↔ st.1 u = true ∨ (u ∈ l ∧ av u = false) := by
  induction l with
  | nil => intro st u; simp [pushes]
  | cons b l ih =>
    intro st u
    rw [pushes_cons, ih, push1_set, List.mem_cons, or_assoc]
    refine or_congr Iff.rfl ?_
    constructor
    · rintro (⟨rfl, h⟩ | ⟨h1, h2⟩)
      · exact ⟨.inl rfl, h⟩
      · exact ⟨.inr h1, h2⟩
    · rintro ⟨rfl | h1, h2⟩
      · exact .inl ⟨rfl, h2⟩
      · exact .inr ⟨h1, h2⟩
theorem pushes_keep (av : Nat → Bool) (l : List Nat) : ∀ (st : (Nat → Bool) × List Nat) (u : Nat), u ∈ st.2 → u ∈ (pushes av st l).2 := by
  induction l with
  | nil => intro st u h; exact h
  | cons b l ih => intro st u h; rw [pushes_cons]; exact ih _ u ((push1_line av st b u).2 (.inl h))
theorem pushes_new (av : Nat → Bool) (l : List Nat) : ∀ (st : (Nat → Bool) × List Nat) (u : Nat), (pushes av st l).1 u = true → st.1 u = false → u ∈ (pushes av st l).2 := by
  induction l with
  | nil => intro st u h1 h2; rw [show (pushes av st []).1 u = st.1 u from rfl, h2] at h1; cases h1
  | cons b l ih =>
    intro st u h1 h2
    rw [pushes_cons] at h1 ⊢
    cases h3 : (push1 av st b).1 u with
    | false => exact ih _ u h1 h3
    | true =>
      rcases (push1_set av st b u).1 h3 with h4 | ⟨rfl, h4⟩
      · rw [h2] at h4; cases h4
      · exact pushes_keep av l _ u ((push1_line av st u u).2 (.inr ⟨rfl, h2, h4⟩))
theorem pushes_in (av : Nat → Bool) (l : List Nat) : ∀ (st : (Nat → Bool) × List Nat), (∀ u, u ∈ st.2 → st.1 u = true) → ∀ u, u ∈ (pushes av st l).2 → (pushes av st l).1 u = true := by
  induction l with
  | nil => intro st h u hu; exact h u hu
  | cons b l ih =>
    intro st h u hu
    rw [pushes_cons] at hu ⊢
    refine ih _ (fun v hv => ?_) u hu
    rcases (push1_line av st b v).1 hv with h1 | ⟨rfl, _, h2⟩
    · exact (push1_set av st b v).2 (.inl (h v h1))
    · exact (push1_set av st v v).2 (.inr ⟨rfl, h2⟩)
theorem pushes_un (av : Nat → Bool) (g : List (List Nat)) (l : List Nat) : ∀ (st : (Nat → Bool) × List Nat), (∀ b, b ∈ l → b < g.length) → un g (pushes av st l).1 + (pushes av st l).2.length ≤ un g st.1 + st.2.length := by
  induction l with
  | nil => intro st _; exact Nat.le_refl _
  | cons b l ih =>
    intro st hl
    rw [pushes_cons]
    refine Nat.le_trans (ih _ (fun x hx => hl x (by simp [hx]))) ?_
    unfold push1
    by_cases h : st.1 b = true ∨ av b = true
    · rw [if_pos h]; exact Nat.le_refl _
    · rw [if_neg h]
      have h1 : st.1 b = false := by
        cases e : st.1 b with
        | false => rfl
        | true => exact absurd (.inl e) h
      have := un_ins g st.1 b h1 (hl b (by simp))
      simp only [List.length_append, List.length_singleton]
      omega
theorem pushes_lt (av : Nat → Bool) {N : Nat} (l : List Nat) : ∀ (st : (Nat → Bool) × List Nat), (∀ b, b ∈ l → b < N) → (∀ u, u ∈ st.2 → u < N) → ∀ u, u ∈ (pushes av st l).2 → u < N := by
  induction l with
  | nil => intro st _ h u hu; exact h u hu
  | cons b l ih =>
    intro st hl h u hu
    rw [pushes_cons] at hu
    refine ih _ (fun x hx => hl x (by simp [hx])) (fun v hv => ?_) u hu
    rcases (push1_line av st b v).1 hv with h1 | ⟨rfl, _⟩
    · exact h v h1
    · exact hl v (by simp)
structure Qu (g : List (List Nat)) (av : Nat → Bool) (ns : List Nat) (st : (Nat → Bool) × List Nat) : Prop where
  from_ : ∀ u, st.1 u = true → ∃ z, z ∈ ns ∧ Pth g av z u
  line : ∀ u, u ∈ st.2 → st.1 u = true
  closed : ∀ u, st.1 u = true → u ∉ st.2 → ∀ v, v ∈ nb g u → av v = false → st.1 v = true
  start : ∀ z, z ∈ ns → av z = false → st.1 z = true
theorem Qu.begin (g : List (List Nat)) (av : Nat → Bool) (ns : List Nat) : Qu g av ns (pushes av (noS, []) ns) := by
  have h0 : ∀ u, noS u = false := fun _ => rfl
  refine ⟨fun u hu => ?_, pushes_in av ns _ (by simp), fun u hu hn => absurd (pushes_new av ns (noS, []) u hu (h0 u)) hn, fun z hz ha => (pushes_set av ns _ z).2 (.inr ⟨hz, ha⟩)⟩
  rcases (pushes_set av ns _ u).1 hu with h | ⟨h, ha⟩
  · cases h
  · exact ⟨u, h, Pth.refl ha⟩
theorem Qu.step {g : List (List Nat)} {av : Nat → Bool} {ns : List Nat} {s : Nat → Bool} {a : Nat} {q : List Nat} (h : Qu g av ns (s, a :: q)) : Qu g av ns (pushes av (s, q) (nb g a)) := by
  have ha : s a = true := h.line a (by simp)
  refine ⟨fun u hu => ?_, pushes_in av _ _ (fun u hu => h.line u (List.mem_cons_of_mem _ hu)), fun u hu hn v hv hav => ?_, fun z hz hav => (pushes_set av _ _ z).2 (.inl (h.start z hz hav))⟩
  · rcases (pushes_set av _ _ u).1 hu with h1 | ⟨h1, h2⟩
    · exact h.from_ u h1
    · obtain ⟨z, hz, p⟩ := h.from_ a ha
      exact ⟨z, hz, p.snoc h1 h2⟩
  · by_cases hs : s u = true
    · by_cases e : u = a
      · subst e; exact (pushes_set av _ _ v).2 (.inr ⟨hv, hav⟩)
      · have hnq : u ∉ a :: q := by
          intro hm
          rcases List.mem_cons.1 hm with h1 | h1
          · exact e h1
          · exact hn (pushes_keep av _ _ u h1)
        exact (pushes_set av _ _ v).2 (.inl (h.closed u hs hnq v hv hav))
    · exact absurd (pushes_new av _ (s, q) u hu (by simpa using hs)) hn
theorem Qu.done {g : List (List Nat)} {av : Nat → Bool} {ns : List Nat} {st : (Nat → Bool) × List Nat} (h : Qu g av ns st) (he : st.2 = []) (u : Nat) : st.1 u = true ↔ ∃ z, z ∈ ns ∧ Pth g av z u := by
  refine ⟨h.from_ u, ?_⟩
  rintro ⟨z, hz, p⟩
  exact p.carry (C := fun u => st.1 u = true) (fun x hx _ v hv hs => h.closed x hx (by rw [he]; simp) v hv hs) (h.start z hz p.start)
end Go.Proofs.YtlnimcpmkammfaaDoor
