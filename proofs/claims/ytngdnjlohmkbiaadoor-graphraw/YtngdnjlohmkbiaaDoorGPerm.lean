/-
  Plain facts: lists sorted by a key; the parts of a graph by their least nodes. No program stands in it.
-/
import Derived.Test.YtngdnjlohmkbiaaDoorGScc
namespace Go.Proofs.YtngdnjlohmkbiaaDoor

theorem pw_mono {α : Type} {R S : α → α → Prop} (h : ∀ a b, R a b → S a b) : ∀ {l : List α}, l.Pairwise R → l.Pairwise S
  | [], _ => List.Pairwise.nil
  | a :: l, hp => by
    rw [List.pairwise_cons] at hp ⊢
    exact ⟨fun b hb => h a b (hp.1 b hb), pw_mono h hp.2⟩
theorem pw_key {α : Type} (key : α → Nat) {a b : α} (hk : key a = key b) : ∀ {l : List α}, l.Pairwise (fun a b => key a < key b) → a ∈ l → b ∈ l → a = b
  | [], _, ha, _ => by cases ha
  | c :: l, hpw, ha, hb => by
    rw [List.pairwise_cons] at hpw
    rcases List.mem_cons.1 ha with ea | ea
    · rcases List.mem_cons.1 hb with eb | eb
      · rw [ea, eb]
      · have := hpw.1 b eb
        rw [← ea] at this
        omega
    · rcases List.mem_cons.1 hb with eb | eb
      · have := hpw.1 a ea
        rw [← eb] at this
        omega
      · exact pw_key key hk hpw.2 ea eb
theorem pw_nodup {α : Type} (key : α → Nat) : ∀ {l : List α}, l.Pairwise (fun a b => key a < key b) → l.Nodup
  | [], _ => List.nodup_nil
  | a :: l, hpw => by
    rw [List.pairwise_cons] at hpw
    rw [List.nodup_cons]
    refine ⟨fun ha => ?_, pw_nodup key hpw.2⟩
    have := hpw.1 a ha
    omega

/-- Of one and the same things, sorted by a key that parts them all, there is one list. -/
theorem sorted_one {α : Type} (key : α → Nat) {l1 l2 : List α} (hp : l1.Perm l2) (h1 : l1.Pairwise (fun a b => key a < key b)) (h2 : l2.Pairwise (fun a b => key a ≤ key b)) : l1 = l2 :=
  List.Perm.eq_of_pairwise (le := fun a b => key a ≤ key b) (fun _ _ ha hb h3 h4 => pw_key key (Nat.le_antisymm h3 h4) h1 ha (hp.mem_iff.2 hb)) (pw_mono (fun _ _ h => Nat.le_of_lt h) h1) h2 hp

theorem range_pw (n : Nat) : (List.range n).Pairwise (· < ·) := List.pairwise_lt_range
theorem asc_pw (n : Nat) (p : Nat → Bool) : ((List.range n).filter p).Pairwise (· < ·) := (range_pw n).filter p
theorem mem_asc {n : Nat} {l : List Nat} {x : Nat} : x ∈ asc n l ↔ x < n ∧ x ∈ l := by
  unfold asc; rw [List.mem_filter, List.mem_range, decide_eq_true_eq]

/-- Numbers that are sorted are the rising ones. -/
theorem sort_asc (n : Nat) (l : List Nat) (hn : l.Nodup) (hl : ∀ x, x ∈ l → x < n) : ((l.map fun x : Nat => (x : Int)).mergeSort fun x y => decide (x ≤ y)) = (asc n l).map fun x : Nat => (x : Int) := by
  have hs := List.pairwise_mergeSort (le := fun x y : Int => decide (x ≤ y)) (fun a b c h1 h2 => by simp at h1 h2 ⊢; omega) (fun a b => by simp; omega) (l.map fun x : Nat => (x : Int))
  have hp := List.mergeSort_perm (l.map fun x : Nat => (x : Int)) (fun x y => decide (x ≤ y))
  have hasc : (asc n l).Pairwise (· < ·) := asc_pw n _
  have hperm : (asc n l).Perm l := by
    rw [List.perm_ext_iff_of_nodup (pw_nodup (fun x => x) hasc) hn]
    intro x
    rw [mem_asc]
    exact ⟨fun h => h.2, fun h => ⟨hl x h, h⟩⟩
  refine (List.Perm.eq_of_pairwise (le := fun a b : Int => a ≤ b) (fun a b _ _ h1 h2 => Int.le_antisymm h1 h2) ?_ ?_ ((hperm.map _).trans hp.symm)).symm
  · rw [List.pairwise_map]
    exact pw_mono (fun a b h => by omega) hasc
  · exact pw_mono (fun a b h => by simpa using h) hs

def key0 (l : List Nat) : Nat := l.getD 0 0

theorem part_self {g : List (List Nat)} (hg : Ok g) {a : Nat} (ha : a < g.length) : a ∈ part g a := (mem_part hg a ha).2 ⟨ha, Mut.refl g a⟩
theorem head_least {p : Nat → Bool} {n a : Nat} (ha : a < n) (hp : p a = true) (hl : ∀ b, b < a → p b = false) : key0 ((List.range n).filter p) = a := by
  have e : List.range n = List.range a ++ (a :: (List.range' (a + 1) (n - a - 1))) := by
    have h1 : List.range n = List.range' 0 n := List.range_eq_range'
    have h2 : List.range a = List.range' 0 a := List.range_eq_range'
    have h3 : List.range' a (n - a) = a :: List.range' (a + 1) (n - a - 1) := by
      rw [show n - a = (n - a - 1) + 1 by omega, List.range'_succ]
      simp
    rw [h1, h2, ← h3]
    have h4 := List.range'_append (s := 0) (m := a) (n := n - a) (step := 1)
    rw [show 0 + 1 * a = a by omega, show a + (n - a) = n by omega] at h4
    exact h4.symm
  rw [e, List.filter_append]
  have h0 : (List.range a).filter p = [] := by
    rw [List.filter_eq_nil_iff]
    intro b hb
    rw [hl b (List.mem_range.1 hb)]
    decide
  rw [h0, List.nil_append, List.filter_cons_of_pos hp]
  rfl
theorem leastB_iff {g : List (List Nat)} (hg : Ok g) {a : Nat} (ha : a < g.length) : leastB g a = true ↔ ∀ b, b < a → ¬ Mut g a b := by
  unfold leastB
  rw [List.all_eq_true]
  constructor
  · intro h b hb hm
    have := h b (List.mem_range.2 hb)
    rw [(mut_iff hg ha (by omega)).2 hm] at this
    cases this
  · intro h b hb
    rw [List.mem_range] at hb
    cases e : mutB g a b with
    | false => rfl
    | true => exact absurd ((mut_iff hg ha (by omega)).1 e) (h b hb)
theorem part_head {g : List (List Nat)} (hg : Ok g) {a : Nat} (ha : a < g.length) (hl : leastB g a = true) : key0 (part g a) = a := by
  unfold part
  refine head_least ha ((mut_iff hg ha ha).2 (Mut.refl g a)) fun b hb => ?_
  cases e : mutB g a b with
  | false => rfl
  | true => exact absurd ((mut_iff hg ha (by omega)).1 e) ((leastB_iff hg ha).1 hl b hb)
theorem least_of {g : List (List Nat)} (hg : Ok g) : ∀ a, a < g.length → ∃ i, i ≤ a ∧ Mut g a i ∧ leastB g i = true := by
  intro a
  induction a using Nat.strongRecOn with
  | _ a ih =>
    intro ha
    cases e : leastB g a with
    | true => exact ⟨a, Nat.le_refl _, Mut.refl g a, e⟩
    | false =>
      have hne : ¬ ∀ b, b < a → ¬ Mut g a b := fun h => by rw [(leastB_iff hg ha).2 h] at e; cases e
      have : ∃ b, b < a ∧ Mut g a b := by
        refine Classical.byContradiction fun hn => hne fun b hb hm => hn ⟨b, hb, hm⟩
      obtain ⟨b, hb, hm⟩ := this
      obtain ⟨i, h1, h2, h3⟩ := ih b hb (by omega)
      exact ⟨i, by omega, hm.trans h2, h3⟩
theorem sccs_pw {g : List (List Nat)} (hg : Ok g) : (sccs g).Pairwise (fun a b => key0 a < key0 b) := by
  unfold sccs
  rw [List.pairwise_map]
  have h : ((List.range g.length).filter (leastB g)).Pairwise (· < ·) := asc_pw _ _
  have hm : ∀ x, x ∈ (List.range g.length).filter (leastB g) → key0 (part g x) = x := by
    intro x hx
    rw [List.mem_filter, List.mem_range] at hx
    exact part_head hg hx.1 hx.2
  have go : ∀ l : List Nat, (∀ x, x ∈ l → key0 (part g x) = x) → l.Pairwise (· < ·) → l.Pairwise (fun a b => key0 (part g a) < key0 (part g b)) := by
    intro l
    induction l with
    | nil => intro _ _; exact List.Pairwise.nil
    | cons a l ih =>
      intro hl hp
      rw [List.pairwise_cons] at hp ⊢
      refine ⟨fun b hb => ?_, ih (fun x hx => hl x (by simp [hx])) hp.2⟩
      rw [hl a (by simp), hl b (by simp [hb])]
      exact hp.1 b hb
  exact go _ hm h
theorem mem_sccs {g : List (List Nat)} (hg : Ok g) (p : List Nat) : p ∈ sccs g ↔ ∃ a, a < g.length ∧ p = part g a := by
  unfold sccs
  rw [List.mem_map]
  constructor
  · rintro ⟨a, ha, rfl⟩
    rw [List.mem_filter, List.mem_range] at ha
    exact ⟨a, ha.1, rfl⟩
  · rintro ⟨a, ha, rfl⟩
    obtain ⟨i, h1, h2, h3⟩ := least_of hg a ha
    exact ⟨i, by rw [List.mem_filter, List.mem_range]; exact ⟨by omega, h3⟩, (part_eq hg ha (by omega) h2).symm⟩
/-- What the second search finds are the parts. -/
theorem second_sccs {g : List (List Nat)} (hg : Ok g) : (sccs g).Perm (second (turnG g) (g.length + 1) (left g).reverse (noS, [])).2 := by
  have h := sec_end hg
  rw [List.perm_ext_iff_of_nodup (pw_nodup key0 (sccs_pw hg)) h.nodup]
  intro p
  rw [mem_sccs hg]
  constructor
  · rintro ⟨a, ha, rfl⟩
    refine h.all a (h.seen a ?_)
    rw [List.mem_reverse]
    exact ((left_spec g hg).iff a).2 ⟨a, List.mem_range.2 ha, Pth.refl rfl⟩
  · intro hp
    obtain ⟨a, ha, e, _⟩ := h.parts p hp
    exact ⟨a, ha, e⟩
end Go.Proofs.YtngdnjlohmkbiaaDoor
