/-
  Plain facts: the groups that pairs make, in whatever order they are put together.
-/
import Derived.Test.YtokoebbghkbliaaUPlain2
namespace Go.Proofs.Ytokoebbghkbliaa

def Inn (n : Nat) (p : Int × Int) : Prop := (0 ≤ p.1 ∧ p.1 < n) ∧ (0 ≤ p.2 ∧ p.2 < n)
def Resp (n : Nat) (S : Int × Int → Prop) (c : Nat → Nat) : Prop := ∀ p, S p → Inn n p → c p.1.toNat = c p.2.toNat

/-- r tells the least of each group that the pairs of S make: it joins what they join, and nothing else. -/
structure Gen (n : Nat) (S : Int × Int → Prop) (r : Nat → Nat) : Prop where
  least : Least n r
  resp : Resp n S r
  only : ∀ c, Resp n S c → ∀ a, a < n → c (r a) = c a

theorem Gen.congr {n : Nat} {S S' : Int × Int → Prop} {r : Nat → Nat} (h : Gen n S r) (e : ∀ p, S p ↔ S' p) : Gen n S' r :=
  ⟨h.least, fun p hp hi => h.resp p ((e p).2 hp) hi, fun c hc => h.only c fun p hp hi => hc p ((e p).1 hp) hi⟩
theorem gen_alone (n : Nat) (S : Int × Int → Prop) (h : ∀ p, ¬ S p) : Gen n S fun k => k :=
  ⟨⟨fun _ _ => Nat.le_refl _, fun _ _ => rfl⟩, fun p hp _ => absurd hp (h p), fun _ _ _ _ => rfl⟩

theorem joined_l (r : Nat → Nat) (a b : Nat) : joined r (r a) (r b) a = min (r a) (r b) := by
  unfold joined
  by_cases h : r a = max (r a) (r b)
  · rw [if_pos h]
  · rw [if_neg h]; omega
theorem joined_r (r : Nat → Nat) (a b : Nat) : joined r (r a) (r b) b = min (r a) (r b) := by
  unfold joined
  by_cases h : r b = max (r a) (r b)
  · rw [if_pos h]
  · rw [if_neg h]; omega

theorem Gen.step {n : Nat} {S : Int × Int → Prop} {r : Nat → Nat} (h : Gen n S r) (p : Int × Int) : Gen n (fun q => S q ∨ q = p) (joinI n r p.1 p.2) := by
  refine ⟨h.least.joinI _ _, ?_, ?_⟩
  · intro q hq hi
    by_cases hp : Inn n p
    · obtain ⟨p1, p2⟩ := p
      obtain ⟨x, hx⟩ := Int.eq_ofNat_of_zero_le hp.1.1
      obtain ⟨y, hy⟩ := Int.eq_ofNat_of_zero_le hp.2.1
      simp only at hx hy
      subst hx hy
      have hx : x < n := by have := hp.1.2; simp at this; exact this
      have hy : y < n := by have := hp.2.2; simp at this; exact this
      rw [joinI_in n r x y hx hy]
      rcases hq with hq | rfl
      · have := h.resp q hq hi
        unfold joined
        rw [this]
      · simp only [Int.toNat_natCast]
        rw [joined_l, joined_r]
    · rw [joinI_out n r _ _ hp]
      rcases hq with hq | rfl
      · exact h.resp q hq hi
      · exact absurd hi hp
  · intro c hc a ha
    have hcS : Resp n S c := fun q hq hi => hc q (Or.inl hq) hi
    have hra := h.only c hcS a ha
    by_cases hp : Inn n p
    · have hxy := hc p (Or.inr rfl) hp
      obtain ⟨p1, p2⟩ := p
      obtain ⟨x, hx⟩ := Int.eq_ofNat_of_zero_le hp.1.1
      obtain ⟨y, hy⟩ := Int.eq_ofNat_of_zero_le hp.2.1
      simp only at hx hy
      subst hx hy
      have hx : x < n := by have := hp.1.2; simp at this; exact this
      have hy : y < n := by have := hp.2.2; simp at this; exact this
      simp only [Int.toNat_natCast] at hxy
      have h1 := h.only c hcS x hx
      have h2 := h.only c hcS y hy
      rw [joinI_in n r x y hx hy]
      unfold joined
      by_cases e : r a = max (r x) (r y)
      · rw [if_pos e, ← hra, e]
        rcases (show (min (r x) (r y) = r x ∧ max (r x) (r y) = r y) ∨ (min (r x) (r y) = r y ∧ max (r x) (r y) = r x) by omega) with ⟨e1, e2⟩ | ⟨e1, e2⟩
        · rw [e1, e2, h1, h2, hxy]
        · rw [e1, e2, h1, h2, hxy]
      · rw [if_neg e]; exact hra
    · rw [joinI_out n r _ _ hp]; exact hra

theorem joined_comm (r : Nat → Nat) (x y : Nat) : joined r x y = joined r y x := by
  funext k
  unfold joined
  rw [Nat.max_comm, Nat.min_comm]
theorem joinI_comm (n : Nat) (r : Nat → Nat) (x y : Int) : joinI n r x y = joinI n r y x := by
  unfold joinI
  by_cases h : (0 ≤ x ∧ x < n) ∧ (0 ≤ y ∧ y < n)
  · rw [if_pos h, if_pos ⟨h.2, h.1⟩, joined_comm]
  · rw [if_neg h, if_neg (fun hh => h ⟨hh.2, hh.1⟩)]

theorem Gen.uniq {n : Nat} {S : Int × Int → Prop} {r1 r2 : Nat → Nat} (h1 : Gen n S r1) (h2 : Gen n S r2) : ∀ a, a < n → r1 a = r2 a := by
  intro a ha
  have e1 := h2.only r1 h1.resp a ha
  have e2 := h1.only r2 h2.resp a ha
  have l1 := h1.least.below (r2 a) (h2.least.lt ha)
  have l2 := h2.least.below (r1 a) (h1.least.lt ha)
  omega

theorem groups_congr (n : Nat) (r1 r2 : Nat → Nat) (h : ∀ a, a < n → r1 a = r2 a) : groups n r1 = groups n r2 := by
  have e : leads n r1 = leads n r2 := by
    unfold leads
    apply filter_range_congr
    intro k hk
    rw [h k hk]
  unfold groups
  rw [e]
  apply List.map_congr_left
  intro l _
  unfold membs
  apply filter_range_congr
  intro k hk
  rw [h k hk]

theorem mem_take_succ {α : Type} (zs : List α) (d : α) (k : Nat) (h : k < zs.length) (p : α) : p ∈ zs.take (k + 1) ↔ p ∈ zs.take k ∨ p = zs.getD k d := by
  rw [List.take_succ_eq_append_getElem h, List.mem_append, List.mem_singleton, List.getD_eq_getElem?_getD, List.getElem?_eq_getElem h]
  rfl
theorem mem_drop_succ {α : Type} (zs : List α) (d : α) (k : Nat) (h : k < zs.length) (p : α) : p ∈ zs.drop (zs.length - (k + 1)) ↔ p ∈ zs.drop (zs.length - k) ∨ p = zs.getD (zs.length - 1 - k) d := by
  have e : zs.length - (k + 1) = zs.length - 1 - k := by omega
  have e2 : zs.length - k = zs.length - 1 - k + 1 := by omega
  have hl : zs.length - 1 - k < zs.length := by omega
  rw [e, e2, List.drop_eq_getElem_cons hl, List.mem_cons, List.getD_eq_getElem?_getD, List.getElem?_eq_getElem hl]
  constructor
  · rintro (a | a)
    · exact Or.inr a
    · exact Or.inl a
  · rintro (a | a)
    · exact Or.inr a
    · exact Or.inl a
end Go.Proofs.Ytokoebbghkbliaa
