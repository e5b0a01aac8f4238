/-
  Plain facts: the groups below a number, one more at a time.
-/
import Derived.Test.YtllfgbgbbjajoaaUPlain
namespace Go.Proofs.Ytllfgbgbbjajoaa

theorem leads_succ (a : Nat) (r : Nat → Nat) : leads (a + 1) r = leads a r ++ (if r a = a then [a] else []) := by
  unfold leads
  rw [List.range_succ, List.filter_append]
  by_cases h : r a = a
  · simp [List.filter, h]
  · have e : (r a == a) = false := by simpa using h
    simp [List.filter, h, e]
theorem membs_succ (a : Nat) (r : Nat → Nat) (l : Nat) : membs (a + 1) r l = membs a r l ++ (if r a = l then [a] else []) := by
  unfold membs
  rw [List.range_succ, List.filter_append]
  by_cases h : r a = l
  · simp [List.filter, h]
  · have e : (r a == l) = false := by simpa using h
    simp [List.filter, h, e]
theorem leads_yes (a : Nat) (r : Nat → Nat) (h : r a = a) : leads (a + 1) r = leads a r ++ [a] := by rw [leads_succ, if_pos h]
theorem leads_no (a : Nat) (r : Nat → Nat) (h : r a ≠ a) : leads (a + 1) r = leads a r := by rw [leads_succ, if_neg h, List.append_nil]

theorem mem_leads (m : Nat) (r : Nat → Nat) (l : Nat) : l ∈ leads m r ↔ l < m ∧ r l = l := by
  unfold leads
  rw [List.mem_filter, List.mem_range]
  simp
theorem mem_membs (m : Nat) (r : Nat → Nat) (l k : Nat) : k ∈ membs m r l ↔ k < m ∧ r k = l := by
  unfold membs
  rw [List.mem_filter, List.mem_range]
  simp

theorem membs_self {n : Nat} {r : Nat → Nat} (h : Least n r) {a : Nat} (ha : a ≤ n) : membs a r a = [] := by
  apply List.eq_nil_iff_forall_not_mem.2
  intro k hk
  rw [mem_membs] at hk
  have := h.below k (by omega)
  omega

theorem leads_get (r : Nat → Nat) (l : Nat) (hl : r l = l) : ∀ m, l < m → (leads m r)[(leads l r).length]? = some l
  | 0, h => by omega
  | m + 1, h => by
    by_cases e : l = m
    · subst e
      rw [leads_yes l r hl]
      simp
    · have ih := leads_get r l hl m (by omega)
      rw [leads_succ, List.getElem?_append_left (List.getElem?_eq_some_iff.1 ih).1]
      exact ih
theorem leads_pos (r : Nat → Nat) (l : Nat) (hl : r l = l) (m : Nat) (h : l < m) : (leads l r).length < (leads m r).length :=
  (List.getElem?_eq_some_iff.1 (leads_get r l hl m h)).1
theorem leads_inj (r : Nat → Nat) : ∀ m i l, (leads m r)[i]? = some l → i = (leads l r).length
  | 0, i, l, h => by simp [leads] at h
  | m + 1, i, l, h => by
    rw [leads_succ] at h
    by_cases hi : i < (leads m r).length
    · rw [List.getElem?_append_left hi] at h
      exact leads_inj r m i l h
    · rw [List.getElem?_append_right (by omega)] at h
      by_cases hm : r m = m
      · rw [if_pos hm] at h
        have h2 := (List.getElem?_eq_some_iff.1 h).1
        simp at h2
        have h3 : i - (leads m r).length = 0 := by omega
        rw [h3] at h
        simp at h
        subst h
        omega
      · rw [if_neg hm] at h
        simp at h
theorem leads_mono (r : Nat → Nat) (a : Nat) : ∀ d, (leads a r).length ≤ (leads (a + d) r).length
  | 0 => Nat.le_refl _
  | d + 1 => by
    have h := leads_mono r a d
    rw [show a + (d + 1) = (a + d) + 1 from rfl, leads_succ, List.length_append]
    omega
theorem leads_le_of (r : Nat → Nat) {a n : Nat} (h : a ≤ n) : (leads a r).length ≤ (leads n r).length := by
  have := leads_mono r a (n - a)
  rw [show a + (n - a) = n by omega] at this
  exact this

/-- The groups' least ones below m, their members below a. -/
def half (m a : Nat) (r : Nat → Nat) : List (List Nat) := (leads m r).map (membs a r)
theorem half_len (m a : Nat) (r : Nat → Nat) : (half m a r).length = (leads m r).length := by unfold half; rw [List.length_map]
theorem half_self (m : Nat) (r : Nat → Nat) : half m m r = groups m r := rfl
theorem groups_len (m : Nat) (r : Nat → Nat) : (groups m r).length = (leads m r).length := half_len m m r

theorem half_yes {n : Nat} {r : Nat → Nat} (h : Least n r) {a : Nat} (ha : a < n) (hr : r a = a) : half (a + 1) a r = groups a r ++ [[]] := by
  unfold half groups
  rw [leads_yes a r hr, List.map_append]
  simp [membs_self h (Nat.le_of_lt ha)]
theorem half_no {r : Nat → Nat} {a : Nat} (hr : r a ≠ a) : half (a + 1) a r = groups a r := by
  unfold half groups
  rw [leads_no a r hr]

theorem half_at {n : Nat} {r : Nat → Nat} (h : Least n r) {a : Nat} (ha : a < n) : (half (a + 1) a r).getD (leads (r a) r).length [] = membs a r (r a) := by
  have hb := h.below a ha
  have hg := leads_get r (r a) (h.idem a ha) (a + 1) (by omega)
  unfold half
  rw [List.getD_eq_getElem?_getD, List.getElem?_map, hg]
  rfl

theorem half_next {n : Nat} {r : Nat → Nat} (h : Least n r) {a : Nat} (ha : a < n) : (half (a + 1) a r).set (leads (r a) r).length (membs a r (r a) ++ [a]) = groups (a + 1) r := by
  have hb := h.below a ha
  have hg := leads_get r (r a) (h.idem a ha) (a + 1) (by omega)
  apply List.ext_getElem?
  intro i
  rw [List.getElem?_set]
  unfold half groups
  rw [List.length_map, List.getElem?_map, List.getElem?_map]
  by_cases hi : (leads (r a) r).length = i
  · subst hi
    rw [if_pos rfl, if_pos (List.getElem?_eq_some_iff.1 hg).1, hg]
    simp [membs_succ]
  · rw [if_neg hi]
    cases hl : (leads (a + 1) r)[i]? with
    | none => rfl
    | some l =>
      have hne : r a ≠ l := by
        intro e
        have := leads_inj r (a + 1) i l hl
        rw [← e] at this
        exact hi this.symm
      simp [membs_succ, hne]

theorem half_pos {n : Nat} {r : Nat → Nat} (h : Least n r) {a : Nat} (ha : a < n) : (leads (r a) r).length < (half (a + 1) a r).length := by
  have hb := h.below a ha
  rw [half_len]
  exact leads_pos r (r a) (h.idem a ha) (a + 1) (by omega)
end Go.Proofs.Ytllfgbgbbjajoaa
