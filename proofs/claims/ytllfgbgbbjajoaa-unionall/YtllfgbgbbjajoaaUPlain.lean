/-
  Plain facts: numbers that are put together. f tells of each number the one above it, r the least of its group.
-/
namespace Go.Proofs.Ytllfgbgbbjajoaa

def upd (f : Nat → Nat) (a v : Nat) : Nat → Nat := fun k => if k = a then v else f k
theorem upd_at (f : Nat → Nat) (a v : Nat) : upd f a v a = v := by simp [upd]
theorem upd_off (f : Nat → Nat) (a v k : Nat) (h : k ≠ a) : upd f a v k = f k := by simp [upd, h]

structure Tree (n : Nat) (f r : Nat → Nat) : Prop where
  le : ∀ a, a < n → f a ≤ a
  step : ∀ a, a < n → r (f a) = r a
  fix : ∀ a, a < n → f a = a → r a = a

theorem Tree.low {n : Nat} {f r : Nat → Nat} (h : Tree n f r) : ∀ k a, a ≤ k → a < n → r a ≤ a ∧ f (r a) = r a
  | 0, a, ha, hn => by
    have h1 := h.le a hn
    have e : f a = a := by omega
    have e2 := h.fix a hn e
    rw [e2]
    exact ⟨Nat.le_refl _, e⟩
  | k + 1, a, ha, hn => by
    by_cases e : f a = a
    · have e2 := h.fix a hn e
      rw [e2]
      exact ⟨Nat.le_refl _, e⟩
    · have h1 := h.le a hn
      have h2 := h.low k (f a) (by omega) (by omega)
      rw [h.step a hn] at h2
      exact ⟨by omega, h2.2⟩
theorem Tree.below {n : Nat} {f r : Nat → Nat} (h : Tree n f r) {a : Nat} (ha : a < n) : r a ≤ a := (h.low a a (Nat.le_refl _) ha).1
theorem Tree.root {n : Nat} {f r : Nat → Nat} (h : Tree n f r) {a : Nat} (ha : a < n) : f (r a) = r a := (h.low a a (Nat.le_refl _) ha).2
theorem Tree.idem {n : Nat} {f r : Nat → Nat} (h : Tree n f r) {a : Nat} (ha : a < n) : r (r a) = r a := by
  have := h.below ha
  exact h.fix (r a) (by omega) (h.root ha)

theorem Tree.halve {n : Nat} {f r : Nat → Nat} (h : Tree n f r) {a : Nat} (ha : a < n) : Tree n (upd f a (f (f a))) r := by
  have h1 := h.le a ha
  have h2 := h.le (f a) (by omega)
  refine ⟨fun k hk => ?_, fun k hk => ?_, fun k hk e => ?_⟩
  · by_cases e : k = a
    · subst e; rw [upd_at]; omega
    · rw [upd_off f a _ k e]; exact h.le k hk
  · by_cases e : k = a
    · subst e; rw [upd_at, h.step (f k) (by omega), h.step k hk]
    · rw [upd_off f a _ k e]; exact h.step k hk
  · by_cases e2 : k = a
    · subst e2
      rw [upd_at] at e
      exact h.fix k hk (by omega)
    · rw [upd_off f a _ k e2] at e; exact h.fix k hk e

/-- The groups of x and y are one. -/
def joined (r : Nat → Nat) (x y : Nat) : Nat → Nat := fun k => if r k = max x y then min x y else r k

theorem joined_same (r : Nat → Nat) (x : Nat) : joined r x x = r := by
  funext k
  unfold joined
  by_cases h : r k = max x x
  · rw [if_pos h]; omega
  · rw [if_neg h]

theorem Tree.join {n : Nat} {f r : Nat → Nat} (h : Tree n f r) {x y : Nat} (hx : x < n) (hy : y < n) (rx : r x = x) (ry : r y = y) (hne : x ≠ y) : Tree n (upd f (max x y) (min x y)) (joined r x y) := by
  obtain ⟨hi, hhi⟩ : ∃ hi, max x y = hi := ⟨_, rfl⟩
  obtain ⟨lo, hlo⟩ : ∃ lo, min x y = lo := ⟨_, rfl⟩
  have hlt : lo < hi := by omega
  have hn : hi < n := by omega
  have rhi : r hi = hi := by rcases (by omega : hi = x ∨ hi = y) with e | e <;> rw [e] <;> assumption
  have rlo : r lo = lo := by rcases (by omega : lo = x ∨ lo = y) with e | e <;> rw [e] <;> assumption
  unfold joined
  rw [hhi, hlo]
  refine ⟨fun k hk => ?_, fun k hk => ?_, fun k hk e => ?_⟩
  · by_cases e : k = hi
    · subst e; rw [upd_at]; omega
    · rw [upd_off f hi _ k e]; exact h.le k hk
  · by_cases e : k = hi
    · subst e
      rw [upd_at]
      show (if r lo = k then lo else r lo) = (if r k = k then lo else r k)
      rw [if_pos rhi, rlo]
      split <;> rfl
    · rw [upd_off f hi _ k e]
      show (if r (f k) = hi then lo else r (f k)) = (if r k = hi then lo else r k)
      rw [h.step k hk]
  · by_cases e2 : k = hi
    · subst e2
      rw [upd_at] at e
      omega
    · rw [upd_off f hi _ k e2] at e
      have e3 := h.fix k hk e
      show (if r k = hi then lo else r k) = k
      rw [e3, if_neg e2]

theorem Tree.alone (n : Nat) : Tree n (fun k => k) (fun k => k) := ⟨fun _ _ => Nat.le_refl _, fun _ _ => rfl, fun _ _ e => e⟩

/-- What does not hang on how the groups are kept: r is the least of each group. -/
structure Least (n : Nat) (r : Nat → Nat) : Prop where
  below : ∀ a, a < n → r a ≤ a
  idem : ∀ a, a < n → r (r a) = r a
theorem Tree.least {n : Nat} {f r : Nat → Nat} (h : Tree n f r) : Least n r := ⟨fun _ => h.below, fun _ => h.idem⟩
theorem Least.lt {n : Nat} {r : Nat → Nat} (h : Least n r) {a : Nat} (ha : a < n) : r a < n := by have := h.below a ha; omega

/-- The least ones of the groups, rising; how many there are. -/
def leads (n : Nat) (r : Nat → Nat) : List Nat := (List.range n).filter fun a => r a == a
/-- Those of l's group below m, rising. -/
def membs (m : Nat) (r : Nat → Nat) (l : Nat) : List Nat := (List.range m).filter fun a => r a == l
/-- The groups below m. -/
def groups (m : Nat) (r : Nat → Nat) : List (List Nat) := (leads m r).map (membs m r)

theorem leads_le (n : Nat) (r : Nat → Nat) : (leads n r).length ≤ n := by
  have h := List.length_filter_le (fun a => r a == a) (List.range n)
  rw [List.length_range] at h
  exact h
theorem membs_le (m : Nat) (r : Nat → Nat) (l : Nat) : (membs m r l).length ≤ m := by
  have h := List.length_filter_le (fun a => r a == l) (List.range m)
  rw [List.length_range] at h
  exact h

theorem filter_one (p q : Nat → Bool) (h : Nat) (hp : p h = true) (hq : q h = false) (hs : ∀ k, k ≠ h → q k = p k) : ∀ N, ((List.range N).filter p).length = ((List.range N).filter q).length + (if h < N then 1 else 0)
  | 0 => by simp
  | N + 1 => by
    rw [List.range_succ, List.filter_append, List.filter_append, List.length_append, List.length_append, filter_one p q h hp hq hs N]
    by_cases e : N = h
    · subst e
      have h1 : ¬ N < N := by omega
      simp [List.filter, hp, hq]
    · have e2 : (List.filter q [N]).length = (List.filter p [N]).length := by simp [List.filter, hs N e]
      rw [e2]
      by_cases hl : h < N
      · have : h < N + 1 := by omega
        rw [if_pos hl, if_pos this]; omega
      · have : ¬ h < N + 1 := by omega
        rw [if_neg hl, if_neg this]; omega

theorem filter_range_congr (p q : Nat → Bool) : ∀ N, (∀ k, k < N → p k = q k) → (List.range N).filter p = (List.range N).filter q := by
  intro N h
  apply List.filter_congr
  intro k hk
  exact h k (List.mem_range.1 hk)

theorem leads_join {n : Nat} {r : Nat → Nat} {x y : Nat} (hx : x < n) (hy : y < n) (rx : r x = x) (ry : r y = y) (hne : x ≠ y) : (leads n r).length = (leads n (joined r x y)).length + 1 := by
  obtain ⟨hi, hhi⟩ : ∃ hi, max x y = hi := ⟨_, rfl⟩
  obtain ⟨lo, hlo⟩ : ∃ lo, min x y = lo := ⟨_, rfl⟩
  have hlt : lo < hi := by omega
  have hn : hi < n := by omega
  have rhi : r hi = hi := by rcases (by omega : hi = x ∨ hi = y) with e | e <;> rw [e] <;> assumption
  have rlo : r lo = lo := by rcases (by omega : lo = x ∨ lo = y) with e | e <;> rw [e] <;> assumption
  have key : leads n (joined r x y) = (List.range n).filter fun a => (r a == a) && !(a == hi) := by
    unfold leads
    apply filter_range_congr
    intro k hk
    unfold joined
    rw [hhi, hlo]
    by_cases e : k = hi
    · subst e
      rw [rhi, if_pos rfl]
      have : ¬ lo = k := by omega
      simp [this]
    · by_cases e2 : r k = hi
      · rw [if_pos e2, e2]
        have h1 : ¬ hi = k := fun x => e x.symm
        have h2 : ¬ lo = k := by
          intro h3
          rw [← h3, rlo] at e2
          omega
        have b1 : (hi == k) = false := by simpa using h1
        have b2 : (lo == k) = false := by simpa using h2
        rw [b1, b2]
        rfl
      · rw [if_neg e2]
        have : (k == hi) = false := by simpa using e
        rw [this]
        simp
  rw [key]
  unfold leads
  have := filter_one (fun a => r a == a) (fun a => (r a == a) && !(a == hi)) hi (by simp [rhi]) (by simp) (fun k hk => by simp [hk]) n
  rw [if_pos hn] at this
  exact this

theorem leads_alone (n : Nat) : leads n (fun k => k) = List.range n := by
  unfold leads
  apply List.filter_eq_self.2
  simp

theorem Least.join {n : Nat} {r : Nat → Nat} (h : Least n r) {x y : Nat} (rx : r x = x) (ry : r y = y) : Least n (joined r x y) := by
  obtain ⟨hi, hhi⟩ : ∃ hi, max x y = hi := ⟨_, rfl⟩
  obtain ⟨lo, hlo⟩ : ∃ lo, min x y = lo := ⟨_, rfl⟩
  have rhi : r hi = hi := by rcases (by omega : hi = x ∨ hi = y) with e | e <;> rw [e] <;> assumption
  have rlo : r lo = lo := by rcases (by omega : lo = x ∨ lo = y) with e | e <;> rw [e] <;> assumption
  unfold joined
  rw [hhi, hlo]
  refine ⟨fun k hk => ?_, fun k hk => ?_⟩
  · show (if r k = hi then lo else r k) ≤ k
    have h1 := h.below k hk
    by_cases e : r k = hi
    · rw [if_pos e]; omega
    · rw [if_neg e]; exact h1
  · show (if r (if r k = hi then lo else r k) = hi then lo else r (if r k = hi then lo else r k)) = (if r k = hi then lo else r k)
    by_cases e : r k = hi
    · rw [if_pos e, rlo]
      split <;> rfl
    · rw [if_neg e, h.idem k hk, if_neg e]

/-- What Find answers: the least of a's group, or -1. -/
def findI (n : Nat) (r : Nat → Nat) (a : Int) : Int := if 0 ≤ a ∧ a < n then ((r a.toNat : Nat) : Int) else -1
/-- What Join makes of the groups, and whether it changes them. -/
def joinI (n : Nat) (r : Nat → Nat) (a b : Int) : Nat → Nat := if (0 ≤ a ∧ a < n) ∧ (0 ≤ b ∧ b < n) then joined r (r a.toNat) (r b.toNat) else r
def joinB (n : Nat) (r : Nat → Nat) (a b : Int) : Bool := decide ((0 ≤ a ∧ a < n) ∧ (0 ≤ b ∧ b < n) ∧ r a.toNat ≠ r b.toNat)
def sameB (n : Nat) (r : Nat → Nat) (a b : Int) : Bool := decide ((0 ≤ a ∧ a < n) ∧ (0 ≤ b ∧ b < n) ∧ r a.toNat = r b.toNat)

theorem findI_in (n : Nat) (r : Nat → Nat) (k : Nat) (h : k < n) : findI n r (k : Int) = ((r k : Nat) : Int) := by
  unfold findI
  rw [if_pos (by omega)]
  simp
theorem findI_out (n : Nat) (r : Nat → Nat) (a : Int) (h : ¬ (0 ≤ a ∧ a < n)) : findI n r a = -1 := by
  unfold findI
  rw [if_neg h]
theorem joinI_out (n : Nat) (r : Nat → Nat) (a b : Int) (h : ¬ ((0 ≤ a ∧ a < n) ∧ (0 ≤ b ∧ b < n))) : joinI n r a b = r := by
  unfold joinI
  rw [if_neg h]
theorem joinI_in (n : Nat) (r : Nat → Nat) (a b : Nat) (ha : a < n) (hb : b < n) : joinI n r (a : Int) (b : Int) = joined r (r a) (r b) := by
  unfold joinI
  rw [if_pos (by omega)]
  simp
theorem Least.joinI {n : Nat} {r : Nat → Nat} (h : Least n r) (a b : Int) : Least n (joinI n r a b) := by
  by_cases hh : (0 ≤ a ∧ a < n) ∧ (0 ≤ b ∧ b < n)
  · obtain ⟨x, rfl⟩ := Int.eq_ofNat_of_zero_le hh.1.1
    obtain ⟨y, rfl⟩ := Int.eq_ofNat_of_zero_le hh.2.1
    rw [joinI_in n r x y (by omega) (by omega)]
    exact h.join (h.idem x (by omega)) (h.idem y (by omega))
  · rw [joinI_out n r a b hh]; exact h

end Go.Proofs.Ytllfgbgbbjajoaa
