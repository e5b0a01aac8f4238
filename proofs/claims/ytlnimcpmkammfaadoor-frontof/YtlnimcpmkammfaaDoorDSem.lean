/-
  Plain: a search's tree, semidominators, who stands next above. No program stands in it.
-/
import Derived.Test.YtlnimcpmkammfaaDoorGScc
namespace Go.Proofs.YtlnimcpmkammfaaDoor

/-- Steps up. -/
def it (p : Nat → Nat) : Nat → Nat → Nat
  | 0, b => b
  | i + 1, b => it p i (p b)
def Anc (p : Nat → Nat) (a b : Nat) : Prop := ∃ i, it p i b = a
theorem Anc.refl (p : Nat → Nat) (a : Nat) : Anc p a a := ⟨0, rfl⟩
theorem Anc.up {p : Nat → Nat} {a b : Nat} (h : Anc p a (p b)) : Anc p a b := by
  obtain ⟨i, h⟩ := h
  exact ⟨i + 1, h⟩
theorem Anc.par (p : Nat → Nat) (b : Nat) : Anc p (p b) b := (Anc.refl p (p b)).up
theorem Anc.cases {p : Nat → Nat} {a b : Nat} (h : Anc p a b) : a = b ∨ Anc p a (p b) := by
  obtain ⟨i, h⟩ := h
  cases i with
  | zero => exact .inl h.symm
  | succ i => exact .inr ⟨i, h⟩
theorem it_it (p : Nat → Nat) (i : Nat) : ∀ (j b : Nat), it p i (it p j b) = it p (j + i) b
  | 0, b => by rw [Nat.zero_add]; rfl
  | j + 1, b => by
    rw [Nat.add_right_comm]
    exact it_it p i j (p b)
theorem Anc.trans {p : Nat → Nat} {a b c : Nat} (h : Anc p a b) (k : Anc p b c) : Anc p a c := by
  obtain ⟨i, rfl⟩ := h
  obtain ⟨j, rfl⟩ := k
  exact ⟨j + i, (it_it p i j c).symm⟩

/-- A way of k edges from a to b, of all of whose nodes C holds. -/
def Wy (E : Nat → Nat → Prop) (C : Nat → Prop) : Nat → Nat → Nat → Prop
  | 0, a, b => C a ∧ a = b
  | k + 1, a, b => C a ∧ ∃ c, E a c ∧ Wy E C k c b
theorem Wy.start {E : Nat → Nat → Prop} {C : Nat → Prop} {k a b : Nat} (h : Wy E C k a b) : C a := by
  cases k with
  | zero => exact h.1
  | succ k => exact h.1
theorem Wy.mono {E : Nat → Nat → Prop} {C D : Nat → Prop} (h : ∀ x, C x → D x) {b : Nat} : ∀ {k a : Nat}, Wy E C k a b → Wy E D k a b
  | 0, _, w => ⟨h _ w.1, w.2⟩
  | k + 1, _, w => by
    obtain ⟨h1, c, hc, hw⟩ := w
    exact ⟨h _ h1, c, hc, hw.mono h⟩
theorem Wy.trans {E : Nat → Nat → Prop} {C : Nat → Prop} {b c j : Nat} (h2 : Wy E C j b c) : ∀ {k a : Nat}, Wy E C k a b → Wy E C (k + j) a c
  | 0, a, h => by rw [h.2, Nat.zero_add]; exact h2
  | k + 1, a, h => by
    obtain ⟨h1, d, hd, hw⟩ := h
    rw [Nat.add_right_comm]
    exact ⟨h1, d, hd, Wy.trans h2 hw⟩
theorem Wy.stop {E : Nat → Nat → Prop} {C : Nat → Prop} {b : Nat} : ∀ {k a : Nat}, Wy E C k a b → C b
  | 0, _, h => by rw [← h.2]; exact h.1
  | k + 1, _, h => by obtain ⟨_, c, _, hw⟩ := h; exact Wy.stop hw
theorem Wy.one {E : Nat → Nat → Prop} {C : Nat → Prop} {a b : Nat} (ha : C a) (h : E a b) (hb : C b) : Wy E C 1 a b := ⟨ha, b, h, hb, rfl⟩
theorem Wy.snoc {E : Nat → Nat → Prop} {C : Nat → Prop} {k a b c : Nat} (h : Wy E C k a b) (e : E b c) (hc : C c) : Wy E C (k + 1) a c := Wy.trans (Wy.one h.stop e hc) h

/-- A search's tree: places 0 to K - 1, their edges, their parents. -/
structure Tr (K : Nat) (E : Nat → Nat → Prop) (p : Nat → Nat) : Prop where
  pos : 0 < K
  p0 : p 0 = 0
  lt : ∀ k, 0 < k → k < K → p k < k
  prev : ∀ k, 0 < k → k < K → Anc p (p k) (k - 1)
  tree : ∀ k, 0 < k → k < K → E (p k) k
  edge : ∀ a b, E a b → a < b → Anc p a b
  rng : ∀ a b, E a b → a < K ∧ b < K

theorem Tr.anc_le {K : Nat} {E : Nat → Nat → Prop} {p : Nat → Nat} (t : Tr K E p) : ∀ {i b a : Nat}, b < K → it p i b = a → a ≤ b
  | 0, b, a, _, h => by have h' : b = a := h; omega
  | i + 1, b, a, hb, h => by
    by_cases h0 : b = 0
    · subst h0
      have h' : it p i (p 0) = a := h
      rw [t.p0] at h'
      exact t.anc_le (i := i) hb h'
    · have h1 := t.lt b (by omega) hb
      have := t.anc_le (i := i) (b := p b) (by omega) h
      omega
theorem Tr.le {K : Nat} {E : Nat → Nat → Prop} {p : Nat → Nat} (t : Tr K E p) {a b : Nat} (hb : b < K) (h : Anc p a b) : a ≤ b := by
  obtain ⟨i, h⟩ := h
  exact t.anc_le hb h
theorem Tr.root {K : Nat} {E : Nat → Nat → Prop} {p : Nat → Nat} (t : Tr K E p) : ∀ (n b : Nat), b ≤ n → b < K → Anc p 0 b
  | 0, b, h, _ => by rw [show b = 0 by omega]; exact Anc.refl p 0
  | n + 1, b, h, hb => by
    by_cases h0 : b = 0
    · subst h0; exact Anc.refl p 0
    · have := t.lt b (by omega) hb
      exact (t.root n (p b) (by omega) (by omega)).up
/-- Who stands below one is an interval. -/
theorem Tr.inter {K : Nat} {E : Nat → Nat → Prop} {p : Nat → Nat} (t : Tr K E p) {v : Nat} : ∀ (d u x : Nat), u < K → Anc p v u → v ≤ x → x ≤ u → u - x ≤ d → Anc p v x
  | 0, u, x, _, h, _, _, _ => by rw [show x = u by omega]; exact h
  | d + 1, u, x, hu, h, h1, h2, h3 => by
    by_cases e : x = u
    · subst e; exact h
    · have hpu := t.lt u (by omega) hu
      rcases h.cases with e1 | h4
      · omega
      · exact t.inter d (u - 1) x (by omega) (h4.trans (t.prev u (by omega) hu)) h1 (by omega) (by omega)
/-- Of two that stand above one the lesser stands above the other. -/
theorem Tr.chain {K : Nat} {E : Nat → Nat → Prop} {p : Nat → Nat} (t : Tr K E p) {u v x : Nat} (hx : x < K) (hu : Anc p u x) (hv : Anc p v x) (h : u ≤ v) : Anc p u v :=
  t.inter (x - v) x v hx hu h (t.le hx hv) (Nat.le_refl _)
/-- The way down the tree. -/
theorem Tr.down {K : Nat} {E : Nat → Nat → Prop} {p : Nat → Nat} (t : Tr K E p) {v : Nat} : ∀ (n u : Nat), u ≤ n → u < K → Anc p v u → ∃ k, Wy E (fun x => v ≤ x ∧ x ≤ u ∧ Anc p x u) k v u
  | 0, u, hu, hk, h => by
    have := t.le hk h
    obtain rfl : v = u := by omega
    exact ⟨0, ⟨Nat.le_refl _, Nat.le_refl _, Anc.refl p v⟩, rfl⟩
  | n + 1, u, hu, hk, h => by
    have hle := t.le hk h
    rcases h.cases with e | h1
    · subst e
      exact ⟨0, ⟨Nat.le_refl _, Nat.le_refl _, Anc.refl p v⟩, rfl⟩
    · by_cases h0 : u = 0
      · subst h0
        obtain rfl : v = 0 := by omega
        exact ⟨0, ⟨Nat.le_refl _, Nat.le_refl _, Anc.refl p 0⟩, rfl⟩
      · have hlt := t.lt u (by omega) hk
        obtain ⟨k, w⟩ := t.down n (p u) (by omega) (by omega) h1
        exact ⟨k + 1, (w.mono fun x hx => ⟨hx.1, by omega, hx.2.2.up⟩).snoc (t.tree u (by omega) hk) ⟨hle, Nat.le_refl _, Anc.refl p u⟩⟩
/-- A way that stays at or behind its beginning stays below it. -/
theorem Tr.below {K : Nat} {E : Nat → Nat → Prop} {p : Nat → Nat} (t : Tr K E p) {v z : Nat} : ∀ {k u : Nat}, u < K → Anc p v u → Wy E (fun x => v ≤ x) k u z → Anc p v z
  | 0, u, _, h, w => by rw [← w.2]; exact h
  | k + 1, u, hu, h, w => by
    obtain ⟨h1, c, hc, hw⟩ := w
    have hcK := (t.rng u c hc).2
    refine t.below hcK ?_ hw
    by_cases hlt : u < c
    · exact h.trans (t.edge u c hc hlt)
    · exact t.inter (u - c) u c hu h hw.start (by omega) (Nat.le_refl _)
/-- The least node of a way. -/
theorem Wy.least {E : Nat → Nat → Prop} {C : Nat → Prop} {z : Nat} : ∀ {m u : Nat}, Wy E C m u z → ∃ v, v ≤ u ∧ (∃ j, Wy E (fun x => C x ∧ v ≤ x) j v z) ∧ Wy E (fun x => C x ∧ v ≤ x) m u z
  | 0, u, w => ⟨u, Nat.le_refl _, ⟨0, ⟨w.1, Nat.le_refl _⟩, w.2⟩, ⟨w.1, Nat.le_refl _⟩, w.2⟩
  | m + 1, u, w => by
    obtain ⟨h1, c, hc, hw⟩ := w
    obtain ⟨v, hv, ⟨j, hj⟩, hall⟩ := hw.least
    by_cases h : v ≤ u
    · exact ⟨v, h, ⟨j, hj⟩, ⟨h1, h⟩, c, hc, hall⟩
    · have hw2 : Wy E (fun x => C x ∧ u ≤ x) (m + 1) u z := ⟨⟨h1, Nat.le_refl _⟩, c, hc, hall.mono fun x hx => ⟨hx.1, by have := hx.2; omega⟩⟩
      exact ⟨u, Nat.le_refl _, ⟨m + 1, hw2⟩, hw2⟩
/-- A way to z on which nobody else stands above z is behind z. -/
theorem Tr.behind {K : Nat} {E : Nat → Nat → Prop} {p : Nat → Nat} (t : Tr K E p) {z m u : Nat} (hu : u < K) (w : Wy E (fun x => x = z ∨ ¬ Anc p x z) m u z) : z ≤ u := by
  obtain ⟨v, hv, ⟨j, hj⟩, _⟩ := w.least
  by_cases h : z ≤ u
  · exact h
  · exfalso
    have h1 := t.below (u := v) (Nat.lt_of_le_of_lt hv hu) (Anc.refl p v) (hj.mono fun x hx => hx.2)
    rcases hj.start.1 with e | e
    · omega
    · exact e h1
theorem Tr.behinds {K : Nat} {E : Nat → Nat → Prop} {p : Nat → Nat} (t : Tr K E p) {C : Nat → Prop} {z : Nat} (hz : z < K) (hC : ∀ x, C x → ¬ Anc p x z) {d : Nat} (hd : E d z) : ∀ {m u : Nat}, u < K → Wy E C m u d → Wy E (fun x => C x ∧ z < x) m u d
  | m, u, hu, w => by
    have hcz : ∀ x, C x → x ≠ z := fun x hx e => hC x hx (e ▸ Anc.refl p z)
    have h1 : z < u := by
      have w2 : Wy E (fun x => x = z ∨ ¬ Anc p x z) (m + 1) u z := (w.mono fun x hx => .inr (hC x hx)).snoc hd (.inl rfl)
      have := t.behind hu w2
      have := hcz u w.start
      omega
    cases m with
    | zero => exact ⟨⟨w.1, h1⟩, w.2⟩
    | succ m =>
      obtain ⟨h2, c, hc, hw⟩ := w
      exact ⟨⟨h2, h1⟩, c, hc, t.behinds hz hC hd (t.rng u c hc).2 hw⟩
/-- The first node of a way that stands above its end. -/
theorem Wy.first {E : Nat → Nat → Prop} {C A : Nat → Prop} {b : Nat} (hb : A b) (hA : ∀ x, A x ∨ ¬ A x) : ∀ {m u : Nat}, Wy E C m u b → ∃ z, C z ∧ A z ∧ (u = z ∨ ∃ d j, Wy E (fun x => C x ∧ ¬ A x) j u d ∧ E d z)
  | 0, u, w => by
    obtain ⟨h1, rfl⟩ := w
    exact ⟨u, h1, hb, .inl rfl⟩
  | m + 1, u, w => by
    obtain ⟨h1, c, hc, hw⟩ := w
    rcases hA u with h | h
    · exact ⟨u, h1, h, .inl rfl⟩
    · obtain ⟨z, hz, haz, e | ⟨d, j, wd, hd⟩⟩ := hw.first hb hA
      · subst e
        exact ⟨c, hz, haz, .inr ⟨u, 0, ⟨⟨h1, h⟩, rfl⟩, hc⟩⟩
      · exact ⟨z, hz, haz, .inr ⟨d, j + 1, ⟨⟨h1, h⟩, c, hc, wd⟩, hd⟩⟩

/-- A way from y to w of which all between is behind w. -/
def SP (E : Nat → Nat → Prop) (y w : Nat) : Prop := E y w ∨ ∃ c d j, E y c ∧ Wy E (fun x => w < x) j c d ∧ E d w
theorem Tr.sp {K : Nat} {E : Nat → Nat → Prop} {p : Nat → Nat} (t : Tr K E p) {C : Nat → Prop} {y c b m : Nat} (hy : E y c) (w : Wy E C m c b) : ∃ z, C z ∧ Anc p z b ∧ z < K ∧ SP E y z ∧ ∃ k, Wy E (fun x => C x ∧ z ≤ x) k c z := by
  have hcK := (t.rng y c hy).2
  obtain ⟨z, hz, haz, e | ⟨d, j, wd, hd⟩⟩ := w.first (A := fun x => Anc p x b) (Anc.refl p b) (fun x => Classical.em _)
  · subst e
    exact ⟨c, hz, haz, hcK, .inl hy, 0, ⟨hz, Nat.le_refl _⟩, rfl⟩
  · have hzK := (t.rng d z hd).2
    have h2 := t.behinds hzK (C := fun x => C x ∧ ¬ Anc p x b) (fun x hx h => hx.2 (h.trans haz)) hd hcK wd
    exact ⟨z, hz, haz, hzK, .inr ⟨c, d, j, hy, h2.mono fun x hx => hx.2, hd⟩, j + 1, (h2.mono fun x hx => ⟨hx.1.1, Nat.le_of_lt hx.2⟩).snoc hd ⟨hz, Nat.le_refl _⟩⟩

/-- s is w's semidominator. -/
structure Semi (E : Nat → Nat → Prop) (w s : Nat) : Prop where
  way : SP E s w
  low : ∀ y, SP E y w → s ≤ y
/-- What is known of w's semidominator by the edges from some places. -/
structure SemiP (K : Nat) (E : Nat → Nat → Prop) (p : Nat → Nat) (semi : Nat → Nat) (w s : Nat) (done : Nat → Prop) : Prop where
  way : SP E s w
  par : s ≤ p w
  near : ∀ v, done v → E v w → v ≤ w → s ≤ v
  far : ∀ v, done v → E v w → w < v → ∀ u, Anc p u v → w < u → s ≤ semi u
theorem SemiP.begin {K : Nat} {E : Nat → Nat → Prop} {p : Nat → Nat} {semi : Nat → Nat} {w : Nat} (t : Tr K E p) (h0 : 0 < w) (hw : w < K) : SemiP K E p semi w (p w) (fun _ => False) :=
  ⟨.inl (t.tree w h0 hw), Nat.le_refl _, fun _ h => h.elim, fun _ h => h.elim⟩
/-- What least tells of a place x where the places behind k are linked. -/
structure Low (p : Nat → Nat) (semi : Nat → Nat) (k x r : Nat) : Prop where
  top : x ≤ k → r = x
  one : k < x → ∃ u, Anc p u x ∧ k < u ∧ r = semi u
  low : k < x → ∀ u, Anc p u x → k < u → r ≤ semi u
theorem SemiP.step {K : Nat} {E : Nat → Nat → Prop} {p : Nat → Nat} {semi : Nat → Nat} {w s v r : Nat} {done : Nat → Prop} (t : Tr K E p) (h : SemiP K E p semi w s done) (hs : ∀ u, w < u → u < K → Semi E u (semi u)) (hv : E v w) (hr : Low p semi w v r) :
    SemiP K E p semi w (min s r) (fun x => done x ∨ x = v) := by
  have hvK := (t.rng v w hv).1
  have hway : SP E r w := by
    by_cases hle : v ≤ w
    · rw [hr.top hle]; exact .inl hv
    · obtain ⟨u, hu, hwu, rfl⟩ := hr.one (by omega)
      have huK : u < K := Nat.lt_of_le_of_lt (t.le hvK hu) hvK
      obtain ⟨j, wt⟩ := t.down v v (Nat.le_refl _) hvK hu
      have wt' : Wy E (fun x => w < x) j u v := wt.mono fun x hx => by have := hx.1; omega
      rcases (hs u hwu huK).way with e | ⟨c, d, i, hc, wd, hd⟩
      · exact .inr ⟨u, v, j, e, wt', hv⟩
      · exact .inr ⟨c, v, i + 1 + j, hc, Wy.trans wt' ((wd.mono fun x hx => by omega).snoc hd hwu), hv⟩
  refine ⟨?_, Nat.le_trans (Nat.min_le_left _ _) h.par, ?_, ?_⟩
  · by_cases e : s ≤ r
    · rw [Nat.min_eq_left e]; exact h.way
    · rw [Nat.min_eq_right (by omega)]; exact hway
  · rintro x (hx | rfl) he hle
    · exact Nat.le_trans (Nat.min_le_left _ _) (h.near x hx he hle)
    · rw [hr.top hle]; exact Nat.min_le_right _ _
  · rintro x (hx | rfl) he hlt u hu hwu
    · exact Nat.le_trans (Nat.min_le_left _ _) (h.far x hx he hlt u hu hwu)
    · exact Nat.le_trans (Nat.min_le_right _ _) (hr.low hlt u hu hwu)
theorem SemiP.imp {K : Nat} {E : Nat → Nat → Prop} {p : Nat → Nat} {semi : Nat → Nat} {w s : Nat} {done done' : Nat → Prop} (h : SemiP K E p semi w s done) (hd : ∀ v, E v w → done' v → done v) : SemiP K E p semi w s done' :=
  ⟨h.way, h.par, fun v hv he hle => h.near v (hd v he hv) he hle, fun v hv he hlt u hu hwu => h.far v (hd v he hv) he hlt u hu hwu⟩
theorem SemiP.done {K : Nat} {E : Nat → Nat → Prop} {p : Nat → Nat} {semi : Nat → Nat} {w s : Nat} {done : Nat → Prop} (t : Tr K E p) (h : SemiP K E p semi w s done) (hd : ∀ v, E v w → done v) (h0 : 0 < w) (hw : w < K) (hs : ∀ u, w < u → u < K → Semi E u (semi u)) (hlt : ∀ u, w < u → u < K → semi u < u) : Semi E w s ∧ s < w := by
  have hpw := t.lt w h0 hw
  have hp := h.par
  refine ⟨⟨h.way, fun y hy => ?_⟩, by omega⟩
  rcases hy with e | ⟨c, d, j, hc, wd, he⟩
  · by_cases hle : y ≤ w
    · exact h.near y (hd y e) e hle
    · have hyK := (t.rng y w e).1
      have h1 := h.far y (hd y e) e (by omega) y (Anc.refl p y) (by omega)
      have := hlt y (by omega) hyK
      omega
  · obtain ⟨z, hz, haz, hzK, hsp, _⟩ := t.sp hc wd
    have h1 := (hs z hz hzK).low y hsp
    have h2 := h.far d (hd d he) he wd.stop z haz hz
    omega

/-- a stands on each way from 0 to b. -/
def Dm (K : Nat) (E : Nat → Nat → Prop) (a b : Nat) : Prop := b < K ∧ ∀ k, ¬ Wy E (fun x => x ≠ a) k 0 b
theorem Dm.refl {K : Nat} {E : Nat → Nat → Prop} {a : Nat} (h : a < K) : Dm K E a a := ⟨h, fun _ w => w.stop rfl⟩
theorem Tr.dm_anc {K : Nat} {E : Nat → Nat → Prop} {p : Nat → Nat} (t : Tr K E p) {a b : Nat} (h : Dm K E a b) : Anc p a b := by
  apply Classical.byContradiction
  intro hn
  obtain ⟨k, w⟩ := t.down b b (Nat.le_refl _) h.1 (t.root b b (Nat.le_refl _) h.1)
  exact h.2 k (w.mono (D := fun x => x ≠ a) fun x hx => fun (e : x = a) => hn (e ▸ hx.2.2))
theorem Tr.dm_le {K : Nat} {E : Nat → Nat → Prop} {p : Nat → Nat} (t : Tr K E p) {a b : Nat} (h : Dm K E a b) : a ≤ b := t.le h.1 (t.dm_anc h)
theorem Tr.dm_zero {K : Nat} {E : Nat → Nat → Prop} {b : Nat} (hb : b < K) : Dm K E 0 b := ⟨hb, fun _ w => w.start rfl⟩
/-- A way to its end, cut where it first meets b. -/
theorem Wy.cut {E : Nat → Nat → Prop} {C : Nat → Prop} {b c : Nat} : ∀ {m u : Nat}, Wy E C m u c → Wy E (fun x => C x ∧ x ≠ b) m u c ∨ ∃ j, Wy E C j u b
  | 0, u, w => by
    by_cases e : u = b
    · exact .inr ⟨0, w.1, e⟩
    · exact .inl ⟨⟨w.1, e⟩, w.2⟩
  | m + 1, u, w => by
    obtain ⟨h1, d, hd, hw⟩ := w
    by_cases e : u = b
    · exact .inr ⟨0, h1, e⟩
    · rcases hw.cut (b := b) with h | ⟨j, h⟩
      · exact .inl ⟨⟨h1, e⟩, d, hd, h⟩
      · exact .inr ⟨j + 1, h1, d, hd, h⟩
theorem Dm.trans {K : Nat} {E : Nat → Nat → Prop} {a b c : Nat} (h : Dm K E a b) (k : Dm K E b c) : Dm K E a c := by
  refine ⟨k.1, fun m w => ?_⟩
  rcases w.cut (b := b) with h1 | ⟨j, h1⟩
  · exact k.2 m (h1.mono fun x hx => hx.2)
  · exact h.2 j h1
theorem Tr.dm_par {K : Nat} {E : Nat → Nat → Prop} {p : Nat → Nat} (t : Tr K E p) {c k : Nat} (h : Dm K E c k) (hne : c ≠ k) (h0 : 0 < k) : Dm K E c (p k) := by
  have := t.lt k h0 h.1
  exact ⟨by have := h.1; omega, fun m w => h.2 (m + 1) (w.snoc (t.tree k h0 h.1) (fun e => hne e.symm))⟩
theorem Tr.dm_semi {K : Nat} {E : Nat → Nat → Prop} {p : Nat → Nat} (t : Tr K E p) {c k s : Nat} (h : Dm K E c k) (hne : c ≠ k) (hs : Semi E k s) (hsk : s < k) : c ≤ s := by
  apply Classical.byContradiction
  intro hn
  have hle := t.dm_le h
  have hK := h.1
  have hsK : s < K := Nat.lt_trans hsk hK
  obtain ⟨i, w⟩ := t.down s s (Nat.le_refl _) hsK (t.root s s (Nat.le_refl _) hsK)
  have w1 : Wy E (fun x => x ≠ c) i 0 s := w.mono fun x hx => by have := hx.2.1; omega
  rcases hs.way with e | ⟨a, b, j, ha, wb, hb⟩
  · exact h.2 _ (w1.snoc e (fun e => hne e.symm))
  · have w2 : Wy E (fun x => x ≠ c) j a b := wb.mono fun x hx => by omega
    exact h.2 _ ((Wy.trans w2 (w1.snoc ha w2.start)).snoc hb (fun e => hne e.symm))
/-- The last node of a way that is ahead of x. -/
theorem Wy.last {E : Nat → Nat → Prop} {x b : Nat} (hb : x < b) : ∀ {m u : Nat}, Wy E (fun v => v ≠ x) m u b → Wy E (fun v => x < v) m u b ∨ ∃ y c j, y < x ∧ E y c ∧ Wy E (fun v => x < v) j c b
  | 0, u, w => by
    obtain ⟨_, rfl⟩ := w
    exact .inl ⟨hb, rfl⟩
  | m + 1, u, w => by
    obtain ⟨h1, c, hc, hw⟩ := w
    rcases hw.last hb with h | h
    · by_cases e : x < u
      · exact .inl ⟨e, c, hc, h⟩
      · exact .inr ⟨u, c, m, by omega, hc, h⟩
    · exact .inr h
theorem Tr.dm_of {K : Nat} {E : Nat → Nat → Prop} {p : Nat → Nat} (t : Tr K E p) {x k : Nat} (h0 : 0 < k) (hk : k < K) (h : Dm K E x (p k)) (hs : ∀ z, 0 < z → z < K → ∃ s, Semi E z s ∧ (z = k → x ≤ s)) : Dm K E x k := by
  refine ⟨hk, fun m w => ?_⟩
  have hpk := t.lt k h0 hk
  have hxp := t.dm_le h
  rcases w.last (x := x) (by omega) with h1 | ⟨y, c, j, hyx, hyc, wc⟩
  · have := h1.start; omega
  · obtain ⟨z, hz, haz, hzK, hsp, i, wz⟩ := t.sp hyc wc
    obtain ⟨s, hse, hsx⟩ := hs z (by omega) hzK
    have hsy := hse.low y hsp
    by_cases e : z = k
    · have := hsx e; omega
    · have hzp : Anc p z (p k) := by
        rcases haz.cases with e1 | e1
        · exact absurd e1 e
        · exact e1
      have hyK := (t.rng y c hyc).1
      obtain ⟨i1, w1⟩ := t.down y y (Nat.le_refl _) hyK (t.root y y (Nat.le_refl _) hyK)
      obtain ⟨i3, w3⟩ := t.down (p k) (p k) (Nat.le_refl _) (by omega) hzp
      have w1' : Wy E (fun v => v ≠ x) i1 0 y := w1.mono fun v hv => by have := hv.2.1; omega
      have w2' : Wy E (fun v => v ≠ x) i c z := wz.mono fun v hv => by have := hv.1; omega
      have w3' : Wy E (fun v => v ≠ x) i3 z (p k) := w3.mono fun v hv => by have := hv.1; omega
      exact h.2 _ (Wy.trans w3' (Wy.trans w2' (w1'.snoc hyc w2'.start)))

/-- a stands next above b. -/
structure Next (K : Nat) (E : Nat → Nat → Prop) (a b : Nat) : Prop where
  ne : a ≠ b
  dm : Dm K E a b
  near : ∀ c, c ≠ b → Dm K E c b → Dm K E c a
/-- Climbing from k's parent. -/
structure Climb (K : Nat) (E : Nat → Nat → Prop) (p : Nat → Nat) (k s x : Nat) : Prop where
  dm : Dm K E x (p k)
  all : ∀ c, Dm K E c (p k) → c ≤ s → Dm K E c x
theorem Climb.begin {K : Nat} {E : Nat → Nat → Prop} {p : Nat → Nat} (t : Tr K E p) {k s : Nat} (h0 : 0 < k) (hk : k < K) : Climb K E p k s (p k) :=
  ⟨Dm.refl (by have := t.lt k h0 hk; omega), fun _ h _ => h⟩
theorem Climb.step {K : Nat} {E : Nat → Nat → Prop} {p : Nat → Nat} {k s x y : Nat} (h : Climb K E p k s x) (hx : s < x) (hn : Next K E y x) : Climb K E p k s y :=
  ⟨hn.dm.trans h.dm, fun c hc hs => hn.near c (by omega) (h.all c hc hs)⟩
theorem Climb.done {K : Nat} {E : Nat → Nat → Prop} {p : Nat → Nat} {semi : Nat → Nat} (t : Tr K E p) {k x : Nat} (h0 : 0 < k) (hk : k < K) (h : Climb K E p k (semi k) x) (hx : x ≤ semi k) (hs : ∀ z, 0 < z → z < K → Semi E z (semi z) ∧ semi z < z) : Next K E x k := by
  have hpk := t.lt k h0 hk
  have hxp := t.dm_le h.dm
  refine ⟨by omega, t.dm_of h0 hk h.dm (fun z h1 h2 => ⟨semi z, (hs z h1 h2).1, fun e => by subst e; exact hx⟩), fun c hc hd => ?_⟩
  exact h.all c (t.dm_par hd hc h0) (t.dm_semi hd hc (hs k h0 hk).1 (hs k h0 hk).2)

/-- The forest where the places behind k are linked: of a top there is nothing above; else A x stands above x, and L x is the least semidominator from x up to below it. -/
structure Fo (K : Nat) (p : Nat → Nat) (semi : Nat → Nat) (k : Nat) (A : Nat → Int) (L : Nat → Nat) : Prop where
  top : ∀ x, x ≤ k → x < K → A x = -1 ∧ L x = x
  above : ∀ x, k < x → x < K → ∃ a : Nat, A x = (a : Int) ∧ a < x ∧ Anc p a x ∧ (∀ u, Anc p u x → a < u → k < u) ∧ (∃ u, Anc p u x ∧ a < u ∧ L x = semi u) ∧ ∀ u, Anc p u x → a < u → L x ≤ semi u
/-- k joins its tree. -/
theorem Fo.link {K : Nat} {E : Nat → Nat → Prop} {p : Nat → Nat} {semi semi' : Nat → Nat} {k : Nat} {A : Nat → Int} {L : Nat → Nat} (t : Tr K E p) (h : Fo K p semi k A L) (h0 : 0 < k) (hk : k < K) (he : ∀ x, k < x → semi' x = semi x) :
    Fo K p semi' (k - 1) (fun x => if x = k then ((p k : Nat) : Int) else A x) (fun x => if x = k then semi' k else L x) := by
  have hpk := t.lt k h0 hk
  refine ⟨fun x hx hxK => ?_, fun x hx hxK => ?_⟩
  · simp only [show x ≠ k by omega, if_false]
    exact h.top x (by omega) hxK
  · by_cases e : x = k
    · subst e
      simp only [if_true]
      have h9 : ∀ u, Anc p u x → p x < u → u = x := by
        intro u hu hlt
        rcases hu.cases with e1 | e1
        · exact e1
        · have := t.le (by omega) e1; omega
      exact ⟨p x, rfl, hpk, Anc.par p x, fun u hu hlt => by rw [h9 u hu hlt]; omega, ⟨x, Anc.refl p x, hpk, rfl⟩, fun u hu hlt => by rw [h9 u hu hlt]; exact Nat.le_refl _⟩
    · simp only [e, if_false]
      obtain ⟨a, h1, h2, h3, h8, ⟨u, h4, h5, h6⟩, h7⟩ := h.above x (by omega) hxK
      exact ⟨a, h1, h2, h3, fun u hu hlt => by have := h8 u hu hlt; omega, ⟨u, h4, h5, by rw [h6, he u (h8 u h4 h5)]⟩, fun u hu hlt => by rw [he u (h8 u hu hlt)]; exact h7 u hu hlt⟩
/-- What least finds where above x there is a top. -/
theorem Fo.low {K : Nat} {p : Nat → Nat} {semi : Nat → Nat} {k : Nat} {A : Nat → Int} {L : Nat → Nat} (h : Fo K p semi k A L) {x : Nat} (hx : x < K) (ha : ∀ a : Nat, A x = (a : Int) → a ≤ k) : Low p semi k x (L x) := by
  by_cases hk : x ≤ k
  · exact ⟨fun _ => (h.top x hk hx).2, fun h => by omega, fun h => by omega⟩
  · obtain ⟨a, h1, h2, h3, h8, ⟨u, h4, h5, h6⟩, h7⟩ := h.above x (by omega) hx
    have := ha a h1
    exact ⟨fun h => by omega, fun _ => ⟨u, h4, h8 u h4 h5, h6⟩, fun _ v hv hlt => h7 v hv (by omega)⟩
/-- The way from x is shortened. -/
theorem Fo.short {K : Nat} {E : Nat → Nat → Prop} {p : Nat → Nat} {semi : Nat → Nat} {k : Nat} {A : Nat → Int} {L : Nat → Nat} (t : Tr K E p) (h : Fo K p semi k A L) {x a b r : Nat} (hx : x < K) (hax : A x = (a : Int)) (hka : k < a) (hba : A a = (b : Int)) (hbk : b ≤ k) (hr : Low p semi k a r) :
    Fo K p semi k (fun y => if y = x then (b : Int) else A y) (fun y => if y = x then min (L x) r else L y) ∧ Low p semi k x (min (L x) r) := by
  have hkx : k < x := by
    apply Classical.byContradiction
    intro hn
    have := (h.top x (by omega) hx).1
    omega
  obtain ⟨a', h1, h2, h3, h8, ⟨u, h4, h5, h6⟩, h7⟩ := h.above x hkx hx
  obtain rfl : a' = a := by omega
  obtain ⟨b', g1, g2, g3, g8, ⟨v, g4, g5, g6⟩, g7⟩ := h.above a' hka (by omega)
  obtain rfl : b' = b := by omega
  obtain ⟨y, q1, q2, q3⟩ := hr.one hka
  have split : ∀ u, Anc p u x → k < u → min (L x) r ≤ semi u := by
    intro z hz hlt
    by_cases e : a' < z
    · exact Nat.le_trans (Nat.min_le_left _ _) (h7 z hz e)
    · exact Nat.le_trans (Nat.min_le_right _ _) (hr.low hka z (t.chain hx hz h3 (by omega)) hlt)
  have one : ∃ z, Anc p z x ∧ k < z ∧ min (L x) r = semi z := by
    by_cases e : L x ≤ r
    · exact ⟨u, h4, h8 u h4 h5, by rw [Nat.min_eq_left e, h6]⟩
    · exact ⟨y, q1.trans h3, q2, by rw [Nat.min_eq_right (by omega), q3]⟩
  have up : ∀ z, Anc p z x → b' < z → k < z := by
    intro z hz hlt
    by_cases e : a' < z
    · exact h8 z hz e
    · exact g8 z (t.chain hx hz h3 (by omega)) hlt
  refine ⟨⟨fun z hz hzK => ?_, fun z hz hzK => ?_⟩, fun h => by omega, fun _ => one, fun _ => split⟩
  · simp only [show z ≠ x by omega, if_false]
    exact h.top z hz hzK
  · by_cases e : z = x
    · subst e
      simp only [if_true]
      obtain ⟨z1, o1, o2, o3⟩ := one
      exact ⟨b', rfl, by omega, g3.trans h3, up, ⟨z1, o1, by omega, o3⟩, fun c hc hlt => split c hc (up c hc hlt)⟩
    · simp only [e, if_false]
      exact h.above z hz hzK
end Go.Proofs.YtlnimcpmkammfaaDoor
