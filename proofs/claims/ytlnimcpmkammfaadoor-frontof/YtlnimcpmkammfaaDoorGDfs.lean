/-
  Plain facts on graphs: the search in depth, ways that avoid a set, what a search finds and in which order. No program stands in it.
-/
import Derived.Test.YtlnimcpmkammfaaDoorPlain
namespace Go.Proofs.YtlnimcpmkammfaaDoor

theorem or_right {a b c : Prop} (h : a ∨ b) (f : b → c) : a ∨ c := by
  rcases h with h | h
  · exact .inl h
  · exact .inr (f h)

/-- Whom n's edges go to. -/
def nb (g : List (List Nat)) (n : Nat) : List Nat := g.getD n []
def Ok (g : List (List Nat)) : Prop := ∀ a b, b ∈ nb g a → b < g.length

/-- The search in depth, with so much fuel: who is seen, and the nodes as they are left. -/
def vis (g : List (List Nat)) : Nat → Nat → (Nat → Bool) × List Nat → (Nat → Bool) × List Nat
  | 0, _, st => st
  | f + 1, n, st => if st.1 n = true then st else
      (((nb g n).foldl (fun s m => vis g f m s) (ins st.1 n, st.2)).1, ((nb g n).foldl (fun s m => vis g f m s) (ins st.1 n, st.2)).2 ++ [n])

def visL (g : List (List Nat)) (f : Nat) (ns : List Nat) (st : (Nat → Bool) × List Nat) : (Nat → Bool) × List Nat := ns.foldl (fun s m => vis g f m s) st

theorem vis_in (g : List (List Nat)) (f n : Nat) (st : (Nat → Bool) × List Nat) (h : st.1 n = true) : vis g f n st = st := by
  cases f with
  | zero => rfl
  | succ f => rw [vis, if_pos h]
theorem vis_out (g : List (List Nat)) (f n : Nat) (st : (Nat → Bool) × List Nat) (h : st.1 n = false) : vis g (f + 1) n st = ((visL g f (nb g n) (ins st.1 n, st.2)).1, (visL g f (nb g n) (ins st.1 n, st.2)).2 ++ [n]) := by
  rw [vis, if_neg (by rw [h]; decide)]; rfl
theorem visL_snoc (g : List (List Nat)) (f : Nat) (ns : List Nat) (n : Nat) (st : (Nat → Bool) × List Nat) : visL g f (ns ++ [n]) st = vis g f n (visL g f ns st) := by
  unfold visL; rw [List.foldl_append]; rfl
theorem visL_cons (g : List (List Nat)) (f : Nat) (ns : List Nat) (n : Nat) (st : (Nat → Bool) × List Nat) : visL g f (n :: ns) st = visL g f ns (vis g f n st) := rfl

/-- How many nodes are not in s. -/
def un (g : List (List Nat)) (s : Nat → Bool) : Nat := ((List.range g.length).filter fun n => !s n).length

theorem filter_le {α : Type} (p q : α → Bool) (h : ∀ a, p a = true → q a = true) : ∀ l : List α, (l.filter p).length ≤ (l.filter q).length
  | [] => Nat.le_refl _
  | a :: l => by
    have ih := filter_le p q h l
    cases hp : p a
    · cases hq : q a
      · simp [hp, hq]; exact ih
      · simp [hp, hq]; omega
    · simp [hp, h a hp]; exact ih

theorem un_mono (g : List (List Nat)) (s t : Nat → Bool) (h : ∀ m, s m = true → t m = true) : un g t ≤ un g s :=
  filter_le _ _ (fun a ha => by cases hs : s a with
    | false => rfl
    | true => rw [h a hs] at ha; cases ha) _

theorem filter_ins_not (s : Nat → Bool) (n : Nat) (hs : s n = false) : ∀ N, ((List.range N).filter fun m => !ins s n m).length + (if n < N then 1 else 0) = ((List.range N).filter fun m => !s m).length
  | 0 => by simp
  | N + 1 => by
    have ih := filter_ins_not s n hs N
    rw [List.range_succ, List.filter_append, List.filter_append, List.length_append, List.length_append]
    by_cases h : N = n
    · subst h
      simp only [Nat.lt_irrefl, if_false] at ih
      have e1 : ins s N N = true := by simp [ins]
      simp [e1, hs]
      omega
    · have e1 : ins s n N = s N := by simp [ins, h]
      have e2 : (n < N + 1) ↔ (n < N) := by omega
      simp only [e2]
      cases hN : s N <;> simp [e1, hN] <;> omega
theorem un_ins (g : List (List Nat)) (s : Nat → Bool) (n : Nat) (hs : s n = false) (hn : n < g.length) : un g (ins s n) + 1 = un g s := by
  have := filter_ins_not s n hs g.length
  rw [if_pos hn] at this
  exact this
theorem un_le (g : List (List Nat)) (s : Nat → Bool) : un g s ≤ g.length := by
  have := List.length_filter_le (fun n => !s n) (List.range g.length)
  rw [List.length_range] at this
  exact this

/-- A way of k edges from a to b, none of whose nodes is in s. -/
def Wk (g : List (List Nat)) (s : Nat → Bool) : Nat → Nat → Nat → Prop
  | 0, a, b => s a = false ∧ a = b
  | k + 1, a, b => s a = false ∧ ∃ c, c ∈ nb g a ∧ Wk g s k c b
def Pth (g : List (List Nat)) (s : Nat → Bool) (a b : Nat) : Prop := ∃ k, Wk g s k a b

theorem Pth.refl {g : List (List Nat)} {s : Nat → Bool} {a : Nat} (h : s a = false) : Pth g s a a := ⟨0, h, rfl⟩
theorem Pth.cons {g : List (List Nat)} {s : Nat → Bool} {a b c : Nat} (h : s a = false) (hc : c ∈ nb g a) (p : Pth g s c b) : Pth g s a b := by
  obtain ⟨k, hk⟩ := p
  exact ⟨k + 1, h, c, hc, hk⟩
theorem Wk.start {g : List (List Nat)} {s : Nat → Bool} {k a b : Nat} (h : Wk g s k a b) : s a = false := by
  cases k with
  | zero => exact h.1
  | succ k => exact h.1
theorem Pth.start {g : List (List Nat)} {s : Nat → Bool} {a b : Nat} (p : Pth g s a b) : s a = false := by
  obtain ⟨k, hk⟩ := p; exact hk.start
theorem Wk.stop {g : List (List Nat)} {s : Nat → Bool} {b : Nat} : ∀ {k a : Nat}, Wk g s k a b → s b = false
  | 0, _, h => by rw [← h.2]; exact h.1
  | k + 1, _, h => by obtain ⟨_, c, _, hw⟩ := h; exact Wk.stop hw
theorem Pth.stop {g : List (List Nat)} {s : Nat → Bool} {a b : Nat} (p : Pth g s a b) : s b = false := by
  obtain ⟨k, hk⟩ := p; exact hk.stop
theorem Wk.trans {g : List (List Nat)} {s : Nat → Bool} {b c j : Nat} (h2 : Wk g s j b c) : ∀ {k a : Nat}, Wk g s k a b → Wk g s (k + j) a c
  | 0, a, h => by rw [h.2, Nat.zero_add]; exact h2
  | k + 1, a, h => by
    obtain ⟨h1, d, hd, hw⟩ := h
    rw [Nat.add_right_comm]
    exact ⟨h1, d, hd, Wk.trans h2 hw⟩
theorem Pth.trans {g : List (List Nat)} {s : Nat → Bool} {a b c : Nat} (p : Pth g s a b) (q : Pth g s b c) : Pth g s a c := by
  obtain ⟨k, hk⟩ := p
  obtain ⟨j, hj⟩ := q
  exact ⟨k + j, Wk.trans hj hk⟩
theorem Pth.snoc {g : List (List Nat)} {s : Nat → Bool} {a b c : Nat} (p : Pth g s a b) (hc : c ∈ nb g b) (h : s c = false) : Pth g s a c :=
  p.trans (Pth.cons p.stop hc (Pth.refl h))
theorem Wk.mono {g : List (List Nat)} {s t : Nat → Bool} (h : ∀ x, s x = false → t x = false) {b : Nat} : ∀ {k a : Nat}, Wk g s k a b → Wk g t k a b
  | 0, a, w => ⟨h a w.1, w.2⟩
  | k + 1, a, w => by
    obtain ⟨h1, c, hc, hw⟩ := w
    exact ⟨h a h1, c, hc, Wk.mono h hw⟩
theorem Pth.mono {g : List (List Nat)} {s t : Nat → Bool} {a b : Nat} (p : Pth g s a b) (h : ∀ x, s x = false → t x = false) : Pth g t a b := by
  obtain ⟨k, hk⟩ := p
  exact ⟨k, hk.mono h⟩
/-- What holds of the beginning and is handed on by each edge holds of the end. -/
theorem Wk.carry {g : List (List Nat)} {s : Nat → Bool} {C : Nat → Prop} (hC : ∀ u, C u → s u = false → ∀ w, w ∈ nb g u → s w = false → C w) {b : Nat} : ∀ {k a : Nat}, C a → Wk g s k a b → C b
  | 0, a, ha, w => by rw [← w.2]; exact ha
  | k + 1, a, ha, w => by
    obtain ⟨h1, c, hc, hw⟩ := w
    exact Wk.carry hC (hC a ha h1 c hc hw.start) hw
theorem Pth.carry {g : List (List Nat)} {s : Nat → Bool} {a b : Nat} (p : Pth g s a b) {C : Nat → Prop} (hC : ∀ u, C u → s u = false → ∀ w, w ∈ nb g u → s w = false → C w) (ha : C a) : C b := by
  obtain ⟨k, hk⟩ := p
  exact Wk.carry hC ha hk
/-- A way that meets only nodes of which C holds is a way that avoids what C excludes. -/
theorem Wk.stay {g : List (List Nat)} {s t : Nat → Bool} {C : Nat → Prop} (hC : ∀ u, C u → s u = false → ∀ w, w ∈ nb g u → s w = false → C w) (ht : ∀ u, C u → s u = false → t u = false) {b : Nat} : ∀ {k a : Nat}, C a → Wk g s k a b → Wk g t k a b
  | 0, a, ha, w => ⟨ht a ha w.1, w.2⟩
  | k + 1, a, ha, w => by
    obtain ⟨h1, c, hc, hw⟩ := w
    exact ⟨ht a ha h1, c, hc, Wk.stay hC ht (hC a ha h1 c hc hw.start) hw⟩
/-- A way either avoids x as well, or comes to it. -/
theorem Wk.split {g : List (List Nat)} {s t : Nat → Bool} {x b : Nat} (ht : ∀ u, u ≠ x → s u = false → t u = false) : ∀ {k a : Nat}, Wk g s k a b → Wk g t k a b ∨ Pth g s a x
  | 0, a, w => by
    by_cases e : a = x
    · exact .inr (e ▸ Pth.refl w.1)
    · exact .inl ⟨ht a e w.1, w.2⟩
  | k + 1, a, w => by
    obtain ⟨h1, c, hc, hw⟩ := w
    by_cases e : a = x
    · exact .inr (e ▸ Pth.refl h1)
    · rcases Wk.split ht hw with h | h
      · exact .inl ⟨ht a e h1, c, hc, h⟩
      · exact .inr (Pth.cons h1 hc h)
theorem Pth.split {g : List (List Nat)} {s t : Nat → Bool} {a x b : Nat} (p : Pth g s a b) (ht : ∀ u, u ≠ x → s u = false → t u = false) : Pth g t a b ∨ Pth g s a x := by
  obtain ⟨k, hk⟩ := p
  rcases hk.split ht with h | h
  · exact .inl ⟨k, h⟩
  · exact .inr h

/-- s with the numbers of N. -/
def orL (s : Nat → Bool) (N : List Nat) : Nat → Bool := fun m => s m || decide (m ∈ N)
theorem orL_nil (s : Nat → Bool) : orL s [] = s := by funext m; simp [orL]
theorem orL_append (s : Nat → Bool) (A B : List Nat) : orL s (A ++ B) = orL (orL s A) B := by
  funext m
  simp only [orL, List.mem_append, Bool.decide_or, Bool.or_assoc]
theorem orL_ins (s : Nat → Bool) (n : Nat) : ins s n = orL s [n] := by
  funext m
  simp only [orL, ins, List.mem_singleton]
  by_cases h : m = n
  · subst h; simp
  · simp [h]
theorem orL_comm (s : Nat → Bool) (A B : List Nat) : orL s (A ++ B) = orL s (B ++ A) := by
  funext m
  simp only [orL, List.mem_append]
  congr 1
  rw [Bool.eq_iff_iff]
  simp [or_comm]
theorem orL_false {s : Nat → Bool} {N : List Nat} {x : Nat} : orL s N x = false ↔ s x = false ∧ x ∉ N := by
  simp [orL]
theorem orL_true {s : Nat → Bool} {N : List Nat} {x : Nat} : orL s N x = true ↔ s x = true ∨ x ∈ N := by
  simp [orL]

/-- x stands at r's place of N, or behind it. -/
def Ahead (N : List Nat) (r x : Nat) : Prop := ∃ X Y, N = X ++ x :: Y ∧ (r = x ∨ r ∈ X)

theorem Ahead.left {A B : List Nat} {r x : Nat} (h : Ahead A r x) : Ahead (A ++ B) r x := by
  obtain ⟨X, Y, e, h⟩ := h
  exact ⟨X, Y ++ B, by rw [e]; simp, h⟩
theorem Ahead.right {A B : List Nat} {r x : Nat} (h : Ahead B r x) : Ahead (A ++ B) r x := by
  obtain ⟨X, Y, e, h⟩ := h
  exact ⟨A ++ X, Y, by rw [e]; simp, or_right h fun h => List.mem_append_right _ h⟩
theorem Ahead.cross {A B : List Nat} {r x : Nat} (hr : r ∈ A) (hx : x ∈ B) : Ahead (A ++ B) r x := by
  obtain ⟨X, Y, e⟩ := List.append_of_mem hx
  exact ⟨A ++ X, Y, by rw [e]; simp, .inr (List.mem_append_left _ hr)⟩

/-- Nodes as a search in depth leaves them that began with s seen. -/
structure Good (g : List (List Nat)) (s : Nat → Bool) (N : List Nat) : Prop where
  nodup : N.Nodup
  new : ∀ u, u ∈ N → s u = false
  closed : ∀ u, u ∈ N → ∀ w, w ∈ nb g u → s w = true ∨ w ∈ N
  late : ∀ v r, v ∈ N → r ∈ N → Pth g s v r → ∃ x, x ∈ N ∧ Pth g s v x ∧ Pth g s x v ∧ Ahead N r x

theorem Good.nil (g : List (List Nat)) (s : Nat → Bool) : Good g s [] :=
  ⟨List.nodup_nil, fun _ h => absurd h List.not_mem_nil, fun _ h => absurd h List.not_mem_nil, fun _ _ h => absurd h List.not_mem_nil⟩

theorem Good.append {g : List (List Nat)} {s : Nat → Bool} {A B : List Nat} (ha : Good g s A) (hb : Good g (orL s A) B) : Good g s (A ++ B) := by
  have hbn : ∀ u, u ∈ B → s u = false ∧ u ∉ A := fun u hu => orL_false.1 (hb.new u hu)
  have up : ∀ x, orL s A x = false → s x = false := fun x hx => (orL_false.1 hx).1
  refine ⟨?_, ?_, ?_, ?_⟩
  · rw [List.nodup_append]
    exact ⟨ha.nodup, hb.nodup, fun x hx y hy e => (hbn y hy).2 (e ▸ hx)⟩
  · intro u hu
    rcases List.mem_append.1 hu with h | h
    · exact ha.new u h
    · exact (hbn u h).1
  · intro u hu w hw
    rcases List.mem_append.1 hu with h | h
    · exact or_right (ha.closed u h w hw) fun h => List.mem_append_left _ h
    · rcases hb.closed u h w hw with h' | h'
      · rcases orL_true.1 h' with h2 | h2
        · exact .inl h2
        · exact .inr (List.mem_append_left _ h2)
      · exact .inr (List.mem_append_right _ h')
  · intro v r hv hr p
    have stayA : ∀ a b, a ∈ A → Pth g s a b → b ∈ A := by
      intro a b haA q
      refine q.carry (C := fun u => u ∈ A) ?_ haA
      intro u hu _ w hw hs
      rcases ha.closed u hu w hw with h | h
      · rw [hs] at h; cases h
      · exact h
    rcases List.mem_append.1 hv with hvA | hvB
    · have hrA := stayA v r hvA p
      obtain ⟨x, hx, p1, p2, p3⟩ := ha.late v r hvA hrA p
      exact ⟨x, List.mem_append_left _ hx, p1, p2, p3.left⟩
    · rcases List.mem_append.1 hr with hrA | hrB
      · exact ⟨v, hv, Pth.refl (hbn v hvB).1, Pth.refl (hbn v hvB).1, Ahead.cross hrA hvB⟩
      · have pB : Pth g (orL s A) v r := by
          obtain ⟨k, hk⟩ := p
          have hback : ∀ (k a : Nat), a ∉ A → Wk g s k a r → Wk g (orL s A) k a r := by
            intro k
            induction k with
            | zero => intro a haA w; exact ⟨orL_false.2 ⟨w.1, haA⟩, w.2⟩
            | succ k ih =>
              intro a haA w
              obtain ⟨h1, c, hc, hw⟩ := w
              refine ⟨orL_false.2 ⟨h1, haA⟩, c, hc, ih c ?_ hw⟩
              intro hcA
              exact (hbn r hrB).2 (stayA c r hcA ⟨k, hw⟩)
          exact ⟨k, hback k v (hbn v hvB).2 hk⟩
        obtain ⟨x, hx, p1, p2, p3⟩ := hb.late v r hvB hrB pB
        exact ⟨x, List.mem_append_right _ hx, p1.mono up, p2.mono up, p3.right⟩

theorem Good.top {g : List (List Nat)} {s : Nat → Bool} {n : Nat} {A : List Nat} (hn : s n = false) (ha : Good g (ins s n) A) (hr : ∀ u, u ∈ A → Pth g s n u) (hc : ∀ w, w ∈ nb g n → ins s n w = true ∨ w ∈ A) : Good g s (A ++ [n]) := by
  have insF : ∀ x, ins s n x = false ↔ s x = false ∧ x ≠ n := by
    intro x
    rw [orL_ins, orL_false]
    simp
  have insT : ∀ x, ins s n x = true ↔ s x = true ∨ x = n := by
    intro x
    rw [orL_ins, orL_true]
    simp
  have hAn : n ∉ A := fun h => ((insF n).1 (ha.new n h)).2 rfl
  refine ⟨?_, ?_, ?_, ?_⟩
  · rw [List.nodup_append]
    refine ⟨ha.nodup, by simp, fun x hx y hy e => ?_⟩
    simp at hy
    subst hy
    subst e
    exact hAn hx
  · intro u hu
    rcases List.mem_append.1 hu with h | h
    · exact ((insF u).1 (ha.new u h)).1
    · simp at h; subst h; exact hn
  · intro u hu w hw
    have fin : ins s n w = true ∨ w ∈ A → s w = true ∨ w ∈ A ++ [n] := by
      intro h
      rcases h with h | h
      · rcases (insT w).1 h with h | h
        · exact .inl h
        · exact .inr (by simp [h])
      · exact .inr (List.mem_append_left _ h)
    rcases List.mem_append.1 hu with h | h
    · exact fin (ha.closed u h w hw)
    · simp at h; subst h; exact fin (hc w hw)
  · intro v r hv hr' p
    have toN : ∀ u, u ∈ A ++ [n] → Pth g s n u := by
      intro u hu
      rcases List.mem_append.1 hu with h | h
      · exact hr u h
      · simp at h; subst h; exact Pth.refl hn
    have useN : Pth g s v n → ∃ x, x ∈ A ++ [n] ∧ Pth g s v x ∧ Pth g s x v ∧ Ahead (A ++ [n]) r x := by
      intro q
      refine ⟨n, by simp, q, toN v hv, A, [], rfl, ?_⟩
      rcases List.mem_append.1 hr' with h | h
      · exact .inr h
      · exact .inl (by simpa using h)
    rcases List.mem_append.1 hv with hvA | hvB
    · rcases List.mem_append.1 hr' with hrA | hrB
      · rcases p.split (t := ins s n) (x := n) (fun u hu hs => (insF u).2 ⟨hs, hu⟩) with q | q
        · obtain ⟨x, hx, p1, p2, p3⟩ := ha.late v r hvA hrA q
          exact ⟨x, List.mem_append_left _ hx, p1.mono fun y hy => ((insF y).1 hy).1, p2.mono fun y hy => ((insF y).1 hy).1, p3.left⟩
        · exact useN q
      · simp at hrB; subst hrB; exact useN p
    · simp at hvB; subst hvB; exact useN (Pth.refl hn)

/-- What a search from the nodes of ns finds, s being seen. -/
structure Finds (g : List (List Nat)) (s : Nat → Bool) (ns N : List Nat) : Prop where
  good : Good g s N
  from_ : ∀ u, u ∈ N → ∃ n, n ∈ ns ∧ Pth g s n u
  all : ∀ n, n ∈ ns → s n = true ∨ n ∈ N

theorem Finds.iff {g : List (List Nat)} {s : Nat → Bool} {ns N : List Nat} (h : Finds g s ns N) (u : Nat) : u ∈ N ↔ ∃ n, n ∈ ns ∧ Pth g s n u := by
  refine ⟨h.from_ u, ?_⟩
  rintro ⟨n, hn, p⟩
  refine p.carry (C := fun u => u ∈ N) ?_ ?_
  · intro a ha _ w hw hs
    rcases h.good.closed a ha w hw with h1 | h1
    · rw [hs] at h1; cases h1
    · exact h1
  · rcases h.all n hn with h1 | h1
    · rw [p.start] at h1; cases h1
    · exact h1

theorem Finds.nil (g : List (List Nat)) (s : Nat → Bool) : Finds g s [] [] := ⟨Good.nil g s, fun _ h => absurd h List.not_mem_nil, fun _ h => absurd h List.not_mem_nil⟩
theorem Finds.append {g : List (List Nat)} {s : Nat → Bool} {as bs A B : List Nat} (ha : Finds g s as A) (hb : Finds g (orL s A) bs B) : Finds g s (as ++ bs) (A ++ B) := by
  refine ⟨ha.good.append hb.good, ?_, ?_⟩
  · intro u hu
    rcases List.mem_append.1 hu with h | h
    · obtain ⟨n, h1, h2⟩ := ha.from_ u h
      exact ⟨n, List.mem_append_left _ h1, h2⟩
    · obtain ⟨n, h1, h2⟩ := hb.from_ u h
      exact ⟨n, List.mem_append_right _ h1, h2.mono fun x hx => (orL_false.1 hx).1⟩
  · intro n hn
    rcases List.mem_append.1 hn with h | h
    · exact or_right (ha.all n h) fun h => List.mem_append_left _ h
    · rcases hb.all n h with h1 | h1
      · rcases orL_true.1 h1 with h2 | h2
        · exact .inl h2
        · exact .inr (List.mem_append_left _ h2)
      · exact .inr (List.mem_append_right _ h1)

theorem visL_of (g : List (List Nat)) (f : Nat) (ih : ∀ n s l, n < g.length → un g s < f → ∃ N, vis g f n (s, l) = (orL s N, l ++ N) ∧ Finds g s [n] N) :
    ∀ (ns : List Nat) (s : Nat → Bool) (l : List Nat), (∀ n, n ∈ ns → n < g.length) → un g s < f → ∃ N, visL g f ns (s, l) = (orL s N, l ++ N) ∧ Finds g s ns N
  | [], s, l, _, _ => ⟨[], by rw [orL_nil, List.append_nil]; rfl, Finds.nil g s⟩
  | n :: ns, s, l, hns, hu => by
    obtain ⟨A, eA, hA⟩ := ih n s l (hns n (by simp)) hu
    have hu2 : un g (orL s A) < f := Nat.lt_of_le_of_lt (un_mono g s _ fun m hm => orL_true.2 (.inl hm)) hu
    obtain ⟨B, eB, hB⟩ := visL_of g f ih ns (orL s A) (l ++ A) (fun m hm => hns m (by simp [hm])) hu2
    refine ⟨A ++ B, ?_, hA.append hB⟩
    rw [visL_cons, eA, eB, orL_append, List.append_assoc]

theorem vis_spec (g : List (List Nat)) (hg : Ok g) : ∀ (f n : Nat) (s : Nat → Bool) (l : List Nat), n < g.length → un g s < f → ∃ N, vis g f n (s, l) = (orL s N, l ++ N) ∧ Finds g s [n] N
  | 0, _, _, _, _, h => by omega
  | f + 1, n, s, l, hn, hu => by
    cases hs : s n with
    | true =>
      refine ⟨[], ?_, Good.nil g s, fun _ h => absurd h List.not_mem_nil, fun m hm => ?_⟩
      · rw [vis_in g (f + 1) n (s, l) hs, orL_nil, List.append_nil]
      · simp at hm; subst hm; exact .inl hs
    | false =>
      have hu2 := un_ins g s n hs hn
      obtain ⟨A, eA, hA⟩ := visL_of g f (vis_spec g hg f) (nb g n) (ins s n) l (fun m hm => hg n m hm) (by omega)
      have toA : ∀ u, u ∈ A → Pth g s n u := by
        intro u hu
        obtain ⟨m, hm, p⟩ := hA.from_ u hu
        refine Pth.cons hs hm (p.mono fun x hx => ?_)
        rw [orL_ins] at hx
        exact (orL_false.1 hx).1
      refine ⟨A ++ [n], ?_, Good.top hs hA.good toA (fun w hw => hA.all w hw), ?_, ?_⟩
      · rw [vis_out g f n (s, l) hs]
        show ((visL g f (nb g n) (ins s n, l)).1, (visL g f (nb g n) (ins s n, l)).2 ++ [n]) = _
        rw [eA, orL_comm, orL_append, ← orL_ins, List.append_assoc]
      · intro u hu
        refine ⟨n, by simp, ?_⟩
        rcases List.mem_append.1 hu with h | h
        · exact toA u h
        · simp at h; subst h; exact Pth.refl hs
      · intro m hm
        simp at hm
        subst hm
        exact .inr (by simp)

theorem visL_spec (g : List (List Nat)) (hg : Ok g) (f : Nat) (ns : List Nat) (s : Nat → Bool) (l : List Nat) (hns : ∀ n, n ∈ ns → n < g.length) (hu : un g s < f) : ∃ N, visL g f ns (s, l) = (orL s N, l ++ N) ∧ Finds g s ns N :=
  visL_of g f (vis_spec g hg f) ns s l hns hu

theorem Pth.lt {g : List (List Nat)} (hg : Ok g) {s : Nat → Bool} {a b : Nat} (p : Pth g s a b) (ha : a < g.length) : b < g.length :=
  p.carry (C := fun u => u < g.length) (fun u _ _ w hw _ => hg u w hw) ha

theorem Finds.lt {g : List (List Nat)} (hg : Ok g) {s : Nat → Bool} {ns N : List Nat} (h : Finds g s ns N) (hns : ∀ n, n ∈ ns → n < g.length) (u : Nat) (hu : u ∈ N) : u < g.length := by
  obtain ⟨n, hn, p⟩ := h.from_ u hu
  exact p.lt hg (hns n hn)

/-- Enough fuel is as good as more. -/
theorem vis_fuel (g : List (List Nat)) (hg : Ok g) : ∀ (f f' n : Nat) (s : Nat → Bool) (l : List Nat), n < g.length → un g s < f → un g s < f' → vis g f n (s, l) = vis g f' n (s, l)
  | 0, _, _, _, _, _, h, _ => by omega
  | _ + 1, 0, _, _, _, _, _, h => by omega
  | f + 1, f' + 1, n, s, l, hn, h1, h2 => by
    cases hs : s n with
    | true => rw [vis_in g _ n (s, l) hs, vis_in g _ n (s, l) hs]
    | false =>
      have hu := un_ins g s n hs hn
      have hL : ∀ (ns : List Nat) (t : Nat → Bool) (k : List Nat), (∀ m, m ∈ ns → m < g.length) → un g t < f → un g t < f' → visL g f ns (t, k) = visL g f' ns (t, k) := by
        intro ns
        induction ns with
        | nil => intro t k _ _ _; rfl
        | cons m ns ih =>
          intro t k hns h1 h2
          have hm := hns m (by simp)
          obtain ⟨A, eA, _⟩ := vis_spec g hg f m t k hm h1
          have e2 := vis_fuel g hg f f' m t k hm h1 h2
          have hle : un g (orL t A) ≤ un g t := un_mono g t _ fun m hm => orL_true.2 (.inl hm)
          rw [visL_cons, visL_cons, ← e2, eA]
          exact ih _ _ (fun x hx => hns x (by simp [hx])) (by omega) (by omega)
      rw [vis_out g f n (s, l) hs, vis_out g f' n (s, l) hs]
      show ((visL g f (nb g n) (ins s n, l)).1, (visL g f (nb g n) (ins s n, l)).2 ++ [n]) = ((visL g f' (nb g n) (ins s n, l)).1, (visL g f' (nb g n) (ins s n, l)).2 ++ [n])
      rw [hL (nb g n) (ins s n) l (fun m hm => hg n m hm) (by omega) (by omega)]
end Go.Proofs.YtlnimcpmkammfaaDoor
