/-
  Plain facts on graphs: edges the other way round; who reaches whom; the strongly connected parts, and that two searches in depth find them. No program stands in it.
-/
import Derived.Test.YtlnimcpmkammfaaDoorGDfs
namespace Go.Proofs.YtlnimcpmkammfaaDoor

def noS : Nat → Bool := fun _ => false

/-- Whose edges go to b, of the nodes below k, each as often as there is an edge. -/
def inTo (g : List (List Nat)) (k b : Nat) : List Nat := (List.range k).flatMap fun a => ((nb g a).filter fun x => x == b).map fun _ => a
/-- All edges the other way round. -/
def turnG (g : List (List Nat)) : List (List Nat) := (List.range g.length).map fun b => inTo g g.length b

theorem turnG_len (g : List (List Nat)) : (turnG g).length = g.length := by simp [turnG]
theorem mem_inTo {g : List (List Nat)} {k a b : Nat} : a ∈ inTo g k b ↔ a < k ∧ b ∈ nb g a := by
  simp only [inTo, List.mem_flatMap, List.mem_range, List.mem_map, List.mem_filter, beq_iff_eq]
  constructor
  · rintro ⟨c, hc, x, ⟨hx, rfl⟩, rfl⟩; exact ⟨hc, hx⟩
  · rintro ⟨h1, h2⟩; exact ⟨a, h1, b, ⟨h2, rfl⟩, rfl⟩
theorem nb_turn {g : List (List Nat)} {b : Nat} (hb : b < g.length) : nb (turnG g) b = inTo g g.length b := by
  unfold nb turnG
  rw [List.getD_eq_getElem?_getD, List.getElem?_map, List.getElem?_range hb]
  rfl
theorem nb_out {g : List (List Nat)} {b : Nat} (hb : g.length ≤ b) : nb g b = [] := by
  unfold nb
  rw [List.getD_eq_getElem?_getD, List.getElem?_eq_none hb]
  rfl
theorem mem_turn {g : List (List Nat)} {a b : Nat} (hb : b < g.length) : a ∈ nb (turnG g) b ↔ a < g.length ∧ b ∈ nb g a := by
  rw [nb_turn hb]; exact mem_inTo
theorem turn_ok (g : List (List Nat)) : Ok (turnG g) := by
  intro a b h
  rw [turnG_len]
  by_cases ha : a < g.length
  · exact ((mem_turn ha).1 h).1
  · rw [nb_out (by rw [turnG_len]; omega)] at h; cases h

theorem Wk.turned {g : List (List Nat)} (hg : Ok g) {s : Nat → Bool} {b : Nat} : ∀ {k a : Nat}, a < g.length → Wk g s k a b → Pth (turnG g) s b a
  | 0, a, _, w => by rw [← w.2]; exact Pth.refl w.1
  | k + 1, a, ha, w => by
    obtain ⟨h1, c, hc, hw⟩ := w
    have hcl := hg a c hc
    exact (Wk.turned hg hcl hw).snoc ((mem_turn hcl).2 ⟨ha, hc⟩) h1
theorem Wk.turned' {g : List (List Nat)} {s : Nat → Bool} {b : Nat} : ∀ {k a : Nat}, a < g.length → Wk (turnG g) s k a b → Pth g s b a
  | 0, a, _, w => by rw [← w.2]; exact Pth.refl w.1
  | k + 1, a, ha, w => by
    obtain ⟨h1, c, hc, hw⟩ := w
    obtain ⟨hcl, hb⟩ := (mem_turn ha).1 hc
    exact (Wk.turned' hcl hw).snoc hb h1
theorem turn_pth {g : List (List Nat)} (hg : Ok g) {s : Nat → Bool} {a b : Nat} (ha : a < g.length) (hb : b < g.length) : Pth (turnG g) s a b ↔ Pth g s b a :=
  ⟨fun ⟨_, h⟩ => Wk.turned' ha h, fun ⟨_, h⟩ => Wk.turned hg hb h⟩

/-- Does a reach b? -/
def rB (g : List (List Nat)) (a b : Nat) : Bool := (vis g (g.length + 1) a (noS, [])).1 b
theorem un_no (g : List (List Nat)) : un g noS < g.length + 1 := Nat.lt_succ_of_le (un_le g noS)
theorem rB_iff {g : List (List Nat)} (hg : Ok g) {a : Nat} (b : Nat) (ha : a < g.length) : rB g a b = true ↔ Pth g noS a b := by
  obtain ⟨N, e, h⟩ := vis_spec g hg (g.length + 1) a noS [] ha (un_no g)
  unfold rB
  rw [e]
  show orL noS N b = true ↔ _
  rw [orL_true, h.iff b]
  constructor
  · rintro (h | ⟨n, hn, p⟩)
    · cases h
    · simp at hn; subst hn; exact p
  · exact fun p => .inr ⟨a, by simp, p⟩

/-- Are a and b in one part? -/
def mutB (g : List (List Nat)) (a b : Nat) : Bool := rB g a b && rB g b a
def Mut (g : List (List Nat)) (a b : Nat) : Prop := Pth g noS a b ∧ Pth g noS b a
theorem mut_iff {g : List (List Nat)} (hg : Ok g) {a b : Nat} (ha : a < g.length) (hb : b < g.length) : mutB g a b = true ↔ Mut g a b := by
  unfold mutB Mut
  rw [Bool.and_eq_true, rB_iff hg b ha, rB_iff hg a hb]
theorem Mut.refl (g : List (List Nat)) (a : Nat) : Mut g a a := ⟨Pth.refl rfl, Pth.refl rfl⟩
theorem Mut.symm {g : List (List Nat)} {a b : Nat} (h : Mut g a b) : Mut g b a := ⟨h.2, h.1⟩
theorem Mut.trans {g : List (List Nat)} {a b c : Nat} (h : Mut g a b) (k : Mut g b c) : Mut g a c := ⟨h.1.trans k.1, k.2.trans h.2⟩

/-- The part of a, rising. -/
def part (g : List (List Nat)) (a : Nat) : List Nat := (List.range g.length).filter (mutB g a)
/-- Is a the least of its part? -/
def leastB (g : List (List Nat)) (a : Nat) : Bool := (List.range a).all fun b => !mutB g a b
/-- The parts, by their least nodes. -/
def sccs (g : List (List Nat)) : List (List Nat) := ((List.range g.length).filter (leastB g)).map (part g)

theorem mem_part {g : List (List Nat)} (hg : Ok g) {a : Nat} (b : Nat) (ha : a < g.length) : b ∈ part g a ↔ b < g.length ∧ Mut g a b := by
  unfold part
  rw [List.mem_filter, List.mem_range]
  constructor
  · rintro ⟨h1, h2⟩; exact ⟨h1, (mut_iff hg ha h1).1 h2⟩
  · rintro ⟨h1, h2⟩; exact ⟨h1, (mut_iff hg ha h1).2 h2⟩
theorem part_eq {g : List (List Nat)} (hg : Ok g) {a b : Nat} (ha : a < g.length) (hb : b < g.length) (h : Mut g a b) : part g a = part g b := by
  unfold part
  refine List.filter_congr fun x hx => ?_
  rw [List.mem_range] at hx
  rw [Bool.eq_iff_iff, mut_iff hg ha hx, mut_iff hg hb hx]
  exact ⟨fun k => h.symm.trans k, fun k => h.trans k⟩

/-- The numbers of l, rising. -/
def asc (n : Nat) (l : List Nat) : List Nat := (List.range n).filter fun x => decide (x ∈ l)

/-- Of the nodes of a list those that are not taken: each one's search, in its order. -/
def second (h : List (List Nat)) (f : Nat) : List Nat → (Nat → Bool) × List (List Nat) → (Nat → Bool) × List (List Nat)
  | [], st => st
  | n :: ns, st => if st.1 n = true then second h f ns st else second h f ns ((vis h f n (st.1, [])).1, st.2 ++ [asc h.length (vis h f n (st.1, [])).2])
theorem second_in (h : List (List Nat)) (f n : Nat) (ns : List Nat) (st : (Nat → Bool) × List (List Nat)) (e : st.1 n = true) : second h f (n :: ns) st = second h f ns st := by rw [second, if_pos e]
theorem second_out (h : List (List Nat)) (f n : Nat) (ns : List Nat) (st : (Nat → Bool) × List (List Nat)) (e : st.1 n = false) : second h f (n :: ns) st = second h f ns ((vis h f n (st.1, [])).1, st.2 ++ [asc h.length (vis h f n (st.1, [])).2]) := by
  rw [second, if_neg (by rw [e]; decide)]
theorem second_append (h : List (List Nat)) (f : Nat) : ∀ (A B : List Nat) (st : (Nat → Bool) × List (List Nat)), second h f (A ++ B) st = second h f B (second h f A st)
  | [], _, _ => rfl
  | n :: A, B, st => by
    rw [List.cons_append]
    cases e : st.1 n with
    | true => rw [second_in h f n _ st e, second_in h f n _ st e, second_append h f A B st]
    | false => rw [second_out h f n _ st e, second_out h f n _ st e, second_append h f A B _]

/-- All nodes as a search in depth from each one in turn leaves them. -/
def left (g : List (List Nat)) : List Nat := (visL g (g.length + 1) (List.range g.length) (noS, [])).2
theorem left_spec (g : List (List Nat)) (hg : Ok g) : Finds g noS (List.range g.length) (left g) := by
  obtain ⟨N, e, h⟩ := visL_spec g hg (g.length + 1) (List.range g.length) noS [] (fun n hn => List.mem_range.1 hn) (un_no g)
  unfold left
  rw [e]
  exact h

theorem nodup_split {a : Nat} : ∀ {l1 r1 l2 r2 : List Nat}, (l1 ++ a :: r1).Nodup → l1 ++ a :: r1 = l2 ++ a :: r2 → r1 = r2
  | [], r1, [], r2, _, e => by simpa using e
  | [], r1, b :: l2, r2, hn, e => by
    simp only [List.nil_append, List.cons_append, List.cons.injEq] at e
    obtain ⟨rfl, e⟩ := e
    rw [List.nil_append, List.nodup_cons] at hn
    exact absurd (by rw [e]; simp) hn.1
  | b :: l1, r1, [], r2, hn, e => by
    simp only [List.nil_append, List.cons_append, List.cons.injEq] at e
    obtain ⟨rfl, e⟩ := e
    rw [List.cons_append, List.nodup_cons] at hn
    exact absurd (by simp) hn.1
  | b :: l1, r1, c :: l2, r2, hn, e => by
    simp only [List.cons_append, List.cons.injEq] at e
    rw [List.cons_append, List.nodup_cons] at hn
    exact nodup_split hn.2 e.2

/-- What the second search has found when the nodes of A are gone over. -/
structure Sec (g : List (List Nat)) (A : List Nat) (t : Nat → Bool) (ps : List (List Nat)) : Prop where
  seen : ∀ x, x ∈ A → t x = true
  lt : ∀ x, t x = true → x < g.length
  whole : ∀ x y, t x = true → Mut g x y → t y = true
  parts : ∀ p, p ∈ ps → ∃ a, a < g.length ∧ p = part g a ∧ t a = true
  all : ∀ x, t x = true → part g x ∈ ps
  nodup : ps.Nodup

theorem sec_step {g : List (List Nat)} (hg : Ok g) {A B : List Nat} {n : Nat} (hD : (left g).reverse = A ++ n :: B) {t : Nat → Bool} {ps : List (List Nat)} (h : Sec g A t ps) (hn : t n = false) :
    Sec g (A ++ [n]) (vis (turnG g) (g.length + 1) n (t, [])).1 (ps ++ [asc (turnG g).length (vis (turnG g) (g.length + 1) n (t, [])).2]) := by
  have hL := left_spec g hg
  have mem_left : ∀ x, x ∈ left g ↔ x < g.length := by
    intro x
    rw [hL.iff x]
    constructor
    · rintro ⟨m, hm, p⟩; exact p.lt hg (List.mem_range.1 hm)
    · intro hx; exact ⟨x, List.mem_range.2 hx, Pth.refl rfl⟩
  have hnl : n < g.length := by
    rw [← mem_left, ← List.mem_reverse, hD]; simp
  have hN : left g = B.reverse ++ n :: A.reverse := by
    have := congrArg List.reverse hD
    rw [List.reverse_reverse] at this
    rw [this]; simp
  have hu : un (turnG g) t < g.length + 1 := by
    have := un_le (turnG g) t
    rw [turnG_len] at this
    omega
  obtain ⟨N, e, hF⟩ := vis_spec (turnG g) (turn_ok g) (g.length + 1) n t [] (by rw [turnG_len]; exact hnl) hu
  rw [e]
  show Sec g (A ++ [n]) (orL t N) (ps ++ [asc (turnG g).length N])
  have key : ∀ v, v ∈ N ↔ v < g.length ∧ Mut g n v := by
    intro v
    rw [hF.iff v]
    constructor
    · rintro ⟨m, hm, p⟩
      simp at hm
      subst hm
      have hv : v < g.length := by
        have := p.lt (turn_ok g) (by rw [turnG_len]; exact hnl)
        rwa [turnG_len] at this
      have q : Pth g t v m := (turn_pth hg hnl hv).1 p
      have q0 : Pth g noS v m := q.mono fun _ _ => rfl
      obtain ⟨x, _, p1, p2, X, Y, eX, hx⟩ := hL.good.late v m ((mem_left v).2 hv) ((mem_left m).2 hnl) q0
      refine ⟨hv, ?_⟩
      rcases hx with hx | hx
      · subst hx; exact ⟨p2, p1⟩
      · exfalso
        obtain ⟨X1, X2, eX2⟩ := List.append_of_mem hx
        have h1 : left g = X1 ++ m :: (X2 ++ x :: Y) := by rw [eX, eX2]; simp
        have h2 : (B.reverse ++ m :: A.reverse).Nodup := by rw [← hN]; exact hL.good.nodup
        have h3 := nodup_split h2 (hN.symm.trans h1)
        have hxA : x ∈ A := by
          rw [← List.mem_reverse, h3]; simp
        have hvt := h.whole x v (h.seen x hxA) ⟨p2, p1⟩
        rw [q.start] at hvt
        cases hvt
    · rintro ⟨hv, hm⟩
      refine ⟨n, by simp, (turn_pth hg hnl hv).2 ?_⟩
      obtain ⟨k, hk⟩ := hm.2
      have hfree : ∀ u, Mut g n u → t u = false := by
        intro u hu'
        cases e : t u with
        | false => rfl
        | true => have := h.whole u n e hu'.symm; rw [hn] at this; cases this
      have go : ∀ (k a : Nat), Mut g n a → Wk g noS k a n → Wk g t k a n := by
        intro k
        induction k with
        | zero => intro a ha w; exact ⟨hfree a ha, w.2⟩
        | succ k ih =>
          intro a ha w
          obtain ⟨_, c, hc, hw⟩ := w
          exact ⟨hfree a ha, c, hc, ih c ⟨ha.1.snoc hc rfl, k, hw⟩ hw⟩
      exact ⟨k, go k v hm hk⟩
  have hasc : asc (turnG g).length N = part g n := by
    unfold asc part
    rw [turnG_len]
    refine List.filter_congr fun x hx => ?_
    rw [List.mem_range] at hx
    rw [Bool.eq_iff_iff, mut_iff hg hnl hx, decide_eq_true_eq, key x]
    exact ⟨fun k => k.2, fun k => ⟨hx, k⟩⟩
  rw [hasc]
  have hnN : n ∈ N := (key n).2 ⟨hnl, Mut.refl g n⟩
  refine ⟨?_, ?_, ?_, ?_, ?_, ?_⟩
  · intro x hx
    rcases List.mem_append.1 hx with hx | hx
    · exact orL_true.2 (.inl (h.seen x hx))
    · simp at hx; subst hx; exact orL_true.2 (.inr hnN)
  · intro x hx
    rcases orL_true.1 hx with hx | hx
    · exact h.lt x hx
    · exact ((key x).1 hx).1
  · intro x y hx hm
    rcases orL_true.1 hx with hx | hx
    · exact orL_true.2 (.inl (h.whole x y hx hm))
    · have hxm := ((key x).1 hx).2
      have hy : y < g.length := hm.1.lt hg ((key x).1 hx).1
      exact orL_true.2 (.inr ((key y).2 ⟨hy, hxm.trans hm⟩))
  · intro p hp
    rcases List.mem_append.1 hp with hp | hp
    · obtain ⟨a, h1, h2, h3⟩ := h.parts p hp
      exact ⟨a, h1, h2, orL_true.2 (.inl h3)⟩
    · simp at hp; exact ⟨n, hnl, hp, orL_true.2 (.inr hnN)⟩
  · intro x hx
    rcases orL_true.1 hx with hx | hx
    · exact List.mem_append_left _ (h.all x hx)
    · have hx' := (key x).1 hx
      rw [part_eq hg hx'.1 hnl hx'.2.symm]
      simp
  · rw [List.nodup_append]
    refine ⟨h.nodup, by simp, fun p hp q hq e => ?_⟩
    simp at hq
    subst hq
    subst e
    obtain ⟨a, ha, ea, hta⟩ := h.parts _ hp
    have hnp : n ∈ part g a := by
      rw [← ea, mem_part hg n hnl]
      exact ⟨hnl, Mut.refl g n⟩
    have := h.whole a n hta ((mem_part hg n ha).1 hnp).2
    rw [hn] at this
    cases this

theorem sec_all {g : List (List Nat)} (hg : Ok g) : ∀ (B A : List Nat) (t : Nat → Bool) (ps : List (List Nat)), (left g).reverse = A ++ B → Sec g A t ps →
    Sec g (A ++ B) (second (turnG g) (g.length + 1) B (t, ps)).1 (second (turnG g) (g.length + 1) B (t, ps)).2
  | [], A, t, ps, _, h => by rw [List.append_nil]; exact h
  | n :: B, A, t, ps, hD, h => by
    have hD2 : (left g).reverse = (A ++ [n]) ++ B := by rw [hD]; simp
    have e2 : A ++ n :: B = (A ++ [n]) ++ B := by simp
    cases hn : t n with
    | true =>
      rw [second_in (turnG g) _ n B (t, ps) hn, e2]
      refine sec_all hg B (A ++ [n]) t ps hD2 ⟨?_, h.lt, h.whole, h.parts, h.all, h.nodup⟩
      intro x hx
      rcases List.mem_append.1 hx with hx | hx
      · exact h.seen x hx
      · simp at hx; subst hx; exact hn
    | false =>
      rw [second_out (turnG g) _ n B (t, ps) hn, e2]
      exact sec_all hg B (A ++ [n]) _ _ hD2 (sec_step hg hD h hn)

theorem sec_end {g : List (List Nat)} (hg : Ok g) : Sec g (left g).reverse (second (turnG g) (g.length + 1) (left g).reverse (noS, [])).1 (second (turnG g) (g.length + 1) (left g).reverse (noS, [])).2 := by
  have h0 : Sec g [] noS [] := ⟨fun _ h => absurd h List.not_mem_nil, fun _ h => (by cases h), fun _ _ h => (by cases h), fun _ h => absurd h List.not_mem_nil, fun _ h => (by cases h), List.nodup_nil⟩
  have := sec_all hg (left g).reverse [] noS [] (by simp) h0
  rwa [List.nil_append] at this
end Go.Proofs.YtlnimcpmkammfaaDoor
