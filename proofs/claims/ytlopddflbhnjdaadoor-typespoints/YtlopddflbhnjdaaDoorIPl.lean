/-
  A program's points, plain: their list, their numbers, what follows them.
-/
import Derived.Test.YtlopddflbhnjdaaDoorIDat
namespace Go.Proofs.YtlopddflbhnjdaaDoor

def fun8 (p : Pr8) (f : Nat) : Fu8 := p.funcs.getD f ⟨0, [], []⟩
def blk8 (x : Fu8) (b : Nat) : Bl8 := x.blocks.getD b ⟨[], 0, 0, 0, 0⟩
def ins8 (x : Bl8) (i : Nat) : In8 := x.code.getD i ⟨0, 0, 0, 0, 0, []⟩
/-- The first n points of block b of function f; those of its first m blocks; those of the first k functions. -/
def ptB (f b n : Nat) : List (Nat × Nat × Nat) := (List.range n).map fun i => (f, b, i)
def ptF (x : Fu8) (f m : Nat) : List (Nat × Nat × Nat) := (List.range m).flatMap fun b => ptB f b ((blk8 x b).code.length + 1)
def ptP (p : Pr8) (k : Nat) : List (Nat × Nat × Nat) := (List.range k).flatMap fun f => ptF (fun8 p f) f (fun8 p f).blocks.length
def pts (p : Pr8) : List (Nat × Nat × Nat) := ptP p p.funcs.length
theorem ptB_zero (f b : Nat) : ptB f b 0 = [] := rfl
theorem ptB_succ (f b n : Nat) : ptB f b (n + 1) = ptB f b n ++ [(f, b, n)] := by
  unfold ptB
  rw [List.range_succ, List.map_append]
  rfl
theorem ptF_zero (x : Fu8) (f : Nat) : ptF x f 0 = [] := rfl
theorem ptF_succ (x : Fu8) (f m : Nat) : ptF x f (m + 1) = ptF x f m ++ ptB f m ((blk8 x m).code.length + 1) := by
  unfold ptF
  rw [List.range_succ, List.flatMap_append, List.flatMap_singleton]
theorem ptP_zero (p : Pr8) : ptP p 0 = [] := rfl
theorem ptP_succ (p : Pr8) (k : Nat) : ptP p (k + 1) = ptP p k ++ ptF (fun8 p k) k (fun8 p k).blocks.length := by
  unfold ptP
  rw [List.range_succ, List.flatMap_append, List.flatMap_singleton]
theorem ptB_len (f b n : Nat) : (ptB f b n).length = n := by unfold ptB; rw [List.length_map, List.length_range]
theorem mem_ptB {f b n : Nat} {q : Nat × Nat × Nat} : q ∈ ptB f b n ↔ ∃ i, i < n ∧ q = (f, b, i) := by
  unfold ptB
  rw [List.mem_map]
  constructor
  · rintro ⟨i, h1, h2⟩
    exact ⟨i, List.mem_range.1 h1, h2.symm⟩
  · rintro ⟨i, h1, h2⟩
    exact ⟨i, List.mem_range.2 h1, h2.symm⟩
theorem mem_ptF {x : Fu8} {f m : Nat} {q : Nat × Nat × Nat} : q ∈ ptF x f m ↔ ∃ b i, b < m ∧ i ≤ (blk8 x b).code.length ∧ q = (f, b, i) := by
  unfold ptF
  rw [List.mem_flatMap]
  constructor
  · rintro ⟨b, h1, h2⟩
    obtain ⟨i, h3, h4⟩ := mem_ptB.1 h2
    exact ⟨b, i, List.mem_range.1 h1, by omega, h4⟩
  · rintro ⟨b, i, h1, h2, h3⟩
    exact ⟨b, List.mem_range.2 h1, mem_ptB.2 ⟨i, by omega, h3⟩⟩
/-- Is it a point? -/
def IsPt (p : Pr8) (f b i : Nat) : Prop := f < p.funcs.length ∧ b < (fun8 p f).blocks.length ∧ i ≤ (blk8 (fun8 p f) b).code.length
theorem mem_pts {p : Pr8} {f b i : Nat} : ((f, b, i) : Nat × Nat × Nat) ∈ pts p ↔ IsPt p f b i := by
  unfold pts ptP IsPt
  rw [List.mem_flatMap]
  constructor
  · rintro ⟨f', h1, h2⟩
    obtain ⟨b', i', h3, h4, h5⟩ := mem_ptF.1 h2
    have e1 : f = f' := congrArg Prod.fst h5
    have e2 : b = b' := congrArg (fun q : Nat × Nat × Nat => q.2.1) h5
    have e3 : i = i' := congrArg (fun q : Nat × Nat × Nat => q.2.2) h5
    subst e1 e2 e3
    exact ⟨List.mem_range.1 h1, h3, h4⟩
  · rintro ⟨h1, h2, h3⟩
    exact ⟨f, List.mem_range.2 h1, mem_ptF.2 ⟨b, i, h2, h3, rfl⟩⟩
/-- Where point (f, b, i) stands. -/
def pos8 (p : Pr8) (f b i : Nat) : Nat := (ptP p f).length + (ptF (fun8 p f) f b).length + i
theorem ptF_split (x : Fu8) (f : Nat) : ∀ {b m : Nat}, b < m → ∃ r, ptF x f m = ptF x f b ++ (ptB f b ((blk8 x b).code.length + 1) ++ r)
  | b, 0, h => absurd h (Nat.not_lt_zero _)
  | b, m + 1, h => by
    by_cases e : b = m
    · subst e
      exact ⟨[], by rw [ptF_succ, List.append_nil]⟩
    · obtain ⟨r, hr⟩ := ptF_split x f (b := b) (m := m) (by omega)
      exact ⟨r ++ ptB f m ((blk8 x m).code.length + 1), by rw [ptF_succ, hr]; simp [List.append_assoc]⟩
theorem ptP_split (p : Pr8) : ∀ {f k : Nat}, f < k → ∃ r, ptP p k = ptP p f ++ (ptF (fun8 p f) f (fun8 p f).blocks.length ++ r)
  | f, 0, h => absurd h (Nat.not_lt_zero _)
  | f, k + 1, h => by
    by_cases e : f = k
    · subst e
      exact ⟨[], by rw [ptP_succ, List.append_nil]⟩
    · obtain ⟨r, hr⟩ := ptP_split p (f := f) (k := k) (by omega)
      exact ⟨r ++ ptF (fun8 p k) k (fun8 p k).blocks.length, by rw [ptP_succ, hr]; simp [List.append_assoc]⟩
theorem pts_at {p : Pr8} {f b i : Nat} (h : IsPt p f b i) : (pts p)[pos8 p f b i]? = some (f, b, i) := by
  obtain ⟨r1, h1⟩ := ptP_split p h.1
  obtain ⟨r2, h2⟩ := ptF_split (fun8 p f) f h.2.1
  have h3 := h.2.2
  unfold pts pos8
  rw [h1, h2]
  rw [List.getElem?_append_right (by omega)]
  rw [show (ptP p f).length + (ptF (fun8 p f) f b).length + i - (ptP p f).length = (ptF (fun8 p f) f b).length + i by omega]
  rw [List.append_assoc, List.getElem?_append_right (by omega)]
  rw [show (ptF (fun8 p f) f b).length + i - (ptF (fun8 p f) f b).length = i by omega]
  rw [List.append_assoc, List.getElem?_append_left (by rw [ptB_len]; omega)]
  unfold ptB
  rw [List.getElem?_map, List.getElem?_range (by omega)]
  rfl
theorem pos8_lt {p : Pr8} {f b i : Nat} (h : IsPt p f b i) : pos8 p f b i < (pts p).length := (List.getElem?_eq_some_iff.1 (pts_at h)).1
/-- Each number below their count is one point's. -/
theorem pts_back {p : Pr8} {n : Nat} (h : n < (pts p).length) : ∃ f b i, IsPt p f b i ∧ (pts p)[n]? = some (f, b, i) := by
  have hm : (pts p)[n] ∈ pts p := List.getElem_mem h
  obtain ⟨f, b, i, e⟩ : ∃ f b i, (pts p)[n] = (f, b, i) := ⟨(pts p)[n].1, (pts p)[n].2.1, (pts p)[n].2.2, rfl⟩
  rw [e] at hm
  exact ⟨f, b, i, mem_pts.1 hm, by rw [List.getElem?_eq_getElem h, e]⟩
theorem pos8_step {p : Pr8} {f b i : Nat} : pos8 p f b (i + 1) = pos8 p f b i + 1 := rfl
theorem pos8_inj {p : Pr8} {f b i f' b' i' : Nat} (h : IsPt p f b i) (h' : IsPt p f' b' i') (e : pos8 p f b i = pos8 p f' b' i') : f = f' ∧ b = b' ∧ i = i' := by
  have h1 := pts_at h
  have h2 := pts_at h'
  rw [e, h2] at h1
  have h3 : ((f', b', i') : Nat × Nat × Nat) = (f, b, i) := Option.some.inj h1
  exact ⟨(congrArg Prod.fst h3).symm, (congrArg (fun q : Nat × Nat × Nat => q.2.1) h3).symm, (congrArg (fun q : Nat × Nat × Nat => q.2.2) h3).symm⟩
/-- No point stands twice: a number's point has that number. -/
theorem pts_nodup (p : Pr8) : ∀ k, k ≤ p.funcs.length → (ptP p k).Nodup := by
  have hB : ∀ f b n, (ptB f b n).Nodup := by
    intro f b n
    induction n with
    | zero => exact List.nodup_nil
    | succ n ih =>
      rw [ptB_succ, List.nodup_append]
      refine ⟨ih, List.nodup_cons.2 ⟨List.not_mem_nil, List.nodup_nil⟩, fun q hq q' hq' e => ?_⟩
      obtain ⟨i, h1, h2⟩ := mem_ptB.1 hq
      rw [List.mem_singleton.1 hq', h2] at e
      have : i = n := congrArg (fun q : Nat × Nat × Nat => q.2.2) e
      omega
  have hF : ∀ x f m, (ptF x f m).Nodup := by
    intro x f m
    induction m with
    | zero => exact List.nodup_nil
    | succ m ih =>
      rw [ptF_succ, List.nodup_append]
      refine ⟨ih, hB _ _ _, fun q hq q' hq' e => ?_⟩
      obtain ⟨b, i, h1, _, h2⟩ := mem_ptF.1 hq
      obtain ⟨j, _, h3⟩ := mem_ptB.1 hq'
      rw [h2, h3] at e
      have : b = m := congrArg (fun q : Nat × Nat × Nat => q.2.1) e
      omega
  intro k
  induction k with
  | zero => intro _; exact List.nodup_nil
  | succ k ih =>
    intro hk
    rw [ptP_succ, List.nodup_append]
    refine ⟨ih (by omega), hF _ _ _, fun q hq q' hq' e => ?_⟩
    unfold ptP at hq
    obtain ⟨f, h1, h2⟩ := List.mem_flatMap.1 hq
    obtain ⟨b, i, _, _, h3⟩ := mem_ptF.1 h2
    obtain ⟨b', i', _, _, h4⟩ := mem_ptF.1 hq'
    rw [h3, h4] at e
    have : f = k := congrArg Prod.fst e
    have := List.mem_range.1 h1
    omega
theorem pts_pos {p : Pr8} {n f b i : Nat} (h : (pts p)[n]? = some (f, b, i)) : IsPt p f b i ∧ n = pos8 p f b i := by
  have hn := (List.getElem?_eq_some_iff.1 h).1
  have hm : ((f, b, i) : Nat × Nat × Nat) ∈ pts p := List.mem_of_getElem? h
  have hi := mem_pts.1 hm
  refine ⟨hi, ?_⟩
  have h2 := pts_at hi
  have hnd : (pts p).Nodup := pts_nodup p _ (Nat.le_refl _)
  have h3 := pos8_lt hi
  rw [List.getElem?_eq_getElem hn] at h
  rw [List.getElem?_eq_getElem h3] at h2
  exact (List.getElem_inj hnd).1 ((Option.some.inj h).trans (Option.some.inj h2).symm)
/-- Where an end leads. -/
def toB (p : Pr8) (f b : Nat) : List Int :=
  let x := blk8 (fun8 p f) b
  (if x.fin = 1 then [x.to] else if x.fin = 2 then (if x.els = x.to then [x.to] else [x.to, x.els]) else []).filter fun z => decide (0 ≤ z ∧ z < ((fun8 p f).blocks.length : Int))
/-- The points that may come behind a point. -/
def next8 (p : Pr8) (f b i : Nat) : List (Nat × Nat × Nat) := if i < (blk8 (fun8 p f) b).code.length then [(f, b, i + 1)] else (toB p f b).map fun z => (f, z.toNat, 0)
end Go.Proofs.YtlopddflbhnjdaaDoor
