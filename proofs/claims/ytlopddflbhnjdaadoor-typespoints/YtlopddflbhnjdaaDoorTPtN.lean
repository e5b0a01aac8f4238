/-
  TypesPoints, plain: how many points and OAllocs a program has, by sums.
-/
import Derived.Test.YtlopddflbhnjdaaDoorTPl
namespace Go.Proofs.YtlopddflbhnjdaaDoor

/-- Points and OAllocs of a block, of a list of blocks, of a list of functions. -/
def siteI (i : In8) : Bool := decide (i.op = 5)
def bSt (b : Bl8) : Nat := b.code.countP siteI
def bsPt (l : List Bl8) : Nat := (l.map fun b => b.code.length + 1).sum
def bsSt (l : List Bl8) : Nat := (l.map bSt).sum
def fsPt (l : List Fu8) : Nat := (l.map fun f => bsPt f.blocks).sum
def fsSt (l : List Fu8) : Nat := (l.map fun f => bsSt f.blocks).sum
theorem bsPt_snoc (l : List Bl8) (b : Bl8) : bsPt (l ++ [b]) = bsPt l + (b.code.length + 1) := by unfold bsPt; simp
theorem bsSt_snoc (l : List Bl8) (b : Bl8) : bsSt (l ++ [b]) = bsSt l + bSt b := by unfold bsSt; simp
theorem fsPt_snoc (l : List Fu8) (f : Fu8) : fsPt (l ++ [f]) = fsPt l + bsPt f.blocks := by unfold fsPt; simp
theorem fsSt_snoc (l : List Fu8) (f : Fu8) : fsSt (l ++ [f]) = fsSt l + bsSt f.blocks := by unfold fsSt; simp
theorem take_snoc2 {α : Type} {l : List α} {k : Nat} (d : α) (h : k < l.length) : l.take (k + 1) = l.take k ++ [l.getD k d] := by
  rw [List.take_add_one, List.getElem?_eq_getElem h]
  simp [List.getD, h]
theorem ptF_sum (x : Fu8) (f : Nat) : ∀ m, m ≤ x.blocks.length → (ptF x f m).length = bsPt (x.blocks.take m) := by
  intro m
  induction m with
  | zero => intro _; rfl
  | succ m ih =>
    intro h
    rw [ptF_succ, List.length_append, ih (by omega), ptB_len, take_snoc2 ⟨[], 0, 0, 0, 0⟩ (by omega), bsPt_snoc]
    rfl
theorem ptP_sum (p : Pr8) : ∀ k, k ≤ p.funcs.length → (ptP p k).length = fsPt (p.funcs.take k) := by
  intro k
  induction k with
  | zero => intro _; rfl
  | succ k ih =>
    intro h
    rw [ptP_succ, List.length_append, ih (by omega), ptF_sum _ _ _ (Nat.le_refl _), List.take_length, take_snoc2 ⟨0, [], []⟩ (by omega), fsPt_snoc]
    rfl
theorem pts_sum (p : Pr8) : (pts p).length = fsPt p.funcs := by
  unfold pts
  rw [ptP_sum _ _ (Nat.le_refl _), List.take_length]
theorem ptB_sites (P : Pr8) (f b : Nat) : ∀ n, n ≤ (blk8 (fun8 P f) b).code.length → sitesN P (ptB f b n) = ((blk8 (fun8 P f) b).code.take n).countP siteI := by
  intro n
  induction n with
  | zero => intro _; rfl
  | succ n ih =>
    intro h
    rw [ptB_succ, sitesN_snoc, ih (by omega), take_snoc2 ⟨0, 0, 0, 0, 0, []⟩ (by omega), List.countP_append, List.countP_singleton]
    congr 1
    have e : isSite P (f, b, n) = siteI ((blk8 (fun8 P f) b).code.getD n ⟨0, 0, 0, 0, 0, []⟩) := by
      unfold isSite siteI ins8
      simp only [show n < (blk8 (fun8 P f) b).code.length by omega, decide_true, Bool.true_and]
    rw [e]
theorem ptB_site (P : Pr8) (f b : Nat) : sitesN P (ptB f b ((blk8 (fun8 P f) b).code.length + 1)) = bSt (blk8 (fun8 P f) b) := by
  rw [ptB_succ, sitesN_snoc, ptB_sites _ _ _ _ (Nat.le_refl _), List.take_length]
  have e : isSite P (f, b, (blk8 (fun8 P f) b).code.length) = false := by
    unfold isSite
    simp
  rw [e]
  rfl
theorem sitesN_append (P : Pr8) (l m : List (Nat × Nat × Nat)) : sitesN P (l ++ m) = sitesN P l + sitesN P m := List.countP_append
theorem ptF_sites (P : Pr8) (f : Nat) : ∀ m, m ≤ (fun8 P f).blocks.length → sitesN P (ptF (fun8 P f) f m) = bsSt ((fun8 P f).blocks.take m) := by
  intro m
  induction m with
  | zero => intro _; rfl
  | succ m ih =>
    intro h
    rw [ptF_succ, sitesN_append, ih (by omega), ptB_site, take_snoc2 ⟨[], 0, 0, 0, 0⟩ (by omega), bsSt_snoc]
    rfl
theorem ptP_sites (P : Pr8) : ∀ k, k ≤ P.funcs.length → sitesN P (ptP P k) = fsSt (P.funcs.take k) := by
  intro k
  induction k with
  | zero => intro _; rfl
  | succ k ih =>
    intro h
    rw [ptP_succ, sitesN_append, ih (by omega), ptF_sites _ _ _ (Nat.le_refl _), List.take_length, take_snoc2 ⟨0, [], []⟩ (by omega), fsSt_snoc]
    rfl
theorem pts_sites (P : Pr8) : sitesN P (pts P) = fsSt P.funcs := by
  unfold pts
  rw [ptP_sites _ _ (Nat.le_refl _), List.take_length]
/-- The law's program: one signature, functions without registers, of one to twelve blocks of at most thirty instructions without arguments. -/
theorem bnd_points {fs : List Fu8} (h0 : 0 < fs.length) (h1 : fs.length ≤ 12) (hf : ∀ f, f ∈ fs → fnB f = true) : bndB ⟨[], [([], 0, 0)], [], [], fs, 0⟩ = decide (fsPt fs ≤ 600 ∧ fsSt fs ≤ 40) := by
  unfold bndB
  rw [pts_sum, pts_sites]
  have e : tabB ⟨[], [([], 0, 0)], [], [], fs, 0⟩ = true := by
    unfold tabB
    have h2 : lenB fs 12 fnB = true := lenB_good h1 (fun k y hy => hf y (List.mem_of_getElem? hy))
    simp only [h2, h0, decide_true, Bool.true_and, Bool.and_true]
    rfl
  rw [e, Bool.true_and, Bool.decide_and]
end Go.Proofs.YtlopddflbhnjdaaDoor
