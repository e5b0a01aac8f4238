/-
  What types asks, plain: limits, names.
-/
import Derived.Test.YtlopddflbhnjdaaDoorTFun
namespace Go.Proofs.YtlopddflbhnjdaaDoor

/-- Is it one of n? -/
def inB (k : Int) (n : Nat) : Bool := decide (0 ≤ k) && decide (k < (n : Int))
theorem inB_yes {k : Int} {n : Nat} (h1 : 0 ≤ k) (h2 : k < (n : Int)) : inB k n = true := by unfold inB; simp [h1, h2]
theorem inB_no {k : Int} {n : Nat} (h : ¬ (0 ≤ k ∧ k < (n : Int))) : inB k n = false := by
  unfold inB
  by_cases h1 : 0 ≤ k
  · have h2 : ¬ k < (n : Int) := fun h2 => h ⟨h1, h2⟩
    simp [h2]
  · simp [h1]
theorem inB_iff {k : Int} {n : Nat} : inB k n = true ↔ 0 ≤ k ∧ k < (n : Int) := by unfold inB; simp
/-- At most m, and all good. -/
def lenB {α : Type} (l : List α) (m : Nat) (g : α → Bool) : Bool := decide (l.length ≤ m) && l.all g
theorem lenB_long {α : Type} {l : List α} {m : Nat} {g : α → Bool} (h : m < l.length) : lenB l m g = false := by
  unfold lenB
  have : ¬ l.length ≤ m := by omega
  simp [this]
theorem lenB_bad {α : Type} {l : List α} {m : Nat} {g : α → Bool} {k : Nat} {y : α} (hy : l[k]? = some y) (hg : g y = false) : lenB l m g = false := by
  unfold lenB
  have h1 : l.all g = false := by
    rw [List.all_eq_false]
    exact ⟨y, List.mem_of_getElem? hy, by simp [hg]⟩
  rw [h1, Bool.and_false]
theorem lenB_good {α : Type} {l : List α} {m : Nat} {g : α → Bool} (h : l.length ≤ m) (hg : ∀ (k : Nat) (y : α), l[k]? = some y → g y = true) : lenB l m g = true := by
  unfold lenB
  have h1 : l.all g = true := by
    rw [List.all_eq_true]
    intro y hy
    obtain ⟨k, hk⟩ := List.getElem?_of_mem hy
    exact hg k y hk
  simp [h, h1]
theorem lenB_len {α : Type} {l : List α} {m : Nat} {g : α → Bool} (h : lenB l m g = true) : l.length ≤ m := by
  unfold lenB at h
  simp at h
  exact h.1
theorem lenB_all {α : Type} {l : List α} {m : Nat} {g : α → Bool} (h : lenB l m g = true) {k : Nat} {y : α} (hy : l[k]? = some y) : g y = true := by
  unfold lenB at h
  rw [Bool.and_eq_true] at h
  exact List.all_eq_true.1 h.2 y (List.mem_of_getElem? hy)
theorem all_bad {α : Type} {l : List α} {g : α → Bool} {k : Nat} {y : α} (hy : l[k]? = some y) (hg : g y = false) : l.all g = false := by
  rw [List.all_eq_false]
  exact ⟨y, List.mem_of_getElem? hy, by simp [hg]⟩
theorem all_good {α : Type} {l : List α} {g : α → Bool} (hg : ∀ (k : Nat) (y : α), l[k]? = some y → g y = true) : l.all g = true := by
  rw [List.all_eq_true]
  intro y hy
  obtain ⟨k, hk⟩ := List.getElem?_of_mem hy
  exact hg k y hk
theorem all_at {α : Type} {l : List α} {g : α → Bool} (h : l.all g = true) {k : Nat} {y : α} (hy : l[k]? = some y) : g y = true := List.all_eq_true.1 h y (List.mem_of_getElem? hy)

/-- Limits: an instruction, a block, a function, all lists. -/
def argB (i : In8) : Bool := decide (i.args.length ≤ 4)
def blkB (b : Bl8) : Bool := lenB b.code 30 argB
def fnB (f : Fu8) : Bool := decide (f.regs.length ≤ 16) && (decide (0 < f.blocks.length) && lenB f.blocks 12 blkB)
def recB (r : List (Int × Int)) : Bool := decide (r.length ≤ 4)
def sigB (s : List (Int × Int) × Int × Int) : Bool := decide (s.1.length ≤ 4)
def ifB (f : List Int) : Bool := decide (f.length ≤ 3)
def imB (m : Int × Int × List Int) : Bool := decide (m.2.2.length ≤ 3)
def tabB (P : Pr8) : Bool := decide (0 < P.funcs.length) && (lenB P.recs 6 recB && (lenB P.sigs 10 sigB && (lenB P.ifs 4 ifB && (lenB P.ims 12 imB && lenB P.funcs 12 fnB))))
/-- Is there an OAlloc? -/
def isSite (P : Pr8) (q : Nat × Nat × Nat) : Bool := decide (q.2.2 < (blk8 (fun8 P q.1) q.2.1).code.length) && decide ((ins8 (blk8 (fun8 P q.1) q.2.1) q.2.2).op = 5)
def sitesN (P : Pr8) (l : List (Nat × Nat × Nat)) : Nat := l.countP (isSite P)
theorem sitesN_le (P : Pr8) (l : List (Nat × Nat × Nat)) : sitesN P l ≤ l.length := List.countP_le_length
theorem sitesN_snoc (P : Pr8) (l : List (Nat × Nat × Nat)) (q : Nat × Nat × Nat) : sitesN P (l ++ [q]) = sitesN P l + (if isSite P q then 1 else 0) := by
  unfold sitesN
  rw [List.countP_append, List.countP_singleton]
def bndB (P : Pr8) : Bool := tabB P && (decide ((pts P).length ≤ 600) && decide (sitesN P (pts P) ≤ 40))

/-- A type that names something. -/
def tyB (P : Pr8) (t : Int × Int) : Bool :=
  if t.1 = 0 then decide (t.2 = 0) else if t.1 = 1 then inB t.2 P.recs.length else if t.1 = 2 then inB t.2 P.sigs.length else if t.1 = 3 then inB t.2 P.ifs.length else false
def tysB (P : Pr8) (l : List (Int × Int)) : Bool := l.all (tyB P)
def insB (l : List Int) (n : Nat) : Bool := l.all fun k => inB k n
def sgnB (P : Pr8) (s : List (Int × Int) × Int × Int) : Bool := tysB P s.1 && tyB P s.2
def imnB (P : Pr8) (m : Int × Int × List Int) : Bool := inB m.1 P.recs.length && (inB m.2.1 P.ifs.length && insB m.2.2 P.funcs.length)
def tablesB (P : Pr8) : Bool := P.recs.all (tysB P) && (P.sigs.all (sgnB P) && (P.ifs.all (fun l => insB l P.sigs.length) && P.ims.all (imnB P)))
end Go.Proofs.YtlopddflbhnjdaaDoor
