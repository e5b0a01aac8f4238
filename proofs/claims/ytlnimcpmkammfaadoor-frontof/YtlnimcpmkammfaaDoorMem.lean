/-
  What a set is in memory, and two plain laws on rows of cells.
-/
import Derived.Test.YtlnimcpmkammfaaDoorBase
import Derived.Test.YtlnimcpmkammfaaDoorPlain
namespace Go.Proofs.YtlnimcpmkammfaaDoor
open Go.RowKit
/-- Is a in s? -/
def hasI (s : Nat → Bool) (a : Int) : Bool := decide (0 ≤ a) && s a.toNat

/-- s with a (where a may be in), s without a. -/
def insI (s : Nat → Bool) (a : Int) : Nat → Bool := fun m => s m || (decide (a < 5000) && decide ((m : Int) = a))
def delI (s : Nat → Bool) (a : Int) : Nat → Bool := fun m => s m && !decide ((m : Int) = a)
def Fit (s : Nat → Bool) : Prop := ∀ n, 5000 ≤ n → s n = false

theorem Fit.ins {s : Nat → Bool} (h : Fit s) (a : Int) : Fit (insI s a) := by
  intro n hn
  unfold insI
  rw [h n hn]
  simp
  omega
theorem Fit.del {s : Nat → Bool} (h : Fit s) (a : Int) : Fit (delI s a) := by
  intro n hn
  simp [delI, h n hn]
theorem insI_out (s : Nat → Bool) (a : Int) (h : ¬ (0 ≤ a ∧ a < 5000)) : insI s a = s := by
  funext m
  unfold insI
  by_cases h1 : a < 5000
  · have : ¬ (m : Int) = a := by omega
    simp [this]
  · simp [h1]
theorem insI_in (s : Nat → Bool) (n : Nat) (h : s n = true) : insI s (n : Int) = s := by
  funext m
  unfold insI
  by_cases h1 : (m : Int) = n
  · have : m = n := by omega
    subst this
    simp [h]
  · simp [h1]
theorem insI_nat (s : Nat → Bool) (n : Nat) (h : n < 5000) : insI s (n : Int) = ins s n := by
  funext m
  unfold insI ins
  have : (n : Int) < 5000 := by omega
  by_cases hm : m = n
  · subst hm; simp [this]
  · have : ¬ (m : Int) = n := by omega
    simp [this, hm]
theorem delI_nat (s : Nat → Bool) (n : Nat) : delI s (n : Int) = del s n := by
  funext m
  unfold delI del
  by_cases hm : m = n
  · subst hm; simp
  · have : ¬ (m : Int) = n := by omega
    simp [this, hm]
theorem delI_not (s : Nat → Bool) (a : Int) (h : hasI s a = false) : delI s a = s := by
  funext m
  unfold delI
  by_cases h1 : (m : Int) = a
  · subst h1
    have : s m = false := by simpa [hasI] using h
    simp [this]
  · simp [h1]

/-- The cells of a set. -/
def row (s : Nat → Bool) : Array Value := Array.ofFn (n := 79) fun k => Value.int .u64 (wd s k : Nat)

theorem row_size (s : Nat → Bool) : (row s).size = 79 := by simp [row]
theorem row_get (s : Nat → Bool) (k : Nat) (h : k < 79) : (row s)[k]? = some (.int .u64 (wd s k : Nat)) := by simp [row, h]
theorem row_set (s t : Nat → Bool) (k : Nat) (v : Nat) (h : ∀ j, j ≠ k → wd t j = wd s j) (hv : v = wd t k) : (row s).setIfInBounds k (.int .u64 (v : Nat)) = row t := by
  rw [hv]
  apply Array.ext_getElem?
  intro i
  rw [Array.getElem?_setIfInBounds]
  by_cases hi : i < 79
  · rw [row_get t i hi, row_get s i hi, row_size]
    by_cases hk : k = i
    · subst hk; simp [hi]
    · rw [if_neg hk, h i (fun e => hk e.symm)]
  · have e1 : (row t)[i]? = none := by simp [row_size]; omega
    have e2 : (row s)[i]? = none := by simp [row_size]; omega
    rw [e1, e2, row_size]
    by_cases hk : k = i
    · subst hk; simp [hi]
    · rw [if_neg hk]

/-- Block b holds the set s. -/
structure SetAt (w : World) (b : Nat) (s : Nat → Bool) : Prop where
  heap : w.heap[b]? = some (.cells (row s) 56 (0, 0))

theorem SetAt.cell {w : World} {b : Nat} {s : Nat → Bool} (h : SetAt w b s) {k : Nat} (hk : k < 79) : w.cell? ⟨b, k, none⟩ = some (.int .u64 (wd s k : Nat)) := by
  rw [cell_of_row w b k _ _ _ h.heap, row_get s k hk]
theorem SetAt.frozen {w : World} {b : Nat} {s : Nat → Bool} (h : SetAt w b s) (k : Nat) : w.frozen? ⟨b, k, none⟩ = false := frozen_of_row w b k _ _ h.heap
theorem SetAt.lt {w : World} {b : Nat} {s : Nat → Bool} (h : SetAt w b s) : b < w.heap.size := by
  have := h.heap
  rw [Array.getElem?_eq_some_iff] at this
  exact this.1

theorem SetAt.put {w : World} {b : Nat} {s : Nat → Bool} (h : SetAt w b s) (t : Nat → Bool) (k v : Nat) (ht : ∀ j, j ≠ k → wd t j = wd s j) (hv : v = wd t k) : SetAt (w.setCell ⟨b, k, none⟩ (.int .u64 (v : Nat))) b t :=
  ⟨by rw [heap_setCell_same w b k (row s) _ _ h.heap, row_set s t k v ht hv]⟩

theorem SetAt.kept {w w' : World} {b : Nat} {s : Nat → Bool} {L : List Nat} (h : SetAt w b s) (k : Keeps L w w') (hb : b ∉ L) : SetAt w' b s :=
  ⟨by rw [k.block b h.lt hb]; exact h.heap⟩
theorem SetAt.drewN {w : World} {b : Nat} {s : Nat → Bool} (h : SetAt w b s) (n : Nat) : SetAt (w.drewN n) b s := ⟨h.heap⟩

/-- The library's table of the least bits, in its variable. -/
def TabAt (w : World) : Prop := ∀ j, j < 64 → w.cell? ⟨0, j, none⟩ = some (.int .u8 (Go.Lib.deBruijn64tab.getD j 0))

theorem TabAt.kept {w w' : World} {L : List Nat} (h : TabAt w) (k : Keeps L w w') (hn : 0 ∉ L) : TabAt w' := by
  intro j hj
  have hc := h j hj
  rw [k.cell (p := ⟨0, j, none⟩) (block_lt_of_cell hc) hn]
  exact hc
theorem TabAt.drewN {w : World} (h : TabAt w) (n : Nat) : TabAt (w.drewN n) := h

end Go.Proofs.YtlnimcpmkammfaaDoor
