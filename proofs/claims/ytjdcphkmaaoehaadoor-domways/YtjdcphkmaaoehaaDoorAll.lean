/-
  Contracts: bitset's All; numbers in a slice that the call has made.
-/
import Derived.Test.YtjdcphkmaaoehaaDoorFirst
import Derived.Test.YtjdcphkmaaoehaaDoorGTy
namespace Go.Proofs.YtjdcphkmaaoehaaDoor
open Go.RowKit


/-- Those of s below c, rising. -/
def pre (s : Nat → Bool) (c : Nat) : List Nat := (List.range c).filter s

theorem pre_skip (s : Nat → Bool) (c : Nat) : ∀ d, (∀ m, c ≤ m → m < c + d → s m = false) → pre s (c + d) = pre s c
  | 0, _ => rfl
  | d + 1, h => by
    have ih := pre_skip s c d fun m h1 h2 => h m h1 (by omega)
    have hs := h (c + d) (by omega) (by omega)
    unfold pre at ih ⊢
    rw [show c + (d + 1) = (c + d) + 1 from rfl, List.range_succ, List.filter_append, ih]
    simp [List.filter, hs]

theorem pre_step (s : Nat → Bool) (c j : Nat) (h : firstI s c = j) : c ≤ j ∧ j < 5000 ∧ pre s (j + 1) = pre s c ++ [j] := by
  rcases firstI_spec s c with ⟨e, _⟩ | ⟨i, e, h1, h2, h3, h4⟩
  · omega
  · have : i = j := by omega
    subst this
    have hc : c ≤ i := by omega
    refine ⟨hc, h1, ?_⟩
    have hk := pre_skip s c (i - c) fun m a b => h4 m (by omega) (by omega)
    have e2 : c + (i - c) = i := by omega
    rw [e2] at hk
    rw [← hk]
    unfold pre
    rw [List.range_succ, List.filter_append]
    simp [List.filter, h3]

theorem pre_end (s : Nat → Bool) (c : Nat) (hc : c ≤ 5000) (h : firstI s c = -1) : pre s c = elems s := by
  rcases firstI_spec s c with ⟨_, h1⟩ | ⟨i, e, _⟩
  · have hk := pre_skip s c (5000 - c) fun m a b => h1 m (by omega) (by omega)
    have e2 : c + (5000 - c) = 5000 := by omega
    rw [e2] at hk
    rw [← hk]; rfl
  · omega

theorem pre_len (s : Nat → Bool) (c : Nat) : (pre s c).length ≤ c := by
  have h := List.length_filter_le s (List.range c)
  rw [List.length_range] at h
  exact h

def mAll (v : Value) : Nat := if intOf v < 0 then 0 else 5001 - (intOf v).toNat

theorem mAll_of {a b : Int} (h : b < 0 ∨ a < b ∧ a < 5001) (ha : 0 ≤ a) (ha2 : a < 5000) : mAll (.int .i64 b) < mAll (.int .i64 a) := by
  show (if b < 0 then 0 else 5001 - b.toNat) < (if a < 0 then 0 else 5001 - a.toNat)
  by_cases hb : b < 0
  · rw [if_pos hb, if_neg (by omega)]; omega
  · rw [if_neg hb, if_neg (by omega)]; omega

theorem mAll_step (s : Nat → Bool) (j : Nat) (hj : j < 5000) : mAll (.int .i64 (firstI s ((j : Int) + 1))) < mAll (.int .i64 (j : Int)) := by
  refine mAll_of ?_ (by omega) (by omega)
  rcases firstI_spec s ((j : Int) + 1) with ⟨e1, _⟩ | ⟨i, e1, _, h2, _, _⟩
  · rw [e1]; omega
  · rw [e1]; omega


theorem firstI_none (a : Int) : firstI (fun _ => false) a = -1 := by
  rcases firstI_spec (fun _ => false) a with ⟨e, _⟩ | ⟨j, _, _, _, h, _⟩
  · exact e
  · cases h

theorem elems_none : elems (fun _ => false) = [] := by simp [elems]

end Go.Proofs.YtjdcphkmaaoehaaDoor
