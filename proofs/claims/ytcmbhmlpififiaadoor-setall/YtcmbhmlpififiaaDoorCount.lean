/-
  How many numbers a set has, one more or one less; plain facts.
-/
import Derived.Test.YtcmbhmlpififiaaDoorBegun
namespace Go.Proofs.YtcmbhmlpififiaaDoor
open Go.RowKit

theorem filter_ins (s : Nat → Bool) (n : Nat) (hs : s n = false) : ∀ N, ((List.range N).filter (ins s n)).length = ((List.range N).filter s).length + (if n < N then 1 else 0)
  | 0 => by simp
  | N + 1 => by
    rw [List.range_succ, List.filter_append, List.filter_append, List.length_append, List.length_append, filter_ins s n hs N]
    by_cases h : N = n
    · subst h
      have h1 : ¬ N < N := by omega
      have h2 : N < N + 1 := by omega
      simp [List.filter, ins, hs]
    · have e : ins s n N = s N := by simp [ins, h]
      have e2 : (List.filter (ins s n) [N]).length = (List.filter s [N]).length := by simp [List.filter, e]
      rw [e2]
      by_cases hl : n < N
      · have : n < N + 1 := by omega
        rw [if_pos hl, if_pos this]; omega
      · have : ¬ n < N + 1 := by omega
        rw [if_neg hl, if_neg this]; omega

theorem elems_ins (s : Nat → Bool) (n : Nat) (hn : n < 5000) (hs : s n = false) : (elems (insI s (n : Int))).length = (elems s).length + 1 := by
  rw [insI_nat s n hn]
  unfold elems
  rw [filter_ins s n hs, if_pos hn]

theorem hasI_nat (s : Nat → Bool) (n : Nat) : hasI s (n : Int) = s n := by simp [hasI]

theorem ofI_snoc (zs : List Int) (z : Int) : ofI (zs ++ [z]) = insI (ofI zs) z := by
  unfold ofI; rw [List.foldl_append]; rfl
end Go.Proofs.YtcmbhmlpififiaaDoor
