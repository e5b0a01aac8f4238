/-
  Plain: the values at begun's graph.
-/
import Derived.Test.YtngdnjlohmkbiaaDoorGPath
namespace Go.Proofs.YtngdnjlohmkbiaaDoor
open Go.RowKit

def g3 : List (List Nat) := [[1], [0, 2], []]
theorem sm3 : Sm g3 := by
  refine ⟨?_, by decide, ?_⟩
  · intro a b hb
    match a with
    | 0 => simp [nb, g3] at hb; subst hb; decide
    | 1 => simp [nb, g3] at hb; rcases hb with rfl | rfl <;> decide
    | 2 => simp [nb, g3] at hb
    | a + 3 => simp [nb, g3] at hb
  · intro j
    match j with
    | 0 => decide
    | 1 => decide
    | 2 => decide
    | j + 3 => simp [nb, g3]
theorem elems_cut (s : Nat → Bool) (n : Nat) (hn : n ≤ 5000) (h : ∀ i, n ≤ i → s i = false) : elems s = (List.range n).filter s := by
  unfold elems
  obtain ⟨e, he⟩ := Nat.exists_eq_add_of_le hn
  rw [he]
  exact range_filter_skip s n e (fun i hi _ => h i hi)
theorem rch_node {g : List (List Nat)} (hg : Ok g) : ∀ (zs : List Int) (s : Nat → Bool) (m : Nat), rchS g zs s m = true → s m = true ∨ m < g.length
  | [], _, _, h => .inl h
  | z :: zs, s, m, h => by
    have h' : rchS g zs (if 0 ≤ z ∧ z < (g.length : Int) then (vis g (g.length + 1) z.toNat (s, [])).1 else s) m = true := h
    rcases rch_node hg zs _ m h' with h1 | h1
    · by_cases e : 0 ≤ z ∧ z < (g.length : Int)
      · rw [if_pos e] at h1
        exact vis_node g hg _ z.toNat (s, []) m (by omega) h1
      · rw [if_neg e] at h1; exact .inl h1
    · exact .inr h1
theorem rch_out {g : List (List Nat)} (hg : Ok g) (zs : List Int) (m : Nat) (hm : g.length ≤ m) : rch g zs m = false := by
  cases h : rch g zs m
  · rfl
  · rcases rch_node hg zs none_ m h with h1 | h1
    · cases h1
    · omega
theorem val_reach : elems (rch g3 [2]) = [2] := by
  rw [elems_cut _ 3 (by decide) (fun i hi => rch_out sm3.ok _ i hi)]
  decide +kernel
theorem val_sccs : sccs g3 = [[0, 1], [2]] := by decide +kernel
theorem val_loops : elems (loopS g3 (sccs g3)) = [0, 1] := by
  rw [val_sccs, show loopS g3 [[0, 1], [2]] = orL none_ [0, 1] from rfl]
  decide +kernel
theorem val_small : smallG g3 [[0, 1], [2]] = [[1], []] := by decide +kernel
theorem val_ahd : ahd [[1], []] = [0, 1] := by decide +kernel
theorem val_parts : partsM g3 = [[0, 1], [2]] := by
  unfold partsM
  rw [val_sccs, val_small, val_ahd]
  rfl
theorem val_path : pathM g3 0 2 = [0, 1, 2] := by decide +kernel
theorem val_order : ordG g3 0 = [0, 1, 2] := by decide +kernel
end Go.Proofs.YtngdnjlohmkbiaaDoor
