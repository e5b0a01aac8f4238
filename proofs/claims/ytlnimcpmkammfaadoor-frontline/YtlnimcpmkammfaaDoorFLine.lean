/-
  Plain: the line on which each node leads to the next one, with or without a way back, and its frontiers.
-/
import Derived.Test.YtlnimcpmkammfaaDoorFPl
namespace Go.Proofs.YtlnimcpmkammfaaDoor

def flL (n : Nat) (rg : Bool) (i : Nat) : List Nat := if i + 1 < n then [i + 1] else if rg = true then [0] else []
def flG (n : Nat) (rg : Bool) : List (List Nat) := (List.range n).map (flL n rg)
theorem flG_len (n : Nat) (rg : Bool) : (flG n rg).length = n := by simp [flG]
theorem nb_fl {n i : Nat} {rg : Bool} (h : i < n) : nb (flG n rg) i = flL n rg i := by
  unfold nb flG
  rw [List.getD_eq_getElem?_getD, List.getElem?_map, List.getElem?_range h]
  rfl
theorem mem_fl {n i b : Nat} {rg : Bool} (h : i < n) : b ∈ nb (flG n rg) i ↔ (i + 1 < n ∧ b = i + 1) ∨ (i + 1 = n ∧ rg = true ∧ b = 0) := by
  rw [nb_fl h]
  unfold flL
  by_cases h1 : i + 1 < n
  · rw [if_pos h1]
    simp
    omega
  · rw [if_neg h1]
    cases rg
    · simp
      omega
    · simp
      omega
theorem fl_ok (n : Nat) (rg : Bool) : Ok (flG n rg) := by
  intro a b hb
  rw [flG_len]
  by_cases ha : a < n
  · rcases (mem_fl ha).1 hb with h | h <;> omega
  · rw [nb_out (by rw [flG_len]; omega)] at hb; cases hb
theorem fl_pth {n : Nat} {rg : Bool} : ∀ (b : Nat), b < n → ∀ s : Nat → Bool, (∀ i, i ≤ b → s i = false) → Pth (flG n rg) s 0 b
  | 0, _, s, h => Pth.refl (h 0 (Nat.le_refl _))
  | b + 1, hb, s, h => (fl_pth b (by omega) s (fun i hi => h i (by omega))).snoc ((mem_fl (by omega)).2 (.inl ⟨hb, rfl⟩)) (h (b + 1) (Nat.le_refl _))
theorem fl_dom {n a b : Nat} {rg : Bool} (hb : b < n) : Dom (flG n rg) 0 a b ↔ a ≤ b := by
  constructor
  · intro h
    apply Classical.byContradiction
    intro hn
    exact h.2 (fl_pth b hb (eqB a) (fun i hi => eqB_false.2 (by omega)))
  · intro h
    refine ⟨fl_pth b hb noS (fun _ _ => rfl), fun p => ?_⟩
    have h0 := eqB_false.1 p.start
    have : b < a := p.carry (C := fun u => u < a) (fun u hu hs w hw hs2 => by
      have h2 := eqB_false.1 hs2
      by_cases hun : u < n
      · rcases (mem_fl hun).1 hw with h3 | h3 <;> omega
      · rw [nb_out (by rw [flG_len]; omega)] at hw; cases hw) (by omega)
    omega
theorem fl_fr {n a b : Nat} {rg : Bool} (hn : 0 < n) (ha : a < n) : Fr (flG n rg) 0 a b ↔ rg = true ∧ b = 0 := by
  constructor
  · rintro ⟨c, h1, h2, h3⟩
    have hc : c < n := by have := h1.1.lt (fl_ok n rg) (by rw [flG_len]; exact hn); rw [flG_len] at this; exact this
    have hac := (fl_dom hc).1 h1
    rcases (mem_fl hc).1 h3 with h4 | h4
    · exact absurd ⟨(fl_dom (by omega)).2 (by omega), by omega⟩ h2
    · exact h4.2
  · rintro ⟨h1, rfl⟩
    refine ⟨n - 1, (fl_dom (by omega)).2 (by omega), ?_, (mem_fl (by omega)).2 (.inr ⟨by omega, h1, rfl⟩)⟩
    rintro ⟨h3, h4⟩
    have := (fl_dom hn).1 h3
    omega
theorem fl_short {n : Nat} {rg : Bool} (j : Nat) : (nb (flG n rg) j).length ≤ 1000 := by
  by_cases hj : j < n
  · rw [nb_fl hj]
    unfold flL
    by_cases h3 : j + 1 < n
    · rw [if_pos h3]; simp
    · rw [if_neg h3]
      cases rg <;> simp
  · rw [nb_out (by rw [flG_len]; omega)]; simp
/-- The first i are laid. -/
def flK (i j : Nat) : List Nat := if j < i then [j + 1] else []
theorem flK_next (i j : Nat) : (if j = i then [i + 1] else flK i j) = flK (i + 1) j := by
  unfold flK
  by_cases e : j = i
  · subst e; simp
  · have : j < i + 1 ↔ j < i := by omega
    simp only [e, if_false, this]
theorem flK_all {n i : Nat} (h : i + 1 = n) : (List.range n).map (flK i) = flG n false := by
  unfold flG
  refine List.map_congr_left fun j hj => ?_
  have := List.mem_range.1 hj
  unfold flK flL
  by_cases h7 : j < i
  · rw [if_pos h7, if_pos (by omega)]
  · rw [if_neg h7, if_neg (by omega)]
    simp
theorem flK_ring {n i : Nat} (h : i + 1 = n) : (List.range n).map (fun j => if j = i then [0] else flK i j) = flG n true := by
  unfold flG
  refine List.map_congr_left fun j hj => ?_
  have := List.mem_range.1 hj
  unfold flK flL
  by_cases e : j = i
  · subst e
    rw [if_pos rfl, if_neg (by omega)]
    simp
  · rw [if_neg e, if_pos (by omega), if_pos (by omega)]
end Go.Proofs.YtlnimcpmkammfaaDoor
