/-
  Plain: the line on which each node leads to the next one and to the first.
-/
import Derived.Test.YtjdcphkmaaoehaaDPre
namespace Go.Proofs.Ytjdcphkmaaoehaa

def lineL (n i : Nat) : List Nat := if i + 1 < n then [i + 1, 0] else []
def lineG (n : Nat) : List (List Nat) := (List.range n).map (lineL n)
theorem lineG_len (n : Nat) : (lineG n).length = n := by simp [lineG]
theorem nb_line {n i : Nat} (h : i < n) : nb (lineG n) i = lineL n i := by
  unfold nb lineG
  rw [List.getD_eq_getElem?_getD, List.getElem?_map, List.getElem?_range h]
  rfl
theorem line_ok (n : Nat) : Ok (lineG n) := by
  intro a b hb
  rw [lineG_len]
  by_cases ha : a < n
  · rw [nb_line ha] at hb
    unfold lineL at hb
    by_cases h : a + 1 < n
    · rw [if_pos h] at hb
      simp at hb
      omega
    · rw [if_neg h] at hb; cases hb
  · rw [nb_out (by rw [lineG_len]; omega)] at hb; cases hb
/-- A way that begins ahead of a, or at 0, and avoids a stays ahead of a. -/
theorem line_pth {n a : Nat} : ∀ (b : Nat), b < n → ∀ s : Nat → Bool, (∀ i, i ≤ b → s i = false) → Pth (lineG n) s 0 b
  | 0, _, s, h => Pth.refl (h 0 (Nat.le_refl _))
  | b + 1, hb, s, h => by
    refine (line_pth (a := a) b (by omega) s (fun i hi => h i (by omega))).snoc ?_ (h (b + 1) (Nat.le_refl _))
    rw [nb_line (by omega)]
    unfold lineL
    rw [if_pos hb]
    simp
theorem line_dom {n a b : Nat} (hb : b < n) : Dom (lineG n) 0 a b ↔ a ≤ b := by
  constructor
  · intro h
    apply Classical.byContradiction
    intro hn
    exact h.2 (line_pth (a := a) b hb (eqB a) (fun i hi => eqB_false.2 (by omega)))
  · intro h
    refine ⟨line_pth (a := a) b hb noS (fun _ _ => rfl), fun p => ?_⟩
    have hne := eqB_false.1 p.stop
    have h0 := eqB_false.1 p.start
    have : b < a := p.carry (C := fun u => u < a) (fun u hu hs w hw hs2 => by
      have h2 := eqB_false.1 hs2
      by_cases hun : u < n
      · rw [nb_line hun] at hw
        unfold lineL at hw
        by_cases h3 : u + 1 < n
        · rw [if_pos h3] at hw
          simp at hw
          omega
        · rw [if_neg h3] at hw; cases hw
      · rw [nb_out (by rw [lineG_len]; omega)] at hw; cases hw) (by omega)
    omega
theorem line_reach {n b : Nat} (hb : b < n) : Pth (lineG n) noS 0 b := line_pth (a := 0) b hb noS (fun _ _ => rfl)
theorem line_up {n : Nat} {U : Nat → Int} (h : UpOf (lineG n) 0 U) {b : Nat} (hb : b < n) : U b = ((b - 1 : Nat) : Int) := by
  by_cases e : b = 0
  · subst e; exact h.root
  · obtain ⟨a, h1, h2, h3, h4⟩ := h.next b (by rw [lineG_len]; exact hb) (line_reach hb) e
    have h5 := (line_dom hb).1 h3
    have h6 := h4 (b - 1) (by omega) ((line_dom hb).2 (by omega))
    have h7 := (line_dom (n := n) (a := b - 1) (b := a) (by omega)).1 h6
    rw [h1]
    congr 1
    omega
theorem line_sm {n : Nat} (h : n ≤ 600) : Ok (lineG n) ∧ (lineG n).length ≤ 600 ∧ ∀ j, (nb (lineG n) j).length ≤ 1000 := by
  refine ⟨line_ok n, by rw [lineG_len]; exact h, fun j => ?_⟩
  by_cases hj : j < n
  · rw [nb_line hj]
    unfold lineL
    by_cases h3 : j + 1 < n
    · rw [if_pos h3]; simp
    · rw [if_neg h3]; simp
  · rw [nb_out (by rw [lineG_len]; omega)]; simp
end Go.Proofs.Ytjdcphkmaaoehaa
