/-
  Plain: a graph with an edge more.
-/
import Derived.Test.YtngdnjlohmkbiaaDoorGLaw
namespace Go.Proofs.YtngdnjlohmkbiaaDoor

/-- g with an edge from x to y more. -/
def moreG (L : Nat → List Nat) (N x y : Nat) : List (List Nat) := (List.range N).map fun i => if i = x then L x ++ [y] else L i
theorem nb_more {L : Nat → List Nat} {N x y a : Nat} (hx : x < N) : ∀ b, b ∈ nb (moreG L N x y) a ↔ b ∈ nb ((List.range N).map L) a ∨ (a = x ∧ b = y) := by
  intro b
  by_cases ha : a < N
  · unfold moreG
    rw [nb_map _ _ _ ha, nb_map _ _ _ ha]
    by_cases e : a = x
    · subst e; simp
    · simp [e]
  · rw [nb_out (by simp [moreG]; omega), nb_out (by simp; omega)]
    simp
    omega
theorem pth_more {L : Nat → List Nat} {N x y : Nat} (hx : x < N) (i m : Nat) : Pth (moreG L N x y) noS i m ↔ Pth ((List.range N).map L) noS i m ∨ (Pth ((List.range N).map L) noS i x ∧ Pth ((List.range N).map L) noS y m) := by
  constructor
  · intro p
    refine p.carry (C := fun m => Pth ((List.range N).map L) noS i m ∨ (Pth ((List.range N).map L) noS i x ∧ Pth ((List.range N).map L) noS y m)) ?_ (.inl (Pth.refl rfl))
    intro u hu _ v hv _
    rcases (nb_more hx v).1 hv with h | ⟨rfl, rfl⟩
    · rcases hu with h1 | ⟨h1, h2⟩
      · exact .inl (h1.snoc h rfl)
      · exact .inr ⟨h1, h2.snoc h rfl⟩
    · rcases hu with h1 | ⟨h1, _⟩
      · exact .inr ⟨h1, Pth.refl rfl⟩
      · exact .inr ⟨h1, Pth.refl rfl⟩
  · have up : ∀ {a b}, Pth ((List.range N).map L) noS a b → Pth (moreG L N x y) noS a b := by
      intro a b p
      refine p.carry (C := fun m => Pth (moreG L N x y) noS a m) ?_ (Pth.refl rfl)
      intro u hu _ v hv _
      exact hu.snoc ((nb_more hx v).2 (.inl hv)) rfl
    rintro (h | ⟨h1, h2⟩)
    · exact up h
    · exact ((up h1).snoc ((nb_more hx y).2 (.inr ⟨rfl, rfl⟩)) rfl).trans (up h2)
theorem more_sm {L : Nat → List Nat} {N x y : Nat} (hs : Sm ((List.range N).map L)) (h5 : ∀ i, i < N → (L i).length ≤ 900) (hx : x < N) (hy : y < N) : Sm (moreG L N x y) := by
  have e1 : (moreG L N x y).length = N := by simp [moreG]
  have e2 : ((List.range N).map L).length = N := by simp
  refine ⟨fun a b hb => ?_, by rw [e1, ← e2]; exact hs.len, fun j => ?_⟩
  · rw [e1]
    rcases (nb_more hx b).1 hb with h | ⟨rfl, rfl⟩
    · have := hs.ok a b h
      rwa [e2] at this
    · exact hy
  · by_cases hj : j < N
    · unfold moreG
      rw [nb_map _ _ _ hj]
      have := h5 j hj
      have := h5 x hx
      by_cases e : j = x
      · rw [if_pos e, List.length_append]; simp; omega
      · rw [if_neg e]; omega
    · rw [nb_out (by rw [e1]; omega)]; simp
theorem made_short (n : Int) (zs : List (Int × Int)) (j : Nat) : (nb (madeG n zs) j).length ≤ 80 := by
  by_cases ha : j < nN n
  · unfold madeG
    rw [nb_map _ _ _ ha]
    have h1 := edL_len (edsM (nN n) (zs.take 80)) j
    have h2 : (edsM (nN n) (zs.take 80)).length ≤ 80 := by unfold edsM; rw [List.length_map, List.length_take]; omega
    omega
  · rw [nb_out (by rw [madeG_len]; omega)]
    simp
end Go.Proofs.YtngdnjlohmkbiaaDoor
