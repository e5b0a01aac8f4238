/-
  Plain: what Reach and Loops tell; contracts: the statements' own Set and Loops.
-/
import Derived.Test.YtngdnjlohmkbiaaDoorGRch
import Derived.Test.YtngdnjlohmkbiaaDoorGLpPl
namespace Go.Proofs.YtngdnjlohmkbiaaDoor
open Go.RowKit

theorem vis_closed {g : List (List Nat)} (hg : Ok g) {s : Nat → Bool} (hs : ∀ u, s u = true → ∀ v, v ∈ nb g u → s v = true) {z : Nat} (hz : z < g.length) :
    (∀ u, (vis g (g.length + 1) z (s, [])).1 u = true ↔ s u = true ∨ Pth g noS z u) ∧ ∀ u, (vis g (g.length + 1) z (s, [])).1 u = true → ∀ v, v ∈ nb g u → (vis g (g.length + 1) z (s, [])).1 v = true := by
  obtain ⟨N, e, h⟩ := vis_spec g hg (g.length + 1) z s [] hz (Nat.lt_succ_of_le (un_le g _))
  rw [e]
  have hcl : ∀ u, orL s N u = true → ∀ v, v ∈ nb g u → orL s N v = true := by
    intro u hu v hv
    rcases orL_true.1 hu with h1 | h1
    · exact orL_true.2 (.inl (hs u h1 v hv))
    · rcases h.good.closed u h1 v hv with h2 | h2
      · exact orL_true.2 (.inl h2)
      · exact orL_true.2 (.inr h2)
  refine ⟨fun u => ⟨fun hu => ?_, ?_⟩, hcl⟩
  · rcases orL_true.1 hu with h1 | h1
    · exact .inl h1
    · obtain ⟨n, hn, p⟩ := (h.iff u).1 h1
      rw [List.mem_singleton.1 hn] at p
      exact .inr (p.mono fun _ _ => rfl)
  · rintro (h1 | p)
    · exact orL_true.2 (.inl h1)
    · refine p.carry (C := fun u => orL s N u = true) (fun u hu _ v hv _ => hcl u hu v hv) ?_
      rcases h.all z (by simp) with h1 | h1
      · exact orL_true.2 (.inl h1)
      · exact orL_true.2 (.inr h1)
theorem rchS_all {g : List (List Nat)} (hg : Ok g) : ∀ (zs : List Int) (s : Nat → Bool), (∀ u, s u = true → ∀ v, v ∈ nb g u → s v = true) → ∀ u, rchS g zs s u = true ↔ s u = true ∨ ∃ z, z ∈ nodI g.length zs ∧ Pth g noS z u
  | [], s, _, u => by simp [rchS, nodI]
  | z :: zs, s, hs, u => by
    show rchS g zs (if 0 ≤ z ∧ z < (g.length : Int) then (vis g (g.length + 1) z.toNat (s, [])).1 else s) u = true ↔ _
    by_cases h : 0 ≤ z ∧ z < (g.length : Int)
    · rw [if_pos h]
      have hv := vis_closed hg hs (z := z.toNat) (by omega)
      rw [rchS_all hg zs _ hv.2 u, hv.1 u, or_assoc]
      refine or_congr Iff.rfl ?_
      have e : ∀ x, x ∈ nodI g.length (z :: zs) ↔ x = z.toNat ∨ x ∈ nodI g.length zs := by
        intro x
        rw [mem_nodI, mem_nodI, List.mem_cons]
        constructor
        · rintro ⟨h1 | h1, h2⟩
          · exact .inl (by omega)
          · exact .inr ⟨h1, h2⟩
        · rintro (h1 | ⟨h1, h2⟩)
          · exact ⟨.inl (by omega), by omega⟩
          · exact ⟨.inr h1, h2⟩
      constructor
      · rintro (p | ⟨x, hx, p⟩)
        · exact ⟨z.toNat, (e _).2 (.inl rfl), p⟩
        · exact ⟨x, (e _).2 (.inr hx), p⟩
      · rintro ⟨x, hx, p⟩
        rcases (e x).1 hx with rfl | h1
        · exact .inl p
        · exact .inr ⟨x, h1, p⟩
    · rw [if_neg h, rchS_all hg zs s hs u]
      refine or_congr Iff.rfl ?_
      have e : ∀ x, x ∈ nodI g.length (z :: zs) ↔ x ∈ nodI g.length zs := by
        intro x
        rw [mem_nodI, mem_nodI, List.mem_cons]
        constructor
        · rintro ⟨h1 | h1, h2⟩
          · exact absurd (by omega) h
          · exact ⟨h1, h2⟩
        · rintro ⟨h1, h2⟩
          exact ⟨.inr h1, h2⟩
      exact ⟨fun ⟨x, hx, p⟩ => ⟨x, (e x).2 hx, p⟩, fun ⟨x, hx, p⟩ => ⟨x, (e x).1 hx, p⟩⟩
theorem rch_all {g : List (List Nat)} (hg : Ok g) (zs : List Int) (u : Nat) : rch g zs u = true ↔ ∃ z, z ∈ nodI g.length zs ∧ Pth g noS z u := by
  unfold rch
  rw [rchS_all hg zs none_ (fun u hu => by cases hu) u]
  constructor
  · rintro (h | h)
    · cases h
    · exact h
  · exact .inr
/-- Who reaches itself. -/
theorem loop_iff {g : List (List Nat)} (hg : Ok g) {x : Nat} (hx : x < g.length) : loopS g (sccs g) x = true ↔ ∃ z, z ∈ nb g x ∧ Pth g noS z x := by
  have hp : part g x ∈ sccs g := (mem_sccs hg _).2 ⟨x, hx, rfl⟩
  have hm := part_self hg hx
  rw [loopS_part hg hp hm, loopB_node hm, Bool.or_eq_true, decide_eq_true_iff, decide_eq_true_iff]
  constructor
  · rintro (h | h)
    · -- another one of its part
      obtain ⟨y, hy, hne⟩ : ∃ y, y ∈ part g x ∧ y ≠ x := by
        apply Classical.byContradiction
        intro hn
        have hall : ∀ y, y ∈ part g x → y = x := fun y hy => Classical.byContradiction fun e => hn ⟨y, hy, e⟩
        have := List.Nodup.length_le_of_subset (part_nodup g x) (l₂ := [x]) (fun y hy => by rw [hall y hy]; simp)
        simp at this
        omega
      obtain ⟨_, hmut⟩ := (mem_part hg y hx).1 hy
      obtain ⟨k, hk⟩ := hmut.1
      cases k with
      | zero => exact absurd hk.2.symm hne
      | succ k =>
        obtain ⟨_, c, hc, hw⟩ := hk
        exact ⟨c, hc, Pth.trans ⟨k, hw⟩ hmut.2⟩
    · exact ⟨x, h, Pth.refl rfl⟩
  · rintro ⟨z, hz, p⟩
    by_cases e : z = x
    · subst e; exact .inr hz
    · have hzN := hg x z hz
      have hmz : z ∈ part g x := (mem_part hg z hx).2 ⟨hzN, Pth.cons rfl hz (Pth.refl rfl), p⟩
      refine .inl ?_
      have h2 := List.Nodup.length_le_of_subset (l₁ := [x, z]) (l₂ := part g x) (by simp; exact fun e' => e e'.symm) (fun y hy => by
        simp at hy
        rcases hy with rfl | rfl
        · exact hm
        · exact hmz)
      simp at h2
      omega
end Go.Proofs.YtngdnjlohmkbiaaDoor
