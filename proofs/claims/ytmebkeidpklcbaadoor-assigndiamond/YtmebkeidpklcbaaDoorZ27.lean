/-
  Plain: what Reach and Loops tell; contracts: the statements' own Set and Loops.
-/
import Derived.Test.YtmebkeidpklcbaaDoorRows
import Derived.WalkKit
import Derived.WalkSpells
import Derived.WalkLawsBesides
import Derived.OwnWalk
import Derived.Deep.QuietTactic
import Derived.BigQuiet
import Derived.Lib.TrailingZeros
import Derived.Maps.AppendAt
import Derived.Lib.Builder
import Derived.Deep.OwnRows
import Derived.ArgAppend
import Derived.Laws.IdiomCopy
import Derived.Laws.BitsAllLaws
import Derived.RegionTactic
import Derived.ChangeAlike
import Derived.Laws.Bits64b
import Derived.Laws.Bits128
import Derived.Laws.Tables
import Derived.Sort.OwnSortedInts
import Derived.Deep.LoopGhost
import Derived.Deep.DeepCutAuto
import Derived.Test.YtmebkeidpklcbaaDoorZ25
import Derived.Test.YtmebkeidpklcbaaDoorZ26

namespace Go.Proofs.YtmebkeidpklcbaaDoor
open Go.RowKit

theorem vis_closed {g : List (List Nat)} (hg : Ok g) {s : Nat → Bool} (hs : ∀ u, s u = true → ∀ v, v ∈ nb g u → s v = true) {z : Nat} (hz : z < g.length) :
    (∀ u, (vis g (g.length + 1) z (s, [])).1 u = true ↔ s u = true ∨ Pth g noS z u) ∧ ∀ u, (vis g (g.length + 1) z (s, [])).1 u = true → ∀ v, v ∈ nb g u → (vis g (g.length + 1) z (s, [])).1 v = true := by
  obtain ⟨N, e, h⟩ := vis_spec g hg (g.length + 1) z s [] hz (Nat.lt_succ_of_le (un_le g _))
  rw [e]
  have hcl : ∀ u, orL s N u = true → ∀ v, v ∈ nb g u → orL s N v = true := by
    intro u hu v hv
    rcases orL_true.1 hu with h1 | h1
    · exact orL_true.2 (.inl (hs u h1 v hv))
    · rcases h.good.closed u h1 v hv with h2 | h2
      · exact orL_true.2 (.inl h2)
      · exact orL_true.2 (.inr h2)
  refine ⟨fun u => ⟨fun hu => ?_, ?_⟩, hcl⟩
  · rcases orL_true.1 hu with h1 | h1
    · exact .inl h1
    · obtain ⟨n, hn, p⟩ := (h.iff u).1 h1
      rw [List.mem_singleton.1 hn] at p
      exact .inr (p.mono fun _ _ => rfl)
  · rintro (h1 | p)
    · exact orL_true.2 (.inl h1)
    · refine p.carry (C := fun u => orL s N u = true) (fun u hu _ v hv _ => hcl u hu v hv) ?_
      rcases h.all z (by simp) with h1 | h1
      · exact orL_true.2 (.inl h1)
      · exact orL_true.2 (.inr h1)
theorem rchS_all {g : List (List Nat)} (hg : Ok g) : ∀ (zs : List Int) (s : Nat → Bool), (∀ u, s u = true → ∀ v, v ∈ nb g u → s v = true) → ∀ u, rchS g zs s u = true ↔ s u = true ∨ ∃ z, z ∈ nodI g.length zs ∧ Pth g noS z u
  | [], s, _, u => by simp [rchS, nodI]
  | z :: zs, s, hs, u => by
    show rchS g zs (if 0 ≤ z ∧ z < (g.length : Int) then (vis g (g.length + 1) z.toNat (s, [])).1 else s) u = true ↔ _
    by_cases h : 0 ≤ z ∧ z < (g.length : Int)
    · rw [if_pos h]
      have hv := vis_closed hg hs (z := z.toNat) (by omega)
      rw [rchS_all hg zs _ hv.2 u, hv.1 u, or_assoc]
      refine or_congr Iff.rfl ?_
      have e : ∀ x, x ∈ nodI g.length (z :: zs) ↔ x = z.toNat ∨ x ∈ nodI g.length zs := by
        intro x
        rw [mem_nodI, mem_nodI, List.mem_cons]
        constructor
        · rintro ⟨h1 | h1, h2⟩
          · exact .inl (by omega)
          · exact .inr ⟨h1, h2⟩
        · rintro (h1 | ⟨h1, h2⟩)
          · exact ⟨.inl (by omega), by omega⟩
          · exact ⟨.inr h1, h2⟩
      constructor
      · rintro (p | ⟨x, hx, p⟩)
        · exact ⟨z.toNat, (e _).2 (.inl rfl), p⟩
        · exact ⟨x, (e _).2 (.inr hx), p⟩
      · rintro ⟨x, hx, p⟩
        rcases (e x).1 hx with rfl | h1
        · exact .inl p
        · exact .inr ⟨x, h1, p⟩
    · rw [if_neg h, rchS_all hg zs s hs u]
      refine or_congr Iff.rfl ?_
      have e : ∀ x, x ∈ nodI g.length (z :: zs) ↔ x ∈ nodI g.length zs := by
        intro x
        rw [mem_nodI, mem_nodI, List.mem_cons]
        constructor
        · rintro ⟨h1 | h1, h2⟩
          · exact absurd (by omega) h
          · exact ⟨h1, h2⟩
        · rintro ⟨h1, h2⟩
          exact ⟨.inr h1, h2⟩
      exact ⟨fun ⟨x, hx, p⟩ => ⟨x, (e x).2 hx, p⟩, fun ⟨x, hx, p⟩ => ⟨x, (e x).1 hx, p⟩⟩
theorem rch_all {g : List (List Nat)} (hg : Ok g) (zs : List Int) (u : Nat) : rch g zs u = true ↔ ∃ z, z ∈ nodI g.length zs ∧ Pth g noS z u := by
  unfold rch
  rw [rchS_all hg zs none_ (fun u hu => by cases hu) u]
  constructor
  · rintro (h | h)
    · cases h
    · exact h
  · exact .inr
end Go.Proofs.YtmebkeidpklcbaaDoor
