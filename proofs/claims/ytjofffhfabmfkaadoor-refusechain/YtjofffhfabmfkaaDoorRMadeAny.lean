/-
  'made', of every slice of links.
-/
import Derived.Test.YtjofffhfabmfkaaDoorRMade
namespace Go.Proofs.YtjofffhfabmfkaaDoor
open Go.RowKit

theorem made_empty (a : Option Addr) (cap : Nat) (w : World) : Calls Tryd.prog 8 #[.slice a 0 cap] w fun e w' => e = .returned (.tuple #[.nilIface, .string ⟨#[]⟩, .slice none 0 0]) ∧ w' = w := by
  go_enter Tryd.func8, Tryd.ntmps8
  go_wp2_with fail
  go_loop [5, 6, 7, 8] (fun e t l i => e = .nilIface ∧ t = .string ⟨#[]⟩ ∧ l = .slice none 0 0 ∧ i = .int .i64 (-1)) (fun _ _ _ _ => 0)
  case atStart => exact ⟨rfl, rfl, rfl, rfl⟩
  case round =>
    obtain ⟨rfl, rfl, rfl, rfl⟩ := hrel
    go_wp2_with fail
    exact bodyPost_ret (v := .tuple #[.nilIface, .string ⟨#[]⟩, .slice none 0 0]) (by simp [results, Tryd.results8, go_sem]) rfl ⟨rfl, rfl⟩

theorem made_any (a : Option Addr) (cap : Nat) (zs : List Ln) (w : World) (hz : LinksAt w a zs) (hl : zs.length ≤ 8) (hw : ∀ x, x ∈ zs → x.wf) :
    Calls Tryd.prog 8 #[.slice a zs.length cap] w fun e w' => ∃ l lv, e = .returned (.tuple #[headV l, .string (textL zs), lv]) ∧ MadeSt w w' zs l lv := by
  rcases hz with rfl | ⟨b, off, rfl, hc⟩
  · refine (made_empty a cap w).mono fun e w' ⟨he, hk⟩ => ?_
    subst hk
    exact ⟨[], .slice none 0 0, he, Keeps.refl _ _, trivial, trivial, rfl, ⟨rfl, Or.inl ⟨rfl, rfl⟩⟩, fun _ => rfl⟩
  · exact made_raw b off cap zs w hl hw hc

theorem LinksAt.take {w : World} {a : Option Addr} {zs : List Ln} (h : LinksAt w a zs) (k : Nat) : LinksAt w a (zs.take k) := by
  rcases h with rfl | ⟨b, off, rfl, hc⟩
  · left; simp
  · right
    refine ⟨b, off, rfl, fun i hi j hj => ?_⟩
    rw [List.length_take] at hi
    rw [hc i (by omega) j hj]
    congr 2
    simp only [List.getD, List.getElem?_take]
    rw [if_pos (by omega)]
theorem LinksAt.quiet {w w' : World} {a : Option Addr} {zs : List Ln} (h : LinksAt w a zs) (k : Keeps [] w w') : LinksAt w' a zs := by
  rcases h with rfl | ⟨b, off, rfl, hc⟩
  · exact Or.inl rfl
  · refine Or.inr ⟨b, off, rfl, fun i hi j hj => ?_⟩
    have h1 := hc i hi j hj
    rw [k.cell (p := ⟨b, off + i * 6 + j, none⟩) (block_lt_of_cell (a := ⟨b, off + i * 6 + 0, none⟩) (hc i hi 0 (by omega))) (by simp)]
    exact h1
end Go.Proofs.YtjofffhfabmfkaaDoor
