/-
  Contracts: slices.Reverse and slices.Contains at []int, off the shelf, in our own words.
-/
import Derived.Test.YtngdnjlohmkbiaaDoorGFin
import Derived.Test.YtngdnjlohmkbiaaDoorGLayA
import Derived.Sort.OwnSortedInts
namespace Go.Proofs.YtngdnjlohmkbiaaDoor
open Go.RowKit

theorem ints_intsI (l : List Nat) : ints l = (intsI l).map (Value.int .i64) := by unfold ints intsI; rw [List.map_map]; rfl
theorem grow_none (w : World) : Sort.grow w #[] = w := by simp [Sort.grow]

/-- slices.Reverse of a list that the call has made. -/
theorem rev_any (v : Value) (l : List Nat) (base : Nat) (w : World) (hr : w.ownsRow base 3 1 v l.length (ints l)) (hl : l.length ≤ 1000000) :
    Calls Tryd.prog 48 #[v] w fun e w' => e = .returned (.tuple #[]) ∧ w'.ownsRow base 3 1 v l.length (ints l.reverse) ∧ Keeps v.ownBlock.toList w w' := by
  rcases hr.2 with ⟨rfl, h0⟩ | ⟨g, cap, cur, rfl, hbase, hb, h1, h2, h3, h4⟩
  · have hc := Any.slices_Reverse_int_empty revLays none 0 w
    change Calls Tryd.prog 48 _ _ _ at hc
    refine hc.mono ?_
    rintro e w' ⟨rfl, rfl⟩
    have : l = [] := List.length_eq_zero_iff.1 h0
    subst this
    exact ⟨rfl, hr, Keeps.refl _ _⟩
  · have hlen : (intsI l).length = l.length := intsI_len l
    have hH : Sort.Holds (Value.int .i64) w g 0 (intsI l).toArray := holds_of_blockI hb (by rw [hlen, ← ints_intsI]; simpa using h4)
    have hc := Any.slices_Reverse_int revLays g 0 cap (intsI l) w hH (by omega)
    change Calls Tryd.prog 48 _ _ _ at hc
    rw [hlen] at hc
    refine hc.mono ?_
    rintro e w' ⟨rfl, n, rfl⟩
    have hrev : (intsI l).reverse = intsI l.reverse := by unfold intsI; rw [List.map_reverse]
    have h5 := ownsRow_sortedI (w := w) (n := n) (os := #[]) (base := base) (g := g) (cap := cap) (e := 3) (cur := cur) (ss := intsI l) (ts := (intsI l).reverse) (by simp) hbase hb (by omega) h2 h3
    have h6 := grownBy_sortedI (w := w) (g := g) (n := n) (os := #[]) (intsI l).reverse.toArray
    rw [grow_none] at h5 h6
    refine ⟨rfl, ?_, Keeps.grown _ h6 (fun k hk => by simp [Value.ownBlock] at hk ⊢; omega)⟩
    rw [hlen, hrev, ← ints_intsI] at h5
    rw [hrev]
    exact h5

/-- slices.Contains. -/
theorem con_any (a : Option Addr) (cap B : Nat) (l : List Nat) (x : Int) (w : World) (hz : NAt w B a l) (hl : l.length ≤ 1000000) :
    Calls Tryd.prog 38 #[.slice a l.length cap, .int .i64 x] w fun e w' => e = .returned (.bool (decide (x ∈ intsI l))) ∧ w' = w := by
  have hlen : (intsI l).length = l.length := intsI_len l
  rcases hz with h | ⟨b, off, rfl, _, h⟩
  · have h0 : l.length = 0 := by rw [← hlen, h]; rfl
    have hc := Any.slices_Contains_int_empty conLays a cap x w
    change Calls Tryd.prog 38 _ _ _ at hc
    rw [h0, h]
    refine hc.mono ?_
    rintro e w' ⟨rfl, rfl⟩
    exact ⟨by simp, rfl⟩
  · have hc := Any.slices_Contains_int conLays b off l.length cap (intsI l) x w (by omega) (by omega) h
    change Calls Tryd.prog 38 _ _ _ at hc
    refine hc.mono ?_
    rintro e w' ⟨rfl, rfl⟩
    refine ⟨?_, rfl⟩
    rw [List.take_of_length_le (by omega)]
    simp
end Go.Proofs.YtngdnjlohmkbiaaDoor
