/-
  One union: its calls.
-/
import Derived.Test.YtllfgbgbbjajoaaUBegun
import Derived.Test.YtllfgbgbbjajoaaUPairs
import Derived.Deep.RegionWith
namespace Go.Proofs.Ytllfgbgbbjajoaa
open Go.RowKit

theorem joined_left (r : Nat → Nat) (a b : Nat) : joined r (r a) (r b) a = min (r a) (r b) := by
  unfold joined
  by_cases h : r a = max (r a) (r b)
  · rw [if_pos h]
  · rw [if_neg h]; omega
theorem joined_right (r : Nat → Nat) (a b : Nat) : joined r (r a) (r b) b = min (r a) (r b) := by
  unfold joined
  by_cases h : r b = max (r a) (r b)
  · rw [if_pos h]
  · rw [if_neg h]; omega

/-- One union. -/
structure One (w wr : World) (b n : Nat) (r : Nat → Nat) : Prop where
  u : UAt wr b n r
  keep : Keeps [] w wr
  lo : w.heap.size ≤ b
theorem One.on {w wr w1 : World} {b n : Nat} {r r' : Nat → Nat} (h : One w wr b n r) (hu : UAt w1 b n r') (hk : Keeps [b] wr w1) : One w w1 b n r' := by
  have h1 := h.lo
  exact ⟨hu, h.keep.trans hk fun x hx hl => by simp at hx; omega, h1⟩
theorem One.quiet {w wr w1 : World} {b n : Nat} {r : Nat → Nat} (h : One w wr b n r) (hk : Keeps [] wr w1) : One w w1 b n r :=
  ⟨h.u.kept hk (by simp), h.keep.quiet hk, h.lo⟩
theorem one_join {w wr : World} {b n : Nat} {r : Nat → Nat} (h : One w wr b n r) (x y : Int) :
    Calls Try.prog 6 #[.pointer (some ⟨b, 0, none⟩), .int .i64 x, .int .i64 y] wr fun e w' => e = .returned (.bool (joinB n r x y)) ∧ One w w' b n (joinI n r x y) :=
  (join_any b n r x y wr h.u).mono fun _ _ ⟨he, h1, h2⟩ => ⟨he, h.on h1 h2⟩
theorem one_find {w wr : World} {b n : Nat} {r : Nat → Nat} (h : One w wr b n r) (x : Int) :
    Calls Try.prog 8 #[.pointer (some ⟨b, 0, none⟩), .int .i64 x] wr fun e w' => e = .returned (.int .i64 (findI n r x)) ∧ One w w' b n r :=
  (find_any b n r x wr h.u).mono fun _ _ ⟨he, h1, h2⟩ => ⟨he, h.on h1 h2⟩
theorem one_same {w wr : World} {b n : Nat} {r : Nat → Nat} (h : One w wr b n r) (x y : Int) :
    Calls Try.prog 7 #[.pointer (some ⟨b, 0, none⟩), .int .i64 x, .int .i64 y] wr fun e w' => e = .returned (.bool (sameB n r x y)) ∧ One w w' b n r :=
  (same_any b n r x y wr h.u).mono fun _ _ ⟨he, h1, h2⟩ => ⟨he, h.on h1 h2⟩

end Go.Proofs.Ytllfgbgbbjajoaa
