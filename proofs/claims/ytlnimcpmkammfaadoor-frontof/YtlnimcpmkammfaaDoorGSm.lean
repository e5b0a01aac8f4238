/-
  Small graphs; contract: graph's May of one.
-/
import Derived.Test.YtlnimcpmkammfaaDoorGLst
namespace Go.Proofs.YtlnimcpmkammfaaDoor
open Go.RowKit

/-- A small graph. -/
structure Sm (g : List (List Nat)) : Prop where
  ok : Ok g
  len : g.length ≤ 600
  short : ∀ j, (nb g j).length ≤ 1000
theorem Sm.inner {g : List (List Nat)} (h : Sm g) (j : Nat) : (nb g j).length ≤ 1000000 := Nat.le_trans (h.short j) (by decide)

theorem Sm.may {g : List (List Nat)} (h : Sm g) : MayP (g.length : Int) (listsI g) := by
  refine ⟨by omega, by have := h.len; omega, by rw [listsI_len], fun j _ i hi => ?_⟩
  rw [listsI_get] at hi ⊢
  rw [intsI_len] at hi
  rw [intsI_get]
  have := h.ok j _ (getD_mem (nb g j) i 0 hi)
  omega

/-- May of a graph. -/
theorem gmay_yes (g : List (List Nat)) (hs : Sm g) (a : Option Addr) (cap B : Nat) (w : World) (hG : GAt w B a g) :
    Calls Tryd.prog 36 #[.agg #[.int .i64 (g.length : Int), .slice a g.length cap]] w fun e w' => e = .returned (.bool true) ∧ Keeps [] w w' := by
  refine (may_loop (g.length : Int) a g.length cap B (listsI g) w hG (listsI_len g) (by omega) (by have := hs.len; omega) rfl (fun j => by rw [listsI_get, intsI_len]; exact hs.inner j)).mono ?_
  rintro e w' ⟨h | h, hk⟩
  · exact ⟨h.1, hk⟩
  · exact absurd hs.may h.2

theorem nil_row (w : World) (base : Nat) : w.ownsRow base 3 1 (.slice none 0 0) ([] : List Nat).length (ints []) := World.ownsRow_nil w _ _ _
theorem ownsRow_base {w : World} {base base' : Nat} {e : TypeId} {size : Nat} {v : Value} {n : Nat} {xs : List Value} (h : w.ownsRow base e size v n xs) (hb : base' ≤ base) : w.ownsRow base' e size v n xs := by
  refine ⟨h.1, ?_⟩
  rcases h.2 with h' | ⟨g, cap, cur, h1, h2, h3⟩
  · exact .inl h'
  · exact .inr ⟨g, cap, cur, h1, by omega, h3⟩
/-- Keeps, where what was turned is new. -/
theorem Keeps.fresh {L : List Nat} {a b c : World} (h : Keeps [] a b) (k : Keeps L b c) (hL : ∀ x, x ∈ L → a.heap.size ≤ x) : Keeps [] a c :=
  h.trans k fun x hx hl => absurd (hL x hx) (by omega)
theorem own_new {w : World} {base : Nat} {e : TypeId} {size : Nat} {v : Value} {n : Nat} {xs : List Value} (h : w.ownsRow base e size v n xs) : ∀ x, x ∈ v.ownBlock.toList → base ≤ x :=
  fun x hx => (h.lt x (by simpa using hx)).1

end Go.Proofs.YtlnimcpmkammfaaDoor
