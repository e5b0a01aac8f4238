/-
  A program that came in, opened.
-/
import Derived.Test.YtpllhcifoiahpaaIDat
import Derived.ProofKit
import Derived.OpenShut
import Derived.ChangeOld
import Derived.Deep.DeepHandedRow
import Derived.Deep.Slices
import Derived.Deep.Fields
namespace Go.Proofs.Ytpllhcifoiahpaa
open Go.ChangeShapes Go.WideShapes Go.ChangeAt Go.RowKit

theorem b64_of {n : Int} (h : (Lit.int .i64 n).wf = true) : b64 n := by
  have h1 : (decide (IntKind.i64.min ≤ n) && decide (n ≤ IntKind.i64.max)) = true := h
  have a : IntKind.i64.min = -9223372036854775808 := by decide
  have b : IntKind.i64.max = 9223372036854775807 := by decide
  rw [a, b] at h1
  simpa [b64] using h1
theorem list_of {α : Type} {Q : Nat → α → Prop} : ∀ n, (∀ j, j < n → ∃ y, Q j y) → ∃ l : List α, l.length = n ∧ ∀ j y, l[j]? = some y → Q j y
  | 0, _ => ⟨[], rfl, fun j y h => by simp at h⟩
  | n + 1, h => by
    obtain ⟨l, h1, h2⟩ := list_of n (fun j hj => h j (by omega))
    obtain ⟨y, hy⟩ := h n (by omega)
    refine ⟨l ++ [y], by simp [h1], fun j z hz => ?_⟩
    by_cases e : j < l.length
    · rw [List.getElem?_append_left e] at hz
      exact h2 j z hz
    · rw [List.getElem?_append_right (by omega)] at hz
      have e0 : j - l.length = 0 := by
        apply Classical.byContradiction
        intro hne
        rw [List.getElem?_eq_none (by simp; omega)] at hz
        cases hz
      rw [e0] at hz
      simp at hz
      rw [← hz, show j = n by omega]
      exact hy

section
variable {H : Type} {enc : TypeId × Value → H} {P : Program} {w : World} {spare : Nat → Bool} {held : Bool}

/-- A row of e's cells tells R. -/
def Opens {α : Type} (enc : TypeId × Value → H) (P : Program) (w : World) (spare : Nat → Bool) (held : Bool) (e : TypeId) (R : World → Nat → Nat → α → Prop) : Prop :=
  ∀ (fuel b o : Nat) (cs : List Value) (x : DataW H × List MemPlace), (∀ i, i < P.cellsOf e → w.cell? ⟨b, o + i, none⟩ = cs[i]?) → DataW.trod enc P w 0 spare held fuel e cs = some x → ∃ y : α, R w b o y
theorem opens_int {t : TypeId} (ht : P.underlying t = some (.int .i64)) (hc : P.cellsOf t = 1) : Opens enc P w spare held t IntC := by
  intro fuel b o cs x hcell h
  obtain ⟨n, rfl, _, hw⟩ := DataW.trod_int ht h
  refine ⟨n, ?_, b64_of hw⟩
  have := hcell 0 (by omega)
  rw [Nat.add_zero] at this
  rw [this]
  rfl
theorem rows_open {α : Type} {t e : TypeId} {R : World → Nat → Nat → α → Prop} (ht : P.underlying t = some (.slice e)) (hpos : 0 < P.cellsOf e) (hR : Opens enc P w spare held e R) {fuel : Nat} {cs : List Value} {x : DataW H × List MemPlace} (h : DataW.trod enc P w 0 spare held fuel t cs = some x) :
    ∃ (a : Option Addr) (cp : Nat) (l : List α), cs = [.slice a l.length cp] ∧ RowsAt w (P.cellsOf e) R a l ∧ l.length ≤ cp ∧ l.length ≤ maxLen := by
  rcases Deep.open_slice ht h with ⟨h1, _⟩ | ⟨a, len, cap, m, n, D, Pl, h1, _, h3, h4, h5, _, h7⟩
  · exact ⟨none, 0, [], h1, .inl rfl, by simp, by simp⟩
  · have hm : len ≤ m := by rw [h5]; split <;> omega
    by_cases h0 : len = 0
    · subst h0
      exact ⟨some a, cap, [], h1, .inl rfl, by simp, by simp⟩
    · obtain ⟨b, off, spot⟩ := a
      obtain ⟨c0, g0, _⟩ := h7 0 (by omega)
      obtain ⟨_, gl, g1⟩ := World.cells?_some g0
      have g2 := g1 0 hpos
      rw [List.getElem?_eq_getElem (by omega)] at g2
      have hspot : spot = none := by simpa [Addr.add] using World.cell?_spot g2
      subst hspot
      obtain ⟨l, hl, hq⟩ := list_of (Q := fun j y => R w b (off + j * P.cellsOf e) y) len (fun j hj => by
        obtain ⟨cj, g3, g4⟩ := h7 j (by omega)
        obtain ⟨_, g5, g6⟩ := World.cells?_some g3
        refine hR n b (off + j * P.cellsOf e) cj _ (fun i hi => ?_) g4
        have := g6 i hi
        rw [add_plain, add_plain] at this
        exact this)
      exact ⟨some ⟨b, off, none⟩, cap, l, by rw [hl]; exact h1, .inr ⟨b, off, rfl, hq⟩, by omega, by omega⟩
theorem opens_slice {α : Type} {t e : TypeId} {R : World → Nat → Nat → α → Prop} {c : Nat} (ht : P.underlying t = some (.slice e)) (hc : P.cellsOf e = c) (hpos : 0 < c) (h1 : P.cellsOf t = 1) (hR : Opens enc P w spare held e R) : Opens enc P w spare held t (SlC c R) := by
  subst hc
  intro fuel b o cs x hcell h
  obtain ⟨a, cp, l, rfl, h2, h3, h4⟩ := rows_open ht hpos hR h
  refine ⟨l, a, cp, ?_, h2, h3, h4⟩
  have := hcell 0 (by omega)
  rw [Nat.add_zero] at this
  rw [this]
  rfl
/-- A struct's fields, each at its offset. -/
theorem fields_open {e : TypeId} {fs : Array Field} (hs : P.underlying e = some (.struct fs)) {fuel b o : Nat} {cs : List Value} {x : DataW H × List MemPlace} (hcell : ∀ i, i < P.cellsOf e → w.cell? ⟨b, o + i, none⟩ = cs[i]?) (h : DataW.trod enc P w 0 spare held fuel e cs = some x) :
    ∀ (i : Nat) (f : Field), fs[i]? = some f → f.offset + P.cellsOf f.type ≤ P.cellsOf e → ∀ {α : Type} {R : World → Nat → Nat → α → Prop}, Opens enc P w spare held f.type R → ∃ y : α, R w b (o + f.offset) y := by
  intro i f hf hle α R hR
  obtain ⟨xs, n, _, _, hl, hxl, hx⟩ := DataW.trod_struct hs h
  have hlt : i < fs.size := (Array.getElem?_eq_some_iff.1 hf).1
  have g := hx i f hf
  rw [List.getElem?_eq_getElem (by omega)] at g
  refine hR n b (o + f.offset) _ _ (fun j hj => ?_) g
  rw [Nat.add_assoc, hcell (f.offset + j) (by omega), List.getElem?_take, if_pos hj, List.getElem?_drop]
end
end Go.Proofs.Ytpllhcifoiahpaa
