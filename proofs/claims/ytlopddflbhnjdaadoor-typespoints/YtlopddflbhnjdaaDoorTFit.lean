/-
  types.instrFits, by Op.
-/
import Derived.Test.YtlopddflbhnjdaaDoorTFld
import Derived.Test.YtlopddflbhnjdaaDoorTHand
import Derived.Deep.RegionWith
import Derived.Deep.RegionHeld3
import Derived.Deep.DeepCutAuto
namespace Go.Proofs.YtlopddflbhnjdaaDoor
open Go.RowKit

/-- A type in a box. -/
def TyAt (w : World) (b : Nat) (t : Int × Int) : Prop := w.heap[b]? = some (.cells #[.int .i64 t.1, .int .i64 t.2] 39 (0, 0))
theorem TyAt.quiet {w w' : World} {b : Nat} {t : Int × Int} (h : TyAt w b t) (k : Keeps [] w w') : TyAt w' b t := keep_heap h k
theorem TyAt.far {w : World} {b b' : Nat} {t t' : Int × Int} (h : TyAt w b t) (hn : b ≠ b') : TyAt ((w.setCell ⟨b', 0, none⟩ (.int .i64 t'.1)).setCell ⟨b', 1, none⟩ (.int .i64 t'.2)) b t := by
  unfold TyAt
  rw [heap_setCell_other _ _ _ _ hn, heap_setCell_other _ _ _ _ hn]
  exact h
theorem TyAt.put {w : World} {b : Nat} {t t' : Int × Int} (h : TyAt w b t) : TyAt ((w.setCell ⟨b, 0, none⟩ (.int .i64 t'.1)).setCell ⟨b, 1, none⟩ (.int .i64 t'.2)) b t' := set2 h _ _
/-- A variable: made (bit m), stored into (bit s). -/
def VarI (W0 w : World) (l : Array Bool) (m s : Nat) (v : Value) (b : Nat) (t : Int × Int) : Prop :=
  l.getD m false = true → v = .pointer (some ⟨b, 0, none⟩) ∧ W0.heap.size ≤ b ∧ TyAt w b (if l.getD s false then t else (0, 0))
/-- Whatever has come up: three types are asked for, three variables made and stored into. -/
structure ThreeI (W0 : World) (fr : Value → Value → Value → Value → Value → Value → Act) (T1 T2 T3 : Int × Int) (l : Array Bool) (a : Act) (w : World) : Prop where
  size : l.size = 18
  kept : Keeps [] W0 w
  ex : ∃ v7 v8 v9 v19 v23 v27 b7 b8 b9, a = fr v7 v8 v9 v19 v23 v27 ∧ (l.getD 3 false = true → v19 = tyV T1) ∧ (l.getD 7 false = true → v23 = tyV T2) ∧ (l.getD 11 false = true → v27 = tyV T3) ∧
    VarI W0 w l 12 15 v7 b7 T1 ∧ VarI W0 w l 13 16 v8 b8 T2 ∧ VarI W0 w l 14 17 v9 b9 T3 ∧
    (l.getD 12 false = true → l.getD 13 false = true → b7 ≠ b8) ∧ (l.getD 12 false = true → l.getD 14 false = true → b7 ≠ b9) ∧ (l.getD 13 false = true → l.getD 14 false = true → b8 ≠ b9)
  nine : ∀ i, i ∈ [0, 1, 2, 4, 5, 6, 8, 9, 10] → l.getD i true = true
  o7 : l.getD 15 false = true → l.getD 12 false = true
  o8 : l.getD 16 false = true → l.getD 13 false = true
  o9 : l.getD 17 false = true → l.getD 14 false = true
theorem bit_self {l : Array Bool} {i : Nat} (h : i < l.size) : (l.setIfInBounds i true).getD i false = true := by
  rw [Array.getD_eq_getD_getElem?, Array.getElem?_setIfInBounds_self_of_lt h]
  rfl
theorem bit_ne {l : Array Bool} {i j : Nat} (d : Bool) (h : i ≠ j) : (l.setIfInBounds i true).getD j d = l.getD j d := getD_set_ne d h
theorem bit_true {l : Array Bool} {j : Nat} (i : Nat) (h : l.getD j true = true) : (l.setIfInBounds i true).getD j true = true := by
  by_cases e : i = j
  · subst e
    rcases Nat.lt_or_ge i l.size with h' | h'
    · rw [Array.getD_eq_getD_getElem?, Array.getElem?_setIfInBounds_self_of_lt h']
      rfl
    · rw [Array.getD_eq_getD_getElem?, Array.getElem?_eq_none (by simpa using h')]
      rfl
  · rw [bit_ne true e]
    exact h
theorem nine_set {l : Array Bool} (i : Nat) (h : ∀ i, i ∈ [0, 1, 2, 4, 5, 6, 8, 9, 10] → l.getD i true = true) : ∀ j, j ∈ [0, 1, 2, 4, 5, 6, 8, 9, 10] → (l.setIfInBounds i true).getD j true = true := fun j hj => bit_true i (h j hj)
theorem ord_set {l : Array Bool} {s m : Nat} (i : Nat) (h : l.getD s false = true → l.getD m false = true) (hi : i = s → l.getD m false = true) : (l.setIfInBounds i true).getD s false = true → (l.setIfInBounds i true).getD m false = true := by
  intro hb
  apply getD_set_true
  by_cases e : i = s
  · exact hi e
  · rw [bit_ne false e] at hb
    exact h hb
theorem VarI.quiet {W0 w w' : World} {l : Array Bool} {m s i : Nat} {v : Value} {b : Nat} {t : Int × Int} (h : VarI W0 w l m s v b t) (k : Keeps [] w w') (hm : i ≠ m) (hs : i ≠ s) : VarI W0 w' (l.setIfInBounds i true) m s v b t := by
  intro hb
  rw [bit_ne false hm] at hb
  rw [bit_ne false hs]
  obtain ⟨h1, h2, h3⟩ := h hb
  exact ⟨h1, h2, h3.quiet k⟩
theorem VarI.new {W0 w : World} {l : Array Bool} {m s : Nat} {t : Int × Int} (hk : Keeps [] W0 w) (hs : l.getD s false = false) (hne : m ≠ s) : VarI W0 (w.alloc (.cells #[.int .i64 0, .int .i64 0] 39)) (l.setIfInBounds m true) m s (.pointer (some ⟨w.heap.size, 0, none⟩)) w.heap.size t := by
  intro _
  rw [bit_ne false hne, hs]
  exact ⟨rfl, hk.size, heap_new w _⟩
theorem VarI.far {W0 w : World} {l : Array Bool} {m s i : Nat} {v : Value} {b b' : Nat} {t t' : Int × Int} (h : VarI W0 w l m s v b t) (hn : l.getD m false = true → b ≠ b') (hm : i ≠ m) (hs : i ≠ s) : VarI W0 ((w.setCell ⟨b', 0, none⟩ (.int .i64 t'.1)).setCell ⟨b', 1, none⟩ (.int .i64 t'.2)) (l.setIfInBounds i true) m s v b t := by
  intro hb
  rw [bit_ne false hm] at hb
  rw [bit_ne false hs]
  obtain ⟨h1, h2, h3⟩ := h hb
  exact ⟨h1, h2, h3.far (hn hb)⟩
theorem VarI.put {W0 w : World} {l : Array Bool} {m s : Nat} {v : Value} {b : Nat} {t : Int × Int} (h : VarI W0 w l m s v b t) (hs : s < l.size) (hne : s ≠ m) : VarI W0 ((w.setCell ⟨b, 0, none⟩ (.int .i64 t.1)).setCell ⟨b, 1, none⟩ (.int .i64 t.2)) (l.setIfInBounds s true) m s v b t := by
  intro hb
  rw [bit_ne false hne] at hb
  rw [bit_self hs]
  obtain ⟨h1, h2, h3⟩ := h hb
  exact ⟨h1, h2, h3.put⟩
theorem VarI.lt {W0 w : World} {l : Array Bool} {m s : Nat} {v : Value} {b : Nat} {t : Int × Int} (h : VarI W0 w l m s v b t) (hb : l.getD m false = true) : b < w.heap.size := heap_lt (h hb).2.2
theorem false_of_true {l : Array Bool} {i : Nat} (h : l.getD i true = false) : l.getD i false = false := by
  rw [Array.getD_eq_getD_getElem?] at h ⊢
  cases e : l[i]? with
  | none => rw [e] at h; cases h
  | some b => rw [e] at h; exact h
end Go.Proofs.YtlopddflbhnjdaaDoor
