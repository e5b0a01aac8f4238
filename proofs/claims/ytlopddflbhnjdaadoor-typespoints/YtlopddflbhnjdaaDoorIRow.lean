/-
  Rows of cells that the call has made.
-/
import Derived.Test.YtlopddflbhnjdaaDoorGTy
import Derived.Maps.AppendAt
import Derived.Lib.Builder
import Derived.Deep.OwnRows
namespace Go.Proofs.YtlopddflbhnjdaaDoor
open Go.RowKit

theorem ownsRow_keeps {w w' : World} {F : List Nat} {base : Nat} {e : TypeId} {size : Nat} {v : Value} {n : Nat} {xs : List Value} (h : w.ownsRow base e size v n xs) (k : Keeps F w w') (hF : ∀ b, v.ownBlock = some b → b ∉ F) : w'.ownsRow base e size v n xs := by
  refine ⟨h.1, ?_⟩
  rcases h.2 with hn | ⟨g, cap, cur, rfl, hb, hg, rest⟩
  · exact .inl hn
  · refine .inr ⟨g, cap, cur, rfl, hb, ?_, rest⟩
    rw [k.block g (Array.getElem?_eq_some_iff.1 hg).1 (hF g rfl)]
    exact hg
theorem ownsRow_base {w : World} {base base' : Nat} {e : TypeId} {size : Nat} {v : Value} {n : Nat} {xs : List Value} (h : w.ownsRow base e size v n xs) (hb : base' ≤ base) : w.ownsRow base' e size v n xs := by
  refine ⟨h.1, ?_⟩
  rcases h.2 with h' | ⟨g, cap, cur, h1, h2, h3⟩
  · exact .inl h'
  · exact .inr ⟨g, cap, cur, h1, by omega, h3⟩
/-- Block p holds the values c 0 .. c (n - 1), of type T, and no more. -/
structure RowAt (w : World) (base p n : Nat) (T : TypeId) (c : Nat → Value) : Prop where
  row : w.ownsRow base T 1 (.slice (some ⟨p, 0, none⟩) n n) n ((List.range n).map c)

theorem RowAt.cell {w : World} {base p n : Nat} {T : TypeId} {c : Nat → Value} (h : RowAt w base p n T c) {k : Nat} (hk : k < n) : w.cell? ⟨p, k, none⟩ = some (c k) := by
  rw [h.row.cellAt k (by omega), List.getElem?_map, List.getElem?_range hk]
  rfl
theorem RowAt.frozen {w : World} {base p n : Nat} {T : TypeId} {c : Nat → Value} (h : RowAt w base p n T c) (k : Nat) : w.frozen? ⟨p, k, none⟩ = false := h.row.frozenAt k
theorem RowAt.lt {w : World} {base p n : Nat} {T : TypeId} {c : Nat → Value} (h : RowAt w base p n T c) : base ≤ p ∧ p < w.heap.size := h.row.lt p rfl
theorem RowAt.heap {w : World} {base p n : Nat} {T : TypeId} {c : Nat → Value} (h : RowAt w base p n T c) : ∃ cur, w.heap[p]? = some (.cells cur T (0, 0)) := by
  rcases h.row.2 with ⟨h', _⟩ | ⟨g', cap', cur, h', _, hg, _⟩
  · simp at h'
  · simp only [Value.slice.injEq, Option.some.injEq, Addr.mk.injEq, and_true, true_and] at h'
    obtain ⟨rfl, rfl⟩ := h'
    exact ⟨cur, hg⟩
theorem RowAt.kept {w w' : World} {base p n : Nat} {T : TypeId} {c : Nat → Value} {L : List Nat} (h : RowAt w base p n T c) (k : Keeps L w w') (hp : p ∉ L) : RowAt w' base p n T c :=
  ⟨ownsRow_keeps h.row k (fun b hb => by simp [Value.ownBlock] at hb; subst hb; exact hp)⟩
theorem RowAt.put {w : World} {base p n : Nat} {T : TypeId} {c : Nat → Value} (h : RowAt w base p n T c) (k : Nat) (v : Value) : RowAt (w.setCell ⟨p, k, none⟩ v) base p n T (fun i => if i = k then v else c i) := by
  refine ⟨?_⟩
  have h1 := (h.row.stored k v).1
  have e : ((List.range n).map c).set k v = (List.range n).map (fun i => if i = k then v else c i) := by
    apply List.ext_getElem?
    intro i
    rw [List.getElem?_set, List.getElem?_map, List.getElem?_map, List.length_map, List.length_range]
    by_cases hi : i < n
    · rw [List.getElem?_range hi]
      by_cases e : k = i
      · subst e; simp [hi]
      · have : ¬ i = k := fun h => e h.symm
        simp [e, this]
    · rw [List.getElem?_eq_none (by simp; omega)]
      by_cases e : k = i
      · subst e; simp [hi]
      · simp [e]
  rw [e] at h1
  exact h1
theorem RowAt.congr {w : World} {base p n : Nat} {T : TypeId} {c d : Nat → Value} (h : RowAt w base p n T c) (e : ∀ i, i < n → c i = d i) : RowAt w base p n T d := by
  refine ⟨?_⟩
  have : (List.range n).map c = (List.range n).map d := List.map_congr_left fun i hi => e i (List.mem_range.1 hi)
  rw [← this]
  exact h.row
theorem made_map (z : Value) (n : Nat) (hz : z.cells = #[z]) : (madeCells z.cells (n * 1)).toList = (List.range n).map fun _ => z := by
  rw [hz, Nat.mul_one]
  apply List.ext_getElem?
  intro i
  rw [List.getElem?_map]
  by_cases hi : i < n
  · rw [List.getElem?_range hi]
    simp [madeCells, hi, Nat.mod_one]
  · rw [List.getElem?_eq_none (by rw [Array.length_toList, size_madeCells]; omega), List.getElem?_eq_none (by rw [List.length_range]; omega)]
    rfl
theorem RowAt.made {w : World} {base p n : Nat} {T : TypeId} {z : Value} (h : w.ownsRow base T 1 (.slice (some ⟨p, 0, none⟩) n n) n (madeCells z.cells (n * 1)).toList) (hz : z.cells = #[z]) : RowAt w base p n T (fun _ => z) := by
  rw [made_map z n hz] at h
  exact ⟨h⟩
theorem RowAt.base {w : World} {base base' p n : Nat} {T : TypeId} {c : Nat → Value} (h : RowAt w base p n T c) (hb : base' ≤ base) : RowAt w base' p n T c := ⟨ownsRow_base h.row hb⟩

theorem Keeps.fresh {a b c : World} {L : List Nat} (h : Keeps [] a b) (k : Keeps L b c) (hL : ∀ x, x ∈ L → a.heap.size ≤ x) : Keeps [] a c :=
  h.trans k fun x hx hlt => by have := hL x hx; omega
end Go.Proofs.YtlopddflbhnjdaaDoor
