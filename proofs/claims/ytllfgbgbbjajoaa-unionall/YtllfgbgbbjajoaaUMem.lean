/-
  What a union is in memory: its block, cell by cell.
-/
import Derived.Test.YtllfgbgbbjajoaaBase
import Derived.Test.YtllfgbgbbjajoaaUPlain
namespace Go.Proofs.Ytllfgbgbbjajoaa
open Go.RowKit

/-- The cells of a union: how many numbers, how many groups, what is above each. -/
def ucell (n g : Nat) (f : Nat → Nat) (k : Nat) : Nat := if k = 0 then n else if k = 1 then g else f (k - 2)
def urow (n g : Nat) (f : Nat → Nat) : Array Value := Array.ofFn (n := 5002) fun k => Value.int .i64 (ucell n g f k : Nat)

theorem urow_size (n g : Nat) (f : Nat → Nat) : (urow n g f).size = 5002 := by unfold urow; rw [Array.size_ofFn]
theorem urow_get (n g : Nat) (f : Nat → Nat) (k : Nat) (h : k < 5002) : (urow n g f)[k]? = some (.int .i64 (ucell n g f k : Nat)) := by
  unfold urow
  rw [Array.getElem?_ofFn, dif_pos h]
theorem urow_out (n g : Nat) (f : Nat → Nat) (k : Nat) (h : 5002 ≤ k) : (urow n g f)[k]? = none := Array.getElem?_eq_none (by rw [urow_size]; exact h)

theorem ucell_0 (n g : Nat) (f : Nat → Nat) : ucell n g f 0 = n := rfl
theorem ucell_1 (n g : Nat) (f : Nat → Nat) : ucell n g f 1 = g := rfl
theorem ucell_2 (n g : Nat) (f : Nat → Nat) (a : Nat) : ucell n g f (2 + a) = f a := by
  unfold ucell
  rw [if_neg (by omega), if_neg (by omega), Nat.add_sub_cancel_left]

theorem urow_set (n g n' g' : Nat) (f f' : Nat → Nat) (k v : Nat) (hj : ∀ j, j ≠ k → ucell n' g' f' j = ucell n g f j) (hv : ucell n' g' f' k = v) : (urow n g f).setIfInBounds k (.int .i64 (v : Nat)) = urow n' g' f' := by
  rw [← hv]
  apply Array.ext_getElem?
  intro i
  rw [Array.getElem?_setIfInBounds]
  by_cases hi : i < 5002
  · rw [urow_get n' g' f' i hi, urow_get n g f i hi, urow_size]
    by_cases hk : k = i
    · subst hk
      rw [if_pos rfl, if_pos hi]
    · rw [if_neg hk, hj i (fun e => hk e.symm)]
  · rw [urow_out n' g' f' i (by omega), urow_out n g f i (by omega), urow_size]
    by_cases hk : k = i
    · subst hk
      rw [if_pos rfl, if_neg hi]
    · rw [if_neg hk]

/-- Block b holds it. -/
structure URow (w : World) (b n g : Nat) (f : Nat → Nat) : Prop where
  heap : w.heap[b]? = some (.cells (urow n g f) 37 (0, 0))

theorem URow.lt {w : World} {b n g : Nat} {f : Nat → Nat} (h : URow w b n g f) : b < w.heap.size := by
  have := h.heap
  rw [Array.getElem?_eq_some_iff] at this
  exact this.1
theorem URow.cell {w : World} {b n g : Nat} {f : Nat → Nat} (h : URow w b n g f) {k : Nat} (hk : k < 5002) : w.cell? ⟨b, k, none⟩ = some (.int .i64 (ucell n g f k : Nat)) := by
  rw [cell_of_row w b k _ _ _ h.heap, urow_get n g f k hk]
theorem URow.size {w : World} {b n g : Nat} {f : Nat → Nat} (h : URow w b n g f) : w.cell? ⟨b, 0, none⟩ = some (.int .i64 (n : Nat)) := h.cell (by omega)
theorem URow.groups {w : World} {b n g : Nat} {f : Nat → Nat} (h : URow w b n g f) : w.cell? ⟨b, 1, none⟩ = some (.int .i64 (g : Nat)) := h.cell (by omega)
theorem URow.above {w : World} {b n g : Nat} {f : Nat → Nat} (h : URow w b n g f) {a : Nat} (ha : a < 5000) : w.cell? ⟨b, 2 + a, none⟩ = some (.int .i64 (f a : Nat)) := by
  have := h.cell (k := 2 + a) (by omega)
  rw [ucell_2] at this
  exact this
theorem URow.frozen {w : World} {b n g : Nat} {f : Nat → Nat} (h : URow w b n g f) (k : Nat) : w.frozen? ⟨b, k, none⟩ = false := frozen_of_row w b k _ _ h.heap

theorem URow.put {w : World} {b n g : Nat} {f : Nat → Nat} (h : URow w b n g f) (a v : Nat) : URow (w.setCell ⟨b, 2 + a, none⟩ (.int .i64 (v : Nat))) b n g (upd f a v) :=
  ⟨by
    rw [heap_setCell_same w b (2 + a) (urow n g f) _ _ h.heap, urow_set n g n g f (upd f a v) (2 + a) v ?_ ?_]
    · intro j hj
      unfold ucell
      by_cases h0 : j = 0
      · rw [if_pos h0, if_pos h0]
      · by_cases h1 : j = 1
        · rw [if_neg h0, if_neg h0, if_pos h1, if_pos h1]
        · rw [if_neg h0, if_neg h0, if_neg h1, if_neg h1, upd_off f a v _ (by omega)]
    · rw [ucell_2, upd_at]⟩
theorem URow.putGroups {w : World} {b n g : Nat} {f : Nat → Nat} (h : URow w b n g f) (v : Nat) : URow (w.setCell ⟨b, 1, none⟩ (.int .i64 (v : Nat))) b n v f :=
  ⟨by
    rw [heap_setCell_same w b 1 (urow n g f) _ _ h.heap, urow_set n g n v f f 1 v ?_ rfl]
    intro j hj
    unfold ucell
    by_cases h0 : j = 0
    · rw [if_pos h0, if_pos h0]
    · rw [if_neg h0, if_neg h0, if_neg hj, if_neg hj]⟩
theorem URow.putSize {w : World} {b n g : Nat} {f : Nat → Nat} (h : URow w b n g f) (v : Nat) : URow (w.setCell ⟨b, 0, none⟩ (.int .i64 (v : Nat))) b v g f :=
  ⟨by
    rw [heap_setCell_same w b 0 (urow n g f) _ _ h.heap, urow_set n g v g f f 0 v ?_ rfl]
    intro j hj
    unfold ucell
    rw [if_neg hj, if_neg hj]⟩
theorem URow.drewN {w : World} {b n g : Nat} {f : Nat → Nat} (h : URow w b n g f) (m : Nat) : URow (w.drewN m) b n g f := ⟨h.heap⟩
theorem URow.kept {w w' : World} {b n g : Nat} {f : Nat → Nat} {L : List Nat} (h : URow w b n g f) (k : Keeps L w w') (hb : b ∉ L) : URow w' b n g f :=
  ⟨by rw [k.block b h.lt hb]; exact h.heap⟩

/-- Block b holds n numbers whose groups' least ones r tells. -/
structure UAt (w : World) (b n : Nat) (r : Nat → Nat) : Prop where
  has : ∃ f, URow w b n (leads n r).length f ∧ Tree n f r
  le : n ≤ 5000
theorem UAt.lt {w : World} {b n : Nat} {r : Nat → Nat} (h : UAt w b n r) : b < w.heap.size := by
  obtain ⟨f, h1, _⟩ := h.has
  exact h1.lt
theorem UAt.least {w : World} {b n : Nat} {r : Nat → Nat} (h : UAt w b n r) : Least n r := by
  obtain ⟨f, _, h2⟩ := h.has
  exact h2.least
theorem UAt.kept {w w' : World} {b n : Nat} {r : Nat → Nat} {L : List Nat} (h : UAt w b n r) (k : Keeps L w w') (hb : b ∉ L) : UAt w' b n r := by
  obtain ⟨f, h1, h2⟩ := h.has
  exact ⟨⟨f, h1.kept k hb, h2⟩, h.le⟩
theorem UAt.drewN {w : World} {b n : Nat} {r : Nat → Nat} (h : UAt w b n r) (m : Nat) : UAt (w.drewN m) b n r := by
  obtain ⟨f, h1, h2⟩ := h.has
  exact ⟨⟨f, h1.drewN m, h2⟩, h.le⟩

theorem zero_row : urow 0 0 (fun _ => 0) = Array.replicate 5002 (.int .i64 0) := by
  apply Array.ext_getElem?
  intro i
  by_cases hi : i < 5002
  · rw [urow_get _ _ _ i hi, Array.getElem?_replicate, if_pos hi]
    have : ucell 0 0 (fun _ => 0) i = 0 := by unfold ucell; split; rfl; split <;> rfl
    rw [this]; rfl
  · rw [urow_out _ _ _ i (by omega), Array.getElem?_replicate, if_neg hi]

theorem uat_new (w : World) : URow (w.alloc (.cells (urow 0 0 fun _ => 0) 37)) w.heap.size 0 0 (fun _ => 0) := ⟨heap_alloc_new w _⟩
end Go.Proofs.Ytllfgbgbbjajoaa
