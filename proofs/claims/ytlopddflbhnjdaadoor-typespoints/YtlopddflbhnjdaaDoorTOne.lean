/-
  One: a program of one function that gives a number back.
-/
import Derived.Test.YtlopddflbhnjdaaDoorTFits1
namespace Go.Proofs.YtlopddflbhnjdaaDoor
open Go.RowKit

/-- One's memory: six blocks; the register that is given back. -/
structure OneB (w : World) (n : Nat) (r : Int) : Prop where
  h0 : w.heap[n]? = some (.cells #[.slice none 0 0, .int .i64 0, .int .i64 0] 41 (0, 0))
  h1 : w.heap[n + 1]? = some (.cells #[.int .i64 0, .int .i64 0] 39 (0, 0))
  h2 : w.heap[n + 2]? = some (.cells #[.int .i64 1, .int .i64 0, .int .i64 0, .int .i64 0, .int .i64 7, .slice none 0 0] 54 (0, 0))
  h3 : w.heap[n + 3]? = some (.cells #[.slice (some ⟨n + 2, 0, none⟩) 1 1, .int .i64 3, .int .i64 r, .int .i64 0, .int .i64 0] 44 (0, 0))
  h4 : w.heap[n + 4]? = some (.cells #[.int .i64 0, .slice (some ⟨n + 1, 0, none⟩) 1 1, .slice (some ⟨n + 3, 0, none⟩) 1 1] 29 (0, 0))
  h5 : w.heap[n + 5]? = some (.cells #[.slice none 0 0, .slice (some ⟨n, 0, none⟩) 1 1, .slice none 0 0, .slice none 0 0, .slice (some ⟨n + 4, 0, none⟩) 1 1, .int .i64 0] 36 (0, 0))
theorem OneB.quiet {w w' : World} {n : Nat} {r : Int} (h : OneB w n r) (k : Keeps [] w w') : OneB w' n r :=
  ⟨keep_heap h.h0 k, keep_heap h.h1 k, keep_heap h.h2 k, keep_heap h.h3 k, keep_heap h.h4 k, keep_heap h.h5 k⟩
def in1 : In8 := ⟨1, 0, 0, 0, 7, []⟩
def bl1 (r : Int) : Bl8 := ⟨[in1], 3, r, 0, 0⟩
def fu1 (r : Int) : Fu8 := ⟨0, [(0, 0)], [bl1 r]⟩
def pr1 (r : Int) : Pr8 := ⟨[], [([], 0, 0)], [], [], [fu1 r], 0⟩
theorem b64_small {z : Int} (h : -100 ≤ z ∧ z ≤ 100) : b64 z := by unfold b64; omega
theorem IntC.of {w : World} {b o : Nat} {z : Int} (h : w.cell? ⟨b, o, none⟩ = some (.int .i64 z)) (hz : -100 ≤ z ∧ z ≤ 100) : IntC w b o z := ⟨h, b64_small hz⟩
theorem RowsAt.one {α : Type} {w : World} {c : Nat} {R : World → Nat → Nat → α → Prop} {b : Nat} {x : α} (h : R w b 0 x) : RowsAt w c R (some ⟨b, 0, none⟩) [x] :=
  .inr ⟨b, 0, rfl, fun j y hy => by
    cases j with
    | zero => simp at hy; subst hy; simpa using h
    | succ j => simp at hy⟩
theorem SlC.one {α : Type} {w : World} {c : Nat} {R : World → Nat → Nat → α → Prop} {b o b' : Nat} {x : α} (hc : w.cell? ⟨b, o, none⟩ = some (.slice (some ⟨b', 0, none⟩) 1 1)) (h : R w b' 0 x) : SlC c R w b o [x] :=
  ⟨_, 1, hc, RowsAt.one h, Nat.le_refl _, by unfold maxLen; simp⟩
theorem SlC.none {α : Type} {w : World} {c : Nat} {R : World → Nat → Nat → α → Prop} {b o : Nat} (hc : w.cell? ⟨b, o, none⟩ = some (.slice none 0 0)) : SlC c R w b o [] :=
  ⟨_, 0, hc, .inl rfl, Nat.le_refl _, by unfold maxLen; simp⟩
theorem OneB.prc {w : World} {n : Nat} {r : Int} (h : OneB w n r) (hr : -100 ≤ r ∧ r ≤ 100) : PrC w (n + 5) 0 (pr1 r) := by
  have i : InC w (n + 2) 0 in1 := ⟨IntC.of (hcell h.h2 0) (by simp [in1]), IntC.of (hcell h.h2 1) (by simp [in1]), IntC.of (hcell h.h2 2) (by simp [in1]), IntC.of (hcell h.h2 3) (by simp [in1]), IntC.of (hcell h.h2 4) (by simp [in1]), SlC.none (hcell h.h2 5)⟩
  have b : BlC w (n + 3) 0 (bl1 r) := ⟨SlC.one (hcell h.h3 0) i, IntC.of (hcell h.h3 1) (by simp [bl1]), IntC.of (hcell h.h3 2) hr, IntC.of (hcell h.h3 3) (by simp [bl1]), IntC.of (hcell h.h3 4) (by simp [bl1])⟩
  have t : TyC w (n + 1) 0 (0, 0) := ⟨IntC.of (hcell h.h1 0) (by simp), IntC.of (hcell h.h1 1) (by simp)⟩
  have f : FuC w (n + 4) 0 (fu1 r) := ⟨IntC.of (hcell h.h4 0) (by simp [fu1]), SlC.one (hcell h.h4 1) t, SlC.one (hcell h.h4 2) b⟩
  have s : SgC w n 0 ([], 0, 0) := ⟨SlC.none (hcell h.h0 0), IntC.of (hcell h.h0 1) (by simp), IntC.of (hcell h.h0 2) (by simp)⟩
  exact ⟨SlC.none (hcell h.h5 0), SlC.one (hcell h.h5 1) s, SlC.none (hcell h.h5 2), SlC.none (hcell h.h5 3), SlC.one (hcell h.h5 4) f, IntC.of (hcell h.h5 5) (by simp [pr1])⟩
theorem heap_at {w : World} {o : Obj} {n : Nat} (h : w.heap.size = n) : (w.alloc o).heap[n]? = some o := by subst h; exact heap_new w o
theorem one_any (w : World) : Calls Tryd.prog 10 #[] w fun e w' => e = .returned (.pointer (some ⟨w.heap.size + 5, 0, none⟩)) ∧ OneB w' w.heap.size 0 ∧ Keeps [] w w' := by
  obtain ⟨n, hn⟩ : ∃ n, n = w.heap.size := ⟨_, rfl⟩
  rw [← hn]
  obtain ⟨w1, e1⟩ : ∃ w1, w1 = w.alloc (.cells #[.slice none 0 0, .int .i64 0, .int .i64 0] 41) := ⟨_, rfl⟩
  obtain ⟨w2, e2⟩ : ∃ w2, w2 = w1.alloc (.cells #[.int .i64 0, .int .i64 0] 39) := ⟨_, rfl⟩
  obtain ⟨w3, e3⟩ : ∃ w3, w3 = w2.alloc (.cells #[.int .i64 1, .int .i64 0, .int .i64 0, .int .i64 0, .int .i64 7, .slice none 0 0] 54) := ⟨_, rfl⟩
  obtain ⟨w4, e4⟩ : ∃ w4, w4 = w3.alloc (.cells #[.slice (some ⟨n + 2, 0, none⟩) 1 1, .int .i64 3, .int .i64 0, .int .i64 0, .int .i64 0] 44) := ⟨_, rfl⟩
  obtain ⟨w5, e5⟩ : ∃ w5, w5 = w4.alloc (.cells #[.int .i64 0, .slice (some ⟨n + 1, 0, none⟩) 1 1, .slice (some ⟨n + 3, 0, none⟩) 1 1] 29) := ⟨_, rfl⟩
  obtain ⟨w6, e6⟩ : ∃ w6, w6 = w5.alloc (.cells #[.slice none 0 0, .slice (some ⟨n, 0, none⟩) 1 1, .slice none 0 0, .slice none 0 0, .slice (some ⟨n + 4, 0, none⟩) 1 1, .int .i64 0] 36) := ⟨_, rfl⟩
  have s1 : w1.heap.size = n + 1 := by rw [e1, World.size_alloc, hn]
  have s2 : w2.heap.size = n + 2 := by rw [e2, World.size_alloc, s1]
  have s3 : w3.heap.size = n + 3 := by rw [e3, World.size_alloc, s2]
  have s4 : w4.heap.size = n + 4 := by rw [e4, World.size_alloc, s3]
  have s5 : w5.heap.size = n + 5 := by rw [e5, World.size_alloc, s4]
  have k1 : Keeps [] w w1 := by rw [e1]; exact Keeps.alloc _ _ _
  have k2 : Keeps [] w1 w2 := by rw [e2]; exact Keeps.alloc _ _ _
  have k3 : Keeps [] w2 w3 := by rw [e3]; exact Keeps.alloc _ _ _
  have k4 : Keeps [] w3 w4 := by rw [e4]; exact Keeps.alloc _ _ _
  have k5 : Keeps [] w4 w5 := by rw [e5]; exact Keeps.alloc _ _ _
  have k6 : Keeps [] w5 w6 := by rw [e6]; exact Keeps.alloc _ _ _
  have H : Box (OneB w6 n 0 ∧ Keeps [] w w6) := hid ⟨⟨
    keep_heap (by rw [e1]; exact heap_at hn.symm) ((((k2.quiet k3).quiet k4).quiet k5).quiet k6),
    keep_heap (by rw [e2]; exact heap_at s1) (((k3.quiet k4).quiet k5).quiet k6),
    keep_heap (by rw [e3]; exact heap_at s2) ((k4.quiet k5).quiet k6),
    keep_heap (w := w4) (by rw [e4]; exact heap_at s3) (k5.quiet k6),
    keep_heap (w := w5) (by rw [e5]; exact heap_at s4) k6,
    by rw [e6]; exact heap_at s5⟩, ((((k1.quiet k2).quiet k3).quiet k4).quiet k5).quiet k6⟩
  have HW := hid e6
  subst e5 e4 e3 e2 e1
  clear s1 s2 s3 s4 s5 k1 k2 k3 k4 k5 k6 e6
  subst hn
  rw [HW.out] at H
  clear HW
  go_enter Tryd.func10, Tryd.ntmps10
  go_wp2_with fail
  go_ret
  exact ⟨rfl, H.out⟩
end Go.Proofs.YtlopddflbhnjdaaDoor
