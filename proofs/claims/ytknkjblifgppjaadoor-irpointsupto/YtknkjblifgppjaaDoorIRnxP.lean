/-
  The points behind a point, plain.
-/
import Derived.Test.YtknkjblifgppjaaDoorIRnm
import Derived.Test.YtknkjblifgppjaaDoorIUse
namespace Go.Proofs.YtknkjblifgppjaaDoor
open Go.RowKit

/-- Of blocks' numbers, the first points of those that are blocks. -/
def sel3 (P : Pr8) (f : Nat) (zs : List Int) : List (Nat × Nat × Nat) := (zs.filter fun z => decide (0 ≤ z ∧ z < ((fun8 P f).blocks.length : Int))).map fun z => (f, z.toNat, 0)
def nex8 (P : Pr8) (f b i : Nat) : List (Nat × Nat × Nat) := if i < (blk8 (fun8 P f) b).code.length then [(f, b, i + 1)] else sel3 P f (tosB (blk8 (fun8 P f) b))
theorem sel3_len (P : Pr8) (f : Nat) (zs : List Int) : (sel3 P f zs).length ≤ zs.length := by
  unfold sel3
  rw [List.length_map]
  exact List.length_filter_le _ _
theorem sel3_in (P : Pr8) (f : Nat) (zs : List Int) (z : Int) (h : 0 ≤ z ∧ z < ((fun8 P f).blocks.length : Int)) : sel3 P f (zs ++ [z]) = sel3 P f zs ++ [(f, z.toNat, 0)] := by
  unfold sel3
  rw [List.filter_append, List.map_append, List.filter_cons, if_pos (by simpa using h)]
  rfl
theorem sel3_out (P : Pr8) (f : Nat) (zs : List Int) (z : Int) (h : ¬ (0 ≤ z ∧ z < ((fun8 P f).blocks.length : Int))) : sel3 P f (zs ++ [z]) = sel3 P f zs := by
  unfold sel3
  rw [List.filter_append, List.map_append, List.filter_cons, if_neg (by simpa using h)]
  simp
theorem nex_nxt {P : Pr8} {f b i : Nat} : nxt8 P f b i = (nex8 P f b i).map fun q => (pos8 P q.1 q.2.1 q.2.2 : Int) := by
  unfold nxt8 nex8
  by_cases h : i < (blk8 (fun8 P f) b).code.length
  · rw [if_pos h, if_pos h]
    rfl
  · rw [if_neg h, if_neg h]
    unfold selB sel3
    rw [List.map_map]
    rfl
theorem nex_pt {P : Pr8} {f b i : Nat} (h : IsPt P f b i) : ∀ q, q ∈ nex8 P f b i → IsPt P q.1 q.2.1 q.2.2 := by
  intro q hq
  unfold nex8 at hq
  by_cases hi : i < (blk8 (fun8 P f) b).code.length
  · rw [if_pos hi] at hq
    obtain rfl := List.mem_singleton.1 hq
    exact ⟨h.1, h.2.1, hi⟩
  · rw [if_neg hi] at hq
    unfold sel3 at hq
    obtain ⟨z, hz, rfl⟩ := List.mem_map.1 hq
    rw [List.mem_filter] at hz
    have h9 := hz.2
    simp only [decide_eq_true_eq] at h9
    exact ⟨h.1, by show z.toNat < (fun8 P f).blocks.length; omega, Nat.zero_le _⟩
theorem nex_len (P : Pr8) (f b i : Nat) : (nex8 P f b i).length ≤ 2 := by
  unfold nex8
  split
  · simp
  · exact Nat.le_trans (sel3_len P f _) (tosB_len _)
theorem pt_lit (w : World) (u : Nat) (hu : u = w.heap.size) (f b i : Nat) (z : Int) (hz : z = (i : Int)) : RowsAt (w.alloc (.cells #[.int .i64 (f : Int), .int .i64 (b : Int), .int .i64 z] 24)) 3 PtC (some ⟨u, 0, none⟩) [(f, b, i)] := by
  subst hu
  subst hz
  have hn := heap_new w (.cells #[.int .i64 (f : Int), .int .i64 (b : Int), .int .i64 (i : Int)] 24)
  refine .inr ⟨_, 0, rfl, fun j q hq => ?_⟩
  have hj : j = 0 := by
    rcases Nat.lt_or_ge j 1 with h | h
    · omega
    · rw [List.getElem?_eq_none (by simpa using h)] at hq; cases hq
  subst hj
  simp at hq
  subst hq
  rw [Nat.zero_mul]
  exact ⟨hcell hn 0, hcell hn 1, hcell hn 2⟩

/-- What Next tells at (f, b, i). -/
def NexPost (w : World) (P : Pr8) (f b i : Nat) (e : Ending) (w' : World) : Prop := ∃ a cp, e = .returned (.slice a (nex8 P f b i).length cp) ∧ RowsAt w' 3 PtC a (nex8 P f b i) ∧ Keeps [] w w'
end Go.Proofs.YtknkjblifgppjaaDoor
