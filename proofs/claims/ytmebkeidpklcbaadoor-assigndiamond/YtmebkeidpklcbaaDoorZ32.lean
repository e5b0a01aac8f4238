/-
  Contract: assign's Check.
-/
import Derived.Test.YtmebkeidpklcbaaDoorZ03
import Derived.Test.YtmebkeidpklcbaaDoorZ30
import Derived.Test.YtmebkeidpklcbaaDoorZ31

namespace Go.Proofs.YtmebkeidpklcbaaDoor
open Go.RowKit

/-- Sizes that assign's functions bear. -/
structure SzP (P : Pr8) : Prop where
  fn : P.funcs.length ≤ 1000
  bk0 : ∀ f, f < P.funcs.length → 0 < (fun8 P f).blocks.length
  bk : ∀ f, f < P.funcs.length → (fun8 P f).blocks.length ≤ 600
  rg : ∀ f, f < P.funcs.length → (fun8 P f).regs.length ≤ 1000
  code : ∀ f b, f < P.funcs.length → (blk8 (fun8 P f) b).code.length ≤ 1000000
  few : ∀ f b k, f < P.funcs.length → k < (blk8 (fun8 P f) b).code.length → (ins8 (blk8 (fun8 P f) b) k).args.length ≤ 1000
/-- Is a register read at a point that is reached and where it is not assigned on each way? -/
def badP (P : Pr8) (q : Nat × Nat × Nat) : Bool := rch (flowF (fun8 P q.1)) [0] q.2.1 && badAt (blk8 (fun8 P q.1) q.2.1) (inS P (fun8 P q.1) q.2.1) q.2.2
/-- All of these are well. -/
def Well (B : Nat × Nat × Nat → Bool) (l : List (Nat × Nat × Nat)) : Prop := ∀ q, q ∈ l → B q = false
theorem Well.nil (B : Nat × Nat × Nat → Bool) : Well B [] := fun q hq => by cases hq
theorem Well.app {B : Nat × Nat × Nat → Bool} {l m : List (Nat × Nat × Nat)} (h : Well B l) (k : Well B m) : Well B (l ++ m) := fun q hq => by
  rcases List.mem_append.1 hq with h1 | h1
  · exact h q h1
  · exact k q h1
theorem ptP_cut (P : Pr8) : ∀ {f m : Nat}, f < m → ∃ r, ptP P m = ptP P f ++ (ptF (fun8 P f) f (fun8 P f).blocks.length ++ r)
  | f, 0, h => absurd h (Nat.not_lt_zero _)
  | f, m + 1, h => by
    by_cases e : f = m
    · subst e
      exact ⟨[], by rw [ptP_succ, List.append_nil]⟩
    · obtain ⟨r, hr⟩ := ptP_cut P (f := f) (m := m) (by omega)
      exact ⟨r ++ ptF (fun8 P m) m (fun8 P m).blocks.length, by rw [ptP_succ, hr]; simp [List.append_assoc]⟩
theorem ptB_split (f b : Nat) : ∀ {i n : Nat}, i < n → ∃ r, ptB f b n = ptB f b i ++ ((f, b, i) :: r)
  | i, 0, h => absurd h (Nat.not_lt_zero _)
  | i, n + 1, h => by
    by_cases e : i = n
    · subst e
      exact ⟨[], by rw [ptB_succ]⟩
    · obtain ⟨r, hr⟩ := ptB_split f b (i := i) (n := n) (by omega)
      exact ⟨r ++ [(f, b, n)], by rw [ptB_succ, hr]; simp⟩
theorem pts_split {P : Pr8} {f b i : Nat} (h : IsPt P f b i) : ∃ r, pts P = (ptP P f ++ (ptF (fun8 P f) f b ++ ptB f b i)) ++ (f, b, i) :: r := by
  obtain ⟨r1, h1⟩ := ptP_cut P h.1
  obtain ⟨r2, h2⟩ := ptF_split (fun8 P f) f h.2.1
  obtain ⟨r3, h3⟩ := ptB_split f b (i := i) (n := (blk8 (fun8 P f) b).code.length + 1) (by have := h.2.2; omega)
  refine ⟨r3 ++ r2 ++ r1, ?_⟩
  unfold pts
  rw [h1, h2, h3]
  simp [List.append_assoc]
theorem find_pt_at {P : Pr8} {B : Nat × Nat × Nat → Bool} {f b i : Nat} (h : IsPt P f b i) (hw : Well B (ptP P f ++ (ptF (fun8 P f) f b ++ ptB f b i))) (hb : B (f, b, i) = true) : (pts P).find? B = some (f, b, i) := by
  obtain ⟨r, hr⟩ := pts_split h
  rw [hr, List.find?_append, List.find?_eq_none.2 (fun q hq => by simp [hw q hq]), List.find?_cons_of_pos hb]
  rfl
theorem find_pt_none {P : Pr8} {B : Nat × Nat × Nat → Bool} (hw : Well B (pts P)) : (pts P).find? B = none := List.find?_eq_none.2 fun q hq => by simp [hw q hq]
theorem well_out {P : Pr8} {f b : Nat} (h : rch (flowF (fun8 P f)) [0] b = false) (n : Nat) : Well (badP P) (ptB f b n) := fun q hq => by
  unfold ptB at hq
  obtain ⟨i, _, rfl⟩ := List.mem_map.1 hq
  show (rch (flowF (fun8 P f)) [0] b && _) = false
  rw [h]
  rfl
theorem well_in {P : Pr8} {f b n : Nat} (h : ∀ i, i < n → badAt (blk8 (fun8 P f) b) (inS P (fun8 P f) b) i = false) : Well (badP P) (ptB f b n) := fun q hq => by
  unfold ptB at hq
  obtain ⟨i, hi, rfl⟩ := List.mem_map.1 hq
  show (_ && badAt (blk8 (fun8 P f) b) (inS P (fun8 P f) b) i) = false
  rw [h i (List.mem_range.1 hi), Bool.and_false]
/-- What Check and Shape answer: the first place, and the reason y. -/
def FirstPost (o : Option (Nat × Nat × Nat)) (y : Int) (w : World) (e : Ending) (w' : World) : Prop := match o with
  | none => e = .returned .nilIface ∧ Keeps [] w w'
  | some q => RfPost y (q.1 : Int) (q.2.1 : Int) (q.2.2 : Int) w e w'
end Go.Proofs.YtmebkeidpklcbaaDoor
