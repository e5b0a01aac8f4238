/-
  Names, plain: the first that is none.
-/
import Derived.Test.YtlopddflbhnjdaaDoorTIns
import Derived.Test.YtlopddflbhnjdaaDoorTEnd
namespace Go.Proofs.YtlopddflbhnjdaaDoor

/-- Are a point's names right? -/
def ptOk (P : Pr8) (q : Nat × Nat × Nat) : Bool :=
  if q.2.2 < (blk8 (fun8 P q.1) q.2.1).code.length then insOk P (fun8 P q.1) (ins8 (blk8 (fun8 P q.1) q.2.1) q.2.2)
  else endB (fun8 P q.1).regs.length (fun8 P q.1).blocks.length (blk8 (fun8 P q.1) q.2.1).fin (blk8 (fun8 P q.1) q.2.1).reg (blk8 (fun8 P q.1) q.2.1).to (blk8 (fun8 P q.1) q.2.1).els
def ptI (q : Nat × Nat × Nat) : Int × Int × Int := (q.1, q.2.1, q.2.2)
def headOk (P : Pr8) (f : Nat) : Bool := inB (fun8 P f).sig P.sigs.length && tysB P (fun8 P f).regs
/-- A function's first name that is none. -/
def fnNm (P : Pr8) (f : Nat) : Option (Int × Int × Int) := if headOk P f then ((ptF (fun8 P f) f (fun8 P f).blocks.length).find? fun q => !ptOk P q).map ptI else some (-1, 0, 0)
/-- A program's. -/
def namesO (P : Pr8) : Option (Int × Int × Int) :=
  if tablesB P then (match (List.range P.funcs.length).findSome? (fnNm P) with
    | some q => some q
    | none => if inB P.main P.funcs.length then none else some (-1, 0, 0)) else some (-1, 0, 0)
theorem ptOk_in {P : Pr8} {f b i : Nat} (h : i < (blk8 (fun8 P f) b).code.length) : ptOk P (f, b, i) = insOk P (fun8 P f) (ins8 (blk8 (fun8 P f) b) i) := by unfold ptOk; rw [if_pos h]
theorem ptOk_end (P : Pr8) (f b : Nat) : ptOk P (f, b, (blk8 (fun8 P f) b).code.length) = endB (fun8 P f).regs.length (fun8 P f).blocks.length (blk8 (fun8 P f) b).fin (blk8 (fun8 P f) b).reg (blk8 (fun8 P f) b).to (blk8 (fun8 P f) b).els := by unfold ptOk; rw [if_neg (by simp)]
theorem find_first {α : Type} {p : α → Bool} {l r : List α} {q : α} (hl : ∀ x, x ∈ l → p x = false) (hq : p q = true) : (l ++ q :: r).find? p = some q := by
  rw [List.find?_append]
  have h1 : l.find? p = none := List.find?_eq_none.2 fun x hx => by rw [hl x hx]; simp
  rw [h1, List.find?_cons, hq]
  rfl
theorem find_none {α : Type} {p : α → Bool} {l : List α} (hl : ∀ x, x ∈ l → p x = false) : l.find? p = none := List.find?_eq_none.2 fun x hx => by rw [hl x hx]; simp
/-- All that stand ahead are right. -/
def AllOk (P : Pr8) (l : List (Nat × Nat × Nat)) : Prop := ∀ q, q ∈ l → ptOk P q = true
theorem AllOk.nil (P : Pr8) : AllOk P [] := fun q hq => by cases hq
theorem AllOk.snoc {P : Pr8} {l : List (Nat × Nat × Nat)} {q : Nat × Nat × Nat} (h : AllOk P l) (hq : ptOk P q = true) : AllOk P (l ++ [q]) := fun x hx => by
  rcases List.mem_append.1 hx with h1 | h1
  · exact h x h1
  · rw [List.mem_singleton.1 h1]; exact hq
theorem AllOk.cast {P : Pr8} {l l' : List (Nat × Nat × Nat)} (h : AllOk P l) (e : l = l') : AllOk P l' := e ▸ h
theorem range_cut {n k : Nat} (h : k < n) : ∃ r, List.range n = List.range k ++ k :: r := by
  refine ⟨(List.range n).drop (k + 1), ?_⟩
  have h2 := List.take_append_drop k (List.range n)
  rw [List.drop_eq_getElem_cons (by simpa using h), List.getElem_range] at h2
  conv => lhs; rw [← h2]
  congr 1
  rw [List.take_range, Nat.min_eq_left (by omega)]
theorem ptB_cut (f b : Nat) {i n : Nat} (h : i < n) : ∃ r, ptB f b n = ptB f b i ++ (f, b, i) :: r := by
  obtain ⟨r, hr⟩ := range_cut h
  refine ⟨r.map fun j => (f, b, j), ?_⟩
  unfold ptB
  rw [hr, List.map_append, List.map_cons]
theorem fnNm_bad {P : Pr8} {f b i : Nat} (hh : headOk P f = true) (hb : b < (fun8 P f).blocks.length) (hi : i ≤ (blk8 (fun8 P f) b).code.length) (hl : AllOk P (ptF (fun8 P f) f b ++ ptB f b i)) (hq : ptOk P (f, b, i) = false) : fnNm P f = some ((f : Int), (b : Int), (i : Int)) := by
  unfold fnNm
  rw [if_pos hh]
  obtain ⟨r1, h1⟩ := ptF_split (fun8 P f) f hb
  obtain ⟨r2, h2⟩ := ptB_cut f b (show i < (blk8 (fun8 P f) b).code.length + 1 by omega)
  rw [h1, h2, show ptF (fun8 P f) f b ++ (ptB f b i ++ (f, b, i) :: r2 ++ r1) = (ptF (fun8 P f) f b ++ ptB f b i) ++ (f, b, i) :: (r2 ++ r1) by simp [List.append_assoc]]
  rw [find_first (fun x hx => by rw [hl x hx]; rfl) (by rw [hq]; rfl)]
  rfl
theorem fnNm_good {P : Pr8} {f : Nat} (hh : headOk P f = true) (hl : AllOk P (ptF (fun8 P f) f (fun8 P f).blocks.length)) : fnNm P f = none := by
  unfold fnNm
  rw [if_pos hh, find_none (fun x hx => by rw [hl x hx]; rfl)]
  rfl
theorem fnNm_head {P : Pr8} {f : Nat} (hh : headOk P f = false) : fnNm P f = some (-1, 0, 0) := by
  unfold fnNm
  rw [hh]
  rfl
theorem some_first {α β : Type} {p : α → Option β} {l r : List α} {q : α} {y : β} (hl : ∀ x, x ∈ l → p x = none) (hq : p q = some y) : (l ++ q :: r).findSome? p = some y := by
  rw [List.findSome?_append]
  have h1 : l.findSome? p = none := List.findSome?_eq_none_iff.2 hl
  rw [h1, List.findSome?_cons, hq]
  rfl
theorem namesO_tab {P : Pr8} (h : tablesB P = false) : namesO P = some (-1, 0, 0) := by unfold namesO; rw [h]; rfl
theorem namesO_fn {P : Pr8} (h : tablesB P = true) {k : Nat} (hk : k < P.funcs.length) (hl : ∀ j, j < k → fnNm P j = none) {q : Int × Int × Int} (hq : fnNm P k = some q) : namesO P = some q := by
  unfold namesO
  obtain ⟨r, hr⟩ := range_cut hk
  rw [if_pos h, hr, some_first (fun x hx => hl x (List.mem_range.1 hx)) hq]
theorem namesO_end {P : Pr8} (h : tablesB P = true) (hl : ∀ j, j < P.funcs.length → fnNm P j = none) : namesO P = if inB P.main P.funcs.length then none else some (-1, 0, 0) := by
  unfold namesO
  rw [if_pos h, List.findSome?_eq_none_iff.2 (fun x hx => hl x (List.mem_range.1 hx))]
/-- What a call tells: nil, or a refusal. -/
def EPost (o : Option (Int × Int × Int)) (y : Int) (w : World) (e : Ending) (w' : World) : Prop := match o with
  | none => e = .returned .nilIface ∧ Keeps [] w w'
  | some q => RefPost y q.1 q.2.1 q.2.2 w e w'
theorem EPost.no {o : Option (Int × Int × Int)} {q : Int × Int × Int} {y : Int} {w w' : World} {e : Ending} (h : o = some q) (r : RefPost y q.1 q.2.1 q.2.2 w e w') : EPost o y w e w' := by subst h; exact r
theorem EPost.yes {o : Option (Int × Int × Int)} {y : Int} {w w' : World} {e : Ending} (h : o = none) (r : e = .returned .nilIface ∧ Keeps [] w w') : EPost o y w e w' := by subst h; exact r
end Go.Proofs.YtlopddflbhnjdaaDoor
