/-
  types.regsNamed: what an instruction defines and reads are registers.
  types.instrNamed: an instruction's names.
  Names, plain: the first that is none.
  types.funcNames.
  types.tablesNamed.
  types.Names.
  An instruction that came in, opened (out of IProg).
  TypesFits: whether any instruction fits into a function.
  types.Fits and the document's: the same, where names are right.
  Points, plain, once more (of IPl, IRnxP, TRfit what the seat's base has not laid).
-/
import Derived.Test.YtmebkeidpklcbaaDoorRows
import Derived.WalkKit
import Derived.WalkSpells
import Derived.WalkLawsBesides
import Derived.OwnWalk
import Derived.Deep.QuietTactic
import Derived.BigQuiet
import Derived.Maps.AppendAt
import Derived.Lib.Builder
import Derived.Deep.OwnRows
import Derived.Deep.DeepCutAuto
import Derived.Deep.AppendLies
import Derived.LaidEql
import Derived.Stop.Asserts
import Derived.RowKitTokens
import Derived.Defers
import Derived.Recover
import Derived.Deep.RegionLaw
import Derived.Laws.AppendOwnNone
import Derived.Deep.RegionHeld3
import Derived.Deep.RegionWith
import Derived.ProofKit
import Derived.OpenShut
import Derived.ChangeOld
import Derived.Deep.DeepHandedRow
import Derived.Deep.Slices
import Derived.Deep.Fields
import Derived.SizedLaws
import Derived.Deep.RegionHeld
import Derived.Test.YtmebkeidpklcbaaDoorZ03
import Derived.Test.YtmebkeidpklcbaaDoorZ04
import Derived.Test.YtmebkeidpklcbaaDoorZ08

namespace Go.Proofs.YtmebkeidpklcbaaDoor
open Go.RowKit

def regsB (R : Nat) (x : In8) : Bool := (!isDef x || inB x.dst R) && insB (usesL x) R
theorem usesL_len (x : In8) : (usesL x).length ≤ x.args.length + 2 := by
  unfold usesL
  repeat' split
  all_goals (try simp)
  all_goals omega
end Go.Proofs.YtmebkeidpklcbaaDoor

namespace Go.Proofs.YtmebkeidpklcbaaDoor
open Go.RowKit

def insOk (P : Pr8) (f : Fu8) (x : In8) : Bool := restB x && (regsB f.regs.length x && numB P f x)
end Go.Proofs.YtmebkeidpklcbaaDoor

namespace Go.Proofs.YtmebkeidpklcbaaDoor
open Go.RowKit

/-- Are a point's names right? -/
def ptOk (P : Pr8) (q : Nat × Nat × Nat) : Bool :=
  if q.2.2 < (blk8 (fun8 P q.1) q.2.1).code.length then insOk P (fun8 P q.1) (ins8 (blk8 (fun8 P q.1) q.2.1) q.2.2)
  else endB (fun8 P q.1).regs.length (fun8 P q.1).blocks.length (blk8 (fun8 P q.1) q.2.1).fin (blk8 (fun8 P q.1) q.2.1).reg (blk8 (fun8 P q.1) q.2.1).to (blk8 (fun8 P q.1) q.2.1).els
def ptI (q : Nat × Nat × Nat) : Int × Int × Int := (q.1, q.2.1, q.2.2)
def headOk (P : Pr8) (f : Nat) : Bool := inB (fun8 P f).sig P.sigs.length && tysB P (fun8 P f).regs
/-- A function's first name that is none. -/
def fnNm (P : Pr8) (f : Nat) : Option (Int × Int × Int) := if headOk P f then ((ptF (fun8 P f) f (fun8 P f).blocks.length).find? fun q => !ptOk P q).map ptI else some (-1, 0, 0)
/-- A program's. -/
def namesO (P : Pr8) : Option (Int × Int × Int) :=
  if tablesB P then (match (List.range P.funcs.length).findSome? (fnNm P) with
    | some q => some q
    | none => if inB P.main P.funcs.length then none else some (-1, 0, 0)) else some (-1, 0, 0)
theorem ptOk_in {P : Pr8} {f b i : Nat} (h : i < (blk8 (fun8 P f) b).code.length) : ptOk P (f, b, i) = insOk P (fun8 P f) (ins8 (blk8 (fun8 P f) b) i) := by unfold ptOk; rw [if_pos h]
theorem ptOk_end (P : Pr8) (f b : Nat) : ptOk P (f, b, (blk8 (fun8 P f) b).code.length) = endB (fun8 P f).regs.length (fun8 P f).blocks.length (blk8 (fun8 P f) b).fin (blk8 (fun8 P f) b).reg (blk8 (fun8 P f) b).to (blk8 (fun8 P f) b).els := by unfold ptOk; rw [if_neg (by simp)]
theorem find_first {α : Type} {p : α → Bool} {l r : List α} {q : α} (hl : ∀ x, x ∈ l → p x = false) (hq : p q = true) : (l ++ q :: r).find? p = some q := by
  rw [List.find?_append]
  have h1 : l.find? p = none := List.find?_eq_none.2 fun x hx => by rw [hl x hx]; simp
  rw [h1, List.find?_cons, hq]
  rfl
theorem find_none {α : Type} {p : α → Bool} {l : List α} (hl : ∀ x, x ∈ l → p x = false) : l.find? p = none := List.find?_eq_none.2 fun x hx => by rw [hl x hx]; simp
/-- All that stand ahead are right. -/
def AllOk (P : Pr8) (l : List (Nat × Nat × Nat)) : Prop := ∀ q, q ∈ l → ptOk P q = true
theorem AllOk.nil (P : Pr8) : AllOk P [] := fun q hq => by cases hq
theorem AllOk.snoc {P : Pr8} {l : List (Nat × Nat × Nat)} {q : Nat × Nat × Nat} (h : AllOk P l) (hq : ptOk P q = true) : AllOk P (l ++ [q]) := fun x hx => by
  rcases List.mem_append.1 hx with h1 | h1
  · exact h x h1
  · rw [List.mem_singleton.1 h1]; exact hq
theorem AllOk.cast {P : Pr8} {l l' : List (Nat × Nat × Nat)} (h : AllOk P l) (e : l = l') : AllOk P l' := e ▸ h
theorem range_cut {n k : Nat} (h : k < n) : ∃ r, List.range n = List.range k ++ k :: r := by
  refine ⟨(List.range n).drop (k + 1), ?_⟩
  have h2 := List.take_append_drop k (List.range n)
  rw [List.drop_eq_getElem_cons (by simpa using h), List.getElem_range] at h2
  conv => lhs; rw [← h2]
  congr 1
  rw [List.take_range, Nat.min_eq_left (by omega)]
theorem ptB_cut (f b : Nat) {i n : Nat} (h : i < n) : ∃ r, ptB f b n = ptB f b i ++ (f, b, i) :: r := by
  obtain ⟨r, hr⟩ := range_cut h
  refine ⟨r.map fun j => (f, b, j), ?_⟩
  unfold ptB
  rw [hr, List.map_append, List.map_cons]
theorem fnNm_bad {P : Pr8} {f b i : Nat} (hh : headOk P f = true) (hb : b < (fun8 P f).blocks.length) (hi : i ≤ (blk8 (fun8 P f) b).code.length) (hl : AllOk P (ptF (fun8 P f) f b ++ ptB f b i)) (hq : ptOk P (f, b, i) = false) : fnNm P f = some ((f : Int), (b : Int), (i : Int)) := by
  unfold fnNm
  rw [if_pos hh]
  obtain ⟨r1, h1⟩ := ptF_split (fun8 P f) f hb
  obtain ⟨r2, h2⟩ := ptB_cut f b (show i < (blk8 (fun8 P f) b).code.length + 1 by omega)
  rw [h1, h2, show ptF (fun8 P f) f b ++ (ptB f b i ++ (f, b, i) :: r2 ++ r1) = (ptF (fun8 P f) f b ++ ptB f b i) ++ (f, b, i) :: (r2 ++ r1) by simp [List.append_assoc]]
  rw [find_first (fun x hx => by rw [hl x hx]; rfl) (by rw [hq]; rfl)]
  rfl
theorem fnNm_good {P : Pr8} {f : Nat} (hh : headOk P f = true) (hl : AllOk P (ptF (fun8 P f) f (fun8 P f).blocks.length)) : fnNm P f = none := by
  unfold fnNm
  rw [if_pos hh, find_none (fun x hx => by rw [hl x hx]; rfl)]
  rfl
theorem fnNm_head {P : Pr8} {f : Nat} (hh : headOk P f = false) : fnNm P f = some (-1, 0, 0) := by
  unfold fnNm
  rw [hh]
  rfl
theorem some_first {α β : Type} {p : α → Option β} {l r : List α} {q : α} {y : β} (hl : ∀ x, x ∈ l → p x = none) (hq : p q = some y) : (l ++ q :: r).findSome? p = some y := by
  rw [List.findSome?_append]
  have h1 : l.findSome? p = none := List.findSome?_eq_none_iff.2 hl
  rw [h1, List.findSome?_cons, hq]
  rfl
theorem namesO_tab {P : Pr8} (h : tablesB P = false) : namesO P = some (-1, 0, 0) := by unfold namesO; rw [h]; rfl
theorem namesO_fn {P : Pr8} (h : tablesB P = true) {k : Nat} (hk : k < P.funcs.length) (hl : ∀ j, j < k → fnNm P j = none) {q : Int × Int × Int} (hq : fnNm P k = some q) : namesO P = some q := by
  unfold namesO
  obtain ⟨r, hr⟩ := range_cut hk
  rw [if_pos h, hr, some_first (fun x hx => hl x (List.mem_range.1 hx)) hq]
theorem namesO_end {P : Pr8} (h : tablesB P = true) (hl : ∀ j, j < P.funcs.length → fnNm P j = none) : namesO P = if inB P.main P.funcs.length then none else some (-1, 0, 0) := by
  unfold namesO
  rw [if_pos h, List.findSome?_eq_none_iff.2 (fun x hx => hl x (List.mem_range.1 hx))]
/-- Arguments are few. -/
def FewA (P : Pr8) : Prop := ∀ f b i, f < P.funcs.length → b < (fun8 P f).blocks.length → i < (blk8 (fun8 P f) b).code.length → (ins8 (blk8 (fun8 P f) b) i).args.length ≤ 1000
end Go.Proofs.YtmebkeidpklcbaaDoor

namespace Go.Proofs.YtmebkeidpklcbaaDoor
open Go.ChangeShapes Go.WideShapes Go.ChangeAt Go.RowKit
open Go.RowKit

theorem bnd_fns {P : Pr8} (h : bndB P = true) : lenB P.funcs 12 fnB = true := by
  unfold bndB tabB at h
  simp only [Bool.and_eq_true] at h
  exact h.1.2.2.2.2.2
theorem bnd_few {P : Pr8} (h : bndB P = true) : FewA P := by
  intro f b i hf hb hi
  have h1 : fnB (fun8 P f) = true := lenB_all (bnd_fns h) (getD_get hf)
  unfold fnB at h1
  simp only [Bool.and_eq_true] at h1
  have h2 : blkB (blk8 (fun8 P f) b) = true := lenB_all h1.2.2 (getD_get hb)
  have h3 : argB (ins8 (blk8 (fun8 P f) b) i) = true := lenB_all h2 (getD_get hi)
  unfold argB at h3
  have := of_decide_eq_true h3
  omega
end Go.Proofs.YtmebkeidpklcbaaDoor

namespace Go.Proofs.YtmebkeidpklcbaaDoor
open Go.RowKit

theorem names_tab {P : Pr8} (h : namesO P = none) : tablesB P = true := by
  cases ht : tablesB P with
  | true => rfl
  | false => rw [namesO_tab ht] at h; cases h
theorem names_head {P : Pr8} (h : namesO P = none) {k : Nat} (hk : k < P.funcs.length) : headOk P k = true := by
  have ht := names_tab h
  unfold namesO at h
  rw [if_pos ht] at h
  cases hf : (List.range P.funcs.length).findSome? (fnNm P) with
  | some q => rw [hf] at h; cases h
  | none =>
    have h1 := List.findSome?_eq_none_iff.1 hf k (List.mem_range.2 hk)
    cases hh : headOk P k with
    | true => rfl
    | false => rw [fnNm_head hh] at h1; cases h1
theorem names_ty {P : Pr8} (h : namesO P = none) {k : Nat} (hk : k < P.funcs.length) : tysB P (fun8 P k).regs = true := by
  have := names_head h hk
  unfold headOk at this
  rw [Bool.and_eq_true] at this
  exact this.2
theorem names_if {P : Pr8} (h : namesO P = none) : P.ifs.all (fun l => insB l P.sigs.length) = true := by
  have := names_tab h
  unfold tablesB at this
  rw [Bool.and_eq_true, Bool.and_eq_true, Bool.and_eq_true] at this
  exact this.2.2.1
theorem names_sg {P : Pr8} (h : namesO P = none) : P.funcs.all (fun g => inB g.sig P.sigs.length) = true := all_good fun k y hy => by
  have hk := (List.getElem?_eq_some_iff.1 hy).1
  have := names_head h hk
  unfold headOk at this
  rw [Bool.and_eq_true] at this
  have e : fun8 P k = y := by
    have h2 := getD_get (l := P.funcs) (k := k) (d := ⟨0, [], []⟩) hk
    rw [hy] at h2
    exact (Option.some.inj h2).symm
  rw [e] at this
  exact this.1
end Go.Proofs.YtmebkeidpklcbaaDoor

namespace Go.Proofs.YtmebkeidpklcbaaDoor
open Go.RowKit

theorem mem_ptB {f b n : Nat} {q : Nat × Nat × Nat} : q ∈ ptB f b n ↔ ∃ i, i < n ∧ q = (f, b, i) := by
  unfold ptB
  rw [List.mem_map]
  constructor
  · rintro ⟨i, h1, h2⟩
    exact ⟨i, List.mem_range.1 h1, h2.symm⟩
  · rintro ⟨i, h1, h2⟩
    exact ⟨i, List.mem_range.2 h1, h2.symm⟩
theorem mem_ptF {x : Fu8} {f m : Nat} {q : Nat × Nat × Nat} : q ∈ ptF x f m ↔ ∃ b i, b < m ∧ i ≤ (blk8 x b).code.length ∧ q = (f, b, i) := by
  unfold ptF
  rw [List.mem_flatMap]
  constructor
  · rintro ⟨b, h1, h2⟩
    obtain ⟨i, h3, h4⟩ := mem_ptB.1 h2
    exact ⟨b, i, List.mem_range.1 h1, by omega, h4⟩
  · rintro ⟨b, i, h1, h2, h3⟩
    exact ⟨b, List.mem_range.2 h1, mem_ptB.2 ⟨i, by omega, h3⟩⟩
theorem mem_pts {p : Pr8} {f b i : Nat} : ((f, b, i) : Nat × Nat × Nat) ∈ pts p ↔ IsPt p f b i := by
  unfold pts ptP IsPt
  rw [List.mem_flatMap]
  constructor
  · rintro ⟨f', h1, h2⟩
    obtain ⟨b', i', h3, h4, h5⟩ := mem_ptF.1 h2
    have e1 : f = f' := congrArg Prod.fst h5
    have e2 : b = b' := congrArg (fun q : Nat × Nat × Nat => q.2.1) h5
    have e3 : i = i' := congrArg (fun q : Nat × Nat × Nat => q.2.2) h5
    subst e1 e2 e3
    exact ⟨List.mem_range.1 h1, h3, h4⟩
  · rintro ⟨h1, h2, h3⟩
    exact ⟨f, List.mem_range.2 h1, mem_ptF.2 ⟨b, i, h2, h3, rfl⟩⟩
theorem nex_pt {P : Pr8} {f b i : Nat} (h : IsPt P f b i) : ∀ q, q ∈ nex8 P f b i → IsPt P q.1 q.2.1 q.2.2 := by
  intro q hq
  unfold nex8 at hq
  by_cases hi : i < (blk8 (fun8 P f) b).code.length
  · rw [if_pos hi] at hq
    obtain rfl := List.mem_singleton.1 hq
    exact ⟨h.1, h.2.1, hi⟩
  · rw [if_neg hi] at hq
    unfold sel3 at hq
    obtain ⟨z, hz, rfl⟩ := List.mem_map.1 hq
    rw [List.mem_filter] at hz
    have h9 := hz.2
    simp only [decide_eq_true_eq] at h9
    exact ⟨h.1, by show z.toNat < (fun8 P f).blocks.length; omega, Nat.zero_le _⟩
theorem insOk_parts {P : Pr8} {f : Fu8} {x : In8} (h : insOk P f x = true) : regsB f.regs.length x = true ∧ numB P f x = true := by
  unfold insOk at h
  rw [Bool.and_eq_true, Bool.and_eq_true] at h
  exact h.2
theorem regs_use {R : Nat} {x : In8} (h : regsB R x = true) (j : Nat) (y : Int) (hy : (usesL x)[j]? = some y) : inB y R = true := by
  unfold regsB at h
  rw [Bool.and_eq_true] at h
  exact all_at h.2 hy
end Go.Proofs.YtmebkeidpklcbaaDoor
