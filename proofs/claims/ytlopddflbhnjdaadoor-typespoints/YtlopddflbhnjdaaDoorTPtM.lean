/-
  TypesPoints: rows of functions, blocks, instructions while they grow.
-/
import Derived.Test.YtlopddflbhnjdaaDoorTMade
import Derived.Test.YtlopddflbhnjdaaDoorTBegun
import Derived.Test.YtlopddflbhnjdaaDoorTPtN
import Derived.Test.YtlopddflbhnjdaaDoorTSays
import Derived.Deep.RegionLaw
import Derived.Deep.AppendLies
namespace Go.Proofs.YtlopddflbhnjdaaDoor
open Go.RowKit

theorem info_fn : Tryd.prog.info? 29 = some Tryd.t29 := by kernel_rfl
theorem under_fns : Tryd.prog.underlying 34 = some (.slice 29) := by kernel_rfl
theorem zero_fn : Tryd.t29.zero = some (.agg #[.int .i64 0, .slice none 0 0, .slice none 0 0]) := by kernel_rfl
theorem size_fn : Tryd.t29.size = 3 := by kernel_rfl
theorem bytes_fn : Tryd.t29.bytes = 56 := by kernel_rfl
theorem ownsRow_drew {w : World} {base : Nat} {e : TypeId} {size : Nat} {v : Value} {n : Nat} {xs : List Value} (h : w.ownsRow base e size v n xs) : w.drew.ownsRow base e size v n xs := h
theorem grown_heap {w w' : World} {r : Option Nat} {b : Nat} {cs : Array Value} {T : TypeId} (hg : w.grownBy w' r) (h : w.heap[b]? = some (.cells cs T (0, 0))) (hn : r ≠ some b) : w'.heap[b]? = some (.cells cs T (0, 0)) := by
  rw [hg.block b (heap_lt h) (fun e => hn e.symm)]
  exact h
theorem put_heap {w : World} {a : Addr} {v : Value} {b : Nat} {cs : Array Value} {T : TypeId} (h : w.heap[b]? = some (.cells cs T (0, 0))) (hn : b ≠ a.block) : (w.setCell a v).heap[b]? = some (.cells cs T (0, 0)) := (heap_setCell_other _ _ _ _ hn).trans h
theorem oneC (u : Value) (l : List Value) (hl : l.all (fun u => u.oneCell') = true) (hu : u ∈ l) : u.oneCell' = true := List.all_eq_true.1 hl u hu
theorem row_ne {w : World} {base n : Nat} {v : Value} {xs : List Value} {T : TypeId} {c b : Nat} {cs : Array Value} {U : TypeId} (h : w.ownsRow base T c v n xs) (hb : w.heap[b]? = some (.cells cs U (0, 0))) (hne : T ≠ U) : v.ownBlock ≠ some b := by
  intro e
  rcases h.2 with ⟨rfl, _⟩ | ⟨g, cap, cur, rfl, _, hg, _⟩
  · simp [Value.ownBlock] at e
  · simp [Value.ownBlock] at e
    subst e
    rw [hg] at hb
    simp at hb
    exact hne hb.2
theorem info_bl : Tryd.prog.info? 44 = some Tryd.t44 := by kernel_rfl
theorem under_bls : Tryd.prog.underlying 27 = some (.slice 44) := by kernel_rfl
theorem zero_bl : Tryd.t44.zero = some (.agg #[.slice none 0 0, .int .i64 0, .int .i64 0, .int .i64 0, .int .i64 0]) := by kernel_rfl
theorem size_bl : Tryd.t44.size = 5 := by kernel_rfl
theorem bytes_bl : Tryd.t44.bytes = 56 := by kernel_rfl
theorem info_in : Tryd.prog.info? 54 = some Tryd.t54 := by kernel_rfl
theorem under_ins : Tryd.prog.underlying 42 = some (.slice 54) := by kernel_rfl
theorem zero_in : Tryd.t54.zero = some (.agg #[.int .i64 0, .int .i64 0, .int .i64 0, .int .i64 0, .int .i64 0, .slice none 0 0]) := by kernel_rfl
theorem size_in : Tryd.t54.size = 6 := by kernel_rfl
theorem bytes_in : Tryd.t54.bytes = 64 := by kernel_rfl
theorem flat_get {α : Type} {f : α → List Value} {c : Nat} (hf : ∀ x, (f x).length = c) : ∀ (l : List α) (j i : Nat) (y : α), l[j]? = some y → i < c → (l.flatMap f)[j * c + i]? = (f y)[i]?
  | [], j, i, y, h, _ => by simp at h
  | x :: l, 0, i, y, h, hi => by
    simp at h
    subst h
    rw [List.flatMap_cons, Nat.zero_mul, Nat.zero_add, List.getElem?_append_left (by rw [hf]; exact hi)]
  | x :: l, j + 1, i, y, h, hi => by
    rw [List.flatMap_cons, List.getElem?_append_right (by rw [hf, Nat.add_mul]; omega), hf, show (j + 1) * c + i - c = j * c + i by rw [Nat.add_mul]; omega]
    exact flat_get hf l j i y (by simpa using h) hi
theorem flat_len {α : Type} {f : α → List Value} {c : Nat} (hf : ∀ x, (f x).length = c) : ∀ (l : List α), (l.flatMap f).length = l.length * c
  | [] => by simp
  | x :: l => by rw [List.flatMap_cons, List.length_append, hf, flat_len hf l, List.length_cons, Nat.add_mul]; omega
theorem slc_own {α : Type} {w : World} {c : Nat} {R : World → Nat → Nat → α → Prop} {b o base n cp : Nat} {a : Option Addr} {T : TypeId} {xs : List Value} {l : List α} (hc : w.cell? ⟨b, o, none⟩ = some (.slice a n cp)) (h : w.ownsRow base T c (.slice a n cp) n xs) (hl : l.length = n) (hn : n ≤ 1000) (hx : ∀ (g j : Nat) (y : α), l[j]? = some y → (∀ i, i < c → w.cell? ⟨g, j * c + i, none⟩ = xs[j * c + i]?) → R w g (j * c) y) : SlC c R w b o l := by
  rcases h.2 with ⟨hv, h0⟩ | ⟨g, cap, cur, hv, _, hg, hle, _, _, ht⟩
  · subst h0
    cases hv
    obtain rfl : l = [] := List.length_eq_zero_iff.1 hl
    exact SlC.none hc
  · cases hv
    refine ⟨_, cp, by rw [hl]; exact hc, .inr ⟨g, 0, rfl, fun j y hy => ?_⟩, by omega, by unfold maxLen; omega⟩
    have hj : j < n := by rw [← hl]; exact (List.getElem?_eq_some_iff.1 hy).1
    rw [Nat.zero_add]
    refine hx g j y hy (fun i hi => ?_)
    have hlt : j * c + i < n * c := by
      have h1 : (j + 1) * c ≤ n * c := Nat.mul_le_mul_right _ hj
      rw [Nat.add_mul] at h1
      omega
    rw [cell_of_row w g _ cur _ _ hg, ← ht, List.getElem?_take, if_pos hlt]
    simp
/-- An instruction by its Op; a block by its Ops; a function by its blocks. -/
def mkI (z : Int) : In8 := ⟨z, 0, 0, 0, 0, []⟩
def inCs (l : List Int) : List Value := l.flatMap fun z => [.int .i64 z, .int .i64 0, .int .i64 0, .int .i64 0, .int .i64 0, .slice none 0 0]
def blCs (l : List (List Int × Option Addr × Nat)) : List Value := l.flatMap fun e => [.slice e.2.1 e.1.length e.2.2, .int .i64 0, .int .i64 0, .int .i64 0, .int .i64 0]
def fnCs (l : List (List (List Int × Option Addr × Nat) × Option Addr × Nat)) : List Value := l.flatMap fun e => [.int .i64 0, .slice none 0 0, .slice e.2.1 e.1.length e.2.2]
theorem inCs_snoc (l : List Int) (z : Int) : inCs (l ++ [z]) = inCs l ++ [.int .i64 z, .int .i64 0, .int .i64 0, .int .i64 0, .int .i64 0, .slice none 0 0] := by unfold inCs; rw [List.flatMap_append]; rfl
theorem blCs_snoc (l : List (List Int × Option Addr × Nat)) (os : List Int) (ca : Option Addr) (cp : Nat) : blCs (l ++ [(os, ca, cp)]) = blCs l ++ [.slice ca os.length cp, .int .i64 0, .int .i64 0, .int .i64 0, .int .i64 0] := by unfold blCs; rw [List.flatMap_append]; rfl
theorem fnCs_snoc (l : List (List (List Int × Option Addr × Nat) × Option Addr × Nat)) (bl : List (List Int × Option Addr × Nat)) (ba : Option Addr) (bp : Nat) : fnCs (l ++ [(bl, ba, bp)]) = fnCs l ++ [.int .i64 0, .slice none 0 0, .slice ba bl.length bp] := by unfold fnCs; rw [List.flatMap_append]; rfl
theorem inCs_get {l : List Int} {j i : Nat} {z : Int} (h : l[j]? = some z) (hi : i < 6) : (inCs l)[j * 6 + i]? = ([.int .i64 z, .int .i64 0, .int .i64 0, .int .i64 0, .int .i64 0, .slice none 0 0] : List Value)[i]? := flat_get (f := fun z => [.int .i64 z, .int .i64 0, .int .i64 0, .int .i64 0, .int .i64 0, .slice none 0 0]) (c := 6) (fun _ => rfl) l j i z h hi
theorem blCs_get {l : List (List Int × Option Addr × Nat)} {j i : Nat} {e : List Int × Option Addr × Nat} (h : l[j]? = some e) (hi : i < 5) : (blCs l)[j * 5 + i]? = ([.slice e.2.1 e.1.length e.2.2, .int .i64 0, .int .i64 0, .int .i64 0, .int .i64 0] : List Value)[i]? := flat_get (f := fun e : List Int × Option Addr × Nat => [.slice e.2.1 e.1.length e.2.2, .int .i64 0, .int .i64 0, .int .i64 0, .int .i64 0]) (c := 5) (fun _ => rfl) l j i e h hi
theorem fnCs_get {l : List (List (List Int × Option Addr × Nat) × Option Addr × Nat)} {j i : Nat} {e : List (List Int × Option Addr × Nat) × Option Addr × Nat} (h : l[j]? = some e) (hi : i < 3) : (fnCs l)[j * 3 + i]? = ([.int .i64 0, .slice none 0 0, .slice e.2.1 e.1.length e.2.2] : List Value)[i]? := flat_get (f := fun e : List (List Int × Option Addr × Nat) × Option Addr × Nat => [.int .i64 0, .slice none 0 0, .slice e.2.1 e.1.length e.2.2]) (c := 3) (fun _ => rfl) l j i e h hi
def toBl (e : List Int × Option Addr × Nat) : Bl8 := ⟨e.1.map mkI, 0, 0, 0, 0⟩
def toFn (e : List (List Int × Option Addr × Nat) × Option Addr × Nat) : Fu8 := ⟨0, [], e.1.map toBl⟩
def CodeRow (w : World) (e : List Int × Option Addr × Nat) : Prop := (∃ base, w.ownsRow base 54 6 (.slice e.2.1 e.1.length e.2.2) e.1.length (inCs e.1)) ∧ e.1.length ≤ 30 ∧ ∀ z, z ∈ e.1 → z = 1 ∨ z = 5
def BlkRow (w : World) (e : List (List Int × Option Addr × Nat) × Option Addr × Nat) : Prop := (∃ base, w.ownsRow base 44 5 (.slice e.2.1 e.1.length e.2.2) e.1.length (blCs e.1)) ∧ (0 < e.1.length ∧ e.1.length ≤ 12) ∧ ∀ c, c ∈ e.1 → CodeRow w c
theorem CodeRow.keeps {w w' : World} {e : List Int × Option Addr × Nat} {L : List Nat} (h : CodeRow w e) (k : Keeps L w w') (hL : ∀ x, x ∈ L → ∃ cs T, w.heap[x]? = some (.cells cs T (0, 0)) ∧ 54 ≠ T) : CodeRow w' e := by
  obtain ⟨⟨base, ho⟩, h2, h3⟩ := h
  exact ⟨⟨base, ownsRow_keeps ho k (fun b hb hx => by
    obtain ⟨cs, T, h1, h2⟩ := hL b hx
    exact row_ne ho h1 h2 hb)⟩, h2, h3⟩
theorem BlkRow.keeps {w w' : World} {e : List (List Int × Option Addr × Nat) × Option Addr × Nat} {L : List Nat} (h : BlkRow w e) (k : Keeps L w w') (hL : ∀ x, x ∈ L → ∃ cs T, w.heap[x]? = some (.cells cs T (0, 0)) ∧ 54 ≠ T ∧ 44 ≠ T) : BlkRow w' e := by
  obtain ⟨⟨base, ho⟩, h2, h3⟩ := h
  exact ⟨⟨base, ownsRow_keeps ho k (fun b hb hx => by
    obtain ⟨cs, T, h1, h2⟩ := hL b hx
    exact row_ne ho h1 h2.2 hb)⟩, h2, fun c hc => (h3 c hc).keeps k (fun x hx => by
    obtain ⟨cs, T, h1, h2⟩ := hL x hx
    exact ⟨cs, T, h1, h2.1⟩)⟩
theorem CodeRow.quiet {w w' : World} {e : List Int × Option Addr × Nat} (h : CodeRow w e) (k : Keeps [] w w') : CodeRow w' e := h.keeps k (fun x hx => by cases hx)
theorem BlkRow.quiet {w w' : World} {e : List (List Int × Option Addr × Nat) × Option Addr × Nat} (h : BlkRow w e) (k : Keeps [] w w') : BlkRow w' e := h.keeps k (fun x hx => by cases hx)
theorem CodeRow.slc {w : World} {e : List Int × Option Addr × Nat} {b o : Nat} (h : CodeRow w e) (hc : w.cell? ⟨b, o, none⟩ = some (.slice e.2.1 e.1.length e.2.2)) : SlC 6 InC w b o (e.1.map mkI) := by
  obtain ⟨⟨base, ho⟩, h2, h3⟩ := h
  refine slc_own hc ho (by simp) (by omega) (fun g j y hy key => ?_)
  rw [List.getElem?_map, Option.map_eq_some_iff] at hy
  obtain ⟨z, hz, rfl⟩ := hy
  have kk : ∀ i, i < 6 → w.cell? ⟨g, j * 6 + i, none⟩ = ([.int .i64 z, .int .i64 0, .int .i64 0, .int .i64 0, .int .i64 0, .slice none 0 0] : List Value)[i]? := fun i hi => (key i hi).trans (inCs_get hz hi)
  have hz2 := h3 z (List.mem_of_getElem? hz)
  exact ⟨IntC.of (kk 0 (by decide)) (by simp [mkI]; omega), IntC.of (kk 1 (by decide)) (by simp [mkI]), IntC.of (kk 2 (by decide)) (by simp [mkI]), IntC.of (kk 3 (by decide)) (by simp [mkI]), IntC.of (kk 4 (by decide)) (by simp [mkI]), SlC.none (kk 5 (by decide))⟩
theorem BlkRow.slc {w : World} {e : List (List Int × Option Addr × Nat) × Option Addr × Nat} {b o : Nat} (h : BlkRow w e) (hc : w.cell? ⟨b, o, none⟩ = some (.slice e.2.1 e.1.length e.2.2)) : SlC 5 BlC w b o (e.1.map toBl) := by
  obtain ⟨⟨base, ho⟩, h2, h3⟩ := h
  refine slc_own hc ho (by simp) (by omega) (fun g j y hy key => ?_)
  rw [List.getElem?_map, Option.map_eq_some_iff] at hy
  obtain ⟨c, hz, rfl⟩ := hy
  have kk : ∀ i, i < 5 → w.cell? ⟨g, j * 5 + i, none⟩ = ([.slice c.2.1 c.1.length c.2.2, .int .i64 0, .int .i64 0, .int .i64 0, .int .i64 0] : List Value)[i]? := fun i hi => (key i hi).trans (blCs_get hz hi)
  exact ⟨(h3 c (List.mem_of_getElem? hz)).slc (kk 0 (by decide)), IntC.of (kk 1 (by decide)) (by simp [toBl]), IntC.of (kk 2 (by decide)) (by simp [toBl]), IntC.of (kk 3 (by decide)) (by simp [toBl]), IntC.of (kk 4 (by decide)) (by simp [toBl])⟩
theorem fns_slc {w : World} {fl : List (List (List Int × Option Addr × Nat) × Option Addr × Nat)} {b o base fp : Nat} {fa : Option Addr} (ho : w.ownsRow base 29 3 (.slice fa fl.length fp) fl.length (fnCs fl)) (hc : w.cell? ⟨b, o, none⟩ = some (.slice fa fl.length fp)) (hn : fl.length ≤ 12) (h : ∀ e, e ∈ fl → BlkRow w e) : SlC 3 FuC w b o (fl.map toFn) := by
  refine slc_own hc ho (by simp) (by omega) (fun g j y hy key => ?_)
  rw [List.getElem?_map, Option.map_eq_some_iff] at hy
  obtain ⟨c, hz, rfl⟩ := hy
  have kk : ∀ i, i < 3 → w.cell? ⟨g, j * 3 + i, none⟩ = ([.int .i64 0, .slice none 0 0, .slice c.2.1 c.1.length c.2.2] : List Value)[i]? := fun i hi => (key i hi).trans (fnCs_get hz hi)
  exact ⟨IntC.of (kk 0 (by decide)) (by simp [toFn]), SlC.none (kk 1 (by decide)), (h c (List.mem_of_getElem? hz)).slc (kk 2 (by decide))⟩
/-- Points and OAllocs, by the rows. -/
def ptE2 (l : List (List Int × Option Addr × Nat)) : Nat := bsPt (l.map toBl)
def stE2 (l : List (List Int × Option Addr × Nat)) : Nat := bsSt (l.map toBl)
def ptE3 (l : List (List (List Int × Option Addr × Nat) × Option Addr × Nat)) : Nat := fsPt (l.map toFn)
def stE3 (l : List (List (List Int × Option Addr × Nat) × Option Addr × Nat)) : Nat := fsSt (l.map toFn)
def c5 (l : List Int) : Nat := l.countP fun z => decide (z = 5)
theorem ptE2_snoc (l : List (List Int × Option Addr × Nat)) (os : List Int) (ca : Option Addr) (cp : Nat) : ptE2 (l ++ [(os, ca, cp)]) = ptE2 l + (os.length + 1) := by
  unfold ptE2
  rw [List.map_append, List.map_singleton, bsPt_snoc]
  simp [toBl]
theorem stE2_snoc (l : List (List Int × Option Addr × Nat)) (os : List Int) (ca : Option Addr) (cp : Nat) : stE2 (l ++ [(os, ca, cp)]) = stE2 l + c5 os := by
  unfold stE2
  rw [List.map_append, List.map_singleton, bsSt_snoc]
  unfold bSt toBl c5
  rw [List.countP_map]
  rfl
theorem ptE3_snoc (l : List (List (List Int × Option Addr × Nat) × Option Addr × Nat)) (bl : List (List Int × Option Addr × Nat)) (ba : Option Addr) (bp : Nat) : ptE3 (l ++ [(bl, ba, bp)]) = ptE3 l + ptE2 bl := by
  unfold ptE3 ptE2
  rw [List.map_append, List.map_singleton, fsPt_snoc]
  rfl
theorem stE3_snoc (l : List (List (List Int × Option Addr × Nat) × Option Addr × Nat)) (bl : List (List Int × Option Addr × Nat)) (ba : Option Addr) (bp : Nat) : stE3 (l ++ [(bl, ba, bp)]) = stE3 l + stE2 bl := by
  unfold stE3 stE2
  rw [List.map_append, List.map_singleton, fsSt_snoc]
  rfl
theorem c5_snoc (l : List Int) (z : Int) : c5 (l ++ [z]) = c5 l + (if z = 5 then 1 else 0) := by
  unfold c5
  rw [List.countP_append, List.countP_singleton]
  by_cases h : z = 5 <;> simp [h]
theorem row_bnd {w : World} {e : List (List Int × Option Addr × Nat) × Option Addr × Nat} (h : BlkRow w e) : fnB (toFn e) = true := by
  obtain ⟨_, ⟨h1, h2⟩, h3⟩ := h
  have h4 : lenB (e.1.map toBl) 12 blkB = true := lenB_good (by simpa using h2) (fun k y hy => by
    rw [List.getElem?_map, Option.map_eq_some_iff] at hy
    obtain ⟨c, hc, rfl⟩ := hy
    obtain ⟨_, h5, _⟩ := h3 c (List.mem_of_getElem? hc)
    exact lenB_good (by simpa [toBl] using h5) (fun j x hx => by
      simp only [toBl] at hx
      rw [List.getElem?_map, Option.map_eq_some_iff] at hx
      obtain ⟨z, _, rfl⟩ := hx
      rfl))
  unfold fnB toFn
  simp only [List.length_map, h4, Bool.and_true]
  simp [h1]
/-- The code of a block while it grows. -/
structure PC (wB w : World) (os : List Int) (ca : Option Addr) (cp : Nat) : Prop where
  box : w.heap[wB.heap.size]? = some (.cells #[.slice ca os.length cp, .int .i64 0, .int .i64 0, .int .i64 0, .int .i64 0] 44 (0, 0))
  own : w.ownsRow wB.heap.size 54 6 (.slice ca os.length cp) os.length (inCs os)
  ops : ∀ z, z ∈ os → z = 1 ∨ z = 5
  keep : Keeps [] wB w
theorem own_lt {w : World} {base n : Nat} {v : Value} {xs : List Value} {T : TypeId} {c g : Nat} (h : w.ownsRow base T c v n xs) (hg : v.ownBlock = some g) : base ≤ g ∧ g < w.heap.size := by
  rcases h.2 with ⟨rfl, _⟩ | ⟨g', cap, cur, rfl, hb, hh, _⟩
  · simp [Value.ownBlock] at hg
  · simp [Value.ownBlock] at hg
    subst hg
    exact ⟨hb, heap_lt hh⟩
theorem own_keeps {w wa w6 : World} {base n : Nat} {v : Value} {xs : List Value} {T : TypeId} {c : Nat} {L : List Nat} {w0 : World} (k : Keeps L w0 w) (ka : Keeps [] w wa) (h : w.ownsRow base T c v n xs) (hg : wa.grownBy w6 v.ownBlock) (hb : w0.heap.size ≤ base) : Keeps L w0 w6 ∧ Keeps (Option.toList v.ownBlock) wa w6 := by
  have kg : Keeps (Option.toList v.ownBlock) wa w6 := Keeps.grown _ hg (fun k hk => by rw [hk]; simp)
  refine ⟨(k.quiet ka).trans kg (fun x hx hl => ?_), kg⟩
  cases hs : v.ownBlock with
  | none => rw [hs] at hx; cases hx
  | some g =>
    rw [hs] at hx
    simp at hx
    subst hx
    have := (own_lt h hs).1
    omega
theorem PC.grow {wB w wa w6 : World} {os : List Int} {ca : Option Addr} {cp g cap : Nat} {z : Int} (h : PC wB w os ca cp) (hz : z = 1 ∨ z = 5) (ka : Keeps [] w wa) (hown : w6.ownsRow wB.heap.size 54 6 (.slice (some ⟨g, 0, none⟩) (os.length + 1) cap) (os.length + 1) (inCs os ++ [.int .i64 z, .int .i64 0, .int .i64 0, .int .i64 0, .int .i64 0, .slice none 0 0])) (hg : wa.grownBy w6 (Value.slice ca os.length cp).ownBlock) : w6.heap[wB.heap.size]? = some (.cells #[.slice ca os.length cp, .int .i64 0, .int .i64 0, .int .i64 0, .int .i64 0] 44 (0, 0)) ∧ PC wB (w6.setCell ⟨wB.heap.size, 0, none⟩ (.slice (some ⟨g, 0, none⟩) (os.length + 1) cap)) (os ++ [z]) (some ⟨g, 0, none⟩) cap := by
  have oa := ownsRow_keeps h.own ka (fun _ _ => by simp)
  have s6 := grown_heap hg (keep_heap h.box ka) (row_ne oa (keep_heap h.box ka) (by decide))
  have k1 : Keeps [wB.heap.size] w6 (w6.setCell ⟨wB.heap.size, 0, none⟩ (.slice (some ⟨g, 0, none⟩) (os.length + 1) cap)) := Keeps.setCell _ _ _ _ (List.mem_singleton.2 rfl)
  have hl : (os ++ [z]).length = os.length + 1 := by simp
  refine ⟨s6, by rw [hl]; exact heap_setCell_same _ _ 0 _ _ _ s6, ?_, fun y hy => ?_, ?_⟩
  · rw [hl, inCs_snoc]
    exact ownsRow_keeps hown k1 (fun b hb hx => row_ne hown s6 (by decide) (by rw [hb]; simp at hx; rw [hx]))
  · rcases List.mem_append.1 hy with hy | hy
    · exact h.ops y hy
    · rw [List.mem_singleton.1 hy]; exact hz
  · exact (own_keeps h.keep ka h.own hg (Nat.le_refl _)).1.trans k1 (fun x hx hl => by simp at hx; omega)
theorem PC.row {wB w : World} {os : List Int} {ca : Option Addr} {cp : Nat} (h : PC wB w os ca cp) (hl : os.length ≤ 30) : CodeRow w (os, ca, cp) := ⟨⟨_, h.own⟩, hl, h.ops⟩
/-- The blocks of a function while they grow. -/
structure PF (wF w : World) (bl : List (List Int × Option Addr × Nat)) (ba : Option Addr) (bp : Nat) : Prop where
  box : w.heap[wF.heap.size]? = some (.cells #[.int .i64 0, .slice none 0 0, .slice ba bl.length bp] 29 (0, 0))
  own : w.ownsRow wF.heap.size 44 5 (.slice ba bl.length bp) bl.length (blCs bl)
  rows : ∀ c, c ∈ bl → CodeRow w c
  keep : Keeps [] wF w
theorem PF.quiet {wF w w' : World} {bl : List (List Int × Option Addr × Nat)} {ba : Option Addr} {bp : Nat} (h : PF wF w bl ba bp) (k : Keeps [] w w') : PF wF w' bl ba bp := ⟨keep_heap h.box k, ownsRow_keeps h.own k (fun _ _ => by simp), fun c hc => (h.rows c hc).quiet k, h.keep.quiet k⟩
theorem PF.grow {wF w wa w6 : World} {bl : List (List Int × Option Addr × Nat)} {ba : Option Addr} {bp g cap : Nat} {os : List Int} {ca : Option Addr} {cp : Nat} (h : PF wF w bl ba bp) (ka : Keeps [] w wa) (hc : CodeRow wa (os, ca, cp)) (hown : w6.ownsRow wF.heap.size 44 5 (.slice (some ⟨g, 0, none⟩) (bl.length + 1) cap) (bl.length + 1) (blCs bl ++ [.slice ca os.length cp, .int .i64 0, .int .i64 0, .int .i64 0, .int .i64 0])) (hg : wa.grownBy w6 (Value.slice ba bl.length bp).ownBlock) : w6.heap[wF.heap.size]? = some (.cells #[.int .i64 0, .slice none 0 0, .slice ba bl.length bp] 29 (0, 0)) ∧ PF wF (w6.setCell ⟨wF.heap.size, 2, none⟩ (.slice (some ⟨g, 0, none⟩) (bl.length + 1) cap)) (bl ++ [(os, ca, cp)]) (some ⟨g, 0, none⟩) cap := by
  have oa := ownsRow_keeps h.own ka (fun _ _ => by simp)
  have s6 := grown_heap hg (keep_heap h.box ka) (row_ne oa (keep_heap h.box ka) (by decide))
  have k1 : Keeps [wF.heap.size] w6 (w6.setCell ⟨wF.heap.size, 2, none⟩ (.slice (some ⟨g, 0, none⟩) (bl.length + 1) cap)) := Keeps.setCell _ _ _ _ (List.mem_singleton.2 rfl)
  obtain ⟨ko, kg⟩ := own_keeps h.keep ka h.own hg (Nat.le_refl _)
  have hl : (bl ++ [(os, ca, cp)]).length = bl.length + 1 := by simp
  have cr : ∀ c, CodeRow wa c → CodeRow (w6.setCell ⟨wF.heap.size, 2, none⟩ (.slice (some ⟨g, 0, none⟩) (bl.length + 1) cap)) c := fun c h0 => by
    have h1 : CodeRow w6 c := h0.keeps kg (fun x hx => by
      rcases oa.2 with ⟨hv, _⟩ | ⟨g', cap', cur, hv, _, hg', _⟩
      · rw [hv] at hx; simp [Value.ownBlock] at hx
      · rw [hv] at hx
        simp [Value.ownBlock] at hx
        subst hx
        exact ⟨_, _, hg', by decide⟩)
    exact h1.keeps k1 (fun x hx => by
      obtain rfl : x = wF.heap.size := List.mem_singleton.1 hx
      exact ⟨_, _, s6, by decide⟩)
  refine ⟨s6, by rw [hl]; exact heap_setCell_same _ _ 2 _ _ _ s6, ?_, fun c hc' => ?_, ?_⟩
  · rw [hl, blCs_snoc]
    exact ownsRow_keeps hown k1 (fun b hb hx => row_ne hown s6 (by decide) (by rw [hb]; simp at hx; rw [hx]))
  · rcases List.mem_append.1 hc' with hc' | hc'
    · exact cr c ((h.rows c hc').quiet ka)
    · rw [List.mem_singleton.1 hc']; exact cr _ hc
  · exact ko.trans k1 (fun x hx hl => by simp at hx; omega)
/-- The functions of the program while they grow. -/
structure PO (w2 w : World) (q : Nat) (fl : List (List (List Int × Option Addr × Nat) × Option Addr × Nat)) (fa : Option Addr) (fp : Nat) : Prop where
  box : w.heap[q + 5]? = some (.cells #[.slice none 0 0, .slice (some ⟨q, 0, none⟩) 1 1, .slice none 0 0, .slice none 0 0, .slice fa fl.length fp, .int .i64 0] 36 (0, 0))
  sg : w.heap[q]? = some (.cells #[.slice none 0 0, .int .i64 0, .int .i64 0] 41 (0, 0))
  own : w.ownsRow w2.heap.size 29 3 (.slice fa fl.length fp) fl.length (fnCs fl)
  rows : ∀ e, e ∈ fl → BlkRow w e
  keep : Keeps [q + 5] w2 w
theorem PO.quiet {w2 w w' : World} {q : Nat} {fl : List (List (List Int × Option Addr × Nat) × Option Addr × Nat)} {fa : Option Addr} {fp : Nat} (h : PO w2 w q fl fa fp) (k : Keeps [] w w') : PO w2 w' q fl fa fp := ⟨keep_heap h.box k, keep_heap h.sg k, ownsRow_keeps h.own k (fun _ _ => by simp), fun c hc => (h.rows c hc).quiet k, h.keep.quiet k⟩
theorem PO.still {w2 w wa w6 : World} {q : Nat} {fl : List (List (List Int × Option Addr × Nat) × Option Addr × Nat)} {fa : Option Addr} {fp : Nat} (h : PO w2 w q fl fa fp) (ka : Keeps [] w wa) (hg : wa.grownBy w6 (Value.slice fa fl.length fp).ownBlock) : w6.heap[q + 5]? = some (.cells #[.slice none 0 0, .slice (some ⟨q, 0, none⟩) 1 1, .slice none 0 0, .slice none 0 0, .slice fa fl.length fp, .int .i64 0] 36 (0, 0)) := grown_heap hg (keep_heap h.box ka) (row_ne (ownsRow_keeps h.own ka (fun _ _ => by simp)) (keep_heap h.box ka) (by decide))
theorem PO.grow {w2 w wa w6 : World} {q : Nat} {fl : List (List (List Int × Option Addr × Nat) × Option Addr × Nat)} {fa : Option Addr} {fp g cap : Nat} {bl : List (List Int × Option Addr × Nat)} {ba : Option Addr} {bp : Nat} (h : PO w2 w q fl fa fp) (ka : Keeps [] w wa) (hc : BlkRow wa (bl, ba, bp)) (hown : w6.ownsRow w2.heap.size 29 3 (.slice (some ⟨g, 0, none⟩) (fl.length + 1) cap) (fl.length + 1) (fnCs fl ++ [.int .i64 0, .slice none 0 0, .slice ba bl.length bp])) (hg : wa.grownBy w6 (Value.slice fa fl.length fp).ownBlock) : PO w2 (w6.setCell ⟨q + 5, 4, none⟩ (.slice (some ⟨g, 0, none⟩) (fl.length + 1) cap)) q (fl ++ [(bl, ba, bp)]) (some ⟨g, 0, none⟩) cap := by
  have oa := ownsRow_keeps h.own ka (fun _ _ => by simp)
  have s6 := h.still ka hg
  have g6 := grown_heap hg (keep_heap h.sg ka) (row_ne oa (keep_heap h.sg ka) (by decide))
  have k1 : Keeps [q + 5] w6 (w6.setCell ⟨q + 5, 4, none⟩ (.slice (some ⟨g, 0, none⟩) (fl.length + 1) cap)) := Keeps.setCell _ _ _ _ (List.mem_singleton.2 rfl)
  obtain ⟨ko, kg⟩ := own_keeps h.keep ka h.own hg (Nat.le_refl _)
  have hl : (fl ++ [(bl, ba, bp)]).length = fl.length + 1 := by simp
  have cr : ∀ c, BlkRow wa c → BlkRow (w6.setCell ⟨q + 5, 4, none⟩ (.slice (some ⟨g, 0, none⟩) (fl.length + 1) cap)) c := fun c h0 => by
    have h1 : BlkRow w6 c := h0.keeps kg (fun x hx => by
      rcases oa.2 with ⟨hv, _⟩ | ⟨g', cap', cur, hv, _, hg', _⟩
      · rw [hv] at hx; simp [Value.ownBlock] at hx
      · rw [hv] at hx
        simp [Value.ownBlock] at hx
        subst hx
        exact ⟨_, _, hg', by decide⟩)
    exact h1.keeps k1 (fun x hx => by
      obtain rfl : x = q + 5 := List.mem_singleton.1 hx
      exact ⟨_, _, s6, by decide⟩)
  refine ⟨by rw [hl]; exact heap_setCell_same _ _ 4 _ _ _ s6, put_heap g6 (by show q ≠ q + 5; omega), ?_, fun c hc' => ?_, ko.step k1⟩
  · rw [hl, fnCs_snoc]
    exact ownsRow_keeps hown k1 (fun b hb hx => row_ne hown s6 (by decide) (by rw [hb]; simp at hx; rw [hx]))
  · rcases List.mem_append.1 hc' with hc' | hc'
    · exact cr c ((h.rows c hc').quiet ka)
    · rw [List.mem_singleton.1 hc']; exact cr _ hc
theorem PO.prc {w2 w : World} {q : Nat} {fl : List (List (List Int × Option Addr × Nat) × Option Addr × Nat)} {fa : Option Addr} {fp : Nat} (h : PO w2 w q fl fa fp) (hl : fl.length ≤ 12) : PrC w (q + 5) 0 ⟨[], [([], 0, 0)], [], [], fl.map toFn, 0⟩ :=
  ⟨SlC.none (hcell h.box 0), SlC.one (hcell h.box 1) ⟨SlC.none (hcell h.sg 0), IntC.of (hcell h.sg 1) (by decide), IntC.of (hcell h.sg 2) (by decide)⟩, SlC.none (hcell h.box 2), SlC.none (hcell h.box 3), fns_slc h.own (hcell h.box 4) hl h.rows, IntC.of (hcell h.box 5) (by simp)⟩
end Go.Proofs.YtlopddflbhnjdaaDoor
