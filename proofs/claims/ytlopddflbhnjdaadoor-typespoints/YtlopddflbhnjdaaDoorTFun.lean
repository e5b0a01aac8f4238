/-
  A program in memory, looked at; rows of points and of numbers that a call has made; ir.size (out of the texts of stage 8).
-/
import Derived.Test.YtlopddflbhnjdaaDoorIPl
import Derived.Test.YtlopddflbhnjdaaDoorIRow
import Derived.Deep.DeepCutAuto
import Derived.Deep.AppendLies
import Derived.BigQuiet
namespace Go.Proofs.YtlopddflbhnjdaaDoor
open Go.RowKit

structure FnAt (w : World) (pb po : Nat) (P : Pr8) (fa : Option Addr) (fcp : Nat) : Prop where
  cell : w.cell? ⟨pb, po + 4, none⟩ = some (.slice fa P.funcs.length fcp)
  rows : RowsAt w 3 FuC fa P.funcs
  cap : P.funcs.length ≤ fcp
  len : P.funcs.length ≤ maxLen
theorem PrC.fns {w : World} {pb po : Nat} {P : Pr8} (h : PrC w pb po P) : ∃ fa fcp, FnAt w pb po P fa fcp := by
  obtain ⟨fa, fcp, h1, h2, h3, h4⟩ := h.c4
  exact ⟨fa, fcp, h1, h2, h3, h4⟩
structure BksAt (w : World) (fb fo : Nat) (P : Pr8) (f : Nat) (ba : Option Addr) (bcp : Nat) : Prop where
  cell : w.cell? ⟨fb, fo + f * 3 + 2, none⟩ = some (.slice ba (fun8 P f).blocks.length bcp)
  rows : RowsAt w 5 BlC ba (fun8 P f).blocks
  cap : (fun8 P f).blocks.length ≤ bcp
  len : (fun8 P f).blocks.length ≤ maxLen
theorem getD_get {α : Type} {l : List α} {k : Nat} {d : α} (h : k < l.length) : l[k]? = some (l.getD k d) := by
  rw [List.getD_eq_getElem?_getD, List.getElem?_eq_getElem h]
  rfl
theorem FnAt.at {w : World} {pb po : Nat} {P : Pr8} {fa : Option Addr} {fcp : Nat} (h : FnAt w pb po P fa fcp) {f : Nat} (hf : f < P.funcs.length) : ∃ fb fo ba bcp, fa = some ⟨fb, fo, none⟩ ∧ BksAt w fb fo P f ba bcp := by
  obtain ⟨fb, fo, h1, h2⟩ := h.rows.at (getD_get (d := ⟨0, [], []⟩) hf)
  obtain ⟨ba, bcp, g1, g2, g3, g4⟩ := h2.c2
  exact ⟨fb, fo, ba, bcp, h1, g1, g2, g3, g4⟩
theorem BksAt.at {w : World} {fb fo : Nat} {P : Pr8} {f : Nat} {ba : Option Addr} {bcp : Nat} (h : BksAt w fb fo P f ba bcp) {b : Nat} (hb : b < (fun8 P f).blocks.length) : ∃ bb bo, ba = some ⟨bb, bo, none⟩ ∧ BlC w bb (bo + b * 5) (blk8 (fun8 P f) b) := by
  have e : (fun8 P f).blocks[b]? = some (blk8 (fun8 P f) b) := getD_get hb
  exact h.rows.at e
theorem size_any (bb o n cp : Nat) (a : Option Addr) (w : World) (h : w.cell? ⟨bb, o, none⟩ = some (.slice a n cp)) (hn : n ≤ 1000) :
    Calls Tryd.prog 70 #[.pointer (some ⟨bb, o, none⟩)] w fun e w' => e = .returned (.int .i64 ((n + 1 : Nat) : Int)) ∧ w' = w := by
  have h1 : (n : Int) ≤ 1000 := by omega
  go_enter Tryd.func70, Tryd.ntmps70
  go_wp2
  go_ret
  exact ⟨by go_num, rfl⟩
def cntF (x : Fu8) (m : Nat) : Nat := (ptF x 0 m).length
theorem ptF_len (x : Fu8) (f m : Nat) : (ptF x f m).length = cntF x m := by
  unfold cntF
  induction m with
  | zero => rfl
  | succ m ih => rw [ptF_succ, ptF_succ, List.length_append, List.length_append, ptB_len, ptB_len, ih]
theorem cntF_zero (x : Fu8) : cntF x 0 = 0 := rfl
theorem cntF_succ (x : Fu8) (m : Nat) : cntF x (m + 1) = cntF x m + ((blk8 x m).code.length + 1) := by
  unfold cntF
  rw [ptF_succ, List.length_append, ptB_len]
theorem cntF_mono (x : Fu8) {m n : Nat} (h : m ≤ n) : cntF x m ≤ cntF x n := by
  induction n with
  | zero => rw [show m = 0 by omega]; exact Nat.le_refl _
  | succ n ih =>
    by_cases e : m = n + 1
    · rw [e]; exact Nat.le_refl _
    · have := ih (by omega)
      rw [cntF_succ]
      omega
def cntP (P : Pr8) (k : Nat) : Nat := (ptP P k).length
theorem cntP_zero (P : Pr8) : cntP P 0 = 0 := rfl
theorem cntP_succ (P : Pr8) (k : Nat) : cntP P (k + 1) = cntP P k + cntF (fun8 P k) (fun8 P k).blocks.length := by
  unfold cntP
  rw [ptP_succ, List.length_append, ptF_len]
theorem cntP_mono (P : Pr8) {m n : Nat} (h : m ≤ n) : cntP P m ≤ cntP P n := by
  induction n with
  | zero => rw [show m = 0 by omega]; exact Nat.le_refl _
  | succ n ih =>
    by_cases e : m = n + 1
    · rw [e]; exact Nat.le_refl _
    · have := ih (by omega)
      rw [cntP_succ]
      omega
theorem pos8_cnt (P : Pr8) (f b i : Nat) : pos8 P f b i = cntP P f + cntF (fun8 P f) b + i := by
  unfold pos8
  rw [ptF_len]
  rfl
theorem pts_cnt (P : Pr8) : (pts P).length = cntP P P.funcs.length := rfl
theorem SlC.len {α : Type} {c : Nat} {R : World → Nat → Nat → α → Prop} {w : World} {b o : Nat} {l : List α} (h : SlC c R w b o l) : ∃ a cp, w.cell? ⟨b, o, none⟩ = some (.slice a l.length cp) := by
  obtain ⟨a, cp, h1, _⟩ := h
  exact ⟨a, cp, h1⟩
theorem heap_lt {w : World} {p : Nat} {o : Obj} (h : w.heap[p]? = some o) : p < w.heap.size := by
  rw [Array.getElem?_eq_some_iff] at h
  exact h.1
theorem heap_new (w : World) (o : Obj) : (w.alloc o).heap[w.heap.size]? = some o := heap_alloc_new w o
theorem keep_heap {w w' : World} {s : Nat} {o : Obj} (h : w.heap[s]? = some o) (k : Keeps [] w w') : w'.heap[s]? = some o := (k.block s (heap_lt h) (by simp)).trans h
theorem hcell {w : World} {b : Nat} {cs : Array Value} {T : TypeId} (h : w.heap[b]? = some (.cells cs T (0, 0))) (j : Nat) : w.cell? ⟨b, j, none⟩ = cs[j]? := Lib.cell_of_heap h j
theorem hfrozen {w : World} {b : Nat} {cs : Array Value} {T : TypeId} (h : w.heap[b]? = some (.cells cs T (0, 0))) (j : Nat) : w.frozen? ⟨b, j, none⟩ = false := Lib.frozen_of_heap h j
theorem set3 {w : World} {b : Nat} {x y z : Value} {T : TypeId} (h : w.heap[b]? = some (.cells #[x, y, z] T (0, 0))) (u0 u1 u2 : Value) :
    (((w.setCell ⟨b, 0, none⟩ u0).setCell ⟨b, 1, none⟩ u1).setCell ⟨b, 2, none⟩ u2).heap[b]? = some (.cells #[u0, u1, u2] T (0, 0)) :=
  heap_setCell_same _ b 2 _ _ u2 (heap_setCell_same _ b 1 _ _ u1 (heap_setCell_same w b 0 _ _ u0 h))
theorem keeps3 (w : World) (b : Nat) (u0 u1 u2 : Value) : Keeps [b] w (((w.setCell ⟨b, 0, none⟩ u0).setCell ⟨b, 1, none⟩ u1).setCell ⟨b, 2, none⟩ u2) :=
  ((Keeps.setCell [b] _ _ _ (List.mem_singleton.2 rfl)).step (Keeps.setCell [b] _ _ _ (List.mem_singleton.2 rfl))).step (Keeps.setCell [b] _ _ _ (List.mem_singleton.2 rfl))
structure PtC (w : World) (b o : Nat) (q : Nat × Nat × Nat) : Prop where
  c0 : w.cell? ⟨b, o, none⟩ = some (.int .i64 (q.1 : Int))
  c1 : w.cell? ⟨b, o + 1, none⟩ = some (.int .i64 (q.2.1 : Int))
  c2 : w.cell? ⟨b, o + 2, none⟩ = some (.int .i64 (q.2.2 : Int))
theorem PtC.stays : Stays PtC := fun _ _ _ _ _ k h => ⟨cell_stays k h.c0, cell_stays k h.c1, cell_stays k h.c2⟩
def ptCs (l : List (Nat × Nat × Nat)) : List Value := l.flatMap fun q => [.int .i64 (q.1 : Int), .int .i64 (q.2.1 : Int), .int .i64 (q.2.2 : Int)]
theorem ptCs_nil : ptCs [] = [] := rfl
theorem ptCs_snoc (l : List (Nat × Nat × Nat)) (f b i : Nat) : ptCs (l ++ [(f, b, i)]) = ptCs l ++ [.int .i64 (f : Int), .int .i64 (b : Int), .int .i64 (i : Int)] := by
  unfold ptCs
  rw [List.flatMap_append]
  rfl
theorem ptCs_len (l : List (Nat × Nat × Nat)) : (ptCs l).length = l.length * 3 := by
  induction l with
  | nil => rfl
  | cons q l ih =>
    have : ptCs (q :: l) = [.int .i64 (q.1 : Int), .int .i64 (q.2.1 : Int), .int .i64 (q.2.2 : Int)] ++ ptCs l := rfl
    rw [this, List.length_append, ih, List.length_cons]
    show 3 + l.length * 3 = (l.length + 1) * 3
    omega
theorem ptCs_get (l : List (Nat × Nat × Nat)) : ∀ (j : Nat) (q : Nat × Nat × Nat), l[j]? = some q → (ptCs l)[j * 3]? = some (.int .i64 (q.1 : Int)) ∧ (ptCs l)[j * 3 + 1]? = some (.int .i64 (q.2.1 : Int)) ∧ (ptCs l)[j * 3 + 2]? = some (.int .i64 (q.2.2 : Int)) := by
  induction l with
  | nil => intro j q h; simp at h
  | cons p l ih =>
    intro j q h
    have e : ptCs (p :: l) = [.int .i64 (p.1 : Int), .int .i64 (p.2.1 : Int), .int .i64 (p.2.2 : Int)] ++ ptCs l := rfl
    cases j with
    | zero =>
      simp at h
      subst h
      rw [e]
      exact ⟨rfl, rfl, rfl⟩
    | succ j =>
      have h' := ih j q (by simpa using h)
      rw [e, show (j + 1) * 3 = j * 3 + 3 by omega]
      refine ⟨?_, ?_, ?_⟩ <;> rw [List.getElem?_append_right (by simp)]
      · exact h'.1
      · rw [show j * 3 + 3 + 1 - [Value.int .i64 (p.1 : Int), .int .i64 (p.2.1 : Int), .int .i64 (p.2.2 : Int)].length = j * 3 + 1 by simp]
        exact h'.2.1
      · rw [show j * 3 + 3 + 2 - [Value.int .i64 (p.1 : Int), .int .i64 (p.2.1 : Int), .int .i64 (p.2.2 : Int)].length = j * 3 + 2 by simp]
        exact h'.2.2
theorem pts_open {w : World} {base n : Nat} {v : Value} {l : List (Nat × Nat × Nat)} (h : w.ownsRow base 50 3 v n (ptCs l)) : ∃ a cp, v = .slice a n cp ∧ n = l.length ∧ RowsAt w 3 PtC a l ∧ l.length ≤ cp := by
  have hl : n = l.length := by have := h.1; rw [ptCs_len] at this; omega
  rcases h.2 with ⟨rfl, h0⟩ | ⟨g, cap, cur, rfl, _, hg, hle, _, hs, ht⟩
  · subst h0
    exact ⟨none, 0, rfl, hl, .inl (List.eq_nil_of_length_eq_zero hl.symm), by omega⟩
  · refine ⟨_, cap, rfl, hl, .inr ⟨g, 0, rfl, fun j q hq => ?_⟩, by omega⟩
    have hj : j < l.length := by
      rcases Nat.lt_or_ge j l.length with h | h
      · exact h
      · rw [List.getElem?_eq_none h] at hq; cases hq
    have key : ∀ i, i < n * 3 → w.cell? ⟨g, i, none⟩ = (ptCs l)[i]? := fun i hi => by
      rw [cell_of_row w g i cur _ _ hg, ← ht, List.getElem?_take, if_pos hi]
      simp
    obtain ⟨g0, g1, g2⟩ := ptCs_get l j q hq
    rw [Nat.zero_add]
    exact ⟨(key _ (by omega)).trans g0, (key _ (by omega)).trans g1, (key _ (by omega)).trans g2⟩
theorem zero_pt : Tryd.t50.zero = some (.agg #[.int .i64 0, .int .i64 0, .int .i64 0]) := by kernel_rfl
theorem size_pt : Tryd.t50.size = 3 := by kernel_rfl
theorem bytes_pt : Tryd.t50.bytes = 24 := by kernel_rfl
theorem info_pt : Tryd.prog.info? 50 = some Tryd.t50 := by kernel_rfl
theorem under_pts : Tryd.prog.underlying 78 = some (.slice 50) := by kernel_rfl
theorem three_one (x y z : Int) : ∀ u ∈ [Value.int .i64 x, .int .i64 y, .int .i64 z], u.oneCell' = true := by
  intro u hu
  simp at hu
  rcases hu with rfl | rfl | rfl <;> rfl
def numC (l : List Int) : List Value := l.map fun z => .int .i64 z
theorem numC_len (l : List Int) : (numC l).length = l.length := by unfold numC; rw [List.length_map]
theorem numC_one (l : List Int) : ∀ u ∈ numC l, u.oneCell' = true := by
  intro u hu
  unfold numC at hu
  rw [List.mem_map] at hu
  obtain ⟨z, _, rfl⟩ := hu
  rfl
theorem numC_snoc (l : List Int) (z : Int) : numC (l ++ [z]) = numC l ++ [.int .i64 z] := by unfold numC; rw [List.map_append]; rfl
theorem nums_open {w : World} {base n : Nat} {v : Value} {l : List Int} (h : w.ownsRow base 3 1 v n (numC l)) : ∃ a cp, v = .slice a n cp ∧ n = l.length ∧ IntsAt w a l ∧ n ≤ cp ∧ ∀ b off, a = some ⟨b, off, none⟩ → base ≤ b := by
  have hl : n = l.length := by have := h.1; rw [numC_len] at this; omega
  rcases h.2 with ⟨rfl, h0⟩ | ⟨g, cap, cur, rfl, hbs, hg, hle, _, hs, ht⟩
  · subst h0
    exact ⟨none, 0, rfl, hl, .inl (List.eq_nil_of_length_eq_zero hl.symm), by omega, fun _ _ e => by cases e⟩
  · refine ⟨_, cap, rfl, hl, .inr ⟨g, 0, rfl, fun i hi => ?_⟩, hle, fun b off e => by cases e; assumption⟩
    rw [Nat.zero_add, cell_of_row w g i cur _ _ hg]
    have e2 : (cur.toList.take (n * 1))[i]? = cur.toList[i]? := by rw [List.getElem?_take, if_pos (by omega)]
    have e1 : cur[i]? = cur.toList[i]? := by simp
    rw [e1, ← e2, ht]
    unfold numC
    rw [List.getElem?_map, List.getElem?_eq_getElem hi, List.getD_eq_getElem?_getD, List.getElem?_eq_getElem hi]
    rfl
theorem numC_at {w : World} {b off : Nat} {l : List Int} (h : ∀ i, i < l.length → w.cell? ⟨b, off + i, none⟩ = some (.int .i64 (l.getD i 0))) : ∀ j u, (numC l)[j]? = some u → w.cell? ((⟨b, off, none⟩ : Addr).add j) = some u := by
  intro j u hu
  have hadd : (⟨b, off, none⟩ : Addr).add j = ⟨b, off + j, none⟩ := by unfold Addr.add; by_cases e : j = 0 <;> simp [e]
  unfold numC at hu
  rw [List.getElem?_map] at hu
  by_cases hj : j < l.length
  · rw [hadd, h j hj]
    rw [List.getElem?_eq_getElem hj] at hu
    simp at hu
    rw [List.getD_eq_getElem?_getD, List.getElem?_eq_getElem hj, ← hu]
    rfl
  · rw [List.getElem?_eq_none (by omega)] at hu
    cases hu
def ptV (f b i : Int) : Value := .agg #[.int .i64 f, .int .i64 b, .int .i64 i]
abbrev wf64 (n : Int) : Prop := b64 n
def insV (x : In8) (ar : Value) : Value := .agg #[.int .i64 x.op, .int .i64 x.dst, .int .i64 x.a, .int .i64 x.b, .int .i64 x.n, ar]
structure InW (w : World) (q : Nat) (x : In8) (ar : Value) : Prop where
  c0 : w.cell? ⟨q, 0, none⟩ = some (.int .i64 x.op)
  c1 : w.cell? ⟨q, 1, none⟩ = some (.int .i64 x.dst)
  c2 : w.cell? ⟨q, 2, none⟩ = some (.int .i64 x.a)
  c3 : w.cell? ⟨q, 3, none⟩ = some (.int .i64 x.b)
  c4 : w.cell? ⟨q, 4, none⟩ = some (.int .i64 x.n)
  c5 : w.cell? ⟨q, 5, none⟩ = some ar
theorem InW.stays {w w' : World} {q : Nat} {x : In8} {ar : Value} (h : InW w q x ar) (k : Keeps [] w w') : InW w' q x ar :=
  ⟨cell_stays k h.c0, cell_stays k h.c1, cell_stays k h.c2, cell_stays k h.c3, cell_stays k h.c4, cell_stays k h.c5⟩
theorem InW.new (w : World) (x : In8) (ar : Value) (t : TypeId) : InW (w.alloc (.cells #[.int .i64 x.op, .int .i64 x.dst, .int .i64 x.a, .int .i64 x.b, .int .i64 x.n, ar] t)) w.heap.size x ar := by
  constructor <;> rw [World.cell?_alloc_at _ _ _ _ rfl] <;> rfl
structure InOk (x : In8) : Prop where
  op : wf64 x.op
  dst : wf64 x.dst
  a : wf64 x.a
  b : wf64 x.b
  n : wf64 x.n
  args : ∀ z, z ∈ x.args → wf64 z
theorem eqb {a b : Int} (h : a = b) : (a == b) = true := by simpa using h
theorem neb {a b : Int} (h : a ≠ b) : (a == b) = false := by simpa using h
theorem InC.open {w : World} {b o : Nat} {x : In8} (h : InC w b o x) : InOk x ∧ ∃ ar cp, w.cell? ⟨b, o + 5, none⟩ = some (.slice ar x.args.length cp) ∧ IntsAt w ar x.args ∧ x.args.length ≤ cp := by
  obtain ⟨ar, cp, h1, h2, h3, _⟩ := h.c5
  refine ⟨⟨h.c0.2, h.c1.2, h.c2.2, h.c3.2, h.c4.2, fun z hz => ?_⟩, ar, cp, h1, rows_ints h2, h3⟩
  obtain ⟨i, hi, e⟩ := List.getElem_of_mem hz
  obtain ⟨_, _, _, h9⟩ := h2.at (j := i) (y := z) (by rw [List.getElem?_eq_getElem hi, e])
  exact h9.2
theorem ins_get {x : Bl8} {i : Nat} (h : i < x.code.length) : x.code[i]? = some (ins8 x i) := by
  unfold ins8
  rw [List.getD_eq_getElem?_getD, List.getElem?_eq_getElem h]
  rfl
end Go.Proofs.YtlopddflbhnjdaaDoor
