/-
  AssignDiamond: its memory while the branches grow.
-/
import Derived.Test.YtmebkeidpklcbaaDoorZYDiPl
import Derived.Test.YtmebkeidpklcbaaDoorZYLpLaw
namespace Go.Proofs.YtmebkeidpklcbaaDoor
open Go.RowKit

/-- Five marks. -/
def A5 (f : Nat → Bool) : Array Value := #[.bool (f 0), .bool (f 1), .bool (f 2), .bool (f 3), .bool (f 4)]
def mk5 (ks : List Nat) : Nat → Bool := fun j => decide (j ∈ ks)
theorem A5_get {f : Nat → Bool} {k : Nat} (hk : k < 5) : (A5 f)[k]? = some (.bool (f k)) := by
  match k, hk with
  | 0, _ => rfl
  | 1, _ => rfl
  | 2, _ => rfl
  | 3, _ => rfl
  | 4, _ => rfl
theorem A5_set {ks : List Nat} {k : Nat} (hk : k < 5) : (A5 (mk5 ks)).setIfInBounds k (.bool true) = A5 (mk5 (ks ++ [k])) := by
  match k, hk with
  | 0, _ => simp [A5, mk5]
  | 1, _ => simp [A5, mk5]
  | 2, _ => simp [A5, mk5]
  | 3, _ => simp [A5, mk5]
  | 4, _ => simp [A5, mk5]
/-- Instructions, as they lie. -/
def ikC (k : Nat) : List Value := [.int .i64 1, .int .i64 ((k : Int) + 1), .int .i64 0, .int .i64 0, .int .i64 0, .slice none 0 0]
def iksC (ks : List Nat) : List Value := ks.flatMap ikC
theorem iksC_len (ks : List Nat) : (iksC ks).length = ks.length * 6 := by
  unfold iksC
  induction ks with
  | nil => rfl
  | cons k ks ih =>
    rw [List.flatMap_cons, List.length_append, ih]
    simp [ikC]
    omega
theorem iksC_snoc (ks : List Nat) (k : Nat) : iksC (ks ++ [k]) = iksC ks ++ ikC k := by unfold iksC; simp [List.flatMap_append]
theorem iksC_get {ks : List Nat} : ∀ {j k : Nat}, ks[j]? = some k → ∀ i, i < 6 → (iksC ks)[j * 6 + i]? = (ikC k)[i]? := by
  induction ks with
  | nil => intro j k h; simp at h
  | cons a ks ih =>
    intro j k h i hi
    cases j with
    | zero =>
      obtain rfl : a = k := by simpa using h
      unfold iksC
      rw [List.flatMap_cons, List.getElem?_append_left (by simp [ikC]; omega)]
      simp
    | succ j =>
      have := ih (j := j) (k := k) (by simpa using h) i hi
      unfold iksC at *
      rw [List.flatMap_cons, List.getElem?_append_right (by simp [ikC]; omega), ← this]
      congr 1
      simp [ikC]
      omega
theorem under_insY : Tryd.prog.underlying 61 = some (.slice 65) := by kernel_rfl
theorem info_inY : Tryd.prog.info? 65 = some Tryd.t65 := by kernel_rfl
theorem zero_inY : Tryd.t65.zero = some (.agg #[.int .i64 0, .int .i64 0, .int .i64 0, .int .i64 0, .int .i64 0, .slice none 0 0]) := by kernel_rfl
theorem size_inY : Tryd.t65.size = 6 := by kernel_rfl
theorem bytes_inY : Tryd.t65.bytes = 64 := by kernel_rfl
/-- One branch while it grows: its marks in block ab, its block's variable in block lb, its code. -/
structure SD (w : World) (base ab lb : Nat) (T5 : TypeId) (ks : List Nat) (v : Value) (fin to' : Int) : Prop where
  marks : w.heap[ab]? = some (.cells (A5 (mk5 ks)) T5 (0, 0))
  blk : w.heap[lb]? = some (.cells #[v, .int .i64 fin, .int .i64 0, .int .i64 to', .int .i64 0] 63 (0, 0))
  row : w.ownsRow base 65 6 v ks.length (iksC ks)
theorem SD.kept {w w' : World} {base ab lb : Nat} {T5 : TypeId} {ks : List Nat} {v : Value} {fin to' : Int} {L : List Nat} (h : SD w base ab lb T5 ks v fin to') (k : Keeps L w w') (ha : ab ∉ L) (hl : lb ∉ L) (hv : ∀ b, v.ownBlock = some b → b ∉ L) : SD w' base ab lb T5 ks v fin to' :=
  ⟨by rw [k.block ab (heap_lt h.marks) ha]; exact h.marks, by rw [k.block lb (heap_lt h.blk) hl]; exact h.blk, ownsRow_keeps h.row k hv⟩
theorem SD.quiet {w w' : World} {base ab lb : Nat} {T5 : TypeId} {ks : List Nat} {v : Value} {fin to' : Int} (h : SD w base ab lb T5 ks v fin to') (k : Keeps [] w w') : SD w' base ab lb T5 ks v fin to' := h.kept k (by simp) (by simp) (by simp)
theorem own_ge {w : World} {base n : Nat} {v : Value} {xs : List Value} {T : TypeId} {c b : Nat} (h : w.ownsRow base T c v n xs) (hb : v.ownBlock = some b) : base ≤ b ∧ b < w.heap.size := by
  rcases h.2 with ⟨rfl, _⟩ | ⟨g, cap, cur, rfl, hg, hh, _⟩
  · simp [Value.ownBlock] at hb
  · simp [Value.ownBlock] at hb
    subst hb
    exact ⟨hg, heap_lt hh⟩
/-- One instruction more. -/
theorem SD.grow {w w6 : World} {base ab lb : Nat} {T5 : TypeId} {ks : List Nat} {v : Value} {fin to' : Int} {k g cap : Nat} (h : SD w base ab lb T5 ks v fin to') (ha : ab < base) (hl : lb < base) (hne : ab ≠ lb) (hk : k < 5)
    (hown : w6.ownsRow base 65 6 (.slice (some ⟨g, 0, none⟩) (ks.length + 1) cap) (ks.length + 1) (iksC ks ++ ikC k)) (hg : ((w.setCell ⟨ab, k, none⟩ (.bool true)).alloc (.cells (ikC k).toArray 65)).grownBy w6 v.ownBlock) :
    SD (w6.setCell ⟨lb, 0, none⟩ (.slice (some ⟨g, 0, none⟩) (ks.length + 1) cap)) base ab lb T5 (ks ++ [k]) (.slice (some ⟨g, 0, none⟩) (ks.length + 1) cap) fin to' ∧ Keeps (ab :: lb :: v.ownBlock.toList) w (w6.setCell ⟨lb, 0, none⟩ (.slice (some ⟨g, 0, none⟩) (ks.length + 1) cap)) ∧
    w6.heap[lb]? = some (.cells #[v, .int .i64 fin, .int .i64 0, .int .i64 to', .int .i64 0] 63 (0, 0)) := by
  have ka := Keeps.alloc [] (w.setCell ⟨ab, k, none⟩ (.bool true)) (.cells (ikC k).toArray 65)
  have k1 : Keeps [ab] w (w.setCell ⟨ab, k, none⟩ (.bool true)) := Keeps.setCell _ _ _ _ (by simp)
  have kg : Keeps v.ownBlock.toList ((w.setCell ⟨ab, k, none⟩ (.bool true)).alloc (.cells (ikC k).toArray 65)) w6 := Keeps.grown _ hg (fun x hx => by rw [hx]; simp)
  have k9 : Keeps [lb] w6 (w6.setCell ⟨lb, 0, none⟩ (.slice (some ⟨g, 0, none⟩) (ks.length + 1) cap)) := Keeps.setCell _ _ _ _ (by simp)
  have va : v.ownBlock ≠ some ab := fun e => by have := own_ge h.row e; omega
  have vl : v.ownBlock ≠ some lb := fun e => by have := own_ge h.row e; omega
  have m1 : (w.setCell ⟨ab, k, none⟩ (.bool true)).heap[ab]? = some (.cells (A5 (mk5 (ks ++ [k]))) T5 (0, 0)) := by
    have := heap_setCell_same _ _ k _ _ (.bool true) h.marks
    rw [A5_set hk] at this
    exact this
  have b1 : (w.setCell ⟨ab, k, none⟩ (.bool true)).heap[lb]? = some (.cells #[v, .int .i64 fin, .int .i64 0, .int .i64 to', .int .i64 0] 63 (0, 0)) := (heap_setCell_other _ _ _ _ (by simp; omega)).trans h.blk
  have m6 := grownY hg (keep_heap m1 ka) va
  have b6 := grownY hg (keep_heap b1 ka) vl
  refine ⟨⟨(heap_setCell_other _ _ _ _ (by simp; omega)).trans m6, heap_setCell_same _ _ 0 _ _ _ b6, ?_⟩, ?_, b6⟩
  · rw [List.length_append, iksC_snoc]
    exact ownsRow_keeps hown k9 (fun b hb hx => by have := own_ge hown hb; simp at hx; omega)
  · refine ⟨?_, ?_, ?_, ?_, ?_⟩
    · exact (((k9.os).trans kg.os).trans ka.os).trans k1.os
    · exact (((k9.tape).trans kg.tape).trans ka.tape).trans k1.tape
    · exact (((k9.output).trans kg.output).trans ka.output).trans k1.output
    · exact Nat.le_trans k1.size (Nat.le_trans ka.size (Nat.le_trans kg.size k9.size))
    · intro i hi hn
      have h1 : i ≠ ab := fun e => hn (by simp [e])
      have h2 : i ≠ lb := fun e => hn (by simp [e])
      have h3 : i ∉ v.ownBlock.toList := fun e => hn (by simp at e; simp [e])
      have s1 := Nat.lt_of_lt_of_le hi k1.size
      have s2 := Nat.lt_of_lt_of_le s1 ka.size
      have s3 := Nat.lt_of_lt_of_le s2 kg.size
      rw [k9.block i s3 (by simpa using h2), kg.block i s2 h3, ka.block i s1 (by simp), k1.block i hi (by simpa using h1)]
/-- All else, while the branches grow. -/
structure DS (w wr : World) (n r : Nat) : Prop where
  of : OF wr n (.slice (some ⟨r, 0, none⟩) 6 6) (.slice (some ⟨n + 3, 0, none⟩) 1 1) 3 0 0
  rr : wr.heap[r]? = some (.cells #[.int .i64 0, .int .i64 0, .int .i64 0, .int .i64 0, .int .i64 0, .int .i64 0, .int .i64 0, .int .i64 0, .int .i64 0, .int .i64 0, .int .i64 0, .int .i64 0] 70 (0, 0))
  keep : Keeps [] w wr
theorem DS.kept {w wr wy : World} {n r : Nat} {L : List Nat} (h : DS w wr n r) (k : Keeps L wr wy) (h1 : ∀ x, x ∈ L → n + 5 < x ∧ x ≠ r) (hn : w.heap.size ≤ n) : DS w wy n r :=
  ⟨h.of.kept k (fun x hx => (h1 x hx).1), by rw [k.block r (heap_lt h.rr) (fun hx => (h1 r hx).2 rfl)]; exact h.rr, h.keep.fresh k (fun x hx => by have := (h1 x hx).1; omega)⟩
theorem fifth (z : Int) : ∃ k : Nat, (wrap64 (z.tmod 5 + 5)).tmod 5 = (k : Int) ∧ k < 5 := by
  have h1 : -5 < z.tmod 5 ∧ z.tmod 5 < 5 := by
    rcases Int.le_total 0 z with h | h
    · have := Int.tmod_nonneg 5 h
      have h2 := Int.tmod_lt_of_pos z (b := 5) (by decide)
      omega
    · have h2 := Int.tmod_lt_of_pos (-z) (b := 5) (by decide)
      have h3 := Int.tmod_nonneg 5 (show 0 ≤ -z by omega)
      rw [Int.neg_tmod] at h2 h3
      omega
  rw [IntWalk.wrap64_in _ (by omega), Int.tmod_eq_emod_of_nonneg (by omega)]
  exact ⟨((z.tmod 5 + 5) % 5).toNat, by omega, by omega⟩
theorem own_formY {w : World} {base n : Nat} {v : Value} {xs : List Value} {T : TypeId} {c : Nat} (h : w.ownsRow base T c v n xs) : ∃ a cap, v = .slice a n cap := by
  rcases h.2 with ⟨rfl, rfl⟩ | ⟨g, cap, cur, rfl, _⟩
  · exact ⟨none, 0, rfl⟩
  · exact ⟨_, cap, rfl⟩
end Go.Proofs.YtmebkeidpklcbaaDoor
