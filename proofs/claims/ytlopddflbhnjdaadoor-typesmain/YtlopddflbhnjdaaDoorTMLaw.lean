/-
  TypesMain: the walk.
-/
import Derived.Test.YtlopddflbhnjdaaDoorTMade
import Derived.Test.YtlopddflbhnjdaaDoorTBegun
import Derived.Test.YtlopddflbhnjdaaDoorTFany
import Derived.Test.YtlopddflbhnjdaaDoorTSays
import Derived.Deep.RegionLaw
import Derived.Deep.AppendLies
namespace Go.Proofs.YtlopddflbhnjdaaDoor
open Go.RowKit

theorem info_ty : Tryd.prog.info? 39 = some Tryd.t39 := by kernel_rfl
theorem under_tys : Tryd.prog.underlying 26 = some (.slice 39) := by kernel_rfl
theorem zero_ty : Tryd.t39.zero = some (.agg #[.int .i64 0, .int .i64 0]) := by kernel_rfl
theorem size_ty : Tryd.t39.size = 2 := by kernel_rfl
theorem bytes_ty : Tryd.t39.bytes = 16 := by kernel_rfl
theorem info_sg : Tryd.prog.info? 41 = some Tryd.t41 := by kernel_rfl
theorem under_sgs : Tryd.prog.underlying 31 = some (.slice 41) := by kernel_rfl
theorem zero_sg : Tryd.t41.zero = some (.agg #[.slice none 0 0, .int .i64 0, .int .i64 0]) := by kernel_rfl
theorem size_sg : Tryd.t41.size = 3 := by kernel_rfl
theorem bytes_sg : Tryd.t41.bytes = 40 := by kernel_rfl
theorem info_fn : Tryd.prog.info? 29 = some Tryd.t29 := by kernel_rfl
theorem under_fns : Tryd.prog.underlying 34 = some (.slice 29) := by kernel_rfl
theorem zero_fn : Tryd.t29.zero = some (.agg #[.int .i64 0, .slice none 0 0, .slice none 0 0]) := by kernel_rfl
theorem size_fn : Tryd.t29.size = 3 := by kernel_rfl
theorem bytes_fn : Tryd.t29.bytes = 56 := by kernel_rfl
theorem ownsRow_drew {w : World} {base : Nat} {e : TypeId} {size : Nat} {v : Value} {n : Nat} {xs : List Value} (h : w.ownsRow base e size v n xs) : w.drew.ownsRow base e size v n xs := h
theorem own_lit {w : World} {g base : Nat} {cs : Array Value} {e : TypeId} {size n : Nat} (h : w.heap[g]? = some (.cells cs e (0, 0))) (hb : base ≤ g) (hs : cs.size = n * size) (hm : n ≤ maxLen) : w.ownsRow base e size (.slice (some ⟨g, 0, none⟩) n n) n cs.toList :=
  ⟨by rw [Array.length_toList, hs], .inr ⟨g, n, cs, rfl, hb, h, Nat.le_refl _, hm, hs, by rw [← hs, ← Array.length_toList, List.take_length]⟩⟩
theorem own_cell {w : World} {g base : Nat} {xs : List Value} {e : TypeId} {size n cap : Nat} (h : w.ownsRow base e size (.slice (some ⟨g, 0, none⟩) n cap) n xs) {i : Nat} (hi : i < n * size) : w.cell? ⟨g, i, none⟩ = xs[i]? := by
  rcases h.2 with ⟨hv, _⟩ | ⟨g', cap', cur, hv, _, hg, _, _, _, ht⟩
  · cases hv
  · cases hv
    rw [cell_of_row w g i cur _ _ hg, ← ht, List.getElem?_take, if_pos hi]
    simp
theorem own_cap {w : World} {g base : Nat} {xs : List Value} {e : TypeId} {size n cap : Nat} (h : w.ownsRow base e size (.slice (some ⟨g, 0, none⟩) n cap) n xs) : n ≤ cap := by
  rcases h.2 with ⟨hv, _⟩ | ⟨g', cap', cur, hv, _, _, hl, _⟩
  · cases hv
  · cases hv
    exact hl
theorem slc_two {α : Type} {w : World} {c : Nat} {R : World → Nat → Nat → α → Prop} {b o g cp : Nat} {x y : α} (hc : w.cell? ⟨b, o, none⟩ = some (.slice (some ⟨g, 0, none⟩) 2 cp)) (h0 : R w g 0 x) (h1 : R w g (1 * c) y) (hcp : 2 ≤ cp) : SlC c R w b o [x, y] :=
  ⟨_, cp, hc, .inr ⟨g, 0, rfl, fun j z hz => by
    match j, hz with
    | 0, hz => simp at hz; subst hz; simpa using h0
    | 1, hz => simp at hz; subst hz; rw [Nat.zero_add]; exact h1
    | j + 2, hz => simp at hz⟩, hcp, by unfold maxLen; simp⟩
theorem grown_heap {w w' : World} {r : Option Nat} {b : Nat} {cs : Array Value} {T : TypeId} (hg : w.grownBy w' r) (h : w.heap[b]? = some (.cells cs T (0, 0))) (hn : r ≠ some b) : w'.heap[b]? = some (.cells cs T (0, 0)) := by
  rw [hg.block b (heap_lt h) (fun e => hn e.symm)]
  exact h
theorem put_heap {w : World} {a : Addr} {v : Value} {b : Nat} {cs : Array Value} {T : TypeId} (h : w.heap[b]? = some (.cells cs T (0, 0))) (hn : b ≠ a.block) : (w.setCell a v).heap[b]? = some (.cells cs T (0, 0)) := (heap_setCell_other _ _ _ _ hn).trans h
theorem oneC (u : Value) (l : List Value) (hl : l.all (fun u => u.oneCell') = true) (hu : u ∈ l) : u.oneCell' = true := List.all_eq_true.1 hl u hu
theorem row_ne {w : World} {base n : Nat} {v : Value} {xs : List Value} {T : TypeId} {c b : Nat} {cs : Array Value} {U : TypeId} (h : w.ownsRow base T c v n xs) (hb : w.heap[b]? = some (.cells cs U (0, 0))) (hne : T ≠ U) : v.ownBlock ≠ some b := by
  intro e
  rcases h.2 with ⟨rfl, _⟩ | ⟨g, cap, cur, rfl, _, hg, _⟩
  · simp [Value.ownBlock] at e
  · simp [Value.ownBlock] at e
    subst e
    rw [hg] at hb
    simp at hb
    exact hne hb.2
/-- Types of 0, as they lie. -/
def zs (k : Nat) : List Value := List.replicate (k * 2) (.int .i64 0)
theorem zs_succ (k : Nat) : zs (k + 1) = zs k ++ [.int .i64 0, .int .i64 0] := by
  unfold zs
  rw [show (k + 1) * 2 = k * 2 + 1 + 1 by omega, List.replicate_succ', List.replicate_succ', List.append_assoc]
  rfl
theorem zs_get {k i : Nat} (h : i < k * 2) : (zs k)[i]? = some (.int .i64 0) := by unfold zs; rw [List.getElem?_replicate, if_pos h]
theorem zs_len (k : Nat) : (zs k).length = k * 2 := by unfold zs; rw [List.length_replicate]
/-- While parameters and registers grow. -/
structure MM (w5 w : World) (sb fb bb : Nat) (kd : Int) (sa fa : Option Addr) (ks kf sp fp : Nat) (xf : List Value) : Prop where
  sbox : w.heap[sb]? = some (.cells #[.slice sa ks sp, .int .i64 kd, .int .i64 0] 41 (0, 0))
  fbox : w.heap[fb]? = some (.cells #[.int .i64 1, .slice fa kf fp, .slice (some ⟨bb, 0, none⟩) 1 1] 29 (0, 0))
  os : w.ownsRow w5.heap.size 39 2 (.slice sa ks sp) ks (zs ks)
  of : w.ownsRow w5.heap.size 39 2 (.slice fa kf fp) kf xf
  dist : ∀ g, (Value.slice sa ks sp).ownBlock = some g → (Value.slice fa kf fp).ownBlock ≠ some g
  keep : Keeps [sb, fb] w5 w
theorem own_lt {w : World} {base n : Nat} {v : Value} {xs : List Value} {T : TypeId} {c g : Nat} (h : w.ownsRow base T c v n xs) (hg : v.ownBlock = some g) : base ≤ g ∧ g < w.heap.size := by
  rcases h.2 with ⟨rfl, _⟩ | ⟨g', cap, cur, rfl, hb, hh, _⟩
  · simp [Value.ownBlock] at hg
  · simp [Value.ownBlock] at hg
    subst hg
    exact ⟨hb, heap_lt hh⟩
theorem MM.growS {w5 w wa w6 : World} {sb fb bb : Nat} {kd : Int} {sa fa : Option Addr} {ks kf sp fp g cap : Nat} {xf : List Value} (h : MM w5 w sb fb bb kd sa fa ks kf sp fp xf) (ka : Keeps [] w wa) (hown : w6.ownsRow w5.heap.size 39 2 (.slice (some ⟨g, 0, none⟩) (ks + 1) cap) (ks + 1) (zs ks ++ [.int .i64 0, .int .i64 0])) (hg : wa.grownBy w6 (Value.slice sa ks sp).ownBlock) (hat : (Value.slice sa ks sp).ownBlock = some g ∨ g = wa.heap.size) : w6.heap[sb]? = some (.cells #[.slice sa ks sp, .int .i64 kd, .int .i64 0] 41 (0, 0)) ∧ MM w5 (w6.setCell ⟨sb, 0, none⟩ (.slice (some ⟨g, 0, none⟩) (ks + 1) cap)) sb fb bb kd (some ⟨g, 0, none⟩) fa (ks + 1) kf cap fp xf := by
  have osa := ownsRow_keeps h.os ka (fun _ _ => by simp)
  have ofa := ownsRow_keeps h.of ka (fun _ _ => by simp)
  have s6 := grown_heap hg (keep_heap h.sbox ka) (row_ne osa (keep_heap h.sbox ka) (by decide))
  have f6 := grown_heap hg (keep_heap h.fbox ka) (row_ne osa (keep_heap h.fbox ka) (by decide))
  have k1 : Keeps [sb] w6 (w6.setCell ⟨sb, 0, none⟩ (.slice (some ⟨g, 0, none⟩) (ks + 1) cap)) := Keeps.setCell _ _ _ _ (List.mem_singleton.2 rfl)
  have hne : sb ≠ fb := fun e => by
    have := h.sbox
    rw [e, h.fbox] at this
    simp at this
  have kg : Keeps (Option.toList (Value.slice sa ks sp).ownBlock) wa w6 := Keeps.grown _ hg (fun k hk => by rw [hk]; simp)
  have of6 : w6.ownsRow w5.heap.size 39 2 (.slice fa kf fp) kf xf := ownsRow_keeps ofa kg (fun b hb hx => by
    cases hs : (Value.slice sa ks sp).ownBlock with
    | none => rw [hs] at hx; cases hx
    | some c =>
      rw [hs] at hx
      simp at hx
      subst hx
      exact h.dist _ hs hb)
  refine ⟨s6, heap_setCell_same _ _ 0 _ _ _ s6, put_heap f6 (Ne.symm hne), ?_, ?_, ?_, ?_⟩
  · rw [zs_succ]
    exact ownsRow_keeps hown k1 (fun b hb hx => row_ne hown s6 (by decide) (by rw [hb]; simp at hx; rw [hx]))
  · exact ownsRow_keeps of6 k1 (fun b hb hx => row_ne of6 s6 (by decide) (by rw [hb]; simp at hx; rw [hx]))
  · intro g' hg' hf'
    simp [Value.ownBlock] at hg'
    subst hg'
    rcases hat with ha | ha
    · exact h.dist _ ha hf'
    · have := (own_lt ofa hf').2
      omega
  · refine ((h.keep.quiet ka).trans kg (fun x hx hl => ?_)).step (k1.mono (fun x hx => by simp at hx; simp [hx]))
    cases hs : (Value.slice sa ks sp).ownBlock with
    | none => rw [hs] at hx; cases hx
    | some c =>
      rw [hs] at hx
      simp at hx
      subst hx
      have := (own_lt h.os hs).1
      omega
theorem MM.growF {w5 w wa w6 : World} {sb fb bb : Nat} {kd : Int} {sa fa : Option Addr} {ks kf sp fp g cap : Nat} {xf : List Value} {u v : Value} (h : MM w5 w sb fb bb kd sa fa ks kf sp fp xf) (ka : Keeps [] w wa) (hown : w6.ownsRow w5.heap.size 39 2 (.slice (some ⟨g, 0, none⟩) (kf + 1) cap) (kf + 1) (xf ++ [u, v])) (hg : wa.grownBy w6 (Value.slice fa kf fp).ownBlock) (hat : (Value.slice fa kf fp).ownBlock = some g ∨ g = wa.heap.size) : w6.heap[fb]? = some (.cells #[.int .i64 1, .slice fa kf fp, .slice (some ⟨bb, 0, none⟩) 1 1] 29 (0, 0)) ∧ MM w5 (w6.setCell ⟨fb, 1, none⟩ (.slice (some ⟨g, 0, none⟩) (kf + 1) cap)) sb fb bb kd sa (some ⟨g, 0, none⟩) ks (kf + 1) sp cap (xf ++ [u, v]) := by
  have osa := ownsRow_keeps h.os ka (fun _ _ => by simp)
  have ofa := ownsRow_keeps h.of ka (fun _ _ => by simp)
  have s6 := grown_heap hg (keep_heap h.sbox ka) (row_ne ofa (keep_heap h.sbox ka) (by decide))
  have f6 := grown_heap hg (keep_heap h.fbox ka) (row_ne ofa (keep_heap h.fbox ka) (by decide))
  have k1 : Keeps [fb] w6 (w6.setCell ⟨fb, 1, none⟩ (.slice (some ⟨g, 0, none⟩) (kf + 1) cap)) := Keeps.setCell _ _ _ _ (List.mem_singleton.2 rfl)
  have hne : sb ≠ fb := fun e => by
    have := h.sbox
    rw [e, h.fbox] at this
    simp at this
  have kg : Keeps (Option.toList (Value.slice fa kf fp).ownBlock) wa w6 := Keeps.grown _ hg (fun k hk => by rw [hk]; simp)
  have os6 : w6.ownsRow w5.heap.size 39 2 (.slice sa ks sp) ks (zs ks) := ownsRow_keeps osa kg (fun b hb hx => by
    cases hs : (Value.slice fa kf fp).ownBlock with
    | none => rw [hs] at hx; cases hx
    | some c =>
      rw [hs] at hx
      simp at hx
      subst hx
      exact h.dist _ hb hs)
  refine ⟨f6, put_heap s6 hne, heap_setCell_same _ _ 1 _ _ _ f6, ?_, ?_, ?_, ?_⟩
  · exact ownsRow_keeps os6 k1 (fun b hb hx => row_ne os6 f6 (by decide) (by rw [hb]; simp at hx; rw [hx]))
  · exact ownsRow_keeps hown k1 (fun b hb hx => row_ne hown f6 (by decide) (by rw [hb]; simp at hx; rw [hx]))
  · intro g' hg' hf'
    simp [Value.ownBlock] at hf'
    subst hf'
    rcases hat with ha | ha
    · exact h.dist _ hg' ha
    · have := (own_lt osa hg').2
      omega
  · refine ((h.keep.quiet ka).trans kg (fun x hx hl => ?_)).step (k1.mono (fun x hx => by simp at hx; simp [hx]))
    cases hs : (Value.slice fa kf fp).ownBlock with
    | none => rw [hs] at hx; cases hx
    | some c =>
      rw [hs] at hx
      simp at hx
      subst hx
      have := (own_lt h.of hs).1
      omega
/-- The law's program. -/
def pmain (k : Nat) (kd : Int) : Pr8 := ⟨[[]], [([], 0, 0), (List.replicate k (0, 0), kd, 0)], [[]], [], [⟨0, [(0, 0)], [⟨[⟨1, 0, 0, 0, 7, []⟩], 3, 0, 0, 0⟩]⟩, ⟨1, List.replicate k (0, 0) ++ [(kd, 0)], [⟨[], 3, (k : Int), 0, 0⟩]⟩], 1⟩
def gany (P : Pr8) (f : Fu8) (x : In8) : Bool := insOk P f x && (rtB P f x && fitB P f x)
theorem pmain_chk (k kd : Nat) (hk : k ≤ 4) (hd : kd ≤ 3) : chkO (pmain k (kd : Int)) (gany (pmain k (kd : Int))) = if k = 0 ∧ kd = 0 then none else some (-1, 0, 0) := (by decide +kernel : ∀ k, k < 5 → ∀ kd, kd < 4 → chkO (pmain k ((kd : Nat) : Int)) (gany (pmain k ((kd : Nat) : Int))) = if k = 0 ∧ kd = 0 then none else some (-1, 0, 0)) k (by omega) kd (by omega)
theorem pmain_fn (k kd : Nat) (hk : k ≤ 4) (hd : kd ≤ 3) : lenB (pmain k (kd : Int)).funcs 12 fnB = true := (by decide +kernel : ∀ k, k < 5 → ∀ kd, kd < 4 → lenB (pmain k ((kd : Nat) : Int)).funcs 12 fnB = true) k (by omega) kd (by omega)
theorem few_of {P : Pr8} (h : lenB P.funcs 12 fnB = true) : FewA P := by
  intro f b i hf hb hi
  have h1 : fnB (fun8 P f) = true := lenB_all h (getD_get hf)
  unfold fnB at h1
  simp only [Bool.and_eq_true] at h1
  have h2 : blkB (blk8 (fun8 P f) b) = true := lenB_all h1.2.2 (getD_get hb)
  have h3 : argB (ins8 (blk8 (fun8 P f) b) i) = true := lenB_all h2 (getD_get hi)
  unfold argB at h3
  have := of_decide_eq_true h3
  omega
/-- What the program's rows hang on. -/
structure MF (w : World) (q n0 n1 bb base : Nat) (m kd : Nat) (sa fa : Option Addr) (sp fp : Nat) : Prop where
  r0 : w.heap[n0]? = some (.cells #[.slice none 0 0] 26 (0, 0))
  i0 : w.heap[n1]? = some (.cells #[.slice none 0 0] 61 (0, 0))
  o1 : w.heap[q + 1]? = some (.cells #[.int .i64 0, .int .i64 0] 39 (0, 0))
  o2 : w.heap[q + 2]? = some (.cells #[.int .i64 1, .int .i64 0, .int .i64 0, .int .i64 0, .int .i64 7, .slice none 0 0] 54 (0, 0))
  o3 : w.heap[q + 3]? = some (.cells #[.slice (some ⟨q + 2, 0, none⟩) 1 1, .int .i64 3, .int .i64 0, .int .i64 0, .int .i64 0] 44 (0, 0))
  bl : w.heap[bb]? = some (.cells #[.slice none 0 0, .int .i64 3, .int .i64 (m : Int), .int .i64 0, .int .i64 0] 44 (0, 0))
  os : w.ownsRow base 39 2 (.slice sa m sp) m (zs m)
  of : w.ownsRow base 39 2 (.slice fa (m + 1) fp) (m + 1) (zs m ++ [.int .i64 (kd : Int), .int .i64 0])
theorem MF.keeps {w w' : World} {q n0 n1 bb base m kd : Nat} {sa fa : Option Addr} {sp fp : Nat} {L : List Nat} (h : MF w q n0 n1 bb base m kd sa fa sp fp) (k : Keeps L w w') (hL : ∀ x, x ∈ L → ∃ cs T, w.heap[x]? = some (.cells cs T (0, 0)) ∧ T ≠ 26 ∧ T ≠ 61 ∧ 39 ≠ T ∧ T ≠ 54 ∧ T ≠ 44) : MF w' q n0 n1 bb base m kd sa fa sp fp := by
  have hk : ∀ (b : Nat) (ds : Array Value) (U : TypeId), w.heap[b]? = some (.cells ds U (0, 0)) → (∀ T, (T ≠ 26 ∧ T ≠ 61 ∧ 39 ≠ T ∧ T ≠ 54 ∧ T ≠ 44) → T ≠ U) → w'.heap[b]? = some (.cells ds U (0, 0)) := fun b ds U hb hU => by
    refine (k.block b (heap_lt hb) (fun hx => ?_)).trans hb
    obtain ⟨cs, T, h1, h2⟩ := hL b hx
    rw [hb] at h1
    simp at h1
    exact hU T h2 h1.2.symm
  have ho : ∀ (v : Value) (n : Nat) (xs : List Value), w.ownsRow base 39 2 v n xs → w'.ownsRow base 39 2 v n xs := fun v n xs hv => ownsRow_keeps hv k (fun b hb hx => by
    obtain ⟨cs, T, h1, h2⟩ := hL b hx
    exact row_ne hv h1 h2.2.2.1 hb)
  exact ⟨hk _ _ _ h.r0 (fun T hT => hT.1), hk _ _ _ h.i0 (fun T hT => hT.2.1), hk _ _ _ h.o1 (fun T hT e => hT.2.2.1 e.symm), hk _ _ _ h.o2 (fun T hT => hT.2.2.2.1), hk _ _ _ h.o3 (fun T hT => hT.2.2.2.2), hk _ _ _ h.bl (fun T hT => hT.2.2.2.2), ho _ _ _ h.os, ho _ _ _ h.of⟩
theorem MF.keep1 {w w' : World} {q n0 n1 bb base m kd x : Nat} {sa fa : Option Addr} {sp fp : Nat} {cs : Array Value} {T : TypeId} (h : MF w q n0 n1 bb base m kd sa fa sp fp) (k : Keeps [x] w w') (hx : w.heap[x]? = some (.cells cs T (0, 0))) (hT : T ≠ 26 ∧ T ≠ 61 ∧ 39 ≠ T ∧ T ≠ 54 ∧ T ≠ 44) : MF w' q n0 n1 bb base m kd sa fa sp fp := h.keeps k (fun y hy => by
  obtain rfl : y = x := List.mem_singleton.1 hy
  exact ⟨cs, T, hx, hT⟩)
theorem MF.quiet {w w' : World} {q n0 n1 bb base m kd : Nat} {sa fa : Option Addr} {sp fp : Nat} (h : MF w q n0 n1 bb base m kd sa fa sp fp) (k : Keeps [] w w') : MF w' q n0 n1 bb base m kd sa fa sp fp := h.keeps k (fun x hx => by cases hx)
theorem own_slc {w : World} {b o base n cp : Nat} {a : Option Addr} {xs : List Value} {l : List (Int × Int)} (hc : w.cell? ⟨b, o, none⟩ = some (.slice a n cp)) (h : w.ownsRow base 39 2 (.slice a n cp) n xs) (hl : l.length = n) (hn : n ≤ 100) (hx : ∀ (j : Nat) (y : Int × Int), l[j]? = some y → xs[j * 2]? = some (.int .i64 y.1) ∧ xs[j * 2 + 1]? = some (.int .i64 y.2) ∧ (-100 ≤ y.1 ∧ y.1 ≤ 100) ∧ (-100 ≤ y.2 ∧ y.2 ≤ 100)) : SlC 2 TyC w b o l := by
  rcases h.2 with ⟨hv, h0⟩ | ⟨g, cap, cur, hv, _, hg, hle, _, _, ht⟩
  · subst h0
    cases hv
    obtain rfl : l = [] := List.length_eq_zero_iff.1 hl
    exact SlC.none hc
  · cases hv
    refine ⟨_, cp, by rw [hl]; exact hc, .inr ⟨g, 0, rfl, fun j y hy => ?_⟩, by omega, by unfold maxLen; omega⟩
    obtain ⟨h1, h2, h3, h4⟩ := hx j y hy
    have hj : j < n := by rw [← hl]; exact (List.getElem?_eq_some_iff.1 hy).1
    have key : ∀ i, i < n * 2 → w.cell? ⟨g, i, none⟩ = xs[i]? := fun i hi => by
      rw [cell_of_row w g i cur _ _ hg, ← ht, List.getElem?_take, if_pos hi]
      simp
    rw [Nat.zero_add]
    exact ⟨IntC.of ((key _ (by omega)).trans h1) h3, IntC.of ((key _ (by omega)).trans h2) h4⟩
set_option maxRecDepth 20000 in
set_option maxHeartbeats 20000000 in
theorem tm_in (m kd : Nat) (w : World) (hg : Glob w) (hm : m ≤ 4) (hd : kd ≤ 3) : Calls Tryd.prog 8 #[.int .i64 (m : Int), .int .i64 (kd : Int)] w fun e w' => e = .returned (.bool true) ∧ Keeps [] w w' := by
  have HG := hid hg
  have HB := hid (begun_any w hg)
  have HO := hid fun (w' : World) => one_any w'
  have h1 : ¬ (m : Int) < 0 := by omega
  have h2 : ¬ (4 : Int) < (m : Int) := by omega
  have h3 : ¬ (kd : Int) < 0 := by omega
  have h4 : ¬ (3 : Int) < (kd : Int) := by omega
  have HCK := hid (pmain_chk m kd hm hd)
  have hm9 : (m : Int) ≤ 9223372036854775807 := by omega
  clear hg
  go_enter Tryd.func8, Tryd.ntmps8
  go_wp2_with fail
  refine HB.out.mono ?_
  rintro e w1 ⟨rfl, k1⟩
  have K1 := hid k1
  clear HB k1
  go_wp2_with fail
  refine (HO.out _).mono ?_
  rintro e w2 ⟨rfl, o2, k2⟩
  obtain ⟨q, hq⟩ : ∃ q, q = w1.heap.size := ⟨_, rfl⟩
  rw [← hq] at o2 ⊢
  have hqw : Box (w.heap.size ≤ q) := hid (by have := K1.out.size; omega)
  have O2 := hid o2
  have K2 := hid (K1.out.quiet k2)
  have hq2 : Box (q + 5 < w2.heap.size) := hid (heap_lt o2.h5)
  have j3 := keep_heap o2.h5 (Keeps.alloc [] w2 (.cells #[.slice none 0 0] 26))
  have p0 := hcell j3 0
  have z0 := hfrozen j3 0
  have J3 := hid j3
  have B3 : Box (((w2.alloc (.cells #[.slice none 0 0] 26))).heap[w2.heap.size]? = some (.cells #[.slice none 0 0] 26 (0, 0)) ∧ Keeps [] w2 (w2.alloc (.cells #[.slice none 0 0] 26)) ∧ ((w2.alloc (.cells #[.slice none 0 0] 26))).heap.size = w2.heap.size + 1) := hid ⟨heap_new w2 _, Keeps.alloc [] _ _, by simp⟩
  clear o2 k2 hq j3
  go_upto_region 8 with fail
  clear p0 z0
  generalize (w2.alloc (.cells #[.slice none 0 0] 26)) = W7 at *
  have E3 : Box ((W7.setCell ⟨q + 5, 0, none⟩ (.slice (some ⟨w2.heap.size, 0, none⟩) 1 1)).heap[q + 5]? = some (.cells #[.slice (some ⟨w2.heap.size, 0, none⟩) 1 1, .slice (some ⟨q, 0, none⟩) 1 1, .slice none 0 0, .slice none 0 0, .slice (some ⟨q + 4, 0, none⟩) 1 1, .int .i64 0] 36 (0, 0)) ∧ Keeps [q + 5] W7 (W7.setCell ⟨q + 5, 0, none⟩ (.slice (some ⟨w2.heap.size, 0, none⟩) 1 1)) ∧ (W7.setCell ⟨q + 5, 0, none⟩ (.slice (some ⟨w2.heap.size, 0, none⟩) 1 1)).heap.size = W7.heap.size) := hid ⟨heap_setCell_same _ _ 0 _ _ _ J3.out, Keeps.setCell _ _ _ _ (List.mem_singleton.2 rfl), by simp [World.setCell]⟩
  generalize W7.setCell ⟨q + 5, 0, none⟩ (.slice (some ⟨w2.heap.size, 0, none⟩) 1 1) = w3 at *
  have k3 : Keeps [q + 5] w2 w3 := (B3.out.2.1.mono (fun x hx => by cases hx)).step E3.out.2.1
  have r3 : w3.heap[w2.heap.size]? = some (.cells #[.slice none 0 0] 26 (0, 0)) := (E3.out.2.1.block _ (heap_lt B3.out.1) (by simp; have := hq2.out; omega)).trans B3.out.1
  have s3 : w3.heap.size = w2.heap.size + 1 := by rw [E3.out.2.2, B3.out.2.2]
  have KK3 := hid k3
  have R3 := hid r3
  have hp3 := E3.out.1
  obtain ⟨n0, hn0⟩ : ∃ n0, n0 = w2.heap.size := ⟨_, rfl⟩
  rw [← hn0] at s3 R3 hp3 hq2
  have HN0 := hid hn0
  have S3 := hid s3
  clear k3 r3 s3 E3 B3 J3 hn0
  have j4 := keep_heap hp3 (Keeps.alloc [] w3 (.cells #[.slice none 0 0] 61))
  have p2 := hcell j4 2
  have z2 := hfrozen j4 2
  have J4 := hid j4
  have B4 : Box (((w3.alloc (.cells #[.slice none 0 0] 61))).heap[w3.heap.size]? = some (.cells #[.slice none 0 0] 61 (0, 0)) ∧ Keeps [] w3 (w3.alloc (.cells #[.slice none 0 0] 61)) ∧ ((w3.alloc (.cells #[.slice none 0 0] 61))).heap.size = w3.heap.size + 1) := hid ⟨heap_new w3 _, Keeps.alloc [] _ _, by simp⟩
  clear j4 hp3
  go_upto_region 9 with fail
  clear p2 z2
  generalize (w3.alloc (.cells #[.slice none 0 0] 61)) = W8 at *
  generalize hn1 : w3.heap.size = n1 at *
  have E4 : Box ((W8.setCell ⟨q + 5, 2, none⟩ (.slice (some ⟨n1, 0, none⟩) 1 1)).heap[q + 5]? = some (.cells #[.slice (some ⟨n0, 0, none⟩) 1 1, .slice (some ⟨q, 0, none⟩) 1 1, .slice (some ⟨n1, 0, none⟩) 1 1, .slice none 0 0, .slice (some ⟨q + 4, 0, none⟩) 1 1, .int .i64 0] 36 (0, 0)) ∧ Keeps [q + 5] W8 (W8.setCell ⟨q + 5, 2, none⟩ (.slice (some ⟨n1, 0, none⟩) 1 1)) ∧ (W8.setCell ⟨q + 5, 2, none⟩ (.slice (some ⟨n1, 0, none⟩) 1 1)).heap.size = W8.heap.size) := hid ⟨heap_setCell_same _ _ 2 _ _ _ J4.out, Keeps.setCell _ _ _ _ (List.mem_singleton.2 rfl), by simp [World.setCell]⟩
  generalize W8.setCell ⟨q + 5, 2, none⟩ (.slice (some ⟨n1, 0, none⟩) 1 1) = w4 at *
  have hq2' := hq2.out
  have s3' := S3.out
  have k4 : Keeps [q + 5] w3 w4 := (B4.out.2.1.mono (fun x hx => by cases hx)).step E4.out.2.1
  have i4 : w4.heap[n1]? = some (.cells #[.slice none 0 0] 61 (0, 0)) := (E4.out.2.1.block _ (heap_lt B4.out.1) (by simp; omega)).trans B4.out.1
  have r4 : w4.heap[n0]? = some (.cells #[.slice none 0 0] 26 (0, 0)) := (k4.block _ (heap_lt R3.out) (by simp; omega)).trans R3.out
  have s4 : w4.heap.size = n0 + 2 := by rw [E4.out.2.2, B4.out.2.2, s3']
  have KK4 := hid (KK3.out.step k4)
  have F4 := hid (show w4.heap[n0]? = some (.cells #[.slice none 0 0] 26 (0, 0)) ∧ w4.heap[n1]? = some (.cells #[.slice none 0 0] 61 (0, 0)) from ⟨r4, i4⟩)
  have hn0' := HN0.out
  have O4 : Box (w4.heap[q]? = some (.cells #[.slice none 0 0, .int .i64 0, .int .i64 0] 41 (0, 0)) ∧ w4.heap[q + 1]? = some (.cells #[.int .i64 0, .int .i64 0] 39 (0, 0)) ∧ w4.heap[q + 2]? = some (.cells #[.int .i64 1, .int .i64 0, .int .i64 0, .int .i64 0, .int .i64 7, .slice none 0 0] 54 (0, 0)) ∧ w4.heap[q + 3]? = some (.cells #[.slice (some ⟨q + 2, 0, none⟩) 1 1, .int .i64 3, .int .i64 0, .int .i64 0, .int .i64 0] 44 (0, 0)) ∧ w4.heap[q + 4]? = some (.cells #[.int .i64 0, .slice (some ⟨q + 1, 0, none⟩) 1 1, .slice (some ⟨q + 3, 0, none⟩) 1 1] 29 (0, 0))) := hid
    ⟨(KK4.out.block _ (by omega) (by simp)).trans O2.out.h0, (KK4.out.block _ (by omega) (by simp)).trans O2.out.h1, (KK4.out.block _ (by omega) (by simp)).trans O2.out.h2, (KK4.out.block _ (by omega) (by simp)).trans O2.out.h3, (KK4.out.block _ (by omega) (by simp)).trans O2.out.h4⟩
  have K4 : Box (Keeps [] w w4) := hid (K2.out.trans KK4.out (fun x hx hl => by simp at hx; have := hqw.out; omega))
  have HP4 := hid E4.out.1
  have S4 := hid s4
  clear k4 i4 r4 s4 E4 B4 J4 R3 S3 KK3 O2 KK4 K2 hn0' s3' hn1
  have ka11 : Keeps [] w4 ((((w4.alloc (.cells #[.int .i64 (kd : Int), .int .i64 0] 39)).alloc (.cells #[.slice none 0 0, .int .i64 (kd : Int), .int .i64 0] 41)).alloc (.cells #[.slice none 0 0, .int .i64 3, .int .i64 (m : Int), .int .i64 0, .int .i64 0] 44)).alloc (.cells #[.int .i64 1, .slice none 0 0, .slice (some ⟨w4.heap.size + 1 + 1, 0, none⟩) 1 1] 29)) := (((Keeps.alloc [] _ _).quiet (Keeps.alloc [] _ _)).quiet (Keeps.alloc [] _ _)).quiet (Keeps.alloc [] _ _)
  have B11 : Box ((((((w4.alloc (.cells #[.int .i64 (kd : Int), .int .i64 0] 39)).alloc (.cells #[.slice none 0 0, .int .i64 (kd : Int), .int .i64 0] 41)).alloc (.cells #[.slice none 0 0, .int .i64 3, .int .i64 (m : Int), .int .i64 0, .int .i64 0] 44)).alloc (.cells #[.int .i64 1, .slice none 0 0, .slice (some ⟨w4.heap.size + 1 + 1, 0, none⟩) 1 1] 29))).heap[w4.heap.size]? = some (.cells #[.int .i64 (kd : Int), .int .i64 0] 39 (0, 0)) ∧ (((((w4.alloc (.cells #[.int .i64 (kd : Int), .int .i64 0] 39)).alloc (.cells #[.slice none 0 0, .int .i64 (kd : Int), .int .i64 0] 41)).alloc (.cells #[.slice none 0 0, .int .i64 3, .int .i64 (m : Int), .int .i64 0, .int .i64 0] 44)).alloc (.cells #[.int .i64 1, .slice none 0 0, .slice (some ⟨w4.heap.size + 1 + 1, 0, none⟩) 1 1] 29))).heap[w4.heap.size + 1]? = some (.cells #[.slice none 0 0, .int .i64 (kd : Int), .int .i64 0] 41 (0, 0)) ∧ (((((w4.alloc (.cells #[.int .i64 (kd : Int), .int .i64 0] 39)).alloc (.cells #[.slice none 0 0, .int .i64 (kd : Int), .int .i64 0] 41)).alloc (.cells #[.slice none 0 0, .int .i64 3, .int .i64 (m : Int), .int .i64 0, .int .i64 0] 44)).alloc (.cells #[.int .i64 1, .slice none 0 0, .slice (some ⟨w4.heap.size + 1 + 1, 0, none⟩) 1 1] 29))).heap[w4.heap.size + 1 + 1]? = some (.cells #[.slice none 0 0, .int .i64 3, .int .i64 (m : Int), .int .i64 0, .int .i64 0] 44 (0, 0)) ∧ (((((w4.alloc (.cells #[.int .i64 (kd : Int), .int .i64 0] 39)).alloc (.cells #[.slice none 0 0, .int .i64 (kd : Int), .int .i64 0] 41)).alloc (.cells #[.slice none 0 0, .int .i64 3, .int .i64 (m : Int), .int .i64 0, .int .i64 0] 44)).alloc (.cells #[.int .i64 1, .slice none 0 0, .slice (some ⟨w4.heap.size + 1 + 1, 0, none⟩) 1 1] 29))).heap[w4.heap.size + 1 + 1 + 1]? = some (.cells #[.int .i64 1, .slice none 0 0, .slice (some ⟨w4.heap.size + 1 + 1, 0, none⟩) 1 1] 29 (0, 0)) ∧ Keeps [] w4 ((((w4.alloc (.cells #[.int .i64 (kd : Int), .int .i64 0] 39)).alloc (.cells #[.slice none 0 0, .int .i64 (kd : Int), .int .i64 0] 41)).alloc (.cells #[.slice none 0 0, .int .i64 3, .int .i64 (m : Int), .int .i64 0, .int .i64 0] 44)).alloc (.cells #[.int .i64 1, .slice none 0 0, .slice (some ⟨w4.heap.size + 1 + 1, 0, none⟩) 1 1] 29))) := hid
    ⟨keep_heap (heap_new w4 _) (((Keeps.alloc [] _ _).quiet (Keeps.alloc [] _ _)).quiet (Keeps.alloc [] _ _)), keep_heap (heap_at (by simp)) ((Keeps.alloc [] _ _).quiet (Keeps.alloc [] _ _)), keep_heap (heap_at (by simp)) (Keeps.alloc [] _ _), heap_at (by simp), ka11⟩
  clear ka11
  go_upto_region 12 with fail
  generalize ((((w4.alloc (.cells #[.int .i64 (kd : Int), .int .i64 0] 39)).alloc (.cells #[.slice none 0 0, .int .i64 (kd : Int), .int .i64 0] 41)).alloc (.cells #[.slice none 0 0, .int .i64 3, .int .i64 (m : Int), .int .i64 0, .int .i64 0] 44)).alloc (.cells #[.int .i64 1, .slice none 0 0, .slice (some ⟨w4.heap.size + 1 + 1, 0, none⟩) 1 1] 29)) = w5 at *
  have s4' := S4.out
  have hn0t := heap_lt F4.out.1
  have hn1t := heap_lt F4.out.2
  generalize w4.heap.size = tb at *
  have k45 := B11.out.2.2.2.2
  have HP5 := hid (keep_heap HP4.out k45)
  have F5 : Box (w5.heap[n0]? = some (.cells #[.slice none 0 0] 26 (0, 0)) ∧ w5.heap[n1]? = some (.cells #[.slice none 0 0] 61 (0, 0)) ∧ w5.heap[q]? = some (.cells #[.slice none 0 0, .int .i64 0, .int .i64 0] 41 (0, 0)) ∧ w5.heap[q + 1]? = some (.cells #[.int .i64 0, .int .i64 0] 39 (0, 0)) ∧ w5.heap[q + 2]? = some (.cells #[.int .i64 1, .int .i64 0, .int .i64 0, .int .i64 0, .int .i64 7, .slice none 0 0] 54 (0, 0)) ∧ w5.heap[q + 3]? = some (.cells #[.slice (some ⟨q + 2, 0, none⟩) 1 1, .int .i64 3, .int .i64 0, .int .i64 0, .int .i64 0] 44 (0, 0)) ∧ w5.heap[q + 4]? = some (.cells #[.int .i64 0, .slice (some ⟨q + 1, 0, none⟩) 1 1, .slice (some ⟨q + 3, 0, none⟩) 1 1] 29 (0, 0))) := hid
    ⟨keep_heap F4.out.1 k45, keep_heap F4.out.2 k45, keep_heap O4.out.1 k45, keep_heap O4.out.2.1 k45, keep_heap O4.out.2.2.1 k45, keep_heap O4.out.2.2.2.1 k45, keep_heap O4.out.2.2.2.2 k45⟩
  have K5 := hid (K4.out.quiet k45)
  have B5 : Box (w5.heap[tb]? = some (.cells #[.int .i64 (kd : Int), .int .i64 0] 39 (0, 0)) ∧ w5.heap[tb + 1 + 1]? = some (.cells #[.slice none 0 0, .int .i64 3, .int .i64 (m : Int), .int .i64 0, .int .i64 0] 44 (0, 0)) ∧ q + 5 < tb ∧ n0 < tb ∧ n1 < tb) := hid ⟨B11.out.1, B11.out.2.2.1, by omega, hn0t, hn1t⟩
  have M0 : Box (MM w5 w5 (tb + 1) (tb + 1 + 1 + 1) (tb + 1 + 1) (kd : Int) none none 0 0 0 0 (zs 0)) := hid ⟨B11.out.2.1, B11.out.2.2.2.1, World.ownsRow_nil _ _ _ _, World.ownsRow_nil _ _ _ _, (fun g hg => by simp [Value.ownBlock] at hg), Keeps.refl _ _⟩
  clear k45 B11 HP4 F4 O4 K4 S4 s4' hq2' hn0t hn1t
  go_wp2_with fail
  go_loopw [10] (fun iv wr => ∃ (k : Nat) (sa fa : Option Addr) (sp fp : Nat), k ≤ m ∧ iv = .int .i64 (k : Int) ∧ Box (MM w5 wr (tb + 1) (tb + 1 + 1 + 1) (tb + 1 + 1) (kd : Int) sa fa k k sp fp (zs k))) (fun iv _ => m - (intOf iv).toNat)
  case atStart => exact ⟨0, none, none, 0, 0, by omega, rfl, M0⟩
  case round =>
  obtain ⟨k, sa, fa, sp, fp, hk, rfl, HM⟩ := hrel
  clear M0
  have hsz := HM.out.keep.size
  by_cases hlt : k < m
  case pos =>
    have hlt' : (k : Int) < (m : Int) := by omega
    have i0 := hcell HM.out.sbox 0
    have i0' := hcell (keep_heap HM.out.sbox (Keeps.alloc [] wr (.cells #[.int .i64 0, .int .i64 0] 39))) 0
    go_upto_region 16 with (at_builtin; go_must (refine wpList_append_lies _ rfl _ _ _ rfl w5.heap.size 39 Tryd.t39 (.agg #[.int .i64 0, .int .i64 0]) 2 16 under_tys info_ty zero_ty size_ty bytes_ty rfl (by decide) (.slice sa k sp) k (zs k) rfl (HM.out.os.alloc _) ⟨wr.heap.size, 0, none⟩ 1 1 [.int .i64 0, .int .i64 0] rfl rfl (World.news_of_block (heap_new wr _)) (fun u hu => oneC u _ rfl hu) (by decide) (by unfold maxLen; omega) (by omega) (by simp; omega) (wr.heap.size + 1) (by simp) ?_; intro g6 cap6 w6a hown6 hgrow6 hat6 hlt6; have MG := HM.out.growS (Keeps.alloc [] wr (.cells #[.int .i64 0, .int .i64 0] 39)) hown6 hgrow6 (hat6.imp id (fun e => by simpa using e)); have y0 := hcell MG.1 0; have x0 := hfrozen MG.1 0; have HM6 := hid MG.2; clear MG hown6 hgrow6 hat6))
    clear y0 x0 i0 i0' HM hsz
    generalize w6a.setCell ⟨tb + 1, 0, none⟩ (.slice (some ⟨g6, 0, none⟩) (k + 1) cap6) = wr at *
    have hsz := HM6.out.keep.size
    have i1 := hcell HM6.out.fbox 1
    have i1' := hcell (keep_heap HM6.out.fbox (Keeps.alloc [] wr (.cells #[.int .i64 0, .int .i64 0] 39))) 1
    go_upto_region 14 with (at_builtin; go_must (refine wpList_append_lies _ rfl _ _ _ rfl w5.heap.size 39 Tryd.t39 (.agg #[.int .i64 0, .int .i64 0]) 2 16 under_tys info_ty zero_ty size_ty bytes_ty rfl (by decide) (.slice fa k fp) k (zs k) rfl (HM6.out.of.alloc _) ⟨wr.heap.size, 0, none⟩ 1 1 [.int .i64 0, .int .i64 0] rfl rfl (World.news_of_block (heap_new wr _)) (fun u hu => oneC u _ rfl hu) (by decide) (by unfold maxLen; omega) (by omega) (by simp; omega) (wr.heap.size + 1) (by simp) ?_; intro g7 cap7 w7a hown7 hgrow7 hat7 hlt7; have MG := HM6.out.growF (Keeps.alloc [] wr (.cells #[.int .i64 0, .int .i64 0] 39)) hown7 hgrow7 (hat7.imp id (fun e => by simpa using e)); have y1 := hcell MG.1 1; have x1 := hfrozen MG.1 1; have HM7 := hid MG.2; clear MG hown7 hgrow7 hat7))
    clear y1 x1 i1 i1' HM6 hsz
    generalize w7a.setCell ⟨tb + 1 + 1 + 1, 1, none⟩ (.slice (some ⟨g7, 0, none⟩) (k + 1) cap7) = w8 at *
    go_wp2_with fail
    go_roundw
    case rel => exact ⟨k + 1, _, _, _, _, by omega, by go_num, hid (by rw [zs_succ]; exact HM7.out)⟩
    case measure => simp [intOf]; omega
  obtain rfl : m = k := by omega
  clear hlt hk
  have hb5 := B5.out.2.2
  have kp := HM.out.keep
  have tbx := (kp.block _ (heap_lt B5.out.1) (by simp; omega)).trans B5.out.1
  have t0 := hcell tbx 0
  have t1 := hcell tbx 1
  have i1 := hcell HM.out.fbox 1
  have i1' := hcell (keep_heap HM.out.fbox (Keeps.alloc [] wr (.cells #[.int .i64 (kd : Int), .int .i64 0] 39))) 1
  clear tbx kp hb5
  go_upto_region 18 with (at_builtin; go_must (refine wpList_append_lies _ rfl _ _ _ rfl w5.heap.size 39 Tryd.t39 (.agg #[.int .i64 0, .int .i64 0]) 2 16 under_tys info_ty zero_ty size_ty bytes_ty rfl (by decide) (.slice fa m fp) m (zs m) rfl (HM.out.of.alloc _) ⟨wr.heap.size, 0, none⟩ 1 1 [.int .i64 (kd : Int), .int .i64 0] rfl rfl (World.news_of_block (heap_new wr _)) (fun u hu => oneC u _ rfl hu) (by decide) (by unfold maxLen; omega) (by omega) (by simp; omega) (wr.heap.size + 1) (by simp) ?_; intro g7 cap7 w7a hown7 hgrow7 hat7 hlt7; have MG := HM.out.growF (Keeps.alloc [] wr (.cells #[.int .i64 (kd : Int), .int .i64 0] 39)) hown7 hgrow7 (hat7.imp id (fun e => by simpa using e)); have y1 := hcell MG.1 1; have x1 := hfrozen MG.1 1; have HM7 := hid MG.2; clear MG hown7 hgrow7 hat7))
  clear y1 x1 i1 i1' t0 t1 HM hsz
  generalize w7a.setCell ⟨tb + 1 + 1 + 1, 1, none⟩ (.slice (some ⟨g7, 0, none⟩) (m + 1) cap7) = w8 at *
  clear hlt7
  obtain ⟨fa, hfa⟩ : ∃ fa : Option Addr, fa = some ⟨g7, 0, none⟩ := ⟨_, rfl⟩
  rw [← hfa] at HM7
  clear hfa
  have kp := HM7.out.keep
  have hb5 := B5.out.2.2
  have far5 : ∀ (b : Nat) (cs : Array Value) (T : TypeId), w5.heap[b]? = some (.cells cs T (0, 0)) → b ≠ tb + 1 → b ≠ tb + 1 + 1 + 1 → w8.heap[b]? = some (.cells cs T (0, 0)) := fun b cs T hb h1 h2 => (kp.block b (heap_lt hb) (by simp; exact ⟨h1, by omega⟩)).trans hb
  have MF8 : Box (MF w8 q n0 n1 (tb + 1 + 1) w5.heap.size m kd sa fa sp cap7) := hid ⟨far5 _ _ _ F5.out.1 (by omega) (by omega), far5 _ _ _ F5.out.2.1 (by omega) (by omega), far5 _ _ _ F5.out.2.2.2.1 (by omega) (by omega), far5 _ _ _ F5.out.2.2.2.2.1 (by omega) (by omega), far5 _ _ _ F5.out.2.2.2.2.2.1 (by omega) (by omega), far5 _ _ _ B5.out.2.1 (by omega) (by omega), HM7.out.os, HM7.out.of⟩
  have Q8 : Box (w8.heap[q]? = some (.cells #[.slice none 0 0, .int .i64 0, .int .i64 0] 41 (0, 0)) ∧ w8.heap[q + 4]? = some (.cells #[.int .i64 0, .slice (some ⟨q + 1, 0, none⟩) 1 1, .slice (some ⟨q + 3, 0, none⟩) 1 1] 29 (0, 0)) ∧ w8.heap[q + 5]? = some (.cells #[.slice (some ⟨n0, 0, none⟩) 1 1, .slice (some ⟨q, 0, none⟩) 1 1, .slice (some ⟨n1, 0, none⟩) 1 1, .slice none 0 0, .slice (some ⟨q + 4, 0, none⟩) 1 1, .int .i64 0] 36 (0, 0))) := hid ⟨far5 _ _ _ F5.out.2.2.1 (by omega) (by omega), far5 _ _ _ F5.out.2.2.2.2.2.2 (by omega) (by omega), far5 _ _ _ HP5.out (by omega) (by omega)⟩
  have K8 : Box (Keeps [] w w8) := hid (K5.out.trans kp (fun x hx hl => by
    have := (heap_lt B5.out.1)
    have := K5.out.size
    have := hqw.out
    have hq5 := heap_lt HP5.out
    simp at hx
    have hw5 : w.heap.size ≤ q := hqw.out
    omega))
  have SB := hid HM7.out.sbox
  have FB := hid HM7.out.fbox
  clear kp far5 F5 K5 HP5 HM7
  generalize w5.heap.size = base at *
  have p1 := hcell Q8.out.2.2 1
  have p1' := hcell (keep_heap Q8.out.2.2 (Keeps.alloc [] w8 (.cells #[.slice sa m sp, .int .i64 (kd : Int), .int .i64 0] 41))) 1
  have s0 := hcell SB.out 0
  have s1 := hcell SB.out 1
  have s2 := hcell SB.out 2
  have OW8 : Box (w8.ownsRow q 41 3 (.slice (some ⟨q, 0, none⟩) 1 1) 1 [.slice none 0 0, .int .i64 0, .int .i64 0]) := hid (own_lit Q8.out.1 (Nat.le_refl _) rfl (by unfold maxLen; omega))
  have NWF : Box ((w8.alloc (.cells #[.slice sa m sp, .int .i64 (kd : Int), .int .i64 0] 41)).heap[w8.heap.size]? = some (.cells #[.slice sa m sp, .int .i64 (kd : Int), .int .i64 0] 41 (0, 0))) := hid (heap_new w8 _)
  have hq8 : q ≤ w8.heap.size := by have := heap_lt Q8.out.1; omega
  go_cut [70] (fun v70 wz => v70 = .pointer (some ⟨q + 5, 0, none⟩) ∧ ∃ (g9 cap9 : Nat), Box (wz.heap[q + 5]? = some (.cells #[.slice (some ⟨n0, 0, none⟩) 1 1, .slice (some ⟨g9, 0, none⟩) 2 cap9, .slice (some ⟨n1, 0, none⟩) 1 1, .slice none 0 0, .slice (some ⟨q + 4, 0, none⟩) 1 1, .int .i64 0] 36 (0, 0))) ∧ Box (wz.ownsRow q 41 3 (.slice (some ⟨g9, 0, none⟩) 2 cap9) 2 [.slice none 0 0, .int .i64 0, .int .i64 0, .slice sa m sp, .int .i64 (kd : Int), .int .i64 0]) ∧ Box (MF wz q n0 n1 (tb + 1 + 1) base m kd sa fa sp cap7) ∧ Box (wz.heap[tb + 1 + 1 + 1]? = some (.cells #[.int .i64 1, .slice fa (m + 1) cap7, .slice (some ⟨tb + 1 + 1, 0, none⟩) 1 1] 29 (0, 0)) ∧ wz.heap[q + 4]? = some (.cells #[.int .i64 0, .slice (some ⟨q + 1, 0, none⟩) 1 1, .slice (some ⟨q + 3, 0, none⟩) 1 1] 29 (0, 0))) ∧ Box (Keeps [] w wz))
  case first =>
    go_region_law (go_loud (refine step_append_lies _ (by rfl) _ _ _ (by rfl) q 41 Tryd.t41 (.agg #[.slice none 0 0, .int .i64 0, .int .i64 0]) 3 40 under_sgs info_sg zero_sg size_sg bytes_sg rfl (by decide) (.slice (some ⟨q, 0, none⟩) 1 1) 1 [.slice none 0 0, .int .i64 0, .int .i64 0] (by rfl) (ownsRow_drew (OW8.out.alloc _)) ⟨w8.heap.size, 0, none⟩ 1 1 [.slice sa m sp, .int .i64 (kd : Int), .int .i64 0] (by rfl) (by rfl) (World.news_of_block NWF.out) (fun u hu => oneC u _ rfl hu) (by omega) (by unfold maxLen; omega) (by omega) (by simp; omega) (w8.heap.size + 1) (by simp) ?_; intro g9 cap9 w9a hown9 hgrow9 hat9 hlt9; have hgr : (w8.alloc (.cells #[.slice sa m sp, .int .i64 (kd : Int), .int .i64 0] 41)).grownBy w9a (some q) := ⟨hgrow9.os, hgrow9.tape, hgrow9.output, hgrow9.size, hgrow9.block⟩; have hb9 := grown_heap hgr (keep_heap Q8.out.2.2 (Keeps.alloc [] _ _)) (by simp); have y1 := hcell hb9 1; have x1 := hfrozen hb9 1; have HB9 := hid hb9; have HOW9 := hid hown9; have HGR9 := hid hgr; clear hb9 hown9 hgrow9 hgr hat9))
    all_goals (
      go_wp2_with fail
      go_meet
      have e1 := heap_setCell_same w9a (q + 5) 1 _ _ (.slice (some ⟨g9, 0, none⟩) 2 cap9) HB9.out
      have k1 : Keeps [q + 5] w9a (w9a.setCell ⟨q + 5, 1, none⟩ (.slice (some ⟨g9, 0, none⟩) 2 cap9)) := Keeps.setCell _ _ _ _ (List.mem_singleton.2 rfl)
      have k0 : Keeps [q] w8 w9a := ((Keeps.alloc [q] w8 _)).step (Keeps.grown [q] HGR9.out (fun k hk => by simp at hk; simp [hk]))
      have ow := ownsRow_keeps HOW9.out k1 (fun b hb hx => row_ne HOW9.out HB9.out (by decide) (by rw [hb]; simp at hx; rw [hx]))
      have mf0 := MF8.out.keep1 k0 Q8.out.1 (by decide)
      have mf1 := mf0.keep1 k1 HB9.out (by decide)
      have far : ∀ (b : Nat) (cs : Array Value) (T : TypeId), w8.heap[b]? = some (.cells cs T (0, 0)) → b ≠ q → b ≠ q + 5 → (w9a.setCell ⟨q + 5, 1, none⟩ (.slice (some ⟨g9, 0, none⟩) 2 cap9)).heap[b]? = some (.cells cs T (0, 0)) := fun b cs T hb h1 h2 => by
        have h5 := (k0.block b (heap_lt hb) (by simpa using h1)).trans hb
        exact (k1.block b (heap_lt h5) (by simpa using h2)).trans h5
      have hw := hqw.out
      exact ⟨rfl, g9, cap9, hid e1, hid ow, hid mf1, hid ⟨far _ _ _ FB.out (by omega) (by omega), far _ _ _ Q8.out.2.1 (by omega) (by omega)⟩, hid ((K8.out.trans k0 (fun x hx hl => by simp at hx; omega)).trans k1 (fun x hx hl => by simp at hx; omega))⟩)
  case rest =>
  obtain ⟨rfl, g9, cap9, HP9, HS9, MF9, Q9, K9⟩ := hcut
  clear p1 p1' s0 s1 s2 OW8 NWF hq8 SB FB Q8 MF8 K8
  have p4 := hcell HP9.out 4
  have p4' := hcell (keep_heap HP9.out (Keeps.alloc [] wc (.cells #[.int .i64 1, .slice fa (m + 1) cap7, .slice (some ⟨tb + 1 + 1, 0, none⟩) 1 1] 29))) 4
  have s0 := hcell Q9.out.1 0
  have s1 := hcell Q9.out.1 1
  have s2 := hcell Q9.out.1 2
  have OW9 : Box (wc.ownsRow q 29 3 (.slice (some ⟨q + 4, 0, none⟩) 1 1) 1 [.int .i64 0, .slice (some ⟨q + 1, 0, none⟩) 1 1, .slice (some ⟨q + 3, 0, none⟩) 1 1]) := hid (own_lit Q9.out.2 (by omega) rfl (by unfold maxLen; omega))
  have NWF : Box ((wc.alloc (.cells #[.int .i64 1, .slice fa (m + 1) cap7, .slice (some ⟨tb + 1 + 1, 0, none⟩) 1 1] 29)).heap[wc.heap.size]? = some (.cells #[.int .i64 1, .slice fa (m + 1) cap7, .slice (some ⟨tb + 1 + 1, 0, none⟩) 1 1] 29 (0, 0))) := hid (heap_new wc _)
  have hq9 : q ≤ wc.heap.size := by have := heap_lt Q9.out.2; omega
  go_upto_region 19 with fail
  go_cut [80] (fun v80 wz => v80 = .pointer (some ⟨q + 5, 0, none⟩) ∧ ∃ (g10 cap10 : Nat), Box (wz.heap[q + 5]? = some (.cells #[.slice (some ⟨n0, 0, none⟩) 1 1, .slice (some ⟨g9, 0, none⟩) 2 cap9, .slice (some ⟨n1, 0, none⟩) 1 1, .slice none 0 0, .slice (some ⟨g10, 0, none⟩) 2 cap10, .int .i64 0] 36 (0, 0))) ∧ Box (wz.ownsRow q 41 3 (.slice (some ⟨g9, 0, none⟩) 2 cap9) 2 [.slice none 0 0, .int .i64 0, .int .i64 0, .slice sa m sp, .int .i64 (kd : Int), .int .i64 0]) ∧ Box (wz.ownsRow q 29 3 (.slice (some ⟨g10, 0, none⟩) 2 cap10) 2 [.int .i64 0, .slice (some ⟨q + 1, 0, none⟩) 1 1, .slice (some ⟨q + 3, 0, none⟩) 1 1, .int .i64 1, .slice fa (m + 1) cap7, .slice (some ⟨tb + 1 + 1, 0, none⟩) 1 1]) ∧ Box (MF wz q n0 n1 (tb + 1 + 1) base m kd sa fa sp cap7) ∧ Box (Keeps [] w wz))
  case first =>
    go_region_law (go_loud (refine step_append_lies _ (by rfl) _ _ _ (by rfl) q 29 Tryd.t29 (.agg #[.int .i64 0, .slice none 0 0, .slice none 0 0]) 3 56 under_fns info_fn zero_fn size_fn bytes_fn rfl (by decide) (.slice (some ⟨q + 4, 0, none⟩) 1 1) 1 [.int .i64 0, .slice (some ⟨q + 1, 0, none⟩) 1 1, .slice (some ⟨q + 3, 0, none⟩) 1 1] (by rfl) (ownsRow_drew (OW9.out.alloc _)) ⟨wc.heap.size, 0, none⟩ 1 1 [.int .i64 1, .slice fa (m + 1) cap7, .slice (some ⟨tb + 1 + 1, 0, none⟩) 1 1] (by rfl) (by rfl) (World.news_of_block NWF.out) (fun u hu => oneC u _ rfl hu) (by omega) (by unfold maxLen; omega) (by omega) (by simp; omega) (wc.heap.size + 1) (by simp) ?_; intro g10 cap10 w9a hown9 hgrow9 hat9 hlt9; have hgr : (wc.alloc (.cells #[.int .i64 1, .slice fa (m + 1) cap7, .slice (some ⟨tb + 1 + 1, 0, none⟩) 1 1] 29)).grownBy w9a (some (q + 4)) := ⟨hgrow9.os, hgrow9.tape, hgrow9.output, hgrow9.size, hgrow9.block⟩; have hb9 := grown_heap hgr (keep_heap HP9.out (Keeps.alloc [] _ _)) (by simp); have y1 := hcell hb9 4; have x1 := hfrozen hb9 4; have HB9 := hid hb9; have HOW9 := hid hown9; have HGR9 := hid hgr; clear hb9 hown9 hgrow9 hgr hat9))
    all_goals (
      go_wp2_with fail
      go_meet
      have e1 := heap_setCell_same w9a (q + 5) 4 _ _ (.slice (some ⟨g10, 0, none⟩) 2 cap10) HB9.out
      have k1 : Keeps [q + 5] w9a (w9a.setCell ⟨q + 5, 4, none⟩ (.slice (some ⟨g10, 0, none⟩) 2 cap10)) := Keeps.setCell _ _ _ _ (List.mem_singleton.2 rfl)
      have k0 : Keeps [q + 4] wc w9a := ((Keeps.alloc [q + 4] wc _)).step (Keeps.grown [q + 4] HGR9.out (fun k hk => by simp at hk; simp [hk]))
      have ow := ownsRow_keeps HOW9.out k1 (fun b hb hx => row_ne HOW9.out HB9.out (by decide) (by rw [hb]; simp at hx; rw [hx]))
      have os0 := ownsRow_keeps HS9.out k0 (fun b hb hx => row_ne HS9.out Q9.out.2 (by decide) (by rw [hb]; simp at hx; rw [hx]))
      have os1 := ownsRow_keeps os0 k1 (fun b hb hx => row_ne os0 HB9.out (by decide) (by rw [hb]; simp at hx; rw [hx]))
      have mf0 := MF9.out.keep1 k0 Q9.out.2 (by decide)
      have mf1 := mf0.keep1 k1 HB9.out (by decide)
      have hw := hqw.out
      exact ⟨rfl, g10, cap10, hid e1, hid os1, hid ow, hid mf1, hid ((K9.out.trans k0 (fun x hx hl => by simp at hx; omega)).trans k1 (fun x hx hl => by simp at hx; omega))⟩)
  case rest =>
  obtain ⟨rfl, g10, cap10, HP10, HS10, HF10, MF10, K10⟩ := hcut
  clear p4 p4' s0 s1 s2 OW9 NWF hq9 Q9 MF9 K9 HP9 HS9
  have p5 := hcell HP10.out 5
  have z5 := hfrozen HP10.out 5
  go_upto_region 21 with fail
  clear p5 z5
  have E12 := heap_setCell_same wc (q + 5) 5 _ _ (.int .i64 1) HP10.out
  have k12 : Keeps [q + 5] wc (wc.setCell ⟨q + 5, 5, none⟩ (.int .i64 1)) := Keeps.setCell _ _ _ _ (List.mem_singleton.2 rfl)
  have K12 : Box (Keeps [] w (wc.setCell ⟨q + 5, 5, none⟩ (.int .i64 1))) := hid (K10.out.trans k12 (fun x hx hl => by have := hqw.out; simp at hx; omega))
  have PR : Box (PrC (wc.setCell ⟨q + 5, 5, none⟩ (.int .i64 1)) (q + 5) 0 (pmain m (kd : Int))) := hid (by
    have T := MF10.out.keep1 k12 HP10.out (by decide)
    have os := ownsRow_keeps HS10.out k12 (fun b hb hx => row_ne HS10.out HP10.out (by decide) (by rw [hb]; simp at hx; rw [hx]))
    have of := ownsRow_keeps HF10.out k12 (fun b hb hx => row_ne HF10.out HP10.out (by decide) (by rw [hb]; simp at hx; rw [hx]))
    generalize wc.setCell ⟨q + 5, 5, none⟩ (.int .i64 1) = wz at *
    have sc : ∀ i, i < 6 → wz.cell? ⟨g9, i, none⟩ = ([.slice none 0 0, .int .i64 0, .int .i64 0, .slice sa m sp, .int .i64 (kd : Int), .int .i64 0] : List Value)[i]? := fun i hi => own_cell os hi
    have fc : ∀ i, i < 6 → wz.cell? ⟨g10, i, none⟩ = ([.int .i64 0, .slice (some ⟨q + 1, 0, none⟩) 1 1, .slice (some ⟨q + 3, 0, none⟩) 1 1, .int .i64 1, .slice fa (m + 1) cap7, .slice (some ⟨tb + 1 + 1, 0, none⟩) 1 1] : List Value)[i]? := fun i hi => own_cell of hi
    have ps : SlC 2 TyC wz g9 3 (List.replicate m (0, 0)) := own_slc (sc 3 (by decide)) T.os (by simp) (by omega) (fun j y hy => by
      rw [List.getElem?_replicate] at hy
      split at hy
      · cases hy
        exact ⟨zs_get (by omega), zs_get (by omega), by decide, by decide⟩
      · cases hy)
    have rs : SlC 2 TyC wz g10 4 (List.replicate m (0, 0) ++ [((kd : Int), 0)]) := own_slc (fc 4 (by decide)) T.of (by simp) (by omega) (fun j y hy => by
      by_cases hj : j < m
      · rw [List.getElem?_append_left (by simpa using hj), List.getElem?_replicate, if_pos hj] at hy
        cases hy
        exact ⟨by rw [List.getElem?_append_left (by rw [zs_len]; omega)]; exact zs_get (by omega), by rw [List.getElem?_append_left (by rw [zs_len]; omega)]; exact zs_get (by omega), by decide, by decide⟩
      · have hl := (List.getElem?_eq_some_iff.1 hy).1
        simp at hl
        obtain rfl : j = m := by omega
        rw [List.getElem?_append_right (by simp)] at hy
        simp at hy
        subst hy
        exact ⟨by rw [List.getElem?_append_right (by rw [zs_len]; omega), zs_len]; simp, by rw [List.getElem?_append_right (by rw [zs_len]; omega), zs_len, show j * 2 + 1 - j * 2 = 1 by omega]; rfl, by simp; omega, by simp⟩)
    have sg0 : SgC wz g9 0 ([], 0, 0) := ⟨SlC.none (sc 0 (by decide)), IntC.of (sc 1 (by decide)) (by decide), IntC.of (sc 2 (by decide)) (by decide)⟩
    have sg1 : SgC wz g9 (1 * 3) (List.replicate m (0, 0), (kd : Int), 0) := ⟨ps, IntC.of (sc 4 (by decide)) (by simp; omega), IntC.of (sc 5 (by decide)) (by simp)⟩
    have in0 : InC wz (q + 2) 0 ⟨1, 0, 0, 0, 7, []⟩ := ⟨IntC.of (hcell T.o2 0) (by decide), IntC.of (hcell T.o2 1) (by decide), IntC.of (hcell T.o2 2) (by decide), IntC.of (hcell T.o2 3) (by decide), IntC.of (hcell T.o2 4) (by decide), SlC.none (hcell T.o2 5)⟩
    have bl0 : BlC wz (q + 3) 0 ⟨[⟨1, 0, 0, 0, 7, []⟩], 3, 0, 0, 0⟩ := ⟨SlC.one (hcell T.o3 0) in0, IntC.of (hcell T.o3 1) (by decide), IntC.of (hcell T.o3 2) (by decide), IntC.of (hcell T.o3 3) (by decide), IntC.of (hcell T.o3 4) (by decide)⟩
    have t0 : TyC wz (q + 1) 0 (0, 0) := ⟨IntC.of (hcell T.o1 0) (by decide), IntC.of (hcell T.o1 1) (by decide)⟩
    have fu0 : FuC wz g10 0 ⟨0, [(0, 0)], [⟨[⟨1, 0, 0, 0, 7, []⟩], 3, 0, 0, 0⟩]⟩ := ⟨IntC.of (fc 0 (by decide)) (by decide), SlC.one (fc 1 (by decide)) t0, SlC.one (fc 2 (by decide)) bl0⟩
    have bl1 : BlC wz (tb + 1 + 1) 0 ⟨[], 3, (m : Int), 0, 0⟩ := ⟨SlC.none (hcell T.bl 0), IntC.of (hcell T.bl 1) (by simp), IntC.of (hcell T.bl 2) (by simp; omega), IntC.of (hcell T.bl 3) (by simp), IntC.of (hcell T.bl 4) (by simp)⟩
    have fu1 : FuC wz g10 (1 * 3) ⟨1, List.replicate m (0, 0) ++ [((kd : Int), 0)], [⟨[], 3, (m : Int), 0, 0⟩]⟩ := ⟨IntC.of (fc 3 (by decide)) (by simp), rs, SlC.one (fc 5 (by decide)) bl1⟩
    exact ⟨SlC.one (hcell E12 0) (SlC.none (hcell T.r0 0)), slc_two (hcell E12 1) sg0 sg1 (own_cap os), SlC.one (hcell E12 2) (SlC.none (hcell T.i0 0)), SlC.none (hcell E12 3), slc_two (hcell E12 4) fu0 fu1 (own_cap of), IntC.of (hcell E12 5) (by simp [pmain])⟩)
  clear E12 k12 MF10 HS10 HF10 HP10 K10
  generalize wc.setCell ⟨q + 5, 5, none⟩ (.int .i64 1) = w12 at *
  have HF := hid (pmain_fn m kd hm hd)
  have HC := hid (check_any PR.out (tabB_sm HF.out) (g := gany (pmain m (kd : Int))) (fun w' f b i a cp kk hf hb hi hz => fits_any (PrC.stays _ _ _ _ _ kk PR.out) hf _ hz (few_of HF.out f b i hf hb hi)))
  go_wp2_with fail
  refine HC.out.mono ?_
  intro e w13 h13
  rw [HCK.out] at h13
  by_cases hz : m = 0 ∧ kd = 0
  · rw [if_pos hz] at h13
    obtain ⟨rfl, k13⟩ := h13
    have K13 := hid (K12.out.quiet k13)
    obtain ⟨rfl, rfl⟩ := hz
    clear k13
    go_wp2_with fail
    go_ret
    exact ⟨rfl, K13.out⟩
  · rw [if_neg hz] at h13
    obtain ⟨p, rfl, r13, k13⟩ := h13
    have K13 := hid (K12.out.quiet k13)
    have R13 := hid r13
    clear k13 r13
    have hor : (m : Int) ≠ 0 ∨ ((m : Int) = 0 ∧ (kd : Int) ≠ 0) := by omega
    clear hz
    rcases hor with hz | ⟨hz, hy⟩
    · have o1 := neb hz
      clear hz
      go_wp2_with fail
      refine (nowhere_any _).mono ?_
      rintro e w14 ⟨rfl, k14⟩
      have K14 := hid (K13.out.quiet k14)
      have R14 := hid (R13.out.quiet k14)
      clear k14
      go_wp2_with fail
      refine (says_now (HG.out.quiet K14.out) R14.out (by decide)).mono ?_
      rintro e w15 ⟨rfl, k15⟩
      have K15 := hid (K14.out.quiet k15)
      clear k15
      go_wp2_with fail
      go_ret
      exact ⟨rfl, K15.out⟩
    · have o1 := eqb hz
      have o2 := neb hy
      clear hz hy
      go_wp2_with fail
      refine (nowhere_any _).mono ?_
      rintro e w14 ⟨rfl, k14⟩
      have K14 := hid (K13.out.quiet k14)
      have R14 := hid (R13.out.quiet k14)
      clear k14
      go_wp2_with fail
      refine (says_now (HG.out.quiet K14.out) R14.out (by decide)).mono ?_
      rintro e w15 ⟨rfl, k15⟩
      have K15 := hid (K14.out.quiet k15)
      clear k15
      go_wp2_with fail
      go_ret
      exact ⟨rfl, K15.out⟩
set_option maxRecDepth 20000 in
set_option maxHeartbeats 2000000 in
theorem tm_out (a b : Int) (w : World) (hg : Glob w) (ho : a < 0 ∨ (¬ a < 0 ∧ (4 : Int) < a) ∨ (¬ a < 0 ∧ ¬ (4 : Int) < a ∧ b < 0) ∨ (¬ a < 0 ∧ ¬ (4 : Int) < a ∧ ¬ b < 0 ∧ (3 : Int) < b)) : Calls Tryd.prog 8 #[.int .i64 a, .int .i64 b] w fun e w' => e = .returned (.bool true) ∧ Keeps [] w w' := by
  have HB := hid (begun_any w hg)
  clear hg
  rcases ho with h1 | ⟨h1, h2⟩ | ⟨h1, h2, h3⟩ | ⟨h1, h2, h3, h4⟩
  all_goals (
    go_enter Tryd.func8, Tryd.ntmps8
    go_wp2_with fail
    refine HB.out.mono ?_
    rintro e w1 ⟨rfl, k1⟩
    have K1 := hid k1
    clear HB k1
    go_wp2_with fail
    go_ret
    exact ⟨rfl, K1.out⟩)
theorem tm_walk (a b : Int) (w : World) (hg : Glob w) (_ : b64 a) (_ : b64 b) : Calls Tryd.prog 8 #[.int .i64 a, .int .i64 b] w fun e w' => e = .returned (.bool true) ∧ Keeps [] w w' := by
  by_cases ho : a < 0 ∨ (¬ a < 0 ∧ (4 : Int) < a) ∨ (¬ a < 0 ∧ ¬ (4 : Int) < a ∧ b < 0) ∨ (¬ a < 0 ∧ ¬ (4 : Int) < a ∧ ¬ b < 0 ∧ (3 : Int) < b)
  · exact tm_out a b w hg ho
  · obtain ⟨m, rfl⟩ : ∃ m : Nat, a = (m : Int) := ⟨a.toNat, by omega⟩
    obtain ⟨kd, rfl⟩ : ∃ kd : Nat, b = (kd : Int) := ⟨b.toNat, by omega⟩
    exact tm_in m kd w hg (by omega) (by omega)
end Go.Proofs.YtlopddflbhnjdaaDoor
