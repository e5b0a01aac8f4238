/-
  TypesLimits: functions.
-/
import Derived.Test.YtlopddflbhnjdaaDoorTLim
import Derived.Deep.RegionLaw
import Derived.Deep.AppendLies
namespace Go.Proofs.YtlopddflbhnjdaaDoor
open Go.RowKit

def fuCs (l : List Nat) : List Value := l.flatMap fun b => [.int .i64 0, .slice none 0 0, .slice (some ⟨b, 0, none⟩) 1 1]
theorem fuCs_snoc (l : List Nat) (b : Nat) : fuCs (l ++ [b]) = fuCs l ++ [.int .i64 0, .slice none 0 0, .slice (some ⟨b, 0, none⟩) 1 1] := by
  unfold fuCs
  rw [List.flatMap_append]
  rfl
theorem fuCs_len (l : List Nat) : (fuCs l).length = l.length * 3 := by
  induction l with
  | nil => rfl
  | cons q l ih =>
    have : fuCs (q :: l) = [.int .i64 0, .slice none 0 0, .slice (some ⟨q, 0, none⟩) 1 1] ++ fuCs l := rfl
    rw [this, List.length_append, ih, List.length_cons]
    show 3 + l.length * 3 = (l.length + 1) * 3
    omega
theorem fuCs_get (l : List Nat) : ∀ (j b : Nat), l[j]? = some b → (fuCs l)[j * 3]? = some (.int .i64 0) ∧ (fuCs l)[j * 3 + 1]? = some (.slice none 0 0) ∧ (fuCs l)[j * 3 + 2]? = some (.slice (some ⟨b, 0, none⟩) 1 1) := by
  induction l with
  | nil => intro j q h; simp at h
  | cons p l ih =>
    intro j b h
    have e : fuCs (p :: l) = [.int .i64 0, .slice none 0 0, .slice (some ⟨p, 0, none⟩) 1 1] ++ fuCs l := rfl
    cases j with
    | zero =>
      simp at h
      subst h
      rw [e]
      exact ⟨rfl, rfl, rfl⟩
    | succ j =>
      have h' := ih j b (by simpa using h)
      rw [e, show (j + 1) * 3 = j * 3 + 3 by omega]
      refine ⟨?_, ?_, ?_⟩ <;> rw [List.getElem?_append_right (by simp)]
      · exact h'.1
      · rw [show j * 3 + 3 + 1 - [Value.int .i64 0, .slice none 0 0, .slice (some ⟨p, 0, none⟩) 1 1].length = j * 3 + 1 by simp]
        exact h'.2.1
      · rw [show j * 3 + 3 + 2 - [Value.int .i64 0, .slice none 0 0, .slice (some ⟨p, 0, none⟩) 1 1].length = j * 3 + 2 by simp]
        exact h'.2.2
/-- The program while its functions grow. -/
structure GrF (w0 w : World) (q : Nat) (sv : Value) (bs : List Nat) : Prop where
  box : w.heap[q + 5]? = some (.cells #[.slice none 0 0, .slice (some ⟨q, 0, none⟩) 1 1, .slice none 0 0, .slice none 0 0, sv, .int .i64 0] 36 (0, 0))
  sg : w.heap[q]? = some (.cells #[.slice none 0 0, .int .i64 0, .int .i64 0] 41 (0, 0))
  own : w.ownsRow w0.heap.size 29 3 sv bs.length (fuCs bs)
  bl : ∀ b, b ∈ bs → w.heap[b]? = some (.cells #[.slice none 0 0, .int .i64 0, .int .i64 0, .int .i64 0, .int .i64 0] 44 (0, 0))
  keeps : Keeps [q + 5] w0 w
theorem row_type {w : World} {base n : Nat} {v : Value} {xs : List Value} {T : TypeId} {c b : Nat} {cs : Array Value} {U : TypeId} (h : w.ownsRow base T c v n xs) (hb : w.heap[b]? = some (.cells cs U (0, 0))) (hne : T ≠ U) : v.ownBlock ≠ some b := by
  intro e
  rcases h.2 with ⟨rfl, _⟩ | ⟨g, cap, cur, rfl, _, hg, _⟩
  · simp [Value.ownBlock] at e
  · simp [Value.ownBlock] at e
    subst e
    rw [hg] at hb
    simp at hb
    exact hne hb.2
def fz : Fu8 := ⟨0, [], [⟨[], 0, 0, 0, 0⟩]⟩
theorem GrF.prc {w0 w : World} {q : Nat} {sv : Value} {bs : List Nat} (h : GrF w0 w q sv bs) (hl : bs.length ≤ 1000) : PrC w (q + 5) 0 (lim4 bs.length) := by
  have s : SgC w q 0 ([], 0, 0) := ⟨SlC.none (hcell h.sg 0), IntC.of (hcell h.sg 1) (by simp), IntC.of (hcell h.sg 2) (by simp)⟩
  have f : SlC 3 FuC w (q + 5) 4 (List.replicate bs.length fz) := by
    rcases h.own.2 with ⟨hv, h0⟩ | ⟨g, cap, cur, hv, _, hg, hle, _, _, ht⟩
    · rw [h0]
      have := hcell h.box 4
      rw [hv] at this
      exact SlC.none this
    · have hc := hcell h.box 4
      rw [hv] at hc
      refine ⟨_, cap, by rw [List.length_replicate]; exact hc, RowsAt.rep (fun j hj => ?_), by rw [List.length_replicate]; exact hle, by rw [List.length_replicate]; unfold maxLen; omega⟩
      obtain ⟨b, hb⟩ : ∃ b, bs[j]? = some b := ⟨_, List.getElem?_eq_getElem hj⟩
      obtain ⟨g0, g1, g2⟩ := fuCs_get bs j b hb
      have key : ∀ i, i < bs.length * 3 → w.cell? ⟨g, i, none⟩ = (fuCs bs)[i]? := fun i hi => by
        rw [cell_of_row w g i cur _ _ hg, ← ht, List.getElem?_take, if_pos hi]
        simp
      have hbl := h.bl b (List.mem_of_getElem? hb)
      have bl : BlC w b 0 ⟨[], 0, 0, 0, 0⟩ := ⟨SlC.none (hcell hbl 0), IntC.of (hcell hbl 1) (by simp), IntC.of (hcell hbl 2) (by simp), IntC.of (hcell hbl 3) (by simp), IntC.of (hcell hbl 4) (by simp)⟩
      exact ⟨IntC.of ((key _ (by omega)).trans g0) (by simp [fz]), SlC.none ((key _ (by omega)).trans g1), SlC.one ((key _ (by omega)).trans g2) bl⟩
  exact ⟨SlC.none (hcell h.box 0), SlC.one (hcell h.box 1) s, SlC.none (hcell h.box 2), SlC.none (hcell h.box 3), f, IntC.of (hcell h.box 5) (by simp [lim4])⟩
theorem info_fn : Tryd.prog.info? 29 = some Tryd.t29 := by kernel_rfl
theorem under_fns : Tryd.prog.underlying 34 = some (.slice 29) := by kernel_rfl
theorem zero_fn : Tryd.t29.zero = some (.agg #[.int .i64 0, .slice none 0 0, .slice none 0 0]) := by kernel_rfl
theorem size_fn : Tryd.t29.size = 3 := by kernel_rfl
theorem bytes_fn : Tryd.t29.bytes = 56 := by kernel_rfl
theorem mk_one (w : World) : (Instr.makeSlice 27 (.int .i64 1) (.int .i64 1)).run Tryd.prog w = .ok (.slice (some ⟨w.heap.size, 0, none⟩) 1 1) (w.alloc (.cells #[.slice none 0 0, .int .i64 0, .int .i64 0, .int .i64 0, .int .i64 0] 44)) := by kernel_rfl
theorem three_fn (b : Nat) : ∀ u ∈ [Value.int .i64 0, .slice none 0 0, .slice (some ⟨b, 0, none⟩) 1 1], u.oneCell' = true := by
  intro u hu
  simp at hu
  rcases hu with rfl | rfl | rfl <;> rfl
theorem GrF.still {w0 w wa w5 : World} {q : Nat} {sv : Value} {bs : List Nat} (h : GrF w0 w q sv bs) (ka : Keeps [] w wa) (hg : wa.grownBy w5 sv.ownBlock) : w5.heap[q + 5]? = some (.cells #[.slice none 0 0, .slice (some ⟨q, 0, none⟩) 1 1, .slice none 0 0, .slice none 0 0, sv, .int .i64 0] 36 (0, 0)) := by
  have hj := keep_heap h.box ka
  rw [hg.block _ (heap_lt hj) (fun e => row_type (ownsRow_keeps h.own ka (fun _ _ => by simp)) hj (by decide) e.symm)]
  exact hj
/-- One more. -/
theorem GrF.grow {w0 w wa w5 : World} {q : Nat} {sv sv' : Value} {bs : List Nat} {b : Nat} (h : GrF w0 w q sv bs) (ka : Keeps [] w wa) (hb : wa.heap[b]? = some (.cells #[.slice none 0 0, .int .i64 0, .int .i64 0, .int .i64 0, .int .i64 0] 44 (0, 0))) (ho : w5.ownsRow w0.heap.size 29 3 sv' (bs.length + 1) (fuCs bs ++ [.int .i64 0, .slice none 0 0, .slice (some ⟨b, 0, none⟩) 1 1])) (hg : wa.grownBy w5 sv.ownBlock) : GrF w0 (w5.setCell ⟨q + 5, 4, none⟩ sv') q sv' (bs ++ [b]) := by
  have hown : wa.ownsRow w0.heap.size 29 3 sv bs.length (fuCs bs) := ownsRow_keeps h.own ka (fun _ _ => by simp)
  have step : ∀ (j : Nat) (cs : Array Value) (U : TypeId), wa.heap[j]? = some (.cells cs U (0, 0)) → 29 ≠ U → w5.heap[j]? = some (.cells cs U (0, 0)) := fun j cs U hj hne => by
    rw [hg.block j (heap_lt hj) (fun e => row_type hown hj hne e.symm)]
    exact hj
  have hbox := step _ _ _ (keep_heap h.box ka) (by decide)
  have k5 : Keeps [q + 5] w5 (w5.setCell ⟨q + 5, 4, none⟩ sv') := Keeps.setCell _ _ _ _ (List.mem_singleton.2 rfl)
  have far : ∀ (j : Nat) (cs : Array Value) (U : TypeId), w5.heap[j]? = some (.cells cs U (0, 0)) → U ≠ 36 → (w5.setCell ⟨q + 5, 4, none⟩ sv').heap[j]? = some (.cells cs U (0, 0)) := fun j cs U hj hne => by
    rw [heap_setCell_other _ _ _ _ (fun e => by
      have e' : j = q + 5 := e
      subst e'
      rw [hbox] at hj
      simp at hj
      exact hne hj.2.symm)]
    exact hj
  refine ⟨heap_setCell_same _ _ 4 _ _ _ hbox, far _ _ _ (step _ _ _ (keep_heap h.sg ka) (by decide)) (by decide), ?_, fun c hc => ?_, ?_⟩
  · rw [List.length_append, fuCs_snoc]
    refine ownsRow_keeps ho k5 (fun c hc hm => ?_)
    rw [List.mem_singleton] at hm
    subst hm
    exact row_type ho hbox (by decide) hc
  · rcases List.mem_append.1 hc with hc | hc
    · exact far _ _ _ (step _ _ _ (keep_heap (h.bl c hc) ka) (by decide)) (by decide)
    · rw [List.mem_singleton.1 hc]
      exact far _ _ _ (step _ _ _ hb (by decide)) (by decide)
  · refine ((h.keeps.quiet ka).trans (Keeps.grown (Option.toList sv.ownBlock) hg (fun k hk => by rw [hk]; simp)) (fun x hx hl => ?_)).step k5
    exfalso
    rcases hown.2 with ⟨rfl, _⟩ | ⟨g, cap, cur, rfl, hge, _⟩
    · simp [Value.ownBlock] at hx
    · simp [Value.ownBlock] at hx
      omega
end Go.Proofs.YtlopddflbhnjdaaDoor
