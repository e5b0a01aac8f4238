/-
  AssignDiamond: the program behind its branches, as it lies.
-/
import Derived.Test.YtmebkeidpklcbaaDoorZYDiM
namespace Go.Proofs.YtmebkeidpklcbaaDoor
open Go.RowKit

theorem SD.ends {w : World} {base ab lb : Nat} {T5 : TypeId} {ks : List Nat} {v : Value} (h : SD w base ab lb T5 ks v 0 0) (ha : ab ≠ lb) (hl : lb < base) : SD ((w.setCell ⟨lb, 1, none⟩ (.int .i64 1)).setCell ⟨lb, 3, none⟩ (.int .i64 3)) base ab lb T5 ks v 1 3 ∧ Keeps [lb] w ((w.setCell ⟨lb, 1, none⟩ (.int .i64 1)).setCell ⟨lb, 3, none⟩ (.int .i64 3)) := by
  have k : Keeps [lb] w ((w.setCell ⟨lb, 1, none⟩ (.int .i64 1)).setCell ⟨lb, 3, none⟩ (.int .i64 3)) := (Keeps.setCell [lb] _ _ _ (by simp)).step (Keeps.setCell [lb] _ _ _ (by simp))
  refine ⟨⟨by rw [k.block ab (heap_lt h.marks) (by simpa using ha)]; exact h.marks, heap_setCell_same _ _ _ _ _ _ (heap_setCell_same _ _ _ _ _ _ h.blk), ownsRow_keeps h.row k (fun b hb hx => by have := own_ge h.row hb; simp at hx; omega)⟩, k⟩
def preD (n : Nat) (vl vr : Value) : List Value := [.slice (some ⟨n + 2, 0, none⟩) 1 1, .int .i64 2, .int .i64 0, .int .i64 1, .int .i64 2, vl, .int .i64 1, .int .i64 0, .int .i64 3, .int .i64 0, vr, .int .i64 1, .int .i64 0, .int .i64 3, .int .i64 0, .slice none 0 0, .int .i64 3]
def rowD (n : Nat) (vl vr : Value) (g : Int) : List Value := preD n vl vr ++ (.int .i64 g :: [.int .i64 0, .int .i64 0])
theorem rowD_set {n : Nat} {vl vr : Value} {g z : Int} {i : Nat} (h : i ≠ 17) : (rowD n vl vr g)[i]? = (rowD n vl vr z)[i]? := by
  unfold rowD
  have hl : (preD n vl vr).length = 17 := rfl
  by_cases hi : i < 17
  · rw [List.getElem?_append_left (by omega), List.getElem?_append_left (by omega)]
  · rw [List.getElem?_append_right (by omega), List.getElem?_append_right (by omega), hl]
    obtain ⟨j, hj⟩ : ∃ j, i - 17 = j + 1 := ⟨i - 18, by omega⟩
    rw [hj]
    rfl
theorem rowD_at (n : Nat) (vl vr : Value) (g : Int) : (rowD n vl vr g)[17]? = some (.int .i64 g) := rfl
/-- The program, its marks beside it. -/
structure LD (w : World) (n r g cap ab base : Nat) (kl kr : List Nat) (vl vr : Value) (z : Int) (T5 : TypeId) : Prop where
  h0 : w.heap[n]? = some (.cells #[.slice none 0 0, .int .i64 0, .int .i64 0] 72 (0, 0))
  h2 : w.heap[n + 2]? = some (.cells #[.int .i64 1, .int .i64 0, .int .i64 0, .int .i64 0, .int .i64 7, .slice none 0 0] 65 (0, 0))
  hr : w.heap[r]? = some (.cells #[.int .i64 0, .int .i64 0, .int .i64 0, .int .i64 0, .int .i64 0, .int .i64 0, .int .i64 0, .int .i64 0, .int .i64 0, .int .i64 0, .int .i64 0, .int .i64 0] 70 (0, 0))
  row : ∃ cur, w.heap[g]? = some (.cells cur 63 (0, 0)) ∧ ∀ i, i < 20 → cur[i]? = (rowD n vl vr z)[i]?
  h4 : w.heap[n + 4]? = some (.cells #[.int .i64 0, .slice (some ⟨r, 0, none⟩) 6 6, .slice (some ⟨g, 0, none⟩) 4 cap] 39 (0, 0))
  h5 : w.heap[n + 5]? = some (.cells #[.slice none 0 0, .slice (some ⟨n, 0, none⟩) 1 1, .slice none 0 0, .slice none 0 0, .slice (some ⟨n + 4, 0, none⟩) 1 1, .int .i64 0] 31 (0, 0))
  cl : w.ownsRow base 65 6 vl kl.length (iksC kl)
  cr : w.ownsRow base 65 6 vr kr.length (iksC kr)
  ma : w.heap[ab]? = some (.cells (A5 (mk5 kl)) T5 (0, 0))
  mb : w.heap[ab + 1]? = some (.cells (A5 (mk5 kr)) T5 (0, 0))
  cap4 : 4 ≤ cap
theorem LD.quiet {w w' : World} {n r g cap ab base : Nat} {kl kr : List Nat} {vl vr : Value} {z : Int} {T5 : TypeId} (h : LD w n r g cap ab base kl kr vl vr z T5) (k : Keeps [] w w') : LD w' n r g cap ab base kl kr vl vr z T5 := by
  obtain ⟨cur, h1, h2⟩ := h.row
  exact ⟨keep_heap h.h0 k, keep_heap h.h2 k, keep_heap h.hr k, ⟨cur, keep_heap h1 k, h2⟩, keep_heap h.h4 k, keep_heap h.h5 k, ownsRow_keeps h.cl k (fun _ _ => by simp), ownsRow_keeps h.cr k (fun _ _ => by simp), keep_heap h.ma k, keep_heap h.mb k, h.cap4⟩
theorem LD.cell {w : World} {n r g cap ab base : Nat} {kl kr : List Nat} {vl vr : Value} {z : Int} {T5 : TypeId} (h : LD w n r g cap ab base kl kr vl vr z T5) {i : Nat} (hi : i < 20) : w.cell? ⟨g, i, none⟩ = (rowD n vl vr z)[i]? := by
  obtain ⟨cur, h1, h2⟩ := h.row
  rw [hcell h1 i, h2 i hi]
theorem cells_ne {w : World} {a b : Nat} {cs ds : Array Value} {T U : TypeId} (h1 : w.heap[a]? = some (.cells cs T (0, 0))) (h2 : w.heap[b]? = some (.cells ds U (0, 0))) (hn : T ≠ U) : a ≠ b := fun e => by
  rw [e, h2] at h1
  simp at h1
  exact hn h1.2.symm
/-- The last block's register is turned. -/
theorem LD.turn {w : World} {n r g cap ab base : Nat} {kl kr : List Nat} {vl vr : Value} {z : Int} (h : LD w n r g cap ab base kl kr vl vr z 60) (y : Int) : LD (w.setCell ⟨g, 17, none⟩ (.int .i64 y)) n r g cap ab base kl kr vl vr y 60 := by
  obtain ⟨cur, h1, h2⟩ := h.row
  have kk : Keeps [g] w (w.setCell ⟨g, 17, none⟩ (.int .i64 y)) := Keeps.setCell _ _ _ _ (by simp)
  have FB : ∀ (b : Nat) (cs : Array Value) (T : TypeId), T ≠ 63 → w.heap[b]? = some (.cells cs T (0, 0)) → (w.setCell ⟨g, 17, none⟩ (.int .i64 y)).heap[b]? = some (.cells cs T (0, 0)) := fun b cs T hT hb => by
    rw [kk.block b (heap_lt hb) (by have := cells_ne hb h1 hT; simpa using this)]
    exact hb
  have FO : ∀ (v : Value) m xs, w.ownsRow base 65 6 v m xs → (w.setCell ⟨g, 17, none⟩ (.int .i64 y)).ownsRow base 65 6 v m xs := fun v m xs ho => ownsRow_keeps ho kk (fun b hb hx => by
    simp at hx
    subst hx
    exact row_neY ho h1 (by decide) hb)
  refine ⟨FB _ _ _ (by decide) h.h0, FB _ _ _ (by decide) h.h2, FB _ _ _ (by decide) h.hr, ⟨_, heap_setCell_same _ _ 17 _ _ (.int .i64 y) h1, fun i hi => ?_⟩, FB _ _ _ (by decide) h.h4, FB _ _ _ (by decide) h.h5, FO _ _ _ h.cl, FO _ _ _ h.cr, FB _ _ _ (by decide) h.ma, FB _ _ _ (by decide) h.mb, h.cap4⟩
  have hsz : 17 < cur.size := by
    have := h2 17 (by decide)
    rw [rowD_at] at this
    exact (Array.getElem?_eq_some_iff.1 this).1
  by_cases e : i = 17
  · subst e
    rw [Array.getElem?_setIfInBounds_self_of_lt hsz, rowD_at]
  · rw [Array.getElem?_setIfInBounds_ne (Ne.symm e), h2 i hi]
    exact rowD_set e
theorem code_D {w : World} {base : Nat} {v : Value} {ks : List Nat} (h : w.ownsRow base 65 6 v ks.length (iksC ks)) (hk : ∀ k, k ∈ ks → k < 5) (hl : ks.length ≤ 6) {b o : Nat} (hc : w.cell? ⟨b, o, none⟩ = some v) : SlC 6 InC w b o (ks.map ik) := by
  rcases h.2 with ⟨rfl, h0⟩ | ⟨g, cap, cur, rfl, _, hg, hle, _⟩
  · have : ks = [] := List.eq_nil_of_length_eq_zero h0
    subst this
    exact SlC.none hc
  · refine slc_of (g := g) (cp := cap) (by rw [List.length_map]; exact hc) (fun j y hy => ?_) (by rw [List.length_map]; exact hle) (by rw [List.length_map]; unfold maxLen; omega)
    rw [List.getElem?_map] at hy
    obtain ⟨k, hk1, rfl⟩ := Option.map_eq_some_iff.1 hy
    have hj := (List.getElem?_eq_some_iff.1 hk1).1
    have hk5 := hk k (List.mem_of_getElem? hk1)
    have ce : ∀ i, i < 6 → w.cell? ⟨g, j * 6 + i, none⟩ = (ikC k)[i]? := fun i hi => by rw [own_cellY h (by omega), iksC_get hk1 i hi]
    exact ⟨IntC.of (ce 0 (by decide)) (by simp [ik]), ⟨ce 1 (by decide), b64_small (by show -100 ≤ (k : Int) + 1 ∧ (k : Int) + 1 ≤ 100; omega)⟩, IntC.of (ce 2 (by decide)) (by simp [ik]), IntC.of (ce 3 (by decide)) (by simp [ik]), IntC.of (ce 4 (by decide)) (by simp [ik]), SlC.none (ce 5 (by decide))⟩
theorem LD.prc {w : World} {n r g cap ab base : Nat} {kl kr : List Nat} {vl vr : Value} {z : Int} {T5 : TypeId} (h : LD w n r g cap ab base kl kr vl vr z T5) (hl : (∀ k, k ∈ kl → k < 5) ∧ kl.length ≤ 6) (hr : (∀ k, k ∈ kr → k < 5) ∧ kr.length ≤ 6) (hz : -100 ≤ z ∧ z ≤ 100) : PrC w (n + 5) 0 (prD kl kr z) := by
  have i : InC w (n + 2) 0 in1 := ⟨IntC.of (hcell h.h2 0) (by simp [in1]), IntC.of (hcell h.h2 1) (by simp [in1]), IntC.of (hcell h.h2 2) (by simp [in1]), IntC.of (hcell h.h2 3) (by simp [in1]), IntC.of (hcell h.h2 4) (by simp [in1]), SlC.none (hcell h.h2 5)⟩
  have b0 : BlC w g 0 ⟨[in1], 2, 0, 1, 2⟩ := ⟨SlC.one (h.cell (i := 0) (by decide)) i, IntC.of (h.cell (i := 1) (by decide)) (by simp), IntC.of (h.cell (i := 2) (by decide)) (by simp), IntC.of (h.cell (i := 3) (by decide)) (by simp), IntC.of (h.cell (i := 4) (by decide)) (by simp)⟩
  have b1 : BlC w g 5 ⟨kl.map ik, 1, 0, 3, 0⟩ := ⟨code_D h.cl hl.1 hl.2 (h.cell (i := 5) (by decide)), IntC.of (h.cell (i := 6) (by decide)) (by simp), IntC.of (h.cell (i := 7) (by decide)) (by simp), IntC.of (h.cell (i := 8) (by decide)) (by simp), IntC.of (h.cell (i := 9) (by decide)) (by simp)⟩
  have b2 : BlC w g 10 ⟨kr.map ik, 1, 0, 3, 0⟩ := ⟨code_D h.cr hr.1 hr.2 (h.cell (i := 10) (by decide)), IntC.of (h.cell (i := 11) (by decide)) (by simp), IntC.of (h.cell (i := 12) (by decide)) (by simp), IntC.of (h.cell (i := 13) (by decide)) (by simp), IntC.of (h.cell (i := 14) (by decide)) (by simp)⟩
  have b3 : BlC w g 15 ⟨[], 3, z, 0, 0⟩ := ⟨SlC.none (h.cell (i := 15) (by decide)), IntC.of (h.cell (i := 16) (by decide)) (by simp), IntC.of (h.cell (i := 17) (by decide)) hz, IntC.of (h.cell (i := 18) (by decide)) (by simp), IntC.of (h.cell (i := 19) (by decide)) (by simp)⟩
  have t : ∀ j, j < 6 → TyC w r (j * 2) (0, 0) := fun j hj => by
    match j, hj with
    | 0, _ => exact ⟨IntC.of (hcell h.hr 0) (by simp), IntC.of (hcell h.hr 1) (by simp)⟩
    | 1, _ => exact ⟨IntC.of (hcell h.hr 2) (by simp), IntC.of (hcell h.hr 3) (by simp)⟩
    | 2, _ => exact ⟨IntC.of (hcell h.hr 4) (by simp), IntC.of (hcell h.hr 5) (by simp)⟩
    | 3, _ => exact ⟨IntC.of (hcell h.hr 6) (by simp), IntC.of (hcell h.hr 7) (by simp)⟩
    | 4, _ => exact ⟨IntC.of (hcell h.hr 8) (by simp), IntC.of (hcell h.hr 9) (by simp)⟩
    | 5, _ => exact ⟨IntC.of (hcell h.hr 10) (by simp), IntC.of (hcell h.hr 11) (by simp)⟩
  have f : FuC w (n + 4) 0 (fuD kl kr z) := ⟨IntC.of (hcell h.h4 0) (by simp [fuD]), slc_of (hcell h.h4 1) (fun j y hy => by
      have hj : j < 6 := (List.getElem?_eq_some_iff.1 hy).1
      have e : y = (0, 0) := by
        match j, hj, hy with
        | 0, _, hy => exact (Option.some.inj hy).symm
        | 1, _, hy => exact (Option.some.inj hy).symm
        | 2, _, hy => exact (Option.some.inj hy).symm
        | 3, _, hy => exact (Option.some.inj hy).symm
        | 4, _, hy => exact (Option.some.inj hy).symm
        | 5, _, hy => exact (Option.some.inj hy).symm
      subst e
      exact t j hj) (Nat.le_refl _) (by unfold maxLen; simp [fuD]), slc_of (hcell h.h4 2) (fun j y hy => by
      match j, hy with
      | 0, hy => have e := Option.some.inj hy; subst e; simpa using b0
      | 1, hy => have e := Option.some.inj hy; subst e; simpa using b1
      | 2, hy => have e := Option.some.inj hy; subst e; simpa using b2
      | 3, hy => have e := Option.some.inj hy; subst e; simpa using b3
      | j + 4, hy => cases hy) h.cap4 (by unfold maxLen; simp [fuD])⟩
  have s : SgC w n 0 ([], 0, 0) := ⟨SlC.none (hcell h.h0 0), IntC.of (hcell h.h0 1) (by simp), IntC.of (hcell h.h0 2) (by simp)⟩
  exact ⟨SlC.none (hcell h.h5 0), SlC.one (hcell h.h5 1) s, SlC.none (hcell h.h5 2), SlC.none (hcell h.h5 3), SlC.one (hcell h.h5 4) f, IntC.of (hcell h.h5 5) (by simp [prD])⟩
end Go.Proofs.YtmebkeidpklcbaaDoor
