/-
  AssignLoop: the walk.
-/
import Derived.Test.YtmebkeidpklcbaaDoorZ35
import Derived.Deep.AppendLies
import Derived.Deep.DeepCutAuto
namespace Go.Proofs.YtmebkeidpklcbaaDoor
open Go.RowKit

/-- One while it is turned: its registers, its blocks, the first block's end. -/
structure OF (w : World) (n : Nat) (rv bv : Value) (fin to' els : Int) : Prop where
  h0 : w.heap[n]? = some (.cells #[.slice none 0 0, .int .i64 0, .int .i64 0] 72 (0, 0))
  h2 : w.heap[n + 2]? = some (.cells #[.int .i64 1, .int .i64 0, .int .i64 0, .int .i64 0, .int .i64 7, .slice none 0 0] 65 (0, 0))
  h3 : w.heap[n + 3]? = some (.cells #[.slice (some ⟨n + 2, 0, none⟩) 1 1, .int .i64 fin, .int .i64 0, .int .i64 to', .int .i64 els] 63 (0, 0))
  h4 : w.heap[n + 4]? = some (.cells #[.int .i64 0, rv, bv] 39 (0, 0))
  h5 : w.heap[n + 5]? = some (.cells #[.slice none 0 0, .slice (some ⟨n, 0, none⟩) 1 1, .slice none 0 0, .slice none 0 0, .slice (some ⟨n + 4, 0, none⟩) 1 1, .int .i64 0] 31 (0, 0))
theorem OF.of {w : World} {n : Nat} (h : OneB w n 0) : OF w n (.slice (some ⟨n + 1, 0, none⟩) 1 1) (.slice (some ⟨n + 3, 0, none⟩) 1 1) 3 0 0 := ⟨h.h0, h.h2, h.h3, h.h4, h.h5⟩
theorem OF.quiet {w w' : World} {n : Nat} {rv bv : Value} {fin to' els : Int} (h : OF w n rv bv fin to' els) (k : Keeps [] w w') : OF w' n rv bv fin to' els := ⟨keep_heap h.h0 k, keep_heap h.h2 k, keep_heap h.h3 k, keep_heap h.h4 k, keep_heap h.h5 k⟩
theorem OF.kept {w w' : World} {n : Nat} {rv bv : Value} {fin to' els : Int} {L : List Nat} (h : OF w n rv bv fin to' els) (k : Keeps L w w') (hL : ∀ x, x ∈ L → n + 5 < x) : OF w' n rv bv fin to' els := by
  have key : ∀ j, j ≤ 5 → n + j < w.heap.size → w'.heap[n + j]? = w.heap[n + j]? := fun j hj hl => k.block (n + j) hl (fun hx => by have := hL _ hx; omega)
  exact ⟨(key 0 (by omega) (heap_lt h.h0)).trans h.h0, (key 2 (by omega) (heap_lt h.h2)).trans h.h2, (key 3 (by omega) (heap_lt h.h3)).trans h.h3, (key 4 (by omega) (heap_lt h.h4)).trans h.h4, (key 5 (by omega) (heap_lt h.h5)).trans h.h5⟩
theorem OF.regs {w : World} {n : Nat} {rv bv : Value} {fin to' els : Int} (h : OF w n rv bv fin to' els) (v : Value) : OF (w.setCell ⟨n + 4, 1, none⟩ v) n v bv fin to' els := by
  have k : ∀ j, j ≠ 4 → (w.setCell ⟨n + 4, 1, none⟩ v).heap[n + j]? = w.heap[n + j]? := fun j hj => heap_setCell_other _ _ _ _ (by simp; omega)
  exact ⟨(k 0 (by omega)).trans h.h0, (k 2 (by omega)).trans h.h2, (k 3 (by omega)).trans h.h3, heap_setCell_same _ _ _ _ _ _ h.h4, (k 5 (by omega)).trans h.h5⟩
theorem OF.blocks {w : World} {n : Nat} {rv bv : Value} {fin to' els : Int} (h : OF w n rv bv fin to' els) (v : Value) : OF (w.setCell ⟨n + 4, 2, none⟩ v) n rv v fin to' els := by
  have k : ∀ j, j ≠ 4 → (w.setCell ⟨n + 4, 2, none⟩ v).heap[n + j]? = w.heap[n + j]? := fun j hj => heap_setCell_other _ _ _ _ (by simp; omega)
  exact ⟨(k 0 (by omega)).trans h.h0, (k 2 (by omega)).trans h.h2, (k 3 (by omega)).trans h.h3, heap_setCell_same _ _ _ _ _ _ h.h4, (k 5 (by omega)).trans h.h5⟩
theorem OF.fin {w : World} {n : Nat} {rv bv : Value} {fin to' els : Int} (h : OF w n rv bv fin to' els) (z : Int) : OF (w.setCell ⟨n + 3, 1, none⟩ (.int .i64 z)) n rv bv z to' els := by
  have k : ∀ j, j ≠ 3 → (w.setCell ⟨n + 3, 1, none⟩ (.int .i64 z)).heap[n + j]? = w.heap[n + j]? := fun j hj => heap_setCell_other _ _ _ _ (by simp; omega)
  exact ⟨(k 0 (by omega)).trans h.h0, (k 2 (by omega)).trans h.h2, heap_setCell_same _ _ _ _ _ _ h.h3, (k 4 (by omega)).trans h.h4, (k 5 (by omega)).trans h.h5⟩
theorem OF.to {w : World} {n : Nat} {rv bv : Value} {fin to' els : Int} (h : OF w n rv bv fin to' els) (z : Int) : OF (w.setCell ⟨n + 3, 3, none⟩ (.int .i64 z)) n rv bv fin z els := by
  have k : ∀ j, j ≠ 3 → (w.setCell ⟨n + 3, 3, none⟩ (.int .i64 z)).heap[n + j]? = w.heap[n + j]? := fun j hj => heap_setCell_other _ _ _ _ (by simp; omega)
  exact ⟨(k 0 (by omega)).trans h.h0, (k 2 (by omega)).trans h.h2, heap_setCell_same _ _ _ _ _ _ h.h3, (k 4 (by omega)).trans h.h4, (k 5 (by omega)).trans h.h5⟩
theorem OF.els {w : World} {n : Nat} {rv bv : Value} {fin to' els : Int} (h : OF w n rv bv fin to' els) (z : Int) : OF (w.setCell ⟨n + 3, 4, none⟩ (.int .i64 z)) n rv bv fin to' z := by
  have k : ∀ j, j ≠ 3 → (w.setCell ⟨n + 3, 4, none⟩ (.int .i64 z)).heap[n + j]? = w.heap[n + j]? := fun j hj => heap_setCell_other _ _ _ _ (by simp; omega)
  exact ⟨(k 0 (by omega)).trans h.h0, (k 2 (by omega)).trans h.h2, heap_setCell_same _ _ _ _ _ _ h.h3, (k 4 (by omega)).trans h.h4, (k 5 (by omega)).trans h.h5⟩
theorem slc_of {α : Type} {w : World} {c : Nat} {R : World → Nat → Nat → α → Prop} {b o g cp : Nat} {l : List α} (hc : w.cell? ⟨b, o, none⟩ = some (.slice (some ⟨g, 0, none⟩) l.length cp)) (hr : ∀ j y, l[j]? = some y → R w g (j * c) y) (hcp : l.length ≤ cp) (hm : l.length ≤ maxLen) : SlC c R w b o l :=
  ⟨_, cp, hc, .inr ⟨g, 0, rfl, fun j y hy => by rw [Nat.zero_add]; exact hr j y hy⟩, hcp, hm⟩
theorem own_litY {w : World} {g base : Nat} {cs : Array Value} {e : TypeId} {size n : Nat} (h : w.heap[g]? = some (.cells cs e (0, 0))) (hb : base ≤ g) (hs : cs.size = n * size) (hm : n ≤ maxLen) : w.ownsRow base e size (.slice (some ⟨g, 0, none⟩) n n) n cs.toList :=
  ⟨by rw [Array.length_toList, hs], .inr ⟨g, n, cs, rfl, hb, h, Nat.le_refl _, hm, hs, by rw [← hs, ← Array.length_toList, List.take_length]⟩⟩
theorem own_cellY {w : World} {g base : Nat} {xs : List Value} {e : TypeId} {size n cap : Nat} (h : w.ownsRow base e size (.slice (some ⟨g, 0, none⟩) n cap) n xs) {i : Nat} (hi : i < n * size) : w.cell? ⟨g, i, none⟩ = xs[i]? := by
  rcases h.2 with ⟨hv, _⟩ | ⟨g', cap', cur, hv, _, hg, _, _, _, ht⟩
  · cases hv
  · cases hv
    rw [cell_of_row w g i cur _ _ hg, ← ht, List.getElem?_take, if_pos hi]
    simp
theorem own_capY {w : World} {g base : Nat} {xs : List Value} {e : TypeId} {size n cap : Nat} (h : w.ownsRow base e size (.slice (some ⟨g, 0, none⟩) n cap) n xs) : n ≤ cap := by
  rcases h.2 with ⟨hv, _⟩ | ⟨g', cap', cur, hv, _, _, hl, _⟩
  · cases hv
  · cases hv
    exact hl
theorem grownY {w w' : World} {r : Option Nat} {b : Nat} {cs : Array Value} {T : TypeId} (hg : w.grownBy w' r) (h : w.heap[b]? = some (.cells cs T (0, 0))) (hn : r ≠ some b) : w'.heap[b]? = some (.cells cs T (0, 0)) := by
  rw [hg.block b (heap_lt h) (fun e => hn e.symm)]
  exact h
theorem row_neY {w : World} {base n : Nat} {v : Value} {xs : List Value} {T : TypeId} {c b : Nat} {cs : Array Value} {U : TypeId} (h : w.ownsRow base T c v n xs) (hb : w.heap[b]? = some (.cells cs U (0, 0))) (hne : T ≠ U) : v.ownBlock ≠ some b := by
  intro e
  rcases h.2 with ⟨rfl, _⟩ | ⟨g, cap, cur, rfl, _, hg, _⟩
  · simp [Value.ownBlock] at e
  · simp [Value.ownBlock] at e
    subst e
    rw [hg] at hb
    simp at hb
    exact hne hb.2
theorem under_bksY : Tryd.prog.underlying 37 = some (.slice 63) := by kernel_rfl
theorem info_bkY : Tryd.prog.info? 63 = some Tryd.t63 := by kernel_rfl
theorem zero_bkY : Tryd.t63.zero = some (.agg #[.slice none 0 0, .int .i64 0, .int .i64 0, .int .i64 0, .int .i64 0]) := by kernel_rfl
theorem size_bkY : Tryd.t63.size = 5 := by kernel_rfl
theorem bytes_bkY : Tryd.t63.bytes = 56 := by kernel_rfl
def useL : In8 := ⟨15, 0, 1, 0, 0, []⟩
def defL : In8 := ⟨1, 1, 0, 0, 0, []⟩
def prL (c : List In8) : Pr8 := ⟨[], [([], 0, 0)], [], [], [⟨0, [(0, 0), (0, 0)], [⟨[in1], 1, 0, 1, 0⟩, ⟨c, 2, 0, 1, 2⟩, ⟨[], 3, 1, 0, 0⟩]⟩], 0⟩
theorem lp_yes : (pts (prL [defL, useL])).find? (badP (prL [defL, useL])) = none := by decide +kernel
theorem lp_no : (pts (prL [useL, defL])).find? (badP (prL [useL, defL])) = some (0, 1, 0) := by decide +kernel
/-- The program behind the loop, as it lies. -/
structure LF (w : World) (n r c g cap : Nat) (cc : Array Value) (base : Nat) : Prop where
  h0 : w.heap[n]? = some (.cells #[.slice none 0 0, .int .i64 0, .int .i64 0] 72 (0, 0))
  h2 : w.heap[n + 2]? = some (.cells #[.int .i64 1, .int .i64 0, .int .i64 0, .int .i64 0, .int .i64 7, .slice none 0 0] 65 (0, 0))
  hr : w.heap[r]? = some (.cells #[.int .i64 0, .int .i64 0, .int .i64 0, .int .i64 0] 70 (0, 0))
  hc : w.heap[c]? = some (.cells cc 65 (0, 0))
  row : w.ownsRow base 63 5 (.slice (some ⟨g, 0, none⟩) 3 cap) 3 ([.slice (some ⟨n + 2, 0, none⟩) 1 1, .int .i64 1, .int .i64 0, .int .i64 1, .int .i64 0] ++ [.slice (some ⟨c, 0, none⟩) 2 2, .int .i64 2, .int .i64 0, .int .i64 1, .int .i64 2, .slice none 0 0, .int .i64 3, .int .i64 1, .int .i64 0, .int .i64 0])
  h4 : w.heap[n + 4]? = some (.cells #[.int .i64 0, .slice (some ⟨r, 0, none⟩) 2 2, .slice (some ⟨g, 0, none⟩) 3 cap] 39 (0, 0))
  h5 : w.heap[n + 5]? = some (.cells #[.slice none 0 0, .slice (some ⟨n, 0, none⟩) 1 1, .slice none 0 0, .slice none 0 0, .slice (some ⟨n + 4, 0, none⟩) 1 1, .int .i64 0] 31 (0, 0))
/-- Two instructions, as they lie. -/
def icL (x : In8) : List Value := [.int .i64 x.op, .int .i64 x.dst, .int .i64 x.a, .int .i64 x.b, .int .i64 x.n, .slice none 0 0]
theorem LF.prc {w : World} {n r c g cap base : Nat} {cc : Array Value} {x y : In8} (h : LF w n r c g cap cc base) (hcc : cc = (icL x ++ icL y).toArray) (hx : x = useL ∧ y = defL ∨ x = defL ∧ y = useL) : PrC w (n + 5) 0 (prL [x, y]) := by
  have i : InC w (n + 2) 0 in1 := ⟨IntC.of (hcell h.h2 0) (by simp [in1]), IntC.of (hcell h.h2 1) (by simp [in1]), IntC.of (hcell h.h2 2) (by simp [in1]), IntC.of (hcell h.h2 3) (by simp [in1]), IntC.of (hcell h.h2 4) (by simp [in1]), SlC.none (hcell h.h2 5)⟩
  have hsm : ∀ z ∈ [useL, defL], (-100 ≤ z.op ∧ z.op ≤ 100) ∧ (-100 ≤ z.dst ∧ z.dst ≤ 100) ∧ (-100 ≤ z.a ∧ z.a ≤ 100) ∧ (-100 ≤ z.b ∧ z.b ≤ 100) ∧ (-100 ≤ z.n ∧ z.n ≤ 100) ∧ z.args = [] := by decide
  have ci : ∀ (z : In8) (o : Nat), z ∈ [useL, defL] → (∀ k, k < 6 → w.cell? ⟨c, o + k, none⟩ = (icL z)[k]?) → InC w c o z := by
    intro z o hz hk
    obtain ⟨s0, s1, s2, s3, s4, s5⟩ := hsm z hz
    refine ⟨IntC.of (hk 0 (by decide)) s0, IntC.of (hk 1 (by decide)) s1, IntC.of (hk 2 (by decide)) s2, IntC.of (hk 3 (by decide)) s3, IntC.of (hk 4 (by decide)) s4, ?_⟩
    rw [s5]
    exact SlC.none (hk 5 (by decide))
  have hxm : x ∈ [useL, defL] ∧ y ∈ [useL, defL] := by rcases hx with ⟨rfl, rfl⟩ | ⟨rfl, rfl⟩ <;> simp
  have ix : InC w c 0 x := ci x 0 hxm.1 (fun k hk => by
    rw [hcell h.hc (0 + k), hcc, Nat.zero_add, List.getElem?_toArray, List.getElem?_append_left (by simpa [icL] using hk)])
  have iy : InC w c 6 y := ci y 6 hxm.2 (fun k hk => by
    rw [hcell h.hc (6 + k), hcc, List.getElem?_toArray, List.getElem?_append_right (by simp [icL])]
    simp [icL])
  have rc : ∀ k, k < 15 → w.cell? ⟨g, k, none⟩ = _ := fun k hk => own_cellY h.row (by omega)
  have b0 : BlC w g 0 ⟨[in1], 1, 0, 1, 0⟩ := ⟨SlC.one (rc 0 (by decide)) i, IntC.of (rc 1 (by decide)) (by simp), IntC.of (rc 2 (by decide)) (by simp), IntC.of (rc 3 (by decide)) (by simp), IntC.of (rc 4 (by decide)) (by simp)⟩
  have b1 : BlC w g 5 ⟨[x, y], 2, 0, 1, 2⟩ := ⟨slc_of (rc 5 (by decide)) (fun j z hz => by
      match j, hz with
      | 0, hz => simp at hz; subst hz; simpa using ix
      | 1, hz => simp at hz; subst hz; simpa using iy
      | j + 2, hz => simp at hz) (Nat.le_refl _) (by unfold maxLen; simp), IntC.of (rc 6 (by decide)) (by simp), IntC.of (rc 7 (by decide)) (by simp), IntC.of (rc 8 (by decide)) (by simp), IntC.of (rc 9 (by decide)) (by simp)⟩
  have b2 : BlC w g 10 ⟨[], 3, 1, 0, 0⟩ := ⟨SlC.none (rc 10 (by decide)), IntC.of (rc 11 (by decide)) (by simp), IntC.of (rc 12 (by decide)) (by simp), IntC.of (rc 13 (by decide)) (by simp), IntC.of (rc 14 (by decide)) (by simp)⟩
  have t0 : TyC w r 0 (0, 0) := ⟨IntC.of (hcell h.hr 0) (by simp), IntC.of (hcell h.hr 1) (by simp)⟩
  have t1 : TyC w r 2 (0, 0) := ⟨IntC.of (hcell h.hr 2) (by simp), IntC.of (hcell h.hr 3) (by simp)⟩
  have f : FuC w (n + 4) 0 ⟨0, [(0, 0), (0, 0)], [⟨[in1], 1, 0, 1, 0⟩, ⟨[x, y], 2, 0, 1, 2⟩, ⟨[], 3, 1, 0, 0⟩]⟩ := ⟨IntC.of (hcell h.h4 0) (by simp), slc_of (hcell h.h4 1) (fun j z hz => by
      match j, hz with
      | 0, hz => simp at hz; subst hz; simpa using t0
      | 1, hz => simp at hz; subst hz; simpa using t1
      | j + 2, hz => simp at hz) (Nat.le_refl _) (by unfold maxLen; simp), slc_of (hcell h.h4 2) (fun j z hz => by
      match j, hz with
      | 0, hz => simp at hz; subst hz; simpa using b0
      | 1, hz => simp at hz; subst hz; simpa using b1
      | 2, hz => simp at hz; subst hz; simpa using b2
      | j + 3, hz => simp at hz) (own_capY h.row) (by unfold maxLen; simp)⟩
  have s : SgC w n 0 ([], 0, 0) := ⟨SlC.none (hcell h.h0 0), IntC.of (hcell h.h0 1) (by simp), IntC.of (hcell h.h0 2) (by simp)⟩
  exact ⟨SlC.none (hcell h.h5 0), SlC.one (hcell h.h5 1) s, SlC.none (hcell h.h5 2), SlC.none (hcell h.h5 3), SlC.one (hcell h.h5 4) f, IntC.of (hcell h.h5 5) (by simp [prL])⟩
theorem LF.quiet {w w' : World} {n r c g cap base : Nat} {cc : Array Value} (h : LF w n r c g cap cc base) (k : Keeps [] w w') : LF w' n r c g cap cc base :=
  ⟨keep_heap h.h0 k, keep_heap h.h2 k, keep_heap h.hr k, keep_heap h.hc k, ownsRow_keeps h.row k (fun _ _ => by simp), keep_heap h.h4 k, keep_heap h.h5 k⟩
set_option maxRecDepth 20000 in
set_option maxHeartbeats 4000000 in
theorem lp_walk (ins : Bool) (w : World) (hg : Glob w) (hT : TabAt w) : Calls Tryd.prog 7 #[.bool ins] w fun e w' => e = .returned (.bool true) ∧ Keeps [] w w' := by
  have HG := hid hg
  have HT := hid hT
  have HB := hid (begun11_any w hg hT)
  have H1 := hid fun (w' : World) => one_any w'
  clear hg hT
  go_enter Tryd.func7, Tryd.ntmps7
  go_wp2_with fail
  refine HB.out.mono ?_
  rintro e w1 ⟨rfl, k1⟩
  have K1 := hid k1
  clear HB k1
  go_wp2_with fail
  refine (H1.out _).mono ?_
  rintro e w2 ⟨rfl, o2, k2⟩
  have O2 := hid (OF.of o2)
  have K2 := hid (K1.out.quiet k2)
  have HW : Box (w.heap.size ≤ w1.heap.size) := hid K1.out.size
  have hlt := heap_lt o2.h5
  obtain ⟨n, hn⟩ : ∃ n, n = w1.heap.size := ⟨_, rfl⟩
  rw [← hn] at O2 hlt HW ⊢
  clear o2 k2 hn K1 H1
  have p4 := hcell O2.out.h5 4
  have ka := Keeps.alloc [] w2 (.cells #[.int .i64 0, .int .i64 0, .int .i64 0, .int .i64 0] 70)
  have f1 := cell_stays ka (hcell O2.out.h4 1)
  have z1 := hfrozen (keep_heap O2.out.h4 ka) 1
  have hmk : ∀ w, (Instr.makeSlice 36 (.int .i64 2) (.int .i64 2)).run Tryd.prog w = .ok (.slice (some ⟨w.heap.size, 0, none⟩) 2 2) (w.alloc (.cells #[.int .i64 0, .int .i64 0, .int .i64 0, .int .i64 0] 70)) := fun w => by kernel_rfl
  go_upto_region 7 with fail
  have O3 := hid ((O2.out.quiet ka).regs (.slice (some ⟨w2.heap.size, 0, none⟩) 2 2))
  have K3 := hid ((K2.out.quiet ka).fresh (Keeps.setCell [n + 4] (w2.alloc (.cells #[.int .i64 0, .int .i64 0, .int .i64 0, .int .i64 0] 70)) ⟨n + 4, 1, none⟩ (.slice (some ⟨w2.heap.size, 0, none⟩) 2 2) (by simp)) (fun x hx => by have := HW.out; simp at hx; omega))
  have R3 : Box (((w2.alloc (.cells #[.int .i64 0, .int .i64 0, .int .i64 0, .int .i64 0] 70)).setCell ⟨n + 4, 1, none⟩ (.slice (some ⟨w2.heap.size, 0, none⟩) 2 2)).heap[w2.heap.size]? = some (.cells #[.int .i64 0, .int .i64 0, .int .i64 0, .int .i64 0] 70 (0, 0))) := hid (by
    rw [heap_setCell_other _ _ _ _ (by simp; omega)]
    exact heap_new w2 _)
  clear p4 ka f1 z1 hmk O2 K2
  generalize (w2.alloc (.cells #[.int .i64 0, .int .i64 0, .int .i64 0, .int .i64 0] 70)).setCell ⟨n + 4, 1, none⟩ (.slice (some ⟨w2.heap.size, 0, none⟩) 2 2) = W3 at *
  generalize w2.heap.size = r at *
  go_upto_region 8 with fail
  have ka1 := Keeps.alloc [] W3 (.cells #[.int .i64 15, .int .i64 0, .int .i64 1, .int .i64 0, .int .i64 0, .slice none 0 0] 65)
  have ka2 := Keeps.alloc [] (W3.alloc (.cells #[.int .i64 15, .int .i64 0, .int .i64 1, .int .i64 0, .int .i64 0, .slice none 0 0] 65)) (.cells #[.int .i64 1, .int .i64 1, .int .i64 0, .int .i64 0, .int .i64 0, .slice none 0 0] 65)
  have O4 := hid (O3.out.quiet (ka1.quiet ka2))
  have K4 := hid (K3.out.quiet (ka1.quiet ka2))
  have R4 := hid (keep_heap R3.out (ka1.quiet ka2))
  have U4 := hid (keep_heap (heap_new W3 (.cells #[.int .i64 15, .int .i64 0, .int .i64 1, .int .i64 0, .int .i64 0, .slice none 0 0] 65)) ka2)
  have D4 := hid (heap_new (W3.alloc (.cells #[.int .i64 15, .int .i64 0, .int .i64 1, .int .i64 0, .int .i64 0, .slice none 0 0] 65)) (.cells #[.int .i64 1, .int .i64 1, .int .i64 0, .int .i64 0, .int .i64 0, .slice none 0 0] 65))
  have hrl : r < W3.heap.size := heap_lt R3.out
  have hnl : n + 5 < W3.heap.size := heap_lt O3.out.h5
  rw [World.size_alloc] at D4
  clear ka1 ka2 O3 K3 R3
  generalize (W3.alloc (.cells #[.int .i64 15, .int .i64 0, .int .i64 1, .int .i64 0, .int .i64 0, .slice none 0 0] 65)).alloc (.cells #[.int .i64 1, .int .i64 1, .int .i64 0, .int .i64 0, .int .i64 0, .slice none 0 0] 65) = W4 at *
  generalize W3.heap.size = u at *
  have fb := hcell O4.out.h4 2
  have b1 := hcell O4.out.h3 1
  have y1 := hfrozen O4.out.h3 1
  have b3 := hcell O4.out.h3 3
  have y3 := hfrozen O4.out.h3 3
  go_cut [35] (fun t35 wz => Box (OF wz n (.slice (some ⟨r, 0, none⟩) 2 2) (.slice (some ⟨n + 3, 0, none⟩) 1 1) 1 1 0) ∧ Box (Keeps [] w wz) ∧ Box (wz.heap[r]? = some (.cells #[.int .i64 0, .int .i64 0, .int .i64 0, .int .i64 0] 70 (0, 0))) ∧ Box (wz.heap[u]? = some (.cells #[.int .i64 15, .int .i64 0, .int .i64 1, .int .i64 0, .int .i64 0, .slice none 0 0] 65 (0, 0))) ∧ Box (wz.heap[u + 1]? = some (.cells #[.int .i64 1, .int .i64 1, .int .i64 0, .int .i64 0, .int .i64 0, .slice none 0 0] 65 (0, 0))))
  case first =>
    have K4d : Keeps [] w W4.drew := K4.out.quiet (Keeps.drew [] _)
    have kk : Keeps [n + 3] W4.drew ((W4.drew.setCell ⟨n + 3, 1, none⟩ (.int .i64 1)).setCell ⟨n + 3, 3, none⟩ (.int .i64 1)) := (Keeps.setCell [n + 3] _ _ _ (by simp)).step (Keeps.setCell [n + 3] _ _ _ (by simp))
    have FF : Box (OF ((W4.drew.setCell ⟨n + 3, 1, none⟩ (.int .i64 1)).setCell ⟨n + 3, 3, none⟩ (.int .i64 1)) n (.slice (some ⟨r, 0, none⟩) 2 2) (.slice (some ⟨n + 3, 0, none⟩) 1 1) 1 1 0) := hid (((O4.out.quiet (Keeps.drew [] _)).fin 1).to 1)
    have FK := hid (K4d.fresh kk (fun x hx => by have := HW.out; simp at hx; omega))
    have FB : Box (∀ b cs (T : TypeId), b ≠ n + 3 → W4.heap[b]? = some (.cells cs T (0, 0)) → ((W4.drew.setCell ⟨n + 3, 1, none⟩ (.int .i64 1)).setCell ⟨n + 3, 3, none⟩ (.int .i64 1)).heap[b]? = some (.cells cs T (0, 0))) := hid fun b cs T hb h => by
      rw [kk.block b (heap_lt h) (by simp; omega)]
      exact h
    clear kk K4d
    go_region
    all_goals
      go_wp2_with fail
      go_meet
      exact ⟨FF, FK, hid (FB.out _ _ _ (by omega) R4.out), hid (FB.out _ _ _ (by omega) U4.out), hid (FB.out _ _ _ (by omega) D4.out)⟩
  case rest =>
    clear fb b1 y1 b3 y3 O4 K4 R4 U4 D4
    obtain ⟨O5, K5, R5, U5, D5⟩ := hcut
    have e0 := hcell U5.out 0
    have e1 := hcell U5.out 1
    have e2 := hcell U5.out 2
    have e3 := hcell U5.out 3
    have e4 := hcell U5.out 4
    have e5 := hcell U5.out 5
    have g0 := hcell D5.out 0
    have g1 := hcell D5.out 1
    have g2 := hcell D5.out 2
    have g3 := hcell D5.out 3
    have g4 := hcell D5.out 4
    have g5 := hcell D5.out 5
    go_upto_region 10 with fail
    have ka := Keeps.alloc [] wc (.cells #[.int .i64 15, .int .i64 0, .int .i64 1, .int .i64 0, .int .i64 0, .slice none 0 0, .int .i64 1, .int .i64 1, .int .i64 0, .int .i64 0, .int .i64 0, .slice none 0 0] 65)
    have O6 := hid (O5.out.quiet ka)
    have K6 := hid (K5.out.quiet ka)
    have R6 := hid (keep_heap R5.out ka)
    have U6 := hid (keep_heap U5.out ka)
    have D6 := hid (keep_heap D5.out ka)
    have C6 := hid (heap_new wc (.cells #[.int .i64 15, .int .i64 0, .int .i64 1, .int .i64 0, .int .i64 0, .slice none 0 0, .int .i64 1, .int .i64 1, .int .i64 0, .int .i64 0, .int .i64 0, .slice none 0 0] 65))
    have hcl : n + 5 < wc.heap.size ∧ r < wc.heap.size := ⟨heap_lt O5.out.h5, heap_lt R5.out⟩
    clear ka e0 e1 e2 e3 e4 e5 g0 g1 g2 g3 g4 g5 O5 K5 R5 U5 D5
    generalize wc.alloc (.cells #[.int .i64 15, .int .i64 0, .int .i64 1, .int .i64 0, .int .i64 0, .slice none 0 0, .int .i64 1, .int .i64 1, .int .i64 0, .int .i64 0, .int .i64 0, .slice none 0 0] 65) = W6 at *
    generalize wc.heap.size = c6 at *
    cases ins with
    | false =>
      have O7 := O6
      have K7 := K6
      have R7 := R6
      have C7 := C6
      clear O6 K6 R6 C6 U6 D6
      obtain ⟨W7, hW7⟩ : ∃ W7, W7 = W6 := ⟨_, rfl⟩
      obtain ⟨c, hc⟩ : ∃ c, c = c6 := ⟨_, rfl⟩
      rw [← hW7] at O7 K7 R7 C7 ⊢
      rw [← hc] at C7 hcl ⊢
      clear hW7 hc
      go_upto_region 12 with fail
      have fb := hcell O7.out.h4 2
      have OWN : Box (W7.ownsRow n 63 5 (.slice (some ⟨n + 3, 0, none⟩) 1 1) 1 [.slice (some ⟨n + 2, 0, none⟩) 1 1, .int .i64 1, .int .i64 0, .int .i64 1, .int .i64 0]) := hid (own_litY O7.out.h3 (by omega) rfl (by unfold maxLen; omega))
      have hnw : n ≤ W7.heap.size := by have := heap_lt O7.out.h5; omega
      have HNEW : Box (∀ j v, ([.slice (some ⟨c, 0, none⟩) 2 2, .int .i64 2, .int .i64 0, .int .i64 1, .int .i64 2, .slice none 0 0, .int .i64 3, .int .i64 1, .int .i64 0, .int .i64 0] : List Value)[j]? = some v → (W7.alloc (.cells #[.slice (some ⟨c, 0, none⟩) 2 2, .int .i64 2, .int .i64 0, .int .i64 1, .int .i64 2, .slice none 0 0, .int .i64 3, .int .i64 1, .int .i64 0, .int .i64 0] 63)).cell? ((⟨W7.heap.size, 0, none⟩ : Addr).add j) = some v) := hid (fun j v hv => by
        have hx := heap_new W7 (.cells #[.slice (some ⟨c, 0, none⟩) 2 2, .int .i64 2, .int .i64 0, .int .i64 1, .int .i64 2, .slice none 0 0, .int .i64 3, .int .i64 1, .int .i64 0, .int .i64 0] 63)
        rw [Addr.add_lit, hcell hx (0 + j), Nat.zero_add]
        rw [← hv]
        exact List.getElem?_toArray ..)
      have HONE : Box (∀ v ∈ ([.slice (some ⟨c, 0, none⟩) 2 2, .int .i64 2, .int .i64 0, .int .i64 1, .int .i64 2, .slice none 0 0, .int .i64 3, .int .i64 1, .int .i64 0, .int .i64 0] : List Value), v.oneCell' = true) := hid (List.all_eq_true.1 (rfl : List.all ([.slice (some ⟨c, 0, none⟩) 2 2, .int .i64 2, .int .i64 0, .int .i64 1, .int .i64 2, .slice none 0 0, .int .i64 3, .int .i64 1, .int .i64 0, .int .i64 0] : List Value) (fun v => v.oneCell') = true))
      have ka := Keeps.alloc [] W7 (.cells #[.slice (some ⟨c, 0, none⟩) 2 2, .int .i64 2, .int .i64 0, .int .i64 1, .int .i64 2, .slice none 0 0, .int .i64 3, .int .i64 1, .int .i64 0, .int .i64 0] 63)
      have H47 := hid (keep_heap O7.out.h4 ka)
      have KA := hid ka
      clear ka
      go_upto_region 13 with (at_builtin; go_must (refine wpList_append_lies _ rfl _ _ 37 rfl n 63 Tryd.t63 (.agg #[.slice none 0 0, .int .i64 0, .int .i64 0, .int .i64 0, .int .i64 0]) 5 56 under_bksY info_bkY zero_bkY size_bkY bytes_bkY rfl (by decide) (.slice (some ⟨n + 3, 0, none⟩) 1 1) 1 [.slice (some ⟨n + 2, 0, none⟩) 1 1, .int .i64 1, .int .i64 0, .int .i64 1, .int .i64 0] rfl (OWN.out.alloc _) ⟨W7.heap.size, 0, none⟩ 2 2 [.slice (some ⟨c, 0, none⟩) 2 2, .int .i64 2, .int .i64 0, .int .i64 1, .int .i64 2, .slice none 0 0, .int .i64 3, .int .i64 1, .int .i64 0, .int .i64 0] rfl rfl HNEW.out HONE.out (by decide) (by unfold maxLen; omega) (by omega) (by simp; omega) (W7.heap.size + 1) (by simp) ?_; intro g cap w8 hown hgrow hat hlt8; have h48 := grownY hgrow H47.out (by simp [Value.ownBlock]); have qb := hcell h48 2; have yb := hfrozen h48 2))
      have k8 : Keeps [n + 3] (W7.alloc (.cells #[.slice (some ⟨c, 0, none⟩) 2 2, .int .i64 2, .int .i64 0, .int .i64 1, .int .i64 2, .slice none 0 0, .int .i64 3, .int .i64 1, .int .i64 0, .int .i64 0] 63)) w8 := Keeps.grown _ hgrow (fun k hk => by simp [Value.ownBlock] at hk; simp [hk])
      have k9 : Keeps [n + 4] w8 (w8.setCell ⟨n + 4, 2, none⟩ (.slice (some ⟨g, 0, none⟩) (1 + 2) cap)) := Keeps.setCell _ _ _ _ (by simp)
      have KF := hid (((K7.out.quiet KA.out).fresh k8 (fun x hx => by have := HW.out; simp at hx; omega)).fresh k9 (fun x hx => by have := HW.out; simp at hx; omega))
      have FB : ∀ b cs (T : TypeId), b ≠ n + 3 → b ≠ n + 4 → W7.heap[b]? = some (.cells cs T (0, 0)) → (w8.setCell ⟨n + 4, 2, none⟩ (.slice (some ⟨g, 0, none⟩) (1 + 2) cap)).heap[b]? = some (.cells cs T (0, 0)) := fun b cs T h1 h2 h => by
        have h3 := keep_heap h KA.out
        rw [k9.block b (Nat.lt_of_lt_of_le (heap_lt h3) k8.size) (by simp; omega), k8.block b (heap_lt h3) (by simp; omega)]
        exact h3
      have LL : Box (LF (w8.setCell ⟨n + 4, 2, none⟩ (.slice (some ⟨g, 0, none⟩) (1 + 2) cap)) n r c g cap #[.int .i64 15, .int .i64 0, .int .i64 1, .int .i64 0, .int .i64 0, .slice none 0 0, .int .i64 1, .int .i64 1, .int .i64 0, .int .i64 0, .int .i64 0, .slice none 0 0] n) := hid
        ⟨FB _ _ _ (by omega) (by omega) O7.out.h0, FB _ _ _ (by omega) (by omega) O7.out.h2, FB _ _ _ (by omega) (by omega) R7.out, FB _ _ _ (by omega) (by omega) C7.out,
         ownsRow_keeps hown k9 (fun b hb hx => by simp at hx; subst hx; exact row_neY hown h48 (by decide) hb), heap_setCell_same _ _ _ _ _ _ h48, FB _ _ _ (by omega) (by omega) O7.out.h5⟩
      clear FB k8 k9 hown hgrow hat hlt8 h48 qb yb fb OWN HNEW H47 KA K7 R7 C7 O7
      generalize w8.setCell ⟨n + 4, 2, none⟩ (.slice (some ⟨g, 0, none⟩) (1 + 2) cap) = W9 at *
      have HCK := hid (check_any (LL.out.prc (x := useL) (y := defL) rfl (.inl ⟨rfl, rfl⟩)) (HT.out.kept KF.out (by simp)) (szB_sz (by decide +kernel)))
      rw [lp_no] at HCK
      go_wp2_with fail
      refine HCK.out.mono ?_
      rintro e wA ⟨pA, rfl, rA, kA⟩
      have KA := hid (KF.out.quiet kA)
      have HSY : Box (Calls Tryd.prog 15 #[errV pA, .int .i64 5, .agg #[.int .i64 0, .int .i64 1, .int .i64 0]] wA fun e w' => e = .returned (.bool true) ∧ Keeps [] wA w') := hid (says_at (f := 0) (b := 1) (i := 0) (HG.out.quiet (KF.out.quiet kA)) rA (by decide))
      clear kA rA
      go_wp2_with fail
      refine HSY.out.mono ?_
      rintro e wB ⟨rfl, kB⟩
      have KB := hid (KA.out.quiet kB)
      clear kB
      go_wp2_with fail
      go_ret
      exact ⟨rfl, KB.out⟩
    | true =>
      have e0 := hcell U6.out 0
      have e1 := hcell U6.out 1
      have e2 := hcell U6.out 2
      have e3 := hcell U6.out 3
      have e4 := hcell U6.out 4
      have e5 := hcell U6.out 5
      have g0 := hcell D6.out 0
      have g1 := hcell D6.out 1
      have g2 := hcell D6.out 2
      have g3 := hcell D6.out 3
      have g4 := hcell D6.out 4
      have g5 := hcell D6.out 5
      go_upto_region 12 with fail
      have ka := Keeps.alloc [] W6 (.cells #[.int .i64 1, .int .i64 1, .int .i64 0, .int .i64 0, .int .i64 0, .slice none 0 0, .int .i64 15, .int .i64 0, .int .i64 1, .int .i64 0, .int .i64 0, .slice none 0 0] 65)
      have O7 := hid (O6.out.quiet ka)
      have K7 := hid (K6.out.quiet ka)
      have R7 := hid (keep_heap R6.out ka)
      have C7 := hid (heap_new W6 (.cells #[.int .i64 1, .int .i64 1, .int .i64 0, .int .i64 0, .int .i64 0, .slice none 0 0, .int .i64 15, .int .i64 0, .int .i64 1, .int .i64 0, .int .i64 0, .slice none 0 0] 65))
      have hcl2 : n + 5 < W6.heap.size ∧ r < W6.heap.size := ⟨heap_lt O6.out.h5, heap_lt R6.out⟩
      clear ka e0 e1 e2 e3 e4 e5 g0 g1 g2 g3 g4 g5 O6 K6 R6 U6 D6 C6 hcl
      generalize W6.alloc (.cells #[.int .i64 1, .int .i64 1, .int .i64 0, .int .i64 0, .int .i64 0, .slice none 0 0, .int .i64 15, .int .i64 0, .int .i64 1, .int .i64 0, .int .i64 0, .slice none 0 0] 65) = W7 at *
      generalize W6.heap.size = c at *
      have fb := hcell O7.out.h4 2
      have OWN : Box (W7.ownsRow n 63 5 (.slice (some ⟨n + 3, 0, none⟩) 1 1) 1 [.slice (some ⟨n + 2, 0, none⟩) 1 1, .int .i64 1, .int .i64 0, .int .i64 1, .int .i64 0]) := hid (own_litY O7.out.h3 (by omega) rfl (by unfold maxLen; omega))
      have hnw : n ≤ W7.heap.size := by have := heap_lt O7.out.h5; omega
      have HNEW : Box (∀ j v, ([.slice (some ⟨c, 0, none⟩) 2 2, .int .i64 2, .int .i64 0, .int .i64 1, .int .i64 2, .slice none 0 0, .int .i64 3, .int .i64 1, .int .i64 0, .int .i64 0] : List Value)[j]? = some v → (W7.alloc (.cells #[.slice (some ⟨c, 0, none⟩) 2 2, .int .i64 2, .int .i64 0, .int .i64 1, .int .i64 2, .slice none 0 0, .int .i64 3, .int .i64 1, .int .i64 0, .int .i64 0] 63)).cell? ((⟨W7.heap.size, 0, none⟩ : Addr).add j) = some v) := hid (fun j v hv => by
        have hx := heap_new W7 (.cells #[.slice (some ⟨c, 0, none⟩) 2 2, .int .i64 2, .int .i64 0, .int .i64 1, .int .i64 2, .slice none 0 0, .int .i64 3, .int .i64 1, .int .i64 0, .int .i64 0] 63)
        rw [Addr.add_lit, hcell hx (0 + j), Nat.zero_add]
        rw [← hv]
        exact List.getElem?_toArray ..)
      have HONE : Box (∀ v ∈ ([.slice (some ⟨c, 0, none⟩) 2 2, .int .i64 2, .int .i64 0, .int .i64 1, .int .i64 2, .slice none 0 0, .int .i64 3, .int .i64 1, .int .i64 0, .int .i64 0] : List Value), v.oneCell' = true) := hid (List.all_eq_true.1 (rfl : List.all ([.slice (some ⟨c, 0, none⟩) 2 2, .int .i64 2, .int .i64 0, .int .i64 1, .int .i64 2, .slice none 0 0, .int .i64 3, .int .i64 1, .int .i64 0, .int .i64 0] : List Value) (fun v => v.oneCell') = true))
      have ka := Keeps.alloc [] W7 (.cells #[.slice (some ⟨c, 0, none⟩) 2 2, .int .i64 2, .int .i64 0, .int .i64 1, .int .i64 2, .slice none 0 0, .int .i64 3, .int .i64 1, .int .i64 0, .int .i64 0] 63)
      have H47 := hid (keep_heap O7.out.h4 ka)
      have KA := hid ka
      clear ka
      go_upto_region 13 with (at_builtin; go_must (refine wpList_append_lies _ rfl _ _ 37 rfl n 63 Tryd.t63 (.agg #[.slice none 0 0, .int .i64 0, .int .i64 0, .int .i64 0, .int .i64 0]) 5 56 under_bksY info_bkY zero_bkY size_bkY bytes_bkY rfl (by decide) (.slice (some ⟨n + 3, 0, none⟩) 1 1) 1 [.slice (some ⟨n + 2, 0, none⟩) 1 1, .int .i64 1, .int .i64 0, .int .i64 1, .int .i64 0] rfl (OWN.out.alloc _) ⟨W7.heap.size, 0, none⟩ 2 2 [.slice (some ⟨c, 0, none⟩) 2 2, .int .i64 2, .int .i64 0, .int .i64 1, .int .i64 2, .slice none 0 0, .int .i64 3, .int .i64 1, .int .i64 0, .int .i64 0] rfl rfl HNEW.out HONE.out (by decide) (by unfold maxLen; omega) (by omega) (by simp; omega) (W7.heap.size + 1) (by simp) ?_; intro g cap w8 hown hgrow hat hlt8; have h48 := grownY hgrow H47.out (by simp [Value.ownBlock]); have qb := hcell h48 2; have yb := hfrozen h48 2))
      have k8 : Keeps [n + 3] (W7.alloc (.cells #[.slice (some ⟨c, 0, none⟩) 2 2, .int .i64 2, .int .i64 0, .int .i64 1, .int .i64 2, .slice none 0 0, .int .i64 3, .int .i64 1, .int .i64 0, .int .i64 0] 63)) w8 := Keeps.grown _ hgrow (fun k hk => by simp [Value.ownBlock] at hk; simp [hk])
      have k9 : Keeps [n + 4] w8 (w8.setCell ⟨n + 4, 2, none⟩ (.slice (some ⟨g, 0, none⟩) (1 + 2) cap)) := Keeps.setCell _ _ _ _ (by simp)
      have KF := hid (((K7.out.quiet KA.out).fresh k8 (fun x hx => by have := HW.out; simp at hx; omega)).fresh k9 (fun x hx => by have := HW.out; simp at hx; omega))
      have FB : ∀ b cs (T : TypeId), b ≠ n + 3 → b ≠ n + 4 → W7.heap[b]? = some (.cells cs T (0, 0)) → (w8.setCell ⟨n + 4, 2, none⟩ (.slice (some ⟨g, 0, none⟩) (1 + 2) cap)).heap[b]? = some (.cells cs T (0, 0)) := fun b cs T h1 h2 h => by
        have h3 := keep_heap h KA.out
        rw [k9.block b (Nat.lt_of_lt_of_le (heap_lt h3) k8.size) (by simp; omega), k8.block b (heap_lt h3) (by simp; omega)]
        exact h3
      have LL : Box (LF (w8.setCell ⟨n + 4, 2, none⟩ (.slice (some ⟨g, 0, none⟩) (1 + 2) cap)) n r c g cap #[.int .i64 1, .int .i64 1, .int .i64 0, .int .i64 0, .int .i64 0, .slice none 0 0, .int .i64 15, .int .i64 0, .int .i64 1, .int .i64 0, .int .i64 0, .slice none 0 0] n) := hid
        ⟨FB _ _ _ (by omega) (by omega) O7.out.h0, FB _ _ _ (by omega) (by omega) O7.out.h2, FB _ _ _ (by omega) (by omega) R7.out, FB _ _ _ (by omega) (by omega) C7.out,
         ownsRow_keeps hown k9 (fun b hb hx => by simp at hx; subst hx; exact row_neY hown h48 (by decide) hb), heap_setCell_same _ _ _ _ _ _ h48, FB _ _ _ (by omega) (by omega) O7.out.h5⟩
      clear FB k8 k9 hown hgrow hat hlt8 h48 qb yb fb OWN HNEW H47 KA K7 R7 C7 O7
      generalize w8.setCell ⟨n + 4, 2, none⟩ (.slice (some ⟨g, 0, none⟩) (1 + 2) cap) = W9 at *
      have HCK := hid (check_any (LL.out.prc (x := defL) (y := useL) rfl (.inr ⟨rfl, rfl⟩)) (HT.out.kept KF.out (by simp)) (szB_sz (by decide +kernel)))
      rw [lp_yes] at HCK
      go_wp2_with fail
      refine HCK.out.mono ?_
      rintro e wA ⟨rfl, kA⟩
      have KA := hid (KF.out.quiet kA)
      clear kA
      go_wp2_with fail
      go_ret
      exact ⟨rfl, KA.out⟩
end Go.Proofs.YtmebkeidpklcbaaDoor
