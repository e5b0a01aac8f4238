/-
  Contract: assign's Flow.
-/
import Derived.Deep.DeepCutAuto
import Derived.Test.YtmebkeidpklcbaaDoorZ04
import Derived.Test.YtmebkeidpklcbaaDoorZ15

namespace Go.Proofs.YtmebkeidpklcbaaDoor
open Go.RowKit

def nilL : Value := .slice none 0 0
theorem run_mkl (n : Nat) (hn : n ≤ 1000000) (w : World) : (Instr.makeSlice 32 (.int .i64 (n : Int)) (.int .i64 (n : Int))).run Tryd.prog w = .ok (.slice (some ⟨w.heap.size, 0, none⟩) n n) (w.alloc (.cells (madeCells #[nilL] n) 54)) :=
  run_make_row' (P := Tryd.prog) 32 54 nilL 24 Tryd.underlying32 (by kernel_rfl) rfl .i64 .i64 n (by omega) (by omega) w
theorem mkl_new (w : World) (n base : Nat) (hb : base ≤ w.heap.size) (hn : n ≤ maxLen) : RowAt (w.alloc (.cells (madeCells #[nilL] n) 54)) base w.heap.size n 54 (fun _ => nilL) := by
  refine RowAt.made (z := nilL) ⟨?_, .inr ⟨w.heap.size, n, _, rfl, hb, heap_alloc_new w _, Nat.le_refl _, hn, ?_, ?_⟩⟩ rfl
  · rw [Array.length_toList, size_madeCells]
  · rw [size_madeCells, Nat.mul_one]
  · rw [Nat.mul_one]
    exact List.take_of_length_le (by rw [Array.length_toList, size_madeCells]; exact Nat.le_refl _)
/-- A flow while it is made: its row, the lists that are there. -/
structure FW (w wr : World) (p n : Nat) (c : Nat → Value) (g : List (List Nat)) (k : Nat) : Prop where
  row : RowAt wr w.heap.size p n 54 c
  own : ∀ j, j < k → wr.ownsRow (p + 1) 3 1 (c j) (nb g j).length (ints (nb g j))
  keep : Keeps [] w wr
theorem FW.quiet {w wr wy : World} {p n : Nat} {c : Nat → Value} {g : List (List Nat)} {k : Nat} (h : FW w wr p n c g k) (q : Keeps [] wr wy) : FW w wy p n c g k :=
  ⟨h.row.kept q (by simp), fun j hj => ownsRow_keeps (h.own j hj) q (fun _ _ => by simp), h.keep.quiet q⟩
theorem FW.put {w wr wy : World} {p n : Nat} {c : Nat → Value} {g : List (List Nat)} {k : Nat} (h : FW w wr p n c g k) (q : Keeps [] wr wy) {v : Value} (hv : NewL wr wy v (nb g k)) : FW w (wy.setCell ⟨p, k, none⟩ v) p n (fun i => if i = k then v else c i) g (k + 1) := by
  have h2 := h.quiet q
  have kk : Keeps [p] wy (wy.setCell ⟨p, k, none⟩ v) := Keeps.setCell _ _ _ _ (by simp)
  have hp := h.row.lt
  refine ⟨h2.row.put k v, fun j hj => ?_, h2.keep.fresh kk (fun x hx => by simp at hx; omega)⟩
  by_cases e : j = k
  · subst e
    rw [if_pos rfl]
    have hv2 : wy.ownsRow (p + 1) 3 1 v (nb g j).length (ints (nb g j)) := by
      refine ⟨hv.1, ?_⟩
      rcases hv.2 with hn | ⟨b, cap, cur, h1, h2, h3⟩
      · exact .inl hn
      · exact .inr ⟨b, cap, cur, h1, by omega, h3⟩
    exact ownsRow_keeps hv2 kk (fun b hb hx => by have := (hv2.lt b hb).1; simp at hx; omega)
  · rw [if_neg e]
    have := h2.own j (by omega)
    exact ownsRow_keeps this kk (fun b hb hx => by have := (this.lt b hb).1; simp at hx; omega)
theorem FW.kept1 {w wr wy : World} {p n r : Nat} {c : Nat → Value} {g : List (List Nat)} {k : Nat} (h : FW w wr p n c g k) (q : Keeps [r] wr wy) (h1 : w.heap.size ≤ r) (h2 : r < p) : FW w wy p n c g k :=
  ⟨h.row.kept q (by simp; omega), fun j hj => ownsRow_keeps (h.own j hj) q (fun b hb hx => by have := ((h.own j hj).lt b hb).1; simp at hx; omega), h.keep.fresh q (fun x hx => by simp at hx; omega)⟩
theorem own_inAt {w : World} {base : Nat} {v : Value} {l : List Nat} (h : w.ownsRow base 3 1 v l.length (ints l)) : ∃ a c, v = .slice a l.length c ∧ InAt w w.heap.size a (intsI l) := by
  rcases h.2 with ⟨e, h0⟩ | ⟨g, cap, cur, rfl, hb, hg, hr⟩
  · have : l = [] := List.eq_nil_of_length_eq_zero h0
    subst this
    exact ⟨none, 0, e, .inl rfl⟩
  · refine ⟨_, _, rfl, .inr ⟨g, 0, rfl, (Array.getElem?_eq_some_iff.1 hg).1, fun i hi => ?_⟩⟩
    rw [intsI_len] at hi
    rw [Nat.zero_add, h.cellAt i (by omega), intsI_get]
    unfold ints
    rw [List.getElem?_map, List.getD_eq_getElem?_getD, List.getElem?_eq_getElem hi]
    rfl
theorem FW.done {w wr : World} {p n : Nat} {c : Nat → Value} {g : List (List Nat)} (h : FW w wr p n c g n) (hn : g.length = n) : GAt wr wr.heap.size (some ⟨p, 0, none⟩) g := by
  refine .inr ⟨p, 0, rfl, h.row.lt.2, fun j hj => ?_⟩
  rw [listsI_len] at hj
  rw [listsI_get, intsI_len, Nat.zero_add, h.row.cell (by omega)]
  obtain ⟨a, cp, e, hi⟩ := own_inAt (h.own j (by omega))
  exact ⟨a, cp, by rw [e], hi⟩
set_option maxRecDepth 20000 in
set_option maxHeartbeats 4000000 in
theorem flow_any {w : World} {pb po : Nat} {P : Pr8} (h : PrC w pb po P) {f : Nat} (hf : f < P.funcs.length) (hb : (fun8 P f).blocks.length ≤ 600) :
    Calls Tryd.prog 10 #[.pointer (some ⟨pb, po, none⟩), .int .i64 (f : Int)] w fun e w' => ∃ a, e = .returned (.agg #[.int .i64 ((flowF (fun8 P f)).length : Int), .slice a (flowF (fun8 P f)).length (flowF (fun8 P f)).length]) ∧ GAt w' w'.heap.size a (flowF (fun8 P f)) ∧ Keeps [] w w' := by
  have HW : Box (∀ w, Calls Tryd.prog 27 #[.int .i64 (f : Int), .int .i64 (P.funcs.length : Int)] w fun e w' => e = .returned (.bool true) ∧ w' = w) := hid fun w => by
    have := within_any (f : Int) P.funcs.length w
    rw [show inB (f : Int) P.funcs.length = true from inB_iff.2 ⟨by omega, by omega⟩] at this
    exact this
  obtain ⟨fa, fcp, H⟩ := h.fns
  obtain ⟨fb, fo, ba, bcp, rfl, B⟩ := H.at hf
  have h4 := H.cell
  have h2 := B.cell
  have BA : Box (∀ b, b < (fun8 P f).blocks.length → ∃ bb bo, ba = some ⟨bb, bo, none⟩ ∧ BlC w bb (bo + b * 5) (blk8 (fun8 P f) b)) := hid fun b hb => B.at hb
  have GN : Box (∀ b, b < (fun8 P f).blocks.length → nb (flowF (fun8 P f)) b = tgB (fun8 P f).blocks.length (blk8 (fun8 P f) b)) := hid fun b hb => flowF_nb hb
  have GL := hid (flowF_len (fun8 P f))
  rw [flowF_len]
  clear h H B
  generalize hfn : P.funcs.length = N at *
  generalize hbn : (fun8 P f).blocks.length = n at *
  generalize flowF (fun8 P f) = g at *
  clear hfn hbn
  have gf : (f : Int) < (N : Int) := by omega
  have hmk := run_mkl n (by omega)
  have k0 : Keeps [] w (w.alloc (.cells #[.int .i64 0, .slice none 0 0] 34)) := Keeps.alloc _ _ _
  have HR : Box (TwoAt (w.alloc (.cells #[.int .i64 0, .slice none 0 0] 34)) w.heap.size (.int .i64 0) (.slice none 0 0)) := hid (TwoAt.new _ _ _)
  have c4 := cell_stays k0 h4
  have c2 := cell_stays k0 h2
  go_enter Tryd.func10, Tryd.ntmps10
  go_upto_region 1 with fail
  generalize w.alloc (.cells #[.int .i64 0, .slice none 0 0] 34) = W at *
  go_upto_region 4 with (go_at_call 27; refine (HW.out _).mono ?_; rintro e w3 ⟨rfl, rfl⟩)
  have ka : Keeps [] w3 (w3.alloc (.cells (madeCells #[nilL] n) 54)) := Keeps.alloc _ _ _
  have kb : Keeps [] (w3.alloc (.cells (madeCells #[nilL] n) 54)) ((w3.alloc (.cells (madeCells #[nilL] n) 54)).alloc (.cells #[.int .i64 (n : Int), .slice (some ⟨w3.heap.size, 0, none⟩) n n] 34)) := Keeps.alloc _ _ _
  have HF : Box (FW w ((w3.alloc (.cells (madeCells #[nilL] n) 54)).alloc (.cells #[.int .i64 (n : Int), .slice (some ⟨w3.heap.size, 0, none⟩) n n] 34)) w3.heap.size n (fun _ => nilL) g 0) := hid ⟨(mkl_new w3 n w.heap.size k0.size (by unfold maxLen; omega)).kept kb (by simp), fun j hj => by omega, (k0.quiet ka).quiet kb⟩
  have HG : Box (TwoAt ((w3.alloc (.cells (madeCells #[nilL] n) 54)).alloc (.cells #[.int .i64 (n : Int), .slice (some ⟨w3.heap.size, 0, none⟩) n n] 34)) (w3.heap.size + 1) (.int .i64 (n : Int)) (.slice (some ⟨w3.heap.size, 0, none⟩) n n)) := hid (by have := TwoAt.new (w3.alloc (.cells (madeCells #[nilL] n) 54)) (.int .i64 (n : Int)) (.slice (some ⟨w3.heap.size, 0, none⟩) n n); rw [World.size_alloc] at this; exact this)
  have HR2 := hid ((HR.out.kept ka (by simp)).kept kb (by simp))
  have hpp : w.heap.size < w3.heap.size := HR.out.lt
  clear HR ka kb k0 c4 c2 h4 h2 HW
  go_upto_region 5 with fail
  generalize (w3.alloc (.cells (madeCells #[nilL] n) 54)).alloc (.cells #[.int .i64 (n : Int), .slice (some ⟨w3.heap.size, 0, none⟩) n n] 34) = W4 at *
  generalize w3.heap.size = p at *
  go_wp2_with fail
  go_loopw [37] (fun i wr => ∃ (k : Nat) (c : Nat → Value), k ≤ n ∧ i = .int .i64 (k : Int) ∧ Box (FW w wr p n c g k) ∧ Box (TwoAt wr (p + 1) (.int .i64 (n : Int)) (.slice (some ⟨p, 0, none⟩) n n)) ∧ Box (TwoAt wr w.heap.size (.int .i64 0) (.slice none 0 0))) (fun i _ => n - (intOf i).toNat)
  case atStart => exact ⟨0, _, by omega, rfl, HF, HG, HR2⟩
  case round =>
    clear HF HG HR2
    obtain ⟨k, c, hk, rfl, HF, HG, HR⟩ := hrel
    by_cases hlt : k < n
    · have hlt' : (k : Int) < (n : Int) := by omega
      obtain ⟨bb, bo, rfl, hbl⟩ := BA.out k hlt
      have HT : Box (∀ w', Keeps [] w w' → Calls Tryd.prog 28 #[.pointer (some ⟨bb, bo + k * 5, none⟩), .int .i64 (n : Int)] w' fun e w'' => ∃ a cp, e = .returned (.slice a (nb g k).length cp) ∧ NewL w' w'' (.slice a (nb g k).length cp) (nb g k) ∧ Keeps [] w' w'') := hid fun w' kw => by
        rw [GN.out k hlt]
        refine (targets_any (BlC.stays _ _ _ _ _ kw hbl) n).mono ?_
        rintro e w'' ⟨v, rfl, hv, hq⟩
        obtain ⟨a, cp, rfl, _⟩ := own_inAt hv
        exact ⟨a, cp, rfl, hv, hq⟩
      have c1 := HG.out.c1
      have fz := HF.out.row.frozen k
      have cz := HF.out.row.cell hlt
      clear hbl
      go_wp2_with fail
      go_region_with (go_at_call 28; refine (HT.out _ (HF.out.keep.quiet (Keeps.drewN [] _ _))).mono ?_; rintro e w5 ⟨a5, p5, rfl, hv, k5⟩; have c1' := cell_stays k5 c1; have cz' := cell_stays k5 cz; have fz' := ((HF.out.row.kept (Keeps.drewN [] _ _) (by simp)).kept k5 (by simp)).frozen k)
      all_goals
        have HF2 := hid ((HF.out.quiet (Keeps.drewN [] _ _)).put k5 hv)
        have kp : Keeps [p] w5 (w5.setCell ⟨p, k, none⟩ (.slice a5 (nb g k).length p5)) := Keeps.setCell _ _ _ _ (by simp)
        have HG2 := hid (((HG.out.kept (Keeps.drewN [] _ _) (by simp)).kept k5 (by simp)).kept kp (by simp))
        have HR2 := hid (((HR.out.kept (Keeps.drewN [] _ _) (by simp)).kept k5 (by simp)).kept kp (by simp; omega))
        clear HF HG HR c1 fz cz c1' fz' cz' hv k5 HT
        generalize w5.setCell ⟨p, k, none⟩ (.slice a5 (nb g k).length p5) = w6 at *
        go_wp2_with fail
        go_roundw
        case rel => exact ⟨k + 1, _, by omega, by go_num, HF2, HG2, HR2⟩
        case measure => simp [intOf]; omega
    · obtain rfl : k = n := by omega
      have c0 := HG.out.c0
      have c1 := HG.out.c1
      have r0 := HR.out.c0
      have r1 := HR.out.c1
      have z0 := HR.out.frozen 0
      have z1 := HR.out.frozen 1
      go_wp2_with fail
      have k1 : Keeps [w.heap.size] wr (wr.setCell ⟨w.heap.size, 0, none⟩ (.int .i64 (k : Int))) := Keeps.setCell _ _ _ _ (by simp)
      have k2 : Keeps [w.heap.size] (wr.setCell ⟨w.heap.size, 0, none⟩ (.int .i64 (k : Int))) ((wr.setCell ⟨w.heap.size, 0, none⟩ (.int .i64 (k : Int))).setCell ⟨w.heap.size, 1, none⟩ (.slice (some ⟨p, 0, none⟩) k k)) := Keeps.setCell _ _ _ _ (by simp)
      have HF2 := HF.out.kept1 (k1.step k2) (Nat.le_refl _) hpp
      have hb2 : TwoAt ((wr.setCell ⟨w.heap.size, 0, none⟩ (.int .i64 (k : Int))).setCell ⟨w.heap.size, 1, none⟩ (.slice (some ⟨p, 0, none⟩) k k)) w.heap.size (.int .i64 (k : Int)) (.slice (some ⟨p, 0, none⟩) k k) := by
        have h1 := heap_setCell_same wr w.heap.size 0 _ _ (.int .i64 (k : Int)) HR.out.heap
        have h2 := heap_setCell_same _ w.heap.size 1 _ _ (.slice (some ⟨p, 0, none⟩) k k) h1
        exact ⟨h2⟩
      have hd0 := hb2.c0
      have hd1 := hb2.c1
      generalize (wr.setCell ⟨w.heap.size, 0, none⟩ (.int .i64 (k : Int))).setCell ⟨w.heap.size, 1, none⟩ (.slice (some ⟨p, 0, none⟩) k k) = w9 at hd0 hd1 HF2 ⊢
      exact bodyPost_ret (v := .agg #[.int .i64 (k : Int), .slice (some ⟨p, 0, none⟩) k k]) (by simp [results, Tryd.results10, go_sem, hd0, hd1]) rfl ⟨_, rfl, HF2.done GL.out, HF2.keep⟩
end Go.Proofs.YtmebkeidpklcbaaDoor
