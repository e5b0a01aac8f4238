/-
  Contract: dom's newForest.
-/
import Derived.Test.YtlnimcpmkammfaaDoorDVis
namespace Go.Proofs.YtlnimcpmkammfaaDoor
open Go.RowKit
attribute [local go_sem ↓] Go.wp_at_zero Go.wp_at_succ

theorem run_ints (n : Nat) (hn : n ≤ 1000000) (w : World) : (Instr.makeSlice 23 (.int .i64 (n : Int)) (.int .i64 (n : Int))).run Tryd.prog w = .ok (.slice (some ⟨w.heap.size, 0, none⟩) n n) (w.alloc (.cells (madeCells #[.int .i64 0] n) 3)) :=
  run_make_row 23 3 Tryd.t3 (.int .i64 0) under_ints info_int zero_int size_int rfl .i64 .i64 n (by rw [bytes_int]; omega) (by omega) w
theorem row_ints (w : World) (n base : Nat) (hb : base ≤ w.heap.size) (hn : n ≤ maxLen) : RowAt (w.alloc (.cells (madeCells #[.int .i64 0] n) 3)) base w.heap.size n 3 (fun _ => .int .i64 0) := by
  refine RowAt.ofHeap hb hn ?_
  rw [heap_alloc_new]
  congr 2
  have := made_map (.int .i64 0) n rfl
  rw [Nat.mul_one] at this
  apply Array.ext'
  exact this

theorem forest_new (w : World) (K x y : Nat) (hm : K ≤ maxLen) (hxy : x = w.heap.size ∧ y = w.heap.size + 1 ∨ x = w.heap.size + 1 ∧ y = w.heap.size) (A : Nat → Int) (L : Nat → Nat) (hA : ∀ i, A i = 0) (hL : ∀ i, L i = 0) :
    ForAt (((w.alloc (Obj.cells (madeCells #[.int .i64 0] K) 3)).alloc (Obj.cells (madeCells #[.int .i64 0] K) 3)).alloc (Obj.cells #[.slice (some ⟨x, 0, none⟩) K K, .slice (some ⟨y, 0, none⟩) K K] 85)).drew w.heap.size (w.heap.size + 1 + 1) x y K A L ∧
    Keeps [] w (((w.alloc (Obj.cells (madeCells #[.int .i64 0] K) 3)).alloc (Obj.cells (madeCells #[.int .i64 0] K) 3)).alloc (Obj.cells #[.slice (some ⟨x, 0, none⟩) K K, .slice (some ⟨y, 0, none⟩) K K] 85)).drew := by
  have k1 := Keeps.alloc [] w (Obj.cells (madeCells #[.int .i64 0] K) 3)
  have r1 := row_ints w K w.heap.size (Nat.le_refl _) hm
  have e1 : (w.alloc (Obj.cells (madeCells #[.int .i64 0] K) 3)).heap.size = w.heap.size + 1 := by simp
  generalize w.alloc (Obj.cells (madeCells #[.int .i64 0] K) 3) = w1 at *
  have k2 := Keeps.alloc [] w1 (Obj.cells (madeCells #[.int .i64 0] K) 3)
  have r2 := row_ints w1 K w.heap.size (by omega) hm
  have e2 : (w1.alloc (Obj.cells (madeCells #[.int .i64 0] K) 3)).heap.size = w.heap.size + 1 + 1 := by simp [e1]
  rw [e1] at r2
  have r1' := r1.kept k2 (by simp)
  generalize w1.alloc (Obj.cells (madeCells #[.int .i64 0] K) 3) = w2 at *
  have k3 := Keeps.alloc [] w2 (Obj.cells #[.slice (some ⟨x, 0, none⟩) K K, .slice (some ⟨y, 0, none⟩) K K] 85)
  have s3 := StAt.new w2 85 #[.slice (some ⟨x, 0, none⟩) K K, .slice (some ⟨y, 0, none⟩) K K]
  rw [e2] at s3
  have kk : Keeps [] w2 (w2.alloc (Obj.cells #[.slice (some ⟨x, 0, none⟩) K K, .slice (some ⟨y, 0, none⟩) K K] 85)).drew := k3.quiet (Keeps.drew [] _)
  have q1 := r1'.kept kk (by simp)
  have q2 := r2.kept kk (by simp)
  have ha : ∀ i, (.int .i64 0 : Value) = numI A i := fun i => by unfold numI; rw [hA]
  have hl : ∀ i, (.int .i64 0 : Value) = num L i := fun i => by unfold num; rw [hL]; rfl
  refine ⟨⟨s3.kept (Keeps.drew [] _) (by simp), ?_, ?_, by omega⟩, (k1.quiet k2).quiet kk⟩
  · rcases hxy with ⟨rfl, _⟩ | ⟨rfl, _⟩
    · exact q1.congr (fun i _ => ha i)
    · exact q2.congr (fun i _ => ha i)
  · rcases hxy with ⟨_, rfl⟩ | ⟨_, rfl⟩
    · exact q2.congr (fun i _ => hl i)
    · exact q1.congr (fun i _ => hl i)

set_option maxHeartbeats 2000000 in
theorem newForest_any (K : Nat) (hK : K ≤ 600) (w : World) :
    Calls Tryd.prog 48 #[.int .i64 (K : Int)] w fun e w' => ∃ b pa pl, e = .returned (.pointer (some ⟨b, 0, none⟩)) ∧ ForAt w' w.heap.size b pa pl K (fun i => if i < K then -1 else 0) (fun i => if i < K then i else 0) ∧ Keeps [] w w' ∧ w.heap.size ≤ b := by
  have hrn := run_ints K (by omega)
  have hm : K ≤ maxLen := by unfold maxLen; omega
  go_enter Tryd.func48, Tryd.ntmps48
  go_upto_region 1 with fail
  go_cut [3] (fun t wz => ∃ b pa pl, t = .pointer (some ⟨b, 0, none⟩) ∧ Box (ForAt wz w.heap.size b pa pl K (fun i => if i < 0 then -1 else 0) (fun i => if i < 0 then i else 0)) ∧ Box (Keeps [] w wz) ∧ w.heap.size ≤ b)
  case first =>
    go_region
    all_goals
      go_wp2_with fail
      go_meet
    · have h := forest_new w K w.heap.size (w.heap.size + 1) hm (.inl ⟨rfl, rfl⟩) (fun i => if i < 0 then -1 else 0) (fun i => if i < 0 then i else 0) (fun i => by simp) (fun i => by simp)
      exact ⟨_, _, _, rfl, hid h.1, hid h.2, by omega⟩
    · have h := forest_new w K (w.heap.size + 1) w.heap.size hm (.inr ⟨rfl, rfl⟩) (fun i => if i < 0 then -1 else 0) (fun i => if i < 0 then i else 0) (fun i => by simp) (fun i => by simp)
      exact ⟨_, _, _, rfl, hid h.1, hid h.2, by omega⟩
  case rest =>
    obtain ⟨b, pa, pl, rfl, HF, HK, hb⟩ := hcut
    clear hrn
    go_wp2_with fail
    go_loopw [12] (fun i wr => ∃ k : Nat, k ≤ K ∧ i = .int .i64 k ∧ Box (ForAt wr w.heap.size b pa pl K (fun i => if i < k then -1 else 0) (fun i => if i < k then i else 0)) ∧ Box (Keeps [] w wr)) (fun i _ => K - (intOf i).toNat)
    case atStart => exact ⟨0, by omega, rfl, HF, HK⟩
    case round =>
      clear HF HK
      obtain ⟨k, hk, rfl, HF, HK⟩ := hrel
      by_cases hlt : k < K
      · have hlt' : (k : Int) < (K : Int) := by omega
        have c0 := HF.out.c0
        have c1 := HF.out.c1
        have fa := HF.out.ab.frozen k
        have fl := HF.out.lo.frozen k
        have ca := HF.out.ab.cell hlt
        have cl := HF.out.lo.cell hlt
        have hne := HF.out.ne
        have H2 := hid (((HF.out.setA k (-1)).setL k k).quiet (Keeps.drew [] _))
        have k1 : Keeps [pa, pl] wr (wr.setCell ⟨pa, k, none⟩ (.int .i64 (-1))) := Keeps.setCell _ _ _ _ (by simp)
        have k2 : Keeps [pa, pl] (wr.setCell ⟨pa, k, none⟩ (.int .i64 (-1))) ((wr.setCell ⟨pa, k, none⟩ (.int .i64 (-1))).setCell ⟨pl, k, none⟩ (.int .i64 (k : Int))) := Keeps.setCell _ _ _ _ (by simp)
        have K2 := hid ((HK.out.fresh (k1.step k2) (fun x hx => by have := HF.out.ab.lt.1; have := HF.out.lo.lt.1; simp at hx; omega)).quiet (Keeps.drew [] _))
        clear HF HK k1 k2
        go_wp2_with fail
        go_region
        generalize ((wr.setCell ⟨pa, k, none⟩ (.int .i64 (-1))).setCell ⟨pl, k, none⟩ (.int .i64 (k : Int))).drew = w2 at H2 K2 ⊢
        go_wp2_with fail
        go_roundw
        case rel =>
          refine ⟨k + 1, by omega, by go_num, hid ⟨H2.out.st, H2.out.ab.congr (fun i _ => ?_), H2.out.lo.congr (fun i _ => ?_), H2.out.ne⟩, K2⟩
          · unfold numI
            congr 1
            by_cases e : i = k
            · subst e; simp
            · simp only [e, if_false]
              by_cases h1 : i < k
              · rw [if_pos h1, if_pos (by omega)]
              · rw [if_neg h1, if_neg (by omega)]
          · unfold num
            congr 2
            by_cases e : i = k
            · subst e; simp
            · simp only [e, if_false]
              by_cases h1 : i < k
              · rw [if_pos h1, if_pos (by omega)]
              · rw [if_neg h1, if_neg (by omega)]
        case measure => simp [intOf]; omega
      · obtain rfl : k = K := by omega
        go_wp2
        go_ret
        exact ⟨b, pa, pl, rfl, HF.out, HK.out, hb⟩
end Go.Proofs.YtlnimcpmkammfaaDoor
