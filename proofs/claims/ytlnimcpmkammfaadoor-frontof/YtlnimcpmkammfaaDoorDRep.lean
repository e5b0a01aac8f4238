/-
  Contract: slices.Repeat of one number.
-/
import Derived.Test.YtlnimcpmkammfaaDoorGTurn
import Derived.Laws.CopyOwn
import Derived.Deep.RegionLaw
namespace Go.Proofs.YtlnimcpmkammfaaDoor
open Go.RowKit

theorem and_mask : ∀ n : Nat, n < 601 → bits BinOp.and IntKind.u64 (n : Int) 4294967295 = (n : Int) := by decide +kernel
theorem and_one : bits BinOp.and IntKind.u64 1 4294967295 = 1 := by decide +kernel
set_option maxHeartbeats 400000 in
theorem mul64_one (N : Nat) (w : World) (hN : N ≤ 600) : Calls Tryd.prog 52 #[.int .u64 1, .int .u64 (N : Int)] w fun e w' => e = .returned (.tuple #[.int .u64 0, .int .u64 (N : Int)]) ∧ w' = w := by
  have h1 := and_one
  have h2 := and_mask N (by omega)
  have h3 : (N : Int) / 4294967296 = 0 := by omega
  have h4 : IntKind.u64.wrap (N : Int) = (N : Int) := IntWalk.u64_in _ (by omega)
  have h5 : bits BinOp.and IntKind.u64 0 4294967295 = 0 := by decide +kernel
  go_enter Tryd.func52, Tryd.ntmps52
  go_wp2
  go_ret2
  exact ⟨rfl, rfl⟩
set_option maxHeartbeats 400000 in
theorem mul_one' (N : Nat) (w : World) (hN : N ≤ 600) : Calls Tryd.prog 46 #[.int .u64 1, .int .u64 (N : Int)] w fun e w' => e = .returned (.tuple #[.int .u64 0, .int .u64 (N : Int)]) ∧ w' = w := by
  go_enter Tryd.func46, Tryd.ntmps46
  go_wp2_with (go_at_call 52; refine (mul64_one N _ hN).mono ?_; rintro e w' ⟨rfl, rfl⟩)
  go_ret2
  exact ⟨rfl, rfl⟩
/-- A row that is filled so far. -/
def fil (v : Int) (n N : Nat) : List Value := (List.range N).map fun i => .int .i64 (if i < n then v else 0)
theorem fil_len (v : Int) (n N : Nat) : (fil v n N).length = N := by simp [fil]
theorem fil_get (v : Int) (n N j : Nat) (hj : j < N) : (fil v n N)[j]? = some (.int .i64 (if j < n then v else 0)) := by simp [fil, hj]
theorem fil_splice (v : Int) (n m N : Nat) (h : n + m ≤ N) : splice (fil v n N) n (List.replicate m (.int .i64 v)) = fil v (n + m) N := by
  apply List.ext_getElem?
  intro i
  unfold splice
  by_cases hi : i < N
  · rw [fil_get v (n + m) N i hi]
    by_cases h1 : i < n
    · rw [List.getElem?_append_left (by rw [List.length_take, fil_len]; omega), List.getElem?_take, if_pos h1, fil_get v n N i hi, if_pos h1, if_pos (by omega)]
    · rw [List.getElem?_append_right (by rw [List.length_take, fil_len]; omega), List.length_take, fil_len, Nat.min_eq_left (by omega)]
      by_cases h2 : i < n + m
      · rw [List.getElem?_append_left (by rw [List.length_replicate]; omega), List.getElem?_replicate, if_pos (by omega), if_pos h2]
      · rw [List.getElem?_append_right (by rw [List.length_replicate]; omega), List.length_replicate, List.getElem?_drop, fil_get v n N _ (by omega)]
        rw [if_neg (by omega), if_neg h2]
  · rw [List.getElem?_eq_none (by rw [List.length_append, List.length_append, List.length_take, List.length_drop, fil_len, List.length_replicate]; omega), List.getElem?_eq_none (by rw [fil_len]; omega)]

theorem RowAt.full {w : World} {base p n : Nat} {T : TypeId} {c : Nat → Value} (h : RowAt w base p n T c) : w.heap[p]? = some (.cells ((List.range n).map c).toArray T (0, 0)) := by
  rcases h.row.2 with ⟨h', _⟩ | ⟨g', cap', cur, h', _, hg, _, _, hs, ht⟩
  · simp at h'
  · simp only [Value.slice.injEq, Option.some.injEq, Addr.mk.injEq, and_true, true_and] at h'
    obtain ⟨rfl, rfl⟩ := h'
    rw [List.take_of_length_le (by rw [Array.length_toList]; omega)] at ht
    rw [← ht]
    exact hg
theorem RowAt.ofHeap {w : World} {base p n : Nat} {T : TypeId} {c : Nat → Value} (hb : base ≤ p) (hn : n ≤ maxLen) (h : w.heap[p]? = some (.cells ((List.range n).map c).toArray T (0, 0))) : RowAt w base p n T c :=
  ⟨⟨by simp, .inr ⟨p, n, _, rfl, hb, h, Nat.le_refl _, hn, by simp, by rw [List.take_of_length_le (by simp)]⟩⟩⟩
theorem keeps_of_below {w w' : World} (h : Below w.heap.size w w') : Keeps [] w w' := ⟨h.os, h.tape, h.output, h.size, fun k hk _ => h.block k hk⟩
theorem rep_one {w : World} {bx j : Nat} {v : Int} {u : Value} (h : w.cell? ⟨bx, 0, none⟩ = some (.int .i64 v)) (hj : (List.replicate 1 (Value.int .i64 v))[j]? = some u) : w.cell? ((⟨bx, 0, none⟩ : Addr).add j) = some u := by
  cases j with
  | zero => rw [← hj]; exact h
  | succ j => simp at hj
theorem size1_int : (Tryd.prog.info? 3).map (·.size) = some 1 := by kernel_rfl

set_option maxHeartbeats 2000000 in
theorem repeat_any (v : Int) (bx N : Nat) (w : World) (hx : w.cell? ⟨bx, 0, none⟩ = some (.int .i64 v)) (h1 : 1 ≤ N) (hN : N ≤ 600) :
    Calls Tryd.prog 37 #[.slice (some ⟨bx, 0, none⟩) 1 1, .int .i64 (N : Int)] w fun e w' => ∃ p, e = .returned (.slice (some ⟨p, 0, none⟩) N N) ∧ RowAt w' w.heap.size p N 3 (fun _ => .int .i64 v) ∧ Keeps [] w w' := by
  have hww : w.heap.size ≤ w.heap.size := Nat.le_refl _
  have hn0 : ¬ (N : Int) < 0 := by omega
  have hmx : ¬ (9223372036854775807 : Int) < (N : Int) := by omega
  have hmin : (List.replicate 1 (Value.int .i64 v)).length = Nat.min 1 N := by rw [List.length_replicate]; exact (Nat.min_eq_left h1).symm
  have hfit : 0 + (List.replicate 1 (Value.int .i64 v)).length ≤ (fil v 0 N).length := by rw [fil_len, List.length_replicate]; omega
  go_enter Tryd.func37, Tryd.ntmps37
  go_upto_region 7 with (first | (go_at_call 46; refine (mul_one' N _ hN).mono ?_; intro e w' hh; obtain ⟨he, hw'⟩ := hh; subst he; rw [hw']; clear hw') | (at_make; go_must (refine wpList_make_full _ rfl _ _ 23 rfl w.heap.size 3 Tryd.t3 (.int .i64 0) 1 under_ints info_int zero_int size_int .i64 .i64 _ _ N rfl rfl rfl rfl (by rw [bytes_int]; omega) (by unfold maxLen; omega) hww ?_; intro w2 hown2 hgrow2; have k2 : Keeps [] w w2 := Keeps.grown [] hgrow2 (by simp); have r2 : RowAt w2 w.heap.size w.heap.size N 3 (fun _ => .int .i64 0) := RowAt.made hown2 rfl; have f2 : w2.heap[w.heap.size]? = some (.cells (fil v 0 N).toArray 3 (0, 0)) := (r2.congr (d := fun i => .int .i64 (if i < 0 then v else 0)) (fun i _ => by simp)).full; have hx2 : w2.cell? ⟨bx, 0, none⟩ = some (.int .i64 v) := (by rw [k2.cell (p := ⟨bx, 0, none⟩) (block_lt_of_cell hx) (by simp)]; exact hx); have b2 := k2.below (B := w.heap.size) (Nat.le_refl _) (by simp))))
  have hrun := run_copy_row Tryd.prog w2 23 23 3 3 w.heap.size 0 N N ⟨bx, 0, none⟩ 1 1 (fil v 0 N).toArray 3 (List.replicate 1 (.int .i64 v)) under_ints size1_int f2 hmin (fun j u hj => rep_one hx2 hj) (by simpa using hfit) (fun u hu => by rw [(List.mem_replicate.1 hu).2]; rfl)
  have hsp : (fil v 0 N).toArray.toList.take 0 ++ List.replicate 1 (.int .i64 v) ++ (fil v 0 N).toArray.toList.drop (0 + (List.replicate 1 (Value.int .i64 v)).length) = fil v 1 N := by
    have := fil_splice v 0 1 N (by omega)
    rw [← this]
    unfold splice
    rw [List.append_assoc]
  rw [hsp, List.length_replicate] at hrun
  have k3 : Keeps [w.heap.size] w2 (w2.setRow w.heap.size (fil v 1 N).toArray) := Keeps.setRow _ _ _
  have f3 : (w2.setRow w.heap.size (fil v 1 N).toArray).heap[w.heap.size]? = some (.cells (fil v 1 N).toArray 3 (0, 0)) := setRow_heap w2 _ _ _ _ _ f2
  have k03 : Keeps [] w (w2.setRow w.heap.size (fil v 1 N).toArray) := k2.fresh k3 (fun x hx => by simp at hx; omega)
  go_wp2_with fail
  generalize w2.setRow w.heap.size (fil v 1 N).toArray = w3 at f3 k03 ⊢
  clear hrun hsp k3 f2 hx2 b2 r2 hown2 hgrow2 k2 hmin hfit hx
  go_loopw [8] (fun i wr => ∃ n : Nat, 1 ≤ n ∧ n ≤ N ∧ i = .int .i64 (n : Int) ∧ Box (wr.heap[w.heap.size]? = some (.cells (fil v n N).toArray 3 (0, 0))) ∧ Box (Keeps [] w wr)) (fun i _ => N - (intOf i).toNat)
  case atStart => exact ⟨1, by omega, h1, rfl, hid f3, hid k03⟩
  case round =>
    clear f3 k03
    obtain ⟨n, hn1, hnN, rfl, HF, HK⟩ := hrel
    by_cases hlt : n < N
    · have hlt' : (n : Int) < (N : Int) := by omega
      have hn9 : (n : Int) ≤ (N : Int) := by omega
      obtain ⟨m, hm⟩ : ∃ m, m = min n (N - n) := ⟨_, rfl⟩
      have hm1 : n + m ≤ N := by omega
      have hm2 : 1 ≤ m := by omega
      have hlen : (List.replicate m (Value.int .i64 v)).length = Nat.min n (N - n) := by rw [List.length_replicate]; exact hm
      have hsrc : ∀ j u, (List.replicate m (Value.int .i64 v))[j]? = some u → wr.drew.cell? ((⟨w.heap.size, 0, none⟩ : Addr).add j) = some u := (fun j u hj => by
        rw [List.getElem?_replicate] at hj
        split at hj
        · rename_i hjm
          have e : (⟨w.heap.size, 0, none⟩ : Addr).add j = ⟨w.heap.size, j, none⟩ := by unfold Addr.add; by_cases hj0 : j = 0 <;> simp [hj0]
          rw [e, ← hj]
          show wr.cell? ⟨w.heap.size, j, none⟩ = _
          rw [cell_of_row wr _ j _ _ _ HF.out, List.getElem?_toArray, fil_get v n N j (by omega), if_pos (by omega)]
        · cases hj)
      have hrun := run_copy_row Tryd.prog wr.drew 23 23 3 3 w.heap.size n (N - n) (N - n) ⟨w.heap.size, 0, none⟩ n N (fil v n N).toArray 3 (List.replicate m (.int .i64 v)) under_ints size1_int HF.out hlen hsrc (by simp [fil_len]; omega) (fun u hu => by rw [(List.mem_replicate.1 hu).2]; rfl)
      have hsp : (fil v n N).toArray.toList.take n ++ List.replicate m (.int .i64 v) ++ (fil v n N).toArray.toList.drop (n + (List.replicate m (Value.int .i64 v)).length) = fil v (n + m) N := by
        have := fil_splice v n m N (by omega)
        rw [← this]
        unfold splice
        rw [List.append_assoc]
      rw [hsp, List.length_replicate] at hrun
      have f4 : (wr.drew.setRow w.heap.size (fil v (n + m) N).toArray).heap[w.heap.size]? = some (.cells (fil v (n + m) N).toArray 3 (0, 0)) := setRow_heap wr.drew _ _ _ _ _ HF.out
      have k4 : Keeps [w.heap.size] wr.drew (wr.drew.setRow w.heap.size (fil v (n + m) N).toArray) := Keeps.setRow _ _ _
      have HF4 := hid f4
      have HK4 := hid ((HK.out.quiet (Keeps.drew [] _)).fresh k4 (fun x hx => by simp at hx; omega))
      clear hsp f4 k4 hsrc hlen hm
      go_wp2_with fail
      go_region
      generalize wr.drew.setRow w.heap.size (fil v (n + m) N).toArray = w4 at HF4 HK4 ⊢
      go_wp2_with fail
      go_roundw
      case rel => exact ⟨n + m, by omega, by omega, by go_num, HF4, HK4⟩
      case measure => simp [intOf]; omega
    · obtain rfl : n = N := by omega
      go_wp2
      go_ret
      refine ⟨_, rfl, RowAt.ofHeap (Nat.le_refl _) (by unfold maxLen; omega) ?_, HK.out⟩
      rw [HF.out]
      congr 3
      unfold fil
      exact List.map_congr_left fun i hi => by rw [if_pos (List.mem_range.1 hi)]
end Go.Proofs.YtlnimcpmkammfaaDoor
