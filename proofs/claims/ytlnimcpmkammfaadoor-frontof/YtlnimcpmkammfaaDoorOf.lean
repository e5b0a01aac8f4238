/-
  Contracts: bitset's Of; the documents' own Eq of two slices.
-/
import Derived.Test.YtlnimcpmkammfaaDoorAll
namespace Go.Proofs.YtlnimcpmkammfaaDoor
open Go.RowKit

/-- No numbers. -/
def none_ : Nat → Bool := fun _ => false

/-- The set of those of zs that may be in one. -/
def ofI (zs : List Int) : Nat → Bool := zs.foldl insI none_

theorem row_none : row none_ = Array.replicate 79 (.int .u64 0) := by
  apply Array.ext_getElem?
  intro i
  by_cases hi : i < 79
  · rw [row_get none_ i hi]
    have : wd none_ i = 0 := wd_zero i
    rw [this]
    simp [hi]
  · rw [Array.getElem?_eq_none (by rw [row_size]; omega), Array.getElem?_eq_none (by simp; omega)]

theorem zero_set_raw (w : World) : (zeroValue 56).run Tryd.prog w = .ok (.agg (Array.replicate 79 (.int .u64 0))) w := by kernel_rfl
theorem zero_set (w : World) : (zeroValue 56).run Tryd.prog w = .ok (.agg (row none_)) w := by rw [row_none]; exact zero_set_raw w

theorem setAt_new (w : World) (s : Nat → Bool) : SetAt (w.alloc (.cells (row s) 56)) w.heap.size s := ⟨heap_alloc_new w _⟩

theorem fit_none : Fit none_ := fun _ _ => rfl
theorem fit_of (zs : List Int) : ∀ s, Fit s → Fit (zs.foldl insI s) := by
  induction zs with
  | nil => exact fun s h => h
  | cons z zs ih => exact fun s h => ih _ (h.ins z)

theorem take_fold (zs : List Int) (k : Nat) (h : k < zs.length) (s : Nat → Bool) : (zs.take (k + 1)).foldl insI s = insI ((zs.take k).foldl insI s) (zs.getD k 0) := by
  rw [List.take_succ_eq_append_getElem h, List.foldl_append]
  simp [List.getD, List.getElem?_eq_getElem h]

set_option maxHeartbeats 1000000 in
theorem of_raw (b off cap : Nat) (zs : List Int) (w : World) (hc : ∀ i, i < zs.length → w.cell? ⟨b, off + i, none⟩ = some (.int .i64 (zs.getD i 0))) (hl : zs.length ≤ 1000000) :
    Calls Tryd.prog 17 #[.slice (some ⟨b, off, none⟩) zs.length cap] w fun e w' => e = .returned (.pointer (some ⟨w.heap.size, 0, none⟩)) ∧ SetAt w' w.heap.size (ofI zs) ∧ Keeps [] w w' := by
  have HZ := hid hc
  clear hc
  have hzero := zero_set
  have hnew := hid (setAt_new w none_)
  have hkn : Keeps [] w (w.alloc (Obj.cells (row none_) 56)) := Keeps.alloc _ _ _
  go_enter Tryd.func17, Tryd.ntmps17
  go_wp2_with fail
  generalize w.alloc (Obj.cells (row none_) 56) = w1 at hnew hkn ⊢
  generalize row none_ = R
  go_loopw [10] (fun i wr => ∃ k : Nat, k ≤ zs.length ∧ i = .int .i64 k ∧ Box (SetAt wr w.heap.size ((zs.take k).foldl insI none_)) ∧ Keeps [] w wr) (fun i _ => zs.length - (intOf i).toNat)
  case atStart => exact ⟨0, by omega, rfl, hnew, hkn⟩
  case round =>
    clear hnew hkn hzero
    obtain ⟨k, hk, rfl, hset, hkw⟩ := hrel
    by_cases hlt : k < zs.length
    · have hc0 := HZ.out k hlt
      have hck : wr.cell? ⟨b, off + k, none⟩ = some (.int .i64 (zs.getD k 0)) := by
        rw [hkw.cell (p := ⟨b, off + k, none⟩) (block_lt_of_cell hc0) (by simp)]
        exact hc0
      clear hc0
      have HA := hid fun a => add_any w.heap.size _ a wr hset.out (fit_of _ _ fit_none)
      have hst := hid (take_fold zs k hlt none_)
      generalize (zs.take k).foldl insI none_ = s at HA hst
      generalize zs.getD k 0 = z at hck hst
      clear hset
      go_wp2_with fail
      refine (HA.out z).mono ?_
      rintro e w4 ⟨rfl, hs4, hk4⟩
      have hk5 : Keeps [] w w4 := hkw.trans hk4 fun x hx hl => by simp at hx; omega
      have hs5 := hid hs4
      clear hk4 hs4
      go_wp2
      go_roundw
      case rel => exact ⟨k + 1, by omega, by go_num, hid (by rw [hst.out]; exact hs5.out), hk5⟩
      case measure => simp [intOf]; omega
    · obtain rfl : k = zs.length := by omega
      go_wp2
      go_ret
      refine ⟨rfl, ?_, hkw⟩
      have := hset.out
      rw [List.take_length] at this
      exact this

set_option maxHeartbeats 400000 in
theorem of_empty (a : Option Addr) (cap : Nat) (w : World) :
    Calls Tryd.prog 17 #[.slice a 0 cap] w fun e w' => e = .returned (.pointer (some ⟨w.heap.size, 0, none⟩)) ∧ SetAt w' w.heap.size none_ ∧ Keeps [] w w' := by
  have hzero := zero_set
  have hnew := hid (setAt_new w none_)
  have hkn : Keeps [] w (w.alloc (Obj.cells (row none_) 56)) := Keeps.alloc _ _ _
  go_enter Tryd.func17, Tryd.ntmps17
  go_wp2_with fail
  generalize w.alloc (Obj.cells (row none_) 56) = w1 at hnew hkn ⊢
  generalize row none_ = R
  go_loop [10] (fun i => i = .int .i64 0) (fun _ => 0)
  case atStart => rfl
  case round =>
    subst hrel
    go_wp2
    go_ret
    exact ⟨rfl, hnew.out, hkn⟩

/-- Of: every list of numbers. -/
theorem of_any (a : Option Addr) (cap : Nat) (zs : List Int) (w : World) (hz : IntsAt w a zs) (hl : zs.length ≤ 1000000) :
    Calls Tryd.prog 17 #[.slice a zs.length cap] w fun e w' => e = .returned (.pointer (some ⟨w.heap.size, 0, none⟩)) ∧ SetAt w' w.heap.size (ofI zs) ∧ Keeps [] w w' := by
  rcases hz with rfl | ⟨b, off, rfl, hc⟩
  · exact of_empty a cap w
  · exact of_raw b off cap zs w hc hl

theorem fit_ofI (zs : List Int) : Fit (ofI zs) := fit_of zs _ fit_none

theorem mem_fold (n : Nat) : ∀ (zs : List Int) (s : Nat → Bool), (zs.foldl insI s) n = (s n || decide (n < 5000 ∧ (n : Int) ∈ zs))
  | [], s => by simp
  | z :: zs, s => by
    rw [List.foldl_cons, mem_fold n zs]
    unfold insI
    by_cases h : (n : Int) = z
    · subst h
      by_cases hn : n < 5000
      · have : (n : Int) < 5000 := by omega
        simp [hn, this]
      · have : ¬ (n : Int) < 5000 := by omega
        simp [hn, this]
    · simp [h]

theorem ofI_mem (zs : List Int) (n : Nat) : ofI zs n = decide (n < 5000 ∧ (n : Int) ∈ zs) := by
  unfold ofI
  rw [mem_fold]
  simp [none_]
end Go.Proofs.YtlnimcpmkammfaaDoor
