/-
  Contract: bitset's Len.
-/
import Derived.Test.YtlnimcpmkammfaaDoorBits
namespace Go.Proofs.YtlnimcpmkammfaaDoor
open Go.RowKit

set_option maxHeartbeats 400000 in
theorem len_nil (w : World) :
    Calls Tryd.prog 23 #[.pointer none] w fun e w' => e = .returned (.int .i64 0) ∧ w' = w := by
  go_enter Tryd.func23, Tryd.ntmps23
  go_wp2
  go_ret
  exact ⟨rfl, rfl⟩

theorem info_arr (s : Nat → Bool) : (Tryd.prog.info? 54).map (·.size) = some (row s).size := by
  rw [row_size]; kernel_rfl
theorem under_arr : Tryd.prog.underlying 54 = some (.array 79 53) := by kernel_rfl

set_option maxHeartbeats 400000 in
theorem len_raw (b : Nat) (s : Nat → Bool) (w : World) (hs : SetAt w b s) :
    Calls Tryd.prog 23 #[.pointer (some ⟨b, 0, none⟩)] w fun e w' => e = .returned (.int .i64 (cnt s 0 5056 : Nat)) ∧ w' = w := by
  have HS := hid hs
  clear hs
  go_enter Tryd.func23, Tryd.ntmps23
  go_wp2_with (refine wpList_load_row rfl 54 _ rfl b rfl 56 (row s) (0, 0) (.array 79 53) HS.out.heap under_arr rfl (info_arr s) ?_)
  have hidx0 : Box (∀ k : Nat, k < 79 → ∀ w, (Instr.index 54 (.agg (row s)) (.int .i64 (k : Int))).run Tryd.prog w = .ok (.int .u64 (wd s k : Nat)) w) := hid (idx_row s)
  clear HS
  generalize row s = R at hidx0 ⊢
  go_loop [3, 12] (fun c i => ∃ k : Nat, k ≤ 79 ∧ i = .int .i64 k ∧ c = .int .i64 (cnt s 0 (64 * k) : Nat)) (fun _ i => 79 - (intOf i).toNat)
  case atStart => exact ⟨0, by omega, rfl, rfl⟩
  case round =>
    obtain ⟨k, hk, rfl, rfl⟩ := hrel
    have hb1 : cnt s 0 (64 * k) ≤ 5056 := Nat.le_trans (cnt_le s _ _) (by omega)
    have hb2 : cnt s (64 * k) 64 ≤ 64 := cnt_le s _ _
    by_cases hlt : k < 79
    · have hidx := hidx0.out k hlt
      have hadd : Box (cnt s 0 (64 * (k + 1)) = cnt s 0 (64 * k) + cnt s (64 * k) 64) := by
        refine hid ?_
        have := cnt_add s (64 * k) 64 0
        rw [Nat.zero_add] at this
        rw [← this]
        exact congrArg (cnt s 0) (by omega)
      have HO := hid fun w1 => ones_any s k w1
      generalize cnt s 0 (64 * k) = c at hb1 hadd ⊢
      generalize cnt s (64 * k) 64 = d at hb2 hadd HO
      generalize wd s k = x at hidx HO
      go_wp2_with fail
      refine (HO.out _).mono ?_
      rintro e w' ⟨rfl, rfl⟩
      go_wp2
      go_round
      case rel => exact ⟨k + 1, by omega, by go_num, by rw [hadd.out]; go_num⟩
      case measure => simp [intOf]; omega
    · obtain rfl : k = 79 := by omega
      go_wp2
      go_ret
      exact ⟨rfl, rfl⟩

theorem cnt_none (s : Nat → Bool) : ∀ m b, (∀ i, i < m → s (b + i) = false) → cnt s b m = 0
  | 0, _, _ => rfl
  | m + 1, b, h => by
    have h0 := h 0 (by omega)
    have h1 := cnt_none s m (b + 1) fun i hi => by have := h (i + 1) (by omega); rw [← this]; exact congrArg s (by omega)
    unfold cnt
    rw [h1]
    simp at h0
    simp [h0]

/-- The numbers of a set, rising. -/
def elems (s : Nat → Bool) : List Nat := (List.range 5000).filter s

theorem cnt_range (s : Nat → Bool) : ∀ m, cnt s 0 m = ((List.range m).filter s).length
  | 0 => rfl
  | m + 1 => by
    have h := cnt_add s m 1 0
    rw [h, cnt_range s m, List.range_succ, List.filter_append, List.length_append]
    cases hs : s m <;> simp [cnt, List.filter, hs]

theorem cnt_all (s : Nat → Bool) (hf : Fit s) : cnt s 0 5056 = (elems s).length := by
  have h := cnt_add s 5000 56 0
  rw [cnt_none s 56 _ (fun i _ => hf _ (by omega))] at h
  rw [h, Nat.add_zero, cnt_range]; rfl

/-- Len: how many. -/
theorem len_any (b : Nat) (s : Nat → Bool) (w : World) (hs : SetAt w b s) (hf : Fit s) :
    Calls Tryd.prog 23 #[.pointer (some ⟨b, 0, none⟩)] w fun e w' => e = .returned (.int .i64 ((elems s).length : Nat)) ∧ w' = w := by
  rw [← cnt_all s hf]
  exact len_raw b s w hs
end Go.Proofs.YtlnimcpmkammfaaDoor
