/-
  HeapFull: four hundred objects there may be.
-/
import Derived.Test.YtpllhcifoiahpaaHpBeg
namespace Go.Proofs.Ytpllhcifoiahpaa
open Go.RowKit

/-- A heap of k objects, made since w0. -/
def FuH (w0 w : World) (hp k : Nat) : Prop := ∃ os F, os.length = k ∧ Mine w0 w hp os F
theorem fu_more {w0 w : World} {hp k : Nat} (h : FuH w0 w hp k) (hk : k < 400) (site : Int) : Calls Try.prog 11 #[.pointer (some ⟨hp, 0, none⟩), .int .i64 site, .slice none 0 0] w fun e w' => e = .returned (.int .i64 ((k : Int) + 1)) ∧ FuH w0 w' hp (k + 1) := by
  obtain ⟨os, F, hl, M⟩ := h
  refine (alloc_room (l := []) M.has (by omega) site (.inl rfl) (by decide)).mono ?_
  rintro e w1 ⟨rfl, fs, F1, h1, k1, n1, _⟩
  exact ⟨by rw [hl], _, _, by simp [hl], M.more h1 k1 n1⟩
theorem fu_full {w0 w : World} {hp : Nat} (h : FuH w0 w hp 400) (site : Int) : Calls Try.prog 11 #[.pointer (some ⟨hp, 0, none⟩), .int .i64 site, .slice none 0 0] w fun e w' => e = .returned (.int .i64 0) ∧ FuH w0 w' hp 400 := by
  obtain ⟨os, F, hl, M⟩ := h
  refine (alloc_full M.has (by omega) site _).mono ?_
  rintro e w1 ⟨rfl, k1⟩
  exact ⟨rfl, os, F, hl, M.quiet k1⟩
theorem fu_len {w0 w : World} {hp k : Nat} (h : FuH w0 w hp k) : Calls Try.prog 16 #[.pointer (some ⟨hp, 0, none⟩)] w fun e w' => e = .returned (.int .i64 (k : Int)) ∧ Keeps [] w0 w' := by
  obtain ⟨os, F, hl, M⟩ := h
  subst hl
  refine (hlen_any M.has).mono ?_
  rintro e w1 ⟨rfl, k1⟩
  exact ⟨rfl, M.keeps.quiet k1⟩
theorem ifor_no (n : Int) (h : ¬ (0 ≤ n ∧ n ≤ 450)) : (decide (n < 0) || decide (450 < n)) = true := by
  simp; omega
set_option maxRecDepth 20000 in
set_option maxHeartbeats 4000000 in
theorem heapFull_walk (n : Int) (w : World) : Calls Try.prog 5 #[.int .i64 n] w fun e w' => e = .returned (.bool true) ∧ Keeps [] w w' := by
  go_enter Try.func5, Try.ntmps5
  go_wp2_with fail
  refine (begun_any w).mono ?_
  rintro e w1 ⟨rfl, k⟩
  have K1 := hid k
  clear k
  by_cases h0 : n < 0
  · go_wp2
    go_ret
    exact ⟨rfl, K1.out⟩
  by_cases h1 : 450 < n
  · go_wp2
    go_ret
    exact ⟨rfl, K1.out⟩
  obtain ⟨N, rfl⟩ : ∃ N : Nat, n = (N : Int) := ⟨n.toNat, by omega⟩
  have hN : N ≤ 450 := by omega
  go_wp2_with fail
  refine (new_hp w1).mono ?_
  rintro e w2 ⟨rfl, hh, hk⟩
  obtain ⟨hp, hhp⟩ : ∃ hp, hp = w1.heap.size := ⟨_, rfl⟩
  have M2 := Mine.new hh hk hhp
  rw [← hhp]
  have M2' : Mine w w2 hp [] [hp] := ⟨M2.has, K1.out.quiet M2.keeps, fun x hx => Nat.le_trans K1.out.size (M2.young x hx)⟩
  have H0 : Box (FuH w w2 hp (min 0 400)) := hid ⟨[], [hp], rfl, M2'⟩
  clear hh hk hhp K1 M2 M2'
  go_wp2_with fail
  go_loopw [5] (fun iv wr => ∃ (k : Nat), k ≤ N ∧ iv = .int .i64 ((k : Int) + 1) ∧ Box (FuH w wr hp (min k 400))) (fun iv _ => N + 1 - (intOf iv).toNat)
  case atStart => exact ⟨0, by omega, rfl, H0⟩
  case round =>
    obtain ⟨k, hk, rfl, HF⟩ := hrel
    clear H0
    by_cases hlt : k < N
    · have hlt' : (k : Int) + 1 ≤ (N : Int) := by omega
      by_cases h4 : k < 400
      · have h4' : (k : Int) + 1 ≤ 400 := by omega
        have C := hid (fu_more (show FuH w wr hp k by have := HF.out; rwa [Nat.min_eq_left (by omega)] at this) h4 ((k : Int) + 1))
        clear HF
        go_wp2_with fail
        refine C.out.mono ?_
        rintro e w3 ⟨rfl, h3⟩
        have H3 : Box (FuH w w3 hp (min (k + 1) 400)) := hid (by rwa [Nat.min_eq_left (by omega)])
        clear C h3
        go_wp2_with fail
        go_roundw
        case rel => exact ⟨k + 1, by omega, by go_num, H3⟩
        case measure => simp [intOf]; omega
      · have h4' : ¬ (k : Int) + 1 ≤ 400 := by omega
        have h4'' : 400 < (k : Int) + 1 := by omega
        have C := hid (fu_full (show FuH w wr hp 400 by have := HF.out; rwa [Nat.min_eq_right (by omega)] at this) ((k : Int) + 1))
        clear HF
        go_wp2_with fail
        refine C.out.mono ?_
        rintro e w3 ⟨rfl, h3⟩
        have H3 : Box (FuH w w3 hp (min (k + 1) 400)) := hid (by rwa [Nat.min_eq_right (by omega)])
        clear C h3
        go_wp2_with fail
        go_roundw
        case rel => exact ⟨k + 1, by omega, by go_num, H3⟩
        case measure => simp [intOf]; omega
    · obtain rfl : N = k := by omega
      have C := hid (fu_len HF.out)
      clear HF
      go_wp2_with fail
      refine C.out.mono ?_
      rintro e w3 ⟨rfl, k3⟩
      have K3 := hid k3
      clear C k3
      by_cases h4 : N < 400
      · have e4 : min N 400 = N := by omega
        rw [e4]
        have h4' : (N : Int) < 400 := by omega
        go_wp2
        go_ret
        exact ⟨by simp, K3.out⟩
      · have e4 : ((min N 400 : Nat) : Int) = 400 := by omega
        rw [e4]
        have h4' : (400 : Int) ≤ (N : Int) := by omega
        clear e4 h4
        go_wp2
        all_goals go_ret
        all_goals exact ⟨by first | rfl | (simp; omega), K3.out⟩
end Go.Proofs.Ytpllhcifoiahpaa
