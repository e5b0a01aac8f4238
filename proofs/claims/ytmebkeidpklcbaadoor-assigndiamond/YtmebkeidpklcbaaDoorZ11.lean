/-
  Small: is a program not too great to be walked?
-/
import Derived.Test.YtmebkeidpklcbaaDoorRows
import Derived.WalkKit
import Derived.WalkSpells
import Derived.WalkLawsBesides
import Derived.OwnWalk
import Derived.Deep.QuietTactic
import Derived.BigQuiet
import Derived.Maps.AppendAt
import Derived.Lib.Builder
import Derived.Deep.OwnRows
import Derived.Deep.DeepCutAuto
import Derived.Test.YtmebkeidpklcbaaDoorZ04

namespace Go.Proofs.YtmebkeidpklcbaaDoor
open Go.RowKit

/-- What Small counts: of blocks, of functions. -/
def wF (x : Fu8) : Nat → Nat
  | 0 => 0
  | m + 1 => wF x m + (1 + min 1000 (blk8 x m).code.length)
def wP (P : Pr8) : Nat → Nat
  | 0 => 0
  | k + 1 => wP P k + wF (fun8 P k) (fun8 P k).blocks.length
theorem wF_le (x : Fu8) : ∀ m, wF x m ≤ 1001 * m
  | 0 => Nat.zero_le _
  | m + 1 => by
    have := wF_le x m
    rw [wF]
    omega
theorem wF_eq (x : Fu8) : ∀ m, wF x m ≤ 150 → cntF x m = wF x m
  | 0, _ => rfl
  | m + 1, h => by
    rw [wF] at h
    have := wF_eq x m (by omega)
    rw [cntF_succ, wF, this]
    omega
theorem wP_eq (P : Pr8) : ∀ k, wP P k ≤ 150 → cntP P k = wP P k
  | 0, _ => rfl
  | k + 1, h => by
    rw [wP] at h
    have h1 := wP_eq P k (by omega)
    have h2 := wF_eq (fun8 P k) (fun8 P k).blocks.length (by omega)
    rw [cntP_succ, wP, h1, h2]
theorem small_nil (w : World) : Calls Tryd.prog 25 #[.pointer none] w fun e w' => e = .returned (.bool false) ∧ w' = w := by
  go_enter Tryd.func25, Tryd.ntmps25
  go_wp2
  go_ret
  exact ⟨rfl, rfl⟩
/-- What Small tells. -/
def SmPost (P : Pr8) (w : World) (e : Ending) (w' : World) : Prop := ∃ s, e = .returned (.bool s) ∧ w' = w ∧ (s = true → Sm8 P)
set_option maxRecDepth 20000 in
set_option maxHeartbeats 8000000 in
theorem small_any {w : World} {pb po : Nat} {P : Pr8} (h : PrC w pb po P) : Calls Tryd.prog 25 #[.pointer (some ⟨pb, po, none⟩)] w (SmPost P w) := by
  obtain ⟨fa, fcp, H⟩ := h.fns
  have h4 := H.cell
  obtain ⟨a0, p0, h0⟩ := h.c0.len
  obtain ⟨a1, p1, h1⟩ := h.c1.len
  obtain ⟨a2, p2, h2⟩ := h.c2.len
  obtain ⟨a3, p3, h3⟩ := h.c3.len
  have HF := hid H
  obtain ⟨N, hNN⟩ : ∃ N, N = P.funcs.length := ⟨_, rfl⟩
  have HN := hid hNN
  rw [← hNN] at h4
  generalize P.recs.length = n0 at *
  generalize P.sigs.length = n1 at *
  generalize P.ifs.length = n2 at *
  generalize P.ims.length = n3 at *
  clear h H hNN
  by_cases g4 : N ≤ 12
  case neg =>
    have g4' : (12 : Int) < (N : Int) := by omega
    clear g4
    go_enter Tryd.func25, Tryd.ntmps25
    go_wp2
    go_ret
    exact ⟨false, rfl, rfl, fun e => by cases e⟩
  have g4' : ¬ (12 : Int) < (N : Int) := by omega
  by_cases g0 : n0 ≤ 12
  case neg =>
    have g0' : (12 : Int) < (n0 : Int) := by omega
    clear g0
    go_enter Tryd.func25, Tryd.ntmps25
    go_wp2
    go_ret
    exact ⟨false, rfl, rfl, fun e => by cases e⟩
  have g0' : ¬ (12 : Int) < (n0 : Int) := by omega
  by_cases g1 : n1 ≤ 12
  case neg =>
    have g1' : (12 : Int) < (n1 : Int) := by omega
    clear g1
    go_enter Tryd.func25, Tryd.ntmps25
    go_wp2
    go_ret
    exact ⟨false, rfl, rfl, fun e => by cases e⟩
  have g1' : ¬ (12 : Int) < (n1 : Int) := by omega
  by_cases g2 : n2 ≤ 12
  case neg =>
    have g2' : (12 : Int) < (n2 : Int) := by omega
    clear g2
    go_enter Tryd.func25, Tryd.ntmps25
    go_wp2
    go_ret
    exact ⟨false, rfl, rfl, fun e => by cases e⟩
  have g2' : ¬ (12 : Int) < (n2 : Int) := by omega
  by_cases g3 : n3 ≤ 14
  case neg =>
    have g3' : (14 : Int) < (n3 : Int) := by omega
    clear g3
    go_enter Tryd.func25, Tryd.ntmps25
    go_wp2
    go_ret
    exact ⟨false, rfl, rfl, fun e => by cases e⟩
  have g3' : ¬ (14 : Int) < (n3 : Int) := by omega
  go_enter Tryd.func25, Tryd.ntmps25
  go_wp2_with fail
  clear h0 h1 h2 h3 g0 g1 g2 g3 g0' g1' g2' g3' g4'
  go_loop [3, 4] (fun nv kv => ∃ k : Nat, k ≤ N ∧ kv = .int .i64 (k : Int) ∧ nv = .int .i64 (wP P k : Int) ∧ Box (wP P k ≤ 14014 * k ∧ ∀ f, f < k → (fun8 P f).blocks.length ≤ 14)) (fun _ kv => N - (intOf kv).toNat)
  case atStart => exact ⟨0, by omega, rfl, rfl, hid ⟨Nat.zero_le _, fun f hf => by omega⟩⟩
  case round =>
    obtain ⟨k, hk, rfl, rfl, HI⟩ := hrel
    by_cases hlt : k < N
    · have hlt' : (k : Int) < (N : Int) := by omega
      obtain ⟨fb, fo, hfa, HFU⟩ := HF.out.rows.at (getD_get (d := ⟨0, [], []⟩) (show k < P.funcs.length by rw [← HN.out]; exact hlt))
      subst hfa
      have hfu : FuC w fb (fo + k * 3) (fun8 P k) := HFU
      obtain ⟨ra, rcp, hr⟩ := hfu.c1.len
      obtain ⟨ba, bcp, hb, hrows, _⟩ := hfu.c2
      have HRW := hid hrows
      obtain ⟨M, hMM⟩ : ∃ M, M = (fun8 P k).blocks.length := ⟨_, rfl⟩
      have HM := hid hMM
      rw [← hMM] at hb
      generalize (fun8 P k).regs.length = rn at *
      clear HFU hfu hrows hMM
      by_cases hM : M ≤ 14
      case neg =>
        have hM' : (14 : Int) < (M : Int) := by omega
        clear hM
        go_wp2_with fail
        go_ret
        exact ⟨false, rfl, rfl, fun e => by cases e⟩
      have hM' : ¬ (14 : Int) < (M : Int) := by omega
      by_cases hrn : rn ≤ 20
      case neg =>
        have hr' : (20 : Int) < (rn : Int) := by omega
        clear hrn
        go_wp2_with fail
        go_ret
        exact ⟨false, rfl, rfl, fun e => by cases e⟩
      have hr' : ¬ (20 : Int) < (rn : Int) := by omega
      have hwk := HI.out.1
      go_wp2_with fail
      clear hr hr' hM' hrn
      go_loop [3, 5] (fun nv bv => ∃ b : Nat, b ≤ M ∧ bv = .int .i64 (b : Int) ∧ nv = .int .i64 ((wP P k + wF (fun8 P k) b : Nat) : Int)) (fun _ bv => M - (intOf bv).toNat)
      case atStart => exact ⟨0, by omega, rfl, rfl⟩
      case round =>
        obtain ⟨b, hb9, rfl, rfl⟩ := hrel
        by_cases hlb : b < M
        · have hlb' : (b : Int) < (M : Int) := by omega
          obtain ⟨bb, bo, hba, L⟩ := HRW.out.at (show (fun8 P k).blocks[b]? = some (blk8 (fun8 P k) b) from getD_get (by rw [← HM.out]; exact hlb))
          subst hba
          obtain ⟨ca, ccp, hc⟩ := L.c0.len
          have hsu : wF (fun8 P k) (b + 1) = wF (fun8 P k) b + (1 + min 1000 (blk8 (fun8 P k) b).code.length) := rfl
          have hbd := wF_le (fun8 P k) (b + 1)
          clear L
          generalize (blk8 (fun8 P k) b).code.length = c at *
          generalize hA : wP P k + wF (fun8 P k) b = A at *
          generalize hB : wP P k + wF (fun8 P k) (b + 1) = B at *
          have HB := hid hB
          have hAB : B = A + (1 + min 1000 c) := by omega
          have hA8 : A ≤ 200000 := by have := wF_le (fun8 P k) b; omega
          clear hA hB hsu
          have hA9 : (A : Int) ≤ 200000 := by omega
          have hA0 : (0 : Int) ≤ (A : Int) := by omega
          by_cases hcc : c < 1000
          · have hc1 : (c : Int) < 1000 := by omega
            have hBe : Box (B = A + (1 + c)) := hid (by omega)
            have w4 : IntKind.i64.wrap ((A : Int) + (1 + (c : Int))) = (A : Int) + (1 + (c : Int)) := IntWalk.i64_in _ (by omega)
            clear hAB hbd hcc
            go_wp2_with fail
            go_round
            case rel => exact ⟨b + 1, by omega, by go_num, by rw [HB.out, hBe.out]; go_num⟩
            case measure => simp [intOf]; omega
          · have hc1 : ¬ (c : Int) < 1000 := by omega
            have hBe : Box (B = A + 1001) := hid (by omega)
            have w4 : IntKind.i64.wrap ((A : Int) + 1001) = (A : Int) + 1001 := IntWalk.i64_in _ (by omega)
            clear hAB hbd hcc
            go_wp2_with fail
            go_round
            case rel => exact ⟨b + 1, by omega, by go_num, by rw [HB.out, hBe.out]; go_num⟩
            case measure => simp [intOf]; omega
        · obtain rfl : b = M := by omega
          have hE : Box (wP P (k + 1) = wP P k + wF (fun8 P k) b) := hid (by rw [wP, ← HM.out])
          have hL := wF_le (fun8 P k) b
          have HI2 : Box (wP P (k + 1) ≤ 14014 * (k + 1) ∧ ∀ f, f < k + 1 → (fun8 P f).blocks.length ≤ 14) := hid ⟨by rw [hE.out]; omega, fun f hf => by
            by_cases e : f < k
            · exact HI.out.2 f e
            · obtain rfl : f = k := by omega
              rw [← HM.out]; exact hM⟩
          clear hL hwk
          generalize wP P k + wF (fun8 P k) b = A at *
          go_wp2_with fail
          go_round
          case rel => exact ⟨k + 1, by omega, by go_num, by rw [hE.out], HI2⟩
          case measure => simp [intOf]; omega
    · obtain rfl : k = N := by omega
      have hA := HI.out.1
      have FIN : Box (wP P k ≤ 150 → Sm8 P) := hid fun h9 => ⟨by rw [← HN.out]; exact g4, fun f hf => HI.out.2 f (by rw [HN.out]; exact hf), by rw [pts_cnt, ← HN.out, wP_eq P k h9]; exact h9⟩
      generalize wP P k = A at *
      by_cases h9 : A ≤ 150
      · have h9' : (A : Int) ≤ 150 := by omega
        have HS := hid (FIN.out h9)
        clear FIN
        go_wp2_with fail
        go_ret
        exact ⟨true, rfl, rfl, fun _ => HS.out⟩
      · have h9' : ¬ (A : Int) ≤ 150 := by omega
        clear FIN
        go_wp2_with fail
        go_ret
        exact ⟨false, rfl, rfl, fun e => by cases e⟩
end Go.Proofs.YtmebkeidpklcbaaDoor
