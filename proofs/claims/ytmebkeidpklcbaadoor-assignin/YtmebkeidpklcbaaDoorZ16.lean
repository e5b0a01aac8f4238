/-
  The document's own points of a program.
-/
import Derived.Test.YtmebkeidpklcbaaDoorRows
import Derived.WalkKit
import Derived.WalkSpells
import Derived.WalkLawsBesides
import Derived.OwnWalk
import Derived.Deep.QuietTactic
import Derived.BigQuiet
import Derived.Maps.AppendAt
import Derived.Lib.Builder
import Derived.Deep.OwnRows
import Derived.Deep.DeepCutAuto
import Derived.Deep.RegionHeld3
import Derived.Deep.AppendLies
import Derived.Test.YtmebkeidpklcbaaDoorZ04

namespace Go.Proofs.YtmebkeidpklcbaaDoor
open Go.RowKit

set_option maxRecDepth 20000 in
set_option maxHeartbeats 8000000 in
theorem rpoints_any {w : World} {pb po : Nat} {P : Pr8} (h : PrC w pb po P) (hs : Sm8 P) : Calls Tryd.prog 47 #[.pointer (some ⟨pb, po, none⟩)] w fun e w' => ∃ a cp, e = .returned (.slice a (pts P).length cp) ∧ RowsAt w' 3 PtC a (pts P) ∧ Keeps [] w w' := by
  have HS := hid hs
  obtain ⟨fa, fcp, H⟩ := h.fns
  have h4 := H.cell
  have hN := hs.fn
  obtain ⟨N, hNN⟩ : ∃ N, N = P.funcs.length := ⟨_, rfl⟩
  have HN := hid hNN
  rw [← hNN] at h4 hN
  have H4 : Box (∀ w', Keeps [] w w' → w'.cell? ⟨pb, po + 4, none⟩ = some (.slice fa N fcp)) := hid (by
    have h4' := h4
    intro w' k
    exact cell_stays k h4')
  have HF := hid H
  have HR0 : Box (w.ownsRow w.heap.size 43 3 (.slice none 0 0) (ptP P 0).length (ptCs (ptP P 0))) := hid (World.ownsRow_nil _ _ _ _)
  clear h hs H hNN h4
  go_enter Tryd.func47, Tryd.ntmps47
  go_wp2_with fail
  go_loopw [3, 4] (fun lv fv wr => ∃ k : Nat, k ≤ N ∧ fv = .int .i64 (k : Int) ∧ Box (wr.ownsRow w.heap.size 43 3 lv (ptP P k).length (ptCs (ptP P k))) ∧ Box (Keeps [] w wr)) (fun _ fv _ => N - (intOf fv).toNat)
  case atStart => exact ⟨0, by omega, rfl, HR0, hid (Keeps.refl _ _)⟩
  case round =>
    obtain ⟨k, hk, rfl, HR, HK⟩ := hrel
    clear HR0
    have g4 := H4.out _ HK.out
    by_cases hlt : k < N
    · have hlt' : (k : Int) < (N : Int) := by omega
      have hkf : k < P.funcs.length := by rw [← HN.out]; exact hlt
      obtain ⟨fb, fo, ba, bcp, rfl, B⟩ := HF.out.at hkf
      have hM := HS.out.bk k hkf
      have HBk := hid B
      obtain ⟨M, hMM⟩ : ∃ M, M = (fun8 P k).blocks.length := ⟨_, rfl⟩
      have HM := hid hMM
      rw [← hMM] at hM
      have G2 : Box (∀ w', Keeps [] w w' → w'.cell? ⟨fb, fo + k * 3 + 2, none⟩ = some (.slice ba M bcp)) := hid (by
        have h2' := B.cell
        rw [← hMM] at h2'
        intro w' kk
        exact cell_stays kk h2')
      have HR1 : Box (wr.ownsRow w.heap.size 43 3 u3 (ptP P k ++ ptF (fun8 P k) k 0).length (ptCs (ptP P k ++ ptF (fun8 P k) k 0))) := hid (by rw [ptF_zero, List.append_nil]; exact HR.out)
      have hcap : Box (∀ b, b < M → cntP P k + cntF (fun8 P k) (b + 1) ≤ 150) := hid fun b hb => HS.out.cntF hkf (by rw [← HM.out]; omega)
      clear B hMM HR
      go_wp2_with fail
      have HK0 := HK
      clear HK g4
      go_loopw [3, 5] (fun lv bv wr => ∃ b : Nat, b ≤ M ∧ bv = .int .i64 (b : Int) ∧ Box (wr.ownsRow w.heap.size 43 3 lv (ptP P k ++ ptF (fun8 P k) k b).length (ptCs (ptP P k ++ ptF (fun8 P k) k b))) ∧ Box (Keeps [] w wr)) (fun _ bv _ => M - (intOf bv).toNat)
      case atStart => exact ⟨0, by omega, rfl, HR1, HK0⟩
      case round =>
        obtain ⟨b, hb, rfl, HR, HK⟩ := hrel
        clear HR1 HK0
        have g4 := H4.out _ HK.out
        have g2 := G2.out _ HK.out
        by_cases hlb : b < M
        · have hlb' : (b : Int) < (M : Int) := by omega
          have hbf : b < (fun8 P k).blocks.length := by rw [← HM.out]; exact hlb
          obtain ⟨bb, bo, rfl, L⟩ := HBk.out.at hbf
          obtain ⟨ca, ccp, hcc, _⟩ := L.c0
          obtain ⟨c, hc0⟩ : ∃ c, c = (blk8 (fun8 P k) b).code.length := ⟨_, rfl⟩
          have HCC := hid hc0
          rw [← hc0] at hcc
          have CC : Box (∀ w', Keeps [] w w' → w'.cell? ⟨bb, bo + b * 5, none⟩ = some (.slice ca c ccp)) := hid (by
            have h2' := hcc
            intro w' kk
            exact cell_stays kk h2')
          have hcp := hcap.out b hlb
          rw [cntF_succ, ← hc0] at hcp
          have HR2 : Box (wr.ownsRow w.heap.size 43 3 u3 (ptP P k ++ ptF (fun8 P k) k b ++ ptB k b 0).length (ptCs (ptP P k ++ ptF (fun8 P k) k b ++ ptB k b 0))) := hid (by rw [ptB_zero, List.append_nil]; exact HR.out)
          have HL : Box (∀ i, (ptP P k ++ ptF (fun8 P k) k b ++ ptB k b i).length = cntP P k + cntF (fun8 P k) b + i) := hid fun i => by
            rw [List.length_append, List.length_append, ptB_len, ptF_len]
            rfl
          clear HR L hc0 hcc
          go_wp2_with fail
          have HK2 := HK
          clear HK g4 g2
          go_loopw [3, 6] (fun lv iv wr => ∃ i : Nat, i ≤ c + 1 ∧ iv = .int .i64 (i : Int) ∧ Box (wr.ownsRow w.heap.size 43 3 lv (ptP P k ++ ptF (fun8 P k) k b ++ ptB k b i).length (ptCs (ptP P k ++ ptF (fun8 P k) k b ++ ptB k b i))) ∧ Box (Keeps [] w wr)) (fun _ iv _ => c + 1 - (intOf iv).toNat)
          case atStart => exact ⟨0, by omega, rfl, HR2, HK2⟩
          case round =>
            obtain ⟨i, hi, rfl, HR, HK⟩ := hrel
            clear HR2 HK2
            have g4 := H4.out _ HK.out
            have g2 := G2.out _ HK.out
            have g5 := CC.out _ HK.out
            by_cases hli : i < c + 1
            · have hli' : (i : Int) ≤ (c : Int) := by omega
              have hn : Box ((ptP P k ++ ptF (fun8 P k) k b ++ ptB k b (i + 1)).length = (ptP P k ++ ptF (fun8 P k) k b ++ ptB k b i).length + 1 ∧ ptCs (ptP P k ++ ptF (fun8 P k) k b ++ ptB k b (i + 1)) = ptCs (ptP P k ++ ptF (fun8 P k) k b ++ ptB k b i) ++ [.int .i64 (k : Int), .int .i64 (b : Int), .int .i64 (i : Int)]) := hid (by
                rw [HL.out, HL.out, ptB_succ, ← List.append_assoc, ptCs_snoc]
                exact ⟨by omega, rfl⟩)
              have hle := HL.out i
              have hks := HK.out.size
              generalize (ptP P k ++ ptF (fun8 P k) k b ++ ptB k b i).length = nn at HR hn hle
              generalize ptCs (ptP P k ++ ptF (fun8 P k) k b ++ ptB k b i) = xs at HR hn
              go_wp2_with (at_builtin; go_must (refine wpList_append_own _ rfl _ _ 88 rfl w.heap.size 43 Tryd.t43 (.agg #[.int .i64 0, .int .i64 0, .int .i64 0]) 3 24 under_pts info_pt zero_pt size_pt bytes_pt rfl (by decide) _ nn xs rfl (HR.out.alloc _) ⟨wr.heap.size, 0, none⟩ 1 1 [.int .i64 (k : Int), .int .i64 (b : Int), .int .i64 (i : Int)] rfl rfl (World.news_of_block (cs := #[.int .i64 (k : Int), .int .i64 (b : Int), .int .i64 (i : Int)]) (t := 43) (fr := (0, 0)) (heap_alloc_new wr _)) (three_one _ _ _) (by unfold maxLen; omega) (by omega) (by simp; omega) ?_; intro v' w3 hown3 hgrow3 hnil3))
              have hk3 : Keeps [] w w3 := (HK.out.quiet (Keeps.alloc [] wr _)).appended HR.out hgrow3 (Nat.le_refl _)
              have HO3 := hid hown3
              have HK3 := hid hk3
              clear hgrow3 hnil3 hown3 hk3 HR HK g4 g2 g5
              go_wp2_with fail
              go_roundw
              case rel => exact ⟨i + 1, by omega, by go_num, hid (by rw [hn.out.1, hn.out.2]; exact HO3.out), HK3⟩
              case measure => simp [intOf]; omega
            · obtain rfl : i = c + 1 := by omega
              have hli' : ¬ ((c + 1 : Nat) : Int) ≤ (c : Int) := by omega
              have HR3 : Box (wr.ownsRow w.heap.size 43 3 u3 (ptP P k ++ ptF (fun8 P k) k (b + 1)).length (ptCs (ptP P k ++ ptF (fun8 P k) k (b + 1)))) := hid (by
                rw [ptF_succ, ← HCC.out, ← List.append_assoc]
                exact HR.out)
              clear HR
              go_wp2_with fail
              go_roundw
              case rel => exact ⟨b + 1, by omega, by go_num, HR3, HK⟩
              case measure => simp [intOf]; omega
        · obtain rfl : b = M := by omega
          have HR3 : Box (wr.ownsRow w.heap.size 43 3 u3 (ptP P (k + 1)).length (ptCs (ptP P (k + 1)))) := hid (by
            rw [ptP_succ, ← HM.out]
            exact HR.out)
          clear HR
          go_wp2_with fail
          go_roundw
          case rel => exact ⟨k + 1, by omega, by go_num, HR3, HK⟩
          case measure => simp [intOf]; omega
    · obtain rfl : k = N := by omega
      go_wp2_with fail
      go_ret
      obtain ⟨a, cp, e1, e2, e3, _⟩ := pts_open HR.out
      have e5 : ptP P k = pts P := by unfold pts; rw [HN.out]
      rw [e5] at e1 e3
      exact ⟨a, cp, congrArg Ending.returned e1, e3, HK.out⟩
end Go.Proofs.YtmebkeidpklcbaaDoor
