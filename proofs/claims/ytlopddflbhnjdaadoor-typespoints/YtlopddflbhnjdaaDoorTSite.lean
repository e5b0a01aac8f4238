/-
  types.sites: how many OAllocs.
-/
import Derived.Test.YtlopddflbhnjdaaDoorTBnd
import Derived.Deep.RegionLaw
namespace Go.Proofs.YtlopddflbhnjdaaDoor
open Go.RowKit

theorem take_snoc {α : Type} {l : List α} {k : Nat} {y : α} (h : l[k]? = some y) : l.take (k + 1) = l.take k ++ [y] := by
  rw [List.take_add_one, h]
  rfl
set_option maxRecDepth 20000 in
set_option maxHeartbeats 4000000 in
theorem sites_any {w : World} {pb po : Nat} {P : Pr8} (h : PrC w pb po P) (hs : Sm10 P) : Calls Tryd.prog 56 #[.pointer (some ⟨pb, po, none⟩)] w fun e w' => e = .returned (.int .i64 (sitesN P (pts P) : Int)) ∧ Keeps [] w w' := by
  have HP := hid h
  have HC := hid (points_any h hs)
  have HS := hid hs.pts
  clear h hs
  go_enter Tryd.func56, Tryd.ntmps56
  go_wp2_with fail
  refine HC.out.mono ?_
  rintro e w1 ⟨a, cp, rfl, hr, k1⟩
  have HR := hid hr
  have HK1 := hid k1
  clear hr k1 HC
  obtain ⟨N, hN⟩ : ∃ N, N = (pts P).length := ⟨_, rfl⟩
  rw [← hN]
  have HN := hid hN
  have hN9 : (N : Int) ≤ 4500 := by have := HS.out; omega
  clear hN
  go_wp2_with fail
  go_loopw [3, 10] (fun nv kv wr => ∃ k : Nat, k ≤ N ∧ kv = .int .i64 (k : Int) ∧ nv = .int .i64 (sitesN P ((pts P).take k) : Int) ∧ Box (Keeps [] w1 wr)) (fun _ kv _ => N - (intOf kv).toNat)
  case atStart => exact ⟨0, by omega, rfl, rfl, hid (Keeps.refl _ _)⟩
  case round =>
    obtain ⟨k, hk, rfl, rfl, HK⟩ := hrel
    by_cases hlt : k < N
    · have hlt' : (k : Int) < (N : Int) := by omega
      obtain ⟨f, b, i, hpt, hq⟩ := pts_back (p := P) (n := k) (by rw [← HN.out]; exact hlt)
      obtain ⟨lb, lo, rfl, hc⟩ := HR.out.at hq
      have d0 := cell_stays HK.out hc.c0
      have d1 := cell_stays HK.out hc.c1
      have d2 := cell_stays HK.out hc.c2
      have HQ := hid (sitesN_snoc P ((pts P).take k) (f, b, i))
      rw [← take_snoc hq] at HQ
      have hle := sitesN_le P ((pts P).take k)
      rw [List.length_take] at hle
      have hle9 : sitesN P ((pts P).take k) ≤ 4500 := by omega
      have HPT := hid hpt
      clear hc hq hpt hle
      generalize sitesN P ((pts P).take k) = S at *
      generalize hS2 : sitesN P ((pts P).take (k + 1)) = S2 at *
      have HS2 := hid hS2
      clear hS2
      go_upto_region 5 with fail
      have h3 := heap_new wr (.cells #[.int .i64 (f : Int), .int .i64 (b : Int), .int .i64 (i : Int)] 50)
      have k3 := Keeps.alloc [] wr (.cells #[.int .i64 (f : Int), .int .i64 (b : Int), .int .i64 (i : Int)] 50)
      have HK3 := hid (HK.out.quiet k3)
      generalize wr.alloc (.cells #[.int .i64 (f : Int), .int .i64 (b : Int), .int .i64 (i : Int)] 50) = w3 at *
      generalize wr.heap.size = q at *
      have e0 := hcell h3 0
      have e1 := hcell h3 1
      have e2 := hcell h3 2
      have pr := PrC.stays _ _ _ _ _ (HK1.out.quiet HK3.out) HP.out
      obtain ⟨fa, fcp, H⟩ := pr.fns
      have g4 := H.cell
      obtain ⟨fb, fo, ba, bcp, rfl, B⟩ := H.at HPT.out.1
      have g2 := B.cell
      obtain ⟨bb, bo, rfl, L⟩ := B.at HPT.out.2.1
      obtain ⟨ca, ccp, g0, hrows, hccp, _⟩ := L.c0
      have hff : f < P.funcs.length := HPT.out.1
      have hbb : b < (fun8 P f).blocks.length := HPT.out.2.1
      have hii : i ≤ (blk8 (fun8 P f) b).code.length := HPT.out.2.2
      have HRW := hid hrows
      have hsite : isSite P (f, b, i) = (decide (i < (blk8 (fun8 P f) b).code.length) && decide ((ins8 (blk8 (fun8 P f) b) i).op = 5)) := rfl
      rw [hsite] at HQ
      have hff' : (f : Int) < (P.funcs.length : Int) := by omega
      have hbb' : (b : Int) < ((fun8 P f).blocks.length : Int) := by omega
      clear pr H B L hrows h3 k3 hsite d0 d1 d2
      have HCL : Box (∃ c, c = (blk8 (fun8 P f) b).code.length) := hid ⟨_, rfl⟩
      obtain ⟨c, hcc⟩ := HCL.out
      have HCC := hid hcc
      rw [← hcc] at g0 HQ hii
      clear hcc HCL
      generalize P.funcs.length = FN at *
      generalize (fun8 P f).blocks.length = BN at *
      go_region
      by_cases hic : i < c
      · have hic' : (i : Int) < (c : Int) := by omega
        obtain ⟨cb, co, rfl, LI⟩ := HRW.out.at (show (blk8 (fun8 P f) b).code[i]? = some (ins8 (blk8 (fun8 P f) b) i) from getD_get (by rw [← HCC.out]; exact hic))
        have l0 := LI.c0.1
        clear LI
        generalize (ins8 (blk8 (fun8 P f) b) i).op = op at *
        by_cases hop : op = 5
        · have hop' := eqb hop
          have HE : Box (S2 = S + 1) := hid (by rw [HQ.out]; simp [hic, hop])
          clear HQ hop
          go_wp2_with fail
          go_roundw
          case rel => exact ⟨k + 1, by omega, by go_num, by rw [HS2.out, HE.out]; go_num, hid (HK3.out.quiet (Keeps.drew _ _))⟩
          case measure => simp [intOf]; omega
        · have hop' := neb hop
          have HE : Box (S2 = S) := hid (by rw [HQ.out]; simp [hop])
          clear HQ hop
          go_wp2_with fail
          go_roundw
          case rel => exact ⟨k + 1, by omega, by go_num, by rw [HS2.out, HE.out], hid (HK3.out.quiet (Keeps.drew _ _))⟩
          case measure => simp [intOf]; omega
      · have hic' : ¬ (i : Int) < (c : Int) := by omega
        have HE : Box (S2 = S) := hid (by rw [HQ.out]; simp [hic])
        clear HQ
        go_wp2_with fail
        go_roundw
        case rel => exact ⟨k + 1, by omega, by go_num, by rw [HS2.out, HE.out], hid (HK3.out.quiet (Keeps.drew _ _))⟩
        case measure => simp [intOf]; omega
    · obtain rfl : k = N := by omega
      have HE : Box (sitesN P ((pts P).take k) = sitesN P (pts P)) := hid (by rw [HN.out, List.take_length])
      go_wp2_with fail
      go_ret
      exact ⟨by rw [HE.out]; rfl, HK1.out.quiet HK.out⟩
end Go.Proofs.YtlopddflbhnjdaaDoor
