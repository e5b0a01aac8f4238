/-
  IrPoints: any program's points are numbered, and what follows them.
-/
import Derived.Test.YtknkjblifgppjaaDoorIPoint
import Derived.Test.YtknkjblifgppjaaDoorIRnx
import Derived.Test.YtknkjblifgppjaaDoorIRpt
namespace Go.Proofs.YtknkjblifgppjaaDoor
open Go.RowKit Go.Shelf

set_option maxRecDepth 20000 in
set_option maxHeartbeats 8000000 in
theorem irPoints_in {w : World} {pb po : Nat} {P : Pr8} (hg : Glob w) (h : PrC w pb po P) (hf : FewP 1048576 P) (n : Int) (hn : b64 n) (F B I : Int) : Calls Tryd.prog 3 #[.pointer (some ⟨pb, po, none⟩), .int .i64 n, .agg #[.int .i64 F, .int .i64 B, .int .i64 I]] w fun e w' => e = .returned (.bool true) ∧ Keeps [] w w' := by
  have HB := hid fun (w' : World) (k : Keeps [] w w') => begun_any w' (hg.quiet k)
  have HS := hid fun (w' : World) (k : Keeps [] w w') => small_any (PrC.stays _ _ _ _ _ k h)
  have HP := hid h
  have HF := hid hf
  have HG := hid hg
  have HN := hid hn
  have hq := heap_new w (.cells #[.int .i64 F, .int .i64 B, .int .i64 I] 24)
  have K0 := hid (Keeps.alloc [] w (.cells #[.int .i64 F, .int .i64 B, .int .i64 I] 24))
  clear hg h hf hn
  go_enter Tryd.func3, Tryd.ntmps3
  go_upto_region 1 with fail
  generalize w.alloc (.cells #[.int .i64 F, .int .i64 B, .int .i64 I] 24) = w0 at *
  generalize w.heap.size = u at *
  go_wp2_with fail
  refine (HB.out _ K0.out).mono ?_
  rintro e w1 ⟨rfl, k1⟩
  have K1 := hid (K0.out.quiet k1)
  have HQ1 := hid (keep_heap hq k1)
  clear k1 K0 hq
  go_wp2_with fail
  refine (HS.out _ K1.out).mono ?_
  rintro e w2 ⟨s, rfl, hw2, hs⟩
  rw [hw2]
  clear hw2
  cases s with
  | false =>
    go_wp2_with fail
    go_ret
    exact ⟨rfl, K1.out⟩
  | true =>
    have HSM := hid (hs rfl)
    have HPr := hid fun (w' : World) (k : Keeps [] w w') => PrC.stays _ _ _ _ _ k HP.out
    have HPT := hid fun (w' : World) (k : Keeps [] w w') => points_any (HPr.out w' k) HSM.out
    have HRP := hid fun (w' : World) (k : Keeps [] w w') => rpoints_any (HPr.out w' k) HSM.out
    have HNU := hid fun (w' : World) (k : Keeps [] w w') => number_any (HPr.out w' k) HSM.out F B I
    have HRN := hid fun (w' : World) (k : Keeps [] w w') => rnumber_any (HPr.out w' k) HSM.out F B I
    have HPO := hid fun (w' : World) (k : Keeps [] w w') (z : Int) (hz : b64 z) => point_any (HG.out.quiet k) (HPr.out w' k) HSM.out HF.out z hz (fun f b i hp w2 h2 => rnext_any h2 HSM.out f b i hp)
    unfold ptV at HNU HRN
    clear hs HS HB HPr
    obtain ⟨L, hL⟩ : ∃ L, L = (pts P).length := ⟨_, rfl⟩
    have HL := hid hL
    have h150 : L ≤ 150 := by rw [hL]; exact HSM.out.pt
    rw [← hL] at HPT HRP
    clear hL
    go_wp2_with fail
    refine (HPT.out _ K1.out).mono ?_
    rintro e w3 ⟨pa, pcp, rfl, hrows, k3⟩
    have K3 := hid (K1.out.quiet k3)
    have HQ3 := hid (keep_heap HQ1.out k3)
    have HRA := hid hrows
    clear hrows k3 K1 HQ1 HPT
    go_wp2_with fail
    refine (HRP.out _ K3.out).mono ?_
    rintro e w4 ⟨ra, rcp, rfl, hrows, k4⟩
    have K4 := hid (K3.out.quiet k4)
    have HQ4 := hid (keep_heap HQ3.out k4)
    have HRB := hid hrows
    have HRA4 := hid fun (w' : World) (k : Keeps [] w4 w') => HRA.out.quiet PtC.stays (k4.quiet k)
    clear hrows k4 K3 HQ3 HRP HRA
    have hLL : ((L : Int) != (L : Int)) = false := by simp
    generalize num8 P F B I = num at *
    have hnn : (num != num) = false := by simp
    have IC : Box (∀ w', Keeps [] w4 w' → w'.cell? ⟨u, 0, none⟩ = some (.int .i64 F) ∧ w'.cell? ⟨u, 1, none⟩ = some (.int .i64 B) ∧ w'.cell? ⟨u, 2, none⟩ = some (.int .i64 I)) := hid fun w' k => ⟨cell_stays k (hcell HQ4.out 0), cell_stays k (hcell HQ4.out 1), cell_stays k (hcell HQ4.out 2)⟩
    have HN4 := hid fun (w' : World) (k : Keeps [] w4 w') => HNU.out w' (K4.out.quiet k)
    have HR4 := hid fun (w' : World) (k : Keeps [] w4 w') => HRN.out w' (K4.out.quiet k)
    obtain ⟨c0, c1, c2⟩ := IC.out _ (Keeps.refl _ _)
    clear HQ4 HNU HRN
    go_upto_region 8 with fail
    go_region_held3 (fun w' => w'.cell? ⟨u, 0, none⟩ = some (.int .i64 F) ∧ w'.cell? ⟨u, 1, none⟩ = some (.int .i64 B) ∧ w'.cell? ⟨u, 2, none⟩ = some (.int .i64 I)) (go_keep) (first
      | (go_at_call 13; refine (HN4.out _ (Keeps.drew [] _)).mono ?_; rintro e w5 ⟨rfl, k5⟩; have K5 := (Keeps.drew [] w4).quiet k5; obtain ⟨f60, f61, f62⟩ := IC.out _ K5; clear k5)
      | (go_at_call 14; refine (HR4.out _ K5).mono ?_; rintro e w6 ⟨rfl, k6⟩; have K6 := K5.quiet k6; obtain ⟨f70, f71, f72⟩ := IC.out _ K6; clear k6))
    have KA := hid K6
    clear K5 K6 IC HN4 HR4 hnn hLL
    go_wp2_with fail
    go_loopw [10] (fun iv wr => ∃ i : Nat, i ≤ L ∧ iv = .int .i64 (i : Int) ∧ Box (Keeps [] w6 wr)) (fun iv _ => L - (intOf iv).toNat)
    case atStart => exact ⟨0, by omega, rfl, hid (Keeps.refl _ _)⟩
    case round =>
      obtain ⟨i, hi, rfl, HK⟩ := hrel
      have HKW := hid (KA.out.quiet HK.out)
      by_cases hlt : i < L
      · have hlt' : (i : Int) < (L : Int) := by omega
        obtain ⟨f, b, j, hpt, hget⟩ := pts_back (p := P) (n := i) (by rw [← HL.out]; exact hlt)
        obtain ⟨qb, qo, hpa, r1⟩ := (HRA4.out _ HKW.out).at hget
        subst hpa
        obtain ⟨rb, ro, hra, r2⟩ := (HRB.out.quiet PtC.stays HKW.out).at hget
        subst hra
        have HC : Box (∀ w', Keeps [] wr w' → (w'.cell? ⟨qb, qo + i * 3, none⟩ = some (.int .i64 (f : Int)) ∧ w'.cell? ⟨qb, qo + i * 3 + 1, none⟩ = some (.int .i64 (b : Int)) ∧ w'.cell? ⟨qb, qo + i * 3 + 2, none⟩ = some (.int .i64 (j : Int))) ∧ w'.cell? ⟨rb, ro + i * 3, none⟩ = some (.int .i64 (f : Int)) ∧ w'.cell? ⟨rb, ro + i * 3 + 1, none⟩ = some (.int .i64 (b : Int)) ∧ w'.cell? ⟨rb, ro + i * 3 + 2, none⟩ = some (.int .i64 (j : Int))) := hid fun w' k =>
          have s := PtC.stays _ _ _ _ _ k r1
          have t := PtC.stays _ _ _ _ _ k r2
          ⟨⟨s.c0, s.c1, s.c2⟩, t.c0, t.c1, t.c2⟩
        have HPI := hid fun (w' : World) (k : Keeps [] wr w') => HPO.out w' ((K4.out.quiet HKW.out).quiet k) (i : Int) ⟨by omega, by omega⟩
        have e0 : ((f : Int) != (f : Int)) = false := by simp
        have e1 : ((b : Int) != (b : Int)) = false := by simp
        have e2 : ((j : Int) != (j : Int)) = false := by simp
        obtain ⟨⟨c0, c1, c2⟩, d0, d1, d2⟩ := HC.out _ (Keeps.refl _ _)
        clear hpt hget r1 r2 HPO HRA4 HRB
        go_upto_region 13 with fail
        go_region_held3 (fun w' => (w'.cell? ⟨qb, qo + i * 3, none⟩ = some (.int .i64 (f : Int)) ∧ w'.cell? ⟨qb, qo + i * 3 + 1, none⟩ = some (.int .i64 (b : Int)) ∧ w'.cell? ⟨qb, qo + i * 3 + 2, none⟩ = some (.int .i64 (j : Int))) ∧ w'.cell? ⟨rb, ro + i * 3, none⟩ = some (.int .i64 (f : Int)) ∧ w'.cell? ⟨rb, ro + i * 3 + 1, none⟩ = some (.int .i64 (b : Int)) ∧ w'.cell? ⟨rb, ro + i * 3 + 2, none⟩ = some (.int .i64 (j : Int))) (go_keep) (first
          | (go_at_call 15; refine (HPI.out _ (Keeps.drew [] _)).mono ?_; rintro e w7 ⟨rfl, k7⟩; have K7 := (Keeps.drew [] wr).quiet k7; obtain ⟨⟨a0, a1, a2⟩, b0, b1, b2⟩ := HC.out _ K7; clear k7))
        have K8 := hid (HK.out.quiet K7)
        clear K7 HC HPI
        go_wp2_with fail
        go_roundw
        case rel => exact ⟨i + 1, by omega, by go_num, K8⟩
        case measure => simp [intOf]; omega
      · obtain rfl : i = L := by omega
        have HPI := hid (HPO.out wr (K4.out.quiet HKW.out) n HN.out)
        go_wp2_with fail
        refine HPI.out.mono ?_
        rintro e w7 ⟨rfl, k7⟩
        go_wp2_with fail
        go_ret
        exact ⟨rfl, (K4.out.quiet HKW.out).quiet k7⟩
/-- No program. -/
theorem irPoints_nil (w : World) (hg : Glob w) (n F B I : Int) : Calls Tryd.prog 3 #[.pointer none, .int .i64 n, .agg #[.int .i64 F, .int .i64 B, .int .i64 I]] w fun e w' => e = .returned (.bool true) ∧ Keeps [] w w' := by
  have HB := hid fun (w' : World) (k : Keeps [] w w') => begun_any w' (hg.quiet k)
  have HS := hid fun (w' : World) => small_nil w'
  have K0 := hid (Keeps.alloc [] w (.cells #[.int .i64 F, .int .i64 B, .int .i64 I] 24))
  clear hg
  go_enter Tryd.func3, Tryd.ntmps3
  go_wp2_with fail
  refine (HB.out _ K0.out).mono ?_
  rintro e w1 ⟨rfl, k1⟩
  have K1 := hid (K0.out.quiet k1)
  clear k1 K0
  go_wp2_with fail
  refine (HS.out _).mono ?_
  rintro e w2 ⟨rfl, rfl⟩
  go_wp2_with fail
  go_ret
  exact ⟨rfl, K1.out⟩
theorem irPoints_walk (v : Value) (n f b i : Int) (w : World) (hg : Glob w) (hp : ProgAt 1048576 w v) (hn : b64 n) (_ : b64 f) (_ : b64 b) (_ : b64 i) : Calls Tryd.prog 3 #[v, .int .i64 n, .agg #[.int .i64 f, .int .i64 b, .int .i64 i]] w fun e w' => e = .returned (.bool true) ∧ Keeps [] w w' := by
  rcases hp with rfl | ⟨b', o, P, rfl, h1, h2⟩
  · exact irPoints_nil w hg n f b i
  · exact irPoints_in hg h1 h2 n hn f b i
end Go.Proofs.YtknkjblifgppjaaDoor
