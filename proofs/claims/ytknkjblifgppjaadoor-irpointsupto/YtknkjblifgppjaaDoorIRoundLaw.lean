/-
  IrRound: each point has its number, and the number its point.
-/
import Derived.Test.YtknkjblifgppjaaDoorIBegun
import Derived.Test.YtknkjblifgppjaaDoorICode
import Derived.Test.YtknkjblifgppjaaDoorISm
import Derived.Test.YtknkjblifgppjaaDoorIFew
namespace Go.Proofs.YtknkjblifgppjaaDoor
open Go.RowKit Go.Shelf

theorem num8_in {P : Pr8} {f b i : Nat} (h : IsPt P f b i) : num8 P f b i = (pos8 P f b i : Int) := by
  obtain ⟨h1, h2, h3⟩ := h
  unfold num8
  rw [if_pos ⟨by omega, by omega, by omega, by simpa using h2⟩, if_pos ⟨by omega, by simpa using h3⟩]
  simp
theorem num8_great (P : Pr8) : num8 P (P.funcs.length : Int) 0 0 = -1 := by
  unfold num8
  rw [if_neg (fun h => by have := h.2.1; omega)]
theorem num8_below (P : Pr8) : num8 P (-1) 0 0 = -1 := by
  unfold num8
  rw [if_neg (fun h => by have := h.1; omega)]

set_option maxRecDepth 20000 in
set_option maxHeartbeats 8000000 in
theorem irRound_in {w : World} {pb po : Nat} {P : Pr8} (hg : Glob w) (h : PrC w pb po P) (hf : FewP 17592186044416 P) : Calls Tryd.prog 7 #[.pointer (some ⟨pb, po, none⟩)] w fun e w' => e = .returned (.bool true) ∧ Keeps [] w w' := by
  have HB := hid (begun_any w hg)
  have HS := hid fun (w' : World) (k : Keeps [] w w') => small_any (PrC.stays _ _ _ _ _ k h)
  have HP := hid h
  have HF := hid hf
  clear hg h hf
  go_enter Tryd.func7, Tryd.ntmps7
  go_wp2_with fail
  refine HB.out.mono ?_
  rintro e w1 ⟨rfl, k1⟩
  go_wp2_with fail
  refine (HS.out _ k1).mono ?_
  rintro e w2 ⟨s, rfl, hw2, hs⟩
  rw [hw2]
  clear hw2
  cases s with
  | false =>
    go_wp2_with fail
    go_ret
    exact ⟨rfl, k1⟩
  | true =>
    have HSM := hid (hs rfl)
    have HPT := hid (points_any (PrC.stays _ _ _ _ _ k1 HP.out) HSM.out)
    clear hs HS HB
    go_wp2_with fail
    refine HPT.out.mono ?_
    rintro e w3 ⟨pa, pcp, rfl, hrows, k3⟩
    have HRW := hid hrows
    have K3 := hid (k1.quiet k3)
    clear hrows k3 k1 HPT
    obtain ⟨L, hL⟩ : ∃ L, L = (pts P).length := ⟨_, rfl⟩
    have HL := hid hL
    have h150 : L ≤ 150 := by rw [hL]; exact HSM.out.pt
    rw [← hL]
    clear hL
    go_wp2_with fail
    go_loopw [5] (fun iv wr => ∃ i : Nat, i ≤ L ∧ iv = .int .i64 (i : Int) ∧ Box (Keeps [] w3 wr)) (fun iv _ => L - (intOf iv).toNat)
    case atStart => exact ⟨0, by omega, rfl, hid (Keeps.refl _ _)⟩
    case round =>
      obtain ⟨i, hi, rfl, HK⟩ := hrel
      by_cases hlt : i < L
      · have hlt' : (i : Int) < (L : Int) := by omega
        obtain ⟨f, b, j, hpt, hget⟩ := pts_back (p := P) (n := i) (by rw [← HL.out]; exact hlt)
        have hpos := (pts_pos hget).2
        have HPr := hid fun (w' : World) (k : Keeps [] wr w') => PrC.stays _ _ _ _ _ ((K3.out.quiet HK.out).quiet k) HP.out
        have HNU := hid fun (w' : World) (k : Keeps [] wr w') => number_in (HPr.out w' k) HSM.out f b j hpt
        have HAT := hid fun (w' : World) (k : Keeps [] wr w') => at_pt (HPr.out w' k) HSM.out f b j hpt (fun h => HF.out.at hpt.1 hpt.2.1 h)
        have HCO := hid fun (w' : World) (k : Keeps [] wr w') => code_any (HPr.out w' k) HSM.out f b j hpt
        rw [← hpos] at HNU HAT
        obtain ⟨qb, qo, hpa, r1⟩ := HRW.out.at hget
        subst hpa
        have PC : Box (∀ w', Keeps [] wr w' → w'.cell? ⟨qb, qo + i * 3, none⟩ = some (.int .i64 (f : Int)) ∧ w'.cell? ⟨qb, qo + i * 3 + 1, none⟩ = some (.int .i64 (b : Int)) ∧ w'.cell? ⟨qb, qo + i * 3 + 2, none⟩ = some (.int .i64 (j : Int))) := hid fun w' k =>
          have s := PtC.stays _ _ _ _ _ (HK.out.quiet k) r1
          ⟨s.c0, s.c1, s.c2⟩
        have hie : ((i : Int) != (i : Int)) = false := by simp
        unfold ptV at HNU HCO
        clear hpos hget HPr r1
        obtain ⟨c0, c1, c2⟩ := PC.out _ (Keeps.refl _ _)
        go_wp2_with fail
        refine (HNU.out _ (Keeps.refl _ _)).mono ?_
        rintro e w4 ⟨rfl, k4⟩
        clear c0 c1 c2
        go_wp2_with fail
        refine (HAT.out _ k4).mono ?_
        rintro e w5 ⟨k5, hcase⟩
        have K5 := hid (k4.quiet k5)
        clear k4 k5 HNU HAT
        rcases hcase with ⟨hin, ya1, yc1, rfl, _⟩ | ⟨hin, rfl⟩
        · unfold atV insV
          have HIN := hid hin
          have HC2 : Box (∀ w', Keeps [] wr w' → Calls Tryd.prog 27 #[.pointer (some ⟨pb, po, none⟩), .agg #[.int .i64 (f : Int), .int .i64 (b : Int), .int .i64 (j : Int)]] w' fun e w2 => Keeps [] w' w2 ∧ ∃ a cp, e = .returned (.tuple #[.agg #[.int .i64 (ins8 (blk8 (fun8 P f) b) j).op, .int .i64 (ins8 (blk8 (fun8 P f) b) j).dst, .int .i64 (ins8 (blk8 (fun8 P f) b) j).a, .int .i64 (ins8 (blk8 (fun8 P f) b) j).b, .int .i64 (ins8 (blk8 (fun8 P f) b) j).n, .slice a (ins8 (blk8 (fun8 P f) b) j).args.length cp], .bool true])) := hid fun w' k => (HCO.out w' k).mono fun e w2 hc => by
            rcases hc with ⟨k9, ⟨_, a, cp, e1, _, _⟩ | ⟨hn, _⟩⟩
            · exact ⟨k9, a, cp, e1⟩
            · exact absurd HIN.out hn
          clear HCO hin
          generalize (ins8 (blk8 (fun8 P f) b) j).op = y0 at *
          generalize (ins8 (blk8 (fun8 P f) b) j).dst = y1 at *
          generalize (ins8 (blk8 (fun8 P f) b) j).a = y2 at *
          generalize (ins8 (blk8 (fun8 P f) b) j).b = y3 at *
          generalize (ins8 (blk8 (fun8 P f) b) j).n = y4 at *
          generalize (ins8 (blk8 (fun8 P f) b) j).args.length = yn at *
          have h6 := heap_new w5 (.cells #[.int .i64 y0, .int .i64 y1, .int .i64 y2, .int .i64 y3, .int .i64 y4, .slice ya1 yn yc1] 34)
          have K6 := hid (K5.out.quiet (Keeps.alloc [] w5 (.cells #[.int .i64 y0, .int .i64 y1, .int .i64 y2, .int .i64 y3, .int .i64 y4, .slice ya1 yn yc1] 34)))
          go_upto_region 13 with fail
          generalize w5.alloc (.cells #[.int .i64 y0, .int .i64 y1, .int .i64 y2, .int .i64 y3, .int .i64 y4, .slice ya1 yn yc1] 34) = w6 at *
          generalize w5.heap.size = u at *
          clear K5
          obtain ⟨c0, c1, c2⟩ := PC.out _ K6.out
          go_wp2_with fail
          refine (HC2.out _ K6.out).mono ?_
          rintro e w7 ⟨k7, ca1, cc1, rfl⟩
          clear c0 c1 c2
          have h7 := keep_heap h6 k7
          have h8 := keep_heap h7 (Keeps.alloc [] w7 (.cells #[.int .i64 y0, .int .i64 y1, .int .i64 y2, .int .i64 y3, .int .i64 y4, .slice ca1 yn cc1] 34))
          have h9 := heap_new w7 (.cells #[.int .i64 y0, .int .i64 y1, .int .i64 y2, .int .i64 y3, .int .i64 y4, .slice ca1 yn cc1] 34)
          have K8 := hid ((K6.out.quiet k7).quiet (Keeps.alloc [] w7 (.cells #[.int .i64 y0, .int .i64 y1, .int .i64 y2, .int .i64 y3, .int .i64 y4, .slice ca1 yn cc1] 34)))
          go_upto_region 14 with fail
          generalize w7.alloc (.cells #[.int .i64 y0, .int .i64 y1, .int .i64 y2, .int .i64 y3, .int .i64 y4, .slice ca1 yn cc1] 34) = w8 at *
          generalize w7.heap.size = v at *
          have a0 := hcell h8 0
          have a1 := hcell h8 1
          have a4 := hcell h8 4
          have b0 := hcell h9 0
          have b1 := hcell h9 1
          have b4 := hcell h9 4
          have e0 : (y0 != y0) = false := by simp
          have e1 : (y1 != y1) = false := by simp
          have e4 : (y4 != y4) = false := by simp
          clear h6 h7 h8 h9 K6 k7
          go_wp2_with fail
          go_roundw
          case rel => exact ⟨i + 1, by omega, by go_num, hid (HK.out.quiet K8.out)⟩
          case measure => simp [intOf]; omega
        · unfold noAt insV zero8
          have HIN := hid hin
          have HC2 : Box (∀ w', Keeps [] wr w' → Calls Tryd.prog 27 #[.pointer (some ⟨pb, po, none⟩), .agg #[.int .i64 (f : Int), .int .i64 (b : Int), .int .i64 (j : Int)]] w' fun e w2 => Keeps [] w' w2 ∧ e = .returned (.tuple #[.agg #[.int .i64 0, .int .i64 0, .int .i64 0, .int .i64 0, .int .i64 0, .slice none 0 0], .bool false])) := hid fun w' k => (HCO.out w' k).mono fun e w2 hc => by
            rcases hc with ⟨k9, ⟨hy, _⟩ | ⟨_, e1⟩⟩
            · exact absurd hy HIN.out
            · exact ⟨k9, e1⟩
          clear HCO hin
          have h6 := heap_new w5 (.cells #[.int .i64 0, .int .i64 0, .int .i64 0, .int .i64 0, .int .i64 0, .slice none 0 0] 34)
          have K6 := hid (K5.out.quiet (Keeps.alloc [] w5 (.cells #[.int .i64 0, .int .i64 0, .int .i64 0, .int .i64 0, .int .i64 0, .slice none 0 0] 34)))
          go_upto_region 13 with fail
          generalize w5.alloc (.cells #[.int .i64 0, .int .i64 0, .int .i64 0, .int .i64 0, .int .i64 0, .slice none 0 0] 34) = w6 at *
          generalize w5.heap.size = u at *
          clear K5
          obtain ⟨c0, c1, c2⟩ := PC.out _ K6.out
          go_wp2_with fail
          refine (HC2.out _ K6.out).mono ?_
          rintro e w7 ⟨k7, rfl⟩
          clear c0 c1 c2
          have h7 := keep_heap h6 k7
          have h8 := keep_heap h7 (Keeps.alloc [] w7 (.cells #[.int .i64 0, .int .i64 0, .int .i64 0, .int .i64 0, .int .i64 0, .slice none 0 0] 34))
          have h9 := heap_new w7 (.cells #[.int .i64 0, .int .i64 0, .int .i64 0, .int .i64 0, .int .i64 0, .slice none 0 0] 34)
          have K8 := hid ((K6.out.quiet k7).quiet (Keeps.alloc [] w7 (.cells #[.int .i64 0, .int .i64 0, .int .i64 0, .int .i64 0, .int .i64 0, .slice none 0 0] 34)))
          go_upto_region 14 with fail
          generalize w7.alloc (.cells #[.int .i64 0, .int .i64 0, .int .i64 0, .int .i64 0, .int .i64 0, .slice none 0 0] 34) = w8 at *
          generalize w7.heap.size = v at *
          have a0 := hcell h8 0
          have a1 := hcell h8 1
          have a4 := hcell h8 4
          have b0 := hcell h9 0
          have b1 := hcell h9 1
          have b4 := hcell h9 4
          clear h6 h7 h8 h9 K6 k7
          go_wp2_with fail
          go_roundw
          case rel => exact ⟨i + 1, by omega, by go_num, hid (HK.out.quiet K8.out)⟩
          case measure => simp [intOf]; omega
      · obtain rfl : i = L := by omega
        have hPr := PrC.stays _ _ _ _ _ (K3.out.quiet HK.out) HP.out
        obtain ⟨fa, fcp, FN⟩ := hPr.fns
        have h4 := FN.cell
        have HN1 := hid (number_any hPr HSM.out (P.funcs.length : Int) 0 0)
        have HN2 := hid fun (w' : World) (k : Keeps [] wr w') => number_any (PrC.stays _ _ _ _ _ k hPr) HSM.out (-1) 0 0
        rw [num8_great] at HN1
        rw [num8_below] at HN2
        unfold ptV at HN1 HN2
        clear FN hPr
        generalize P.funcs.length = nf at *
        go_wp2_with fail
        refine HN1.out.mono ?_
        rintro e w4 ⟨rfl, k4⟩
        go_wp2_with fail
        refine (HN2.out _ k4).mono ?_
        rintro e w5 ⟨rfl, k5⟩
        go_wp2_with fail
        go_ret
        exact ⟨rfl, (K3.out.quiet HK.out).quiet (k4.quiet k5)⟩
/-- No program. -/
theorem irRound_nil (w : World) (hg : Glob w) : Calls Tryd.prog 7 #[.pointer none] w fun e w' => e = .returned (.bool true) ∧ Keeps [] w w' := by
  have HB := hid (begun_any w hg)
  have HS := hid fun (w' : World) => small_nil w'
  clear hg
  go_enter Tryd.func7, Tryd.ntmps7
  go_wp2_with fail
  refine HB.out.mono ?_
  rintro e w1 ⟨rfl, k1⟩
  go_wp2_with fail
  refine (HS.out _).mono ?_
  rintro e w2 ⟨rfl, rfl⟩
  go_wp2_with fail
  go_ret
  exact ⟨rfl, k1⟩
theorem irRound_walk (v : Value) (w : World) (hg : Glob w) (hp : ProgAt 17592186044416 w v) : Calls Tryd.prog 7 #[v] w fun e w' => e = .returned (.bool true) ∧ Keeps [] w w' := by
  rcases hp with rfl | ⟨b, o, P, rfl, h1, h2⟩
  · exact irRound_nil w hg
  · exact irRound_in hg h1 h2
end Go.Proofs.YtknkjblifgppjaaDoor
