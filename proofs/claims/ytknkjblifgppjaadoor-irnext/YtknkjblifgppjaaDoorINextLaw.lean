/-
  IrNext: what follows a point is in its function.
-/
import Derived.Test.YtknkjblifgppjaaDoorIBegun
import Derived.Test.YtknkjblifgppjaaDoorIAt
import Derived.Test.YtknkjblifgppjaaDoorISm
import Derived.Test.YtknkjblifgppjaaDoorIFew
namespace Go.Proofs.YtknkjblifgppjaaDoor
open Go.RowKit Go.Shelf

/-- What follows a point: numbers of points of its function; behind an end, first points. -/
theorem nxt_fact {P : Pr8} {f b i : Nat} (h : IsPt P f b i) {k : Nat} (hk : k < (nxt8 P f b i).length) : ∃ z b' j', (nxt8 P f b i).getD k 0 = ((z : Nat) : Int) ∧ z < (pts P).length ∧ (pts P)[z]? = some (f, b', j') ∧ (i < (blk8 (fun8 P f) b).code.length ∨ j' = 0) := by
  unfold nxt8 at hk ⊢
  by_cases hi : i < (blk8 (fun8 P f) b).code.length
  · rw [if_pos hi] at hk ⊢
    obtain rfl : k = 0 := by simpa using hk
    have h2 : IsPt P f b (i + 1) := ⟨h.1, h.2.1, by omega⟩
    exact ⟨pos8 P f b (i + 1), b, i + 1, rfl, pos8_lt h2, pts_at h2, .inl hi⟩
  · rw [if_neg hi] at hk ⊢
    unfold selB at hk ⊢
    rw [List.length_map] at hk
    rw [List.getD_eq_getElem?_getD, List.getElem?_map, List.getElem?_eq_getElem hk]
    have hm := List.getElem_mem hk
    rw [List.mem_filter] at hm
    have h9 := hm.2
    simp only [decide_eq_true_eq] at h9
    generalize ((tosB (blk8 (fun8 P f) b)).filter fun z => decide (0 ≤ z ∧ z < ((fun8 P f).blocks.length : Int)))[k] = z at *
    have h2 : IsPt P f z.toNat 0 := ⟨h.1, by omega, Nat.zero_le _⟩
    exact ⟨pos8 P f z.toNat 0, z.toNat, 0, rfl, pos8_lt h2, pts_at h2, .inr rfl⟩
theorem nxt_len (P : Pr8) (f b i : Nat) : (nxt8 P f b i).length ≤ 2 := by
  unfold nxt8
  split
  · simp
  · exact Nat.le_trans (selB_len P f _) (tosB_len _)
theorem nxt_one {P : Pr8} {f b i : Nat} (h : i < (blk8 (fun8 P f) b).code.length) : nxt8 P f b i = [((pos8 P f b i + 1 : Nat) : Int)] := by unfold nxt8; rw [if_pos h]

set_option maxRecDepth 20000 in
set_option maxHeartbeats 8000000 in
theorem irNext_in {w : World} {pb po : Nat} {P : Pr8} (hg : Glob w) (h : PrC w pb po P) (hf : FewP 17592186044416 P) : Calls Tryd.prog 8 #[.pointer (some ⟨pb, po, none⟩)] w fun e w' => e = .returned (.bool true) ∧ Keeps [] w w' := by
  have HB := hid (begun_any w hg)
  have HS := hid fun (w' : World) (k : Keeps [] w w') => small_any (PrC.stays _ _ _ _ _ k h)
  have HP := hid h
  have HF := hid hf
  clear hg h hf
  go_enter Tryd.func8, Tryd.ntmps8
  go_wp2_with fail
  refine HB.out.mono ?_
  rintro e w1 ⟨rfl, k1⟩
  go_wp2_with fail
  refine (HS.out _ k1).mono ?_
  rintro e w2 ⟨s, rfl, hw2, hs⟩
  rw [hw2]
  clear hw2
  cases s with
  | false =>
    go_wp2_with fail
    go_ret
    exact ⟨rfl, k1⟩
  | true =>
    have HSM := hid (hs rfl)
    have HPT := hid (points_any (PrC.stays _ _ _ _ _ k1 HP.out) HSM.out)
    clear hs HS HB
    go_wp2_with fail
    refine HPT.out.mono ?_
    rintro e w3 ⟨pa, pcp, rfl, hrows, k3⟩
    have HRW := hid hrows
    have K3 := hid (k1.quiet k3)
    clear hrows k3 k1 HPT
    obtain ⟨L, hL⟩ : ∃ L, L = (pts P).length := ⟨_, rfl⟩
    have HL := hid hL
    have h150 : L ≤ 150 := by rw [hL]; exact HSM.out.pt
    rw [← hL]
    clear hL
    go_wp2_with fail
    go_loopw [5] (fun iv wr => ∃ i : Nat, i ≤ L ∧ iv = .int .i64 (i : Int) ∧ Box (Keeps [] w3 wr)) (fun iv _ => L - (intOf iv).toNat)
    case atStart => exact ⟨0, by omega, rfl, hid (Keeps.refl _ _)⟩
    case round =>
      obtain ⟨i, hi, rfl, HK⟩ := hrel
      by_cases hlt : i < L
      · have hlt' : (i : Int) < (L : Int) := by omega
        obtain ⟨f, b, j, hpt, hget⟩ := pts_back (p := P) (n := i) (by rw [← HL.out]; exact hlt)
        have hpos := (pts_pos hget).2
        have HPr := hid fun (w' : World) (k : Keeps [] wr w') => PrC.stays _ _ _ _ _ ((K3.out.quiet HK.out).quiet k) HP.out
        have HNX := hid fun (w' : World) (k : Keeps [] wr w') => next_in (HPr.out w' k) HSM.out f b j hpt
        have HAT := hid fun (w' : World) (k : Keeps [] wr w') => at_pt (HPr.out w' k) HSM.out f b j hpt (fun h => HF.out.at hpt.1 hpt.2.1 h)
        rw [← hpos] at HNX HAT
        have NF := hid fun (k : Nat) (hk : k < (nxt8 P f b j).length) => nxt_fact hpt hk
        have NL := hid (nxt_len P f b j)
        have N1 : Box (j < (blk8 (fun8 P f) b).code.length → nxt8 P f b j = [((i + 1 : Nat) : Int)]) := hid fun h => by rw [hpos]; exact nxt_one h
        have HGI := hid hget
        clear hpos hget HPr
        go_wp2_with fail
        refine (HNX.out _ (Keeps.refl _ _)).mono ?_
        rintro e w4 ⟨xa, xcp, rfl, hx, k4⟩
        go_wp2_with fail
        refine (HAT.out _ k4).mono ?_
        rintro e w5 ⟨k5, hcase⟩
        have HX5 := hid (hx.kept k5 (fun _ _ _ => by simp))
        have K5 := hid (k4.quiet k5)
        clear hx k4 k5 HNX HAT
        rcases hcase with ⟨hin, ya1, yc1, rfl, _⟩ | ⟨hin, rfl⟩
        · have hxe := N1.out hin
          have hlen1 : (nxt8 P f b j).length = 1 := by rw [hxe]; rfl
          rw [hlen1]
          unfold atV insV
          generalize (ins8 (blk8 (fun8 P f) b) j).op = y0 at *
          generalize (ins8 (blk8 (fun8 P f) b) j).dst = y1 at *
          generalize (ins8 (blk8 (fun8 P f) b) j).a = y2 at *
          generalize (ins8 (blk8 (fun8 P f) b) j).b = y3 at *
          generalize (ins8 (blk8 (fun8 P f) b) j).n = y4 at *
          generalize (ins8 (blk8 (fun8 P f) b) j).args.length = yn at *
          rw [hxe] at HX5 NF
          have HM : Box (1 = [((i + 1 : Nat) : Int)].length) := hid rfl
          clear N1 NL hxe hlen1
          have K6 := hid (K5.out.quiet (Keeps.alloc [] w5 (.cells #[.int .i64 y0, .int .i64 y1, .int .i64 y2, .int .i64 y3, .int .i64 y4, .slice ya1 yn yc1] 34)))
          have HX6 := hid (HX5.out.kept (Keeps.alloc [] w5 (.cells #[.int .i64 y0, .int .i64 y1, .int .i64 y2, .int .i64 y3, .int .i64 y4, .slice ya1 yn yc1] 34)) (fun _ _ _ => by simp))
          obtain ⟨xb0, xo0, rfl, hx0⟩ : ∃ xb xo, xa = some ⟨xb, xo, none⟩ ∧ (w5.alloc (.cells #[.int .i64 y0, .int .i64 y1, .int .i64 y2, .int .i64 y3, .int .i64 y4, .slice ya1 yn yc1] 34)).cell? ⟨xb, xo, none⟩ = some (.int .i64 ((i : Int) + 1)) := by
            rcases HX6.out with e | ⟨xb, xo, e1, e2⟩
            · cases e
            · have h0 := e2 0 (by simp)
              rw [Nat.add_zero] at h0
              exact ⟨xb, xo, e1, by rw [h0]; rfl⟩
          have hie : ((i : Int) + 1 != (i : Int) + 1) = false := by simp
          go_upto_region 14 with fail
          generalize w5.alloc (.cells #[.int .i64 y0, .int .i64 y1, .int .i64 y2, .int .i64 y3, .int .i64 y4, .slice ya1 yn yc1] 34) = w6 at *
          clear K5 HX5 hx0 hie
          go_wp2_with fail
          go_loopw [9] (fun kv wz => ∃ k : Nat, k ≤ 1 ∧ kv = .int .i64 (k : Int) ∧ Box (Keeps [] w6 wz)) (fun kv _ => 1 - (intOf kv).toNat)
          case atStart => exact ⟨0, by omega, rfl, hid (Keeps.refl _ _)⟩
          case round =>
            obtain ⟨k, hk, rfl, HKZ⟩ := hrel
            by_cases hkm : k < 1
            · obtain rfl : k = 0 := by omega
              have hkm' : ((0 : Nat) : Int) < 1 := by omega
              obtain ⟨z, b', j', hz1, hz2, hz3, hz4⟩ := NF.out 0 (by rw [← HM.out]; exact hkm)
              have hzL : (z : Int) < (L : Int) := by have := HL.out; omega
              have hzn : z < L := by have := HL.out; omega
              obtain ⟨xb, xo, hxa, hxc⟩ : ∃ xb xo, some (⟨xb0, xo0, none⟩ : Addr) = some ⟨xb, xo, none⟩ ∧ wr.cell? ⟨xb, xo, none⟩ = some (.int .i64 (z : Int)) := by
                rcases HX6.out with e | ⟨xb, xo, e1, e2⟩
                · exfalso; have := HM.out; rw [e] at this; simp at this
                · exact ⟨xb, xo, e1, by have h9 := cell_stays HKZ.out (e2 0 (by rw [← HM.out]; exact hkm)); rw [Nat.add_zero] at h9; rw [h9, hz1]⟩
              simp only [Option.some.injEq, Addr.mk.injEq, and_true] at hxa
              obtain ⟨rfl, rfl⟩ := hxa
              have kk := (HK.out.quiet K6.out).quiet HKZ.out
              obtain ⟨qb, qo, hpa, r1⟩ := HRW.out.at hz3
              obtain ⟨qb2, qo2, hpa2, r2⟩ := HRW.out.at HGI.out
              subst hpa
              simp only [Option.some.injEq, Addr.mk.injEq, and_true] at hpa2
              obtain ⟨rfl, rfl⟩ := hpa2
              have s1 := PtC.stays _ _ _ _ _ kk r1
              have s2 := PtC.stays _ _ _ _ _ kk r2
              have t0 : wr.cell? ⟨qb, qo + z * 3, none⟩ = some (.int .i64 (f : Int)) := s1.c0
              have t2 : wr.cell? ⟨qb, qo + z * 3 + 2, none⟩ = some (.int .i64 (j' : Int)) := s1.c2
              have t3 : wr.cell? ⟨qb, qo + i * 3, none⟩ = some (.int .i64 (f : Int)) := s2.c0
              have q1 : ¬ (z : Int) < 0 := by omega
              have q2 : ¬ (L : Int) ≤ (z : Int) := by omega
              have q3 : ((f : Int) != (f : Int)) = false := by simp
              clear r1 r2 s1 s2 hz3 hz1 hz2 hz4 kk
              go_wp2_with fail
              have d1 : ¬ (z : Int) < 0 := by omega
              have d2 : ¬ (L : Int) ≤ (z : Int) := by omega
              go_region
              go_wp2_with fail
              go_roundw
              case rel => exact ⟨1, by omega, rfl, hid (HKZ.out.quiet (Keeps.drew [] _))⟩
              case measure => simp [intOf]
            · obtain rfl : k = 1 := by omega
              go_wp2_with fail
              go_roundw
              case rel => exact ⟨i + 1, by omega, by go_num, hid ((HK.out.quiet K6.out).quiet HKZ.out)⟩
              case measure => simp [intOf]; omega
        · unfold noAt insV zero8
          obtain ⟨m, hm⟩ : ∃ m, m = (nxt8 P f b j).length := ⟨_, rfl⟩
          have hm2 := NL.out
          rw [← hm] at hm2 ⊢
          have HM : Box (m = (nxt8 P f b j).length) := hid hm
          have hm2' : ¬ (2 : Int) < (m : Int) := by omega
          clear N1 NL hm
          have K6 := hid (K5.out.quiet (Keeps.alloc [] w5 (.cells #[.int .i64 0, .int .i64 0, .int .i64 0, .int .i64 0, .int .i64 0, .slice none 0 0] 34)))
          have HX6 := hid (HX5.out.kept (Keeps.alloc [] w5 (.cells #[.int .i64 0, .int .i64 0, .int .i64 0, .int .i64 0, .int .i64 0, .slice none 0 0] 34)) (fun _ _ _ => by simp))
          go_upto_region 14 with fail
          generalize w5.alloc (.cells #[.int .i64 0, .int .i64 0, .int .i64 0, .int .i64 0, .int .i64 0, .slice none 0 0] 34) = w6 at *
          clear K5 HX5
          go_wp2_with fail
          go_loopw [9] (fun kv wz => ∃ k : Nat, k ≤ m ∧ kv = .int .i64 (k : Int) ∧ Box (Keeps [] w6 wz)) (fun kv _ => m - (intOf kv).toNat)
          case atStart => exact ⟨0, by omega, rfl, hid (Keeps.refl _ _)⟩
          case round =>
            obtain ⟨k, hk, rfl, HKZ⟩ := hrel
            by_cases hkm : k < m
            · have hkm' : (k : Int) < (m : Int) := by omega
              obtain ⟨z, b', j', hz1, hz2, hz3, hz4⟩ := NF.out k (by rw [← HM.out]; exact hkm)
              have hzL : (z : Int) < (L : Int) := by have := HL.out; omega
              have hzn : z < L := by have := HL.out; omega
              obtain ⟨xb, xo, hxa, hxc⟩ : ∃ xb xo, xa = some ⟨xb, xo, none⟩ ∧ wr.cell? ⟨xb, xo + k, none⟩ = some (.int .i64 (z : Int)) := by
                rcases HX6.out with e | ⟨xb, xo, e1, e2⟩
                · exfalso; have := HM.out; rw [e] at this; simp at this; omega
                · exact ⟨xb, xo, e1, by rw [cell_stays HKZ.out (e2 k (by rw [← HM.out]; exact hkm)), hz1]⟩
              subst hxa
              have kk := (HK.out.quiet K6.out).quiet HKZ.out
              obtain ⟨qb, qo, hpa, r1⟩ := HRW.out.at hz3
              obtain ⟨qb2, qo2, hpa2, r2⟩ := HRW.out.at HGI.out
              subst hpa
              simp only [Option.some.injEq, Addr.mk.injEq, and_true] at hpa2
              obtain ⟨rfl, rfl⟩ := hpa2
              have s1 := PtC.stays _ _ _ _ _ kk r1
              have s2 := PtC.stays _ _ _ _ _ kk r2
              have t0 : wr.cell? ⟨qb, qo + z * 3, none⟩ = some (.int .i64 (f : Int)) := s1.c0
              have t2 : wr.cell? ⟨qb, qo + z * 3 + 2, none⟩ = some (.int .i64 (j' : Int)) := s1.c2
              have t3 : wr.cell? ⟨qb, qo + i * 3, none⟩ = some (.int .i64 (f : Int)) := s2.c0
              have q1 : ¬ (z : Int) < 0 := by omega
              have q2 : ¬ (L : Int) ≤ (z : Int) := by omega
              have q3 : ((f : Int) != (f : Int)) = false := by simp
              have hj0 : j' = 0 := by
                rcases hz4 with h | h
                · exact absurd h hin
                · exact h
              subst hj0
              have t2' : wr.cell? ⟨qb, qo + z * 3 + 2, none⟩ = some (.int .i64 0) := t2
              clear t2
              clear r1 r2 s1 s2 hz3 hz1 hz2 hz4 kk
              go_wp2_with fail
              go_quiet (fail)
              go_wp2_with fail
              go_roundw
              case rel => exact ⟨k + 1, by omega, by go_num, hid (HKZ.out.quiet (Keeps.drewN [] _ _))⟩
              case measure => simp [intOf]; omega
            · obtain rfl : k = m := by omega
              go_wp2_with fail
              go_roundw
              case rel => exact ⟨i + 1, by omega, by go_num, hid ((HK.out.quiet K6.out).quiet HKZ.out)⟩
              case measure => simp [intOf]; omega
      · obtain rfl : i = L := by omega
        go_wp2_with fail
        go_ret
        exact ⟨rfl, K3.out.quiet HK.out⟩
/-- No program. -/
theorem irNext_nil (w : World) (hg : Glob w) : Calls Tryd.prog 8 #[.pointer none] w fun e w' => e = .returned (.bool true) ∧ Keeps [] w w' := by
  have HB := hid (begun_any w hg)
  have HS := hid fun (w' : World) => small_nil w'
  clear hg
  go_enter Tryd.func8, Tryd.ntmps8
  go_wp2_with fail
  refine HB.out.mono ?_
  rintro e w1 ⟨rfl, k1⟩
  go_wp2_with fail
  refine (HS.out _).mono ?_
  rintro e w2 ⟨rfl, rfl⟩
  go_wp2_with fail
  go_ret
  exact ⟨rfl, k1⟩
theorem irNext_walk (v : Value) (w : World) (hg : Glob w) (hp : ProgAt 17592186044416 w v) : Calls Tryd.prog 8 #[v] w fun e w' => e = .returned (.bool true) ∧ Keeps [] w w' := by
  rcases hp with rfl | ⟨b, o, P, rfl, h1, h2⟩
  · exact irNext_nil w hg
  · exact irNext_in hg h1 h2
end Go.Proofs.YtknkjblifgppjaaDoor
