/-
  The document's own text of a program.
-/
import Derived.Test.YtmipbaihlodmdaaDoorJRln
import Derived.Test.YtmipbaihlodmdaaDoorJTxt
import Derived.Test.YtmipbaihlodmdaaDoorCWr
namespace Go.Proofs.YtmipbaihlodmdaaDoor
open Go.RowKit

theorem tb_size (l : List UInt8) : (⟨l.toArray⟩ : ByteArray).size = l.length := by
  show l.toArray.size = _
  rw [List.size_toArray]
theorem tb_ln (l : List UInt8) (h r : ByteArray) : (⟨l.toArray⟩ : ByteArray) ++ (h ++ r ++ ⟨#[10]⟩) = ⟨(l ++ lnT h r).toArray⟩ := by
  apply ByteArray.ext
  simp [lnT]
theorem tb_jump (l : List UInt8) (d : ByteArray) : (⟨l.toArray⟩ : ByteArray) ++ (⟨#[32, 32, 32, 32, 106, 117, 109, 112, 32]⟩ ++ d ++ ⟨#[10]⟩) = ⟨(l ++ lnT padB (⟨#[106, 117, 109, 112, 32]⟩ ++ d)).toArray⟩ := by
  apply ByteArray.ext
  simp [lnT, padB]
theorem tb_branch (l : List UInt8) (r d e : ByteArray) : (⟨l.toArray⟩ : ByteArray) ++ (⟨#[32, 32, 32, 32, 98, 114, 97, 110, 99, 104, 32]⟩ ++ r ++ ⟨#[32]⟩ ++ d ++ ⟨#[32]⟩ ++ e ++ ⟨#[10]⟩) = ⟨(l ++ lnT padB (⟨#[98, 114, 97, 110, 99, 104, 32]⟩ ++ r ++ ⟨#[32]⟩ ++ d ++ ⟨#[32]⟩ ++ e)).toArray⟩ := by
  apply ByteArray.ext
  simp [lnT, padB]
theorem tb_return (l : List UInt8) (r : ByteArray) : (⟨l.toArray⟩ : ByteArray) ++ (⟨#[32, 32, 32, 32, 114, 101, 116, 117, 114, 110, 32]⟩ ++ r ++ ⟨#[10]⟩) = ⟨(l ++ lnT padB (⟨#[114, 101, 116, 117, 114, 110, 32]⟩ ++ r)).toArray⟩ := by
  apply ByteArray.ext
  simp [lnT, padB]
theorem tb_what (l : List UInt8) : (⟨l.toArray⟩ : ByteArray) ++ ⟨#[32, 32, 32, 32, 63, 10]⟩ = ⟨(l ++ lnT padB ⟨#[63]⟩).toArray⟩ := by
  apply ByteArray.ext
  simp [lnT, padB]

set_option maxRecDepth 20000 in
set_option maxHeartbeats 8000000 in
theorem rprint_any {w : World} {pb po : Nat} {P : Pr8} (h : PrC w pb po P) (hs : Sm8 P) (hf : Few8 P) : Calls Tryd.prog 17 #[.pointer (some ⟨pb, po, none⟩)] w fun e w' => e = .returned (.string ⟨(textL P).toArray⟩) ∧ Keeps [] w w' := by
  have HO := hid h.okk
  have HS := hid hs
  have HFw := hid hf
  have HP := hid h
  obtain ⟨fa, fcp, H⟩ := h.fns
  have h4 := H.cell
  have hN := hs.fn
  obtain ⟨N, hNN⟩ : ∃ N, N = P.funcs.length := ⟨_, rfl⟩
  have HN := hid hNN
  rw [← hNN] at h4 hN
  have H4 : Box (∀ w', Keeps [] w w' → w'.cell? ⟨pb, po + 4, none⟩ = some (.slice fa N fcp)) := hid (by
    have h4' := h4
    intro w' k
    exact cell_stays k h4')
  have HF := hid H
  clear h hs hf H hNN
  go_enter Tryd.func17, Tryd.ntmps17
  go_wp2_with fail
  clear h4
  go_loopw [3, 4] (fun sv fv wr => ∃ k : Nat, k ≤ N ∧ fv = .int .i64 (k : Int) ∧ sv = .string ⟨(prT P k).toArray⟩ ∧ Box (Keeps [] w wr)) (fun _ fv _ => N - (intOf fv).toNat)
  case atStart => exact ⟨0, by omega, rfl, rfl, hid (Keeps.refl _ _)⟩
  case round =>
    obtain ⟨k, hk, rfl, rfl, HK⟩ := hrel
    have g4 := H4.out _ HK.out
    by_cases hlt : k < N
    · have hlt' : (k : Int) < (N : Int) := by omega
      have hkf : k < P.funcs.length := by rw [← HN.out]; exact hlt
      obtain ⟨fb, fo, ba, bcp, rfl, B⟩ := HF.out.at hkf
      have hM := HS.out.bk k hkf
      have HBk := hid B
      obtain ⟨M, hMM⟩ : ∃ M, M = (fun8 P k).blocks.length := ⟨_, rfl⟩
      have HM := hid hMM
      rw [← hMM] at hM
      have G2 : Box (∀ w', Keeps [] w w' → w'.cell? ⟨fb, fo + k * 3 + 2, none⟩ = some (.slice ba M bcp)) := hid (by
        have h2' := B.cell
        rw [← hMM] at h2'
        intro w' kk
        exact cell_stays kk h2')
      have hpl := prT_len P HFw.out HO.out HS.out k (by omega)
      have h150 : cntP P k ≤ 150 := by have := HS.out.cntF hkf (Nat.zero_le _); omega
      have hds := small_dec (k := k) (by omega)
      have hit := hid (dec_any (k : Int) ⟨by omega, by omega⟩ wr)
      obtain ⟨SB, HSB⟩ : ∃ SB, Box (SB = (⟨(prT P k ++ lnT funH (decB (k : Int)) ++ funT (fun8 P k) 0).toArray⟩ : ByteArray)) := ⟨_, hid rfl⟩
      have hE : Box ((⟨(prT P k).toArray⟩ : ByteArray) ++ (funH ++ decB (k : Int) ++ ⟨#[10]⟩) = SB) := hid (by rw [HSB.out, tb_ln, show funT (fun8 P k) 0 = [] from rfl, List.append_nil])
      have HPL := hid hpl
      have HDS := hid hds
      have hsz := tb_size (prT P k)
      have e5 : funH.size = 5 := rfl
      generalize hTP : (⟨(prT P k).toArray⟩ : ByteArray) = S at *
      generalize decB (k : Int) = D at hit hE hds
      have b1 : ¬ 9223372036854775807 < 5 + D.size := by omega
      have b2 : ¬ 9223372036854775807 < 5 + D.size + 1 := by omega
      have b3 : ¬ 9223372036854775807 < S.size + (5 + D.size + 1) := by omega
      unfold funH at hE
      clear B hMM hpl hTP
      go_wp2_with fail
      refine hit.out.mono ?_
      rintro e w1 ⟨rfl, k1⟩
      have K1 := hid (HK.out.quiet k1)
      have g4 := H4.out _ K1.out
      have g2 := G2.out _ K1.out
      clear k1 hit
      go_wp2_with fail
      rw [hE.out]
      clear g4 g2 b1 b2 b3
      go_loopw [3, 5] (fun sv bv wr => ∃ b : Nat, b ≤ M ∧ bv = .int .i64 (b : Int) ∧ sv = .string ⟨(prT P k ++ lnT funH (decB (k : Int)) ++ funT (fun8 P k) b).toArray⟩ ∧ Box (Keeps [] w wr)) (fun _ bv _ => M - (intOf bv).toNat)
      case atStart => exact ⟨0, by omega, rfl, by rw [HSB.out], K1⟩
      case round =>
        obtain ⟨b, hb, rfl, rfl, HKb⟩ := hrel
        have g4 := H4.out _ HKb.out
        have g2 := G2.out _ HKb.out
        by_cases hlb : b < M
        · have hlb' : (b : Int) < (M : Int) := by omega
          have hbf : b < (fun8 P k).blocks.length := by rw [← HM.out]; exact hlb
          obtain ⟨bb, bo, rfl, L⟩ := HBk.out.at hbf
          have L2 := BlC.stays _ _ _ _ _ HKb.out L
          obtain ⟨ca, ccp, hcc, hrows, _⟩ := L2.c0
          have m1 := L2.c1.1
          have m2 := L2.c2.1
          have m3 := L2.c3.1
          have m4 := L2.c4.1
          have HRW := hid (show RowsAt w 6 InC ca (blk8 (fun8 P k) b).code by
            obtain ⟨ca', ccp', hcc', hr', _⟩ := L.c0
            have := cell_stays HKb.out hcc'
            rw [hcc] at this
            simp only [Option.some.injEq, Value.slice.injEq, true_and] at this
            rw [this.1]
            exact hr')
          have hfl := funT_len P HFw.out HO.out hkf (by rw [← HM.out]; omega) b (by omega)
          have hcs := HS.out.cntF hkf (show b + 1 ≤ _ by omega)
          rw [cntF_succ] at hcs
          have hds2 := small_dec (k := b) (by omega)
          have hpl := HPL.out
          have hdk := HDS.out
          have e8 : blkH.size = 8 := rfl
          have hlen : (prT P k ++ lnT funH (decB (k : Int)) ++ funT (fun8 P k) b).length ≤ 24117600 * 150 + 2000 := by
            rw [List.length_append, List.length_append, lnT_len]
            omega
          have hit := hid fun (w' : World) => dec_any (b : Int) ⟨by omega, by omega⟩ w'
          have hE2 : Box ((⟨(prT P k ++ lnT funH (decB (k : Int)) ++ funT (fun8 P k) b).toArray⟩ : ByteArray) ++ (blkH ++ decB (b : Int) ++ ⟨#[10]⟩) = ⟨(prT P k ++ lnT funH (decB (k : Int)) ++ funT (fun8 P k) b ++ lnT blkH (decB (b : Int)) ++ blkT (blk8 (fun8 P k) b) 0).toArray⟩) := hid (by rw [tb_ln, show blkT (blk8 (fun8 P k) b) 0 = [] from rfl, List.append_nil])
          have hFE : Box (prT P k ++ lnT funH (decB (k : Int)) ++ funT (fun8 P k) (b + 1) = prT P k ++ lnT funH (decB (k : Int)) ++ funT (fun8 P k) b ++ lnT blkH (decB (b : Int)) ++ blkT (blk8 (fun8 P k) b) (blk8 (fun8 P k) b).code.length ++ lnT padB (endB (blk8 (fun8 P k) b))) := hid (by rw [funT_succ]; unfold blkL; simp only [List.append_assoc])
          have HFX := hid (HFw.out k b hkf hbf)
          have HOX := hid (HO.out k b hkf hbf)
          have hsz := tb_size (prT P k ++ lnT funH (decB (k : Int)) ++ funT (fun8 P k) b)
          have hln2 : (prT P k ++ lnT funH (decB (k : Int)) ++ funT (fun8 P k) b ++ lnT blkH (decB (b : Int))).length ≤ 24117600 * 150 + 3000 := by
            rw [List.length_append, lnT_len]
            omega
          have hc150 : (blk8 (fun8 P k) b).code.length ≤ 149 := by omega
          have HW2 := hid L2
          clear L L2 hrows hfl hcs hpl hdk
          generalize hT0 : prT P k ++ lnT funH (decB (k : Int)) ++ funT (fun8 P k) b = T0 at *
          generalize decB (b : Int) = D at hit hE2 hds2 hFE hln2
          generalize (⟨T0.toArray⟩ : ByteArray) = S at *
          generalize blk8 (fun8 P k) b = x at *
          generalize T0 ++ lnT blkH D = T1 at *
          have b1 : ¬ 9223372036854775807 < 8 + D.size := by omega
          have b2 : ¬ 9223372036854775807 < 8 + D.size + 1 := by omega
          have b3 : ¬ 9223372036854775807 < S.size + (8 + D.size + 1) := by omega
          unfold blkH at hE2
          clear hT0 e8
          go_upto_region 10 with fail
          obtain ⟨wb, HWB⟩ : ∃ wb, Box (wb = wr.alloc (.cells #[.slice ca x.code.length ccp, .int .i64 x.fin, .int .i64 x.reg, .int .i64 x.to, .int .i64 x.els] 58)) := ⟨_, hid rfl⟩
          have hu := hid (show wb.heap[wr.heap.size]? = some (.cells #[.slice ca x.code.length ccp, .int .i64 x.fin, .int .i64 x.reg, .int .i64 x.to, .int .i64 x.els] 58 (0, 0)) by rw [HWB.out]; exact heap_new _ _)
          have KB := hid (show Keeps [] w wb by rw [HWB.out]; exact HKb.out.quiet (Keeps.alloc [] _ _))
          rw [← HWB.out]
          generalize wr.heap.size = u at *
          clear HWB g4 g2 m1 m2 m3 m4 hcc
          go_wp2_with fail
          refine (hit.out _).mono ?_
          rintro e w2 ⟨rfl, k2⟩
          have hu2 := hid (keep_heap hu.out k2)
          have K2 := hid (KB.out.quiet k2)
          clear k2 hit hu KB
          go_upto_region 11 with fail
          rw [hE2.out]
          clear b1 b2 b3
          have c0 := hcell hu2.out 0
          go_wp2_with fail
          clear c0
          go_loopw [3, 7] (fun sv iv wz => ∃ i : Nat, i ≤ x.code.length ∧ iv = .int .i64 (i : Int) ∧ sv = .string ⟨(T1 ++ blkT x i).toArray⟩ ∧ Box (Keeps [] w2 wz)) (fun _ iv _ => x.code.length - (intOf iv).toNat)
          case atStart => exact ⟨0, by omega, rfl, rfl, hid (Keeps.refl _ _)⟩
          case round =>
            obtain ⟨i, hi, rfl, rfl, HKi⟩ := hrel
            have hu3 := hid (keep_heap hu2.out HKi.out)
            have c0 := hcell hu3.out 0
            have hbl := blkT_len x HFX.out HOX.out.1 i hi
            have hsz := tb_size (T1 ++ blkT x i)
            rw [List.length_append] at hsz
            by_cases hli : i < x.code.length
            · have hli' : (i : Int) < (x.code.length : Int) := by omega
              obtain ⟨cb, co, rfl, q3⟩ := HRW.out.at (ins_get hli)
              have q4 := InC.stays _ _ _ _ _ (K2.out.quiet HKi.out) q3
              obtain ⟨hok, ar, acp, q5, q6, _⟩ := q4.open
              have y0 := q4.c0.1
              have y1 := q4.c1.1
              have y2 := q4.c2.1
              have y3 := q4.c3.1
              have y4 := q4.c4.1
              have hfew := HFX.out i hli
              have hls := lineB_size _ hok hfew
              have hE4 : Box ((⟨(T1 ++ blkT x i).toArray⟩ : ByteArray) ++ (padB ++ lineB (ins8 x i) ++ ⟨#[10]⟩) = ⟨(T1 ++ blkT x (i + 1)).toArray⟩) := hid (by rw [tb_ln, blkT_succ, List.append_assoc])
              have hline := hid (rline_any (ins8 x i) ar acp hok wr ⟨q6, hfew⟩)
              unfold insV at hline
              clear q3 q4 q6 hok hfew
              generalize (ins8 x i).op = v0 at *
              generalize (ins8 x i).dst = v1 at *
              generalize (ins8 x i).a = v2 at *
              generalize (ins8 x i).b = v3 at *
              generalize (ins8 x i).n = v4 at *
              generalize (ins8 x i).args.length = v5 at *
              generalize lineB (ins8 x i) = LB at *
              generalize (⟨(T1 ++ blkT x i).toArray⟩ : ByteArray) = S2 at *
              have b1 : ¬ 9223372036854775807 < 4 + LB.size := by omega
              have b2 : ¬ 9223372036854775807 < 4 + LB.size + 1 := by omega
              have b3 : ¬ 9223372036854775807 < S2.size + (4 + LB.size + 1) := by omega
              unfold padB at hE4
              go_wp2_with fail
              refine hline.out.mono ?_
              rintro e w4 ⟨rfl, k4⟩
              have K4 := hid (HKi.out.quiet k4)
              clear k4 hline c0 y0 y1 y2 y3 y4 q5
              go_wp2_with fail
              go_roundw
              case rel => exact ⟨i + 1, by omega, by go_num, by rw [hE4.out], K4⟩
              case measure => simp [intOf]; omega
            · obtain rfl : i = x.code.length := by omega
              have hu4 := hu3.out
              have c1 := hcell hu4 1
              have c2 := hcell hu4 2
              have c3 := hcell hu4 3
              have c4 := hcell hu4 4
              have r2 := HW2.out.c2.2
              have r3 := HW2.out.c3.2
              have r4 := HW2.out.c4.2
              have KZ := hid (K2.out.quiet HKi.out)
              clear hu2 hu3 HRW HFX HW2
              have hS2 : (⟨(T1 ++ blkT x x.code.length).toArray⟩ : ByteArray).size ≤ 10000000000 := by omega
              by_cases f1 : x.fin = 1
              · have o1 := eqb f1
                have hEn : Box ((⟨(T1 ++ blkT x x.code.length).toArray⟩ : ByteArray) ++ (⟨#[32, 32, 32, 32, 106, 117, 109, 112, 32]⟩ ++ decB x.to ++ ⟨#[10]⟩) = ⟨(prT P k ++ lnT funH (decB (k : Int)) ++ funT (fun8 P k) (b + 1)).toArray⟩) := hid (by rw [tb_jump, hFE.out]; unfold endB; rw [if_pos f1])
                have HT := hid (dec_any x.to r3 wr)
                have z3 := decB_size x.to r3
                generalize decB x.to = DT at *
                generalize (⟨(T1 ++ blkT x x.code.length).toArray⟩ : ByteArray) = S2 at *
                have b1 : ¬ 9223372036854775807 < 9 + DT.size := by omega
                have b2 : ¬ 9223372036854775807 < 9 + DT.size + 1 := by omega
                have b3 : ¬ 9223372036854775807 < S2.size + (9 + DT.size + 1) := by omega
                clear f1
                go_wp2_with fail
                refine HT.out.mono ?_
                rintro e w5 ⟨rfl, k5⟩
                go_wp2_with fail
                exact ⟨⟨b + 1, by omega, by go_num, by rw [hEn.out], hid (KZ.out.quiet k5)⟩, by simp [intOf]; omega⟩
              have o1 := neb f1
              by_cases f2 : x.fin = 2
              · have o2 := eqb f2
                have hEn : Box ((⟨(T1 ++ blkT x x.code.length).toArray⟩ : ByteArray) ++ (⟨#[32, 32, 32, 32, 98, 114, 97, 110, 99, 104, 32]⟩ ++ regB x.reg ++ ⟨#[32]⟩ ++ decB x.to ++ ⟨#[32]⟩ ++ decB x.els ++ ⟨#[10]⟩) = ⟨(prT P k ++ lnT funH (decB (k : Int)) ++ funT (fun8 P k) (b + 1)).toArray⟩) := hid (by rw [tb_branch, hFE.out]; unfold endB; rw [if_neg f1, if_pos f2])
                have hw : ∀ {f : Nat} {args : Array Value} {r : Value} {w' : World} (k : Keeps [] wr w') (hc : Calls Tryd.prog f args w' fun e w2 => e = .returned r ∧ Keeps [] w' w2), Calls Tryd.prog f args w' fun e w2 => e = .returned r ∧ Keeps [] wr w2 ∧ w2.cell? ⟨u, 2, none⟩ = some (.int .i64 x.reg) ∧ w2.cell? ⟨u, 3, none⟩ = some (.int .i64 x.to) ∧ w2.cell? ⟨u, 4, none⟩ = some (.int .i64 x.els) := fun k hc =>
                  hc.mono fun _ _ h9 => ⟨h9.1, k.quiet h9.2, cell_stays (k.quiet h9.2) c2, cell_stays (k.quiet h9.2) c3, cell_stays (k.quiet h9.2) c4⟩
                have HR := hid fun (w' : World) (k : Keeps [] wr w') => hw k (rr_any x.reg r2 w')
                have HT := hid fun (w' : World) (k : Keeps [] wr w') => hw k (dec_any x.to r3 w')
                have HE := hid fun (w' : World) (k : Keeps [] wr w') => hw k (dec_any x.els r4 w')
                have z2 := regB_size x.reg r2
                have z3 := decB_size x.to r3
                have z4 := decB_size x.els r4
                clear hw
                generalize regB x.reg = R at *
                generalize decB x.to = DT at *
                generalize decB x.els = DE at *
                generalize (⟨(T1 ++ blkT x x.code.length).toArray⟩ : ByteArray) = S2 at *
                have b1 : ¬ 9223372036854775807 < 11 + R.size := by omega
                have b2 : ¬ 9223372036854775807 < 11 + R.size + 1 := by omega
                have b3 : ¬ 9223372036854775807 < 11 + R.size + 1 + DT.size := by omega
                have b4 : ¬ 9223372036854775807 < 11 + R.size + 1 + DT.size + 1 := by omega
                have b5 : ¬ 9223372036854775807 < 11 + R.size + 1 + DT.size + 1 + DE.size := by omega
                have b6 : ¬ 9223372036854775807 < 11 + R.size + 1 + DT.size + 1 + DE.size + 1 := by omega
                have b7 : ¬ 9223372036854775807 < S2.size + (11 + R.size + 1 + DT.size + 1 + DE.size + 1) := by omega
                clear f1 f2 hsz
                go_wp2_with fail
                go_region_held3 (fun w' => w'.cell? ⟨u, 2, none⟩ = some (.int .i64 x.reg) ∧ w'.cell? ⟨u, 3, none⟩ = some (.int .i64 x.to) ∧ w'.cell? ⟨u, 4, none⟩ = some (.int .i64 x.els)) (go_keep) (first
                  | (go_at_call 28; revert K6; intro K6; refine (HE.out _ K6).mono ?_; rintro e w7 ⟨rfl, K7, d2, d3, d4⟩)
                  | (go_at_call 28; refine (HT.out _ K5).mono ?_; rintro e w6 ⟨rfl, K6, d2, d3, d4⟩)
                  | (go_at_call 30; refine (HR.out _ (Keeps.drew _ _)).mono ?_; rintro e w5 ⟨rfl, K5, d2, d3, d4⟩))
                go_wp2_with fail
                exact ⟨⟨b + 1, by omega, by go_num, by rw [hEn.out], hid (KZ.out.quiet K7)⟩, by simp [intOf]; omega⟩
              have o2 := neb f2
              by_cases f3 : x.fin = 3
              · have o3 := eqb f3
                have hEn : Box ((⟨(T1 ++ blkT x x.code.length).toArray⟩ : ByteArray) ++ (⟨#[32, 32, 32, 32, 114, 101, 116, 117, 114, 110, 32]⟩ ++ regB x.reg ++ ⟨#[10]⟩) = ⟨(prT P k ++ lnT funH (decB (k : Int)) ++ funT (fun8 P k) (b + 1)).toArray⟩) := hid (by rw [tb_return, hFE.out]; unfold endB; rw [if_neg f1, if_neg f2, if_pos f3])
                have HT := hid (rr_any x.reg r2 wr)
                have z3 := regB_size x.reg r2
                generalize regB x.reg = DT at *
                generalize (⟨(T1 ++ blkT x x.code.length).toArray⟩ : ByteArray) = S2 at *
                have b1 : ¬ 9223372036854775807 < 11 + DT.size := by omega
                have b2 : ¬ 9223372036854775807 < 11 + DT.size + 1 := by omega
                have b3 : ¬ 9223372036854775807 < S2.size + (11 + DT.size + 1) := by omega
                clear f1 f2 f3
                go_wp2_with fail
                refine HT.out.mono ?_
                rintro e w5 ⟨rfl, k5⟩
                go_wp2_with fail
                exact ⟨⟨b + 1, by omega, by go_num, by rw [hEn.out], hid (KZ.out.quiet k5)⟩, by simp [intOf]; omega⟩
              have o3 := neb f3
              have hEn : Box ((⟨(T1 ++ blkT x x.code.length).toArray⟩ : ByteArray) ++ ⟨#[32, 32, 32, 32, 63, 10]⟩ = ⟨(prT P k ++ lnT funH (decB (k : Int)) ++ funT (fun8 P k) (b + 1)).toArray⟩) := hid (by rw [tb_what, hFE.out]; unfold endB; rw [if_neg f1, if_neg f2, if_neg f3])
              generalize (⟨(T1 ++ blkT x x.code.length).toArray⟩ : ByteArray) = S2 at *
              have b3 : ¬ 9223372036854775807 < S2.size + 6 := by omega
              clear f1 f2 f3
              go_wp2_with fail
              exact ⟨⟨b + 1, by omega, by go_num, by rw [hEn.out], KZ⟩, by simp [intOf]; omega⟩
        · obtain rfl : b = M := by omega
          have hE3 : Box (prT P (k + 1) = prT P k ++ lnT funH (decB (k : Int)) ++ funT (fun8 P k) b) := hid (by rw [prT_succ, ← HM.out, List.append_assoc])
          generalize hSx : (⟨(prT P k ++ lnT funH (decB (k : Int)) ++ funT (fun8 P k) b).toArray⟩ : ByteArray) = S at *
          have HSx := hid hSx
          clear hSx
          go_wp2_with fail
          go_roundw
          case rel => exact ⟨k + 1, by omega, by go_num, by rw [hE3.out, HSx.out], HKb⟩
          case measure => simp [intOf]; omega
    · obtain rfl : k = N := by omega
      have hE : Box (textL P = prT P k) := hid (by unfold textL; rw [HN.out])
      go_wp2_with fail
      go_ret
      exact ⟨by rw [hE.out]; rfl, HK.out⟩
end Go.Proofs.YtmipbaihlodmdaaDoor
