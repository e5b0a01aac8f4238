/-
  types.funcNames.
-/
import Derived.Test.YtlopddflbhnjdaaDoorTNmPl
namespace Go.Proofs.YtlopddflbhnjdaaDoor
open Go.RowKit

/-- Arguments are few. -/
def FewA (P : Pr8) : Prop := ∀ f b i, f < P.funcs.length → b < (fun8 P f).blocks.length → i < (blk8 (fun8 P f) b).code.length → (ins8 (blk8 (fun8 P f) b) i).args.length ≤ 1000
set_option maxRecDepth 20000 in
set_option maxHeartbeats 8000000 in
theorem fnames_any {w : World} {pb po : Nat} {P : Pr8} (h : PrC w pb po P) (ha : FewA P) {f : Nat} (hf : f < P.funcs.length) : Calls Tryd.prog 43 #[.pointer (some ⟨pb, po, none⟩), .int .i64 (f : Int)] w (EPost (fnNm P f) 3 w) := by
  obtain ⟨fa, fp, c4, r4, _, hfl⟩ := h.c4
  obtain ⟨sa, sp, c1, _⟩ := h.c1
  obtain ⟨fb, fo, rfl, hfu0⟩ := r4.at (getD_get (d := ⟨0, [], []⟩) hf)
  have hfu : FuC w fb (fo + f * 3) (fun8 P f) := hfu0
  obtain ⟨ra, rp, e1, q1⟩ := hfu.c1.val
  obtain ⟨ba, bp, e2, rb, _, hbl⟩ := hfu.c2
  have e0 := hfu.c0.1
  have hf' : (f : Int) < (P.funcs.length : Int) := by omega
  have HW := hid fun (w' : World) => within_any (fun8 P f).sig P.sigs.length w'
  have HT := hid fun (w' : World) (k : Keeps [] w w') => tysnamed_any (PrC.stays _ _ _ _ _ k h) (q1.keeps TyC.stays k)
  have HRF := hid fun (w' : World) => refused_any 3 w'
  have HRA := hid fun (b i : Int) (w' : World) => refusedAt_any 3 (f : Int) b i w'
  have HIN := hid fun (w' : World) (k : Keeps [] w w') (x : In8) (a : Option Addr) (cp : Nat) (hz : IntsAt w' a x.args) (hl : x.args.length ≤ 1000) => ins_any (cp := cp) (PrC.stays _ _ _ _ _ k h) (FuC.stays _ _ _ _ _ k hfu) x hz hl
  have HEN := hid fun (w' : World) (k : Keeps [] w w') (bb bo : Nat) (y : Bl8) (hb : BlC w' bb bo y) => end_any (FuC.stays _ _ _ _ _ k hfu) hb
  have HA : Box (∀ b i, b < (fun8 P f).blocks.length → i < (blk8 (fun8 P f) b).code.length → (ins8 (blk8 (fun8 P f) b) i).args.length ≤ 1000) := hid fun b i h1 h2 => ha f b i hf h1 h2
  have HRB := hid rb
  have HH : Box (headOk P f = (inB (fun8 P f).sig P.sigs.length && tysB P (fun8 P f).regs)) := hid rfl
  have HBAD := hid fun (hh : headOk P f = true) (b i : Nat) => fnNm_bad (P := P) (f := f) (b := b) (i := i) hh
  have HGOOD := hid fun (hh : headOk P f = true) => fnNm_good (P := P) (f := f) hh
  have HHD := hid (fnNm_head (P := P) (f := f))
  have E2 : Box (∀ w', Keeps [] w w' → w'.cell? ⟨fb, fo + f * 3 + 2, none⟩ = some (.slice ba (fun8 P f).blocks.length bp)) := hid fun w' k => cell_stays k e2
  have E1 : Box (∀ w', Keeps [] w w' → w'.cell? ⟨fb, fo + f * 3 + 1, none⟩ = some (.slice ra (fun8 P f).regs.length rp)) := hid fun w' k => cell_stays k e1
  have E0 : Box (∀ w', Keeps [] w w' → w'.cell? ⟨fb, fo + f * 3, none⟩ = some (.int .i64 (fun8 P f).sig)) := hid fun w' k => cell_stays k e0
  have S1 : Box (∀ w', Keeps [] w w' → w'.cell? ⟨pb, po + 1, none⟩ = some (.slice sa P.sigs.length sp)) := hid fun w' k => cell_stays k c1
  clear h hfu0 hfu r4 rb ha
  obtain ⟨bn, hbn⟩ : ∃ m, m = (fun8 P f).blocks.length := ⟨_, rfl⟩
  rw [← hbn] at E2 hbl e2
  have HBN := hid hbn
  have hbl9 : (bn : Int) ≤ 9223372036854775807 := by unfold maxLen at hbl; omega
  generalize P.funcs.length = FN at *
  generalize P.sigs.length = SN at *
  generalize hsg : (fun8 P f).sig = sg at *
  obtain ⟨RN, hrn⟩ : ∃ m, m = (fun8 P f).regs.length := ⟨_, rfl⟩
  rw [← hrn] at E1 e1 HT
  have HRN := hid hrn
  clear hrn
  clear hbn hsg hbl
  cases hw : inB sg SN with
  | false =>
    rw [hw] at HW
    rw [HHD.out (by rw [HH.out, hw]; rfl)]
    clear hw
    go_enter Tryd.func43, Tryd.ntmps43
    go_upto_region 2 with fail
    go_quiet ((go_at_call 29; exact Calls.quiet_of_same (HW.out _)))
    go_wp2_with fail
    refine (HRF.out _).mono ?_
    rintro e w1 ⟨p, rfl, h1, h2⟩
    go_wp2_with fail
    go_ret
    exact ⟨p, rfl, h1, (Keeps.drewN _ _ _).quiet h2⟩
  | true =>
    rw [hw] at HW
    go_enter Tryd.func43, Tryd.ntmps43
    go_upto_region 2 with fail
    cases ht : tysB P (fun8 P f).regs with
    | false =>
      rw [ht] at HT
      have HQ := hid (HHD.out (by rw [HH.out, hw, ht]; rfl))
      clear hw ht
      go_region_held3 (fun w' => w'.cell? ⟨pb, po + 1, none⟩ = some (.slice sa SN sp) ∧ w'.cell? ⟨fb, fo + f * 3, none⟩ = some (.int .i64 sg) ∧ w'.cell? ⟨fb, fo + f * 3 + 1, none⟩ = some (.slice ra RN rp)) (go_keep) (first
        | (go_at_call 29; refine (HW.out _).mono ?_; rintro e w5 ⟨rfl, hw5⟩; have K5 : Keeps [] w w5 := (by rw [hw5]; exact Keeps.drew _ _); have f51 := S1.out _ K5; have f52 := E0.out _ K5; have f53 := E1.out _ K5; clear hw5)
        | (go_at_call 73; refine (HT.out _ K5).mono ?_; rintro e w6 ⟨rfl, k6⟩; have K6 := K5.quiet k6; have f61 := S1.out _ K6; have f62 := E0.out _ K6; have f63 := E1.out _ K6; clear k6))
      go_wp2_with fail
      refine (HRF.out _).mono ?_
      rintro e w1 ⟨p, rfl, h1, h2⟩
      go_wp2_with fail
      go_ret
      exact EPost.no HQ.out ⟨p, rfl, h1, K6.quiet h2⟩
    | true =>
      rw [ht] at HT
      have HHT : Box (headOk P f = true) := hid (by rw [HH.out, hw, ht]; rfl)
      clear hw ht
      go_region_held3 (fun w' => w'.cell? ⟨pb, po + 1, none⟩ = some (.slice sa SN sp) ∧ w'.cell? ⟨fb, fo + f * 3, none⟩ = some (.int .i64 sg) ∧ w'.cell? ⟨fb, fo + f * 3 + 1, none⟩ = some (.slice ra RN rp)) (go_keep) (first
        | (go_at_call 29; refine (HW.out _).mono ?_; rintro e w5 ⟨rfl, hw5⟩; have K5 : Keeps [] w w5 := (by rw [hw5]; exact Keeps.drew _ _); have f51 := S1.out _ K5; have f52 := E0.out _ K5; have f53 := E1.out _ K5; clear hw5)
        | (go_at_call 73; refine (HT.out _ K5).mono ?_; rintro e w6 ⟨rfl, k6⟩; have K6 := K5.quiet k6; have f61 := S1.out _ K6; have f62 := E0.out _ K6; have f63 := E1.out _ K6; have HK6 := hid K6; have g2 := E2.out _ K6; clear k6))
      go_wp2_with fail
      clear f51 f52 f53 f61 f62 f63 K5 K6 g2
      clear e0 e1 e2 c1 c4 hf'
      go_loopw [41] (fun bv wr => ∃ b : Nat, b ≤ bn ∧ bv = .int .i64 (b : Int) ∧ Box (Keeps [] w wr) ∧ Box (AllOk P (ptF (fun8 P f) f b))) (fun bv _ => bn - (intOf bv).toNat)
      case atStart => exact ⟨0, by omega, rfl, HK6, hid (AllOk.nil P)⟩
      case round =>
        obtain ⟨b, hb, rfl, HK, HAL⟩ := hrel
        clear HK6
        by_cases hlt : b < bn
        · have hlt' : (b : Int) < (bn : Int) := by omega
          have hbf : Box (b < (fun8 P f).blocks.length) := hid (by rw [← HBN.out]; exact hlt)
          have g2 := E2.out _ HK.out
          obtain ⟨bb, bo, rfl, hbl0⟩ := HRB.out.at (show (fun8 P f).blocks[b]? = some (blk8 (fun8 P f) b) from getD_get hbf.out)
          have HBL := hid hbl0
          obtain ⟨ca, cp, e3, rc, _, hcl⟩ := hbl0.c0
          have E3 := cell_stays HK.out e3
          have E3B : Box (∀ w', Keeps [] w w' → w'.cell? ⟨bb, bo + b * 5, none⟩ = some (.slice ca (blk8 (fun8 P f) b).code.length cp)) := hid fun w' k => cell_stays k e3
          have HRC := hid rc
          obtain ⟨cn, hcn⟩ : ∃ m, m = (blk8 (fun8 P f) b).code.length := ⟨_, rfl⟩
          rw [← hcn] at E3 hcl
          have HCN := hid hcn
          have hcl9 : (cn : Int) ≤ 9223372036854775807 := by unfold maxLen at hcl; omega
          have HAL2 : Box (AllOk P (ptF (fun8 P f) f b ++ ptB f b 0)) := hid (HAL.out.cast (by rw [ptB_zero, List.append_nil]))
          clear hbl0 e3 rc hcn hcl
          go_wp2_with fail
          clear g2 E3
          have HK0 := HK
          clear HK
          go_loopw [54] (fun iv wr => ∃ i : Nat, i ≤ cn ∧ iv = .int .i64 (i : Int) ∧ Box (Keeps [] w wr) ∧ Box (AllOk P (ptF (fun8 P f) f b ++ ptB f b i))) (fun iv _ => cn - (intOf iv).toNat)
          case atStart => exact ⟨0, by omega, rfl, HK0, HAL2⟩
          case round =>
            obtain ⟨i, hi, rfl, HK, HAL⟩ := hrel
            clear HK0 HAL2
            by_cases hli : i < cn
            · have hli' : (i : Int) < (cn : Int) := by omega
              have hif : Box (i < (blk8 (fun8 P f) b).code.length) := hid (by rw [← HCN.out]; exact hli)
              obtain ⟨ib, io, rfl, hin⟩ := HRC.out.at (show (blk8 (fun8 P f) b).code[i]? = some (ins8 (blk8 (fun8 P f) b) i) from getD_get hif.out)
              obtain ⟨ga, gp, e5, q5⟩ := SlC.val hin.c5
              have hz : IntsAt w ga (ins8 (blk8 (fun8 P f) b) i).args := rows_ints q5.slice.2.1
              have F0 := cell_stays HK.out hin.c0.1
              have F1 := cell_stays HK.out hin.c1.1
              have F2 := cell_stays HK.out hin.c2.1
              have F3 := cell_stays HK.out hin.c3.1
              have F4 := cell_stays HK.out hin.c4.1
              have F5 := cell_stays HK.out e5
              have HC := hid (HIN.out wr HK.out (ins8 (blk8 (fun8 P f) b) i) ga gp (hz.kept HK.out (fun _ _ _ => by simp)) (HA.out b i hbf.out hif.out))
              have HPT := hid (ptOk_in (P := P) (f := f) (b := b) hif.out)
              have HSN : Box (ptF (fun8 P f) f b ++ ptB f b (i + 1) = (ptF (fun8 P f) f b ++ ptB f b i) ++ [(f, b, i)]) := hid (by rw [ptB_succ, ← List.append_assoc])
              unfold insV at HC
              clear hin e5 q5 hz
              cases hok : insOk P (fun8 P f) (ins8 (blk8 (fun8 P f) b) i) with
              | true =>
                rw [hok] at HC
                have HAL9 : Box (AllOk P (ptF (fun8 P f) f b ++ ptB f b (i + 1))) := hid ((HAL.out.snoc (q := (f, b, i)) (by rw [HPT.out, hok])).cast HSN.out.symm)
                clear hok
                go_wp2_with fail
                refine HC.out.mono ?_
                rintro e w3 ⟨rfl, k3⟩
                have K3 := hid (HK.out.quiet k3)
                clear k3
                go_wp2_with fail
                go_roundw
                case rel => exact ⟨i + 1, by omega, by go_num, K3, HAL9⟩
                case measure => simp [intOf]; omega
              | false =>
                rw [hok] at HC
                have HQ := hid (HBAD.out HHT.out b i hbf.out (Nat.le_of_lt hif.out) HAL.out (by rw [HPT.out, hok]))
                clear hok
                go_wp2_with fail
                refine HC.out.mono ?_
                rintro e w3 ⟨rfl, k3⟩
                have K3 := hid (HK.out.quiet k3)
                clear k3
                go_wp2_with fail
                refine (HRA.out _ _ _).mono ?_
                rintro e w4 ⟨p, rfl, h1, h2⟩
                go_wp2_with fail
                go_ret
                exact EPost.no HQ.out ⟨p, rfl, h1, K3.out.quiet h2⟩
            · obtain rfl : i = cn := by omega
              have g2 := E2.out _ HK.out
              have HC := hid (HEN.out wr HK.out bb (bo + b * 5) (blk8 (fun8 P f) b) (BlC.stays _ _ _ _ _ HK.out HBL.out))
              have HPT := hid (ptOk_end P f b)
              generalize endB (fun8 P f).regs.length (fun8 P f).blocks.length (blk8 (fun8 P f) b).fin (blk8 (fun8 P f) b).reg (blk8 (fun8 P f) b).to (blk8 (fun8 P f) b).els = eb at *
              cases eb with
              | true =>
                have HAL9 : Box (AllOk P (ptF (fun8 P f) f (b + 1))) := hid ((HAL.out.snoc (q := (f, b, i)) (by rw [HCN.out, HPT.out])).cast (by rw [ptF_succ, ← HCN.out, ptB_succ, ← List.append_assoc]))
                go_wp2_with fail
                refine HC.out.mono ?_
                rintro e w3 ⟨rfl, k3⟩
                have K3 := hid (HK.out.quiet k3)
                clear k3
                go_wp2_with fail
                go_roundw
                case rel => exact ⟨b + 1, by omega, by go_num, K3, HAL9⟩
                case measure => simp [intOf]; omega
              | false =>
                have HQ := hid (HBAD.out HHT.out b i hbf.out (by rw [HCN.out]; exact Nat.le_refl _) HAL.out (by rw [HCN.out, HPT.out]))
                go_wp2_with fail
                refine HC.out.mono ?_
                rintro e w3 ⟨rfl, k3⟩
                have K3 := hid (HK.out.quiet k3)
                clear k3
                go_wp2_with fail
                refine (HRA.out _ _ _).mono ?_
                rintro e w4 ⟨p, rfl, h1, h2⟩
                go_wp2_with fail
                go_ret
                exact EPost.no HQ.out ⟨p, rfl, h1, K3.out.quiet h2⟩
        · obtain rfl : b = bn := by omega
          have HQ := hid (HGOOD.out HHT.out (HAL.out.cast (by rw [HBN.out])))
          go_wp2_with fail
          go_ret
          exact EPost.yes HQ.out ⟨rfl, HK.out⟩
end Go.Proofs.YtlopddflbhnjdaaDoor
