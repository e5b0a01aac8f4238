/-
  Contract: right of layer 11: a program whose names are right and which is not too great.
-/
import Derived.Deep.DeepCutAuto
import Derived.BigQuiet
import Derived.Test.YtmebkeidpklcbaaDoorZ04
import Derived.Test.YtmebkeidpklcbaaDoorZ09
import Derived.Test.YtmebkeidpklcbaaDoorZ23
import Derived.Test.YtmebkeidpklcbaaDoorZ34
import Derived.Test.YtmebkeidpklcbaaDoorZ35

namespace Go.Proofs.YtmebkeidpklcbaaDoor
open Go.RowKit

structure Rt (P : Pr8) : Prop where
  bnd : bndB P = true
  sm : Sm8 P
  nm : namesO P = none
theorem Rt.few {P : Pr8} (h : Rt P) : FewA P := bnd_few h.bnd
theorem fn_bnd {P : Pr8} (h : bndB P = true) {f : Nat} (hf : f < P.funcs.length) : (fun8 P f).regs.length ≤ 16 ∧ 0 < (fun8 P f).blocks.length ∧ (fun8 P f).blocks.length ≤ 12 := by
  have h1 : fnB (fun8 P f) = true := lenB_all (bnd_fns h) (getD_get hf)
  unfold fnB at h1
  simp only [Bool.and_eq_true, decide_eq_true_eq] at h1
  exact ⟨h1.1, h1.2.1, lenB_len h1.2.2⟩
theorem Rt.sz {P : Pr8} (h : Rt P) : SzP P := by
  have sm10 := tabB_sm (bnd_fns h.bnd)
  refine ⟨Nat.le_trans h.sm.fn (by decide), fun f hf => (fn_bnd h.bnd hf).2.1, fun f hf => Nat.le_trans (fn_bnd h.bnd hf).2.2 (by decide), fun f hf => Nat.le_trans (fn_bnd h.bnd hf).1 (by decide), fun f b hf => ?_, fun f b k hf hk => ?_⟩
  · by_cases hb : b < (fun8 P f).blocks.length
    · exact Nat.le_trans (sm10.code hf hb) (by decide)
    · unfold blk8
      rw [getD_out hb]
      simp
  · by_cases hb : b < (fun8 P f).blocks.length
    · exact h.few f b k hf hb hk
    · unfold blk8 at hk
      rw [getD_out hb] at hk
      simp at hk
set_option maxRecDepth 40000 in
theorem rbounds_nil (w : World) : Calls Tryd.prog 24 #[.pointer none] w fun e w' => e = .returned (.bool false) ∧ Keeps [] w w' := by
  go_enter Tryd.func24, Tryd.ntmps24
  go_wp2
  go_ret
  exact ⟨rfl, Keeps.refl _ _⟩
theorem right_nil (w : World) : Calls Tryd.prog 9 #[.pointer none] w fun e w' => e = .returned (.bool false) ∧ Keeps [] w w' := by
  go_enter Tryd.func9, Tryd.ntmps9
  go_wp2_with fail
  refine (rbounds_nil _).mono ?_
  rintro e w2 ⟨rfl, k2⟩
  have K2 := hid k2
  clear k2
  go_wp2_with fail
  go_ret
  exact ⟨rfl, K2.out⟩
set_option maxRecDepth 20000 in
set_option maxHeartbeats 4000000 in
theorem right_any {w : World} {pb po : Nat} {P : Pr8} (h : PrC w pb po P) : Calls Tryd.prog 9 #[.pointer (some ⟨pb, po, none⟩)] w fun e w' => ∃ ok, e = .returned (.bool ok) ∧ (ok = true → Rt P) ∧ Keeps [] w w' := by
  have HB := hid (rbounds_any h)
  have HS := hid fun (w' : World) (k : Keeps [] w w') => small_any (PrC.stays _ _ _ _ _ k h)
  have HNM := hid fun (hb : bndB P = true) (w' : World) (k : Keeps [] w w') => rnames_any (PrC.stays _ _ _ _ _ k h) (bnd_few hb) (tabB_sm (bnd_fns hb))
  have HP := hid h
  clear h
  cases hbn : bndB P with
  | false =>
    rw [hbn] at HB
    clear hbn HNM
    go_enter Tryd.func9, Tryd.ntmps9
    go_wp2_with fail
    refine HB.out.mono ?_
    rintro e w1 ⟨rfl, k1⟩
    have K1 := hid k1
    clear k1
    go_wp2_with fail
    go_ret
    exact ⟨false, rfl, (fun h => by cases h), K1.out⟩
  | true =>
    rw [hbn] at HB
    have HBN := hid hbn
    have HNM1 := hid (HNM.out hbn)
    clear hbn HNM
    go_enter Tryd.func9, Tryd.ntmps9
    go_wp2_with fail
    refine HB.out.mono ?_
    rintro e w1 ⟨rfl, k1⟩
    have K1 := hid k1
    clear k1 HB
    go_wp2_with fail
    refine (HS.out _ K1.out).mono ?_
    rintro e w2 ⟨s, rfl, rfl, hsm⟩
    have HSM := hid hsm
    clear hsm
    cases s with
    | false =>
      go_wp2_with fail
      go_ret
      exact ⟨false, rfl, (fun h => by cases h), K1.out⟩
    | true =>
      have hsm := HSM.out rfl
      have HSM1 := hid hsm
      have hfn : P.funcs.length ≤ 12 := hsm.fn
      clear hsm HSM
      go_wp2_with fail
      refine (HNM1.out _ K1.out).mono ?_
      rintro e w3 ⟨rfl, k3⟩
      have K3 := hid (K1.out.quiet k3)
      clear k3 HNM1
      generalize (nmP (namesO P)).1 = x0
      generalize (nmP (namesO P)).2.1 = x1
      generalize (nmP (namesO P)).2.2 = x2
      cases hno : namesO P with
      | some q =>
        rw [Option.isNone_some]
        clear hno
        go_wp2_with fail
        go_ret
        exact ⟨false, rfl, (fun h => by cases h), K3.out.quiet (Keeps.alloc [] _ _)⟩
      | none =>
        rw [Option.isNone_none]
        have HRT : Box (Rt P) := hid ⟨HBN.out, HSM1.out, hno⟩
        have HSG : Box (∀ f, f < P.funcs.length → inB (fun8 P f).sig P.sigs.length = true) := hid fun f hf => by
          have := names_head hno hf
          unfold headOk at this
          rw [Bool.and_eq_true] at this
          exact this.1
        clear hno
        go_upto_region 6 with fail
        have K4 := hid (K3.out.quiet (Keeps.alloc [] w3 (.cells #[.int .i64 x0, .int .i64 x1, .int .i64 x2] 43)))
        clear K3
        generalize w3.alloc (.cells #[.int .i64 x0, .int .i64 x1, .int .i64 x2] 43) = W3 at *
        obtain ⟨fa, fcp, H⟩ := HP.out.fns
        obtain ⟨sa, sp, c1, r1, _⟩ := HP.out.c1
        have C4 : Box (∀ w', Keeps [] w w' → w'.cell? ⟨pb, po + 4, none⟩ = some (.slice fa P.funcs.length fcp)) := hid fun w' k => cell_stays k H.cell
        have C1 : Box (∀ w', Keeps [] w w' → w'.cell? ⟨pb, po + 1, none⟩ = some (.slice sa P.sigs.length sp)) := hid fun w' k => cell_stays k c1
        have FF : Box (∀ f, f < P.funcs.length → ∀ w', Keeps [] w w' → ∃ fb fo ra rp sb so ta tp, fa = some ⟨fb, fo, none⟩ ∧ sa = some ⟨sb, so, none⟩ ∧ w'.cell? ⟨fb, fo + f * 3, none⟩ = some (.int .i64 ((fun8 P f).sig.toNat : Int)) ∧ (((fun8 P f).sig.toNat : Int) < (P.sigs.length : Int)) ∧ w'.cell? ⟨fb, fo + f * 3 + 1, none⟩ = some (.slice ra (fun8 P f).regs.length rp) ∧ w'.cell? ⟨sb, so + (fun8 P f).sig.toNat * 3, none⟩ = some (.slice ta (P.sigs.getD (fun8 P f).sig.toNat ([], 0, 0)).1.length tp)) := hid fun f hf w' k => by
          obtain ⟨fb, fo, e1, hfu0⟩ := H.rows.at (getD_get (d := ⟨0, [], []⟩) hf)
          have hfu : FuC w fb (fo + f * 3) (fun8 P f) := hfu0
          have hh := inB_iff.1 (HSG.out f hf)
          obtain ⟨ra, rp, d1, -⟩ := hfu.c1
          obtain ⟨sb, so, e2, hsg⟩ := r1.at (j := (fun8 P f).sig.toNat) (y := P.sigs.getD (fun8 P f).sig.toNat ([], 0, 0)) (getD_get (by omega))
          obtain ⟨ta, tp, ct, _⟩ := hsg.c0
          refine ⟨fb, fo, ra, rp, sb, so, ta, tp, e1, e2, ?_, by omega, cell_stays k d1, cell_stays k ct⟩
          have := cell_stays k hfu.c0.1
          rw [this, Int.toNat_of_nonneg hh.1]
        clear H c1 r1 HP HS HSG
        obtain ⟨N, hNe⟩ : ∃ N, P.funcs.length = N := ⟨_, rfl⟩
        rw [hNe] at C4 FF hfn
        generalize P.sigs.length = NS at *
        go_wp2_with fail
        go_loopw [5] (fun i wr => ∃ f : Nat, f ≤ N ∧ i = .int .i64 (f : Int) ∧ Box (Keeps [] w wr)) (fun i _ => N - (intOf i).toNat)
        case atStart => exact ⟨0, by omega, rfl, K4⟩
        case round =>
          clear K4
          obtain ⟨f, hf, rfl, HK⟩ := hrel
          have c4 := C4.out _ HK.out
          by_cases hlt : f < N
          · have hlt' : (f : Int) < (N : Int) := by omega
            obtain ⟨fb, fo, ra, rp, sb, so, ta, tp, rfl, rfl, q0, hs0, q1, qt⟩ := FF.out f hlt wr HK.out
            have c1 := C1.out _ HK.out
            generalize (fun8 P f).sig.toNat = sg at *
            generalize (P.sigs.getD sg ([], 0, 0)).1.length = T at *
            generalize (fun8 P f).regs.length = R at *
            by_cases hRT : R < T
            · have hRT' : (R : Int) < (T : Int) := by omega
              go_wp2_with fail
              go_quiet (fail)
              go_wp2_with fail
              go_ret
              exact ⟨false, rfl, (fun h => by cases h), HK.out.quiet (Keeps.drewN [] _ _)⟩
            · have hRT' : ¬ (R : Int) < (T : Int) := by omega
              go_wp2_with fail
              go_quiet (fail)
              go_wp2_with fail
              go_roundw
              case rel => exact ⟨f + 1, by omega, by go_num, hid (HK.out.quiet (Keeps.drewN [] _ _))⟩
              case measure => simp [intOf]; omega
          · obtain rfl : f = N := by omega
            go_wp2_with fail
            go_ret
            exact ⟨true, rfl, fun _ => HRT.out, HK.out⟩
end Go.Proofs.YtmebkeidpklcbaaDoor
