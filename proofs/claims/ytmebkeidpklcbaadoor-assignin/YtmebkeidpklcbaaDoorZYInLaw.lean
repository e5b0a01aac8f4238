/-
  AssignIn: the walk.
-/
import Derived.Test.YtmebkeidpklcbaaDoorZ36
import Derived.Test.YtmebkeidpklcbaaDoorZ39
import Derived.Test.YtmebkeidpklcbaaDoorZ37
import Derived.Test.YtmebkeidpklcbaaDoorZ04
namespace Go.Proofs.YtmebkeidpklcbaaDoor
open Go.RowKit

theorem Rt.endsI {P : Pr8} (h : Rt P) {f : Nat} (hf : f < P.funcs.length) : EndsIn (fun8 P f) := by
  intro b hb
  have h1 := names_pt h.nm (f := f) (b := b) (i := (blk8 (fun8 P f) b).code.length) ⟨hf, hb, Nat.le_refl _⟩
  rw [ptOk_end] at h1
  unfold endB at h1
  refine ⟨fun e => ?_, fun e => ?_⟩
  · rcases e with e | e
    · rw [e, if_pos rfl, Bool.and_eq_true, Bool.and_eq_true] at h1
      exact h1.2.1
    · rw [e, if_neg (by decide), if_pos rfl, Bool.and_eq_true, Bool.and_eq_true] at h1
      exact h1.2.1
  · rw [e, if_neg (by decide), if_pos rfl, Bool.and_eq_true, Bool.and_eq_true] at h1
    exact h1.2.2
theorem in_free {P : Pr8} {f b r : Nat} (hb6 : (fun8 P f).blocks.length ≤ 600) (hb : b < (fun8 P f).blocks.length) (hr : r < (fun8 P f).regs.length) : inS P (fun8 P f) b r = (!rch (flowF (fun8 P f)) [0] b || !freeB P f r b 0) := by
  unfold inS freeB frB
  rw [decide_eq_true hr, Bool.true_and, clr_zero, Bool.and_true]
  cases hm : rch (flowF (fun8 P f)) [0] b with
  | true => rfl
  | false =>
    cases hbr : bareS (fun8 P f) r b with
    | false => simp
    | true =>
      have := bare_rch hb6 (by omega) hbr
      rw [hm] at this
      cases this
set_option maxRecDepth 20000 in
set_option maxHeartbeats 8000000 in
theorem in_in {w : World} {pb po : Nat} {P : Pr8} (hg : Glob w) (hT : TabAt w) (h : PrC w pb po P) : Calls Tryd.prog 4 #[.pointer (some ⟨pb, po, none⟩)] w fun e w' => e = .returned (.bool true) ∧ Keeps [] w w' := by
  have HT := hid hT
  have HP := hid h
  have HB := hid (begun11_any w hg hT)
  have HR := hid fun (w' : World) (k : Keeps [] w w') => right_any (PrC.stays _ _ _ _ _ k h)
  clear hg hT h
  go_enter Tryd.func4, Tryd.ntmps4
  go_wp2_with fail
  refine HB.out.mono ?_
  rintro e w1 ⟨rfl, k1⟩
  have K1 := hid k1
  clear HB k1
  go_wp2_with fail
  refine (HR.out _ K1.out).mono ?_
  rintro e w2 ⟨ok, rfl, hok, k2⟩
  have K2 := hid (K1.out.quiet k2)
  have HOK := hid hok
  clear k2 hok HR
  cases ok with
  | false =>
    go_wp2_with fail
    go_ret
    exact ⟨rfl, K2.out⟩
  | true =>
    have hrt := HOK.out rfl
    have HIN : Box (∀ (w' : World) (f : Nat), Keeps [] w w' → f < P.funcs.length → Calls Tryd.prog 16 #[.pointer (some ⟨pb, po, none⟩), .int .i64 (f : Int)] w' (InPost w' P (fun8 P f))) := hid fun w' f k hf => in_any (PrC.stays _ _ _ _ _ k HP.out) (HT.out.kept k (by simp)) hf (hrt.sz.bk0 f hf) (hrt.sz.bk f hf) (hrt.sz.rg f hf) (fun b => hrt.sz.code f b hf)
    have HFV := hid fun (f : Nat) (w' : World) (k : Keeps [] w w') (hf : f < P.funcs.length) => fn_val (PrC.stays _ _ _ _ _ k HP.out) hf
    have HBL := hid fun (f : Nat) (w' : World) (hf : f < P.funcs.length) (s : Int) (ra : Option Addr) (R rp : Nat) (ba : Option Addr) (bcp : Nat) (hr : RowsAt w' 5 BlC ba (fun8 P f).blocks) => rblocks_any (fun8 P f) s ra R rp ba bcp hr (hrt.endsI hf) (hrt.sz.bk f hf)
    have HRC : Box (∀ (f : Nat) (w' : World) (a : Option Addr) (cp : Nat), f < P.funcs.length → GAt w' w'.heap.size a (flowF (fun8 P f)) → Calls Tryd.prog 17 #[.slice a (fun8 P f).blocks.length cp, .slice (some ⟨w'.heap.size, 0, none⟩) 1 1, .int .i64 (-1)] (w'.alloc (.cells #[.int .i64 0] 3)) fun e w'' => ∃ ps, e = .returned (.slice (some ⟨ps, 0, none⟩) (fun8 P f).blocks.length (fun8 P f).blocks.length) ∧ RowAt w'' (w'.alloc (.cells #[.int .i64 0] 3)).heap.size ps (fun8 P f).blocks.length 4 (bw (rch (flowF (fun8 P f)) [0])) ∧ Keeps [] w' w'') := hid fun f w' a cp hf hG => by
      have hk := Keeps.alloc [] w' (.cells #[.int .i64 0] 3)
      have hbk := hrt.sz.bk f hf
      have := rreach_any (flowF (fun8 P f)) (flowF_sm hbk) a cp w'.heap.size _ (hG.quiet hk) (some ⟨w'.heap.size, 0, none⟩) 1 _ [0] (zero_row w') (by simp) (-1)
      rw [flowF_len] at this
      refine this.mono ?_
      rintro e w'' ⟨ps, rfl, s, hrow, k2, hsu⟩
      have hs' := seen_rch (flowF_sm hbk).ok (s := s) (by rw [flowF_len]; exact hsu)
      subst hs'
      exact ⟨ps, rfl, hrow, hk.quiet k2⟩
    have HFR : Box (∀ (w' : World) (f b r : Nat), Keeps [] w w' → f < P.funcs.length → b < (fun8 P f).blocks.length → r < (fun8 P f).regs.length → Calls Tryd.prog 18 #[.pointer (some ⟨pb, po, none⟩), .int .i64 (f : Int), .int .i64 (r : Int), .agg #[.int .i64 (f : Int), .int .i64 (b : Int), .int .i64 0]] w' fun e w'' => e = .returned (.bool (freeB P f r b 0)) ∧ Keeps [] w' w'') := hid fun w' f b r k hf hb hr => by
      have hsg : inB (fun8 P f).sig P.sigs.length = true := by
        have := names_head hrt.nm hf
        unfold headOk at this
        rw [Bool.and_eq_true] at this
        exact this.1
      have h2 := hrt.sz.rg f hf
      exact rfree_any (i := 0) (PrC.stays _ _ _ _ _ k HP.out) hrt.sm ⟨hf, hb, Nat.zero_le _⟩ hsg (by omega)
    have HIF : Box (∀ f b r, f < P.funcs.length → b < (fun8 P f).blocks.length → r < (fun8 P f).regs.length → inS P (fun8 P f) b r = (!rch (flowF (fun8 P f)) [0] b || !freeB P f r b 0)) := hid fun f b r hf hb hr => in_free (hrt.sz.bk f hf) hb hr
    obtain ⟨fa0, fcp0, H⟩ := HP.out.fns
    have h4 := H.cell
    have C4 : Box (∀ w', Keeps [] w w' → w'.cell? ⟨pb, po + 4, none⟩ = some (.slice fa0 P.funcs.length fcp0)) := hid fun w' k => cell_stays k h4
    have hN := hrt.sz.fn
    have HBK := hid hrt.sz.bk
    have HRG := hid hrt.sz.rg
    clear hrt HOK HP H h4 HT
    obtain ⟨N, hNe⟩ : ∃ N, P.funcs.length = N := ⟨_, rfl⟩
    rw [hNe] at HIN HFV HBL HRC HFR HIF C4 hN HBK HRG
    clear hNe
    go_wp2_with fail
    go_loopw [4] (fun i wr => ∃ f : Nat, f ≤ N ∧ i = .int .i64 (f : Int) ∧ Box (Keeps [] w wr)) (fun i _ => N - (intOf i).toNat)
    case atStart => exact ⟨0, by omega, rfl, K2⟩
    case round =>
      clear K2
      obtain ⟨f, hf, rfl, HK⟩ := hrel
      have c4 := C4.out _ HK.out
      by_cases hlt : f < N
      · have hlt' : (f : Int) < (N : Int) := by omega
        have HI1 := hid (HIN.out wr f HK.out hlt)
        have HB1 := hid fun (w' : World) => HBL.out f w' hlt
        have HR1 := hid fun (w' : World) (a : Option Addr) (cp : Nat) => HRC.out f w' a cp hlt
        have HV1 := hid fun (w' : World) (k : Keeps [] w w') => HFV.out f w' k hlt
        have HF1 := hid fun (w' : World) (b r : Nat) (k : Keeps [] w w') => HFR.out w' f b r k hlt
        have HE1 := hid fun (b r : Nat) => HIF.out f b r hlt
        have hb6 := HBK.out f hlt
        have hr6 := HRG.out f hlt
        obtain ⟨n, hn⟩ : ∃ n, (fun8 P f).blocks.length = n := ⟨_, rfl⟩
        unfold InPost at HI1
        rw [hn] at HI1 HB1 HR1 HV1 HF1 HE1 hb6
        clear hn
        go_upto_region 10 with (go_at_call 16; refine HI1.out.mono ?_; rintro e w3 ⟨p3, d3, q3, rfl, h3, l3, m3, k3⟩)
        have HH := hid h3
        have HK3 := hid (HK.out.quiet k3)
        clear h3 l3 m3 k3 HK HI1 c4
        have c4 := C4.out _ HK3.out
        obtain ⟨fa, fcp, fb, fo, ra, rp, ba, bcp, d4, rfl, q0, q1, q2, hrows⟩ := HV1.out w3 HK3.out
        rw [c4] at d4
        simp only [Option.some.injEq, Value.slice.injEq, true_and] at d4
        obtain ⟨e1, e2⟩ := d4
        subst e1
        subst e2
        have HB2 := hid (HB1.out w3 (fun8 P f).sig ra (fun8 P f).regs.length rp ba bcp hrows)
        clear hrows HV1 HB1
        obtain ⟨R, hR⟩ : ∃ R, (fun8 P f).regs.length = R := ⟨_, rfl⟩
        rw [hR] at HB2 q1 HF1 HE1 hr6
        clear hR
        generalize (fun8 P f).sig = sg at *
        have CQ : Box (∀ w', Keeps [] w3 w' → w'.cell? ⟨fb, fo + f * 3 + 1, none⟩ = some (.slice ra R rp) ∧ w'.cell? ⟨fb, fo + f * 3 + 2, none⟩ = some (.slice ba n bcp)) := hid fun w' k => ⟨cell_stays k q1, cell_stays k q2⟩
        go_upto_region 11 with (first
          | (go_at_call 12; refine HB2.out.mono ?_; rintro e w5 ⟨a5, p5, rfl, g5, k5⟩)
          | (go_at_call 17; refine (HR1.out _ a5 p5 g5).mono ?_; rintro e w6 ⟨ps, rfl, hrow, k6⟩))
        have HRO := hid hrow
        have HKQ := hid (k5.quiet k6)
        clear hrow g5 q0 q1 q2 c4 k5 k6
        generalize (w5.alloc (.cells #[.int .i64 0] 3)).heap.size = base at *
        have HK6 := hid (HK3.out.quiet HKQ.out)
        have HH6 := hid (HH.out.quiet HKQ.out)
        have c4 := C4.out _ HK6.out
        obtain ⟨q1, q2⟩ := CQ.out _ HKQ.out
        have on : ((n : Int) != (n : Int)) = false := by simp
        go_upto_region 13 with fail
        clear q1 q2 c4 HH HK3 on
        go_wp2_with fail
        go_loopw [7] (fun i wr => ∃ b : Nat, b ≤ n ∧ i = .int .i64 (b : Int) ∧ Box (Keeps [] w6 wr)) (fun i _ => n - (intOf i).toNat)
        case atStart => exact ⟨0, by omega, rfl, hid (Keeps.refl _ _)⟩
        case round =>
          obtain ⟨b, hb, rfl, HKB⟩ := hrel
          by_cases hlb : b < n
          · have hlb' : (b : Int) < (n : Int) := by omega
            go_wp2_with fail
            go_loopw [8] (fun i wr => ∃ r : Nat, r ≤ R ∧ i = .int .i64 (r : Int) ∧ Box (Keeps [] w6 wr)) (fun i _ => R - (intOf i).toNat)
            case atStart => exact ⟨0, by omega, rfl, HKB⟩
            case round =>
              clear HKB
              obtain ⟨r, hr, rfl, HKR⟩ := hrel
              have c4 := C4.out _ (HK6.out.quiet HKR.out)
              obtain ⟨q1, -⟩ := CQ.out _ (HKQ.out.quiet HKR.out)
              by_cases hlr : r < R
              · have hlr' : (r : Int) < (R : Int) := by omega
                have HE2 := hid (HE1.out b r hlb hlr)
                have cs := (HRO.out.kept HKR.out (by simp)).cell hlb
                unfold bw at cs
                have HH7 := hid (HH6.out.quiet HKR.out)
                have hrd := HH7.out.row.cell hlb
                unfold pv at hrd
                rw [if_pos hlb] at hrd
                have HFT : Box (Fit (inS P (fun8 P f) b)) := hid (fun m hm => by
                  have := HRG.out f hlt
                  unfold inS
                  rw [decide_eq_false (by omega)]
                  rfl)
                have HHS : Box (∀ w', Keeps [] wr w' → Calls Tryd.prog 19 #[.pointer (some ⟨d3 b, 0, none⟩), .int .i64 (r : Int)] w' fun e w'' => e = .returned (.bool (inS P (fun8 P f) b r)) ∧ ∃ m, w'' = w'.drewN m) := hid fun w' k' => by
                  have := has_any (d3 b) (inS P (fun8 P f) b) (r : Int) w' ((HH7.out.quiet k').set b hlb) HFT.out
                  unfold hasI at this
                  rw [Int.toNat_natCast, decide_eq_true (by omega : (0 : Int) ≤ (r : Int)), Bool.true_and] at this
                  exact this
                generalize inS P (fun8 P f) b r = inb at *
                cases hm : rch (flowF (fun8 P f)) [0] b with
                | false =>
                  rw [hm] at cs HE2
                  have hinb : inb = true := by rw [HE2.out]; rfl
                  subst hinb
                  clear hm HE2
                  go_wp2_with (go_at_call 19; refine (HHS.out _ (Keeps.refl _ _)).mono ?_; rintro e w9 ⟨rfl, m9, rfl⟩)
                  go_roundw
                  case rel => exact ⟨r + 1, by omega, by go_num, hid (HKR.out.quiet (Keeps.drewN [] _ _))⟩
                  case measure => simp [intOf]; omega
                | true =>
                  rw [hm] at cs HE2
                  have HFZ := hid (HF1.out wr b r (HK6.out.quiet HKR.out) hlb hlr)
                  rw [Bool.not_true, Bool.false_or] at HE2
                  generalize freeB P f r b 0 = fz at *
                  have hinb := HE2.out
                  subst hinb
                  clear hm HE2
                  cases fz with
                  | false =>
                    go_wp2_with (first
                      | (go_at_call 18; refine HFZ.out.mono ?_; rintro e w8 ⟨rfl, k8⟩; have hrd8 := cell_stays k8 hrd)
                      | (go_at_call 19; refine (HHS.out _ k8).mono ?_; rintro e w9 ⟨rfl, m9, rfl⟩))
                    go_roundw
                    case rel => exact ⟨r + 1, by omega, by go_num, hid (HKR.out.quiet (k8.quiet (Keeps.drewN [] _ _)))⟩
                    case measure => simp [intOf]; omega
                  | true =>
                    go_wp2_with (first
                      | (go_at_call 18; refine HFZ.out.mono ?_; rintro e w8 ⟨rfl, k8⟩; have hrd8 := cell_stays k8 hrd)
                      | (go_at_call 19; refine (HHS.out _ k8).mono ?_; rintro e w9 ⟨rfl, m9, rfl⟩))
                    go_roundw
                    case rel => exact ⟨r + 1, by omega, by go_num, hid (HKR.out.quiet (k8.quiet (Keeps.drewN [] _ _)))⟩
                    case measure => simp [intOf]; omega
              · obtain rfl : r = R := by omega
                go_wp2_with fail
                go_roundw
                case rel => exact ⟨b + 1, by omega, by go_num, HKR⟩
                case measure => simp [intOf]; omega
          · obtain rfl : b = n := by omega
            go_wp2_with fail
            go_roundw
            case rel => exact ⟨f + 1, by omega, by go_num, hid (HK6.out.quiet HKB.out)⟩
            case measure => simp [intOf]; omega
      · obtain rfl : f = N := by omega
        go_wp2_with fail
        go_ret
        exact ⟨rfl, HK.out⟩
theorem in_nil (w : World) (hg : Glob w) (hT : TabAt w) : Calls Tryd.prog 4 #[.pointer none] w fun e w' => e = .returned (.bool true) ∧ Keeps [] w w' := by
  have HB := hid (begun11_any w hg hT)
  clear hg hT
  go_enter Tryd.func4, Tryd.ntmps4
  go_wp2_with fail
  refine HB.out.mono ?_
  rintro e w1 ⟨rfl, k1⟩
  have K1 := hid k1
  clear HB k1
  go_wp2_with fail
  refine (right_nil _).mono ?_
  rintro e w2 ⟨rfl, k2⟩
  have K2 := hid (K1.out.quiet k2)
  clear k2
  go_wp2_with fail
  go_ret
  exact ⟨rfl, K2.out⟩
theorem in_walk (v : Value) (w : World) (hg : Glob w) (hT : TabAt w) (hp : ProgAt 17592186044416 w v) : Calls Tryd.prog 4 #[v] w fun e w' => e = .returned (.bool true) ∧ Keeps [] w w' := by
  rcases hp with rfl | ⟨b, o, P, rfl, h, _⟩
  · exact in_nil w hg hT
  · exact in_in hg hT h
end Go.Proofs.YtmebkeidpklcbaaDoor
