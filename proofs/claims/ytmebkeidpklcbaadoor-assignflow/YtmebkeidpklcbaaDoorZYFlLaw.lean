/-
  AssignFlow: the walk.
-/
import Derived.Test.YtmebkeidpklcbaaDoorZ36
import Derived.Test.YtmebkeidpklcbaaDoorZ37
import Derived.Test.YtmebkeidpklcbaaDoorZ09
import Derived.Test.YtmebkeidpklcbaaDoorZ34
import Derived.Test.YtmebkeidpklcbaaDoorZ05
import Derived.Test.YtmebkeidpklcbaaDoorZ04
import Derived.Deep.RegionWith
import Derived.Deep.RegionHeld3
namespace Go.Proofs.YtmebkeidpklcbaaDoor
open Go.RowKit

theorem Rt.ends {P : Pr8} (h : Rt P) {f : Nat} (hf : f < P.funcs.length) : EndsIn (fun8 P f) := by
  intro b hb
  have h1 := names_pt h.nm (f := f) (b := b) (i := (blk8 (fun8 P f) b).code.length) ⟨hf, hb, Nat.le_refl _⟩
  rw [ptOk_end] at h1
  unfold endB at h1
  refine ⟨fun e => ?_, fun e => ?_⟩
  · rcases e with e | e
    · rw [e, if_pos rfl, Bool.and_eq_true, Bool.and_eq_true] at h1
      exact h1.2.1
    · rw [e, if_neg (by decide), if_pos rfl, Bool.and_eq_true, Bool.and_eq_true] at h1
      exact h1.2.1
  · rw [e, if_neg (by decide), if_pos rfl, Bool.and_eq_true, Bool.and_eq_true] at h1
    exact h1.2.2
set_option maxRecDepth 20000 in
set_option maxHeartbeats 8000000 in
theorem fl_in {w : World} {pb po : Nat} {P : Pr8} (hg : Glob w) (hT : TabAt w) (h : PrC w pb po P) : Calls Tryd.prog 3 #[.pointer (some ⟨pb, po, none⟩)] w fun e w' => e = .returned (.bool true) ∧ Keeps [] w w' := by
  have HG := hid hg
  have HP := hid h
  have HB := hid (begun11_any w hg hT)
  have HR := hid fun (w' : World) (k : Keeps [] w w') => right_any (PrC.stays _ _ _ _ _ k h)
  clear hg hT h
  go_enter Tryd.func3, Tryd.ntmps3
  go_wp2_with fail
  refine HB.out.mono ?_
  rintro e w1 ⟨rfl, k1⟩
  have K1 := hid k1
  clear HB k1
  go_wp2_with fail
  refine (HR.out _ K1.out).mono ?_
  rintro e w2 ⟨ok, rfl, hok, k2⟩
  have K2 := hid (K1.out.quiet k2)
  have HOK := hid hok
  clear k2 hok HR
  cases ok with
  | false =>
    go_wp2_with fail
    go_ret
    exact ⟨rfl, K2.out⟩
  | true =>
    have hrt := HOK.out rfl
    have HFL : Box (∀ (w' : World) (f : Nat), Keeps [] w w' → f < P.funcs.length → Calls Tryd.prog 10 #[.pointer (some ⟨pb, po, none⟩), .int .i64 (f : Int)] w' fun e w'' => ∃ a, e = .returned (.agg #[.int .i64 ((fun8 P f).blocks.length : Int), .slice a (fun8 P f).blocks.length (fun8 P f).blocks.length]) ∧ GAt w'' w''.heap.size a (flowF (fun8 P f)) ∧ Keeps [] w' w'') := hid fun w' f k hf => by
      have := flow_any (PrC.stays _ _ _ _ _ k HP.out) hf (hrt.sz.bk f hf)
      rw [flowF_len] at this
      exact this
    have HFV := hid fun (f : Nat) (w' : World) (k : Keeps [] w w') (hf : f < P.funcs.length) => fn_val (PrC.stays _ _ _ _ _ k HP.out) hf
    have HBL := hid fun (f : Nat) (w' : World) (hf : f < P.funcs.length) (s : Int) (ra : Option Addr) (R rp : Nat) (ba : Option Addr) (bcp : Nat) (hr : RowsAt w' 5 BlC ba (fun8 P f).blocks) => rblocks_any (fun8 P f) s ra R rp ba bcp hr (hrt.ends hf) (hrt.sz.bk f hf)
    have HEQ : Box (∀ (f : Nat) (w' : World) (v1 v2 : Option Addr) (B1 B2 c1 c2 : Nat), f < P.funcs.length → GAt w' B1 v1 (flowF (fun8 P f)) → GAt w' B2 v2 (flowF (fun8 P f)) → Calls Tryd.prog 11 #[.slice v1 (fun8 P f).blocks.length c1, .slice v2 (fun8 P f).blocks.length c2] w' fun e w'' => e = .returned (.bool true) ∧ ∃ m, w'' = w'.drewN m) := hid fun f w' v1 v2 B1 B2 c1 c2 hf h1 h2 => by
      have hb := hrt.sz.bk f hf
      have := geqall_any v1 v2 B1 B2 c1 c2 (flowF (fun8 P f)) (flowF (fun8 P f)) w' h1 h2 (by rw [flowF_len]; omega) (fun j => Nat.le_trans ((flowF_sm hb).short j) (by decide))
      rw [flowF_len, decide_eq_true rfl] at this
      exact this
    have HRS := hid fun (w' : World) (k : Keeps [] w w') => rshape_any (PrC.stays _ _ _ _ _ k HP.out) (fun f hf => hrt.ends hf) hrt.sz.bk hrt.sz.fn
    have HSH := hid fun (w' : World) (k : Keeps [] w w') => shape_any (PrC.stays _ _ _ _ _ k HP.out) hrt.sz
    obtain ⟨fa0, fcp0, H⟩ := HP.out.fns
    have h4 := H.cell
    have C4 : Box (∀ w', Keeps [] w w' → w'.cell? ⟨pb, po + 4, none⟩ = some (.slice fa0 P.funcs.length fcp0)) := hid fun w' k => cell_stays k h4
    have hN := hrt.sz.fn
    have HBK := hid hrt.sz.bk
    clear hrt HOK HP H h4
    obtain ⟨N, hNe⟩ : ∃ N, P.funcs.length = N := ⟨_, rfl⟩
    rw [hNe] at HFL HFV HBL HEQ C4 hN HBK
    clear hNe
    go_wp2_with fail
    go_loopw [4] (fun i wr => ∃ f : Nat, f ≤ N ∧ i = .int .i64 (f : Int) ∧ Box (Keeps [] w wr)) (fun i _ => N - (intOf i).toNat)
    case atStart => exact ⟨0, by omega, rfl, K2⟩
    case round =>
      clear K2
      obtain ⟨f, hf, rfl, HK⟩ := hrel
      have c4 := C4.out _ HK.out
      by_cases hlt : f < N
      · have hlt' : (f : Int) < (N : Int) := by omega
        have HF1 := hid (HFL.out wr f HK.out hlt)
        have HB1 := hid fun (w' : World) => HBL.out f w' hlt
        have HE1 := hid fun (w' : World) (v1 v2 : Option Addr) (B1 B2 c1 c2 : Nat) => HEQ.out f w' v1 v2 B1 B2 c1 c2 hlt
        have hb6 := HBK.out f hlt
        have HV1 := hid fun (w' : World) (k : Keeps [] w w') => HFV.out f w' k hlt
        obtain ⟨n, hn⟩ : ∃ n, (fun8 P f).blocks.length = n := ⟨_, rfl⟩
        rw [hn] at HF1 HB1 HE1 HV1 hb6
        clear hn
        go_upto_region 10 with (go_at_call 10; refine HF1.out.mono ?_; rintro e w3 ⟨a, rfl, hg3, k3⟩)
        have ka := Keeps.alloc [] w3 (.cells #[.int .i64 (n : Int), .slice a n n] 34)
        have HBX := hid (TwoAt.new w3 (.int .i64 (n : Int)) (.slice a n n))
        have HGR := hid (hg3.quiet ka)
        have HK3 := hid ((HK.out.quiet k3).quiet ka)
        clear ka hg3 k3 HK HF1 c4
        generalize w3.alloc (.cells #[.int .i64 (n : Int), .slice a n n] 34) = W3 at *
        generalize w3.heap.size = gb at *
        have c0 := HBX.out.c0
        have c1 := HBX.out.c1
        have c4 := C4.out _ HK3.out
        obtain ⟨fa, fcp, fb, fo, ra, rp, ba, bcp, d4, rfl, q0, q1, q2, hrows⟩ := HV1.out W3 HK3.out
        rw [c4] at d4
        simp only [Option.some.injEq, Value.slice.injEq, true_and] at d4
        obtain ⟨e1, e2⟩ := d4
        subst e1
        subst e2
        have HB2 := hid fun (w' : World) (k : Keeps [] W3 w') => HB1.out w' (fun8 P f).sig ra (fun8 P f).regs.length rp ba bcp (hrows.quiet BlC.stays k)
        clear hrows HV1 HB1
        generalize (fun8 P f).regs.length = R at *
        generalize (fun8 P f).sig = sg at *
        have on : ((n : Int) != (n : Int)) = false := by simp
        go_cut [51] (fun t51 wz => t51 = .bool false ∧ Box (Keeps [] w wz))
        case first =>
          have kd : Keeps [] W3 W3.drew := Keeps.drew _ _
          go_region_held3 (fun w' => w'.cell? ⟨gb, 0, none⟩ = some (.int .i64 (n : Int)) ∧ w'.cell? ⟨gb, 1, none⟩ = some (.slice a n n) ∧ w'.cell? ⟨pb, po + 4, none⟩ = some (.slice (some ⟨fb, fo, none⟩) N fcp0) ∧ w'.cell? ⟨fb, fo + f * 3, none⟩ = some (.int .i64 sg) ∧ w'.cell? ⟨fb, fo + f * 3 + 1, none⟩ = some (.slice ra R rp) ∧ w'.cell? ⟨fb, fo + f * 3 + 2, none⟩ = some (.slice ba n bcp)) (go_keep) (first
            | (go_at_call 12; refine (HB2.out _ kd).mono ?_; rintro e w5 ⟨a5, p5, rfl, g5, k5⟩; have kk5 := kd.quiet k5; have G5 := hid g5; have x0 := cell_stays kk5 c0; have x1 := cell_stays kk5 c1; have x2 := cell_stays kk5 c4; have x3 := cell_stays kk5 q0; have x4 := cell_stays kk5 q1; have x5 := cell_stays kk5 q2; clear g5 k5)
            | (go_at_call 11; refine (HE1.out _ a a5 _ _ n p5 (HGR.out.quiet kk5) G5.out).mono ?_; rintro e w6 ⟨rfl, m6, rfl⟩; have kk6 := kk5.quiet (Keeps.drewN [] _ m6); have y0 := cell_stays kk6 c0; have y1 := cell_stays kk6 c1; have y2 := cell_stays kk6 c4; have y3 := cell_stays kk6 q0; have y4 := cell_stays kk6 q1; have y5 := cell_stays kk6 q2)
            | fail)
          all_goals
            go_wp2_with fail
            go_meet
            exact ⟨rfl, hid (HK3.out.quiet kk6)⟩
        case rest =>
          obtain ⟨rfl, HK5⟩ := hcut
          go_wp2_with fail
          go_roundw
          case rel => exact ⟨f + 1, by omega, by go_num, HK5⟩
          case measure => simp [intOf]; omega
      · obtain rfl : f = N := by omega
        clear HFL HFV HBL HEQ C4
        have HA := hid (HRS.out wr HK.out)
        go_wp2_with fail
        refine HA.out.mono ?_
        intro e w3 h3
        cases hff : (bks P).find? (lostP P) with
        | none =>
          rw [hff] at h3 HSH
          obtain ⟨rfl, k3⟩ := h3
          have K3 := hid ((HK.out.quiet k3).quiet (Keeps.alloc [] w3 (.cells #[.int .i64 (-1), .int .i64 0, .int .i64 0] 43)))
          clear k3 hff HA
          go_upto_region 13 with fail
          generalize w3.alloc (.cells #[.int .i64 (-1), .int .i64 0, .int .i64 0] 43) = W3 at *
          go_wp2_with fail
          refine (HSH.out _ K3.out).mono ?_
          rintro e w4 ⟨rfl, k4⟩
          have K4 := hid (K3.out.quiet k4)
          clear k4
          go_wp2_with fail
          go_ret
          exact ⟨rfl, K4.out⟩
        | some q =>
          rw [hff] at h3 HSH
          obtain ⟨qf, qb, qi⟩ := q
          obtain ⟨rfl, k3⟩ := h3
          have ka := Keeps.alloc [] w3 (.cells #[.int .i64 (qf : Int), .int .i64 (qb : Int), .int .i64 (qi : Int)] 43)
          have HN := hid (heap_new w3 (.cells #[.int .i64 (qf : Int), .int .i64 (qb : Int), .int .i64 (qi : Int)] 43))
          have K3 := hid ((HK.out.quiet k3).quiet ka)
          clear k3 ka hff HA
          go_upto_region 15 with fail
          generalize w3.alloc (.cells #[.int .i64 (qf : Int), .int .i64 (qb : Int), .int .i64 (qi : Int)] 43) = W3 at *
          generalize w3.heap.size = qq at *
          have c0 := hcell HN.out 0
          have c1 := hcell HN.out 1
          have c2 := hcell HN.out 2
          go_cut [2] (fun t2 wz => t2 = .bool true ∧ Box (Keeps [] w wz))
          case first =>
            go_region_with (first
              | (go_at_call 14; refine (HSH.out _ (K3.out.quiet (Keeps.drewN [] _ _))).mono ?_; rintro e w5 ⟨p5, rfl, h5, k5⟩; have d0 := cell_stays k5 c0; have d1 := cell_stays k5 c1; have d2 := cell_stays k5 c2)
              | (go_at_call 15; refine (says_at (HG.out.quiet (K3.out.quiet ((Keeps.drewN [] _ _).quiet k5))) h5 (by decide)).mono ?_; rintro e w6 ⟨rfl, k6⟩))
            all_goals
              go_wp2_with fail
              go_meet
              exact ⟨rfl, hid (K3.out.quiet ((Keeps.drewN [] _ _).quiet (k5.quiet k6)))⟩
          case rest =>
            obtain ⟨rfl, HK6⟩ := hcut
            go_wp2_with fail
            go_ret
            exact ⟨rfl, HK6.out⟩
theorem fl_nil (w : World) (hg : Glob w) (hT : TabAt w) : Calls Tryd.prog 3 #[.pointer none] w fun e w' => e = .returned (.bool true) ∧ Keeps [] w w' := by
  have HB := hid (begun11_any w hg hT)
  clear hg hT
  go_enter Tryd.func3, Tryd.ntmps3
  go_wp2_with fail
  refine HB.out.mono ?_
  rintro e w1 ⟨rfl, k1⟩
  have K1 := hid k1
  clear HB k1
  go_wp2_with fail
  refine (right_nil _).mono ?_
  rintro e w2 ⟨rfl, k2⟩
  have K2 := hid (K1.out.quiet k2)
  clear k2
  go_wp2_with fail
  go_ret
  exact ⟨rfl, K2.out⟩
theorem fl_walk (v : Value) (w : World) (hg : Glob w) (hT : TabAt w) (hp : ProgAt 17592186044416 w v) : Calls Tryd.prog 3 #[v] w fun e w' => e = .returned (.bool true) ∧ Keeps [] w w' := by
  rcases hp with rfl | ⟨b, o, P, rfl, h, _⟩
  · exact fl_nil w hg hT
  · exact fl_in hg hT h
end Go.Proofs.YtmebkeidpklcbaaDoor
