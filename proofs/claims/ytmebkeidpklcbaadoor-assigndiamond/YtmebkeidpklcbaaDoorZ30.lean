/-
  Contract: assign's In, the walk.
-/
import Derived.Deep.DeepCutAuto
import Derived.Test.YtmebkeidpklcbaaDoorZ29

namespace Go.Proofs.YtmebkeidpklcbaaDoor
open Go.RowKit

theorem bareS_out {F : Fu8} (hb : F.blocks.length ≤ 600) (r m : Nat) (h : F.blocks.length ≤ m) : bareS F r m = false :=
  rch_out (stopG_sm (flowF_sm hb) _ r).ok [0] m (by rw [stopG_len, flowF_len]; exact h)
theorem meas3 {k j : Nat} {v : Int} (hj : j < k) (h : v = -1 ∨ ∃ i : Nat, v = (i : Int) ∧ j < i ∧ i < k) : (if intOf (.int .i64 v) < 0 then 0 else k + 1 - (intOf (.int .i64 v)).toNat) < (if intOf (.int .i64 (j : Int)) < 0 then 0 else k + 1 - (intOf (.int .i64 (j : Int))).toNat) := by
  show (if v < 0 then 0 else k + 1 - v.toNat) < (if (j : Int) < 0 then 0 else k + 1 - (j : Int).toNat)
  rw [if_neg (by omega : ¬ ((j : Int) < 0))]
  rcases h with rfl | ⟨i, rfl, h1, h2⟩
  · rw [if_pos (by omega)]
    omega
  · rw [if_neg (by omega)]
    omega
/-- What In answers. -/
def InPost (w : World) (P : Pr8) (F : Fu8) (e : Ending) (w' : World) : Prop := ∃ p d q, e = .returned (.slice (some ⟨p, 0, none⟩) F.blocks.length F.blocks.length) ∧ HS w' w.heap.size q p F.blocks.length F.blocks.length d (inS P F) ∧ p < q ∧ w.heap.size ≤ p ∧ Keeps [] w w'
set_option maxRecDepth 20000 in
set_option maxHeartbeats 8000000 in
theorem in_any {w : World} {pb po : Nat} {P : Pr8} (h : PrC w pb po P) (hT : TabAt w) {f : Nat} (hf : f < P.funcs.length) (hb0 : 0 < (fun8 P f).blocks.length) (hb : (fun8 P f).blocks.length ≤ 600) (hr : (fun8 P f).regs.length ≤ 1000) (hc : ∀ b, (blk8 (fun8 P f) b).code.length ≤ 1000000) :
    Calls Tryd.prog 16 #[.pointer (some ⟨pb, po, none⟩), .int .i64 (f : Int)] w (InPost w P (fun8 P f)) := by
  have HFL := hid fun (w' : World) (k : Keeps [] w w') => flow_any (PrC.stays _ _ _ _ _ k h) hf hb
  obtain ⟨fa, fcp, H⟩ := h.fns
  have h4 := H.cell
  have C4 : Box (∀ w', Keeps [] w w' → w'.cell? ⟨pb, po + 4, none⟩ = some (.slice fa P.funcs.length fcp)) := hid fun w' k => cell_stays k h4
  obtain ⟨fb, fo, rfl, hfu0⟩ := H.rows.at (getD_get (d := ⟨0, [], []⟩) hf)
  have hfu : FuC w fb (fo + f * 3) (fun8 P f) := hfu0
  obtain ⟨fb', fo', ba, bcp, e, BB⟩ := H.at hf
  simp only [Option.some.injEq, Addr.mk.injEq, and_true] at e
  obtain ⟨rfl, rfl⟩ := e
  have h2 := BB.cell
  have C2 : Box (∀ w', Keeps [] w w' → w'.cell? ⟨fb, fo + f * 3 + 2, none⟩ = some (.slice ba (fun8 P f).blocks.length bcp)) := hid fun w' k => cell_stays k h2
  have BA : Box (∀ b, b < (fun8 P f).blocks.length → ∃ bb bo, ba = some ⟨bb, bo, none⟩ ∧ ∀ w', Keeps [] w w' → Calls Tryd.prog 36 #[.pointer (some ⟨bb, bo + b * 5, none⟩)] w' fun e w'' => ∃ b', e = .returned (.pointer (some ⟨b', 0, none⟩)) ∧ SetAt w'' b' (dfS (blk8 (fun8 P f) b).code none_) ∧ Keeps [] w' w'' ∧ w'.heap.size ≤ b') := hid fun b hb => by
    obtain ⟨bb, bo, e, hbl⟩ := BB.at hb
    exact ⟨bb, bo, e, fun w' k => defined_any (BlC.stays _ _ _ _ _ k hbl) (hc b)⟩
  have HRS := hid fun (w' : World) (k : Keeps [] w w') => registers_any (FuC.stays _ _ _ _ _ k hfu) (show (fun8 P f).regs.length ≤ 5000 by omega)
  have HRG := hid fun (w' : World) (k : Keeps [] w w') => regs_any (FuC.stays _ _ _ _ _ k hfu) (show (fun8 P f).regs.length ≤ 5000 by omega)
  have HPA := hid fun (w' : World) (k : Keeps [] w w') => params_any (PrC.stays _ _ _ _ _ k h) (FuC.stays _ _ _ _ _ k hfu)
  have HTB : Box (∀ w', Keeps [] w w' → TabAt w') := hid fun w' k => hT.kept k (by simp)
  have HSM := hid (flowF_sm hb)
  have HBO := hid (bareS_out hb)
  have HMY := hid fun (a : Option Addr) (cap B : Nat) (w' : World) (hG : GAt w' B a (flowF (fun8 P f))) => gmay_yes (flowF (fun8 P f)) HSM.out a cap B w' hG
  rw [flowF_len] at HFL HMY
  unfold InPost
  have HRK := hid fun (par r c b : Nat) => inC_fit (show (fun8 P f).regs.length ≤ 5000 by omega) par r c b
  clear h h4 hfu hfu0 BB H h2 hc hT
  have gf : (f : Int) < (P.funcs.length : Int) := by omega
  generalize P.funcs.length = N at *
  have HFN := hid (flowF_len (fun8 P f))
  generalize fun8 P f = F at *
  generalize F.blocks.length = n at *
  have hmk := run_mkp n (by omega)
  have hb0' : ¬ ((n : Int) = 0) := by omega
  have hbe : ((n : Int) == 0) = false := by simpa using hb0'
  go_enter Tryd.func16, Tryd.ntmps16
  go_upto_region 2 with (go_at_call 10; refine (HFL.out _ (Keeps.refl _ _)).mono ?_; rintro e w1 ⟨a, rfl, hg1, k1⟩)
  have ka := Keeps.alloc [] w1 (.cells #[.int .i64 (n : Int), .slice a n n] 34)
  have HBX := hid (TwoAt.new w1 (.int .i64 (n : Int)) (.slice a n n))
  have HGR : Box (GAt (w1.alloc (.cells #[.int .i64 (n : Int), .slice a n n] 34)) w1.heap.size a (flowF F)) := hid (hg1.quiet ka)
  have HK1 := hid (k1.quiet ka)
  have HSZ : Box ((w1.alloc (.cells #[.int .i64 (n : Int), .slice a n n] 34)).heap.size = w1.heap.size + 1) := hid (by simp)
  have HW1 := hid k1.size
  clear ka hg1 k1 HFL
  generalize w1.alloc (.cells #[.int .i64 (n : Int), .slice a n n] 34) = W1 at *
  generalize w1.heap.size = gb at *
  have c0 := HBX.out.c0
  have c1 := HBX.out.c1
  go_upto_region 4 with (go_at_call 31; refine (HMY.out a n gb _ HGR.out).mono ?_; rintro e w2 ⟨rfl, k2⟩; have HBX2 := hid (HBX.out.kept k2 (by simp)); have d0 := HBX2.out.c0; have d1 := HBX2.out.c1; have d4 := C4.out _ (HK1.out.quiet k2))
  clear d1 c0 c1 HMY
  have HK2 := hid (HK1.out.quiet k2)
  have HGR2 := hid (HGR.out.quiet k2)
  have HS2 : Box (gb < w2.heap.size) := hid HBX2.out.lt
  clear HBX HGR HK1 HSZ k2
  have hm1 : Box (∀ wa, Keeps [] w2 wa → IM w ((wa.alloc (.cells (madeCells #[nilP] n) 56)).alloc (.cells (madeCells #[nilP] n) 56)) (wa.heap.size + 2) wa.heap.size (wa.heap.size + 1) n 0 0 (fun _ => 0) (fun _ => 0) (fun _ => none_) (fun _ => none_) gb a (flowF F) gb) := hid fun wa ka => by
    have k3 := Keeps.alloc [] wa (.cells (madeCells #[nilP] n) 56)
    have k4 := Keeps.alloc [] (wa.alloc (.cells (madeCells #[nilP] n) 56)) (.cells (madeCells #[nilP] n) 56)
    have s1 := (HK2.out.quiet ka).size
    have r1 := (mkp_new wa n w.heap.size s1 (by unfold maxLen; omega)).kept k4 (by simp)
    have r2 := mkp_new (wa.alloc (.cells (madeCells #[nilP] n) 56)) n w.heap.size (by simp; omega) (by unfold maxLen; omega)
    rw [World.size_alloc] at r2
    exact ⟨⟨r1, fun i hi => by omega, fun i hi => by omega, fun i j hi => by omega⟩, ⟨r2, fun i hi => by omega, fun i hi => by omega, fun i j hi => by omega⟩, fun i j hi => by omega, ((HK2.out.quiet ka).quiet k3).quiet k4, ((HBX2.out.kept ka (by simp)).kept k3 (by simp)).kept k4 (by simp), ((HGR2.out.quiet ka).quiet k3).quiet k4⟩
  have hm2 : Box (∀ wa, Keeps [] w2 wa → IM w ((wa.alloc (.cells (madeCells #[nilP] n) 56)).alloc (.cells (madeCells #[nilP] n) 56)) (wa.heap.size + 2) (wa.heap.size + 1) wa.heap.size n 0 0 (fun _ => 0) (fun _ => 0) (fun _ => none_) (fun _ => none_) gb a (flowF F) gb) := hid fun wa ka => by
    have := hm1.out wa ka
    exact ⟨this.h2, this.h1, fun i j hi => by omega, this.keep, this.box, this.gr⟩
  have d0a := cell_stays (Keeps.alloc [] w2 (.cells (madeCells #[nilP] n) 56)) d0
  go_upto_region 5 with fail
  go_cut [7, 8] (fun t7 t8 wz => ∃ p1 p2 q, t7 = .slice (some ⟨p1, 0, none⟩) n n ∧ t8 = .slice (some ⟨p2, 0, none⟩) n n ∧ Box (IM w wz q p1 p2 n 0 0 (fun _ => 0) (fun _ => 0) (fun _ => none_) (fun _ => none_) gb a (flowF F) gb) ∧ Box (IL w q p1 p2 gb gb) ∧ Box (q ≤ wz.heap.size))
  case first =>
    go_region
    all_goals
      go_wp2_with fail
      go_meet
      have s1 := HK2.out.size
      have s2 := HS2.out
      first
        | exact ⟨_, _, w2.heap.size + 2, rfl, rfl, hid ((hm1.out w2 (Keeps.refl _ _)).quiet (Keeps.drew [] _)), hid ⟨by omega, by omega, by omega, by omega, by omega, by omega, by omega, by omega, by omega, by omega, by omega⟩, hid (by simp)⟩
        | exact ⟨_, _, w2.heap.size + 2, rfl, rfl, hid ((hm2.out w2 (Keeps.refl _ _)).quiet (Keeps.drew [] _)), hid ⟨by omega, by omega, by omega, by omega, by omega, by omega, by omega, by omega, by omega, by omega, by omega⟩, hid (by simp)⟩
  case rest =>
    clear hm1 hm2 d0a d0 d4 HK2 HGR2 HS2 HBX2
    obtain ⟨p1, p2, q, rfl, rfl, HM, HL, HQ⟩ := hcut
    have c0 := HM.out.box.c0
    go_wp2_with fail
    clear c0
    go_loopw [38] (fun i wr => ∃ (k : Nat) (d1 d2 : Nat → Nat), k ≤ n ∧ i = .int .i64 (k : Int) ∧ Box (IM w wr q p1 p2 n k k d1 d2 (fun _ => allS F.regs.length) (fun b => dfS (blk8 F b).code none_) gb a (flowF F) gb) ∧ Box (q ≤ wr.heap.size)) (fun i _ => n - (intOf i).toNat)
    case atStart => exact ⟨0, _, _, by omega, rfl, hid ⟨HM.out.h1.congr (fun i hi => by omega), HM.out.h2.congr (fun i hi => by omega), HM.out.cross, HM.out.keep, HM.out.box, HM.out.gr⟩, HQ⟩
    case round =>
      clear HM HQ
      obtain ⟨k, d1, d2, hk, rfl, HM, HQ⟩ := hrel
      by_cases hlt : k < n
      · have hlt' : (k : Int) < (n : Int) := by omega
        obtain ⟨bb, bo, rfl, hdf⟩ := BA.out k hlt
        have HDF := hid hdf
        clear hdf
        have cz := HM.out.h1.row.cell hlt
        have fz := HM.out.h1.row.frozen k
        go_upto_region 9 with fail
        go_upto_region 10 with (go_at_call 35; refine (HRS.out _ HM.out.keep).mono ?_; rintro e w5 ⟨b5, rfl, h5, k5, n5⟩; have cz' := cell_stays k5 cz; have fz' := (HM.out.h1.row.kept k5 (by simp)).frozen k)
        have HM1 := hid (HM.out.put1 HL.out k5 h5 HQ.out n5)
        have HQ1 : Box (q ≤ (w5.setCell ⟨p1, k, none⟩ (.pointer (some ⟨b5, 0, none⟩))).heap.size) := hid (by have := HQ.out; have := k5.size; simp [World.setCell]; omega)
        clear HM HQ cz fz cz' fz' k5 n5 h5
        generalize w5.setCell ⟨p1, k, none⟩ (.pointer (some ⟨b5, 0, none⟩)) = w6 at *
        have c2 := C2.out _ HM1.out.keep
        have cz := HM1.out.h2.row.cell hlt
        have fz := HM1.out.h2.row.frozen k
        go_wp2_with (go_at_call 36; refine (HDF.out _ HM1.out.keep).mono ?_; rintro e w7 ⟨b7, rfl, h7, k7, n7⟩; have cz' := cell_stays k7 cz; have fz' := (HM1.out.h2.row.kept k7 (by simp)).frozen k)
        have HM2 := hid (HM1.out.put2 HL.out k7 h7 HQ1.out n7)
        have HQ2 : Box (q ≤ (w7.setCell ⟨p2, k, none⟩ (.pointer (some ⟨b7, 0, none⟩))).heap.size) := hid (by have := HQ1.out; have := k7.size; simp [World.setCell]; omega)
        go_roundw
        case rel => exact ⟨k + 1, _, _, by omega, by go_num, hid ⟨HM2.out.h1.congr (fun i hi => by split <;> rfl), HM2.out.h2.congr (fun i hi => by
          split
          · next e => rw [e]
          · rfl), HM2.out.cross, HM2.out.keep, HM2.out.box, HM2.out.gr⟩, HQ2⟩
        case measure => simp [intOf]; omega
      · obtain rfl : k = n := by omega
        clear HRS BA C2 C4
        go_upto_region 13 with (go_at_call 37; refine (HPA.out _ HM.out.keep).mono ?_; rintro e w5 ⟨rfl, k5⟩)
        have HM0 : Box (IM w w5 q p1 p2 k k k d1 d2 (inK F (parN P F) (parN P F)) (fun b => dfS (blk8 F b).code none_) gb a (flowF F) gb) := hid (by
          have h5 := HM.out.quiet k5
          exact ⟨h5.h1.congr (fun i _ => (inK_start F _ i).symm), h5.h2, h5.cross, h5.keep, h5.box, h5.gr⟩)
        have HQ0 : Box (q ≤ w5.heap.size) := hid (Nat.le_trans HQ.out k5.size)
        have HEND := hid fun (r b : Nat) (h : F.regs.length ≤ r) => inK_end (P := P) h b
        clear HM HQ k5 HPA
        generalize parN P F = par at *
        have HST : Box (∀ (w' : World) (r : Nat) (D1 : Nat → Nat → Bool), IM w w' q p1 p2 k k k d1 d2 D1 (fun b => dfS (blk8 F b).code none_) gb a (flowF F) gb → Calls Tryd.prog 39 #[.agg #[.int .i64 (k : Int), .slice a k k], .slice (some ⟨p2, 0, none⟩) k k, .int .i64 (r : Int)] w' fun e w'' => ∃ a', e = .returned (.agg #[.int .i64 (k : Int), .slice a' k k]) ∧ GAt w'' w''.heap.size a' (stopG (flowF F) (fun b => dfS (blk8 F b).code none_) r) ∧ Keeps [] w' w'') := hid fun w' r D1 hM => by
          have := stopped_any (flowF F) HSM.out a k gb w' hM.gr (by have := hM.box.lt; omega) (base := w.heap.size) (p := p2) (d := d2) (D := fun b => dfS (blk8 F b).code none_) (by rw [HFN.out]; exact hM.h2.ps) (fun i => dfS_fit _ _ fit_none) r
          rw [stopG_len, HFN.out] at this
          exact this
        have HRE : Box (∀ (w' : World) (r : Nat) (a' : Option Addr), GAt w' w'.heap.size a' (stopG (flowF F) (fun b => dfS (blk8 F b).code none_) r) → Calls Tryd.prog 32 #[.agg #[.int .i64 (k : Int), .slice a' k k]] w' fun e w'' => ∃ b, e = .returned (.pointer (some ⟨b, 0, none⟩)) ∧ SetAt w'' b (bareS F r) ∧ Keeps [] w' w'' ∧ w'.heap.size ≤ b) := hid fun w' r a' hG => by
          have := reached_any (stopG (flowF F) (fun b => dfS (blk8 F b).code none_) r) (stopG_sm HSM.out _ r) a' k w'.heap.size w' hG (Nat.le_refl _)
          rw [stopG_len, HFN.out] at this
          exact this
        have HBF : Box (∀ r, Fit (bareS F r)) := hid fun r m hm => HBO.out r m (by omega)
        obtain ⟨R, hR⟩ : ∃ R, F.regs.length = R := ⟨_, rfl⟩
        rw [hR] at HRG hr HEND
        clear hR HSM HFN
        go_loopw [10] (fun i wr => ∃ r : Nat, par ≤ r ∧ (r ≤ R ∨ r = par) ∧ i = .int .i64 (r : Int) ∧ Box (IM w wr q p1 p2 k k k d1 d2 (inK F par r) (fun b => dfS (blk8 F b).code none_) gb a (flowF F) gb) ∧ Box (q ≤ wr.heap.size)) (fun i _ => R - (intOf i).toNat)
        case atStart => exact ⟨par, Nat.le_refl _, .inr rfl, rfl, HM0, HQ0⟩
        case round =>
          clear HM0 HQ0
          obtain ⟨r, hpr, hrR, rfl, HM, HQ⟩ := hrel
          by_cases hlt : r < R
          · have hlt' : (r : Int) < (R : Int) := by omega
            have c0 := HM.out.box.c0
            have c1 := HM.out.box.c1
            go_upto_region 16 with (first
              | (go_at_call 38; refine (HRG.out _ HM.out.keep).mono ?_; rintro e w6 ⟨rfl, rfl⟩)
              | (go_at_call 39; refine (HST.out _ r _ HM.out).mono ?_; rintro e w6 ⟨a6, rfl, g6, k6⟩)
              | (go_at_call 32; refine (HRE.out _ r a6 g6).mono ?_; rintro e w7 ⟨b7, rfl, h7, k7, n7⟩))
            have HNE : Box (∀ i, i < k → d1 i ≠ b7) := hid fun i hi e => by
              have := (HM.out.h1.set i hi).lt'
              have := k6.size
              omega
            have HM7 := hid ((HM.out.quiet k6).quiet k7)
            have HQ7 : Box (q ≤ w7.heap.size) := hid (Nat.le_trans HQ.out (Nat.le_trans k6.size k7.size))
            have H7 := hid h7
            clear HM HQ c0 c1 g6 k6 h7 k7 n7 HST HRE HRG
            have HFI : Box (∀ (w' : World) (c : Nat), Keeps [] w w' → SetAt w' b7 (bareS F r) → Calls Tryd.prog 40 #[.pointer (some ⟨b7, 0, none⟩), .int .i64 (c : Int)] w' fun e w'' => ∃ v : Int, e = .returned (.int .i64 v) ∧ ((v = -1 ∧ ∀ m, c ≤ m → bareS F r m = false) ∨ ∃ j : Nat, v = (j : Int) ∧ c ≤ j ∧ j < k ∧ bareS F r j = true ∧ ∀ m, c ≤ m → m < j → bareS F r m = false) ∧ ∃ m, w'' = w'.drewN m) := hid fun w' c kw hset => by
              refine (first_any b7 (bareS F r) (c : Int) w' hset (HBF.out r) (HTB.out _ kw)).mono ?_
              rintro e w'' ⟨rfl, m, rfl⟩
              refine ⟨_, rfl, ?_, m, rfl⟩
              rcases firstI_spec (bareS F r) (c : Int) with ⟨h1, h2⟩ | ⟨j, h1, h2, h3, h4, h5⟩
              · refine .inl ⟨h1, fun m hm => ?_⟩
                by_cases hk5 : m < 5000
                · exact h2 m hk5 (by omega)
                · exact HBF.out r m (by omega)
              · refine .inr ⟨j, h1, by omega, ?_, h4, fun m hm hj => h5 m hj (by omega)⟩
                rcases Nat.lt_or_ge j k with h6 | h6
                · exact h6
                · rw [HBO.out r j h6] at h4
                  cases h4
            go_wp2_with (go_at_call 40; refine (HFI.out _ 0 HM7.out.keep H7.out).mono ?_; rintro e w8 ⟨v8, rfl, hv8, m8, rfl⟩)
            have kd := Keeps.drewN [] w7 m8
            have HM8 : Box (IM w (w7.drewN m8) q p1 p2 k k k d1 d2 (inC F par r 0) (fun b => dfS (blk8 F b).code none_) gb a (flowF F) gb) := hid (by
              have h5 := HM7.out.quiet kd
              exact ⟨h5.h1.congr (fun i _ => (inC_zero F _ _ i).symm), h5.h2, h5.cross, h5.keep, h5.box, h5.gr⟩)
            have H8 := hid (H7.out.kept kd (by simp))
            have HQ8 : Box (q ≤ (w7.drewN m8).heap.size) := hid HQ7.out
            have HV8 := hid hv8
            have hkk : (k : Int) ≤ 600 := by omega
            clear HM7 H7 HQ7 kd hv8
            go_loopw [12] (fun i wr => ∃ (c : Nat) (v : Int), i = .int .i64 v ∧ c ≤ k ∧ Box ((v = -1 ∧ ∀ m, c ≤ m → bareS F r m = false) ∨ ∃ j : Nat, v = (j : Int) ∧ c ≤ j ∧ j < k ∧ bareS F r j = true ∧ ∀ m, c ≤ m → m < j → bareS F r m = false) ∧ Box (IM w wr q p1 p2 k k k d1 d2 (inC F par r c) (fun b => dfS (blk8 F b).code none_) gb a (flowF F) gb) ∧ Box (SetAt wr b7 (bareS F r)) ∧ Box (q ≤ wr.heap.size)) (fun i _ => if intOf i < 0 then 0 else k + 1 - (intOf i).toNat)
            case atStart => exact ⟨0, v8, rfl, by omega, HV8, HM8, H8, HQ8⟩
            case round =>
              clear HM8 H8 HQ8 HV8
              obtain ⟨c, v, rfl, hc, HV, HM, H7, HQ⟩ := hrel
              rcases HV.out with ⟨rfl, hno⟩ | ⟨j, rfl, hcj, hjk, hbj, hno⟩
              · have HNO := hid hno
                clear HV hno
                go_wp2
                go_roundw
                case rel => exact ⟨r + 1, by omega, .inl (by omega), by go_num, hid ⟨HM.out.h1.congr (fun i hi => by
                  rw [inC_skip (c' := k) hc (fun j h1 _ => HNO.out j h1)]
                  exact inC_done hpr hi), HM.out.h2, HM.out.cross, HM.out.keep, HM.out.box, HM.out.gr⟩, HQ⟩
                case measure => simp [intOf]; omega
              · have HJ : Box (IM w wr q p1 p2 k k k d1 d2 (inC F par r j) (fun b => dfS (blk8 F b).code none_) gb a (flowF F) gb) := hid ⟨HM.out.h1.congr (fun i hi => inC_skip hcj hno), HM.out.h2, HM.out.cross, HM.out.keep, HM.out.box, HM.out.gr⟩
                have HB := hid hbj
                have hj0 : (0 : Int) ≤ (j : Int) := by omega
                have hjk' : (j : Int) < (k : Int) := by omega
                have hj6 : (j : Int) < 600 := by omega
                have cz := HJ.out.h1.row.cell hjk
                unfold pv at cz
                rw [if_pos hjk] at cz
                have HRM := hid (rem_any (d1 j) (inC F par r j j) (r : Int) wr (HJ.out.h1.set j hjk) (HRK.out par r j j))
                clear HM HV hno hbj
                go_wp2_with (first
                  | (go_at_call 41; refine HRM.out.mono ?_; rintro e w9 ⟨rfl, h9, k9⟩; have HM9 := hid (HJ.out.turn HL.out hjk k9 h9); have H9 := hid (H7.out.kept k9 (by have := HNE.out j hjk; simp; omega)); have HQ9 : Box (q ≤ w9.heap.size) := hid (Nat.le_trans HQ.out k9.size))
                  | (go_at_call 40; refine (HFI.out _ (j + 1) HM9.out.keep H9.out).mono ?_; rintro e w10 ⟨v10, rfl, hv10, m10, rfl⟩))
                have kd := Keeps.drewN [] w9 m10
                go_roundw
                case rel => exact ⟨j + 1, v10, rfl, by omega, hid hv10, hid (by
                  have h5 := HM9.out.quiet kd
                  exact ⟨h5.h1.congr (fun i _ => inC_at HB.out i), h5.h2, h5.cross, h5.keep, h5.box, h5.gr⟩), hid (H9.out.kept kd (by simp)), hid HQ9.out⟩
                case measure =>
                  refine meas3 hjk ?_
                  rcases hv10 with ⟨h0, _⟩ | ⟨i, h0, h1, h2, _⟩
                  · exact .inl h0
                  · exact .inr ⟨i, h0, by omega, h2⟩
          · go_wp2_with (go_at_call 38; refine (HRG.out _ HM.out.keep).mono ?_; rintro e w6 ⟨rfl, rfl⟩)
            go_ret
            exact ⟨p1, d1, q, rfl, HM.out.h1.congr (fun i _ => HEND.out r i (by omega)), HL.out.q1, HL.out.l1, HM.out.keep⟩
end Go.Proofs.YtmebkeidpklcbaaDoor
