/-
  IrInstr: what any instruction defines and reads, and its line.
-/
import Derived.Test.YtknkjblifgppjaaDoorIBegun
import Derived.Test.YtknkjblifgppjaaDoorIUse
import Derived.Test.YtknkjblifgppjaaDoorIRln
namespace Go.Proofs.YtknkjblifgppjaaDoor
open Go.RowKit Go.Shelf

set_option maxRecDepth 20000 in
set_option maxHeartbeats 8000000 in
theorem irInstr_walk (x : In8) (a : Option Addr) (cp : Nat) (w : World) (hg : Glob w) (hx : InOk x) (hz : IntsAt w a x.args) (hcp : x.args.length ≤ cp ∧ (a = none → cp = 0)) :
    Calls Tryd.prog 4 #[insV x (.slice a x.args.length cp)] w fun e w' => e = .returned (.bool true) ∧ Keeps [] w w' := by
  obtain ⟨W, hW⟩ : ∃ W, W = w.alloc (.cells #[.int .i64 x.op, .int .i64 x.dst, .int .i64 x.a, .int .i64 x.b, .int .i64 x.n, .slice a x.args.length cp] 34) := ⟨_, rfl⟩
  have k0 : Keeps [] w W := by rw [hW]; exact Keeps.alloc _ _ _
  have i0 : W.heap[w.heap.size]? = some (.cells #[.int .i64 x.op, .int .i64 x.dst, .int .i64 x.a, .int .i64 x.b, .int .i64 x.n, .slice a x.args.length cp] 34 (0, 0)) := by rw [hW]; exact heap_new _ _
  have HW := hid hW
  have HG := hid hg
  have HB := hid (begun_any W (hg.quiet k0))
  have hcn := hcp.2
  have hcl := hcp.1
  have HCN := hid hcn
  have HZ := hid (hz.kept k0 (fun _ _ _ => by simp))
  have HLT : Box (∀ b off, a = some ⟨b, off, none⟩ → 0 < x.args.length → b < w.heap.size) := hid fun b off e hl => by
    rcases hz with h | ⟨b', off', e', h⟩
    · rw [h] at hl; simp at hl
    · rw [e'] at e
      cases e
      exact block_lt_of_cell (h 0 hl)
  have HO := hid hx
  have K0 := hid k0
  clear hg hx hz hcp hW k0 hcn
  unfold insV
  go_enter Tryd.func4, Tryd.ntmps4
  go_wp2_with fail
  rw [← HW.out]
  clear HW
  obtain ⟨q, HQ0⟩ : ∃ q, Box (w.heap.size = q) := ⟨_, hid rfl⟩
  rw [HQ0.out] at i0 ⊢
  refine HB.out.mono ?_
  rintro e w1 ⟨rfl, k1⟩
  have h1 := keep_heap i0 k1
  have HZ1 := hid (HZ.out.kept k1 (fun _ _ _ => by simp))
  have K1 := hid (K0.out.quiet k1)
  clear i0 k1 HB K0 HZ
  have d5 : w1.cell? ⟨q, 5, none⟩ = some (.slice a x.args.length cp) := hcell h1 5
  by_cases hlen : x.args.length ≤ 20
  · have hl' : ¬ (20 : Int) < (x.args.length : Int) := by omega
    have hl2 : (x.args.length : Int) ≤ 20 := by omega
    obtain ⟨y, HYX⟩ : ∃ y, Box (y = x) := ⟨_, hid rfl⟩
    have IY : Box (InW w1 q y (.slice a y.args.length cp)) := hid (by rw [HYX.out]; exact ⟨hcell h1 0, hcell h1 1, hcell h1 2, hcell h1 3, hcell h1 4, hcell h1 5⟩)
    have HZY : Box (IntsAt w1 a y.args) := hid (by rw [HYX.out]; exact HZ1.out)
    have HLY : Box (y.args.length ≤ 20) := hid (by rw [HYX.out]; exact hlen)
    have HOY : Box (InOk y) := hid (by rw [HYX.out]; exact HO.out)
    have K2 := K1
    clear h1 HYX HZ1 HO K1 hlen
    go_upto_region 6 with fail
    generalize w1 = w2 at *
    clear d5 hl' hl2

    have i2 := IY.out
    have HU := hid fun (w' : World) (k : Keeps [] w2 w') => uuse_any y a cp w' (HZY.out.kept k (fun _ _ _ => by simp)) (by have := HLY.out; omega) HCN.out
    have HV := hid fun (w' : World) (k : Keeps [] w2 w') => vuse_any y a cp w' (HZY.out.kept k (fun _ _ _ => by simp)) (by have := HLY.out; omega) HCN.out
    have HD := hid fun (w' : World) (k : Keeps [] w2 w') => arm8 i2 k (def_any y (.slice a y.args.length cp) w')
    have HRD := hid fun (w' : World) (k : Keeps [] w2 w') => arm8 i2 k (rdef_any y (.slice a y.args.length cp) w')
    have HLN := hid fun (w' : World) (k : Keeps [] w2 w') => arm8 i2 k (line_any y a cp HOY.out w' (HG.out.quiet (K2.out.quiet k)) ⟨HZY.out.kept k (fun _ _ _ => by simp), by have := HLY.out; omega⟩)
    have HRL := hid fun (w' : World) (k : Keeps [] w2 w') => arm8 i2 k (rline_any y a cp HOY.out w' ⟨HZY.out.kept k (fun _ _ _ => by simp), by have := HLY.out; omega⟩)
    have hul : (usesL y).length ≤ 22 := by
      have := HLY.out
      unfold usesL
      repeat' split
      all_goals (try simp)
      all_goals omega
    have HQ := hid fun (w' : World) (a1 a2 : Option Addr) (c1 c2 : Nat) (h1 : IntsAt w' a1 (usesL y)) (h2 : IntsAt w' a2 (usesL y)) => eq_any a1 a2 c1 c2 (usesL y) (usesL y) w' h1 h2 (by omega)
    have hdec : decide (usesL y = usesL y) = true := by simp
    rw [hdec] at HQ
    have I2 : Box (∀ w', Keeps [] w2 w' → w'.cell? ⟨q, 0, none⟩ = some (.int .i64 y.op) ∧ w'.cell? ⟨q, 1, none⟩ = some (.int .i64 y.dst) ∧ w'.cell? ⟨q, 2, none⟩ = some (.int .i64 y.a) ∧ w'.cell? ⟨q, 3, none⟩ = some (.int .i64 y.b) ∧ w'.cell? ⟨q, 4, none⟩ = some (.int .i64 y.n) ∧ w'.cell? ⟨q, 5, none⟩ = some (.slice a y.args.length cp)) := hid fun w' k => ⟨(i2.stays k).c0, (i2.stays k).c1, (i2.stays k).c2, (i2.stays k).c3, (i2.stays k).c4, (i2.stays k).c5⟩
    unfold defV at HD HRD
    generalize hd1 : (if isDef y = true then y.dst else 0) = dv at *
    generalize isDef y = db at *
    generalize lineB y = LB at *
    generalize hUL : usesL y = ul at *
    clear hd1 hUL hdec
    obtain ⟨c0, c1, c2, c3, c4, c5⟩ := i2
    unfold insV at HU HV HD HRD HLN HRL
    have e1 : (dv == dv) = true := beq_self_eq_true _
    have e2 : (db == db) = true := beq_self_eq_true _
    generalize y.op = y0 at *
    generalize y.dst = y1 at *
    generalize y.a = y2 at *
    generalize y.b = y3 at *
    generalize y.n = y4 at *
    generalize y.args.length = y5 at *
    go_wp2_with fail
    refine (HD.out _ (Keeps.refl _ _)).mono ?_
    rintro e w3 ⟨rfl, K3, d0, d1, d2, d3, d4, d5⟩
    clear c0 c1 c2 c3 c4 c5
    go_wp2_with fail
    refine (HRD.out _ K3).mono ?_
    rintro e w4 ⟨rfl, K4, c0, c1, c2, c3, c4, c5⟩
    clear d0 d1 d2 d3 d4 d5 K3
    go_wp2_with fail
    go_region_held3 (fun w' => w'.cell? ⟨q, 0, none⟩ = some (.int .i64 y0) ∧ w'.cell? ⟨q, 1, none⟩ = some (.int .i64 y1) ∧ w'.cell? ⟨q, 2, none⟩ = some (.int .i64 y2) ∧ w'.cell? ⟨q, 3, none⟩ = some (.int .i64 y3) ∧ w'.cell? ⟨q, 4, none⟩ = some (.int .i64 y4) ∧ w'.cell? ⟨q, 5, none⟩ = some (.slice a y5 cp)) (go_keep) (first
      | (go_at_call 19; refine (HU.out _ (K4.quiet (Keeps.drew [] _))).mono ?_; rintro e w5 ⟨a1, p1, rfl, h1, k5⟩; have K5 := (K4.quiet (Keeps.drew [] _)).quiet k5; have H1 := hid h1; obtain ⟨f50, f51, f52, f53, f54, f55⟩ := I2.out _ K5; clear h1 k5)
      | (go_at_call 20; refine (HV.out _ K5).mono ?_; rintro e w6 ⟨a2, p2, rfl, h2, k6⟩; have K6 := K5.quiet k6; have H2 := hid h2; have H12 := hid (H1.out.kept k6 (fun _ _ _ => by simp)); obtain ⟨f60, f61, f62, f63, f64, f65⟩ := I2.out _ K6; clear h2 k6)
      | (go_at_call 18; refine (HQ.out _ _ _ _ _ H12.out H2.out).mono ?_; rintro e w7 ⟨rfl, m7, hw7⟩; have K7 : Keeps [] w2 w7 := (by rw [hw7]; exact K6.quiet (Keeps.drewN _ _ _)); obtain ⟨f70, f71, f72, f73, f74, f75⟩ := I2.out _ K7; clear hw7)
      | (go_at_call 21; refine (HLN.out _ K7).mono ?_; rintro e w8 ⟨rfl, K8, f80, f81, f82, f83, f84, f85⟩)
      | (go_at_call 22; refine (HRL.out _ K8).mono ?_; rintro e w9 ⟨rfl, K9, f90, f91, f92, f93, f94, f95⟩))
    go_wp2_with fail
    go_ret
    exact ⟨rfl, K2.out.quiet K9⟩
  · have hl' : (20 : Int) < (x.args.length : Int) := by omega
    have hcp' : (20 : Int) ≤ (cp : Int) := by omega
    have hcn' : 20 ≤ cp := by omega
    obtain ⟨b, off, rfl, hc⟩ : ∃ b off, a = some ⟨b, off, none⟩ ∧ ∀ i, i < x.args.length → w1.cell? ⟨b, off + i, none⟩ = some (.int .i64 (x.args.getD i 0)) := by
      rcases HZ1.out with e | h
      · exfalso; rw [e] at hlen; simp at hlen
      · exact h
    have f5 := hfrozen h1 5
    have hq2 : (w1.setCell ⟨q, 5, none⟩ (.slice (some ⟨b, off, none⟩) 20 cp)).heap[q]? = some (.cells #[.int .i64 x.op, .int .i64 x.dst, .int .i64 x.a, .int .i64 x.b, .int .i64 x.n, .slice (some ⟨b, off, none⟩) 20 cp] 34 (0, 0)) := heap_setCell_same w1 q 5 _ _ _ h1
    have kq : Keeps [q] w1 (w1.setCell ⟨q, 5, none⟩ (.slice (some ⟨b, off, none⟩) 20 cp)) := Keeps.setCell _ _ _ _ (by simp)
    obtain ⟨y, HYX⟩ : ∃ y : In8, Box (y = ⟨x.op, x.dst, x.a, x.b, x.n, x.args.take 20⟩) := ⟨_, hid rfl⟩
    have hyl : y.args.length = 20 := by rw [HYX.out]; show (x.args.take 20).length = 20; rw [List.length_take]; omega
    have IY : Box (InW (w1.setCell ⟨q, 5, none⟩ (.slice (some ⟨b, off, none⟩) 20 cp)) q y (.slice (some ⟨b, off, none⟩) y.args.length cp)) := hid (by rw [hyl, HYX.out]; exact ⟨hcell hq2 0, hcell hq2 1, hcell hq2 2, hcell hq2 3, hcell hq2 4, hcell hq2 5⟩)
    have hbq : b ≠ q := fun e => by
      have h8 := HLT.out b off rfl (by omega)
      have := HQ0.out
      omega
    have HZY : Box (IntsAt (w1.setCell ⟨q, 5, none⟩ (.slice (some ⟨b, off, none⟩) 20 cp)) (some ⟨b, off, none⟩) y.args) := hid (.inr ⟨b, off, rfl, fun i hi => by
      rw [hyl] at hi
      rw [kq.cell (p := ⟨b, off + i, none⟩) (block_lt_of_cell (hc i (by omega))) (by simp; exact hbq), hc i (by omega), HYX.out]
      show _ = some (Value.int .i64 ((x.args.take 20).getD i 0))
      rw [List.getD_eq_getElem?_getD, List.getD_eq_getElem?_getD, List.getElem?_take, if_pos hi]⟩)
    have HLY : Box (y.args.length ≤ 20) := hid (by omega)
    have HOY : Box (InOk y) := hid (by rw [HYX.out]; exact ⟨HO.out.op, HO.out.dst, HO.out.a, HO.out.b, HO.out.n, fun z hz => HO.out.args z (List.mem_of_mem_take hz)⟩)
    have K2 : Box (Keeps [] w (w1.setCell ⟨q, 5, none⟩ (.slice (some ⟨b, off, none⟩) 20 cp))) := hid (K1.out.fresh kq (fun x hx => by have := HQ0.out; simp at hx; omega))
    clear h1 HYX HZ1 HO K1 hlen kq hq2 hyl hc
    go_upto_region 6 with fail
    generalize (some (⟨b, off, none⟩ : Addr)) = a at *
    generalize w1.setCell ⟨q, 5, none⟩ (.slice a 20 cp) = w2 at *
    clear d5 hl' f5

    have i2 := IY.out
    have HU := hid fun (w' : World) (k : Keeps [] w2 w') => uuse_any y a cp w' (HZY.out.kept k (fun _ _ _ => by simp)) (by have := HLY.out; omega) HCN.out
    have HV := hid fun (w' : World) (k : Keeps [] w2 w') => vuse_any y a cp w' (HZY.out.kept k (fun _ _ _ => by simp)) (by have := HLY.out; omega) HCN.out
    have HD := hid fun (w' : World) (k : Keeps [] w2 w') => arm8 i2 k (def_any y (.slice a y.args.length cp) w')
    have HRD := hid fun (w' : World) (k : Keeps [] w2 w') => arm8 i2 k (rdef_any y (.slice a y.args.length cp) w')
    have HLN := hid fun (w' : World) (k : Keeps [] w2 w') => arm8 i2 k (line_any y a cp HOY.out w' (HG.out.quiet (K2.out.quiet k)) ⟨HZY.out.kept k (fun _ _ _ => by simp), by have := HLY.out; omega⟩)
    have HRL := hid fun (w' : World) (k : Keeps [] w2 w') => arm8 i2 k (rline_any y a cp HOY.out w' ⟨HZY.out.kept k (fun _ _ _ => by simp), by have := HLY.out; omega⟩)
    have hul : (usesL y).length ≤ 22 := by
      have := HLY.out
      unfold usesL
      repeat' split
      all_goals (try simp)
      all_goals omega
    have HQ := hid fun (w' : World) (a1 a2 : Option Addr) (c1 c2 : Nat) (h1 : IntsAt w' a1 (usesL y)) (h2 : IntsAt w' a2 (usesL y)) => eq_any a1 a2 c1 c2 (usesL y) (usesL y) w' h1 h2 (by omega)
    have hdec : decide (usesL y = usesL y) = true := by simp
    rw [hdec] at HQ
    have I2 : Box (∀ w', Keeps [] w2 w' → w'.cell? ⟨q, 0, none⟩ = some (.int .i64 y.op) ∧ w'.cell? ⟨q, 1, none⟩ = some (.int .i64 y.dst) ∧ w'.cell? ⟨q, 2, none⟩ = some (.int .i64 y.a) ∧ w'.cell? ⟨q, 3, none⟩ = some (.int .i64 y.b) ∧ w'.cell? ⟨q, 4, none⟩ = some (.int .i64 y.n) ∧ w'.cell? ⟨q, 5, none⟩ = some (.slice a y.args.length cp)) := hid fun w' k => ⟨(i2.stays k).c0, (i2.stays k).c1, (i2.stays k).c2, (i2.stays k).c3, (i2.stays k).c4, (i2.stays k).c5⟩
    unfold defV at HD HRD
    generalize hd1 : (if isDef y = true then y.dst else 0) = dv at *
    generalize isDef y = db at *
    generalize lineB y = LB at *
    generalize hUL : usesL y = ul at *
    clear hd1 hUL hdec
    obtain ⟨c0, c1, c2, c3, c4, c5⟩ := i2
    unfold insV at HU HV HD HRD HLN HRL
    have e1 : (dv == dv) = true := beq_self_eq_true _
    have e2 : (db == db) = true := beq_self_eq_true _
    generalize y.op = y0 at *
    generalize y.dst = y1 at *
    generalize y.a = y2 at *
    generalize y.b = y3 at *
    generalize y.n = y4 at *
    generalize y.args.length = y5 at *
    go_wp2_with fail
    refine (HD.out _ (Keeps.refl _ _)).mono ?_
    rintro e w3 ⟨rfl, K3, d0, d1, d2, d3, d4, d5⟩
    clear c0 c1 c2 c3 c4 c5
    go_wp2_with fail
    refine (HRD.out _ K3).mono ?_
    rintro e w4 ⟨rfl, K4, c0, c1, c2, c3, c4, c5⟩
    clear d0 d1 d2 d3 d4 d5 K3
    go_wp2_with fail
    go_region_held3 (fun w' => w'.cell? ⟨q, 0, none⟩ = some (.int .i64 y0) ∧ w'.cell? ⟨q, 1, none⟩ = some (.int .i64 y1) ∧ w'.cell? ⟨q, 2, none⟩ = some (.int .i64 y2) ∧ w'.cell? ⟨q, 3, none⟩ = some (.int .i64 y3) ∧ w'.cell? ⟨q, 4, none⟩ = some (.int .i64 y4) ∧ w'.cell? ⟨q, 5, none⟩ = some (.slice a y5 cp)) (go_keep) (first
      | (go_at_call 19; refine (HU.out _ (K4.quiet (Keeps.drew [] _))).mono ?_; rintro e w5 ⟨a1, p1, rfl, h1, k5⟩; have K5 := (K4.quiet (Keeps.drew [] _)).quiet k5; have H1 := hid h1; obtain ⟨f50, f51, f52, f53, f54, f55⟩ := I2.out _ K5; clear h1 k5)
      | (go_at_call 20; refine (HV.out _ K5).mono ?_; rintro e w6 ⟨a2, p2, rfl, h2, k6⟩; have K6 := K5.quiet k6; have H2 := hid h2; have H12 := hid (H1.out.kept k6 (fun _ _ _ => by simp)); obtain ⟨f60, f61, f62, f63, f64, f65⟩ := I2.out _ K6; clear h2 k6)
      | (go_at_call 18; refine (HQ.out _ _ _ _ _ H12.out H2.out).mono ?_; rintro e w7 ⟨rfl, m7, hw7⟩; have K7 : Keeps [] w2 w7 := (by rw [hw7]; exact K6.quiet (Keeps.drewN _ _ _)); obtain ⟨f70, f71, f72, f73, f74, f75⟩ := I2.out _ K7; clear hw7)
      | (go_at_call 21; refine (HLN.out _ K7).mono ?_; rintro e w8 ⟨rfl, K8, f80, f81, f82, f83, f84, f85⟩)
      | (go_at_call 22; refine (HRL.out _ K8).mono ?_; rintro e w9 ⟨rfl, K9, f90, f91, f92, f93, f94, f95⟩))
    go_wp2_with fail
    go_ret
    exact ⟨rfl, K2.out.quiet K9⟩
end Go.Proofs.YtknkjblifgppjaaDoor
