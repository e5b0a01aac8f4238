/-
  types.endFits.
  types.pointFits, types.Check: given what Fits tells.
  types.Check: given what Fits tells.
-/
import Derived.Test.YtlopddflbhnjdaaDoorTPar
import Derived.Test.YtlopddflbhnjdaaDoorTNames
import Derived.Test.YtlopddflbhnjdaaDoorTPts

namespace Go.Proofs.YtlopddflbhnjdaaDoor
open Go.RowKit

/-- An end's types. -/
def endT (P : Pr8) (f : Fu8) (y : Bl8) : Bool :=
  if y.fin = 2 then (regT f y.reg).1 == 0
  else if y.fin = 3 then (match sigO P f.sig with
    | none => false
    | some s => inB y.reg f.regs.length && tyE (f.regs.getD y.reg.toNat (0, 0)) s.2) else true
set_option maxRecDepth 20000 in
set_option maxHeartbeats 1000000 in
theorem endt_any {w : World} {pb po fb fo bb bo : Nat} {P : Pr8} {f : Fu8} {y : Bl8} (h : PrC w pb po P) (hf : FuC w fb fo f) (hb : BlC w bb bo y) : Calls Tryd.prog 71 #[.pointer (some ⟨pb, po, none⟩), .pointer (some ⟨fb, fo, none⟩), .pointer (some ⟨bb, bo, none⟩)] w fun e w' => e = .returned (.bool (endT P f y)) ∧ Keeps [] w w' := by
  have b1 := hb.c1.1
  have b2 := hb.c2.1
  by_cases f2 : y.fin = 2
  · have HE : Box (endT P f y = ((regT f y.reg).1 == 0)) := hid (by unfold endT; rw [if_pos f2])
    have HRT := hid (regtype_any hf y.reg)
    rw [f2] at b1
    clear h hf hb f2
    generalize regT f y.reg = T at *
    unfold tyV at HRT
    have hfl : ∀ (w : World), (Instr.field 39 (.agg #[.int .i64 T.1, .int .i64 T.2]) 0).run Tryd.prog w = .ok (.int .i64 T.1) w := fun w => by kernel_rfl
    go_enter Tryd.func71, Tryd.ntmps71
    go_wp2_with fail
    refine HRT.out.mono ?_
    rintro e w1 ⟨rfl, k1⟩
    have K1 := hid k1
    clear k1
    go_wp2_with fail
    go_ret
    exact ⟨by rw [HE.out]; rfl, K1.out⟩
  by_cases f3 : y.fin = 3
  case neg =>
    have HE : Box (endT P f y = true) := hid (by unfold endT; rw [if_neg f2, if_neg f3])
    have o2 := neb f2
    have o3 := neb f3
    clear h hf hb f2 f3
    go_enter Tryd.func71, Tryd.ntmps71
    go_wp2_with fail
    go_ret
    exact ⟨by rw [HE.out]; rfl, Keeps.refl _ _⟩
  have HE : Box (endT P f y = match sigO P f.sig with
    | none => false
    | some s => inB y.reg f.regs.length && tyE (f.regs.getD y.reg.toNat (0, 0)) s.2) := hid (by unfold endT; rw [if_neg f2, if_pos f3])
  have HSG := hid (sig_any h (Keeps.refl [] w) f.sig)
  obtain ⟨ra, rp, c1, rr, _, _⟩ := hf.c1
  have c0 := hf.c0.1
  have HRR := hid rr
  have C1 : Box (∀ w', Keeps [] w w' → w'.cell? ⟨fb, fo + 1, none⟩ = some (.slice ra f.regs.length rp) ∧ w'.cell? ⟨bb, bo + 2, none⟩ = some (.int .i64 y.reg)) := hid (by have b := b2; exact fun w' k => ⟨cell_stays k c1, cell_stays k b⟩)
  have HW := hid fun (w' : World) => within_any y.reg f.regs.length w'
  rw [f3] at b1
  clear h hf hb rr f2 f3 c1
  generalize sigO P f.sig = O at *
  go_enter Tryd.func71, Tryd.ntmps71
  go_wp2_with fail
  refine HSG.out.mono ?_
  intro e w1 h1
  obtain ⟨k1, sa, sp, n, t1, t2, rfl, hs⟩ := h1.open
  have hbx := heap_new w1 (.cells #[.slice sa n sp, .int .i64 t1, .int .i64 t2] 41)
  have K1 := hid (k1.quiet (Keeps.alloc [] w1 (.cells #[.slice sa n sp, .int .i64 t1, .int .i64 t2] 41)))
  have HB := hid hbx
  have HS := hid hs
  clear h1 k1 hbx hs c0 b1 b2
  go_upto_region 6 with fail
  generalize w1.alloc (.cells #[.slice sa n sp, .int .i64 t1, .int .i64 t2] 41) = w2 at *
  generalize w1.heap.size = q at *
  obtain ⟨c1, c2⟩ := C1.out _ K1.out
  have s1 := hcell HB.out 1
  have s2 := hcell HB.out 2
  cases O with
  | none =>
    have HF : Box (endT P f y = false) := hid HE.out
    clear HE HS
    simp only [Option.isSome_none]
    go_quiet (fail)
    go_wp2_with fail
    go_ret
    exact ⟨by rw [HF.out]; rfl, K1.out.quiet (Keeps.drewN _ _ _)⟩
  | some s =>
    obtain ⟨_, e1, e2, _⟩ := HS.out s rfl
    have HF : Box (endT P f y = (inB y.reg f.regs.length && tyE (f.regs.getD y.reg.toNat (0, 0)) (t1, t2))) := hid (by rw [HE.out, e1, e2])
    clear HE HS e1 e2
    simp only [Option.isSome_some]
    cases hin : inB y.reg f.regs.length with
    | false =>
      rw [hin] at HW
      have HG : Box (endT P f y = false) := hid (by rw [HF.out, hin]; rfl)
      clear hin HF
      generalize f.regs.length = R at *
      go_quiet ((go_at_call 29; exact Calls.quiet_of_same (HW.out _)))
      go_wp2_with fail
      go_ret
      exact ⟨by rw [HG.out]; rfl, K1.out.quiet (Keeps.drewN _ _ _)⟩
    | true =>
      rw [hin] at HW
      obtain ⟨g0, g1⟩ := inB_iff.1 hin
      obtain ⟨m, hm⟩ : ∃ m : Nat, y.reg = (m : Int) := ⟨y.reg.toNat, by omega⟩
      have HG : Box (endT P f y = tyE (f.regs.getD m (0, 0)) (t1, t2)) := hid (by rw [HF.out, hin, hm]; rfl)
      obtain ⟨b', off', rfl, hc'⟩ := HRR.out.at (getD_get (l := f.regs) (k := m) (d := (0, 0)) (by omega))
      have d0 := cell_stays K1.out hc'.c0.1
      have d1 := cell_stays K1.out hc'.c1.1
      rw [hm] at HW c2 g1
      clear hin HF g0 hm hc'
      generalize f.regs.getD m (0, 0) = T at *
      generalize f.regs.length = R at *
      have re := fun w' => run_tyE T.1 T.2 t1 t2 w'
      go_quiet ((go_at_call 29; exact Calls.quiet_of_same (HW.out _)))
      go_wp2_with fail
      go_ret
      exact ⟨by rw [HG.out]; rfl, K1.out.quiet (Keeps.drewN _ _ _)⟩
end Go.Proofs.YtlopddflbhnjdaaDoor

namespace Go.Proofs.YtlopddflbhnjdaaDoor
open Go.RowKit

/-- Does a point fit? g tells of instructions. -/
def ptT (P : Pr8) (g : Fu8 → In8 → Bool) (q : Nat × Nat × Nat) : Bool :=
  if q.2.2 < (blk8 (fun8 P q.1) q.2.1).code.length then g (fun8 P q.1) (ins8 (blk8 (fun8 P q.1) q.2.1) q.2.2) else endT P (fun8 P q.1) (blk8 (fun8 P q.1) q.2.1)
/-- What Fits tells of the program's own instructions. -/
def FitsG (w : World) (pb po : Nat) (P : Pr8) (g : Fu8 → In8 → Bool) : Prop :=
  ∀ (w' : World) (f b i : Nat) (a : Option Addr) (cp : Nat), Keeps [] w w' → f < P.funcs.length → b < (fun8 P f).blocks.length → i < (blk8 (fun8 P f) b).code.length → IntsAt w' a (ins8 (blk8 (fun8 P f) b) i).args →
    Calls Tryd.prog 16 #[.pointer (some ⟨pb, po, none⟩), .int .i64 (f : Int), insV (ins8 (blk8 (fun8 P f) b) i) (.slice a (ins8 (blk8 (fun8 P f) b) i).args.length cp)] w' fun e w2 => e = .returned (.bool (g (fun8 P f) (ins8 (blk8 (fun8 P f) b) i))) ∧ Keeps [] w' w2
set_option maxRecDepth 20000 in
set_option maxHeartbeats 2000000 in
theorem ptt_any {w : World} {pb po : Nat} {P : Pr8} (h : PrC w pb po P) {g : Fu8 → In8 → Bool} (hg : FitsG w pb po P g) {f b i : Nat} (hq : IsPt P f b i) : Calls Tryd.prog 39 #[.pointer (some ⟨pb, po, none⟩), .agg #[.int .i64 (f : Int), .int .i64 (b : Int), .int .i64 (i : Int)]] w fun e w' => e = .returned (.bool (ptT P g (f, b, i))) ∧ Keeps [] w w' := by
  obtain ⟨h1, h2, h3⟩ := hq
  have ka := Keeps.alloc [] w (.cells #[.int .i64 (f : Int), .int .i64 (b : Int), .int .i64 (i : Int)] 50)
  have hn := heap_new w (.cells #[.int .i64 (f : Int), .int .i64 (b : Int), .int .i64 (i : Int)] 50)
  obtain ⟨fa, fp, c4, r4, _⟩ := h.c4
  obtain ⟨fb, fo, rfl, hfu0⟩ := r4.at (getD_get (d := ⟨0, [], []⟩) h1)
  have hfu : FuC w fb (fo + f * 3) (fun8 P f) := hfu0
  obtain ⟨ba, bp, e2, rb, _⟩ := hfu.c2
  obtain ⟨bb, bo, rfl, hbl0⟩ := rb.at (getD_get (d := ⟨[], 0, 0, 0, 0⟩) h2)
  have hbl : BlC w bb (bo + b * 5) (blk8 (fun8 P f) b) := hbl0
  obtain ⟨ca, cp, e3, rc, _⟩ := hbl.c0
  have HEN := hid fun (w' : World) (k : Keeps [] w w') => endt_any (PrC.stays _ _ _ _ _ k h) (FuC.stays _ _ _ _ _ k hfu) (BlC.stays _ _ _ _ _ k hbl)
  have HFT := hid hg
  have HC := hid rc
  have C : Box (∀ w', Keeps [] w w' → w'.cell? ⟨pb, po + 4, none⟩ = some (.slice (some ⟨fb, fo, none⟩) P.funcs.length fp) ∧ w'.cell? ⟨fb, fo + f * 3 + 2, none⟩ = some (.slice (some ⟨bb, bo, none⟩) (fun8 P f).blocks.length bp) ∧ w'.cell? ⟨bb, bo + b * 5, none⟩ = some (.slice ca (blk8 (fun8 P f) b).code.length cp)) := hid fun w' k => ⟨cell_stays k c4, cell_stays k e2, cell_stays k e3⟩
  obtain ⟨c4', e2', e3'⟩ := C.out _ ka
  have q0 := hcell hn 0
  have q1 := hcell hn 1
  have q2 := hcell hn 2
  have KA := hid ka
  have HN := hid hn
  have h1' : (f : Int) < (P.funcs.length : Int) := by omega
  have h2' : (b : Int) < ((fun8 P f).blocks.length : Int) := by omega
  have HH := hid (And.intro h1 (And.intro h2 h3))
  have HE : Box (ptT P g (f, b, i) = if i < (blk8 (fun8 P f) b).code.length then g (fun8 P f) (ins8 (blk8 (fun8 P f) b) i) else endT P (fun8 P f) (blk8 (fun8 P f) b)) := hid rfl
  obtain ⟨N, hN⟩ : ∃ N, N = (blk8 (fun8 P f) b).code.length := ⟨_, rfl⟩
  have HNN := hid hN
  rw [← hN] at C e3' HE
  clear h hfu0 hfu hbl0 hbl c4 e2 e3 rb rc r4 hg ka hn h1 h2 h3 hN
  generalize hFN : P.funcs.length = FN at *
  generalize hBN : (fun8 P f).blocks.length = BN at *
  have HFN := hid hFN
  have HBN := hid hBN
  clear hFN hBN
  go_enter Tryd.func39, Tryd.ntmps39
  go_upto_region 1 with fail
  generalize w.alloc (.cells #[.int .i64 (f : Int), .int .i64 (b : Int), .int .i64 (i : Int)] 50) = WA at *
  generalize w.heap.size = q at *
  go_quiet (fail)
  go_upto_region 2 with fail
  go_quiet (fail)
  go_upto_region 3 with fail
  by_cases hi : i < N
  · have hi' : (i : Int) < (N : Int) := by omega
    have HF : Box (ptT P g (f, b, i) = g (fun8 P f) (ins8 (blk8 (fun8 P f) b) i)) := hid (by rw [HE.out, if_pos hi])
    have hif : i < (blk8 (fun8 P f) b).code.length := by rw [← HNN.out]; exact hi
    obtain ⟨ib, io, rfl, hin⟩ := HC.out.at (show (blk8 (fun8 P f) b).code[i]? = some (ins8 (blk8 (fun8 P f) b) i) from getD_get hif)
    obtain ⟨ga, gp, e5, q5⟩ := SlC.val hin.c5
    have HZ := hid (rows_ints q5.slice.2.1)
    have HIF := hid hif
    have F0 := cell_stays KA.out hin.c0.1
    have F1 := cell_stays KA.out hin.c1.1
    have F2 := cell_stays KA.out hin.c2.1
    have F3 := cell_stays KA.out hin.c3.1
    have F4 := cell_stays KA.out hin.c4.1
    have F5 := cell_stays KA.out e5
    clear hin e5 q5 hif
    have HX := hid fun (w' : World) (k : Keeps [] w w') => HFT.out w' f b i ga gp k (by rw [HFN.out]; omega) (by rw [HBN.out]; omega) HIF.out (HZ.out.kept k (fun _ _ _ => by simp))
    unfold insV at HX
    generalize g (fun8 P f) (ins8 (blk8 (fun8 P f) b) i) = rr at *
    generalize ins8 (blk8 (fun8 P f) b) i = x at *
    clear HFT HEN HE HC HNN HFN HBN HIF HZ hi
    go_quiet (fail)
    go_upto_region 4 with fail
    go_region_held3 (fun w' => w'.cell? ⟨q, 0, none⟩ = some (.int .i64 (f : Int)) ∧ w'.cell? ⟨q, 2, none⟩ = some (.int .i64 (i : Int)) ∧ w'.cell? ⟨bb, bo + b * 5, none⟩ = some (.slice (some ⟨ib, io, none⟩) N cp) ∧ w'.cell? ⟨ib, io + i * 6, none⟩ = some (.int .i64 x.op) ∧ w'.cell? ⟨ib, io + i * 6 + 1, none⟩ = some (.int .i64 x.dst) ∧ w'.cell? ⟨ib, io + i * 6 + 2, none⟩ = some (.int .i64 x.a) ∧ w'.cell? ⟨ib, io + i * 6 + 3, none⟩ = some (.int .i64 x.b) ∧ w'.cell? ⟨ib, io + i * 6 + 4, none⟩ = some (.int .i64 x.n) ∧ w'.cell? ⟨ib, io + i * 6 + 5, none⟩ = some (.slice ga x.args.length gp)) (go_keep) (first
      | (go_at_call 16; refine Calls.mono (HX.out _ ?_) ?_; exact ⟨KA.out.os, KA.out.tape, KA.out.output, KA.out.size, KA.out.block⟩; rintro e w5 ⟨rfl, k5⟩; have K5 : Keeps [] WA w5 := ⟨k5.os, k5.tape, k5.output, k5.size, k5.block⟩; have f0 := cell_stays K5 q0; have f2 := cell_stays K5 q2; have f3 := cell_stays K5 e3'; have g0 := cell_stays K5 F0; have g1 := cell_stays K5 F1; have g2 := cell_stays K5 F2; have g3 := cell_stays K5 F3; have g4 := cell_stays K5 F4; have g5 := cell_stays K5 F5; have HK5 := hid K5; clear k5))
    go_wp2_with fail
    go_ret
    exact ⟨by rw [HF.out]; rfl, KA.out.quiet HK5.out⟩
  · have hi' : ¬ (i : Int) < (N : Int) := by omega
    have HF : Box (ptT P g (f, b, i) = endT P (fun8 P f) (blk8 (fun8 P f) b)) := hid (by rw [HE.out, if_neg hi])
    generalize endT P (fun8 P f) (blk8 (fun8 P f) b) = rr at *
    go_quiet (fail)
    go_wp2_with fail
    refine (HEN.out _ ?_).mono ?_
    · exact KA.out.quiet (by first | exact Keeps.drewN _ _ _)
    rintro e w1 ⟨rfl, k1⟩
    have K1 := hid k1
    clear k1
    go_wp2_with fail
    go_ret
    exact ⟨by rw [HF.out]; rfl, (KA.out.quiet (Keeps.drewN _ _ _)).quiet K1.out⟩
end Go.Proofs.YtlopddflbhnjdaaDoor

namespace Go.Proofs.YtlopddflbhnjdaaDoor
open Go.RowKit

def chkO (P : Pr8) (g : Fu8 → In8 → Bool) : Option (Int × Int × Int) :=
  if (List.range P.funcs.length).all (fun f => parB P (fun8 P f)) then (match (pts P).find? (fun q => !ptT P g q) with
    | some q => some (ptI q)
    | none => if mainB P then none else some (-1, 0, 0)) else some (-1, 0, 0)
theorem chk_par {P : Pr8} {g : Fu8 → In8 → Bool} {k : Nat} (hk : k < P.funcs.length) (h : parB P (fun8 P k) = false) : chkO P g = some (-1, 0, 0) := by
  unfold chkO
  have : (List.range P.funcs.length).all (fun f => parB P (fun8 P f)) = false := List.all_eq_false.2 ⟨k, List.mem_range.2 hk, by rw [h]; simp⟩
  rw [this]
  rfl
theorem chk_pt {P : Pr8} {g : Fu8 → In8 → Bool} (hp : ∀ k, k < P.funcs.length → parB P (fun8 P k) = true) {n : Nat} {q : Nat × Nat × Nat} (hq : (pts P)[n]? = some q) (hl : ∀ j x, j < n → (pts P)[j]? = some x → ptT P g x = true) (h : ptT P g q = false) : chkO P g = some (ptI q) := by
  unfold chkO
  rw [if_pos (List.all_eq_true.2 fun k hk => hp k (List.mem_range.1 hk))]
  have hn := (List.getElem?_eq_some_iff.1 hq).1
  have e : pts P = (pts P).take n ++ q :: (pts P).drop (n + 1) := by
    have h2 := List.take_append_drop n (pts P)
    rw [List.drop_eq_getElem_cons hn, (List.getElem?_eq_some_iff.1 hq).2] at h2
    exact h2.symm
  rw [e, find_first (l := (pts P).take n) (fun x hx => ?_) (by rw [h]; rfl)]
  obtain ⟨j, hj⟩ := List.getElem?_of_mem hx
  rw [List.getElem?_take] at hj
  split at hj
  · rename_i hjn
    rw [hl j x hjn hj]
    rfl
  · cases hj
theorem chk_end {P : Pr8} {g : Fu8 → In8 → Bool} (hp : ∀ k, k < P.funcs.length → parB P (fun8 P k) = true) (hl : ∀ (j : Nat) (x : Nat × Nat × Nat), (pts P)[j]? = some x → ptT P g x = true) : chkO P g = if mainB P then none else some (-1, 0, 0) := by
  unfold chkO
  rw [if_pos (List.all_eq_true.2 fun k hk => hp k (List.mem_range.1 hk)), find_none (fun x hx => ?_)]
  obtain ⟨j, hj⟩ := List.getElem?_of_mem hx
  rw [hl j x hj]
  rfl
set_option maxRecDepth 20000 in
set_option maxHeartbeats 4000000 in
theorem check_any {w : World} {pb po : Nat} {P : Pr8} (h : PrC w pb po P) (hs : Sm10 P) {g : Fu8 → In8 → Bool} (hg : FitsG w pb po P g) : Calls Tryd.prog 19 #[.pointer (some ⟨pb, po, none⟩)] w (EPost (chkO P g) 4 w) := by
  obtain ⟨fa, fp, c4, r4, _⟩ := h.c4
  have HP := hid h
  have HR := hid r4
  have HPT := hid fun (w' : World) (k : Keeps [] w w') => points_any (PrC.stays _ _ _ _ _ k h) hs
  have HG : Box (∀ w', Keeps [] w w' → FitsG w' pb po P g) := hid fun w' k w2 f b i a cp k2 => hg w2 f b i a cp (k.quiet k2)
  have HM := hid fun (w' : World) (k : Keeps [] w w') => main_any (PrC.stays _ _ _ _ _ k h)
  have HRF := hid fun (w' : World) => refused_any 4 w'
  have HRA := hid fun (f b i : Int) (w' : World) => refusedAt_any 4 f b i w'
  have C4 : Box (∀ w', Keeps [] w w' → w'.cell? ⟨pb, po + 4, none⟩ = some (.slice fa P.funcs.length fp)) := hid fun w' k => cell_stays k c4
  have B1 := hid fun (k : Nat) (hk : k < P.funcs.length) (h : parB P (fun8 P k) = false) => chk_par (g := g) hk h
  have B2 := hid fun (hp : ∀ k, k < P.funcs.length → parB P (fun8 P k) = true) (n : Nat) (q : Nat × Nat × Nat) (hq : (pts P)[n]? = some q) (hl : ∀ j x, j < n → (pts P)[j]? = some x → ptT P g x = true) (h : ptT P g q = false) => chk_pt (g := g) hp hq hl h
  have B3 := hid fun (hp : ∀ k, k < P.funcs.length → parB P (fun8 P k) = true) (hl : ∀ (j : Nat) (x : Nat × Nat × Nat), (pts P)[j]? = some x → ptT P g x = true) => chk_end (g := g) hp hl
  have hf12 := hs.fn
  have hp45 := hs.pts
  obtain ⟨N, hN⟩ : ∃ N, N = P.funcs.length := ⟨_, rfl⟩
  obtain ⟨M, hM⟩ : ∃ M, M = (pts P).length := ⟨_, rfl⟩
  have HN := hid hN
  have HMM := hid hM
  rw [← hN] at C4 c4 hf12
  rw [← hM] at HPT hp45
  have hf9 : (N : Int) ≤ 12 := by omega
  have hp9 : (M : Int) ≤ 4500 := by omega
  clear h r4 hs hg hN hM
  go_enter Tryd.func19, Tryd.ntmps19
  go_wp2_with fail
  clear c4
  go_loopw [14] (fun kv wr => ∃ k : Nat, k ≤ N ∧ kv = .int .i64 (k : Int) ∧ Box (Keeps [] w wr) ∧ Box (∀ j, j < k → parB P (fun8 P j) = true)) (fun kv _ => N - (intOf kv).toNat)
  case atStart => exact ⟨0, by omega, rfl, hid (Keeps.refl _ _), hid fun j hj => by omega⟩
  case round =>
    obtain ⟨k, hk, rfl, HK, HA⟩ := hrel
    by_cases hlt : k < N
    · have hlt' : (k : Int) < (N : Int) := by omega
      have hkf : k < P.funcs.length := by rw [← HN.out]; exact hlt
      obtain ⟨fb, fo, rfl, hfu0⟩ := HR.out.at (getD_get (d := ⟨0, [], []⟩) hkf)
      have hfu : FuC w fb (fo + k * 3) (fun8 P k) := hfu0
      have HC := hid (par_any (PrC.stays _ _ _ _ _ HK.out HP.out) (FuC.stays _ _ _ _ _ HK.out hfu))
      have c4 := C4.out _ HK.out
      have HB1 := hid (B1.out k hkf)
      clear hfu0 hfu hkf
      cases hg : parB P (fun8 P k) with
      | true =>
        rw [hg] at HC
        have HA2 : Box (∀ j, j < k + 1 → parB P (fun8 P j) = true) := hid fun j hj => by
          by_cases e : j < k
          · exact HA.out j e
          · obtain rfl : j = k := by omega
            exact hg
        clear hg
        go_wp2_with fail
        refine HC.out.mono ?_
        rintro e w2 ⟨rfl, k2⟩
        have K2 := hid (HK.out.quiet k2)
        clear k2
        go_wp2_with fail
        go_roundw
        case rel => exact ⟨k + 1, by omega, by go_num, K2, HA2⟩
        case measure => simp [intOf]; omega
      | false =>
        rw [hg] at HC
        have HQ := hid (HB1.out hg)
        clear hg
        go_wp2_with fail
        refine HC.out.mono ?_
        rintro e w2 ⟨rfl, k2⟩
        have K2 := hid (HK.out.quiet k2)
        clear k2
        go_wp2_with fail
        refine (HRF.out _).mono ?_
        rintro e w3 ⟨p, rfl, h1, h2⟩
        go_wp2_with fail
        go_ret
        exact EPost.no HQ.out ⟨p, rfl, h1, K2.out.quiet h2⟩
    · obtain rfl : N = k := by omega
      have HALL : Box (∀ k, k < P.funcs.length → parB P (fun8 P k) = true) := hid fun j hj => HA.out j (by rw [HN.out]; exact hj)
      clear HA
      go_wp2_with fail
      refine (HPT.out _ HK.out).mono ?_
      rintro e w2 ⟨la, lp, rfl, hr, k2⟩
      have HRW := hid hr
      have K2 := hid (HK.out.quiet k2)
      clear hr k2
      go_wp2_with fail
      go_loopw [31] (fun kv wr => ∃ k : Nat, k ≤ M ∧ kv = .int .i64 (k : Int) ∧ Box (Keeps [] w2 wr) ∧ Box (∀ j x, j < k → (pts P)[j]? = some x → ptT P g x = true)) (fun kv _ => M - (intOf kv).toNat)
      case atStart => exact ⟨0, by omega, rfl, hid (Keeps.refl _ _), hid fun j x hj => by omega⟩
      case round =>
        obtain ⟨k, hk, rfl, HK, HA⟩ := hrel
        by_cases hlt : k < M
        · have hlt' : (k : Int) < (M : Int) := by omega
          obtain ⟨f, b, i, hpt, hq⟩ := pts_back (p := P) (n := k) (by rw [← HMM.out]; exact hlt)
          obtain ⟨lb, lo, rfl, hc⟩ := HRW.out.at hq
          have d0 := cell_stays HK.out hc.c0
          have d1 := cell_stays HK.out hc.c1
          have d2 := cell_stays HK.out hc.c2
          have KA := hid (HK.out.quiet (Keeps.alloc [] wr (.cells #[.int .i64 (f : Int), .int .i64 (b : Int), .int .i64 (i : Int)] 50)))
          have hn := heap_new wr (.cells #[.int .i64 (f : Int), .int .i64 (b : Int), .int .i64 (i : Int)] 50)
          have HC := hid (ptt_any (PrC.stays _ _ _ _ _ (K2.out.quiet KA.out) HP.out) (HG.out _ (K2.out.quiet KA.out)) hpt)
          have HQQ := hid hq
          have HNW := hid hn
          have HB2 := hid (B2.out HALL.out k (f, b, i) hq HA.out)
          clear hc hq hpt hn
          cases hg : ptT P g (f, b, i) with
          | true =>
            rw [hg] at HC
            have HA2 : Box (∀ j x, j < k + 1 → (pts P)[j]? = some x → ptT P g x = true) := hid fun j x hj hx => by
              by_cases e : j < k
              · exact HA.out j x e hx
              · obtain rfl : j = k := by omega
                rw [HQQ.out] at hx
                cases hx
                exact hg
            clear hg
            go_wp2_with fail
            refine HC.out.mono ?_
            rintro e w4 ⟨rfl, k4⟩
            have K4 := hid (KA.out.quiet k4)
            clear k4
            go_wp2_with fail
            go_roundw
            case rel => exact ⟨k + 1, by omega, by go_num, K4, HA2⟩
            case measure => simp [intOf]; omega
          | false =>
            rw [hg] at HC
            have HQ := hid (HB2.out hg)
            clear hg
            go_wp2_with fail
            refine HC.out.mono ?_
            rintro e w4 ⟨rfl, k4⟩
            have K4 := hid (K2.out.quiet (KA.out.quiet k4))
            have h4 := keep_heap HNW.out k4
            have s0 := hcell h4 0
            have s1 := hcell h4 1
            have s2 := hcell h4 2
            clear k4 h4
            go_wp2_with fail
            refine (HRA.out _ _ _ _).mono ?_
            rintro e w5 ⟨p, rfl, h1, h2⟩
            go_wp2_with fail
            go_ret
            exact EPost.no HQ.out ⟨p, rfl, h1, K4.out.quiet h2⟩
        · obtain rfl : M = k := by omega
          have HE := hid (B3.out HALL.out (fun j x hx => HA.out j x (by rw [HMM.out]; exact (List.getElem?_eq_some_iff.1 hx).1) hx))
          have HC := hid (HM.out wr (K2.out.quiet HK.out))
          cases hm : mainB P with
          | true =>
            rw [hm] at HE HC
            have HQ : Box (chkO P g = none) := hid (by rw [HE.out]; rfl)
            clear hm
            go_wp2_with fail
            refine HC.out.mono ?_
            rintro e w4 ⟨rfl, k4⟩
            have K4 := hid ((K2.out.quiet HK.out).quiet k4)
            clear k4
            go_wp2_with fail
            go_ret
            exact EPost.yes HQ.out ⟨rfl, K4.out⟩
          | false =>
            rw [hm] at HE HC
            have HQ : Box (chkO P g = some (-1, 0, 0)) := hid (by rw [HE.out]; rfl)
            clear hm
            go_wp2_with fail
            refine HC.out.mono ?_
            rintro e w4 ⟨rfl, k4⟩
            have K4 := hid ((K2.out.quiet HK.out).quiet k4)
            clear k4
            go_wp2_with fail
            refine (HRF.out _).mono ?_
            rintro e w5 ⟨p, rfl, h1, h2⟩
            go_wp2_with fail
            go_ret
            exact EPost.no HQ.out ⟨p, rfl, h1, K4.out.quiet h2⟩
end Go.Proofs.YtlopddflbhnjdaaDoor
