/-
  types.endFits.
-/
import Derived.Test.YtlopddflbhnjdaaDoorTPar
namespace Go.Proofs.YtlopddflbhnjdaaDoor
open Go.RowKit

/-- An end's types. -/
def endT (P : Pr8) (f : Fu8) (y : Bl8) : Bool :=
  if y.fin = 2 then (regT f y.reg).1 == 0
  else if y.fin = 3 then (match sigO P f.sig with
    | none => false
    | some s => inB y.reg f.regs.length && tyE (f.regs.getD y.reg.toNat (0, 0)) s.2) else true
set_option maxRecDepth 20000 in
set_option maxHeartbeats 1000000 in
theorem endt_any {w : World} {pb po fb fo bb bo : Nat} {P : Pr8} {f : Fu8} {y : Bl8} (h : PrC w pb po P) (hf : FuC w fb fo f) (hb : BlC w bb bo y) : Calls Tryd.prog 71 #[.pointer (some ⟨pb, po, none⟩), .pointer (some ⟨fb, fo, none⟩), .pointer (some ⟨bb, bo, none⟩)] w fun e w' => e = .returned (.bool (endT P f y)) ∧ Keeps [] w w' := by
  have b1 := hb.c1.1
  have b2 := hb.c2.1
  by_cases f2 : y.fin = 2
  · have HE : Box (endT P f y = ((regT f y.reg).1 == 0)) := hid (by unfold endT; rw [if_pos f2])
    have HRT := hid (regtype_any hf y.reg)
    rw [f2] at b1
    clear h hf hb f2
    generalize regT f y.reg = T at *
    unfold tyV at HRT
    have hfl : ∀ (w : World), (Instr.field 39 (.agg #[.int .i64 T.1, .int .i64 T.2]) 0).run Tryd.prog w = .ok (.int .i64 T.1) w := fun w => by kernel_rfl
    go_enter Tryd.func71, Tryd.ntmps71
    go_wp2_with fail
    refine HRT.out.mono ?_
    rintro e w1 ⟨rfl, k1⟩
    have K1 := hid k1
    clear k1
    go_wp2_with fail
    go_ret
    exact ⟨by rw [HE.out]; rfl, K1.out⟩
  by_cases f3 : y.fin = 3
  case neg =>
    have HE : Box (endT P f y = true) := hid (by unfold endT; rw [if_neg f2, if_neg f3])
    have o2 := neb f2
    have o3 := neb f3
    clear h hf hb f2 f3
    go_enter Tryd.func71, Tryd.ntmps71
    go_wp2_with fail
    go_ret
    exact ⟨by rw [HE.out]; rfl, Keeps.refl _ _⟩
  have HE : Box (endT P f y = match sigO P f.sig with
    | none => false
    | some s => inB y.reg f.regs.length && tyE (f.regs.getD y.reg.toNat (0, 0)) s.2) := hid (by unfold endT; rw [if_neg f2, if_pos f3])
  have HSG := hid (sig_any h (Keeps.refl [] w) f.sig)
  obtain ⟨ra, rp, c1, rr, _, _⟩ := hf.c1
  have c0 := hf.c0.1
  have HRR := hid rr
  have C1 : Box (∀ w', Keeps [] w w' → w'.cell? ⟨fb, fo + 1, none⟩ = some (.slice ra f.regs.length rp) ∧ w'.cell? ⟨bb, bo + 2, none⟩ = some (.int .i64 y.reg)) := hid (by have b := b2; exact fun w' k => ⟨cell_stays k c1, cell_stays k b⟩)
  have HW := hid fun (w' : World) => within_any y.reg f.regs.length w'
  rw [f3] at b1
  clear h hf hb rr f2 f3 c1
  generalize sigO P f.sig = O at *
  go_enter Tryd.func71, Tryd.ntmps71
  go_wp2_with fail
  refine HSG.out.mono ?_
  intro e w1 h1
  obtain ⟨k1, sa, sp, n, t1, t2, rfl, hs⟩ := h1.open
  have hbx := heap_new w1 (.cells #[.slice sa n sp, .int .i64 t1, .int .i64 t2] 41)
  have K1 := hid (k1.quiet (Keeps.alloc [] w1 (.cells #[.slice sa n sp, .int .i64 t1, .int .i64 t2] 41)))
  have HB := hid hbx
  have HS := hid hs
  clear h1 k1 hbx hs c0 b1 b2
  go_upto_region 6 with fail
  generalize w1.alloc (.cells #[.slice sa n sp, .int .i64 t1, .int .i64 t2] 41) = w2 at *
  generalize w1.heap.size = q at *
  obtain ⟨c1, c2⟩ := C1.out _ K1.out
  have s1 := hcell HB.out 1
  have s2 := hcell HB.out 2
  cases O with
  | none =>
    have HF : Box (endT P f y = false) := hid HE.out
    clear HE HS
    simp only [Option.isSome_none]
    go_quiet (fail)
    go_wp2_with fail
    go_ret
    exact ⟨by rw [HF.out]; rfl, K1.out.quiet (Keeps.drewN _ _ _)⟩
  | some s =>
    obtain ⟨_, e1, e2, _⟩ := HS.out s rfl
    have HF : Box (endT P f y = (inB y.reg f.regs.length && tyE (f.regs.getD y.reg.toNat (0, 0)) (t1, t2))) := hid (by rw [HE.out, e1, e2])
    clear HE HS e1 e2
    simp only [Option.isSome_some]
    cases hin : inB y.reg f.regs.length with
    | false =>
      rw [hin] at HW
      have HG : Box (endT P f y = false) := hid (by rw [HF.out, hin]; rfl)
      clear hin HF
      generalize f.regs.length = R at *
      go_quiet ((go_at_call 29; exact Calls.quiet_of_same (HW.out _)))
      go_wp2_with fail
      go_ret
      exact ⟨by rw [HG.out]; rfl, K1.out.quiet (Keeps.drewN _ _ _)⟩
    | true =>
      rw [hin] at HW
      obtain ⟨g0, g1⟩ := inB_iff.1 hin
      obtain ⟨m, hm⟩ : ∃ m : Nat, y.reg = (m : Int) := ⟨y.reg.toNat, by omega⟩
      have HG : Box (endT P f y = tyE (f.regs.getD m (0, 0)) (t1, t2)) := hid (by rw [HF.out, hin, hm]; rfl)
      obtain ⟨b', off', rfl, hc'⟩ := HRR.out.at (getD_get (l := f.regs) (k := m) (d := (0, 0)) (by omega))
      have d0 := cell_stays K1.out hc'.c0.1
      have d1 := cell_stays K1.out hc'.c1.1
      rw [hm] at HW c2 g1
      clear hin HF g0 hm hc'
      generalize f.regs.getD m (0, 0) = T at *
      generalize f.regs.length = R at *
      have re := fun w' => run_tyE T.1 T.2 t1 t2 w'
      go_quiet ((go_at_call 29; exact Calls.quiet_of_same (HW.out _)))
      go_wp2_with fail
      go_ret
      exact ⟨by rw [HG.out]; rfl, K1.out.quiet (Keeps.drewN _ _ _)⟩
end Go.Proofs.YtlopddflbhnjdaaDoor
