/-
  The document's own Fits: what the names tell.
  The document's own Fits, by Op.
  The document's own Fits, by Op.
  The document's own Fits, by Op.
  The document's own Fits, by Op.
  The document's own Fits, by Op.
  The document's own Fits, by Op.
  The document's own Fits of any instruction.
-/
import Derived.Test.YtlopddflbhnjdaaDoorTDk
import Derived.Test.YtlopddflbhnjdaaDoorTFany

namespace Go.Proofs.YtlopddflbhnjdaaDoor
open Go.RowKit

theorem insOk_parts {P : Pr8} {f : Fu8} {x : In8} (h : insOk P f x = true) : regsB f.regs.length x = true ∧ numB P f x = true := by
  unfold insOk at h
  rw [Bool.and_eq_true, Bool.and_eq_true] at h
  exact h.2
theorem regs_dst {R : Nat} {x : In8} (h : regsB R x = true) (hd : isDef x = true) : inB x.dst R = true := by
  unfold regsB at h
  rw [Bool.and_eq_true, hd] at h
  exact h.1
theorem regs_use {R : Nat} {x : In8} (h : regsB R x = true) (j : Nat) (y : Int) (hy : (usesL x)[j]? = some y) : inB y R = true := by
  unfold regsB at h
  rw [Bool.and_eq_true] at h
  exact all_at h.2 hy
theorem regs_args {R : Nat} {x : In8} (h : regsB R x = true) (o : Nat) (hu : ∀ (k : Nat) (y : Int), x.args[k]? = some y → (usesL x)[k + o]? = some y) : insB x.args R = true := all_good fun k y hy => regs_use h _ _ (hu k y hy)
theorem tyE_comm (s t : Int × Int) : tyE s t = tyE t s := by
  unfold tyE
  rw [Bool.beq_comm (a := s.1), Bool.beq_comm (a := s.2)]
theorem rtyp_reg {w : World} {f : Fu8} {ra : Option Addr} {R : Nat} (hr : RowsAt w 2 TyC ra f.regs) (hR : R = f.regs.length) (rp : Nat) (sg : Int) (bv : Value) (r : Int) (hin : inB r R = true) : Calls Tryd.prog 33 #[fnV sg ra R rp bv, .int .i64 r] w fun e w' => e = .returned (.agg #[.int .i64 (regT f r).1, .int .i64 (regT f r).2]) ∧ Keeps [] w w' := by
  have h := rtyp_any hr hR rp sg bv r hin
  rw [← regT_in (by rw [← hR]; exact hin)] at h
  exact h
end Go.Proofs.YtlopddflbhnjdaaDoor

namespace Go.Proofs.YtlopddflbhnjdaaDoor
open Go.RowKit

set_option maxRecDepth 20000 in
set_option maxHeartbeats 8000000 in
theorem rfit_1 {w : World} {pb po : Nat} {P : Pr8} (h : PrC w pb po P) {f : Fu8} {ra : Option Addr} {R : Nat} (hr : RowsAt w 2 TyC ra f.regs) (hR : R = f.regs.length) (rp : Nat) (bv : Value) (hty : tysB P f.regs = true) (hif : P.ifs.all (fun l => insB l P.sigs.length) = true) (hfs : P.funcs.all (fun g => inB g.sig P.sigs.length) = true) (x : In8) {a : Option Addr} {cp : Nat} (hz : IntsAt w a x.args) (hl : x.args.length ≤ 1000) (hop : x.op = 1) : Calls Tryd.prog 17 #[.pointer (some ⟨pb, po, none⟩), fnV f.sig ra R rp bv, insV x (.slice a x.args.length cp)] w fun e w' => e = .returned (.bool (insOk P f x && ((regT f x.dst).1 == 0))) ∧ Keeps [] w w' := by
  have HRI := hid fun (w' : World) (k : Keeps [] w w') => rinstr_any (PrC.stays _ _ _ _ _ k h) (RowsAt.quiet hr TyC.stays k) hR rp bv hty hif x (cp := cp) (hz.kept k (fun _ _ _ => by simp)) hl
  have HTP := hid fun (r : Int) (w' : World) (k : Keeps [] w w') (hin : inB r R = true) => rtyp_reg (RowsAt.quiet hr TyC.stays k) hR rp f.sig bv r hin
  obtain ⟨res, hres⟩ : ∃ r, r = (insOk P f x && ((regT f x.dst).1 == 0)) := ⟨_, rfl⟩
  rw [← hres]
  have HE0 := hid hres
  have HOK : Box (insOk P f x = true → regsB R x = true ∧ numB P f x = true) := hid fun h1 => by
    rw [hR]
    exact insOk_parts h1
  have HOP := hid hop
  have HRR := hid hr
  have HRL := hid hR
  have HTY := hid hty
  have HIF := hid hif
  have HFS := hid hfs
  have HPR := hid h
  have HZ := hid hz
  have HLL := hid hl
  unfold insV fnV at HRI
  unfold fnV at HTP
  unfold insV fnV
  rw [hop] at HRI
  rw [hop]
  obtain ⟨W, hW⟩ : ∃ W, W = (w.alloc (.cells #[.int .i64 f.sig, .slice ra R rp, bv] 29)).alloc (.cells #[.int .i64 1, .int .i64 x.dst, .int .i64 x.a, .int .i64 x.b, .int .i64 x.n, .slice a x.args.length cp] 54) := ⟨_, rfl⟩
  have k2 : Keeps [] w W := by rw [hW]; exact (Keeps.alloc [] w _).quiet (Keeps.alloc [] _ _)
  have hn1 : W.heap[w.heap.size]? = some (.cells #[.int .i64 f.sig, .slice ra R rp, bv] 29 (0, 0)) := by rw [hW]; exact keep_heap (heap_new w _) (Keeps.alloc [] _ _)
  have hn2 : W.heap[w.heap.size + 1]? = some (.cells #[.int .i64 1, .int .i64 x.dst, .int .i64 x.a, .int .i64 x.b, .int .i64 x.n, .slice a x.args.length cp] 54 (0, 0)) := by
    have := heap_new (w.alloc (.cells #[.int .i64 f.sig, .slice ra R rp, bv] 29)) (.cells #[.int .i64 1, .int .i64 x.dst, .int .i64 x.a, .int .i64 x.b, .int .i64 x.n, .slice a x.args.length cp] 54)
    rw [World.size_alloc] at this
    rw [hW]
    exact this
  have B : Box (∀ w', Keeps [] W w' → w'.cell? ⟨w.heap.size, 0, none⟩ = some (.int .i64 f.sig) ∧ w'.cell? ⟨w.heap.size, 1, none⟩ = some (.slice ra R rp) ∧ w'.cell? ⟨w.heap.size, 2, none⟩ = some bv ∧ w'.cell? ⟨w.heap.size + 1, 0, none⟩ = some (.int .i64 1) ∧ w'.cell? ⟨w.heap.size + 1, 1, none⟩ = some (.int .i64 x.dst) ∧ w'.cell? ⟨w.heap.size + 1, 2, none⟩ = some (.int .i64 x.a) ∧ w'.cell? ⟨w.heap.size + 1, 3, none⟩ = some (.int .i64 x.b) ∧ w'.cell? ⟨w.heap.size + 1, 4, none⟩ = some (.int .i64 x.n) ∧ w'.cell? ⟨w.heap.size + 1, 5, none⟩ = some (.slice a x.args.length cp)) := hid fun w' k => ⟨hcell (keep_heap hn1 k) 0, hcell (keep_heap hn1 k) 1, hcell (keep_heap hn1 k) 2, hcell (keep_heap hn2 k) 0, hcell (keep_heap hn2 k) 1, hcell (keep_heap hn2 k) 2, hcell (keep_heap hn2 k) 3, hcell (keep_heap hn2 k) 4, hcell (keep_heap hn2 k) 5⟩
  have HWE := hid hW
  have HK2 := hid k2
  clear h hr hR hty hif hfs hz hl hop hW k2 hn1 hn2 hres
  generalize insOk P f x = ok at *
  go_enter Tryd.func17, Tryd.ntmps17
  go_upto_region 1 with fail
  rw [← HWE.out]
  clear HWE
  generalize w.heap.size = q at *
  obtain ⟨b0, b1, b2, c0, c1, c2, c3, c4, c5⟩ := B.out _ (Keeps.refl _ _)
  go_wp2_with fail
  refine (HRI.out _ HK2.out).mono ?_
  rintro e w1 ⟨rfl, k1⟩
  have KW1 := hid k1
  clear b0 b1 b2 c0 c1 c2 c3 c4 c5 k1 HRI
  have KZ : Box (Keeps [] w w1) := hid (HK2.out.quiet KW1.out)
  cases ok with
  | false =>
    have HF : Box (res = false) := hid HE0.out
    clear HE0 HOK
    go_wp2_with fail
    go_ret
    exact ⟨by rw [HF.out]; rfl, KZ.out⟩
  | true =>
  obtain ⟨b0, b1, b2, c0, c1, c2, c3, c4, c5⟩ := B.out _ KW1.out
  have HRG : Box (regsB R x = true ∧ numB P f x = true) := hid (HOK.out rfl)
  have HE : Box (res = ((regT f x.dst).1 == 0)) := hid (by rw [HE0.out, Bool.true_and])
  clear HE0 HOK
  have hinT : inB x.dst R = true := regs_dst HRG.out.1 (by unfold isDef; rw [HOP.out]; rfl)
  have HNT : Box (tyB P (regT f x.dst) = true) := hid (reg_named HTY.out (by rw [← HRL.out]; exact hinT))
  have HT := hid fun (w' : World) (k : Keeps [] w w') => HTP.out x.dst w' k hinT
  clear hinT
  generalize regT f x.dst = T at *
  go_wp2_with fail
  refine (HT.out _ KZ.out).mono ?_
  rintro e w3 ⟨rfl, k3⟩
  have K3 := hid (KZ.out.quiet k3)
  clear k3
  have hfl : ∀ (w : World), (Instr.field 39 (.agg #[.int .i64 T.1, .int .i64 T.2]) 0).run Tryd.prog w = .ok (.int .i64 T.1) w := fun w => by kernel_rfl
  go_wp2_with fail
  go_ret
  exact ⟨by rw [HE.out]; rfl, K3.out⟩
set_option maxRecDepth 20000 in
set_option maxHeartbeats 8000000 in
theorem rfit_3 {w : World} {pb po : Nat} {P : Pr8} (h : PrC w pb po P) {f : Fu8} {ra : Option Addr} {R : Nat} (hr : RowsAt w 2 TyC ra f.regs) (hR : R = f.regs.length) (rp : Nat) (bv : Value) (hty : tysB P f.regs = true) (hif : P.ifs.all (fun l => insB l P.sigs.length) = true) (hfs : P.funcs.all (fun g => inB g.sig P.sigs.length) = true) (x : In8) {a : Option Addr} {cp : Nat} (hz : IntsAt w a x.args) (hl : x.args.length ≤ 1000) (hop : x.op = 3) : Calls Tryd.prog 17 #[.pointer (some ⟨pb, po, none⟩), fnV f.sig ra R rp bv, insV x (.slice a x.args.length cp)] w fun e w' => e = .returned (.bool (insOk P f x && ((regT f x.dst).1 == 0))) ∧ Keeps [] w w' := by
  have HRI := hid fun (w' : World) (k : Keeps [] w w') => rinstr_any (PrC.stays _ _ _ _ _ k h) (RowsAt.quiet hr TyC.stays k) hR rp bv hty hif x (cp := cp) (hz.kept k (fun _ _ _ => by simp)) hl
  have HTP := hid fun (r : Int) (w' : World) (k : Keeps [] w w') (hin : inB r R = true) => rtyp_reg (RowsAt.quiet hr TyC.stays k) hR rp f.sig bv r hin
  obtain ⟨res, hres⟩ : ∃ r, r = (insOk P f x && ((regT f x.dst).1 == 0)) := ⟨_, rfl⟩
  rw [← hres]
  have HE0 := hid hres
  have HOK : Box (insOk P f x = true → regsB R x = true ∧ numB P f x = true) := hid fun h1 => by
    rw [hR]
    exact insOk_parts h1
  have HOP := hid hop
  have HRR := hid hr
  have HRL := hid hR
  have HTY := hid hty
  have HIF := hid hif
  have HFS := hid hfs
  have HPR := hid h
  have HZ := hid hz
  have HLL := hid hl
  unfold insV fnV at HRI
  unfold fnV at HTP
  unfold insV fnV
  rw [hop] at HRI
  rw [hop]
  obtain ⟨W, hW⟩ : ∃ W, W = (w.alloc (.cells #[.int .i64 f.sig, .slice ra R rp, bv] 29)).alloc (.cells #[.int .i64 3, .int .i64 x.dst, .int .i64 x.a, .int .i64 x.b, .int .i64 x.n, .slice a x.args.length cp] 54) := ⟨_, rfl⟩
  have k2 : Keeps [] w W := by rw [hW]; exact (Keeps.alloc [] w _).quiet (Keeps.alloc [] _ _)
  have hn1 : W.heap[w.heap.size]? = some (.cells #[.int .i64 f.sig, .slice ra R rp, bv] 29 (0, 0)) := by rw [hW]; exact keep_heap (heap_new w _) (Keeps.alloc [] _ _)
  have hn2 : W.heap[w.heap.size + 1]? = some (.cells #[.int .i64 3, .int .i64 x.dst, .int .i64 x.a, .int .i64 x.b, .int .i64 x.n, .slice a x.args.length cp] 54 (0, 0)) := by
    have := heap_new (w.alloc (.cells #[.int .i64 f.sig, .slice ra R rp, bv] 29)) (.cells #[.int .i64 3, .int .i64 x.dst, .int .i64 x.a, .int .i64 x.b, .int .i64 x.n, .slice a x.args.length cp] 54)
    rw [World.size_alloc] at this
    rw [hW]
    exact this
  have B : Box (∀ w', Keeps [] W w' → w'.cell? ⟨w.heap.size, 0, none⟩ = some (.int .i64 f.sig) ∧ w'.cell? ⟨w.heap.size, 1, none⟩ = some (.slice ra R rp) ∧ w'.cell? ⟨w.heap.size, 2, none⟩ = some bv ∧ w'.cell? ⟨w.heap.size + 1, 0, none⟩ = some (.int .i64 3) ∧ w'.cell? ⟨w.heap.size + 1, 1, none⟩ = some (.int .i64 x.dst) ∧ w'.cell? ⟨w.heap.size + 1, 2, none⟩ = some (.int .i64 x.a) ∧ w'.cell? ⟨w.heap.size + 1, 3, none⟩ = some (.int .i64 x.b) ∧ w'.cell? ⟨w.heap.size + 1, 4, none⟩ = some (.int .i64 x.n) ∧ w'.cell? ⟨w.heap.size + 1, 5, none⟩ = some (.slice a x.args.length cp)) := hid fun w' k => ⟨hcell (keep_heap hn1 k) 0, hcell (keep_heap hn1 k) 1, hcell (keep_heap hn1 k) 2, hcell (keep_heap hn2 k) 0, hcell (keep_heap hn2 k) 1, hcell (keep_heap hn2 k) 2, hcell (keep_heap hn2 k) 3, hcell (keep_heap hn2 k) 4, hcell (keep_heap hn2 k) 5⟩
  have HWE := hid hW
  have HK2 := hid k2
  clear h hr hR hty hif hfs hz hl hop hW k2 hn1 hn2 hres
  generalize insOk P f x = ok at *
  go_enter Tryd.func17, Tryd.ntmps17
  go_upto_region 1 with fail
  rw [← HWE.out]
  clear HWE
  generalize w.heap.size = q at *
  obtain ⟨b0, b1, b2, c0, c1, c2, c3, c4, c5⟩ := B.out _ (Keeps.refl _ _)
  go_wp2_with fail
  refine (HRI.out _ HK2.out).mono ?_
  rintro e w1 ⟨rfl, k1⟩
  have KW1 := hid k1
  clear b0 b1 b2 c0 c1 c2 c3 c4 c5 k1 HRI
  have KZ : Box (Keeps [] w w1) := hid (HK2.out.quiet KW1.out)
  cases ok with
  | false =>
    have HF : Box (res = false) := hid HE0.out
    clear HE0 HOK
    go_wp2_with fail
    go_ret
    exact ⟨by rw [HF.out]; rfl, KZ.out⟩
  | true =>
  obtain ⟨b0, b1, b2, c0, c1, c2, c3, c4, c5⟩ := B.out _ KW1.out
  have HRG : Box (regsB R x = true ∧ numB P f x = true) := hid (HOK.out rfl)
  have HE : Box (res = ((regT f x.dst).1 == 0)) := hid (by rw [HE0.out, Bool.true_and])
  clear HE0 HOK
  have hinT : inB x.dst R = true := regs_dst HRG.out.1 (by unfold isDef; rw [HOP.out]; rfl)
  have HNT : Box (tyB P (regT f x.dst) = true) := hid (reg_named HTY.out (by rw [← HRL.out]; exact hinT))
  have HT := hid fun (w' : World) (k : Keeps [] w w') => HTP.out x.dst w' k hinT
  clear hinT
  generalize regT f x.dst = T at *
  go_wp2_with fail
  refine (HT.out _ KZ.out).mono ?_
  rintro e w3 ⟨rfl, k3⟩
  have K3 := hid (KZ.out.quiet k3)
  clear k3
  have hfl : ∀ (w : World), (Instr.field 39 (.agg #[.int .i64 T.1, .int .i64 T.2]) 0).run Tryd.prog w = .ok (.int .i64 T.1) w := fun w => by kernel_rfl
  go_wp2_with fail
  go_ret
  exact ⟨by rw [HE.out]; rfl, K3.out⟩
set_option maxRecDepth 20000 in
set_option maxHeartbeats 8000000 in
theorem rfit_4 {w : World} {pb po : Nat} {P : Pr8} (h : PrC w pb po P) {f : Fu8} {ra : Option Addr} {R : Nat} (hr : RowsAt w 2 TyC ra f.regs) (hR : R = f.regs.length) (rp : Nat) (bv : Value) (hty : tysB P f.regs = true) (hif : P.ifs.all (fun l => insB l P.sigs.length) = true) (hfs : P.funcs.all (fun g => inB g.sig P.sigs.length) = true) (x : In8) {a : Option Addr} {cp : Nat} (hz : IntsAt w a x.args) (hl : x.args.length ≤ 1000) (hop : x.op = 4) : Calls Tryd.prog 17 #[.pointer (some ⟨pb, po, none⟩), fnV f.sig ra R rp bv, insV x (.slice a x.args.length cp)] w fun e w' => e = .returned (.bool (insOk P f x && ((regT f x.dst).1 != 0))) ∧ Keeps [] w w' := by
  have HRI := hid fun (w' : World) (k : Keeps [] w w') => rinstr_any (PrC.stays _ _ _ _ _ k h) (RowsAt.quiet hr TyC.stays k) hR rp bv hty hif x (cp := cp) (hz.kept k (fun _ _ _ => by simp)) hl
  have HTP := hid fun (r : Int) (w' : World) (k : Keeps [] w w') (hin : inB r R = true) => rtyp_reg (RowsAt.quiet hr TyC.stays k) hR rp f.sig bv r hin
  obtain ⟨res, hres⟩ : ∃ r, r = (insOk P f x && ((regT f x.dst).1 != 0)) := ⟨_, rfl⟩
  rw [← hres]
  have HE0 := hid hres
  have HOK : Box (insOk P f x = true → regsB R x = true ∧ numB P f x = true) := hid fun h1 => by
    rw [hR]
    exact insOk_parts h1
  have HOP := hid hop
  have HRR := hid hr
  have HRL := hid hR
  have HTY := hid hty
  have HIF := hid hif
  have HFS := hid hfs
  have HPR := hid h
  have HZ := hid hz
  have HLL := hid hl
  unfold insV fnV at HRI
  unfold fnV at HTP
  unfold insV fnV
  rw [hop] at HRI
  rw [hop]
  obtain ⟨W, hW⟩ : ∃ W, W = (w.alloc (.cells #[.int .i64 f.sig, .slice ra R rp, bv] 29)).alloc (.cells #[.int .i64 4, .int .i64 x.dst, .int .i64 x.a, .int .i64 x.b, .int .i64 x.n, .slice a x.args.length cp] 54) := ⟨_, rfl⟩
  have k2 : Keeps [] w W := by rw [hW]; exact (Keeps.alloc [] w _).quiet (Keeps.alloc [] _ _)
  have hn1 : W.heap[w.heap.size]? = some (.cells #[.int .i64 f.sig, .slice ra R rp, bv] 29 (0, 0)) := by rw [hW]; exact keep_heap (heap_new w _) (Keeps.alloc [] _ _)
  have hn2 : W.heap[w.heap.size + 1]? = some (.cells #[.int .i64 4, .int .i64 x.dst, .int .i64 x.a, .int .i64 x.b, .int .i64 x.n, .slice a x.args.length cp] 54 (0, 0)) := by
    have := heap_new (w.alloc (.cells #[.int .i64 f.sig, .slice ra R rp, bv] 29)) (.cells #[.int .i64 4, .int .i64 x.dst, .int .i64 x.a, .int .i64 x.b, .int .i64 x.n, .slice a x.args.length cp] 54)
    rw [World.size_alloc] at this
    rw [hW]
    exact this
  have B : Box (∀ w', Keeps [] W w' → w'.cell? ⟨w.heap.size, 0, none⟩ = some (.int .i64 f.sig) ∧ w'.cell? ⟨w.heap.size, 1, none⟩ = some (.slice ra R rp) ∧ w'.cell? ⟨w.heap.size, 2, none⟩ = some bv ∧ w'.cell? ⟨w.heap.size + 1, 0, none⟩ = some (.int .i64 4) ∧ w'.cell? ⟨w.heap.size + 1, 1, none⟩ = some (.int .i64 x.dst) ∧ w'.cell? ⟨w.heap.size + 1, 2, none⟩ = some (.int .i64 x.a) ∧ w'.cell? ⟨w.heap.size + 1, 3, none⟩ = some (.int .i64 x.b) ∧ w'.cell? ⟨w.heap.size + 1, 4, none⟩ = some (.int .i64 x.n) ∧ w'.cell? ⟨w.heap.size + 1, 5, none⟩ = some (.slice a x.args.length cp)) := hid fun w' k => ⟨hcell (keep_heap hn1 k) 0, hcell (keep_heap hn1 k) 1, hcell (keep_heap hn1 k) 2, hcell (keep_heap hn2 k) 0, hcell (keep_heap hn2 k) 1, hcell (keep_heap hn2 k) 2, hcell (keep_heap hn2 k) 3, hcell (keep_heap hn2 k) 4, hcell (keep_heap hn2 k) 5⟩
  have HWE := hid hW
  have HK2 := hid k2
  clear h hr hR hty hif hfs hz hl hop hW k2 hn1 hn2 hres
  generalize insOk P f x = ok at *
  go_enter Tryd.func17, Tryd.ntmps17
  go_upto_region 1 with fail
  rw [← HWE.out]
  clear HWE
  generalize w.heap.size = q at *
  obtain ⟨b0, b1, b2, c0, c1, c2, c3, c4, c5⟩ := B.out _ (Keeps.refl _ _)
  go_wp2_with fail
  refine (HRI.out _ HK2.out).mono ?_
  rintro e w1 ⟨rfl, k1⟩
  have KW1 := hid k1
  clear b0 b1 b2 c0 c1 c2 c3 c4 c5 k1 HRI
  have KZ : Box (Keeps [] w w1) := hid (HK2.out.quiet KW1.out)
  cases ok with
  | false =>
    have HF : Box (res = false) := hid HE0.out
    clear HE0 HOK
    go_wp2_with fail
    go_ret
    exact ⟨by rw [HF.out]; rfl, KZ.out⟩
  | true =>
  obtain ⟨b0, b1, b2, c0, c1, c2, c3, c4, c5⟩ := B.out _ KW1.out
  have HRG : Box (regsB R x = true ∧ numB P f x = true) := hid (HOK.out rfl)
  have HE : Box (res = ((regT f x.dst).1 != 0)) := hid (by rw [HE0.out, Bool.true_and])
  clear HE0 HOK
  have hinT : inB x.dst R = true := regs_dst HRG.out.1 (by unfold isDef; rw [HOP.out]; rfl)
  have HNT : Box (tyB P (regT f x.dst) = true) := hid (reg_named HTY.out (by rw [← HRL.out]; exact hinT))
  have HT := hid fun (w' : World) (k : Keeps [] w w') => HTP.out x.dst w' k hinT
  clear hinT
  generalize regT f x.dst = T at *
  go_wp2_with fail
  refine (HT.out _ KZ.out).mono ?_
  rintro e w3 ⟨rfl, k3⟩
  have K3 := hid (KZ.out.quiet k3)
  clear k3
  have hfl : ∀ (w : World), (Instr.field 39 (.agg #[.int .i64 T.1, .int .i64 T.2]) 0).run Tryd.prog w = .ok (.int .i64 T.1) w := fun w => by kernel_rfl
  go_wp2_with fail
  go_ret
  exact ⟨by rw [HE.out]; rfl, K3.out⟩
set_option maxRecDepth 20000 in
set_option maxHeartbeats 8000000 in
theorem rfit_5 {w : World} {pb po : Nat} {P : Pr8} (h : PrC w pb po P) {f : Fu8} {ra : Option Addr} {R : Nat} (hr : RowsAt w 2 TyC ra f.regs) (hR : R = f.regs.length) (rp : Nat) (bv : Value) (hty : tysB P f.regs = true) (hif : P.ifs.all (fun l => insB l P.sigs.length) = true) (hfs : P.funcs.all (fun g => inB g.sig P.sigs.length) = true) (x : In8) {a : Option Addr} {cp : Nat} (hz : IntsAt w a x.args) (hl : x.args.length ≤ 1000) (hop : x.op = 5) : Calls Tryd.prog 17 #[.pointer (some ⟨pb, po, none⟩), fnV f.sig ra R rp bv, insV x (.slice a x.args.length cp)] w fun e w' => e = .returned (.bool (insOk P f x && ((regT f x.dst).1 == 1))) ∧ Keeps [] w w' := by
  have HRI := hid fun (w' : World) (k : Keeps [] w w') => rinstr_any (PrC.stays _ _ _ _ _ k h) (RowsAt.quiet hr TyC.stays k) hR rp bv hty hif x (cp := cp) (hz.kept k (fun _ _ _ => by simp)) hl
  have HTP := hid fun (r : Int) (w' : World) (k : Keeps [] w w') (hin : inB r R = true) => rtyp_reg (RowsAt.quiet hr TyC.stays k) hR rp f.sig bv r hin
  obtain ⟨res, hres⟩ : ∃ r, r = (insOk P f x && ((regT f x.dst).1 == 1)) := ⟨_, rfl⟩
  rw [← hres]
  have HE0 := hid hres
  have HOK : Box (insOk P f x = true → regsB R x = true ∧ numB P f x = true) := hid fun h1 => by
    rw [hR]
    exact insOk_parts h1
  have HOP := hid hop
  have HRR := hid hr
  have HRL := hid hR
  have HTY := hid hty
  have HIF := hid hif
  have HFS := hid hfs
  have HPR := hid h
  have HZ := hid hz
  have HLL := hid hl
  unfold insV fnV at HRI
  unfold fnV at HTP
  unfold insV fnV
  rw [hop] at HRI
  rw [hop]
  obtain ⟨W, hW⟩ : ∃ W, W = (w.alloc (.cells #[.int .i64 f.sig, .slice ra R rp, bv] 29)).alloc (.cells #[.int .i64 5, .int .i64 x.dst, .int .i64 x.a, .int .i64 x.b, .int .i64 x.n, .slice a x.args.length cp] 54) := ⟨_, rfl⟩
  have k2 : Keeps [] w W := by rw [hW]; exact (Keeps.alloc [] w _).quiet (Keeps.alloc [] _ _)
  have hn1 : W.heap[w.heap.size]? = some (.cells #[.int .i64 f.sig, .slice ra R rp, bv] 29 (0, 0)) := by rw [hW]; exact keep_heap (heap_new w _) (Keeps.alloc [] _ _)
  have hn2 : W.heap[w.heap.size + 1]? = some (.cells #[.int .i64 5, .int .i64 x.dst, .int .i64 x.a, .int .i64 x.b, .int .i64 x.n, .slice a x.args.length cp] 54 (0, 0)) := by
    have := heap_new (w.alloc (.cells #[.int .i64 f.sig, .slice ra R rp, bv] 29)) (.cells #[.int .i64 5, .int .i64 x.dst, .int .i64 x.a, .int .i64 x.b, .int .i64 x.n, .slice a x.args.length cp] 54)
    rw [World.size_alloc] at this
    rw [hW]
    exact this
  have B : Box (∀ w', Keeps [] W w' → w'.cell? ⟨w.heap.size, 0, none⟩ = some (.int .i64 f.sig) ∧ w'.cell? ⟨w.heap.size, 1, none⟩ = some (.slice ra R rp) ∧ w'.cell? ⟨w.heap.size, 2, none⟩ = some bv ∧ w'.cell? ⟨w.heap.size + 1, 0, none⟩ = some (.int .i64 5) ∧ w'.cell? ⟨w.heap.size + 1, 1, none⟩ = some (.int .i64 x.dst) ∧ w'.cell? ⟨w.heap.size + 1, 2, none⟩ = some (.int .i64 x.a) ∧ w'.cell? ⟨w.heap.size + 1, 3, none⟩ = some (.int .i64 x.b) ∧ w'.cell? ⟨w.heap.size + 1, 4, none⟩ = some (.int .i64 x.n) ∧ w'.cell? ⟨w.heap.size + 1, 5, none⟩ = some (.slice a x.args.length cp)) := hid fun w' k => ⟨hcell (keep_heap hn1 k) 0, hcell (keep_heap hn1 k) 1, hcell (keep_heap hn1 k) 2, hcell (keep_heap hn2 k) 0, hcell (keep_heap hn2 k) 1, hcell (keep_heap hn2 k) 2, hcell (keep_heap hn2 k) 3, hcell (keep_heap hn2 k) 4, hcell (keep_heap hn2 k) 5⟩
  have HWE := hid hW
  have HK2 := hid k2
  clear h hr hR hty hif hfs hz hl hop hW k2 hn1 hn2 hres
  generalize insOk P f x = ok at *
  go_enter Tryd.func17, Tryd.ntmps17
  go_upto_region 1 with fail
  rw [← HWE.out]
  clear HWE
  generalize w.heap.size = q at *
  obtain ⟨b0, b1, b2, c0, c1, c2, c3, c4, c5⟩ := B.out _ (Keeps.refl _ _)
  go_wp2_with fail
  refine (HRI.out _ HK2.out).mono ?_
  rintro e w1 ⟨rfl, k1⟩
  have KW1 := hid k1
  clear b0 b1 b2 c0 c1 c2 c3 c4 c5 k1 HRI
  have KZ : Box (Keeps [] w w1) := hid (HK2.out.quiet KW1.out)
  cases ok with
  | false =>
    have HF : Box (res = false) := hid HE0.out
    clear HE0 HOK
    go_wp2_with fail
    go_ret
    exact ⟨by rw [HF.out]; rfl, KZ.out⟩
  | true =>
  obtain ⟨b0, b1, b2, c0, c1, c2, c3, c4, c5⟩ := B.out _ KW1.out
  have HRG : Box (regsB R x = true ∧ numB P f x = true) := hid (HOK.out rfl)
  have HE : Box (res = ((regT f x.dst).1 == 1)) := hid (by rw [HE0.out, Bool.true_and])
  clear HE0 HOK
  have hinT : inB x.dst R = true := regs_dst HRG.out.1 (by unfold isDef; rw [HOP.out]; rfl)
  have HNT : Box (tyB P (regT f x.dst) = true) := hid (reg_named HTY.out (by rw [← HRL.out]; exact hinT))
  have HT := hid fun (w' : World) (k : Keeps [] w w') => HTP.out x.dst w' k hinT
  clear hinT
  generalize regT f x.dst = T at *
  go_wp2_with fail
  refine (HT.out _ KZ.out).mono ?_
  rintro e w3 ⟨rfl, k3⟩
  have K3 := hid (KZ.out.quiet k3)
  clear k3
  have hfl : ∀ (w : World), (Instr.field 39 (.agg #[.int .i64 T.1, .int .i64 T.2]) 0).run Tryd.prog w = .ok (.int .i64 T.1) w := fun w => by kernel_rfl
  go_wp2_with fail
  go_ret
  exact ⟨by rw [HE.out]; rfl, K3.out⟩
end Go.Proofs.YtlopddflbhnjdaaDoor

namespace Go.Proofs.YtlopddflbhnjdaaDoor
open Go.RowKit

set_option maxRecDepth 20000 in
set_option maxHeartbeats 8000000 in
theorem rfit_2 {w : World} {pb po : Nat} {P : Pr8} (h : PrC w pb po P) {f : Fu8} {ra : Option Addr} {R : Nat} (hr : RowsAt w 2 TyC ra f.regs) (hR : R = f.regs.length) (rp : Nat) (bv : Value) (hty : tysB P f.regs = true) (hif : P.ifs.all (fun l => insB l P.sigs.length) = true) (hfs : P.funcs.all (fun g => inB g.sig P.sigs.length) = true) (x : In8) {a : Option Addr} {cp : Nat} (hz : IntsAt w a x.args) (hl : x.args.length ≤ 1000) (hop : x.op = 2) : Calls Tryd.prog 17 #[.pointer (some ⟨pb, po, none⟩), fnV f.sig ra R rp bv, insV x (.slice a x.args.length cp)] w fun e w' => e = .returned (.bool (insOk P f x && ((regT f x.a).1 == 0 && ((regT f x.b).1 == 0 && (regT f x.dst).1 == 0)))) ∧ Keeps [] w w' := by
  have HRI := hid fun (w' : World) (k : Keeps [] w w') => rinstr_any (PrC.stays _ _ _ _ _ k h) (RowsAt.quiet hr TyC.stays k) hR rp bv hty hif x (cp := cp) (hz.kept k (fun _ _ _ => by simp)) hl
  have HTP := hid fun (r : Int) (w' : World) (k : Keeps [] w w') (hin : inB r R = true) => rtyp_reg (RowsAt.quiet hr TyC.stays k) hR rp f.sig bv r hin
  obtain ⟨res, hres⟩ : ∃ r, r = (insOk P f x && ((regT f x.a).1 == 0 && ((regT f x.b).1 == 0 && (regT f x.dst).1 == 0))) := ⟨_, rfl⟩
  rw [← hres]
  have HE0 := hid hres
  have HOK : Box (insOk P f x = true → regsB R x = true ∧ numB P f x = true) := hid fun h1 => by
    rw [hR]
    exact insOk_parts h1
  have HOP := hid hop
  have HRR := hid hr
  have HRL := hid hR
  have HTY := hid hty
  have HIF := hid hif
  have HFS := hid hfs
  have HPR := hid h
  have HZ := hid hz
  have HLL := hid hl
  unfold insV fnV at HRI
  unfold fnV at HTP
  unfold insV fnV
  rw [hop] at HRI
  rw [hop]
  obtain ⟨W, hW⟩ : ∃ W, W = (w.alloc (.cells #[.int .i64 f.sig, .slice ra R rp, bv] 29)).alloc (.cells #[.int .i64 2, .int .i64 x.dst, .int .i64 x.a, .int .i64 x.b, .int .i64 x.n, .slice a x.args.length cp] 54) := ⟨_, rfl⟩
  have k2 : Keeps [] w W := by rw [hW]; exact (Keeps.alloc [] w _).quiet (Keeps.alloc [] _ _)
  have hn1 : W.heap[w.heap.size]? = some (.cells #[.int .i64 f.sig, .slice ra R rp, bv] 29 (0, 0)) := by rw [hW]; exact keep_heap (heap_new w _) (Keeps.alloc [] _ _)
  have hn2 : W.heap[w.heap.size + 1]? = some (.cells #[.int .i64 2, .int .i64 x.dst, .int .i64 x.a, .int .i64 x.b, .int .i64 x.n, .slice a x.args.length cp] 54 (0, 0)) := by
    have := heap_new (w.alloc (.cells #[.int .i64 f.sig, .slice ra R rp, bv] 29)) (.cells #[.int .i64 2, .int .i64 x.dst, .int .i64 x.a, .int .i64 x.b, .int .i64 x.n, .slice a x.args.length cp] 54)
    rw [World.size_alloc] at this
    rw [hW]
    exact this
  have B : Box (∀ w', Keeps [] W w' → w'.cell? ⟨w.heap.size, 0, none⟩ = some (.int .i64 f.sig) ∧ w'.cell? ⟨w.heap.size, 1, none⟩ = some (.slice ra R rp) ∧ w'.cell? ⟨w.heap.size, 2, none⟩ = some bv ∧ w'.cell? ⟨w.heap.size + 1, 0, none⟩ = some (.int .i64 2) ∧ w'.cell? ⟨w.heap.size + 1, 1, none⟩ = some (.int .i64 x.dst) ∧ w'.cell? ⟨w.heap.size + 1, 2, none⟩ = some (.int .i64 x.a) ∧ w'.cell? ⟨w.heap.size + 1, 3, none⟩ = some (.int .i64 x.b) ∧ w'.cell? ⟨w.heap.size + 1, 4, none⟩ = some (.int .i64 x.n) ∧ w'.cell? ⟨w.heap.size + 1, 5, none⟩ = some (.slice a x.args.length cp)) := hid fun w' k => ⟨hcell (keep_heap hn1 k) 0, hcell (keep_heap hn1 k) 1, hcell (keep_heap hn1 k) 2, hcell (keep_heap hn2 k) 0, hcell (keep_heap hn2 k) 1, hcell (keep_heap hn2 k) 2, hcell (keep_heap hn2 k) 3, hcell (keep_heap hn2 k) 4, hcell (keep_heap hn2 k) 5⟩
  have HWE := hid hW
  have HK2 := hid k2
  clear h hr hR hty hif hfs hz hl hop hW k2 hn1 hn2 hres
  generalize insOk P f x = ok at *
  go_enter Tryd.func17, Tryd.ntmps17
  go_upto_region 1 with fail
  rw [← HWE.out]
  clear HWE
  generalize w.heap.size = q at *
  obtain ⟨b0, b1, b2, c0, c1, c2, c3, c4, c5⟩ := B.out _ (Keeps.refl _ _)
  go_wp2_with fail
  refine (HRI.out _ HK2.out).mono ?_
  rintro e w1 ⟨rfl, k1⟩
  have KW1 := hid k1
  clear b0 b1 b2 c0 c1 c2 c3 c4 c5 k1 HRI
  have KZ : Box (Keeps [] w w1) := hid (HK2.out.quiet KW1.out)
  cases ok with
  | false =>
    have HF : Box (res = false) := hid HE0.out
    clear HE0 HOK
    go_wp2_with fail
    go_ret
    exact ⟨by rw [HF.out]; rfl, KZ.out⟩
  | true =>
  obtain ⟨b0, b1, b2, c0, c1, c2, c3, c4, c5⟩ := B.out _ KW1.out
  have HRG : Box (regsB R x = true ∧ numB P f x = true) := hid (HOK.out rfl)
  have HE : Box (res = ((regT f x.a).1 == 0 && ((regT f x.b).1 == 0 && (regT f x.dst).1 == 0))) := hid (by rw [HE0.out, Bool.true_and])
  clear HE0 HOK
  have hinT : inB x.dst R = true := regs_dst HRG.out.1 (by unfold isDef; rw [HOP.out]; rfl)
  have HNT : Box (tyB P (regT f x.dst) = true) := hid (reg_named HTY.out (by rw [← HRL.out]; exact hinT))
  have HT := hid fun (w' : World) (k : Keeps [] w w') => HTP.out x.dst w' k hinT
  clear hinT
  have hinU : inB x.a R = true := regs_use HRG.out.1 0 x.a (by unfold usesL; rw [HOP.out]; rfl)
  have HNU : Box (tyB P (regT f x.a) = true) := hid (reg_named HTY.out (by rw [← HRL.out]; exact hinU))
  have HU := hid fun (w' : World) (k : Keeps [] w w') => HTP.out x.a w' k hinU
  clear hinU
  have hinV : inB x.b R = true := regs_use HRG.out.1 1 x.b (by unfold usesL; rw [HOP.out]; rfl)
  have HNV : Box (tyB P (regT f x.b) = true) := hid (reg_named HTY.out (by rw [← HRL.out]; exact hinV))
  have HV := hid fun (w' : World) (k : Keeps [] w w') => HTP.out x.b w' k hinV
  clear hinV
  generalize regT f x.dst = T at *
  generalize regT f x.a = U at *
  generalize regT f x.b = V at *
  have hflT : ∀ (w : World), (Instr.field 39 (.agg #[.int .i64 T.1, .int .i64 T.2]) 0).run Tryd.prog w = .ok (.int .i64 T.1) w := fun w => by kernel_rfl
  have hflU : ∀ (w : World), (Instr.field 39 (.agg #[.int .i64 U.1, .int .i64 U.2]) 0).run Tryd.prog w = .ok (.int .i64 U.1) w := fun w => by kernel_rfl
  have hflV : ∀ (w : World), (Instr.field 39 (.agg #[.int .i64 V.1, .int .i64 V.2]) 0).run Tryd.prog w = .ok (.int .i64 V.1) w := fun w => by kernel_rfl
  go_wp2_with fail
  refine (HT.out _ KZ.out).mono ?_
  rintro e w3 ⟨rfl, k3⟩
  have K3 := hid (KZ.out.quiet k3)
  have KW3 := hid (KW1.out.quiet k3)
  clear k3 b0 b1 b2 c0 c1 c2 c3 c4 c5
  by_cases gT : T.1 = 0
  case neg =>
    have HF : Box (res = false) := hid (by rw [HE.out, neb gT]; simp)
    have oT := neb gT
    clear gT HE
    go_wp2_with fail
    go_ret
    exact ⟨by rw [HF.out]; rfl, K3.out⟩
  have oT := eqb gT
  have HE2 : Box (res = (U.1 == 0 && V.1 == 0)) := hid (by rw [HE.out, oT, Bool.and_true])
  clear gT HE
  obtain ⟨b0, b1, b2, c0, c1, c2, c3, c4, c5⟩ := B.out _ KW3.out
  go_wp2_with fail
  refine (HU.out _ K3.out).mono ?_
  rintro e w4 ⟨rfl, k4⟩
  have K4 := hid (K3.out.quiet k4)
  have KW4 := hid (KW3.out.quiet k4)
  clear k4 b0 b1 b2 c0 c1 c2 c3 c4 c5
  by_cases gU : U.1 = 0
  case neg =>
    have HF : Box (res = false) := hid (by rw [HE2.out, neb gU]; simp)
    have oU := neb gU
    clear gU HE2
    go_wp2_with fail
    go_ret
    exact ⟨by rw [HF.out]; rfl, K4.out⟩
  have oU := eqb gU
  have HE3 : Box (res = (V.1 == 0)) := hid (by rw [HE2.out, oU, Bool.true_and])
  clear gU HE2
  obtain ⟨b0, b1, b2, c0, c1, c2, c3, c4, c5⟩ := B.out _ KW4.out
  go_wp2_with fail
  refine (HV.out _ K4.out).mono ?_
  rintro e w5 ⟨rfl, k5⟩
  have K5 := hid (K4.out.quiet k5)
  clear k5
  go_wp2_with fail
  go_ret
  exact ⟨by rw [HE3.out]; rfl, K5.out⟩
set_option maxRecDepth 20000 in
set_option maxHeartbeats 8000000 in
theorem rfit_9 {w : World} {pb po : Nat} {P : Pr8} (h : PrC w pb po P) {f : Fu8} {ra : Option Addr} {R : Nat} (hr : RowsAt w 2 TyC ra f.regs) (hR : R = f.regs.length) (rp : Nat) (bv : Value) (hty : tysB P f.regs = true) (hif : P.ifs.all (fun l => insB l P.sigs.length) = true) (hfs : P.funcs.all (fun g => inB g.sig P.sigs.length) = true) (x : In8) {a : Option Addr} {cp : Nat} (hz : IntsAt w a x.args) (hl : x.args.length ≤ 1000) (hop : x.op = 9) : Calls Tryd.prog 17 #[.pointer (some ⟨pb, po, none⟩), fnV f.sig ra R rp bv, insV x (.slice a x.args.length cp)] w fun e w' => e = .returned (.bool (insOk P f x && ((regT f x.a).1 == 1))) ∧ Keeps [] w w' := by
  have HRI := hid fun (w' : World) (k : Keeps [] w w') => rinstr_any (PrC.stays _ _ _ _ _ k h) (RowsAt.quiet hr TyC.stays k) hR rp bv hty hif x (cp := cp) (hz.kept k (fun _ _ _ => by simp)) hl
  have HTP := hid fun (r : Int) (w' : World) (k : Keeps [] w w') (hin : inB r R = true) => rtyp_reg (RowsAt.quiet hr TyC.stays k) hR rp f.sig bv r hin
  obtain ⟨res, hres⟩ : ∃ r, r = (insOk P f x && ((regT f x.a).1 == 1)) := ⟨_, rfl⟩
  rw [← hres]
  have HE0 := hid hres
  have HOK : Box (insOk P f x = true → regsB R x = true ∧ numB P f x = true) := hid fun h1 => by
    rw [hR]
    exact insOk_parts h1
  have HOP := hid hop
  have HRR := hid hr
  have HRL := hid hR
  have HTY := hid hty
  have HIF := hid hif
  have HFS := hid hfs
  have HPR := hid h
  have HZ := hid hz
  have HLL := hid hl
  unfold insV fnV at HRI
  unfold fnV at HTP
  unfold insV fnV
  rw [hop] at HRI
  rw [hop]
  obtain ⟨W, hW⟩ : ∃ W, W = (w.alloc (.cells #[.int .i64 f.sig, .slice ra R rp, bv] 29)).alloc (.cells #[.int .i64 9, .int .i64 x.dst, .int .i64 x.a, .int .i64 x.b, .int .i64 x.n, .slice a x.args.length cp] 54) := ⟨_, rfl⟩
  have k2 : Keeps [] w W := by rw [hW]; exact (Keeps.alloc [] w _).quiet (Keeps.alloc [] _ _)
  have hn1 : W.heap[w.heap.size]? = some (.cells #[.int .i64 f.sig, .slice ra R rp, bv] 29 (0, 0)) := by rw [hW]; exact keep_heap (heap_new w _) (Keeps.alloc [] _ _)
  have hn2 : W.heap[w.heap.size + 1]? = some (.cells #[.int .i64 9, .int .i64 x.dst, .int .i64 x.a, .int .i64 x.b, .int .i64 x.n, .slice a x.args.length cp] 54 (0, 0)) := by
    have := heap_new (w.alloc (.cells #[.int .i64 f.sig, .slice ra R rp, bv] 29)) (.cells #[.int .i64 9, .int .i64 x.dst, .int .i64 x.a, .int .i64 x.b, .int .i64 x.n, .slice a x.args.length cp] 54)
    rw [World.size_alloc] at this
    rw [hW]
    exact this
  have B : Box (∀ w', Keeps [] W w' → w'.cell? ⟨w.heap.size, 0, none⟩ = some (.int .i64 f.sig) ∧ w'.cell? ⟨w.heap.size, 1, none⟩ = some (.slice ra R rp) ∧ w'.cell? ⟨w.heap.size, 2, none⟩ = some bv ∧ w'.cell? ⟨w.heap.size + 1, 0, none⟩ = some (.int .i64 9) ∧ w'.cell? ⟨w.heap.size + 1, 1, none⟩ = some (.int .i64 x.dst) ∧ w'.cell? ⟨w.heap.size + 1, 2, none⟩ = some (.int .i64 x.a) ∧ w'.cell? ⟨w.heap.size + 1, 3, none⟩ = some (.int .i64 x.b) ∧ w'.cell? ⟨w.heap.size + 1, 4, none⟩ = some (.int .i64 x.n) ∧ w'.cell? ⟨w.heap.size + 1, 5, none⟩ = some (.slice a x.args.length cp)) := hid fun w' k => ⟨hcell (keep_heap hn1 k) 0, hcell (keep_heap hn1 k) 1, hcell (keep_heap hn1 k) 2, hcell (keep_heap hn2 k) 0, hcell (keep_heap hn2 k) 1, hcell (keep_heap hn2 k) 2, hcell (keep_heap hn2 k) 3, hcell (keep_heap hn2 k) 4, hcell (keep_heap hn2 k) 5⟩
  have HWE := hid hW
  have HK2 := hid k2
  clear h hr hR hty hif hfs hz hl hop hW k2 hn1 hn2 hres
  generalize insOk P f x = ok at *
  go_enter Tryd.func17, Tryd.ntmps17
  go_upto_region 1 with fail
  rw [← HWE.out]
  clear HWE
  generalize w.heap.size = q at *
  obtain ⟨b0, b1, b2, c0, c1, c2, c3, c4, c5⟩ := B.out _ (Keeps.refl _ _)
  go_wp2_with fail
  refine (HRI.out _ HK2.out).mono ?_
  rintro e w1 ⟨rfl, k1⟩
  have KW1 := hid k1
  clear b0 b1 b2 c0 c1 c2 c3 c4 c5 k1 HRI
  have KZ : Box (Keeps [] w w1) := hid (HK2.out.quiet KW1.out)
  cases ok with
  | false =>
    have HF : Box (res = false) := hid HE0.out
    clear HE0 HOK
    go_wp2_with fail
    go_ret
    exact ⟨by rw [HF.out]; rfl, KZ.out⟩
  | true =>
  obtain ⟨b0, b1, b2, c0, c1, c2, c3, c4, c5⟩ := B.out _ KW1.out
  have HRG : Box (regsB R x = true ∧ numB P f x = true) := hid (HOK.out rfl)
  have HE : Box (res = ((regT f x.a).1 == 1)) := hid (by rw [HE0.out, Bool.true_and])
  clear HE0 HOK
  have hinT : inB x.a R = true := regs_use HRG.out.1 0 x.a (by unfold usesL; rw [HOP.out]; rfl)
  have HNT : Box (tyB P (regT f x.a) = true) := hid (reg_named HTY.out (by rw [← HRL.out]; exact hinT))
  have HT := hid fun (w' : World) (k : Keeps [] w w') => HTP.out x.a w' k hinT
  clear hinT
  generalize regT f x.a = T at *
  go_wp2_with fail
  refine (HT.out _ KZ.out).mono ?_
  rintro e w3 ⟨rfl, k3⟩
  have K3 := hid (KZ.out.quiet k3)
  clear k3
  have hfl : ∀ (w : World), (Instr.field 39 (.agg #[.int .i64 T.1, .int .i64 T.2]) 0).run Tryd.prog w = .ok (.int .i64 T.1) w := fun w => by kernel_rfl
  go_wp2_with fail
  go_ret
  exact ⟨by rw [HE.out]; rfl, K3.out⟩
set_option maxRecDepth 20000 in
set_option maxHeartbeats 8000000 in
theorem rfit_15 {w : World} {pb po : Nat} {P : Pr8} (h : PrC w pb po P) {f : Fu8} {ra : Option Addr} {R : Nat} (hr : RowsAt w 2 TyC ra f.regs) (hR : R = f.regs.length) (rp : Nat) (bv : Value) (hty : tysB P f.regs = true) (hif : P.ifs.all (fun l => insB l P.sigs.length) = true) (hfs : P.funcs.all (fun g => inB g.sig P.sigs.length) = true) (x : In8) {a : Option Addr} {cp : Nat} (hz : IntsAt w a x.args) (hl : x.args.length ≤ 1000) (hop : x.op = 15) : Calls Tryd.prog 17 #[.pointer (some ⟨pb, po, none⟩), fnV f.sig ra R rp bv, insV x (.slice a x.args.length cp)] w fun e w' => e = .returned (.bool (insOk P f x && ((regT f x.a).1 == 0))) ∧ Keeps [] w w' := by
  have HRI := hid fun (w' : World) (k : Keeps [] w w') => rinstr_any (PrC.stays _ _ _ _ _ k h) (RowsAt.quiet hr TyC.stays k) hR rp bv hty hif x (cp := cp) (hz.kept k (fun _ _ _ => by simp)) hl
  have HTP := hid fun (r : Int) (w' : World) (k : Keeps [] w w') (hin : inB r R = true) => rtyp_reg (RowsAt.quiet hr TyC.stays k) hR rp f.sig bv r hin
  obtain ⟨res, hres⟩ : ∃ r, r = (insOk P f x && ((regT f x.a).1 == 0)) := ⟨_, rfl⟩
  rw [← hres]
  have HE0 := hid hres
  have HOK : Box (insOk P f x = true → regsB R x = true ∧ numB P f x = true) := hid fun h1 => by
    rw [hR]
    exact insOk_parts h1
  have HOP := hid hop
  have HRR := hid hr
  have HRL := hid hR
  have HTY := hid hty
  have HIF := hid hif
  have HFS := hid hfs
  have HPR := hid h
  have HZ := hid hz
  have HLL := hid hl
  unfold insV fnV at HRI
  unfold fnV at HTP
  unfold insV fnV
  rw [hop] at HRI
  rw [hop]
  obtain ⟨W, hW⟩ : ∃ W, W = (w.alloc (.cells #[.int .i64 f.sig, .slice ra R rp, bv] 29)).alloc (.cells #[.int .i64 15, .int .i64 x.dst, .int .i64 x.a, .int .i64 x.b, .int .i64 x.n, .slice a x.args.length cp] 54) := ⟨_, rfl⟩
  have k2 : Keeps [] w W := by rw [hW]; exact (Keeps.alloc [] w _).quiet (Keeps.alloc [] _ _)
  have hn1 : W.heap[w.heap.size]? = some (.cells #[.int .i64 f.sig, .slice ra R rp, bv] 29 (0, 0)) := by rw [hW]; exact keep_heap (heap_new w _) (Keeps.alloc [] _ _)
  have hn2 : W.heap[w.heap.size + 1]? = some (.cells #[.int .i64 15, .int .i64 x.dst, .int .i64 x.a, .int .i64 x.b, .int .i64 x.n, .slice a x.args.length cp] 54 (0, 0)) := by
    have := heap_new (w.alloc (.cells #[.int .i64 f.sig, .slice ra R rp, bv] 29)) (.cells #[.int .i64 15, .int .i64 x.dst, .int .i64 x.a, .int .i64 x.b, .int .i64 x.n, .slice a x.args.length cp] 54)
    rw [World.size_alloc] at this
    rw [hW]
    exact this
  have B : Box (∀ w', Keeps [] W w' → w'.cell? ⟨w.heap.size, 0, none⟩ = some (.int .i64 f.sig) ∧ w'.cell? ⟨w.heap.size, 1, none⟩ = some (.slice ra R rp) ∧ w'.cell? ⟨w.heap.size, 2, none⟩ = some bv ∧ w'.cell? ⟨w.heap.size + 1, 0, none⟩ = some (.int .i64 15) ∧ w'.cell? ⟨w.heap.size + 1, 1, none⟩ = some (.int .i64 x.dst) ∧ w'.cell? ⟨w.heap.size + 1, 2, none⟩ = some (.int .i64 x.a) ∧ w'.cell? ⟨w.heap.size + 1, 3, none⟩ = some (.int .i64 x.b) ∧ w'.cell? ⟨w.heap.size + 1, 4, none⟩ = some (.int .i64 x.n) ∧ w'.cell? ⟨w.heap.size + 1, 5, none⟩ = some (.slice a x.args.length cp)) := hid fun w' k => ⟨hcell (keep_heap hn1 k) 0, hcell (keep_heap hn1 k) 1, hcell (keep_heap hn1 k) 2, hcell (keep_heap hn2 k) 0, hcell (keep_heap hn2 k) 1, hcell (keep_heap hn2 k) 2, hcell (keep_heap hn2 k) 3, hcell (keep_heap hn2 k) 4, hcell (keep_heap hn2 k) 5⟩
  have HWE := hid hW
  have HK2 := hid k2
  clear h hr hR hty hif hfs hz hl hop hW k2 hn1 hn2 hres
  generalize insOk P f x = ok at *
  go_enter Tryd.func17, Tryd.ntmps17
  go_upto_region 1 with fail
  rw [← HWE.out]
  clear HWE
  generalize w.heap.size = q at *
  obtain ⟨b0, b1, b2, c0, c1, c2, c3, c4, c5⟩ := B.out _ (Keeps.refl _ _)
  go_wp2_with fail
  refine (HRI.out _ HK2.out).mono ?_
  rintro e w1 ⟨rfl, k1⟩
  have KW1 := hid k1
  clear b0 b1 b2 c0 c1 c2 c3 c4 c5 k1 HRI
  have KZ : Box (Keeps [] w w1) := hid (HK2.out.quiet KW1.out)
  cases ok with
  | false =>
    have HF : Box (res = false) := hid HE0.out
    clear HE0 HOK
    go_wp2_with fail
    go_ret
    exact ⟨by rw [HF.out]; rfl, KZ.out⟩
  | true =>
  obtain ⟨b0, b1, b2, c0, c1, c2, c3, c4, c5⟩ := B.out _ KW1.out
  have HRG : Box (regsB R x = true ∧ numB P f x = true) := hid (HOK.out rfl)
  have HE : Box (res = ((regT f x.a).1 == 0)) := hid (by rw [HE0.out, Bool.true_and])
  clear HE0 HOK
  have hinT : inB x.a R = true := regs_use HRG.out.1 0 x.a (by unfold usesL; rw [HOP.out]; rfl)
  have HNT : Box (tyB P (regT f x.a) = true) := hid (reg_named HTY.out (by rw [← HRL.out]; exact hinT))
  have HT := hid fun (w' : World) (k : Keeps [] w w') => HTP.out x.a w' k hinT
  clear hinT
  generalize regT f x.a = T at *
  go_wp2_with fail
  refine (HT.out _ KZ.out).mono ?_
  rintro e w3 ⟨rfl, k3⟩
  have K3 := hid (KZ.out.quiet k3)
  clear k3
  have hfl : ∀ (w : World), (Instr.field 39 (.agg #[.int .i64 T.1, .int .i64 T.2]) 0).run Tryd.prog w = .ok (.int .i64 T.1) w := fun w => by kernel_rfl
  go_wp2_with fail
  go_ret
  exact ⟨by rw [HE.out]; rfl, K3.out⟩
set_option maxRecDepth 20000 in
set_option maxHeartbeats 8000000 in
theorem rfit_6 {w : World} {pb po : Nat} {P : Pr8} (h : PrC w pb po P) {f : Fu8} {ra : Option Addr} {R : Nat} (hr : RowsAt w 2 TyC ra f.regs) (hR : R = f.regs.length) (rp : Nat) (bv : Value) (hty : tysB P f.regs = true) (hif : P.ifs.all (fun l => insB l P.sigs.length) = true) (hfs : P.funcs.all (fun g => inB g.sig P.sigs.length) = true) (x : In8) {a : Option Addr} {cp : Nat} (hz : IntsAt w a x.args) (hl : x.args.length ≤ 1000) (hop : x.op = 6) : Calls Tryd.prog 17 #[.pointer (some ⟨pb, po, none⟩), fnV f.sig ra R rp bv, insV x (.slice a x.args.length cp)] w fun e w' => e = .returned (.bool (insOk P f x && (tyE (regT f x.dst) (regT f x.a)))) ∧ Keeps [] w w' := by
  have HRI := hid fun (w' : World) (k : Keeps [] w w') => rinstr_any (PrC.stays _ _ _ _ _ k h) (RowsAt.quiet hr TyC.stays k) hR rp bv hty hif x (cp := cp) (hz.kept k (fun _ _ _ => by simp)) hl
  have HTP := hid fun (r : Int) (w' : World) (k : Keeps [] w w') (hin : inB r R = true) => rtyp_reg (RowsAt.quiet hr TyC.stays k) hR rp f.sig bv r hin
  obtain ⟨res, hres⟩ : ∃ r, r = (insOk P f x && (tyE (regT f x.dst) (regT f x.a))) := ⟨_, rfl⟩
  rw [← hres]
  have HE0 := hid hres
  have HOK : Box (insOk P f x = true → regsB R x = true ∧ numB P f x = true) := hid fun h1 => by
    rw [hR]
    exact insOk_parts h1
  have HOP := hid hop
  have HRR := hid hr
  have HRL := hid hR
  have HTY := hid hty
  have HIF := hid hif
  have HFS := hid hfs
  have HPR := hid h
  have HZ := hid hz
  have HLL := hid hl
  unfold insV fnV at HRI
  unfold fnV at HTP
  unfold insV fnV
  rw [hop] at HRI
  rw [hop]
  obtain ⟨W, hW⟩ : ∃ W, W = (w.alloc (.cells #[.int .i64 f.sig, .slice ra R rp, bv] 29)).alloc (.cells #[.int .i64 6, .int .i64 x.dst, .int .i64 x.a, .int .i64 x.b, .int .i64 x.n, .slice a x.args.length cp] 54) := ⟨_, rfl⟩
  have k2 : Keeps [] w W := by rw [hW]; exact (Keeps.alloc [] w _).quiet (Keeps.alloc [] _ _)
  have hn1 : W.heap[w.heap.size]? = some (.cells #[.int .i64 f.sig, .slice ra R rp, bv] 29 (0, 0)) := by rw [hW]; exact keep_heap (heap_new w _) (Keeps.alloc [] _ _)
  have hn2 : W.heap[w.heap.size + 1]? = some (.cells #[.int .i64 6, .int .i64 x.dst, .int .i64 x.a, .int .i64 x.b, .int .i64 x.n, .slice a x.args.length cp] 54 (0, 0)) := by
    have := heap_new (w.alloc (.cells #[.int .i64 f.sig, .slice ra R rp, bv] 29)) (.cells #[.int .i64 6, .int .i64 x.dst, .int .i64 x.a, .int .i64 x.b, .int .i64 x.n, .slice a x.args.length cp] 54)
    rw [World.size_alloc] at this
    rw [hW]
    exact this
  have B : Box (∀ w', Keeps [] W w' → w'.cell? ⟨w.heap.size, 0, none⟩ = some (.int .i64 f.sig) ∧ w'.cell? ⟨w.heap.size, 1, none⟩ = some (.slice ra R rp) ∧ w'.cell? ⟨w.heap.size, 2, none⟩ = some bv ∧ w'.cell? ⟨w.heap.size + 1, 0, none⟩ = some (.int .i64 6) ∧ w'.cell? ⟨w.heap.size + 1, 1, none⟩ = some (.int .i64 x.dst) ∧ w'.cell? ⟨w.heap.size + 1, 2, none⟩ = some (.int .i64 x.a) ∧ w'.cell? ⟨w.heap.size + 1, 3, none⟩ = some (.int .i64 x.b) ∧ w'.cell? ⟨w.heap.size + 1, 4, none⟩ = some (.int .i64 x.n) ∧ w'.cell? ⟨w.heap.size + 1, 5, none⟩ = some (.slice a x.args.length cp)) := hid fun w' k => ⟨hcell (keep_heap hn1 k) 0, hcell (keep_heap hn1 k) 1, hcell (keep_heap hn1 k) 2, hcell (keep_heap hn2 k) 0, hcell (keep_heap hn2 k) 1, hcell (keep_heap hn2 k) 2, hcell (keep_heap hn2 k) 3, hcell (keep_heap hn2 k) 4, hcell (keep_heap hn2 k) 5⟩
  have HWE := hid hW
  have HK2 := hid k2
  clear h hr hR hty hif hfs hz hl hop hW k2 hn1 hn2 hres
  generalize insOk P f x = ok at *
  go_enter Tryd.func17, Tryd.ntmps17
  go_upto_region 1 with fail
  rw [← HWE.out]
  clear HWE
  generalize w.heap.size = q at *
  obtain ⟨b0, b1, b2, c0, c1, c2, c3, c4, c5⟩ := B.out _ (Keeps.refl _ _)
  go_wp2_with fail
  refine (HRI.out _ HK2.out).mono ?_
  rintro e w1 ⟨rfl, k1⟩
  have KW1 := hid k1
  clear b0 b1 b2 c0 c1 c2 c3 c4 c5 k1 HRI
  have KZ : Box (Keeps [] w w1) := hid (HK2.out.quiet KW1.out)
  cases ok with
  | false =>
    have HF : Box (res = false) := hid HE0.out
    clear HE0 HOK
    go_wp2_with fail
    go_ret
    exact ⟨by rw [HF.out]; rfl, KZ.out⟩
  | true =>
  obtain ⟨b0, b1, b2, c0, c1, c2, c3, c4, c5⟩ := B.out _ KW1.out
  have HRG : Box (regsB R x = true ∧ numB P f x = true) := hid (HOK.out rfl)
  have HE : Box (res = (tyE (regT f x.dst) (regT f x.a))) := hid (by rw [HE0.out, Bool.true_and])
  clear HE0 HOK
  have hinT : inB x.dst R = true := regs_dst HRG.out.1 (by unfold isDef; rw [HOP.out]; rfl)
  have HNT : Box (tyB P (regT f x.dst) = true) := hid (reg_named HTY.out (by rw [← HRL.out]; exact hinT))
  have HT := hid fun (w' : World) (k : Keeps [] w w') => HTP.out x.dst w' k hinT
  clear hinT
  have hinU : inB x.a R = true := regs_use HRG.out.1 0 x.a (by unfold usesL; rw [HOP.out]; rfl)
  have HNU : Box (tyB P (regT f x.a) = true) := hid (reg_named HTY.out (by rw [← HRL.out]; exact hinU))
  have HU := hid fun (w' : World) (k : Keeps [] w w') => HTP.out x.a w' k hinU
  clear hinU
  generalize regT f x.dst = T at *
  generalize regT f x.a = U at *
  have HEQ := hid fun (w : World) => req_any T U w
  unfold tyV at HEQ
  generalize tyE T U = eb at *
  go_upto_region 14 with fail
  refine wp_region_det (W0 := w1) 286 [(.agg #[.int .i64 f.sig, .slice ra R rp, bv] : Value), (.pointer (some ⟨q + 1, 1, none⟩) : Value), (.int .i64 x.dst : Value), (.agg #[.int .i64 T.1, .int .i64 T.2] : Value), (.agg #[.int .i64 f.sig, .slice ra R rp, bv] : Value), (.pointer (some ⟨q + 1, 2, none⟩) : Value), (.int .i64 x.a : Value), (.agg #[.int .i64 U.1, .int .i64 U.2] : Value), (.bool eb : Value), (.bool eb : Value)] (by kernel_rfl) (by rfl) (by kernel_rfl) (Keeps.refl _ _) (fun A hA => ?_)
  simp only [putAll, Act.put, List.setIfInBounds_toArray, List.set_cons_zero, List.set_cons_succ] at hA
  subst hA
  refine ⟨AllGive.cons (give_yield (by rfl) (fun _ k9 => ld_fn (cell_stays k9 b0) (cell_stays k9 b1) (cell_stays k9 b2) rfl rfl)) (AllGive.cons (give_yield (by rfl) (fun _ _ => rfl)) (AllGive.cons (give_yield (by rfl) (fun _ k9 => ld_int (cell_stays k9 c1) rfl rfl)) (AllGive.cons (give_call (by rfl) 33 #[.agg #[.int .i64 f.sig, .slice ra R rp, bv], .int .i64 x.dst] (fun w => exec_call2 rfl rfl rfl rfl (enter_typ _ _ w)) (fun w9 k9 => HT.out w9 (KZ.out.quiet k9))) (AllGive.cons (give_yield (by rfl) (fun _ k9 => ld_fn (cell_stays k9 b0) (cell_stays k9 b1) (cell_stays k9 b2) rfl rfl)) (AllGive.cons (give_yield (by rfl) (fun _ _ => rfl)) (AllGive.cons (give_yield (by rfl) (fun _ k9 => ld_int (cell_stays k9 c2) rfl rfl)) (AllGive.cons (give_call (by rfl) 33 #[.agg #[.int .i64 f.sig, .slice ra R rp, bv], .int .i64 x.a] (fun w => exec_call2 rfl rfl rfl rfl (enter_typ _ _ w)) (fun w9 k9 => HU.out w9 (KZ.out.quiet k9))) (AllGive.cons (give_call (by rfl) 34 #[.agg #[.int .i64 T.1, .int .i64 T.2], .agg #[.int .i64 U.1, .int .i64 U.2]] (fun w => exec_call2 rfl rfl rfl rfl (enter_eq _ _ w)) (fun w9 _ => HEQ.out w9)) (AllGive.cons (give_yield (by rfl) (fun _ _ => rfl)) (AllGive.nil)))))))))), fun w8 k8 => ?_⟩
  go_wp2_with fail
  go_ret
  exact ⟨by rw [HE.out]; rfl, KZ.out.quiet k8⟩
end Go.Proofs.YtlopddflbhnjdaaDoor

namespace Go.Proofs.YtlopddflbhnjdaaDoor
open Go.RowKit

set_option maxRecDepth 20000 in
set_option maxHeartbeats 8000000 in
theorem rfit_7 {w : World} {pb po : Nat} {P : Pr8} (h : PrC w pb po P) {f : Fu8} {ra : Option Addr} {R : Nat} (hr : RowsAt w 2 TyC ra f.regs) (hR : R = f.regs.length) (rp : Nat) (bv : Value) (hty : tysB P f.regs = true) (hif : P.ifs.all (fun l => insB l P.sigs.length) = true) (hfs : P.funcs.all (fun g => inB g.sig P.sigs.length) = true) (x : In8) {a : Option Addr} {cp : Nat} (hz : IntsAt w a x.args) (hl : x.args.length ≤ 1000) (hop : x.op = 7) : Calls Tryd.prog 17 #[.pointer (some ⟨pb, po, none⟩), fnV f.sig ra R rp bv, insV x (.slice a x.args.length cp)] w fun e w' => e = .returned (.bool (insOk P f x && (match fieldO P (regT f x.a) x.n with | none => false | some t => tyE t (regT f x.dst)))) ∧ Keeps [] w w' := by
  have HRI := hid fun (w' : World) (k : Keeps [] w w') => rinstr_any (PrC.stays _ _ _ _ _ k h) (RowsAt.quiet hr TyC.stays k) hR rp bv hty hif x (cp := cp) (hz.kept k (fun _ _ _ => by simp)) hl
  have HTP := hid fun (r : Int) (w' : World) (k : Keeps [] w w') (hin : inB r R = true) => rtyp_reg (RowsAt.quiet hr TyC.stays k) hR rp f.sig bv r hin
  obtain ⟨res, hres⟩ : ∃ r, r = (insOk P f x && (match fieldO P (regT f x.a) x.n with | none => false | some t => tyE t (regT f x.dst))) := ⟨_, rfl⟩
  rw [← hres]
  have HE0 := hid hres
  have HOK : Box (insOk P f x = true → regsB R x = true ∧ numB P f x = true) := hid fun h1 => by
    rw [hR]
    exact insOk_parts h1
  have HOP := hid hop
  have HRR := hid hr
  have HRL := hid hR
  have HTY := hid hty
  have HIF := hid hif
  have HFS := hid hfs
  have HPR := hid h
  have HZ := hid hz
  have HLL := hid hl
  unfold insV fnV at HRI
  unfold fnV at HTP
  unfold insV fnV
  rw [hop] at HRI
  rw [hop]
  obtain ⟨W, hW⟩ : ∃ W, W = (w.alloc (.cells #[.int .i64 f.sig, .slice ra R rp, bv] 29)).alloc (.cells #[.int .i64 7, .int .i64 x.dst, .int .i64 x.a, .int .i64 x.b, .int .i64 x.n, .slice a x.args.length cp] 54) := ⟨_, rfl⟩
  have k2 : Keeps [] w W := by rw [hW]; exact (Keeps.alloc [] w _).quiet (Keeps.alloc [] _ _)
  have hn1 : W.heap[w.heap.size]? = some (.cells #[.int .i64 f.sig, .slice ra R rp, bv] 29 (0, 0)) := by rw [hW]; exact keep_heap (heap_new w _) (Keeps.alloc [] _ _)
  have hn2 : W.heap[w.heap.size + 1]? = some (.cells #[.int .i64 7, .int .i64 x.dst, .int .i64 x.a, .int .i64 x.b, .int .i64 x.n, .slice a x.args.length cp] 54 (0, 0)) := by
    have := heap_new (w.alloc (.cells #[.int .i64 f.sig, .slice ra R rp, bv] 29)) (.cells #[.int .i64 7, .int .i64 x.dst, .int .i64 x.a, .int .i64 x.b, .int .i64 x.n, .slice a x.args.length cp] 54)
    rw [World.size_alloc] at this
    rw [hW]
    exact this
  have B : Box (∀ w', Keeps [] W w' → w'.cell? ⟨w.heap.size, 0, none⟩ = some (.int .i64 f.sig) ∧ w'.cell? ⟨w.heap.size, 1, none⟩ = some (.slice ra R rp) ∧ w'.cell? ⟨w.heap.size, 2, none⟩ = some bv ∧ w'.cell? ⟨w.heap.size + 1, 0, none⟩ = some (.int .i64 7) ∧ w'.cell? ⟨w.heap.size + 1, 1, none⟩ = some (.int .i64 x.dst) ∧ w'.cell? ⟨w.heap.size + 1, 2, none⟩ = some (.int .i64 x.a) ∧ w'.cell? ⟨w.heap.size + 1, 3, none⟩ = some (.int .i64 x.b) ∧ w'.cell? ⟨w.heap.size + 1, 4, none⟩ = some (.int .i64 x.n) ∧ w'.cell? ⟨w.heap.size + 1, 5, none⟩ = some (.slice a x.args.length cp)) := hid fun w' k => ⟨hcell (keep_heap hn1 k) 0, hcell (keep_heap hn1 k) 1, hcell (keep_heap hn1 k) 2, hcell (keep_heap hn2 k) 0, hcell (keep_heap hn2 k) 1, hcell (keep_heap hn2 k) 2, hcell (keep_heap hn2 k) 3, hcell (keep_heap hn2 k) 4, hcell (keep_heap hn2 k) 5⟩
  have HWE := hid hW
  have HK2 := hid k2
  clear h hr hR hty hif hfs hz hl hop hW k2 hn1 hn2 hres
  generalize insOk P f x = ok at *
  go_enter Tryd.func17, Tryd.ntmps17
  go_upto_region 1 with fail
  rw [← HWE.out]
  clear HWE
  generalize w.heap.size = q at *
  obtain ⟨b0, b1, b2, c0, c1, c2, c3, c4, c5⟩ := B.out _ (Keeps.refl _ _)
  go_wp2_with fail
  refine (HRI.out _ HK2.out).mono ?_
  rintro e w1 ⟨rfl, k1⟩
  have KW1 := hid k1
  clear b0 b1 b2 c0 c1 c2 c3 c4 c5 k1 HRI
  have KZ : Box (Keeps [] w w1) := hid (HK2.out.quiet KW1.out)
  cases ok with
  | false =>
    have HF : Box (res = false) := hid HE0.out
    clear HE0 HOK
    go_wp2_with fail
    go_ret
    exact ⟨by rw [HF.out]; rfl, KZ.out⟩
  | true =>
  obtain ⟨b0, b1, b2, c0, c1, c2, c3, c4, c5⟩ := B.out _ KW1.out
  have HRG : Box (regsB R x = true ∧ numB P f x = true) := hid (HOK.out rfl)
  have HE : Box (res = (match fieldO P (regT f x.a) x.n with | none => false | some t => tyE t (regT f x.dst))) := hid (by rw [HE0.out, Bool.true_and])
  clear HE0 HOK
  have hinU : inB x.a R = true := regs_use HRG.out.1 0 x.a (by unfold usesL; rw [HOP.out]; rfl)
  have HNU : Box (tyB P (regT f x.a) = true) := hid (reg_named HTY.out (by rw [← HRL.out]; exact hinU))
  have HU := hid fun (w' : World) (k : Keeps [] w w') => HTP.out x.a w' k hinU
  clear hinU
  have hinT : inB x.dst R = true := regs_dst HRG.out.1 (by unfold isDef; rw [HOP.out]; rfl)
  have HNT : Box (tyB P (regT f x.dst) = true) := hid (reg_named HTY.out (by rw [← HRL.out]; exact hinT))
  have HT := hid fun (w' : World) (k : Keeps [] w w') => HTP.out x.dst w' k hinT
  clear hinT
  have HNUM : Box ((regT f x.a).1 = 1 → inB x.n (recOf P (regT f x.a).2).length = true) := hid fun ht => by
    have h2 := HRG.out.2
    rw [num_f1 (by rw [HOP.out]; decide) ht (ty_1 HNU.out ht)] at h2
    exact h2
  generalize regT f x.a = U at *
  generalize regT f x.dst = T at *
  obtain ⟨ku, nu⟩ := U
  simp only at HNUM HU
  by_cases gk : ku = 1
  case neg =>
    have ok1 := neb gk
    have HF : Box (res = false) := hid (by
      rw [HE.out]
      unfold fieldO
      rw [if_neg (fun h => gk h.1)])
    clear HE gk HNUM
    go_upto_region 16 with fail
    refine wp_region_det (W0 := w1) 286 [(.agg #[.int .i64 f.sig, .slice ra R rp, bv] : Value), (.pointer (some ⟨q + 1, 2, none⟩) : Value), (.int .i64 x.a : Value), (.agg #[.int .i64 ku, .int .i64 nu] : Value), (.int .i64 ku : Value), (.bool false : Value), (.bool false : Value), (undef : Value), (undef : Value), (undef : Value), (undef : Value), (undef : Value), (undef : Value), (undef : Value), (undef : Value), (undef : Value), (undef : Value), (undef : Value), (undef : Value), (undef : Value), (undef : Value), (undef : Value), (undef : Value), (undef : Value), (undef : Value), (undef : Value), (undef : Value), (.bool false : Value), (.bool false : Value)] (by kernel_rfl) (by rfl) (by kernel_rfl) (Keeps.refl _ _) (fun A hA => ?_)
    simp only [putAll, Act.put, List.setIfInBounds_toArray, List.set_cons_zero, List.set_cons_succ] at hA
    subst hA
    refine ⟨AllGive.cons (give_yield (by rfl) (fun _ k9 => ld_fn (cell_stays k9 b0) (cell_stays k9 b1) (cell_stays k9 b2) rfl rfl)) (AllGive.cons (give_yield (by rfl) (fun _ _ => rfl)) (AllGive.cons (give_yield (by rfl) (fun _ k9 => ld_int (cell_stays k9 c2) rfl rfl)) (AllGive.cons (give_call (by rfl) 33 #[.agg #[.int .i64 f.sig, .slice ra R rp, bv], .int .i64 x.a] (fun w => exec_call2 rfl rfl rfl rfl (enter_typ _ _ w)) (fun w9 k9 => HU.out w9 (KZ.out.quiet k9))) (AllGive.cons (give_yield (by rfl) (fun _ _ => rfl)) (AllGive.cons (give_yield (by rfl) (fun _ _ => bin_eql rfl rfl rfl ok1)) (AllGive.cons (give_yield (by rfl) (fun _ _ => rfl)) (AllGive.cons (give_pass (by rfl)) (AllGive.cons (give_pass (by rfl)) (AllGive.cons (give_pass (by rfl)) (AllGive.cons (give_pass (by rfl)) (AllGive.cons (give_pass (by rfl)) (AllGive.cons (give_pass (by rfl)) (AllGive.cons (give_pass (by rfl)) (AllGive.cons (give_pass (by rfl)) (AllGive.cons (give_pass (by rfl)) (AllGive.cons (give_pass (by rfl)) (AllGive.cons (give_pass (by rfl)) (AllGive.cons (give_pass (by rfl)) (AllGive.cons (give_pass (by rfl)) (AllGive.cons (give_pass (by rfl)) (AllGive.cons (give_pass (by rfl)) (AllGive.cons (give_pass (by rfl)) (AllGive.cons (give_pass (by rfl)) (AllGive.cons (give_pass (by rfl)) (AllGive.cons (give_pass (by rfl)) (AllGive.cons (give_pass (by rfl)) (AllGive.cons (give_yield (by rfl) (fun _ _ => rfl)) (AllGive.cons (give_yield (by rfl) (fun _ _ => rfl)) (AllGive.nil))))))))))))))))))))))))))))), fun w8 k8 => ?_⟩
    go_wp2_with fail
    go_ret
    exact ⟨by rw [HF.out]; rfl, KZ.out.quiet k8⟩
  subst gk
  have hn1 := HNUM.out rfl
  have ht2 : inB nu P.recs.length = true := ty_1 HNU.out rfl
  obtain ⟨j0, j1⟩ := inB_iff.1 ht2
  obtain ⟨J, rfl⟩ : ∃ J : Nat, nu = (J : Int) := ⟨nu.toNat, by omega⟩
  have eJ : ((J : Int)).toNat = J := by omega
  unfold recOf at hn1
  simp only [eJ] at hn1
  obtain ⟨n0, n1⟩ := inB_iff.1 hn1
  obtain ⟨K, hK⟩ : ∃ K : Nat, x.n = (K : Int) := ⟨x.n.toNat, by omega⟩
  obtain ⟨pa, pp, pc, prr, _⟩ := HPR.out.c0
  obtain ⟨gb, go, rfl, hgc⟩ := prr.at (getD_get (l := P.recs) (k := J) (d := []) (by omega))
  obtain ⟨ga, gp, gc, grr, _⟩ := hgc
  obtain ⟨hb, ho, rfl, htc⟩ := grr.at (getD_get (l := P.recs.getD J []) (k := K) (d := (0, 0)) (by omega))
  have HF : Box (res = tyE ((P.recs.getD J []).getD K (0, 0)) T) := hid (by
    rw [HE.out]
    unfold fieldO recOf
    rw [if_pos ⟨rfl, ht2, by simp only [eJ]; exact hn1⟩]
    simp only [eJ, hK, Int.toNat_natCast])
  have p0 := cell_stays KZ.out pc
  have g0 := cell_stays KZ.out gc
  rw [Nat.mul_one] at g0
  have t0 := cell_stays KZ.out htc.c0.1
  have t1 := cell_stays KZ.out htc.c1.1
  have hlt_J : (J : Int) < (P.recs.length : Int) := j1
  have hlt_K : (K : Int) < ((P.recs.getD J []).length : Int) := by omega
  rw [hK] at c4
  clear HE HNUM hn1 ht2 j0 j1 eJ n0 n1 hK pc prr gc grr htc HRG HNU
  generalize P.recs.length = RN at *
  generalize (P.recs.getD J []).length = M at *
  generalize (P.recs.getD J []).getD K (0, 0) = t at *
  have HEQ := hid fun (w : World) => req_any t T w
  unfold tyV at HEQ
  generalize tyE t T = eb at *
  go_upto_region 16 with fail
  refine wp_region_det (W0 := w1) 286 [(.agg #[.int .i64 f.sig, .slice ra R rp, bv] : Value), (.pointer (some ⟨q + 1, 2, none⟩) : Value), (.int .i64 x.a : Value), (.agg #[.int .i64 1, .int .i64 (J : Int)] : Value), (.int .i64 1 : Value), (.bool true : Value), (.bool true : Value), (.pointer (some ⟨pb, po, none⟩) : Value), (.pointer (some ⟨pb, po, none⟩) : Value), (.pointer (some ⟨pb, po, none⟩) : Value), (.slice (some ⟨gb, go, none⟩) RN pp : Value), (.agg #[.int .i64 f.sig, .slice ra R rp, bv] : Value), (.pointer (some ⟨q + 1, 2, none⟩) : Value), (.int .i64 x.a : Value), (.agg #[.int .i64 1, .int .i64 (J : Int)] : Value), (.int .i64 (J : Int) : Value), (.pointer (some ⟨gb, go + J, none⟩) : Value), (.slice (some ⟨hb, ho, none⟩) M gp : Value), (.pointer (some ⟨q + 1, 4, none⟩) : Value), (.int .i64 (K : Int) : Value), (.pointer (some ⟨hb, ho + K * 2, none⟩) : Value), (.agg #[.int .i64 t.1, .int .i64 t.2] : Value), (.agg #[.int .i64 f.sig, .slice ra R rp, bv] : Value), (.pointer (some ⟨q + 1, 1, none⟩) : Value), (.int .i64 x.dst : Value), (.agg #[.int .i64 T.1, .int .i64 T.2] : Value), (.bool eb : Value), (.bool eb : Value), (.bool eb : Value)] (by kernel_rfl) (by rfl) (by kernel_rfl) (Keeps.refl _ _) (fun A hA => ?_)
  simp only [putAll, Act.put, List.setIfInBounds_toArray, List.set_cons_zero, List.set_cons_succ] at hA
  subst hA
  refine ⟨AllGive.cons (give_yield (by rfl) (fun _ k9 => ld_fn (cell_stays k9 b0) (cell_stays k9 b1) (cell_stays k9 b2) rfl rfl)) (AllGive.cons (give_yield (by rfl) (fun _ _ => rfl)) (AllGive.cons (give_yield (by rfl) (fun _ k9 => ld_int (cell_stays k9 c2) rfl rfl)) (AllGive.cons (give_call (by rfl) 33 #[.agg #[.int .i64 f.sig, .slice ra R rp, bv], .int .i64 x.a] (fun w => exec_call2 rfl rfl rfl rfl (enter_typ _ _ w)) (fun w9 k9 => HU.out w9 (KZ.out.quiet k9))) (AllGive.cons (give_yield (by rfl) (fun _ _ => rfl)) (AllGive.cons (give_yield (by rfl) (fun _ _ => bin_eql rfl rfl rfl rfl)) (AllGive.cons (give_yield (by rfl) (fun _ _ => rfl)) (AllGive.cons (give_yield (by rfl) (fun _ _ => rfl)) (AllGive.cons (give_yield (by rfl) (fun _ _ => rfl)) (AllGive.cons (give_yield (by rfl) (fun _ _ => rfl)) (AllGive.cons (give_yield (by rfl) (fun _ k9 => ld_tyss (cell_stays k9 p0) rfl rfl)) (AllGive.cons (give_yield (by rfl) (fun _ k9 => ld_fn (cell_stays k9 b0) (cell_stays k9 b1) (cell_stays k9 b2) rfl rfl)) (AllGive.cons (give_yield (by rfl) (fun _ _ => rfl)) (AllGive.cons (give_yield (by rfl) (fun _ k9 => ld_int (cell_stays k9 c2) rfl rfl)) (AllGive.cons (give_call (by rfl) 33 #[.agg #[.int .i64 f.sig, .slice ra R rp, bv], .int .i64 x.a] (fun w => exec_call2 rfl rfl rfl rfl (enter_typ _ _ w)) (fun w9 k9 => HU.out w9 (KZ.out.quiet k9))) (AllGive.cons (give_yield (by rfl) (fun _ _ => rfl)) (AllGive.cons (give_yield (by rfl) (fun _ _ => ix_tyss rfl rfl rfl hlt_J)) (AllGive.cons (give_yield (by rfl) (fun _ k9 => ld_tys (cell_stays k9 g0) rfl rfl)) (AllGive.cons (give_yield (by rfl) (fun _ _ => rfl)) (AllGive.cons (give_yield (by rfl) (fun _ k9 => ld_int (cell_stays k9 c4) rfl rfl)) (AllGive.cons (give_yield (by rfl) (fun _ _ => ix_tys rfl rfl rfl hlt_K)) (AllGive.cons (give_yield (by rfl) (fun _ k9 => ld_ty (cell_stays k9 t0) (cell_stays k9 t1) rfl rfl)) (AllGive.cons (give_yield (by rfl) (fun _ k9 => ld_fn (cell_stays k9 b0) (cell_stays k9 b1) (cell_stays k9 b2) rfl rfl)) (AllGive.cons (give_yield (by rfl) (fun _ _ => rfl)) (AllGive.cons (give_yield (by rfl) (fun _ k9 => ld_int (cell_stays k9 c1) rfl rfl)) (AllGive.cons (give_call (by rfl) 33 #[.agg #[.int .i64 f.sig, .slice ra R rp, bv], .int .i64 x.dst] (fun w => exec_call2 rfl rfl rfl rfl (enter_typ _ _ w)) (fun w9 k9 => HT.out w9 (KZ.out.quiet k9))) (AllGive.cons (give_call (by rfl) 34 #[.agg #[.int .i64 t.1, .int .i64 t.2], .agg #[.int .i64 T.1, .int .i64 T.2]] (fun w => exec_call2 rfl rfl rfl rfl (enter_eq _ _ w)) (fun w9 _ => HEQ.out w9)) (AllGive.cons (give_yield (by rfl) (fun _ _ => rfl)) (AllGive.cons (give_yield (by rfl) (fun _ _ => rfl)) (AllGive.nil))))))))))))))))))))))))))))), fun w8 k8 => ?_⟩
  go_wp2_with fail
  go_ret
  exact ⟨by rw [HF.out]; rfl, KZ.out.quiet k8⟩
set_option maxRecDepth 20000 in
set_option maxHeartbeats 8000000 in
theorem rfit_8 {w : World} {pb po : Nat} {P : Pr8} (h : PrC w pb po P) {f : Fu8} {ra : Option Addr} {R : Nat} (hr : RowsAt w 2 TyC ra f.regs) (hR : R = f.regs.length) (rp : Nat) (bv : Value) (hty : tysB P f.regs = true) (hif : P.ifs.all (fun l => insB l P.sigs.length) = true) (hfs : P.funcs.all (fun g => inB g.sig P.sigs.length) = true) (x : In8) {a : Option Addr} {cp : Nat} (hz : IntsAt w a x.args) (hl : x.args.length ≤ 1000) (hop : x.op = 8) : Calls Tryd.prog 17 #[.pointer (some ⟨pb, po, none⟩), fnV f.sig ra R rp bv, insV x (.slice a x.args.length cp)] w fun e w' => e = .returned (.bool (insOk P f x && (match fieldO P (regT f x.a) x.n with | none => false | some t => tyE t (regT f x.b)))) ∧ Keeps [] w w' := by
  have HRI := hid fun (w' : World) (k : Keeps [] w w') => rinstr_any (PrC.stays _ _ _ _ _ k h) (RowsAt.quiet hr TyC.stays k) hR rp bv hty hif x (cp := cp) (hz.kept k (fun _ _ _ => by simp)) hl
  have HTP := hid fun (r : Int) (w' : World) (k : Keeps [] w w') (hin : inB r R = true) => rtyp_reg (RowsAt.quiet hr TyC.stays k) hR rp f.sig bv r hin
  obtain ⟨res, hres⟩ : ∃ r, r = (insOk P f x && (match fieldO P (regT f x.a) x.n with | none => false | some t => tyE t (regT f x.b))) := ⟨_, rfl⟩
  rw [← hres]
  have HE0 := hid hres
  have HOK : Box (insOk P f x = true → regsB R x = true ∧ numB P f x = true) := hid fun h1 => by
    rw [hR]
    exact insOk_parts h1
  have HOP := hid hop
  have HRR := hid hr
  have HRL := hid hR
  have HTY := hid hty
  have HIF := hid hif
  have HFS := hid hfs
  have HPR := hid h
  have HZ := hid hz
  have HLL := hid hl
  unfold insV fnV at HRI
  unfold fnV at HTP
  unfold insV fnV
  rw [hop] at HRI
  rw [hop]
  obtain ⟨W, hW⟩ : ∃ W, W = (w.alloc (.cells #[.int .i64 f.sig, .slice ra R rp, bv] 29)).alloc (.cells #[.int .i64 8, .int .i64 x.dst, .int .i64 x.a, .int .i64 x.b, .int .i64 x.n, .slice a x.args.length cp] 54) := ⟨_, rfl⟩
  have k2 : Keeps [] w W := by rw [hW]; exact (Keeps.alloc [] w _).quiet (Keeps.alloc [] _ _)
  have hn1 : W.heap[w.heap.size]? = some (.cells #[.int .i64 f.sig, .slice ra R rp, bv] 29 (0, 0)) := by rw [hW]; exact keep_heap (heap_new w _) (Keeps.alloc [] _ _)
  have hn2 : W.heap[w.heap.size + 1]? = some (.cells #[.int .i64 8, .int .i64 x.dst, .int .i64 x.a, .int .i64 x.b, .int .i64 x.n, .slice a x.args.length cp] 54 (0, 0)) := by
    have := heap_new (w.alloc (.cells #[.int .i64 f.sig, .slice ra R rp, bv] 29)) (.cells #[.int .i64 8, .int .i64 x.dst, .int .i64 x.a, .int .i64 x.b, .int .i64 x.n, .slice a x.args.length cp] 54)
    rw [World.size_alloc] at this
    rw [hW]
    exact this
  have B : Box (∀ w', Keeps [] W w' → w'.cell? ⟨w.heap.size, 0, none⟩ = some (.int .i64 f.sig) ∧ w'.cell? ⟨w.heap.size, 1, none⟩ = some (.slice ra R rp) ∧ w'.cell? ⟨w.heap.size, 2, none⟩ = some bv ∧ w'.cell? ⟨w.heap.size + 1, 0, none⟩ = some (.int .i64 8) ∧ w'.cell? ⟨w.heap.size + 1, 1, none⟩ = some (.int .i64 x.dst) ∧ w'.cell? ⟨w.heap.size + 1, 2, none⟩ = some (.int .i64 x.a) ∧ w'.cell? ⟨w.heap.size + 1, 3, none⟩ = some (.int .i64 x.b) ∧ w'.cell? ⟨w.heap.size + 1, 4, none⟩ = some (.int .i64 x.n) ∧ w'.cell? ⟨w.heap.size + 1, 5, none⟩ = some (.slice a x.args.length cp)) := hid fun w' k => ⟨hcell (keep_heap hn1 k) 0, hcell (keep_heap hn1 k) 1, hcell (keep_heap hn1 k) 2, hcell (keep_heap hn2 k) 0, hcell (keep_heap hn2 k) 1, hcell (keep_heap hn2 k) 2, hcell (keep_heap hn2 k) 3, hcell (keep_heap hn2 k) 4, hcell (keep_heap hn2 k) 5⟩
  have HWE := hid hW
  have HK2 := hid k2
  clear h hr hR hty hif hfs hz hl hop hW k2 hn1 hn2 hres
  generalize insOk P f x = ok at *
  go_enter Tryd.func17, Tryd.ntmps17
  go_upto_region 1 with fail
  rw [← HWE.out]
  clear HWE
  generalize w.heap.size = q at *
  obtain ⟨b0, b1, b2, c0, c1, c2, c3, c4, c5⟩ := B.out _ (Keeps.refl _ _)
  go_wp2_with fail
  refine (HRI.out _ HK2.out).mono ?_
  rintro e w1 ⟨rfl, k1⟩
  have KW1 := hid k1
  clear b0 b1 b2 c0 c1 c2 c3 c4 c5 k1 HRI
  have KZ : Box (Keeps [] w w1) := hid (HK2.out.quiet KW1.out)
  cases ok with
  | false =>
    have HF : Box (res = false) := hid HE0.out
    clear HE0 HOK
    go_wp2_with fail
    go_ret
    exact ⟨by rw [HF.out]; rfl, KZ.out⟩
  | true =>
  obtain ⟨b0, b1, b2, c0, c1, c2, c3, c4, c5⟩ := B.out _ KW1.out
  have HRG : Box (regsB R x = true ∧ numB P f x = true) := hid (HOK.out rfl)
  have HE : Box (res = (match fieldO P (regT f x.a) x.n with | none => false | some t => tyE t (regT f x.b))) := hid (by rw [HE0.out, Bool.true_and])
  clear HE0 HOK
  have hinU : inB x.a R = true := regs_use HRG.out.1 0 x.a (by unfold usesL; rw [HOP.out]; rfl)
  have HNU : Box (tyB P (regT f x.a) = true) := hid (reg_named HTY.out (by rw [← HRL.out]; exact hinU))
  have HU := hid fun (w' : World) (k : Keeps [] w w') => HTP.out x.a w' k hinU
  clear hinU
  have hinT : inB x.b R = true := regs_use HRG.out.1 1 x.b (by unfold usesL; rw [HOP.out]; rfl)
  have HNT : Box (tyB P (regT f x.b) = true) := hid (reg_named HTY.out (by rw [← HRL.out]; exact hinT))
  have HT := hid fun (w' : World) (k : Keeps [] w w') => HTP.out x.b w' k hinT
  clear hinT
  have HNUM : Box ((regT f x.a).1 = 1 → inB x.n (recOf P (regT f x.a).2).length = true) := hid fun ht => by
    have h2 := HRG.out.2
    rw [num_f1 (by rw [HOP.out]; decide) ht (ty_1 HNU.out ht)] at h2
    exact h2
  generalize regT f x.a = U at *
  generalize regT f x.b = T at *
  obtain ⟨ku, nu⟩ := U
  simp only at HNUM HU
  by_cases gk : ku = 1
  case neg =>
    have ok1 := neb gk
    have HF : Box (res = false) := hid (by
      rw [HE.out]
      unfold fieldO
      rw [if_neg (fun h => gk h.1)])
    clear HE gk HNUM
    go_upto_region 18 with fail
    refine wp_region_det (W0 := w1) 286 [(.agg #[.int .i64 f.sig, .slice ra R rp, bv] : Value), (.pointer (some ⟨q + 1, 2, none⟩) : Value), (.int .i64 x.a : Value), (.agg #[.int .i64 ku, .int .i64 nu] : Value), (.int .i64 ku : Value), (.bool false : Value), (.bool false : Value), (undef : Value), (undef : Value), (undef : Value), (undef : Value), (undef : Value), (undef : Value), (undef : Value), (undef : Value), (undef : Value), (undef : Value), (undef : Value), (undef : Value), (undef : Value), (undef : Value), (undef : Value), (undef : Value), (undef : Value), (undef : Value), (undef : Value), (undef : Value), (.bool false : Value), (.bool false : Value)] (by kernel_rfl) (by rfl) (by kernel_rfl) (Keeps.refl _ _) (fun A hA => ?_)
    simp only [putAll, Act.put, List.setIfInBounds_toArray, List.set_cons_zero, List.set_cons_succ] at hA
    subst hA
    refine ⟨AllGive.cons (give_yield (by rfl) (fun _ k9 => ld_fn (cell_stays k9 b0) (cell_stays k9 b1) (cell_stays k9 b2) rfl rfl)) (AllGive.cons (give_yield (by rfl) (fun _ _ => rfl)) (AllGive.cons (give_yield (by rfl) (fun _ k9 => ld_int (cell_stays k9 c2) rfl rfl)) (AllGive.cons (give_call (by rfl) 33 #[.agg #[.int .i64 f.sig, .slice ra R rp, bv], .int .i64 x.a] (fun w => exec_call2 rfl rfl rfl rfl (enter_typ _ _ w)) (fun w9 k9 => HU.out w9 (KZ.out.quiet k9))) (AllGive.cons (give_yield (by rfl) (fun _ _ => rfl)) (AllGive.cons (give_yield (by rfl) (fun _ _ => bin_eql rfl rfl rfl ok1)) (AllGive.cons (give_yield (by rfl) (fun _ _ => rfl)) (AllGive.cons (give_pass (by rfl)) (AllGive.cons (give_pass (by rfl)) (AllGive.cons (give_pass (by rfl)) (AllGive.cons (give_pass (by rfl)) (AllGive.cons (give_pass (by rfl)) (AllGive.cons (give_pass (by rfl)) (AllGive.cons (give_pass (by rfl)) (AllGive.cons (give_pass (by rfl)) (AllGive.cons (give_pass (by rfl)) (AllGive.cons (give_pass (by rfl)) (AllGive.cons (give_pass (by rfl)) (AllGive.cons (give_pass (by rfl)) (AllGive.cons (give_pass (by rfl)) (AllGive.cons (give_pass (by rfl)) (AllGive.cons (give_pass (by rfl)) (AllGive.cons (give_pass (by rfl)) (AllGive.cons (give_pass (by rfl)) (AllGive.cons (give_pass (by rfl)) (AllGive.cons (give_pass (by rfl)) (AllGive.cons (give_pass (by rfl)) (AllGive.cons (give_yield (by rfl) (fun _ _ => rfl)) (AllGive.cons (give_yield (by rfl) (fun _ _ => rfl)) (AllGive.nil))))))))))))))))))))))))))))), fun w8 k8 => ?_⟩
    go_wp2_with fail
    go_ret
    exact ⟨by rw [HF.out]; rfl, KZ.out.quiet k8⟩
  subst gk
  have hn1 := HNUM.out rfl
  have ht2 : inB nu P.recs.length = true := ty_1 HNU.out rfl
  obtain ⟨j0, j1⟩ := inB_iff.1 ht2
  obtain ⟨J, rfl⟩ : ∃ J : Nat, nu = (J : Int) := ⟨nu.toNat, by omega⟩
  have eJ : ((J : Int)).toNat = J := by omega
  unfold recOf at hn1
  simp only [eJ] at hn1
  obtain ⟨n0, n1⟩ := inB_iff.1 hn1
  obtain ⟨K, hK⟩ : ∃ K : Nat, x.n = (K : Int) := ⟨x.n.toNat, by omega⟩
  obtain ⟨pa, pp, pc, prr, _⟩ := HPR.out.c0
  obtain ⟨gb, go, rfl, hgc⟩ := prr.at (getD_get (l := P.recs) (k := J) (d := []) (by omega))
  obtain ⟨ga, gp, gc, grr, _⟩ := hgc
  obtain ⟨hb, ho, rfl, htc⟩ := grr.at (getD_get (l := P.recs.getD J []) (k := K) (d := (0, 0)) (by omega))
  have HF : Box (res = tyE ((P.recs.getD J []).getD K (0, 0)) T) := hid (by
    rw [HE.out]
    unfold fieldO recOf
    rw [if_pos ⟨rfl, ht2, by simp only [eJ]; exact hn1⟩]
    simp only [eJ, hK, Int.toNat_natCast])
  have p0 := cell_stays KZ.out pc
  have g0 := cell_stays KZ.out gc
  rw [Nat.mul_one] at g0
  have t0 := cell_stays KZ.out htc.c0.1
  have t1 := cell_stays KZ.out htc.c1.1
  have hlt_J : (J : Int) < (P.recs.length : Int) := j1
  have hlt_K : (K : Int) < ((P.recs.getD J []).length : Int) := by omega
  rw [hK] at c4
  clear HE HNUM hn1 ht2 j0 j1 eJ n0 n1 hK pc prr gc grr htc HRG HNU
  generalize P.recs.length = RN at *
  generalize (P.recs.getD J []).length = M at *
  generalize (P.recs.getD J []).getD K (0, 0) = t at *
  have HEQ := hid fun (w : World) => req_any t T w
  unfold tyV at HEQ
  generalize tyE t T = eb at *
  go_upto_region 18 with fail
  refine wp_region_det (W0 := w1) 286 [(.agg #[.int .i64 f.sig, .slice ra R rp, bv] : Value), (.pointer (some ⟨q + 1, 2, none⟩) : Value), (.int .i64 x.a : Value), (.agg #[.int .i64 1, .int .i64 (J : Int)] : Value), (.int .i64 1 : Value), (.bool true : Value), (.bool true : Value), (.pointer (some ⟨pb, po, none⟩) : Value), (.pointer (some ⟨pb, po, none⟩) : Value), (.pointer (some ⟨pb, po, none⟩) : Value), (.slice (some ⟨gb, go, none⟩) RN pp : Value), (.agg #[.int .i64 f.sig, .slice ra R rp, bv] : Value), (.pointer (some ⟨q + 1, 2, none⟩) : Value), (.int .i64 x.a : Value), (.agg #[.int .i64 1, .int .i64 (J : Int)] : Value), (.int .i64 (J : Int) : Value), (.pointer (some ⟨gb, go + J, none⟩) : Value), (.slice (some ⟨hb, ho, none⟩) M gp : Value), (.pointer (some ⟨q + 1, 4, none⟩) : Value), (.int .i64 (K : Int) : Value), (.pointer (some ⟨hb, ho + K * 2, none⟩) : Value), (.agg #[.int .i64 t.1, .int .i64 t.2] : Value), (.agg #[.int .i64 f.sig, .slice ra R rp, bv] : Value), (.pointer (some ⟨q + 1, 3, none⟩) : Value), (.int .i64 x.b : Value), (.agg #[.int .i64 T.1, .int .i64 T.2] : Value), (.bool eb : Value), (.bool eb : Value), (.bool eb : Value)] (by kernel_rfl) (by rfl) (by kernel_rfl) (Keeps.refl _ _) (fun A hA => ?_)
  simp only [putAll, Act.put, List.setIfInBounds_toArray, List.set_cons_zero, List.set_cons_succ] at hA
  subst hA
  refine ⟨AllGive.cons (give_yield (by rfl) (fun _ k9 => ld_fn (cell_stays k9 b0) (cell_stays k9 b1) (cell_stays k9 b2) rfl rfl)) (AllGive.cons (give_yield (by rfl) (fun _ _ => rfl)) (AllGive.cons (give_yield (by rfl) (fun _ k9 => ld_int (cell_stays k9 c2) rfl rfl)) (AllGive.cons (give_call (by rfl) 33 #[.agg #[.int .i64 f.sig, .slice ra R rp, bv], .int .i64 x.a] (fun w => exec_call2 rfl rfl rfl rfl (enter_typ _ _ w)) (fun w9 k9 => HU.out w9 (KZ.out.quiet k9))) (AllGive.cons (give_yield (by rfl) (fun _ _ => rfl)) (AllGive.cons (give_yield (by rfl) (fun _ _ => bin_eql rfl rfl rfl rfl)) (AllGive.cons (give_yield (by rfl) (fun _ _ => rfl)) (AllGive.cons (give_yield (by rfl) (fun _ _ => rfl)) (AllGive.cons (give_yield (by rfl) (fun _ _ => rfl)) (AllGive.cons (give_yield (by rfl) (fun _ _ => rfl)) (AllGive.cons (give_yield (by rfl) (fun _ k9 => ld_tyss (cell_stays k9 p0) rfl rfl)) (AllGive.cons (give_yield (by rfl) (fun _ k9 => ld_fn (cell_stays k9 b0) (cell_stays k9 b1) (cell_stays k9 b2) rfl rfl)) (AllGive.cons (give_yield (by rfl) (fun _ _ => rfl)) (AllGive.cons (give_yield (by rfl) (fun _ k9 => ld_int (cell_stays k9 c2) rfl rfl)) (AllGive.cons (give_call (by rfl) 33 #[.agg #[.int .i64 f.sig, .slice ra R rp, bv], .int .i64 x.a] (fun w => exec_call2 rfl rfl rfl rfl (enter_typ _ _ w)) (fun w9 k9 => HU.out w9 (KZ.out.quiet k9))) (AllGive.cons (give_yield (by rfl) (fun _ _ => rfl)) (AllGive.cons (give_yield (by rfl) (fun _ _ => ix_tyss rfl rfl rfl hlt_J)) (AllGive.cons (give_yield (by rfl) (fun _ k9 => ld_tys (cell_stays k9 g0) rfl rfl)) (AllGive.cons (give_yield (by rfl) (fun _ _ => rfl)) (AllGive.cons (give_yield (by rfl) (fun _ k9 => ld_int (cell_stays k9 c4) rfl rfl)) (AllGive.cons (give_yield (by rfl) (fun _ _ => ix_tys rfl rfl rfl hlt_K)) (AllGive.cons (give_yield (by rfl) (fun _ k9 => ld_ty (cell_stays k9 t0) (cell_stays k9 t1) rfl rfl)) (AllGive.cons (give_yield (by rfl) (fun _ k9 => ld_fn (cell_stays k9 b0) (cell_stays k9 b1) (cell_stays k9 b2) rfl rfl)) (AllGive.cons (give_yield (by rfl) (fun _ _ => rfl)) (AllGive.cons (give_yield (by rfl) (fun _ k9 => ld_int (cell_stays k9 c3) rfl rfl)) (AllGive.cons (give_call (by rfl) 33 #[.agg #[.int .i64 f.sig, .slice ra R rp, bv], .int .i64 x.b] (fun w => exec_call2 rfl rfl rfl rfl (enter_typ _ _ w)) (fun w9 k9 => HT.out w9 (KZ.out.quiet k9))) (AllGive.cons (give_call (by rfl) 34 #[.agg #[.int .i64 t.1, .int .i64 t.2], .agg #[.int .i64 T.1, .int .i64 T.2]] (fun w => exec_call2 rfl rfl rfl rfl (enter_eq _ _ w)) (fun w9 _ => HEQ.out w9)) (AllGive.cons (give_yield (by rfl) (fun _ _ => rfl)) (AllGive.cons (give_yield (by rfl) (fun _ _ => rfl)) (AllGive.nil))))))))))))))))))))))))))))), fun w8 k8 => ?_⟩
  go_wp2_with fail
  go_ret
  exact ⟨by rw [HF.out]; rfl, KZ.out.quiet k8⟩
end Go.Proofs.YtlopddflbhnjdaaDoor

namespace Go.Proofs.YtlopddflbhnjdaaDoor
open Go.RowKit

set_option maxRecDepth 20000 in
set_option maxHeartbeats 8000000 in
theorem rfit_10 {w : World} {pb po : Nat} {P : Pr8} (h : PrC w pb po P) {f : Fu8} {ra : Option Addr} {R : Nat} (hr : RowsAt w 2 TyC ra f.regs) (hR : R = f.regs.length) (rp : Nat) (bv : Value) (hty : tysB P f.regs = true) (hif : P.ifs.all (fun l => insB l P.sigs.length) = true) (hfs : P.funcs.all (fun g => inB g.sig P.sigs.length) = true) (x : In8) {a : Option Addr} {cp : Nat} (hz : IntsAt w a x.args) (hl : x.args.length ≤ 1000) (hop : x.op = 10) : Calls Tryd.prog 17 #[.pointer (some ⟨pb, po, none⟩), fnV f.sig ra R rp bv, insV x (.slice a x.args.length cp)] w fun e w' => e = .returned (.bool (insOk P f x && (tyE (regT f x.dst) (2, (fun8 P x.n.toNat).sig)))) ∧ Keeps [] w w' := by
  have HRI := hid fun (w' : World) (k : Keeps [] w w') => rinstr_any (PrC.stays _ _ _ _ _ k h) (RowsAt.quiet hr TyC.stays k) hR rp bv hty hif x (cp := cp) (hz.kept k (fun _ _ _ => by simp)) hl
  have HTP := hid fun (r : Int) (w' : World) (k : Keeps [] w w') (hin : inB r R = true) => rtyp_reg (RowsAt.quiet hr TyC.stays k) hR rp f.sig bv r hin
  obtain ⟨res, hres⟩ : ∃ r, r = (insOk P f x && (tyE (regT f x.dst) (2, (fun8 P x.n.toNat).sig))) := ⟨_, rfl⟩
  rw [← hres]
  have HE0 := hid hres
  have HOK : Box (insOk P f x = true → regsB R x = true ∧ numB P f x = true) := hid fun h1 => by
    rw [hR]
    exact insOk_parts h1
  have HOP := hid hop
  have HRR := hid hr
  have HRL := hid hR
  have HTY := hid hty
  have HIF := hid hif
  have HFS := hid hfs
  have HPR := hid h
  have HZ := hid hz
  have HLL := hid hl
  unfold insV fnV at HRI
  unfold fnV at HTP
  unfold insV fnV
  rw [hop] at HRI
  rw [hop]
  obtain ⟨W, hW⟩ : ∃ W, W = (w.alloc (.cells #[.int .i64 f.sig, .slice ra R rp, bv] 29)).alloc (.cells #[.int .i64 10, .int .i64 x.dst, .int .i64 x.a, .int .i64 x.b, .int .i64 x.n, .slice a x.args.length cp] 54) := ⟨_, rfl⟩
  have k2 : Keeps [] w W := by rw [hW]; exact (Keeps.alloc [] w _).quiet (Keeps.alloc [] _ _)
  have hn1 : W.heap[w.heap.size]? = some (.cells #[.int .i64 f.sig, .slice ra R rp, bv] 29 (0, 0)) := by rw [hW]; exact keep_heap (heap_new w _) (Keeps.alloc [] _ _)
  have hn2 : W.heap[w.heap.size + 1]? = some (.cells #[.int .i64 10, .int .i64 x.dst, .int .i64 x.a, .int .i64 x.b, .int .i64 x.n, .slice a x.args.length cp] 54 (0, 0)) := by
    have := heap_new (w.alloc (.cells #[.int .i64 f.sig, .slice ra R rp, bv] 29)) (.cells #[.int .i64 10, .int .i64 x.dst, .int .i64 x.a, .int .i64 x.b, .int .i64 x.n, .slice a x.args.length cp] 54)
    rw [World.size_alloc] at this
    rw [hW]
    exact this
  have B : Box (∀ w', Keeps [] W w' → w'.cell? ⟨w.heap.size, 0, none⟩ = some (.int .i64 f.sig) ∧ w'.cell? ⟨w.heap.size, 1, none⟩ = some (.slice ra R rp) ∧ w'.cell? ⟨w.heap.size, 2, none⟩ = some bv ∧ w'.cell? ⟨w.heap.size + 1, 0, none⟩ = some (.int .i64 10) ∧ w'.cell? ⟨w.heap.size + 1, 1, none⟩ = some (.int .i64 x.dst) ∧ w'.cell? ⟨w.heap.size + 1, 2, none⟩ = some (.int .i64 x.a) ∧ w'.cell? ⟨w.heap.size + 1, 3, none⟩ = some (.int .i64 x.b) ∧ w'.cell? ⟨w.heap.size + 1, 4, none⟩ = some (.int .i64 x.n) ∧ w'.cell? ⟨w.heap.size + 1, 5, none⟩ = some (.slice a x.args.length cp)) := hid fun w' k => ⟨hcell (keep_heap hn1 k) 0, hcell (keep_heap hn1 k) 1, hcell (keep_heap hn1 k) 2, hcell (keep_heap hn2 k) 0, hcell (keep_heap hn2 k) 1, hcell (keep_heap hn2 k) 2, hcell (keep_heap hn2 k) 3, hcell (keep_heap hn2 k) 4, hcell (keep_heap hn2 k) 5⟩
  have HWE := hid hW
  have HK2 := hid k2
  clear h hr hR hty hif hfs hz hl hop hW k2 hn1 hn2 hres
  generalize insOk P f x = ok at *
  go_enter Tryd.func17, Tryd.ntmps17
  go_upto_region 1 with fail
  rw [← HWE.out]
  clear HWE
  generalize w.heap.size = q at *
  obtain ⟨b0, b1, b2, c0, c1, c2, c3, c4, c5⟩ := B.out _ (Keeps.refl _ _)
  go_wp2_with fail
  refine (HRI.out _ HK2.out).mono ?_
  rintro e w1 ⟨rfl, k1⟩
  have KW1 := hid k1
  clear b0 b1 b2 c0 c1 c2 c3 c4 c5 k1 HRI
  have KZ : Box (Keeps [] w w1) := hid (HK2.out.quiet KW1.out)
  cases ok with
  | false =>
    have HF : Box (res = false) := hid HE0.out
    clear HE0 HOK
    go_wp2_with fail
    go_ret
    exact ⟨by rw [HF.out]; rfl, KZ.out⟩
  | true =>
  obtain ⟨b0, b1, b2, c0, c1, c2, c3, c4, c5⟩ := B.out _ KW1.out
  have HRG : Box (regsB R x = true ∧ numB P f x = true) := hid (HOK.out rfl)
  have HE : Box (res = (tyE (regT f x.dst) (2, (fun8 P x.n.toNat).sig))) := hid (by rw [HE0.out, Bool.true_and])
  clear HE0 HOK
  have hinT : inB x.dst R = true := regs_dst HRG.out.1 (by unfold isDef; rw [HOP.out]; rfl)
  have HNT : Box (tyB P (regT f x.dst) = true) := hid (reg_named HTY.out (by rw [← HRL.out]; exact hinT))
  have HT := hid fun (w' : World) (k : Keeps [] w w') => HTP.out x.dst w' k hinT
  clear hinT
  generalize regT f x.dst = T at *
  obtain ⟨kt, nt⟩ := T
  simp only at HT
  by_cases gk : kt = 2
  case neg =>
    have ok1 := neb gk
    have HF : Box (res = false) := hid (by rw [HE.out]; unfold tyE; rw [ok1]; rfl)
    clear HE gk
    go_upto_region 22 with fail
    refine wp_region_det (W0 := w1) 286 [(.agg #[.int .i64 f.sig, .slice ra R rp, bv] : Value), (.pointer (some ⟨q + 1, 1, none⟩) : Value), (.int .i64 x.dst : Value), (.agg #[.int .i64 kt, .int .i64 nt] : Value), (.int .i64 kt : Value), (.bool false : Value), (.bool false : Value), (undef : Value), (undef : Value), (undef : Value), (undef : Value), (undef : Value), (undef : Value), (undef : Value), (undef : Value), (undef : Value), (undef : Value), (undef : Value), (undef : Value), (undef : Value), (undef : Value), (undef : Value), (.bool false : Value), (.bool false : Value)] (by kernel_rfl) (by rfl) (by kernel_rfl) (Keeps.refl _ _) (fun A hA => ?_)
    simp only [putAll, Act.put, List.setIfInBounds_toArray, List.set_cons_zero, List.set_cons_succ] at hA
    subst hA
    refine ⟨AllGive.cons (give_yield (by rfl) (fun _ k9 => ld_fn (cell_stays k9 b0) (cell_stays k9 b1) (cell_stays k9 b2) rfl rfl)) (AllGive.cons (give_yield (by rfl) (fun _ _ => rfl)) (AllGive.cons (give_yield (by rfl) (fun _ k9 => ld_int (cell_stays k9 c1) rfl rfl)) (AllGive.cons (give_call (by rfl) 33 #[.agg #[.int .i64 f.sig, .slice ra R rp, bv], .int .i64 x.dst] (fun w => exec_call2 rfl rfl rfl rfl (enter_typ _ _ w)) (fun w9 k9 => HT.out w9 (KZ.out.quiet k9))) (AllGive.cons (give_yield (by rfl) (fun _ _ => rfl)) (AllGive.cons (give_yield (by rfl) (fun _ _ => bin_eql rfl rfl rfl ok1)) (AllGive.cons (give_yield (by rfl) (fun _ _ => rfl)) (AllGive.cons (give_pass (by rfl)) (AllGive.cons (give_pass (by rfl)) (AllGive.cons (give_pass (by rfl)) (AllGive.cons (give_pass (by rfl)) (AllGive.cons (give_pass (by rfl)) (AllGive.cons (give_pass (by rfl)) (AllGive.cons (give_pass (by rfl)) (AllGive.cons (give_pass (by rfl)) (AllGive.cons (give_pass (by rfl)) (AllGive.cons (give_pass (by rfl)) (AllGive.cons (give_pass (by rfl)) (AllGive.cons (give_pass (by rfl)) (AllGive.cons (give_pass (by rfl)) (AllGive.cons (give_pass (by rfl)) (AllGive.cons (give_pass (by rfl)) (AllGive.cons (give_yield (by rfl) (fun _ _ => rfl)) (AllGive.cons (give_yield (by rfl) (fun _ _ => rfl)) (AllGive.nil)))))))))))))))))))))))), fun w8 k8 => ?_⟩
    go_wp2_with fail
    go_ret
    exact ⟨by rw [HF.out]; rfl, KZ.out.quiet k8⟩
  subst gk
  have hn1 : inB x.n P.funcs.length = true := by
    have h2 := HRG.out.2
    unfold numB at h2
    rw [HOP.out] at h2
    exact h2
  obtain ⟨n0, n1⟩ := inB_iff.1 hn1
  obtain ⟨K, hK⟩ : ∃ K : Nat, x.n = (K : Int) := ⟨x.n.toNat, by omega⟩
  obtain ⟨pa, pp, pc, prr, _⟩ := HPR.out.c4
  obtain ⟨gb, go, rfl, hgc⟩ := prr.at (getD_get (l := P.funcs) (k := K) (d := ⟨0, [], []⟩) (by omega))
  have HF : Box (res = (nt == (fun8 P K).sig)) := hid (by
    rw [HE.out, hK, Int.toNat_natCast]
    unfold tyE
    rfl)
  have p4 := cell_stays KZ.out pc
  have g0 : w1.cell? ⟨gb, go + K * 3, none⟩ = some (.int .i64 (fun8 P K).sig) := cell_stays KZ.out hgc.c0.1
  have hlt_K : (K : Int) < (P.funcs.length : Int) := by omega
  rw [hK] at c4
  clear HE hn1 n0 n1 hK pc prr hgc HRG
  generalize P.funcs.length = FN at *
  generalize (fun8 P K).sig = sn at *
  go_upto_region 22 with fail
  refine wp_region_det (W0 := w1) 286 [(.agg #[.int .i64 f.sig, .slice ra R rp, bv] : Value), (.pointer (some ⟨q + 1, 1, none⟩) : Value), (.int .i64 x.dst : Value), (.agg #[.int .i64 2, .int .i64 nt] : Value), (.int .i64 2 : Value), (.bool true : Value), (.bool true : Value), (.agg #[.int .i64 f.sig, .slice ra R rp, bv] : Value), (.pointer (some ⟨q + 1, 1, none⟩) : Value), (.int .i64 x.dst : Value), (.agg #[.int .i64 2, .int .i64 nt] : Value), (.int .i64 nt : Value), (.pointer (some ⟨pb, po, none⟩) : Value), (.pointer (some ⟨pb, po, none⟩) : Value), (.pointer (some ⟨pb, po + 4, none⟩) : Value), (.slice (some ⟨gb, go, none⟩) FN pp : Value), (.pointer (some ⟨q + 1, 4, none⟩) : Value), (.int .i64 (K : Int) : Value), (.pointer (some ⟨gb, go + K * 3, none⟩) : Value), (.pointer (some ⟨gb, go + K * 3, none⟩) : Value), (.int .i64 sn : Value), (.bool (nt == sn) : Value), (.bool (nt == sn) : Value), (.bool (nt == sn) : Value)] (by kernel_rfl) (by rfl) (by kernel_rfl) (Keeps.refl _ _) (fun A hA => ?_)
  simp only [putAll, Act.put, List.setIfInBounds_toArray, List.set_cons_zero, List.set_cons_succ] at hA
  subst hA
  refine ⟨AllGive.cons (give_yield (by rfl) (fun _ k9 => ld_fn (cell_stays k9 b0) (cell_stays k9 b1) (cell_stays k9 b2) rfl rfl)) (AllGive.cons (give_yield (by rfl) (fun _ _ => rfl)) (AllGive.cons (give_yield (by rfl) (fun _ k9 => ld_int (cell_stays k9 c1) rfl rfl)) (AllGive.cons (give_call (by rfl) 33 #[.agg #[.int .i64 f.sig, .slice ra R rp, bv], .int .i64 x.dst] (fun w => exec_call2 rfl rfl rfl rfl (enter_typ _ _ w)) (fun w9 k9 => HT.out w9 (KZ.out.quiet k9))) (AllGive.cons (give_yield (by rfl) (fun _ _ => rfl)) (AllGive.cons (give_yield (by rfl) (fun _ _ => bin_eql rfl rfl rfl rfl)) (AllGive.cons (give_yield (by rfl) (fun _ _ => rfl)) (AllGive.cons (give_yield (by rfl) (fun _ k9 => ld_fn (cell_stays k9 b0) (cell_stays k9 b1) (cell_stays k9 b2) rfl rfl)) (AllGive.cons (give_yield (by rfl) (fun _ _ => rfl)) (AllGive.cons (give_yield (by rfl) (fun _ k9 => ld_int (cell_stays k9 c1) rfl rfl)) (AllGive.cons (give_call (by rfl) 33 #[.agg #[.int .i64 f.sig, .slice ra R rp, bv], .int .i64 x.dst] (fun w => exec_call2 rfl rfl rfl rfl (enter_typ _ _ w)) (fun w9 k9 => HT.out w9 (KZ.out.quiet k9))) (AllGive.cons (give_yield (by rfl) (fun _ _ => rfl)) (AllGive.cons (give_yield (by rfl) (fun _ _ => rfl)) (AllGive.cons (give_yield (by rfl) (fun _ _ => rfl)) (AllGive.cons (give_yield (by rfl) (fun _ _ => rfl)) (AllGive.cons (give_yield (by rfl) (fun _ k9 => ld_fns (cell_stays k9 p4) rfl rfl)) (AllGive.cons (give_yield (by rfl) (fun _ _ => rfl)) (AllGive.cons (give_yield (by rfl) (fun _ k9 => ld_int (cell_stays k9 c4) rfl rfl)) (AllGive.cons (give_yield (by rfl) (fun _ _ => ix_fns rfl rfl rfl hlt_K)) (AllGive.cons (give_yield (by rfl) (fun _ _ => rfl)) (AllGive.cons (give_yield (by rfl) (fun _ k9 => ld_int (cell_stays k9 g0) rfl rfl)) (AllGive.cons (give_yield (by rfl) (fun _ _ => bin_eql rfl rfl rfl rfl)) (AllGive.cons (give_yield (by rfl) (fun _ _ => rfl)) (AllGive.cons (give_yield (by rfl) (fun _ _ => rfl)) (AllGive.nil)))))))))))))))))))))))), fun w8 k8 => ?_⟩
  go_wp2_with fail
  go_ret
  exact ⟨by rw [HF.out]; rfl, KZ.out.quiet k8⟩
set_option maxRecDepth 20000 in
set_option maxHeartbeats 8000000 in
theorem rfit_11 {w : World} {pb po : Nat} {P : Pr8} (h : PrC w pb po P) {f : Fu8} {ra : Option Addr} {R : Nat} (hr : RowsAt w 2 TyC ra f.regs) (hR : R = f.regs.length) (rp : Nat) (bv : Value) (hty : tysB P f.regs = true) (hif : P.ifs.all (fun l => insB l P.sigs.length) = true) (hfs : P.funcs.all (fun g => inB g.sig P.sigs.length) = true) (x : In8) {a : Option Addr} {cp : Nat} (hz : IntsAt w a x.args) (hl : x.args.length ≤ 1000) (hop : x.op = 11) : Calls Tryd.prog 17 #[.pointer (some ⟨pb, po, none⟩), fnV f.sig ra R rp bv, insV x (.slice a x.args.length cp)] w fun e w' => e = .returned (.bool (insOk P f x && ((regT f x.dst).1 == 3 && ((regT f x.a).1 == 1 && implB P (regT f x.a).2 (regT f x.dst).2)))) ∧ Keeps [] w w' := by
  have HRI := hid fun (w' : World) (k : Keeps [] w w') => rinstr_any (PrC.stays _ _ _ _ _ k h) (RowsAt.quiet hr TyC.stays k) hR rp bv hty hif x (cp := cp) (hz.kept k (fun _ _ _ => by simp)) hl
  have HTP := hid fun (r : Int) (w' : World) (k : Keeps [] w w') (hin : inB r R = true) => rtyp_reg (RowsAt.quiet hr TyC.stays k) hR rp f.sig bv r hin
  obtain ⟨res, hres⟩ : ∃ r, r = (insOk P f x && ((regT f x.dst).1 == 3 && ((regT f x.a).1 == 1 && implB P (regT f x.a).2 (regT f x.dst).2))) := ⟨_, rfl⟩
  rw [← hres]
  have HE0 := hid hres
  have HOK : Box (insOk P f x = true → regsB R x = true ∧ numB P f x = true) := hid fun h1 => by
    rw [hR]
    exact insOk_parts h1
  have HOP := hid hop
  have HRR := hid hr
  have HRL := hid hR
  have HTY := hid hty
  have HIF := hid hif
  have HFS := hid hfs
  have HPR := hid h
  have HZ := hid hz
  have HLL := hid hl
  unfold insV fnV at HRI
  unfold fnV at HTP
  unfold insV fnV
  rw [hop] at HRI
  rw [hop]
  obtain ⟨W, hW⟩ : ∃ W, W = (w.alloc (.cells #[.int .i64 f.sig, .slice ra R rp, bv] 29)).alloc (.cells #[.int .i64 11, .int .i64 x.dst, .int .i64 x.a, .int .i64 x.b, .int .i64 x.n, .slice a x.args.length cp] 54) := ⟨_, rfl⟩
  have k2 : Keeps [] w W := by rw [hW]; exact (Keeps.alloc [] w _).quiet (Keeps.alloc [] _ _)
  have hn1 : W.heap[w.heap.size]? = some (.cells #[.int .i64 f.sig, .slice ra R rp, bv] 29 (0, 0)) := by rw [hW]; exact keep_heap (heap_new w _) (Keeps.alloc [] _ _)
  have hn2 : W.heap[w.heap.size + 1]? = some (.cells #[.int .i64 11, .int .i64 x.dst, .int .i64 x.a, .int .i64 x.b, .int .i64 x.n, .slice a x.args.length cp] 54 (0, 0)) := by
    have := heap_new (w.alloc (.cells #[.int .i64 f.sig, .slice ra R rp, bv] 29)) (.cells #[.int .i64 11, .int .i64 x.dst, .int .i64 x.a, .int .i64 x.b, .int .i64 x.n, .slice a x.args.length cp] 54)
    rw [World.size_alloc] at this
    rw [hW]
    exact this
  have B : Box (∀ w', Keeps [] W w' → w'.cell? ⟨w.heap.size, 0, none⟩ = some (.int .i64 f.sig) ∧ w'.cell? ⟨w.heap.size, 1, none⟩ = some (.slice ra R rp) ∧ w'.cell? ⟨w.heap.size, 2, none⟩ = some bv ∧ w'.cell? ⟨w.heap.size + 1, 0, none⟩ = some (.int .i64 11) ∧ w'.cell? ⟨w.heap.size + 1, 1, none⟩ = some (.int .i64 x.dst) ∧ w'.cell? ⟨w.heap.size + 1, 2, none⟩ = some (.int .i64 x.a) ∧ w'.cell? ⟨w.heap.size + 1, 3, none⟩ = some (.int .i64 x.b) ∧ w'.cell? ⟨w.heap.size + 1, 4, none⟩ = some (.int .i64 x.n) ∧ w'.cell? ⟨w.heap.size + 1, 5, none⟩ = some (.slice a x.args.length cp)) := hid fun w' k => ⟨hcell (keep_heap hn1 k) 0, hcell (keep_heap hn1 k) 1, hcell (keep_heap hn1 k) 2, hcell (keep_heap hn2 k) 0, hcell (keep_heap hn2 k) 1, hcell (keep_heap hn2 k) 2, hcell (keep_heap hn2 k) 3, hcell (keep_heap hn2 k) 4, hcell (keep_heap hn2 k) 5⟩
  have HWE := hid hW
  have HK2 := hid k2
  clear h hr hR hty hif hfs hz hl hop hW k2 hn1 hn2 hres
  generalize insOk P f x = ok at *
  go_enter Tryd.func17, Tryd.ntmps17
  go_upto_region 1 with fail
  rw [← HWE.out]
  clear HWE
  generalize w.heap.size = q at *
  obtain ⟨b0, b1, b2, c0, c1, c2, c3, c4, c5⟩ := B.out _ (Keeps.refl _ _)
  go_wp2_with fail
  refine (HRI.out _ HK2.out).mono ?_
  rintro e w1 ⟨rfl, k1⟩
  have KW1 := hid k1
  clear b0 b1 b2 c0 c1 c2 c3 c4 c5 k1 HRI
  have KZ : Box (Keeps [] w w1) := hid (HK2.out.quiet KW1.out)
  cases ok with
  | false =>
    have HF : Box (res = false) := hid HE0.out
    clear HE0 HOK
    go_wp2_with fail
    go_ret
    exact ⟨by rw [HF.out]; rfl, KZ.out⟩
  | true =>
  obtain ⟨b0, b1, b2, c0, c1, c2, c3, c4, c5⟩ := B.out _ KW1.out
  have HRG : Box (regsB R x = true ∧ numB P f x = true) := hid (HOK.out rfl)
  have HE : Box (res = ((regT f x.dst).1 == 3 && ((regT f x.a).1 == 1 && implB P (regT f x.a).2 (regT f x.dst).2))) := hid (by rw [HE0.out, Bool.true_and])
  clear HE0 HOK
  have hinT : inB x.dst R = true := regs_dst HRG.out.1 (by unfold isDef; rw [HOP.out]; rfl)
  have HNT : Box (tyB P (regT f x.dst) = true) := hid (reg_named HTY.out (by rw [← HRL.out]; exact hinT))
  have HT := hid fun (w' : World) (k : Keeps [] w w') => HTP.out x.dst w' k hinT
  clear hinT
  have hinU : inB x.a R = true := regs_use HRG.out.1 0 x.a (by unfold usesL; rw [HOP.out]; rfl)
  have HNU : Box (tyB P (regT f x.a) = true) := hid (reg_named HTY.out (by rw [← HRL.out]; exact hinU))
  have HU := hid fun (w' : World) (k : Keeps [] w w') => HTP.out x.a w' k hinU
  clear hinU
  generalize regT f x.dst = T at *
  generalize regT f x.a = U at *
  obtain ⟨kt, nt⟩ := T
  obtain ⟨ku, nu⟩ := U
  simp only at HT HU HE
  by_cases gk : kt = 3
  case neg =>
    have ok1 := neb gk
    have HF : Box (res = false) := hid (by rw [HE.out, ok1]; rfl)
    clear HE gk
    go_upto_region 24 with fail
    refine wp_region_det (W0 := w1) 286 [(.agg #[.int .i64 f.sig, .slice ra R rp, bv] : Value), (.pointer (some ⟨q + 1, 1, none⟩) : Value), (.int .i64 x.dst : Value), (.agg #[.int .i64 kt, .int .i64 nt] : Value), (.int .i64 kt : Value), (.bool false : Value), (.bool false : Value), (undef : Value), (undef : Value), (undef : Value), (undef : Value), (undef : Value), (undef : Value), (.bool false : Value), (.bool false : Value), (undef : Value), (undef : Value), (undef : Value), (undef : Value), (undef : Value), (undef : Value), (undef : Value), (undef : Value), (undef : Value), (undef : Value), (undef : Value), (undef : Value), (undef : Value), (.bool false : Value), (.bool false : Value)] (by kernel_rfl) (by rfl) (by kernel_rfl) (Keeps.refl _ _) (fun A hA => ?_)
    simp only [putAll, Act.put, List.setIfInBounds_toArray, List.set_cons_zero, List.set_cons_succ] at hA
    subst hA
    refine ⟨AllGive.cons (give_yield (by rfl) (fun _ k9 => ld_fn (cell_stays k9 b0) (cell_stays k9 b1) (cell_stays k9 b2) rfl rfl)) (AllGive.cons (give_yield (by rfl) (fun _ _ => rfl)) (AllGive.cons (give_yield (by rfl) (fun _ k9 => ld_int (cell_stays k9 c1) rfl rfl)) (AllGive.cons (give_call (by rfl) 33 #[.agg #[.int .i64 f.sig, .slice ra R rp, bv], .int .i64 x.dst] (fun w => exec_call2 rfl rfl rfl rfl (enter_typ _ _ w)) (fun w9 k9 => HT.out w9 (KZ.out.quiet k9))) (AllGive.cons (give_yield (by rfl) (fun _ _ => rfl)) (AllGive.cons (give_yield (by rfl) (fun _ _ => bin_eql rfl rfl rfl ok1)) (AllGive.cons (give_yield (by rfl) (fun _ _ => rfl)) (AllGive.cons (give_pass (by rfl)) (AllGive.cons (give_pass (by rfl)) (AllGive.cons (give_pass (by rfl)) (AllGive.cons (give_pass (by rfl)) (AllGive.cons (give_pass (by rfl)) (AllGive.cons (give_pass (by rfl)) (AllGive.cons (give_yield (by rfl) (fun _ _ => rfl)) (AllGive.cons (give_yield (by rfl) (fun _ _ => rfl)) (AllGive.cons (give_pass (by rfl)) (AllGive.cons (give_pass (by rfl)) (AllGive.cons (give_pass (by rfl)) (AllGive.cons (give_pass (by rfl)) (AllGive.cons (give_pass (by rfl)) (AllGive.cons (give_pass (by rfl)) (AllGive.cons (give_pass (by rfl)) (AllGive.cons (give_pass (by rfl)) (AllGive.cons (give_pass (by rfl)) (AllGive.cons (give_pass (by rfl)) (AllGive.cons (give_pass (by rfl)) (AllGive.cons (give_pass (by rfl)) (AllGive.cons (give_pass (by rfl)) (AllGive.cons (give_yield (by rfl) (fun _ _ => rfl)) (AllGive.cons (give_yield (by rfl) (fun _ _ => rfl)) (AllGive.nil)))))))))))))))))))))))))))))), fun w8 k8 => ?_⟩
    go_wp2_with fail
    go_ret
    exact ⟨by rw [HF.out]; rfl, KZ.out.quiet k8⟩
  subst gk
  by_cases gk : ku = 1
  case neg =>
    have ok1 := neb gk
    have HF : Box (res = false) := hid (by rw [HE.out, ok1]; rfl)
    clear HE gk
    go_upto_region 24 with fail
    refine wp_region_det (W0 := w1) 286 [(.agg #[.int .i64 f.sig, .slice ra R rp, bv] : Value), (.pointer (some ⟨q + 1, 1, none⟩) : Value), (.int .i64 x.dst : Value), (.agg #[.int .i64 3, .int .i64 nt] : Value), (.int .i64 3 : Value), (.bool true : Value), (.bool true : Value), (.agg #[.int .i64 f.sig, .slice ra R rp, bv] : Value), (.pointer (some ⟨q + 1, 2, none⟩) : Value), (.int .i64 x.a : Value), (.agg #[.int .i64 ku, .int .i64 nu] : Value), (.int .i64 ku : Value), (.bool false : Value), (.bool false : Value), (.bool false : Value), (undef : Value), (undef : Value), (undef : Value), (undef : Value), (undef : Value), (undef : Value), (undef : Value), (undef : Value), (undef : Value), (undef : Value), (undef : Value), (undef : Value), (undef : Value), (.bool false : Value), (.bool false : Value)] (by kernel_rfl) (by rfl) (by kernel_rfl) (Keeps.refl _ _) (fun A hA => ?_)
    simp only [putAll, Act.put, List.setIfInBounds_toArray, List.set_cons_zero, List.set_cons_succ] at hA
    subst hA
    refine ⟨AllGive.cons (give_yield (by rfl) (fun _ k9 => ld_fn (cell_stays k9 b0) (cell_stays k9 b1) (cell_stays k9 b2) rfl rfl)) (AllGive.cons (give_yield (by rfl) (fun _ _ => rfl)) (AllGive.cons (give_yield (by rfl) (fun _ k9 => ld_int (cell_stays k9 c1) rfl rfl)) (AllGive.cons (give_call (by rfl) 33 #[.agg #[.int .i64 f.sig, .slice ra R rp, bv], .int .i64 x.dst] (fun w => exec_call2 rfl rfl rfl rfl (enter_typ _ _ w)) (fun w9 k9 => HT.out w9 (KZ.out.quiet k9))) (AllGive.cons (give_yield (by rfl) (fun _ _ => rfl)) (AllGive.cons (give_yield (by rfl) (fun _ _ => bin_eql rfl rfl rfl rfl)) (AllGive.cons (give_yield (by rfl) (fun _ _ => rfl)) (AllGive.cons (give_yield (by rfl) (fun _ k9 => ld_fn (cell_stays k9 b0) (cell_stays k9 b1) (cell_stays k9 b2) rfl rfl)) (AllGive.cons (give_yield (by rfl) (fun _ _ => rfl)) (AllGive.cons (give_yield (by rfl) (fun _ k9 => ld_int (cell_stays k9 c2) rfl rfl)) (AllGive.cons (give_call (by rfl) 33 #[.agg #[.int .i64 f.sig, .slice ra R rp, bv], .int .i64 x.a] (fun w => exec_call2 rfl rfl rfl rfl (enter_typ _ _ w)) (fun w9 k9 => HU.out w9 (KZ.out.quiet k9))) (AllGive.cons (give_yield (by rfl) (fun _ _ => rfl)) (AllGive.cons (give_yield (by rfl) (fun _ _ => bin_eql rfl rfl rfl ok1)) (AllGive.cons (give_yield (by rfl) (fun _ _ => rfl)) (AllGive.cons (give_yield (by rfl) (fun _ _ => rfl)) (AllGive.cons (give_pass (by rfl)) (AllGive.cons (give_pass (by rfl)) (AllGive.cons (give_pass (by rfl)) (AllGive.cons (give_pass (by rfl)) (AllGive.cons (give_pass (by rfl)) (AllGive.cons (give_pass (by rfl)) (AllGive.cons (give_pass (by rfl)) (AllGive.cons (give_pass (by rfl)) (AllGive.cons (give_pass (by rfl)) (AllGive.cons (give_pass (by rfl)) (AllGive.cons (give_pass (by rfl)) (AllGive.cons (give_pass (by rfl)) (AllGive.cons (give_pass (by rfl)) (AllGive.cons (give_yield (by rfl) (fun _ _ => rfl)) (AllGive.cons (give_yield (by rfl) (fun _ _ => rfl)) (AllGive.nil)))))))))))))))))))))))))))))), fun w8 k8 => ?_⟩
    go_wp2_with fail
    go_ret
    exact ⟨by rw [HF.out]; rfl, KZ.out.quiet k8⟩
  subst gk
  have HF : Box (res = implB P nu nt) := hid (by rw [HE.out]; rfl)
  have HIM := hid fun (w' : World) (k : Keeps [] w w') => (rimpl_any (PrC.stays _ _ _ _ _ k HPR.out) nu nt).mono (fun e w2 h => (⟨h.1, by rw [h.2]; exact Keeps.refl _ _⟩ : e = .returned (.int .i64 (implI P nu nt)) ∧ Keeps [] w' w2))
  have hge := implI_ge P nu nt
  clear HE
  generalize implB P nu nt = ib at *
  generalize implI P nu nt = ii at *
  go_upto_region 24 with fail
  refine wp_region_det (W0 := w1) 286 [(.agg #[.int .i64 f.sig, .slice ra R rp, bv] : Value), (.pointer (some ⟨q + 1, 1, none⟩) : Value), (.int .i64 x.dst : Value), (.agg #[.int .i64 3, .int .i64 nt] : Value), (.int .i64 3 : Value), (.bool true : Value), (.bool true : Value), (.agg #[.int .i64 f.sig, .slice ra R rp, bv] : Value), (.pointer (some ⟨q + 1, 2, none⟩) : Value), (.int .i64 x.a : Value), (.agg #[.int .i64 1, .int .i64 nu] : Value), (.int .i64 1 : Value), (.bool true : Value), (.bool true : Value), (.bool true : Value), (.pointer (some ⟨pb, po, none⟩) : Value), (.agg #[.int .i64 f.sig, .slice ra R rp, bv] : Value), (.pointer (some ⟨q + 1, 2, none⟩) : Value), (.int .i64 x.a : Value), (.agg #[.int .i64 1, .int .i64 nu] : Value), (.int .i64 nu : Value), (.agg #[.int .i64 f.sig, .slice ra R rp, bv] : Value), (.pointer (some ⟨q + 1, 1, none⟩) : Value), (.int .i64 x.dst : Value), (.agg #[.int .i64 3, .int .i64 nt] : Value), (.int .i64 nt : Value), (.int .i64 ii : Value), (.bool ib : Value), (.bool ib : Value), (.bool ib : Value)] (by kernel_rfl) (by rfl) (by kernel_rfl) (Keeps.refl _ _) (fun A hA => ?_)
  simp only [putAll, Act.put, List.setIfInBounds_toArray, List.set_cons_zero, List.set_cons_succ] at hA
  subst hA
  refine ⟨AllGive.cons (give_yield (by rfl) (fun _ k9 => ld_fn (cell_stays k9 b0) (cell_stays k9 b1) (cell_stays k9 b2) rfl rfl)) (AllGive.cons (give_yield (by rfl) (fun _ _ => rfl)) (AllGive.cons (give_yield (by rfl) (fun _ k9 => ld_int (cell_stays k9 c1) rfl rfl)) (AllGive.cons (give_call (by rfl) 33 #[.agg #[.int .i64 f.sig, .slice ra R rp, bv], .int .i64 x.dst] (fun w => exec_call2 rfl rfl rfl rfl (enter_typ _ _ w)) (fun w9 k9 => HT.out w9 (KZ.out.quiet k9))) (AllGive.cons (give_yield (by rfl) (fun _ _ => rfl)) (AllGive.cons (give_yield (by rfl) (fun _ _ => bin_eql rfl rfl rfl rfl)) (AllGive.cons (give_yield (by rfl) (fun _ _ => rfl)) (AllGive.cons (give_yield (by rfl) (fun _ k9 => ld_fn (cell_stays k9 b0) (cell_stays k9 b1) (cell_stays k9 b2) rfl rfl)) (AllGive.cons (give_yield (by rfl) (fun _ _ => rfl)) (AllGive.cons (give_yield (by rfl) (fun _ k9 => ld_int (cell_stays k9 c2) rfl rfl)) (AllGive.cons (give_call (by rfl) 33 #[.agg #[.int .i64 f.sig, .slice ra R rp, bv], .int .i64 x.a] (fun w => exec_call2 rfl rfl rfl rfl (enter_typ _ _ w)) (fun w9 k9 => HU.out w9 (KZ.out.quiet k9))) (AllGive.cons (give_yield (by rfl) (fun _ _ => rfl)) (AllGive.cons (give_yield (by rfl) (fun _ _ => bin_eql rfl rfl rfl rfl)) (AllGive.cons (give_yield (by rfl) (fun _ _ => rfl)) (AllGive.cons (give_yield (by rfl) (fun _ _ => rfl)) (AllGive.cons (give_yield (by rfl) (fun _ _ => rfl)) (AllGive.cons (give_yield (by rfl) (fun _ k9 => ld_fn (cell_stays k9 b0) (cell_stays k9 b1) (cell_stays k9 b2) rfl rfl)) (AllGive.cons (give_yield (by rfl) (fun _ _ => rfl)) (AllGive.cons (give_yield (by rfl) (fun _ k9 => ld_int (cell_stays k9 c2) rfl rfl)) (AllGive.cons (give_call (by rfl) 33 #[.agg #[.int .i64 f.sig, .slice ra R rp, bv], .int .i64 x.a] (fun w => exec_call2 rfl rfl rfl rfl (enter_typ _ _ w)) (fun w9 k9 => HU.out w9 (KZ.out.quiet k9))) (AllGive.cons (give_yield (by rfl) (fun _ _ => rfl)) (AllGive.cons (give_yield (by rfl) (fun _ k9 => ld_fn (cell_stays k9 b0) (cell_stays k9 b1) (cell_stays k9 b2) rfl rfl)) (AllGive.cons (give_yield (by rfl) (fun _ _ => rfl)) (AllGive.cons (give_yield (by rfl) (fun _ k9 => ld_int (cell_stays k9 c1) rfl rfl)) (AllGive.cons (give_call (by rfl) 33 #[.agg #[.int .i64 f.sig, .slice ra R rp, bv], .int .i64 x.dst] (fun w => exec_call2 rfl rfl rfl rfl (enter_typ _ _ w)) (fun w9 k9 => HT.out w9 (KZ.out.quiet k9))) (AllGive.cons (give_yield (by rfl) (fun _ _ => rfl)) (AllGive.cons (give_call (by rfl) 35 #[.pointer (some ⟨pb, po, none⟩), .int .i64 nu, .int .i64 nt] (fun w => exec_call3 rfl rfl rfl rfl rfl (enter_impl _ _ _ w)) (fun w9 k9 => HIM.out w9 (KZ.out.quiet k9))) (AllGive.cons (give_yield (by rfl) (fun _ _ => bin_geq rfl rfl rfl hge)) (AllGive.cons (give_yield (by rfl) (fun _ _ => rfl)) (AllGive.cons (give_yield (by rfl) (fun _ _ => rfl)) (AllGive.nil)))))))))))))))))))))))))))))), fun w8 k8 => ?_⟩
  go_wp2_with fail
  go_ret
  exact ⟨by rw [HF.out]; rfl, KZ.out.quiet k8⟩
end Go.Proofs.YtlopddflbhnjdaaDoor

namespace Go.Proofs.YtlopddflbhnjdaaDoor
open Go.RowKit

set_option maxRecDepth 20000 in
set_option maxHeartbeats 8000000 in
theorem rfit_12 {w : World} {pb po : Nat} {P : Pr8} (h : PrC w pb po P) {f : Fu8} {ra : Option Addr} {R : Nat} (hr : RowsAt w 2 TyC ra f.regs) (hR : R = f.regs.length) (rp : Nat) (bv : Value) (hty : tysB P f.regs = true) (hif : P.ifs.all (fun l => insB l P.sigs.length) = true) (hfs : P.funcs.all (fun g => inB g.sig P.sigs.length) = true) (x : In8) {a : Option Addr} {cp : Nat} (hz : IntsAt w a x.args) (hl : x.args.length ≤ 1000) (hop : x.op = 12) : Calls Tryd.prog 17 #[.pointer (some ⟨pb, po, none⟩), fnV f.sig ra R rp bv, insV x (.slice a x.args.length cp)] w fun e w' => e = .returned (.bool (insOk P f x && (match (sigO P (fun8 P x.n.toNat).sig) with | none => false | some s => argsB f x.args s.1 && tyE s.2 (regT f x.dst)))) ∧ Keeps [] w w' := by
  have HRI := hid fun (w' : World) (k : Keeps [] w w') => rinstr_any (PrC.stays _ _ _ _ _ k h) (RowsAt.quiet hr TyC.stays k) hR rp bv hty hif x (cp := cp) (hz.kept k (fun _ _ _ => by simp)) hl
  have HTP := hid fun (r : Int) (w' : World) (k : Keeps [] w w') (hin : inB r R = true) => rtyp_reg (RowsAt.quiet hr TyC.stays k) hR rp f.sig bv r hin
  obtain ⟨res, hres⟩ : ∃ r, r = (insOk P f x && (match (sigO P (fun8 P x.n.toNat).sig) with | none => false | some s => argsB f x.args s.1 && tyE s.2 (regT f x.dst))) := ⟨_, rfl⟩
  rw [← hres]
  have HE0 := hid hres
  have HOK : Box (insOk P f x = true → regsB R x = true ∧ numB P f x = true) := hid fun h1 => by
    rw [hR]
    exact insOk_parts h1
  have HOP := hid hop
  have HRR := hid hr
  have HRL := hid hR
  have HTY := hid hty
  have HIF := hid hif
  have HFS := hid hfs
  have HPR := hid h
  have HZ := hid hz
  have HLL := hid hl
  unfold insV fnV at HRI
  unfold fnV at HTP
  unfold insV fnV
  rw [hop] at HRI
  rw [hop]
  obtain ⟨W, hW⟩ : ∃ W, W = (w.alloc (.cells #[.int .i64 f.sig, .slice ra R rp, bv] 29)).alloc (.cells #[.int .i64 12, .int .i64 x.dst, .int .i64 x.a, .int .i64 x.b, .int .i64 x.n, .slice a x.args.length cp] 54) := ⟨_, rfl⟩
  have k2 : Keeps [] w W := by rw [hW]; exact (Keeps.alloc [] w _).quiet (Keeps.alloc [] _ _)
  have hn1 : W.heap[w.heap.size]? = some (.cells #[.int .i64 f.sig, .slice ra R rp, bv] 29 (0, 0)) := by rw [hW]; exact keep_heap (heap_new w _) (Keeps.alloc [] _ _)
  have hn2 : W.heap[w.heap.size + 1]? = some (.cells #[.int .i64 12, .int .i64 x.dst, .int .i64 x.a, .int .i64 x.b, .int .i64 x.n, .slice a x.args.length cp] 54 (0, 0)) := by
    have := heap_new (w.alloc (.cells #[.int .i64 f.sig, .slice ra R rp, bv] 29)) (.cells #[.int .i64 12, .int .i64 x.dst, .int .i64 x.a, .int .i64 x.b, .int .i64 x.n, .slice a x.args.length cp] 54)
    rw [World.size_alloc] at this
    rw [hW]
    exact this
  have B : Box (∀ w', Keeps [] W w' → w'.cell? ⟨w.heap.size, 0, none⟩ = some (.int .i64 f.sig) ∧ w'.cell? ⟨w.heap.size, 1, none⟩ = some (.slice ra R rp) ∧ w'.cell? ⟨w.heap.size, 2, none⟩ = some bv ∧ w'.cell? ⟨w.heap.size + 1, 0, none⟩ = some (.int .i64 12) ∧ w'.cell? ⟨w.heap.size + 1, 1, none⟩ = some (.int .i64 x.dst) ∧ w'.cell? ⟨w.heap.size + 1, 2, none⟩ = some (.int .i64 x.a) ∧ w'.cell? ⟨w.heap.size + 1, 3, none⟩ = some (.int .i64 x.b) ∧ w'.cell? ⟨w.heap.size + 1, 4, none⟩ = some (.int .i64 x.n) ∧ w'.cell? ⟨w.heap.size + 1, 5, none⟩ = some (.slice a x.args.length cp)) := hid fun w' k => ⟨hcell (keep_heap hn1 k) 0, hcell (keep_heap hn1 k) 1, hcell (keep_heap hn1 k) 2, hcell (keep_heap hn2 k) 0, hcell (keep_heap hn2 k) 1, hcell (keep_heap hn2 k) 2, hcell (keep_heap hn2 k) 3, hcell (keep_heap hn2 k) 4, hcell (keep_heap hn2 k) 5⟩
  have HWE := hid hW
  have HK2 := hid k2
  clear h hr hR hty hif hfs hz hl hop hW k2 hn1 hn2 hres
  generalize insOk P f x = ok at *
  go_enter Tryd.func17, Tryd.ntmps17
  go_upto_region 1 with fail
  rw [← HWE.out]
  clear HWE
  generalize w.heap.size = q at *
  obtain ⟨b0, b1, b2, c0, c1, c2, c3, c4, c5⟩ := B.out _ (Keeps.refl _ _)
  go_wp2_with fail
  refine (HRI.out _ HK2.out).mono ?_
  rintro e w1 ⟨rfl, k1⟩
  have KW1 := hid k1
  clear b0 b1 b2 c0 c1 c2 c3 c4 c5 k1 HRI
  have KZ : Box (Keeps [] w w1) := hid (HK2.out.quiet KW1.out)
  cases ok with
  | false =>
    have HF : Box (res = false) := hid HE0.out
    clear HE0 HOK
    go_wp2_with fail
    go_ret
    exact ⟨by rw [HF.out]; rfl, KZ.out⟩
  | true =>
  obtain ⟨b0, b1, b2, c0, c1, c2, c3, c4, c5⟩ := B.out _ KW1.out
  have HRG : Box (regsB R x = true ∧ numB P f x = true) := hid (HOK.out rfl)
  have HE : Box (res = (match (sigO P (fun8 P x.n.toNat).sig) with | none => false | some s => argsB f x.args s.1 && tyE s.2 (regT f x.dst))) := hid (by rw [HE0.out, Bool.true_and])
  clear HE0 HOK
  have hind : inB x.dst R = true := regs_dst HRG.out.1 (by unfold isDef; rw [HOP.out]; rfl)
  have hina : insB x.args R = true := regs_args HRG.out.1 0 (fun k y hy => by unfold usesL; rw [HOP.out]; simpa using hy)
  have hn1 : inB x.n P.funcs.length = true := by
    have h2 := HRG.out.2
    unfold numB at h2
    rw [HOP.out] at h2
    exact h2
  obtain ⟨n0, n1⟩ := inB_iff.1 hn1
  obtain ⟨K, hK⟩ : ∃ K : Nat, x.n = (K : Int) := ⟨x.n.toNat, by omega⟩
  have hsn : inB (fun8 P K).sig P.sigs.length = true := all_at HFS.out (getD_get (l := P.funcs) (k := K) (d := ⟨0, [], []⟩) (by omega))
  obtain ⟨m0, m1⟩ := inB_iff.1 hsn
  obtain ⟨SN, hSN⟩ : ∃ SN : Nat, (fun8 P K).sig = (SN : Int) := ⟨(fun8 P K).sig.toNat, by omega⟩
  have HF : Box (res = callB f x (P.sigs.getD SN ([], 0, 0))) := hid (by
    rw [HE.out, hK, Int.toNat_natCast, sigO_in hsn, hSN, Int.toNat_natCast]
    unfold callB
    rw [tyE_comm])
  obtain ⟨pa, pp, pc, prr, _⟩ := HPR.out.c4
  obtain ⟨gb, go, rfl, hgc⟩ := prr.at (getD_get (l := P.funcs) (k := K) (d := ⟨0, [], []⟩) (by omega))
  have p4 := cell_stays KZ.out pc
  have g0 : w1.cell? ⟨gb, go + K * 3, none⟩ = some (.int .i64 (fun8 P K).sig) := cell_stays KZ.out hgc.c0.1
  rw [hSN] at g0
  have hlt_K : (K : Int) < (P.funcs.length : Int) := by omega
  clear pc prr hgc
  obtain ⟨sa0, sp0, sc, srr, _⟩ := HPR.out.c1
  obtain ⟨sb, so, rfl, hsc⟩ := srr.at (getD_get (l := P.sigs) (k := SN) (d := ([], 0, 0)) (by omega))
  obtain ⟨ta, tp, tc, trr, _⟩ := hsc.c0
  have s1 := cell_stays KZ.out sc
  have u0 := cell_stays KZ.out tc
  have u1 := cell_stays KZ.out hsc.c1.1
  have u2 := cell_stays KZ.out hsc.c2.1
  have HCL := hid fun (w' : World) (k : Keeps [] w w') => rcall_any (pb := pb) (po := po) (RowsAt.quiet HRR.out TyC.stays k) HRL.out rp bv x (cp := cp) (sp := tp) (HZ.out.kept k (fun _ _ _ => by simp)) HLL.out (s := P.sigs.getD SN ([], 0, 0)) (RowsAt.quiet trr TyC.stays k) hind hina
  unfold fnV insV at HCL
  rw [HOP.out] at HCL
  have hlt_SN : (SN : Int) < (P.sigs.length : Int) := by omega
  clear sc srr hsc tc trr hind hina HRG
  generalize P.sigs.getD SN ([], 0, 0) = sg at *
  generalize P.sigs.length = SL at *
  generalize callB f x sg = cb at *
  rw [hK] at c4 HCL
  rw [hK]
  clear HE hn1 n0 n1 hK m0 m1 hsn hSN
  generalize P.funcs.length = FN at *
  go_upto_region 26 with fail
  refine wp_region_det (W0 := w1) 286 [(.pointer (some ⟨pb, po, none⟩) : Value), (.agg #[.int .i64 f.sig, .slice ra R rp, bv] : Value), (.agg #[.int .i64 12, .int .i64 x.dst, .int .i64 x.a, .int .i64 x.b, .int .i64 (K : Int), .slice a x.args.length cp] : Value), (.pointer (some ⟨pb, po, none⟩) : Value), (.pointer (some ⟨pb, po, none⟩) : Value), (.pointer (some ⟨pb, po + 1, none⟩) : Value), (.slice (some ⟨sb, so, none⟩) SL sp0 : Value), (.pointer (some ⟨pb, po, none⟩) : Value), (.pointer (some ⟨pb, po, none⟩) : Value), (.pointer (some ⟨pb, po + 4, none⟩) : Value), (.slice (some ⟨gb, go, none⟩) FN pp : Value), (.pointer (some ⟨q + 1, 4, none⟩) : Value), (.int .i64 (K : Int) : Value), (.pointer (some ⟨gb, go + K * 3, none⟩) : Value), (.pointer (some ⟨gb, go + K * 3, none⟩) : Value), (.int .i64 (SN : Int) : Value), (.pointer (some ⟨sb, so + SN * 3, none⟩) : Value), (.agg #[.slice ta sg.1.length tp, .int .i64 sg.2.1, .int .i64 sg.2.2] : Value), (.bool cb : Value), (.bool cb : Value)] (by kernel_rfl) (by rfl) (by kernel_rfl) (Keeps.refl _ _) (fun A hA => ?_)
  simp only [putAll, Act.put, List.setIfInBounds_toArray, List.set_cons_zero, List.set_cons_succ] at hA
  subst hA
  refine ⟨AllGive.cons (give_yield (by rfl) (fun _ _ => rfl)) (AllGive.cons (give_yield (by rfl) (fun _ k9 => ld_fn (cell_stays k9 b0) (cell_stays k9 b1) (cell_stays k9 b2) rfl rfl)) (AllGive.cons (give_yield (by rfl) (fun _ k9 => ld_in (cell_stays k9 c0) (cell_stays k9 c1) (cell_stays k9 c2) (cell_stays k9 c3) (cell_stays k9 c4) (cell_stays k9 c5) rfl rfl)) (AllGive.cons (give_yield (by rfl) (fun _ _ => rfl)) (AllGive.cons (give_yield (by rfl) (fun _ _ => rfl)) (AllGive.cons (give_yield (by rfl) (fun _ _ => rfl)) (AllGive.cons (give_yield (by rfl) (fun _ k9 => ld_sigs (cell_stays k9 s1) rfl rfl)) (AllGive.cons (give_yield (by rfl) (fun _ _ => rfl)) (AllGive.cons (give_yield (by rfl) (fun _ _ => rfl)) (AllGive.cons (give_yield (by rfl) (fun _ _ => rfl)) (AllGive.cons (give_yield (by rfl) (fun _ k9 => ld_fns (cell_stays k9 p4) rfl rfl)) (AllGive.cons (give_yield (by rfl) (fun _ _ => rfl)) (AllGive.cons (give_yield (by rfl) (fun _ k9 => ld_int (cell_stays k9 c4) rfl rfl)) (AllGive.cons (give_yield (by rfl) (fun _ _ => ix_fns rfl rfl rfl hlt_K)) (AllGive.cons (give_yield (by rfl) (fun _ _ => rfl)) (AllGive.cons (give_yield (by rfl) (fun _ k9 => ld_int (cell_stays k9 g0) rfl rfl)) (AllGive.cons (give_yield (by rfl) (fun _ _ => ix_sigs rfl rfl rfl hlt_SN)) (AllGive.cons (give_yield (by rfl) (fun _ k9 => ld_sg (cell_stays k9 u0) (cell_stays k9 u1) (cell_stays k9 u2) rfl rfl)) (AllGive.cons (give_call (by rfl) 36 #[.pointer (some ⟨pb, po, none⟩), .agg #[.int .i64 f.sig, .slice ra R rp, bv], .agg #[.int .i64 12, .int .i64 x.dst, .int .i64 x.a, .int .i64 x.b, .int .i64 (K : Int), .slice a x.args.length cp], .agg #[.slice ta sg.1.length tp, .int .i64 sg.2.1, .int .i64 sg.2.2]] (fun w => exec_call4 rfl rfl rfl rfl rfl rfl (enter_call _ _ _ _ w)) (fun w9 k9 => HCL.out w9 (KZ.out.quiet k9))) (AllGive.cons (give_yield (by rfl) (fun _ _ => rfl)) (AllGive.nil)))))))))))))))))))), fun w8 k8 => ?_⟩
  go_wp2_with fail
  go_ret
  exact ⟨by rw [HF.out]; rfl, KZ.out.quiet k8⟩
set_option maxRecDepth 20000 in
set_option maxHeartbeats 8000000 in
theorem rfit_13 {w : World} {pb po : Nat} {P : Pr8} (h : PrC w pb po P) {f : Fu8} {ra : Option Addr} {R : Nat} (hr : RowsAt w 2 TyC ra f.regs) (hR : R = f.regs.length) (rp : Nat) (bv : Value) (hty : tysB P f.regs = true) (hif : P.ifs.all (fun l => insB l P.sigs.length) = true) (hfs : P.funcs.all (fun g => inB g.sig P.sigs.length) = true) (x : In8) {a : Option Addr} {cp : Nat} (hz : IntsAt w a x.args) (hl : x.args.length ≤ 1000) (hop : x.op = 13) : Calls Tryd.prog 17 #[.pointer (some ⟨pb, po, none⟩), fnV f.sig ra R rp bv, insV x (.slice a x.args.length cp)] w fun e w' => e = .returned (.bool (insOk P f x && (match (if (regT f x.a).1 = 2 then sigO P (regT f x.a).2 else none) with | none => false | some s => argsB f x.args s.1 && tyE s.2 (regT f x.dst)))) ∧ Keeps [] w w' := by
  have HRI := hid fun (w' : World) (k : Keeps [] w w') => rinstr_any (PrC.stays _ _ _ _ _ k h) (RowsAt.quiet hr TyC.stays k) hR rp bv hty hif x (cp := cp) (hz.kept k (fun _ _ _ => by simp)) hl
  have HTP := hid fun (r : Int) (w' : World) (k : Keeps [] w w') (hin : inB r R = true) => rtyp_reg (RowsAt.quiet hr TyC.stays k) hR rp f.sig bv r hin
  obtain ⟨res, hres⟩ : ∃ r, r = (insOk P f x && (match (if (regT f x.a).1 = 2 then sigO P (regT f x.a).2 else none) with | none => false | some s => argsB f x.args s.1 && tyE s.2 (regT f x.dst))) := ⟨_, rfl⟩
  rw [← hres]
  have HE0 := hid hres
  have HOK : Box (insOk P f x = true → regsB R x = true ∧ numB P f x = true) := hid fun h1 => by
    rw [hR]
    exact insOk_parts h1
  have HOP := hid hop
  have HRR := hid hr
  have HRL := hid hR
  have HTY := hid hty
  have HIF := hid hif
  have HFS := hid hfs
  have HPR := hid h
  have HZ := hid hz
  have HLL := hid hl
  unfold insV fnV at HRI
  unfold fnV at HTP
  unfold insV fnV
  rw [hop] at HRI
  rw [hop]
  obtain ⟨W, hW⟩ : ∃ W, W = (w.alloc (.cells #[.int .i64 f.sig, .slice ra R rp, bv] 29)).alloc (.cells #[.int .i64 13, .int .i64 x.dst, .int .i64 x.a, .int .i64 x.b, .int .i64 x.n, .slice a x.args.length cp] 54) := ⟨_, rfl⟩
  have k2 : Keeps [] w W := by rw [hW]; exact (Keeps.alloc [] w _).quiet (Keeps.alloc [] _ _)
  have hn1 : W.heap[w.heap.size]? = some (.cells #[.int .i64 f.sig, .slice ra R rp, bv] 29 (0, 0)) := by rw [hW]; exact keep_heap (heap_new w _) (Keeps.alloc [] _ _)
  have hn2 : W.heap[w.heap.size + 1]? = some (.cells #[.int .i64 13, .int .i64 x.dst, .int .i64 x.a, .int .i64 x.b, .int .i64 x.n, .slice a x.args.length cp] 54 (0, 0)) := by
    have := heap_new (w.alloc (.cells #[.int .i64 f.sig, .slice ra R rp, bv] 29)) (.cells #[.int .i64 13, .int .i64 x.dst, .int .i64 x.a, .int .i64 x.b, .int .i64 x.n, .slice a x.args.length cp] 54)
    rw [World.size_alloc] at this
    rw [hW]
    exact this
  have B : Box (∀ w', Keeps [] W w' → w'.cell? ⟨w.heap.size, 0, none⟩ = some (.int .i64 f.sig) ∧ w'.cell? ⟨w.heap.size, 1, none⟩ = some (.slice ra R rp) ∧ w'.cell? ⟨w.heap.size, 2, none⟩ = some bv ∧ w'.cell? ⟨w.heap.size + 1, 0, none⟩ = some (.int .i64 13) ∧ w'.cell? ⟨w.heap.size + 1, 1, none⟩ = some (.int .i64 x.dst) ∧ w'.cell? ⟨w.heap.size + 1, 2, none⟩ = some (.int .i64 x.a) ∧ w'.cell? ⟨w.heap.size + 1, 3, none⟩ = some (.int .i64 x.b) ∧ w'.cell? ⟨w.heap.size + 1, 4, none⟩ = some (.int .i64 x.n) ∧ w'.cell? ⟨w.heap.size + 1, 5, none⟩ = some (.slice a x.args.length cp)) := hid fun w' k => ⟨hcell (keep_heap hn1 k) 0, hcell (keep_heap hn1 k) 1, hcell (keep_heap hn1 k) 2, hcell (keep_heap hn2 k) 0, hcell (keep_heap hn2 k) 1, hcell (keep_heap hn2 k) 2, hcell (keep_heap hn2 k) 3, hcell (keep_heap hn2 k) 4, hcell (keep_heap hn2 k) 5⟩
  have HWE := hid hW
  have HK2 := hid k2
  clear h hr hR hty hif hfs hz hl hop hW k2 hn1 hn2 hres
  generalize insOk P f x = ok at *
  go_enter Tryd.func17, Tryd.ntmps17
  go_upto_region 1 with fail
  rw [← HWE.out]
  clear HWE
  generalize w.heap.size = q at *
  obtain ⟨b0, b1, b2, c0, c1, c2, c3, c4, c5⟩ := B.out _ (Keeps.refl _ _)
  go_wp2_with fail
  refine (HRI.out _ HK2.out).mono ?_
  rintro e w1 ⟨rfl, k1⟩
  have KW1 := hid k1
  clear b0 b1 b2 c0 c1 c2 c3 c4 c5 k1 HRI
  have KZ : Box (Keeps [] w w1) := hid (HK2.out.quiet KW1.out)
  cases ok with
  | false =>
    have HF : Box (res = false) := hid HE0.out
    clear HE0 HOK
    go_wp2_with fail
    go_ret
    exact ⟨by rw [HF.out]; rfl, KZ.out⟩
  | true =>
  obtain ⟨b0, b1, b2, c0, c1, c2, c3, c4, c5⟩ := B.out _ KW1.out
  have HRG : Box (regsB R x = true ∧ numB P f x = true) := hid (HOK.out rfl)
  have HE : Box (res = (match (if (regT f x.a).1 = 2 then sigO P (regT f x.a).2 else none) with | none => false | some s => argsB f x.args s.1 && tyE s.2 (regT f x.dst))) := hid (by rw [HE0.out, Bool.true_and])
  clear HE0 HOK
  have hind : inB x.dst R = true := regs_dst HRG.out.1 (by unfold isDef; rw [HOP.out]; rfl)
  have hina : insB x.args R = true := regs_args HRG.out.1 1 (fun k y hy => by unfold usesL; rw [HOP.out]; simpa using hy)
  have hinU : inB x.a R = true := regs_use HRG.out.1 0 x.a (by unfold usesL; rw [HOP.out]; rfl)
  have HNU : Box (tyB P (regT f x.a) = true) := hid (reg_named HTY.out (by rw [← HRL.out]; exact hinU))
  have HU := hid fun (w' : World) (k : Keeps [] w w') => HTP.out x.a w' k hinU
  clear hinU
  generalize regT f x.a = U at *
  obtain ⟨ku, nu⟩ := U
  simp only at HU HE
  by_cases gk : ku = 2
  case neg =>
    have ok1 := neb gk
    have HF : Box (res = false) := hid (by rw [HE.out, if_neg gk])
    clear HE gk
    go_upto_region 28 with fail
    refine wp_region_det (W0 := w1) 286 [(.agg #[.int .i64 f.sig, .slice ra R rp, bv] : Value), (.pointer (some ⟨q + 1, 2, none⟩) : Value), (.int .i64 x.a : Value), (.agg #[.int .i64 ku, .int .i64 nu] : Value), (.int .i64 ku : Value), (.bool false : Value), (.bool false : Value), (undef : Value), (undef : Value), (undef : Value), (undef : Value), (undef : Value), (undef : Value), (undef : Value), (undef : Value), (undef : Value), (undef : Value), (undef : Value), (undef : Value), (undef : Value), (undef : Value), (undef : Value), (.bool false : Value), (.bool false : Value)] (by kernel_rfl) (by rfl) (by kernel_rfl) (Keeps.refl _ _) (fun A hA => ?_)
    simp only [putAll, Act.put, List.setIfInBounds_toArray, List.set_cons_zero, List.set_cons_succ] at hA
    subst hA
    refine ⟨AllGive.cons (give_yield (by rfl) (fun _ k9 => ld_fn (cell_stays k9 b0) (cell_stays k9 b1) (cell_stays k9 b2) rfl rfl)) (AllGive.cons (give_yield (by rfl) (fun _ _ => rfl)) (AllGive.cons (give_yield (by rfl) (fun _ k9 => ld_int (cell_stays k9 c2) rfl rfl)) (AllGive.cons (give_call (by rfl) 33 #[.agg #[.int .i64 f.sig, .slice ra R rp, bv], .int .i64 x.a] (fun w => exec_call2 rfl rfl rfl rfl (enter_typ _ _ w)) (fun w9 k9 => HU.out w9 (KZ.out.quiet k9))) (AllGive.cons (give_yield (by rfl) (fun _ _ => rfl)) (AllGive.cons (give_yield (by rfl) (fun _ _ => bin_eql rfl rfl rfl ok1)) (AllGive.cons (give_yield (by rfl) (fun _ _ => rfl)) (AllGive.cons (give_pass (by rfl)) (AllGive.cons (give_pass (by rfl)) (AllGive.cons (give_pass (by rfl)) (AllGive.cons (give_pass (by rfl)) (AllGive.cons (give_pass (by rfl)) (AllGive.cons (give_pass (by rfl)) (AllGive.cons (give_pass (by rfl)) (AllGive.cons (give_pass (by rfl)) (AllGive.cons (give_pass (by rfl)) (AllGive.cons (give_pass (by rfl)) (AllGive.cons (give_pass (by rfl)) (AllGive.cons (give_pass (by rfl)) (AllGive.cons (give_pass (by rfl)) (AllGive.cons (give_pass (by rfl)) (AllGive.cons (give_pass (by rfl)) (AllGive.cons (give_yield (by rfl) (fun _ _ => rfl)) (AllGive.cons (give_yield (by rfl) (fun _ _ => rfl)) (AllGive.nil)))))))))))))))))))))))), fun w8 k8 => ?_⟩
    go_wp2_with fail
    go_ret
    exact ⟨by rw [HF.out]; rfl, KZ.out.quiet k8⟩
  subst gk
  have hsn : inB nu P.sigs.length = true := ty_2 HNU.out rfl
  obtain ⟨m0, m1⟩ := inB_iff.1 hsn
  obtain ⟨SN, rfl⟩ : ∃ SN : Nat, nu = (SN : Int) := ⟨nu.toNat, by omega⟩
  have HF : Box (res = callB f x (P.sigs.getD SN ([], 0, 0))) := hid (by
    rw [HE.out, if_pos rfl, sigO_in hsn, Int.toNat_natCast]
    unfold callB
    rw [tyE_comm])
  obtain ⟨sa0, sp0, sc, srr, _⟩ := HPR.out.c1
  obtain ⟨sb, so, rfl, hsc⟩ := srr.at (getD_get (l := P.sigs) (k := SN) (d := ([], 0, 0)) (by omega))
  obtain ⟨ta, tp, tc, trr, _⟩ := hsc.c0
  have s1 := cell_stays KZ.out sc
  have u0 := cell_stays KZ.out tc
  have u1 := cell_stays KZ.out hsc.c1.1
  have u2 := cell_stays KZ.out hsc.c2.1
  have HCL := hid fun (w' : World) (k : Keeps [] w w') => rcall_any (pb := pb) (po := po) (RowsAt.quiet HRR.out TyC.stays k) HRL.out rp bv x (cp := cp) (sp := tp) (HZ.out.kept k (fun _ _ _ => by simp)) HLL.out (s := P.sigs.getD SN ([], 0, 0)) (RowsAt.quiet trr TyC.stays k) hind hina
  unfold fnV insV at HCL
  rw [HOP.out] at HCL
  have hlt_SN : (SN : Int) < (P.sigs.length : Int) := by omega
  clear sc srr hsc tc trr hind hina HRG
  generalize P.sigs.getD SN ([], 0, 0) = sg at *
  generalize P.sigs.length = SL at *
  generalize callB f x sg = cb at *
  clear HE m0 m1 hsn HNU
  go_upto_region 28 with fail
  refine wp_region_det (W0 := w1) 286 [(.agg #[.int .i64 f.sig, .slice ra R rp, bv] : Value), (.pointer (some ⟨q + 1, 2, none⟩) : Value), (.int .i64 x.a : Value), (.agg #[.int .i64 2, .int .i64 (SN : Int)] : Value), (.int .i64 2 : Value), (.bool true : Value), (.bool true : Value), (.pointer (some ⟨pb, po, none⟩) : Value), (.agg #[.int .i64 f.sig, .slice ra R rp, bv] : Value), (.agg #[.int .i64 13, .int .i64 x.dst, .int .i64 x.a, .int .i64 x.b, .int .i64 x.n, .slice a x.args.length cp] : Value), (.pointer (some ⟨pb, po, none⟩) : Value), (.pointer (some ⟨pb, po, none⟩) : Value), (.pointer (some ⟨pb, po + 1, none⟩) : Value), (.slice (some ⟨sb, so, none⟩) SL sp0 : Value), (.agg #[.int .i64 f.sig, .slice ra R rp, bv] : Value), (.pointer (some ⟨q + 1, 2, none⟩) : Value), (.int .i64 x.a : Value), (.agg #[.int .i64 2, .int .i64 (SN : Int)] : Value), (.int .i64 (SN : Int) : Value), (.pointer (some ⟨sb, so + SN * 3, none⟩) : Value), (.agg #[.slice ta sg.1.length tp, .int .i64 sg.2.1, .int .i64 sg.2.2] : Value), (.bool cb : Value), (.bool cb : Value), (.bool cb : Value)] (by kernel_rfl) (by rfl) (by kernel_rfl) (Keeps.refl _ _) (fun A hA => ?_)
  simp only [putAll, Act.put, List.setIfInBounds_toArray, List.set_cons_zero, List.set_cons_succ] at hA
  subst hA
  refine ⟨AllGive.cons (give_yield (by rfl) (fun _ k9 => ld_fn (cell_stays k9 b0) (cell_stays k9 b1) (cell_stays k9 b2) rfl rfl)) (AllGive.cons (give_yield (by rfl) (fun _ _ => rfl)) (AllGive.cons (give_yield (by rfl) (fun _ k9 => ld_int (cell_stays k9 c2) rfl rfl)) (AllGive.cons (give_call (by rfl) 33 #[.agg #[.int .i64 f.sig, .slice ra R rp, bv], .int .i64 x.a] (fun w => exec_call2 rfl rfl rfl rfl (enter_typ _ _ w)) (fun w9 k9 => HU.out w9 (KZ.out.quiet k9))) (AllGive.cons (give_yield (by rfl) (fun _ _ => rfl)) (AllGive.cons (give_yield (by rfl) (fun _ _ => bin_eql rfl rfl rfl rfl)) (AllGive.cons (give_yield (by rfl) (fun _ _ => rfl)) (AllGive.cons (give_yield (by rfl) (fun _ _ => rfl)) (AllGive.cons (give_yield (by rfl) (fun _ k9 => ld_fn (cell_stays k9 b0) (cell_stays k9 b1) (cell_stays k9 b2) rfl rfl)) (AllGive.cons (give_yield (by rfl) (fun _ k9 => ld_in (cell_stays k9 c0) (cell_stays k9 c1) (cell_stays k9 c2) (cell_stays k9 c3) (cell_stays k9 c4) (cell_stays k9 c5) rfl rfl)) (AllGive.cons (give_yield (by rfl) (fun _ _ => rfl)) (AllGive.cons (give_yield (by rfl) (fun _ _ => rfl)) (AllGive.cons (give_yield (by rfl) (fun _ _ => rfl)) (AllGive.cons (give_yield (by rfl) (fun _ k9 => ld_sigs (cell_stays k9 s1) rfl rfl)) (AllGive.cons (give_yield (by rfl) (fun _ k9 => ld_fn (cell_stays k9 b0) (cell_stays k9 b1) (cell_stays k9 b2) rfl rfl)) (AllGive.cons (give_yield (by rfl) (fun _ _ => rfl)) (AllGive.cons (give_yield (by rfl) (fun _ k9 => ld_int (cell_stays k9 c2) rfl rfl)) (AllGive.cons (give_call (by rfl) 33 #[.agg #[.int .i64 f.sig, .slice ra R rp, bv], .int .i64 x.a] (fun w => exec_call2 rfl rfl rfl rfl (enter_typ _ _ w)) (fun w9 k9 => HU.out w9 (KZ.out.quiet k9))) (AllGive.cons (give_yield (by rfl) (fun _ _ => rfl)) (AllGive.cons (give_yield (by rfl) (fun _ _ => ix_sigs rfl rfl rfl hlt_SN)) (AllGive.cons (give_yield (by rfl) (fun _ k9 => ld_sg (cell_stays k9 u0) (cell_stays k9 u1) (cell_stays k9 u2) rfl rfl)) (AllGive.cons (give_call (by rfl) 36 #[.pointer (some ⟨pb, po, none⟩), .agg #[.int .i64 f.sig, .slice ra R rp, bv], .agg #[.int .i64 13, .int .i64 x.dst, .int .i64 x.a, .int .i64 x.b, .int .i64 x.n, .slice a x.args.length cp], .agg #[.slice ta sg.1.length tp, .int .i64 sg.2.1, .int .i64 sg.2.2]] (fun w => exec_call4 rfl rfl rfl rfl rfl rfl (enter_call _ _ _ _ w)) (fun w9 k9 => HCL.out w9 (KZ.out.quiet k9))) (AllGive.cons (give_yield (by rfl) (fun _ _ => rfl)) (AllGive.cons (give_yield (by rfl) (fun _ _ => rfl)) (AllGive.nil)))))))))))))))))))))))), fun w8 k8 => ?_⟩
  go_wp2_with fail
  go_ret
  exact ⟨by rw [HF.out]; rfl, KZ.out.quiet k8⟩
end Go.Proofs.YtlopddflbhnjdaaDoor

namespace Go.Proofs.YtlopddflbhnjdaaDoor
open Go.RowKit

set_option maxRecDepth 20000 in
set_option maxHeartbeats 8000000 in
theorem rfit_14 {w : World} {pb po : Nat} {P : Pr8} (h : PrC w pb po P) {f : Fu8} {ra : Option Addr} {R : Nat} (hr : RowsAt w 2 TyC ra f.regs) (hR : R = f.regs.length) (rp : Nat) (bv : Value) (hty : tysB P f.regs = true) (hif : P.ifs.all (fun l => insB l P.sigs.length) = true) (hfs : P.funcs.all (fun g => inB g.sig P.sigs.length) = true) (x : In8) {a : Option Addr} {cp : Nat} (hz : IntsAt w a x.args) (hl : x.args.length ≤ 1000) (hop : x.op = 14) : Calls Tryd.prog 17 #[.pointer (some ⟨pb, po, none⟩), fnV f.sig ra R rp bv, insV x (.slice a x.args.length cp)] w fun e w' => e = .returned (.bool (insOk P f x && (match (methO P (regT f x.a) x.n) with | none => false | some s => argsB f x.args s.1 && tyE s.2 (regT f x.dst)))) ∧ Keeps [] w w' := by
  have HRI := hid fun (w' : World) (k : Keeps [] w w') => rinstr_any (PrC.stays _ _ _ _ _ k h) (RowsAt.quiet hr TyC.stays k) hR rp bv hty hif x (cp := cp) (hz.kept k (fun _ _ _ => by simp)) hl
  have HTP := hid fun (r : Int) (w' : World) (k : Keeps [] w w') (hin : inB r R = true) => rtyp_reg (RowsAt.quiet hr TyC.stays k) hR rp f.sig bv r hin
  obtain ⟨res, hres⟩ : ∃ r, r = (insOk P f x && (match (methO P (regT f x.a) x.n) with | none => false | some s => argsB f x.args s.1 && tyE s.2 (regT f x.dst))) := ⟨_, rfl⟩
  rw [← hres]
  have HE0 := hid hres
  have HOK : Box (insOk P f x = true → regsB R x = true ∧ numB P f x = true) := hid fun h1 => by
    rw [hR]
    exact insOk_parts h1
  have HOP := hid hop
  have HRR := hid hr
  have HRL := hid hR
  have HTY := hid hty
  have HIF := hid hif
  have HFS := hid hfs
  have HPR := hid h
  have HZ := hid hz
  have HLL := hid hl
  unfold insV fnV at HRI
  unfold fnV at HTP
  unfold insV fnV
  rw [hop] at HRI
  rw [hop]
  obtain ⟨W, hW⟩ : ∃ W, W = (w.alloc (.cells #[.int .i64 f.sig, .slice ra R rp, bv] 29)).alloc (.cells #[.int .i64 14, .int .i64 x.dst, .int .i64 x.a, .int .i64 x.b, .int .i64 x.n, .slice a x.args.length cp] 54) := ⟨_, rfl⟩
  have k2 : Keeps [] w W := by rw [hW]; exact (Keeps.alloc [] w _).quiet (Keeps.alloc [] _ _)
  have hn1 : W.heap[w.heap.size]? = some (.cells #[.int .i64 f.sig, .slice ra R rp, bv] 29 (0, 0)) := by rw [hW]; exact keep_heap (heap_new w _) (Keeps.alloc [] _ _)
  have hn2 : W.heap[w.heap.size + 1]? = some (.cells #[.int .i64 14, .int .i64 x.dst, .int .i64 x.a, .int .i64 x.b, .int .i64 x.n, .slice a x.args.length cp] 54 (0, 0)) := by
    have := heap_new (w.alloc (.cells #[.int .i64 f.sig, .slice ra R rp, bv] 29)) (.cells #[.int .i64 14, .int .i64 x.dst, .int .i64 x.a, .int .i64 x.b, .int .i64 x.n, .slice a x.args.length cp] 54)
    rw [World.size_alloc] at this
    rw [hW]
    exact this
  have B : Box (∀ w', Keeps [] W w' → w'.cell? ⟨w.heap.size, 0, none⟩ = some (.int .i64 f.sig) ∧ w'.cell? ⟨w.heap.size, 1, none⟩ = some (.slice ra R rp) ∧ w'.cell? ⟨w.heap.size, 2, none⟩ = some bv ∧ w'.cell? ⟨w.heap.size + 1, 0, none⟩ = some (.int .i64 14) ∧ w'.cell? ⟨w.heap.size + 1, 1, none⟩ = some (.int .i64 x.dst) ∧ w'.cell? ⟨w.heap.size + 1, 2, none⟩ = some (.int .i64 x.a) ∧ w'.cell? ⟨w.heap.size + 1, 3, none⟩ = some (.int .i64 x.b) ∧ w'.cell? ⟨w.heap.size + 1, 4, none⟩ = some (.int .i64 x.n) ∧ w'.cell? ⟨w.heap.size + 1, 5, none⟩ = some (.slice a x.args.length cp)) := hid fun w' k => ⟨hcell (keep_heap hn1 k) 0, hcell (keep_heap hn1 k) 1, hcell (keep_heap hn1 k) 2, hcell (keep_heap hn2 k) 0, hcell (keep_heap hn2 k) 1, hcell (keep_heap hn2 k) 2, hcell (keep_heap hn2 k) 3, hcell (keep_heap hn2 k) 4, hcell (keep_heap hn2 k) 5⟩
  have HWE := hid hW
  have HK2 := hid k2
  clear h hr hR hty hif hfs hz hl hop hW k2 hn1 hn2 hres
  generalize insOk P f x = ok at *
  go_enter Tryd.func17, Tryd.ntmps17
  go_upto_region 1 with fail
  rw [← HWE.out]
  clear HWE
  generalize w.heap.size = q at *
  obtain ⟨b0, b1, b2, c0, c1, c2, c3, c4, c5⟩ := B.out _ (Keeps.refl _ _)
  go_wp2_with fail
  refine (HRI.out _ HK2.out).mono ?_
  rintro e w1 ⟨rfl, k1⟩
  have KW1 := hid k1
  clear b0 b1 b2 c0 c1 c2 c3 c4 c5 k1 HRI
  have KZ : Box (Keeps [] w w1) := hid (HK2.out.quiet KW1.out)
  cases ok with
  | false =>
    have HF : Box (res = false) := hid HE0.out
    clear HE0 HOK
    go_wp2_with fail
    go_ret
    exact ⟨by rw [HF.out]; rfl, KZ.out⟩
  | true =>
  obtain ⟨b0, b1, b2, c0, c1, c2, c3, c4, c5⟩ := B.out _ KW1.out
  have HRG : Box (regsB R x = true ∧ numB P f x = true) := hid (HOK.out rfl)
  have HE : Box (res = (match (methO P (regT f x.a) x.n) with | none => false | some s => argsB f x.args s.1 && tyE s.2 (regT f x.dst))) := hid (by rw [HE0.out, Bool.true_and])
  clear HE0 HOK
  have hind : inB x.dst R = true := regs_dst HRG.out.1 (by unfold isDef; rw [HOP.out]; rfl)
  have hina : insB x.args R = true := regs_args HRG.out.1 1 (fun k y hy => by unfold usesL; rw [HOP.out]; simpa using hy)
  have hinU : inB x.a R = true := regs_use HRG.out.1 0 x.a (by unfold usesL; rw [HOP.out]; rfl)
  have HNU : Box (tyB P (regT f x.a) = true) := hid (reg_named HTY.out (by rw [← HRL.out]; exact hinU))
  have HU := hid fun (w' : World) (k : Keeps [] w w') => HTP.out x.a w' k hinU
  clear hinU
  have HNUM : Box ((regT f x.a).1 = 3 → inB x.n (ifOf P (regT f x.a).2).length = true) := hid fun ht => by
    have h2 := HRG.out.2
    rw [num_m1 HOP.out HIF.out ht (ty_3 HNU.out ht)] at h2
    exact h2
  generalize regT f x.a = U at *
  obtain ⟨ku, nu⟩ := U
  simp only at HU HNUM
  by_cases gk : ku = 3
  case neg =>
    have ok1 := neb gk
    have HF : Box (res = false) := hid (by
      rw [HE.out]
      unfold methO
      rw [if_neg (fun h => gk h.1)])
    clear HE gk
    go_upto_region 30 with fail
    refine wp_region_det (W0 := w1) 286 [(.agg #[.int .i64 f.sig, .slice ra R rp, bv] : Value), (.pointer (some ⟨q + 1, 2, none⟩) : Value), (.int .i64 x.a : Value), (.agg #[.int .i64 ku, .int .i64 nu] : Value), (.int .i64 ku : Value), (.bool false : Value), (.bool false : Value), (undef : Value), (undef : Value), (undef : Value), (undef : Value), (undef : Value), (undef : Value), (undef : Value), (undef : Value), (undef : Value), (undef : Value), (undef : Value), (undef : Value), (undef : Value), (undef : Value), (undef : Value), (undef : Value), (undef : Value), (undef : Value), (undef : Value), (undef : Value), (undef : Value), (undef : Value), (undef : Value), (undef : Value), (undef : Value), (undef : Value), (.bool false : Value), (.bool false : Value)] (by kernel_rfl) (by rfl) (by kernel_rfl) (Keeps.refl _ _) (fun A hA => ?_)
    simp only [putAll, Act.put, List.setIfInBounds_toArray, List.set_cons_zero, List.set_cons_succ] at hA
    subst hA
    refine ⟨AllGive.cons (give_yield (by rfl) (fun _ k9 => ld_fn (cell_stays k9 b0) (cell_stays k9 b1) (cell_stays k9 b2) rfl rfl)) (AllGive.cons (give_yield (by rfl) (fun _ _ => rfl)) (AllGive.cons (give_yield (by rfl) (fun _ k9 => ld_int (cell_stays k9 c2) rfl rfl)) (AllGive.cons (give_call (by rfl) 33 #[.agg #[.int .i64 f.sig, .slice ra R rp, bv], .int .i64 x.a] (fun w => exec_call2 rfl rfl rfl rfl (enter_typ _ _ w)) (fun w9 k9 => HU.out w9 (KZ.out.quiet k9))) (AllGive.cons (give_yield (by rfl) (fun _ _ => rfl)) (AllGive.cons (give_yield (by rfl) (fun _ _ => bin_eql rfl rfl rfl ok1)) (AllGive.cons (give_yield (by rfl) (fun _ _ => rfl)) (AllGive.cons (give_pass (by rfl)) (AllGive.cons (give_pass (by rfl)) (AllGive.cons (give_pass (by rfl)) (AllGive.cons (give_pass (by rfl)) (AllGive.cons (give_pass (by rfl)) (AllGive.cons (give_pass (by rfl)) (AllGive.cons (give_pass (by rfl)) (AllGive.cons (give_pass (by rfl)) (AllGive.cons (give_pass (by rfl)) (AllGive.cons (give_pass (by rfl)) (AllGive.cons (give_pass (by rfl)) (AllGive.cons (give_pass (by rfl)) (AllGive.cons (give_pass (by rfl)) (AllGive.cons (give_pass (by rfl)) (AllGive.cons (give_pass (by rfl)) (AllGive.cons (give_pass (by rfl)) (AllGive.cons (give_pass (by rfl)) (AllGive.cons (give_pass (by rfl)) (AllGive.cons (give_pass (by rfl)) (AllGive.cons (give_pass (by rfl)) (AllGive.cons (give_pass (by rfl)) (AllGive.cons (give_pass (by rfl)) (AllGive.cons (give_pass (by rfl)) (AllGive.cons (give_pass (by rfl)) (AllGive.cons (give_pass (by rfl)) (AllGive.cons (give_pass (by rfl)) (AllGive.cons (give_yield (by rfl) (fun _ _ => rfl)) (AllGive.cons (give_yield (by rfl) (fun _ _ => rfl)) (AllGive.nil))))))))))))))))))))))))))))))))))), fun w8 k8 => ?_⟩
    go_wp2_with fail
    go_ret
    exact ⟨by rw [HF.out]; rfl, KZ.out.quiet k8⟩
  subst gk
  have hn1 := HNUM.out rfl
  have ht2 : inB nu P.ifs.length = true := ty_3 HNU.out rfl
  obtain ⟨j0, j1⟩ := inB_iff.1 ht2
  obtain ⟨J, rfl⟩ : ∃ J : Nat, nu = (J : Int) := ⟨nu.toNat, by omega⟩
  have eJ : ((J : Int)).toNat = J := by omega
  unfold ifOf at hn1
  simp only [eJ] at hn1
  obtain ⟨n0, n1⟩ := inB_iff.1 hn1
  obtain ⟨K, hK⟩ : ∃ K : Nat, x.n = (K : Int) := ⟨x.n.toNat, by omega⟩
  obtain ⟨pa, pp, pc, prr, _⟩ := HPR.out.c2
  obtain ⟨gb, go, rfl, hgc⟩ := prr.at (getD_get (l := P.ifs) (k := J) (d := []) (by omega))
  obtain ⟨ga, gp, gc, grr, _⟩ := hgc
  obtain ⟨hb, ho, rfl, htc⟩ := grr.at (getD_get (l := P.ifs.getD J []) (k := K) (d := 0) (by omega))
  have hif1 : insB (P.ifs.getD J []) P.sigs.length = true := all_at HIF.out (getD_get (l := P.ifs) (k := J) (d := []) (by omega))
  have hsn : inB ((P.ifs.getD J []).getD K 0) P.sigs.length = true := all_at hif1 (getD_get (d := 0) (by omega))
  obtain ⟨m0, m1⟩ := inB_iff.1 hsn
  obtain ⟨SN, hSN⟩ : ∃ SN : Nat, (P.ifs.getD J []).getD K 0 = (SN : Int) := ⟨((P.ifs.getD J []).getD K 0).toNat, by omega⟩
  have HF : Box (res = callB f x (P.sigs.getD SN ([], 0, 0))) := hid (by
    rw [HE.out]
    unfold methO ifOf
    rw [if_pos ⟨rfl, ht2, by simp only [eJ]; exact hn1⟩]
    simp only [eJ, hK, Int.toNat_natCast]
    rw [sigO_in hsn, hSN, Int.toNat_natCast]
    unfold callB
    rw [tyE_comm])
  have p2 := cell_stays KZ.out pc
  have g0 := cell_stays KZ.out gc
  rw [Nat.mul_one] at g0
  have e0 := cell_stays KZ.out htc.1
  rw [Nat.mul_one, hSN] at e0
  have hlt_J : (J : Int) < (P.ifs.length : Int) := j1
  have hlt_K : (K : Int) < ((P.ifs.getD J []).length : Int) := by omega
  clear pc prr gc grr htc hif1
  obtain ⟨sa0, sp0, sc, srr, _⟩ := HPR.out.c1
  obtain ⟨sb, so, rfl, hsc⟩ := srr.at (getD_get (l := P.sigs) (k := SN) (d := ([], 0, 0)) (by omega))
  obtain ⟨ta, tp, tc, trr, _⟩ := hsc.c0
  have s1 := cell_stays KZ.out sc
  have u0 := cell_stays KZ.out tc
  have u1 := cell_stays KZ.out hsc.c1.1
  have u2 := cell_stays KZ.out hsc.c2.1
  have HCL := hid fun (w' : World) (k : Keeps [] w w') => rcall_any (pb := pb) (po := po) (RowsAt.quiet HRR.out TyC.stays k) HRL.out rp bv x (cp := cp) (sp := tp) (HZ.out.kept k (fun _ _ _ => by simp)) HLL.out (s := P.sigs.getD SN ([], 0, 0)) (RowsAt.quiet trr TyC.stays k) hind hina
  unfold fnV insV at HCL
  rw [HOP.out] at HCL
  have hlt_SN : (SN : Int) < (P.sigs.length : Int) := by omega
  clear sc srr hsc tc trr hind hina HRG
  generalize P.sigs.getD SN ([], 0, 0) = sg at *
  generalize P.sigs.length = SL at *
  generalize callB f x sg = cb at *
  rw [hK] at c4 HCL
  rw [hK]
  clear HE HNUM hn1 ht2 j0 j1 eJ n0 n1 hK m0 m1 hsn hSN HNU
  generalize P.ifs.length = IN at *
  generalize (P.ifs.getD J []).length = M at *
  go_upto_region 30 with fail
  refine wp_region_det (W0 := w1) 286 [(.agg #[.int .i64 f.sig, .slice ra R rp, bv] : Value), (.pointer (some ⟨q + 1, 2, none⟩) : Value), (.int .i64 x.a : Value), (.agg #[.int .i64 3, .int .i64 (J : Int)] : Value), (.int .i64 3 : Value), (.bool true : Value), (.bool true : Value), (.pointer (some ⟨pb, po, none⟩) : Value), (.agg #[.int .i64 f.sig, .slice ra R rp, bv] : Value), (.agg #[.int .i64 14, .int .i64 x.dst, .int .i64 x.a, .int .i64 x.b, .int .i64 (K : Int), .slice a x.args.length cp] : Value), (.pointer (some ⟨pb, po, none⟩) : Value), (.pointer (some ⟨pb, po, none⟩) : Value), (.pointer (some ⟨pb, po + 1, none⟩) : Value), (.slice (some ⟨sb, so, none⟩) SL sp0 : Value), (.pointer (some ⟨pb, po, none⟩) : Value), (.pointer (some ⟨pb, po, none⟩) : Value), (.pointer (some ⟨pb, po + 2, none⟩) : Value), (.slice (some ⟨gb, go, none⟩) IN pp : Value), (.agg #[.int .i64 f.sig, .slice ra R rp, bv] : Value), (.pointer (some ⟨q + 1, 2, none⟩) : Value), (.int .i64 x.a : Value), (.agg #[.int .i64 3, .int .i64 (J : Int)] : Value), (.int .i64 (J : Int) : Value), (.pointer (some ⟨gb, go + J, none⟩) : Value), (.pointer (some ⟨gb, go + J, none⟩) : Value), (.slice (some ⟨hb, ho, none⟩) M gp : Value), (.pointer (some ⟨q + 1, 4, none⟩) : Value), (.int .i64 (K : Int) : Value), (.pointer (some ⟨hb, ho + K, none⟩) : Value), (.int .i64 (SN : Int) : Value), (.pointer (some ⟨sb, so + SN * 3, none⟩) : Value), (.agg #[.slice ta sg.1.length tp, .int .i64 sg.2.1, .int .i64 sg.2.2] : Value), (.bool cb : Value), (.bool cb : Value), (.bool cb : Value)] (by kernel_rfl) (by rfl) (by kernel_rfl) (Keeps.refl _ _) (fun A hA => ?_)
  simp only [putAll, Act.put, List.setIfInBounds_toArray, List.set_cons_zero, List.set_cons_succ] at hA
  subst hA
  refine ⟨AllGive.cons (give_yield (by rfl) (fun _ k9 => ld_fn (cell_stays k9 b0) (cell_stays k9 b1) (cell_stays k9 b2) rfl rfl)) (AllGive.cons (give_yield (by rfl) (fun _ _ => rfl)) (AllGive.cons (give_yield (by rfl) (fun _ k9 => ld_int (cell_stays k9 c2) rfl rfl)) (AllGive.cons (give_call (by rfl) 33 #[.agg #[.int .i64 f.sig, .slice ra R rp, bv], .int .i64 x.a] (fun w => exec_call2 rfl rfl rfl rfl (enter_typ _ _ w)) (fun w9 k9 => HU.out w9 (KZ.out.quiet k9))) (AllGive.cons (give_yield (by rfl) (fun _ _ => rfl)) (AllGive.cons (give_yield (by rfl) (fun _ _ => bin_eql rfl rfl rfl rfl)) (AllGive.cons (give_yield (by rfl) (fun _ _ => rfl)) (AllGive.cons (give_yield (by rfl) (fun _ _ => rfl)) (AllGive.cons (give_yield (by rfl) (fun _ k9 => ld_fn (cell_stays k9 b0) (cell_stays k9 b1) (cell_stays k9 b2) rfl rfl)) (AllGive.cons (give_yield (by rfl) (fun _ k9 => ld_in (cell_stays k9 c0) (cell_stays k9 c1) (cell_stays k9 c2) (cell_stays k9 c3) (cell_stays k9 c4) (cell_stays k9 c5) rfl rfl)) (AllGive.cons (give_yield (by rfl) (fun _ _ => rfl)) (AllGive.cons (give_yield (by rfl) (fun _ _ => rfl)) (AllGive.cons (give_yield (by rfl) (fun _ _ => rfl)) (AllGive.cons (give_yield (by rfl) (fun _ k9 => ld_sigs (cell_stays k9 s1) rfl rfl)) (AllGive.cons (give_yield (by rfl) (fun _ _ => rfl)) (AllGive.cons (give_yield (by rfl) (fun _ _ => rfl)) (AllGive.cons (give_yield (by rfl) (fun _ _ => rfl)) (AllGive.cons (give_yield (by rfl) (fun _ k9 => ld_ifs (cell_stays k9 p2) rfl rfl)) (AllGive.cons (give_yield (by rfl) (fun _ k9 => ld_fn (cell_stays k9 b0) (cell_stays k9 b1) (cell_stays k9 b2) rfl rfl)) (AllGive.cons (give_yield (by rfl) (fun _ _ => rfl)) (AllGive.cons (give_yield (by rfl) (fun _ k9 => ld_int (cell_stays k9 c2) rfl rfl)) (AllGive.cons (give_call (by rfl) 33 #[.agg #[.int .i64 f.sig, .slice ra R rp, bv], .int .i64 x.a] (fun w => exec_call2 rfl rfl rfl rfl (enter_typ _ _ w)) (fun w9 k9 => HU.out w9 (KZ.out.quiet k9))) (AllGive.cons (give_yield (by rfl) (fun _ _ => rfl)) (AllGive.cons (give_yield (by rfl) (fun _ _ => ix_ifs rfl rfl rfl hlt_J)) (AllGive.cons (give_yield (by rfl) (fun _ _ => rfl)) (AllGive.cons (give_yield (by rfl) (fun _ k9 => ld_ints (cell_stays k9 g0) rfl rfl)) (AllGive.cons (give_yield (by rfl) (fun _ _ => rfl)) (AllGive.cons (give_yield (by rfl) (fun _ k9 => ld_int (cell_stays k9 c4) rfl rfl)) (AllGive.cons (give_yield (by rfl) (fun _ _ => ix_ints rfl rfl rfl hlt_K)) (AllGive.cons (give_yield (by rfl) (fun _ k9 => ld_int (cell_stays k9 e0) rfl rfl)) (AllGive.cons (give_yield (by rfl) (fun _ _ => ix_sigs rfl rfl rfl hlt_SN)) (AllGive.cons (give_yield (by rfl) (fun _ k9 => ld_sg (cell_stays k9 u0) (cell_stays k9 u1) (cell_stays k9 u2) rfl rfl)) (AllGive.cons (give_call (by rfl) 36 #[.pointer (some ⟨pb, po, none⟩), .agg #[.int .i64 f.sig, .slice ra R rp, bv], .agg #[.int .i64 14, .int .i64 x.dst, .int .i64 x.a, .int .i64 x.b, .int .i64 (K : Int), .slice a x.args.length cp], .agg #[.slice ta sg.1.length tp, .int .i64 sg.2.1, .int .i64 sg.2.2]] (fun w => exec_call4 rfl rfl rfl rfl rfl rfl (enter_call _ _ _ _ w)) (fun w9 k9 => HCL.out w9 (KZ.out.quiet k9))) (AllGive.cons (give_yield (by rfl) (fun _ _ => rfl)) (AllGive.cons (give_yield (by rfl) (fun _ _ => rfl)) (AllGive.nil))))))))))))))))))))))))))))))))))), fun w8 k8 => ?_⟩
  go_wp2_with fail
  go_ret
  exact ⟨by rw [HF.out]; rfl, KZ.out.quiet k8⟩
end Go.Proofs.YtlopddflbhnjdaaDoor

namespace Go.Proofs.YtlopddflbhnjdaaDoor
open Go.RowKit

set_option maxRecDepth 20000 in
set_option maxHeartbeats 8000000 in
theorem rfit_no {w : World} {pb po : Nat} {P : Pr8} (h : PrC w pb po P) {f : Fu8} {ra : Option Addr} {R : Nat} (hr : RowsAt w 2 TyC ra f.regs) (hR : R = f.regs.length) (rp : Nat) (bv : Value) (hty : tysB P f.regs = true) (hif : P.ifs.all (fun l => insB l P.sigs.length) = true) (hfs : P.funcs.all (fun g => inB g.sig P.sigs.length) = true) (x : In8) {a : Option Addr} {cp : Nat} (hz : IntsAt w a x.args) (hl : x.args.length ≤ 1000) (hno : insOk P f x = false) : Calls Tryd.prog 17 #[.pointer (some ⟨pb, po, none⟩), fnV f.sig ra R rp bv, insV x (.slice a x.args.length cp)] w fun e w' => e = .returned (.bool false) ∧ Keeps [] w w' := by
  have HRI := hid fun (w' : World) (k : Keeps [] w w') => rinstr_any (PrC.stays _ _ _ _ _ k h) (RowsAt.quiet hr TyC.stays k) hR rp bv hty hif x (cp := cp) (hz.kept k (fun _ _ _ => by simp)) hl
  have HTP := hid fun (r : Int) (w' : World) (k : Keeps [] w w') (hin : inB r R = true) => rtyp_reg (RowsAt.quiet hr TyC.stays k) hR rp f.sig bv r hin
  rw [hno] at HRI
  have HRR := hid hr
  have HRL := hid hR
  have HTY := hid hty
  have HIF := hid hif
  have HFS := hid hfs
  have HPR := hid h
  have HZ := hid hz
  have HLL := hid hl
  unfold insV fnV at HRI
  unfold fnV at HTP
  unfold insV fnV
  obtain ⟨W, hW⟩ : ∃ W, W = (w.alloc (.cells #[.int .i64 f.sig, .slice ra R rp, bv] 29)).alloc (.cells #[.int .i64 x.op, .int .i64 x.dst, .int .i64 x.a, .int .i64 x.b, .int .i64 x.n, .slice a x.args.length cp] 54) := ⟨_, rfl⟩
  have k2 : Keeps [] w W := by rw [hW]; exact (Keeps.alloc [] w _).quiet (Keeps.alloc [] _ _)
  have hn1 : W.heap[w.heap.size]? = some (.cells #[.int .i64 f.sig, .slice ra R rp, bv] 29 (0, 0)) := by rw [hW]; exact keep_heap (heap_new w _) (Keeps.alloc [] _ _)
  have hn2 : W.heap[w.heap.size + 1]? = some (.cells #[.int .i64 x.op, .int .i64 x.dst, .int .i64 x.a, .int .i64 x.b, .int .i64 x.n, .slice a x.args.length cp] 54 (0, 0)) := by
    have := heap_new (w.alloc (.cells #[.int .i64 f.sig, .slice ra R rp, bv] 29)) (.cells #[.int .i64 x.op, .int .i64 x.dst, .int .i64 x.a, .int .i64 x.b, .int .i64 x.n, .slice a x.args.length cp] 54)
    rw [World.size_alloc] at this
    rw [hW]
    exact this
  have B : Box (∀ w', Keeps [] W w' → w'.cell? ⟨w.heap.size, 0, none⟩ = some (.int .i64 f.sig) ∧ w'.cell? ⟨w.heap.size, 1, none⟩ = some (.slice ra R rp) ∧ w'.cell? ⟨w.heap.size, 2, none⟩ = some bv ∧ w'.cell? ⟨w.heap.size + 1, 0, none⟩ = some (.int .i64 x.op) ∧ w'.cell? ⟨w.heap.size + 1, 1, none⟩ = some (.int .i64 x.dst) ∧ w'.cell? ⟨w.heap.size + 1, 2, none⟩ = some (.int .i64 x.a) ∧ w'.cell? ⟨w.heap.size + 1, 3, none⟩ = some (.int .i64 x.b) ∧ w'.cell? ⟨w.heap.size + 1, 4, none⟩ = some (.int .i64 x.n) ∧ w'.cell? ⟨w.heap.size + 1, 5, none⟩ = some (.slice a x.args.length cp)) := hid fun w' k => ⟨hcell (keep_heap hn1 k) 0, hcell (keep_heap hn1 k) 1, hcell (keep_heap hn1 k) 2, hcell (keep_heap hn2 k) 0, hcell (keep_heap hn2 k) 1, hcell (keep_heap hn2 k) 2, hcell (keep_heap hn2 k) 3, hcell (keep_heap hn2 k) 4, hcell (keep_heap hn2 k) 5⟩
  have HWE := hid hW
  have HK2 := hid k2
  clear h hr hR hty hif hfs hz hl hno hW k2 hn1 hn2
  go_enter Tryd.func17, Tryd.ntmps17
  go_upto_region 1 with fail
  rw [← HWE.out]
  clear HWE
  generalize w.heap.size = q at *
  obtain ⟨b0, b1, b2, c0, c1, c2, c3, c4, c5⟩ := B.out _ (Keeps.refl _ _)
  go_wp2_with fail
  refine (HRI.out _ HK2.out).mono ?_
  rintro e w1 ⟨rfl, k1⟩
  have KW1 := hid k1
  clear b0 b1 b2 c0 c1 c2 c3 c4 c5 k1 HRI
  have KZ : Box (Keeps [] w w1) := hid (HK2.out.quiet KW1.out)
  go_wp2_with fail
  go_ret
  exact ⟨rfl, KZ.out⟩
theorem rfits_any {w : World} {pb po : Nat} {P : Pr8} (h : PrC w pb po P) {f : Fu8} {ra : Option Addr} {R : Nat} (hr : RowsAt w 2 TyC ra f.regs) (hR : R = f.regs.length) (rp : Nat) (bv : Value) (hty : tysB P f.regs = true) (hif : P.ifs.all (fun l => insB l P.sigs.length) = true) (hfs : P.funcs.all (fun g => inB g.sig P.sigs.length) = true) (x : In8) {a : Option Addr} {cp : Nat} (hz : IntsAt w a x.args) (hl : x.args.length ≤ 1000) : Calls Tryd.prog 17 #[.pointer (some ⟨pb, po, none⟩), fnV f.sig ra R rp bv, insV x (.slice a x.args.length cp)] w fun e w' => e = .returned (.bool (insOk P f x && fitB P f x)) ∧ Keeps [] w w' := by
  cases hok : insOk P f x with
  | false => exact rfit_no h hr hR rp bv hty hif hfs x hz hl hok
  | true =>
    have h15 := insOk_op hok
    have hc : x.op = 1 ∨ x.op = 2 ∨ x.op = 3 ∨ x.op = 4 ∨ x.op = 5 ∨ x.op = 6 ∨ x.op = 7 ∨ x.op = 8 ∨ x.op = 9 ∨ x.op = 10 ∨ x.op = 11 ∨ x.op = 12 ∨ x.op = 13 ∨ x.op = 14 ∨ x.op = 15 := by omega
    rcases hc with e | e | e | e | e | e | e | e | e | e | e | e | e | e | e
    · have hB : fitB P f x = ((regT f x.dst).1 == 0) := by unfold fitB; rw [e]; rfl
      rw [hB, ← hok]
      exact rfit_1 h hr hR rp bv hty hif hfs x hz hl e
    · have hB : fitB P f x = ((regT f x.a).1 == 0 && ((regT f x.b).1 == 0 && (regT f x.dst).1 == 0)) := by unfold fitB; rw [e]; rfl
      rw [hB, ← hok]
      exact rfit_2 h hr hR rp bv hty hif hfs x hz hl e
    · have hB : fitB P f x = ((regT f x.dst).1 == 0) := by unfold fitB; rw [e]; rfl
      rw [hB, ← hok]
      exact rfit_3 h hr hR rp bv hty hif hfs x hz hl e
    · have hB : fitB P f x = ((regT f x.dst).1 != 0) := by unfold fitB; rw [e]; rfl
      rw [hB, ← hok]
      exact rfit_4 h hr hR rp bv hty hif hfs x hz hl e
    · have hB : fitB P f x = ((regT f x.dst).1 == 1) := by unfold fitB; rw [e]; rfl
      rw [hB, ← hok]
      exact rfit_5 h hr hR rp bv hty hif hfs x hz hl e
    · have hB : fitB P f x = (tyE (regT f x.dst) (regT f x.a)) := by unfold fitB; rw [e]; rfl
      rw [hB, ← hok]
      exact rfit_6 h hr hR rp bv hty hif hfs x hz hl e
    · have hB : fitB P f x = (match fieldO P (regT f x.a) x.n with | none => false | some t => tyE t (regT f x.dst)) := by unfold fitB; rw [e]; rfl
      rw [hB, ← hok]
      exact rfit_7 h hr hR rp bv hty hif hfs x hz hl e
    · have hB : fitB P f x = (match fieldO P (regT f x.a) x.n with | none => false | some t => tyE t (regT f x.b)) := by unfold fitB; rw [e]; rfl
      rw [hB, ← hok]
      exact rfit_8 h hr hR rp bv hty hif hfs x hz hl e
    · have hB : fitB P f x = ((regT f x.a).1 == 1) := by unfold fitB; rw [e]; rfl
      rw [hB, ← hok]
      exact rfit_9 h hr hR rp bv hty hif hfs x hz hl e
    · have hB : fitB P f x = (tyE (regT f x.dst) (2, (fun8 P x.n.toNat).sig)) := by unfold fitB; rw [e]; rfl
      rw [hB, ← hok]
      exact rfit_10 h hr hR rp bv hty hif hfs x hz hl e
    · have hB : fitB P f x = ((regT f x.dst).1 == 3 && ((regT f x.a).1 == 1 && implB P (regT f x.a).2 (regT f x.dst).2)) := by unfold fitB; rw [e]; rfl
      rw [hB, ← hok]
      exact rfit_11 h hr hR rp bv hty hif hfs x hz hl e
    · have hB : fitB P f x = (match (sigO P (fun8 P x.n.toNat).sig) with | none => false | some s => argsB f x.args s.1 && tyE s.2 (regT f x.dst)) := by unfold fitB; rw [e]; rfl
      rw [hB, ← hok]
      exact rfit_12 h hr hR rp bv hty hif hfs x hz hl e
    · have hB : fitB P f x = (match (if (regT f x.a).1 = 2 then sigO P (regT f x.a).2 else none) with | none => false | some s => argsB f x.args s.1 && tyE s.2 (regT f x.dst)) := by unfold fitB; rw [e]; rfl
      rw [hB, ← hok]
      exact rfit_13 h hr hR rp bv hty hif hfs x hz hl e
    · have hB : fitB P f x = (match (methO P (regT f x.a) x.n) with | none => false | some s => argsB f x.args s.1 && tyE s.2 (regT f x.dst)) := by unfold fitB; rw [e]; rfl
      rw [hB, ← hok]
      exact rfit_14 h hr hR rp bv hty hif hfs x hz hl e
    · have hB : fitB P f x = ((regT f x.a).1 == 0) := by unfold fitB; rw [e]; rfl
      rw [hB, ← hok]
      exact rfit_15 h hr hR rp bv hty hif hfs x hz hl e
end Go.Proofs.YtlopddflbhnjdaaDoor
