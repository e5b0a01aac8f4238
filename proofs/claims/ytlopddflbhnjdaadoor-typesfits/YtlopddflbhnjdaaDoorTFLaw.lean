/-
  An instruction that came in, opened (out of IProg).
  TypesFits: whether any instruction fits into a function.
-/
import Derived.Test.YtlopddflbhnjdaaDoorTOpen
import Derived.Test.YtlopddflbhnjdaaDoorTRnm
import Derived.Test.YtlopddflbhnjdaaDoorTFPl
import Derived.Test.YtlopddflbhnjdaaDoorTBegun
import Derived.Test.YtlopddflbhnjdaaDoorTRb

namespace Go.Proofs.YtlopddflbhnjdaaDoor
open Go.ChangeShapes Go.WideShapes Go.ChangeAt Go.RowKit

theorem len6 {α : Type} {l : List α} (h : l.length = 6) : ∃ a b c d e f, l = [a, b, c, d, e, f] := by
  match l, h with
  | [a, b, c, d, e, f], _ => exact ⟨a, b, c, d, e, f, rfl⟩
set_option maxRecDepth 100000 in
theorem instr_open {H : Type} {enc : TypeId × Value → H} {W : World} {r : Reach} {b0 : Nat} {spare : Nat → Bool} {held : Bool} {v : Value} {d : DataW H} {p : List MemPlace}
    (hval : Value.okWide Tryd.prog W r b0 54 v) (h : ∃ fuel, DataW.trod enc Tryd.prog W 0 spare held fuel 54 v.cells.toList = some (d, p)) :
    ∃ (x : In8) (a : Option Addr) (cp : Nat), v = insV x (.slice a x.args.length cp) ∧ InOk x ∧ IntsAt W a x.args ∧ x.args.length ≤ cp := by
  obtain ⟨cs, rfl, _⟩ := okWide_struct Tryd.underlying54 hval
  obtain ⟨fuel, hf⟩ := h
  have hf' : DataW.trod enc Tryd.prog W 0 spare held fuel 54 cs.toList = some (d, p) := hf
  obtain ⟨xs, n, _, _, hl, hxl, hx⟩ := DataW.trod_struct Tryd.underlying54 hf'
  have c6 : Tryd.prog.cellsOf 54 = 6 := by kernel_rfl
  have ci : Tryd.prog.cellsOf 3 = 1 := by kernel_rfl
  have cs1 : Tryd.prog.cellsOf 37 = 1 := by kernel_rfl
  rw [c6] at hl
  obtain ⟨v0, v1, v2, v3, v4, v5, e⟩ := len6 hl
  obtain ⟨x0, x1, x2, x3, x4, x5, ex⟩ := len6 (show xs.length = 6 from hxl)
  rw [e, ex] at hx
  have h0 : DataW.trod enc Tryd.prog W 0 spare held n 3 (([v0, v1, v2, v3, v4, v5].drop 0).take (Tryd.prog.cellsOf 3)) = some x0 := hx 0 _ rfl
  have h1 : DataW.trod enc Tryd.prog W 0 spare held n 3 (([v0, v1, v2, v3, v4, v5].drop 1).take (Tryd.prog.cellsOf 3)) = some x1 := hx 1 _ rfl
  have h2 : DataW.trod enc Tryd.prog W 0 spare held n 3 (([v0, v1, v2, v3, v4, v5].drop 2).take (Tryd.prog.cellsOf 3)) = some x2 := hx 2 _ rfl
  have h3 : DataW.trod enc Tryd.prog W 0 spare held n 3 (([v0, v1, v2, v3, v4, v5].drop 3).take (Tryd.prog.cellsOf 3)) = some x3 := hx 3 _ rfl
  have h4 : DataW.trod enc Tryd.prog W 0 spare held n 3 (([v0, v1, v2, v3, v4, v5].drop 4).take (Tryd.prog.cellsOf 3)) = some x4 := hx 4 _ rfl
  have h5 : DataW.trod enc Tryd.prog W 0 spare held n 37 (([v0, v1, v2, v3, v4, v5].drop 5).take (Tryd.prog.cellsOf 37)) = some x5 := hx 5 _ rfl
  simp only [ci, cs1] at h0 h1 h2 h3 h4 h5
  obtain ⟨n0, e0, _, w0⟩ := DataW.trod_int Tryd.underlying3 h0
  obtain ⟨n1, e1, _, w1⟩ := DataW.trod_int Tryd.underlying3 h1
  obtain ⟨n2, e2, _, w2⟩ := DataW.trod_int Tryd.underlying3 h2
  obtain ⟨n3, e3, _, w3⟩ := DataW.trod_int Tryd.underlying3 h3
  obtain ⟨n4, e4, _, w4⟩ := DataW.trod_int Tryd.underlying3 h4
  obtain ⟨a, cp, l, e5, q1, q2, _, q4, _, _⟩ := rows_open (G := fun _ _ => True) downs_true Tryd.underlying37 (by rw [ci]; omega) o_int h5 trivial
  simp at e0 e1 e2 e3 e4 e5
  rw [ci] at q1
  refine ⟨⟨n0, n1, n2, n3, n4, l⟩, a, cp, ?_, ⟨b64_of w0, b64_of w1, b64_of w2, b64_of w3, b64_of w4, fun z hz => ?_⟩, rows_ints q1, q2⟩
  · unfold insV
    congr 1
    apply Array.ext'
    rw [e, e0, e1, e2, e3, e4, e5]
  · obtain ⟨i, hi, ez⟩ := List.getElem_of_mem hz
    obtain ⟨_, _, _, h9⟩ := q1.at (j := i) (y := z) (by rw [List.getElem?_eq_getElem hi, ez])
    exact h9.2
end Go.Proofs.YtlopddflbhnjdaaDoor

namespace Go.Proofs.YtlopddflbhnjdaaDoor
open Go.RowKit

theorem bnd_fns {P : Pr8} (h : bndB P = true) : lenB P.funcs 12 fnB = true := by
  unfold bndB tabB at h
  simp only [Bool.and_eq_true] at h
  exact h.1.2.2.2.2.2
theorem bnd_few {P : Pr8} (h : bndB P = true) : FewA P := by
  intro f b i hf hb hi
  have h1 : fnB (fun8 P f) = true := lenB_all (bnd_fns h) (getD_get hf)
  unfold fnB at h1
  simp only [Bool.and_eq_true] at h1
  have h2 : blkB (blk8 (fun8 P f) b) = true := lenB_all h1.2.2 (getD_get hb)
  have h3 : argB (ins8 (blk8 (fun8 P f) b) i) = true := lenB_all h2 (getD_get hi)
  unfold argB at h3
  have := of_decide_eq_true h3
  omega
set_option maxRecDepth 20000 in
set_option maxHeartbeats 4000000 in
theorem tf_nil (n : Int) (x : In8) (a : Option Addr) (cp : Nat) (w : World) (hg : Glob w) : Calls Tryd.prog 6 #[.pointer none, .int .i64 n, insV x (.slice a x.args.length cp)] w fun e w' => e = .returned (.bool true) ∧ Keeps [] w w' := by
  have ka := Keeps.alloc [] w (.cells #[.int .i64 x.op, .int .i64 x.dst, .int .i64 x.a, .int .i64 x.b, .int .i64 x.n, .slice a x.args.length cp] 54)
  have HB := hid (begun_any _ (hg.quiet ka))
  have KA := hid ka
  clear hg ka
  unfold insV
  go_enter Tryd.func6, Tryd.ntmps6
  go_wp2_with fail
  refine HB.out.mono ?_
  rintro e w1 ⟨rfl, k1⟩
  have K1 := hid (KA.out.quiet k1)
  clear HB k1
  go_wp2_with fail
  refine (rbounds_nil _).mono ?_
  rintro e w2 ⟨rfl, k2⟩
  have K2 := hid (K1.out.quiet k2)
  clear k2
  go_wp2_with fail
  go_ret
  exact ⟨rfl, K2.out⟩
set_option maxRecDepth 20000 in
set_option maxHeartbeats 4000000 in
theorem tf_in {w : World} {pb po : Nat} {P : Pr8} (hg : Glob w) (h : PrC w pb po P) (n : Int) (x : In8) (a : Option Addr) (cp : Nat) (hz : IntsAt w a x.args) : Calls Tryd.prog 6 #[.pointer (some ⟨pb, po, none⟩), .int .i64 n, insV x (.slice a x.args.length cp)] w fun e w' => e = .returned (.bool true) ∧ Keeps [] w w' := by
  have ka := Keeps.alloc [] w (.cells #[.int .i64 x.op, .int .i64 x.dst, .int .i64 x.a, .int .i64 x.b, .int .i64 x.n, .slice a x.args.length cp] 54)
  have hn := heap_new w (.cells #[.int .i64 x.op, .int .i64 x.dst, .int .i64 x.a, .int .i64 x.b, .int .i64 x.n, .slice a x.args.length cp] 54)
  have HB := hid (begun_any _ (hg.quiet ka))
  have KA := hid ka
  have H1 := hid fun (w' : World) (k : Keeps [] w w') => rbounds_any (PrC.stays _ _ _ _ _ k h)
  have HNM := hid fun (hb : bndB P = true) (w' : World) (k : Keeps [] w w') => rnames_any (PrC.stays _ _ _ _ _ k h) (bnd_few hb) (tabB_sm (bnd_fns hb))
  have HPR := hid h
  have HZ := hid hz
  obtain ⟨fa, fp, c4, r4, _⟩ := h.c4
  have C4 : Box (∀ w', Keeps [] w w' → w'.cell? ⟨pb, po + 4, none⟩ = some (.slice fa P.funcs.length fp)) := hid fun w' k => cell_stays k c4
  have R4 := hid r4
  have IN : Box (∀ w', Keeps [] (w.alloc (.cells #[.int .i64 x.op, .int .i64 x.dst, .int .i64 x.a, .int .i64 x.b, .int .i64 x.n, .slice a x.args.length cp] 54)) w' → InW w' w.heap.size x (.slice a x.args.length cp)) := hid fun w' k => by
    have := keep_heap hn k
    exact ⟨hcell this 0, hcell this 1, hcell this 2, hcell this 3, hcell this 4, hcell this 5⟩
  clear hg h hz ka hn c4 r4
  unfold insV
  generalize hbb : bndB P = ok at *
  have HBB := hid hbb
  clear hbb
  obtain ⟨N, hN⟩ : ∃ N, N = P.funcs.length := ⟨_, rfl⟩
  rw [← hN] at C4
  have HN := hid hN
  clear hN
  go_enter Tryd.func6, Tryd.ntmps6
  go_upto_region 1 with fail
  generalize w.alloc (.cells #[.int .i64 x.op, .int .i64 x.dst, .int .i64 x.a, .int .i64 x.b, .int .i64 x.n, .slice a x.args.length cp] 54) = WA at *
  generalize w.heap.size = q at *
  go_wp2_with fail
  refine HB.out.mono ?_
  rintro e w1 ⟨rfl, k1⟩
  have K1 := hid (KA.out.quiet k1)
  have KW1 := hid k1
  clear HB k1
  go_wp2_with fail
  refine (H1.out _ K1.out).mono ?_
  rintro e w2 ⟨rfl, k2⟩
  have K2 := hid (K1.out.quiet k2)
  have KW2 := hid (KW1.out.quiet k2)
  clear k2 KW1
  cases ok with
  | false =>
    go_wp2_with fail
    go_ret
    exact ⟨rfl, K2.out⟩
  | true =>
  have HNO := hid (HNM.out rfl)
  clear HNM H1
  by_cases h0 : n < 0
  case pos =>
    go_wp2_with fail
    go_ret
    exact ⟨rfl, K2.out⟩
  have c4 := C4.out _ K2.out
  by_cases h1 : (N : Int) ≤ n
  case pos =>
    go_wp2_with fail
    go_ret
    exact ⟨rfl, K2.out⟩
  obtain ⟨c5a, c5b, c5c, c5d, c5e, c5⟩ := IN.out _ KW2.out
  obtain ⟨L, hL⟩ : ∃ L, L = x.args.length := ⟨_, rfl⟩
  have HLN := hid hL
  rw [← hL] at c5
  by_cases h8 : 8 < L
  case pos =>
    have h8' : (8 : Int) < (L : Int) := by omega
    rw [← hL]
    clear hL
    go_wp2_with fail
    go_ret
    exact ⟨rfl, K2.out⟩
  have h8' : ¬ (8 : Int) < (L : Int) := by omega
  have HL8 : Box (x.args.length ≤ 1000) := hid (by rw [← hL]; omega)
  obtain ⟨f, rfl⟩ : ∃ f : Nat, n = (f : Int) := ⟨n.toNat, by omega⟩
  have hfN : f < N := by omega
  rw [← hL]
  clear hL
  go_wp2_with fail
  refine (HNO.out _ K2.out).mono ?_
  rintro e w3 ⟨rfl, k3⟩
  have KT := k3.quiet (Keeps.alloc [] w3 (.cells #[.int .i64 (nmP (namesO P)).1, .int .i64 (nmP (namesO P)).2.1, .int .i64 (nmP (namesO P)).2.2] 50))
  have K3 := hid (K2.out.quiet KT)
  have KW3 := hid (KW2.out.quiet KT)
  clear k3 KT HNO c4 c5 c5a c5b c5c c5d c5e
  cases hnm : namesO P with
  | some qq =>
    rw [hnm] at K3 KW3
    simp only [Option.isNone_some]
    clear hnm
    go_wp2_with fail
    go_ret
    exact ⟨rfl, K3.out⟩
  | none =>
  have HNN := hid hnm
  rw [hnm] at K3 KW3
  simp only [Option.isNone_none]
  clear hnm
  go_upto_region 9 with fail
  generalize w3.alloc (.cells #[.int .i64 (nmP none).1, .int .i64 (nmP none).2.1, .int .i64 (nmP none).2.2] 50) = w4 at *
  have hff : f < P.funcs.length := by rw [← HN.out]; exact hfN
  obtain ⟨gb, go, rfl, hgc0⟩ := R4.out.at (getD_get (l := P.funcs) (k := f) (d := ⟨0, [], []⟩) hff)
  have hgc : FuC w gb (go + f * 3) (fun8 P f) := hgc0
  obtain ⟨ra, rp, rc, rrr, _, rl⟩ := hgc.c1
  obtain ⟨ba, bp, bc, brr, _, bl⟩ := hgc.c2
  have y0 := cell_stays K3.out hgc.c0.1
  have y1 := cell_stays K3.out rc
  have y2 := cell_stays K3.out bc
  have c4 := C4.out _ K3.out
  obtain ⟨d0, d1, d2, d3, d4, d5⟩ := IN.out _ KW3.out
  rw [← HLN.out] at d5
  have HFT := hid fun (w' : World) (k : Keeps [] w w') => fits_any (cp := cp) (PrC.stays _ _ _ _ _ k HPR.out) hff x (HZ.out.kept k (fun _ _ _ => by simp)) HL8.out
  have HFR := hid fun (w' : World) (k : Keeps [] w w') => rfits_any (cp := cp) (PrC.stays _ _ _ _ _ k HPR.out) (RowsAt.quiet rrr TyC.stays k) rfl rp (.slice ba (fun8 P f).blocks.length bp) (names_ty HNN.out hff) (names_if HNN.out) (names_sg HNN.out) x (HZ.out.kept k (fun _ _ _ => by simp)) HL8.out
  rw [fit_same (names_ty HNN.out hff)] at HFT
  have hlt_f : (f : Int) < (N : Int) := by omega
  unfold insV at HFT HFR
  unfold fnV at HFR
  rw [← HLN.out] at HFT HFR
  clear hgc hgc0 rc bc rrr brr rl bl hff
  generalize (insOk P (fun8 P f) x && fitB P (fun8 P f) x) = res at *
  generalize (fun8 P f).regs.length = R at *
  generalize (fun8 P f).blocks.length = B at *
  generalize (fun8 P f).sig = sg at *
  refine wp_region_det (W0 := w4) 57 [(.pointer (some ⟨pb, po, none⟩) : Value), (.int .i64 (f : Int) : Value), (.agg #[.int .i64 x.op, .int .i64 x.dst, .int .i64 x.a, .int .i64 x.b, .int .i64 x.n, .slice a L cp] : Value), (.bool res : Value), (.pointer (some ⟨pb, po, none⟩) : Value), (.pointer (some ⟨pb, po, none⟩) : Value), (.pointer (some ⟨pb, po, none⟩) : Value), (.pointer (some ⟨pb, po + 4, none⟩) : Value), (.slice (some ⟨gb, go, none⟩) N fp : Value), (.int .i64 (f : Int) : Value), (.pointer (some ⟨gb, go + f * 3, none⟩) : Value), (.agg #[.int .i64 sg, .slice ra R rp, .slice ba B bp] : Value), (.agg #[.int .i64 x.op, .int .i64 x.dst, .int .i64 x.a, .int .i64 x.b, .int .i64 x.n, .slice a L cp] : Value), (.bool res : Value), (.bool true : Value), (.bool true : Value)] (by kernel_rfl) (by rfl) (by kernel_rfl) (Keeps.refl _ _) (fun A hA => ?_)
  simp only [putAll, Act.put, List.setIfInBounds_toArray, List.set_cons_zero, List.set_cons_succ] at hA
  subst hA
  refine ⟨AllGive.cons (give_yield (by rfl) (fun _ _ => rfl)) (AllGive.cons (give_yield (by rfl) (fun _ _ => rfl)) (AllGive.cons (give_yield (by rfl) (fun _ k9 => ld_in (cell_stays k9 d0) (cell_stays k9 d1) (cell_stays k9 d2) (cell_stays k9 d3) (cell_stays k9 d4) (cell_stays k9 d5) rfl rfl)) (AllGive.cons (give_call (by rfl) 16 #[.pointer (some ⟨pb, po, none⟩), .int .i64 (f : Int), .agg #[.int .i64 x.op, .int .i64 x.dst, .int .i64 x.a, .int .i64 x.b, .int .i64 x.n, .slice a L cp]] (fun w => exec_call3 rfl rfl rfl rfl rfl (enter_fits _ _ _ w)) (fun w9 k9 => HFT.out w9 (K3.out.quiet k9))) (AllGive.cons (give_yield (by rfl) (fun _ _ => rfl)) (AllGive.cons (give_yield (by rfl) (fun _ _ => rfl)) (AllGive.cons (give_yield (by rfl) (fun _ _ => rfl)) (AllGive.cons (give_yield (by rfl) (fun _ _ => rfl)) (AllGive.cons (give_yield (by rfl) (fun _ k9 => ld_fns (cell_stays k9 c4) rfl rfl)) (AllGive.cons (give_yield (by rfl) (fun _ _ => rfl)) (AllGive.cons (give_yield (by rfl) (fun _ _ => ix_fns rfl rfl rfl hlt_f)) (AllGive.cons (give_yield (by rfl) (fun _ k9 => ld_fn (cell_stays k9 y0) (cell_stays k9 y1) (cell_stays k9 y2) rfl rfl)) (AllGive.cons (give_yield (by rfl) (fun _ k9 => ld_in (cell_stays k9 d0) (cell_stays k9 d1) (cell_stays k9 d2) (cell_stays k9 d3) (cell_stays k9 d4) (cell_stays k9 d5) rfl rfl)) (AllGive.cons (give_call (by rfl) 17 #[.pointer (some ⟨pb, po, none⟩), .agg #[.int .i64 sg, .slice ra R rp, .slice ba B bp], .agg #[.int .i64 x.op, .int .i64 x.dst, .int .i64 x.a, .int .i64 x.b, .int .i64 x.n, .slice a L cp]] (fun w => exec_call3 rfl rfl rfl rfl rfl (enter_rfits _ _ _ w)) (fun w9 k9 => HFR.out w9 (K3.out.quiet k9))) (AllGive.cons (give_yield (by rfl) (fun _ _ => bin_eqlB rfl rfl rfl (by cases res <;> rfl))) (AllGive.cons (give_yield (by rfl) (fun _ _ => rfl)) (AllGive.nil)))))))))))))))), fun w8 k8 => ?_⟩
  go_wp2_with fail
  go_ret
  exact ⟨rfl, K3.out.quiet k8⟩
theorem tf_walk (v : Value) (n : Int) (x : In8) (a : Option Addr) (cp : Nat) (w : World) (hg : Glob w) (hp : ProgAt 17592186044416 w v) (_ : b64 n) (_ : InOk x) (hz : IntsAt w a x.args) (_ : x.args.length ≤ cp) : Calls Tryd.prog 6 #[v, .int .i64 n, insV x (.slice a x.args.length cp)] w fun e w' => e = .returned (.bool true) ∧ Keeps [] w w' := by
  rcases hp with rfl | ⟨b, o, P, rfl, h, _⟩
  · exact tf_nil n x a cp w hg
  · exact tf_in hg h n x a cp hz
end Go.Proofs.YtlopddflbhnjdaaDoor
