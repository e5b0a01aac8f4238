/-
  code's writer: blocks, functions, the lists of a program.
-/
import Derived.Test.YtmipbaihlodmdaaDoorCWa
namespace Go.Proofs.YtmipbaihlodmdaaDoor
open Go.RowKit

set_option maxRecDepth 20000 in
set_option maxHeartbeats 4000000 in
theorem wins_any {w0 w : World} {wb : Nat} {B : List UInt8} {v : Value} {l : List In8} (h : WrW w0 w wb B) (hx : InsV w0 v l) : Calls Tryd.prog 77 #[.pointer (some ⟨wb, 0, none⟩), v, .func (.func 78) #[] #[]] w (NumPost w0 w wb B (insE l)) := by
  obtain ⟨a, cp, rfl, hr, _, hl⟩ := hx
  have hb : b64 (l.length : Int) := by unfold b64; unfold maxLen at hl; omega
  have H1 := hid (number_any h _ hb)
  have HP := hid fun (w' : World) (B1 : List UInt8) (v : Value) (x : In8) (h : WrW w0 w' wb B1) (hx : InV w0 v x) => winstr_any h hx
  have HR := hid hr
  have HN : Box (∃ n, n = l.length ∧ n ≤ maxLen) := hid ⟨_, rfl, hl⟩
  obtain ⟨n, hn, hnm⟩ := HN.out
  rw [← hn] at H1 ⊢
  have HL := hid hn
  have hn1 : (n : Int) ≤ 9223372036854775807 := by unfold maxLen at hnm; omega
  clear h hr hb hl HN hn hnm
  go_enter Tryd.func77, Tryd.ntmps77
  go_wp2_with fail
  refine H1.out.mono ?_
  rintro e w1 ⟨rfl, B1, W1, A1, X1⟩
  have HS : Box (∃ B', WrW w0 w1 wb B' ∧ Adds B (headE inE l 0) B' ∧ Bxs w w1) := hid ⟨B1, W1, A1.cast (by rw [headE_zero, HL.out]), X1⟩
  clear H1 W1 A1 X1
  go_wp2_with fail
  go_loopw [13] (fun kv wr => ∃ k : Nat, k ≤ n ∧ kv = .int .i64 (k : Int) ∧ Box (∃ B', WrW w0 wr wb B' ∧ Adds B (headE inE l k) B' ∧ Bxs w wr)) (fun kv _ => n - (intOf kv).toNat)
  case atStart => exact ⟨0, by omega, rfl, HS⟩
  case round =>
    obtain ⟨k, hk, rfl, HB⟩ := hrel
    clear HS
    obtain ⟨B2, W2, A2, X2⟩ := HB.out
    by_cases hlt : k < n
    · have hlt' : (k : Int) < (n : Int) := by omega
      have HF := hid (full_any W2)
      have HW := hid W2
      have HA := hid A2
      have HX := hid X2
      by_cases hf : 20000 < B2.length
      · rw [decide_eq_true hf] at HF
        clear W2 A2 HB X2
        go_wp2_with fail
        refine HF.out.mono ?_
        rintro e w2 ⟨rfl, rfl⟩
        go_wp2_with fail
        go_end0
        exact ⟨rfl, B2, HW.out, (HA.out.stop _ hf).cast (headE_rest inE l k), HX.out⟩
      · rw [decide_eq_false hf] at HF
        obtain ⟨y, hy⟩ : ∃ y, l[k]? = some y := ⟨_, List.getElem?_eq_getElem (by rw [← HL.out]; exact hlt)⟩
        obtain ⟨b, off, rfl, hc⟩ := HR.out.at hy
        skip
        have d := InC.stays _ _ _ _ _ W2.keeps hc
        obtain ⟨ar, acp, d5, q5⟩ := hc.c5.val
        replace d5 := cell_stays W2.keeps d5
        have d0 := d.c0.1
        have d1 := d.c1.1
        have d2 := d.c2.1
        have d3 := d.c3.1
        have d4 := d.c4.1
        have HV : Box (InV w0 (.agg #[.int .i64 y.op, .int .i64 y.dst, .int .i64 y.a, .int .i64 y.b, .int .i64 y.n, .slice ar y.args.length acp]) y) := hid (⟨ar, acp, rfl, d.c0.2, d.c1.2, d.c2.2, d.c3.2, d.c4.2, q5⟩)
        have HE := hid (headE_succ inE hy)
        clear W2 A2 HB hc d hf hy X2 q5
        go_wp2_with fail
        refine HF.out.mono ?_
        rintro e w2 ⟨rfl, rfl⟩
        go_wp2_with fail
        refine (HP.out _ _ _ _ HW.out HV.out).mono ?_
        rintro e w3 ⟨rfl, B3, W3, A3, X3⟩
        go_wp2_with fail
        go_roundw
        case rel => exact ⟨k + 1, by omega, by go_num, hid ⟨B3, W3, (HA.out.trans A3).cast HE.out.symm, HX.out.trans X3⟩⟩
        case measure => simp [intOf]; omega
    · obtain rfl : k = n := by omega
      have HD : Box (∃ B', WrW w0 wr wb B' ∧ Adds B (insE l) B' ∧ Bxs w wr) := hid ⟨B2, W2, A2.cast (by rw [HL.out]; exact headE_all inE l), X2⟩
      clear HB W2 A2 X2
      go_wp2_with fail
      go_end0
      exact ⟨rfl, HD.out⟩

set_option maxRecDepth 20000 in
set_option maxHeartbeats 4000000 in
theorem wblock_any {w0 w : World} {wb : Nat} {B : List UInt8} {v : Value} {x : Bl8} (h : WrW w0 w wb B) (hx : BlV w0 v x) : Calls Tryd.prog 62 #[.pointer (some ⟨wb, 0, none⟩), v] w (NumPost w0 w wb B (blE x)) := by
  obtain ⟨a, cp, rfl, h1, h2, h3, h4, h5⟩ := hx
  have H1 := hid fun (w' : World) (B1 : List UInt8) (h : WrW w0 w' wb B1) => wins_any h h1
  have H2 := hid fun (w' : World) (B1 : List UInt8) (h : WrW w0 w' wb B1) => number_any h x.fin h2
  have H3 := hid fun (w' : World) (B1 : List UInt8) (h : WrW w0 w' wb B1) => number_any h x.reg h3
  have H4 := hid fun (w' : World) (B1 : List UInt8) (h : WrW w0 w' wb B1) => number_any h x.to h4
  have H5 := hid fun (w' : World) (B1 : List UInt8) (h : WrW w0 w' wb B1) => number_any h x.els h5
  have HE : Box (insE x.code ++ numE x.fin ++ numE x.reg ++ numE x.to ++ numE x.els = blE x) := hid (by simp only [blE, pairE, List.append_assoc])
  have hb0 := heap_new w (.cells #[.slice a x.code.length cp, .int .i64 x.fin, .int .i64 x.reg, .int .i64 x.to, .int .i64 x.els] 58)
  have W0 := h.quiet (Keeps.alloc [] w (.cells #[.slice a x.code.length cp, .int .i64 x.fin, .int .i64 x.reg, .int .i64 x.to, .int .i64 x.els] 58))
  have X0 := Bxs.quiet (Keeps.alloc [] w (.cells #[.slice a x.code.length cp, .int .i64 x.fin, .int .i64 x.reg, .int .i64 x.to, .int .i64 x.els] 58))
  have HX0 := hid X0
  clear h X0
  go_enter Tryd.func62, Tryd.ntmps62
  go_wp2_with fail
  generalize w.heap.size = bk at *
  refine (H1.out _ _ W0).mono ?_
  rintro e w1 ⟨rfl, B1, W1, A1, X1⟩
  have hb1 := X1 _ _ _ hb0 (by decide) (by decide)
  have c0 := hcell hb1 0
  have c1 := hcell hb1 1
  have c2 := hcell hb1 2
  have c3 := hcell hb1 3
  have c4 := hcell hb1 4
  clear hb0 H1
  go_wp2_with fail
  refine (H2.out _ _ W1).mono ?_
  rintro e w2 ⟨rfl, B2, W2, A2, X2⟩
  have hb2 := X2 _ _ _ hb1 (by decide) (by decide)
  have c0 := hcell hb2 0
  have c1 := hcell hb2 1
  have c2 := hcell hb2 2
  have c3 := hcell hb2 3
  have c4 := hcell hb2 4
  clear hb1 H2
  go_wp2_with fail
  refine (H3.out _ _ W2).mono ?_
  rintro e w3 ⟨rfl, B3, W3, A3, X3⟩
  have hb3 := X3 _ _ _ hb2 (by decide) (by decide)
  have c0 := hcell hb3 0
  have c1 := hcell hb3 1
  have c2 := hcell hb3 2
  have c3 := hcell hb3 3
  have c4 := hcell hb3 4
  clear hb2 H3
  go_wp2_with fail
  refine (H4.out _ _ W3).mono ?_
  rintro e w4 ⟨rfl, B4, W4, A4, X4⟩
  have hb4 := X4 _ _ _ hb3 (by decide) (by decide)
  have c0 := hcell hb4 0
  have c1 := hcell hb4 1
  have c2 := hcell hb4 2
  have c3 := hcell hb4 3
  have c4 := hcell hb4 4
  clear hb3 H4
  go_wp2_with fail
  refine (H5.out _ _ W4).mono ?_
  rintro e w5 ⟨rfl, B5, W5, A5, X5⟩
  go_wp2_with fail
  go_end0
  exact ⟨rfl, B5, W5, ((((A1.trans A2).trans A3).trans A4).trans A5).cast HE.out, HX0.out.trans ((((X1.trans X2).trans X3).trans X4).trans X5)⟩

set_option maxRecDepth 20000 in
set_option maxHeartbeats 4000000 in
theorem wbls_any {w0 w : World} {wb : Nat} {B : List UInt8} {v : Value} {l : List Bl8} (h : WrW w0 w wb B) (hx : BlsV w0 v l) : Calls Tryd.prog 61 #[.pointer (some ⟨wb, 0, none⟩), v, .func (.func 62) #[] #[]] w (NumPost w0 w wb B (blsE l)) := by
  obtain ⟨a, cp, rfl, hr, _, hl⟩ := hx
  have hb : b64 (l.length : Int) := by unfold b64; unfold maxLen at hl; omega
  have H1 := hid (number_any h _ hb)
  have HP := hid fun (w' : World) (B1 : List UInt8) (v : Value) (x : Bl8) (h : WrW w0 w' wb B1) (hx : BlV w0 v x) => wblock_any h hx
  have HR := hid hr
  have HN : Box (∃ n, n = l.length ∧ n ≤ maxLen) := hid ⟨_, rfl, hl⟩
  obtain ⟨n, hn, hnm⟩ := HN.out
  rw [← hn] at H1 ⊢
  have HL := hid hn
  have hn1 : (n : Int) ≤ 9223372036854775807 := by unfold maxLen at hnm; omega
  clear h hr hb hl HN hn hnm
  go_enter Tryd.func61, Tryd.ntmps61
  go_wp2_with fail
  refine H1.out.mono ?_
  rintro e w1 ⟨rfl, B1, W1, A1, X1⟩
  have HS : Box (∃ B', WrW w0 w1 wb B' ∧ Adds B (headE blE l 0) B' ∧ Bxs w w1) := hid ⟨B1, W1, A1.cast (by rw [headE_zero, HL.out]), X1⟩
  clear H1 W1 A1 X1
  go_wp2_with fail
  go_loopw [13] (fun kv wr => ∃ k : Nat, k ≤ n ∧ kv = .int .i64 (k : Int) ∧ Box (∃ B', WrW w0 wr wb B' ∧ Adds B (headE blE l k) B' ∧ Bxs w wr)) (fun kv _ => n - (intOf kv).toNat)
  case atStart => exact ⟨0, by omega, rfl, HS⟩
  case round =>
    obtain ⟨k, hk, rfl, HB⟩ := hrel
    clear HS
    obtain ⟨B2, W2, A2, X2⟩ := HB.out
    by_cases hlt : k < n
    · have hlt' : (k : Int) < (n : Int) := by omega
      have HF := hid (full_any W2)
      have HW := hid W2
      have HA := hid A2
      have HX := hid X2
      by_cases hf : 20000 < B2.length
      · rw [decide_eq_true hf] at HF
        clear W2 A2 HB X2
        go_wp2_with fail
        refine HF.out.mono ?_
        rintro e w2 ⟨rfl, rfl⟩
        go_wp2_with fail
        go_end0
        exact ⟨rfl, B2, HW.out, (HA.out.stop _ hf).cast (headE_rest blE l k), HX.out⟩
      · rw [decide_eq_false hf] at HF
        obtain ⟨y, hy⟩ : ∃ y, l[k]? = some y := ⟨_, List.getElem?_eq_getElem (by rw [← HL.out]; exact hlt)⟩
        obtain ⟨b, off, rfl, hc⟩ := HR.out.at hy
        skip
        have d := BlC.stays _ _ _ _ _ W2.keeps hc
        obtain ⟨ar, acp, d5, q5⟩ := hc.c0.val
        replace d5 := cell_stays W2.keeps d5
        have d0 := d.c1.1
        have d1 := d.c2.1
        have d2 := d.c3.1
        have d3 := d.c4.1
        have HV : Box (BlV w0 (.agg #[.slice ar y.code.length acp, .int .i64 y.fin, .int .i64 y.reg, .int .i64 y.to, .int .i64 y.els]) y) := hid (⟨ar, acp, rfl, q5, d.c1.2, d.c2.2, d.c3.2, d.c4.2⟩)
        have HE := hid (headE_succ blE hy)
        clear W2 A2 HB hc d hf hy X2 q5
        go_wp2_with fail
        refine HF.out.mono ?_
        rintro e w2 ⟨rfl, rfl⟩
        go_wp2_with fail
        refine (HP.out _ _ _ _ HW.out HV.out).mono ?_
        rintro e w3 ⟨rfl, B3, W3, A3, X3⟩
        go_wp2_with fail
        go_roundw
        case rel => exact ⟨k + 1, by omega, by go_num, hid ⟨B3, W3, (HA.out.trans A3).cast HE.out.symm, HX.out.trans X3⟩⟩
        case measure => simp [intOf]; omega
    · obtain rfl : k = n := by omega
      have HD : Box (∃ B', WrW w0 wr wb B' ∧ Adds B (blsE l) B' ∧ Bxs w wr) := hid ⟨B2, W2, A2.cast (by rw [HL.out]; exact headE_all blE l), X2⟩
      clear HB W2 A2 X2
      go_wp2_with fail
      go_end0
      exact ⟨rfl, HD.out⟩

set_option maxRecDepth 20000 in
set_option maxHeartbeats 4000000 in
theorem wfunc_any {w0 w : World} {wb : Nat} {B : List UInt8} {v : Value} {x : Fu8} (h : WrW w0 w wb B) (hx : FuV w0 v x) : Calls Tryd.prog 41 #[.pointer (some ⟨wb, 0, none⟩), v] w (NumPost w0 w wb B (fuE x)) := by
  obtain ⟨a, cp, a', cp', rfl, h1, h2, h3⟩ := hx
  have H1 := hid fun (w' : World) (B1 : List UInt8) (h : WrW w0 w' wb B1) => number_any h x.sig h1
  have H2 := hid fun (w' : World) (B1 : List UInt8) (h : WrW w0 w' wb B1) => wkinds_any h h2
  have H3 := hid fun (w' : World) (B1 : List UInt8) (h : WrW w0 w' wb B1) => wbls_any h h3
  have HE : Box (numE x.sig ++ tysE x.regs ++ blsE x.blocks = fuE x) := hid (by simp only [fuE, pairE, List.append_assoc])
  have hb0 := heap_new w (.cells #[.int .i64 x.sig, .slice a x.regs.length cp, .slice a' x.blocks.length cp'] 55)
  have W0 := h.quiet (Keeps.alloc [] w (.cells #[.int .i64 x.sig, .slice a x.regs.length cp, .slice a' x.blocks.length cp'] 55))
  have X0 := Bxs.quiet (Keeps.alloc [] w (.cells #[.int .i64 x.sig, .slice a x.regs.length cp, .slice a' x.blocks.length cp'] 55))
  have HX0 := hid X0
  clear h X0
  go_enter Tryd.func41, Tryd.ntmps41
  go_wp2_with fail
  generalize w.heap.size = bk at *
  refine (H1.out _ _ W0).mono ?_
  rintro e w1 ⟨rfl, B1, W1, A1, X1⟩
  have hb1 := X1 _ _ _ hb0 (by decide) (by decide)
  have c0 := hcell hb1 0
  have c1 := hcell hb1 1
  have c2 := hcell hb1 2
  clear hb0 H1
  go_wp2_with fail
  refine (H2.out _ _ W1).mono ?_
  rintro e w2 ⟨rfl, B2, W2, A2, X2⟩
  have hb2 := X2 _ _ _ hb1 (by decide) (by decide)
  have c0 := hcell hb2 0
  have c1 := hcell hb2 1
  have c2 := hcell hb2 2
  clear hb1 H2
  go_wp2_with fail
  refine (H3.out _ _ W2).mono ?_
  rintro e w3 ⟨rfl, B3, W3, A3, X3⟩
  go_wp2_with fail
  go_end0
  exact ⟨rfl, B3, W3, ((A1.trans A2).trans A3).cast HE.out, HX0.out.trans ((X1.trans X2).trans X3)⟩

set_option maxRecDepth 20000 in
set_option maxHeartbeats 4000000 in
theorem wfus_any {w0 w : World} {wb : Nat} {B : List UInt8} {v : Value} {l : List Fu8} (h : WrW w0 w wb B) (hx : SlV 3 FuC w0 v l) : Calls Tryd.prog 40 #[.pointer (some ⟨wb, 0, none⟩), v, .func (.func 41) #[] #[]] w (NumPost w0 w wb B (fusE l)) := by
  obtain ⟨a, cp, rfl, hr, _, hl⟩ := hx
  have hb : b64 (l.length : Int) := by unfold b64; unfold maxLen at hl; omega
  have H1 := hid (number_any h _ hb)
  have HP := hid fun (w' : World) (B1 : List UInt8) (v : Value) (x : Fu8) (h : WrW w0 w' wb B1) (hx : FuV w0 v x) => wfunc_any h hx
  have HR := hid hr
  have HN : Box (∃ n, n = l.length ∧ n ≤ maxLen) := hid ⟨_, rfl, hl⟩
  obtain ⟨n, hn, hnm⟩ := HN.out
  rw [← hn] at H1 ⊢
  have HL := hid hn
  have hn1 : (n : Int) ≤ 9223372036854775807 := by unfold maxLen at hnm; omega
  clear h hr hb hl HN hn hnm
  go_enter Tryd.func40, Tryd.ntmps40
  go_wp2_with fail
  refine H1.out.mono ?_
  rintro e w1 ⟨rfl, B1, W1, A1, X1⟩
  have HS : Box (∃ B', WrW w0 w1 wb B' ∧ Adds B (headE fuE l 0) B' ∧ Bxs w w1) := hid ⟨B1, W1, A1.cast (by rw [headE_zero, HL.out]), X1⟩
  clear H1 W1 A1 X1
  go_wp2_with fail
  go_loopw [13] (fun kv wr => ∃ k : Nat, k ≤ n ∧ kv = .int .i64 (k : Int) ∧ Box (∃ B', WrW w0 wr wb B' ∧ Adds B (headE fuE l k) B' ∧ Bxs w wr)) (fun kv _ => n - (intOf kv).toNat)
  case atStart => exact ⟨0, by omega, rfl, HS⟩
  case round =>
    obtain ⟨k, hk, rfl, HB⟩ := hrel
    clear HS
    obtain ⟨B2, W2, A2, X2⟩ := HB.out
    by_cases hlt : k < n
    · have hlt' : (k : Int) < (n : Int) := by omega
      have HF := hid (full_any W2)
      have HW := hid W2
      have HA := hid A2
      have HX := hid X2
      by_cases hf : 20000 < B2.length
      · rw [decide_eq_true hf] at HF
        clear W2 A2 HB X2
        go_wp2_with fail
        refine HF.out.mono ?_
        rintro e w2 ⟨rfl, rfl⟩
        go_wp2_with fail
        go_end0
        exact ⟨rfl, B2, HW.out, (HA.out.stop _ hf).cast (headE_rest fuE l k), HX.out⟩
      · rw [decide_eq_false hf] at HF
        obtain ⟨y, hy⟩ : ∃ y, l[k]? = some y := ⟨_, List.getElem?_eq_getElem (by rw [← HL.out]; exact hlt)⟩
        obtain ⟨b, off, rfl, hc⟩ := HR.out.at hy
        skip
        have d := FuC.stays _ _ _ _ _ W2.keeps hc
        obtain ⟨ar, acp, d5, q5⟩ := hc.c1.val
        replace d5 := cell_stays W2.keeps d5
        obtain ⟨br, bcp, d6, q6⟩ := hc.c2.val
        replace d6 := cell_stays W2.keeps d6
        have d0 := d.c0.1
        have HV : Box (FuV w0 (.agg #[.int .i64 y.sig, .slice ar y.regs.length acp, .slice br y.blocks.length bcp]) y) := hid (⟨ar, acp, br, bcp, rfl, d.c0.2, q5, q6⟩)
        have HE := hid (headE_succ fuE hy)
        clear W2 A2 HB hc d hf hy X2 q5 q6
        go_wp2_with fail
        refine HF.out.mono ?_
        rintro e w2 ⟨rfl, rfl⟩
        go_wp2_with fail
        refine (HP.out _ _ _ _ HW.out HV.out).mono ?_
        rintro e w3 ⟨rfl, B3, W3, A3, X3⟩
        go_wp2_with fail
        go_roundw
        case rel => exact ⟨k + 1, by omega, by go_num, hid ⟨B3, W3, (HA.out.trans A3).cast HE.out.symm, HX.out.trans X3⟩⟩
        case measure => simp [intOf]; omega
    · obtain rfl : k = n := by omega
      have HD : Box (∃ B', WrW w0 wr wb B' ∧ Adds B (fusE l) B' ∧ Bxs w wr) := hid ⟨B2, W2, A2.cast (by rw [HL.out]; exact headE_all fuE l), X2⟩
      clear HB W2 A2 X2
      go_wp2_with fail
      go_end0
      exact ⟨rfl, HD.out⟩

set_option maxRecDepth 20000 in
set_option maxHeartbeats 4000000 in
theorem wtyss_any {w0 w : World} {wb : Nat} {B : List UInt8} {v : Value} {l : List (List (Int × Int))} (h : WrW w0 w wb B) (hx : SlV 1 (SlC 2 TyC) w0 v l) : Calls Tryd.prog 32 #[.pointer (some ⟨wb, 0, none⟩), v, .func (.func 33) #[] #[]] w (NumPost w0 w wb B (tyssE l)) := by
  obtain ⟨a, cp, rfl, hr, _, hl⟩ := hx
  have hb : b64 (l.length : Int) := by unfold b64; unfold maxLen at hl; omega
  have H1 := hid (number_any h _ hb)
  have HP := hid fun (w' : World) (B1 : List UInt8) (v : Value) (x : (List (Int × Int))) (h : WrW w0 w' wb B1) (hx : TysV w0 v x) => wkinds_any h hx
  have HR := hid hr
  have HN : Box (∃ n, n = l.length ∧ n ≤ maxLen) := hid ⟨_, rfl, hl⟩
  obtain ⟨n, hn, hnm⟩ := HN.out
  rw [← hn] at H1 ⊢
  have HL := hid hn
  have hn1 : (n : Int) ≤ 9223372036854775807 := by unfold maxLen at hnm; omega
  clear h hr hb hl HN hn hnm
  go_enter Tryd.func32, Tryd.ntmps32
  go_wp2_with fail
  refine H1.out.mono ?_
  rintro e w1 ⟨rfl, B1, W1, A1, X1⟩
  have HS : Box (∃ B', WrW w0 w1 wb B' ∧ Adds B (headE tysE l 0) B' ∧ Bxs w w1) := hid ⟨B1, W1, A1.cast (by rw [headE_zero, HL.out]), X1⟩
  clear H1 W1 A1 X1
  go_wp2_with fail
  go_loopw [13] (fun kv wr => ∃ k : Nat, k ≤ n ∧ kv = .int .i64 (k : Int) ∧ Box (∃ B', WrW w0 wr wb B' ∧ Adds B (headE tysE l k) B' ∧ Bxs w wr)) (fun kv _ => n - (intOf kv).toNat)
  case atStart => exact ⟨0, by omega, rfl, HS⟩
  case round =>
    obtain ⟨k, hk, rfl, HB⟩ := hrel
    clear HS
    obtain ⟨B2, W2, A2, X2⟩ := HB.out
    by_cases hlt : k < n
    · have hlt' : (k : Int) < (n : Int) := by omega
      have HF := hid (full_any W2)
      have HW := hid W2
      have HA := hid A2
      have HX := hid X2
      by_cases hf : 20000 < B2.length
      · rw [decide_eq_true hf] at HF
        clear W2 A2 HB X2
        go_wp2_with fail
        refine HF.out.mono ?_
        rintro e w2 ⟨rfl, rfl⟩
        go_wp2_with fail
        go_end0
        exact ⟨rfl, B2, HW.out, (HA.out.stop _ hf).cast (headE_rest tysE l k), HX.out⟩
      · rw [decide_eq_false hf] at HF
        obtain ⟨y, hy⟩ : ∃ y, l[k]? = some y := ⟨_, List.getElem?_eq_getElem (by rw [← HL.out]; exact hlt)⟩
        obtain ⟨b, off, rfl, hc⟩ := HR.out.at hy
        rw [Nat.mul_one] at hc
        have d := trivial
        obtain ⟨ar, acp, d5, q5⟩ := hc.val
        replace d5 := cell_stays W2.keeps d5

        have HV : Box (TysV w0 (.slice ar y.length acp) y) := hid (q5)
        have HE := hid (headE_succ tysE hy)
        clear W2 A2 HB hc d hf hy X2 q5
        go_wp2_with fail
        refine HF.out.mono ?_
        rintro e w2 ⟨rfl, rfl⟩
        go_wp2_with fail
        refine (HP.out _ _ _ _ HW.out HV.out).mono ?_
        rintro e w3 ⟨rfl, B3, W3, A3, X3⟩
        go_wp2_with fail
        go_roundw
        case rel => exact ⟨k + 1, by omega, by go_num, hid ⟨B3, W3, (HA.out.trans A3).cast HE.out.symm, HX.out.trans X3⟩⟩
        case measure => simp [intOf]; omega
    · obtain rfl : k = n := by omega
      have HD : Box (∃ B', WrW w0 wr wb B' ∧ Adds B (tyssE l) B' ∧ Bxs w wr) := hid ⟨B2, W2, A2.cast (by rw [HL.out]; exact headE_all tysE l), X2⟩
      clear HB W2 A2 X2
      go_wp2_with fail
      go_end0
      exact ⟨rfl, HD.out⟩

set_option maxRecDepth 20000 in
set_option maxHeartbeats 4000000 in
theorem wsgs_any {w0 w : World} {wb : Nat} {B : List UInt8} {v : Value} {l : List (List (Int × Int) × Int × Int)} (h : WrW w0 w wb B) (hx : SlV 3 SgC w0 v l) : Calls Tryd.prog 34 #[.pointer (some ⟨wb, 0, none⟩), v, .func (.func 35) #[] #[]] w (NumPost w0 w wb B (sgsE l)) := by
  obtain ⟨a, cp, rfl, hr, _, hl⟩ := hx
  have hb : b64 (l.length : Int) := by unfold b64; unfold maxLen at hl; omega
  have H1 := hid (number_any h _ hb)
  have HP := hid fun (w' : World) (B1 : List UInt8) (v : Value) (x : (List (Int × Int) × Int × Int)) (h : WrW w0 w' wb B1) (hx : SgV w0 v x) => wsig_any h hx
  have HR := hid hr
  have HN : Box (∃ n, n = l.length ∧ n ≤ maxLen) := hid ⟨_, rfl, hl⟩
  obtain ⟨n, hn, hnm⟩ := HN.out
  rw [← hn] at H1 ⊢
  have HL := hid hn
  have hn1 : (n : Int) ≤ 9223372036854775807 := by unfold maxLen at hnm; omega
  clear h hr hb hl HN hn hnm
  go_enter Tryd.func34, Tryd.ntmps34
  go_wp2_with fail
  refine H1.out.mono ?_
  rintro e w1 ⟨rfl, B1, W1, A1, X1⟩
  have HS : Box (∃ B', WrW w0 w1 wb B' ∧ Adds B (headE sgE l 0) B' ∧ Bxs w w1) := hid ⟨B1, W1, A1.cast (by rw [headE_zero, HL.out]), X1⟩
  clear H1 W1 A1 X1
  go_wp2_with fail
  go_loopw [13] (fun kv wr => ∃ k : Nat, k ≤ n ∧ kv = .int .i64 (k : Int) ∧ Box (∃ B', WrW w0 wr wb B' ∧ Adds B (headE sgE l k) B' ∧ Bxs w wr)) (fun kv _ => n - (intOf kv).toNat)
  case atStart => exact ⟨0, by omega, rfl, HS⟩
  case round =>
    obtain ⟨k, hk, rfl, HB⟩ := hrel
    clear HS
    obtain ⟨B2, W2, A2, X2⟩ := HB.out
    by_cases hlt : k < n
    · have hlt' : (k : Int) < (n : Int) := by omega
      have HF := hid (full_any W2)
      have HW := hid W2
      have HA := hid A2
      have HX := hid X2
      by_cases hf : 20000 < B2.length
      · rw [decide_eq_true hf] at HF
        clear W2 A2 HB X2
        go_wp2_with fail
        refine HF.out.mono ?_
        rintro e w2 ⟨rfl, rfl⟩
        go_wp2_with fail
        go_end0
        exact ⟨rfl, B2, HW.out, (HA.out.stop _ hf).cast (headE_rest sgE l k), HX.out⟩
      · rw [decide_eq_false hf] at HF
        obtain ⟨y, hy⟩ : ∃ y, l[k]? = some y := ⟨_, List.getElem?_eq_getElem (by rw [← HL.out]; exact hlt)⟩
        obtain ⟨b, off, rfl, hc⟩ := HR.out.at hy
        skip
        have d := SgC.stays _ _ _ _ _ W2.keeps hc
        obtain ⟨ar, acp, d5, q5⟩ := hc.c0.val
        replace d5 := cell_stays W2.keeps d5
        have d0 := d.c1.1
        have d1 := d.c2.1
        have HV : Box (SgV w0 (.agg #[.slice ar y.1.length acp, .int .i64 y.2.1, .int .i64 y.2.2]) y) := hid (⟨ar, acp, rfl, q5, d.c1.2, d.c2.2⟩)
        have HE := hid (headE_succ sgE hy)
        clear W2 A2 HB hc d hf hy X2 q5
        go_wp2_with fail
        refine HF.out.mono ?_
        rintro e w2 ⟨rfl, rfl⟩
        go_wp2_with fail
        refine (HP.out _ _ _ _ HW.out HV.out).mono ?_
        rintro e w3 ⟨rfl, B3, W3, A3, X3⟩
        go_wp2_with fail
        go_roundw
        case rel => exact ⟨k + 1, by omega, by go_num, hid ⟨B3, W3, (HA.out.trans A3).cast HE.out.symm, HX.out.trans X3⟩⟩
        case measure => simp [intOf]; omega
    · obtain rfl : k = n := by omega
      have HD : Box (∃ B', WrW w0 wr wb B' ∧ Adds B (sgsE l) B' ∧ Bxs w wr) := hid ⟨B2, W2, A2.cast (by rw [HL.out]; exact headE_all sgE l), X2⟩
      clear HB W2 A2 X2
      go_wp2_with fail
      go_end0
      exact ⟨rfl, HD.out⟩

set_option maxRecDepth 20000 in
set_option maxHeartbeats 4000000 in
theorem wifs_any {w0 w : World} {wb : Nat} {B : List UInt8} {v : Value} {l : List (List Int)} (h : WrW w0 w wb B) (hx : SlV 1 IntsC w0 v l) : Calls Tryd.prog 36 #[.pointer (some ⟨wb, 0, none⟩), v, .func (.func 37) #[] #[]] w (NumPost w0 w wb B (ifsE l)) := by
  obtain ⟨a, cp, rfl, hr, _, hl⟩ := hx
  have hb : b64 (l.length : Int) := by unfold b64; unfold maxLen at hl; omega
  have H1 := hid (number_any h _ hb)
  have HP := hid fun (w' : World) (B1 : List UInt8) (v : Value) (x : (List Int)) (h : WrW w0 w' wb B1) (hx : IfV w0 v x) => wiface_any h hx
  have HR := hid hr
  have HN : Box (∃ n, n = l.length ∧ n ≤ maxLen) := hid ⟨_, rfl, hl⟩
  obtain ⟨n, hn, hnm⟩ := HN.out
  rw [← hn] at H1 ⊢
  have HL := hid hn
  have hn1 : (n : Int) ≤ 9223372036854775807 := by unfold maxLen at hnm; omega
  clear h hr hb hl HN hn hnm
  go_enter Tryd.func36, Tryd.ntmps36
  go_wp2_with fail
  refine H1.out.mono ?_
  rintro e w1 ⟨rfl, B1, W1, A1, X1⟩
  have HS : Box (∃ B', WrW w0 w1 wb B' ∧ Adds B (headE intsE l 0) B' ∧ Bxs w w1) := hid ⟨B1, W1, A1.cast (by rw [headE_zero, HL.out]), X1⟩
  clear H1 W1 A1 X1
  go_wp2_with fail
  go_loopw [13] (fun kv wr => ∃ k : Nat, k ≤ n ∧ kv = .int .i64 (k : Int) ∧ Box (∃ B', WrW w0 wr wb B' ∧ Adds B (headE intsE l k) B' ∧ Bxs w wr)) (fun kv _ => n - (intOf kv).toNat)
  case atStart => exact ⟨0, by omega, rfl, HS⟩
  case round =>
    obtain ⟨k, hk, rfl, HB⟩ := hrel
    clear HS
    obtain ⟨B2, W2, A2, X2⟩ := HB.out
    by_cases hlt : k < n
    · have hlt' : (k : Int) < (n : Int) := by omega
      have HF := hid (full_any W2)
      have HW := hid W2
      have HA := hid A2
      have HX := hid X2
      by_cases hf : 20000 < B2.length
      · rw [decide_eq_true hf] at HF
        clear W2 A2 HB X2
        go_wp2_with fail
        refine HF.out.mono ?_
        rintro e w2 ⟨rfl, rfl⟩
        go_wp2_with fail
        go_end0
        exact ⟨rfl, B2, HW.out, (HA.out.stop _ hf).cast (headE_rest intsE l k), HX.out⟩
      · rw [decide_eq_false hf] at HF
        obtain ⟨y, hy⟩ : ∃ y, l[k]? = some y := ⟨_, List.getElem?_eq_getElem (by rw [← HL.out]; exact hlt)⟩
        obtain ⟨b, off, rfl, hc⟩ := HR.out.at hy
        rw [Nat.mul_one] at hc
        have d := trivial
        obtain ⟨ar, acp, d5, q5⟩ := SlC.val hc
        replace d5 := cell_stays W2.keeps d5

        have HV : Box (IfV w0 (.agg #[.slice ar y.length acp]) y) := hid (⟨ar, acp, rfl, q5⟩)
        have HE := hid (headE_succ intsE hy)
        clear W2 A2 HB hc d hf hy X2 q5
        go_wp2_with fail
        refine HF.out.mono ?_
        rintro e w2 ⟨rfl, rfl⟩
        go_wp2_with fail
        refine (HP.out _ _ _ _ HW.out HV.out).mono ?_
        rintro e w3 ⟨rfl, B3, W3, A3, X3⟩
        go_wp2_with fail
        go_roundw
        case rel => exact ⟨k + 1, by omega, by go_num, hid ⟨B3, W3, (HA.out.trans A3).cast HE.out.symm, HX.out.trans X3⟩⟩
        case measure => simp [intOf]; omega
    · obtain rfl : k = n := by omega
      have HD : Box (∃ B', WrW w0 wr wb B' ∧ Adds B (ifsE l) B' ∧ Bxs w wr) := hid ⟨B2, W2, A2.cast (by rw [HL.out]; exact headE_all intsE l), X2⟩
      clear HB W2 A2 X2
      go_wp2_with fail
      go_end0
      exact ⟨rfl, HD.out⟩

set_option maxRecDepth 20000 in
set_option maxHeartbeats 4000000 in
theorem wims_any {w0 w : World} {wb : Nat} {B : List UInt8} {v : Value} {l : List (Int × Int × List Int)} (h : WrW w0 w wb B) (hx : SlV 3 ImC w0 v l) : Calls Tryd.prog 38 #[.pointer (some ⟨wb, 0, none⟩), v, .func (.func 39) #[] #[]] w (NumPost w0 w wb B (imsE l)) := by
  obtain ⟨a, cp, rfl, hr, _, hl⟩ := hx
  have hb : b64 (l.length : Int) := by unfold b64; unfold maxLen at hl; omega
  have H1 := hid (number_any h _ hb)
  have HP := hid fun (w' : World) (B1 : List UInt8) (v : Value) (x : (Int × Int × List Int)) (h : WrW w0 w' wb B1) (hx : ImV w0 v x) => wimpl_any h hx
  have HR := hid hr
  have HN : Box (∃ n, n = l.length ∧ n ≤ maxLen) := hid ⟨_, rfl, hl⟩
  obtain ⟨n, hn, hnm⟩ := HN.out
  rw [← hn] at H1 ⊢
  have HL := hid hn
  have hn1 : (n : Int) ≤ 9223372036854775807 := by unfold maxLen at hnm; omega
  clear h hr hb hl HN hn hnm
  go_enter Tryd.func38, Tryd.ntmps38
  go_wp2_with fail
  refine H1.out.mono ?_
  rintro e w1 ⟨rfl, B1, W1, A1, X1⟩
  have HS : Box (∃ B', WrW w0 w1 wb B' ∧ Adds B (headE imE l 0) B' ∧ Bxs w w1) := hid ⟨B1, W1, A1.cast (by rw [headE_zero, HL.out]), X1⟩
  clear H1 W1 A1 X1
  go_wp2_with fail
  go_loopw [13] (fun kv wr => ∃ k : Nat, k ≤ n ∧ kv = .int .i64 (k : Int) ∧ Box (∃ B', WrW w0 wr wb B' ∧ Adds B (headE imE l k) B' ∧ Bxs w wr)) (fun kv _ => n - (intOf kv).toNat)
  case atStart => exact ⟨0, by omega, rfl, HS⟩
  case round =>
    obtain ⟨k, hk, rfl, HB⟩ := hrel
    clear HS
    obtain ⟨B2, W2, A2, X2⟩ := HB.out
    by_cases hlt : k < n
    · have hlt' : (k : Int) < (n : Int) := by omega
      have HF := hid (full_any W2)
      have HW := hid W2
      have HA := hid A2
      have HX := hid X2
      by_cases hf : 20000 < B2.length
      · rw [decide_eq_true hf] at HF
        clear W2 A2 HB X2
        go_wp2_with fail
        refine HF.out.mono ?_
        rintro e w2 ⟨rfl, rfl⟩
        go_wp2_with fail
        go_end0
        exact ⟨rfl, B2, HW.out, (HA.out.stop _ hf).cast (headE_rest imE l k), HX.out⟩
      · rw [decide_eq_false hf] at HF
        obtain ⟨y, hy⟩ : ∃ y, l[k]? = some y := ⟨_, List.getElem?_eq_getElem (by rw [← HL.out]; exact hlt)⟩
        obtain ⟨b, off, rfl, hc⟩ := HR.out.at hy
        skip
        have d := ImC.stays _ _ _ _ _ W2.keeps hc
        obtain ⟨ar, acp, d5, q5⟩ := SlC.val hc.c2
        replace d5 := cell_stays W2.keeps d5
        have d0 := d.c0.1
        have d1 := d.c1.1
        have HV : Box (ImV w0 (.agg #[.int .i64 y.1, .int .i64 y.2.1, .slice ar y.2.2.length acp]) y) := hid (⟨ar, acp, rfl, d.c0.2, d.c1.2, q5⟩)
        have HE := hid (headE_succ imE hy)
        clear W2 A2 HB hc d hf hy X2 q5
        go_wp2_with fail
        refine HF.out.mono ?_
        rintro e w2 ⟨rfl, rfl⟩
        go_wp2_with fail
        refine (HP.out _ _ _ _ HW.out HV.out).mono ?_
        rintro e w3 ⟨rfl, B3, W3, A3, X3⟩
        go_wp2_with fail
        go_roundw
        case rel => exact ⟨k + 1, by omega, by go_num, hid ⟨B3, W3, (HA.out.trans A3).cast HE.out.symm, HX.out.trans X3⟩⟩
        case measure => simp [intOf]; omega
    · obtain rfl : k = n := by omega
      have HD : Box (∃ B', WrW w0 wr wb B' ∧ Adds B (imsE l) B' ∧ Bxs w wr) := hid ⟨B2, W2, A2.cast (by rw [HL.out]; exact headE_all imE l), X2⟩
      clear HB W2 A2 X2
      go_wp2_with fail
      go_end0
      exact ⟨rfl, HD.out⟩

end Go.Proofs.YtmipbaihlodmdaaDoor
