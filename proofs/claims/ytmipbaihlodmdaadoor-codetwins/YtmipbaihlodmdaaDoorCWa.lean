/-
  code's writer: types and numbers, their lists, signatures, interfaces, Impls.
-/
import Derived.Test.YtmipbaihlodmdaaDoorCVal
namespace Go.Proofs.YtmipbaihlodmdaaDoor
open Go.RowKit

theorem WrW.quiet {w0 w w' : World} {wb : Nat} {B : List UInt8} (h : WrW w0 w wb B) (k : Keeps [] w w') : WrW w0 w' wb B := by
  obtain ⟨⟨v, h1, h2⟩, h3, h4⟩ := h
  exact ⟨⟨v, keep_heap h1 k, h2.quiet k⟩, h3, h4⟩
theorem wint_any {w0 w : World} {wb : Nat} {B : List UInt8} {v : Value} {x : Int} (h : WrW w0 w wb B) (hx : IntV w0 v x) : Calls Tryd.prog 42 #[.pointer (some ⟨wb, 0, none⟩), v] w (NumPost w0 w wb B (numE x)) := by
  obtain ⟨rfl, hb⟩ := hx
  exact number_any h x hb

set_option maxRecDepth 20000 in
set_option maxHeartbeats 4000000 in
theorem wkind_any {w0 w : World} {wb : Nat} {B : List UInt8} {v : Value} {x : (Int × Int)} (h : WrW w0 w wb B) (hx : TyV w0 v x) : Calls Tryd.prog 59 #[.pointer (some ⟨wb, 0, none⟩), v] w (NumPost w0 w wb B (tyE x)) := by
  obtain ⟨rfl, h1, h2⟩ := hx
  have H1 := hid fun (w' : World) (B1 : List UInt8) (h : WrW w0 w' wb B1) => number_any h x.1 h1
  have H2 := hid fun (w' : World) (B1 : List UInt8) (h : WrW w0 w' wb B1) => number_any h x.2 h2
  have HE : Box (numE x.1 ++ numE x.2 = tyE x) := hid (by rfl)
  have hb0 := heap_new w (.cells #[.int .i64 x.1, .int .i64 x.2] 51)
  have W0 := h.quiet (Keeps.alloc [] w (.cells #[.int .i64 x.1, .int .i64 x.2] 51))
  have X0 := Bxs.quiet (Keeps.alloc [] w (.cells #[.int .i64 x.1, .int .i64 x.2] 51))
  have HX0 := hid X0
  clear h X0
  go_enter Tryd.func59, Tryd.ntmps59
  go_wp2_with fail
  generalize w.heap.size = bk at *
  refine (H1.out _ _ W0).mono ?_
  rintro e w1 ⟨rfl, B1, W1, A1, X1⟩
  have hb1 := X1 _ _ _ hb0 (by decide) (by decide)
  have c0 := hcell hb1 0
  have c1 := hcell hb1 1
  clear hb0 H1
  go_wp2_with fail
  refine (H2.out _ _ W1).mono ?_
  rintro e w2 ⟨rfl, B2, W2, A2, X2⟩
  go_wp2_with fail
  go_end0
  exact ⟨rfl, B2, W2, (A1.trans A2).cast HE.out, HX0.out.trans (X1.trans X2)⟩

set_option maxRecDepth 20000 in
set_option maxHeartbeats 4000000 in
theorem wtys_any {w0 w : World} {wb : Nat} {B : List UInt8} {v : Value} {l : List (Int × Int)} (h : WrW w0 w wb B) (hx : TysV w0 v l) : Calls Tryd.prog 58 #[.pointer (some ⟨wb, 0, none⟩), v, .func (.func 59) #[] #[]] w (NumPost w0 w wb B (tysE l)) := by
  obtain ⟨a, cp, rfl, hr, _, hl⟩ := hx
  have hb : b64 (l.length : Int) := by unfold b64; unfold maxLen at hl; omega
  have H1 := hid (number_any h _ hb)
  have HP := hid fun (w' : World) (B1 : List UInt8) (v : Value) (x : (Int × Int)) (h : WrW w0 w' wb B1) (hx : TyV w0 v x) => wkind_any h hx
  have HR := hid hr
  have HN : Box (∃ n, n = l.length ∧ n ≤ maxLen) := hid ⟨_, rfl, hl⟩
  obtain ⟨n, hn, hnm⟩ := HN.out
  rw [← hn] at H1 ⊢
  have HL := hid hn
  have hn1 : (n : Int) ≤ 9223372036854775807 := by unfold maxLen at hnm; omega
  clear h hr hb hl HN hn hnm
  go_enter Tryd.func58, Tryd.ntmps58
  go_wp2_with fail
  refine H1.out.mono ?_
  rintro e w1 ⟨rfl, B1, W1, A1, X1⟩
  have HS : Box (∃ B', WrW w0 w1 wb B' ∧ Adds B (headE tyE l 0) B' ∧ Bxs w w1) := hid ⟨B1, W1, A1.cast (by rw [headE_zero, HL.out]), X1⟩
  clear H1 W1 A1 X1
  go_wp2_with fail
  go_loopw [13] (fun kv wr => ∃ k : Nat, k ≤ n ∧ kv = .int .i64 (k : Int) ∧ Box (∃ B', WrW w0 wr wb B' ∧ Adds B (headE tyE l k) B' ∧ Bxs w wr)) (fun kv _ => n - (intOf kv).toNat)
  case atStart => exact ⟨0, by omega, rfl, HS⟩
  case round =>
    obtain ⟨k, hk, rfl, HB⟩ := hrel
    clear HS
    obtain ⟨B2, W2, A2, X2⟩ := HB.out
    by_cases hlt : k < n
    · have hlt' : (k : Int) < (n : Int) := by omega
      have HF := hid (full_any W2)
      have HW := hid W2
      have HA := hid A2
      have HX := hid X2
      by_cases hf : 20000 < B2.length
      · rw [decide_eq_true hf] at HF
        clear W2 A2 HB X2
        go_wp2_with fail
        refine HF.out.mono ?_
        rintro e w2 ⟨rfl, rfl⟩
        go_wp2_with fail
        go_end0
        exact ⟨rfl, B2, HW.out, (HA.out.stop _ hf).cast (headE_rest tyE l k), HX.out⟩
      · rw [decide_eq_false hf] at HF
        obtain ⟨y, hy⟩ : ∃ y, l[k]? = some y := ⟨_, List.getElem?_eq_getElem (by rw [← HL.out]; exact hlt)⟩
        obtain ⟨b, off, rfl, hc⟩ := HR.out.at hy
        skip
        have d := TyC.stays _ _ _ _ _ W2.keeps hc
        skip
        have d0 := d.c0.1
        have d1 := d.c1.1
        have HV : Box (TyV w0 (.agg #[.int .i64 y.1, .int .i64 y.2]) y) := hid (⟨rfl, d.c0.2, d.c1.2⟩)
        have HE := hid (headE_succ tyE hy)
        clear W2 A2 HB hc d hf hy X2 
        go_wp2_with fail
        refine HF.out.mono ?_
        rintro e w2 ⟨rfl, rfl⟩
        go_wp2_with fail
        refine (HP.out _ _ _ _ HW.out HV.out).mono ?_
        rintro e w3 ⟨rfl, B3, W3, A3, X3⟩
        go_wp2_with fail
        go_roundw
        case rel => exact ⟨k + 1, by omega, by go_num, hid ⟨B3, W3, (HA.out.trans A3).cast HE.out.symm, HX.out.trans X3⟩⟩
        case measure => simp [intOf]; omega
    · obtain rfl : k = n := by omega
      have HD : Box (∃ B', WrW w0 wr wb B' ∧ Adds B (tysE l) B' ∧ Bxs w wr) := hid ⟨B2, W2, A2.cast (by rw [HL.out]; exact headE_all tyE l), X2⟩
      clear HB W2 A2 X2
      go_wp2_with fail
      go_end0
      exact ⟨rfl, HD.out⟩

set_option maxRecDepth 20000 in
set_option maxHeartbeats 4000000 in
theorem wints_any {w0 w : World} {wb : Nat} {B : List UInt8} {v : Value} {l : List Int} (h : WrW w0 w wb B) (hx : IntsV w0 v l) : Calls Tryd.prog 76 #[.pointer (some ⟨wb, 0, none⟩), v, .func (.func 42) #[] #[]] w (NumPost w0 w wb B (intsE l)) := by
  obtain ⟨a, cp, rfl, hr, _, hl⟩ := hx
  have hb : b64 (l.length : Int) := by unfold b64; unfold maxLen at hl; omega
  have H1 := hid (number_any h _ hb)
  have HP := hid fun (w' : World) (B1 : List UInt8) (v : Value) (x : Int) (h : WrW w0 w' wb B1) (hx : IntV w0 v x) => wint_any h hx
  have HR := hid hr
  have HN : Box (∃ n, n = l.length ∧ n ≤ maxLen) := hid ⟨_, rfl, hl⟩
  obtain ⟨n, hn, hnm⟩ := HN.out
  rw [← hn] at H1 ⊢
  have HL := hid hn
  have hn1 : (n : Int) ≤ 9223372036854775807 := by unfold maxLen at hnm; omega
  clear h hr hb hl HN hn hnm
  go_enter Tryd.func76, Tryd.ntmps76
  go_wp2_with fail
  refine H1.out.mono ?_
  rintro e w1 ⟨rfl, B1, W1, A1, X1⟩
  have HS : Box (∃ B', WrW w0 w1 wb B' ∧ Adds B (headE numE l 0) B' ∧ Bxs w w1) := hid ⟨B1, W1, A1.cast (by rw [headE_zero, HL.out]), X1⟩
  clear H1 W1 A1 X1
  go_wp2_with fail
  go_loopw [13] (fun kv wr => ∃ k : Nat, k ≤ n ∧ kv = .int .i64 (k : Int) ∧ Box (∃ B', WrW w0 wr wb B' ∧ Adds B (headE numE l k) B' ∧ Bxs w wr)) (fun kv _ => n - (intOf kv).toNat)
  case atStart => exact ⟨0, by omega, rfl, HS⟩
  case round =>
    obtain ⟨k, hk, rfl, HB⟩ := hrel
    clear HS
    obtain ⟨B2, W2, A2, X2⟩ := HB.out
    by_cases hlt : k < n
    · have hlt' : (k : Int) < (n : Int) := by omega
      have HF := hid (full_any W2)
      have HW := hid W2
      have HA := hid A2
      have HX := hid X2
      by_cases hf : 20000 < B2.length
      · rw [decide_eq_true hf] at HF
        clear W2 A2 HB X2
        go_wp2_with fail
        refine HF.out.mono ?_
        rintro e w2 ⟨rfl, rfl⟩
        go_wp2_with fail
        go_end0
        exact ⟨rfl, B2, HW.out, (HA.out.stop _ hf).cast (headE_rest numE l k), HX.out⟩
      · rw [decide_eq_false hf] at HF
        obtain ⟨y, hy⟩ : ∃ y, l[k]? = some y := ⟨_, List.getElem?_eq_getElem (by rw [← HL.out]; exact hlt)⟩
        obtain ⟨b, off, rfl, hc⟩ := HR.out.at hy
        rw [Nat.mul_one] at hc
        have d := IntC.stays _ _ _ _ _ W2.keeps hc
        skip
        have d0 := d.1
        have HV : Box (IntV w0 (.int .i64 y) y) := hid (⟨rfl, d.2⟩)
        have HE := hid (headE_succ numE hy)
        clear W2 A2 HB hc d hf hy X2 
        go_wp2_with fail
        refine HF.out.mono ?_
        rintro e w2 ⟨rfl, rfl⟩
        go_wp2_with fail
        refine (HP.out _ _ _ _ HW.out HV.out).mono ?_
        rintro e w3 ⟨rfl, B3, W3, A3, X3⟩
        go_wp2_with fail
        go_roundw
        case rel => exact ⟨k + 1, by omega, by go_num, hid ⟨B3, W3, (HA.out.trans A3).cast HE.out.symm, HX.out.trans X3⟩⟩
        case measure => simp [intOf]; omega
    · obtain rfl : k = n := by omega
      have HD : Box (∃ B', WrW w0 wr wb B' ∧ Adds B (intsE l) B' ∧ Bxs w wr) := hid ⟨B2, W2, A2.cast (by rw [HL.out]; exact headE_all numE l), X2⟩
      clear HB W2 A2 X2
      go_wp2_with fail
      go_end0
      exact ⟨rfl, HD.out⟩

theorem wkinds_any {w0 w : World} {wb : Nat} {B : List UInt8} {v : Value} {x : List (Int × Int)} (h : WrW w0 w wb B) (hx : TysV w0 v x) : Calls Tryd.prog 33 #[.pointer (some ⟨wb, 0, none⟩), v] w (NumPost w0 w wb B (tysE x)) := by
  have H := hid (wtys_any h hx)
  obtain ⟨a, cp, rfl, _⟩ := hx
  clear h
  go_enter Tryd.func33, Tryd.ntmps33
  go_wp2_with fail
  refine H.out.mono ?_
  rintro e w1 ⟨rfl, h1⟩
  go_wp2_with fail
  go_end0
  exact ⟨rfl, h1⟩

theorem wnumbers_any {w0 w : World} {wb : Nat} {B : List UInt8} {v : Value} {x : List Int} (h : WrW w0 w wb B) (hx : IntsV w0 v x) : Calls Tryd.prog 60 #[.pointer (some ⟨wb, 0, none⟩), v] w (NumPost w0 w wb B (intsE x)) := by
  have H := hid (wints_any h hx)
  obtain ⟨a, cp, rfl, _⟩ := hx
  clear h
  go_enter Tryd.func60, Tryd.ntmps60
  go_wp2_with fail
  refine H.out.mono ?_
  rintro e w1 ⟨rfl, h1⟩
  go_wp2_with fail
  go_end0
  exact ⟨rfl, h1⟩

set_option maxRecDepth 20000 in
set_option maxHeartbeats 4000000 in
theorem wsig_any {w0 w : World} {wb : Nat} {B : List UInt8} {v : Value} {x : List (Int × Int) × Int × Int} (h : WrW w0 w wb B) (hx : SgV w0 v x) : Calls Tryd.prog 35 #[.pointer (some ⟨wb, 0, none⟩), v] w (NumPost w0 w wb B (sgE x)) := by
  obtain ⟨a, cp, rfl, h1, h2, h3⟩ := hx
  have H1 := hid fun (w' : World) (B1 : List UInt8) (h : WrW w0 w' wb B1) => wkinds_any h h1
  have H2 := hid fun (w' : World) (B1 : List UInt8) (h : WrW w0 w' wb B1) => wkind_any (x := x.2) h ⟨rfl, h2, h3⟩
  have HE : Box (tysE x.1 ++ tyE x.2 = sgE x) := hid (by rfl)
  have hb0 := heap_new w (.cells #[.slice a x.1.length cp, .int .i64 x.2.1, .int .i64 x.2.2] 62)
  have W0 := h.quiet (Keeps.alloc [] w (.cells #[.slice a x.1.length cp, .int .i64 x.2.1, .int .i64 x.2.2] 62))
  have X0 := Bxs.quiet (Keeps.alloc [] w (.cells #[.slice a x.1.length cp, .int .i64 x.2.1, .int .i64 x.2.2] 62))
  have HX0 := hid X0
  clear h X0
  go_enter Tryd.func35, Tryd.ntmps35
  go_wp2_with fail
  generalize w.heap.size = bk at *
  refine (H1.out _ _ W0).mono ?_
  rintro e w1 ⟨rfl, B1, W1, A1, X1⟩
  have hb1 := X1 _ _ _ hb0 (by decide) (by decide)
  have c0 := hcell hb1 0
  have c1 := hcell hb1 1
  have c2 := hcell hb1 2
  clear hb0 H1
  go_wp2_with fail
  refine (H2.out _ _ W1).mono ?_
  rintro e w2 ⟨rfl, B2, W2, A2, X2⟩
  go_wp2_with fail
  go_end0
  exact ⟨rfl, B2, W2, (A1.trans A2).cast HE.out, HX0.out.trans (X1.trans X2)⟩

set_option maxRecDepth 20000 in
set_option maxHeartbeats 4000000 in
theorem wiface_any {w0 w : World} {wb : Nat} {B : List UInt8} {v : Value} {x : List Int} (h : WrW w0 w wb B) (hx : IfV w0 v x) : Calls Tryd.prog 37 #[.pointer (some ⟨wb, 0, none⟩), v] w (NumPost w0 w wb B (intsE x)) := by
  obtain ⟨a, cp, rfl, h1⟩ := hx
  have H1 := hid fun (w' : World) (B1 : List UInt8) (h : WrW w0 w' wb B1) => wnumbers_any h h1
  have HE : Box (intsE x = intsE x) := hid (by rfl)
  have hb0 := heap_new w (.cells #[.slice a x.length cp] 39)
  have W0 := h.quiet (Keeps.alloc [] w (.cells #[.slice a x.length cp] 39))
  have X0 := Bxs.quiet (Keeps.alloc [] w (.cells #[.slice a x.length cp] 39))
  have HX0 := hid X0
  clear h X0
  go_enter Tryd.func37, Tryd.ntmps37
  go_wp2_with fail
  generalize w.heap.size = bk at *
  refine (H1.out _ _ W0).mono ?_
  rintro e w1 ⟨rfl, B1, W1, A1, X1⟩
  go_wp2_with fail
  go_end0
  exact ⟨rfl, B1, W1, A1, HX0.out.trans X1⟩

set_option maxRecDepth 20000 in
set_option maxHeartbeats 4000000 in
theorem wimpl_any {w0 w : World} {wb : Nat} {B : List UInt8} {v : Value} {x : Int × Int × List Int} (h : WrW w0 w wb B) (hx : ImV w0 v x) : Calls Tryd.prog 39 #[.pointer (some ⟨wb, 0, none⟩), v] w (NumPost w0 w wb B (imE x)) := by
  obtain ⟨a, cp, rfl, h1, h2, h3⟩ := hx
  have H1 := hid fun (w' : World) (B1 : List UInt8) (h : WrW w0 w' wb B1) => number_any h x.1 h1
  have H2 := hid fun (w' : World) (B1 : List UInt8) (h : WrW w0 w' wb B1) => number_any h x.2.1 h2
  have H3 := hid fun (w' : World) (B1 : List UInt8) (h : WrW w0 w' wb B1) => wnumbers_any h h3
  have HE : Box (numE x.1 ++ numE x.2.1 ++ intsE x.2.2 = imE x) := hid (by simp only [imE, pairE, List.append_assoc])
  have hb0 := heap_new w (.cells #[.int .i64 x.1, .int .i64 x.2.1, .slice a x.2.2.length cp] 65)
  have W0 := h.quiet (Keeps.alloc [] w (.cells #[.int .i64 x.1, .int .i64 x.2.1, .slice a x.2.2.length cp] 65))
  have X0 := Bxs.quiet (Keeps.alloc [] w (.cells #[.int .i64 x.1, .int .i64 x.2.1, .slice a x.2.2.length cp] 65))
  have HX0 := hid X0
  clear h X0
  go_enter Tryd.func39, Tryd.ntmps39
  go_wp2_with fail
  generalize w.heap.size = bk at *
  refine (H1.out _ _ W0).mono ?_
  rintro e w1 ⟨rfl, B1, W1, A1, X1⟩
  have hb1 := X1 _ _ _ hb0 (by decide) (by decide)
  have c0 := hcell hb1 0
  have c1 := hcell hb1 1
  have c2 := hcell hb1 2
  clear hb0 H1
  go_wp2_with fail
  refine (H2.out _ _ W1).mono ?_
  rintro e w2 ⟨rfl, B2, W2, A2, X2⟩
  have hb2 := X2 _ _ _ hb1 (by decide) (by decide)
  have c0 := hcell hb2 0
  have c1 := hcell hb2 1
  have c2 := hcell hb2 2
  clear hb1 H2
  go_wp2_with fail
  refine (H3.out _ _ W2).mono ?_
  rintro e w3 ⟨rfl, B3, W3, A3, X3⟩
  go_wp2_with fail
  go_end0
  exact ⟨rfl, B3, W3, ((A1.trans A2).trans A3).cast HE.out, HX0.out.trans ((X1.trans X2).trans X3)⟩

set_option maxRecDepth 20000 in
set_option maxHeartbeats 4000000 in
theorem winstr_any {w0 w : World} {wb : Nat} {B : List UInt8} {v : Value} {x : In8} (h : WrW w0 w wb B) (hx : InV w0 v x) : Calls Tryd.prog 78 #[.pointer (some ⟨wb, 0, none⟩), v] w (NumPost w0 w wb B (inE x)) := by
  obtain ⟨a, cp, rfl, h1, h2, h3, h4, h5, h6⟩ := hx
  have H1 := hid fun (w' : World) (B1 : List UInt8) (h : WrW w0 w' wb B1) => number_any h x.op h1
  have H2 := hid fun (w' : World) (B1 : List UInt8) (h : WrW w0 w' wb B1) => number_any h x.dst h2
  have H3 := hid fun (w' : World) (B1 : List UInt8) (h : WrW w0 w' wb B1) => number_any h x.a h3
  have H4 := hid fun (w' : World) (B1 : List UInt8) (h : WrW w0 w' wb B1) => number_any h x.b h4
  have H5 := hid fun (w' : World) (B1 : List UInt8) (h : WrW w0 w' wb B1) => number_any h x.n h5
  have H6 := hid fun (w' : World) (B1 : List UInt8) (h : WrW w0 w' wb B1) => wnumbers_any h h6
  have HE : Box (numE x.op ++ numE x.dst ++ numE x.a ++ numE x.b ++ numE x.n ++ intsE x.args = inE x) := hid (by simp only [inE, pairE, List.append_assoc])
  have hb0 := heap_new w (.cells #[.int .i64 x.op, .int .i64 x.dst, .int .i64 x.a, .int .i64 x.b, .int .i64 x.n, .slice a x.args.length cp] 86)
  have W0 := h.quiet (Keeps.alloc [] w (.cells #[.int .i64 x.op, .int .i64 x.dst, .int .i64 x.a, .int .i64 x.b, .int .i64 x.n, .slice a x.args.length cp] 86))
  have X0 := Bxs.quiet (Keeps.alloc [] w (.cells #[.int .i64 x.op, .int .i64 x.dst, .int .i64 x.a, .int .i64 x.b, .int .i64 x.n, .slice a x.args.length cp] 86))
  have HX0 := hid X0
  clear h X0
  go_enter Tryd.func78, Tryd.ntmps78
  go_wp2_with fail
  generalize w.heap.size = bk at *
  refine (H1.out _ _ W0).mono ?_
  rintro e w1 ⟨rfl, B1, W1, A1, X1⟩
  have hb1 := X1 _ _ _ hb0 (by decide) (by decide)
  have c0 := hcell hb1 0
  have c1 := hcell hb1 1
  have c2 := hcell hb1 2
  have c3 := hcell hb1 3
  have c4 := hcell hb1 4
  have c5 := hcell hb1 5
  clear hb0 H1
  go_wp2_with fail
  refine (H2.out _ _ W1).mono ?_
  rintro e w2 ⟨rfl, B2, W2, A2, X2⟩
  have hb2 := X2 _ _ _ hb1 (by decide) (by decide)
  have c0 := hcell hb2 0
  have c1 := hcell hb2 1
  have c2 := hcell hb2 2
  have c3 := hcell hb2 3
  have c4 := hcell hb2 4
  have c5 := hcell hb2 5
  clear hb1 H2
  go_wp2_with fail
  refine (H3.out _ _ W2).mono ?_
  rintro e w3 ⟨rfl, B3, W3, A3, X3⟩
  have hb3 := X3 _ _ _ hb2 (by decide) (by decide)
  have c0 := hcell hb3 0
  have c1 := hcell hb3 1
  have c2 := hcell hb3 2
  have c3 := hcell hb3 3
  have c4 := hcell hb3 4
  have c5 := hcell hb3 5
  clear hb2 H3
  go_wp2_with fail
  refine (H4.out _ _ W3).mono ?_
  rintro e w4 ⟨rfl, B4, W4, A4, X4⟩
  have hb4 := X4 _ _ _ hb3 (by decide) (by decide)
  have c0 := hcell hb4 0
  have c1 := hcell hb4 1
  have c2 := hcell hb4 2
  have c3 := hcell hb4 3
  have c4 := hcell hb4 4
  have c5 := hcell hb4 5
  clear hb3 H4
  go_wp2_with fail
  refine (H5.out _ _ W4).mono ?_
  rintro e w5 ⟨rfl, B5, W5, A5, X5⟩
  have hb5 := X5 _ _ _ hb4 (by decide) (by decide)
  have c0 := hcell hb5 0
  have c1 := hcell hb5 1
  have c2 := hcell hb5 2
  have c3 := hcell hb5 3
  have c4 := hcell hb5 4
  have c5 := hcell hb5 5
  clear hb4 H5
  go_wp2_with fail
  refine (H6.out _ _ W5).mono ?_
  rintro e w6 ⟨rfl, B6, W6, A6, X6⟩
  go_wp2_with fail
  go_end0
  exact ⟨rfl, B6, W6, (((((A1.trans A2).trans A3).trans A4).trans A5).trans A6).cast HE.out, HX0.out.trans (((((X1.trans X2).trans X3).trans X4).trans X5).trans X6)⟩

end Go.Proofs.YtmipbaihlodmdaaDoor
