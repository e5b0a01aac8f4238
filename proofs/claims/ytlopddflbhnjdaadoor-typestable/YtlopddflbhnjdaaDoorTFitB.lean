/-
  types.instrFits, by Op: sums, copies, fields, functions, interfaces.
-/
import Derived.Test.YtlopddflbhnjdaaDoorTFit1
import Derived.Test.YtlopddflbhnjdaaDoorTNum
import Derived.Test.YtlopddflbhnjdaaDoorTCal
namespace Go.Proofs.YtlopddflbhnjdaaDoor
open Go.RowKit

set_option maxRecDepth 20000 in
set_option maxHeartbeats 8000000 in
theorem fit_2 {w : World} {pb po fb fo : Nat} {f : Fu8} (hf : FuC w fb fo f) (x : In8) (ar : Value) (hop : x.op = 2) : Calls Tryd.prog 32 #[.pointer (some ⟨pb, po, none⟩), .pointer (some ⟨fb, fo, none⟩), insV x ar] w fun e w' => e = .returned (.bool ((regT f x.a).1 == 0 && ((regT f x.b).1 == 0 && (regT f x.dst).1 == 0))) ∧ Keeps [] w w' := by
  obtain ⟨RES, hRES⟩ : ∃ r, r = ((regT f x.a).1 == 0 && ((regT f x.b).1 == 0 && (regT f x.dst).1 == 0)) := ⟨_, rfl⟩
  rw [← hRES]
  have HRES := hid hRES
  clear hRES
  have ka := Keeps.alloc [] w (.cells #[.int .i64 x.op, .int .i64 x.dst, .int .i64 x.a, .int .i64 x.b, .int .i64 x.n, ar] 54)
  have hn := heap_new w (.cells #[.int .i64 x.op, .int .i64 x.dst, .int .i64 x.a, .int .i64 x.b, .int .i64 x.n, ar] 54)
  have HRT := hid fun (r : Int) (w' : World) (k : Keeps [] w w') => regtype_any (FuC.stays _ _ _ _ _ k hf) r
  have KA := hid ka
  have HN := hid hn
  clear hf ka hn
  unfold insV
  rw [hop] at KA HN ⊢
  go_enter Tryd.func32, Tryd.ntmps32
  go_upto_region 1 with fail
  generalize w.alloc (.cells #[.int .i64 2, .int .i64 x.dst, .int .i64 x.a, .int .i64 x.b, .int .i64 x.n, ar] 54) = WA at *
  generalize w.heap.size = q at *
  have IN : Box (∀ w', Keeps [] WA w' → w'.cell? ⟨q, 1, none⟩ = some (.int .i64 x.dst) ∧ w'.cell? ⟨q, 2, none⟩ = some (.int .i64 x.a) ∧ w'.cell? ⟨q, 3, none⟩ = some (.int .i64 x.b)) := hid fun w' k => by
    have := keep_heap HN.out k
    exact ⟨hcell this 1, hcell this 2, hcell this 3⟩
  have H1 := hid fun (w' : World) (k : Keeps [] WA w') => HRT.out x.dst w' (KA.out.quiet k)
  have H2 := hid fun (w' : World) (k : Keeps [] WA w') => HRT.out x.a w' (KA.out.quiet k)
  have H3 := hid fun (w' : World) (k : Keeps [] WA w') => HRT.out x.b w' (KA.out.quiet k)
  have HD0 := hid (Keeps.drew [] WA)
  have ld : ∀ {w' : World} {ad : Addr} {v : Value} {ev : Operand → Value} {oi : Oper} {y : Operand}, w'.cell? ad = some v → oi.op = .load 3 y → ev y = .pointer (some ad) → (execOp ev oi).run Tryd.prog w' = .ok (.value v) w' := fun hc ho hy => by
    simp [execOp, ho, hy, go_sem, hc]
  have stv : ∀ {w1 : World} {b : Nat} {t t' : Int × Int} {ev : Operand → Value} {oi : Oper} {y z : Operand}, TyAt w1 b t → oi.op = .store 39 y z → ev y = .pointer (some ⟨b, 0, none⟩) → ev z = tyV t' → (execOp ev oi).run Tryd.prog w1 = .ok .skip ((w1.setCell ⟨b, 0, none⟩ (.int .i64 t'.1)).setCell ⟨b, 1, none⟩ (.int .i64 t'.2)) := fun {w1 b t t' ev oi y z} hty ho hy hz => by
    have z0 := hfrozen hty 0
    have z1 := hfrozen hty 1
    have c0 := hcell hty 0
    have c1 := hcell hty 1
    simp [execOp, ho, hy, hz, go_sem, z0, z1, c0, c1]
  generalize hT1 : regT f x.dst = T1 at *
  generalize hT2 : regT f x.a = T2 at *
  generalize hT3 : regT f x.b = T3 at *
  have HT1 := hid hT1
  have HT2 := hid hT2
  have HT3 := hid hT3
  clear hT1 hT2 hT3
  refine wp_region_held_drew (S := fun w' => Keeps [] WA w') (by kernel_rfl) HD0.out (fun _ => ?_)
  refine tk_yield (i := 0) (d := 16) (v := .pointer (some ⟨fb, fo, none⟩)) rfl rfl (by as_aux_lemma => kernel_rfl) (by as_aux_lemma => kernel_rfl) (by as_aux_lemma => kernel_rfl) (fun _ _ _ h => h) (by rfl) HD0.out (fun _ _ => rfl) ?_
  simp only [Act.put, List.setIfInBounds_toArray, List.set_cons_zero, List.set_cons_succ]
  refine tk_yield (i := 1) (d := 17) (v := .pointer (some ⟨q, 1, none⟩)) rfl rfl (by as_aux_lemma => kernel_rfl) (by as_aux_lemma => kernel_rfl) (by as_aux_lemma => kernel_rfl) (fun _ _ _ h => h) (by rfl) HD0.out (fun _ _ => rfl) ?_
  simp only [Act.put, List.setIfInBounds_toArray, List.set_cons_zero, List.set_cons_succ]
  refine tk_yield (i := 2) (d := 18) (v := .int .i64 x.dst) rfl rfl (by as_aux_lemma => kernel_rfl) (by as_aux_lemma => kernel_rfl) (by as_aux_lemma => kernel_rfl) (fun _ _ _ h => h) (by rfl) HD0.out (fun w' k => ld (IN.out w' k).1 rfl rfl) ?_
  simp only [Act.put, List.setIfInBounds_toArray, List.set_cons_zero, List.set_cons_succ]
  refine tk_yield (i := 4) (d := 20) (v := .pointer (some ⟨fb, fo, none⟩)) rfl rfl (by as_aux_lemma => kernel_rfl) (by as_aux_lemma => kernel_rfl) (by as_aux_lemma => kernel_rfl) (fun _ _ _ h => h) (by rfl) HD0.out (fun _ _ => rfl) ?_
  simp only [Act.put, List.setIfInBounds_toArray, List.set_cons_zero, List.set_cons_succ]
  refine tk_yield (i := 5) (d := 21) (v := .pointer (some ⟨q, 2, none⟩)) rfl rfl (by as_aux_lemma => kernel_rfl) (by as_aux_lemma => kernel_rfl) (by as_aux_lemma => kernel_rfl) (fun _ _ _ h => h) (by rfl) HD0.out (fun _ _ => rfl) ?_
  simp only [Act.put, List.setIfInBounds_toArray, List.set_cons_zero, List.set_cons_succ]
  refine tk_yield (i := 6) (d := 22) (v := .int .i64 x.a) rfl rfl (by as_aux_lemma => kernel_rfl) (by as_aux_lemma => kernel_rfl) (by as_aux_lemma => kernel_rfl) (fun _ _ _ h => h) (by rfl) HD0.out (fun w' k => ld (IN.out w' k).2.1 rfl rfl) ?_
  simp only [Act.put, List.setIfInBounds_toArray, List.set_cons_zero, List.set_cons_succ]
  refine tk_yield (i := 8) (d := 24) (v := .pointer (some ⟨fb, fo, none⟩)) rfl rfl (by as_aux_lemma => kernel_rfl) (by as_aux_lemma => kernel_rfl) (by as_aux_lemma => kernel_rfl) (fun _ _ _ h => h) (by rfl) HD0.out (fun _ _ => rfl) ?_
  simp only [Act.put, List.setIfInBounds_toArray, List.set_cons_zero, List.set_cons_succ]
  refine tk_yield (i := 9) (d := 25) (v := .pointer (some ⟨q, 3, none⟩)) rfl rfl (by as_aux_lemma => kernel_rfl) (by as_aux_lemma => kernel_rfl) (by as_aux_lemma => kernel_rfl) (fun _ _ _ h => h) (by rfl) HD0.out (fun _ _ => rfl) ?_
  simp only [Act.put, List.setIfInBounds_toArray, List.set_cons_zero, List.set_cons_succ]
  refine tk_yield (i := 10) (d := 26) (v := .int .i64 x.b) rfl rfl (by as_aux_lemma => kernel_rfl) (by as_aux_lemma => kernel_rfl) (by as_aux_lemma => kernel_rfl) (fun _ _ _ h => h) (by rfl) HD0.out (fun w' k => ld (IN.out w' k).2.2 rfl rfl) ?_
  simp only [Act.put, List.setIfInBounds_toArray, List.set_cons_zero, List.set_cons_succ]
  refine wpAnyH_inv (ThreeI WA (fun v7 v8 v9 v19 v23 v27 => ({ tmps := List.toArray ((.pointer (some ⟨pb, po, none⟩) : Value) :: (.pointer (some ⟨fb, fo, none⟩) : Value) :: (.agg #[.int .i64 2, .int .i64 x.dst, .int .i64 x.a, .int .i64 x.b, .int .i64 x.n, ar] : Value) :: (undef : Value) :: (undef : Value) :: (.pointer (some ⟨q, 0, none⟩) : Value) :: (.bool false : Value) :: (v7 : Value) :: (v8 : Value) :: (v9 : Value) :: (undef : Value) :: (undef : Value) :: (undef : Value) :: (undef : Value) :: (undef : Value) :: (undef : Value) :: (.pointer (some ⟨fb, fo, none⟩) : Value) :: (.pointer (some ⟨q, 1, none⟩) : Value) :: (.int .i64 x.dst : Value) :: (v19 : Value) :: (.pointer (some ⟨fb, fo, none⟩) : Value) :: (.pointer (some ⟨q, 2, none⟩) : Value) :: (.int .i64 x.a : Value) :: (v23 : Value) :: (.pointer (some ⟨fb, fo, none⟩) : Value) :: (.pointer (some ⟨q, 3, none⟩) : Value) :: (.int .i64 x.b : Value) :: (v27 : Value) :: (undef : Value) :: (undef : Value) :: (undef : Value) :: (undef : Value) :: (undef : Value) :: (undef : Value) :: (undef : Value) :: (undef : Value) :: (undef : Value) :: (undef : Value) :: (undef : Value) :: (undef : Value) :: (undef : Value) :: (undef : Value) :: (undef : Value) :: (undef : Value) :: (undef : Value) :: (undef : Value) :: (undef : Value) :: (undef : Value) :: (undef : Value) :: (undef : Value) :: (undef : Value) :: (undef : Value) :: (undef : Value) :: (undef : Value) :: (undef : Value) :: (undef : Value) :: (undef : Value) :: (undef : Value) :: (undef : Value) :: (undef : Value) :: (undef : Value) :: (undef : Value) :: (undef : Value) :: (undef : Value) :: (undef : Value) :: (undef : Value) :: (undef : Value) :: (undef : Value) :: (undef : Value) :: (undef : Value) :: (undef : Value) :: (undef : Value) :: (undef : Value) :: (undef : Value) :: (undef : Value) :: (undef : Value) :: (undef : Value) :: (undef : Value) :: (undef : Value) :: (undef : Value) :: (undef : Value) :: (undef : Value) :: (undef : Value) :: (undef : Value) :: (undef : Value) :: (undef : Value) :: (undef : Value) :: (undef : Value) :: (undef : Value) :: (undef : Value) :: (undef : Value) :: (undef : Value) :: (undef : Value) :: (undef : Value) :: (undef : Value) :: (undef : Value) :: (undef : Value) :: (undef : Value) :: (undef : Value) :: (undef : Value) :: (undef : Value) :: (undef : Value) :: (undef : Value) :: (undef : Value) :: (undef : Value) :: (undef : Value) :: (undef : Value) :: (undef : Value) :: (undef : Value) :: (undef : Value) :: (undef : Value) :: (undef : Value) :: (undef : Value) :: (undef : Value) :: (undef : Value) :: (undef : Value) :: (undef : Value) :: (undef : Value) :: (undef : Value) :: (undef : Value) :: (undef : Value) :: (undef : Value) :: (undef : Value) :: (undef : Value) :: (undef : Value) :: (undef : Value) :: (undef : Value) :: (undef : Value) :: (undef : Value) :: (undef : Value) :: (undef : Value) :: (undef : Value) :: (undef : Value) :: (undef : Value) :: (undef : Value) :: (undef : Value) :: (undef : Value) :: (undef : Value) :: (undef : Value) :: (undef : Value) :: (undef : Value) :: (undef : Value) :: (undef : Value) :: (undef : Value) :: (undef : Value) :: (undef : Value) :: (undef : Value) :: (undef : Value) :: (undef : Value) :: (undef : Value) :: (undef : Value) :: (undef : Value) :: (undef : Value) :: (undef : Value) :: (undef : Value) :: (undef : Value) :: (undef : Value) :: (undef : Value) :: (undef : Value) :: (undef : Value) :: (undef : Value) :: (undef : Value) :: (undef : Value) :: (undef : Value) :: (undef : Value) :: (undef : Value) :: (undef : Value) :: (undef : Value) :: (undef : Value) :: (undef : Value) :: (undef : Value) :: []), defers := [] } : Act)) T1 T2 T3) (fun _ _ _ h => h.kept) ?hd ?hstep _ _ _ _ ?start ?fin
  case fin => exact Nat.le_of_ble_eq_true (by kernel_rfl)
  case start =>
    exact ⟨rfl, HD0.out, ⟨undef, undef, undef, undef, undef, undef, 0, 0, 0, rfl, (fun h => by cases h), (fun h => by cases h), (fun h => by cases h), (fun h => by cases h), (fun h => by cases h), (fun h => by cases h), (fun h => by cases h), (fun h => by cases h), fun h => by cases h⟩, by decide, (fun h => by cases h), (fun h => by cases h), fun h => by cases h⟩
  case hstep =>
    rintro l a w1 i ⟨hsz, hk, ⟨v7, v8, v9, v19, v23, v27, b7, b8, b9, rfl, e3, e7, e11, m7, m8, m9, n78, n79, n89⟩, h9, o7, o8, o9⟩ hr
    have hun := (mem_ready.1 hr).1
    have hf0 := false_of_true hun
    have hlt : i < 18 := ready_lt hr
    have hne : i ∉ [0, 1, 2, 4, 5, 6, 8, 9, 10] := fun hm => by rw [h9 i hm] at hun; cases hun
    have hi : i = 3 ∨ i = 7 ∨ i = 11 ∨ i = 12 ∨ i = 13 ∨ i = 14 ∨ i = 15 ∨ i = 16 ∨ i = 17 := by
      simp only [List.mem_cons, List.not_mem_nil, or_false, not_or] at hne
      omega
    rcases hi with rfl | rfl | rfl | rfl | rfl | rfl | rfl | rfl | rfl
    · refine tk_call (d := 19) (R := fun v w2 => v = tyV T1 ∧ Keeps [] w1 w2) rfl rfl (by rfl) 63 #[.pointer (some ⟨fb, fo, none⟩), .int .i64 x.dst] (exec_call2 rfl rfl rfl rfl (by go_simp)) ((H1.out w1 hk).mono fun e w2 h => ⟨_, h.1, rfl, h.2⟩) ?_
      rintro v w2 ⟨rfl, k2⟩
      exact ⟨by simpa using hsz, hk.quiet k2, ⟨v7, v8, v9, tyV T1, v23, v27, b7, b8, b9, rfl, (fun _ => rfl), (fun h => e7 (by rw [bit_ne false (by decide)] at h; exact h)), (fun h => e11 (by rw [bit_ne false (by decide)] at h; exact h)), m7.quiet k2 (by decide) (by decide), m8.quiet k2 (by decide) (by decide), m9.quiet k2 (by decide) (by decide), (fun h h' => n78 (by rw [bit_ne false (by decide)] at h; exact h) (by rw [bit_ne false (by decide)] at h'; exact h')), (fun h h' => n79 (by rw [bit_ne false (by decide)] at h; exact h) (by rw [bit_ne false (by decide)] at h'; exact h')), fun h h' => n89 (by rw [bit_ne false (by decide)] at h; exact h) (by rw [bit_ne false (by decide)] at h'; exact h')⟩, nine_set _ h9, ord_set _ o7 (fun e => by cases e), ord_set _ o8 (fun e => by cases e), ord_set _ o9 (fun e => by cases e)⟩
    · refine tk_call (d := 23) (R := fun v w2 => v = tyV T2 ∧ Keeps [] w1 w2) rfl rfl (by rfl) 63 #[.pointer (some ⟨fb, fo, none⟩), .int .i64 x.a] (exec_call2 rfl rfl rfl rfl (by go_simp)) ((H2.out w1 hk).mono fun e w2 h => ⟨_, h.1, rfl, h.2⟩) ?_
      rintro v w2 ⟨rfl, k2⟩
      exact ⟨by simpa using hsz, hk.quiet k2, ⟨v7, v8, v9, v19, tyV T2, v27, b7, b8, b9, rfl, (fun h => e3 (by rw [bit_ne false (by decide)] at h; exact h)), (fun _ => rfl), (fun h => e11 (by rw [bit_ne false (by decide)] at h; exact h)), m7.quiet k2 (by decide) (by decide), m8.quiet k2 (by decide) (by decide), m9.quiet k2 (by decide) (by decide), (fun h h' => n78 (by rw [bit_ne false (by decide)] at h; exact h) (by rw [bit_ne false (by decide)] at h'; exact h')), (fun h h' => n79 (by rw [bit_ne false (by decide)] at h; exact h) (by rw [bit_ne false (by decide)] at h'; exact h')), fun h h' => n89 (by rw [bit_ne false (by decide)] at h; exact h) (by rw [bit_ne false (by decide)] at h'; exact h')⟩, nine_set _ h9, ord_set _ o7 (fun e => by cases e), ord_set _ o8 (fun e => by cases e), ord_set _ o9 (fun e => by cases e)⟩
    · refine tk_call (d := 27) (R := fun v w2 => v = tyV T3 ∧ Keeps [] w1 w2) rfl rfl (by rfl) 63 #[.pointer (some ⟨fb, fo, none⟩), .int .i64 x.b] (exec_call2 rfl rfl rfl rfl (by go_simp)) ((H3.out w1 hk).mono fun e w2 h => ⟨_, h.1, rfl, h.2⟩) ?_
      rintro v w2 ⟨rfl, k2⟩
      exact ⟨by simpa using hsz, hk.quiet k2, ⟨v7, v8, v9, v19, v23, tyV T3, b7, b8, b9, rfl, (fun h => e3 (by rw [bit_ne false (by decide)] at h; exact h)), (fun h => e7 (by rw [bit_ne false (by decide)] at h; exact h)), (fun _ => rfl), m7.quiet k2 (by decide) (by decide), m8.quiet k2 (by decide) (by decide), m9.quiet k2 (by decide) (by decide), (fun h h' => n78 (by rw [bit_ne false (by decide)] at h; exact h) (by rw [bit_ne false (by decide)] at h'; exact h')), (fun h h' => n79 (by rw [bit_ne false (by decide)] at h; exact h) (by rw [bit_ne false (by decide)] at h'; exact h')), fun h h' => n89 (by rw [bit_ne false (by decide)] at h; exact h) (by rw [bit_ne false (by decide)] at h'; exact h')⟩, nine_set _ h9, ord_set _ o7 (fun e => by cases e), ord_set _ o8 (fun e => by cases e), ord_set _ o9 (fun e => by cases e)⟩
    · have hs0 : l.getD 15 false = false := by
        cases hb : l.getD 15 false with
        | false => rfl
        | true => exact absurd (o7 hb) (by rw [hf0]; simp)
      refine tk_run (v := .pointer (some ⟨w1.heap.size, 0, none⟩)) (w' := w1.alloc (.cells #[.int .i64 0, .int .i64 0] 39)) rfl (by rfl) (by kernel_rfl) ?_
      exact ⟨by simpa using hsz, hk.quiet (Keeps.alloc [] _ _), ⟨.pointer (some ⟨w1.heap.size, 0, none⟩), v8, v9, v19, v23, v27, w1.heap.size, b8, b9, rfl, (fun h => e3 (by rw [bit_ne false (by decide)] at h; exact h)), (fun h => e7 (by rw [bit_ne false (by decide)] at h; exact h)), (fun h => e11 (by rw [bit_ne false (by decide)] at h; exact h)), VarI.new hk hs0 (by decide), m8.quiet (Keeps.alloc [] _ _) (by decide) (by decide), m9.quiet (Keeps.alloc [] _ _) (by decide) (by decide), (fun h h' e => by have := m8.lt (by rw [bit_ne false (by decide)] at h'; exact h'); omega), (fun h h' e => by have := m9.lt (by rw [bit_ne false (by decide)] at h'; exact h'); omega), (fun h h' => n89 (by rw [bit_ne false (by decide)] at h; exact h) (by rw [bit_ne false (by decide)] at h'; exact h'))⟩, nine_set _ h9, ord_set _ o7 (fun e => by cases e), ord_set _ o8 (fun e => by cases e), ord_set _ o9 (fun e => by cases e)⟩
    · have hs0 : l.getD 16 false = false := by
        cases hb : l.getD 16 false with
        | false => rfl
        | true => exact absurd (o8 hb) (by rw [hf0]; simp)
      refine tk_run (v := .pointer (some ⟨w1.heap.size, 0, none⟩)) (w' := w1.alloc (.cells #[.int .i64 0, .int .i64 0] 39)) rfl (by rfl) (by kernel_rfl) ?_
      exact ⟨by simpa using hsz, hk.quiet (Keeps.alloc [] _ _), ⟨v7, .pointer (some ⟨w1.heap.size, 0, none⟩), v9, v19, v23, v27, b7, w1.heap.size, b9, rfl, (fun h => e3 (by rw [bit_ne false (by decide)] at h; exact h)), (fun h => e7 (by rw [bit_ne false (by decide)] at h; exact h)), (fun h => e11 (by rw [bit_ne false (by decide)] at h; exact h)), m7.quiet (Keeps.alloc [] _ _) (by decide) (by decide), VarI.new hk hs0 (by decide), m9.quiet (Keeps.alloc [] _ _) (by decide) (by decide), (fun h h' e => by have := m7.lt (by rw [bit_ne false (by decide)] at h; exact h); omega), (fun h h' => n79 (by rw [bit_ne false (by decide)] at h; exact h) (by rw [bit_ne false (by decide)] at h'; exact h')), (fun h h' e => by have := m9.lt (by rw [bit_ne false (by decide)] at h'; exact h'); omega)⟩, nine_set _ h9, ord_set _ o7 (fun e => by cases e), ord_set _ o8 (fun e => by cases e), ord_set _ o9 (fun e => by cases e)⟩
    · have hs0 : l.getD 17 false = false := by
        cases hb : l.getD 17 false with
        | false => rfl
        | true => exact absurd (o9 hb) (by rw [hf0]; simp)
      refine tk_run (v := .pointer (some ⟨w1.heap.size, 0, none⟩)) (w' := w1.alloc (.cells #[.int .i64 0, .int .i64 0] 39)) rfl (by rfl) (by kernel_rfl) ?_
      exact ⟨by simpa using hsz, hk.quiet (Keeps.alloc [] _ _), ⟨v7, v8, .pointer (some ⟨w1.heap.size, 0, none⟩), v19, v23, v27, b7, b8, w1.heap.size, rfl, (fun h => e3 (by rw [bit_ne false (by decide)] at h; exact h)), (fun h => e7 (by rw [bit_ne false (by decide)] at h; exact h)), (fun h => e11 (by rw [bit_ne false (by decide)] at h; exact h)), m7.quiet (Keeps.alloc [] _ _) (by decide) (by decide), m8.quiet (Keeps.alloc [] _ _) (by decide) (by decide), VarI.new hk hs0 (by decide), (fun h h' => n78 (by rw [bit_ne false (by decide)] at h; exact h) (by rw [bit_ne false (by decide)] at h'; exact h')), (fun h h' e => by have := m7.lt (by rw [bit_ne false (by decide)] at h; exact h); omega), (fun h h' e => by have := m8.lt (by rw [bit_ne false (by decide)] at h; exact h); omega)⟩, nine_set _ h9, ord_set _ o7 (fun e => by cases e), ord_set _ o8 (fun e => by cases e), ord_set _ o9 (fun e => by cases e)⟩
    · have hm := ready_after hr 12 (by kernel_rfl)
      have hc := ready_after hr 3 (by kernel_rfl)
      obtain ⟨hv, hge, hty⟩ := m7 hm
      have hT := e3 hc
      subst hv hT
      have z0 := hfrozen hty 0
      have z1 := hfrozen hty 1
      have c0 := hcell hty 0
      have c1 := hcell hty 1
      refine tk_skip (w' := (w1.setCell ⟨b7, 0, none⟩ (.int .i64 T1.1)).setCell ⟨b7, 1, none⟩ (.int .i64 T1.2)) rfl (by rfl) (stv hty rfl rfl rfl) ?_
      exact ⟨by simpa using hsz, hk.trans (keeps2 _ b7 _ _) (fun x hx hl => by simp at hx; omega), ⟨.pointer (some ⟨b7, 0, none⟩), v8, v9, tyV T1, v23, v27, b7, b8, b9, rfl, (fun _ => rfl), (fun h => e7 (by rw [bit_ne false (by decide)] at h; exact h)), (fun h => e11 (by rw [bit_ne false (by decide)] at h; exact h)), m7.put (by omega) (by decide), m8.far (fun h e => n78 hm h e.symm) (by decide) (by decide), m9.far (fun h e => n79 hm h e.symm) (by decide) (by decide), (fun h h' => n78 (by rw [bit_ne false (by decide)] at h; exact h) (by rw [bit_ne false (by decide)] at h'; exact h')), (fun h h' => n79 (by rw [bit_ne false (by decide)] at h; exact h) (by rw [bit_ne false (by decide)] at h'; exact h')), (fun h h' => n89 (by rw [bit_ne false (by decide)] at h; exact h) (by rw [bit_ne false (by decide)] at h'; exact h'))⟩, nine_set _ h9, ord_set _ o7 (fun _ => hm), ord_set _ o8 (fun e => by cases e), ord_set _ o9 (fun e => by cases e)⟩
    · have hm := ready_after hr 13 (by kernel_rfl)
      have hc := ready_after hr 7 (by kernel_rfl)
      obtain ⟨hv, hge, hty⟩ := m8 hm
      have hT := e7 hc
      subst hv hT
      have z0 := hfrozen hty 0
      have z1 := hfrozen hty 1
      have c0 := hcell hty 0
      have c1 := hcell hty 1
      refine tk_skip (w' := (w1.setCell ⟨b8, 0, none⟩ (.int .i64 T2.1)).setCell ⟨b8, 1, none⟩ (.int .i64 T2.2)) rfl (by rfl) (stv hty rfl rfl rfl) ?_
      exact ⟨by simpa using hsz, hk.trans (keeps2 _ b8 _ _) (fun x hx hl => by simp at hx; omega), ⟨v7, .pointer (some ⟨b8, 0, none⟩), v9, v19, tyV T2, v27, b7, b8, b9, rfl, (fun h => e3 (by rw [bit_ne false (by decide)] at h; exact h)), (fun _ => rfl), (fun h => e11 (by rw [bit_ne false (by decide)] at h; exact h)), m7.far (fun h => n78 h hm) (by decide) (by decide), m8.put (by omega) (by decide), m9.far (fun h e => n89 hm h e.symm) (by decide) (by decide), (fun h h' => n78 (by rw [bit_ne false (by decide)] at h; exact h) (by rw [bit_ne false (by decide)] at h'; exact h')), (fun h h' => n79 (by rw [bit_ne false (by decide)] at h; exact h) (by rw [bit_ne false (by decide)] at h'; exact h')), (fun h h' => n89 (by rw [bit_ne false (by decide)] at h; exact h) (by rw [bit_ne false (by decide)] at h'; exact h'))⟩, nine_set _ h9, ord_set _ o7 (fun e => by cases e), ord_set _ o8 (fun _ => hm), ord_set _ o9 (fun e => by cases e)⟩
    · have hm := ready_after hr 14 (by kernel_rfl)
      have hc := ready_after hr 11 (by kernel_rfl)
      obtain ⟨hv, hge, hty⟩ := m9 hm
      have hT := e11 hc
      subst hv hT
      have z0 := hfrozen hty 0
      have z1 := hfrozen hty 1
      have c0 := hcell hty 0
      have c1 := hcell hty 1
      refine tk_skip (w' := (w1.setCell ⟨b9, 0, none⟩ (.int .i64 T3.1)).setCell ⟨b9, 1, none⟩ (.int .i64 T3.2)) rfl (by rfl) (stv hty rfl rfl rfl) ?_
      exact ⟨by simpa using hsz, hk.trans (keeps2 _ b9 _ _) (fun x hx hl => by simp at hx; omega), ⟨v7, v8, .pointer (some ⟨b9, 0, none⟩), v19, v23, tyV T3, b7, b8, b9, rfl, (fun h => e3 (by rw [bit_ne false (by decide)] at h; exact h)), (fun h => e7 (by rw [bit_ne false (by decide)] at h; exact h)), (fun _ => rfl), m7.far (fun h => n79 h hm) (by decide) (by decide), m8.far (fun h => n89 h hm) (by decide) (by decide), m9.put (by omega) (by decide), (fun h h' => n78 (by rw [bit_ne false (by decide)] at h; exact h) (by rw [bit_ne false (by decide)] at h'; exact h')), (fun h h' => n79 (by rw [bit_ne false (by decide)] at h; exact h) (by rw [bit_ne false (by decide)] at h'; exact h')), (fun h h' => n89 (by rw [bit_ne false (by decide)] at h; exact h) (by rw [bit_ne false (by decide)] at h'; exact h'))⟩, nine_set _ h9, ord_set _ o7 (fun e => by cases e), ord_set _ o8 (fun e => by cases e), ord_set _ o9 (fun _ => hm)⟩
  case hd =>
    rintro l a w1 ⟨hsz, hk, ⟨v7, v8, v9, v19, v23, v27, b7, b8, b9, rfl, e3, e7, e11, m7, m8, m9, -, -, -⟩, -, -, -, -⟩ hr
    have hall := all_listed hsz hr (by kernel_rfl)
    obtain ⟨hv7, -, t7⟩ := m7 (hall 12 (by decide))
    obtain ⟨hv8, -, t8⟩ := m8 (hall 13 (by decide))
    obtain ⟨hv9, -, t9⟩ := m9 (hall 14 (by decide))
    rw [hall 15 (by decide)] at t7
    rw [hall 16 (by decide)] at t8
    rw [hall 17 (by decide)] at t9
    have hv19 := e3 (hall 3 (by decide))
    have hv23 := e7 (hall 7 (by decide))
    have hv27 := e11 (hall 11 (by decide))
    subst hv7 hv8 hv9 hv19 hv23 hv27
    have T7 : Box (TyAt w1 b7 T1) := hid t7
    have T8 : Box (TyAt w1 b8 T2) := hid t8
    have T9 : Box (TyAt w1 b9 T3) := hid t9
    have K1 := hid (KA.out.quiet hk)
    have h5 := keep_heap HN.out hk
    have i0 := hcell h5 0
    have HI5 := hid h5
    clear hall m7 m8 m9 e3 e7 e11 hsz hr l t7 t8 t9 h5 ld stv HD0 IN H1 H2 H3 HN hk
    have s0 := hcell T7.out 0
    have s1 := hcell T7.out 1
    have p0 := hcell T8.out 0
    have p1 := hcell T8.out 1
    have r0 := hcell T9.out 0
    have r1 := hcell T9.out 1
    try simp only [HT1.out, HT2.out, HT3.out] at HRES
    by_cases g2 : T2.1 = 0
    · by_cases g3 : T3.1 = 0
      · have HE : Box (RES = (T1.1 == 0)) := hid (by rw [HRES.out, g2, g3]; rfl)
        have o2 := neqb g2
        have o3 := neqb g3
        clear HRES g2 g3
        go_wp2_with fail
        go_ret
        exact ⟨by rw [HE.out]; rfl, K1.out⟩
      · have HE : Box (RES = false) := hid (by rw [HRES.out, neb g3]; simp)
        have o2 := neqb g2
        have o3 := nneb g3
        clear HRES g2 g3
        go_wp2_with fail
        go_ret
        exact ⟨by rw [HE.out]; rfl, K1.out⟩
    · have HE : Box (RES = false) := hid (by rw [HRES.out, neb g2]; simp)
      have o2 := nneb g2
      clear HRES g2
      go_wp2_with fail
      go_ret
      exact ⟨by rw [HE.out]; rfl, K1.out⟩
set_option maxRecDepth 20000 in
set_option maxHeartbeats 8000000 in
theorem fit_6 {w : World} {pb po fb fo : Nat} {f : Fu8} (hf : FuC w fb fo f) (x : In8) (ar : Value) (hop : x.op = 6) : Calls Tryd.prog 32 #[.pointer (some ⟨pb, po, none⟩), .pointer (some ⟨fb, fo, none⟩), insV x ar] w fun e w' => e = .returned (.bool (tyE (regT f x.dst) (regT f x.a))) ∧ Keeps [] w w' := by
  have ka := Keeps.alloc [] w (.cells #[.int .i64 x.op, .int .i64 x.dst, .int .i64 x.a, .int .i64 x.b, .int .i64 x.n, ar] 54)
  have hn := heap_new w (.cells #[.int .i64 x.op, .int .i64 x.dst, .int .i64 x.a, .int .i64 x.b, .int .i64 x.n, ar] 54)
  have HRT := hid fun (r : Int) (w' : World) (k : Keeps [] w w') => regtype_any (FuC.stays _ _ _ _ _ k hf) r
  have KA := hid ka
  have HN := hid hn
  clear hf ka hn
  unfold insV
  rw [hop] at KA HN ⊢
  go_enter Tryd.func32, Tryd.ntmps32
  go_upto_region 1 with fail
  generalize w.alloc (.cells #[.int .i64 6, .int .i64 x.dst, .int .i64 x.a, .int .i64 x.b, .int .i64 x.n, ar] 54) = WA at *
  generalize w.heap.size = q at *
  have IN : Box (∀ w', Keeps [] WA w' → w'.cell? ⟨q, 1, none⟩ = some (.int .i64 x.dst) ∧ w'.cell? ⟨q, 2, none⟩ = some (.int .i64 x.a) ∧ w'.cell? ⟨q, 3, none⟩ = some (.int .i64 x.b)) := hid fun w' k => by
    have := keep_heap HN.out k
    exact ⟨hcell this 1, hcell this 2, hcell this 3⟩
  have H1 := hid fun (w' : World) (k : Keeps [] WA w') => HRT.out x.dst w' (KA.out.quiet k)
  have H2 := hid fun (w' : World) (k : Keeps [] WA w') => HRT.out x.a w' (KA.out.quiet k)
  have H3 := hid fun (w' : World) (k : Keeps [] WA w') => HRT.out x.b w' (KA.out.quiet k)
  have HD0 := hid (Keeps.drew [] WA)
  have ld : ∀ {w' : World} {ad : Addr} {v : Value} {ev : Operand → Value} {oi : Oper} {y : Operand}, w'.cell? ad = some v → oi.op = .load 3 y → ev y = .pointer (some ad) → (execOp ev oi).run Tryd.prog w' = .ok (.value v) w' := fun hc ho hy => by
    simp [execOp, ho, hy, go_sem, hc]
  have stv : ∀ {w1 : World} {b : Nat} {t t' : Int × Int} {ev : Operand → Value} {oi : Oper} {y z : Operand}, TyAt w1 b t → oi.op = .store 39 y z → ev y = .pointer (some ⟨b, 0, none⟩) → ev z = tyV t' → (execOp ev oi).run Tryd.prog w1 = .ok .skip ((w1.setCell ⟨b, 0, none⟩ (.int .i64 t'.1)).setCell ⟨b, 1, none⟩ (.int .i64 t'.2)) := fun {w1 b t t' ev oi y z} hty ho hy hz => by
    have z0 := hfrozen hty 0
    have z1 := hfrozen hty 1
    have c0 := hcell hty 0
    have c1 := hcell hty 1
    simp [execOp, ho, hy, hz, go_sem, z0, z1, c0, c1]
  generalize hT1 : regT f x.dst = T1 at *
  generalize hT2 : regT f x.a = T2 at *
  generalize hT3 : regT f x.b = T3 at *
  have HT1 := hid hT1
  have HT2 := hid hT2
  have HT3 := hid hT3
  clear hT1 hT2 hT3
  refine wp_region_held_drew (S := fun w' => Keeps [] WA w') (by kernel_rfl) HD0.out (fun _ => ?_)
  refine tk_yield (i := 0) (d := 16) (v := .pointer (some ⟨fb, fo, none⟩)) rfl rfl (by as_aux_lemma => kernel_rfl) (by as_aux_lemma => kernel_rfl) (by as_aux_lemma => kernel_rfl) (fun _ _ _ h => h) (by rfl) HD0.out (fun _ _ => rfl) ?_
  simp only [Act.put, List.setIfInBounds_toArray, List.set_cons_zero, List.set_cons_succ]
  refine tk_yield (i := 1) (d := 17) (v := .pointer (some ⟨q, 1, none⟩)) rfl rfl (by as_aux_lemma => kernel_rfl) (by as_aux_lemma => kernel_rfl) (by as_aux_lemma => kernel_rfl) (fun _ _ _ h => h) (by rfl) HD0.out (fun _ _ => rfl) ?_
  simp only [Act.put, List.setIfInBounds_toArray, List.set_cons_zero, List.set_cons_succ]
  refine tk_yield (i := 2) (d := 18) (v := .int .i64 x.dst) rfl rfl (by as_aux_lemma => kernel_rfl) (by as_aux_lemma => kernel_rfl) (by as_aux_lemma => kernel_rfl) (fun _ _ _ h => h) (by rfl) HD0.out (fun w' k => ld (IN.out w' k).1 rfl rfl) ?_
  simp only [Act.put, List.setIfInBounds_toArray, List.set_cons_zero, List.set_cons_succ]
  refine tk_yield (i := 4) (d := 20) (v := .pointer (some ⟨fb, fo, none⟩)) rfl rfl (by as_aux_lemma => kernel_rfl) (by as_aux_lemma => kernel_rfl) (by as_aux_lemma => kernel_rfl) (fun _ _ _ h => h) (by rfl) HD0.out (fun _ _ => rfl) ?_
  simp only [Act.put, List.setIfInBounds_toArray, List.set_cons_zero, List.set_cons_succ]
  refine tk_yield (i := 5) (d := 21) (v := .pointer (some ⟨q, 2, none⟩)) rfl rfl (by as_aux_lemma => kernel_rfl) (by as_aux_lemma => kernel_rfl) (by as_aux_lemma => kernel_rfl) (fun _ _ _ h => h) (by rfl) HD0.out (fun _ _ => rfl) ?_
  simp only [Act.put, List.setIfInBounds_toArray, List.set_cons_zero, List.set_cons_succ]
  refine tk_yield (i := 6) (d := 22) (v := .int .i64 x.a) rfl rfl (by as_aux_lemma => kernel_rfl) (by as_aux_lemma => kernel_rfl) (by as_aux_lemma => kernel_rfl) (fun _ _ _ h => h) (by rfl) HD0.out (fun w' k => ld (IN.out w' k).2.1 rfl rfl) ?_
  simp only [Act.put, List.setIfInBounds_toArray, List.set_cons_zero, List.set_cons_succ]
  refine tk_yield (i := 8) (d := 24) (v := .pointer (some ⟨fb, fo, none⟩)) rfl rfl (by as_aux_lemma => kernel_rfl) (by as_aux_lemma => kernel_rfl) (by as_aux_lemma => kernel_rfl) (fun _ _ _ h => h) (by rfl) HD0.out (fun _ _ => rfl) ?_
  simp only [Act.put, List.setIfInBounds_toArray, List.set_cons_zero, List.set_cons_succ]
  refine tk_yield (i := 9) (d := 25) (v := .pointer (some ⟨q, 3, none⟩)) rfl rfl (by as_aux_lemma => kernel_rfl) (by as_aux_lemma => kernel_rfl) (by as_aux_lemma => kernel_rfl) (fun _ _ _ h => h) (by rfl) HD0.out (fun _ _ => rfl) ?_
  simp only [Act.put, List.setIfInBounds_toArray, List.set_cons_zero, List.set_cons_succ]
  refine tk_yield (i := 10) (d := 26) (v := .int .i64 x.b) rfl rfl (by as_aux_lemma => kernel_rfl) (by as_aux_lemma => kernel_rfl) (by as_aux_lemma => kernel_rfl) (fun _ _ _ h => h) (by rfl) HD0.out (fun w' k => ld (IN.out w' k).2.2 rfl rfl) ?_
  simp only [Act.put, List.setIfInBounds_toArray, List.set_cons_zero, List.set_cons_succ]
  refine wpAnyH_inv (ThreeI WA (fun v7 v8 v9 v19 v23 v27 => ({ tmps := List.toArray ((.pointer (some ⟨pb, po, none⟩) : Value) :: (.pointer (some ⟨fb, fo, none⟩) : Value) :: (.agg #[.int .i64 6, .int .i64 x.dst, .int .i64 x.a, .int .i64 x.b, .int .i64 x.n, ar] : Value) :: (undef : Value) :: (undef : Value) :: (.pointer (some ⟨q, 0, none⟩) : Value) :: (.bool false : Value) :: (v7 : Value) :: (v8 : Value) :: (v9 : Value) :: (undef : Value) :: (undef : Value) :: (undef : Value) :: (undef : Value) :: (undef : Value) :: (undef : Value) :: (.pointer (some ⟨fb, fo, none⟩) : Value) :: (.pointer (some ⟨q, 1, none⟩) : Value) :: (.int .i64 x.dst : Value) :: (v19 : Value) :: (.pointer (some ⟨fb, fo, none⟩) : Value) :: (.pointer (some ⟨q, 2, none⟩) : Value) :: (.int .i64 x.a : Value) :: (v23 : Value) :: (.pointer (some ⟨fb, fo, none⟩) : Value) :: (.pointer (some ⟨q, 3, none⟩) : Value) :: (.int .i64 x.b : Value) :: (v27 : Value) :: (undef : Value) :: (undef : Value) :: (undef : Value) :: (undef : Value) :: (undef : Value) :: (undef : Value) :: (undef : Value) :: (undef : Value) :: (undef : Value) :: (undef : Value) :: (undef : Value) :: (undef : Value) :: (undef : Value) :: (undef : Value) :: (undef : Value) :: (undef : Value) :: (undef : Value) :: (undef : Value) :: (undef : Value) :: (undef : Value) :: (undef : Value) :: (undef : Value) :: (undef : Value) :: (undef : Value) :: (undef : Value) :: (undef : Value) :: (undef : Value) :: (undef : Value) :: (undef : Value) :: (undef : Value) :: (undef : Value) :: (undef : Value) :: (undef : Value) :: (undef : Value) :: (undef : Value) :: (undef : Value) :: (undef : Value) :: (undef : Value) :: (undef : Value) :: (undef : Value) :: (undef : Value) :: (undef : Value) :: (undef : Value) :: (undef : Value) :: (undef : Value) :: (undef : Value) :: (undef : Value) :: (undef : Value) :: (undef : Value) :: (undef : Value) :: (undef : Value) :: (undef : Value) :: (undef : Value) :: (undef : Value) :: (undef : Value) :: (undef : Value) :: (undef : Value) :: (undef : Value) :: (undef : Value) :: (undef : Value) :: (undef : Value) :: (undef : Value) :: (undef : Value) :: (undef : Value) :: (undef : Value) :: (undef : Value) :: (undef : Value) :: (undef : Value) :: (undef : Value) :: (undef : Value) :: (undef : Value) :: (undef : Value) :: (undef : Value) :: (undef : Value) :: (undef : Value) :: (undef : Value) :: (undef : Value) :: (undef : Value) :: (undef : Value) :: (undef : Value) :: (undef : Value) :: (undef : Value) :: (undef : Value) :: (undef : Value) :: (undef : Value) :: (undef : Value) :: (undef : Value) :: (undef : Value) :: (undef : Value) :: (undef : Value) :: (undef : Value) :: (undef : Value) :: (undef : Value) :: (undef : Value) :: (undef : Value) :: (undef : Value) :: (undef : Value) :: (undef : Value) :: (undef : Value) :: (undef : Value) :: (undef : Value) :: (undef : Value) :: (undef : Value) :: (undef : Value) :: (undef : Value) :: (undef : Value) :: (undef : Value) :: (undef : Value) :: (undef : Value) :: (undef : Value) :: (undef : Value) :: (undef : Value) :: (undef : Value) :: (undef : Value) :: (undef : Value) :: (undef : Value) :: (undef : Value) :: (undef : Value) :: (undef : Value) :: (undef : Value) :: (undef : Value) :: (undef : Value) :: (undef : Value) :: (undef : Value) :: (undef : Value) :: (undef : Value) :: (undef : Value) :: (undef : Value) :: (undef : Value) :: (undef : Value) :: (undef : Value) :: (undef : Value) :: (undef : Value) :: (undef : Value) :: (undef : Value) :: (undef : Value) :: (undef : Value) :: (undef : Value) :: (undef : Value) :: (undef : Value) :: (undef : Value) :: (undef : Value) :: (undef : Value) :: []), defers := [] } : Act)) T1 T2 T3) (fun _ _ _ h => h.kept) ?hd ?hstep _ _ _ _ ?start ?fin
  case fin => exact Nat.le_of_ble_eq_true (by kernel_rfl)
  case start =>
    exact ⟨rfl, HD0.out, ⟨undef, undef, undef, undef, undef, undef, 0, 0, 0, rfl, (fun h => by cases h), (fun h => by cases h), (fun h => by cases h), (fun h => by cases h), (fun h => by cases h), (fun h => by cases h), (fun h => by cases h), (fun h => by cases h), fun h => by cases h⟩, by decide, (fun h => by cases h), (fun h => by cases h), fun h => by cases h⟩
  case hstep =>
    rintro l a w1 i ⟨hsz, hk, ⟨v7, v8, v9, v19, v23, v27, b7, b8, b9, rfl, e3, e7, e11, m7, m8, m9, n78, n79, n89⟩, h9, o7, o8, o9⟩ hr
    have hun := (mem_ready.1 hr).1
    have hf0 := false_of_true hun
    have hlt : i < 18 := ready_lt hr
    have hne : i ∉ [0, 1, 2, 4, 5, 6, 8, 9, 10] := fun hm => by rw [h9 i hm] at hun; cases hun
    have hi : i = 3 ∨ i = 7 ∨ i = 11 ∨ i = 12 ∨ i = 13 ∨ i = 14 ∨ i = 15 ∨ i = 16 ∨ i = 17 := by
      simp only [List.mem_cons, List.not_mem_nil, or_false, not_or] at hne
      omega
    rcases hi with rfl | rfl | rfl | rfl | rfl | rfl | rfl | rfl | rfl
    · refine tk_call (d := 19) (R := fun v w2 => v = tyV T1 ∧ Keeps [] w1 w2) rfl rfl (by rfl) 63 #[.pointer (some ⟨fb, fo, none⟩), .int .i64 x.dst] (exec_call2 rfl rfl rfl rfl (by go_simp)) ((H1.out w1 hk).mono fun e w2 h => ⟨_, h.1, rfl, h.2⟩) ?_
      rintro v w2 ⟨rfl, k2⟩
      exact ⟨by simpa using hsz, hk.quiet k2, ⟨v7, v8, v9, tyV T1, v23, v27, b7, b8, b9, rfl, (fun _ => rfl), (fun h => e7 (by rw [bit_ne false (by decide)] at h; exact h)), (fun h => e11 (by rw [bit_ne false (by decide)] at h; exact h)), m7.quiet k2 (by decide) (by decide), m8.quiet k2 (by decide) (by decide), m9.quiet k2 (by decide) (by decide), (fun h h' => n78 (by rw [bit_ne false (by decide)] at h; exact h) (by rw [bit_ne false (by decide)] at h'; exact h')), (fun h h' => n79 (by rw [bit_ne false (by decide)] at h; exact h) (by rw [bit_ne false (by decide)] at h'; exact h')), fun h h' => n89 (by rw [bit_ne false (by decide)] at h; exact h) (by rw [bit_ne false (by decide)] at h'; exact h')⟩, nine_set _ h9, ord_set _ o7 (fun e => by cases e), ord_set _ o8 (fun e => by cases e), ord_set _ o9 (fun e => by cases e)⟩
    · refine tk_call (d := 23) (R := fun v w2 => v = tyV T2 ∧ Keeps [] w1 w2) rfl rfl (by rfl) 63 #[.pointer (some ⟨fb, fo, none⟩), .int .i64 x.a] (exec_call2 rfl rfl rfl rfl (by go_simp)) ((H2.out w1 hk).mono fun e w2 h => ⟨_, h.1, rfl, h.2⟩) ?_
      rintro v w2 ⟨rfl, k2⟩
      exact ⟨by simpa using hsz, hk.quiet k2, ⟨v7, v8, v9, v19, tyV T2, v27, b7, b8, b9, rfl, (fun h => e3 (by rw [bit_ne false (by decide)] at h; exact h)), (fun _ => rfl), (fun h => e11 (by rw [bit_ne false (by decide)] at h; exact h)), m7.quiet k2 (by decide) (by decide), m8.quiet k2 (by decide) (by decide), m9.quiet k2 (by decide) (by decide), (fun h h' => n78 (by rw [bit_ne false (by decide)] at h; exact h) (by rw [bit_ne false (by decide)] at h'; exact h')), (fun h h' => n79 (by rw [bit_ne false (by decide)] at h; exact h) (by rw [bit_ne false (by decide)] at h'; exact h')), fun h h' => n89 (by rw [bit_ne false (by decide)] at h; exact h) (by rw [bit_ne false (by decide)] at h'; exact h')⟩, nine_set _ h9, ord_set _ o7 (fun e => by cases e), ord_set _ o8 (fun e => by cases e), ord_set _ o9 (fun e => by cases e)⟩
    · refine tk_call (d := 27) (R := fun v w2 => v = tyV T3 ∧ Keeps [] w1 w2) rfl rfl (by rfl) 63 #[.pointer (some ⟨fb, fo, none⟩), .int .i64 x.b] (exec_call2 rfl rfl rfl rfl (by go_simp)) ((H3.out w1 hk).mono fun e w2 h => ⟨_, h.1, rfl, h.2⟩) ?_
      rintro v w2 ⟨rfl, k2⟩
      exact ⟨by simpa using hsz, hk.quiet k2, ⟨v7, v8, v9, v19, v23, tyV T3, b7, b8, b9, rfl, (fun h => e3 (by rw [bit_ne false (by decide)] at h; exact h)), (fun h => e7 (by rw [bit_ne false (by decide)] at h; exact h)), (fun _ => rfl), m7.quiet k2 (by decide) (by decide), m8.quiet k2 (by decide) (by decide), m9.quiet k2 (by decide) (by decide), (fun h h' => n78 (by rw [bit_ne false (by decide)] at h; exact h) (by rw [bit_ne false (by decide)] at h'; exact h')), (fun h h' => n79 (by rw [bit_ne false (by decide)] at h; exact h) (by rw [bit_ne false (by decide)] at h'; exact h')), fun h h' => n89 (by rw [bit_ne false (by decide)] at h; exact h) (by rw [bit_ne false (by decide)] at h'; exact h')⟩, nine_set _ h9, ord_set _ o7 (fun e => by cases e), ord_set _ o8 (fun e => by cases e), ord_set _ o9 (fun e => by cases e)⟩
    · have hs0 : l.getD 15 false = false := by
        cases hb : l.getD 15 false with
        | false => rfl
        | true => exact absurd (o7 hb) (by rw [hf0]; simp)
      refine tk_run (v := .pointer (some ⟨w1.heap.size, 0, none⟩)) (w' := w1.alloc (.cells #[.int .i64 0, .int .i64 0] 39)) rfl (by rfl) (by kernel_rfl) ?_
      exact ⟨by simpa using hsz, hk.quiet (Keeps.alloc [] _ _), ⟨.pointer (some ⟨w1.heap.size, 0, none⟩), v8, v9, v19, v23, v27, w1.heap.size, b8, b9, rfl, (fun h => e3 (by rw [bit_ne false (by decide)] at h; exact h)), (fun h => e7 (by rw [bit_ne false (by decide)] at h; exact h)), (fun h => e11 (by rw [bit_ne false (by decide)] at h; exact h)), VarI.new hk hs0 (by decide), m8.quiet (Keeps.alloc [] _ _) (by decide) (by decide), m9.quiet (Keeps.alloc [] _ _) (by decide) (by decide), (fun h h' e => by have := m8.lt (by rw [bit_ne false (by decide)] at h'; exact h'); omega), (fun h h' e => by have := m9.lt (by rw [bit_ne false (by decide)] at h'; exact h'); omega), (fun h h' => n89 (by rw [bit_ne false (by decide)] at h; exact h) (by rw [bit_ne false (by decide)] at h'; exact h'))⟩, nine_set _ h9, ord_set _ o7 (fun e => by cases e), ord_set _ o8 (fun e => by cases e), ord_set _ o9 (fun e => by cases e)⟩
    · have hs0 : l.getD 16 false = false := by
        cases hb : l.getD 16 false with
        | false => rfl
        | true => exact absurd (o8 hb) (by rw [hf0]; simp)
      refine tk_run (v := .pointer (some ⟨w1.heap.size, 0, none⟩)) (w' := w1.alloc (.cells #[.int .i64 0, .int .i64 0] 39)) rfl (by rfl) (by kernel_rfl) ?_
      exact ⟨by simpa using hsz, hk.quiet (Keeps.alloc [] _ _), ⟨v7, .pointer (some ⟨w1.heap.size, 0, none⟩), v9, v19, v23, v27, b7, w1.heap.size, b9, rfl, (fun h => e3 (by rw [bit_ne false (by decide)] at h; exact h)), (fun h => e7 (by rw [bit_ne false (by decide)] at h; exact h)), (fun h => e11 (by rw [bit_ne false (by decide)] at h; exact h)), m7.quiet (Keeps.alloc [] _ _) (by decide) (by decide), VarI.new hk hs0 (by decide), m9.quiet (Keeps.alloc [] _ _) (by decide) (by decide), (fun h h' e => by have := m7.lt (by rw [bit_ne false (by decide)] at h; exact h); omega), (fun h h' => n79 (by rw [bit_ne false (by decide)] at h; exact h) (by rw [bit_ne false (by decide)] at h'; exact h')), (fun h h' e => by have := m9.lt (by rw [bit_ne false (by decide)] at h'; exact h'); omega)⟩, nine_set _ h9, ord_set _ o7 (fun e => by cases e), ord_set _ o8 (fun e => by cases e), ord_set _ o9 (fun e => by cases e)⟩
    · have hs0 : l.getD 17 false = false := by
        cases hb : l.getD 17 false with
        | false => rfl
        | true => exact absurd (o9 hb) (by rw [hf0]; simp)
      refine tk_run (v := .pointer (some ⟨w1.heap.size, 0, none⟩)) (w' := w1.alloc (.cells #[.int .i64 0, .int .i64 0] 39)) rfl (by rfl) (by kernel_rfl) ?_
      exact ⟨by simpa using hsz, hk.quiet (Keeps.alloc [] _ _), ⟨v7, v8, .pointer (some ⟨w1.heap.size, 0, none⟩), v19, v23, v27, b7, b8, w1.heap.size, rfl, (fun h => e3 (by rw [bit_ne false (by decide)] at h; exact h)), (fun h => e7 (by rw [bit_ne false (by decide)] at h; exact h)), (fun h => e11 (by rw [bit_ne false (by decide)] at h; exact h)), m7.quiet (Keeps.alloc [] _ _) (by decide) (by decide), m8.quiet (Keeps.alloc [] _ _) (by decide) (by decide), VarI.new hk hs0 (by decide), (fun h h' => n78 (by rw [bit_ne false (by decide)] at h; exact h) (by rw [bit_ne false (by decide)] at h'; exact h')), (fun h h' e => by have := m7.lt (by rw [bit_ne false (by decide)] at h; exact h); omega), (fun h h' e => by have := m8.lt (by rw [bit_ne false (by decide)] at h; exact h); omega)⟩, nine_set _ h9, ord_set _ o7 (fun e => by cases e), ord_set _ o8 (fun e => by cases e), ord_set _ o9 (fun e => by cases e)⟩
    · have hm := ready_after hr 12 (by kernel_rfl)
      have hc := ready_after hr 3 (by kernel_rfl)
      obtain ⟨hv, hge, hty⟩ := m7 hm
      have hT := e3 hc
      subst hv hT
      have z0 := hfrozen hty 0
      have z1 := hfrozen hty 1
      have c0 := hcell hty 0
      have c1 := hcell hty 1
      refine tk_skip (w' := (w1.setCell ⟨b7, 0, none⟩ (.int .i64 T1.1)).setCell ⟨b7, 1, none⟩ (.int .i64 T1.2)) rfl (by rfl) (stv hty rfl rfl rfl) ?_
      exact ⟨by simpa using hsz, hk.trans (keeps2 _ b7 _ _) (fun x hx hl => by simp at hx; omega), ⟨.pointer (some ⟨b7, 0, none⟩), v8, v9, tyV T1, v23, v27, b7, b8, b9, rfl, (fun _ => rfl), (fun h => e7 (by rw [bit_ne false (by decide)] at h; exact h)), (fun h => e11 (by rw [bit_ne false (by decide)] at h; exact h)), m7.put (by omega) (by decide), m8.far (fun h e => n78 hm h e.symm) (by decide) (by decide), m9.far (fun h e => n79 hm h e.symm) (by decide) (by decide), (fun h h' => n78 (by rw [bit_ne false (by decide)] at h; exact h) (by rw [bit_ne false (by decide)] at h'; exact h')), (fun h h' => n79 (by rw [bit_ne false (by decide)] at h; exact h) (by rw [bit_ne false (by decide)] at h'; exact h')), (fun h h' => n89 (by rw [bit_ne false (by decide)] at h; exact h) (by rw [bit_ne false (by decide)] at h'; exact h'))⟩, nine_set _ h9, ord_set _ o7 (fun _ => hm), ord_set _ o8 (fun e => by cases e), ord_set _ o9 (fun e => by cases e)⟩
    · have hm := ready_after hr 13 (by kernel_rfl)
      have hc := ready_after hr 7 (by kernel_rfl)
      obtain ⟨hv, hge, hty⟩ := m8 hm
      have hT := e7 hc
      subst hv hT
      have z0 := hfrozen hty 0
      have z1 := hfrozen hty 1
      have c0 := hcell hty 0
      have c1 := hcell hty 1
      refine tk_skip (w' := (w1.setCell ⟨b8, 0, none⟩ (.int .i64 T2.1)).setCell ⟨b8, 1, none⟩ (.int .i64 T2.2)) rfl (by rfl) (stv hty rfl rfl rfl) ?_
      exact ⟨by simpa using hsz, hk.trans (keeps2 _ b8 _ _) (fun x hx hl => by simp at hx; omega), ⟨v7, .pointer (some ⟨b8, 0, none⟩), v9, v19, tyV T2, v27, b7, b8, b9, rfl, (fun h => e3 (by rw [bit_ne false (by decide)] at h; exact h)), (fun _ => rfl), (fun h => e11 (by rw [bit_ne false (by decide)] at h; exact h)), m7.far (fun h => n78 h hm) (by decide) (by decide), m8.put (by omega) (by decide), m9.far (fun h e => n89 hm h e.symm) (by decide) (by decide), (fun h h' => n78 (by rw [bit_ne false (by decide)] at h; exact h) (by rw [bit_ne false (by decide)] at h'; exact h')), (fun h h' => n79 (by rw [bit_ne false (by decide)] at h; exact h) (by rw [bit_ne false (by decide)] at h'; exact h')), (fun h h' => n89 (by rw [bit_ne false (by decide)] at h; exact h) (by rw [bit_ne false (by decide)] at h'; exact h'))⟩, nine_set _ h9, ord_set _ o7 (fun e => by cases e), ord_set _ o8 (fun _ => hm), ord_set _ o9 (fun e => by cases e)⟩
    · have hm := ready_after hr 14 (by kernel_rfl)
      have hc := ready_after hr 11 (by kernel_rfl)
      obtain ⟨hv, hge, hty⟩ := m9 hm
      have hT := e11 hc
      subst hv hT
      have z0 := hfrozen hty 0
      have z1 := hfrozen hty 1
      have c0 := hcell hty 0
      have c1 := hcell hty 1
      refine tk_skip (w' := (w1.setCell ⟨b9, 0, none⟩ (.int .i64 T3.1)).setCell ⟨b9, 1, none⟩ (.int .i64 T3.2)) rfl (by rfl) (stv hty rfl rfl rfl) ?_
      exact ⟨by simpa using hsz, hk.trans (keeps2 _ b9 _ _) (fun x hx hl => by simp at hx; omega), ⟨v7, v8, .pointer (some ⟨b9, 0, none⟩), v19, v23, tyV T3, b7, b8, b9, rfl, (fun h => e3 (by rw [bit_ne false (by decide)] at h; exact h)), (fun h => e7 (by rw [bit_ne false (by decide)] at h; exact h)), (fun _ => rfl), m7.far (fun h => n79 h hm) (by decide) (by decide), m8.far (fun h => n89 h hm) (by decide) (by decide), m9.put (by omega) (by decide), (fun h h' => n78 (by rw [bit_ne false (by decide)] at h; exact h) (by rw [bit_ne false (by decide)] at h'; exact h')), (fun h h' => n79 (by rw [bit_ne false (by decide)] at h; exact h) (by rw [bit_ne false (by decide)] at h'; exact h')), (fun h h' => n89 (by rw [bit_ne false (by decide)] at h; exact h) (by rw [bit_ne false (by decide)] at h'; exact h'))⟩, nine_set _ h9, ord_set _ o7 (fun e => by cases e), ord_set _ o8 (fun e => by cases e), ord_set _ o9 (fun _ => hm)⟩
  case hd =>
    rintro l a w1 ⟨hsz, hk, ⟨v7, v8, v9, v19, v23, v27, b7, b8, b9, rfl, e3, e7, e11, m7, m8, m9, -, -, -⟩, -, -, -, -⟩ hr
    have hall := all_listed hsz hr (by kernel_rfl)
    obtain ⟨hv7, -, t7⟩ := m7 (hall 12 (by decide))
    obtain ⟨hv8, -, t8⟩ := m8 (hall 13 (by decide))
    obtain ⟨hv9, -, t9⟩ := m9 (hall 14 (by decide))
    rw [hall 15 (by decide)] at t7
    rw [hall 16 (by decide)] at t8
    rw [hall 17 (by decide)] at t9
    have hv19 := e3 (hall 3 (by decide))
    have hv23 := e7 (hall 7 (by decide))
    have hv27 := e11 (hall 11 (by decide))
    subst hv7 hv8 hv9 hv19 hv23 hv27
    have T7 : Box (TyAt w1 b7 T1) := hid t7
    have T8 : Box (TyAt w1 b8 T2) := hid t8
    have T9 : Box (TyAt w1 b9 T3) := hid t9
    have K1 := hid (KA.out.quiet hk)
    have h5 := keep_heap HN.out hk
    have i0 := hcell h5 0
    have HI5 := hid h5
    clear hall m7 m8 m9 e3 e7 e11 hsz hr l t7 t8 t9 h5 ld stv HD0 IN H1 H2 H3 HN hk
    have s0 := hcell T7.out 0
    have s1 := hcell T7.out 1
    have p0 := hcell T8.out 0
    have p1 := hcell T8.out 1
    have r0 := hcell T9.out 0
    have r1 := hcell T9.out 1
    have re := fun w' => run_tyE T1.1 T1.2 T2.1 T2.2 w'
    go_wp2_with fail
    go_ret
    exact ⟨by rw [HT1.out, HT2.out]; rfl, K1.out⟩
set_option maxRecDepth 20000 in
set_option maxHeartbeats 8000000 in
theorem fit_7 {w : World} {pb po fb fo : Nat} {P : Pr8} {f : Fu8} (hp : PrC w pb po P) (hf : FuC w fb fo f) (x : In8) (ar : Value) (hop : x.op = 7) : Calls Tryd.prog 32 #[.pointer (some ⟨pb, po, none⟩), .pointer (some ⟨fb, fo, none⟩), insV x ar] w fun e w' => e = .returned (.bool (match fieldO P (regT f x.a) x.n with | none => false | some t => tyE t (regT f x.dst))) ∧ Keeps [] w w' := by
  obtain ⟨RES, hRES⟩ : ∃ r, r = (match fieldO P (regT f x.a) x.n with | none => false | some t => tyE t (regT f x.dst)) := ⟨_, rfl⟩
  rw [← hRES]
  have HRES := hid hRES
  clear hRES
  have HFI := hid fun (w' : World) (k : Keeps [] w w') => field_any (PrC.stays _ _ _ _ _ k hp) (regT f x.a) x.n
  clear hp
  have ka := Keeps.alloc [] w (.cells #[.int .i64 x.op, .int .i64 x.dst, .int .i64 x.a, .int .i64 x.b, .int .i64 x.n, ar] 54)
  have hn := heap_new w (.cells #[.int .i64 x.op, .int .i64 x.dst, .int .i64 x.a, .int .i64 x.b, .int .i64 x.n, ar] 54)
  have HRT := hid fun (r : Int) (w' : World) (k : Keeps [] w w') => regtype_any (FuC.stays _ _ _ _ _ k hf) r
  have KA := hid ka
  have HN := hid hn
  clear hf ka hn
  unfold insV
  rw [hop] at KA HN ⊢
  go_enter Tryd.func32, Tryd.ntmps32
  go_upto_region 1 with fail
  generalize w.alloc (.cells #[.int .i64 7, .int .i64 x.dst, .int .i64 x.a, .int .i64 x.b, .int .i64 x.n, ar] 54) = WA at *
  generalize w.heap.size = q at *
  have IN : Box (∀ w', Keeps [] WA w' → w'.cell? ⟨q, 1, none⟩ = some (.int .i64 x.dst) ∧ w'.cell? ⟨q, 2, none⟩ = some (.int .i64 x.a) ∧ w'.cell? ⟨q, 3, none⟩ = some (.int .i64 x.b)) := hid fun w' k => by
    have := keep_heap HN.out k
    exact ⟨hcell this 1, hcell this 2, hcell this 3⟩
  have H1 := hid fun (w' : World) (k : Keeps [] WA w') => HRT.out x.dst w' (KA.out.quiet k)
  have H2 := hid fun (w' : World) (k : Keeps [] WA w') => HRT.out x.a w' (KA.out.quiet k)
  have H3 := hid fun (w' : World) (k : Keeps [] WA w') => HRT.out x.b w' (KA.out.quiet k)
  have HD0 := hid (Keeps.drew [] WA)
  have ld : ∀ {w' : World} {ad : Addr} {v : Value} {ev : Operand → Value} {oi : Oper} {y : Operand}, w'.cell? ad = some v → oi.op = .load 3 y → ev y = .pointer (some ad) → (execOp ev oi).run Tryd.prog w' = .ok (.value v) w' := fun hc ho hy => by
    simp [execOp, ho, hy, go_sem, hc]
  have stv : ∀ {w1 : World} {b : Nat} {t t' : Int × Int} {ev : Operand → Value} {oi : Oper} {y z : Operand}, TyAt w1 b t → oi.op = .store 39 y z → ev y = .pointer (some ⟨b, 0, none⟩) → ev z = tyV t' → (execOp ev oi).run Tryd.prog w1 = .ok .skip ((w1.setCell ⟨b, 0, none⟩ (.int .i64 t'.1)).setCell ⟨b, 1, none⟩ (.int .i64 t'.2)) := fun {w1 b t t' ev oi y z} hty ho hy hz => by
    have z0 := hfrozen hty 0
    have z1 := hfrozen hty 1
    have c0 := hcell hty 0
    have c1 := hcell hty 1
    simp [execOp, ho, hy, hz, go_sem, z0, z1, c0, c1]
  generalize hT1 : regT f x.dst = T1 at *
  generalize hT2 : regT f x.a = T2 at *
  generalize hT3 : regT f x.b = T3 at *
  have HT1 := hid hT1
  have HT2 := hid hT2
  have HT3 := hid hT3
  clear hT1 hT2 hT3
  refine wp_region_held_drew (S := fun w' => Keeps [] WA w') (by kernel_rfl) HD0.out (fun _ => ?_)
  refine tk_yield (i := 0) (d := 16) (v := .pointer (some ⟨fb, fo, none⟩)) rfl rfl (by as_aux_lemma => kernel_rfl) (by as_aux_lemma => kernel_rfl) (by as_aux_lemma => kernel_rfl) (fun _ _ _ h => h) (by rfl) HD0.out (fun _ _ => rfl) ?_
  simp only [Act.put, List.setIfInBounds_toArray, List.set_cons_zero, List.set_cons_succ]
  refine tk_yield (i := 1) (d := 17) (v := .pointer (some ⟨q, 1, none⟩)) rfl rfl (by as_aux_lemma => kernel_rfl) (by as_aux_lemma => kernel_rfl) (by as_aux_lemma => kernel_rfl) (fun _ _ _ h => h) (by rfl) HD0.out (fun _ _ => rfl) ?_
  simp only [Act.put, List.setIfInBounds_toArray, List.set_cons_zero, List.set_cons_succ]
  refine tk_yield (i := 2) (d := 18) (v := .int .i64 x.dst) rfl rfl (by as_aux_lemma => kernel_rfl) (by as_aux_lemma => kernel_rfl) (by as_aux_lemma => kernel_rfl) (fun _ _ _ h => h) (by rfl) HD0.out (fun w' k => ld (IN.out w' k).1 rfl rfl) ?_
  simp only [Act.put, List.setIfInBounds_toArray, List.set_cons_zero, List.set_cons_succ]
  refine tk_yield (i := 4) (d := 20) (v := .pointer (some ⟨fb, fo, none⟩)) rfl rfl (by as_aux_lemma => kernel_rfl) (by as_aux_lemma => kernel_rfl) (by as_aux_lemma => kernel_rfl) (fun _ _ _ h => h) (by rfl) HD0.out (fun _ _ => rfl) ?_
  simp only [Act.put, List.setIfInBounds_toArray, List.set_cons_zero, List.set_cons_succ]
  refine tk_yield (i := 5) (d := 21) (v := .pointer (some ⟨q, 2, none⟩)) rfl rfl (by as_aux_lemma => kernel_rfl) (by as_aux_lemma => kernel_rfl) (by as_aux_lemma => kernel_rfl) (fun _ _ _ h => h) (by rfl) HD0.out (fun _ _ => rfl) ?_
  simp only [Act.put, List.setIfInBounds_toArray, List.set_cons_zero, List.set_cons_succ]
  refine tk_yield (i := 6) (d := 22) (v := .int .i64 x.a) rfl rfl (by as_aux_lemma => kernel_rfl) (by as_aux_lemma => kernel_rfl) (by as_aux_lemma => kernel_rfl) (fun _ _ _ h => h) (by rfl) HD0.out (fun w' k => ld (IN.out w' k).2.1 rfl rfl) ?_
  simp only [Act.put, List.setIfInBounds_toArray, List.set_cons_zero, List.set_cons_succ]
  refine tk_yield (i := 8) (d := 24) (v := .pointer (some ⟨fb, fo, none⟩)) rfl rfl (by as_aux_lemma => kernel_rfl) (by as_aux_lemma => kernel_rfl) (by as_aux_lemma => kernel_rfl) (fun _ _ _ h => h) (by rfl) HD0.out (fun _ _ => rfl) ?_
  simp only [Act.put, List.setIfInBounds_toArray, List.set_cons_zero, List.set_cons_succ]
  refine tk_yield (i := 9) (d := 25) (v := .pointer (some ⟨q, 3, none⟩)) rfl rfl (by as_aux_lemma => kernel_rfl) (by as_aux_lemma => kernel_rfl) (by as_aux_lemma => kernel_rfl) (fun _ _ _ h => h) (by rfl) HD0.out (fun _ _ => rfl) ?_
  simp only [Act.put, List.setIfInBounds_toArray, List.set_cons_zero, List.set_cons_succ]
  refine tk_yield (i := 10) (d := 26) (v := .int .i64 x.b) rfl rfl (by as_aux_lemma => kernel_rfl) (by as_aux_lemma => kernel_rfl) (by as_aux_lemma => kernel_rfl) (fun _ _ _ h => h) (by rfl) HD0.out (fun w' k => ld (IN.out w' k).2.2 rfl rfl) ?_
  simp only [Act.put, List.setIfInBounds_toArray, List.set_cons_zero, List.set_cons_succ]
  refine wpAnyH_inv (ThreeI WA (fun v7 v8 v9 v19 v23 v27 => ({ tmps := List.toArray ((.pointer (some ⟨pb, po, none⟩) : Value) :: (.pointer (some ⟨fb, fo, none⟩) : Value) :: (.agg #[.int .i64 7, .int .i64 x.dst, .int .i64 x.a, .int .i64 x.b, .int .i64 x.n, ar] : Value) :: (undef : Value) :: (undef : Value) :: (.pointer (some ⟨q, 0, none⟩) : Value) :: (.bool false : Value) :: (v7 : Value) :: (v8 : Value) :: (v9 : Value) :: (undef : Value) :: (undef : Value) :: (undef : Value) :: (undef : Value) :: (undef : Value) :: (undef : Value) :: (.pointer (some ⟨fb, fo, none⟩) : Value) :: (.pointer (some ⟨q, 1, none⟩) : Value) :: (.int .i64 x.dst : Value) :: (v19 : Value) :: (.pointer (some ⟨fb, fo, none⟩) : Value) :: (.pointer (some ⟨q, 2, none⟩) : Value) :: (.int .i64 x.a : Value) :: (v23 : Value) :: (.pointer (some ⟨fb, fo, none⟩) : Value) :: (.pointer (some ⟨q, 3, none⟩) : Value) :: (.int .i64 x.b : Value) :: (v27 : Value) :: (undef : Value) :: (undef : Value) :: (undef : Value) :: (undef : Value) :: (undef : Value) :: (undef : Value) :: (undef : Value) :: (undef : Value) :: (undef : Value) :: (undef : Value) :: (undef : Value) :: (undef : Value) :: (undef : Value) :: (undef : Value) :: (undef : Value) :: (undef : Value) :: (undef : Value) :: (undef : Value) :: (undef : Value) :: (undef : Value) :: (undef : Value) :: (undef : Value) :: (undef : Value) :: (undef : Value) :: (undef : Value) :: (undef : Value) :: (undef : Value) :: (undef : Value) :: (undef : Value) :: (undef : Value) :: (undef : Value) :: (undef : Value) :: (undef : Value) :: (undef : Value) :: (undef : Value) :: (undef : Value) :: (undef : Value) :: (undef : Value) :: (undef : Value) :: (undef : Value) :: (undef : Value) :: (undef : Value) :: (undef : Value) :: (undef : Value) :: (undef : Value) :: (undef : Value) :: (undef : Value) :: (undef : Value) :: (undef : Value) :: (undef : Value) :: (undef : Value) :: (undef : Value) :: (undef : Value) :: (undef : Value) :: (undef : Value) :: (undef : Value) :: (undef : Value) :: (undef : Value) :: (undef : Value) :: (undef : Value) :: (undef : Value) :: (undef : Value) :: (undef : Value) :: (undef : Value) :: (undef : Value) :: (undef : Value) :: (undef : Value) :: (undef : Value) :: (undef : Value) :: (undef : Value) :: (undef : Value) :: (undef : Value) :: (undef : Value) :: (undef : Value) :: (undef : Value) :: (undef : Value) :: (undef : Value) :: (undef : Value) :: (undef : Value) :: (undef : Value) :: (undef : Value) :: (undef : Value) :: (undef : Value) :: (undef : Value) :: (undef : Value) :: (undef : Value) :: (undef : Value) :: (undef : Value) :: (undef : Value) :: (undef : Value) :: (undef : Value) :: (undef : Value) :: (undef : Value) :: (undef : Value) :: (undef : Value) :: (undef : Value) :: (undef : Value) :: (undef : Value) :: (undef : Value) :: (undef : Value) :: (undef : Value) :: (undef : Value) :: (undef : Value) :: (undef : Value) :: (undef : Value) :: (undef : Value) :: (undef : Value) :: (undef : Value) :: (undef : Value) :: (undef : Value) :: (undef : Value) :: (undef : Value) :: (undef : Value) :: (undef : Value) :: (undef : Value) :: (undef : Value) :: (undef : Value) :: (undef : Value) :: (undef : Value) :: (undef : Value) :: (undef : Value) :: (undef : Value) :: (undef : Value) :: (undef : Value) :: (undef : Value) :: (undef : Value) :: (undef : Value) :: (undef : Value) :: (undef : Value) :: (undef : Value) :: (undef : Value) :: (undef : Value) :: (undef : Value) :: (undef : Value) :: (undef : Value) :: (undef : Value) :: (undef : Value) :: (undef : Value) :: (undef : Value) :: (undef : Value) :: (undef : Value) :: (undef : Value) :: (undef : Value) :: []), defers := [] } : Act)) T1 T2 T3) (fun _ _ _ h => h.kept) ?hd ?hstep _ _ _ _ ?start ?fin
  case fin => exact Nat.le_of_ble_eq_true (by kernel_rfl)
  case start =>
    exact ⟨rfl, HD0.out, ⟨undef, undef, undef, undef, undef, undef, 0, 0, 0, rfl, (fun h => by cases h), (fun h => by cases h), (fun h => by cases h), (fun h => by cases h), (fun h => by cases h), (fun h => by cases h), (fun h => by cases h), (fun h => by cases h), fun h => by cases h⟩, by decide, (fun h => by cases h), (fun h => by cases h), fun h => by cases h⟩
  case hstep =>
    rintro l a w1 i ⟨hsz, hk, ⟨v7, v8, v9, v19, v23, v27, b7, b8, b9, rfl, e3, e7, e11, m7, m8, m9, n78, n79, n89⟩, h9, o7, o8, o9⟩ hr
    have hun := (mem_ready.1 hr).1
    have hf0 := false_of_true hun
    have hlt : i < 18 := ready_lt hr
    have hne : i ∉ [0, 1, 2, 4, 5, 6, 8, 9, 10] := fun hm => by rw [h9 i hm] at hun; cases hun
    have hi : i = 3 ∨ i = 7 ∨ i = 11 ∨ i = 12 ∨ i = 13 ∨ i = 14 ∨ i = 15 ∨ i = 16 ∨ i = 17 := by
      simp only [List.mem_cons, List.not_mem_nil, or_false, not_or] at hne
      omega
    rcases hi with rfl | rfl | rfl | rfl | rfl | rfl | rfl | rfl | rfl
    · refine tk_call (d := 19) (R := fun v w2 => v = tyV T1 ∧ Keeps [] w1 w2) rfl rfl (by rfl) 63 #[.pointer (some ⟨fb, fo, none⟩), .int .i64 x.dst] (exec_call2 rfl rfl rfl rfl (by go_simp)) ((H1.out w1 hk).mono fun e w2 h => ⟨_, h.1, rfl, h.2⟩) ?_
      rintro v w2 ⟨rfl, k2⟩
      exact ⟨by simpa using hsz, hk.quiet k2, ⟨v7, v8, v9, tyV T1, v23, v27, b7, b8, b9, rfl, (fun _ => rfl), (fun h => e7 (by rw [bit_ne false (by decide)] at h; exact h)), (fun h => e11 (by rw [bit_ne false (by decide)] at h; exact h)), m7.quiet k2 (by decide) (by decide), m8.quiet k2 (by decide) (by decide), m9.quiet k2 (by decide) (by decide), (fun h h' => n78 (by rw [bit_ne false (by decide)] at h; exact h) (by rw [bit_ne false (by decide)] at h'; exact h')), (fun h h' => n79 (by rw [bit_ne false (by decide)] at h; exact h) (by rw [bit_ne false (by decide)] at h'; exact h')), fun h h' => n89 (by rw [bit_ne false (by decide)] at h; exact h) (by rw [bit_ne false (by decide)] at h'; exact h')⟩, nine_set _ h9, ord_set _ o7 (fun e => by cases e), ord_set _ o8 (fun e => by cases e), ord_set _ o9 (fun e => by cases e)⟩
    · refine tk_call (d := 23) (R := fun v w2 => v = tyV T2 ∧ Keeps [] w1 w2) rfl rfl (by rfl) 63 #[.pointer (some ⟨fb, fo, none⟩), .int .i64 x.a] (exec_call2 rfl rfl rfl rfl (by go_simp)) ((H2.out w1 hk).mono fun e w2 h => ⟨_, h.1, rfl, h.2⟩) ?_
      rintro v w2 ⟨rfl, k2⟩
      exact ⟨by simpa using hsz, hk.quiet k2, ⟨v7, v8, v9, v19, tyV T2, v27, b7, b8, b9, rfl, (fun h => e3 (by rw [bit_ne false (by decide)] at h; exact h)), (fun _ => rfl), (fun h => e11 (by rw [bit_ne false (by decide)] at h; exact h)), m7.quiet k2 (by decide) (by decide), m8.quiet k2 (by decide) (by decide), m9.quiet k2 (by decide) (by decide), (fun h h' => n78 (by rw [bit_ne false (by decide)] at h; exact h) (by rw [bit_ne false (by decide)] at h'; exact h')), (fun h h' => n79 (by rw [bit_ne false (by decide)] at h; exact h) (by rw [bit_ne false (by decide)] at h'; exact h')), fun h h' => n89 (by rw [bit_ne false (by decide)] at h; exact h) (by rw [bit_ne false (by decide)] at h'; exact h')⟩, nine_set _ h9, ord_set _ o7 (fun e => by cases e), ord_set _ o8 (fun e => by cases e), ord_set _ o9 (fun e => by cases e)⟩
    · refine tk_call (d := 27) (R := fun v w2 => v = tyV T3 ∧ Keeps [] w1 w2) rfl rfl (by rfl) 63 #[.pointer (some ⟨fb, fo, none⟩), .int .i64 x.b] (exec_call2 rfl rfl rfl rfl (by go_simp)) ((H3.out w1 hk).mono fun e w2 h => ⟨_, h.1, rfl, h.2⟩) ?_
      rintro v w2 ⟨rfl, k2⟩
      exact ⟨by simpa using hsz, hk.quiet k2, ⟨v7, v8, v9, v19, v23, tyV T3, b7, b8, b9, rfl, (fun h => e3 (by rw [bit_ne false (by decide)] at h; exact h)), (fun h => e7 (by rw [bit_ne false (by decide)] at h; exact h)), (fun _ => rfl), m7.quiet k2 (by decide) (by decide), m8.quiet k2 (by decide) (by decide), m9.quiet k2 (by decide) (by decide), (fun h h' => n78 (by rw [bit_ne false (by decide)] at h; exact h) (by rw [bit_ne false (by decide)] at h'; exact h')), (fun h h' => n79 (by rw [bit_ne false (by decide)] at h; exact h) (by rw [bit_ne false (by decide)] at h'; exact h')), fun h h' => n89 (by rw [bit_ne false (by decide)] at h; exact h) (by rw [bit_ne false (by decide)] at h'; exact h')⟩, nine_set _ h9, ord_set _ o7 (fun e => by cases e), ord_set _ o8 (fun e => by cases e), ord_set _ o9 (fun e => by cases e)⟩
    · have hs0 : l.getD 15 false = false := by
        cases hb : l.getD 15 false with
        | false => rfl
        | true => exact absurd (o7 hb) (by rw [hf0]; simp)
      refine tk_run (v := .pointer (some ⟨w1.heap.size, 0, none⟩)) (w' := w1.alloc (.cells #[.int .i64 0, .int .i64 0] 39)) rfl (by rfl) (by kernel_rfl) ?_
      exact ⟨by simpa using hsz, hk.quiet (Keeps.alloc [] _ _), ⟨.pointer (some ⟨w1.heap.size, 0, none⟩), v8, v9, v19, v23, v27, w1.heap.size, b8, b9, rfl, (fun h => e3 (by rw [bit_ne false (by decide)] at h; exact h)), (fun h => e7 (by rw [bit_ne false (by decide)] at h; exact h)), (fun h => e11 (by rw [bit_ne false (by decide)] at h; exact h)), VarI.new hk hs0 (by decide), m8.quiet (Keeps.alloc [] _ _) (by decide) (by decide), m9.quiet (Keeps.alloc [] _ _) (by decide) (by decide), (fun h h' e => by have := m8.lt (by rw [bit_ne false (by decide)] at h'; exact h'); omega), (fun h h' e => by have := m9.lt (by rw [bit_ne false (by decide)] at h'; exact h'); omega), (fun h h' => n89 (by rw [bit_ne false (by decide)] at h; exact h) (by rw [bit_ne false (by decide)] at h'; exact h'))⟩, nine_set _ h9, ord_set _ o7 (fun e => by cases e), ord_set _ o8 (fun e => by cases e), ord_set _ o9 (fun e => by cases e)⟩
    · have hs0 : l.getD 16 false = false := by
        cases hb : l.getD 16 false with
        | false => rfl
        | true => exact absurd (o8 hb) (by rw [hf0]; simp)
      refine tk_run (v := .pointer (some ⟨w1.heap.size, 0, none⟩)) (w' := w1.alloc (.cells #[.int .i64 0, .int .i64 0] 39)) rfl (by rfl) (by kernel_rfl) ?_
      exact ⟨by simpa using hsz, hk.quiet (Keeps.alloc [] _ _), ⟨v7, .pointer (some ⟨w1.heap.size, 0, none⟩), v9, v19, v23, v27, b7, w1.heap.size, b9, rfl, (fun h => e3 (by rw [bit_ne false (by decide)] at h; exact h)), (fun h => e7 (by rw [bit_ne false (by decide)] at h; exact h)), (fun h => e11 (by rw [bit_ne false (by decide)] at h; exact h)), m7.quiet (Keeps.alloc [] _ _) (by decide) (by decide), VarI.new hk hs0 (by decide), m9.quiet (Keeps.alloc [] _ _) (by decide) (by decide), (fun h h' e => by have := m7.lt (by rw [bit_ne false (by decide)] at h; exact h); omega), (fun h h' => n79 (by rw [bit_ne false (by decide)] at h; exact h) (by rw [bit_ne false (by decide)] at h'; exact h')), (fun h h' e => by have := m9.lt (by rw [bit_ne false (by decide)] at h'; exact h'); omega)⟩, nine_set _ h9, ord_set _ o7 (fun e => by cases e), ord_set _ o8 (fun e => by cases e), ord_set _ o9 (fun e => by cases e)⟩
    · have hs0 : l.getD 17 false = false := by
        cases hb : l.getD 17 false with
        | false => rfl
        | true => exact absurd (o9 hb) (by rw [hf0]; simp)
      refine tk_run (v := .pointer (some ⟨w1.heap.size, 0, none⟩)) (w' := w1.alloc (.cells #[.int .i64 0, .int .i64 0] 39)) rfl (by rfl) (by kernel_rfl) ?_
      exact ⟨by simpa using hsz, hk.quiet (Keeps.alloc [] _ _), ⟨v7, v8, .pointer (some ⟨w1.heap.size, 0, none⟩), v19, v23, v27, b7, b8, w1.heap.size, rfl, (fun h => e3 (by rw [bit_ne false (by decide)] at h; exact h)), (fun h => e7 (by rw [bit_ne false (by decide)] at h; exact h)), (fun h => e11 (by rw [bit_ne false (by decide)] at h; exact h)), m7.quiet (Keeps.alloc [] _ _) (by decide) (by decide), m8.quiet (Keeps.alloc [] _ _) (by decide) (by decide), VarI.new hk hs0 (by decide), (fun h h' => n78 (by rw [bit_ne false (by decide)] at h; exact h) (by rw [bit_ne false (by decide)] at h'; exact h')), (fun h h' e => by have := m7.lt (by rw [bit_ne false (by decide)] at h; exact h); omega), (fun h h' e => by have := m8.lt (by rw [bit_ne false (by decide)] at h; exact h); omega)⟩, nine_set _ h9, ord_set _ o7 (fun e => by cases e), ord_set _ o8 (fun e => by cases e), ord_set _ o9 (fun e => by cases e)⟩
    · have hm := ready_after hr 12 (by kernel_rfl)
      have hc := ready_after hr 3 (by kernel_rfl)
      obtain ⟨hv, hge, hty⟩ := m7 hm
      have hT := e3 hc
      subst hv hT
      have z0 := hfrozen hty 0
      have z1 := hfrozen hty 1
      have c0 := hcell hty 0
      have c1 := hcell hty 1
      refine tk_skip (w' := (w1.setCell ⟨b7, 0, none⟩ (.int .i64 T1.1)).setCell ⟨b7, 1, none⟩ (.int .i64 T1.2)) rfl (by rfl) (stv hty rfl rfl rfl) ?_
      exact ⟨by simpa using hsz, hk.trans (keeps2 _ b7 _ _) (fun x hx hl => by simp at hx; omega), ⟨.pointer (some ⟨b7, 0, none⟩), v8, v9, tyV T1, v23, v27, b7, b8, b9, rfl, (fun _ => rfl), (fun h => e7 (by rw [bit_ne false (by decide)] at h; exact h)), (fun h => e11 (by rw [bit_ne false (by decide)] at h; exact h)), m7.put (by omega) (by decide), m8.far (fun h e => n78 hm h e.symm) (by decide) (by decide), m9.far (fun h e => n79 hm h e.symm) (by decide) (by decide), (fun h h' => n78 (by rw [bit_ne false (by decide)] at h; exact h) (by rw [bit_ne false (by decide)] at h'; exact h')), (fun h h' => n79 (by rw [bit_ne false (by decide)] at h; exact h) (by rw [bit_ne false (by decide)] at h'; exact h')), (fun h h' => n89 (by rw [bit_ne false (by decide)] at h; exact h) (by rw [bit_ne false (by decide)] at h'; exact h'))⟩, nine_set _ h9, ord_set _ o7 (fun _ => hm), ord_set _ o8 (fun e => by cases e), ord_set _ o9 (fun e => by cases e)⟩
    · have hm := ready_after hr 13 (by kernel_rfl)
      have hc := ready_after hr 7 (by kernel_rfl)
      obtain ⟨hv, hge, hty⟩ := m8 hm
      have hT := e7 hc
      subst hv hT
      have z0 := hfrozen hty 0
      have z1 := hfrozen hty 1
      have c0 := hcell hty 0
      have c1 := hcell hty 1
      refine tk_skip (w' := (w1.setCell ⟨b8, 0, none⟩ (.int .i64 T2.1)).setCell ⟨b8, 1, none⟩ (.int .i64 T2.2)) rfl (by rfl) (stv hty rfl rfl rfl) ?_
      exact ⟨by simpa using hsz, hk.trans (keeps2 _ b8 _ _) (fun x hx hl => by simp at hx; omega), ⟨v7, .pointer (some ⟨b8, 0, none⟩), v9, v19, tyV T2, v27, b7, b8, b9, rfl, (fun h => e3 (by rw [bit_ne false (by decide)] at h; exact h)), (fun _ => rfl), (fun h => e11 (by rw [bit_ne false (by decide)] at h; exact h)), m7.far (fun h => n78 h hm) (by decide) (by decide), m8.put (by omega) (by decide), m9.far (fun h e => n89 hm h e.symm) (by decide) (by decide), (fun h h' => n78 (by rw [bit_ne false (by decide)] at h; exact h) (by rw [bit_ne false (by decide)] at h'; exact h')), (fun h h' => n79 (by rw [bit_ne false (by decide)] at h; exact h) (by rw [bit_ne false (by decide)] at h'; exact h')), (fun h h' => n89 (by rw [bit_ne false (by decide)] at h; exact h) (by rw [bit_ne false (by decide)] at h'; exact h'))⟩, nine_set _ h9, ord_set _ o7 (fun e => by cases e), ord_set _ o8 (fun _ => hm), ord_set _ o9 (fun e => by cases e)⟩
    · have hm := ready_after hr 14 (by kernel_rfl)
      have hc := ready_after hr 11 (by kernel_rfl)
      obtain ⟨hv, hge, hty⟩ := m9 hm
      have hT := e11 hc
      subst hv hT
      have z0 := hfrozen hty 0
      have z1 := hfrozen hty 1
      have c0 := hcell hty 0
      have c1 := hcell hty 1
      refine tk_skip (w' := (w1.setCell ⟨b9, 0, none⟩ (.int .i64 T3.1)).setCell ⟨b9, 1, none⟩ (.int .i64 T3.2)) rfl (by rfl) (stv hty rfl rfl rfl) ?_
      exact ⟨by simpa using hsz, hk.trans (keeps2 _ b9 _ _) (fun x hx hl => by simp at hx; omega), ⟨v7, v8, .pointer (some ⟨b9, 0, none⟩), v19, v23, tyV T3, b7, b8, b9, rfl, (fun h => e3 (by rw [bit_ne false (by decide)] at h; exact h)), (fun h => e7 (by rw [bit_ne false (by decide)] at h; exact h)), (fun _ => rfl), m7.far (fun h => n79 h hm) (by decide) (by decide), m8.far (fun h => n89 h hm) (by decide) (by decide), m9.put (by omega) (by decide), (fun h h' => n78 (by rw [bit_ne false (by decide)] at h; exact h) (by rw [bit_ne false (by decide)] at h'; exact h')), (fun h h' => n79 (by rw [bit_ne false (by decide)] at h; exact h) (by rw [bit_ne false (by decide)] at h'; exact h')), (fun h h' => n89 (by rw [bit_ne false (by decide)] at h; exact h) (by rw [bit_ne false (by decide)] at h'; exact h'))⟩, nine_set _ h9, ord_set _ o7 (fun e => by cases e), ord_set _ o8 (fun e => by cases e), ord_set _ o9 (fun _ => hm)⟩
  case hd =>
    rintro l a w1 ⟨hsz, hk, ⟨v7, v8, v9, v19, v23, v27, b7, b8, b9, rfl, e3, e7, e11, m7, m8, m9, -, -, -⟩, -, -, -, -⟩ hr
    have hall := all_listed hsz hr (by kernel_rfl)
    obtain ⟨hv7, -, t7⟩ := m7 (hall 12 (by decide))
    obtain ⟨hv8, -, t8⟩ := m8 (hall 13 (by decide))
    obtain ⟨hv9, -, t9⟩ := m9 (hall 14 (by decide))
    rw [hall 15 (by decide)] at t7
    rw [hall 16 (by decide)] at t8
    rw [hall 17 (by decide)] at t9
    have hv19 := e3 (hall 3 (by decide))
    have hv23 := e7 (hall 7 (by decide))
    have hv27 := e11 (hall 11 (by decide))
    subst hv7 hv8 hv9 hv19 hv23 hv27
    have T7 : Box (TyAt w1 b7 T1) := hid t7
    have T8 : Box (TyAt w1 b8 T2) := hid t8
    have T9 : Box (TyAt w1 b9 T3) := hid t9
    have K1 := hid (KA.out.quiet hk)
    have h5 := keep_heap HN.out hk
    have i0 := hcell h5 0
    have HI5 := hid h5
    clear hall m7 m8 m9 e3 e7 e11 hsz hr l t7 t8 t9 h5 ld stv HD0 IN H1 H2 H3 HN hk
    have s0 := hcell T7.out 0
    have s1 := hcell T7.out 1
    have p0 := hcell T8.out 0
    have p1 := hcell T8.out 1
    have r0 := hcell T9.out 0
    have r1 := hcell T9.out 1
    try simp only [HT2.out, HT1.out] at HRES
    have i4 := hcell HI5.out 4
    generalize hO : fieldO P T2 x.n = O at *
    clear hO
    obtain ⟨t, b, hv, hb⟩ := field_cases O
    rw [hv] at HFI
    have HOB : Box (b = O.isSome ∧ ∀ u, O = some u → t = u) := hid ⟨hb, fun u e => by
      subst e
      unfold fieldV tyV at hv
      simp at hv
      exact Prod.ext hv.1.1.symm hv.1.2.symm⟩
    clear hv hb
    go_wp2_with fail
    refine (HFI.out _ K1.out).mono ?_
    rintro e w3 ⟨rfl, k3⟩
    have KT := k3.quiet (Keeps.alloc [] w3 (.cells #[.int .i64 t.1, .int .i64 t.2] 39))
    have hd := keep_heap T7.out KT
    have hnn := heap_new w3 (.cells #[.int .i64 t.1, .int .i64 t.2] 39)
    have KZ := hid (K1.out.quiet KT)
    have j0 := hcell hd 0
    have j1 := hcell hd 1
    have n0 := hcell hnn 0
    have n1 := hcell hnn 1
    clear k3 KT hd hnn s0 s1 p0 p1 r0 r1 i0 i4
    have re := fun w' => run_tyE t.1 t.2 T1.1 T1.2 w'
    cases O with
    | none =>
      have HB : Box (RES = false) := HRES
      have eb : b = false := HOB.out.1
      subst eb
      go_wp2_with fail
      go_ret
      exact ⟨by rw [HB.out]; rfl, KZ.out⟩
    | some u =>
      have eu : t = u := HOB.out.2 u rfl
      subst eu
      have HB : Box (RES = tyE t T1) := HRES
      have eb : b = true := HOB.out.1
      subst eb
      go_wp2_with fail
      go_ret
      exact ⟨by rw [HB.out]; rfl, KZ.out⟩
set_option maxRecDepth 20000 in
set_option maxHeartbeats 8000000 in
theorem fit_8 {w : World} {pb po fb fo : Nat} {P : Pr8} {f : Fu8} (hp : PrC w pb po P) (hf : FuC w fb fo f) (x : In8) (ar : Value) (hop : x.op = 8) : Calls Tryd.prog 32 #[.pointer (some ⟨pb, po, none⟩), .pointer (some ⟨fb, fo, none⟩), insV x ar] w fun e w' => e = .returned (.bool (match fieldO P (regT f x.a) x.n with | none => false | some t => tyE t (regT f x.b))) ∧ Keeps [] w w' := by
  obtain ⟨RES, hRES⟩ : ∃ r, r = (match fieldO P (regT f x.a) x.n with | none => false | some t => tyE t (regT f x.b)) := ⟨_, rfl⟩
  rw [← hRES]
  have HRES := hid hRES
  clear hRES
  have HFI := hid fun (w' : World) (k : Keeps [] w w') => field_any (PrC.stays _ _ _ _ _ k hp) (regT f x.a) x.n
  clear hp
  have ka := Keeps.alloc [] w (.cells #[.int .i64 x.op, .int .i64 x.dst, .int .i64 x.a, .int .i64 x.b, .int .i64 x.n, ar] 54)
  have hn := heap_new w (.cells #[.int .i64 x.op, .int .i64 x.dst, .int .i64 x.a, .int .i64 x.b, .int .i64 x.n, ar] 54)
  have HRT := hid fun (r : Int) (w' : World) (k : Keeps [] w w') => regtype_any (FuC.stays _ _ _ _ _ k hf) r
  have KA := hid ka
  have HN := hid hn
  clear hf ka hn
  unfold insV
  rw [hop] at KA HN ⊢
  go_enter Tryd.func32, Tryd.ntmps32
  go_upto_region 1 with fail
  generalize w.alloc (.cells #[.int .i64 8, .int .i64 x.dst, .int .i64 x.a, .int .i64 x.b, .int .i64 x.n, ar] 54) = WA at *
  generalize w.heap.size = q at *
  have IN : Box (∀ w', Keeps [] WA w' → w'.cell? ⟨q, 1, none⟩ = some (.int .i64 x.dst) ∧ w'.cell? ⟨q, 2, none⟩ = some (.int .i64 x.a) ∧ w'.cell? ⟨q, 3, none⟩ = some (.int .i64 x.b)) := hid fun w' k => by
    have := keep_heap HN.out k
    exact ⟨hcell this 1, hcell this 2, hcell this 3⟩
  have H1 := hid fun (w' : World) (k : Keeps [] WA w') => HRT.out x.dst w' (KA.out.quiet k)
  have H2 := hid fun (w' : World) (k : Keeps [] WA w') => HRT.out x.a w' (KA.out.quiet k)
  have H3 := hid fun (w' : World) (k : Keeps [] WA w') => HRT.out x.b w' (KA.out.quiet k)
  have HD0 := hid (Keeps.drew [] WA)
  have ld : ∀ {w' : World} {ad : Addr} {v : Value} {ev : Operand → Value} {oi : Oper} {y : Operand}, w'.cell? ad = some v → oi.op = .load 3 y → ev y = .pointer (some ad) → (execOp ev oi).run Tryd.prog w' = .ok (.value v) w' := fun hc ho hy => by
    simp [execOp, ho, hy, go_sem, hc]
  have stv : ∀ {w1 : World} {b : Nat} {t t' : Int × Int} {ev : Operand → Value} {oi : Oper} {y z : Operand}, TyAt w1 b t → oi.op = .store 39 y z → ev y = .pointer (some ⟨b, 0, none⟩) → ev z = tyV t' → (execOp ev oi).run Tryd.prog w1 = .ok .skip ((w1.setCell ⟨b, 0, none⟩ (.int .i64 t'.1)).setCell ⟨b, 1, none⟩ (.int .i64 t'.2)) := fun {w1 b t t' ev oi y z} hty ho hy hz => by
    have z0 := hfrozen hty 0
    have z1 := hfrozen hty 1
    have c0 := hcell hty 0
    have c1 := hcell hty 1
    simp [execOp, ho, hy, hz, go_sem, z0, z1, c0, c1]
  generalize hT1 : regT f x.dst = T1 at *
  generalize hT2 : regT f x.a = T2 at *
  generalize hT3 : regT f x.b = T3 at *
  have HT1 := hid hT1
  have HT2 := hid hT2
  have HT3 := hid hT3
  clear hT1 hT2 hT3
  refine wp_region_held_drew (S := fun w' => Keeps [] WA w') (by kernel_rfl) HD0.out (fun _ => ?_)
  refine tk_yield (i := 0) (d := 16) (v := .pointer (some ⟨fb, fo, none⟩)) rfl rfl (by as_aux_lemma => kernel_rfl) (by as_aux_lemma => kernel_rfl) (by as_aux_lemma => kernel_rfl) (fun _ _ _ h => h) (by rfl) HD0.out (fun _ _ => rfl) ?_
  simp only [Act.put, List.setIfInBounds_toArray, List.set_cons_zero, List.set_cons_succ]
  refine tk_yield (i := 1) (d := 17) (v := .pointer (some ⟨q, 1, none⟩)) rfl rfl (by as_aux_lemma => kernel_rfl) (by as_aux_lemma => kernel_rfl) (by as_aux_lemma => kernel_rfl) (fun _ _ _ h => h) (by rfl) HD0.out (fun _ _ => rfl) ?_
  simp only [Act.put, List.setIfInBounds_toArray, List.set_cons_zero, List.set_cons_succ]
  refine tk_yield (i := 2) (d := 18) (v := .int .i64 x.dst) rfl rfl (by as_aux_lemma => kernel_rfl) (by as_aux_lemma => kernel_rfl) (by as_aux_lemma => kernel_rfl) (fun _ _ _ h => h) (by rfl) HD0.out (fun w' k => ld (IN.out w' k).1 rfl rfl) ?_
  simp only [Act.put, List.setIfInBounds_toArray, List.set_cons_zero, List.set_cons_succ]
  refine tk_yield (i := 4) (d := 20) (v := .pointer (some ⟨fb, fo, none⟩)) rfl rfl (by as_aux_lemma => kernel_rfl) (by as_aux_lemma => kernel_rfl) (by as_aux_lemma => kernel_rfl) (fun _ _ _ h => h) (by rfl) HD0.out (fun _ _ => rfl) ?_
  simp only [Act.put, List.setIfInBounds_toArray, List.set_cons_zero, List.set_cons_succ]
  refine tk_yield (i := 5) (d := 21) (v := .pointer (some ⟨q, 2, none⟩)) rfl rfl (by as_aux_lemma => kernel_rfl) (by as_aux_lemma => kernel_rfl) (by as_aux_lemma => kernel_rfl) (fun _ _ _ h => h) (by rfl) HD0.out (fun _ _ => rfl) ?_
  simp only [Act.put, List.setIfInBounds_toArray, List.set_cons_zero, List.set_cons_succ]
  refine tk_yield (i := 6) (d := 22) (v := .int .i64 x.a) rfl rfl (by as_aux_lemma => kernel_rfl) (by as_aux_lemma => kernel_rfl) (by as_aux_lemma => kernel_rfl) (fun _ _ _ h => h) (by rfl) HD0.out (fun w' k => ld (IN.out w' k).2.1 rfl rfl) ?_
  simp only [Act.put, List.setIfInBounds_toArray, List.set_cons_zero, List.set_cons_succ]
  refine tk_yield (i := 8) (d := 24) (v := .pointer (some ⟨fb, fo, none⟩)) rfl rfl (by as_aux_lemma => kernel_rfl) (by as_aux_lemma => kernel_rfl) (by as_aux_lemma => kernel_rfl) (fun _ _ _ h => h) (by rfl) HD0.out (fun _ _ => rfl) ?_
  simp only [Act.put, List.setIfInBounds_toArray, List.set_cons_zero, List.set_cons_succ]
  refine tk_yield (i := 9) (d := 25) (v := .pointer (some ⟨q, 3, none⟩)) rfl rfl (by as_aux_lemma => kernel_rfl) (by as_aux_lemma => kernel_rfl) (by as_aux_lemma => kernel_rfl) (fun _ _ _ h => h) (by rfl) HD0.out (fun _ _ => rfl) ?_
  simp only [Act.put, List.setIfInBounds_toArray, List.set_cons_zero, List.set_cons_succ]
  refine tk_yield (i := 10) (d := 26) (v := .int .i64 x.b) rfl rfl (by as_aux_lemma => kernel_rfl) (by as_aux_lemma => kernel_rfl) (by as_aux_lemma => kernel_rfl) (fun _ _ _ h => h) (by rfl) HD0.out (fun w' k => ld (IN.out w' k).2.2 rfl rfl) ?_
  simp only [Act.put, List.setIfInBounds_toArray, List.set_cons_zero, List.set_cons_succ]
  refine wpAnyH_inv (ThreeI WA (fun v7 v8 v9 v19 v23 v27 => ({ tmps := List.toArray ((.pointer (some ⟨pb, po, none⟩) : Value) :: (.pointer (some ⟨fb, fo, none⟩) : Value) :: (.agg #[.int .i64 8, .int .i64 x.dst, .int .i64 x.a, .int .i64 x.b, .int .i64 x.n, ar] : Value) :: (undef : Value) :: (undef : Value) :: (.pointer (some ⟨q, 0, none⟩) : Value) :: (.bool false : Value) :: (v7 : Value) :: (v8 : Value) :: (v9 : Value) :: (undef : Value) :: (undef : Value) :: (undef : Value) :: (undef : Value) :: (undef : Value) :: (undef : Value) :: (.pointer (some ⟨fb, fo, none⟩) : Value) :: (.pointer (some ⟨q, 1, none⟩) : Value) :: (.int .i64 x.dst : Value) :: (v19 : Value) :: (.pointer (some ⟨fb, fo, none⟩) : Value) :: (.pointer (some ⟨q, 2, none⟩) : Value) :: (.int .i64 x.a : Value) :: (v23 : Value) :: (.pointer (some ⟨fb, fo, none⟩) : Value) :: (.pointer (some ⟨q, 3, none⟩) : Value) :: (.int .i64 x.b : Value) :: (v27 : Value) :: (undef : Value) :: (undef : Value) :: (undef : Value) :: (undef : Value) :: (undef : Value) :: (undef : Value) :: (undef : Value) :: (undef : Value) :: (undef : Value) :: (undef : Value) :: (undef : Value) :: (undef : Value) :: (undef : Value) :: (undef : Value) :: (undef : Value) :: (undef : Value) :: (undef : Value) :: (undef : Value) :: (undef : Value) :: (undef : Value) :: (undef : Value) :: (undef : Value) :: (undef : Value) :: (undef : Value) :: (undef : Value) :: (undef : Value) :: (undef : Value) :: (undef : Value) :: (undef : Value) :: (undef : Value) :: (undef : Value) :: (undef : Value) :: (undef : Value) :: (undef : Value) :: (undef : Value) :: (undef : Value) :: (undef : Value) :: (undef : Value) :: (undef : Value) :: (undef : Value) :: (undef : Value) :: (undef : Value) :: (undef : Value) :: (undef : Value) :: (undef : Value) :: (undef : Value) :: (undef : Value) :: (undef : Value) :: (undef : Value) :: (undef : Value) :: (undef : Value) :: (undef : Value) :: (undef : Value) :: (undef : Value) :: (undef : Value) :: (undef : Value) :: (undef : Value) :: (undef : Value) :: (undef : Value) :: (undef : Value) :: (undef : Value) :: (undef : Value) :: (undef : Value) :: (undef : Value) :: (undef : Value) :: (undef : Value) :: (undef : Value) :: (undef : Value) :: (undef : Value) :: (undef : Value) :: (undef : Value) :: (undef : Value) :: (undef : Value) :: (undef : Value) :: (undef : Value) :: (undef : Value) :: (undef : Value) :: (undef : Value) :: (undef : Value) :: (undef : Value) :: (undef : Value) :: (undef : Value) :: (undef : Value) :: (undef : Value) :: (undef : Value) :: (undef : Value) :: (undef : Value) :: (undef : Value) :: (undef : Value) :: (undef : Value) :: (undef : Value) :: (undef : Value) :: (undef : Value) :: (undef : Value) :: (undef : Value) :: (undef : Value) :: (undef : Value) :: (undef : Value) :: (undef : Value) :: (undef : Value) :: (undef : Value) :: (undef : Value) :: (undef : Value) :: (undef : Value) :: (undef : Value) :: (undef : Value) :: (undef : Value) :: (undef : Value) :: (undef : Value) :: (undef : Value) :: (undef : Value) :: (undef : Value) :: (undef : Value) :: (undef : Value) :: (undef : Value) :: (undef : Value) :: (undef : Value) :: (undef : Value) :: (undef : Value) :: (undef : Value) :: (undef : Value) :: (undef : Value) :: (undef : Value) :: (undef : Value) :: (undef : Value) :: (undef : Value) :: (undef : Value) :: (undef : Value) :: (undef : Value) :: (undef : Value) :: (undef : Value) :: (undef : Value) :: (undef : Value) :: (undef : Value) :: (undef : Value) :: (undef : Value) :: (undef : Value) :: (undef : Value) :: (undef : Value) :: (undef : Value) :: (undef : Value) :: (undef : Value) :: (undef : Value) :: []), defers := [] } : Act)) T1 T2 T3) (fun _ _ _ h => h.kept) ?hd ?hstep _ _ _ _ ?start ?fin
  case fin => exact Nat.le_of_ble_eq_true (by kernel_rfl)
  case start =>
    exact ⟨rfl, HD0.out, ⟨undef, undef, undef, undef, undef, undef, 0, 0, 0, rfl, (fun h => by cases h), (fun h => by cases h), (fun h => by cases h), (fun h => by cases h), (fun h => by cases h), (fun h => by cases h), (fun h => by cases h), (fun h => by cases h), fun h => by cases h⟩, by decide, (fun h => by cases h), (fun h => by cases h), fun h => by cases h⟩
  case hstep =>
    rintro l a w1 i ⟨hsz, hk, ⟨v7, v8, v9, v19, v23, v27, b7, b8, b9, rfl, e3, e7, e11, m7, m8, m9, n78, n79, n89⟩, h9, o7, o8, o9⟩ hr
    have hun := (mem_ready.1 hr).1
    have hf0 := false_of_true hun
    have hlt : i < 18 := ready_lt hr
    have hne : i ∉ [0, 1, 2, 4, 5, 6, 8, 9, 10] := fun hm => by rw [h9 i hm] at hun; cases hun
    have hi : i = 3 ∨ i = 7 ∨ i = 11 ∨ i = 12 ∨ i = 13 ∨ i = 14 ∨ i = 15 ∨ i = 16 ∨ i = 17 := by
      simp only [List.mem_cons, List.not_mem_nil, or_false, not_or] at hne
      omega
    rcases hi with rfl | rfl | rfl | rfl | rfl | rfl | rfl | rfl | rfl
    · refine tk_call (d := 19) (R := fun v w2 => v = tyV T1 ∧ Keeps [] w1 w2) rfl rfl (by rfl) 63 #[.pointer (some ⟨fb, fo, none⟩), .int .i64 x.dst] (exec_call2 rfl rfl rfl rfl (by go_simp)) ((H1.out w1 hk).mono fun e w2 h => ⟨_, h.1, rfl, h.2⟩) ?_
      rintro v w2 ⟨rfl, k2⟩
      exact ⟨by simpa using hsz, hk.quiet k2, ⟨v7, v8, v9, tyV T1, v23, v27, b7, b8, b9, rfl, (fun _ => rfl), (fun h => e7 (by rw [bit_ne false (by decide)] at h; exact h)), (fun h => e11 (by rw [bit_ne false (by decide)] at h; exact h)), m7.quiet k2 (by decide) (by decide), m8.quiet k2 (by decide) (by decide), m9.quiet k2 (by decide) (by decide), (fun h h' => n78 (by rw [bit_ne false (by decide)] at h; exact h) (by rw [bit_ne false (by decide)] at h'; exact h')), (fun h h' => n79 (by rw [bit_ne false (by decide)] at h; exact h) (by rw [bit_ne false (by decide)] at h'; exact h')), fun h h' => n89 (by rw [bit_ne false (by decide)] at h; exact h) (by rw [bit_ne false (by decide)] at h'; exact h')⟩, nine_set _ h9, ord_set _ o7 (fun e => by cases e), ord_set _ o8 (fun e => by cases e), ord_set _ o9 (fun e => by cases e)⟩
    · refine tk_call (d := 23) (R := fun v w2 => v = tyV T2 ∧ Keeps [] w1 w2) rfl rfl (by rfl) 63 #[.pointer (some ⟨fb, fo, none⟩), .int .i64 x.a] (exec_call2 rfl rfl rfl rfl (by go_simp)) ((H2.out w1 hk).mono fun e w2 h => ⟨_, h.1, rfl, h.2⟩) ?_
      rintro v w2 ⟨rfl, k2⟩
      exact ⟨by simpa using hsz, hk.quiet k2, ⟨v7, v8, v9, v19, tyV T2, v27, b7, b8, b9, rfl, (fun h => e3 (by rw [bit_ne false (by decide)] at h; exact h)), (fun _ => rfl), (fun h => e11 (by rw [bit_ne false (by decide)] at h; exact h)), m7.quiet k2 (by decide) (by decide), m8.quiet k2 (by decide) (by decide), m9.quiet k2 (by decide) (by decide), (fun h h' => n78 (by rw [bit_ne false (by decide)] at h; exact h) (by rw [bit_ne false (by decide)] at h'; exact h')), (fun h h' => n79 (by rw [bit_ne false (by decide)] at h; exact h) (by rw [bit_ne false (by decide)] at h'; exact h')), fun h h' => n89 (by rw [bit_ne false (by decide)] at h; exact h) (by rw [bit_ne false (by decide)] at h'; exact h')⟩, nine_set _ h9, ord_set _ o7 (fun e => by cases e), ord_set _ o8 (fun e => by cases e), ord_set _ o9 (fun e => by cases e)⟩
    · refine tk_call (d := 27) (R := fun v w2 => v = tyV T3 ∧ Keeps [] w1 w2) rfl rfl (by rfl) 63 #[.pointer (some ⟨fb, fo, none⟩), .int .i64 x.b] (exec_call2 rfl rfl rfl rfl (by go_simp)) ((H3.out w1 hk).mono fun e w2 h => ⟨_, h.1, rfl, h.2⟩) ?_
      rintro v w2 ⟨rfl, k2⟩
      exact ⟨by simpa using hsz, hk.quiet k2, ⟨v7, v8, v9, v19, v23, tyV T3, b7, b8, b9, rfl, (fun h => e3 (by rw [bit_ne false (by decide)] at h; exact h)), (fun h => e7 (by rw [bit_ne false (by decide)] at h; exact h)), (fun _ => rfl), m7.quiet k2 (by decide) (by decide), m8.quiet k2 (by decide) (by decide), m9.quiet k2 (by decide) (by decide), (fun h h' => n78 (by rw [bit_ne false (by decide)] at h; exact h) (by rw [bit_ne false (by decide)] at h'; exact h')), (fun h h' => n79 (by rw [bit_ne false (by decide)] at h; exact h) (by rw [bit_ne false (by decide)] at h'; exact h')), fun h h' => n89 (by rw [bit_ne false (by decide)] at h; exact h) (by rw [bit_ne false (by decide)] at h'; exact h')⟩, nine_set _ h9, ord_set _ o7 (fun e => by cases e), ord_set _ o8 (fun e => by cases e), ord_set _ o9 (fun e => by cases e)⟩
    · have hs0 : l.getD 15 false = false := by
        cases hb : l.getD 15 false with
        | false => rfl
        | true => exact absurd (o7 hb) (by rw [hf0]; simp)
      refine tk_run (v := .pointer (some ⟨w1.heap.size, 0, none⟩)) (w' := w1.alloc (.cells #[.int .i64 0, .int .i64 0] 39)) rfl (by rfl) (by kernel_rfl) ?_
      exact ⟨by simpa using hsz, hk.quiet (Keeps.alloc [] _ _), ⟨.pointer (some ⟨w1.heap.size, 0, none⟩), v8, v9, v19, v23, v27, w1.heap.size, b8, b9, rfl, (fun h => e3 (by rw [bit_ne false (by decide)] at h; exact h)), (fun h => e7 (by rw [bit_ne false (by decide)] at h; exact h)), (fun h => e11 (by rw [bit_ne false (by decide)] at h; exact h)), VarI.new hk hs0 (by decide), m8.quiet (Keeps.alloc [] _ _) (by decide) (by decide), m9.quiet (Keeps.alloc [] _ _) (by decide) (by decide), (fun h h' e => by have := m8.lt (by rw [bit_ne false (by decide)] at h'; exact h'); omega), (fun h h' e => by have := m9.lt (by rw [bit_ne false (by decide)] at h'; exact h'); omega), (fun h h' => n89 (by rw [bit_ne false (by decide)] at h; exact h) (by rw [bit_ne false (by decide)] at h'; exact h'))⟩, nine_set _ h9, ord_set _ o7 (fun e => by cases e), ord_set _ o8 (fun e => by cases e), ord_set _ o9 (fun e => by cases e)⟩
    · have hs0 : l.getD 16 false = false := by
        cases hb : l.getD 16 false with
        | false => rfl
        | true => exact absurd (o8 hb) (by rw [hf0]; simp)
      refine tk_run (v := .pointer (some ⟨w1.heap.size, 0, none⟩)) (w' := w1.alloc (.cells #[.int .i64 0, .int .i64 0] 39)) rfl (by rfl) (by kernel_rfl) ?_
      exact ⟨by simpa using hsz, hk.quiet (Keeps.alloc [] _ _), ⟨v7, .pointer (some ⟨w1.heap.size, 0, none⟩), v9, v19, v23, v27, b7, w1.heap.size, b9, rfl, (fun h => e3 (by rw [bit_ne false (by decide)] at h; exact h)), (fun h => e7 (by rw [bit_ne false (by decide)] at h; exact h)), (fun h => e11 (by rw [bit_ne false (by decide)] at h; exact h)), m7.quiet (Keeps.alloc [] _ _) (by decide) (by decide), VarI.new hk hs0 (by decide), m9.quiet (Keeps.alloc [] _ _) (by decide) (by decide), (fun h h' e => by have := m7.lt (by rw [bit_ne false (by decide)] at h; exact h); omega), (fun h h' => n79 (by rw [bit_ne false (by decide)] at h; exact h) (by rw [bit_ne false (by decide)] at h'; exact h')), (fun h h' e => by have := m9.lt (by rw [bit_ne false (by decide)] at h'; exact h'); omega)⟩, nine_set _ h9, ord_set _ o7 (fun e => by cases e), ord_set _ o8 (fun e => by cases e), ord_set _ o9 (fun e => by cases e)⟩
    · have hs0 : l.getD 17 false = false := by
        cases hb : l.getD 17 false with
        | false => rfl
        | true => exact absurd (o9 hb) (by rw [hf0]; simp)
      refine tk_run (v := .pointer (some ⟨w1.heap.size, 0, none⟩)) (w' := w1.alloc (.cells #[.int .i64 0, .int .i64 0] 39)) rfl (by rfl) (by kernel_rfl) ?_
      exact ⟨by simpa using hsz, hk.quiet (Keeps.alloc [] _ _), ⟨v7, v8, .pointer (some ⟨w1.heap.size, 0, none⟩), v19, v23, v27, b7, b8, w1.heap.size, rfl, (fun h => e3 (by rw [bit_ne false (by decide)] at h; exact h)), (fun h => e7 (by rw [bit_ne false (by decide)] at h; exact h)), (fun h => e11 (by rw [bit_ne false (by decide)] at h; exact h)), m7.quiet (Keeps.alloc [] _ _) (by decide) (by decide), m8.quiet (Keeps.alloc [] _ _) (by decide) (by decide), VarI.new hk hs0 (by decide), (fun h h' => n78 (by rw [bit_ne false (by decide)] at h; exact h) (by rw [bit_ne false (by decide)] at h'; exact h')), (fun h h' e => by have := m7.lt (by rw [bit_ne false (by decide)] at h; exact h); omega), (fun h h' e => by have := m8.lt (by rw [bit_ne false (by decide)] at h; exact h); omega)⟩, nine_set _ h9, ord_set _ o7 (fun e => by cases e), ord_set _ o8 (fun e => by cases e), ord_set _ o9 (fun e => by cases e)⟩
    · have hm := ready_after hr 12 (by kernel_rfl)
      have hc := ready_after hr 3 (by kernel_rfl)
      obtain ⟨hv, hge, hty⟩ := m7 hm
      have hT := e3 hc
      subst hv hT
      have z0 := hfrozen hty 0
      have z1 := hfrozen hty 1
      have c0 := hcell hty 0
      have c1 := hcell hty 1
      refine tk_skip (w' := (w1.setCell ⟨b7, 0, none⟩ (.int .i64 T1.1)).setCell ⟨b7, 1, none⟩ (.int .i64 T1.2)) rfl (by rfl) (stv hty rfl rfl rfl) ?_
      exact ⟨by simpa using hsz, hk.trans (keeps2 _ b7 _ _) (fun x hx hl => by simp at hx; omega), ⟨.pointer (some ⟨b7, 0, none⟩), v8, v9, tyV T1, v23, v27, b7, b8, b9, rfl, (fun _ => rfl), (fun h => e7 (by rw [bit_ne false (by decide)] at h; exact h)), (fun h => e11 (by rw [bit_ne false (by decide)] at h; exact h)), m7.put (by omega) (by decide), m8.far (fun h e => n78 hm h e.symm) (by decide) (by decide), m9.far (fun h e => n79 hm h e.symm) (by decide) (by decide), (fun h h' => n78 (by rw [bit_ne false (by decide)] at h; exact h) (by rw [bit_ne false (by decide)] at h'; exact h')), (fun h h' => n79 (by rw [bit_ne false (by decide)] at h; exact h) (by rw [bit_ne false (by decide)] at h'; exact h')), (fun h h' => n89 (by rw [bit_ne false (by decide)] at h; exact h) (by rw [bit_ne false (by decide)] at h'; exact h'))⟩, nine_set _ h9, ord_set _ o7 (fun _ => hm), ord_set _ o8 (fun e => by cases e), ord_set _ o9 (fun e => by cases e)⟩
    · have hm := ready_after hr 13 (by kernel_rfl)
      have hc := ready_after hr 7 (by kernel_rfl)
      obtain ⟨hv, hge, hty⟩ := m8 hm
      have hT := e7 hc
      subst hv hT
      have z0 := hfrozen hty 0
      have z1 := hfrozen hty 1
      have c0 := hcell hty 0
      have c1 := hcell hty 1
      refine tk_skip (w' := (w1.setCell ⟨b8, 0, none⟩ (.int .i64 T2.1)).setCell ⟨b8, 1, none⟩ (.int .i64 T2.2)) rfl (by rfl) (stv hty rfl rfl rfl) ?_
      exact ⟨by simpa using hsz, hk.trans (keeps2 _ b8 _ _) (fun x hx hl => by simp at hx; omega), ⟨v7, .pointer (some ⟨b8, 0, none⟩), v9, v19, tyV T2, v27, b7, b8, b9, rfl, (fun h => e3 (by rw [bit_ne false (by decide)] at h; exact h)), (fun _ => rfl), (fun h => e11 (by rw [bit_ne false (by decide)] at h; exact h)), m7.far (fun h => n78 h hm) (by decide) (by decide), m8.put (by omega) (by decide), m9.far (fun h e => n89 hm h e.symm) (by decide) (by decide), (fun h h' => n78 (by rw [bit_ne false (by decide)] at h; exact h) (by rw [bit_ne false (by decide)] at h'; exact h')), (fun h h' => n79 (by rw [bit_ne false (by decide)] at h; exact h) (by rw [bit_ne false (by decide)] at h'; exact h')), (fun h h' => n89 (by rw [bit_ne false (by decide)] at h; exact h) (by rw [bit_ne false (by decide)] at h'; exact h'))⟩, nine_set _ h9, ord_set _ o7 (fun e => by cases e), ord_set _ o8 (fun _ => hm), ord_set _ o9 (fun e => by cases e)⟩
    · have hm := ready_after hr 14 (by kernel_rfl)
      have hc := ready_after hr 11 (by kernel_rfl)
      obtain ⟨hv, hge, hty⟩ := m9 hm
      have hT := e11 hc
      subst hv hT
      have z0 := hfrozen hty 0
      have z1 := hfrozen hty 1
      have c0 := hcell hty 0
      have c1 := hcell hty 1
      refine tk_skip (w' := (w1.setCell ⟨b9, 0, none⟩ (.int .i64 T3.1)).setCell ⟨b9, 1, none⟩ (.int .i64 T3.2)) rfl (by rfl) (stv hty rfl rfl rfl) ?_
      exact ⟨by simpa using hsz, hk.trans (keeps2 _ b9 _ _) (fun x hx hl => by simp at hx; omega), ⟨v7, v8, .pointer (some ⟨b9, 0, none⟩), v19, v23, tyV T3, b7, b8, b9, rfl, (fun h => e3 (by rw [bit_ne false (by decide)] at h; exact h)), (fun h => e7 (by rw [bit_ne false (by decide)] at h; exact h)), (fun _ => rfl), m7.far (fun h => n79 h hm) (by decide) (by decide), m8.far (fun h => n89 h hm) (by decide) (by decide), m9.put (by omega) (by decide), (fun h h' => n78 (by rw [bit_ne false (by decide)] at h; exact h) (by rw [bit_ne false (by decide)] at h'; exact h')), (fun h h' => n79 (by rw [bit_ne false (by decide)] at h; exact h) (by rw [bit_ne false (by decide)] at h'; exact h')), (fun h h' => n89 (by rw [bit_ne false (by decide)] at h; exact h) (by rw [bit_ne false (by decide)] at h'; exact h'))⟩, nine_set _ h9, ord_set _ o7 (fun e => by cases e), ord_set _ o8 (fun e => by cases e), ord_set _ o9 (fun _ => hm)⟩
  case hd =>
    rintro l a w1 ⟨hsz, hk, ⟨v7, v8, v9, v19, v23, v27, b7, b8, b9, rfl, e3, e7, e11, m7, m8, m9, -, -, -⟩, -, -, -, -⟩ hr
    have hall := all_listed hsz hr (by kernel_rfl)
    obtain ⟨hv7, -, t7⟩ := m7 (hall 12 (by decide))
    obtain ⟨hv8, -, t8⟩ := m8 (hall 13 (by decide))
    obtain ⟨hv9, -, t9⟩ := m9 (hall 14 (by decide))
    rw [hall 15 (by decide)] at t7
    rw [hall 16 (by decide)] at t8
    rw [hall 17 (by decide)] at t9
    have hv19 := e3 (hall 3 (by decide))
    have hv23 := e7 (hall 7 (by decide))
    have hv27 := e11 (hall 11 (by decide))
    subst hv7 hv8 hv9 hv19 hv23 hv27
    have T7 : Box (TyAt w1 b7 T1) := hid t7
    have T8 : Box (TyAt w1 b8 T2) := hid t8
    have T9 : Box (TyAt w1 b9 T3) := hid t9
    have K1 := hid (KA.out.quiet hk)
    have h5 := keep_heap HN.out hk
    have i0 := hcell h5 0
    have HI5 := hid h5
    clear hall m7 m8 m9 e3 e7 e11 hsz hr l t7 t8 t9 h5 ld stv HD0 IN H1 H2 H3 HN hk
    have s0 := hcell T7.out 0
    have s1 := hcell T7.out 1
    have p0 := hcell T8.out 0
    have p1 := hcell T8.out 1
    have r0 := hcell T9.out 0
    have r1 := hcell T9.out 1
    try simp only [HT2.out, HT3.out] at HRES
    have i4 := hcell HI5.out 4
    generalize hO : fieldO P T2 x.n = O at *
    clear hO
    obtain ⟨t, b, hv, hb⟩ := field_cases O
    rw [hv] at HFI
    have HOB : Box (b = O.isSome ∧ ∀ u, O = some u → t = u) := hid ⟨hb, fun u e => by
      subst e
      unfold fieldV tyV at hv
      simp at hv
      exact Prod.ext hv.1.1.symm hv.1.2.symm⟩
    clear hv hb
    go_wp2_with fail
    refine (HFI.out _ K1.out).mono ?_
    rintro e w3 ⟨rfl, k3⟩
    have KT := k3.quiet (Keeps.alloc [] w3 (.cells #[.int .i64 t.1, .int .i64 t.2] 39))
    have hd := keep_heap T9.out KT
    have hnn := heap_new w3 (.cells #[.int .i64 t.1, .int .i64 t.2] 39)
    have KZ := hid (K1.out.quiet KT)
    have j0 := hcell hd 0
    have j1 := hcell hd 1
    have n0 := hcell hnn 0
    have n1 := hcell hnn 1
    clear k3 KT hd hnn s0 s1 p0 p1 r0 r1 i0 i4
    have re := fun w' => run_tyE t.1 t.2 T3.1 T3.2 w'
    cases O with
    | none =>
      have HB : Box (RES = false) := HRES
      have eb : b = false := HOB.out.1
      subst eb
      go_wp2_with fail
      go_ret
      exact ⟨by rw [HB.out]; rfl, KZ.out⟩
    | some u =>
      have eu : t = u := HOB.out.2 u rfl
      subst eu
      have HB : Box (RES = tyE t T3) := HRES
      have eb : b = true := HOB.out.1
      subst eb
      go_wp2_with fail
      go_ret
      exact ⟨by rw [HB.out]; rfl, KZ.out⟩
set_option maxRecDepth 20000 in
set_option maxHeartbeats 8000000 in
theorem fit_10 {w : World} {pb po fb fo : Nat} {P : Pr8} {f : Fu8} (hp : PrC w pb po P) (hf : FuC w fb fo f) (x : In8) (ar : Value) (hn : inB x.n P.funcs.length = true) (hop : x.op = 10) : Calls Tryd.prog 32 #[.pointer (some ⟨pb, po, none⟩), .pointer (some ⟨fb, fo, none⟩), insV x ar] w fun e w' => e = .returned (.bool (tyE (regT f x.dst) (2, (fun8 P x.n.toNat).sig))) ∧ Keeps [] w w' := by
  obtain ⟨RES, hRES⟩ : ∃ r, r = (tyE (regT f x.dst) (2, (fun8 P x.n.toNat).sig)) := ⟨_, rfl⟩
  rw [← hRES]
  have HRES := hid hRES
  clear hRES
  obtain ⟨g0, g1⟩ := inB_iff.1 hn
  obtain ⟨m, hm⟩ : ∃ m : Nat, x.n = (m : Int) := ⟨x.n.toNat, by omega⟩
  have HW : Box (∀ w, Calls Tryd.prog 29 #[.int .i64 x.n, .int .i64 (P.funcs.length : Int)] w fun e w' => e = .returned (.bool true) ∧ w' = w) := hid fun w => by rw [← hn]; exact within_any _ _ w
  obtain ⟨fa, fp, c4, r4, _⟩ := hp.c4
  obtain ⟨gb, go, rfl, hfu0⟩ := r4.at (getD_get (l := P.funcs) (k := m) (d := ⟨0, [], []⟩) (by omega))
  have HC4 : Box (∀ w', Keeps [] w w' → w'.cell? ⟨pb, po + 4, none⟩ = some (.slice (some ⟨gb, go, none⟩) P.funcs.length fp) ∧ w'.cell? ⟨gb, go + m * 3, none⟩ = some (.int .i64 (fun8 P m).sig)) := hid fun w' k => ⟨cell_stays k c4, cell_stays k hfu0.c0.1⟩
  have em : x.n.toNat = m := by omega
  have hgm : (m : Int) < (P.funcs.length : Int) := by omega
  rw [em] at HRES
  have hmm := hid hm
  clear c4 r4 hfu0 hn g0 g1 em hm hp
  generalize (fun8 P m).sig = sn at *
  generalize P.funcs.length = FN at *
  have ka := Keeps.alloc [] w (.cells #[.int .i64 x.op, .int .i64 x.dst, .int .i64 x.a, .int .i64 x.b, .int .i64 x.n, ar] 54)
  have hn := heap_new w (.cells #[.int .i64 x.op, .int .i64 x.dst, .int .i64 x.a, .int .i64 x.b, .int .i64 x.n, ar] 54)
  have HRT := hid fun (r : Int) (w' : World) (k : Keeps [] w w') => regtype_any (FuC.stays _ _ _ _ _ k hf) r
  have KA := hid ka
  have HN := hid hn
  clear hf ka hn
  unfold insV
  rw [hop] at KA HN ⊢
  go_enter Tryd.func32, Tryd.ntmps32
  go_upto_region 1 with fail
  generalize w.alloc (.cells #[.int .i64 10, .int .i64 x.dst, .int .i64 x.a, .int .i64 x.b, .int .i64 x.n, ar] 54) = WA at *
  generalize w.heap.size = q at *
  have IN : Box (∀ w', Keeps [] WA w' → w'.cell? ⟨q, 1, none⟩ = some (.int .i64 x.dst) ∧ w'.cell? ⟨q, 2, none⟩ = some (.int .i64 x.a) ∧ w'.cell? ⟨q, 3, none⟩ = some (.int .i64 x.b)) := hid fun w' k => by
    have := keep_heap HN.out k
    exact ⟨hcell this 1, hcell this 2, hcell this 3⟩
  have H1 := hid fun (w' : World) (k : Keeps [] WA w') => HRT.out x.dst w' (KA.out.quiet k)
  have H2 := hid fun (w' : World) (k : Keeps [] WA w') => HRT.out x.a w' (KA.out.quiet k)
  have H3 := hid fun (w' : World) (k : Keeps [] WA w') => HRT.out x.b w' (KA.out.quiet k)
  have HD0 := hid (Keeps.drew [] WA)
  have ld : ∀ {w' : World} {ad : Addr} {v : Value} {ev : Operand → Value} {oi : Oper} {y : Operand}, w'.cell? ad = some v → oi.op = .load 3 y → ev y = .pointer (some ad) → (execOp ev oi).run Tryd.prog w' = .ok (.value v) w' := fun hc ho hy => by
    simp [execOp, ho, hy, go_sem, hc]
  have stv : ∀ {w1 : World} {b : Nat} {t t' : Int × Int} {ev : Operand → Value} {oi : Oper} {y z : Operand}, TyAt w1 b t → oi.op = .store 39 y z → ev y = .pointer (some ⟨b, 0, none⟩) → ev z = tyV t' → (execOp ev oi).run Tryd.prog w1 = .ok .skip ((w1.setCell ⟨b, 0, none⟩ (.int .i64 t'.1)).setCell ⟨b, 1, none⟩ (.int .i64 t'.2)) := fun {w1 b t t' ev oi y z} hty ho hy hz => by
    have z0 := hfrozen hty 0
    have z1 := hfrozen hty 1
    have c0 := hcell hty 0
    have c1 := hcell hty 1
    simp [execOp, ho, hy, hz, go_sem, z0, z1, c0, c1]
  generalize hT1 : regT f x.dst = T1 at *
  generalize hT2 : regT f x.a = T2 at *
  generalize hT3 : regT f x.b = T3 at *
  have HT1 := hid hT1
  have HT2 := hid hT2
  have HT3 := hid hT3
  clear hT1 hT2 hT3
  refine wp_region_held_drew (S := fun w' => Keeps [] WA w') (by kernel_rfl) HD0.out (fun _ => ?_)
  refine tk_yield (i := 0) (d := 16) (v := .pointer (some ⟨fb, fo, none⟩)) rfl rfl (by as_aux_lemma => kernel_rfl) (by as_aux_lemma => kernel_rfl) (by as_aux_lemma => kernel_rfl) (fun _ _ _ h => h) (by rfl) HD0.out (fun _ _ => rfl) ?_
  simp only [Act.put, List.setIfInBounds_toArray, List.set_cons_zero, List.set_cons_succ]
  refine tk_yield (i := 1) (d := 17) (v := .pointer (some ⟨q, 1, none⟩)) rfl rfl (by as_aux_lemma => kernel_rfl) (by as_aux_lemma => kernel_rfl) (by as_aux_lemma => kernel_rfl) (fun _ _ _ h => h) (by rfl) HD0.out (fun _ _ => rfl) ?_
  simp only [Act.put, List.setIfInBounds_toArray, List.set_cons_zero, List.set_cons_succ]
  refine tk_yield (i := 2) (d := 18) (v := .int .i64 x.dst) rfl rfl (by as_aux_lemma => kernel_rfl) (by as_aux_lemma => kernel_rfl) (by as_aux_lemma => kernel_rfl) (fun _ _ _ h => h) (by rfl) HD0.out (fun w' k => ld (IN.out w' k).1 rfl rfl) ?_
  simp only [Act.put, List.setIfInBounds_toArray, List.set_cons_zero, List.set_cons_succ]
  refine tk_yield (i := 4) (d := 20) (v := .pointer (some ⟨fb, fo, none⟩)) rfl rfl (by as_aux_lemma => kernel_rfl) (by as_aux_lemma => kernel_rfl) (by as_aux_lemma => kernel_rfl) (fun _ _ _ h => h) (by rfl) HD0.out (fun _ _ => rfl) ?_
  simp only [Act.put, List.setIfInBounds_toArray, List.set_cons_zero, List.set_cons_succ]
  refine tk_yield (i := 5) (d := 21) (v := .pointer (some ⟨q, 2, none⟩)) rfl rfl (by as_aux_lemma => kernel_rfl) (by as_aux_lemma => kernel_rfl) (by as_aux_lemma => kernel_rfl) (fun _ _ _ h => h) (by rfl) HD0.out (fun _ _ => rfl) ?_
  simp only [Act.put, List.setIfInBounds_toArray, List.set_cons_zero, List.set_cons_succ]
  refine tk_yield (i := 6) (d := 22) (v := .int .i64 x.a) rfl rfl (by as_aux_lemma => kernel_rfl) (by as_aux_lemma => kernel_rfl) (by as_aux_lemma => kernel_rfl) (fun _ _ _ h => h) (by rfl) HD0.out (fun w' k => ld (IN.out w' k).2.1 rfl rfl) ?_
  simp only [Act.put, List.setIfInBounds_toArray, List.set_cons_zero, List.set_cons_succ]
  refine tk_yield (i := 8) (d := 24) (v := .pointer (some ⟨fb, fo, none⟩)) rfl rfl (by as_aux_lemma => kernel_rfl) (by as_aux_lemma => kernel_rfl) (by as_aux_lemma => kernel_rfl) (fun _ _ _ h => h) (by rfl) HD0.out (fun _ _ => rfl) ?_
  simp only [Act.put, List.setIfInBounds_toArray, List.set_cons_zero, List.set_cons_succ]
  refine tk_yield (i := 9) (d := 25) (v := .pointer (some ⟨q, 3, none⟩)) rfl rfl (by as_aux_lemma => kernel_rfl) (by as_aux_lemma => kernel_rfl) (by as_aux_lemma => kernel_rfl) (fun _ _ _ h => h) (by rfl) HD0.out (fun _ _ => rfl) ?_
  simp only [Act.put, List.setIfInBounds_toArray, List.set_cons_zero, List.set_cons_succ]
  refine tk_yield (i := 10) (d := 26) (v := .int .i64 x.b) rfl rfl (by as_aux_lemma => kernel_rfl) (by as_aux_lemma => kernel_rfl) (by as_aux_lemma => kernel_rfl) (fun _ _ _ h => h) (by rfl) HD0.out (fun w' k => ld (IN.out w' k).2.2 rfl rfl) ?_
  simp only [Act.put, List.setIfInBounds_toArray, List.set_cons_zero, List.set_cons_succ]
  refine wpAnyH_inv (ThreeI WA (fun v7 v8 v9 v19 v23 v27 => ({ tmps := List.toArray ((.pointer (some ⟨pb, po, none⟩) : Value) :: (.pointer (some ⟨fb, fo, none⟩) : Value) :: (.agg #[.int .i64 10, .int .i64 x.dst, .int .i64 x.a, .int .i64 x.b, .int .i64 x.n, ar] : Value) :: (undef : Value) :: (undef : Value) :: (.pointer (some ⟨q, 0, none⟩) : Value) :: (.bool false : Value) :: (v7 : Value) :: (v8 : Value) :: (v9 : Value) :: (undef : Value) :: (undef : Value) :: (undef : Value) :: (undef : Value) :: (undef : Value) :: (undef : Value) :: (.pointer (some ⟨fb, fo, none⟩) : Value) :: (.pointer (some ⟨q, 1, none⟩) : Value) :: (.int .i64 x.dst : Value) :: (v19 : Value) :: (.pointer (some ⟨fb, fo, none⟩) : Value) :: (.pointer (some ⟨q, 2, none⟩) : Value) :: (.int .i64 x.a : Value) :: (v23 : Value) :: (.pointer (some ⟨fb, fo, none⟩) : Value) :: (.pointer (some ⟨q, 3, none⟩) : Value) :: (.int .i64 x.b : Value) :: (v27 : Value) :: (undef : Value) :: (undef : Value) :: (undef : Value) :: (undef : Value) :: (undef : Value) :: (undef : Value) :: (undef : Value) :: (undef : Value) :: (undef : Value) :: (undef : Value) :: (undef : Value) :: (undef : Value) :: (undef : Value) :: (undef : Value) :: (undef : Value) :: (undef : Value) :: (undef : Value) :: (undef : Value) :: (undef : Value) :: (undef : Value) :: (undef : Value) :: (undef : Value) :: (undef : Value) :: (undef : Value) :: (undef : Value) :: (undef : Value) :: (undef : Value) :: (undef : Value) :: (undef : Value) :: (undef : Value) :: (undef : Value) :: (undef : Value) :: (undef : Value) :: (undef : Value) :: (undef : Value) :: (undef : Value) :: (undef : Value) :: (undef : Value) :: (undef : Value) :: (undef : Value) :: (undef : Value) :: (undef : Value) :: (undef : Value) :: (undef : Value) :: (undef : Value) :: (undef : Value) :: (undef : Value) :: (undef : Value) :: (undef : Value) :: (undef : Value) :: (undef : Value) :: (undef : Value) :: (undef : Value) :: (undef : Value) :: (undef : Value) :: (undef : Value) :: (undef : Value) :: (undef : Value) :: (undef : Value) :: (undef : Value) :: (undef : Value) :: (undef : Value) :: (undef : Value) :: (undef : Value) :: (undef : Value) :: (undef : Value) :: (undef : Value) :: (undef : Value) :: (undef : Value) :: (undef : Value) :: (undef : Value) :: (undef : Value) :: (undef : Value) :: (undef : Value) :: (undef : Value) :: (undef : Value) :: (undef : Value) :: (undef : Value) :: (undef : Value) :: (undef : Value) :: (undef : Value) :: (undef : Value) :: (undef : Value) :: (undef : Value) :: (undef : Value) :: (undef : Value) :: (undef : Value) :: (undef : Value) :: (undef : Value) :: (undef : Value) :: (undef : Value) :: (undef : Value) :: (undef : Value) :: (undef : Value) :: (undef : Value) :: (undef : Value) :: (undef : Value) :: (undef : Value) :: (undef : Value) :: (undef : Value) :: (undef : Value) :: (undef : Value) :: (undef : Value) :: (undef : Value) :: (undef : Value) :: (undef : Value) :: (undef : Value) :: (undef : Value) :: (undef : Value) :: (undef : Value) :: (undef : Value) :: (undef : Value) :: (undef : Value) :: (undef : Value) :: (undef : Value) :: (undef : Value) :: (undef : Value) :: (undef : Value) :: (undef : Value) :: (undef : Value) :: (undef : Value) :: (undef : Value) :: (undef : Value) :: (undef : Value) :: (undef : Value) :: (undef : Value) :: (undef : Value) :: (undef : Value) :: (undef : Value) :: (undef : Value) :: (undef : Value) :: (undef : Value) :: (undef : Value) :: (undef : Value) :: (undef : Value) :: (undef : Value) :: (undef : Value) :: (undef : Value) :: (undef : Value) :: (undef : Value) :: (undef : Value) :: (undef : Value) :: (undef : Value) :: []), defers := [] } : Act)) T1 T2 T3) (fun _ _ _ h => h.kept) ?hd ?hstep _ _ _ _ ?start ?fin
  case fin => exact Nat.le_of_ble_eq_true (by kernel_rfl)
  case start =>
    exact ⟨rfl, HD0.out, ⟨undef, undef, undef, undef, undef, undef, 0, 0, 0, rfl, (fun h => by cases h), (fun h => by cases h), (fun h => by cases h), (fun h => by cases h), (fun h => by cases h), (fun h => by cases h), (fun h => by cases h), (fun h => by cases h), fun h => by cases h⟩, by decide, (fun h => by cases h), (fun h => by cases h), fun h => by cases h⟩
  case hstep =>
    rintro l a w1 i ⟨hsz, hk, ⟨v7, v8, v9, v19, v23, v27, b7, b8, b9, rfl, e3, e7, e11, m7, m8, m9, n78, n79, n89⟩, h9, o7, o8, o9⟩ hr
    have hun := (mem_ready.1 hr).1
    have hf0 := false_of_true hun
    have hlt : i < 18 := ready_lt hr
    have hne : i ∉ [0, 1, 2, 4, 5, 6, 8, 9, 10] := fun hm => by rw [h9 i hm] at hun; cases hun
    have hi : i = 3 ∨ i = 7 ∨ i = 11 ∨ i = 12 ∨ i = 13 ∨ i = 14 ∨ i = 15 ∨ i = 16 ∨ i = 17 := by
      simp only [List.mem_cons, List.not_mem_nil, or_false, not_or] at hne
      omega
    rcases hi with rfl | rfl | rfl | rfl | rfl | rfl | rfl | rfl | rfl
    · refine tk_call (d := 19) (R := fun v w2 => v = tyV T1 ∧ Keeps [] w1 w2) rfl rfl (by rfl) 63 #[.pointer (some ⟨fb, fo, none⟩), .int .i64 x.dst] (exec_call2 rfl rfl rfl rfl (by go_simp)) ((H1.out w1 hk).mono fun e w2 h => ⟨_, h.1, rfl, h.2⟩) ?_
      rintro v w2 ⟨rfl, k2⟩
      exact ⟨by simpa using hsz, hk.quiet k2, ⟨v7, v8, v9, tyV T1, v23, v27, b7, b8, b9, rfl, (fun _ => rfl), (fun h => e7 (by rw [bit_ne false (by decide)] at h; exact h)), (fun h => e11 (by rw [bit_ne false (by decide)] at h; exact h)), m7.quiet k2 (by decide) (by decide), m8.quiet k2 (by decide) (by decide), m9.quiet k2 (by decide) (by decide), (fun h h' => n78 (by rw [bit_ne false (by decide)] at h; exact h) (by rw [bit_ne false (by decide)] at h'; exact h')), (fun h h' => n79 (by rw [bit_ne false (by decide)] at h; exact h) (by rw [bit_ne false (by decide)] at h'; exact h')), fun h h' => n89 (by rw [bit_ne false (by decide)] at h; exact h) (by rw [bit_ne false (by decide)] at h'; exact h')⟩, nine_set _ h9, ord_set _ o7 (fun e => by cases e), ord_set _ o8 (fun e => by cases e), ord_set _ o9 (fun e => by cases e)⟩
    · refine tk_call (d := 23) (R := fun v w2 => v = tyV T2 ∧ Keeps [] w1 w2) rfl rfl (by rfl) 63 #[.pointer (some ⟨fb, fo, none⟩), .int .i64 x.a] (exec_call2 rfl rfl rfl rfl (by go_simp)) ((H2.out w1 hk).mono fun e w2 h => ⟨_, h.1, rfl, h.2⟩) ?_
      rintro v w2 ⟨rfl, k2⟩
      exact ⟨by simpa using hsz, hk.quiet k2, ⟨v7, v8, v9, v19, tyV T2, v27, b7, b8, b9, rfl, (fun h => e3 (by rw [bit_ne false (by decide)] at h; exact h)), (fun _ => rfl), (fun h => e11 (by rw [bit_ne false (by decide)] at h; exact h)), m7.quiet k2 (by decide) (by decide), m8.quiet k2 (by decide) (by decide), m9.quiet k2 (by decide) (by decide), (fun h h' => n78 (by rw [bit_ne false (by decide)] at h; exact h) (by rw [bit_ne false (by decide)] at h'; exact h')), (fun h h' => n79 (by rw [bit_ne false (by decide)] at h; exact h) (by rw [bit_ne false (by decide)] at h'; exact h')), fun h h' => n89 (by rw [bit_ne false (by decide)] at h; exact h) (by rw [bit_ne false (by decide)] at h'; exact h')⟩, nine_set _ h9, ord_set _ o7 (fun e => by cases e), ord_set _ o8 (fun e => by cases e), ord_set _ o9 (fun e => by cases e)⟩
    · refine tk_call (d := 27) (R := fun v w2 => v = tyV T3 ∧ Keeps [] w1 w2) rfl rfl (by rfl) 63 #[.pointer (some ⟨fb, fo, none⟩), .int .i64 x.b] (exec_call2 rfl rfl rfl rfl (by go_simp)) ((H3.out w1 hk).mono fun e w2 h => ⟨_, h.1, rfl, h.2⟩) ?_
      rintro v w2 ⟨rfl, k2⟩
      exact ⟨by simpa using hsz, hk.quiet k2, ⟨v7, v8, v9, v19, v23, tyV T3, b7, b8, b9, rfl, (fun h => e3 (by rw [bit_ne false (by decide)] at h; exact h)), (fun h => e7 (by rw [bit_ne false (by decide)] at h; exact h)), (fun _ => rfl), m7.quiet k2 (by decide) (by decide), m8.quiet k2 (by decide) (by decide), m9.quiet k2 (by decide) (by decide), (fun h h' => n78 (by rw [bit_ne false (by decide)] at h; exact h) (by rw [bit_ne false (by decide)] at h'; exact h')), (fun h h' => n79 (by rw [bit_ne false (by decide)] at h; exact h) (by rw [bit_ne false (by decide)] at h'; exact h')), fun h h' => n89 (by rw [bit_ne false (by decide)] at h; exact h) (by rw [bit_ne false (by decide)] at h'; exact h')⟩, nine_set _ h9, ord_set _ o7 (fun e => by cases e), ord_set _ o8 (fun e => by cases e), ord_set _ o9 (fun e => by cases e)⟩
    · have hs0 : l.getD 15 false = false := by
        cases hb : l.getD 15 false with
        | false => rfl
        | true => exact absurd (o7 hb) (by rw [hf0]; simp)
      refine tk_run (v := .pointer (some ⟨w1.heap.size, 0, none⟩)) (w' := w1.alloc (.cells #[.int .i64 0, .int .i64 0] 39)) rfl (by rfl) (by kernel_rfl) ?_
      exact ⟨by simpa using hsz, hk.quiet (Keeps.alloc [] _ _), ⟨.pointer (some ⟨w1.heap.size, 0, none⟩), v8, v9, v19, v23, v27, w1.heap.size, b8, b9, rfl, (fun h => e3 (by rw [bit_ne false (by decide)] at h; exact h)), (fun h => e7 (by rw [bit_ne false (by decide)] at h; exact h)), (fun h => e11 (by rw [bit_ne false (by decide)] at h; exact h)), VarI.new hk hs0 (by decide), m8.quiet (Keeps.alloc [] _ _) (by decide) (by decide), m9.quiet (Keeps.alloc [] _ _) (by decide) (by decide), (fun h h' e => by have := m8.lt (by rw [bit_ne false (by decide)] at h'; exact h'); omega), (fun h h' e => by have := m9.lt (by rw [bit_ne false (by decide)] at h'; exact h'); omega), (fun h h' => n89 (by rw [bit_ne false (by decide)] at h; exact h) (by rw [bit_ne false (by decide)] at h'; exact h'))⟩, nine_set _ h9, ord_set _ o7 (fun e => by cases e), ord_set _ o8 (fun e => by cases e), ord_set _ o9 (fun e => by cases e)⟩
    · have hs0 : l.getD 16 false = false := by
        cases hb : l.getD 16 false with
        | false => rfl
        | true => exact absurd (o8 hb) (by rw [hf0]; simp)
      refine tk_run (v := .pointer (some ⟨w1.heap.size, 0, none⟩)) (w' := w1.alloc (.cells #[.int .i64 0, .int .i64 0] 39)) rfl (by rfl) (by kernel_rfl) ?_
      exact ⟨by simpa using hsz, hk.quiet (Keeps.alloc [] _ _), ⟨v7, .pointer (some ⟨w1.heap.size, 0, none⟩), v9, v19, v23, v27, b7, w1.heap.size, b9, rfl, (fun h => e3 (by rw [bit_ne false (by decide)] at h; exact h)), (fun h => e7 (by rw [bit_ne false (by decide)] at h; exact h)), (fun h => e11 (by rw [bit_ne false (by decide)] at h; exact h)), m7.quiet (Keeps.alloc [] _ _) (by decide) (by decide), VarI.new hk hs0 (by decide), m9.quiet (Keeps.alloc [] _ _) (by decide) (by decide), (fun h h' e => by have := m7.lt (by rw [bit_ne false (by decide)] at h; exact h); omega), (fun h h' => n79 (by rw [bit_ne false (by decide)] at h; exact h) (by rw [bit_ne false (by decide)] at h'; exact h')), (fun h h' e => by have := m9.lt (by rw [bit_ne false (by decide)] at h'; exact h'); omega)⟩, nine_set _ h9, ord_set _ o7 (fun e => by cases e), ord_set _ o8 (fun e => by cases e), ord_set _ o9 (fun e => by cases e)⟩
    · have hs0 : l.getD 17 false = false := by
        cases hb : l.getD 17 false with
        | false => rfl
        | true => exact absurd (o9 hb) (by rw [hf0]; simp)
      refine tk_run (v := .pointer (some ⟨w1.heap.size, 0, none⟩)) (w' := w1.alloc (.cells #[.int .i64 0, .int .i64 0] 39)) rfl (by rfl) (by kernel_rfl) ?_
      exact ⟨by simpa using hsz, hk.quiet (Keeps.alloc [] _ _), ⟨v7, v8, .pointer (some ⟨w1.heap.size, 0, none⟩), v19, v23, v27, b7, b8, w1.heap.size, rfl, (fun h => e3 (by rw [bit_ne false (by decide)] at h; exact h)), (fun h => e7 (by rw [bit_ne false (by decide)] at h; exact h)), (fun h => e11 (by rw [bit_ne false (by decide)] at h; exact h)), m7.quiet (Keeps.alloc [] _ _) (by decide) (by decide), m8.quiet (Keeps.alloc [] _ _) (by decide) (by decide), VarI.new hk hs0 (by decide), (fun h h' => n78 (by rw [bit_ne false (by decide)] at h; exact h) (by rw [bit_ne false (by decide)] at h'; exact h')), (fun h h' e => by have := m7.lt (by rw [bit_ne false (by decide)] at h; exact h); omega), (fun h h' e => by have := m8.lt (by rw [bit_ne false (by decide)] at h; exact h); omega)⟩, nine_set _ h9, ord_set _ o7 (fun e => by cases e), ord_set _ o8 (fun e => by cases e), ord_set _ o9 (fun e => by cases e)⟩
    · have hm := ready_after hr 12 (by kernel_rfl)
      have hc := ready_after hr 3 (by kernel_rfl)
      obtain ⟨hv, hge, hty⟩ := m7 hm
      have hT := e3 hc
      subst hv hT
      have z0 := hfrozen hty 0
      have z1 := hfrozen hty 1
      have c0 := hcell hty 0
      have c1 := hcell hty 1
      refine tk_skip (w' := (w1.setCell ⟨b7, 0, none⟩ (.int .i64 T1.1)).setCell ⟨b7, 1, none⟩ (.int .i64 T1.2)) rfl (by rfl) (stv hty rfl rfl rfl) ?_
      exact ⟨by simpa using hsz, hk.trans (keeps2 _ b7 _ _) (fun x hx hl => by simp at hx; omega), ⟨.pointer (some ⟨b7, 0, none⟩), v8, v9, tyV T1, v23, v27, b7, b8, b9, rfl, (fun _ => rfl), (fun h => e7 (by rw [bit_ne false (by decide)] at h; exact h)), (fun h => e11 (by rw [bit_ne false (by decide)] at h; exact h)), m7.put (by omega) (by decide), m8.far (fun h e => n78 hm h e.symm) (by decide) (by decide), m9.far (fun h e => n79 hm h e.symm) (by decide) (by decide), (fun h h' => n78 (by rw [bit_ne false (by decide)] at h; exact h) (by rw [bit_ne false (by decide)] at h'; exact h')), (fun h h' => n79 (by rw [bit_ne false (by decide)] at h; exact h) (by rw [bit_ne false (by decide)] at h'; exact h')), (fun h h' => n89 (by rw [bit_ne false (by decide)] at h; exact h) (by rw [bit_ne false (by decide)] at h'; exact h'))⟩, nine_set _ h9, ord_set _ o7 (fun _ => hm), ord_set _ o8 (fun e => by cases e), ord_set _ o9 (fun e => by cases e)⟩
    · have hm := ready_after hr 13 (by kernel_rfl)
      have hc := ready_after hr 7 (by kernel_rfl)
      obtain ⟨hv, hge, hty⟩ := m8 hm
      have hT := e7 hc
      subst hv hT
      have z0 := hfrozen hty 0
      have z1 := hfrozen hty 1
      have c0 := hcell hty 0
      have c1 := hcell hty 1
      refine tk_skip (w' := (w1.setCell ⟨b8, 0, none⟩ (.int .i64 T2.1)).setCell ⟨b8, 1, none⟩ (.int .i64 T2.2)) rfl (by rfl) (stv hty rfl rfl rfl) ?_
      exact ⟨by simpa using hsz, hk.trans (keeps2 _ b8 _ _) (fun x hx hl => by simp at hx; omega), ⟨v7, .pointer (some ⟨b8, 0, none⟩), v9, v19, tyV T2, v27, b7, b8, b9, rfl, (fun h => e3 (by rw [bit_ne false (by decide)] at h; exact h)), (fun _ => rfl), (fun h => e11 (by rw [bit_ne false (by decide)] at h; exact h)), m7.far (fun h => n78 h hm) (by decide) (by decide), m8.put (by omega) (by decide), m9.far (fun h e => n89 hm h e.symm) (by decide) (by decide), (fun h h' => n78 (by rw [bit_ne false (by decide)] at h; exact h) (by rw [bit_ne false (by decide)] at h'; exact h')), (fun h h' => n79 (by rw [bit_ne false (by decide)] at h; exact h) (by rw [bit_ne false (by decide)] at h'; exact h')), (fun h h' => n89 (by rw [bit_ne false (by decide)] at h; exact h) (by rw [bit_ne false (by decide)] at h'; exact h'))⟩, nine_set _ h9, ord_set _ o7 (fun e => by cases e), ord_set _ o8 (fun _ => hm), ord_set _ o9 (fun e => by cases e)⟩
    · have hm := ready_after hr 14 (by kernel_rfl)
      have hc := ready_after hr 11 (by kernel_rfl)
      obtain ⟨hv, hge, hty⟩ := m9 hm
      have hT := e11 hc
      subst hv hT
      have z0 := hfrozen hty 0
      have z1 := hfrozen hty 1
      have c0 := hcell hty 0
      have c1 := hcell hty 1
      refine tk_skip (w' := (w1.setCell ⟨b9, 0, none⟩ (.int .i64 T3.1)).setCell ⟨b9, 1, none⟩ (.int .i64 T3.2)) rfl (by rfl) (stv hty rfl rfl rfl) ?_
      exact ⟨by simpa using hsz, hk.trans (keeps2 _ b9 _ _) (fun x hx hl => by simp at hx; omega), ⟨v7, v8, .pointer (some ⟨b9, 0, none⟩), v19, v23, tyV T3, b7, b8, b9, rfl, (fun h => e3 (by rw [bit_ne false (by decide)] at h; exact h)), (fun h => e7 (by rw [bit_ne false (by decide)] at h; exact h)), (fun _ => rfl), m7.far (fun h => n79 h hm) (by decide) (by decide), m8.far (fun h => n89 h hm) (by decide) (by decide), m9.put (by omega) (by decide), (fun h h' => n78 (by rw [bit_ne false (by decide)] at h; exact h) (by rw [bit_ne false (by decide)] at h'; exact h')), (fun h h' => n79 (by rw [bit_ne false (by decide)] at h; exact h) (by rw [bit_ne false (by decide)] at h'; exact h')), (fun h h' => n89 (by rw [bit_ne false (by decide)] at h; exact h) (by rw [bit_ne false (by decide)] at h'; exact h'))⟩, nine_set _ h9, ord_set _ o7 (fun e => by cases e), ord_set _ o8 (fun e => by cases e), ord_set _ o9 (fun _ => hm)⟩
  case hd =>
    rintro l a w1 ⟨hsz, hk, ⟨v7, v8, v9, v19, v23, v27, b7, b8, b9, rfl, e3, e7, e11, m7, m8, m9, -, -, -⟩, -, -, -, -⟩ hr
    have hall := all_listed hsz hr (by kernel_rfl)
    obtain ⟨hv7, -, t7⟩ := m7 (hall 12 (by decide))
    obtain ⟨hv8, -, t8⟩ := m8 (hall 13 (by decide))
    obtain ⟨hv9, -, t9⟩ := m9 (hall 14 (by decide))
    rw [hall 15 (by decide)] at t7
    rw [hall 16 (by decide)] at t8
    rw [hall 17 (by decide)] at t9
    have hv19 := e3 (hall 3 (by decide))
    have hv23 := e7 (hall 7 (by decide))
    have hv27 := e11 (hall 11 (by decide))
    subst hv7 hv8 hv9 hv19 hv23 hv27
    have T7 : Box (TyAt w1 b7 T1) := hid t7
    have T8 : Box (TyAt w1 b8 T2) := hid t8
    have T9 : Box (TyAt w1 b9 T3) := hid t9
    have K1 := hid (KA.out.quiet hk)
    have h5 := keep_heap HN.out hk
    have i0 := hcell h5 0
    have HI5 := hid h5
    clear hall m7 m8 m9 e3 e7 e11 hsz hr l t7 t8 t9 h5 ld stv HD0 IN H1 H2 H3 HN hk
    have s0 := hcell T7.out 0
    have s1 := hcell T7.out 1
    have p0 := hcell T8.out 0
    have p1 := hcell T8.out 1
    have r0 := hcell T9.out 0
    have r1 := hcell T9.out 1
    try simp only [HT1.out] at HRES
    have i4 := hcell HI5.out 4
    rw [hmm.out] at i4 HW
    clear hmm
    obtain ⟨f4, f5⟩ := HC4.out _ K1.out
    have re := fun w' => run_tyE T1.1 T1.2 2 sn w'
    go_upto_region 29 with fail
    go_quiet ((go_at_call 29; exact Calls.quiet_of_same (HW.out _)))
    go_wp2_with fail
    go_ret
    exact ⟨by rw [HRES.out]; rfl, K1.out.quiet (Keeps.drewN _ _ _)⟩
set_option maxRecDepth 20000 in
set_option maxHeartbeats 8000000 in
theorem fit_11 {w : World} {pb po fb fo : Nat} {P : Pr8} {f : Fu8} (hp : PrC w pb po P) (hf : FuC w fb fo f) (x : In8) (ar : Value) (hop : x.op = 11) : Calls Tryd.prog 32 #[.pointer (some ⟨pb, po, none⟩), .pointer (some ⟨fb, fo, none⟩), insV x ar] w fun e w' => e = .returned (.bool ((regT f x.dst).1 == 3 && ((regT f x.a).1 == 1 && implB P (regT f x.a).2 (regT f x.dst).2))) ∧ Keeps [] w w' := by
  obtain ⟨RES, hRES⟩ : ∃ r, r = ((regT f x.dst).1 == 3 && ((regT f x.a).1 == 1 && implB P (regT f x.a).2 (regT f x.dst).2)) := ⟨_, rfl⟩
  rw [← hRES]
  have HRES := hid hRES
  clear hRES
  have HIM := hid fun (w' : World) (k : Keeps [] w w') => impl_any (PrC.stays _ _ _ _ _ k hp) (regT f x.a).2 (regT f x.dst).2
  clear hp
  have ka := Keeps.alloc [] w (.cells #[.int .i64 x.op, .int .i64 x.dst, .int .i64 x.a, .int .i64 x.b, .int .i64 x.n, ar] 54)
  have hn := heap_new w (.cells #[.int .i64 x.op, .int .i64 x.dst, .int .i64 x.a, .int .i64 x.b, .int .i64 x.n, ar] 54)
  have HRT := hid fun (r : Int) (w' : World) (k : Keeps [] w w') => regtype_any (FuC.stays _ _ _ _ _ k hf) r
  have KA := hid ka
  have HN := hid hn
  clear hf ka hn
  unfold insV
  rw [hop] at KA HN ⊢
  go_enter Tryd.func32, Tryd.ntmps32
  go_upto_region 1 with fail
  generalize w.alloc (.cells #[.int .i64 11, .int .i64 x.dst, .int .i64 x.a, .int .i64 x.b, .int .i64 x.n, ar] 54) = WA at *
  generalize w.heap.size = q at *
  have IN : Box (∀ w', Keeps [] WA w' → w'.cell? ⟨q, 1, none⟩ = some (.int .i64 x.dst) ∧ w'.cell? ⟨q, 2, none⟩ = some (.int .i64 x.a) ∧ w'.cell? ⟨q, 3, none⟩ = some (.int .i64 x.b)) := hid fun w' k => by
    have := keep_heap HN.out k
    exact ⟨hcell this 1, hcell this 2, hcell this 3⟩
  have H1 := hid fun (w' : World) (k : Keeps [] WA w') => HRT.out x.dst w' (KA.out.quiet k)
  have H2 := hid fun (w' : World) (k : Keeps [] WA w') => HRT.out x.a w' (KA.out.quiet k)
  have H3 := hid fun (w' : World) (k : Keeps [] WA w') => HRT.out x.b w' (KA.out.quiet k)
  have HD0 := hid (Keeps.drew [] WA)
  have ld : ∀ {w' : World} {ad : Addr} {v : Value} {ev : Operand → Value} {oi : Oper} {y : Operand}, w'.cell? ad = some v → oi.op = .load 3 y → ev y = .pointer (some ad) → (execOp ev oi).run Tryd.prog w' = .ok (.value v) w' := fun hc ho hy => by
    simp [execOp, ho, hy, go_sem, hc]
  have stv : ∀ {w1 : World} {b : Nat} {t t' : Int × Int} {ev : Operand → Value} {oi : Oper} {y z : Operand}, TyAt w1 b t → oi.op = .store 39 y z → ev y = .pointer (some ⟨b, 0, none⟩) → ev z = tyV t' → (execOp ev oi).run Tryd.prog w1 = .ok .skip ((w1.setCell ⟨b, 0, none⟩ (.int .i64 t'.1)).setCell ⟨b, 1, none⟩ (.int .i64 t'.2)) := fun {w1 b t t' ev oi y z} hty ho hy hz => by
    have z0 := hfrozen hty 0
    have z1 := hfrozen hty 1
    have c0 := hcell hty 0
    have c1 := hcell hty 1
    simp [execOp, ho, hy, hz, go_sem, z0, z1, c0, c1]
  generalize hT1 : regT f x.dst = T1 at *
  generalize hT2 : regT f x.a = T2 at *
  generalize hT3 : regT f x.b = T3 at *
  have HT1 := hid hT1
  have HT2 := hid hT2
  have HT3 := hid hT3
  clear hT1 hT2 hT3
  refine wp_region_held_drew (S := fun w' => Keeps [] WA w') (by kernel_rfl) HD0.out (fun _ => ?_)
  refine tk_yield (i := 0) (d := 16) (v := .pointer (some ⟨fb, fo, none⟩)) rfl rfl (by as_aux_lemma => kernel_rfl) (by as_aux_lemma => kernel_rfl) (by as_aux_lemma => kernel_rfl) (fun _ _ _ h => h) (by rfl) HD0.out (fun _ _ => rfl) ?_
  simp only [Act.put, List.setIfInBounds_toArray, List.set_cons_zero, List.set_cons_succ]
  refine tk_yield (i := 1) (d := 17) (v := .pointer (some ⟨q, 1, none⟩)) rfl rfl (by as_aux_lemma => kernel_rfl) (by as_aux_lemma => kernel_rfl) (by as_aux_lemma => kernel_rfl) (fun _ _ _ h => h) (by rfl) HD0.out (fun _ _ => rfl) ?_
  simp only [Act.put, List.setIfInBounds_toArray, List.set_cons_zero, List.set_cons_succ]
  refine tk_yield (i := 2) (d := 18) (v := .int .i64 x.dst) rfl rfl (by as_aux_lemma => kernel_rfl) (by as_aux_lemma => kernel_rfl) (by as_aux_lemma => kernel_rfl) (fun _ _ _ h => h) (by rfl) HD0.out (fun w' k => ld (IN.out w' k).1 rfl rfl) ?_
  simp only [Act.put, List.setIfInBounds_toArray, List.set_cons_zero, List.set_cons_succ]
  refine tk_yield (i := 4) (d := 20) (v := .pointer (some ⟨fb, fo, none⟩)) rfl rfl (by as_aux_lemma => kernel_rfl) (by as_aux_lemma => kernel_rfl) (by as_aux_lemma => kernel_rfl) (fun _ _ _ h => h) (by rfl) HD0.out (fun _ _ => rfl) ?_
  simp only [Act.put, List.setIfInBounds_toArray, List.set_cons_zero, List.set_cons_succ]
  refine tk_yield (i := 5) (d := 21) (v := .pointer (some ⟨q, 2, none⟩)) rfl rfl (by as_aux_lemma => kernel_rfl) (by as_aux_lemma => kernel_rfl) (by as_aux_lemma => kernel_rfl) (fun _ _ _ h => h) (by rfl) HD0.out (fun _ _ => rfl) ?_
  simp only [Act.put, List.setIfInBounds_toArray, List.set_cons_zero, List.set_cons_succ]
  refine tk_yield (i := 6) (d := 22) (v := .int .i64 x.a) rfl rfl (by as_aux_lemma => kernel_rfl) (by as_aux_lemma => kernel_rfl) (by as_aux_lemma => kernel_rfl) (fun _ _ _ h => h) (by rfl) HD0.out (fun w' k => ld (IN.out w' k).2.1 rfl rfl) ?_
  simp only [Act.put, List.setIfInBounds_toArray, List.set_cons_zero, List.set_cons_succ]
  refine tk_yield (i := 8) (d := 24) (v := .pointer (some ⟨fb, fo, none⟩)) rfl rfl (by as_aux_lemma => kernel_rfl) (by as_aux_lemma => kernel_rfl) (by as_aux_lemma => kernel_rfl) (fun _ _ _ h => h) (by rfl) HD0.out (fun _ _ => rfl) ?_
  simp only [Act.put, List.setIfInBounds_toArray, List.set_cons_zero, List.set_cons_succ]
  refine tk_yield (i := 9) (d := 25) (v := .pointer (some ⟨q, 3, none⟩)) rfl rfl (by as_aux_lemma => kernel_rfl) (by as_aux_lemma => kernel_rfl) (by as_aux_lemma => kernel_rfl) (fun _ _ _ h => h) (by rfl) HD0.out (fun _ _ => rfl) ?_
  simp only [Act.put, List.setIfInBounds_toArray, List.set_cons_zero, List.set_cons_succ]
  refine tk_yield (i := 10) (d := 26) (v := .int .i64 x.b) rfl rfl (by as_aux_lemma => kernel_rfl) (by as_aux_lemma => kernel_rfl) (by as_aux_lemma => kernel_rfl) (fun _ _ _ h => h) (by rfl) HD0.out (fun w' k => ld (IN.out w' k).2.2 rfl rfl) ?_
  simp only [Act.put, List.setIfInBounds_toArray, List.set_cons_zero, List.set_cons_succ]
  refine wpAnyH_inv (ThreeI WA (fun v7 v8 v9 v19 v23 v27 => ({ tmps := List.toArray ((.pointer (some ⟨pb, po, none⟩) : Value) :: (.pointer (some ⟨fb, fo, none⟩) : Value) :: (.agg #[.int .i64 11, .int .i64 x.dst, .int .i64 x.a, .int .i64 x.b, .int .i64 x.n, ar] : Value) :: (undef : Value) :: (undef : Value) :: (.pointer (some ⟨q, 0, none⟩) : Value) :: (.bool false : Value) :: (v7 : Value) :: (v8 : Value) :: (v9 : Value) :: (undef : Value) :: (undef : Value) :: (undef : Value) :: (undef : Value) :: (undef : Value) :: (undef : Value) :: (.pointer (some ⟨fb, fo, none⟩) : Value) :: (.pointer (some ⟨q, 1, none⟩) : Value) :: (.int .i64 x.dst : Value) :: (v19 : Value) :: (.pointer (some ⟨fb, fo, none⟩) : Value) :: (.pointer (some ⟨q, 2, none⟩) : Value) :: (.int .i64 x.a : Value) :: (v23 : Value) :: (.pointer (some ⟨fb, fo, none⟩) : Value) :: (.pointer (some ⟨q, 3, none⟩) : Value) :: (.int .i64 x.b : Value) :: (v27 : Value) :: (undef : Value) :: (undef : Value) :: (undef : Value) :: (undef : Value) :: (undef : Value) :: (undef : Value) :: (undef : Value) :: (undef : Value) :: (undef : Value) :: (undef : Value) :: (undef : Value) :: (undef : Value) :: (undef : Value) :: (undef : Value) :: (undef : Value) :: (undef : Value) :: (undef : Value) :: (undef : Value) :: (undef : Value) :: (undef : Value) :: (undef : Value) :: (undef : Value) :: (undef : Value) :: (undef : Value) :: (undef : Value) :: (undef : Value) :: (undef : Value) :: (undef : Value) :: (undef : Value) :: (undef : Value) :: (undef : Value) :: (undef : Value) :: (undef : Value) :: (undef : Value) :: (undef : Value) :: (undef : Value) :: (undef : Value) :: (undef : Value) :: (undef : Value) :: (undef : Value) :: (undef : Value) :: (undef : Value) :: (undef : Value) :: (undef : Value) :: (undef : Value) :: (undef : Value) :: (undef : Value) :: (undef : Value) :: (undef : Value) :: (undef : Value) :: (undef : Value) :: (undef : Value) :: (undef : Value) :: (undef : Value) :: (undef : Value) :: (undef : Value) :: (undef : Value) :: (undef : Value) :: (undef : Value) :: (undef : Value) :: (undef : Value) :: (undef : Value) :: (undef : Value) :: (undef : Value) :: (undef : Value) :: (undef : Value) :: (undef : Value) :: (undef : Value) :: (undef : Value) :: (undef : Value) :: (undef : Value) :: (undef : Value) :: (undef : Value) :: (undef : Value) :: (undef : Value) :: (undef : Value) :: (undef : Value) :: (undef : Value) :: (undef : Value) :: (undef : Value) :: (undef : Value) :: (undef : Value) :: (undef : Value) :: (undef : Value) :: (undef : Value) :: (undef : Value) :: (undef : Value) :: (undef : Value) :: (undef : Value) :: (undef : Value) :: (undef : Value) :: (undef : Value) :: (undef : Value) :: (undef : Value) :: (undef : Value) :: (undef : Value) :: (undef : Value) :: (undef : Value) :: (undef : Value) :: (undef : Value) :: (undef : Value) :: (undef : Value) :: (undef : Value) :: (undef : Value) :: (undef : Value) :: (undef : Value) :: (undef : Value) :: (undef : Value) :: (undef : Value) :: (undef : Value) :: (undef : Value) :: (undef : Value) :: (undef : Value) :: (undef : Value) :: (undef : Value) :: (undef : Value) :: (undef : Value) :: (undef : Value) :: (undef : Value) :: (undef : Value) :: (undef : Value) :: (undef : Value) :: (undef : Value) :: (undef : Value) :: (undef : Value) :: (undef : Value) :: (undef : Value) :: (undef : Value) :: (undef : Value) :: (undef : Value) :: (undef : Value) :: (undef : Value) :: (undef : Value) :: (undef : Value) :: (undef : Value) :: (undef : Value) :: (undef : Value) :: (undef : Value) :: (undef : Value) :: (undef : Value) :: (undef : Value) :: (undef : Value) :: (undef : Value) :: []), defers := [] } : Act)) T1 T2 T3) (fun _ _ _ h => h.kept) ?hd ?hstep _ _ _ _ ?start ?fin
  case fin => exact Nat.le_of_ble_eq_true (by kernel_rfl)
  case start =>
    exact ⟨rfl, HD0.out, ⟨undef, undef, undef, undef, undef, undef, 0, 0, 0, rfl, (fun h => by cases h), (fun h => by cases h), (fun h => by cases h), (fun h => by cases h), (fun h => by cases h), (fun h => by cases h), (fun h => by cases h), (fun h => by cases h), fun h => by cases h⟩, by decide, (fun h => by cases h), (fun h => by cases h), fun h => by cases h⟩
  case hstep =>
    rintro l a w1 i ⟨hsz, hk, ⟨v7, v8, v9, v19, v23, v27, b7, b8, b9, rfl, e3, e7, e11, m7, m8, m9, n78, n79, n89⟩, h9, o7, o8, o9⟩ hr
    have hun := (mem_ready.1 hr).1
    have hf0 := false_of_true hun
    have hlt : i < 18 := ready_lt hr
    have hne : i ∉ [0, 1, 2, 4, 5, 6, 8, 9, 10] := fun hm => by rw [h9 i hm] at hun; cases hun
    have hi : i = 3 ∨ i = 7 ∨ i = 11 ∨ i = 12 ∨ i = 13 ∨ i = 14 ∨ i = 15 ∨ i = 16 ∨ i = 17 := by
      simp only [List.mem_cons, List.not_mem_nil, or_false, not_or] at hne
      omega
    rcases hi with rfl | rfl | rfl | rfl | rfl | rfl | rfl | rfl | rfl
    · refine tk_call (d := 19) (R := fun v w2 => v = tyV T1 ∧ Keeps [] w1 w2) rfl rfl (by rfl) 63 #[.pointer (some ⟨fb, fo, none⟩), .int .i64 x.dst] (exec_call2 rfl rfl rfl rfl (by go_simp)) ((H1.out w1 hk).mono fun e w2 h => ⟨_, h.1, rfl, h.2⟩) ?_
      rintro v w2 ⟨rfl, k2⟩
      exact ⟨by simpa using hsz, hk.quiet k2, ⟨v7, v8, v9, tyV T1, v23, v27, b7, b8, b9, rfl, (fun _ => rfl), (fun h => e7 (by rw [bit_ne false (by decide)] at h; exact h)), (fun h => e11 (by rw [bit_ne false (by decide)] at h; exact h)), m7.quiet k2 (by decide) (by decide), m8.quiet k2 (by decide) (by decide), m9.quiet k2 (by decide) (by decide), (fun h h' => n78 (by rw [bit_ne false (by decide)] at h; exact h) (by rw [bit_ne false (by decide)] at h'; exact h')), (fun h h' => n79 (by rw [bit_ne false (by decide)] at h; exact h) (by rw [bit_ne false (by decide)] at h'; exact h')), fun h h' => n89 (by rw [bit_ne false (by decide)] at h; exact h) (by rw [bit_ne false (by decide)] at h'; exact h')⟩, nine_set _ h9, ord_set _ o7 (fun e => by cases e), ord_set _ o8 (fun e => by cases e), ord_set _ o9 (fun e => by cases e)⟩
    · refine tk_call (d := 23) (R := fun v w2 => v = tyV T2 ∧ Keeps [] w1 w2) rfl rfl (by rfl) 63 #[.pointer (some ⟨fb, fo, none⟩), .int .i64 x.a] (exec_call2 rfl rfl rfl rfl (by go_simp)) ((H2.out w1 hk).mono fun e w2 h => ⟨_, h.1, rfl, h.2⟩) ?_
      rintro v w2 ⟨rfl, k2⟩
      exact ⟨by simpa using hsz, hk.quiet k2, ⟨v7, v8, v9, v19, tyV T2, v27, b7, b8, b9, rfl, (fun h => e3 (by rw [bit_ne false (by decide)] at h; exact h)), (fun _ => rfl), (fun h => e11 (by rw [bit_ne false (by decide)] at h; exact h)), m7.quiet k2 (by decide) (by decide), m8.quiet k2 (by decide) (by decide), m9.quiet k2 (by decide) (by decide), (fun h h' => n78 (by rw [bit_ne false (by decide)] at h; exact h) (by rw [bit_ne false (by decide)] at h'; exact h')), (fun h h' => n79 (by rw [bit_ne false (by decide)] at h; exact h) (by rw [bit_ne false (by decide)] at h'; exact h')), fun h h' => n89 (by rw [bit_ne false (by decide)] at h; exact h) (by rw [bit_ne false (by decide)] at h'; exact h')⟩, nine_set _ h9, ord_set _ o7 (fun e => by cases e), ord_set _ o8 (fun e => by cases e), ord_set _ o9 (fun e => by cases e)⟩
    · refine tk_call (d := 27) (R := fun v w2 => v = tyV T3 ∧ Keeps [] w1 w2) rfl rfl (by rfl) 63 #[.pointer (some ⟨fb, fo, none⟩), .int .i64 x.b] (exec_call2 rfl rfl rfl rfl (by go_simp)) ((H3.out w1 hk).mono fun e w2 h => ⟨_, h.1, rfl, h.2⟩) ?_
      rintro v w2 ⟨rfl, k2⟩
      exact ⟨by simpa using hsz, hk.quiet k2, ⟨v7, v8, v9, v19, v23, tyV T3, b7, b8, b9, rfl, (fun h => e3 (by rw [bit_ne false (by decide)] at h; exact h)), (fun h => e7 (by rw [bit_ne false (by decide)] at h; exact h)), (fun _ => rfl), m7.quiet k2 (by decide) (by decide), m8.quiet k2 (by decide) (by decide), m9.quiet k2 (by decide) (by decide), (fun h h' => n78 (by rw [bit_ne false (by decide)] at h; exact h) (by rw [bit_ne false (by decide)] at h'; exact h')), (fun h h' => n79 (by rw [bit_ne false (by decide)] at h; exact h) (by rw [bit_ne false (by decide)] at h'; exact h')), fun h h' => n89 (by rw [bit_ne false (by decide)] at h; exact h) (by rw [bit_ne false (by decide)] at h'; exact h')⟩, nine_set _ h9, ord_set _ o7 (fun e => by cases e), ord_set _ o8 (fun e => by cases e), ord_set _ o9 (fun e => by cases e)⟩
    · have hs0 : l.getD 15 false = false := by
        cases hb : l.getD 15 false with
        | false => rfl
        | true => exact absurd (o7 hb) (by rw [hf0]; simp)
      refine tk_run (v := .pointer (some ⟨w1.heap.size, 0, none⟩)) (w' := w1.alloc (.cells #[.int .i64 0, .int .i64 0] 39)) rfl (by rfl) (by kernel_rfl) ?_
      exact ⟨by simpa using hsz, hk.quiet (Keeps.alloc [] _ _), ⟨.pointer (some ⟨w1.heap.size, 0, none⟩), v8, v9, v19, v23, v27, w1.heap.size, b8, b9, rfl, (fun h => e3 (by rw [bit_ne false (by decide)] at h; exact h)), (fun h => e7 (by rw [bit_ne false (by decide)] at h; exact h)), (fun h => e11 (by rw [bit_ne false (by decide)] at h; exact h)), VarI.new hk hs0 (by decide), m8.quiet (Keeps.alloc [] _ _) (by decide) (by decide), m9.quiet (Keeps.alloc [] _ _) (by decide) (by decide), (fun h h' e => by have := m8.lt (by rw [bit_ne false (by decide)] at h'; exact h'); omega), (fun h h' e => by have := m9.lt (by rw [bit_ne false (by decide)] at h'; exact h'); omega), (fun h h' => n89 (by rw [bit_ne false (by decide)] at h; exact h) (by rw [bit_ne false (by decide)] at h'; exact h'))⟩, nine_set _ h9, ord_set _ o7 (fun e => by cases e), ord_set _ o8 (fun e => by cases e), ord_set _ o9 (fun e => by cases e)⟩
    · have hs0 : l.getD 16 false = false := by
        cases hb : l.getD 16 false with
        | false => rfl
        | true => exact absurd (o8 hb) (by rw [hf0]; simp)
      refine tk_run (v := .pointer (some ⟨w1.heap.size, 0, none⟩)) (w' := w1.alloc (.cells #[.int .i64 0, .int .i64 0] 39)) rfl (by rfl) (by kernel_rfl) ?_
      exact ⟨by simpa using hsz, hk.quiet (Keeps.alloc [] _ _), ⟨v7, .pointer (some ⟨w1.heap.size, 0, none⟩), v9, v19, v23, v27, b7, w1.heap.size, b9, rfl, (fun h => e3 (by rw [bit_ne false (by decide)] at h; exact h)), (fun h => e7 (by rw [bit_ne false (by decide)] at h; exact h)), (fun h => e11 (by rw [bit_ne false (by decide)] at h; exact h)), m7.quiet (Keeps.alloc [] _ _) (by decide) (by decide), VarI.new hk hs0 (by decide), m9.quiet (Keeps.alloc [] _ _) (by decide) (by decide), (fun h h' e => by have := m7.lt (by rw [bit_ne false (by decide)] at h; exact h); omega), (fun h h' => n79 (by rw [bit_ne false (by decide)] at h; exact h) (by rw [bit_ne false (by decide)] at h'; exact h')), (fun h h' e => by have := m9.lt (by rw [bit_ne false (by decide)] at h'; exact h'); omega)⟩, nine_set _ h9, ord_set _ o7 (fun e => by cases e), ord_set _ o8 (fun e => by cases e), ord_set _ o9 (fun e => by cases e)⟩
    · have hs0 : l.getD 17 false = false := by
        cases hb : l.getD 17 false with
        | false => rfl
        | true => exact absurd (o9 hb) (by rw [hf0]; simp)
      refine tk_run (v := .pointer (some ⟨w1.heap.size, 0, none⟩)) (w' := w1.alloc (.cells #[.int .i64 0, .int .i64 0] 39)) rfl (by rfl) (by kernel_rfl) ?_
      exact ⟨by simpa using hsz, hk.quiet (Keeps.alloc [] _ _), ⟨v7, v8, .pointer (some ⟨w1.heap.size, 0, none⟩), v19, v23, v27, b7, b8, w1.heap.size, rfl, (fun h => e3 (by rw [bit_ne false (by decide)] at h; exact h)), (fun h => e7 (by rw [bit_ne false (by decide)] at h; exact h)), (fun h => e11 (by rw [bit_ne false (by decide)] at h; exact h)), m7.quiet (Keeps.alloc [] _ _) (by decide) (by decide), m8.quiet (Keeps.alloc [] _ _) (by decide) (by decide), VarI.new hk hs0 (by decide), (fun h h' => n78 (by rw [bit_ne false (by decide)] at h; exact h) (by rw [bit_ne false (by decide)] at h'; exact h')), (fun h h' e => by have := m7.lt (by rw [bit_ne false (by decide)] at h; exact h); omega), (fun h h' e => by have := m8.lt (by rw [bit_ne false (by decide)] at h; exact h); omega)⟩, nine_set _ h9, ord_set _ o7 (fun e => by cases e), ord_set _ o8 (fun e => by cases e), ord_set _ o9 (fun e => by cases e)⟩
    · have hm := ready_after hr 12 (by kernel_rfl)
      have hc := ready_after hr 3 (by kernel_rfl)
      obtain ⟨hv, hge, hty⟩ := m7 hm
      have hT := e3 hc
      subst hv hT
      have z0 := hfrozen hty 0
      have z1 := hfrozen hty 1
      have c0 := hcell hty 0
      have c1 := hcell hty 1
      refine tk_skip (w' := (w1.setCell ⟨b7, 0, none⟩ (.int .i64 T1.1)).setCell ⟨b7, 1, none⟩ (.int .i64 T1.2)) rfl (by rfl) (stv hty rfl rfl rfl) ?_
      exact ⟨by simpa using hsz, hk.trans (keeps2 _ b7 _ _) (fun x hx hl => by simp at hx; omega), ⟨.pointer (some ⟨b7, 0, none⟩), v8, v9, tyV T1, v23, v27, b7, b8, b9, rfl, (fun _ => rfl), (fun h => e7 (by rw [bit_ne false (by decide)] at h; exact h)), (fun h => e11 (by rw [bit_ne false (by decide)] at h; exact h)), m7.put (by omega) (by decide), m8.far (fun h e => n78 hm h e.symm) (by decide) (by decide), m9.far (fun h e => n79 hm h e.symm) (by decide) (by decide), (fun h h' => n78 (by rw [bit_ne false (by decide)] at h; exact h) (by rw [bit_ne false (by decide)] at h'; exact h')), (fun h h' => n79 (by rw [bit_ne false (by decide)] at h; exact h) (by rw [bit_ne false (by decide)] at h'; exact h')), (fun h h' => n89 (by rw [bit_ne false (by decide)] at h; exact h) (by rw [bit_ne false (by decide)] at h'; exact h'))⟩, nine_set _ h9, ord_set _ o7 (fun _ => hm), ord_set _ o8 (fun e => by cases e), ord_set _ o9 (fun e => by cases e)⟩
    · have hm := ready_after hr 13 (by kernel_rfl)
      have hc := ready_after hr 7 (by kernel_rfl)
      obtain ⟨hv, hge, hty⟩ := m8 hm
      have hT := e7 hc
      subst hv hT
      have z0 := hfrozen hty 0
      have z1 := hfrozen hty 1
      have c0 := hcell hty 0
      have c1 := hcell hty 1
      refine tk_skip (w' := (w1.setCell ⟨b8, 0, none⟩ (.int .i64 T2.1)).setCell ⟨b8, 1, none⟩ (.int .i64 T2.2)) rfl (by rfl) (stv hty rfl rfl rfl) ?_
      exact ⟨by simpa using hsz, hk.trans (keeps2 _ b8 _ _) (fun x hx hl => by simp at hx; omega), ⟨v7, .pointer (some ⟨b8, 0, none⟩), v9, v19, tyV T2, v27, b7, b8, b9, rfl, (fun h => e3 (by rw [bit_ne false (by decide)] at h; exact h)), (fun _ => rfl), (fun h => e11 (by rw [bit_ne false (by decide)] at h; exact h)), m7.far (fun h => n78 h hm) (by decide) (by decide), m8.put (by omega) (by decide), m9.far (fun h e => n89 hm h e.symm) (by decide) (by decide), (fun h h' => n78 (by rw [bit_ne false (by decide)] at h; exact h) (by rw [bit_ne false (by decide)] at h'; exact h')), (fun h h' => n79 (by rw [bit_ne false (by decide)] at h; exact h) (by rw [bit_ne false (by decide)] at h'; exact h')), (fun h h' => n89 (by rw [bit_ne false (by decide)] at h; exact h) (by rw [bit_ne false (by decide)] at h'; exact h'))⟩, nine_set _ h9, ord_set _ o7 (fun e => by cases e), ord_set _ o8 (fun _ => hm), ord_set _ o9 (fun e => by cases e)⟩
    · have hm := ready_after hr 14 (by kernel_rfl)
      have hc := ready_after hr 11 (by kernel_rfl)
      obtain ⟨hv, hge, hty⟩ := m9 hm
      have hT := e11 hc
      subst hv hT
      have z0 := hfrozen hty 0
      have z1 := hfrozen hty 1
      have c0 := hcell hty 0
      have c1 := hcell hty 1
      refine tk_skip (w' := (w1.setCell ⟨b9, 0, none⟩ (.int .i64 T3.1)).setCell ⟨b9, 1, none⟩ (.int .i64 T3.2)) rfl (by rfl) (stv hty rfl rfl rfl) ?_
      exact ⟨by simpa using hsz, hk.trans (keeps2 _ b9 _ _) (fun x hx hl => by simp at hx; omega), ⟨v7, v8, .pointer (some ⟨b9, 0, none⟩), v19, v23, tyV T3, b7, b8, b9, rfl, (fun h => e3 (by rw [bit_ne false (by decide)] at h; exact h)), (fun h => e7 (by rw [bit_ne false (by decide)] at h; exact h)), (fun _ => rfl), m7.far (fun h => n79 h hm) (by decide) (by decide), m8.far (fun h => n89 h hm) (by decide) (by decide), m9.put (by omega) (by decide), (fun h h' => n78 (by rw [bit_ne false (by decide)] at h; exact h) (by rw [bit_ne false (by decide)] at h'; exact h')), (fun h h' => n79 (by rw [bit_ne false (by decide)] at h; exact h) (by rw [bit_ne false (by decide)] at h'; exact h')), (fun h h' => n89 (by rw [bit_ne false (by decide)] at h; exact h) (by rw [bit_ne false (by decide)] at h'; exact h'))⟩, nine_set _ h9, ord_set _ o7 (fun e => by cases e), ord_set _ o8 (fun e => by cases e), ord_set _ o9 (fun _ => hm)⟩
  case hd =>
    rintro l a w1 ⟨hsz, hk, ⟨v7, v8, v9, v19, v23, v27, b7, b8, b9, rfl, e3, e7, e11, m7, m8, m9, -, -, -⟩, -, -, -, -⟩ hr
    have hall := all_listed hsz hr (by kernel_rfl)
    obtain ⟨hv7, -, t7⟩ := m7 (hall 12 (by decide))
    obtain ⟨hv8, -, t8⟩ := m8 (hall 13 (by decide))
    obtain ⟨hv9, -, t9⟩ := m9 (hall 14 (by decide))
    rw [hall 15 (by decide)] at t7
    rw [hall 16 (by decide)] at t8
    rw [hall 17 (by decide)] at t9
    have hv19 := e3 (hall 3 (by decide))
    have hv23 := e7 (hall 7 (by decide))
    have hv27 := e11 (hall 11 (by decide))
    subst hv7 hv8 hv9 hv19 hv23 hv27
    have T7 : Box (TyAt w1 b7 T1) := hid t7
    have T8 : Box (TyAt w1 b8 T2) := hid t8
    have T9 : Box (TyAt w1 b9 T3) := hid t9
    have K1 := hid (KA.out.quiet hk)
    have h5 := keep_heap HN.out hk
    have i0 := hcell h5 0
    have HI5 := hid h5
    clear hall m7 m8 m9 e3 e7 e11 hsz hr l t7 t8 t9 h5 ld stv HD0 IN H1 H2 H3 HN hk
    have s0 := hcell T7.out 0
    have s1 := hcell T7.out 1
    have p0 := hcell T8.out 0
    have p1 := hcell T8.out 1
    have r0 := hcell T9.out 0
    have r1 := hcell T9.out 1
    try simp only [HT1.out, HT2.out] at HRES
    by_cases g1 : T1.1 = 3
    · by_cases g2 : T2.1 = 1
      · have HE : Box (RES = implB P T2.2 T1.2) := hid (by rw [HRES.out, g1, g2]; rfl)
        have o1 := eqb g1
        have o2 := eqb g2
        clear HRES g1 g2
        go_wp2_with fail
        refine (HIM.out _ K1.out).mono ?_
        rintro e w3 ⟨rfl, hw3⟩
        rw [hw3]
        clear hw3
        go_wp2_with fail
        go_ret
        exact ⟨by rw [HE.out]; rfl, K1.out⟩
      · have HE : Box (RES = false) := hid (by rw [HRES.out, neb g2]; simp)
        have o1 := eqb g1
        have o2 := neb g2
        clear HRES g1 g2 HIM
        go_wp2_with fail
        go_ret
        exact ⟨by rw [HE.out]; rfl, K1.out⟩
    · have HE : Box (RES = false) := hid (by rw [HRES.out, neb g1]; simp)
      have o1 := neb g1
      clear HRES g1 HIM
      go_wp2_with fail
      go_ret
      exact ⟨by rw [HE.out]; rfl, K1.out⟩
end Go.Proofs.YtlopddflbhnjdaaDoor
