/-
  types.instrFits, by Op: numbers, nil, new objects, sinks.
-/
import Derived.Test.YtlopddflbhnjdaaDoorTFit
namespace Go.Proofs.YtlopddflbhnjdaaDoor
open Go.RowKit

set_option maxRecDepth 20000 in
set_option maxHeartbeats 8000000 in
theorem fit_1 {w : World} {pb po fb fo : Nat} {f : Fu8} (hf : FuC w fb fo f) (x : In8) (ar : Value) (hop : x.op = 1) : Calls Tryd.prog 32 #[.pointer (some ⟨pb, po, none⟩), .pointer (some ⟨fb, fo, none⟩), insV x ar] w fun e w' => e = .returned (.bool ((regT f x.dst).1 == 0)) ∧ Keeps [] w w' := by
  have ka := Keeps.alloc [] w (.cells #[.int .i64 x.op, .int .i64 x.dst, .int .i64 x.a, .int .i64 x.b, .int .i64 x.n, ar] 54)
  have hn := heap_new w (.cells #[.int .i64 x.op, .int .i64 x.dst, .int .i64 x.a, .int .i64 x.b, .int .i64 x.n, ar] 54)
  have HRT := hid fun (r : Int) (w' : World) (k : Keeps [] w w') => regtype_any (FuC.stays _ _ _ _ _ k hf) r
  have KA := hid ka
  have HN := hid hn
  clear hf ka hn
  unfold insV
  rw [hop] at KA HN ⊢
  go_enter Tryd.func32, Tryd.ntmps32
  go_upto_region 1 with fail
  generalize w.alloc (.cells #[.int .i64 1, .int .i64 x.dst, .int .i64 x.a, .int .i64 x.b, .int .i64 x.n, ar] 54) = WA at *
  generalize w.heap.size = q at *
  have IN : Box (∀ w', Keeps [] WA w' → w'.cell? ⟨q, 1, none⟩ = some (.int .i64 x.dst) ∧ w'.cell? ⟨q, 2, none⟩ = some (.int .i64 x.a) ∧ w'.cell? ⟨q, 3, none⟩ = some (.int .i64 x.b)) := hid fun w' k => by
    have := keep_heap HN.out k
    exact ⟨hcell this 1, hcell this 2, hcell this 3⟩
  have H1 := hid fun (w' : World) (k : Keeps [] WA w') => HRT.out x.dst w' (KA.out.quiet k)
  have H2 := hid fun (w' : World) (k : Keeps [] WA w') => HRT.out x.a w' (KA.out.quiet k)
  have H3 := hid fun (w' : World) (k : Keeps [] WA w') => HRT.out x.b w' (KA.out.quiet k)
  have HD0 := hid (Keeps.drew [] WA)
  have ld : ∀ {w' : World} {ad : Addr} {v : Value} {ev : Operand → Value} {oi : Oper} {y : Operand}, w'.cell? ad = some v → oi.op = .load 3 y → ev y = .pointer (some ad) → (execOp ev oi).run Tryd.prog w' = .ok (.value v) w' := fun hc ho hy => by
    simp [execOp, ho, hy, go_sem, hc]
  have stv : ∀ {w1 : World} {b : Nat} {t t' : Int × Int} {ev : Operand → Value} {oi : Oper} {y z : Operand}, TyAt w1 b t → oi.op = .store 39 y z → ev y = .pointer (some ⟨b, 0, none⟩) → ev z = tyV t' → (execOp ev oi).run Tryd.prog w1 = .ok .skip ((w1.setCell ⟨b, 0, none⟩ (.int .i64 t'.1)).setCell ⟨b, 1, none⟩ (.int .i64 t'.2)) := fun {w1 b t t' ev oi y z} hty ho hy hz => by
    have z0 := hfrozen hty 0
    have z1 := hfrozen hty 1
    have c0 := hcell hty 0
    have c1 := hcell hty 1
    simp [execOp, ho, hy, hz, go_sem, z0, z1, c0, c1]
  generalize hT1 : regT f x.dst = T1 at *
  generalize hT2 : regT f x.a = T2 at *
  generalize hT3 : regT f x.b = T3 at *
  have HT1 := hid hT1
  have HT2 := hid hT2
  have HT3 := hid hT3
  clear hT1 hT2 hT3
  refine wp_region_held_drew (S := fun w' => Keeps [] WA w') (by kernel_rfl) HD0.out (fun _ => ?_)
  refine tk_yield (i := 0) (d := 16) (v := .pointer (some ⟨fb, fo, none⟩)) rfl rfl (by as_aux_lemma => kernel_rfl) (by as_aux_lemma => kernel_rfl) (by as_aux_lemma => kernel_rfl) (fun _ _ _ h => h) (by rfl) HD0.out (fun _ _ => rfl) ?_
  simp only [Act.put, List.setIfInBounds_toArray, List.set_cons_zero, List.set_cons_succ]
  refine tk_yield (i := 1) (d := 17) (v := .pointer (some ⟨q, 1, none⟩)) rfl rfl (by as_aux_lemma => kernel_rfl) (by as_aux_lemma => kernel_rfl) (by as_aux_lemma => kernel_rfl) (fun _ _ _ h => h) (by rfl) HD0.out (fun _ _ => rfl) ?_
  simp only [Act.put, List.setIfInBounds_toArray, List.set_cons_zero, List.set_cons_succ]
  refine tk_yield (i := 2) (d := 18) (v := .int .i64 x.dst) rfl rfl (by as_aux_lemma => kernel_rfl) (by as_aux_lemma => kernel_rfl) (by as_aux_lemma => kernel_rfl) (fun _ _ _ h => h) (by rfl) HD0.out (fun w' k => ld (IN.out w' k).1 rfl rfl) ?_
  simp only [Act.put, List.setIfInBounds_toArray, List.set_cons_zero, List.set_cons_succ]
  refine tk_yield (i := 4) (d := 20) (v := .pointer (some ⟨fb, fo, none⟩)) rfl rfl (by as_aux_lemma => kernel_rfl) (by as_aux_lemma => kernel_rfl) (by as_aux_lemma => kernel_rfl) (fun _ _ _ h => h) (by rfl) HD0.out (fun _ _ => rfl) ?_
  simp only [Act.put, List.setIfInBounds_toArray, List.set_cons_zero, List.set_cons_succ]
  refine tk_yield (i := 5) (d := 21) (v := .pointer (some ⟨q, 2, none⟩)) rfl rfl (by as_aux_lemma => kernel_rfl) (by as_aux_lemma => kernel_rfl) (by as_aux_lemma => kernel_rfl) (fun _ _ _ h => h) (by rfl) HD0.out (fun _ _ => rfl) ?_
  simp only [Act.put, List.setIfInBounds_toArray, List.set_cons_zero, List.set_cons_succ]
  refine tk_yield (i := 6) (d := 22) (v := .int .i64 x.a) rfl rfl (by as_aux_lemma => kernel_rfl) (by as_aux_lemma => kernel_rfl) (by as_aux_lemma => kernel_rfl) (fun _ _ _ h => h) (by rfl) HD0.out (fun w' k => ld (IN.out w' k).2.1 rfl rfl) ?_
  simp only [Act.put, List.setIfInBounds_toArray, List.set_cons_zero, List.set_cons_succ]
  refine tk_yield (i := 8) (d := 24) (v := .pointer (some ⟨fb, fo, none⟩)) rfl rfl (by as_aux_lemma => kernel_rfl) (by as_aux_lemma => kernel_rfl) (by as_aux_lemma => kernel_rfl) (fun _ _ _ h => h) (by rfl) HD0.out (fun _ _ => rfl) ?_
  simp only [Act.put, List.setIfInBounds_toArray, List.set_cons_zero, List.set_cons_succ]
  refine tk_yield (i := 9) (d := 25) (v := .pointer (some ⟨q, 3, none⟩)) rfl rfl (by as_aux_lemma => kernel_rfl) (by as_aux_lemma => kernel_rfl) (by as_aux_lemma => kernel_rfl) (fun _ _ _ h => h) (by rfl) HD0.out (fun _ _ => rfl) ?_
  simp only [Act.put, List.setIfInBounds_toArray, List.set_cons_zero, List.set_cons_succ]
  refine tk_yield (i := 10) (d := 26) (v := .int .i64 x.b) rfl rfl (by as_aux_lemma => kernel_rfl) (by as_aux_lemma => kernel_rfl) (by as_aux_lemma => kernel_rfl) (fun _ _ _ h => h) (by rfl) HD0.out (fun w' k => ld (IN.out w' k).2.2 rfl rfl) ?_
  simp only [Act.put, List.setIfInBounds_toArray, List.set_cons_zero, List.set_cons_succ]
  refine wpAnyH_inv (ThreeI WA (fun v7 v8 v9 v19 v23 v27 => ({ tmps := List.toArray ((.pointer (some ⟨pb, po, none⟩) : Value) :: (.pointer (some ⟨fb, fo, none⟩) : Value) :: (.agg #[.int .i64 1, .int .i64 x.dst, .int .i64 x.a, .int .i64 x.b, .int .i64 x.n, ar] : Value) :: (undef : Value) :: (undef : Value) :: (.pointer (some ⟨q, 0, none⟩) : Value) :: (.bool false : Value) :: (v7 : Value) :: (v8 : Value) :: (v9 : Value) :: (undef : Value) :: (undef : Value) :: (undef : Value) :: (undef : Value) :: (undef : Value) :: (undef : Value) :: (.pointer (some ⟨fb, fo, none⟩) : Value) :: (.pointer (some ⟨q, 1, none⟩) : Value) :: (.int .i64 x.dst : Value) :: (v19 : Value) :: (.pointer (some ⟨fb, fo, none⟩) : Value) :: (.pointer (some ⟨q, 2, none⟩) : Value) :: (.int .i64 x.a : Value) :: (v23 : Value) :: (.pointer (some ⟨fb, fo, none⟩) : Value) :: (.pointer (some ⟨q, 3, none⟩) : Value) :: (.int .i64 x.b : Value) :: (v27 : Value) :: (undef : Value) :: (undef : Value) :: (undef : Value) :: (undef : Value) :: (undef : Value) :: (undef : Value) :: (undef : Value) :: (undef : Value) :: (undef : Value) :: (undef : Value) :: (undef : Value) :: (undef : Value) :: (undef : Value) :: (undef : Value) :: (undef : Value) :: (undef : Value) :: (undef : Value) :: (undef : Value) :: (undef : Value) :: (undef : Value) :: (undef : Value) :: (undef : Value) :: (undef : Value) :: (undef : Value) :: (undef : Value) :: (undef : Value) :: (undef : Value) :: (undef : Value) :: (undef : Value) :: (undef : Value) :: (undef : Value) :: (undef : Value) :: (undef : Value) :: (undef : Value) :: (undef : Value) :: (undef : Value) :: (undef : Value) :: (undef : Value) :: (undef : Value) :: (undef : Value) :: (undef : Value) :: (undef : Value) :: (undef : Value) :: (undef : Value) :: (undef : Value) :: (undef : Value) :: (undef : Value) :: (undef : Value) :: (undef : Value) :: (undef : Value) :: (undef : Value) :: (undef : Value) :: (undef : Value) :: (undef : Value) :: (undef : Value) :: (undef : Value) :: (undef : Value) :: (undef : Value) :: (undef : Value) :: (undef : Value) :: (undef : Value) :: (undef : Value) :: (undef : Value) :: (undef : Value) :: (undef : Value) :: (undef : Value) :: (undef : Value) :: (undef : Value) :: (undef : Value) :: (undef : Value) :: (undef : Value) :: (undef : Value) :: (undef : Value) :: (undef : Value) :: (undef : Value) :: (undef : Value) :: (undef : Value) :: (undef : Value) :: (undef : Value) :: (undef : Value) :: (undef : Value) :: (undef : Value) :: (undef : Value) :: (undef : Value) :: (undef : Value) :: (undef : Value) :: (undef : Value) :: (undef : Value) :: (undef : Value) :: (undef : Value) :: (undef : Value) :: (undef : Value) :: (undef : Value) :: (undef : Value) :: (undef : Value) :: (undef : Value) :: (undef : Value) :: (undef : Value) :: (undef : Value) :: (undef : Value) :: (undef : Value) :: (undef : Value) :: (undef : Value) :: (undef : Value) :: (undef : Value) :: (undef : Value) :: (undef : Value) :: (undef : Value) :: (undef : Value) :: (undef : Value) :: (undef : Value) :: (undef : Value) :: (undef : Value) :: (undef : Value) :: (undef : Value) :: (undef : Value) :: (undef : Value) :: (undef : Value) :: (undef : Value) :: (undef : Value) :: (undef : Value) :: (undef : Value) :: (undef : Value) :: (undef : Value) :: (undef : Value) :: (undef : Value) :: (undef : Value) :: (undef : Value) :: (undef : Value) :: (undef : Value) :: (undef : Value) :: (undef : Value) :: (undef : Value) :: (undef : Value) :: (undef : Value) :: (undef : Value) :: (undef : Value) :: (undef : Value) :: (undef : Value) :: (undef : Value) :: (undef : Value) :: (undef : Value) :: (undef : Value) :: []), defers := [] } : Act)) T1 T2 T3) (fun _ _ _ h => h.kept) ?hd ?hstep _ _ _ _ ?start ?fin
  case fin => exact Nat.le_of_ble_eq_true (by kernel_rfl)
  case start =>
    exact ⟨rfl, HD0.out, ⟨undef, undef, undef, undef, undef, undef, 0, 0, 0, rfl, (fun h => by cases h), (fun h => by cases h), (fun h => by cases h), (fun h => by cases h), (fun h => by cases h), (fun h => by cases h), (fun h => by cases h), (fun h => by cases h), fun h => by cases h⟩, by decide, (fun h => by cases h), (fun h => by cases h), fun h => by cases h⟩
  case hstep =>
    rintro l a w1 i ⟨hsz, hk, ⟨v7, v8, v9, v19, v23, v27, b7, b8, b9, rfl, e3, e7, e11, m7, m8, m9, n78, n79, n89⟩, h9, o7, o8, o9⟩ hr
    have hun := (mem_ready.1 hr).1
    have hf0 := false_of_true hun
    have hlt : i < 18 := ready_lt hr
    have hne : i ∉ [0, 1, 2, 4, 5, 6, 8, 9, 10] := fun hm => by rw [h9 i hm] at hun; cases hun
    have hi : i = 3 ∨ i = 7 ∨ i = 11 ∨ i = 12 ∨ i = 13 ∨ i = 14 ∨ i = 15 ∨ i = 16 ∨ i = 17 := by
      simp only [List.mem_cons, List.not_mem_nil, or_false, not_or] at hne
      omega
    rcases hi with rfl | rfl | rfl | rfl | rfl | rfl | rfl | rfl | rfl
    · refine tk_call (d := 19) (R := fun v w2 => v = tyV T1 ∧ Keeps [] w1 w2) rfl rfl (by rfl) 63 #[.pointer (some ⟨fb, fo, none⟩), .int .i64 x.dst] (exec_call2 rfl rfl rfl rfl (by go_simp)) ((H1.out w1 hk).mono fun e w2 h => ⟨_, h.1, rfl, h.2⟩) ?_
      rintro v w2 ⟨rfl, k2⟩
      exact ⟨by simpa using hsz, hk.quiet k2, ⟨v7, v8, v9, tyV T1, v23, v27, b7, b8, b9, rfl, (fun _ => rfl), (fun h => e7 (by rw [bit_ne false (by decide)] at h; exact h)), (fun h => e11 (by rw [bit_ne false (by decide)] at h; exact h)), m7.quiet k2 (by decide) (by decide), m8.quiet k2 (by decide) (by decide), m9.quiet k2 (by decide) (by decide), (fun h h' => n78 (by rw [bit_ne false (by decide)] at h; exact h) (by rw [bit_ne false (by decide)] at h'; exact h')), (fun h h' => n79 (by rw [bit_ne false (by decide)] at h; exact h) (by rw [bit_ne false (by decide)] at h'; exact h')), fun h h' => n89 (by rw [bit_ne false (by decide)] at h; exact h) (by rw [bit_ne false (by decide)] at h'; exact h')⟩, nine_set _ h9, ord_set _ o7 (fun e => by cases e), ord_set _ o8 (fun e => by cases e), ord_set _ o9 (fun e => by cases e)⟩
    · refine tk_call (d := 23) (R := fun v w2 => v = tyV T2 ∧ Keeps [] w1 w2) rfl rfl (by rfl) 63 #[.pointer (some ⟨fb, fo, none⟩), .int .i64 x.a] (exec_call2 rfl rfl rfl rfl (by go_simp)) ((H2.out w1 hk).mono fun e w2 h => ⟨_, h.1, rfl, h.2⟩) ?_
      rintro v w2 ⟨rfl, k2⟩
      exact ⟨by simpa using hsz, hk.quiet k2, ⟨v7, v8, v9, v19, tyV T2, v27, b7, b8, b9, rfl, (fun h => e3 (by rw [bit_ne false (by decide)] at h; exact h)), (fun _ => rfl), (fun h => e11 (by rw [bit_ne false (by decide)] at h; exact h)), m7.quiet k2 (by decide) (by decide), m8.quiet k2 (by decide) (by decide), m9.quiet k2 (by decide) (by decide), (fun h h' => n78 (by rw [bit_ne false (by decide)] at h; exact h) (by rw [bit_ne false (by decide)] at h'; exact h')), (fun h h' => n79 (by rw [bit_ne false (by decide)] at h; exact h) (by rw [bit_ne false (by decide)] at h'; exact h')), fun h h' => n89 (by rw [bit_ne false (by decide)] at h; exact h) (by rw [bit_ne false (by decide)] at h'; exact h')⟩, nine_set _ h9, ord_set _ o7 (fun e => by cases e), ord_set _ o8 (fun e => by cases e), ord_set _ o9 (fun e => by cases e)⟩
    · refine tk_call (d := 27) (R := fun v w2 => v = tyV T3 ∧ Keeps [] w1 w2) rfl rfl (by rfl) 63 #[.pointer (some ⟨fb, fo, none⟩), .int .i64 x.b] (exec_call2 rfl rfl rfl rfl (by go_simp)) ((H3.out w1 hk).mono fun e w2 h => ⟨_, h.1, rfl, h.2⟩) ?_
      rintro v w2 ⟨rfl, k2⟩
      exact ⟨by simpa using hsz, hk.quiet k2, ⟨v7, v8, v9, v19, v23, tyV T3, b7, b8, b9, rfl, (fun h => e3 (by rw [bit_ne false (by decide)] at h; exact h)), (fun h => e7 (by rw [bit_ne false (by decide)] at h; exact h)), (fun _ => rfl), m7.quiet k2 (by decide) (by decide), m8.quiet k2 (by decide) (by decide), m9.quiet k2 (by decide) (by decide), (fun h h' => n78 (by rw [bit_ne false (by decide)] at h; exact h) (by rw [bit_ne false (by decide)] at h'; exact h')), (fun h h' => n79 (by rw [bit_ne false (by decide)] at h; exact h) (by rw [bit_ne false (by decide)] at h'; exact h')), fun h h' => n89 (by rw [bit_ne false (by decide)] at h; exact h) (by rw [bit_ne false (by decide)] at h'; exact h')⟩, nine_set _ h9, ord_set _ o7 (fun e => by cases e), ord_set _ o8 (fun e => by cases e), ord_set _ o9 (fun e => by cases e)⟩
    · have hs0 : l.getD 15 false = false := by
        cases hb : l.getD 15 false with
        | false => rfl
        | true => exact absurd (o7 hb) (by rw [hf0]; simp)
      refine tk_run (v := .pointer (some ⟨w1.heap.size, 0, none⟩)) (w' := w1.alloc (.cells #[.int .i64 0, .int .i64 0] 39)) rfl (by rfl) (by kernel_rfl) ?_
      exact ⟨by simpa using hsz, hk.quiet (Keeps.alloc [] _ _), ⟨.pointer (some ⟨w1.heap.size, 0, none⟩), v8, v9, v19, v23, v27, w1.heap.size, b8, b9, rfl, (fun h => e3 (by rw [bit_ne false (by decide)] at h; exact h)), (fun h => e7 (by rw [bit_ne false (by decide)] at h; exact h)), (fun h => e11 (by rw [bit_ne false (by decide)] at h; exact h)), VarI.new hk hs0 (by decide), m8.quiet (Keeps.alloc [] _ _) (by decide) (by decide), m9.quiet (Keeps.alloc [] _ _) (by decide) (by decide), (fun h h' e => by have := m8.lt (by rw [bit_ne false (by decide)] at h'; exact h'); omega), (fun h h' e => by have := m9.lt (by rw [bit_ne false (by decide)] at h'; exact h'); omega), (fun h h' => n89 (by rw [bit_ne false (by decide)] at h; exact h) (by rw [bit_ne false (by decide)] at h'; exact h'))⟩, nine_set _ h9, ord_set _ o7 (fun e => by cases e), ord_set _ o8 (fun e => by cases e), ord_set _ o9 (fun e => by cases e)⟩
    · have hs0 : l.getD 16 false = false := by
        cases hb : l.getD 16 false with
        | false => rfl
        | true => exact absurd (o8 hb) (by rw [hf0]; simp)
      refine tk_run (v := .pointer (some ⟨w1.heap.size, 0, none⟩)) (w' := w1.alloc (.cells #[.int .i64 0, .int .i64 0] 39)) rfl (by rfl) (by kernel_rfl) ?_
      exact ⟨by simpa using hsz, hk.quiet (Keeps.alloc [] _ _), ⟨v7, .pointer (some ⟨w1.heap.size, 0, none⟩), v9, v19, v23, v27, b7, w1.heap.size, b9, rfl, (fun h => e3 (by rw [bit_ne false (by decide)] at h; exact h)), (fun h => e7 (by rw [bit_ne false (by decide)] at h; exact h)), (fun h => e11 (by rw [bit_ne false (by decide)] at h; exact h)), m7.quiet (Keeps.alloc [] _ _) (by decide) (by decide), VarI.new hk hs0 (by decide), m9.quiet (Keeps.alloc [] _ _) (by decide) (by decide), (fun h h' e => by have := m7.lt (by rw [bit_ne false (by decide)] at h; exact h); omega), (fun h h' => n79 (by rw [bit_ne false (by decide)] at h; exact h) (by rw [bit_ne false (by decide)] at h'; exact h')), (fun h h' e => by have := m9.lt (by rw [bit_ne false (by decide)] at h'; exact h'); omega)⟩, nine_set _ h9, ord_set _ o7 (fun e => by cases e), ord_set _ o8 (fun e => by cases e), ord_set _ o9 (fun e => by cases e)⟩
    · have hs0 : l.getD 17 false = false := by
        cases hb : l.getD 17 false with
        | false => rfl
        | true => exact absurd (o9 hb) (by rw [hf0]; simp)
      refine tk_run (v := .pointer (some ⟨w1.heap.size, 0, none⟩)) (w' := w1.alloc (.cells #[.int .i64 0, .int .i64 0] 39)) rfl (by rfl) (by kernel_rfl) ?_
      exact ⟨by simpa using hsz, hk.quiet (Keeps.alloc [] _ _), ⟨v7, v8, .pointer (some ⟨w1.heap.size, 0, none⟩), v19, v23, v27, b7, b8, w1.heap.size, rfl, (fun h => e3 (by rw [bit_ne false (by decide)] at h; exact h)), (fun h => e7 (by rw [bit_ne false (by decide)] at h; exact h)), (fun h => e11 (by rw [bit_ne false (by decide)] at h; exact h)), m7.quiet (Keeps.alloc [] _ _) (by decide) (by decide), m8.quiet (Keeps.alloc [] _ _) (by decide) (by decide), VarI.new hk hs0 (by decide), (fun h h' => n78 (by rw [bit_ne false (by decide)] at h; exact h) (by rw [bit_ne false (by decide)] at h'; exact h')), (fun h h' e => by have := m7.lt (by rw [bit_ne false (by decide)] at h; exact h); omega), (fun h h' e => by have := m8.lt (by rw [bit_ne false (by decide)] at h; exact h); omega)⟩, nine_set _ h9, ord_set _ o7 (fun e => by cases e), ord_set _ o8 (fun e => by cases e), ord_set _ o9 (fun e => by cases e)⟩
    · have hm := ready_after hr 12 (by kernel_rfl)
      have hc := ready_after hr 3 (by kernel_rfl)
      obtain ⟨hv, hge, hty⟩ := m7 hm
      have hT := e3 hc
      subst hv hT
      have z0 := hfrozen hty 0
      have z1 := hfrozen hty 1
      have c0 := hcell hty 0
      have c1 := hcell hty 1
      refine tk_skip (w' := (w1.setCell ⟨b7, 0, none⟩ (.int .i64 T1.1)).setCell ⟨b7, 1, none⟩ (.int .i64 T1.2)) rfl (by rfl) (stv hty rfl rfl rfl) ?_
      exact ⟨by simpa using hsz, hk.trans (keeps2 _ b7 _ _) (fun x hx hl => by simp at hx; omega), ⟨.pointer (some ⟨b7, 0, none⟩), v8, v9, tyV T1, v23, v27, b7, b8, b9, rfl, (fun _ => rfl), (fun h => e7 (by rw [bit_ne false (by decide)] at h; exact h)), (fun h => e11 (by rw [bit_ne false (by decide)] at h; exact h)), m7.put (by omega) (by decide), m8.far (fun h e => n78 hm h e.symm) (by decide) (by decide), m9.far (fun h e => n79 hm h e.symm) (by decide) (by decide), (fun h h' => n78 (by rw [bit_ne false (by decide)] at h; exact h) (by rw [bit_ne false (by decide)] at h'; exact h')), (fun h h' => n79 (by rw [bit_ne false (by decide)] at h; exact h) (by rw [bit_ne false (by decide)] at h'; exact h')), (fun h h' => n89 (by rw [bit_ne false (by decide)] at h; exact h) (by rw [bit_ne false (by decide)] at h'; exact h'))⟩, nine_set _ h9, ord_set _ o7 (fun _ => hm), ord_set _ o8 (fun e => by cases e), ord_set _ o9 (fun e => by cases e)⟩
    · have hm := ready_after hr 13 (by kernel_rfl)
      have hc := ready_after hr 7 (by kernel_rfl)
      obtain ⟨hv, hge, hty⟩ := m8 hm
      have hT := e7 hc
      subst hv hT
      have z0 := hfrozen hty 0
      have z1 := hfrozen hty 1
      have c0 := hcell hty 0
      have c1 := hcell hty 1
      refine tk_skip (w' := (w1.setCell ⟨b8, 0, none⟩ (.int .i64 T2.1)).setCell ⟨b8, 1, none⟩ (.int .i64 T2.2)) rfl (by rfl) (stv hty rfl rfl rfl) ?_
      exact ⟨by simpa using hsz, hk.trans (keeps2 _ b8 _ _) (fun x hx hl => by simp at hx; omega), ⟨v7, .pointer (some ⟨b8, 0, none⟩), v9, v19, tyV T2, v27, b7, b8, b9, rfl, (fun h => e3 (by rw [bit_ne false (by decide)] at h; exact h)), (fun _ => rfl), (fun h => e11 (by rw [bit_ne false (by decide)] at h; exact h)), m7.far (fun h => n78 h hm) (by decide) (by decide), m8.put (by omega) (by decide), m9.far (fun h e => n89 hm h e.symm) (by decide) (by decide), (fun h h' => n78 (by rw [bit_ne false (by decide)] at h; exact h) (by rw [bit_ne false (by decide)] at h'; exact h')), (fun h h' => n79 (by rw [bit_ne false (by decide)] at h; exact h) (by rw [bit_ne false (by decide)] at h'; exact h')), (fun h h' => n89 (by rw [bit_ne false (by decide)] at h; exact h) (by rw [bit_ne false (by decide)] at h'; exact h'))⟩, nine_set _ h9, ord_set _ o7 (fun e => by cases e), ord_set _ o8 (fun _ => hm), ord_set _ o9 (fun e => by cases e)⟩
    · have hm := ready_after hr 14 (by kernel_rfl)
      have hc := ready_after hr 11 (by kernel_rfl)
      obtain ⟨hv, hge, hty⟩ := m9 hm
      have hT := e11 hc
      subst hv hT
      have z0 := hfrozen hty 0
      have z1 := hfrozen hty 1
      have c0 := hcell hty 0
      have c1 := hcell hty 1
      refine tk_skip (w' := (w1.setCell ⟨b9, 0, none⟩ (.int .i64 T3.1)).setCell ⟨b9, 1, none⟩ (.int .i64 T3.2)) rfl (by rfl) (stv hty rfl rfl rfl) ?_
      exact ⟨by simpa using hsz, hk.trans (keeps2 _ b9 _ _) (fun x hx hl => by simp at hx; omega), ⟨v7, v8, .pointer (some ⟨b9, 0, none⟩), v19, v23, tyV T3, b7, b8, b9, rfl, (fun h => e3 (by rw [bit_ne false (by decide)] at h; exact h)), (fun h => e7 (by rw [bit_ne false (by decide)] at h; exact h)), (fun _ => rfl), m7.far (fun h => n79 h hm) (by decide) (by decide), m8.far (fun h => n89 h hm) (by decide) (by decide), m9.put (by omega) (by decide), (fun h h' => n78 (by rw [bit_ne false (by decide)] at h; exact h) (by rw [bit_ne false (by decide)] at h'; exact h')), (fun h h' => n79 (by rw [bit_ne false (by decide)] at h; exact h) (by rw [bit_ne false (by decide)] at h'; exact h')), (fun h h' => n89 (by rw [bit_ne false (by decide)] at h; exact h) (by rw [bit_ne false (by decide)] at h'; exact h'))⟩, nine_set _ h9, ord_set _ o7 (fun e => by cases e), ord_set _ o8 (fun e => by cases e), ord_set _ o9 (fun _ => hm)⟩
  case hd =>
    rintro l a w1 ⟨hsz, hk, ⟨v7, v8, v9, v19, v23, v27, b7, b8, b9, rfl, e3, e7, e11, m7, m8, m9, -, -, -⟩, -, -, -, -⟩ hr
    have hall := all_listed hsz hr (by kernel_rfl)
    obtain ⟨hv7, -, t7⟩ := m7 (hall 12 (by decide))
    obtain ⟨hv8, -, t8⟩ := m8 (hall 13 (by decide))
    obtain ⟨hv9, -, t9⟩ := m9 (hall 14 (by decide))
    rw [hall 15 (by decide)] at t7
    rw [hall 16 (by decide)] at t8
    rw [hall 17 (by decide)] at t9
    have hv19 := e3 (hall 3 (by decide))
    have hv23 := e7 (hall 7 (by decide))
    have hv27 := e11 (hall 11 (by decide))
    subst hv7 hv8 hv9 hv19 hv23 hv27
    have T7 : Box (TyAt w1 b7 T1) := hid t7
    have T8 : Box (TyAt w1 b8 T2) := hid t8
    have T9 : Box (TyAt w1 b9 T3) := hid t9
    have K1 := hid (KA.out.quiet hk)
    have h5 := keep_heap HN.out hk
    have i0 := hcell h5 0
    have HI5 := hid h5
    clear hall m7 m8 m9 e3 e7 e11 hsz hr l t7 t8 t9 h5 ld stv HD0 IN H1 H2 H3 HN hk
    have s0 := hcell T7.out 0
    have s1 := hcell T7.out 1
    have p0 := hcell T8.out 0
    have p1 := hcell T8.out 1
    have r0 := hcell T9.out 0
    have r1 := hcell T9.out 1
    go_wp2_with fail
    go_ret
    exact ⟨by simp only [HT1.out]; rfl, K1.out⟩
end Go.Proofs.YtlopddflbhnjdaaDoor
