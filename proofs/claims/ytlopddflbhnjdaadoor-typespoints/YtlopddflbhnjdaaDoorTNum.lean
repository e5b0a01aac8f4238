/-
  types.numberNamed: what an instruction's N names.
-/
import Derived.Test.YtlopddflbhnjdaaDoorTFld
namespace Go.Proofs.YtlopddflbhnjdaaDoor
open Go.RowKit

def numB (P : Pr8) (f : Fu8) (x : In8) : Bool :=
  if x.op = 10 ∨ x.op = 12 then inB x.n P.funcs.length
  else if x.op = 7 ∨ x.op = 8 then (fieldO P (regT f x.a) x.n).isSome || decide ((regT f x.a).1 ≠ 1)
  else if x.op = 14 then (methO P (regT f x.a) x.n).isSome || decide ((regT f x.a).1 ≠ 3) else true
/-- A program, a function of it, and an instruction in a box. -/
structure NumAt (w : World) (pb po fb fo q : Nat) (P : Pr8) (f : Fu8) (x : In8) (ar : Value) : Prop where
  pr : PrC w pb po P
  fu : FuC w fb fo f
  i : InW w q x ar
theorem NumAt.quiet {w w' : World} {pb po fb fo q : Nat} {P : Pr8} {f : Fu8} {x : In8} {ar : Value} (h : NumAt w pb po fb fo q P f x ar) (k : Keeps [] w w') : NumAt w' pb po fb fo q P f x ar :=
  ⟨PrC.stays _ _ _ _ _ k h.pr, FuC.stays _ _ _ _ _ k h.fu, h.i.stays k⟩
set_option maxHeartbeats 4000000 in
theorem num_fun {w : World} {pb po fb fo : Nat} {P : Pr8} {f : Fu8} (h : PrC w pb po P) (x : In8) (ar : Value) (hop : x.op = 10 ∨ x.op = 12) : Calls Tryd.prog 60 #[.pointer (some ⟨pb, po, none⟩), .pointer (some ⟨fb, fo, none⟩), insV x ar] w fun e w' => e = .returned (.bool (numB P f x)) ∧ Keeps [] w w' := by
  have HE : Box (numB P f x = inB x.n P.funcs.length) := hid (by unfold numB; rw [if_pos hop])
  obtain ⟨fa, fp, c4, _⟩ := h.c4
  have ka := Keeps.alloc [] w (.cells #[.int .i64 x.op, .int .i64 x.dst, .int .i64 x.a, .int .i64 x.b, .int .i64 x.n, ar] 54)
  replace c4 := cell_stays ka c4
  have KA := hid ka
  have HW := hid fun (w : World) => within_any x.n P.funcs.length w
  clear h ka
  unfold insV
  generalize numB P f x = res at *
  generalize inB x.n P.funcs.length = r at *
  generalize P.funcs.length = n at *
  rcases hop with e | e
  · rw [e] at KA c4 ⊢
    go_enter Tryd.func60, Tryd.ntmps60
    go_upto_region 4 with fail
    go_quiet ((go_at_call 29; exact Calls.quiet_of_same (HW.out _)))
    go_wp2_with fail
    go_ret
    exact ⟨by rw [HE.out]; rfl, KA.out.quiet (Keeps.drewN _ _ _)⟩
  · rw [e] at KA c4 ⊢
    go_enter Tryd.func60, Tryd.ntmps60
    go_upto_region 4 with fail
    go_quiet ((go_at_call 29; exact Calls.quiet_of_same (HW.out _)))
    go_wp2_with fail
    go_ret
    exact ⟨by rw [HE.out]; rfl, KA.out.quiet (Keeps.drewN _ _ _)⟩
theorem field_cases (o : Option (Int × Int)) : ∃ t b, fieldV o = .tuple #[tyV t, .bool b] ∧ b = o.isSome := ⟨o.getD (0, 0), o.isSome, rfl, rfl⟩
set_option maxHeartbeats 4000000 in
theorem num_field {w : World} {pb po fb fo : Nat} {P : Pr8} {f : Fu8} (h : PrC w pb po P) (hf : FuC w fb fo f) (x : In8) (ar : Value) (hop : x.op = 7 ∨ x.op = 8) : Calls Tryd.prog 60 #[.pointer (some ⟨pb, po, none⟩), .pointer (some ⟨fb, fo, none⟩), insV x ar] w fun e w' => e = .returned (.bool (numB P f x)) ∧ Keeps [] w w' := by
  have HE : Box (numB P f x = ((fieldO P (regT f x.a) x.n).isSome || decide ((regT f x.a).1 ≠ 1))) := hid (by unfold numB; rw [if_neg (by omega), if_pos hop])
  have ka := Keeps.alloc [] w (.cells #[.int .i64 x.op, .int .i64 x.dst, .int .i64 x.a, .int .i64 x.b, .int .i64 x.n, ar] 54)
  have hn := heap_new w (.cells #[.int .i64 x.op, .int .i64 x.dst, .int .i64 x.a, .int .i64 x.b, .int .i64 x.n, ar] 54)
  have HRT := hid (regtype_any (FuC.stays _ _ _ _ _ ka hf) x.a)
  have HFI := hid fun (w' : World) (k : Keeps [] w w') => field_any (PrC.stays _ _ _ _ _ k h) (regT f x.a) x.n
  have KA := hid ka
  have HN := hid hn
  clear h hf ka hn
  unfold insV
  generalize numB P f x = res at *
  obtain ⟨t, b, hv, hb⟩ := field_cases (fieldO P (regT f x.a) x.n)
  rw [hv] at HFI
  rw [← hb] at HE
  clear hv hb
  generalize regT f x.a = T at *
  have go : ∀ (o : Int), x.op = o → ((o == 10) = false) → ((o == 12) = false) → ((o == 7) = true ∨ ((o == 7) = false ∧ (o == 8) = true)) → Calls Tryd.prog 60 #[.pointer (some ⟨pb, po, none⟩), .pointer (some ⟨fb, fo, none⟩), .agg #[.int .i64 x.op, .int .i64 x.dst, .int .i64 x.a, .int .i64 x.b, .int .i64 x.n, ar]] w fun e w' => e = .returned (.bool res) ∧ Keeps [] w w' := by
    intro o e o1 o2 o3
    rw [e] at KA HN HRT ⊢
    clear e
    rcases o3 with o7 | ⟨o7, o8⟩
    all_goals (
      go_enter Tryd.func60, Tryd.ntmps60
      go_upto_region 7 with fail
      generalize w.alloc (.cells #[.int .i64 o, .int .i64 x.dst, .int .i64 x.a, .int .i64 x.b, .int .i64 x.n, ar] 54) = WA at *
      have q2 := hcell HN.out 2
      generalize w.heap.size = q at *
      go_wp2_with fail
      refine HRT.out.mono ?_
      rintro e w1 ⟨rfl, k1⟩
      have h1 := keep_heap HN.out (k1.quiet (Keeps.alloc [] w1 (.cells #[.int .i64 T.1, .int .i64 T.2] 39)))
      have q4 := hcell h1 4
      have hn2 := heap_new w1 (.cells #[.int .i64 T.1, .int .i64 T.2] 39)
      have K1 := hid ((KA.out.quiet k1).quiet (Keeps.alloc [] w1 (.cells #[.int .i64 T.1, .int .i64 T.2] 39)))
      have r0 := hcell hn2 0
      have r1 := hcell hn2 1
      have HN2 := hid hn2
      clear k1 h1 hn2 q2
      go_upto_region 8 with fail
      generalize w1.alloc (.cells #[.int .i64 T.1, .int .i64 T.2] 39) = w2 at *
      generalize w1.heap.size = q1 at *
      go_wp2_with fail
      refine (HFI.out _ K1.out).mono ?_
      rintro e w3 ⟨rfl, k3⟩
      have h3 := keep_heap HN2.out (k3.quiet (Keeps.alloc [] w3 (.cells #[.int .i64 t.1, .int .i64 t.2] 39)))
      have s0 := hcell h3 0
      have K3 := hid ((K1.out.quiet k3).quiet (Keeps.alloc [] w3 (.cells #[.int .i64 t.1, .int .i64 t.2] 39)))
      clear k3 h3 r0 r1 q4
      cases b with
      | true =>
        have HR : Box (res = true) := hid (by rw [HE.out]; rfl)
        go_wp2_with fail
        go_ret
        exact ⟨by rw [HR.out]; rfl, K3.out⟩
      | false =>
        have HR : Box (res = decide (T.1 ≠ 1)) := hid (by rw [HE.out, Bool.false_or])
        have hd : (T.1 != 1) = decide (T.1 ≠ 1) := by by_cases e : T.1 = 1 <;> simp [e]
        rw [← hd] at HR
        clear hd HE
        go_wp2_with fail
        go_ret
        exact ⟨by rw [HR.out]; rfl, K3.out⟩)
  rcases hop with e | e
  · exact go 7 e rfl rfl (.inl rfl)
  · exact go 8 e rfl rfl (.inr ⟨rfl, rfl⟩)
set_option maxHeartbeats 4000000 in
theorem num_meth {w : World} {pb po fb fo : Nat} {P : Pr8} {f : Fu8} (h : PrC w pb po P) (hf : FuC w fb fo f) (x : In8) (ar : Value) (hop : x.op = 14) : Calls Tryd.prog 60 #[.pointer (some ⟨pb, po, none⟩), .pointer (some ⟨fb, fo, none⟩), insV x ar] w fun e w' => e = .returned (.bool (numB P f x)) ∧ Keeps [] w w' := by
  have HE : Box (numB P f x = ((methO P (regT f x.a) x.n).isSome || decide ((regT f x.a).1 ≠ 3))) := hid (by unfold numB; rw [if_neg (by omega), if_neg (by omega), if_pos hop])
  have ka := Keeps.alloc [] w (.cells #[.int .i64 x.op, .int .i64 x.dst, .int .i64 x.a, .int .i64 x.b, .int .i64 x.n, ar] 54)
  have hn := heap_new w (.cells #[.int .i64 x.op, .int .i64 x.dst, .int .i64 x.a, .int .i64 x.b, .int .i64 x.n, ar] 54)
  have HRT := hid (regtype_any (FuC.stays _ _ _ _ _ ka hf) x.a)
  have HFI := hid fun (w' : World) (k : Keeps [] w w') => method_any h k (regT f x.a) x.n
  have KA := hid ka
  have HN := hid hn
  clear h hf ka hn
  unfold insV
  generalize numB P f x = res at *
  generalize methO P (regT f x.a) x.n = O at *
  generalize regT f x.a = T at *
  rw [hop] at KA HN HRT ⊢
  go_enter Tryd.func60, Tryd.ntmps60
  go_upto_region 11 with fail
  generalize w.alloc (.cells #[.int .i64 14, .int .i64 x.dst, .int .i64 x.a, .int .i64 x.b, .int .i64 x.n, ar] 54) = WA at *
  have q2 := hcell HN.out 2
  generalize w.heap.size = q at *
  go_wp2_with fail
  refine HRT.out.mono ?_
  rintro e w1 ⟨rfl, k1⟩
  have h1 := keep_heap HN.out (k1.quiet (Keeps.alloc [] w1 (.cells #[.int .i64 T.1, .int .i64 T.2] 39)))
  have q4 := hcell h1 4
  have hn2 := heap_new w1 (.cells #[.int .i64 T.1, .int .i64 T.2] 39)
  have K1 := hid ((KA.out.quiet k1).quiet (Keeps.alloc [] w1 (.cells #[.int .i64 T.1, .int .i64 T.2] 39)))
  have r0 := hcell hn2 0
  have r1 := hcell hn2 1
  have HN2 := hid hn2
  clear k1 h1 hn2 q2
  go_upto_region 12 with fail
  generalize w1.alloc (.cells #[.int .i64 T.1, .int .i64 T.2] 39) = w2 at *
  generalize w1.heap.size = q1 at *
  go_wp2_with fail
  refine (HFI.out _ K1.out).mono ?_
  cases O with
  | none =>
    rintro e w3 ⟨k3, rfl⟩
    have h3 := keep_heap HN2.out (k3.quiet (Keeps.alloc [] w3 (.cells #[.slice none 0 0, .int .i64 0, .int .i64 0] 41)))
    have s0 := hcell h3 0
    have K3 := hid ((K1.out.quiet k3).quiet (Keeps.alloc [] w3 (.cells #[.slice none 0 0, .int .i64 0, .int .i64 0] 41)))
    clear k3 h3 r0 r1 q4
    have HR : Box (res = decide (T.1 ≠ 3)) := hid (by rw [HE.out, Option.isSome_none, Bool.false_or])
    have hd : (T.1 != 3) = decide (T.1 ≠ 3) := by by_cases e : T.1 = 3 <;> simp [e]
    rw [← hd] at HR
    clear hd HE
    go_wp2_with fail
    go_ret
    exact ⟨by rw [HR.out]; rfl, K3.out⟩
  | some sg =>
    rintro e w3 ⟨k3, v, rfl, ga, gp, rfl, _⟩
    have h3 := keep_heap HN2.out (k3.quiet (Keeps.alloc [] w3 (.cells #[.slice ga sg.1.length gp, .int .i64 sg.2.1, .int .i64 sg.2.2] 41)))
    have s0 := hcell h3 0
    have K3 := hid ((K1.out.quiet k3).quiet (Keeps.alloc [] w3 (.cells #[.slice ga sg.1.length gp, .int .i64 sg.2.1, .int .i64 sg.2.2] 41)))
    clear k3 h3 r0 r1 q4
    have HR : Box (res = true) := hid (by rw [HE.out]; rfl)
    go_wp2_with fail
    go_ret
    exact ⟨by rw [HR.out]; rfl, K3.out⟩
set_option maxHeartbeats 4000000 in
theorem num_no {w : World} {pb po fb fo : Nat} {P : Pr8} {f : Fu8} (x : In8) (ar : Value) (h1 : ¬ (x.op = 10 ∨ x.op = 12)) (h2 : ¬ (x.op = 7 ∨ x.op = 8)) (h3 : ¬ x.op = 14) : Calls Tryd.prog 60 #[.pointer (some ⟨pb, po, none⟩), .pointer (some ⟨fb, fo, none⟩), insV x ar] w fun e w' => e = .returned (.bool (numB P f x)) ∧ Keeps [] w w' := by
  have HE : Box (numB P f x = true) := hid (by unfold numB; rw [if_neg h1, if_neg h2, if_neg h3])
  have o10 := neb (show x.op ≠ 10 by omega)
  have o12 := neb (show x.op ≠ 12 by omega)
  have o7 := neb (show x.op ≠ 7 by omega)
  have o8 := neb (show x.op ≠ 8 by omega)
  have o14 := neb (show x.op ≠ 14 by omega)
  clear h1 h2 h3
  unfold insV
  go_enter Tryd.func60, Tryd.ntmps60
  go_wp2_with fail
  go_ret
  exact ⟨by rw [HE.out]; rfl, Keeps.alloc _ _ _⟩
theorem num_any {w : World} {pb po fb fo : Nat} {P : Pr8} {f : Fu8} (h : PrC w pb po P) (hf : FuC w fb fo f) (x : In8) (ar : Value) : Calls Tryd.prog 60 #[.pointer (some ⟨pb, po, none⟩), .pointer (some ⟨fb, fo, none⟩), insV x ar] w fun e w' => e = .returned (.bool (numB P f x)) ∧ Keeps [] w w' := by
  by_cases h1 : x.op = 10 ∨ x.op = 12
  · exact num_fun h x ar h1
  by_cases h2 : x.op = 7 ∨ x.op = 8
  · exact num_field h hf x ar h2
  by_cases h3 : x.op = 14
  · exact num_meth h hf x ar h3
  exact num_no x ar h1 h2 h3
end Go.Proofs.YtlopddflbhnjdaaDoor
