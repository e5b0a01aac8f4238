/-
  types.Fits, given what instrFits tells; of an OConst.
-/
import Derived.Test.YtlopddflbhnjdaaDoorTFit1
import Derived.Test.YtlopddflbhnjdaaDoorTRTy
import Derived.Test.YtlopddflbhnjdaaDoorTIns
namespace Go.Proofs.YtlopddflbhnjdaaDoor
open Go.RowKit

set_option maxRecDepth 20000 in
set_option maxHeartbeats 2000000 in
theorem fits_by {w : World} {pb po : Nat} {P : Pr8} (h : PrC w pb po P) {f : Nat} (hf : f < P.funcs.length) (x : In8) {a : Option Addr} {cp : Nat} (hz : IntsAt w a x.args) (hl : x.args.length ≤ 1000) (r : Bool)
    (H : insOk P (fun8 P f) x = true → ∀ (fb fo : Nat) (w' : World), Keeps [] w w' → PrC w' pb po P → FuC w' fb fo (fun8 P f) → Calls Tryd.prog 32 #[.pointer (some ⟨pb, po, none⟩), .pointer (some ⟨fb, fo, none⟩), insV x (.slice a x.args.length cp)] w' fun e w2 => e = .returned (.bool r) ∧ Keeps [] w' w2) :
    Calls Tryd.prog 16 #[.pointer (some ⟨pb, po, none⟩), .int .i64 (f : Int), insV x (.slice a x.args.length cp)] w fun e w' => e = .returned (.bool (insOk P (fun8 P f) x && (rtB P (fun8 P f) x && r))) ∧ Keeps [] w w' := by
  obtain ⟨fa, fp, c4, r4, _⟩ := h.c4
  obtain ⟨fb, fo, rfl, hfu0⟩ := r4.at (getD_get (d := ⟨0, [], []⟩) hf)
  have hfu : FuC w fb (fo + f * 3) (fun8 P f) := hfu0
  have ka := Keeps.alloc [] w (.cells #[.int .i64 x.op, .int .i64 x.dst, .int .i64 x.a, .int .i64 x.b, .int .i64 x.n, .slice a x.args.length cp] 54)
  have hn := heap_new w (.cells #[.int .i64 x.op, .int .i64 x.dst, .int .i64 x.a, .int .i64 x.b, .int .i64 x.n, .slice a x.args.length cp] 54)
  have HW := hid fun (w' : World) => within_any (f : Int) P.funcs.length w'
  rw [inB_yes (by omega) (by omega)] at HW
  have H0 := hid fun (w' : World) (k : Keeps [] w w') => ins_any (cp := cp) (PrC.stays _ _ _ _ _ k h) (FuC.stays _ _ _ _ _ k hfu) x (hz.kept k (fun _ _ _ => by simp)) hl
  have H1 := hid fun (w' : World) (k : Keeps [] w w') => regsty_any (cp := cp) (PrC.stays _ _ _ _ _ k h) (FuC.stays _ _ _ _ _ k hfu) x (hz.kept k (fun _ _ _ => by simp)) hl
  have H2 := hid fun (hok : insOk P (fun8 P f) x = true) (w' : World) (k : Keeps [] w w') => H hok fb (fo + f * 3) w' k (PrC.stays _ _ _ _ _ k h) (FuC.stays _ _ _ _ _ k hfu)
  have IN : Box (∀ w', Keeps [] (w.alloc (.cells #[.int .i64 x.op, .int .i64 x.dst, .int .i64 x.a, .int .i64 x.b, .int .i64 x.n, .slice a x.args.length cp] 54)) w' → InW w' w.heap.size x (.slice a x.args.length cp)) := hid fun w' k => by
    have := keep_heap hn k
    exact ⟨hcell this 0, hcell this 1, hcell this 2, hcell this 3, hcell this 4, hcell this 5⟩
  have KA := hid ka
  have c4' := cell_stays ka c4
  have hf' : (f : Int) < (P.funcs.length : Int) := by omega
  clear h r4 hfu0 hfu ka hn hz hl H c4 hf
  unfold insV at *
  generalize rtB P (fun8 P f) x = r1 at *
  generalize insOk P (fun8 P f) x = r0 at *
  generalize P.funcs.length = FN at *
  go_enter Tryd.func16, Tryd.ntmps16
  go_upto_region 1 with fail
  generalize w.alloc (.cells #[.int .i64 x.op, .int .i64 x.dst, .int .i64 x.a, .int .i64 x.b, .int .i64 x.n, .slice a x.args.length cp] 54) = WA at *
  generalize w.heap.size = q at *
  obtain ⟨d0, d1, d2, d3, d4, d5⟩ := IN.out _ (Keeps.refl _ _)
  go_wp2_with fail
  refine (HW.out _).mono ?_
  rintro e w1 ⟨rfl, hw1⟩
  rw [hw1]
  clear hw1
  go_wp2_with fail
  refine (H0.out _ KA.out).mono ?_
  rintro e w5 ⟨rfl, k5⟩
  have K5 := hid (KA.out.quiet k5)
  have KW5 := hid k5
  clear d0 d1 d2 d3 d4 d5 k5
  cases r0 with
  | false =>
    clear H2
    go_wp2_with fail
    go_ret
    exact ⟨rfl, K5.out⟩
  | true =>
    obtain ⟨d0, d1, d2, d3, d4, d5⟩ := IN.out _ KW5.out
    go_wp2_with fail
    refine (H1.out _ K5.out).mono ?_
    rintro e w2 ⟨rfl, k2⟩
    have K2 := hid (K5.out.quiet k2)
    clear d0 d1 d2 d3 d4 d5
    cases r1 with
    | false =>
      clear k2 H2
      go_wp2_with fail
      go_ret
      exact ⟨rfl, K2.out⟩
    | true =>
      obtain ⟨d0, d1, d2, d3, d4, d5⟩ := IN.out _ (KW5.out.quiet k2)
      clear k2
      go_wp2_with fail
      refine (H2.out trivial _ K2.out).mono ?_
      rintro e w3 ⟨rfl, k3⟩
      have K3 := hid (K2.out.quiet k3)
      clear k3 H2
      go_wp2_with fail
      go_ret
      exact ⟨by cases r <;> rfl, K3.out⟩
theorem fits_1 {w : World} {pb po : Nat} {P : Pr8} (h : PrC w pb po P) {f : Nat} (hf : f < P.funcs.length) (x : In8) (hop : x.op = 1) {a : Option Addr} {cp : Nat} (hz : IntsAt w a x.args) (hl : x.args.length ≤ 1000) : Calls Tryd.prog 16 #[.pointer (some ⟨pb, po, none⟩), .int .i64 (f : Int), insV x (.slice a x.args.length cp)] w fun e w' => e = .returned (.bool (insOk P (fun8 P f) x && (rtB P (fun8 P f) x && ((regT (fun8 P f) x.dst).1 == 0)))) ∧ Keeps [] w w' :=
  fits_by h hf x hz hl _ fun _ _ _ _ _ _ hfu => fit_1 hfu x _ hop
end Go.Proofs.YtlopddflbhnjdaaDoor
