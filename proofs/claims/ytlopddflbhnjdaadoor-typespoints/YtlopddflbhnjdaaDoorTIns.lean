/-
  types.instrNamed: an instruction's names.
-/
import Derived.Test.YtlopddflbhnjdaaDoorTRest
import Derived.Test.YtlopddflbhnjdaaDoorTRgN
import Derived.Test.YtlopddflbhnjdaaDoorTNum
namespace Go.Proofs.YtlopddflbhnjdaaDoor
open Go.RowKit

def insOk (P : Pr8) (f : Fu8) (x : In8) : Bool := restB x && (regsB f.regs.length x && numB P f x)
set_option maxHeartbeats 4000000 in
theorem ins_any {w : World} {pb po fb fo : Nat} {P : Pr8} {f : Fu8} (h : PrC w pb po P) (hf : FuC w fb fo f) (x : In8) {a : Option Addr} {cp : Nat} (hz : IntsAt w a x.args) (hl : x.args.length ≤ 1000) : Calls Tryd.prog 30 #[.pointer (some ⟨pb, po, none⟩), .pointer (some ⟨fb, fo, none⟩), insV x (.slice a x.args.length cp)] w fun e w' => e = .returned (.bool (insOk P f x)) ∧ Keeps [] w w' := by
  have ka := Keeps.alloc [] w (.cells #[.int .i64 x.op, .int .i64 x.dst, .int .i64 x.a, .int .i64 x.b, .int .i64 x.n, .slice a x.args.length cp] 54)
  have hn := heap_new w (.cells #[.int .i64 x.op, .int .i64 x.dst, .int .i64 x.a, .int .i64 x.b, .int .i64 x.n, .slice a x.args.length cp] 54)
  have H1 := hid fun (w' : World) => rest_any x a cp w'
  have H2 := hid fun (w' : World) (k : Keeps [] w w') => regsn_any (cp := cp) (FuC.stays _ _ _ _ _ k hf) x (hz.kept k (fun _ _ _ => by simp)) hl
  have H3 := hid fun (w' : World) (k : Keeps [] w w') => num_any (PrC.stays _ _ _ _ _ k h) (FuC.stays _ _ _ _ _ k hf) x (.slice a x.args.length cp)
  have HE : Box (insOk P f x = (restB x && (regsB f.regs.length x && numB P f x))) := hid rfl
  have IN : Box (∀ w', Keeps [] (w.alloc (.cells #[.int .i64 x.op, .int .i64 x.dst, .int .i64 x.a, .int .i64 x.b, .int .i64 x.n, .slice a x.args.length cp] 54)) w' → InW w' w.heap.size x (.slice a x.args.length cp)) := hid fun w' k => by
    have := keep_heap hn k
    exact ⟨hcell this 0, hcell this 1, hcell this 2, hcell this 3, hcell this 4, hcell this 5⟩
  have KA := hid ka
  clear h hf hz hl ka hn
  unfold insV at *
  generalize insOk P f x = res at *
  generalize restB x = r1 at *
  generalize regsB f.regs.length x = r2 at *
  generalize numB P f x = r3 at *
  go_enter Tryd.func30, Tryd.ntmps30
  go_upto_region 1 with fail
  generalize w.alloc (.cells #[.int .i64 x.op, .int .i64 x.dst, .int .i64 x.a, .int .i64 x.b, .int .i64 x.n, .slice a x.args.length cp] 54) = WA at *
  generalize w.heap.size = q at *
  obtain ⟨d0, d1, d2, d3, d4, d5⟩ := IN.out _ (Keeps.refl _ _)
  go_wp2_with fail
  refine (H1.out _).mono ?_
  rintro e w1 ⟨rfl, k1⟩
  have K1 := hid (KA.out.quiet k1)
  clear d0 d1 d2 d3 d4 d5
  cases r1 with
  | false =>
    have HR : Box (res = false) := hid (by rw [HE.out]; rfl)
    clear HE k1
    go_wp2_with fail
    go_ret
    exact ⟨by rw [HR.out]; rfl, K1.out⟩
  | true =>
    obtain ⟨d0, d1, d2, d3, d4, d5⟩ := IN.out _ k1
    have KW1 := hid k1
    clear k1
    go_wp2_with fail
    refine (H2.out _ K1.out).mono ?_
    rintro e w2 ⟨rfl, k2⟩
    have K2 := hid (K1.out.quiet k2)
    clear d0 d1 d2 d3 d4 d5
    cases r2 with
    | false =>
      have HR : Box (res = false) := hid (by rw [HE.out]; rfl)
      clear HE k2
      go_wp2_with fail
      go_ret
      exact ⟨by rw [HR.out]; rfl, K2.out⟩
    | true =>
      obtain ⟨d0, d1, d2, d3, d4, d5⟩ := IN.out _ (KW1.out.quiet k2)
      clear k2
      go_wp2_with fail
      refine (H3.out _ K2.out).mono ?_
      rintro e w3 ⟨rfl, k3⟩
      have K3 := hid (K2.out.quiet k3)
      clear k3
      have HR : Box (res = r3) := hid (by rw [HE.out]; rfl)
      clear HE
      go_wp2_with fail
      go_ret
      exact ⟨by rw [HR.out]; rfl, K3.out⟩
end Go.Proofs.YtlopddflbhnjdaaDoor
