/-
  types.Fits of an OConst.
-/
import Derived.Test.YtehgcdbaheddeaaDoorTFit1
import Derived.Test.YtehgcdbaheddeaaDoorTRTy
namespace Go.Proofs.YtehgcdbaheddeaaDoor
open Go.RowKit

set_option maxRecDepth 20000 in
set_option maxHeartbeats 2000000 in
theorem fits_1 {w : World} {pb po : Nat} {P : Pr8} (h : PrC w pb po P) {f : Nat} (hf : f < P.funcs.length) (x : In8) (hop : x.op = 1) {a : Option Addr} {cp : Nat} (hz : IntsAt w a x.args) (hl : x.args.length ≤ 1000) : Calls Tryd.prog 16 #[.pointer (some ⟨pb, po, none⟩), .int .i64 (f : Int), insV x (.slice a x.args.length cp)] w fun e w' => e = .returned (.bool (rtB P (fun8 P f) x && ((regT (fun8 P f) x.dst).1 == 0))) ∧ Keeps [] w w' := by
  obtain ⟨fa, fp, c4, r4, _⟩ := h.c4
  obtain ⟨fb, fo, rfl, hfu0⟩ := r4.at (getD_get (d := ⟨0, [], []⟩) hf)
  have hfu : FuC w fb (fo + f * 3) (fun8 P f) := hfu0
  have ka := Keeps.alloc [] w (.cells #[.int .i64 x.op, .int .i64 x.dst, .int .i64 x.a, .int .i64 x.b, .int .i64 x.n, .slice a x.args.length cp] 54)
  have hn := heap_new w (.cells #[.int .i64 x.op, .int .i64 x.dst, .int .i64 x.a, .int .i64 x.b, .int .i64 x.n, .slice a x.args.length cp] 54)
  have HW := hid fun (w' : World) => within_any (f : Int) P.funcs.length w'
  rw [inB_yes (by omega) (by omega)] at HW
  have H1 := hid fun (w' : World) (k : Keeps [] w w') => regsty_any (cp := cp) (PrC.stays _ _ _ _ _ k h) (FuC.stays _ _ _ _ _ k hfu) x (hz.kept k (fun _ _ _ => by simp)) hl
  have H2 := hid fun (w' : World) (k : Keeps [] w w') => fit_1 (pb := pb) (po := po) (FuC.stays _ _ _ _ _ k hfu) x (.slice a x.args.length cp) hop
  have IN : Box (∀ w', Keeps [] (w.alloc (.cells #[.int .i64 x.op, .int .i64 x.dst, .int .i64 x.a, .int .i64 x.b, .int .i64 x.n, .slice a x.args.length cp] 54)) w' → InW w' w.heap.size x (.slice a x.args.length cp)) := hid fun w' k => by
    have := keep_heap hn k
    exact ⟨hcell this 0, hcell this 1, hcell this 2, hcell this 3, hcell this 4, hcell this 5⟩
  have KA := hid ka
  have c4' := cell_stays ka c4
  have hf' : (f : Int) < (P.funcs.length : Int) := by omega
  clear h r4 hfu0 hfu ka hn hz hl hop c4 hf
  unfold insV at *
  generalize rtB P (fun8 P f) x = r1 at *
  generalize ((regT (fun8 P f) x.dst).1 == 0) = r2 at *
  generalize P.funcs.length = FN at *
  go_enter Tryd.func16, Tryd.ntmps16
  go_upto_region 1 with fail
  generalize w.alloc (.cells #[.int .i64 x.op, .int .i64 x.dst, .int .i64 x.a, .int .i64 x.b, .int .i64 x.n, .slice a x.args.length cp] 54) = WA at *
  generalize w.heap.size = q at *
  obtain ⟨d0, d1, d2, d3, d4, d5⟩ := IN.out _ (Keeps.refl _ _)
  go_wp2_with fail
  refine (HW.out _).mono ?_
  rintro e w1 ⟨rfl, hw1⟩
  rw [hw1]
  clear hw1
  go_wp2_with fail
  refine (H1.out _ KA.out).mono ?_
  rintro e w2 ⟨rfl, k2⟩
  have K2 := hid (KA.out.quiet k2)
  cases r1 with
  | false =>
    clear k2
    go_wp2_with fail
    go_ret
    exact ⟨rfl, K2.out⟩
  | true =>
    clear d0 d1 d2 d3 d4 d5
    obtain ⟨d0, d1, d2, d3, d4, d5⟩ := IN.out _ k2
    clear k2
    go_wp2_with fail
    refine (H2.out _ K2.out).mono ?_
    rintro e w3 ⟨rfl, k3⟩
    have K3 := hid (K2.out.quiet k3)
    clear k3
    go_wp2_with fail
    go_ret
    exact ⟨rfl, K3.out⟩
end Go.Proofs.YtehgcdbaheddeaaDoor
