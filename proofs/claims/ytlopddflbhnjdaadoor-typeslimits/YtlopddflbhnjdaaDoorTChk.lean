/-
  types.pointFits, types.Check: given what Fits tells.
-/
import Derived.Test.YtlopddflbhnjdaaDoorTEndT
import Derived.Test.YtlopddflbhnjdaaDoorTNmPl
import Derived.Test.YtlopddflbhnjdaaDoorTPts
namespace Go.Proofs.YtlopddflbhnjdaaDoor
open Go.RowKit

/-- Does a point fit? g tells of instructions. -/
def ptT (P : Pr8) (g : Fu8 → In8 → Bool) (q : Nat × Nat × Nat) : Bool :=
  if q.2.2 < (blk8 (fun8 P q.1) q.2.1).code.length then g (fun8 P q.1) (ins8 (blk8 (fun8 P q.1) q.2.1) q.2.2) else endT P (fun8 P q.1) (blk8 (fun8 P q.1) q.2.1)
/-- What Fits tells of the program's own instructions. -/
def FitsG (w : World) (pb po : Nat) (P : Pr8) (g : Fu8 → In8 → Bool) : Prop :=
  ∀ (w' : World) (f b i : Nat) (a : Option Addr) (cp : Nat), Keeps [] w w' → f < P.funcs.length → b < (fun8 P f).blocks.length → i < (blk8 (fun8 P f) b).code.length → IntsAt w' a (ins8 (blk8 (fun8 P f) b) i).args →
    Calls Tryd.prog 16 #[.pointer (some ⟨pb, po, none⟩), .int .i64 (f : Int), insV (ins8 (blk8 (fun8 P f) b) i) (.slice a (ins8 (blk8 (fun8 P f) b) i).args.length cp)] w' fun e w2 => e = .returned (.bool (g (fun8 P f) (ins8 (blk8 (fun8 P f) b) i))) ∧ Keeps [] w' w2
set_option maxRecDepth 20000 in
set_option maxHeartbeats 2000000 in
theorem ptt_any {w : World} {pb po : Nat} {P : Pr8} (h : PrC w pb po P) {g : Fu8 → In8 → Bool} (hg : FitsG w pb po P g) {f b i : Nat} (hq : IsPt P f b i) : Calls Tryd.prog 39 #[.pointer (some ⟨pb, po, none⟩), .agg #[.int .i64 (f : Int), .int .i64 (b : Int), .int .i64 (i : Int)]] w fun e w' => e = .returned (.bool (ptT P g (f, b, i))) ∧ Keeps [] w w' := by
  obtain ⟨h1, h2, h3⟩ := hq
  have ka := Keeps.alloc [] w (.cells #[.int .i64 (f : Int), .int .i64 (b : Int), .int .i64 (i : Int)] 50)
  have hn := heap_new w (.cells #[.int .i64 (f : Int), .int .i64 (b : Int), .int .i64 (i : Int)] 50)
  obtain ⟨fa, fp, c4, r4, _⟩ := h.c4
  obtain ⟨fb, fo, rfl, hfu0⟩ := r4.at (getD_get (d := ⟨0, [], []⟩) h1)
  have hfu : FuC w fb (fo + f * 3) (fun8 P f) := hfu0
  obtain ⟨ba, bp, e2, rb, _⟩ := hfu.c2
  obtain ⟨bb, bo, rfl, hbl0⟩ := rb.at (getD_get (d := ⟨[], 0, 0, 0, 0⟩) h2)
  have hbl : BlC w bb (bo + b * 5) (blk8 (fun8 P f) b) := hbl0
  obtain ⟨ca, cp, e3, rc, _⟩ := hbl.c0
  have HEN := hid fun (w' : World) (k : Keeps [] w w') => endt_any (PrC.stays _ _ _ _ _ k h) (FuC.stays _ _ _ _ _ k hfu) (BlC.stays _ _ _ _ _ k hbl)
  have HFT := hid hg
  have HC := hid rc
  have C : Box (∀ w', Keeps [] w w' → w'.cell? ⟨pb, po + 4, none⟩ = some (.slice (some ⟨fb, fo, none⟩) P.funcs.length fp) ∧ w'.cell? ⟨fb, fo + f * 3 + 2, none⟩ = some (.slice (some ⟨bb, bo, none⟩) (fun8 P f).blocks.length bp) ∧ w'.cell? ⟨bb, bo + b * 5, none⟩ = some (.slice ca (blk8 (fun8 P f) b).code.length cp)) := hid fun w' k => ⟨cell_stays k c4, cell_stays k e2, cell_stays k e3⟩
  obtain ⟨c4', e2', e3'⟩ := C.out _ ka
  have q0 := hcell hn 0
  have q1 := hcell hn 1
  have q2 := hcell hn 2
  have KA := hid ka
  have HN := hid hn
  have h1' : (f : Int) < (P.funcs.length : Int) := by omega
  have h2' : (b : Int) < ((fun8 P f).blocks.length : Int) := by omega
  have HH := hid (And.intro h1 (And.intro h2 h3))
  have HE : Box (ptT P g (f, b, i) = if i < (blk8 (fun8 P f) b).code.length then g (fun8 P f) (ins8 (blk8 (fun8 P f) b) i) else endT P (fun8 P f) (blk8 (fun8 P f) b)) := hid rfl
  obtain ⟨N, hN⟩ : ∃ N, N = (blk8 (fun8 P f) b).code.length := ⟨_, rfl⟩
  have HNN := hid hN
  rw [← hN] at C e3' HE
  clear h hfu0 hfu hbl0 hbl c4 e2 e3 rb rc r4 hg ka hn h1 h2 h3 hN
  generalize hFN : P.funcs.length = FN at *
  generalize hBN : (fun8 P f).blocks.length = BN at *
  have HFN := hid hFN
  have HBN := hid hBN
  clear hFN hBN
  go_enter Tryd.func39, Tryd.ntmps39
  go_upto_region 1 with fail
  generalize w.alloc (.cells #[.int .i64 (f : Int), .int .i64 (b : Int), .int .i64 (i : Int)] 50) = WA at *
  generalize w.heap.size = q at *
  go_quiet (fail)
  go_upto_region 2 with fail
  go_quiet (fail)
  go_upto_region 3 with fail
  by_cases hi : i < N
  · have hi' : (i : Int) < (N : Int) := by omega
    have HF : Box (ptT P g (f, b, i) = g (fun8 P f) (ins8 (blk8 (fun8 P f) b) i)) := hid (by rw [HE.out, if_pos hi])
    have hif : i < (blk8 (fun8 P f) b).code.length := by rw [← HNN.out]; exact hi
    obtain ⟨ib, io, rfl, hin⟩ := HC.out.at (show (blk8 (fun8 P f) b).code[i]? = some (ins8 (blk8 (fun8 P f) b) i) from getD_get hif)
    obtain ⟨ga, gp, e5, q5⟩ := SlC.val hin.c5
    have HZ := hid (rows_ints q5.slice.2.1)
    have HIF := hid hif
    have F0 := cell_stays KA.out hin.c0.1
    have F1 := cell_stays KA.out hin.c1.1
    have F2 := cell_stays KA.out hin.c2.1
    have F3 := cell_stays KA.out hin.c3.1
    have F4 := cell_stays KA.out hin.c4.1
    have F5 := cell_stays KA.out e5
    clear hin e5 q5 hif
    have HX := hid fun (w' : World) (k : Keeps [] w w') => HFT.out w' f b i ga gp k (by rw [HFN.out]; omega) (by rw [HBN.out]; omega) HIF.out (HZ.out.kept k (fun _ _ _ => by simp))
    unfold insV at HX
    generalize g (fun8 P f) (ins8 (blk8 (fun8 P f) b) i) = rr at *
    generalize ins8 (blk8 (fun8 P f) b) i = x at *
    clear HFT HEN HE HC HNN HFN HBN HIF HZ hi
    go_quiet (fail)
    go_upto_region 4 with fail
    go_region_held3 (fun w' => w'.cell? ⟨q, 0, none⟩ = some (.int .i64 (f : Int)) ∧ w'.cell? ⟨q, 2, none⟩ = some (.int .i64 (i : Int)) ∧ w'.cell? ⟨bb, bo + b * 5, none⟩ = some (.slice (some ⟨ib, io, none⟩) N cp) ∧ w'.cell? ⟨ib, io + i * 6, none⟩ = some (.int .i64 x.op) ∧ w'.cell? ⟨ib, io + i * 6 + 1, none⟩ = some (.int .i64 x.dst) ∧ w'.cell? ⟨ib, io + i * 6 + 2, none⟩ = some (.int .i64 x.a) ∧ w'.cell? ⟨ib, io + i * 6 + 3, none⟩ = some (.int .i64 x.b) ∧ w'.cell? ⟨ib, io + i * 6 + 4, none⟩ = some (.int .i64 x.n) ∧ w'.cell? ⟨ib, io + i * 6 + 5, none⟩ = some (.slice ga x.args.length gp)) (go_keep) (first
      | (go_at_call 16; refine Calls.mono (HX.out _ ?_) ?_; exact ⟨KA.out.os, KA.out.tape, KA.out.output, KA.out.size, KA.out.block⟩; rintro e w5 ⟨rfl, k5⟩; have K5 : Keeps [] WA w5 := ⟨k5.os, k5.tape, k5.output, k5.size, k5.block⟩; have f0 := cell_stays K5 q0; have f2 := cell_stays K5 q2; have f3 := cell_stays K5 e3'; have g0 := cell_stays K5 F0; have g1 := cell_stays K5 F1; have g2 := cell_stays K5 F2; have g3 := cell_stays K5 F3; have g4 := cell_stays K5 F4; have g5 := cell_stays K5 F5; have HK5 := hid K5; clear k5))
    go_wp2_with fail
    go_ret
    exact ⟨by rw [HF.out]; rfl, KA.out.quiet HK5.out⟩
  · have hi' : ¬ (i : Int) < (N : Int) := by omega
    have HF : Box (ptT P g (f, b, i) = endT P (fun8 P f) (blk8 (fun8 P f) b)) := hid (by rw [HE.out, if_neg hi])
    generalize endT P (fun8 P f) (blk8 (fun8 P f) b) = rr at *
    go_quiet (fail)
    go_wp2_with fail
    refine (HEN.out _ ?_).mono ?_
    · exact KA.out.quiet (by first | exact Keeps.drewN _ _ _)
    rintro e w1 ⟨rfl, k1⟩
    have K1 := hid k1
    clear k1
    go_wp2_with fail
    go_ret
    exact ⟨by rw [HF.out]; rfl, (KA.out.quiet (Keeps.drewN _ _ _)).quiet K1.out⟩
end Go.Proofs.YtlopddflbhnjdaaDoor
