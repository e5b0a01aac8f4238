/-
  One: a program of one function that gives a number back.
  begun: one program is right, one has a register too many, no program is out of bounds.
  The document's own in, eq, typ, named, Impl, call.
  Says, Nowhere: is an error just that refusal?
  What all cards of this seat share: the listed variables, read as cells; a world for the witness; the form's frame.
  One, once more (of TOne, TBegun what the base has not laid).
-/
import Derived.Test.YtmebkeidpklcbaaDoorRows
import Derived.WalkKit
import Derived.WalkSpells
import Derived.WalkLawsBesides
import Derived.OwnWalk
import Derived.Deep.QuietTactic
import Derived.BigQuiet
import Derived.Maps.AppendAt
import Derived.Lib.Builder
import Derived.Deep.OwnRows
import Derived.Deep.DeepCutAuto
import Derived.Deep.AppendLies
import Derived.LaidEql
import Derived.Stop.Asserts
import Derived.RowKitTokens
import Derived.Defers
import Derived.Recover
import Derived.Deep.RegionLaw
import Derived.Deep.RegionHeld
import Derived.Deep.RegionWith
import Derived.Deep.RegionHeld3
import Derived.Laws.AppendOwnNone
import Derived.Test.YtmebkeidpklcbaaDoorCards
import Derived.Test.YtmebkeidpklcbaaDoorTie
import Derived.ProofKit
import Derived.OpenShut
import Derived.ChangeOld
import Derived.Deep.DeepHandedRow
import Derived.Lib.LaidTab
import Derived.LaidHandle
import Derived.Stop.LaidErr
import Derived.Test.YtmebkeidpklcbaaDoorZ03
import Derived.Test.YtmebkeidpklcbaaDoorZ04
import Derived.Test.YtmebkeidpklcbaaDoorZ09
import Derived.Test.YtmebkeidpklcbaaDoorZ12

namespace Go.Proofs.YtmebkeidpklcbaaDoor
open Go.RowKit

/-- One's memory: six blocks; the register that is given back. -/
structure OneB (w : World) (n : Nat) (r : Int) : Prop where
  h0 : w.heap[n]? = some (.cells #[.slice none 0 0, .int .i64 0, .int .i64 0] 72 (0, 0))
  h1 : w.heap[n + 1]? = some (.cells #[.int .i64 0, .int .i64 0] 70 (0, 0))
  h2 : w.heap[n + 2]? = some (.cells #[.int .i64 1, .int .i64 0, .int .i64 0, .int .i64 0, .int .i64 7, .slice none 0 0] 65 (0, 0))
  h3 : w.heap[n + 3]? = some (.cells #[.slice (some ⟨n + 2, 0, none⟩) 1 1, .int .i64 3, .int .i64 r, .int .i64 0, .int .i64 0] 63 (0, 0))
  h4 : w.heap[n + 4]? = some (.cells #[.int .i64 0, .slice (some ⟨n + 1, 0, none⟩) 1 1, .slice (some ⟨n + 3, 0, none⟩) 1 1] 39 (0, 0))
  h5 : w.heap[n + 5]? = some (.cells #[.slice none 0 0, .slice (some ⟨n, 0, none⟩) 1 1, .slice none 0 0, .slice none 0 0, .slice (some ⟨n + 4, 0, none⟩) 1 1, .int .i64 0] 31 (0, 0))
theorem OneB.quiet {w w' : World} {n : Nat} {r : Int} (h : OneB w n r) (k : Keeps [] w w') : OneB w' n r :=
  ⟨keep_heap h.h0 k, keep_heap h.h1 k, keep_heap h.h2 k, keep_heap h.h3 k, keep_heap h.h4 k, keep_heap h.h5 k⟩
def in1 : In8 := ⟨1, 0, 0, 0, 7, []⟩
def bl1 (r : Int) : Bl8 := ⟨[in1], 3, r, 0, 0⟩
def fu1 (r : Int) : Fu8 := ⟨0, [(0, 0)], [bl1 r]⟩
def pr1 (r : Int) : Pr8 := ⟨[], [([], 0, 0)], [], [], [fu1 r], 0⟩
theorem heap_at {w : World} {o : Obj} {n : Nat} (h : w.heap.size = n) : (w.alloc o).heap[n]? = some o := by subst h; exact heap_new w o
theorem one_any (w : World) : Calls Tryd.prog 22 #[] w fun e w' => e = .returned (.pointer (some ⟨w.heap.size + 5, 0, none⟩)) ∧ OneB w' w.heap.size 0 ∧ Keeps [] w w' := by
  obtain ⟨n, hn⟩ : ∃ n, n = w.heap.size := ⟨_, rfl⟩
  rw [← hn]
  obtain ⟨w1, e1⟩ : ∃ w1, w1 = w.alloc (.cells #[.slice none 0 0, .int .i64 0, .int .i64 0] 72) := ⟨_, rfl⟩
  obtain ⟨w2, e2⟩ : ∃ w2, w2 = w1.alloc (.cells #[.int .i64 0, .int .i64 0] 70) := ⟨_, rfl⟩
  obtain ⟨w3, e3⟩ : ∃ w3, w3 = w2.alloc (.cells #[.int .i64 1, .int .i64 0, .int .i64 0, .int .i64 0, .int .i64 7, .slice none 0 0] 65) := ⟨_, rfl⟩
  obtain ⟨w4, e4⟩ : ∃ w4, w4 = w3.alloc (.cells #[.slice (some ⟨n + 2, 0, none⟩) 1 1, .int .i64 3, .int .i64 0, .int .i64 0, .int .i64 0] 63) := ⟨_, rfl⟩
  obtain ⟨w5, e5⟩ : ∃ w5, w5 = w4.alloc (.cells #[.int .i64 0, .slice (some ⟨n + 1, 0, none⟩) 1 1, .slice (some ⟨n + 3, 0, none⟩) 1 1] 39) := ⟨_, rfl⟩
  obtain ⟨w6, e6⟩ : ∃ w6, w6 = w5.alloc (.cells #[.slice none 0 0, .slice (some ⟨n, 0, none⟩) 1 1, .slice none 0 0, .slice none 0 0, .slice (some ⟨n + 4, 0, none⟩) 1 1, .int .i64 0] 31) := ⟨_, rfl⟩
  have s1 : w1.heap.size = n + 1 := by rw [e1, World.size_alloc, hn]
  have s2 : w2.heap.size = n + 2 := by rw [e2, World.size_alloc, s1]
  have s3 : w3.heap.size = n + 3 := by rw [e3, World.size_alloc, s2]
  have s4 : w4.heap.size = n + 4 := by rw [e4, World.size_alloc, s3]
  have s5 : w5.heap.size = n + 5 := by rw [e5, World.size_alloc, s4]
  have k1 : Keeps [] w w1 := by rw [e1]; exact Keeps.alloc _ _ _
  have k2 : Keeps [] w1 w2 := by rw [e2]; exact Keeps.alloc _ _ _
  have k3 : Keeps [] w2 w3 := by rw [e3]; exact Keeps.alloc _ _ _
  have k4 : Keeps [] w3 w4 := by rw [e4]; exact Keeps.alloc _ _ _
  have k5 : Keeps [] w4 w5 := by rw [e5]; exact Keeps.alloc _ _ _
  have k6 : Keeps [] w5 w6 := by rw [e6]; exact Keeps.alloc _ _ _
  have H : Box (OneB w6 n 0 ∧ Keeps [] w w6) := hid ⟨⟨
    keep_heap (by rw [e1]; exact heap_at hn.symm) ((((k2.quiet k3).quiet k4).quiet k5).quiet k6),
    keep_heap (by rw [e2]; exact heap_at s1) (((k3.quiet k4).quiet k5).quiet k6),
    keep_heap (by rw [e3]; exact heap_at s2) ((k4.quiet k5).quiet k6),
    keep_heap (w := w4) (by rw [e4]; exact heap_at s3) (k5.quiet k6),
    keep_heap (w := w5) (by rw [e5]; exact heap_at s4) k6,
    by rw [e6]; exact heap_at s5⟩, ((((k1.quiet k2).quiet k3).quiet k4).quiet k5).quiet k6⟩
  have HW := hid e6
  subst e5 e4 e3 e2 e1
  clear s1 s2 s3 s4 s5 k1 k2 k3 k4 k5 k6 e6
  subst hn
  rw [HW.out] at H
  clear HW
  go_enter Tryd.func22, Tryd.ntmps22
  go_wp2_with fail
  go_ret
  exact ⟨rfl, H.out⟩
end Go.Proofs.YtmebkeidpklcbaaDoor

namespace Go.Proofs.YtmebkeidpklcbaaDoor
open Go.RowKit

theorem one_few (r : Int) : FewA (pr1 r) := by
  intro f b i hf hb hi
  obtain rfl : f = 0 := by simpa [pr1] using hf
  obtain rfl : b = 0 := by simpa [fun8, pr1, fu1] using hb
  obtain rfl : i = 0 := by simpa [fun8, blk8, pr1, fu1, bl1] using hi
  simp [fun8, blk8, ins8, pr1, fu1, bl1, in1]
end Go.Proofs.YtmebkeidpklcbaaDoor

namespace Go.Proofs.YtmebkeidpklcbaaDoor
open Go.RowKit

theorem rfin_any (k : Int) (n : Nat) (w : World) : Calls Tryd.prog 52 #[.int .i64 k, .int .i64 (n : Int)] w fun e w' => e = .returned (.bool (inB k n)) ∧ w' = w := by
  have HE : Box (inB k n = (decide (0 ≤ k) && decide (k < (n : Int)))) := hid rfl
  by_cases h : 0 ≤ k
  · have HF : Box (inB k n = decide (k < (n : Int))) := hid (by rw [HE.out]; simp [h])
    clear HE
    go_enter Tryd.func52, Tryd.ntmps52
    go_wp2_with fail
    go_ret
    exact ⟨by rw [HF.out]; rfl, rfl⟩
  · have HF : Box (inB k n = false) := hid (by rw [HE.out]; simp [h])
    clear HE
    go_enter Tryd.func52, Tryd.ntmps52
    go_wp2_with fail
    go_ret
    exact ⟨by rw [HF.out]; rfl, rfl⟩
/-- A function by value. -/
def fnV (sg : Int) (ra : Option Addr) (R rp : Nat) (bv : Value) : Value := .agg #[.int .i64 sg, .slice ra R rp, bv]
set_option maxHeartbeats 2000000 in
theorem rnamed_any {w : World} {pb po : Nat} {P : Pr8} (h : PrC w pb po P) (t : Int × Int) : Calls Tryd.prog 51 #[.pointer (some ⟨pb, po, none⟩), tyV t] w fun e w' => e = .returned (.bool (tyB P t)) ∧ Keeps [] w w' := by
  have ka := Keeps.alloc [] w (.cells #[.int .i64 t.1, .int .i64 t.2] 70)
  have hn := heap_new w (.cells #[.int .i64 t.1, .int .i64 t.2] 70)
  obtain ⟨a0, p0, c0, _⟩ := h.c0
  obtain ⟨a1, p1, c1, _⟩ := h.c1
  obtain ⟨a2, p2, c2, _⟩ := h.c2
  replace c0 := cell_stays ka c0
  replace c1 := cell_stays ka c1
  replace c2 := cell_stays ka c2
  have t0 := hcell hn 0
  have t1 := hcell hn 1
  have HK := hid ka
  have HE : Box (tyB P t = if t.1 = 0 then decide (t.2 = 0) else if t.1 = 1 then inB t.2 P.recs.length else if t.1 = 2 then inB t.2 P.sigs.length else if t.1 = 3 then inB t.2 P.ifs.length else false) := hid rfl
  clear h ka hn
  generalize tyB P t = res at *
  generalize P.recs.length = n0 at *
  generalize P.sigs.length = n1 at *
  generalize P.ifs.length = n2 at *
  obtain ⟨k, n⟩ := t
  simp only at *
  unfold tyV
  by_cases h0 : k = 0
  · subst h0
    have HF : Box (res = (n == 0)) := hid (by rw [HE.out, if_pos rfl]; by_cases e : n = 0 <;> simp [e])
    clear HE
    go_enter Tryd.func51, Tryd.ntmps51
    go_wp2_with fail
    go_ret
    exact ⟨by rw [HF.out]; rfl, HK.out⟩
  by_cases h1 : k = 1
  · subst h1
    have HF : Box (res = inB n n0) := hid (by rw [HE.out]; simp)
    clear HE
    by_cases hn : 0 ≤ n
    · have g1 : decide ((0 : Int) ≤ n) = true := decide_eq_true hn
      have HG : Box (res = decide (n < (n0 : Int))) := hid (by rw [HF.out]; unfold inB; rw [g1]; rfl)
      clear HF
      go_enter Tryd.func51, Tryd.ntmps51
      go_upto_region 5 with fail
      go_quiet (fail)
      go_wp2_with fail
      go_ret
      exact ⟨by rw [HG.out]; rfl, HK.out.quiet (Keeps.drewN _ _ _)⟩
    · have g1 : decide ((0 : Int) ≤ n) = false := decide_eq_false hn
      have HG : Box (res = false) := hid (by rw [HF.out]; unfold inB; rw [g1]; rfl)
      clear HF
      go_enter Tryd.func51, Tryd.ntmps51
      go_upto_region 5 with fail
      go_quiet (fail)
      go_wp2_with fail
      go_ret
      exact ⟨by rw [HG.out]; rfl, HK.out.quiet (Keeps.drewN _ _ _)⟩
  by_cases h2 : k = 2
  · subst h2
    have HF : Box (res = inB n n1) := hid (by rw [HE.out]; simp)
    clear HE
    by_cases hn : 0 ≤ n
    · have g1 : decide ((0 : Int) ≤ n) = true := decide_eq_true hn
      have HG : Box (res = decide (n < (n1 : Int))) := hid (by rw [HF.out]; unfold inB; rw [g1]; rfl)
      clear HF
      go_enter Tryd.func51, Tryd.ntmps51
      go_upto_region 7 with fail
      go_quiet (fail)
      go_wp2_with fail
      go_ret
      exact ⟨by rw [HG.out]; rfl, HK.out.quiet (Keeps.drewN _ _ _)⟩
    · have g1 : decide ((0 : Int) ≤ n) = false := decide_eq_false hn
      have HG : Box (res = false) := hid (by rw [HF.out]; unfold inB; rw [g1]; rfl)
      clear HF
      go_enter Tryd.func51, Tryd.ntmps51
      go_upto_region 7 with fail
      go_quiet (fail)
      go_wp2_with fail
      go_ret
      exact ⟨by rw [HG.out]; rfl, HK.out.quiet (Keeps.drewN _ _ _)⟩
  by_cases h3 : k = 3
  · subst h3
    have HF : Box (res = inB n n2) := hid (by rw [HE.out]; simp)
    clear HE
    by_cases hn : 0 ≤ n
    · have g1 : decide ((0 : Int) ≤ n) = true := decide_eq_true hn
      have HG : Box (res = decide (n < (n2 : Int))) := hid (by rw [HF.out]; unfold inB; rw [g1]; rfl)
      clear HF
      go_enter Tryd.func51, Tryd.ntmps51
      go_upto_region 9 with fail
      go_quiet (fail)
      go_wp2_with fail
      go_ret
      exact ⟨by rw [HG.out]; rfl, HK.out.quiet (Keeps.drewN _ _ _)⟩
    · have g1 : decide ((0 : Int) ≤ n) = false := decide_eq_false hn
      have HG : Box (res = false) := hid (by rw [HF.out]; unfold inB; rw [g1]; rfl)
      clear HF
      go_enter Tryd.func51, Tryd.ntmps51
      go_upto_region 9 with fail
      go_quiet (fail)
      go_wp2_with fail
      go_ret
      exact ⟨by rw [HG.out]; rfl, HK.out.quiet (Keeps.drewN _ _ _)⟩
  have o0 := neb h0
  have o1 := neb h1
  have o2 := neb h2
  have o3 := neb h3
  have HF : Box (res = false) := hid (by rw [HE.out, if_neg h0, if_neg h1, if_neg h2, if_neg h3])
  clear HE h0 h1 h2 h3
  go_enter Tryd.func51, Tryd.ntmps51
  go_wp2_with fail
  go_ret
  exact ⟨by rw [HF.out]; rfl, HK.out⟩
end Go.Proofs.YtmebkeidpklcbaaDoor

namespace Go.Proofs.YtmebkeidpklcbaaDoor
open Go.RowKit

theorem nowhere_any (w : World) : Calls Tryd.prog 30 #[] w fun e w' => e = .returned (.agg #[.int .i64 (-1), .int .i64 0, .int .i64 0]) ∧ Keeps [] w w' := by
  go_enter Tryd.func30, Tryd.ntmps30
  go_wp2_with fail
  exact bodyPost_ret (v := .agg #[.int .i64 (-1), .int .i64 0, .int .i64 0]) (by simp [results, Tryd.results30, go_sem]) rfl ⟨rfl, Keeps.alloc _ _ _⟩
theorem says_none (f b i : Int) (w : World) : Calls Tryd.prog 15 #[.nilIface, .int .i64 0, .agg #[.int .i64 f, .int .i64 b, .int .i64 i]] w fun e w' => e = .returned (.bool true) ∧ Keeps [] w w' := by
  go_enter Tryd.func15, Tryd.ntmps15
  go_wp2_with fail
  go_ret
  exact ⟨rfl, Keeps.alloc _ _ _⟩
set_option maxHeartbeats 2000000 in
theorem says_now {w : World} {p : Nat} {y : Int} (hg : Glob w) (h : RefAt w p y (-1) 0 0) (hy : y ≠ 0) : Calls Tryd.prog 15 #[errV p, .int .i64 y, .agg #[.int .i64 (-1), .int .i64 0, .int .i64 0]] w fun e w' => e = .returned (.bool true) ∧ Keeps [] w w' := by
  have ka := Keeps.alloc [] w (.cells #[.int .i64 (-1), .int .i64 0, .int .i64 0] 43)
  have hn := heap_new w (.cells #[.int .i64 (-1), .int .i64 0, .int .i64 0] 43)
  have H1 := hid (where_no (hg.quiet ka) (h.quiet ka) (by decide))
  have H2 := hid fun (w' : World) (k : Keeps [] w w') => why_ref (hg.quiet k) (h.quiet k)
  have KA := hid ka
  have HN := hid hn
  have o0 := neb hy
  have hd : decide ((0 : Int) ≤ -1) = false := by decide
  have on : (y != y) = false := by simp
  clear hg h ka hn hy
  go_enter Tryd.func15, Tryd.ntmps15
  go_wp2_with fail
  generalize w.alloc (.cells #[.int .i64 (-1), .int .i64 0, .int .i64 0] 43) = WA at *
  generalize w.heap.size = q at *
  refine H1.out.mono ?_
  rintro e w1 ⟨rfl, k1⟩
  have K1 := hid ((KA.out.quiet k1).quiet (Keeps.alloc [] w1 (.cells #[.int .i64 0, .int .i64 0, .int .i64 0] 43)))
  have HN1 := hid (keep_heap HN.out (k1.quiet (Keeps.alloc [] w1 (.cells #[.int .i64 0, .int .i64 0, .int .i64 0] 43))))
  clear k1
  go_upto_region 6 with fail
  generalize w1.alloc (.cells #[.int .i64 0, .int .i64 0, .int .i64 0] 43) = w2 at *
  go_wp2_with fail
  refine (H2.out _ K1.out).mono ?_
  rintro e w3 ⟨rfl, k3⟩
  have K3 := hid (K1.out.quiet k3)
  have h3 := keep_heap HN1.out k3
  have q0 := hcell h3 0
  clear k3 h3
  go_wp2_with fail
  go_ret
  exact ⟨rfl, K3.out⟩
end Go.Proofs.YtmebkeidpklcbaaDoor

namespace Go.Proofs.YtmebkeidpklcbaaDoor
open Go.ChangeShapes Go.WideShapes Go.ChangeAt Go.RowKit

theorem Keeps.below {L : List Nat} {w w' : World} (h : Keeps L w w') {B : Nat} (hB : B ≤ w.heap.size) (hL : ∀ x, x ∈ L → B ≤ x) : Below B w w' :=
  ⟨h.os, h.tape, h.output, h.size, fun k hk => h.block k (by omega) (fun hx => by have := hL k hx; omega)⟩
theorem own : ownKnob Tryd.prog.godebug = none := by kernel_rfl
theorem laidOut : laidOutB Tryd.prog = true := by kernel_rfl
theorem gErrT : Tryd.prog.globalNamed "errors.errorType" = some 1 := by kernel_rfl
theorem rtypeRow : (Tryd.prog.cutTypes.find? (·.1 == "internal/reflectlite.rtype")).map (·.2) = some 139 := by kernel_rfl
theorem typesSize : Tryd.prog.types.size = 182 := by kernel_rfl
theorem errorRow : ((List.range 182).filter fun t => Tryd.prog.rowNamed t [101, 114, 114, 111, 114]) = [47] := by kernel_rfl
theorem gTab : Tryd.prog.globalNamed "math/bits.deBruijn64tab" = some 0 := by kernel_rfl
theorem gTabType : (Tryd.prog.globals[0]?).map (·.type) = some 123 := by kernel_rfl
theorem cellsTab : Tryd.prog.cellsOf 123 = 64 := by kernel_rfl
theorem cellsU8 : Tryd.prog.cellsOf 5 = 1 := by kernel_rfl

def tabInts : List Int := [0, 1, 56, 2, 57, 49, 28, 3, 61, 58, 42, 50, 38, 29, 17, 4, 62, 47, 59, 36, 45, 43, 51, 22, 53, 39, 33, 30, 24, 18, 12, 5, 63, 55, 48, 27, 60, 41, 37, 16, 46, 35, 44, 21, 52, 32, 23, 11, 54, 26, 40, 15, 34, 20, 31, 10, 25, 14, 19, 9, 13, 8, 7, 6]

theorem tab_eq : ∀ j, j < 64 → tabInts.getD j 0 = ((Go.Lib.deBruijn64tab.getD j 0 : Nat) : Int) := by decide +kernel
theorem glob_of_laid {W : World} (h : laidMetH Tryd.prog [("math/bits.deBruijn64tab", Rows.laid_math_bits_deBruijn64tab), ("errors.errorType", Rows.laid_errors_errorType)] W) : Glob W := by
  have h' : laidMet Tryd.prog [("math/bits.deBruijn64tab", Rows.laid_math_bits_deBruijn64tab)] W ∧ handlesMet Tryd.prog [("errors.errorType", Rows.laid_errors_errorType)] W := h
  constructor
  obtain ⟨name, u, ty, e1, e2, e3, e4, e5⟩ := h'.2 _ (List.mem_singleton.2 rfl)
  have en : name = [101, 114, 114, 111, 114] := (Option.some.inj e1).symm
  subst en
  obtain rfl := Option.some.inj (rtypeRow.symm.trans e2)
  have hm : ty ∈ (List.range 182).filter fun t => Tryd.prog.rowNamed t [101, 114, 114, 111, 114] := List.mem_filter.2 ⟨List.mem_range.2 (by rw [← typesSize]; exact e3), e4⟩
  rw [errorRow] at hm
  obtain rfl := List.mem_singleton.1 hm
  have hh : typeHandle Tryd.prog 47 = .pointer (some ⟨2, 47, none⟩) := by kernel_rfl
  rw [hh] at e5
  simpa using World.var?_cell gErrT e5 0
theorem table_of_laid {W : World} (h : laidMetH Tryd.prog [("math/bits.deBruijn64tab", Rows.laid_math_bits_deBruijn64tab), ("errors.errorType", Rows.laid_errors_errorType)] W) : TabAt W := by
  have h' : laidMet Tryd.prog [("math/bits.deBruijn64tab", Rows.laid_math_bits_deBruijn64tab)] W ∧ handlesMet Tryd.prog [("errors.errorType", Rows.laid_errors_errorType)] W := h
  have ht : Lib.TabIs Tryd.prog W "math/bits.deBruijn64tab" .u8 tabInts := Lib.tabIs_of_head (rest := []) gTab gTabType Tryd.underlying123 Tryd.underlying5 cellsU8 cellsTab h'.1
  intro j hj
  have hc := ht.cell gTab j hj
  rw [tab_eq j hj] at hc
  exact hc
def putCells (cs : Array Value) : Obj → Obj
  | .cells _ t frozen => .cells cs t frozen
  | o => o

/-- A world for the witness: the settled one, the listed variables holding what their initialisers lay. -/
def laidWorld (P : Program) (os : Os) : World :=
  { World.holding P os ⟨#[], #[], []⟩ with heap := ((World.holding P os ⟨#[], #[], []⟩).heap.modify 1 (putCells #[.iface 139 (.agg #[.pointer (some ⟨2, 47, none⟩)])])).modify 0 (putCells (tabInts.map fun n => Value.int .u8 n).toArray) }
end Go.Proofs.YtmebkeidpklcbaaDoor

namespace Go.Proofs.YtmebkeidpklcbaaDoor
open Go.RowKit

theorem b64_small {z : Int} (h : -100 ≤ z ∧ z ≤ 100) : b64 z := by unfold b64; omega
theorem IntC.of {w : World} {b o : Nat} {z : Int} (h : w.cell? ⟨b, o, none⟩ = some (.int .i64 z)) (hz : -100 ≤ z ∧ z ≤ 100) : IntC w b o z := ⟨h, b64_small hz⟩
theorem RowsAt.one {α : Type} {w : World} {c : Nat} {R : World → Nat → Nat → α → Prop} {b : Nat} {x : α} (h : R w b 0 x) : RowsAt w c R (some ⟨b, 0, none⟩) [x] :=
  .inr ⟨b, 0, rfl, fun j y hy => by
    cases j with
    | zero => simp at hy; subst hy; simpa using h
    | succ j => simp at hy⟩
theorem SlC.one {α : Type} {w : World} {c : Nat} {R : World → Nat → Nat → α → Prop} {b o b' : Nat} {x : α} (hc : w.cell? ⟨b, o, none⟩ = some (.slice (some ⟨b', 0, none⟩) 1 1)) (h : R w b' 0 x) : SlC c R w b o [x] :=
  ⟨_, 1, hc, RowsAt.one h, Nat.le_refl _, by unfold maxLen; simp⟩
theorem SlC.none {α : Type} {w : World} {c : Nat} {R : World → Nat → Nat → α → Prop} {b o : Nat} (hc : w.cell? ⟨b, o, none⟩ = some (.slice none 0 0)) : SlC c R w b o [] :=
  ⟨_, 0, hc, .inl rfl, Nat.le_refl _, by unfold maxLen; simp⟩
theorem OneB.prc {w : World} {n : Nat} {r : Int} (h : OneB w n r) (hr : -100 ≤ r ∧ r ≤ 100) : PrC w (n + 5) 0 (pr1 r) := by
  have i : InC w (n + 2) 0 in1 := ⟨IntC.of (hcell h.h2 0) (by simp [in1]), IntC.of (hcell h.h2 1) (by simp [in1]), IntC.of (hcell h.h2 2) (by simp [in1]), IntC.of (hcell h.h2 3) (by simp [in1]), IntC.of (hcell h.h2 4) (by simp [in1]), SlC.none (hcell h.h2 5)⟩
  have b : BlC w (n + 3) 0 (bl1 r) := ⟨SlC.one (hcell h.h3 0) i, IntC.of (hcell h.h3 1) (by simp [bl1]), IntC.of (hcell h.h3 2) hr, IntC.of (hcell h.h3 3) (by simp [bl1]), IntC.of (hcell h.h3 4) (by simp [bl1])⟩
  have t : TyC w (n + 1) 0 (0, 0) := ⟨IntC.of (hcell h.h1 0) (by simp), IntC.of (hcell h.h1 1) (by simp)⟩
  have f : FuC w (n + 4) 0 (fu1 r) := ⟨IntC.of (hcell h.h4 0) (by simp [fu1]), SlC.one (hcell h.h4 1) t, SlC.one (hcell h.h4 2) b⟩
  have s : SgC w n 0 ([], 0, 0) := ⟨SlC.none (hcell h.h0 0), IntC.of (hcell h.h0 1) (by simp), IntC.of (hcell h.h0 2) (by simp)⟩
  exact ⟨SlC.none (hcell h.h5 0), SlC.one (hcell h.h5 1) s, SlC.none (hcell h.h5 2), SlC.none (hcell h.h5 3), SlC.one (hcell h.h5 4) f, IntC.of (hcell h.h5 5) (by simp [pr1])⟩
theorem OneB.far {w : World} {n m : Nat} {r : Int} {o : Nat} {v : Value} (h : OneB w n r) (hm : n + 5 < m) : OneB (w.setCell ⟨m, o, none⟩ v) n r := by
  have k : ∀ j, j ≤ 5 → (w.setCell ⟨m, o, none⟩ v).heap[n + j]? = w.heap[n + j]? := fun j hj => heap_setCell_other _ _ _ _ (by simp; omega)
  exact ⟨(k 0 (by omega)).trans h.h0, (k 1 (by omega)).trans h.h1, (k 2 (by omega)).trans h.h2, (k 3 (by omega)).trans h.h3, (k 4 (by omega)).trans h.h4, (k 5 (by omega)).trans h.h5⟩
end Go.Proofs.YtmebkeidpklcbaaDoor
