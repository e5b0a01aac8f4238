/-
  The document's own Code: the instruction at a point.
-/
import Derived.Test.YtmebkeidpklcbaaDoorRows
import Derived.WalkKit
import Derived.WalkSpells
import Derived.WalkLawsBesides
import Derived.OwnWalk
import Derived.Deep.QuietTactic
import Derived.BigQuiet
import Derived.Maps.AppendAt
import Derived.Lib.Builder
import Derived.Deep.OwnRows
import Derived.Deep.DeepCutAuto
import Derived.Deep.RegionHeld3
import Derived.Deep.AppendLies
import Derived.Shelf.Strconv.Itoa3
import Derived.Test.YtmebkeidpklcbaaDoorZ04

namespace Go.Proofs.YtmebkeidpklcbaaDoor
open Go.RowKit Go.Shelf

/-- What Code does at a point (f, b, i). -/
def CodePost (w : World) (P : Pr8) (f b i : Nat) (e : Ending) (w' : World) : Prop :=
  Keeps [] w w' ∧ ((i < (blk8 (fun8 P f) b).code.length ∧ ∃ a cp, e = .returned (atV (ins8 (blk8 (fun8 P f) b) i) (.slice a (ins8 (blk8 (fun8 P f) b) i).args.length cp)) ∧ IntsAt w' a (ins8 (blk8 (fun8 P f) b) i).args ∧ InOk (ins8 (blk8 (fun8 P f) b) i)) ∨ (¬ i < (blk8 (fun8 P f) b).code.length ∧ e = .returned noAt))
set_option maxRecDepth 20000 in
set_option maxHeartbeats 8000000 in
theorem code_any {w : World} {pb po : Nat} {P : Pr8} (h : PrC w pb po P) (hs : Sm8 P) (f b i : Nat) (hp : IsPt P f b i) :
    Calls Tryd.prog 42 #[.pointer (some ⟨pb, po, none⟩), ptV f b i] w (CodePost w P f b i) := by
  obtain ⟨W, hW⟩ : ∃ W, W = (w.alloc (.cells #[.int .i64 (f : Int), .int .i64 (b : Int), .int .i64 (i : Int)] 43)).alloc (.cells #[.int .i64 0, .int .i64 0, .int .i64 0, .int .i64 0, .int .i64 0, .slice none 0 0] 65) := ⟨_, rfl⟩
  have HW := hid hW
  have k1 := Keeps.alloc [] w (.cells #[.int .i64 (f : Int), .int .i64 (b : Int), .int .i64 (i : Int)] 43)
  have k2 := Keeps.alloc [] (w.alloc (.cells #[.int .i64 (f : Int), .int .i64 (b : Int), .int .i64 (i : Int)] 43)) (.cells #[.int .i64 0, .int .i64 0, .int .i64 0, .int .i64 0, .int .i64 0, .slice none 0 0] 65)
  have KW : Box (Keeps [] w W) := hid (by rw [hW]; exact k1.quiet k2)
  have hq : W.heap[w.heap.size]? = some (.cells #[.int .i64 (f : Int), .int .i64 (b : Int), .int .i64 (i : Int)] 43 (0, 0)) := by rw [hW]; exact keep_heap (heap_new _ _) k2
  have hz : W.heap[w.heap.size + 1]? = some (.cells #[.int .i64 0, .int .i64 0, .int .i64 0, .int .i64 0, .int .i64 0, .slice none 0 0] 65 (0, 0)) := by
    rw [hW]
    have := heap_new (w.alloc (.cells #[.int .i64 (f : Int), .int .i64 (b : Int), .int .i64 (i : Int)] 43)) (.cells #[.int .i64 0, .int .i64 0, .int .i64 0, .int .i64 0, .int .i64 0, .slice none 0 0] 65)
    rw [World.size_alloc] at this
    exact this
  obtain ⟨fa, fcp, H⟩ := h.fns
  obtain ⟨fb, fo, ba, bcp, rfl, B⟩ := H.at hp.1
  obtain ⟨bb, bo, rfl, L⟩ := B.at hp.2.1
  obtain ⟨ca, ccp, hcc0, hrows, _⟩ := L.c0
  have hcc := cell_stays KW.out hcc0
  have h4 := cell_stays KW.out H.cell
  have h2 := cell_stays KW.out B.cell
  have p0 : W.cell? ⟨w.heap.size, 0, none⟩ = some (.int .i64 (f : Int)) := hcell hq 0
  have p1 : W.cell? ⟨w.heap.size, 1, none⟩ = some (.int .i64 (b : Int)) := hcell hq 1
  have p2 : W.cell? ⟨w.heap.size, 2, none⟩ = some (.int .i64 (i : Int)) := hcell hq 2
  have hf := hp.1
  have hb := hp.2.1
  have hi := hp.2.2
  have hf12 := hs.fn
  have hb14 := hs.bk f hf
  have hc9 := hs.code hf hb
  have FIN : Box (i < (blk8 (fun8 P f) b).code.length → ∀ a cp w', Keeps [] w w' → IntsAt w' a (ins8 (blk8 (fun8 P f) b) i).args → InOk (ins8 (blk8 (fun8 P f) b) i) → CodePost w P f b i (.returned (.tuple #[.agg #[.int .i64 (ins8 (blk8 (fun8 P f) b) i).op, .int .i64 (ins8 (blk8 (fun8 P f) b) i).dst, .int .i64 (ins8 (blk8 (fun8 P f) b) i).a, .int .i64 (ins8 (blk8 (fun8 P f) b) i).b, .int .i64 (ins8 (blk8 (fun8 P f) b) i).n, .slice a (ins8 (blk8 (fun8 P f) b) i).args.length cp], .bool true])) w') := hid fun h1 a cp w' h2 h3 h4 => ⟨h2, .inl ⟨h1, a, cp, rfl, h3, h4⟩⟩
  have FIE : Box (¬ i < (blk8 (fun8 P f) b).code.length → ∀ w', Keeps [] w w' → CodePost w P f b i (.returned noAt) w') := hid fun h1 w' h2 => ⟨h2, .inr ⟨h1, rfl⟩⟩
  have HRW := hid hrows
  clear h hs hp k1 k2 H B L hrows hW hcc0
  generalize hNf : P.funcs.length = N at *
  generalize hMb : (fun8 P f).blocks.length = M at *
  clear hNf hMb
  generalize blk8 (fun8 P f) b = x at *
  have g0 : ¬ (f : Int) < 0 := by omega
  have g1 : ¬ (N : Int) ≤ (f : Int) := by omega
  have g1' : (f : Int) < (N : Int) := by omega
  have g2 : ¬ (b : Int) < 0 := by omega
  have g3 : ¬ (M : Int) ≤ (b : Int) := by omega
  have g3' : (b : Int) < (M : Int) := by omega
  have g4 : ¬ (i : Int) < 0 := by omega
  have z0 := hfrozen hz 0
  have z1 := hfrozen hz 1
  have z2 := hfrozen hz 2
  have z3 := hfrozen hz 3
  have z4 := hfrozen hz 4
  have z5 := hfrozen hz 5
  have c0 := hcell hz 0
  have c1 := hcell hz 1
  have c2 := hcell hz 2
  have c3 := hcell hz 3
  have c4 := hcell hz 4
  have c5 := hcell hz 5
  have HHZ := hid hz
  have hzl : w.heap.size ≤ w.heap.size + 1 := by omega
  unfold ptV
  by_cases hin : i < x.code.length
  · obtain ⟨cb, co, rfl, h3⟩ := HRW.out.at (ins_get hin)
    obtain ⟨hok, ar, acp, y50, y6, _⟩ := h3.open
    have y5 := cell_stays KW.out y50
    have y0 := cell_stays KW.out h3.c0.1
    have y1 := cell_stays KW.out h3.c1.1
    have y2 := cell_stays KW.out h3.c2.1
    have y3 := cell_stays KW.out h3.c3.1
    have y4 := cell_stays KW.out h3.c4.1
    have HY6 := hid y6
    have HOK := hid hok
    have HIN := hid hin
    have g5 : ¬ (x.code.length : Int) ≤ (i : Int) := by omega
    have g5' : (i : Int) < (x.code.length : Int) := by omega
    clear h3 y6 hok HRW hq hz y50
    generalize x.code.length = n at *
    generalize (ins8 x i).op = v0 at *
    generalize (ins8 x i).dst = v1 at *
    generalize (ins8 x i).a = v2 at *
    generalize (ins8 x i).b = v3 at *
    generalize (ins8 x i).n = v4 at *
    generalize (ins8 x i).args = ag at *
    go_enter Tryd.func42, Tryd.ntmps42
    go_upto_region 1 with fail
    rw [← HW.out]
    clear HW
    generalize hq0 : w.heap.size = q at *
    go_quiet (fail)
    go_wp2_with fail
    go_region
    go_wp2_with fail
    have h6 := set6 (w := W.drewN (nq + 1)) HHZ.out (.int .i64 v0) (.int .i64 v1) (.int .i64 v2) (.int .i64 v3) (.int .i64 v4) (.slice ar ag.length acp)
    have e0 := hcell h6 0
    have e1 := hcell h6 1
    have e2 := hcell h6 2
    have e3 := hcell h6 3
    have e4 := hcell h6 4
    have e5 := hcell h6 5
    have KF := (KW.out.quiet (Keeps.drewN [] W (nq + 1))).fresh (keeps6 (W.drewN (nq + 1)) (q + 1) (.int .i64 v0) (.int .i64 v1) (.int .i64 v2) (.int .i64 v3) (.int .i64 v4) (.slice ar ag.length acp)) (fun x hx => by simp at hx; omega)
    refine bodyPost_ret (v := .tuple #[.agg #[.int .i64 v0, .int .i64 v1, .int .i64 v2, .int .i64 v3, .int .i64 v4, .slice ar ag.length acp], .bool true]) (by simp [results, Tryd.results42, go_sem, e0, e1, e2, e3, e4, e5]) rfl ?_
    exact FIN.out HIN.out ar acp _ KF (HY6.out.kept KF (fun _ _ _ => by simp)) HOK.out
  · have hne : i = x.code.length := by omega
    have HIN := hid hin
    have g5 : (x.code.length : Int) ≤ (i : Int) := by omega
    clear HRW FIN hq hz
    generalize x.code.length = n at *
    clear hne hin
    go_enter Tryd.func42, Tryd.ntmps42
    go_upto_region 1 with fail
    rw [← HW.out]
    clear HW
    generalize hq0 : w.heap.size = q at *
    go_quiet (fail)
    go_wp2_with fail
    have h6 := set6 (w := W.drewN nq) HHZ.out (.int .i64 0) (.int .i64 0) (.int .i64 0) (.int .i64 0) (.int .i64 0) (.slice none 0 0)
    have e0 := hcell h6 0
    have e1 := hcell h6 1
    have e2 := hcell h6 2
    have e3 := hcell h6 3
    have e4 := hcell h6 4
    have e5 := hcell h6 5
    have KF := (KW.out.quiet (Keeps.drewN [] W nq)).fresh (keeps6 (W.drewN nq) (q + 1) (.int .i64 0) (.int .i64 0) (.int .i64 0) (.int .i64 0) (.int .i64 0) (.slice none 0 0)) (fun x hx => by simp at hx; omega)
    exact bodyPost_ret (v := noAt) (by simp [results, Tryd.results42, go_sem, noAt, insV, zero8, e0, e1, e2, e3, e4, e5]) rfl (FIE.out HIN.out _ KF)
end Go.Proofs.YtmebkeidpklcbaaDoor
