/-
  Contract: assign's Shape.
  Contracts: Says at a place; begun and right of layer 11.
-/
import Derived.Deep.DeepCutAuto
import Derived.BigQuiet
import Derived.Test.YtmebkeidpklcbaaDoorZ07
import Derived.Test.YtmebkeidpklcbaaDoorZ11
import Derived.Test.YtmebkeidpklcbaaDoorZ13
import Derived.Test.YtmebkeidpklcbaaDoorZ21
import Derived.Test.YtmebkeidpklcbaaDoorZ34

namespace Go.Proofs.YtmebkeidpklcbaaDoor
open Go.RowKit

set_option maxRecDepth 20000 in
set_option maxHeartbeats 8000000 in
theorem shape_any {w : World} {pb po : Nat} {P : Pr8} (h : PrC w pb po P) (hz : SzP P) :
    Calls Tryd.prog 14 #[.pointer (some ⟨pb, po, none⟩)] w (FirstPost ((bks P).find? (lostP P)) 6 w) := by
  have HFL : Box (∀ (w' : World) (f : Nat), Keeps [] w w' → f < P.funcs.length → Calls Tryd.prog 10 #[.pointer (some ⟨pb, po, none⟩), .int .i64 (f : Int)] w' fun e w'' => ∃ a, e = .returned (.agg #[.int .i64 ((flowF (fun8 P f)).length : Int), .slice a (flowF (fun8 P f)).length (flowF (fun8 P f)).length]) ∧ GAt w'' w''.heap.size a (flowF (fun8 P f)) ∧ Keeps [] w' w'') := hid fun w' f k hf => flow_any (PrC.stays _ _ _ _ _ k h) hf (hz.bk f hf)
  have HRE : Box (∀ (w' : World) (f : Nat) (a : Option Addr) (B : Nat), f < P.funcs.length → GAt w' B a (flowF (fun8 P f)) → B ≤ w'.heap.size → Calls Tryd.prog 32 #[.agg #[.int .i64 ((flowF (fun8 P f)).length : Int), .slice a (flowF (fun8 P f)).length (flowF (fun8 P f)).length]] w' fun e w'' => ∃ b, e = .returned (.pointer (some ⟨b, 0, none⟩)) ∧ SetAt w'' b (rch (flowF (fun8 P f)) [0]) ∧ Keeps [] w' w'' ∧ w'.heap.size ≤ b) := hid fun w' f a B hf hG hB => reached_any (flowF (fun8 P f)) (flowF_sm (hz.bk f hf)) a _ B w' hG hB
  have HMY : Box (∀ (w' : World) (f : Nat) (a : Option Addr) (B : Nat), f < P.funcs.length → GAt w' B a (flowF (fun8 P f)) → Calls Tryd.prog 31 #[.agg #[.int .i64 ((flowF (fun8 P f)).length : Int), .slice a (flowF (fun8 P f)).length (flowF (fun8 P f)).length]] w' fun e w'' => e = .returned (.bool true) ∧ Keeps [] w' w'') := hid fun w' f a B hf hG => gmay_yes (flowF (fun8 P f)) (flowF_sm (hz.bk f hf)) a _ B w' hG
  have HRF : Box (∀ f, f < P.funcs.length → Fit (rch (flowF (fun8 P f)) [0])) := hid fun f hf => rchS_fit (flowF_sm (hz.bk f hf)) [0] none_ fit_none
  obtain ⟨fa, fcp, H⟩ := h.fns
  have h4 := H.cell
  have HZ := hid hz
  have hN := hz.fn
  clear h H hz
  obtain ⟨N, hNe⟩ : ∃ N, P.funcs.length = N := ⟨_, rfl⟩
  have HN := hid hNe
  rw [hNe] at HFL HRE HMY HRF h4 hN
  clear hNe
  go_enter Tryd.func14, Tryd.ntmps14
  go_wp2_with fail
  clear h4
  go_loopw [14] (fun i wr => ∃ f : Nat, f ≤ N ∧ i = .int .i64 (f : Int) ∧ Box (Keeps [] w wr) ∧ Box (Well (lostP P) (bkP P f))) (fun i _ => N - (intOf i).toNat)
  case atStart => exact ⟨0, by omega, rfl, hid (Keeps.refl _ _), hid (Well.nil _)⟩
  case round =>
    obtain ⟨f, hf, rfl, HK, HW⟩ := hrel
    by_cases hlt : f < N
    · have hlt' : (f : Int) < (N : Int) := by omega
      have HF1 := hid fun (w' : World) (k : Keeps [] w w') => HFL.out w' f k hlt
      have HR1 := hid fun (w' : World) (a : Option Addr) (B : Nat) => HRE.out w' f a B hlt
      have HM1 := hid fun (w' : World) (a : Option Addr) (B : Nat) => HMY.out w' f a B hlt
      have HHF := hid (HRF.out f hlt)
      obtain ⟨n, hn⟩ : ∃ n, (flowF (fun8 P f)).length = n := ⟨_, rfl⟩
      have HBL : Box ((fun8 P f).blocks.length = n) := hid (by rw [← flowF_len]; exact hn)
      rw [hn] at HF1 HR1 HM1
      clear hn
      have hn6 : n ≤ 600 := by rw [← HBL.out]; exact HZ.out.bk f (by rw [HN.out]; exact hlt)
      go_upto_region 7 with (go_at_call 10; refine (HF1.out _ HK.out).mono ?_; rintro e w1 ⟨a, rfl, hg1, k1⟩)
      have ka := Keeps.alloc [] w1 (.cells #[.int .i64 (n : Int), .slice a n n] 34)
      have HBX := hid (TwoAt.new w1 (.int .i64 (n : Int)) (.slice a n n))
      have HGR : Box (GAt (w1.alloc (.cells #[.int .i64 (n : Int), .slice a n n] 34)) w1.heap.size a (flowF (fun8 P f))) := hid (hg1.quiet ka)
      have HK1 := hid ((HK.out.quiet k1).quiet ka)
      clear ka hg1 k1 HK
      generalize w1.alloc (.cells #[.int .i64 (n : Int), .slice a n n] 34) = W1 at *
      generalize w1.heap.size = gb at *
      have c0 := HBX.out.c0
      have c1 := HBX.out.c1
      go_upto_region 8 with (go_at_call 31; refine (HM1.out _ a gb HGR.out).mono ?_; rintro e w2 ⟨rfl, k2⟩)
      have HBX2 := hid (HBX.out.kept k2 (by simp))
      have HK2 := hid (HK1.out.quiet k2)
      have HGR2 := hid (HGR.out.quiet k2)
      have hgb : gb ≤ w2.heap.size := Nat.le_of_lt HBX2.out.lt
      clear c0 c1 HBX HGR HK1 k2
      have c0 := HBX2.out.c0
      have c1 := HBX2.out.c1
      go_upto_region 9 with (go_at_call 32; refine (HR1.out _ a gb HGR2.out hgb).mono ?_; rintro e w3 ⟨b3, rfl, h3, k3, n3⟩)
      have HBX3 := hid (HBX2.out.kept k3 (by simp))
      have HK3 := hid (HK2.out.quiet k3)
      have H3 := hid h3
      clear c0 c1 HBX2 HK2 HGR2 h3 k3 n3 hgb
      have c0 := HBX3.out.c0
      go_wp2_with fail
      clear c0
      go_loopw [27] (fun i wr => ∃ b : Nat, b ≤ n ∧ i = .int .i64 (b : Int) ∧ Box (Keeps [] w wr) ∧ Box (SetAt wr b3 (rch (flowF (fun8 P f)) [0])) ∧ Box (Well (lostP P) (bkF f b))) (fun i _ => n - (intOf i).toNat)
      case atStart => exact ⟨0, by omega, rfl, HK3, H3, hid (Well.nil _)⟩
      case round =>
        clear HK3 H3
        obtain ⟨b, hb, rfl, HK, H3, HWB⟩ := hrel
        by_cases hlb : b < n
        · have hlb' : (b : Int) < (n : Int) := by omega
          have HHS : Box (Calls Tryd.prog 19 #[.pointer (some ⟨b3, 0, none⟩), .int .i64 (b : Int)] wr fun e w'' => e = .returned (.bool (rch (flowF (fun8 P f)) [0] b)) ∧ ∃ m, w'' = wr.drewN m) := hid (by
            have := has_any b3 (rch (flowF (fun8 P f)) [0]) (b : Int) wr H3.out HHF.out
            unfold hasI at this
            rw [Int.toNat_natCast, decide_eq_true (by omega : (0 : Int) ≤ (b : Int)), Bool.true_and] at this
            exact this)
          cases hm : rch (flowF (fun8 P f)) [0] b with
          | true =>
            rw [hm] at HHS
            have HWN := hid (Well.one (B := lostP P) (q := (f, b, 0)) (by show (!rch (flowF (fun8 P f)) [0] b) = false; rw [hm]; rfl))
            clear hm
            go_wp2_with (go_at_call 19; refine HHS.out.mono ?_; rintro e w5 ⟨rfl, m5, rfl⟩)
            have kd := Keeps.drewN [] wr m5
            go_roundw
            case rel => exact ⟨b + 1, by omega, by go_num, hid (HK.out.quiet kd), hid (H3.out.kept kd (by simp)), hid (by rw [bkF_succ]; exact HWB.out.app HWN.out)⟩
            case measure => simp [intOf]; omega
          | false =>
            rw [hm] at HHS
            have HFD : Box ((bks P).find? (lostP P) = some (f, b, 0)) := hid (bks_at (by rw [HN.out]; exact hlt) (by rw [HBL.out]; exact hlb) (HW.out.app HWB.out) (by show (!rch (flowF (fun8 P f)) [0] b) = true; rw [hm]; rfl))
            clear hm
            go_wp2_with (first | (go_at_call 19; refine HHS.out.mono ?_; rintro e w5 ⟨rfl, m5, rfl⟩) | (go_at_call 33; refine (newR_any _ _ _ _ _).mono ?_; rintro e w8 ⟨p8, rfl, h8, k8⟩))
            go_ret
            unfold FirstPost
            rw [HFD.out]
            exact ⟨p8, rfl, h8, (HK.out.quiet (Keeps.drewN [] _ _)).quiet k8⟩
        · obtain rfl : b = n := by omega
          rw [← HBL.out] at HWB
          go_wp2_with fail
          go_roundw
          case rel => exact ⟨f + 1, by omega, by go_num, HK, hid (by rw [bkP_succ]; exact HW.out.app HWB.out)⟩
          case measure => simp [intOf]; omega
    · obtain rfl : f = N := by omega
      have HFD : Box ((bks P).find? (lostP P) = none) := hid (bks_none (by rw [HN.out]; exact HW.out))
      go_wp2
      go_ret
      unfold FirstPost
      rw [HFD.out]
      exact ⟨rfl, HK.out⟩
end Go.Proofs.YtmebkeidpklcbaaDoor

namespace Go.Proofs.YtmebkeidpklcbaaDoor
open Go.RowKit

set_option maxHeartbeats 2000000 in
theorem says_at {w : World} {p : Nat} {y : Int} {f b i : Nat} (hg : Glob w) (h : RefAt w p y (f : Int) (b : Int) (i : Int)) (hy : y ≠ 0) : Calls Tryd.prog 15 #[errV p, .int .i64 y, .agg #[.int .i64 (f : Int), .int .i64 (b : Int), .int .i64 (i : Int)]] w fun e w' => e = .returned (.bool true) ∧ Keeps [] w w' := by
  have ka := Keeps.alloc [] w (.cells #[.int .i64 (f : Int), .int .i64 (b : Int), .int .i64 (i : Int)] 43)
  have hn := heap_new w (.cells #[.int .i64 (f : Int), .int .i64 (b : Int), .int .i64 (i : Int)] 43)
  have H1 := hid (where_yes (hg.quiet ka) (h.quiet ka) (by omega))
  have H2 := hid fun (w' : World) (k : Keeps [] w w') => why_ref (hg.quiet k) (h.quiet k)
  have KA := hid ka
  have HN := hid hn
  have o0 := neb hy
  have hd : decide ((0 : Int) ≤ (f : Int)) = true := by simp
  have on : (y != y) = false := by simp
  clear hg h ka hn hy
  go_enter Tryd.func15, Tryd.ntmps15
  go_wp2_with fail
  generalize w.alloc (.cells #[.int .i64 (f : Int), .int .i64 (b : Int), .int .i64 (i : Int)] 43) = WA at *
  generalize w.heap.size = q at *
  refine H1.out.mono ?_
  rintro e w1 ⟨rfl, k1⟩
  have K1 := hid ((KA.out.quiet k1).quiet (Keeps.alloc [] w1 (.cells #[.int .i64 (f : Int), .int .i64 (b : Int), .int .i64 (i : Int)] 43)))
  have HN1 := hid (keep_heap HN.out (k1.quiet (Keeps.alloc [] w1 (.cells #[.int .i64 (f : Int), .int .i64 (b : Int), .int .i64 (i : Int)] 43))))
  have HN2 := hid (heap_new w1 (.cells #[.int .i64 (f : Int), .int .i64 (b : Int), .int .i64 (i : Int)] 43))
  clear k1
  go_upto_region 6 with fail
  generalize w1.alloc (.cells #[.int .i64 (f : Int), .int .i64 (b : Int), .int .i64 (i : Int)] 43) = w2 at *
  generalize w1.heap.size = q2 at *
  go_wp2_with fail
  refine (H2.out _ K1.out).mono ?_
  rintro e w3 ⟨rfl, k3⟩
  have K3 := hid (K1.out.quiet k3)
  have h3 := keep_heap HN1.out k3
  have h4 := keep_heap HN2.out k3
  have q0 := hcell h3 0
  have q1 := hcell h3 1
  have q2' := hcell h3 2
  have r0 := hcell h4 0
  have r1 := hcell h4 1
  have r2 := hcell h4 2
  clear k3 h3 h4
  go_wp2_with fail
  go_ret
  exact ⟨rfl, K3.out⟩
/-- One without its code. -/
structure OneN (w : World) (n : Nat) : Prop where
  h0 : w.heap[n]? = some (.cells #[.slice none 0 0, .int .i64 0, .int .i64 0] 72 (0, 0))
  h1 : w.heap[n + 1]? = some (.cells #[.int .i64 0, .int .i64 0] 70 (0, 0))
  h3 : w.heap[n + 3]? = some (.cells #[.slice none 0 0, .int .i64 3, .int .i64 0, .int .i64 0, .int .i64 0] 63 (0, 0))
  h4 : w.heap[n + 4]? = some (.cells #[.int .i64 0, .slice (some ⟨n + 1, 0, none⟩) 1 1, .slice (some ⟨n + 3, 0, none⟩) 1 1] 39 (0, 0))
  h5 : w.heap[n + 5]? = some (.cells #[.slice none 0 0, .slice (some ⟨n, 0, none⟩) 1 1, .slice none 0 0, .slice none 0 0, .slice (some ⟨n + 4, 0, none⟩) 1 1, .int .i64 0] 31 (0, 0))
def prN : Pr8 := ⟨[], [([], 0, 0)], [], [], [⟨0, [(0, 0)], [⟨[], 3, 0, 0, 0⟩]⟩], 0⟩
theorem OneN.quiet {w w' : World} {n : Nat} (h : OneN w n) (k : Keeps [] w w') : OneN w' n := ⟨keep_heap h.h0 k, keep_heap h.h1 k, keep_heap h.h3 k, keep_heap h.h4 k, keep_heap h.h5 k⟩
theorem OneN.prc {w : World} {n : Nat} (h : OneN w n) : PrC w (n + 5) 0 prN := by
  have b : BlC w (n + 3) 0 ⟨[], 3, 0, 0, 0⟩ := ⟨SlC.none (hcell h.h3 0), IntC.of (hcell h.h3 1) (by simp), IntC.of (hcell h.h3 2) (by simp), IntC.of (hcell h.h3 3) (by simp), IntC.of (hcell h.h3 4) (by simp)⟩
  have t : TyC w (n + 1) 0 (0, 0) := ⟨IntC.of (hcell h.h1 0) (by simp), IntC.of (hcell h.h1 1) (by simp)⟩
  have f : FuC w (n + 4) 0 ⟨0, [(0, 0)], [⟨[], 3, 0, 0, 0⟩]⟩ := ⟨IntC.of (hcell h.h4 0) (by simp), SlC.one (hcell h.h4 1) t, SlC.one (hcell h.h4 2) b⟩
  have s : SgC w n 0 ([], 0, 0) := ⟨SlC.none (hcell h.h0 0), IntC.of (hcell h.h0 1) (by simp), IntC.of (hcell h.h0 2) (by simp)⟩
  exact ⟨SlC.none (hcell h.h5 0), SlC.one (hcell h.h5 1) s, SlC.none (hcell h.h5 2), SlC.none (hcell h.h5 3), SlC.one (hcell h.h5 4) f, IntC.of (hcell h.h5 5) (by simp [prN])⟩
theorem OneB.bare {w : World} {n : Nat} (h : OneB w n 0) : OneN (w.setCell ⟨n + 3, 0, none⟩ (.slice none 0 0)) n := by
  have k : ∀ j, j ≠ 3 → (w.setCell ⟨n + 3, 0, none⟩ (.slice none 0 0)).heap[n + j]? = w.heap[n + j]? := fun j hj => heap_setCell_other _ _ _ _ (by simp; omega)
  exact ⟨(k 0 (by omega)).trans h.h0, (k 1 (by omega)).trans h.h1, heap_setCell_same _ _ _ _ _ _ h.h3, (k 4 (by omega)).trans h.h4, (k 5 (by omega)).trans h.h5⟩
/-- Sizes, decided. -/
def szB (P : Pr8) : Bool := decide (P.funcs.length ≤ 1000) && P.funcs.all fun F => decide (0 < F.blocks.length) && (decide (F.blocks.length ≤ 600) && (decide (F.regs.length ≤ 1000) && F.blocks.all fun x => decide (x.code.length ≤ 1000000) && x.code.all fun c => decide (c.args.length ≤ 1000)))
theorem getD_out {α : Type} {l : List α} {k : Nat} {d : α} (h : ¬ k < l.length) : l.getD k d = d := by rw [List.getD_eq_getElem?_getD, List.getElem?_eq_none (by omega)]; rfl
theorem szB_sz {P : Pr8} (h : szB P = true) : SzP P := by
  unfold szB at h
  rw [Bool.and_eq_true, List.all_eq_true] at h
  obtain ⟨h1, h2⟩ := h
  have key : ∀ f, f < P.funcs.length → (0 < (fun8 P f).blocks.length ∧ (fun8 P f).blocks.length ≤ 600 ∧ (fun8 P f).regs.length ≤ 1000 ∧ ∀ x, x ∈ (fun8 P f).blocks → x.code.length ≤ 1000000 ∧ ∀ c, c ∈ x.code → c.args.length ≤ 1000) := by
    intro f hf
    have := h2 (fun8 P f) (getD_mem P.funcs f _ hf)
    simp only [Bool.and_eq_true, decide_eq_true_eq, List.all_eq_true] at this
    exact ⟨this.1, this.2.1, this.2.2.1, fun x hx => this.2.2.2 x hx⟩
  refine ⟨of_decide_eq_true h1, fun f hf => (key f hf).1, fun f hf => (key f hf).2.1, fun f hf => (key f hf).2.2.1, fun f b hf => ?_, fun f b k hf hk => ?_⟩
  · by_cases hb : b < (fun8 P f).blocks.length
    · exact ((key f hf).2.2.2 (blk8 (fun8 P f) b) (getD_mem _ b _ hb)).1
    · unfold blk8
      rw [getD_out hb]
      simp
  · by_cases hb : b < (fun8 P f).blocks.length
    · exact ((key f hf).2.2.2 (blk8 (fun8 P f) b) (getD_mem _ b _ hb)).2 _ (getD_mem _ k _ hk)
    · unfold blk8 at hk
      rw [getD_out hb] at hk
      simp at hk
theorem one_chk11 : (pts (pr1 0)).find? (badP (pr1 0)) = none := by decide +kernel
theorem one_shp11 : (bks (pr1 0)).find? (lostP (pr1 0)) = none := by decide +kernel
theorem bare_chk11 : (pts prN).find? (badP prN) = some (0, 0, 0) := by decide +kernel
theorem field_N (n : Int) (v : Value) (w : World) : (Instr.field 34 (.agg #[.int .i64 n, v]) 0).run Tryd.prog w = .ok (.int .i64 n) w := by kernel_rfl
theorem one_flow : (flowF (fun8 (pr1 0) 0)).length = 1 := by decide +kernel
set_option maxRecDepth 20000 in
set_option maxHeartbeats 4000000 in
theorem begun11_any (w : World) (hg : Glob w) (hT : TabAt w) : Calls Tryd.prog 8 #[] w fun e w' => e = .returned (.bool true) ∧ Keeps [] w w' := by
  have HG := hid hg
  have HT := hid hT
  have H1 := hid fun (w' : World) => one_any w'
  clear hg hT
  go_enter Tryd.func8, Tryd.ntmps8
  go_wp2_with fail
  refine (H1.out _).mono ?_
  rintro e w1 ⟨rfl, o1, k1⟩
  have O1 := hid o1
  have K1 := hid k1
  have hlt := heap_lt o1.h5
  clear o1 k1
  obtain ⟨n1, hn1⟩ : ∃ n, n = w.heap.size := ⟨_, rfl⟩
  rw [← hn1] at O1 hlt ⊢
  have HN1 := hid hn1
  clear hn1
  go_wp2_with fail
  refine (H1.out _).mono ?_
  rintro e w2 ⟨rfl, o2, k2⟩
  obtain ⟨n2, hn2⟩ : ∃ n, n = w1.heap.size := ⟨_, rfl⟩
  rw [← hn2] at o2 hlt ⊢
  have HN2 := hid hn2
  have O12 := hid (O1.out.quiet k2)
  have O2 := hid o2
  have K2 := hid (K1.out.quiet k2)
  have p4 := hcell o2.h5 4
  have f2 := hcell o2.h4 2
  have b2 := hcell o2.h3 0
  have z2 := hfrozen o2.h3 0
  clear o2 k2 hn2 O1 K1
  go_wp2_with fail
  have OA := hid (O12.out.far (m := n2 + 3) (o := 0) (v := .slice none 0 0) (by omega))
  have OB := hid O2.out.bare
  have KZ : Box (Keeps [] w (w2.setCell ⟨n2 + 3, 0, none⟩ (.slice none 0 0))) := hid (K2.out.trans (Keeps.setCell [n2 + 3] _ _ _ (List.mem_singleton.2 rfl)) (fun x hx hl => by
    have h8 := HN2.out
    have h9 := HN1.out
    simp at hx
    omega))
  clear p4 f2 b2 z2
  generalize w2.setCell ⟨n2 + 3, 0, none⟩ (.slice none 0 0) = w3 at *
  refine (check_any (OA.out.prc (by decide)) (HT.out.kept KZ.out (by simp)) (szB_sz (by decide +kernel))).mono ?_
  intro e w4 h4
  rw [one_chk11] at h4
  obtain ⟨rfl, k4⟩ := h4
  have K4 := hid k4
  clear k4
  go_wp2_with fail
  refine (shape_any ((OA.out.quiet K4.out).prc (by decide)) (szB_sz (by decide +kernel))).mono ?_
  intro e w5 h5
  rw [one_shp11] at h5
  obtain ⟨rfl, k5⟩ := h5
  have K5 := hid (K4.out.quiet k5)
  clear k5
  go_wp2_with fail
  refine (check_any (OB.out.quiet K5.out).prc (HT.out.kept (KZ.out.quiet K5.out) (by simp)) (szB_sz (by decide +kernel))).mono ?_
  intro e w6 h6
  rw [bare_chk11] at h6
  obtain ⟨p6, rfl, r6, k6⟩ := h6
  have K6 := hid (K5.out.quiet k6)
  have R6 := hid r6
  clear k6 r6
  go_wp2_with fail
  refine (why_ref (HG.out.quiet (KZ.out.quiet K6.out)) R6.out).mono ?_
  rintro e w7 ⟨rfl, k7⟩
  have K7 := hid (K6.out.quiet k7)
  clear k7
  go_wp2_with fail
  refine (flow_any (f := 0) ((OA.out.quiet K7.out).prc (by decide)) (by decide) (by decide)).mono ?_
  rintro e w8 ⟨a8, rfl, -, k8⟩
  rw [one_flow]
  have hfl := field_N 1 (.slice a8 1 1) w8
  have K8 := hid (K7.out.quiet k8)
  clear k8
  go_wp2_with fail
  refine (in_any (f := 0) ((OA.out.quiet K8.out).prc (by decide)) (HT.out.kept (KZ.out.quiet K8.out) (by simp)) (by decide) (by decide) (by decide) (by decide) (fun b => (szB_sz (P := pr1 0) (by decide +kernel)).code 0 b (by decide))).mono ?_
  rintro e w9 ⟨p9, d9, q9, rfl, -, -, -, k9⟩
  have K9 := hid (K8.out.quiet k9)
  clear k9
  have hbl : (fun8 (pr1 0) 0).blocks.length = 1 := rfl
  rw [hbl]
  go_wp2_with fail
  go_ret
  exact ⟨rfl, KZ.out.quiet K9.out⟩
end Go.Proofs.YtmebkeidpklcbaaDoor
