/-
  types.paramsFit, types.endFits.
-/
import Derived.Test.YtlopddflbhnjdaaDoorTMain
namespace Go.Proofs.YtlopddflbhnjdaaDoor
open Go.RowKit

def tyE (s t : Int × Int) : Bool := s.1 == t.1 && s.2 == t.2
theorem tyE_iff {s t : Int × Int} : tyE s t = true ↔ s = t := by
  unfold tyE
  rw [Bool.and_eq_true, beq_iff_eq, beq_iff_eq]
  exact ⟨fun h => Prod.ext h.1 h.2, fun h => by rw [h]; exact ⟨rfl, rfl⟩⟩
theorem run_tyE (a b c d : Int) (w : World) : (binOp .eql 39 (.agg #[.int .i64 a, .int .i64 b]) (.agg #[.int .i64 c, .int .i64 d])).run Tryd.prog w = .ok (.bool (tyE (a, b) (c, d))) w := by
  go_simp
  unfold tyE
  by_cases h : a = c <;> by_cases h' : b = d <;> simp [h, h']
theorem run_tyN (a b c d : Int) (w : World) : (binOp .neq 39 (.agg #[.int .i64 a, .int .i64 b]) (.agg #[.int .i64 c, .int .i64 d])).run Tryd.prog w = .ok (.bool (!tyE (a, b) (c, d))) w := by
  go_simp
  unfold tyE
  by_cases h : a = c <;> by_cases h' : b = d <;> simp [h, h']
/-- The first registers are the parameters. -/
def parB (P : Pr8) (f : Fu8) : Bool := match sigO P f.sig with
  | none => false
  | some s => decide (s.1.length ≤ f.regs.length) && (List.range s.1.length).all fun k => tyE (f.regs.getD k (0, 0)) (s.1.getD k (0, 0))
set_option maxRecDepth 20000 in
set_option maxHeartbeats 4000000 in
theorem par_any {w : World} {pb po fb fo : Nat} {P : Pr8} {f : Fu8} (h : PrC w pb po P) (hf : FuC w fb fo f) : Calls Tryd.prog 37 #[.pointer (some ⟨pb, po, none⟩), .pointer (some ⟨fb, fo, none⟩)] w fun e w' => e = .returned (.bool (parB P f)) ∧ Keeps [] w w' := by
  have HSG := hid (sig_any h (Keeps.refl [] w) f.sig)
  obtain ⟨ra, rp, c1, rr, _, hrl⟩ := hf.c1
  have c0 := hf.c0.1
  have HRR := hid rr
  have C1 : Box (∀ w', Keeps [] w w' → w'.cell? ⟨fb, fo + 1, none⟩ = some (.slice ra f.regs.length rp)) := hid fun w' k => cell_stays k c1
  have HE : Box (parB P f = match sigO P f.sig with
    | none => false
    | some s => decide (s.1.length ≤ f.regs.length) && (List.range s.1.length).all fun k => tyE (f.regs.getD k (0, 0)) (s.1.getD k (0, 0))) := hid rfl
  obtain ⟨R, hR⟩ : ∃ R, R = f.regs.length := ⟨_, rfl⟩
  have HRN := hid hR
  rw [← hR] at C1
  clear h hf rr c1 hrl hR
  generalize sigO P f.sig = O at *
  go_enter Tryd.func37, Tryd.ntmps37
  go_wp2_with fail
  refine HSG.out.mono ?_
  intro e w1 h1
  obtain ⟨k1, sa, sp, n, t1, t2, rfl, hs⟩ := h1.open
  have hb := heap_new w1 (.cells #[.slice sa n sp, .int .i64 t1, .int .i64 t2] 41)
  have K1 := hid (k1.quiet (Keeps.alloc [] w1 (.cells #[.slice sa n sp, .int .i64 t1, .int .i64 t2] 41)))
  have HB := hid hb
  have HS := hid hs
  clear h1 k1 hb hs c0
  go_upto_region 2 with fail
  generalize w1.alloc (.cells #[.slice sa n sp, .int .i64 t1, .int .i64 t2] 41) = w2 at *
  generalize w1.heap.size = q at *
  have c1 := C1.out _ K1.out
  have s0 := hcell HB.out 0
  cases O with
  | none =>
    have HF : Box (parB P f = false) := hid HE.out
    clear HE HS
    go_quiet (fail)
    go_wp2_with fail
    go_ret
    exact ⟨by rw [HF.out]; rfl, K1.out.quiet (Keeps.drewN _ _ _)⟩
  | some s =>
    obtain ⟨e1, _, _, hrs, hm⟩ := HS.out s rfl
    have HSL := hid e1
    have HSR := hid hrs
    have hn9 : (n : Int) ≤ 9223372036854775807 := by unfold maxLen at hm; omega
    have HF : Box (parB P f = (decide (n ≤ R) && (List.range n).all fun k => tyE (f.regs.getD k (0, 0)) (s.1.getD k (0, 0)))) := hid (by rw [HE.out, HSL.out, HRN.out])
    clear HE HS e1 hrs hm
    by_cases hle : n ≤ R
    case neg =>
      have hle' : (R : Int) < (n : Int) := by omega
      have HG : Box (parB P f = false) := hid (by rw [HF.out]; simp [hle])
      clear hle HF
      go_quiet (fail)
      go_wp2_with fail
      go_ret
      exact ⟨by rw [HG.out]; rfl, K1.out.quiet (Keeps.drewN _ _ _)⟩
    have hle' : ¬ (R : Int) < (n : Int) := by omega
    have HG : Box (parB P f = (List.range n).all fun k => tyE (f.regs.getD k (0, 0)) (s.1.getD k (0, 0))) := hid (by rw [HF.out]; simp [hle])
    clear HF
    go_quiet (fail)
    go_upto_region 4 with fail
    generalize hwd : w2.drewN nq = wd at *
    have KD : Keeps [] w2 wd := by rw [← hwd]; exact Keeps.drewN _ _ _
    have K2 := hid (K1.out.quiet KD)
    have HBD := hid (keep_heap HB.out KD)
    have s0 := hcell HBD.out 0
    clear hwd KD c1
    go_wp2_with fail
    clear s0
    go_loopw [34] (fun kv wr => ∃ k : Nat, k ≤ n ∧ kv = .int .i64 (k : Int) ∧ Box (Keeps [] w wr) ∧ Box (∀ j, j < k → tyE (f.regs.getD j (0, 0)) (s.1.getD j (0, 0)) = true)) (fun kv _ => n - (intOf kv).toNat)
    case atStart => exact ⟨0, by omega, rfl, K2, hid fun j hj => by omega⟩
    case round =>
      obtain ⟨k, hk, rfl, HK, HA⟩ := hrel
      by_cases hlt : k < n
      · have hlt' : (k : Int) < (n : Int) := by omega
        have hkr : (k : Int) < (R : Int) := by omega
        obtain ⟨b, off, rfl, hc⟩ := HSR.out.at (getD_get (l := s.1) (k := k) (d := (0, 0)) (by rw [← HSL.out]; exact hlt))
        obtain ⟨b', off', rfl, hc'⟩ := HRR.out.at (getD_get (l := f.regs) (k := k) (d := (0, 0)) (by rw [← HRN.out]; omega))
        have d0 := cell_stays HK.out hc.c0.1
        have d1 := cell_stays HK.out hc.c1.1
        have KA := hid (HK.out.quiet (Keeps.alloc [] wr (.cells #[.int .i64 (s.1.getD k (0, 0)).1, .int .i64 (s.1.getD k (0, 0)).2] 39)))
        have hn := heap_new wr (.cells #[.int .i64 (s.1.getD k (0, 0)).1, .int .i64 (s.1.getD k (0, 0)).2] 39)
        have g0 := cell_stays KA.out hc'.c0.1
        have g1 := cell_stays KA.out hc'.c1.1
        have c1 := C1.out _ KA.out
        have REL : Box (tyE (f.regs.getD k (0, 0)) (s.1.getD k (0, 0)) = true → ∀ j, j < k + 1 → tyE (f.regs.getD j (0, 0)) (s.1.getD j (0, 0)) = true) := hid fun hg j hj => by
          by_cases e : j < k
          · exact HA.out j e
          · obtain rfl : j = k := by omega
            exact hg
        have BAD : Box (tyE (f.regs.getD k (0, 0)) (s.1.getD k (0, 0)) = false → parB P f = false) := hid fun hg => by
          rw [HG.out, List.all_eq_false]
          exact ⟨k, List.mem_range.2 hlt, by rw [hg]; simp⟩
        have HNW := hid hn
        clear hc hc' hn
        generalize s.1.getD k (0, 0) = T at *
        generalize f.regs.getD k (0, 0) = U at *
        go_upto_region 7 with fail
        generalize wr.alloc (.cells #[.int .i64 T.1, .int .i64 T.2] 39) = w5 at *
        generalize wr.heap.size = q5 at *
        have f0 := hcell HNW.out 0
        have f1 := hcell HNW.out 1
        have rn := fun w' => run_tyN U.1 U.2 T.1 T.2 w'
        clear d0 d1
        cases hg : tyE U T with
        | true =>
          have hg' : tyE (U.1, U.2) (T.1, T.2) = true := hg
          rw [hg'] at rn
          have HR2 := hid (REL.out hg)
          clear hg hg'
          go_quiet (fail)
          go_wp2_with fail
          go_roundw
          case rel => exact ⟨k + 1, by omega, by go_num, hid (KA.out.quiet (Keeps.drewN _ _ _)), HR2⟩
          case measure => simp [intOf]; omega
        | false =>
          have hg' : tyE (U.1, U.2) (T.1, T.2) = false := hg
          rw [hg'] at rn
          have HF := hid (BAD.out hg)
          clear hg hg'
          go_quiet (fail)
          go_wp2_with fail
          go_ret
          exact ⟨by rw [HF.out]; rfl, KA.out.quiet (Keeps.drewN _ _ _)⟩
      · obtain rfl : n = k := by omega
        have HF : Box (parB P f = true) := hid (by rw [HG.out, List.all_eq_true]; exact fun j hj => HA.out j (List.mem_range.1 hj))
        go_wp2_with fail
        go_ret
        exact ⟨by rw [HF.out]; rfl, HK.out⟩
end Go.Proofs.YtlopddflbhnjdaaDoor
