/-
  code's reader: instructions, blocks, functions.
-/
import Derived.Test.YtmipbaihlodmdaaDoorCRa
import Derived.Deep.DeepCutAuto
namespace Go.Proofs.YtmipbaihlodmdaaDoor
open Go.RowKit

set_option maxRecDepth 20000 in
set_option maxHeartbeats 4000000 in
theorem rinstr_any {w : World} {rb : Nat} {s : Option (List UInt8)} (h : RdAt w rb s) : Calls Tryd.prog 84 #[.pointer (some ⟨rb, 0, none⟩)] w (RdPost InV inE inOk w rb s) := by
  have hrb := h.lt
  have H1 := hid fun (w' : World) (s' : Option (List UInt8)) (h : RdAt w' rb s') => rnumber_any h
  have H2 := hid fun (w' : World) (s' : Option (List UInt8)) (h : RdAt w' rb s') => rnumber_any h
  have H3 := hid fun (w' : World) (s' : Option (List UInt8)) (h : RdAt w' rb s') => rnumber_any h
  have H4 := hid fun (w' : World) (s' : Option (List UInt8)) (h : RdAt w' rb s') => rnumber_any h
  have H5 := hid fun (w' : World) (s' : Option (List UInt8)) (h : RdAt w' rb s') => rnumber_any h
  have H6 := hid fun (w' : World) (s' : Option (List UInt8)) (h : RdAt w' rb s') => rnumbers_any h
  obtain ⟨WA, hWA⟩ : ∃ WA, WA = w.alloc (.cells #[.int .i64 0, .int .i64 0, .int .i64 0, .int .i64 0, .int .i64 0, .slice none 0 0] 86) := ⟨_, rfl⟩
  have R0 : RdAt WA rb s := by rw [hWA]; exact h.quiet (Keeps.alloc [] w _)
  have KA : Box (Keeps [rb] w WA) := hid (by rw [hWA]; exact Keeps.alloc [rb] w _)
  have hq0 : WA.heap[w.heap.size]? = some (.cells #[.int .i64 0, .int .i64 0, .int .i64 0, .int .i64 0, .int .i64 0, .slice none 0 0] 86 (0, 0)) := by rw [hWA]; exact heap_new w _
  obtain ⟨B, hB⟩ : ∃ B, B = w.heap.size := ⟨_, rfl⟩
  have HB := hid hB
  have SA : Box (rb < B ∧ B < WA.heap.size) := hid ⟨by rw [hB]; exact hrb, by rw [hWA, World.size_alloc, hB]; omega⟩
  have HWA := hid hWA
  clear h hrb
  go_enter Tryd.func84, Tryd.ntmps84
  go_wp2_with fail
  rw [← hWA, ← hB]
  rw [← hB] at hq0
  clear hWA hB
  obtain ⟨q, hq⟩ : ∃ q, q = B := ⟨_, rfl⟩
  rw [← hq] at hq0 ⊢
  have HQ := hid hq
  clear hq
  refine (H1.out _ _ R0).mono ?_
  rintro e w1 ⟨v1, x1, s1, rfl, V1, P1, R1, K1⟩
  have Y1 := hid V1
  obtain ⟨rfl, _⟩ := V1
  have HP1 := hid P1
  clear P1 H1
  go_wp2_with fail
  refine (H2.out _ _ R1).mono ?_
  rintro e w2 ⟨v2, x2, s2, rfl, V2, P2, R2, K2⟩
  have Y2 := hid V2
  obtain ⟨rfl, _⟩ := V2
  have HP2 := hid P2
  clear P2 H2
  go_wp2_with fail
  refine (H3.out _ _ R2).mono ?_
  rintro e w3 ⟨v3, x3, s3, rfl, V3, P3, R3, K3⟩
  have Y3 := hid V3
  obtain ⟨rfl, _⟩ := V3
  have HP3 := hid P3
  clear P3 H3
  go_wp2_with fail
  refine (H4.out _ _ R3).mono ?_
  rintro e w4 ⟨v4, x4, s4, rfl, V4, P4, R4, K4⟩
  have Y4 := hid V4
  obtain ⟨rfl, _⟩ := V4
  have HP4 := hid P4
  clear P4 H4
  go_wp2_with fail
  refine (H5.out _ _ R4).mono ?_
  rintro e w5 ⟨v5, x5, s5, rfl, V5, P5, R5, K5⟩
  have Y5 := hid V5
  obtain ⟨rfl, _⟩ := V5
  have HP5 := hid P5
  clear P5 H5
  go_wp2_with fail
  refine (H6.out _ _ R5).mono ?_
  rintro e w6 ⟨v6, x6, s6, rfl, V6, P6, R6, K6⟩
  have Y6 := hid V6
  obtain ⟨a6, m6, rfl, _⟩ := V6
  have HP6 := hid P6
  clear P6 H6
  have HK9 : Box (Keeps [rb] WA w6) := hid (((((K1.step K2).step K3).step K4).step K5).step K6)
  have hqm : w6.heap[q]? = some (.cells #[.int .i64 0, .int .i64 0, .int .i64 0, .int .i64 0, .int .i64 0, .slice none 0 0] 86 (0, 0)) := by
    rw [HK9.out.block q (heap_lt hq0) (by have := SA.out; have := HQ.out; simp; omega)]
    exact hq0
  have c0 := hcell hqm 0
  have z0 := pfrozen hqm 0
  have c1 := hcell hqm 1
  have z1 := pfrozen hqm 1
  have c2 := hcell hqm 2
  have z2 := pfrozen hqm 2
  have c3 := hcell hqm 3
  have z3 := pfrozen hqm 3
  have c4 := hcell hqm 4
  have z4 := pfrozen hqm 4
  have c5 := hcell hqm 5
  have z5 := pfrozen hqm 5
  obtain ⟨wf, HWF⟩ : ∃ wf, Box (wf = putL w6 q 0 0 [.int .i64 x1, .int .i64 x2, .int .i64 x3, .int .i64 x4, .int .i64 x5, .slice a6 x6.length m6]) := ⟨_, hid rfl⟩
  have h3 : wf.heap[q]? = some (.cells #[.int .i64 x1, .int .i64 x2, .int .i64 x3, .int .i64 x4, .int .i64 x5, .slice a6 x6.length m6] 86 (0, 0)) := by rw [HWF.out]; exact putL_heap _ _ _ _ hqm
  have HWK : Box (Keeps [q] w6 wf) := hid (by rw [HWF.out]; exact putL_keeps _ _ _)
  have HW5 : Box (putL w6 q 0 0 [.int .i64 x1, .int .i64 x2, .int .i64 x3, .int .i64 x4, .int .i64 x5, .slice a6 x6.length m6] = wf) := hid HWF.out.symm
  simp only [putL, Nat.add_zero, Nat.zero_add, Nat.reduceAdd] at HW5
  have L6 := hid (lift IntsV.sub (B := B) (q := q) Y6.out (by have := SA.out; have := HQ.out; have := K1.size; have := K2.size; have := K3.size; have := K4.size; have := K5.size; omega) (by have := SA.out; have := HQ.out; have := K1.size; have := K2.size; have := K3.size; have := K4.size; have := K5.size; omega) (by have := SA.out; have := HQ.out; have := K1.size; have := K2.size; have := K3.size; have := K4.size; have := K5.size; omega) ((Keeps.refl [rb, q] w6).step (HWK.out.mono (by simp))))
  have HR9 : Box (RdAt wf rb s6) := hid (R6.kept HWK.out (fun x hx => by rw [List.mem_singleton] at hx; have := SA.out; have := HQ.out; omega))
  have HKF : Box (Keeps [rb] w wf) := hid ((KA.out.step HK9.out).trans HWK.out (fun x hx hlt => by rw [List.mem_singleton] at hx; have := HQ.out; have := HB.out; omega))
  have e0 := hcell h3 0
  have e1 := hcell h3 1
  have e2 := hcell h3 2
  have e3 := hcell h3 3
  have e4 := hcell h3 4
  have e5 := hcell h3 5
  clear HWF hqm h3 hq0 K1 R1 K2 R2 K3 R3 K4 R4 K5 R5 K6 R6 R0
  go_wp2_with fail
  rw [HW5.out]
  refine bodyPost_ret (v := .agg #[.int .i64 x1, .int .i64 x2, .int .i64 x3, .int .i64 x4, .int .i64 x5, .slice a6 x6.length m6]) (by simp [results, Tryd.results84, go_sem, e0, e1, e2, e3, e4, e5]) rfl ⟨_, ⟨x1, x2, x3, x4, x5, x6⟩, s6, rfl, ?_, (Stp.pair Cd.num HP1.out (Stp.pair Cd.num HP2.out (Stp.pair Cd.num HP3.out (Stp.pair Cd.num HP4.out (Stp.pair Cd.num HP5.out HP6.out))))).map (fun t => (⟨t.1, t.2.1, t.2.2.1, t.2.2.2.1, t.2.2.2.2.1, t.2.2.2.2.2⟩ : In8)) (fun x => (x.op, x.dst, x.a, x.b, x.n, x.args)) rfl (fun _ => rfl) (fun h => h) (fun _ h => h), HR9.out, HKF.out⟩
  rw [← HB.out]
  exact ⟨a6, m6, rfl, Y1.out.2, Y2.out.2, Y3.out.2, Y4.out.2, Y5.out.2, L6.out⟩

theorem rins_any_mk (n : Nat) (hn : n ≤ 20000) (w : World) : ∃ cur : Array Value, cur.size = n * 6 ∧ (Instr.makeSlice 56 (.int .i64 (n : Int)) (.int .i64 (n : Int))).run Tryd.prog w = .ok (.slice (some ⟨w.heap.size, 0, none⟩) n n) (w.alloc (.cells cur 86)) := by
  obtain ⟨z, hz⟩ : ∃ z, Tryd.t86.zero = some z := Option.isSome_iff_exists.1 (by kernel_rfl)
  have hb : Tryd.t86.bytes ≤ 200 := of_decide_eq_true (by kernel_rfl)
  have hs : Tryd.t86.size = 6 := by kernel_rfl
  have h1 : ((Tryd.t86.bytes : Nat) : Int) * (n : Int) ≤ 281474976710656 := by
    have : Tryd.t86.bytes * n ≤ 200 * 20000 := Nat.mul_le_mul hb hn
    have h2 : ((Tryd.t86.bytes * n : Nat) : Int) ≤ 4000000 := by omega
    rw [Int.natCast_mul] at h2
    omega
  have hr := run_make (P := Tryd.prog) w 56 86 Tryd.t86 z Tryd.underlying56 (by kernel_rfl) hz .i64 .i64 (n : Int) (n : Int) (by omega) (Int.le_refl _) h1 (by omega)
  simp only [Int.toNat_natCast, hs] at hr
  exact ⟨_, size_madeCells _ _, hr⟩
set_option maxRecDepth 20000 in
set_option maxHeartbeats 4000000 in
theorem rins_any {w : World} {rb : Nat} {s : Option (List UInt8)} (h : RdAt w rb s) : Calls Tryd.prog 83 #[.pointer (some ⟨rb, 0, none⟩), .func (.func 84) #[] #[]] w (RdPost (SlV 6 InC) insE insOk w rb s) := by
  have HL := hid (rlength_any h)
  have HP := hid fun (w' : World) (s' : Option (List UInt8)) (h : RdAt w' rb s') => rinstr_any h
  have hrb := h.lt
  clear h
  go_enter Tryd.func83, Tryd.ntmps83
  go_wp2_with fail
  refine HL.out.mono ?_
  rintro e w1 ⟨n, s1, rfl, hn, h1, h2, h3⟩
  have HS := hid h1
  have HR := hid h2
  have HK := hid h3
  clear HL h1 h2 h3
  by_cases hn0 : n = 0
  · have HN := hid hn0
    have e0 : ((n : Int) == 0) = true := by rw [hn0]; rfl
    clear hn0
    go_wp2_with fail
    go_ret
    refine ⟨_, [], s1, rfl, ⟨none, 0, rfl, .inl rfl, by simp, by simp⟩, ?_, HR.out, HK.out⟩
    have := HS.out
    rw [HN.out] at this
    exact LenS.empty Cd.in.pos this
  · have HS0 := hid (MidS.start (E := inE) (ok := inOk) HS.out hn0)
    have e0 : ((n : Int) == 0) = false := by rw [beq_eq_false_iff_ne]; omega
    have hn1 : (n : Int) ≤ 20000 := by omega
    have hn2 : (0 : Int) ≤ (n : Int) := by omega
    have HNb : Box (b64 (n : Int) ∧ n ≤ maxLen) := hid ⟨by unfold b64; omega, by unfold maxLen; omega⟩
    obtain ⟨cur, hcur, hmk⟩ := rins_any_mk n hn w1
    have HM0 := hid (LM.new (V := InV) (heap_new w1 (.cells cur 86)) hcur)
    have HR0 := hid (HR.out.quiet (Keeps.alloc [] w1 (.cells cur 86)))
    have HK0 : Box (Keeps [rb] w (w1.alloc (.cells cur 86))) := hid (HK.out.step (Keeps.alloc [rb] w1 _))
    have HG : Box (w.heap.size ≤ w1.heap.size) := hid HK.out.size
    clear HS HR HK hcur hn0 hn
    go_wp2_with fail
    obtain ⟨w2, HW2⟩ : ∃ w2, Box (w2 = w1.alloc (.cells cur 86)) := ⟨_, hid rfl⟩
    rw [← HW2.out] at HM0 HR0 HK0 ⊢
    clear HW2 hmk
    generalize w1.heap.size = g at *
    go_loopw [16] (fun kv wr => ∃ k : Nat, k ≤ n ∧ kv = .int .i64 (k : Int) ∧ Box (∃ l sk, MidS inE inOk s n k l sk ∧ LM InV wr g n 6 86 l ∧ RdAt wr rb sk ∧ Keeps [rb] w wr)) (fun kv _ => n - (intOf kv).toNat)
    case atStart => exact ⟨0, by omega, rfl, hid ⟨[], s1, HS0.out, HM0.out, HR0.out, HK0.out⟩⟩
    case round =>
      obtain ⟨k, hk, rfl, HB⟩ := hrel
      clear HS0 HM0 HR0 HK0
      obtain ⟨l, sk, m1, m2, m3, m4⟩ := HB.out
      have HMS := hid m1
      have HLM := hid m2
      have HRD := hid m3
      have HKK := hid m4
      have hg9 : Box (g < wr.heap.size) := hid (by
        obtain ⟨_, e, _⟩ := m2.ex
        exact heap_lt e)
      clear HB m1 m2 m3 m4
      by_cases hlt : k < n
      · have hlt' : (k : Int) < (n : Int) := by omega
        go_wp2_with fail
        refine (HP.out _ _ HRD.out).mono ?_
        rintro e w3 ⟨v, y, s3, rfl, hv, hst, hr3, hk3⟩
        have HM2 := hid (HLM.out.kept InV.sub hk3 (by have := HG.out; omega))
        have hv2 : InV (above (g + 1) w3) v y := InV.sub _ _ _ _ (Sub.down w3 (by have := hg9.out; omega)) hv
        have HV := hid hv2
        have HST := hid hst
        have HR3 := hid hr3
        have HK3 := hid hk3
        obtain ⟨⟨y0, t0⟩, z0⟩ := HM2.out.cell (k := k) (i := 0) hlt (by decide)
        obtain ⟨⟨y1, t1⟩, z1⟩ := HM2.out.cell (k := k) (i := 1) hlt (by decide)
        obtain ⟨⟨y2, t2⟩, z2⟩ := HM2.out.cell (k := k) (i := 2) hlt (by decide)
        obtain ⟨⟨y3, t3⟩, z3⟩ := HM2.out.cell (k := k) (i := 3) hlt (by decide)
        obtain ⟨⟨y4, t4⟩, z4⟩ := HM2.out.cell (k := k) (i := 4) hlt (by decide)
        obtain ⟨⟨y5, t5⟩, z5⟩ := HM2.out.cell (k := k) (i := 5) hlt (by decide)
        rw [Nat.add_zero] at t0 z0
        obtain ⟨ya, ycp, rfl, _⟩ := hv2
        obtain ⟨w4, HW4⟩ : ∃ w4, Box (w4 = putL w3 g (k * 6) 0 [.int .i64 y.op, .int .i64 y.dst, .int .i64 y.a, .int .i64 y.b, .int .i64 y.n, .slice ya y.args.length ycp]) := ⟨_, hid rfl⟩
        have hk4 : Keeps [g] w3 w4 := by rw [HW4.out]; exact putL_keeps _ _ _
        have hr4 := hr3.kept hk4 (fun x hx => by rw [List.mem_singleton] at hx; have := HG.out; omega)
        have HR4 := hid hr4
        have HK4 : Box (Keeps [rb] w w4) := hid ((HKK.out.step hk3).trans hk4 (fun x hx hlt => by rw [List.mem_singleton] at hx; have := HG.out; omega))
        have HM4 : Box (LM InV w4 g n 6 86 (l ++ [_])) := hid (by
          have := HM2.out.put InV.sub (by rw [HMS.out.1]; exact hlt) HV.out rfl
          rw [HMS.out.1] at this
          rw [HW4.out]
          exact this)
        have HW5 : Box (putL w3 g (k * 6) 0 [.int .i64 y.op, .int .i64 y.dst, .int .i64 y.a, .int .i64 y.b, .int .i64 y.n, .slice ya y.args.length ycp] = w4) := hid HW4.out.symm
        simp only [putL, Nat.add_zero, Nat.zero_add, Nat.reduceAdd] at HW5
        clear hv hst hk3 hk4 hr3 HV HW4
        cases s3 with
        | none =>
          have h9 : w4.heap[rb]? = _ := hr4
          have f1 := hcell h9 1
          clear hr4 h9
          go_upto_region 9 with fail
          rw [HW5.out]
          go_wp2_with fail
          go_ret
          exact ⟨_, [], none, rfl, ⟨none, 0, rfl, .inl rfl, by simp, by simp⟩, MidS.fail Cd.in HMS.out hlt HST.out, HR4.out, HK4.out⟩
        | some R =>
          obtain ⟨ra, rcp, h9, _⟩ := hr4
          have f1 := hcell h9 1
          clear h9
          go_upto_region 9 with fail
          rw [HW5.out]
          go_wp2_with fail
          go_roundw
          case rel => exact ⟨k + 1, by omega, by go_num, hid ⟨_, _, HMS.out.next HST.out (by simp), HM4.out, HR4.out, HK4.out⟩⟩
          case measure => simp [intOf]; omega
      · obtain rfl : k = n := by omega
        go_wp2_with fail
        go_ret
        refine ⟨_, l, sk, rfl, ⟨some ⟨g, 0, none⟩, k, by rw [HMS.out.1]; rfl, HLM.out.rows InV.sub InV.links HG.out, by rw [HMS.out.1]; exact Nat.le_refl _, by rw [HMS.out.1]; exact HNb.out.2⟩, HMS.out.done HNb.out.1, HRD.out, HKK.out⟩

set_option maxRecDepth 20000 in
set_option maxHeartbeats 4000000 in
theorem rblock_any {w : World} {rb : Nat} {s : Option (List UInt8)} (h : RdAt w rb s) : Calls Tryd.prog 73 #[.pointer (some ⟨rb, 0, none⟩)] w (RdPost BlV blE blOk w rb s) := by
  have hrb := h.lt
  have H1 := hid fun (w' : World) (s' : Option (List UInt8)) (h : RdAt w' rb s') => rins_any h
  have H2 := hid fun (w' : World) (s' : Option (List UInt8)) (h : RdAt w' rb s') => rnumber_any h
  have H3 := hid fun (w' : World) (s' : Option (List UInt8)) (h : RdAt w' rb s') => rnumber_any h
  have H4 := hid fun (w' : World) (s' : Option (List UInt8)) (h : RdAt w' rb s') => rnumber_any h
  have H5 := hid fun (w' : World) (s' : Option (List UInt8)) (h : RdAt w' rb s') => rnumber_any h
  obtain ⟨WA, hWA⟩ : ∃ WA, WA = w.alloc (.cells #[.slice none 0 0, .int .i64 0, .int .i64 0, .int .i64 0, .int .i64 0] 58) := ⟨_, rfl⟩
  have R0 : RdAt WA rb s := by rw [hWA]; exact h.quiet (Keeps.alloc [] w _)
  have KA : Box (Keeps [rb] w WA) := hid (by rw [hWA]; exact Keeps.alloc [rb] w _)
  have hq0 : WA.heap[w.heap.size]? = some (.cells #[.slice none 0 0, .int .i64 0, .int .i64 0, .int .i64 0, .int .i64 0] 58 (0, 0)) := by rw [hWA]; exact heap_new w _
  obtain ⟨B, hB⟩ : ∃ B, B = w.heap.size := ⟨_, rfl⟩
  have HB := hid hB
  have SA : Box (rb < B ∧ B < WA.heap.size) := hid ⟨by rw [hB]; exact hrb, by rw [hWA, World.size_alloc, hB]; omega⟩
  have HWA := hid hWA
  clear h hrb
  go_enter Tryd.func73, Tryd.ntmps73
  go_wp2_with fail
  rw [← hWA, ← hB]
  rw [← hB] at hq0
  clear hWA hB
  obtain ⟨q, hq⟩ : ∃ q, q = B := ⟨_, rfl⟩
  rw [← hq] at hq0 ⊢
  have HQ := hid hq
  clear hq
  refine (H1.out _ _ R0).mono ?_
  rintro e w1 ⟨v1, x1, s1, rfl, V1, P1, R1, K1⟩
  have Y1 := hid V1
  obtain ⟨a1, m1, rfl, _⟩ := V1
  have HP1 := hid P1
  clear P1 H1
  go_wp2_with fail
  refine (H2.out _ _ R1).mono ?_
  rintro e w2 ⟨v2, x2, s2, rfl, V2, P2, R2, K2⟩
  have Y2 := hid V2
  obtain ⟨rfl, _⟩ := V2
  have HP2 := hid P2
  clear P2 H2
  go_wp2_with fail
  refine (H3.out _ _ R2).mono ?_
  rintro e w3 ⟨v3, x3, s3, rfl, V3, P3, R3, K3⟩
  have Y3 := hid V3
  obtain ⟨rfl, _⟩ := V3
  have HP3 := hid P3
  clear P3 H3
  go_wp2_with fail
  refine (H4.out _ _ R3).mono ?_
  rintro e w4 ⟨v4, x4, s4, rfl, V4, P4, R4, K4⟩
  have Y4 := hid V4
  obtain ⟨rfl, _⟩ := V4
  have HP4 := hid P4
  clear P4 H4
  go_wp2_with fail
  refine (H5.out _ _ R4).mono ?_
  rintro e w5 ⟨v5, x5, s5, rfl, V5, P5, R5, K5⟩
  have Y5 := hid V5
  obtain ⟨rfl, _⟩ := V5
  have HP5 := hid P5
  clear P5 H5
  have HK9 : Box (Keeps [rb] WA w5) := hid ((((K1.step K2).step K3).step K4).step K5)
  have hqm : w5.heap[q]? = some (.cells #[.slice none 0 0, .int .i64 0, .int .i64 0, .int .i64 0, .int .i64 0] 58 (0, 0)) := by
    rw [HK9.out.block q (heap_lt hq0) (by have := SA.out; have := HQ.out; simp; omega)]
    exact hq0
  have c0 := hcell hqm 0
  have z0 := pfrozen hqm 0
  have c1 := hcell hqm 1
  have z1 := pfrozen hqm 1
  have c2 := hcell hqm 2
  have z2 := pfrozen hqm 2
  have c3 := hcell hqm 3
  have z3 := pfrozen hqm 3
  have c4 := hcell hqm 4
  have z4 := pfrozen hqm 4
  obtain ⟨wf, HWF⟩ : ∃ wf, Box (wf = putL w5 q 0 0 [.slice a1 x1.length m1, .int .i64 x2, .int .i64 x3, .int .i64 x4, .int .i64 x5]) := ⟨_, hid rfl⟩
  have h3 : wf.heap[q]? = some (.cells #[.slice a1 x1.length m1, .int .i64 x2, .int .i64 x3, .int .i64 x4, .int .i64 x5] 58 (0, 0)) := by rw [HWF.out]; exact putL_heap _ _ _ _ hqm
  have HWK : Box (Keeps [q] w5 wf) := hid (by rw [HWF.out]; exact putL_keeps _ _ _)
  have HW5 : Box (putL w5 q 0 0 [.slice a1 x1.length m1, .int .i64 x2, .int .i64 x3, .int .i64 x4, .int .i64 x5] = wf) := hid HWF.out.symm
  simp only [putL, Nat.add_zero, Nat.zero_add, Nat.reduceAdd] at HW5
  have L1 := hid (lift InsV.sub (B := B) (q := q) Y1.out (by have := SA.out; have := HQ.out; omega) (by have := SA.out; have := HQ.out; omega) (by have := SA.out; have := HQ.out; omega) ((((((Keeps.refl [rb, q] w1).step (K2.mono (by simp))).step (K3.mono (by simp))).step (K4.mono (by simp))).step (K5.mono (by simp))).step (HWK.out.mono (by simp))))
  have HR9 : Box (RdAt wf rb s5) := hid (R5.kept HWK.out (fun x hx => by rw [List.mem_singleton] at hx; have := SA.out; have := HQ.out; omega))
  have HKF : Box (Keeps [rb] w wf) := hid ((KA.out.step HK9.out).trans HWK.out (fun x hx hlt => by rw [List.mem_singleton] at hx; have := HQ.out; have := HB.out; omega))
  have e0 := hcell h3 0
  have e1 := hcell h3 1
  have e2 := hcell h3 2
  have e3 := hcell h3 3
  have e4 := hcell h3 4
  clear HWF hqm h3 hq0 K1 R1 K2 R2 K3 R3 K4 R4 K5 R5 R0
  go_wp2_with fail
  rw [HW5.out]
  refine bodyPost_ret (v := .agg #[.slice a1 x1.length m1, .int .i64 x2, .int .i64 x3, .int .i64 x4, .int .i64 x5]) (by simp [results, Tryd.results73, go_sem, e0, e1, e2, e3, e4]) rfl ⟨_, ⟨x1, x2, x3, x4, x5⟩, s5, rfl, ?_, (Stp.pair Cd.ins HP1.out (Stp.pair Cd.num HP2.out (Stp.pair Cd.num HP3.out (Stp.pair Cd.num HP4.out HP5.out)))).map (fun t => (⟨t.1, t.2.1, t.2.2.1, t.2.2.2.1, t.2.2.2.2⟩ : Bl8)) (fun x => (x.code, x.fin, x.reg, x.to, x.els)) rfl (fun _ => rfl) (fun h => h) (fun _ h => h), HR9.out, HKF.out⟩
  rw [← HB.out]
  exact ⟨a1, m1, rfl, L1.out, Y2.out.2, Y3.out.2, Y4.out.2, Y5.out.2⟩

theorem rbls_any_mk (n : Nat) (hn : n ≤ 20000) (w : World) : ∃ cur : Array Value, cur.size = n * 5 ∧ (Instr.makeSlice 53 (.int .i64 (n : Int)) (.int .i64 (n : Int))).run Tryd.prog w = .ok (.slice (some ⟨w.heap.size, 0, none⟩) n n) (w.alloc (.cells cur 58)) := by
  obtain ⟨z, hz⟩ : ∃ z, Tryd.t58.zero = some z := Option.isSome_iff_exists.1 (by kernel_rfl)
  have hb : Tryd.t58.bytes ≤ 200 := of_decide_eq_true (by kernel_rfl)
  have hs : Tryd.t58.size = 5 := by kernel_rfl
  have h1 : ((Tryd.t58.bytes : Nat) : Int) * (n : Int) ≤ 281474976710656 := by
    have : Tryd.t58.bytes * n ≤ 200 * 20000 := Nat.mul_le_mul hb hn
    have h2 : ((Tryd.t58.bytes * n : Nat) : Int) ≤ 4000000 := by omega
    rw [Int.natCast_mul] at h2
    omega
  have hr := run_make (P := Tryd.prog) w 53 58 Tryd.t58 z Tryd.underlying53 (by kernel_rfl) hz .i64 .i64 (n : Int) (n : Int) (by omega) (Int.le_refl _) h1 (by omega)
  simp only [Int.toNat_natCast, hs] at hr
  exact ⟨_, size_madeCells _ _, hr⟩
set_option maxRecDepth 20000 in
set_option maxHeartbeats 4000000 in
theorem rbls_any {w : World} {rb : Nat} {s : Option (List UInt8)} (h : RdAt w rb s) : Calls Tryd.prog 72 #[.pointer (some ⟨rb, 0, none⟩), .func (.func 73) #[] #[]] w (RdPost (SlV 5 BlC) blsE blsOk w rb s) := by
  have HL := hid (rlength_any h)
  have HP := hid fun (w' : World) (s' : Option (List UInt8)) (h : RdAt w' rb s') => rblock_any h
  have hrb := h.lt
  clear h
  go_enter Tryd.func72, Tryd.ntmps72
  go_wp2_with fail
  refine HL.out.mono ?_
  rintro e w1 ⟨n, s1, rfl, hn, h1, h2, h3⟩
  have HS := hid h1
  have HR := hid h2
  have HK := hid h3
  clear HL h1 h2 h3
  by_cases hn0 : n = 0
  · have HN := hid hn0
    have e0 : ((n : Int) == 0) = true := by rw [hn0]; rfl
    clear hn0
    go_wp2_with fail
    go_ret
    refine ⟨_, [], s1, rfl, ⟨none, 0, rfl, .inl rfl, by simp, by simp⟩, ?_, HR.out, HK.out⟩
    have := HS.out
    rw [HN.out] at this
    exact LenS.empty Cd.bl.pos this
  · have HS0 := hid (MidS.start (E := blE) (ok := blOk) HS.out hn0)
    have e0 : ((n : Int) == 0) = false := by rw [beq_eq_false_iff_ne]; omega
    have hn1 : (n : Int) ≤ 20000 := by omega
    have hn2 : (0 : Int) ≤ (n : Int) := by omega
    have HNb : Box (b64 (n : Int) ∧ n ≤ maxLen) := hid ⟨by unfold b64; omega, by unfold maxLen; omega⟩
    obtain ⟨cur, hcur, hmk⟩ := rbls_any_mk n hn w1
    have HM0 := hid (LM.new (V := BlV) (heap_new w1 (.cells cur 58)) hcur)
    have HR0 := hid (HR.out.quiet (Keeps.alloc [] w1 (.cells cur 58)))
    have HK0 : Box (Keeps [rb] w (w1.alloc (.cells cur 58))) := hid (HK.out.step (Keeps.alloc [rb] w1 _))
    have HG : Box (w.heap.size ≤ w1.heap.size) := hid HK.out.size
    clear HS HR HK hcur hn0 hn
    go_wp2_with fail
    obtain ⟨w2, HW2⟩ : ∃ w2, Box (w2 = w1.alloc (.cells cur 58)) := ⟨_, hid rfl⟩
    rw [← HW2.out] at HM0 HR0 HK0 ⊢
    clear HW2 hmk
    generalize w1.heap.size = g at *
    go_loopw [16] (fun kv wr => ∃ k : Nat, k ≤ n ∧ kv = .int .i64 (k : Int) ∧ Box (∃ l sk, MidS blE blOk s n k l sk ∧ LM BlV wr g n 5 58 l ∧ RdAt wr rb sk ∧ Keeps [rb] w wr)) (fun kv _ => n - (intOf kv).toNat)
    case atStart => exact ⟨0, by omega, rfl, hid ⟨[], s1, HS0.out, HM0.out, HR0.out, HK0.out⟩⟩
    case round =>
      obtain ⟨k, hk, rfl, HB⟩ := hrel
      clear HS0 HM0 HR0 HK0
      obtain ⟨l, sk, m1, m2, m3, m4⟩ := HB.out
      have HMS := hid m1
      have HLM := hid m2
      have HRD := hid m3
      have HKK := hid m4
      have hg9 : Box (g < wr.heap.size) := hid (by
        obtain ⟨_, e, _⟩ := m2.ex
        exact heap_lt e)
      clear HB m1 m2 m3 m4
      by_cases hlt : k < n
      · have hlt' : (k : Int) < (n : Int) := by omega
        go_wp2_with fail
        refine (HP.out _ _ HRD.out).mono ?_
        rintro e w3 ⟨v, y, s3, rfl, hv, hst, hr3, hk3⟩
        have HM2 := hid (HLM.out.kept BlV.sub hk3 (by have := HG.out; omega))
        have hv2 : BlV (above (g + 1) w3) v y := BlV.sub _ _ _ _ (Sub.down w3 (by have := hg9.out; omega)) hv
        have HV := hid hv2
        have HST := hid hst
        have HR3 := hid hr3
        have HK3 := hid hk3
        obtain ⟨⟨y0, t0⟩, z0⟩ := HM2.out.cell (k := k) (i := 0) hlt (by decide)
        obtain ⟨⟨y1, t1⟩, z1⟩ := HM2.out.cell (k := k) (i := 1) hlt (by decide)
        obtain ⟨⟨y2, t2⟩, z2⟩ := HM2.out.cell (k := k) (i := 2) hlt (by decide)
        obtain ⟨⟨y3, t3⟩, z3⟩ := HM2.out.cell (k := k) (i := 3) hlt (by decide)
        obtain ⟨⟨y4, t4⟩, z4⟩ := HM2.out.cell (k := k) (i := 4) hlt (by decide)
        rw [Nat.add_zero] at t0 z0
        obtain ⟨ya, ycp, rfl, _⟩ := hv2
        obtain ⟨w4, HW4⟩ : ∃ w4, Box (w4 = putL w3 g (k * 5) 0 [.slice ya y.code.length ycp, .int .i64 y.fin, .int .i64 y.reg, .int .i64 y.to, .int .i64 y.els]) := ⟨_, hid rfl⟩
        have hk4 : Keeps [g] w3 w4 := by rw [HW4.out]; exact putL_keeps _ _ _
        have hr4 := hr3.kept hk4 (fun x hx => by rw [List.mem_singleton] at hx; have := HG.out; omega)
        have HR4 := hid hr4
        have HK4 : Box (Keeps [rb] w w4) := hid ((HKK.out.step hk3).trans hk4 (fun x hx hlt => by rw [List.mem_singleton] at hx; have := HG.out; omega))
        have HM4 : Box (LM BlV w4 g n 5 58 (l ++ [_])) := hid (by
          have := HM2.out.put BlV.sub (by rw [HMS.out.1]; exact hlt) HV.out rfl
          rw [HMS.out.1] at this
          rw [HW4.out]
          exact this)
        have HW5 : Box (putL w3 g (k * 5) 0 [.slice ya y.code.length ycp, .int .i64 y.fin, .int .i64 y.reg, .int .i64 y.to, .int .i64 y.els] = w4) := hid HW4.out.symm
        simp only [putL, Nat.add_zero, Nat.zero_add, Nat.reduceAdd] at HW5
        clear hv hst hk3 hk4 hr3 HV HW4
        cases s3 with
        | none =>
          have h9 : w4.heap[rb]? = _ := hr4
          have f1 := hcell h9 1
          clear hr4 h9
          go_upto_region 9 with fail
          rw [HW5.out]
          go_wp2_with fail
          go_ret
          exact ⟨_, [], none, rfl, ⟨none, 0, rfl, .inl rfl, by simp, by simp⟩, MidS.fail Cd.bl HMS.out hlt HST.out, HR4.out, HK4.out⟩
        | some R =>
          obtain ⟨ra, rcp, h9, _⟩ := hr4
          have f1 := hcell h9 1
          clear h9
          go_upto_region 9 with fail
          rw [HW5.out]
          go_wp2_with fail
          go_roundw
          case rel => exact ⟨k + 1, by omega, by go_num, hid ⟨_, _, HMS.out.next HST.out (by simp), HM4.out, HR4.out, HK4.out⟩⟩
          case measure => simp [intOf]; omega
      · obtain rfl : k = n := by omega
        go_wp2_with fail
        go_ret
        refine ⟨_, l, sk, rfl, ⟨some ⟨g, 0, none⟩, k, by rw [HMS.out.1]; rfl, HLM.out.rows BlV.sub BlV.links HG.out, by rw [HMS.out.1]; exact Nat.le_refl _, by rw [HMS.out.1]; exact HNb.out.2⟩, HMS.out.done HNb.out.1, HRD.out, HKK.out⟩

set_option maxRecDepth 20000 in
set_option maxHeartbeats 4000000 in
theorem rfunc_any {w : World} {rb : Nat} {s : Option (List UInt8)} (h : RdAt w rb s) : Calls Tryd.prog 54 #[.pointer (some ⟨rb, 0, none⟩)] w (RdPost FuV fuE fuOk w rb s) := by
  have hrb := h.lt
  have H1 := hid fun (w' : World) (s' : Option (List UInt8)) (h : RdAt w' rb s') => rnumber_any h
  have H2 := hid fun (w' : World) (s' : Option (List UInt8)) (h : RdAt w' rb s') => rkinds_any h
  have H3 := hid fun (w' : World) (s' : Option (List UInt8)) (h : RdAt w' rb s') => rbls_any h
  obtain ⟨WA, hWA⟩ : ∃ WA, WA = w.alloc (.cells #[.int .i64 0, .slice none 0 0, .slice none 0 0] 55) := ⟨_, rfl⟩
  have R0 : RdAt WA rb s := by rw [hWA]; exact h.quiet (Keeps.alloc [] w _)
  have KA : Box (Keeps [rb] w WA) := hid (by rw [hWA]; exact Keeps.alloc [rb] w _)
  have hq0 : WA.heap[w.heap.size]? = some (.cells #[.int .i64 0, .slice none 0 0, .slice none 0 0] 55 (0, 0)) := by rw [hWA]; exact heap_new w _
  obtain ⟨B, hB⟩ : ∃ B, B = w.heap.size := ⟨_, rfl⟩
  have HB := hid hB
  have SA : Box (rb < B ∧ B < WA.heap.size) := hid ⟨by rw [hB]; exact hrb, by rw [hWA, World.size_alloc, hB]; omega⟩
  have HWA := hid hWA
  clear h hrb
  go_enter Tryd.func54, Tryd.ntmps54
  go_wp2_with fail
  rw [← hWA, ← hB]
  rw [← hB] at hq0
  clear hWA hB
  obtain ⟨q, hq⟩ : ∃ q, q = B := ⟨_, rfl⟩
  rw [← hq] at hq0 ⊢
  have HQ := hid hq
  clear hq
  refine (H1.out _ _ R0).mono ?_
  rintro e w1 ⟨v1, x1, s1, rfl, V1, P1, R1, K1⟩
  have Y1 := hid V1
  obtain ⟨rfl, _⟩ := V1
  have HP1 := hid P1
  clear P1 H1
  go_wp2_with fail
  refine (H2.out _ _ R1).mono ?_
  rintro e w2 ⟨v2, x2, s2, rfl, V2, P2, R2, K2⟩
  have Y2 := hid V2
  obtain ⟨a2, m2, rfl, _⟩ := V2
  have HP2 := hid P2
  clear P2 H2
  go_wp2_with fail
  refine (H3.out _ _ R2).mono ?_
  rintro e w3 ⟨v3, x3, s3, rfl, V3, P3, R3, K3⟩
  have Y3 := hid V3
  obtain ⟨a3, m3, rfl, _⟩ := V3
  have HP3 := hid P3
  clear P3 H3
  have HK9 : Box (Keeps [rb] WA w3) := hid ((K1.step K2).step K3)
  have hqm : w3.heap[q]? = some (.cells #[.int .i64 0, .slice none 0 0, .slice none 0 0] 55 (0, 0)) := by
    rw [HK9.out.block q (heap_lt hq0) (by have := SA.out; have := HQ.out; simp; omega)]
    exact hq0
  have c0 := hcell hqm 0
  have z0 := pfrozen hqm 0
  have c1 := hcell hqm 1
  have z1 := pfrozen hqm 1
  have c2 := hcell hqm 2
  have z2 := pfrozen hqm 2
  obtain ⟨wf, HWF⟩ : ∃ wf, Box (wf = putL w3 q 0 0 [.int .i64 x1, .slice a2 x2.length m2, .slice a3 x3.length m3]) := ⟨_, hid rfl⟩
  have h3 : wf.heap[q]? = some (.cells #[.int .i64 x1, .slice a2 x2.length m2, .slice a3 x3.length m3] 55 (0, 0)) := by rw [HWF.out]; exact putL_heap _ _ _ _ hqm
  have HWK : Box (Keeps [q] w3 wf) := hid (by rw [HWF.out]; exact putL_keeps _ _ _)
  have HW5 : Box (putL w3 q 0 0 [.int .i64 x1, .slice a2 x2.length m2, .slice a3 x3.length m3] = wf) := hid HWF.out.symm
  simp only [putL, Nat.add_zero, Nat.zero_add, Nat.reduceAdd] at HW5
  have L2 := hid (lift TysV.sub (B := B) (q := q) Y2.out (by have := SA.out; have := HQ.out; have := K1.size; omega) (by have := SA.out; have := HQ.out; have := K1.size; omega) (by have := SA.out; have := HQ.out; have := K1.size; omega) (((Keeps.refl [rb, q] w2).step (K3.mono (by simp))).step (HWK.out.mono (by simp))))
  have L3 := hid (lift BlsV.sub (B := B) (q := q) Y3.out (by have := SA.out; have := HQ.out; have := K1.size; have := K2.size; omega) (by have := SA.out; have := HQ.out; have := K1.size; have := K2.size; omega) (by have := SA.out; have := HQ.out; have := K1.size; have := K2.size; omega) ((Keeps.refl [rb, q] w3).step (HWK.out.mono (by simp))))
  have HR9 : Box (RdAt wf rb s3) := hid (R3.kept HWK.out (fun x hx => by rw [List.mem_singleton] at hx; have := SA.out; have := HQ.out; omega))
  have HKF : Box (Keeps [rb] w wf) := hid ((KA.out.step HK9.out).trans HWK.out (fun x hx hlt => by rw [List.mem_singleton] at hx; have := HQ.out; have := HB.out; omega))
  have e0 := hcell h3 0
  have e1 := hcell h3 1
  have e2 := hcell h3 2
  clear HWF hqm h3 hq0 K1 R1 K2 R2 K3 R3 R0
  go_wp2_with fail
  rw [HW5.out]
  refine bodyPost_ret (v := .agg #[.int .i64 x1, .slice a2 x2.length m2, .slice a3 x3.length m3]) (by simp [results, Tryd.results54, go_sem, e0, e1, e2]) rfl ⟨_, ⟨x1, x2, x3⟩, s3, rfl, ?_, (Stp.pair Cd.num HP1.out (Stp.pair Cd.tys HP2.out HP3.out)).map (fun t => (⟨t.1, t.2.1, t.2.2⟩ : Fu8)) (fun x => (x.sig, x.regs, x.blocks)) rfl (fun _ => rfl) (fun h => h) (fun _ h => h), HR9.out, HKF.out⟩
  rw [← HB.out]
  exact ⟨a2, m2, a3, m3, rfl, Y1.out.2, L2.out, L3.out⟩

end Go.Proofs.YtmipbaihlodmdaaDoor
