/-
  code's reader: lists of numbers.
-/
import Derived.Test.YtmipbaihlodmdaaDoorCRl
import Derived.Deep.DeepCutAuto
namespace Go.Proofs.YtmipbaihlodmdaaDoor
open Go.RowKit

theorem lift {α : Type} {V : World → Value → α → Prop} (hV : SubV V) {B B1 rb q : Nat} {w1 wf : World} {v : Value} {y : α} (h : V (above B1 w1) v y) (hB : B ≤ B1) (hr : rb < B1) (hq : q < B1) (k : Keeps [rb, q] w1 wf) : V (above B wf) v y :=
  hV _ _ _ _ ((Sub.kept k (fun x hx => by simp at hx; omega)).trans (Sub.down wf hB)) h

theorem rints_any_mk (n : Nat) (hn : n ≤ 20000) (w : World) : ∃ cur : Array Value, cur.size = n * 1 ∧ (Instr.makeSlice 37 (.int .i64 (n : Int)) (.int .i64 (n : Int))).run Tryd.prog w = .ok (.slice (some ⟨w.heap.size, 0, none⟩) n n) (w.alloc (.cells cur 3)) := by
  obtain ⟨z, hz⟩ : ∃ z, Tryd.t3.zero = some z := Option.isSome_iff_exists.1 (by kernel_rfl)
  have hb : Tryd.t3.bytes ≤ 200 := of_decide_eq_true (by kernel_rfl)
  have hs : Tryd.t3.size = 1 := by kernel_rfl
  have h1 : ((Tryd.t3.bytes : Nat) : Int) * (n : Int) ≤ 281474976710656 := by
    have : Tryd.t3.bytes * n ≤ 200 * 20000 := Nat.mul_le_mul hb hn
    have h2 : ((Tryd.t3.bytes * n : Nat) : Int) ≤ 4000000 := by omega
    rw [Int.natCast_mul] at h2
    omega
  have hr := run_make (P := Tryd.prog) w 37 3 Tryd.t3 z Tryd.underlying37 (by kernel_rfl) hz .i64 .i64 (n : Int) (n : Int) (by omega) (Int.le_refl _) h1 (by omega)
  simp only [Int.toNat_natCast, hs] at hr
  exact ⟨_, size_madeCells _ _, hr⟩
set_option maxRecDepth 20000 in
set_option maxHeartbeats 4000000 in
theorem rints_any {w : World} {rb : Nat} {s : Option (List UInt8)} (h : RdAt w rb s) : Calls Tryd.prog 82 #[.pointer (some ⟨rb, 0, none⟩), .func (.func 55) #[] #[]] w (RdPost (SlV 1 IntC) intsE intsOk w rb s) := by
  have HL := hid (rlength_any h)
  have HP := hid fun (w' : World) (s' : Option (List UInt8)) (h : RdAt w' rb s') => rnumber_any h
  have hrb := h.lt
  clear h
  go_enter Tryd.func82, Tryd.ntmps82
  go_wp2_with fail
  refine HL.out.mono ?_
  rintro e w1 ⟨n, s1, rfl, hn, h1, h2, h3⟩
  have HS := hid h1
  have HR := hid h2
  have HK := hid h3
  clear HL h1 h2 h3
  by_cases hn0 : n = 0
  · have HN := hid hn0
    have e0 : ((n : Int) == 0) = true := by rw [hn0]; rfl
    clear hn0
    go_wp2_with fail
    go_ret
    refine ⟨_, [], s1, rfl, ⟨none, 0, rfl, .inl rfl, by simp, by simp⟩, ?_, HR.out, HK.out⟩
    have := HS.out
    rw [HN.out] at this
    exact LenS.empty Cd.num.pos this
  · have HS0 := hid (MidS.start (E := numE) (ok := b64) HS.out hn0)
    have e0 : ((n : Int) == 0) = false := by rw [beq_eq_false_iff_ne]; omega
    have hn1 : (n : Int) ≤ 20000 := by omega
    have hn2 : (0 : Int) ≤ (n : Int) := by omega
    have HNb : Box (b64 (n : Int) ∧ n ≤ maxLen) := hid ⟨by unfold b64; omega, by unfold maxLen; omega⟩
    obtain ⟨cur, hcur, hmk⟩ := rints_any_mk n hn w1
    have HM0 := hid (LM.new (V := IntV) (heap_new w1 (.cells cur 3)) hcur)
    have HR0 := hid (HR.out.quiet (Keeps.alloc [] w1 (.cells cur 3)))
    have HK0 : Box (Keeps [rb] w (w1.alloc (.cells cur 3))) := hid (HK.out.step (Keeps.alloc [rb] w1 _))
    have HG : Box (w.heap.size ≤ w1.heap.size) := hid HK.out.size
    clear HS HR HK hcur hn0 hn
    go_wp2_with fail
    obtain ⟨w2, HW2⟩ : ∃ w2, Box (w2 = w1.alloc (.cells cur 3)) := ⟨_, hid rfl⟩
    rw [← HW2.out] at HM0 HR0 HK0 ⊢
    clear HW2 hmk
    generalize w1.heap.size = g at *
    go_loopw [16] (fun kv wr => ∃ k : Nat, k ≤ n ∧ kv = .int .i64 (k : Int) ∧ Box (∃ l sk, MidS numE b64 s n k l sk ∧ LM IntV wr g n 1 3 l ∧ RdAt wr rb sk ∧ Keeps [rb] w wr)) (fun kv _ => n - (intOf kv).toNat)
    case atStart => exact ⟨0, by omega, rfl, hid ⟨[], s1, HS0.out, HM0.out, HR0.out, HK0.out⟩⟩
    case round =>
      obtain ⟨k, hk, rfl, HB⟩ := hrel
      clear HS0 HM0 HR0 HK0
      obtain ⟨l, sk, m1, m2, m3, m4⟩ := HB.out
      have HMS := hid m1
      have HLM := hid m2
      have HRD := hid m3
      have HKK := hid m4
      have hg9 : Box (g < wr.heap.size) := hid (by
        obtain ⟨_, e, _⟩ := m2.ex
        exact heap_lt e)
      clear HB m1 m2 m3 m4
      by_cases hlt : k < n
      · have hlt' : (k : Int) < (n : Int) := by omega
        go_wp2_with fail
        refine (HP.out _ _ HRD.out).mono ?_
        rintro e w3 ⟨v, y, s3, rfl, hv, hst, hr3, hk3⟩
        have HM2 := hid (HLM.out.kept IntV.sub hk3 (by have := HG.out; omega))
        have hv2 : IntV (above (g + 1) w3) v y := IntV.sub _ _ _ _ (Sub.down w3 (by have := hg9.out; omega)) hv
        have HV := hid hv2
        have HST := hid hst
        have HR3 := hid hr3
        have HK3 := hid hk3
        obtain ⟨⟨y0, t0⟩, z0⟩ := HM2.out.cell (k := k) (i := 0) hlt (by decide)
        rw [Nat.mul_one, Nat.add_zero] at t0 z0
        obtain ⟨rfl, _⟩ := hv2
        obtain ⟨w4, HW4⟩ : ∃ w4, Box (w4 = putL w3 g (k * 1) 0 [.int .i64 y]) := ⟨_, hid rfl⟩
        have hk4 : Keeps [g] w3 w4 := by rw [HW4.out]; exact putL_keeps _ _ _
        have hr4 := hr3.kept hk4 (fun x hx => by rw [List.mem_singleton] at hx; have := HG.out; omega)
        have HR4 := hid hr4
        have HK4 : Box (Keeps [rb] w w4) := hid ((HKK.out.step hk3).trans hk4 (fun x hx hlt => by rw [List.mem_singleton] at hx; have := HG.out; omega))
        have HM4 : Box (LM IntV w4 g n 1 3 (l ++ [_])) := hid (by
          have := HM2.out.put IntV.sub (by rw [HMS.out.1]; exact hlt) HV.out rfl
          rw [HMS.out.1] at this
          rw [HW4.out]
          exact this)
        have HW5 : Box (putL w3 g (k * 1) 0 [.int .i64 y] = w4) := hid HW4.out.symm
        simp only [putL, Nat.add_zero, Nat.mul_one] at HW5
        clear hv hst hk3 hk4 hr3 HV HW4
        cases s3 with
        | none =>
          have h9 : w4.heap[rb]? = _ := hr4
          have f1 := hcell h9 1
          clear hr4 h9
          go_upto_region 9 with fail
          rw [HW5.out]
          go_wp2_with fail
          go_ret
          exact ⟨_, [], none, rfl, ⟨none, 0, rfl, .inl rfl, by simp, by simp⟩, MidS.fail Cd.num HMS.out hlt HST.out, HR4.out, HK4.out⟩
        | some R =>
          obtain ⟨ra, rcp, h9, _⟩ := hr4
          have f1 := hcell h9 1
          clear h9
          go_upto_region 9 with fail
          rw [HW5.out]
          go_wp2_with fail
          go_roundw
          case rel => exact ⟨k + 1, by omega, by go_num, hid ⟨_, _, HMS.out.next HST.out (by simp), HM4.out, HR4.out, HK4.out⟩⟩
          case measure => simp [intOf]; omega
      · obtain rfl : k = n := by omega
        go_wp2_with fail
        go_ret
        refine ⟨_, l, sk, rfl, ⟨some ⟨g, 0, none⟩, k, by rw [HMS.out.1]; rfl, HLM.out.rows IntV.sub IntV.links HG.out, by rw [HMS.out.1]; exact Nat.le_refl _, by rw [HMS.out.1]; exact HNb.out.2⟩, HMS.out.done HNb.out.1, HRD.out, HKK.out⟩

theorem rnumbers_any {w : World} {rb : Nat} {s : Option (List UInt8)} (h : RdAt w rb s) : Calls Tryd.prog 71 #[.pointer (some ⟨rb, 0, none⟩)] w (RdPost IntsV intsE intsOk w rb s) := by
  have H := hid (rints_any h)
  clear h
  go_enter Tryd.func71, Tryd.ntmps71
  go_wp2_with fail
  refine H.out.mono ?_
  rintro e w1 ⟨v, x, s1, rfl, h1, h2⟩
  have HV := hid h1
  obtain ⟨a, cp, rfl, _⟩ := h1
  go_wp2_with fail
  go_ret
  exact ⟨_, x, s1, rfl, HV.out, h2⟩

set_option maxRecDepth 20000 in
set_option maxHeartbeats 4000000 in
theorem rkind_any {w : World} {rb : Nat} {s : Option (List UInt8)} (h : RdAt w rb s) : Calls Tryd.prog 70 #[.pointer (some ⟨rb, 0, none⟩)] w (RdPost TyV tyE tyOk w rb s) := by
  have hrb := h.lt
  have H1 := hid fun (w' : World) (s' : Option (List UInt8)) (h : RdAt w' rb s') => rnumber_any h
  have H2 := hid fun (w' : World) (s' : Option (List UInt8)) (h : RdAt w' rb s') => rnumber_any h
  obtain ⟨WA, hWA⟩ : ∃ WA, WA = w.alloc (.cells #[.int .i64 0, .int .i64 0] 51) := ⟨_, rfl⟩
  have R0 : RdAt WA rb s := by rw [hWA]; exact h.quiet (Keeps.alloc [] w _)
  have KA : Box (Keeps [rb] w WA) := hid (by rw [hWA]; exact Keeps.alloc [rb] w _)
  have hq0 : WA.heap[w.heap.size]? = some (.cells #[.int .i64 0, .int .i64 0] 51 (0, 0)) := by rw [hWA]; exact heap_new w _
  obtain ⟨B, hB⟩ : ∃ B, B = w.heap.size := ⟨_, rfl⟩
  have HB := hid hB
  have SA : Box (rb < B ∧ B < WA.heap.size) := hid ⟨by rw [hB]; exact hrb, by rw [hWA, World.size_alloc, hB]; omega⟩
  have HWA := hid hWA
  clear h hrb
  go_enter Tryd.func70, Tryd.ntmps70
  go_wp2_with fail
  rw [← hWA, ← hB]
  rw [← hB] at hq0
  clear hWA hB
  obtain ⟨q, hq⟩ : ∃ q, q = B := ⟨_, rfl⟩
  rw [← hq] at hq0 ⊢
  have HQ := hid hq
  clear hq
  refine (H1.out _ _ R0).mono ?_
  rintro e w1 ⟨v1, x1, s1, rfl, V1, P1, R1, K1⟩
  have Y1 := hid V1
  obtain ⟨rfl, _⟩ := V1
  have HP1 := hid P1
  clear P1 H1
  go_wp2_with fail
  refine (H2.out _ _ R1).mono ?_
  rintro e w2 ⟨v2, x2, s2, rfl, V2, P2, R2, K2⟩
  have Y2 := hid V2
  obtain ⟨rfl, _⟩ := V2
  have HP2 := hid P2
  clear P2 H2
  have HK9 : Box (Keeps [rb] WA w2) := hid (K1.step K2)
  have hqm : w2.heap[q]? = some (.cells #[.int .i64 0, .int .i64 0] 51 (0, 0)) := by
    rw [HK9.out.block q (heap_lt hq0) (by have := SA.out; have := HQ.out; simp; omega)]
    exact hq0
  have c0 := hcell hqm 0
  have z0 := pfrozen hqm 0
  have c1 := hcell hqm 1
  have z1 := pfrozen hqm 1
  obtain ⟨wf, HWF⟩ : ∃ wf, Box (wf = putL w2 q 0 0 [.int .i64 x1, .int .i64 x2]) := ⟨_, hid rfl⟩
  have h3 : wf.heap[q]? = some (.cells #[.int .i64 x1, .int .i64 x2] 51 (0, 0)) := by rw [HWF.out]; exact putL_heap _ _ _ _ hqm
  have HWK : Box (Keeps [q] w2 wf) := hid (by rw [HWF.out]; exact putL_keeps _ _ _)
  have HW5 : Box (putL w2 q 0 0 [.int .i64 x1, .int .i64 x2] = wf) := hid HWF.out.symm
  simp only [putL, Nat.add_zero, Nat.zero_add] at HW5
  have HR9 : Box (RdAt wf rb s2) := hid (R2.kept HWK.out (fun x hx => by rw [List.mem_singleton] at hx; have := SA.out; have := HQ.out; omega))
  have HKF : Box (Keeps [rb] w wf) := hid ((KA.out.step HK9.out).trans HWK.out (fun x hx hlt => by rw [List.mem_singleton] at hx; have := HQ.out; have := HB.out; omega))
  have e0 := hcell h3 0
  have e1 := hcell h3 1
  clear HWF hqm h3 hq0 K1 R1 K2 R2 R0
  go_wp2_with fail
  rw [HW5.out]
  refine bodyPost_ret (v := .agg #[.int .i64 x1, .int .i64 x2]) (by simp [results, Tryd.results70, go_sem, e0, e1]) rfl ⟨_, (x1, x2), s2, rfl, ?_, Stp.pair Cd.num HP1.out HP2.out, HR9.out, HKF.out⟩
  rw [← HB.out]
  exact ⟨rfl, Y1.out.2, Y2.out.2⟩

theorem rtys_any_mk (n : Nat) (hn : n ≤ 20000) (w : World) : ∃ cur : Array Value, cur.size = n * 2 ∧ (Instr.makeSlice 52 (.int .i64 (n : Int)) (.int .i64 (n : Int))).run Tryd.prog w = .ok (.slice (some ⟨w.heap.size, 0, none⟩) n n) (w.alloc (.cells cur 51)) := by
  obtain ⟨z, hz⟩ : ∃ z, Tryd.t51.zero = some z := Option.isSome_iff_exists.1 (by kernel_rfl)
  have hb : Tryd.t51.bytes ≤ 200 := of_decide_eq_true (by kernel_rfl)
  have hs : Tryd.t51.size = 2 := by kernel_rfl
  have h1 : ((Tryd.t51.bytes : Nat) : Int) * (n : Int) ≤ 281474976710656 := by
    have : Tryd.t51.bytes * n ≤ 200 * 20000 := Nat.mul_le_mul hb hn
    have h2 : ((Tryd.t51.bytes * n : Nat) : Int) ≤ 4000000 := by omega
    rw [Int.natCast_mul] at h2
    omega
  have hr := run_make (P := Tryd.prog) w 52 51 Tryd.t51 z Tryd.underlying52 (by kernel_rfl) hz .i64 .i64 (n : Int) (n : Int) (by omega) (Int.le_refl _) h1 (by omega)
  simp only [Int.toNat_natCast, hs] at hr
  exact ⟨_, size_madeCells _ _, hr⟩
set_option maxRecDepth 20000 in
set_option maxHeartbeats 4000000 in
theorem rtys_any {w : World} {rb : Nat} {s : Option (List UInt8)} (h : RdAt w rb s) : Calls Tryd.prog 69 #[.pointer (some ⟨rb, 0, none⟩), .func (.func 70) #[] #[]] w (RdPost (SlV 2 TyC) tysE tysOk w rb s) := by
  have HL := hid (rlength_any h)
  have HP := hid fun (w' : World) (s' : Option (List UInt8)) (h : RdAt w' rb s') => rkind_any h
  have hrb := h.lt
  clear h
  go_enter Tryd.func69, Tryd.ntmps69
  go_wp2_with fail
  refine HL.out.mono ?_
  rintro e w1 ⟨n, s1, rfl, hn, h1, h2, h3⟩
  have HS := hid h1
  have HR := hid h2
  have HK := hid h3
  clear HL h1 h2 h3
  by_cases hn0 : n = 0
  · have HN := hid hn0
    have e0 : ((n : Int) == 0) = true := by rw [hn0]; rfl
    clear hn0
    go_wp2_with fail
    go_ret
    refine ⟨_, [], s1, rfl, ⟨none, 0, rfl, .inl rfl, by simp, by simp⟩, ?_, HR.out, HK.out⟩
    have := HS.out
    rw [HN.out] at this
    exact LenS.empty Cd.ty.pos this
  · have HS0 := hid (MidS.start (E := tyE) (ok := tyOk) HS.out hn0)
    have e0 : ((n : Int) == 0) = false := by rw [beq_eq_false_iff_ne]; omega
    have hn1 : (n : Int) ≤ 20000 := by omega
    have hn2 : (0 : Int) ≤ (n : Int) := by omega
    have HNb : Box (b64 (n : Int) ∧ n ≤ maxLen) := hid ⟨by unfold b64; omega, by unfold maxLen; omega⟩
    obtain ⟨cur, hcur, hmk⟩ := rtys_any_mk n hn w1
    have HM0 := hid (LM.new (V := TyV) (heap_new w1 (.cells cur 51)) hcur)
    have HR0 := hid (HR.out.quiet (Keeps.alloc [] w1 (.cells cur 51)))
    have HK0 : Box (Keeps [rb] w (w1.alloc (.cells cur 51))) := hid (HK.out.step (Keeps.alloc [rb] w1 _))
    have HG : Box (w.heap.size ≤ w1.heap.size) := hid HK.out.size
    clear HS HR HK hcur hn0 hn
    go_wp2_with fail
    obtain ⟨w2, HW2⟩ : ∃ w2, Box (w2 = w1.alloc (.cells cur 51)) := ⟨_, hid rfl⟩
    rw [← HW2.out] at HM0 HR0 HK0 ⊢
    clear HW2 hmk
    generalize w1.heap.size = g at *
    go_loopw [16] (fun kv wr => ∃ k : Nat, k ≤ n ∧ kv = .int .i64 (k : Int) ∧ Box (∃ l sk, MidS tyE tyOk s n k l sk ∧ LM TyV wr g n 2 51 l ∧ RdAt wr rb sk ∧ Keeps [rb] w wr)) (fun kv _ => n - (intOf kv).toNat)
    case atStart => exact ⟨0, by omega, rfl, hid ⟨[], s1, HS0.out, HM0.out, HR0.out, HK0.out⟩⟩
    case round =>
      obtain ⟨k, hk, rfl, HB⟩ := hrel
      clear HS0 HM0 HR0 HK0
      obtain ⟨l, sk, m1, m2, m3, m4⟩ := HB.out
      have HMS := hid m1
      have HLM := hid m2
      have HRD := hid m3
      have HKK := hid m4
      have hg9 : Box (g < wr.heap.size) := hid (by
        obtain ⟨_, e, _⟩ := m2.ex
        exact heap_lt e)
      clear HB m1 m2 m3 m4
      by_cases hlt : k < n
      · have hlt' : (k : Int) < (n : Int) := by omega
        go_wp2_with fail
        refine (HP.out _ _ HRD.out).mono ?_
        rintro e w3 ⟨v, y, s3, rfl, hv, hst, hr3, hk3⟩
        have HM2 := hid (HLM.out.kept TyV.sub hk3 (by have := HG.out; omega))
        have hv2 : TyV (above (g + 1) w3) v y := TyV.sub _ _ _ _ (Sub.down w3 (by have := hg9.out; omega)) hv
        have HV := hid hv2
        have HST := hid hst
        have HR3 := hid hr3
        have HK3 := hid hk3
        obtain ⟨⟨y0, t0⟩, z0⟩ := HM2.out.cell (k := k) (i := 0) hlt (by decide)
        obtain ⟨⟨y1, t1⟩, z1⟩ := HM2.out.cell (k := k) (i := 1) hlt (by decide)
        rw [Nat.add_zero] at t0 z0
        obtain ⟨rfl, _⟩ := hv2
        obtain ⟨w4, HW4⟩ : ∃ w4, Box (w4 = putL w3 g (k * 2) 0 [.int .i64 y.1, .int .i64 y.2]) := ⟨_, hid rfl⟩
        have hk4 : Keeps [g] w3 w4 := by rw [HW4.out]; exact putL_keeps _ _ _
        have hr4 := hr3.kept hk4 (fun x hx => by rw [List.mem_singleton] at hx; have := HG.out; omega)
        have HR4 := hid hr4
        have HK4 : Box (Keeps [rb] w w4) := hid ((HKK.out.step hk3).trans hk4 (fun x hx hlt => by rw [List.mem_singleton] at hx; have := HG.out; omega))
        have HM4 : Box (LM TyV w4 g n 2 51 (l ++ [_])) := hid (by
          have := HM2.out.put TyV.sub (by rw [HMS.out.1]; exact hlt) HV.out rfl
          rw [HMS.out.1] at this
          rw [HW4.out]
          exact this)
        have HW5 : Box (putL w3 g (k * 2) 0 [.int .i64 y.1, .int .i64 y.2] = w4) := hid HW4.out.symm
        simp only [putL, Nat.add_zero, Nat.zero_add] at HW5
        clear hv hst hk3 hk4 hr3 HV HW4
        cases s3 with
        | none =>
          have h9 : w4.heap[rb]? = _ := hr4
          have f1 := hcell h9 1
          clear hr4 h9
          go_upto_region 9 with fail
          rw [HW5.out]
          go_wp2_with fail
          go_ret
          exact ⟨_, [], none, rfl, ⟨none, 0, rfl, .inl rfl, by simp, by simp⟩, MidS.fail Cd.ty HMS.out hlt HST.out, HR4.out, HK4.out⟩
        | some R =>
          obtain ⟨ra, rcp, h9, _⟩ := hr4
          have f1 := hcell h9 1
          clear h9
          go_upto_region 9 with fail
          rw [HW5.out]
          go_wp2_with fail
          go_roundw
          case rel => exact ⟨k + 1, by omega, by go_num, hid ⟨_, _, HMS.out.next HST.out (by simp), HM4.out, HR4.out, HK4.out⟩⟩
          case measure => simp [intOf]; omega
      · obtain rfl : k = n := by omega
        go_wp2_with fail
        go_ret
        refine ⟨_, l, sk, rfl, ⟨some ⟨g, 0, none⟩, k, by rw [HMS.out.1]; rfl, HLM.out.rows TyV.sub TyV.links HG.out, by rw [HMS.out.1]; exact Nat.le_refl _, by rw [HMS.out.1]; exact HNb.out.2⟩, HMS.out.done HNb.out.1, HRD.out, HKK.out⟩

theorem rkinds_any {w : World} {rb : Nat} {s : Option (List UInt8)} (h : RdAt w rb s) : Calls Tryd.prog 46 #[.pointer (some ⟨rb, 0, none⟩)] w (RdPost TysV tysE tysOk w rb s) := by
  have H := hid (rtys_any h)
  clear h
  go_enter Tryd.func46, Tryd.ntmps46
  go_wp2_with fail
  refine H.out.mono ?_
  rintro e w1 ⟨v, x, s1, rfl, h1, h2⟩
  have HV := hid h1
  obtain ⟨a, cp, rfl, _⟩ := h1
  go_wp2_with fail
  go_ret
  exact ⟨_, x, s1, rfl, HV.out, h2⟩

set_option maxRecDepth 20000 in
set_option maxHeartbeats 4000000 in
theorem rsig_any {w : World} {rb : Nat} {s : Option (List UInt8)} (h : RdAt w rb s) : Calls Tryd.prog 48 #[.pointer (some ⟨rb, 0, none⟩)] w (RdPost SgV sgE sgOk w rb s) := by
  have hrb := h.lt
  have H1 := hid fun (w' : World) (s' : Option (List UInt8)) (h : RdAt w' rb s') => rkinds_any h
  have H2 := hid fun (w' : World) (s' : Option (List UInt8)) (h : RdAt w' rb s') => rkind_any h
  obtain ⟨WA, hWA⟩ : ∃ WA, WA = w.alloc (.cells #[.slice none 0 0, .int .i64 0, .int .i64 0] 62) := ⟨_, rfl⟩
  have R0 : RdAt WA rb s := by rw [hWA]; exact h.quiet (Keeps.alloc [] w _)
  have KA : Box (Keeps [rb] w WA) := hid (by rw [hWA]; exact Keeps.alloc [rb] w _)
  have hq0 : WA.heap[w.heap.size]? = some (.cells #[.slice none 0 0, .int .i64 0, .int .i64 0] 62 (0, 0)) := by rw [hWA]; exact heap_new w _
  obtain ⟨B, hB⟩ : ∃ B, B = w.heap.size := ⟨_, rfl⟩
  have HB := hid hB
  have SA : Box (rb < B ∧ B < WA.heap.size) := hid ⟨by rw [hB]; exact hrb, by rw [hWA, World.size_alloc, hB]; omega⟩
  have HWA := hid hWA
  clear h hrb
  go_enter Tryd.func48, Tryd.ntmps48
  go_wp2_with fail
  rw [← hWA, ← hB]
  rw [← hB] at hq0
  clear hWA hB
  obtain ⟨q, hq⟩ : ∃ q, q = B := ⟨_, rfl⟩
  rw [← hq] at hq0 ⊢
  have HQ := hid hq
  clear hq
  refine (H1.out _ _ R0).mono ?_
  rintro e w1 ⟨v1, x1, s1, rfl, V1, P1, R1, K1⟩
  have Y1 := hid V1
  obtain ⟨a1, m1, rfl, _⟩ := V1
  have HP1 := hid P1
  clear P1 H1
  go_wp2_with fail
  refine (H2.out _ _ R1).mono ?_
  rintro e w2 ⟨v2, x2, s2, rfl, V2, P2, R2, K2⟩
  have Y2 := hid V2
  obtain ⟨rfl, _⟩ := V2
  have HP2 := hid P2
  clear P2 H2
  have HK9 : Box (Keeps [rb] WA w2) := hid (K1.step K2)
  have hqm : w2.heap[q]? = some (.cells #[.slice none 0 0, .int .i64 0, .int .i64 0] 62 (0, 0)) := by
    rw [HK9.out.block q (heap_lt hq0) (by have := SA.out; have := HQ.out; simp; omega)]
    exact hq0
  have c0 := hcell hqm 0
  have z0 := pfrozen hqm 0
  have c1 := hcell hqm 1
  have z1 := pfrozen hqm 1
  have c2 := hcell hqm 2
  have z2 := pfrozen hqm 2
  obtain ⟨wf, HWF⟩ : ∃ wf, Box (wf = putL w2 q 0 0 [.slice a1 x1.length m1, .int .i64 x2.1, .int .i64 x2.2]) := ⟨_, hid rfl⟩
  have h3 : wf.heap[q]? = some (.cells #[.slice a1 x1.length m1, .int .i64 x2.1, .int .i64 x2.2] 62 (0, 0)) := by rw [HWF.out]; exact putL_heap _ _ _ _ hqm
  have HWK : Box (Keeps [q] w2 wf) := hid (by rw [HWF.out]; exact putL_keeps _ _ _)
  have HW5 : Box (putL w2 q 0 0 [.slice a1 x1.length m1, .int .i64 x2.1, .int .i64 x2.2] = wf) := hid HWF.out.symm
  simp only [putL, Nat.add_zero, Nat.zero_add, Nat.reduceAdd] at HW5
  have L1 := hid (lift TysV.sub (B := B) (q := q) Y1.out (by have := SA.out; have := HQ.out; omega) (by have := SA.out; have := HQ.out; omega) (by have := SA.out; have := HQ.out; omega) (((Keeps.refl [rb, q] w1).step (K2.mono (by simp))).step (HWK.out.mono (by simp))))
  have HR9 : Box (RdAt wf rb s2) := hid (R2.kept HWK.out (fun x hx => by rw [List.mem_singleton] at hx; have := SA.out; have := HQ.out; omega))
  have HKF : Box (Keeps [rb] w wf) := hid ((KA.out.step HK9.out).trans HWK.out (fun x hx hlt => by rw [List.mem_singleton] at hx; have := HQ.out; have := HB.out; omega))
  have e0 := hcell h3 0
  have e1 := hcell h3 1
  have e2 := hcell h3 2
  clear HWF hqm h3 hq0 K1 R1 K2 R2 R0
  go_wp2_with fail
  rw [HW5.out]
  refine bodyPost_ret (v := .agg #[.slice a1 x1.length m1, .int .i64 x2.1, .int .i64 x2.2]) (by simp [results, Tryd.results48, go_sem, e0, e1, e2]) rfl ⟨_, (x1, x2), s2, rfl, ?_, Stp.pair Cd.tys HP1.out HP2.out, HR9.out, HKF.out⟩
  rw [← HB.out]
  exact ⟨a1, m1, rfl, L1.out, Y2.out.2⟩

set_option maxRecDepth 20000 in
set_option maxHeartbeats 4000000 in
theorem riface_any {w : World} {rb : Nat} {s : Option (List UInt8)} (h : RdAt w rb s) : Calls Tryd.prog 50 #[.pointer (some ⟨rb, 0, none⟩)] w (RdPost IfV intsE intsOk w rb s) := by
  have hrb := h.lt
  have H1 := hid fun (w' : World) (s' : Option (List UInt8)) (h : RdAt w' rb s') => rnumbers_any h
  obtain ⟨WA, hWA⟩ : ∃ WA, WA = w.alloc (.cells #[.slice none 0 0] 39) := ⟨_, rfl⟩
  have R0 : RdAt WA rb s := by rw [hWA]; exact h.quiet (Keeps.alloc [] w _)
  have KA : Box (Keeps [rb] w WA) := hid (by rw [hWA]; exact Keeps.alloc [rb] w _)
  have hq0 : WA.heap[w.heap.size]? = some (.cells #[.slice none 0 0] 39 (0, 0)) := by rw [hWA]; exact heap_new w _
  obtain ⟨B, hB⟩ : ∃ B, B = w.heap.size := ⟨_, rfl⟩
  have HB := hid hB
  have SA : Box (rb < B ∧ B < WA.heap.size) := hid ⟨by rw [hB]; exact hrb, by rw [hWA, World.size_alloc, hB]; omega⟩
  have HWA := hid hWA
  clear h hrb
  go_enter Tryd.func50, Tryd.ntmps50
  go_wp2_with fail
  rw [← hWA, ← hB]
  rw [← hB] at hq0
  clear hWA hB
  obtain ⟨q, hq⟩ : ∃ q, q = B := ⟨_, rfl⟩
  rw [← hq] at hq0 ⊢
  have HQ := hid hq
  clear hq
  refine (H1.out _ _ R0).mono ?_
  rintro e w1 ⟨v1, x1, s1, rfl, V1, P1, R1, K1⟩
  have Y1 := hid V1
  obtain ⟨a1, m1, rfl, _⟩ := V1
  have HP1 := hid P1
  clear P1 H1
  have HK9 : Box (Keeps [rb] WA w1) := hid K1
  have hqm : w1.heap[q]? = some (.cells #[.slice none 0 0] 39 (0, 0)) := by
    rw [HK9.out.block q (heap_lt hq0) (by have := SA.out; have := HQ.out; simp; omega)]
    exact hq0
  have c0 := hcell hqm 0
  have z0 := pfrozen hqm 0
  obtain ⟨wf, HWF⟩ : ∃ wf, Box (wf = putL w1 q 0 0 [.slice a1 x1.length m1]) := ⟨_, hid rfl⟩
  have h3 : wf.heap[q]? = some (.cells #[.slice a1 x1.length m1] 39 (0, 0)) := by rw [HWF.out]; exact putL_heap _ _ _ _ hqm
  have HWK : Box (Keeps [q] w1 wf) := hid (by rw [HWF.out]; exact putL_keeps _ _ _)
  have HW5 : Box (putL w1 q 0 0 [.slice a1 x1.length m1] = wf) := hid HWF.out.symm
  simp only [putL, Nat.add_zero] at HW5
  have L1 := hid (lift IntsV.sub (B := B) (q := q) Y1.out (by have := SA.out; have := HQ.out; omega) (by have := SA.out; have := HQ.out; omega) (by have := SA.out; have := HQ.out; omega) ((Keeps.refl [rb, q] w1).step (HWK.out.mono (by simp))))
  have HR9 : Box (RdAt wf rb s1) := hid (R1.kept HWK.out (fun x hx => by rw [List.mem_singleton] at hx; have := SA.out; have := HQ.out; omega))
  have HKF : Box (Keeps [rb] w wf) := hid ((KA.out.step HK9.out).trans HWK.out (fun x hx hlt => by rw [List.mem_singleton] at hx; have := HQ.out; have := HB.out; omega))
  have e0 := hcell h3 0
  clear HWF hqm h3 hq0 K1 R1 R0
  go_wp2_with fail
  rw [HW5.out]
  refine bodyPost_ret (v := .agg #[.slice a1 x1.length m1]) (by simp [results, Tryd.results50, go_sem, e0]) rfl ⟨_, x1, s1, rfl, ?_, HP1.out, HR9.out, HKF.out⟩
  rw [← HB.out]
  exact ⟨a1, m1, rfl, L1.out⟩

set_option maxRecDepth 20000 in
set_option maxHeartbeats 4000000 in
theorem rimpl_any {w : World} {rb : Nat} {s : Option (List UInt8)} (h : RdAt w rb s) : Calls Tryd.prog 52 #[.pointer (some ⟨rb, 0, none⟩)] w (RdPost ImV imE imOk w rb s) := by
  have hrb := h.lt
  have H1 := hid fun (w' : World) (s' : Option (List UInt8)) (h : RdAt w' rb s') => rnumber_any h
  have H2 := hid fun (w' : World) (s' : Option (List UInt8)) (h : RdAt w' rb s') => rnumber_any h
  have H3 := hid fun (w' : World) (s' : Option (List UInt8)) (h : RdAt w' rb s') => rnumbers_any h
  obtain ⟨WA, hWA⟩ : ∃ WA, WA = w.alloc (.cells #[.int .i64 0, .int .i64 0, .slice none 0 0] 65) := ⟨_, rfl⟩
  have R0 : RdAt WA rb s := by rw [hWA]; exact h.quiet (Keeps.alloc [] w _)
  have KA : Box (Keeps [rb] w WA) := hid (by rw [hWA]; exact Keeps.alloc [rb] w _)
  have hq0 : WA.heap[w.heap.size]? = some (.cells #[.int .i64 0, .int .i64 0, .slice none 0 0] 65 (0, 0)) := by rw [hWA]; exact heap_new w _
  obtain ⟨B, hB⟩ : ∃ B, B = w.heap.size := ⟨_, rfl⟩
  have HB := hid hB
  have SA : Box (rb < B ∧ B < WA.heap.size) := hid ⟨by rw [hB]; exact hrb, by rw [hWA, World.size_alloc, hB]; omega⟩
  have HWA := hid hWA
  clear h hrb
  go_enter Tryd.func52, Tryd.ntmps52
  go_wp2_with fail
  rw [← hWA, ← hB]
  rw [← hB] at hq0
  clear hWA hB
  obtain ⟨q, hq⟩ : ∃ q, q = B := ⟨_, rfl⟩
  rw [← hq] at hq0 ⊢
  have HQ := hid hq
  clear hq
  refine (H1.out _ _ R0).mono ?_
  rintro e w1 ⟨v1, x1, s1, rfl, V1, P1, R1, K1⟩
  have Y1 := hid V1
  obtain ⟨rfl, _⟩ := V1
  have HP1 := hid P1
  clear P1 H1
  go_wp2_with fail
  refine (H2.out _ _ R1).mono ?_
  rintro e w2 ⟨v2, x2, s2, rfl, V2, P2, R2, K2⟩
  have Y2 := hid V2
  obtain ⟨rfl, _⟩ := V2
  have HP2 := hid P2
  clear P2 H2
  go_wp2_with fail
  refine (H3.out _ _ R2).mono ?_
  rintro e w3 ⟨v3, x3, s3, rfl, V3, P3, R3, K3⟩
  have Y3 := hid V3
  obtain ⟨a3, m3, rfl, _⟩ := V3
  have HP3 := hid P3
  clear P3 H3
  have HK9 : Box (Keeps [rb] WA w3) := hid ((K1.step K2).step K3)
  have hqm : w3.heap[q]? = some (.cells #[.int .i64 0, .int .i64 0, .slice none 0 0] 65 (0, 0)) := by
    rw [HK9.out.block q (heap_lt hq0) (by have := SA.out; have := HQ.out; simp; omega)]
    exact hq0
  have c0 := hcell hqm 0
  have z0 := pfrozen hqm 0
  have c1 := hcell hqm 1
  have z1 := pfrozen hqm 1
  have c2 := hcell hqm 2
  have z2 := pfrozen hqm 2
  obtain ⟨wf, HWF⟩ : ∃ wf, Box (wf = putL w3 q 0 0 [.int .i64 x1, .int .i64 x2, .slice a3 x3.length m3]) := ⟨_, hid rfl⟩
  have h3 : wf.heap[q]? = some (.cells #[.int .i64 x1, .int .i64 x2, .slice a3 x3.length m3] 65 (0, 0)) := by rw [HWF.out]; exact putL_heap _ _ _ _ hqm
  have HWK : Box (Keeps [q] w3 wf) := hid (by rw [HWF.out]; exact putL_keeps _ _ _)
  have HW5 : Box (putL w3 q 0 0 [.int .i64 x1, .int .i64 x2, .slice a3 x3.length m3] = wf) := hid HWF.out.symm
  simp only [putL, Nat.add_zero, Nat.zero_add, Nat.reduceAdd] at HW5
  have L3 := hid (lift IntsV.sub (B := B) (q := q) Y3.out (by have := SA.out; have := HQ.out; have := K1.size; have := K2.size; omega) (by have := SA.out; have := HQ.out; have := K1.size; have := K2.size; omega) (by have := SA.out; have := HQ.out; have := K1.size; have := K2.size; omega) ((Keeps.refl [rb, q] w3).step (HWK.out.mono (by simp))))
  have HR9 : Box (RdAt wf rb s3) := hid (R3.kept HWK.out (fun x hx => by rw [List.mem_singleton] at hx; have := SA.out; have := HQ.out; omega))
  have HKF : Box (Keeps [rb] w wf) := hid ((KA.out.step HK9.out).trans HWK.out (fun x hx hlt => by rw [List.mem_singleton] at hx; have := HQ.out; have := HB.out; omega))
  have e0 := hcell h3 0
  have e1 := hcell h3 1
  have e2 := hcell h3 2
  clear HWF hqm h3 hq0 K1 R1 K2 R2 K3 R3 R0
  go_wp2_with fail
  rw [HW5.out]
  refine bodyPost_ret (v := .agg #[.int .i64 x1, .int .i64 x2, .slice a3 x3.length m3]) (by simp [results, Tryd.results52, go_sem, e0, e1, e2]) rfl ⟨_, (x1, x2, x3), s3, rfl, ?_, Stp.pair Cd.num HP1.out (Stp.pair Cd.num HP2.out HP3.out), HR9.out, HKF.out⟩
  rw [← HB.out]
  exact ⟨a3, m3, rfl, Y1.out.2, Y2.out.2, L3.out⟩

end Go.Proofs.YtmipbaihlodmdaaDoor
