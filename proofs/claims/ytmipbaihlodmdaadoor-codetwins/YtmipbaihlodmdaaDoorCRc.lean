/-
  code's reader: the lists of a program.
-/
import Derived.Test.YtmipbaihlodmdaaDoorCRb
import Derived.Deep.DeepCutAuto
namespace Go.Proofs.YtmipbaihlodmdaaDoor
open Go.RowKit

theorem rfus_any_mk (n : Nat) (hn : n ≤ 20000) (w : World) : ∃ cur : Array Value, cur.size = n * 3 ∧ (Instr.makeSlice 44 (.int .i64 (n : Int)) (.int .i64 (n : Int))).run Tryd.prog w = .ok (.slice (some ⟨w.heap.size, 0, none⟩) n n) (w.alloc (.cells cur 55)) := by
  obtain ⟨z, hz⟩ : ∃ z, Tryd.t55.zero = some z := Option.isSome_iff_exists.1 (by kernel_rfl)
  have hb : Tryd.t55.bytes ≤ 200 := of_decide_eq_true (by kernel_rfl)
  have hs : Tryd.t55.size = 3 := by kernel_rfl
  have h1 : ((Tryd.t55.bytes : Nat) : Int) * (n : Int) ≤ 281474976710656 := by
    have : Tryd.t55.bytes * n ≤ 200 * 20000 := Nat.mul_le_mul hb hn
    have h2 : ((Tryd.t55.bytes * n : Nat) : Int) ≤ 4000000 := by omega
    rw [Int.natCast_mul] at h2
    omega
  have hr := run_make (P := Tryd.prog) w 44 55 Tryd.t55 z Tryd.underlying44 (by kernel_rfl) hz .i64 .i64 (n : Int) (n : Int) (by omega) (Int.le_refl _) h1 (by omega)
  simp only [Int.toNat_natCast, hs] at hr
  exact ⟨_, size_madeCells _ _, hr⟩
set_option maxRecDepth 20000 in
set_option maxHeartbeats 4000000 in
theorem rfus_any {w : World} {rb : Nat} {s : Option (List UInt8)} (h : RdAt w rb s) : Calls Tryd.prog 53 #[.pointer (some ⟨rb, 0, none⟩), .func (.func 54) #[] #[]] w (RdPost (SlV 3 FuC) fusE fusOk w rb s) := by
  have HL := hid (rlength_any h)
  have HP := hid fun (w' : World) (s' : Option (List UInt8)) (h : RdAt w' rb s') => rfunc_any h
  have hrb := h.lt
  clear h
  go_enter Tryd.func53, Tryd.ntmps53
  go_wp2_with fail
  refine HL.out.mono ?_
  rintro e w1 ⟨n, s1, rfl, hn, h1, h2, h3⟩
  have HS := hid h1
  have HR := hid h2
  have HK := hid h3
  clear HL h1 h2 h3
  by_cases hn0 : n = 0
  · have HN := hid hn0
    have e0 : ((n : Int) == 0) = true := by rw [hn0]; rfl
    clear hn0
    go_wp2_with fail
    go_ret
    refine ⟨_, [], s1, rfl, ⟨none, 0, rfl, .inl rfl, by simp, by simp⟩, ?_, HR.out, HK.out⟩
    have := HS.out
    rw [HN.out] at this
    exact LenS.empty Cd.fu.pos this
  · have HS0 := hid (MidS.start (E := fuE) (ok := fuOk) HS.out hn0)
    have e0 : ((n : Int) == 0) = false := by rw [beq_eq_false_iff_ne]; omega
    have hn1 : (n : Int) ≤ 20000 := by omega
    have hn2 : (0 : Int) ≤ (n : Int) := by omega
    have HNb : Box (b64 (n : Int) ∧ n ≤ maxLen) := hid ⟨by unfold b64; omega, by unfold maxLen; omega⟩
    obtain ⟨cur, hcur, hmk⟩ := rfus_any_mk n hn w1
    have HM0 := hid (LM.new (V := FuV) (heap_new w1 (.cells cur 55)) hcur)
    have HR0 := hid (HR.out.quiet (Keeps.alloc [] w1 (.cells cur 55)))
    have HK0 : Box (Keeps [rb] w (w1.alloc (.cells cur 55))) := hid (HK.out.step (Keeps.alloc [rb] w1 _))
    have HG : Box (w.heap.size ≤ w1.heap.size) := hid HK.out.size
    clear HS HR HK hcur hn0 hn
    go_wp2_with fail
    obtain ⟨w2, HW2⟩ : ∃ w2, Box (w2 = w1.alloc (.cells cur 55)) := ⟨_, hid rfl⟩
    rw [← HW2.out] at HM0 HR0 HK0 ⊢
    clear HW2 hmk
    generalize w1.heap.size = g at *
    go_loopw [16] (fun kv wr => ∃ k : Nat, k ≤ n ∧ kv = .int .i64 (k : Int) ∧ Box (∃ l sk, MidS fuE fuOk s n k l sk ∧ LM FuV wr g n 3 55 l ∧ RdAt wr rb sk ∧ Keeps [rb] w wr)) (fun kv _ => n - (intOf kv).toNat)
    case atStart => exact ⟨0, by omega, rfl, hid ⟨[], s1, HS0.out, HM0.out, HR0.out, HK0.out⟩⟩
    case round =>
      obtain ⟨k, hk, rfl, HB⟩ := hrel
      clear HS0 HM0 HR0 HK0
      obtain ⟨l, sk, m1, m2, m3, m4⟩ := HB.out
      have HMS := hid m1
      have HLM := hid m2
      have HRD := hid m3
      have HKK := hid m4
      have hg9 : Box (g < wr.heap.size) := hid (by
        obtain ⟨_, e, _⟩ := m2.ex
        exact heap_lt e)
      clear HB m1 m2 m3 m4
      by_cases hlt : k < n
      · have hlt' : (k : Int) < (n : Int) := by omega
        go_wp2_with fail
        refine (HP.out _ _ HRD.out).mono ?_
        rintro e w3 ⟨v, y, s3, rfl, hv, hst, hr3, hk3⟩
        have HM2 := hid (HLM.out.kept FuV.sub hk3 (by have := HG.out; omega))
        have hv2 : FuV (above (g + 1) w3) v y := FuV.sub _ _ _ _ (Sub.down w3 (by have := hg9.out; omega)) hv
        have HV := hid hv2
        have HST := hid hst
        have HR3 := hid hr3
        have HK3 := hid hk3
        obtain ⟨⟨y0, t0⟩, z0⟩ := HM2.out.cell (k := k) (i := 0) hlt (by decide)
        obtain ⟨⟨y1, t1⟩, z1⟩ := HM2.out.cell (k := k) (i := 1) hlt (by decide)
        obtain ⟨⟨y2, t2⟩, z2⟩ := HM2.out.cell (k := k) (i := 2) hlt (by decide)
        rw [Nat.add_zero] at t0 z0
        obtain ⟨ya, ycp, yb, ycq, rfl, _⟩ := hv2
        obtain ⟨w4, HW4⟩ : ∃ w4, Box (w4 = putL w3 g (k * 3) 0 [.int .i64 y.sig, .slice ya y.regs.length ycp, .slice yb y.blocks.length ycq]) := ⟨_, hid rfl⟩
        have hk4 : Keeps [g] w3 w4 := by rw [HW4.out]; exact putL_keeps _ _ _
        have hr4 := hr3.kept hk4 (fun x hx => by rw [List.mem_singleton] at hx; have := HG.out; omega)
        have HR4 := hid hr4
        have HK4 : Box (Keeps [rb] w w4) := hid ((HKK.out.step hk3).trans hk4 (fun x hx hlt => by rw [List.mem_singleton] at hx; have := HG.out; omega))
        have HM4 : Box (LM FuV w4 g n 3 55 (l ++ [_])) := hid (by
          have := HM2.out.put FuV.sub (by rw [HMS.out.1]; exact hlt) HV.out rfl
          rw [HMS.out.1] at this
          rw [HW4.out]
          exact this)
        have HW5 : Box (putL w3 g (k * 3) 0 [.int .i64 y.sig, .slice ya y.regs.length ycp, .slice yb y.blocks.length ycq] = w4) := hid HW4.out.symm
        simp only [putL, Nat.add_zero, Nat.zero_add, Nat.reduceAdd] at HW5
        clear hv hst hk3 hk4 hr3 HV HW4
        cases s3 with
        | none =>
          have h9 : w4.heap[rb]? = _ := hr4
          have f1 := hcell h9 1
          clear hr4 h9
          go_upto_region 9 with fail
          rw [HW5.out]
          go_wp2_with fail
          go_ret
          exact ⟨_, [], none, rfl, ⟨none, 0, rfl, .inl rfl, by simp, by simp⟩, MidS.fail Cd.fu HMS.out hlt HST.out, HR4.out, HK4.out⟩
        | some R =>
          obtain ⟨ra, rcp, h9, _⟩ := hr4
          have f1 := hcell h9 1
          clear h9
          go_upto_region 9 with fail
          rw [HW5.out]
          go_wp2_with fail
          go_roundw
          case rel => exact ⟨k + 1, by omega, by go_num, hid ⟨_, _, HMS.out.next HST.out (by simp), HM4.out, HR4.out, HK4.out⟩⟩
          case measure => simp [intOf]; omega
      · obtain rfl : k = n := by omega
        go_wp2_with fail
        go_ret
        refine ⟨_, l, sk, rfl, ⟨some ⟨g, 0, none⟩, k, by rw [HMS.out.1]; rfl, HLM.out.rows FuV.sub FuV.links HG.out, by rw [HMS.out.1]; exact Nat.le_refl _, by rw [HMS.out.1]; exact HNb.out.2⟩, HMS.out.done HNb.out.1, HRD.out, HKK.out⟩

theorem rtyss_any_mk (n : Nat) (hn : n ≤ 20000) (w : World) : ∃ cur : Array Value, cur.size = n * 1 ∧ (Instr.makeSlice 41 (.int .i64 (n : Int)) (.int .i64 (n : Int))).run Tryd.prog w = .ok (.slice (some ⟨w.heap.size, 0, none⟩) n n) (w.alloc (.cells cur 52)) := by
  obtain ⟨z, hz⟩ : ∃ z, Tryd.t52.zero = some z := Option.isSome_iff_exists.1 (by kernel_rfl)
  have hb : Tryd.t52.bytes ≤ 200 := of_decide_eq_true (by kernel_rfl)
  have hs : Tryd.t52.size = 1 := by kernel_rfl
  have h1 : ((Tryd.t52.bytes : Nat) : Int) * (n : Int) ≤ 281474976710656 := by
    have : Tryd.t52.bytes * n ≤ 200 * 20000 := Nat.mul_le_mul hb hn
    have h2 : ((Tryd.t52.bytes * n : Nat) : Int) ≤ 4000000 := by omega
    rw [Int.natCast_mul] at h2
    omega
  have hr := run_make (P := Tryd.prog) w 41 52 Tryd.t52 z Tryd.underlying41 (by kernel_rfl) hz .i64 .i64 (n : Int) (n : Int) (by omega) (Int.le_refl _) h1 (by omega)
  simp only [Int.toNat_natCast, hs] at hr
  exact ⟨_, size_madeCells _ _, hr⟩
set_option maxRecDepth 20000 in
set_option maxHeartbeats 4000000 in
theorem rtyss_any {w : World} {rb : Nat} {s : Option (List UInt8)} (h : RdAt w rb s) : Calls Tryd.prog 45 #[.pointer (some ⟨rb, 0, none⟩), .func (.func 46) #[] #[]] w (RdPost (SlV 1 (SlC 2 TyC)) tyssE tyssOk w rb s) := by
  have HL := hid (rlength_any h)
  have HP := hid fun (w' : World) (s' : Option (List UInt8)) (h : RdAt w' rb s') => rkinds_any h
  have hrb := h.lt
  clear h
  go_enter Tryd.func45, Tryd.ntmps45
  go_wp2_with fail
  refine HL.out.mono ?_
  rintro e w1 ⟨n, s1, rfl, hn, h1, h2, h3⟩
  have HS := hid h1
  have HR := hid h2
  have HK := hid h3
  clear HL h1 h2 h3
  by_cases hn0 : n = 0
  · have HN := hid hn0
    have e0 : ((n : Int) == 0) = true := by rw [hn0]; rfl
    clear hn0
    go_wp2_with fail
    go_ret
    refine ⟨_, [], s1, rfl, ⟨none, 0, rfl, .inl rfl, by simp, by simp⟩, ?_, HR.out, HK.out⟩
    have := HS.out
    rw [HN.out] at this
    exact LenS.empty Cd.tys.pos this
  · have HS0 := hid (MidS.start (E := tysE) (ok := tysOk) HS.out hn0)
    have e0 : ((n : Int) == 0) = false := by rw [beq_eq_false_iff_ne]; omega
    have hn1 : (n : Int) ≤ 20000 := by omega
    have hn2 : (0 : Int) ≤ (n : Int) := by omega
    have HNb : Box (b64 (n : Int) ∧ n ≤ maxLen) := hid ⟨by unfold b64; omega, by unfold maxLen; omega⟩
    obtain ⟨cur, hcur, hmk⟩ := rtyss_any_mk n hn w1
    have HM0 := hid (LM.new (V := TysV) (heap_new w1 (.cells cur 52)) hcur)
    have HR0 := hid (HR.out.quiet (Keeps.alloc [] w1 (.cells cur 52)))
    have HK0 : Box (Keeps [rb] w (w1.alloc (.cells cur 52))) := hid (HK.out.step (Keeps.alloc [rb] w1 _))
    have HG : Box (w.heap.size ≤ w1.heap.size) := hid HK.out.size
    clear HS HR HK hcur hn0 hn
    go_wp2_with fail
    obtain ⟨w2, HW2⟩ : ∃ w2, Box (w2 = w1.alloc (.cells cur 52)) := ⟨_, hid rfl⟩
    rw [← HW2.out] at HM0 HR0 HK0 ⊢
    clear HW2 hmk
    generalize w1.heap.size = g at *
    go_loopw [16] (fun kv wr => ∃ k : Nat, k ≤ n ∧ kv = .int .i64 (k : Int) ∧ Box (∃ l sk, MidS tysE tysOk s n k l sk ∧ LM TysV wr g n 1 52 l ∧ RdAt wr rb sk ∧ Keeps [rb] w wr)) (fun kv _ => n - (intOf kv).toNat)
    case atStart => exact ⟨0, by omega, rfl, hid ⟨[], s1, HS0.out, HM0.out, HR0.out, HK0.out⟩⟩
    case round =>
      obtain ⟨k, hk, rfl, HB⟩ := hrel
      clear HS0 HM0 HR0 HK0
      obtain ⟨l, sk, m1, m2, m3, m4⟩ := HB.out
      have HMS := hid m1
      have HLM := hid m2
      have HRD := hid m3
      have HKK := hid m4
      have hg9 : Box (g < wr.heap.size) := hid (by
        obtain ⟨_, e, _⟩ := m2.ex
        exact heap_lt e)
      clear HB m1 m2 m3 m4
      by_cases hlt : k < n
      · have hlt' : (k : Int) < (n : Int) := by omega
        go_wp2_with fail
        refine (HP.out _ _ HRD.out).mono ?_
        rintro e w3 ⟨v, y, s3, rfl, hv, hst, hr3, hk3⟩
        have HM2 := hid (HLM.out.kept TysV.sub hk3 (by have := HG.out; omega))
        have hv2 : TysV (above (g + 1) w3) v y := TysV.sub _ _ _ _ (Sub.down w3 (by have := hg9.out; omega)) hv
        have HV := hid hv2
        have HST := hid hst
        have HR3 := hid hr3
        have HK3 := hid hk3
        obtain ⟨⟨y0, t0⟩, z0⟩ := HM2.out.cell (k := k) (i := 0) hlt (by decide)
        rw [Nat.mul_one, Nat.add_zero] at t0 z0
        obtain ⟨ya, ycp, rfl, _⟩ := hv2
        obtain ⟨w4, HW4⟩ : ∃ w4, Box (w4 = putL w3 g (k * 1) 0 [.slice ya y.length ycp]) := ⟨_, hid rfl⟩
        have hk4 : Keeps [g] w3 w4 := by rw [HW4.out]; exact putL_keeps _ _ _
        have hr4 := hr3.kept hk4 (fun x hx => by rw [List.mem_singleton] at hx; have := HG.out; omega)
        have HR4 := hid hr4
        have HK4 : Box (Keeps [rb] w w4) := hid ((HKK.out.step hk3).trans hk4 (fun x hx hlt => by rw [List.mem_singleton] at hx; have := HG.out; omega))
        have HM4 : Box (LM TysV w4 g n 1 52 (l ++ [_])) := hid (by
          have := HM2.out.put TysV.sub (by rw [HMS.out.1]; exact hlt) HV.out rfl
          rw [HMS.out.1] at this
          rw [HW4.out]
          exact this)
        have HW5 : Box (putL w3 g (k * 1) 0 [.slice ya y.length ycp] = w4) := hid HW4.out.symm
        simp only [putL, Nat.add_zero, Nat.mul_one] at HW5
        clear hv hst hk3 hk4 hr3 HV HW4
        cases s3 with
        | none =>
          have h9 : w4.heap[rb]? = _ := hr4
          have f1 := hcell h9 1
          clear hr4 h9
          go_upto_region 9 with fail
          rw [HW5.out]
          go_wp2_with fail
          go_ret
          exact ⟨_, [], none, rfl, ⟨none, 0, rfl, .inl rfl, by simp, by simp⟩, MidS.fail Cd.tys HMS.out hlt HST.out, HR4.out, HK4.out⟩
        | some R =>
          obtain ⟨ra, rcp, h9, _⟩ := hr4
          have f1 := hcell h9 1
          clear h9
          go_upto_region 9 with fail
          rw [HW5.out]
          go_wp2_with fail
          go_roundw
          case rel => exact ⟨k + 1, by omega, by go_num, hid ⟨_, _, HMS.out.next HST.out (by simp), HM4.out, HR4.out, HK4.out⟩⟩
          case measure => simp [intOf]; omega
      · obtain rfl : k = n := by omega
        go_wp2_with fail
        go_ret
        refine ⟨_, l, sk, rfl, ⟨some ⟨g, 0, none⟩, k, by rw [HMS.out.1]; rfl, HLM.out.rows TysV.sub SlV.links HG.out, by rw [HMS.out.1]; exact Nat.le_refl _, by rw [HMS.out.1]; exact HNb.out.2⟩, HMS.out.done HNb.out.1, HRD.out, HKK.out⟩

theorem rsgs_any_mk (n : Nat) (hn : n ≤ 20000) (w : World) : ∃ cur : Array Value, cur.size = n * 3 ∧ (Instr.makeSlice 42 (.int .i64 (n : Int)) (.int .i64 (n : Int))).run Tryd.prog w = .ok (.slice (some ⟨w.heap.size, 0, none⟩) n n) (w.alloc (.cells cur 62)) := by
  obtain ⟨z, hz⟩ : ∃ z, Tryd.t62.zero = some z := Option.isSome_iff_exists.1 (by kernel_rfl)
  have hb : Tryd.t62.bytes ≤ 200 := of_decide_eq_true (by kernel_rfl)
  have hs : Tryd.t62.size = 3 := by kernel_rfl
  have h1 : ((Tryd.t62.bytes : Nat) : Int) * (n : Int) ≤ 281474976710656 := by
    have : Tryd.t62.bytes * n ≤ 200 * 20000 := Nat.mul_le_mul hb hn
    have h2 : ((Tryd.t62.bytes * n : Nat) : Int) ≤ 4000000 := by omega
    rw [Int.natCast_mul] at h2
    omega
  have hr := run_make (P := Tryd.prog) w 42 62 Tryd.t62 z Tryd.underlying42 (by kernel_rfl) hz .i64 .i64 (n : Int) (n : Int) (by omega) (Int.le_refl _) h1 (by omega)
  simp only [Int.toNat_natCast, hs] at hr
  exact ⟨_, size_madeCells _ _, hr⟩
set_option maxRecDepth 20000 in
set_option maxHeartbeats 4000000 in
theorem rsgs_any {w : World} {rb : Nat} {s : Option (List UInt8)} (h : RdAt w rb s) : Calls Tryd.prog 47 #[.pointer (some ⟨rb, 0, none⟩), .func (.func 48) #[] #[]] w (RdPost (SlV 3 SgC) sgsE sgsOk w rb s) := by
  have HL := hid (rlength_any h)
  have HP := hid fun (w' : World) (s' : Option (List UInt8)) (h : RdAt w' rb s') => rsig_any h
  have hrb := h.lt
  clear h
  go_enter Tryd.func47, Tryd.ntmps47
  go_wp2_with fail
  refine HL.out.mono ?_
  rintro e w1 ⟨n, s1, rfl, hn, h1, h2, h3⟩
  have HS := hid h1
  have HR := hid h2
  have HK := hid h3
  clear HL h1 h2 h3
  by_cases hn0 : n = 0
  · have HN := hid hn0
    have e0 : ((n : Int) == 0) = true := by rw [hn0]; rfl
    clear hn0
    go_wp2_with fail
    go_ret
    refine ⟨_, [], s1, rfl, ⟨none, 0, rfl, .inl rfl, by simp, by simp⟩, ?_, HR.out, HK.out⟩
    have := HS.out
    rw [HN.out] at this
    exact LenS.empty Cd.sg.pos this
  · have HS0 := hid (MidS.start (E := sgE) (ok := sgOk) HS.out hn0)
    have e0 : ((n : Int) == 0) = false := by rw [beq_eq_false_iff_ne]; omega
    have hn1 : (n : Int) ≤ 20000 := by omega
    have hn2 : (0 : Int) ≤ (n : Int) := by omega
    have HNb : Box (b64 (n : Int) ∧ n ≤ maxLen) := hid ⟨by unfold b64; omega, by unfold maxLen; omega⟩
    obtain ⟨cur, hcur, hmk⟩ := rsgs_any_mk n hn w1
    have HM0 := hid (LM.new (V := SgV) (heap_new w1 (.cells cur 62)) hcur)
    have HR0 := hid (HR.out.quiet (Keeps.alloc [] w1 (.cells cur 62)))
    have HK0 : Box (Keeps [rb] w (w1.alloc (.cells cur 62))) := hid (HK.out.step (Keeps.alloc [rb] w1 _))
    have HG : Box (w.heap.size ≤ w1.heap.size) := hid HK.out.size
    clear HS HR HK hcur hn0 hn
    go_wp2_with fail
    obtain ⟨w2, HW2⟩ : ∃ w2, Box (w2 = w1.alloc (.cells cur 62)) := ⟨_, hid rfl⟩
    rw [← HW2.out] at HM0 HR0 HK0 ⊢
    clear HW2 hmk
    generalize w1.heap.size = g at *
    go_loopw [16] (fun kv wr => ∃ k : Nat, k ≤ n ∧ kv = .int .i64 (k : Int) ∧ Box (∃ l sk, MidS sgE sgOk s n k l sk ∧ LM SgV wr g n 3 62 l ∧ RdAt wr rb sk ∧ Keeps [rb] w wr)) (fun kv _ => n - (intOf kv).toNat)
    case atStart => exact ⟨0, by omega, rfl, hid ⟨[], s1, HS0.out, HM0.out, HR0.out, HK0.out⟩⟩
    case round =>
      obtain ⟨k, hk, rfl, HB⟩ := hrel
      clear HS0 HM0 HR0 HK0
      obtain ⟨l, sk, m1, m2, m3, m4⟩ := HB.out
      have HMS := hid m1
      have HLM := hid m2
      have HRD := hid m3
      have HKK := hid m4
      have hg9 : Box (g < wr.heap.size) := hid (by
        obtain ⟨_, e, _⟩ := m2.ex
        exact heap_lt e)
      clear HB m1 m2 m3 m4
      by_cases hlt : k < n
      · have hlt' : (k : Int) < (n : Int) := by omega
        go_wp2_with fail
        refine (HP.out _ _ HRD.out).mono ?_
        rintro e w3 ⟨v, y, s3, rfl, hv, hst, hr3, hk3⟩
        have HM2 := hid (HLM.out.kept SgV.sub hk3 (by have := HG.out; omega))
        have hv2 : SgV (above (g + 1) w3) v y := SgV.sub _ _ _ _ (Sub.down w3 (by have := hg9.out; omega)) hv
        have HV := hid hv2
        have HST := hid hst
        have HR3 := hid hr3
        have HK3 := hid hk3
        obtain ⟨⟨y0, t0⟩, z0⟩ := HM2.out.cell (k := k) (i := 0) hlt (by decide)
        obtain ⟨⟨y1, t1⟩, z1⟩ := HM2.out.cell (k := k) (i := 1) hlt (by decide)
        obtain ⟨⟨y2, t2⟩, z2⟩ := HM2.out.cell (k := k) (i := 2) hlt (by decide)
        rw [Nat.add_zero] at t0 z0
        obtain ⟨ya, ycp, rfl, _⟩ := hv2
        obtain ⟨w4, HW4⟩ : ∃ w4, Box (w4 = putL w3 g (k * 3) 0 [.slice ya y.1.length ycp, .int .i64 y.2.1, .int .i64 y.2.2]) := ⟨_, hid rfl⟩
        have hk4 : Keeps [g] w3 w4 := by rw [HW4.out]; exact putL_keeps _ _ _
        have hr4 := hr3.kept hk4 (fun x hx => by rw [List.mem_singleton] at hx; have := HG.out; omega)
        have HR4 := hid hr4
        have HK4 : Box (Keeps [rb] w w4) := hid ((HKK.out.step hk3).trans hk4 (fun x hx hlt => by rw [List.mem_singleton] at hx; have := HG.out; omega))
        have HM4 : Box (LM SgV w4 g n 3 62 (l ++ [_])) := hid (by
          have := HM2.out.put SgV.sub (by rw [HMS.out.1]; exact hlt) HV.out rfl
          rw [HMS.out.1] at this
          rw [HW4.out]
          exact this)
        have HW5 : Box (putL w3 g (k * 3) 0 [.slice ya y.1.length ycp, .int .i64 y.2.1, .int .i64 y.2.2] = w4) := hid HW4.out.symm
        simp only [putL, Nat.add_zero, Nat.zero_add, Nat.reduceAdd] at HW5
        clear hv hst hk3 hk4 hr3 HV HW4
        cases s3 with
        | none =>
          have h9 : w4.heap[rb]? = _ := hr4
          have f1 := hcell h9 1
          clear hr4 h9
          go_upto_region 9 with fail
          rw [HW5.out]
          go_wp2_with fail
          go_ret
          exact ⟨_, [], none, rfl, ⟨none, 0, rfl, .inl rfl, by simp, by simp⟩, MidS.fail Cd.sg HMS.out hlt HST.out, HR4.out, HK4.out⟩
        | some R =>
          obtain ⟨ra, rcp, h9, _⟩ := hr4
          have f1 := hcell h9 1
          clear h9
          go_upto_region 9 with fail
          rw [HW5.out]
          go_wp2_with fail
          go_roundw
          case rel => exact ⟨k + 1, by omega, by go_num, hid ⟨_, _, HMS.out.next HST.out (by simp), HM4.out, HR4.out, HK4.out⟩⟩
          case measure => simp [intOf]; omega
      · obtain rfl : k = n := by omega
        go_wp2_with fail
        go_ret
        refine ⟨_, l, sk, rfl, ⟨some ⟨g, 0, none⟩, k, by rw [HMS.out.1]; rfl, HLM.out.rows SgV.sub SgV.links HG.out, by rw [HMS.out.1]; exact Nat.le_refl _, by rw [HMS.out.1]; exact HNb.out.2⟩, HMS.out.done HNb.out.1, HRD.out, HKK.out⟩

theorem rifs_any_mk (n : Nat) (hn : n ≤ 20000) (w : World) : ∃ cur : Array Value, cur.size = n * 1 ∧ (Instr.makeSlice 40 (.int .i64 (n : Int)) (.int .i64 (n : Int))).run Tryd.prog w = .ok (.slice (some ⟨w.heap.size, 0, none⟩) n n) (w.alloc (.cells cur 39)) := by
  obtain ⟨z, hz⟩ : ∃ z, Tryd.t39.zero = some z := Option.isSome_iff_exists.1 (by kernel_rfl)
  have hb : Tryd.t39.bytes ≤ 200 := of_decide_eq_true (by kernel_rfl)
  have hs : Tryd.t39.size = 1 := by kernel_rfl
  have h1 : ((Tryd.t39.bytes : Nat) : Int) * (n : Int) ≤ 281474976710656 := by
    have : Tryd.t39.bytes * n ≤ 200 * 20000 := Nat.mul_le_mul hb hn
    have h2 : ((Tryd.t39.bytes * n : Nat) : Int) ≤ 4000000 := by omega
    rw [Int.natCast_mul] at h2
    omega
  have hr := run_make (P := Tryd.prog) w 40 39 Tryd.t39 z Tryd.underlying40 (by kernel_rfl) hz .i64 .i64 (n : Int) (n : Int) (by omega) (Int.le_refl _) h1 (by omega)
  simp only [Int.toNat_natCast, hs] at hr
  exact ⟨_, size_madeCells _ _, hr⟩
set_option maxRecDepth 20000 in
set_option maxHeartbeats 4000000 in
theorem rifs_any {w : World} {rb : Nat} {s : Option (List UInt8)} (h : RdAt w rb s) : Calls Tryd.prog 49 #[.pointer (some ⟨rb, 0, none⟩), .func (.func 50) #[] #[]] w (RdPost (SlV 1 IntsC) ifsE ifsOk w rb s) := by
  have HL := hid (rlength_any h)
  have HP := hid fun (w' : World) (s' : Option (List UInt8)) (h : RdAt w' rb s') => riface_any h
  have hrb := h.lt
  clear h
  go_enter Tryd.func49, Tryd.ntmps49
  go_wp2_with fail
  refine HL.out.mono ?_
  rintro e w1 ⟨n, s1, rfl, hn, h1, h2, h3⟩
  have HS := hid h1
  have HR := hid h2
  have HK := hid h3
  clear HL h1 h2 h3
  by_cases hn0 : n = 0
  · have HN := hid hn0
    have e0 : ((n : Int) == 0) = true := by rw [hn0]; rfl
    clear hn0
    go_wp2_with fail
    go_ret
    refine ⟨_, [], s1, rfl, ⟨none, 0, rfl, .inl rfl, by simp, by simp⟩, ?_, HR.out, HK.out⟩
    have := HS.out
    rw [HN.out] at this
    exact LenS.empty Cd.ints.pos this
  · have HS0 := hid (MidS.start (E := intsE) (ok := intsOk) HS.out hn0)
    have e0 : ((n : Int) == 0) = false := by rw [beq_eq_false_iff_ne]; omega
    have hn1 : (n : Int) ≤ 20000 := by omega
    have hn2 : (0 : Int) ≤ (n : Int) := by omega
    have HNb : Box (b64 (n : Int) ∧ n ≤ maxLen) := hid ⟨by unfold b64; omega, by unfold maxLen; omega⟩
    obtain ⟨cur, hcur, hmk⟩ := rifs_any_mk n hn w1
    have HM0 := hid (LM.new (V := IfV) (heap_new w1 (.cells cur 39)) hcur)
    have HR0 := hid (HR.out.quiet (Keeps.alloc [] w1 (.cells cur 39)))
    have HK0 : Box (Keeps [rb] w (w1.alloc (.cells cur 39))) := hid (HK.out.step (Keeps.alloc [rb] w1 _))
    have HG : Box (w.heap.size ≤ w1.heap.size) := hid HK.out.size
    clear HS HR HK hcur hn0 hn
    go_wp2_with fail
    obtain ⟨w2, HW2⟩ : ∃ w2, Box (w2 = w1.alloc (.cells cur 39)) := ⟨_, hid rfl⟩
    rw [← HW2.out] at HM0 HR0 HK0 ⊢
    clear HW2 hmk
    generalize w1.heap.size = g at *
    go_loopw [16] (fun kv wr => ∃ k : Nat, k ≤ n ∧ kv = .int .i64 (k : Int) ∧ Box (∃ l sk, MidS intsE intsOk s n k l sk ∧ LM IfV wr g n 1 39 l ∧ RdAt wr rb sk ∧ Keeps [rb] w wr)) (fun kv _ => n - (intOf kv).toNat)
    case atStart => exact ⟨0, by omega, rfl, hid ⟨[], s1, HS0.out, HM0.out, HR0.out, HK0.out⟩⟩
    case round =>
      obtain ⟨k, hk, rfl, HB⟩ := hrel
      clear HS0 HM0 HR0 HK0
      obtain ⟨l, sk, m1, m2, m3, m4⟩ := HB.out
      have HMS := hid m1
      have HLM := hid m2
      have HRD := hid m3
      have HKK := hid m4
      have hg9 : Box (g < wr.heap.size) := hid (by
        obtain ⟨_, e, _⟩ := m2.ex
        exact heap_lt e)
      clear HB m1 m2 m3 m4
      by_cases hlt : k < n
      · have hlt' : (k : Int) < (n : Int) := by omega
        go_wp2_with fail
        refine (HP.out _ _ HRD.out).mono ?_
        rintro e w3 ⟨v, y, s3, rfl, hv, hst, hr3, hk3⟩
        have HM2 := hid (HLM.out.kept IfV.sub hk3 (by have := HG.out; omega))
        have hv2 : IfV (above (g + 1) w3) v y := IfV.sub _ _ _ _ (Sub.down w3 (by have := hg9.out; omega)) hv
        have HV := hid hv2
        have HST := hid hst
        have HR3 := hid hr3
        have HK3 := hid hk3
        obtain ⟨⟨y0, t0⟩, z0⟩ := HM2.out.cell (k := k) (i := 0) hlt (by decide)
        rw [Nat.mul_one, Nat.add_zero] at t0 z0
        obtain ⟨ya, ycp, rfl, _⟩ := hv2
        obtain ⟨w4, HW4⟩ : ∃ w4, Box (w4 = putL w3 g (k * 1) 0 [.slice ya y.length ycp]) := ⟨_, hid rfl⟩
        have hk4 : Keeps [g] w3 w4 := by rw [HW4.out]; exact putL_keeps _ _ _
        have hr4 := hr3.kept hk4 (fun x hx => by rw [List.mem_singleton] at hx; have := HG.out; omega)
        have HR4 := hid hr4
        have HK4 : Box (Keeps [rb] w w4) := hid ((HKK.out.step hk3).trans hk4 (fun x hx hlt => by rw [List.mem_singleton] at hx; have := HG.out; omega))
        have HM4 : Box (LM IfV w4 g n 1 39 (l ++ [_])) := hid (by
          have := HM2.out.put IfV.sub (by rw [HMS.out.1]; exact hlt) HV.out rfl
          rw [HMS.out.1] at this
          rw [HW4.out]
          exact this)
        have HW5 : Box (putL w3 g (k * 1) 0 [.slice ya y.length ycp] = w4) := hid HW4.out.symm
        simp only [putL, Nat.add_zero, Nat.mul_one] at HW5
        clear hv hst hk3 hk4 hr3 HV HW4
        cases s3 with
        | none =>
          have h9 : w4.heap[rb]? = _ := hr4
          have f1 := hcell h9 1
          clear hr4 h9
          go_upto_region 9 with fail
          rw [HW5.out]
          go_wp2_with fail
          go_ret
          exact ⟨_, [], none, rfl, ⟨none, 0, rfl, .inl rfl, by simp, by simp⟩, MidS.fail Cd.ints HMS.out hlt HST.out, HR4.out, HK4.out⟩
        | some R =>
          obtain ⟨ra, rcp, h9, _⟩ := hr4
          have f1 := hcell h9 1
          clear h9
          go_upto_region 9 with fail
          rw [HW5.out]
          go_wp2_with fail
          go_roundw
          case rel => exact ⟨k + 1, by omega, by go_num, hid ⟨_, _, HMS.out.next HST.out (by simp), HM4.out, HR4.out, HK4.out⟩⟩
          case measure => simp [intOf]; omega
      · obtain rfl : k = n := by omega
        go_wp2_with fail
        go_ret
        refine ⟨_, l, sk, rfl, ⟨some ⟨g, 0, none⟩, k, by rw [HMS.out.1]; rfl, HLM.out.rows IfV.sub IfV.links HG.out, by rw [HMS.out.1]; exact Nat.le_refl _, by rw [HMS.out.1]; exact HNb.out.2⟩, HMS.out.done HNb.out.1, HRD.out, HKK.out⟩

theorem rims_any_mk (n : Nat) (hn : n ≤ 20000) (w : World) : ∃ cur : Array Value, cur.size = n * 3 ∧ (Instr.makeSlice 43 (.int .i64 (n : Int)) (.int .i64 (n : Int))).run Tryd.prog w = .ok (.slice (some ⟨w.heap.size, 0, none⟩) n n) (w.alloc (.cells cur 65)) := by
  obtain ⟨z, hz⟩ : ∃ z, Tryd.t65.zero = some z := Option.isSome_iff_exists.1 (by kernel_rfl)
  have hb : Tryd.t65.bytes ≤ 200 := of_decide_eq_true (by kernel_rfl)
  have hs : Tryd.t65.size = 3 := by kernel_rfl
  have h1 : ((Tryd.t65.bytes : Nat) : Int) * (n : Int) ≤ 281474976710656 := by
    have : Tryd.t65.bytes * n ≤ 200 * 20000 := Nat.mul_le_mul hb hn
    have h2 : ((Tryd.t65.bytes * n : Nat) : Int) ≤ 4000000 := by omega
    rw [Int.natCast_mul] at h2
    omega
  have hr := run_make (P := Tryd.prog) w 43 65 Tryd.t65 z Tryd.underlying43 (by kernel_rfl) hz .i64 .i64 (n : Int) (n : Int) (by omega) (Int.le_refl _) h1 (by omega)
  simp only [Int.toNat_natCast, hs] at hr
  exact ⟨_, size_madeCells _ _, hr⟩
set_option maxRecDepth 20000 in
set_option maxHeartbeats 4000000 in
theorem rims_any {w : World} {rb : Nat} {s : Option (List UInt8)} (h : RdAt w rb s) : Calls Tryd.prog 51 #[.pointer (some ⟨rb, 0, none⟩), .func (.func 52) #[] #[]] w (RdPost (SlV 3 ImC) imsE imsOk w rb s) := by
  have HL := hid (rlength_any h)
  have HP := hid fun (w' : World) (s' : Option (List UInt8)) (h : RdAt w' rb s') => rimpl_any h
  have hrb := h.lt
  clear h
  go_enter Tryd.func51, Tryd.ntmps51
  go_wp2_with fail
  refine HL.out.mono ?_
  rintro e w1 ⟨n, s1, rfl, hn, h1, h2, h3⟩
  have HS := hid h1
  have HR := hid h2
  have HK := hid h3
  clear HL h1 h2 h3
  by_cases hn0 : n = 0
  · have HN := hid hn0
    have e0 : ((n : Int) == 0) = true := by rw [hn0]; rfl
    clear hn0
    go_wp2_with fail
    go_ret
    refine ⟨_, [], s1, rfl, ⟨none, 0, rfl, .inl rfl, by simp, by simp⟩, ?_, HR.out, HK.out⟩
    have := HS.out
    rw [HN.out] at this
    exact LenS.empty Cd.im.pos this
  · have HS0 := hid (MidS.start (E := imE) (ok := imOk) HS.out hn0)
    have e0 : ((n : Int) == 0) = false := by rw [beq_eq_false_iff_ne]; omega
    have hn1 : (n : Int) ≤ 20000 := by omega
    have hn2 : (0 : Int) ≤ (n : Int) := by omega
    have HNb : Box (b64 (n : Int) ∧ n ≤ maxLen) := hid ⟨by unfold b64; omega, by unfold maxLen; omega⟩
    obtain ⟨cur, hcur, hmk⟩ := rims_any_mk n hn w1
    have HM0 := hid (LM.new (V := ImV) (heap_new w1 (.cells cur 65)) hcur)
    have HR0 := hid (HR.out.quiet (Keeps.alloc [] w1 (.cells cur 65)))
    have HK0 : Box (Keeps [rb] w (w1.alloc (.cells cur 65))) := hid (HK.out.step (Keeps.alloc [rb] w1 _))
    have HG : Box (w.heap.size ≤ w1.heap.size) := hid HK.out.size
    clear HS HR HK hcur hn0 hn
    go_wp2_with fail
    obtain ⟨w2, HW2⟩ : ∃ w2, Box (w2 = w1.alloc (.cells cur 65)) := ⟨_, hid rfl⟩
    rw [← HW2.out] at HM0 HR0 HK0 ⊢
    clear HW2 hmk
    generalize w1.heap.size = g at *
    go_loopw [16] (fun kv wr => ∃ k : Nat, k ≤ n ∧ kv = .int .i64 (k : Int) ∧ Box (∃ l sk, MidS imE imOk s n k l sk ∧ LM ImV wr g n 3 65 l ∧ RdAt wr rb sk ∧ Keeps [rb] w wr)) (fun kv _ => n - (intOf kv).toNat)
    case atStart => exact ⟨0, by omega, rfl, hid ⟨[], s1, HS0.out, HM0.out, HR0.out, HK0.out⟩⟩
    case round =>
      obtain ⟨k, hk, rfl, HB⟩ := hrel
      clear HS0 HM0 HR0 HK0
      obtain ⟨l, sk, m1, m2, m3, m4⟩ := HB.out
      have HMS := hid m1
      have HLM := hid m2
      have HRD := hid m3
      have HKK := hid m4
      have hg9 : Box (g < wr.heap.size) := hid (by
        obtain ⟨_, e, _⟩ := m2.ex
        exact heap_lt e)
      clear HB m1 m2 m3 m4
      by_cases hlt : k < n
      · have hlt' : (k : Int) < (n : Int) := by omega
        go_wp2_with fail
        refine (HP.out _ _ HRD.out).mono ?_
        rintro e w3 ⟨v, y, s3, rfl, hv, hst, hr3, hk3⟩
        have HM2 := hid (HLM.out.kept ImV.sub hk3 (by have := HG.out; omega))
        have hv2 : ImV (above (g + 1) w3) v y := ImV.sub _ _ _ _ (Sub.down w3 (by have := hg9.out; omega)) hv
        have HV := hid hv2
        have HST := hid hst
        have HR3 := hid hr3
        have HK3 := hid hk3
        obtain ⟨⟨y0, t0⟩, z0⟩ := HM2.out.cell (k := k) (i := 0) hlt (by decide)
        obtain ⟨⟨y1, t1⟩, z1⟩ := HM2.out.cell (k := k) (i := 1) hlt (by decide)
        obtain ⟨⟨y2, t2⟩, z2⟩ := HM2.out.cell (k := k) (i := 2) hlt (by decide)
        rw [Nat.add_zero] at t0 z0
        obtain ⟨ya, ycp, rfl, _⟩ := hv2
        obtain ⟨w4, HW4⟩ : ∃ w4, Box (w4 = putL w3 g (k * 3) 0 [.int .i64 y.1, .int .i64 y.2.1, .slice ya y.2.2.length ycp]) := ⟨_, hid rfl⟩
        have hk4 : Keeps [g] w3 w4 := by rw [HW4.out]; exact putL_keeps _ _ _
        have hr4 := hr3.kept hk4 (fun x hx => by rw [List.mem_singleton] at hx; have := HG.out; omega)
        have HR4 := hid hr4
        have HK4 : Box (Keeps [rb] w w4) := hid ((HKK.out.step hk3).trans hk4 (fun x hx hlt => by rw [List.mem_singleton] at hx; have := HG.out; omega))
        have HM4 : Box (LM ImV w4 g n 3 65 (l ++ [_])) := hid (by
          have := HM2.out.put ImV.sub (by rw [HMS.out.1]; exact hlt) HV.out rfl
          rw [HMS.out.1] at this
          rw [HW4.out]
          exact this)
        have HW5 : Box (putL w3 g (k * 3) 0 [.int .i64 y.1, .int .i64 y.2.1, .slice ya y.2.2.length ycp] = w4) := hid HW4.out.symm
        simp only [putL, Nat.add_zero, Nat.zero_add, Nat.reduceAdd] at HW5
        clear hv hst hk3 hk4 hr3 HV HW4
        cases s3 with
        | none =>
          have h9 : w4.heap[rb]? = _ := hr4
          have f1 := hcell h9 1
          clear hr4 h9
          go_upto_region 9 with fail
          rw [HW5.out]
          go_wp2_with fail
          go_ret
          exact ⟨_, [], none, rfl, ⟨none, 0, rfl, .inl rfl, by simp, by simp⟩, MidS.fail Cd.im HMS.out hlt HST.out, HR4.out, HK4.out⟩
        | some R =>
          obtain ⟨ra, rcp, h9, _⟩ := hr4
          have f1 := hcell h9 1
          clear h9
          go_upto_region 9 with fail
          rw [HW5.out]
          go_wp2_with fail
          go_roundw
          case rel => exact ⟨k + 1, by omega, by go_num, hid ⟨_, _, HMS.out.next HST.out (by simp), HM4.out, HR4.out, HK4.out⟩⟩
          case measure => simp [intOf]; omega
      · obtain rfl : k = n := by omega
        go_wp2_with fail
        go_ret
        refine ⟨_, l, sk, rfl, ⟨some ⟨g, 0, none⟩, k, by rw [HMS.out.1]; rfl, HLM.out.rows ImV.sub ImV.links HG.out, by rw [HMS.out.1]; exact Nat.le_refl _, by rw [HMS.out.1]; exact HNb.out.2⟩, HMS.out.done HNb.out.1, HRD.out, HKK.out⟩

end Go.Proofs.YtmipbaihlodmdaaDoor
