/-
  CodeNone: no program; no bytes.
-/
import Derived.Test.YtmipbaihlodmdaaDoorCBg
namespace Go.Proofs.YtmipbaihlodmdaaDoor
open Go.RowKit

def pr0 : Pr8 := ⟨[], [], [], [], [], 0⟩
theorem num0 : numE 0 = [0] := by
  show seven (foldN 0) = _
  rw [show foldN 0 = 0 from rfl, seven_lt (by omega)]
  rfl
theorem pr0_E : prE pr0 = [0, 0, 0, 0, 0, 0] := by
  simp [prE, pairE, tyssE, listE, sgsE, ifsE, imsE, fusE, pr0, num0]
theorem pr0_ok : prOk pr0 := by
  have h : ∀ {α : Type} (ok : α → Prop), listOk ok [] := fun ok => ⟨by unfold b64; simp, fun x hx => by cases hx⟩
  exact ⟨h _, h _, h _, h _, h _, by unfold b64; simp [pr0]⟩
theorem zeros_at {w : World} {g : Nat} {cur : Array Value} {T : TypeId} (h : w.heap[g]? = some (.cells cur T (0, 0))) (hc : cur = Array.replicate 6 (.int .u8 0)) : BytesAt w (some ⟨g, 0, none⟩) (prE pr0) := by
  rw [pr0_E]
  refine .inr ⟨g, 0, rfl, fun i hi => ?_⟩
  have hi6 : i < 6 := by simpa using hi
  rw [Nat.zero_add, hcell h i, hc]
  have hz : ∀ j, j < 6 → ([0, 0, 0, 0, 0, 0] : List UInt8).getD j 0 = 0 := by decide
  rw [hz i hi6]
  simp [hi6]
set_option maxRecDepth 20000 in
set_option maxHeartbeats 4000000 in
theorem codeNone_walk (w : World) (hg : Glob w) : Calls Tryd.prog 6 #[] w fun e w' => e = .returned (.bool true) ∧ Keeps [] w w' := by
  have HG := hid hg
  have H1 := hid (encode_nil w)
  clear hg
  go_enter Tryd.func6, Tryd.ntmps6
  go_wp2_with fail
  refine H1.out.mono ?_
  rintro e w1 ⟨p1, rfl, r1, k1⟩
  have HD := hid (decode_any (w := w1) (a := none) (cp := 0) (L := []) (.inl rfl) (Nat.le_refl _) (by simp))
  rw [show ([] : List UInt8).length = 0 from rfl] at HD
  have K1 := hid k1
  have R1 := hid r1
  clear H1 r1 k1
  go_wp2_with fail
  refine HD.out.mono ?_
  intro e w2 h2
  obtain ⟨p2, rfl, r2, k2⟩ := dec_bad (fun P _ e => prE_ne P e) h2
  have K2 := hid (K1.out.quiet k2)
  have R1b := hid (keep_heap R1.out k2)
  have R2 := hid r2
  clear HD h2 r2 k2 R1 K1
  obtain ⟨cur, hcur, hmk⟩ : ∃ cur, cur = Array.replicate 6 (Value.int .u8 0) ∧ (Instr.makeSlice 25 (.int .i64 6) (.int .i64 6)).run Tryd.prog w2 = .ok (.slice (some ⟨w2.heap.size, 0, none⟩) 6 6) (w2.alloc (.cells cur 5)) := ⟨_, rfl, by kernel_rfl⟩
  have ka := Keeps.alloc [] w2 (.cells cur 5)
  have HD := hid (decode_any (w := w2.alloc (.cells cur 5)) (cp := 6) (zeros_at (heap_new w2 _) hcur) (by rw [pr0_E]; exact Nat.le_refl _) (by rw [pr0_E]; simp))
  rw [show (prE pr0).length = 6 by rw [pr0_E]; rfl] at HD
  have HKA := hid ka
  clear ka hcur
  go_wp2_with fail
  refine HD.out.mono ?_
  intro e w3 h3
  obtain ⟨qb, rfl, hq, k3⟩ := dec_good pr0_ok (by rw [pr0_E]; simp) h3
  have k23 := HKA.out.quiet k3
  have K3 := hid (K2.out.quiet k23)
  have R1c := hid (keep_heap R1b.out k23)
  have R2c := hid (keep_heap R2.out k23)
  have HB := hid (begun_any w3 (HG.out.quiet K3.out))
  have HQ := hid hq
  clear HD h3 k3 k23 hq R1b R2 HKA hmk
  go_wp2_with fail
  refine HB.out.mono ?_
  rintro e w4 ⟨rfl, k4⟩
  have HW := hid (why_ref p1 w4 (HG.out.quiet (K3.out.quiet k4)) (keep_heap R1c.out k4))
  have K4 := hid (K3.out.quiet k4)
  have R2d := hid (keep_heap R2c.out k4)
  have HQ4 := hid (PrC.stays _ _ _ _ _ k4 HQ.out)
  clear HB k4 R1c R2c HQ
  go_wp2_with fail
  refine HW.out.mono ?_
  rintro e w5 ⟨rfl, k5⟩
  have HW2 := hid (why_ref p2 w5 (HG.out.quiet (K4.out.quiet k5)) (keep_heap R2d.out k5))
  have K5 := hid (K4.out.quiet k5)
  have HQ5 := hid (PrC.stays _ _ _ _ _ k5 HQ4.out)
  clear HW k5 R2d HQ4
  go_wp2_with fail
  refine HW2.out.mono ?_
  rintro e w6 ⟨rfl, k6⟩
  obtain ⟨fa, fcp, hf, _⟩ := (PrC.stays _ _ _ _ _ k6 HQ5.out).c4
  have K6 := hid (K5.out.quiet k6)
  rw [show pr0.funcs.length = 0 from rfl, Nat.zero_add] at hf
  clear HW2 k6 HQ5
  go_wp2_with fail
  go_ret
  exact ⟨rfl, K6.out⟩
end Go.Proofs.YtmipbaihlodmdaaDoor
