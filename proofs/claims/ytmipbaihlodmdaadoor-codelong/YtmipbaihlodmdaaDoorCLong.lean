/-
  CodeLong: 20,000 bytes may be, more are refused.
-/
import Derived.Test.YtmipbaihlodmdaaDoorCBg
namespace Go.Proofs.YtmipbaihlodmdaaDoor
open Go.RowKit

def prN (l : List Int) : Pr8 := ⟨[], [], [l], [], [], 0⟩
theorem prN_len (l : List Int) : (prE (prN l)).length ≤ 70 + (l.flatMap numE).length + (numE (l.length : Int)).length := by
  have e : prE (prN l) = numE 0 ++ numE 0 ++ numE 1 ++ numE (l.length : Int) ++ l.flatMap numE ++ numE 0 ++ numE 0 ++ numE 0 := by
    simp [prE, pairE, tyssE, intsE, listE, sgsE, ifsE, imsE, fusE, prN]
  rw [e]
  simp only [List.length_append]
  have h0 := numE_len (n := 0) (by unfold b64; omega)
  have h1 := numE_len (n := 1) (by unfold b64; omega)
  omega
theorem flat_le {l : List Int} (h : ∀ x, x ∈ l → b64 x) : (l.flatMap numE).length ≤ 10 * l.length := by
  induction l with
  | nil => simp
  | cons x l ih =>
    rw [List.flatMap_cons, List.length_append, List.length_cons]
    have h1 := numE_len (h x (List.mem_cons_self ..))
    have h2 := ih (fun y hy => h y (List.mem_cons_of_mem _ hy))
    omega
theorem prcN {w : World} {g1 g2 n cp : Nat} {a : Option Addr} {l : List Int} (hn : n = l.length) (hl : IntsV w (.slice a l.length cp) l)
    (h1 : w.heap[g1]? = some (.cells #[.slice a n cp] 39 (0, 0)))
    (h2 : w.heap[g2]? = some (.cells #[.slice none 0 0, .slice none 0 0, .slice (some ⟨g1, 0, none⟩) 1 1, .slice none 0 0, .slice none 0 0, .int .i64 0] 46 (0, 0))) : PrC w g2 0 (prN l) := by
  subst hn
  have b0 : b64 0 := by unfold b64; omega
  have hs : IntsC w g1 0 l := SlV.cell hl (hcell h1 0)
  exact ⟨sl_nil (hcell h2 0), sl_nil (hcell h2 1), sl_one (hcell h2 2) (Nat.le_refl _) hs, sl_nil (hcell h2 3), sl_nil (hcell h2 4), ⟨hcell h2 5, b0⟩⟩
theorem mk_ints (n : Nat) (hn : n ≤ 21000) (w : World) : ∃ cur : Array Value, cur.toList = List.replicate n (.int .i64 0) ∧ (Instr.makeSlice 37 (.int .i64 (n : Int)) (.int .i64 (n : Int))).run Tryd.prog w = .ok (.slice (some ⟨w.heap.size, 0, none⟩) n n) (w.alloc (.cells cur 3)) := by
  have hz : Tryd.t3.zero = some (.int .i64 0) := by kernel_rfl
  have hs : Tryd.t3.size = 1 := by kernel_rfl
  have hb : Tryd.t3.bytes = 8 := by kernel_rfl
  have hr := run_make (P := Tryd.prog) w 37 3 Tryd.t3 (.int .i64 0) Tryd.underlying37 (by kernel_rfl) hz .i64 .i64 (n : Int) (n : Int) (by omega) (Int.le_refl _) (by rw [hb]; omega) (by omega)
  simp only [Int.toNat_natCast, hs, Nat.mul_one] at hr
  exact ⟨_, by rw [show (Value.int .i64 0).cells = #[.int .i64 0] from rfl]; exact toList_madeCells_one _ _, hr⟩
theorem zeros_ints {w : World} {g n : Nat} {cur : Array Value} {T : TypeId} (h : w.heap[g]? = some (.cells cur T (0, 0))) (hc : cur.toList = List.replicate n (.int .i64 0)) (hn : n ≤ 21000) : IntsV w (.slice (some ⟨g, 0, none⟩) n n) (List.replicate n 0) := by
  refine ⟨some ⟨g, 0, none⟩, n, by rw [List.length_replicate], .inr ⟨g, 0, rfl, fun j y hy => ?_⟩, by rw [List.length_replicate]; exact Nat.le_refl _, by rw [List.length_replicate]; unfold maxLen; omega⟩
  have hj : j < n := by
    rcases Nat.lt_or_ge j n with h | h
    · exact h
    · rw [List.getElem?_eq_none (by simpa using h)] at hy; cases hy
  rw [List.getElem?_replicate, if_pos hj] at hy
  cases hy
  refine ⟨?_, by unfold b64; omega⟩
  rw [Nat.zero_add, Nat.mul_one, hcell h j, ← Array.getElem?_toList, hc, List.getElem?_replicate, if_pos hj]
set_option maxRecDepth 20000 in
set_option maxHeartbeats 4000000 in
theorem codeLong_in (n : Nat) (hn : n ≤ 21000) (w : World) (hg : Glob w) : Calls Tryd.prog 5 #[.int .i64 (n : Int)] w fun e w' => e = .returned (.bool true) ∧ Keeps [] w w' := by
  have HG := hid hg
  have HB := hid (begun_any w hg)
  have hn0 : ¬ (n : Int) < 0 := by omega
  have hn1 : ¬ (21000 : Int) < (n : Int) := by omega
  have hn2 : (0 : Int) ≤ (n : Int) := by omega
  have HPL : Box ((prE (prN (List.replicate n 0))).length ≤ 300000) := hid (by
    have h1 := prN_len (List.replicate n 0)
    have h2 := flat_le (l := List.replicate n 0) (fun x hx => by rw [List.eq_of_mem_replicate hx]; unfold b64; omega)
    have h3 := numE_len (n := ((List.replicate n (0 : Int)).length : Int)) (by rw [List.length_replicate]; unfold b64; omega)
    rw [List.length_replicate] at *
    omega)
  clear hg
  go_enter Tryd.func5, Tryd.ntmps5
  go_wp2_with fail
  refine HB.out.mono ?_
  rintro e w1 ⟨rfl, k1⟩
  obtain ⟨cur, hcur, hmk⟩ := mk_ints n hn w1
  obtain ⟨w2, e2⟩ : ∃ w2, w2 = w1.alloc (.cells cur 3) := ⟨_, rfl⟩
  obtain ⟨w3, e3⟩ : ∃ w3, w3 = w2.alloc (.cells #[.slice (some ⟨w1.heap.size, 0, none⟩) n n] 39) := ⟨_, rfl⟩
  obtain ⟨w4, e4⟩ : ∃ w4, w4 = w3.alloc (.cells #[.slice none 0 0, .slice none 0 0, .slice (some ⟨w1.heap.size + 1, 0, none⟩) 1 1, .slice none 0 0, .slice none 0 0, .int .i64 0] 46) := ⟨_, rfl⟩
  have s2 : w2.heap.size = w1.heap.size + 1 := by rw [e2, World.size_alloc]
  have s3 : w3.heap.size = w1.heap.size + 1 + 1 := by rw [e3, World.size_alloc, s2]
  have k2 : Keeps [] w1 w2 := by rw [e2]; exact Keeps.alloc _ _ _
  have k3 : Keeps [] w2 w3 := by rw [e3]; exact Keeps.alloc _ _ _
  have k4 : Keeps [] w3 w4 := by rw [e4]; exact Keeps.alloc _ _ _
  have h0 := keep_heap (show w2.heap[w1.heap.size]? = some _ by rw [e2]; exact heap_new _ _) (k3.quiet k4)
  have h1 := keep_heap (show w3.heap[w1.heap.size + 1]? = some _ by rw [e3, ← s2]; exact heap_new _ _) k4
  have h2 := (show w4.heap[w1.heap.size + 1 + 1]? = some _ by rw [e4, ← s3]; exact heap_new _ _)
  have hz := zeros_ints h0 hcur hn
  have HP := hid (prcN (l := List.replicate n 0) (by rw [List.length_replicate]) (by rw [List.length_replicate]; exact hz) h1 h2)
  have K4 := hid (((k1.quiet k2).quiet k3).quiet k4)
  have HE : Box (w4 = ((w1.alloc (.cells cur 3)).alloc (.cells #[.slice (some ⟨w1.heap.size, 0, none⟩) n n] 39)).alloc (.cells #[.slice none 0 0, .slice none 0 0, .slice (some ⟨w1.heap.size + 1, 0, none⟩) 1 1, .slice none 0 0, .slice none 0 0, .int .i64 0] 46)) := hid (by rw [e4, e3, e2])
  have HC := hid (encode_any HP.out)
  clear h0 h1 h2 k1 k2 k3 k4 s2 s3 e2 e3 e4 hcur hz HB hn
  go_wp2_with fail
  rw [← HE.out]
  clear HE hmk
  generalize w1.heap.size + 1 + 1 = q at *
  refine HC.out.mono ?_
  intro e w5 h5
  have HFE := hid fun (w' : World) (k : Keeps [] w4 w') => fe_any (PrC.stays _ _ _ _ _ k HP.out) (by have := HPL.out; omega)
  by_cases hl : (prE (prN (List.replicate n 0))).length ≤ 20000
  · obtain ⟨a, cp, rfl, hb, hcp, k5⟩ := enc_good hl h5
    have HBY := hid hb
    have HCP := hid hcp
    have K5 := hid k5
    clear HC h5 hb hcp k5
    obtain ⟨m, hm⟩ : ∃ m, m = (prE (prN (List.replicate n 0))).length := ⟨_, rfl⟩
    have HM := hid hm
    rw [← hm]
    have hm1 : ¬ (20000 : Int) < (m : Int) := by omega
    clear hm
    go_wp2_with fail
    refine (HFE.out _ K5.out).mono ?_
    rintro e w6 ⟨v6, rfl, a6, c6, rfl, _, _, k6⟩
    have HD := hid (decode_any (HBY.out.quiet k6) HCP.out (by omega))
    have K6 := hid (K5.out.quiet k6)
    rw [← HM.out] at HD
    rw [← HM.out]
    clear k6 HFE HBY
    go_wp2_with fail
    refine HD.out.mono ?_
    intro e w7 h7
    obtain ⟨qb, rfl, hq, k7⟩ := dec_good HP.out.ok hl h7
    obtain ⟨ia, icp, f1, fr, _⟩ := hq.c2
    obtain ⟨ib, io, rfl, hi⟩ := fr.at (j := 0) (y := List.replicate n 0) rfl
    obtain ⟨ja, jcp, f2, _⟩ := hi
    have K7 := hid (K4.out.quiet (K6.out.quiet k7))
    rw [show (prN (List.replicate n 0)).ifs.length = 1 from rfl, Nat.zero_add] at f1
    rw [List.length_replicate, Nat.zero_mul, Nat.add_zero] at f2
    clear HD h7 hq k7 fr hl
    go_wp2_with fail
    go_ret
    exact ⟨rfl, K7.out⟩
  · obtain ⟨p, rfl, r5, k5⟩ := enc_bad (by omega) h5
    have R5 := hid r5
    have K5 := hid k5
    clear HC h5 r5 k5
    have HL9 : Box (20000 < (prE (prN (List.replicate n 0))).length) := hid (by omega)
    obtain ⟨m, hm⟩ : ∃ m, m = (prE (prN (List.replicate n 0))).length := ⟨_, rfl⟩
    have HM := hid hm
    have hm1 : (20000 : Int) < (m : Int) := by omega
    clear hm hl
    go_wp2_with fail
    refine (HFE.out _ K5.out).mono ?_
    rintro e w6 ⟨v6, rfl, a6, c6, rfl, _, _, k6⟩
    have K6 := hid (K5.out.quiet k6)
    have R6 := hid (keep_heap R5.out k6)
    rw [← HM.out]
    clear k6 R5
    go_wp2_with fail
    refine (HFE.out _ K6.out).mono ?_
    rintro e w7 ⟨v7, rfl, a7, c7, rfl, B7, C7, k7⟩
    have HD := hid (decode_any B7 C7 (by have := HPL.out; omega))
    have K7 := hid (K6.out.quiet k7)
    have R7 := hid (keep_heap R6.out k7)
    rw [← HM.out] at HD
    rw [← HM.out]
    clear k7 R6 HFE B7 C7
    go_wp2_with fail
    refine HD.out.mono ?_
    intro e w8 h8
    obtain ⟨p8, rfl, r8, k8⟩ := dec_long HL9.out h8
    have K8 := hid (K4.out.quiet (K7.out.quiet k8))
    have R7b := keep_heap R7.out k8
    have HW1 := hid (why_ref p w8 (HG.out.quiet K8.out) R7b)
    have R8 := hid r8
    clear HD h8 r8 k8 R7 R7b
    go_wp2_with fail
    refine HW1.out.mono ?_
    rintro e w9 ⟨rfl, k9⟩
    have HW2 := hid (why_ref p8 w9 (HG.out.quiet (K8.out.quiet k9)) (keep_heap R8.out k9))
    have K9 := hid (K8.out.quiet k9)
    clear HW1 k9 R8
    go_wp2_with fail
    refine HW2.out.mono ?_
    rintro e w10 ⟨rfl, k10⟩
    go_wp2_with fail
    go_ret
    exact ⟨rfl, K9.out.quiet k10⟩
theorem codeLong_walk (n : Int) (w : World) (hg : Glob w) (_ : b64 n) : Calls Tryd.prog 5 #[.int .i64 n] w fun e w' => e = .returned (.bool true) ∧ Keeps [] w w' := by
  by_cases h : 0 ≤ n ∧ n ≤ 21000
  · obtain ⟨m, rfl⟩ := Int.eq_ofNat_of_zero_le h.1
    exact codeLong_in m (by omega) w hg
  · have HB := hid (begun_any w hg)
    by_cases h0 : n < 0
    · clear hg h
      go_enter Tryd.func5, Tryd.ntmps5
      go_wp2_with fail
      refine HB.out.mono ?_
      rintro e w1 ⟨rfl, k1⟩
      go_wp2_with fail
      go_ret
      exact ⟨rfl, k1⟩
    · have h1 : 21000 < n := by omega
      clear hg h
      go_enter Tryd.func5, Tryd.ntmps5
      go_wp2_with fail
      refine HB.out.mono ?_
      rintro e w1 ⟨rfl, k1⟩
      go_wp2_with fail
      go_ret
      exact ⟨rfl, k1⟩
end Go.Proofs.YtmipbaihlodmdaaDoor
