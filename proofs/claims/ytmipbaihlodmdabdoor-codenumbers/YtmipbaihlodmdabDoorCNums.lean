/-
  CodeNumbers: any number stands in a program and comes back.
-/
import Derived.Test.YtmipbaihlodmdabDoorCLong
import Derived.Deep.QuietTactic
namespace Go.Proofs.YtmipbaihlodmdabDoor
open Go.RowKit

theorem RowsAt.all {w : World} {a : Option Addr} {l : List Int} (h : RowsAt w 1 IntC a l) : ∀ x, x ∈ l → b64 x := by
  intro x hx
  obtain ⟨i, hi, e⟩ := List.getElem_of_mem hx
  obtain ⟨_, _, _, h9⟩ := h.at (j := i) (y := x) (by rw [List.getElem?_eq_getElem hi, e])
  exact h9.2
theorem RowsAt.take {w : World} {a : Option Addr} {l : List Int} (h : RowsAt w 1 IntC a l) (n : Nat) : RowsAt w 1 IntC a (l.take n) := by
  rcases h with h | ⟨b, off, h1, h2⟩
  · exact .inl (by rw [h]; simp)
  · refine .inr ⟨b, off, h1, fun j y hy => h2 j y ?_⟩
    rw [List.getElem?_take] at hy
    split at hy
    · exact hy
    · cases hy
set_option maxRecDepth 20000 in
set_option maxHeartbeats 4000000 in
theorem codeNumbers_walk (a : Option Addr) (cp : Nat) (l : List Int) (w : World) (hg : Glob w) (hr : RowsAt w 1 IntC a l) (hc : l.length ≤ cp) (hm : l.length ≤ maxLen) : Calls Tryd.prog 3 #[.slice a l.length cp] w fun e w' => e = .returned (.bool true) ∧ Keeps [] w w' := by
  have HG := hid hg
  have HB := hid (begun_any w hg)
  obtain ⟨n, hn⟩ : ∃ n, n = l.length := ⟨_, rfl⟩
  rw [← hn] at hc hm ⊢
  have hn1 : (n : Int) ≤ 9223372036854775807 := by unfold maxLen at hm; omega
  by_cases h9 : 100 < n
  · have h9' : (100 : Int) < (n : Int) := by omega
    obtain ⟨L, hL⟩ : ∃ L, L = l.take 100 := ⟨_, rfl⟩
    have hR : RowsAt w 1 IntC a L := by rw [hL]; exact hr.take 100
    have hB64 := hR.all
    have hlen : L.length = 100 := by rw [hL, List.length_take]; omega
    have hlen2 : L.length ≤ 100 := by omega
    clear hg hr hm hL hn
    go_enter Tryd.func3, Tryd.ntmps3
    go_wp2_with fail
    refine HB.out.mono ?_
    rintro e w1 ⟨rfl, k1⟩
    go_upto_region 6 with fail
    rw [show (100 : Nat) = L.length from hlen.symm]
    have HR1 := hid (hR.quiet IntC.stays k1)
    obtain ⟨m, hm9⟩ : ∃ m, m = L.length := ⟨_, rfl⟩
    have HM := hid hm9
    have hm2 : (m : Int) ≤ 100 := by omega
    rw [← hm9]
    obtain ⟨w2, e2⟩ : ∃ w2, w2 = w1.alloc (.cells #[.slice a m cp] 26) := ⟨_, rfl⟩
    obtain ⟨w3, e3⟩ : ∃ w3, w3 = w2.alloc (.cells #[.slice none 0 0, .slice none 0 0, .slice (some ⟨w1.heap.size, 0, none⟩) 1 1, .slice none 0 0, .slice none 0 0, .int .i64 0] 33) := ⟨_, rfl⟩
    have s2 : w2.heap.size = w1.heap.size + 1 := by rw [e2, World.size_alloc]
    have k2 : Keeps [] w1 w2 := by rw [e2]; exact Keeps.alloc _ _ _
    have k3 : Keeps [] w2 w3 := by rw [e3]; exact Keeps.alloc _ _ _
    have h1 := keep_heap (show w2.heap[w1.heap.size]? = some _ by rw [e2]; exact heap_new _ _) k3
    have h2 := (show w3.heap[w1.heap.size + 1]? = some _ by rw [e3, ← s2]; exact heap_new _ _)
    have HP := hid (prcN (l := L) hm9 ⟨a, cp, rfl, HR1.out.quiet IntC.stays (k2.quiet k3), by omega, by unfold maxLen; omega⟩ h1 h2)
    have K3 := hid ((k1.quiet k2).quiet k3)
    have HE : Box (w3 = (w1.alloc (.cells #[.slice a m cp] 26)).alloc (.cells #[.slice none 0 0, .slice none 0 0, .slice (some ⟨w1.heap.size, 0, none⟩) 1 1, .slice none 0 0, .slice none 0 0, .int .i64 0] 33)) := hid (by rw [e3, e2])
    have HPL : Box ((prE (prN L)).length ≤ 20000) := hid (by
      have g1 := prN_len L
      have g2 := flat_le (l := L) hB64
      have g3 := numE_len (n := (L.length : Int)) (by unfold b64; omega)
      omega)
    have HC := hid (encode_any HP.out)
    have HRA := hid hR
    clear h1 h2 k1 k2 k3 s2 e2 e3 HB HR1 hB64 hR hm9
    go_wp2_with fail
    rw [← HE.out]
    clear HE
    generalize w1.heap.size + 1 = q at *
    refine HC.out.mono ?_
    intro e w4 h4
    obtain ⟨a4, c4, rfl, B4, C4, k4⟩ := enc_good HPL.out h4
    have HD := hid (decode_any B4 C4 (by have := HPL.out; omega))
    have K4 := hid (K3.out.quiet k4)
    generalize hn9 : (prE (prN L)).length = n9 at HD ⊢
    clear HC h4 B4 C4 k4 hn9
    go_wp2_with fail
    refine HD.out.mono ?_
    intro e w5 h5
    obtain ⟨qb, rfl, hq, k5⟩ := dec_good HP.out.ok HPL.out h5
    obtain ⟨ia, icp, f1, fr, _⟩ := hq.c2
    obtain ⟨ib, io, rfl, hi⟩ := fr.at (j := 0) (y := L) rfl
    obtain ⟨ja, jcp, f2, jr, _⟩ := hi
    have HJ := hid jr
    have K5 := hid (K4.out.quiet k5)
    have HRB := hid (HRA.out.quiet IntC.stays K5.out)
    rw [show (prN L).ifs.length = 1 from rfl, Nat.zero_add] at f1
    rw [← HM.out, Nat.zero_mul, Nat.add_zero] at f2
    clear HD h5 hq k5 fr jr HRA K4 K3 HP
    have HF1 := hid f1
    have HF2 := hid f2
    go_wp2_with fail
    clear f1 f2
    go_loopw [9] (fun iv wr => ∃ k : Nat, k ≤ m ∧ iv = .int .i64 (k : Int) ∧ Box (Keeps [] w5 wr)) (fun iv _ => m - (intOf iv).toNat)
    case atStart => exact ⟨0, by omega, rfl, hid (Keeps.refl _ _)⟩
    case round =>
      obtain ⟨k, hk, rfl, HK⟩ := hrel
      have f1 := cell_stays HK.out HF1.out
      have f2 := cell_stays HK.out HF2.out
      by_cases hlt : k < m
      · have hlt' : (k : Int) < (m : Int) := by omega
        have hk0 : (0 : Int) ≤ (k : Int) := by omega
        obtain ⟨y, hy⟩ : ∃ y, L[k]? = some y := ⟨_, List.getElem?_eq_getElem (by rw [← HM.out]; exact hlt)⟩
        obtain ⟨jb, jo, rfl, hc1⟩ := HJ.out.at hy
        obtain ⟨b, off, rfl, hc2⟩ := HRB.out.at hy
        rw [Nat.mul_one] at hc1 hc2
        have d1 := cell_stays HK.out hc1.1
        have d2 := cell_stays HK.out hc2.1
        clear hc1 hc2 hy
        go_wp2_with fail
        go_quiet (fail)
        go_wp2_with fail
        go_roundw
        case rel => exact ⟨k + 1, by omega, by go_num, hid (HK.out.quiet (Keeps.drewN _ _ _))⟩
        case measure => simp [intOf]; omega
      · obtain rfl : k = m := by omega
        go_wp2_with fail
        go_ret
        exact ⟨rfl, K5.out.quiet HK.out⟩
  · have h9' : ¬ (100 : Int) < (n : Int) := by omega
    obtain ⟨L, hL⟩ : ∃ L, L = l := ⟨_, rfl⟩
    rw [← hL] at hr hn
    have hR := hr
    have hB64 := hR.all
    have hlen2 : L.length ≤ 100 := by omega
    have hlen : L.length = n := hn.symm
    clear hg hr hm hL hn
    go_enter Tryd.func3, Tryd.ntmps3
    go_wp2_with fail
    refine HB.out.mono ?_
    rintro e w1 ⟨rfl, k1⟩
    go_upto_region 6 with fail
    rw [show n = L.length from hlen.symm]
    have HR1 := hid (hR.quiet IntC.stays k1)
    obtain ⟨m, hm9⟩ : ∃ m, m = L.length := ⟨_, rfl⟩
    have HM := hid hm9
    have hm2 : (m : Int) ≤ 100 := by omega
    rw [← hm9]
    obtain ⟨w2, e2⟩ : ∃ w2, w2 = w1.alloc (.cells #[.slice a m cp] 26) := ⟨_, rfl⟩
    obtain ⟨w3, e3⟩ : ∃ w3, w3 = w2.alloc (.cells #[.slice none 0 0, .slice none 0 0, .slice (some ⟨w1.heap.size, 0, none⟩) 1 1, .slice none 0 0, .slice none 0 0, .int .i64 0] 33) := ⟨_, rfl⟩
    have s2 : w2.heap.size = w1.heap.size + 1 := by rw [e2, World.size_alloc]
    have k2 : Keeps [] w1 w2 := by rw [e2]; exact Keeps.alloc _ _ _
    have k3 : Keeps [] w2 w3 := by rw [e3]; exact Keeps.alloc _ _ _
    have h1 := keep_heap (show w2.heap[w1.heap.size]? = some _ by rw [e2]; exact heap_new _ _) k3
    have h2 := (show w3.heap[w1.heap.size + 1]? = some _ by rw [e3, ← s2]; exact heap_new _ _)
    have HP := hid (prcN (l := L) hm9 ⟨a, cp, rfl, HR1.out.quiet IntC.stays (k2.quiet k3), by omega, by unfold maxLen; omega⟩ h1 h2)
    have K3 := hid ((k1.quiet k2).quiet k3)
    have HE : Box (w3 = (w1.alloc (.cells #[.slice a m cp] 26)).alloc (.cells #[.slice none 0 0, .slice none 0 0, .slice (some ⟨w1.heap.size, 0, none⟩) 1 1, .slice none 0 0, .slice none 0 0, .int .i64 0] 33)) := hid (by rw [e3, e2])
    have HPL : Box ((prE (prN L)).length ≤ 20000) := hid (by
      have g1 := prN_len L
      have g2 := flat_le (l := L) hB64
      have g3 := numE_len (n := (L.length : Int)) (by unfold b64; omega)
      omega)
    have HC := hid (encode_any HP.out)
    have HRA := hid hR
    clear h1 h2 k1 k2 k3 s2 e2 e3 HB HR1 hB64 hR hm9
    go_wp2_with fail
    rw [← HE.out]
    clear HE
    generalize w1.heap.size + 1 = q at *
    refine HC.out.mono ?_
    intro e w4 h4
    obtain ⟨a4, c4, rfl, B4, C4, k4⟩ := enc_good HPL.out h4
    have HD := hid (decode_any B4 C4 (by have := HPL.out; omega))
    have K4 := hid (K3.out.quiet k4)
    generalize hn9 : (prE (prN L)).length = n9 at HD ⊢
    clear HC h4 B4 C4 k4 hn9
    go_wp2_with fail
    refine HD.out.mono ?_
    intro e w5 h5
    obtain ⟨qb, rfl, hq, k5⟩ := dec_good HP.out.ok HPL.out h5
    obtain ⟨ia, icp, f1, fr, _⟩ := hq.c2
    obtain ⟨ib, io, rfl, hi⟩ := fr.at (j := 0) (y := L) rfl
    obtain ⟨ja, jcp, f2, jr, _⟩ := hi
    have HJ := hid jr
    have K5 := hid (K4.out.quiet k5)
    have HRB := hid (HRA.out.quiet IntC.stays K5.out)
    rw [show (prN L).ifs.length = 1 from rfl, Nat.zero_add] at f1
    rw [← HM.out, Nat.zero_mul, Nat.add_zero] at f2
    clear HD h5 hq k5 fr jr HRA K4 K3 HP
    have HF1 := hid f1
    have HF2 := hid f2
    go_wp2_with fail
    clear f1 f2
    go_loopw [9] (fun iv wr => ∃ k : Nat, k ≤ m ∧ iv = .int .i64 (k : Int) ∧ Box (Keeps [] w5 wr)) (fun iv _ => m - (intOf iv).toNat)
    case atStart => exact ⟨0, by omega, rfl, hid (Keeps.refl _ _)⟩
    case round =>
      obtain ⟨k, hk, rfl, HK⟩ := hrel
      have f1 := cell_stays HK.out HF1.out
      have f2 := cell_stays HK.out HF2.out
      by_cases hlt : k < m
      · have hlt' : (k : Int) < (m : Int) := by omega
        have hk0 : (0 : Int) ≤ (k : Int) := by omega
        obtain ⟨y, hy⟩ : ∃ y, L[k]? = some y := ⟨_, List.getElem?_eq_getElem (by rw [← HM.out]; exact hlt)⟩
        obtain ⟨jb, jo, rfl, hc1⟩ := HJ.out.at hy
        obtain ⟨b, off, rfl, hc2⟩ := HRB.out.at hy
        rw [Nat.mul_one] at hc1 hc2
        have d1 := cell_stays HK.out hc1.1
        have d2 := cell_stays HK.out hc2.1
        clear hc1 hc2 hy
        go_wp2_with fail
        go_quiet (fail)
        go_wp2_with fail
        go_roundw
        case rel => exact ⟨k + 1, by omega, by go_num, hid (HK.out.quiet (Keeps.drewN _ _ _))⟩
        case measure => simp [intOf]; omega
      · obtain rfl : k = m := by omega
        go_wp2_with fail
        go_ret
        exact ⟨rfl, K5.out.quiet HK.out⟩
end Go.Proofs.YtmipbaihlodmdabDoor
