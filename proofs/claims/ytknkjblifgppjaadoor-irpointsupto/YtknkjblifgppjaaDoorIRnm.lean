/-
  The document's own number of a point.
-/
import Derived.Test.YtknkjblifgppjaaDoorIRpt
namespace Go.Proofs.YtknkjblifgppjaaDoor
open Go.RowKit

theorem num8_hit {P : Pr8} {n f b i : Nat} (h : (pts P)[n]? = some (f, b, i)) : num8 P f b i = (n : Int) := by
  obtain ⟨⟨h1, h2, h3⟩, e⟩ := pts_pos h
  unfold num8
  rw [if_pos ⟨by omega, by omega, by omega, by simpa using h2⟩, if_pos ⟨by omega, by simpa using h3⟩, e]
  simp
theorem num8_miss {P : Pr8} {F B I : Int} (h : ∀ n f b i : Nat, (pts P)[n]? = some (f, b, i) → ¬ ((f : Int) = F ∧ (b : Int) = B ∧ (i : Int) = I)) : num8 P F B I = -1 := by
  unfold num8
  by_cases hb : IsBk P F B
  · rw [if_pos hb]
    by_cases hi : 0 ≤ I ∧ I ≤ ((blk8 (fun8 P F.toNat) B.toNat).code.length : Int)
    · exfalso
      obtain ⟨h1, h2, h3, h4⟩ := hb
      have hp : IsPt P F.toNat B.toNat I.toNat := ⟨by omega, by omega, by omega⟩
      exact h _ _ _ _ (pts_at hp) ⟨by omega, by omega, by omega⟩
    · rw [if_neg hi]
  · rw [if_neg hb]

set_option maxRecDepth 20000 in
set_option maxHeartbeats 8000000 in
theorem rnumber_any {w : World} {pb po : Nat} {P : Pr8} (h : PrC w pb po P) (hs : Sm8 P) (F B I : Int) : Calls Tryd.prog 14 #[.pointer (some ⟨pb, po, none⟩), ptV F B I] w fun e w' => e = .returned (.int .i64 (num8 P F B I)) ∧ Keeps [] w w' := by
  have ka := Keeps.alloc [] w (.cells #[.int .i64 F, .int .i64 B, .int .i64 I] 24)
  have hq := hid (heap_new w (.cells #[.int .i64 F, .int .i64 B, .int .i64 I] 24))
  have HP := hid (rpoints_any (PrC.stays _ _ _ _ _ ka h) hs)
  have h150 := hs.pt
  have KA := hid ka
  unfold ptV
  clear h hs ka
  go_enter Tryd.func14, Tryd.ntmps14
  go_wp2_with fail
  generalize w.alloc (.cells #[.int .i64 F, .int .i64 B, .int .i64 I] 24) = W at *
  generalize w.heap.size = q at *
  refine HP.out.mono ?_
  rintro e w1 ⟨pa, pcp, rfl, hrows, k1⟩
  have HRW := hid hrows
  have HQ := hid (keep_heap hq.out k1)
  have K1 := hid (KA.out.quiet k1)
  clear hrows k1 HP hq
  obtain ⟨L, hL⟩ : ∃ L, L = (pts P).length := ⟨_, rfl⟩
  have HL := hid hL
  rw [← hL] at h150 ⊢
  clear hL
  go_wp2_with fail
  go_loopw [6] (fun iv wr => ∃ i : Nat, i ≤ L ∧ iv = .int .i64 (i : Int) ∧ Box (Keeps [] w1 wr) ∧ Box (∀ n, n < i → ∀ f b j, (pts P)[n]? = some (f, b, j) → ¬ ((f : Int) = F ∧ (b : Int) = B ∧ (j : Int) = I))) (fun iv _ => L - (intOf iv).toNat)
  case atStart => exact ⟨0, by omega, rfl, hid (Keeps.refl _ _), hid (fun n hn => by omega)⟩
  case round =>
    obtain ⟨i, hi, rfl, HK, HM⟩ := hrel
    by_cases hlt : i < L
    · have hlt' : (i : Int) < (L : Int) := by omega
      obtain ⟨f, b, j, hpt, hget⟩ := pts_back (p := P) (n := i) (by rw [← HL.out]; exact hlt)
      obtain ⟨qb, qo, hpa, r1⟩ := HRW.out.at hget
      subst hpa
      have s := PtC.stays _ _ _ _ _ HK.out r1
      have c0 : wr.cell? ⟨qb, qo + i * 3, none⟩ = some (.int .i64 (f : Int)) := s.c0
      have c1 : wr.cell? ⟨qb, qo + i * 3 + 1, none⟩ = some (.int .i64 (b : Int)) := s.c1
      have c2 : wr.cell? ⟨qb, qo + i * 3 + 2, none⟩ = some (.int .i64 (j : Int)) := s.c2
      have hz := keep_heap HQ.out HK.out
      have p0 : wr.cell? ⟨q, 0, none⟩ = some (.int .i64 F) := hcell hz 0
      have p1 : wr.cell? ⟨q, 1, none⟩ = some (.int .i64 B) := hcell hz 1
      have p2 : wr.cell? ⟨q, 2, none⟩ = some (.int .i64 I) := hcell hz 2
      have HIT := hid (fun (h : (f : Int) = F ∧ (b : Int) = B ∧ (j : Int) = I) => (show num8 P F B I = (i : Int) by rw [← h.1, ← h.2.1, ← h.2.2]; exact num8_hit hget))
      have NXT := hid (fun (h : ¬ ((f : Int) = F ∧ (b : Int) = B ∧ (j : Int) = I)) => (show ∀ n, n < i + 1 → ∀ f b j, (pts P)[n]? = some (f, b, j) → ¬ ((f : Int) = F ∧ (b : Int) = B ∧ (j : Int) = I) from fun n hn f' b' j' hg => by
        by_cases e : n < i
        · exact HM.out n e f' b' j' hg
        · obtain rfl : n = i := by omega
          rw [hget] at hg
          cases hg
          exact h))
      clear hget r1 s hz HM hpt
      generalize (f : Int) = fI at *
      generalize (b : Int) = bI at *
      generalize (j : Int) = jI at *
      by_cases x0 : fI = F
      case neg =>
        have NX := hid (NXT.out (fun h => x0 h.1))
        have o0 : (fI == F) = false := by simpa using x0
        clear x0 HIT NXT
        go_wp2_with fail
        go_region
        go_wp2_with fail
        go_roundw
        case rel => exact ⟨i + 1, by omega, by go_num, hid (HK.out.quiet (Keeps.drew [] _)), NX⟩
        case measure => simp [intOf]; omega
      by_cases x1 : bI = B
      case neg =>
        have NX := hid (NXT.out (fun h => x1 h.2.1))
        have o0 : (fI == F) = true := by simpa using x0
        have o1 : (bI == B) = false := by simpa using x1
        clear x0 x1 HIT NXT
        go_wp2_with fail
        go_region
        go_wp2_with fail
        go_roundw
        case rel => exact ⟨i + 1, by omega, by go_num, hid (HK.out.quiet (Keeps.drew [] _)), NX⟩
        case measure => simp [intOf]; omega
      by_cases x2 : jI = I
      case neg =>
        have NX := hid (NXT.out (fun h => x2 h.2.2))
        have o0 : (fI == F) = true := by simpa using x0
        have o1 : (bI == B) = true := by simpa using x1
        have o2 : (jI == I) = false := by simpa using x2
        clear x0 x1 x2 HIT NXT
        go_wp2_with fail
        go_region
        go_wp2_with fail
        go_roundw
        case rel => exact ⟨i + 1, by omega, by go_num, hid (HK.out.quiet (Keeps.drew [] _)), NX⟩
        case measure => simp [intOf]; omega
      have NH := hid (HIT.out ⟨x0, x1, x2⟩)
      have o0 : (fI == F) = true := by simpa using x0
      have o1 : (bI == B) = true := by simpa using x1
      have o2 : (jI == I) = true := by simpa using x2
      clear x0 x1 x2 HIT NXT
      go_wp2_with fail
      go_region
      go_wp2_with fail
      go_ret
      exact ⟨by rw [NH.out]; rfl, (K1.out.quiet HK.out).quiet (Keeps.drew [] _)⟩
    · obtain rfl : i = L := by omega
      have NH : Box (num8 P F B I = -1) := hid (num8_miss fun n f b j hg => HM.out n (by rw [HL.out]; exact (List.getElem?_eq_some_iff.1 hg).1) f b j hg)
      go_wp2_with fail
      go_ret
      exact ⟨by rw [NH.out]; rfl, K1.out.quiet HK.out⟩
end Go.Proofs.YtknkjblifgppjaaDoor
