/-
  Contracts: the documents' own Eq of two slices.
-/
import Derived.Test.YtknkjblifgppjaaDoorGTy
namespace Go.Proofs.YtknkjblifgppjaaDoor
open Go.RowKit

set_option maxHeartbeats 400000 in
theorem eq_diff (v1 v2 : Option Addr) (n1 n2 c1 c2 : Nat) (w : World) (h : n1 ≠ n2) :
    Calls Tryd.prog 18 #[.slice v1 n1 c1, .slice v2 n2 c2] w fun e w' => e = .returned (.bool false) ∧ w' = w := by
  have hb : ((n1 : Int) != (n2 : Int)) = true := by rw [bne_iff_ne]; omega
  have H := hid h
  clear h
  go_enter Tryd.func18, Tryd.ntmps18
  go_wp2
  go_ret
  exact ⟨rfl, rfl⟩

set_option maxHeartbeats 400000 in
theorem eq_empty (v1 v2 : Option Addr) (c1 c2 : Nat) (w : World) :
    Calls Tryd.prog 18 #[.slice v1 0 c1, .slice v2 0 c2] w fun e w' => e = .returned (.bool true) ∧ w' = w := by
  go_enter Tryd.func18, Tryd.ntmps18
  go_wp2
  go_loop [5] (fun i => i = .int .i64 0) (fun _ => 0)
  case atStart => rfl
  case round =>
    subst hrel
    go_wp2
    go_ret
    exact ⟨rfl, rfl⟩

theorem take_same {xs ys : List Int} {k : Nat} (h1 : k < xs.length) (h2 : k < ys.length) (h : xs.take k = ys.take k) (he : xs.getD k 0 = ys.getD k 0) : xs.take (k + 1) = ys.take (k + 1) := by
  rw [List.take_succ_eq_append_getElem h1, List.take_succ_eq_append_getElem h2, h]
  simp [List.getD, List.getElem?_eq_getElem h1, List.getElem?_eq_getElem h2] at he
  rw [he]

set_option maxHeartbeats 1000000 in
theorem eq_raw (b1 o1 b2 o2 n c1 c2 : Nat) (xs ys : List Int) (w : World) (hx : xs.length = n) (hy : ys.length = n) (hn : n ≤ 1000000)
    (g1 : ∀ i, i < n → w.cell? ⟨b1, o1 + i, none⟩ = some (.int .i64 (xs.getD i 0))) (g2 : ∀ i, i < n → w.cell? ⟨b2, o2 + i, none⟩ = some (.int .i64 (ys.getD i 0))) :
    Calls Tryd.prog 18 #[.slice (some ⟨b1, o1, none⟩) n c1, .slice (some ⟨b2, o2, none⟩) n c2] w fun e w' => e = .returned (.bool (decide (xs = ys))) ∧ ∃ m, w' = w.drewN m := by
  have HX := hid hx
  have HY := hid hy
  have G1 := hid g1
  have G2 := hid g2
  clear hx hy g1 g2
  have hb : ((n : Int) != (n : Int)) = false := by simp
  go_enter Tryd.func18, Tryd.ntmps18
  go_wp2
  go_loopw [5] (fun i wr => ∃ k m : Nat, k ≤ n ∧ i = .int .i64 k ∧ wr = w.drewN m ∧ Box (xs.take k = ys.take k)) (fun i _ => n - (intOf i).toNat)
  case atStart => exact ⟨0, 0, by omega, rfl, rfl, hid rfl⟩
  case round =>
    obtain ⟨k, m, hk, rfl, rfl, ht⟩ := hrel
    by_cases hlt : k < n
    · have e1 := G1.out k hlt
      have e2 := G2.out k hlt
      have hlt' : (k : Int) < (n : Int) := by omega
      by_cases heq : xs.getD k 0 = ys.getD k 0
      · have hs := hid (take_same (by rw [HX.out]; exact hlt) (by rw [HY.out]; exact hlt) ht.out heq)
        rw [heq] at e1
        clear heq
        generalize ys.getD k 0 = y at e1 e2
        have hbe : (y != y) = false := by simp
        go_wp2
        go_quiet (fail)
        go_wp2
        go_roundw
        case rel => exact ⟨k + 1, _, by omega, by go_num, rfl, hs⟩
        case measure => simp [intOf]; omega
      · have hne : Box (xs ≠ ys) := hid fun e => heq (by rw [e])
        generalize ys.getD k 0 = y at e2 heq
        generalize xs.getD k 0 = x at e1 heq
        have hbe : (x != y) = true := by rw [bne_iff_ne]; exact heq
        clear heq
        go_wp2
        go_quiet (fail)
        go_wp2
        go_ret
        exact ⟨by rw [decide_eq_false hne.out]; rfl, _, World.drewN_drewN _ _ _⟩
    · obtain rfl : k = n := by omega
      have hxy : Box (xs = ys) := hid (by
        have := ht.out
        rw [List.take_of_length_le (by rw [HX.out]; omega), List.take_of_length_le (by rw [HY.out]; omega)] at this
        exact this)
      go_wp2
      go_ret
      exact ⟨by rw [decide_eq_true hxy.out]; rfl, _, rfl⟩

/-- Eq of two slices: are the numbers the same? -/
theorem eq_any (v1 v2 : Option Addr) (c1 c2 : Nat) (xs ys : List Int) (w : World) (h1 : IntsAt w v1 xs) (h2 : IntsAt w v2 ys) (l2 : ys.length ≤ 1000000) :
    Calls Tryd.prog 18 #[.slice v1 xs.length c1, .slice v2 ys.length c2] w fun e w' => e = .returned (.bool (decide (xs = ys))) ∧ ∃ m, w' = w.drewN m := by
  by_cases hlen : xs.length = ys.length
  · by_cases h0 : xs.length = 0
    · have ex : xs = [] := List.eq_nil_of_length_eq_zero h0
      have ey : ys = [] := List.eq_nil_of_length_eq_zero (by omega)
      subst ex ey
      exact (eq_empty v1 v2 c1 c2 w).mono fun e w' ⟨he, hw⟩ => ⟨by rw [he]; rfl, 0, hw⟩
    · rcases h1 with rfl | ⟨b1, o1, rfl, g1⟩
      · simp at h0
      · rcases h2 with rfl | ⟨b2, o2, rfl, g2⟩
        · simp at hlen; simp [hlen] at h0
        · have h := eq_raw b1 o1 b2 o2 ys.length c1 c2 xs ys w hlen rfl l2 (fun i hi => g1 i (by omega)) g2
          rw [hlen]
          exact h
  · refine (eq_diff v1 v2 _ _ c1 c2 w hlen).mono fun e w' ⟨he, hw⟩ => ⟨?_, 0, hw⟩
    rw [he, decide_eq_false (fun e => hlen (by rw [e]))]

/-- A row that the call has made, read as numbers. -/
theorem ownsRow_ints {w : World} {base : Nat} {v : Value} {l : List Nat} (h : w.ownsRow base 3 1 v l.length (ints l)) : ∃ a cap, v = .slice a l.length cap ∧ IntsAt w a (l.map fun n : Nat => (n : Int)) ∧ (∀ b off, a = some ⟨b, off, none⟩ → base ≤ b) := by
  obtain ⟨_, h2⟩ := h
  rcases h2 with ⟨rfl, h0⟩ | ⟨g, cap, cur, rfl, hg, hh, hn, _, hsz, ht⟩
  · have : l = [] := List.eq_nil_of_length_eq_zero h0
    subst this
    exact ⟨none, 0, rfl, Or.inl rfl, fun b off h => by cases h⟩
  · refine ⟨_, cap, rfl, Or.inr ⟨g, 0, rfl, fun i hi => ?_⟩, fun b off h => by cases h; exact hg⟩
    rw [List.length_map] at hi
    rw [Nat.zero_add, cell_of_row w g i cur _ _ hh]
    have e1 : cur[i]? = cur.toList[i]? := by simp
    have e2 : (cur.toList.take (l.length * 1))[i]? = cur.toList[i]? := by rw [List.getElem?_take]; simp [hi]
    rw [e1, ← e2, ht]
    simp [ints, List.getD, List.getElem?_eq_getElem hi]
end Go.Proofs.YtknkjblifgppjaaDoor
