/-
  Contract: the statements' own EqAll, over a graph's lists.
-/
import Derived.Test.YtngdnjlohmkbiaaDoorGPath
import Derived.Test.YtngdnjlohmkbiaaDoorRef
namespace Go.Proofs.YtngdnjlohmkbiaaDoor
open Go.RowKit

set_option maxHeartbeats 400000 in
theorem eqall_diff (v1 v2 : Option Addr) (n1 n2 c1 c2 : Nat) (w : World) (h : n1 ≠ n2) :
    Calls Tryd.prog 18 #[.slice v1 n1 c1, .slice v2 n2 c2] w fun e w' => e = .returned (.bool false) ∧ w' = w := by
  have hb : ((n1 : Int) != (n2 : Int)) = true := by rw [bne_iff_ne]; omega
  have H := hid h
  clear h
  go_enter Tryd.func18, Tryd.ntmps18
  go_wp2
  go_ret
  exact ⟨rfl, rfl⟩

set_option maxHeartbeats 400000 in
theorem eqall_empty (v1 v2 : Option Addr) (c1 c2 : Nat) (w : World) :
    Calls Tryd.prog 18 #[.slice v1 0 c1, .slice v2 0 c2] w fun e w' => e = .returned (.bool true) ∧ w' = w := by
  go_enter Tryd.func18, Tryd.ntmps18
  go_wp2
  go_loop [5] (fun i => i = .int .i64 0) (fun _ => 0)
  case atStart => rfl
  case round =>
    subst hrel
    go_wp2
    go_ret
    exact ⟨rfl, rfl⟩

theorem take_same' {α : Type} {xs ys : List (List α)} {k : Nat} (h1 : k < xs.length) (h2 : k < ys.length) (h : xs.take k = ys.take k) (he : xs.getD k [] = ys.getD k []) : xs.take (k + 1) = ys.take (k + 1) := by
  rw [List.take_succ_eq_append_getElem h1, List.take_succ_eq_append_getElem h2, h]
  simp [List.getD, List.getElem?_eq_getElem h1, List.getElem?_eq_getElem h2] at he
  rw [he]

set_option maxHeartbeats 1000000 in
theorem eqall_raw (b1 o1 b2 o2 n c1 c2 : Nat) (xs ys : List (List Int)) (w : World) (hx : xs.length = n) (hy : ys.length = n) (hn : n ≤ 1000000)
    (g1 : ∀ j, j < n → ∃ aj cj, w.cell? ⟨b1, o1 + j, none⟩ = some (.slice aj (xs.getD j []).length cj) ∧ IntsAt w aj (xs.getD j []))
    (g2 : ∀ j, j < n → ∃ aj cj, w.cell? ⟨b2, o2 + j, none⟩ = some (.slice aj (ys.getD j []).length cj) ∧ IntsAt w aj (ys.getD j []) ∧ (ys.getD j []).length ≤ 1000000) :
    Calls Tryd.prog 18 #[.slice (some ⟨b1, o1, none⟩) n c1, .slice (some ⟨b2, o2, none⟩) n c2] w fun e w' => e = .returned (.bool (decide (xs = ys))) ∧ ∃ m, w' = w.drewN m := by
  have HX := hid hx
  have HY := hid hy
  have G1 := hid g1
  have G2 := hid g2
  clear hx hy g1 g2
  have hb : ((n : Int) != (n : Int)) = false := by simp
  go_enter Tryd.func18, Tryd.ntmps18
  go_wp2
  go_loopw [5] (fun i wr => ∃ k m : Nat, k ≤ n ∧ i = .int .i64 k ∧ wr = w.drewN m ∧ Box (xs.take k = ys.take k)) (fun i _ => n - (intOf i).toNat)
  case atStart => exact ⟨0, 0, by omega, rfl, rfl, hid rfl⟩
  case round =>
    obtain ⟨k, m, hk, rfl, hwr, ht⟩ := hrel
    have HW := hid hwr
    by_cases hlt : k < n
    · obtain ⟨a1, d1, e1, i1⟩ := G1.out k hlt
      obtain ⟨a2, d2, e2, i2, l2⟩ := G2.out k hlt
      have hlt' : (k : Int) < (n : Int) := by omega
      have e1' : wr.cell? ⟨b1, o1 + k, none⟩ = some (.slice a1 (xs.getD k []).length d1) := by rw [hwr]; exact e1
      have e2' : wr.cell? ⟨b2, o2 + k, none⟩ = some (.slice a2 (ys.getD k []).length d2) := by rw [hwr]; exact e2
      have j1 : IntsAt wr a1 (xs.getD k []) := by rw [hwr]; exact i1.kept (Keeps.drewN [] w m) (fun _ _ _ => by simp)
      have j2 : IntsAt wr a2 (ys.getD k []) := by rw [hwr]; exact i2.kept (Keeps.drewN [] w m) (fun _ _ _ => by simp)
      have HE := hid fun (w1 : World) (h1 : Keeps [] wr w1) => eq_any a1 a2 d1 d2 (xs.getD k []) (ys.getD k []) w1 (j1.kept h1 (fun _ _ _ => by simp)) (j2.kept h1 (fun _ _ _ => by simp)) l2
      clear i1 i2 l2 j1 j2 e1 e2 hwr
      generalize (xs.getD k []).length = n1 at e1' HE
      generalize (ys.getD k []).length = n2 at e2' HE
      by_cases heq : xs.getD k [] = ys.getD k []
      · have hs := hid (take_same' (by rw [HX.out]; exact hlt) (by rw [HY.out]; exact hlt) ht.out heq)
        rw [decide_eq_true heq] at HE
        clear heq
        go_wp2
        go_quiet (first | (go_at_call 11; exact Calls.quiet_of (HE.out _ (Keeps.drewN _ _ _))))
        go_wp2
        go_roundw
        case rel => exact ⟨k + 1, _, by omega, by go_num, by rw [HW.out, World.drewN_drewN], hs⟩
        case measure => simp [intOf]; omega
      · have hne : Box (xs ≠ ys) := hid fun e => heq (by rw [e])
        rw [decide_eq_false heq] at HE
        clear heq
        go_wp2
        go_quiet (first | (go_at_call 11; exact Calls.quiet_of (HE.out _ (Keeps.drewN _ _ _))))
        go_wp2
        go_ret
        exact ⟨by rw [decide_eq_false hne.out]; rfl, _, by rw [HW.out, World.drewN_drewN]⟩
    · obtain rfl : k = n := by omega
      clear hwr
      have hxy : Box (xs = ys) := hid (by
        have := ht.out
        rw [List.take_of_length_le (by rw [HX.out]; omega), List.take_of_length_le (by rw [HY.out]; omega)] at this
        exact this)
      go_wp2
      go_ret
      exact ⟨by rw [decide_eq_true hxy.out]; rfl, _, HW.out⟩

/-- EqAll of two lists of slices: are the numbers the same? -/
theorem eqall_any (v1 v2 : Option Addr) (B1 B2 c1 c2 : Nat) (xs ys : List (List Int)) (w : World) (h1 : LsAt w B1 v1 xs) (h2 : LsAt w B2 v2 ys) (l2 : ys.length ≤ 1000000) (li : ∀ j, (ys.getD j []).length ≤ 1000000) :
    Calls Tryd.prog 18 #[.slice v1 xs.length c1, .slice v2 ys.length c2] w fun e w' => e = .returned (.bool (decide (xs = ys))) ∧ ∃ m, w' = w.drewN m := by
  by_cases hlen : xs.length = ys.length
  · by_cases h0 : xs.length = 0
    · have ex : xs = [] := List.eq_nil_of_length_eq_zero h0
      have ey : ys = [] := List.eq_nil_of_length_eq_zero (by omega)
      subst ex ey
      exact (eqall_empty v1 v2 c1 c2 w).mono fun e w' ⟨he, hw⟩ => ⟨by rw [he]; rfl, 0, hw⟩
    · rcases h1 with rfl | ⟨b1, o1, rfl, _, g1⟩
      · simp at h0
      · rcases h2 with rfl | ⟨b2, o2, rfl, _, g2⟩
        · simp at hlen; simp [hlen] at h0
        · have h := eqall_raw b1 o1 b2 o2 ys.length c1 c2 xs ys w hlen rfl l2 (fun i hi => by obtain ⟨aj, cj, q1, q2⟩ := g1 i (by omega); exact ⟨aj, cj, q1, q2.ints⟩) (fun i hi => by obtain ⟨aj, cj, q1, q2⟩ := g2 i hi; exact ⟨aj, cj, q1, q2.ints, li i⟩)
          rw [hlen]
          exact h
  · refine (eqall_diff v1 v2 _ _ c1 c2 w hlen).mono fun e w' ⟨he, hw⟩ => ⟨?_, 0, hw⟩
    rw [he, decide_eq_false (fun e => hlen (by rw [e]))]

theorem intsI_inj : ∀ {xs ys : List Nat}, intsI xs = intsI ys → xs = ys
  | [], [], _ => rfl
  | [], _ :: _, h => by cases h
  | _ :: _, [], h => by cases h
  | x :: xs, y :: ys, h => by
    have h' : (x : Int) :: intsI xs = (y : Int) :: intsI ys := h
    injection h' with h1 h2
    rw [intsI_inj h2]
    congr 1
    omega
theorem listsI_inj : ∀ {xs ys : List (List Nat)}, listsI xs = listsI ys → xs = ys
  | [], [], _ => rfl
  | [], _ :: _, h => by cases h
  | _ :: _, [], h => by cases h
  | x :: xs, y :: ys, h => by
    have h' : intsI x :: listsI xs = intsI y :: listsI ys := h
    injection h' with h1 h2
    rw [listsI_inj h2, intsI_inj h1]
/-- EqAll of lists of nodes. -/
theorem geqall_any (v1 v2 : Option Addr) (B1 B2 c1 c2 : Nat) (xs ys : List (List Nat)) (w : World) (h1 : GAt w B1 v1 xs) (h2 : GAt w B2 v2 ys) (l2 : ys.length ≤ 1000000) (li : ∀ j, (nb ys j).length ≤ 1000000) :
    Calls Tryd.prog 18 #[.slice v1 xs.length c1, .slice v2 ys.length c2] w fun e w' => e = .returned (.bool (decide (xs = ys))) ∧ ∃ m, w' = w.drewN m := by
  have h := eqall_any v1 v2 B1 B2 c1 c2 (listsI xs) (listsI ys) w h1 h2 (by rw [listsI_len]; exact l2) (fun j => by rw [listsI_get, intsI_len]; exact li j)
  rw [listsI_len, listsI_len] at h
  have e : decide (listsI xs = listsI ys) = decide (xs = ys) := by
    rw [decide_eq_decide]
    exact ⟨fun h => listsI_inj h, fun h => by rw [h]⟩
  rw [e] at h
  exact h
/-- Eq of nodes. -/
theorem geq_any (v1 v2 : Option Addr) (B1 B2 c1 c2 : Nat) (xs ys : List Nat) (w : World) (h1 : NAt w B1 v1 xs) (h2 : NAt w B2 v2 ys) (l2 : ys.length ≤ 1000000) :
    Calls Tryd.prog 11 #[.slice v1 xs.length c1, .slice v2 ys.length c2] w fun e w' => e = .returned (.bool (decide (xs = ys))) ∧ ∃ m, w' = w.drewN m := by
  have h := eq_any v1 v2 c1 c2 (intsI xs) (intsI ys) w h1.ints h2.ints (by rw [intsI_len]; exact l2)
  rw [intsI_len, intsI_len] at h
  have e : decide (intsI xs = intsI ys) = decide (xs = ys) := by
    rw [decide_eq_decide]
    exact ⟨fun h => intsI_inj h, fun h => by rw [h]⟩
  rw [e] at h
  exact h
end Go.Proofs.YtngdnjlohmkbiaaDoor
