/-
  Contracts: the documents' own Eq of two slices, EqAll of two lists of slices.
-/
import Derived.Test.YtllfgbgbbjajoaaUGroups
namespace Go.Proofs.Ytllfgbgbbjajoaa
open Go.RowKit

set_option maxHeartbeats 400000 in
theorem eq_diff (v1 v2 : Option Addr) (n1 n2 c1 c2 : Nat) (w : World) (h : n1 ≠ n2) :
    Calls Try.prog 13 #[.slice v1 n1 c1, .slice v2 n2 c2] w fun e w' => e = .returned (.bool false) ∧ w' = w := by
  have hb : ((n1 : Int) != (n2 : Int)) = true := by rw [bne_iff_ne]; omega
  have H := hid h
  clear h
  go_enter Try.func13, Try.ntmps13
  go_wp2
  go_ret
  exact ⟨rfl, rfl⟩

set_option maxHeartbeats 400000 in
theorem eq_empty (v1 v2 : Option Addr) (c1 c2 : Nat) (w : World) :
    Calls Try.prog 13 #[.slice v1 0 c1, .slice v2 0 c2] w fun e w' => e = .returned (.bool true) ∧ w' = w := by
  go_enter Try.func13, Try.ntmps13
  go_wp2
  go_loop [5] (fun i => i = .int .i64 0) (fun _ => 0)
  case atStart => rfl
  case round =>
    subst hrel
    go_wp2
    go_ret
    exact ⟨rfl, rfl⟩

theorem take_same {xs ys : List Int} {k : Nat} (h1 : k < xs.length) (h2 : k < ys.length) (h : xs.take k = ys.take k) (he : xs.getD k 0 = ys.getD k 0) : xs.take (k + 1) = ys.take (k + 1) := by
  rw [List.take_succ_eq_append_getElem h1, List.take_succ_eq_append_getElem h2, h]
  simp [List.getD, List.getElem?_eq_getElem h1, List.getElem?_eq_getElem h2] at he
  rw [he]

set_option maxHeartbeats 1000000 in
theorem eq_raw (b1 o1 b2 o2 n c1 c2 : Nat) (xs ys : List Int) (w : World) (hx : xs.length = n) (hy : ys.length = n) (hn : n ≤ 1000000)
    (g1 : ∀ i, i < n → w.cell? ⟨b1, o1 + i, none⟩ = some (.int .i64 (xs.getD i 0))) (g2 : ∀ i, i < n → w.cell? ⟨b2, o2 + i, none⟩ = some (.int .i64 (ys.getD i 0))) :
    Calls Try.prog 13 #[.slice (some ⟨b1, o1, none⟩) n c1, .slice (some ⟨b2, o2, none⟩) n c2] w fun e w' => e = .returned (.bool (decide (xs = ys))) ∧ ∃ m, w' = w.drewN m := by
  have HX := hid hx
  have HY := hid hy
  have G1 := hid g1
  have G2 := hid g2
  clear hx hy g1 g2
  have hb : ((n : Int) != (n : Int)) = false := by simp
  go_enter Try.func13, Try.ntmps13
  go_wp2
  go_loopw [5] (fun i wr => ∃ k m : Nat, k ≤ n ∧ i = .int .i64 k ∧ wr = w.drewN m ∧ Box (xs.take k = ys.take k)) (fun i _ => n - (intOf i).toNat)
  case atStart => exact ⟨0, 0, by omega, rfl, rfl, hid rfl⟩
  case round =>
    obtain ⟨k, m, hk, rfl, rfl, ht⟩ := hrel
    by_cases hlt : k < n
    · have e1 := G1.out k hlt
      have e2 := G2.out k hlt
      have hlt' : (k : Int) < (n : Int) := by omega
      by_cases heq : xs.getD k 0 = ys.getD k 0
      · have hs := hid (take_same (by rw [HX.out]; exact hlt) (by rw [HY.out]; exact hlt) ht.out heq)
        rw [heq] at e1
        clear heq
        generalize ys.getD k 0 = y at e1 e2
        have hbe : (y != y) = false := by simp
        go_wp2
        go_quiet (fail)
        go_wp2
        go_roundw
        case rel => exact ⟨k + 1, _, by omega, by go_num, rfl, hs⟩
        case measure => simp [intOf]; omega
      · have hne : Box (xs ≠ ys) := hid fun e => heq (by rw [e])
        generalize ys.getD k 0 = y at e2 heq
        generalize xs.getD k 0 = x at e1 heq
        have hbe : (x != y) = true := by rw [bne_iff_ne]; exact heq
        clear heq
        go_wp2
        go_quiet (fail)
        go_wp2
        go_ret
        exact ⟨by rw [decide_eq_false hne.out]; rfl, _, World.drewN_drewN _ _ _⟩
    · obtain rfl : k = n := by omega
      have hxy : Box (xs = ys) := hid (by
        have := ht.out
        rw [List.take_of_length_le (by rw [HX.out]; omega), List.take_of_length_le (by rw [HY.out]; omega)] at this
        exact this)
      go_wp2
      go_ret
      exact ⟨by rw [decide_eq_true hxy.out]; rfl, _, rfl⟩

/-- Eq of two slices: are the numbers the same? -/
theorem eq_any (v1 v2 : Option Addr) (c1 c2 : Nat) (xs ys : List Int) (w : World) (h1 : IntsAt w v1 xs) (h2 : IntsAt w v2 ys) (l2 : ys.length ≤ 1000000) :
    Calls Try.prog 13 #[.slice v1 xs.length c1, .slice v2 ys.length c2] w fun e w' => e = .returned (.bool (decide (xs = ys))) ∧ ∃ m, w' = w.drewN m := by
  by_cases hlen : xs.length = ys.length
  · by_cases h0 : xs.length = 0
    · have ex : xs = [] := List.eq_nil_of_length_eq_zero h0
      have ey : ys = [] := List.eq_nil_of_length_eq_zero (by omega)
      subst ex ey
      exact (eq_empty v1 v2 c1 c2 w).mono fun e w' ⟨he, hw⟩ => ⟨by rw [he]; rfl, 0, hw⟩
    · rcases h1 with rfl | ⟨b1, o1, rfl, g1⟩
      · simp at h0
      · rcases h2 with rfl | ⟨b2, o2, rfl, g2⟩
        · simp at hlen; simp [hlen] at h0
        · have h := eq_raw b1 o1 b2 o2 ys.length c1 c2 xs ys w hlen rfl l2 (fun i hi => g1 i (by omega)) g2
          rw [hlen]
          exact h
  · refine (eq_diff v1 v2 _ _ c1 c2 w hlen).mono fun e w' ⟨he, hw⟩ => ⟨?_, 0, hw⟩
    rw [he, decide_eq_false (fun e => hlen (by rw [e]))]


/-- A list of lists of numbers, in memory from block base on. -/
def ListsAt (w : World) (base : Nat) (a : Option Addr) (xs : List (List Int)) : Prop :=
  xs = [] ∨ ∃ b off, a = some ⟨b, off, none⟩ ∧ base ≤ b ∧ ∀ j, j < xs.length → ∃ aj cj, w.cell? ⟨b, off + j, none⟩ = some (.slice aj (xs.getD j []).length cj) ∧ IntsAt w aj (xs.getD j []) ∧ ∀ b' o', aj = some ⟨b', o', none⟩ → base ≤ b'

theorem ListsAt.kept {w w' : World} {base : Nat} {a : Option Addr} {xs : List (List Int)} {F : List Nat} (h : ListsAt w base a xs) (k : Keeps F w w') (hF : ∀ x, x ∈ F → x < base) : ListsAt w' base a xs := by
  rcases h with h | ⟨b, off, rfl, hb, h⟩
  · exact Or.inl h
  · refine Or.inr ⟨b, off, rfl, hb, fun j hj => ?_⟩
    obtain ⟨aj, cj, hc, hi, hbj⟩ := h j hj
    refine ⟨aj, cj, ?_, hi.kept k (fun b' o' e hx => ?_), hbj⟩
    · rw [k.cell (p := ⟨b, off + j, none⟩) (block_lt_of_cell hc) (fun hx => by have := hF _ hx; simp at this; omega)]
      exact hc
    · have h1 := hbj b' o' e
      have h2 := hF b' hx
      omega
theorem ListsAt.drewN {w : World} {base : Nat} {a : Option Addr} {xs : List (List Int)} (h : ListsAt w base a xs) (m : Nat) : ListsAt (w.drewN m) base a xs := h.kept (Keeps.drewN [] w m) (by simp)

set_option maxHeartbeats 400000 in
theorem eqall_diff (v1 v2 : Option Addr) (n1 n2 c1 c2 : Nat) (w : World) (h : n1 ≠ n2) :
    Calls Try.prog 9 #[.slice v1 n1 c1, .slice v2 n2 c2] w fun e w' => e = .returned (.bool false) ∧ w' = w := by
  have hb : ((n1 : Int) != (n2 : Int)) = true := by rw [bne_iff_ne]; omega
  have H := hid h
  clear h
  go_enter Try.func9, Try.ntmps9
  go_wp2
  go_ret
  exact ⟨rfl, rfl⟩

set_option maxHeartbeats 400000 in
theorem eqall_empty (v1 v2 : Option Addr) (c1 c2 : Nat) (w : World) :
    Calls Try.prog 9 #[.slice v1 0 c1, .slice v2 0 c2] w fun e w' => e = .returned (.bool true) ∧ w' = w := by
  go_enter Try.func9, Try.ntmps9
  go_wp2
  go_loop [5] (fun i => i = .int .i64 0) (fun _ => 0)
  case atStart => rfl
  case round =>
    subst hrel
    go_wp2
    go_ret
    exact ⟨rfl, rfl⟩

theorem take_same' {α : Type} {xs ys : List (List α)} {k : Nat} (h1 : k < xs.length) (h2 : k < ys.length) (h : xs.take k = ys.take k) (he : xs.getD k [] = ys.getD k []) : xs.take (k + 1) = ys.take (k + 1) := by
  rw [List.take_succ_eq_append_getElem h1, List.take_succ_eq_append_getElem h2, h]
  simp [List.getD, List.getElem?_eq_getElem h1, List.getElem?_eq_getElem h2] at he
  rw [he]

set_option maxHeartbeats 1000000 in
theorem eqall_raw (b1 o1 b2 o2 n c1 c2 : Nat) (xs ys : List (List Int)) (w : World) (hx : xs.length = n) (hy : ys.length = n) (hn : n ≤ 1000000)
    (g1 : ∀ j, j < n → ∃ aj cj, w.cell? ⟨b1, o1 + j, none⟩ = some (.slice aj (xs.getD j []).length cj) ∧ IntsAt w aj (xs.getD j []))
    (g2 : ∀ j, j < n → ∃ aj cj, w.cell? ⟨b2, o2 + j, none⟩ = some (.slice aj (ys.getD j []).length cj) ∧ IntsAt w aj (ys.getD j []) ∧ (ys.getD j []).length ≤ 1000000) :
    Calls Try.prog 9 #[.slice (some ⟨b1, o1, none⟩) n c1, .slice (some ⟨b2, o2, none⟩) n c2] w fun e w' => e = .returned (.bool (decide (xs = ys))) ∧ ∃ m, w' = w.drewN m := by
  have HX := hid hx
  have HY := hid hy
  have G1 := hid g1
  have G2 := hid g2
  clear hx hy g1 g2
  have hb : ((n : Int) != (n : Int)) = false := by simp
  go_enter Try.func9, Try.ntmps9
  go_wp2
  go_loopw [5] (fun i wr => ∃ k m : Nat, k ≤ n ∧ i = .int .i64 k ∧ wr = w.drewN m ∧ Box (xs.take k = ys.take k)) (fun i _ => n - (intOf i).toNat)
  case atStart => exact ⟨0, 0, by omega, rfl, rfl, hid rfl⟩
  case round =>
    obtain ⟨k, m, hk, rfl, hwr, ht⟩ := hrel
    have HW := hid hwr
    by_cases hlt : k < n
    · obtain ⟨a1, d1, e1, i1⟩ := G1.out k hlt
      obtain ⟨a2, d2, e2, i2, l2⟩ := G2.out k hlt
      have hlt' : (k : Int) < (n : Int) := by omega
      have e1' : wr.cell? ⟨b1, o1 + k, none⟩ = some (.slice a1 (xs.getD k []).length d1) := by rw [hwr]; exact e1
      have e2' : wr.cell? ⟨b2, o2 + k, none⟩ = some (.slice a2 (ys.getD k []).length d2) := by rw [hwr]; exact e2
      have j1 : IntsAt wr a1 (xs.getD k []) := by rw [hwr]; exact i1.kept (Keeps.drewN [] w m) (fun _ _ _ => by simp)
      have j2 : IntsAt wr a2 (ys.getD k []) := by rw [hwr]; exact i2.kept (Keeps.drewN [] w m) (fun _ _ _ => by simp)
      have HE := hid fun (w1 : World) (h1 : Keeps [] wr w1) => eq_any a1 a2 d1 d2 (xs.getD k []) (ys.getD k []) w1 (j1.kept h1 (fun _ _ _ => by simp)) (j2.kept h1 (fun _ _ _ => by simp)) l2
      clear i1 i2 l2 j1 j2 e1 e2 hwr
      generalize (xs.getD k []).length = n1 at e1' HE
      generalize (ys.getD k []).length = n2 at e2' HE
      by_cases heq : xs.getD k [] = ys.getD k []
      · have hs := hid (take_same' (by rw [HX.out]; exact hlt) (by rw [HY.out]; exact hlt) ht.out heq)
        rw [decide_eq_true heq] at HE
        clear heq
        go_wp2
        go_quiet (first | (go_at_call 13; exact Calls.quiet_of (HE.out _ (Keeps.drewN _ _ _))))
        go_wp2
        go_roundw
        case rel => exact ⟨k + 1, _, by omega, by go_num, by rw [HW.out, World.drewN_drewN], hs⟩
        case measure => simp [intOf]; omega
      · have hne : Box (xs ≠ ys) := hid fun e => heq (by rw [e])
        rw [decide_eq_false heq] at HE
        clear heq
        go_wp2
        go_quiet (first | (go_at_call 13; exact Calls.quiet_of (HE.out _ (Keeps.drewN _ _ _))))
        go_wp2
        go_ret
        exact ⟨by rw [decide_eq_false hne.out]; rfl, _, by rw [HW.out, World.drewN_drewN]⟩
    · obtain rfl : k = n := by omega
      clear hwr
      have hxy : Box (xs = ys) := hid (by
        have := ht.out
        rw [List.take_of_length_le (by rw [HX.out]; omega), List.take_of_length_le (by rw [HY.out]; omega)] at this
        exact this)
      go_wp2
      go_ret
      exact ⟨by rw [decide_eq_true hxy.out]; rfl, _, HW.out⟩

/-- EqAll of two lists of slices: are the numbers the same? -/
theorem eqall_any (v1 v2 : Option Addr) (B1 B2 c1 c2 : Nat) (xs ys : List (List Int)) (w : World) (h1 : ListsAt w B1 v1 xs) (h2 : ListsAt w B2 v2 ys) (l2 : ys.length ≤ 1000000) (li : ∀ j, (ys.getD j []).length ≤ 1000000) :
    Calls Try.prog 9 #[.slice v1 xs.length c1, .slice v2 ys.length c2] w fun e w' => e = .returned (.bool (decide (xs = ys))) ∧ ∃ m, w' = w.drewN m := by
  by_cases hlen : xs.length = ys.length
  · by_cases h0 : xs.length = 0
    · have ex : xs = [] := List.eq_nil_of_length_eq_zero h0
      have ey : ys = [] := List.eq_nil_of_length_eq_zero (by omega)
      subst ex ey
      exact (eqall_empty v1 v2 c1 c2 w).mono fun e w' ⟨he, hw⟩ => ⟨by rw [he]; rfl, 0, hw⟩
    · rcases h1 with rfl | ⟨b1, o1, rfl, _, g1⟩
      · simp at h0
      · rcases h2 with rfl | ⟨b2, o2, rfl, _, g2⟩
        · simp at hlen; simp [hlen] at h0
        · have h := eqall_raw b1 o1 b2 o2 ys.length c1 c2 xs ys w hlen rfl l2 (fun i hi => by obtain ⟨aj, cj, q1, q2, _⟩ := g1 i (by omega); exact ⟨aj, cj, q1, q2⟩) (fun i hi => by obtain ⟨aj, cj, q1, q2, _⟩ := g2 i hi; exact ⟨aj, cj, q1, q2, li i⟩)
          rw [hlen]
          exact h
  · refine (eqall_diff v1 v2 _ _ c1 c2 w hlen).mono fun e w' ⟨he, hw⟩ => ⟨?_, 0, hw⟩
    rw [he, decide_eq_false (fun e => hlen (by rw [e]))]

/-- Numbers as they are told. -/
def intsI (l : List Nat) : List Int := l.map fun n : Nat => (n : Int)
def listsI (L : List (List Nat)) : List (List Int) := L.map intsI
theorem intsI_len (l : List Nat) : (intsI l).length = l.length := by unfold intsI; rw [List.length_map]
theorem listsI_len (L : List (List Nat)) : (listsI L).length = L.length := by unfold listsI; rw [List.length_map]
theorem listsI_get (L : List (List Nat)) (j : Nat) : (listsI L).getD j [] = intsI (L.getD j []) := by
  unfold listsI
  rw [List.getD_eq_getElem?_getD, List.getD_eq_getElem?_getD, List.getElem?_map]
  cases L[j]? <;> rfl
theorem groups_li (n : Nat) (r : Nat → Nat) (hn : n ≤ 5000) (j : Nat) : ((listsI (groups n r)).getD j []).length ≤ 1000000 := by
  rw [listsI_get, intsI_len]
  unfold groups
  rw [List.getD_eq_getElem?_getD, List.getElem?_map]
  cases (leads n r)[j]? with
  | none => simp
  | some l =>
    have := membs_le n r l
    simp
    omega
theorem groups_le (n : Nat) (r : Nat → Nat) (hn : n ≤ 5000) : (listsI (groups n r)).length ≤ 1000000 := by
  rw [listsI_len, groups_len]
  have := leads_le n r
  omega

/-- A row that the call has made, read as numbers. -/
theorem ownsRow_ints {w : World} {base : Nat} {v : Value} {l : List Nat} (h : w.ownsRow base 3 1 v l.length (ints l)) : ∃ a cap, v = .slice a l.length cap ∧ IntsAt w a (intsI l) ∧ (∀ b off, a = some ⟨b, off, none⟩ → base ≤ b) := by
  obtain ⟨_, h2⟩ := h
  rcases h2 with ⟨rfl, h0⟩ | ⟨g, cap, cur, rfl, hg, hh, hn, _, hsz, ht⟩
  · have : l = [] := List.eq_nil_of_length_eq_zero h0
    subst this
    exact ⟨none, 0, rfl, Or.inl rfl, fun b off h => by cases h⟩
  · refine ⟨_, cap, rfl, Or.inr ⟨g, 0, rfl, fun i hi => ?_⟩, fun b off h => by cases h; exact hg⟩
    rw [intsI_len] at hi
    rw [Nat.zero_add, cell_of_row w g i cur _ _ hh]
    have e1 : cur[i]? = cur.toList[i]? := by simp
    have e2 : (cur.toList.take (l.length * 1))[i]? = cur.toList[i]? := by rw [List.getElem?_take]; simp [hi]
    rw [e1, ← e2, ht]
    simp [ints, intsI, List.getD, List.getElem?_eq_getElem hi]

theorem Own2.lists {w : World} {base g cap : Nat} {vs : List Value} {L : List (List Nat)} (h : Own2 w base g cap vs L) : ListsAt w base (some ⟨g, 0, none⟩) (listsI L) := by
  refine Or.inr ⟨g, 0, rfl, h.outerHeap.1, fun j hj => ?_⟩
  rw [listsI_len] at hj
  obtain ⟨aj, cj, hv, hi, hb⟩ := ownsRow_ints (h.inner j hj)
  refine ⟨aj, cj, ?_, ?_, hb⟩
  · rw [Nat.zero_add, h.cell hj, hv, listsI_get, intsI_len]
  · rw [listsI_get]; exact hi

/-- Groups: the lists of all groups. -/
theorem groups_any (b n : Nat) (r : Nat → Nat) (w : World) (hu : UAt w b n r) :
    Calls Try.prog 10 #[.pointer (some ⟨b, 0, none⟩)] w fun e w' => ∃ g cap, e = .returned (.slice (some ⟨g, 0, none⟩) (listsI (groups n r)).length cap) ∧ ListsAt w' w.heap.size (some ⟨g, 0, none⟩) (listsI (groups n r)) ∧ UAt w' b n r ∧ Keeps [b] w w' := by
  refine (groups_raw b n r w hu).mono ?_
  rintro e w' ⟨g, cap, he, ⟨vs, ho⟩, h1, h2⟩
  exact ⟨g, cap, by rw [he, listsI_len], ho.lists, h1, h2⟩
end Go.Proofs.Ytllfgbgbbjajoaa
