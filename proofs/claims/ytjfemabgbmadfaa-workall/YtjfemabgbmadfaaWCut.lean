/-
  Contracts: slices.Clone and slices.Delete at []int, as the program's own text has them.
-/
import Derived.Test.YtjfemabgbmadfaaWMem
import Derived.Deep.RegionLaw
import Derived.Deep.QuietTactic
import Derived.RegionTactic
import Derived.Lib.SliceRun
namespace Go.Proofs.Ytjfemabgbmadfaa
open Go.RowKit

theorem IntsAt.cells {w : World} {ad : Addr} {zs : List Int} (h : IntsAt w (some ad) zs) : ∀ j u, (nums zs)[j]? = some u → w.cell? (ad.add j) = some u := by
  intro j u hu
  have hj : j < zs.length := by
    have := (List.getElem?_eq_some_iff.1 hu).1
    rwa [nums_len] at this
  rcases h with rfl | ⟨b, off, e, hc⟩
  · simp at hj
  · obtain rfl := Option.some.inj e
    rw [nums_get zs j hj] at hu
    rw [Addr.add_lit, hc j hj]
    exact hu

theorem ints_of_owns {w : World} {base : Nat} {v : Value} {n : Nat} {l : List Int} (h : w.ownsRow base 3 1 v n (nums l)) :
    ∃ a cap, v = .slice a n cap ∧ IntsAt w a l ∧ l.length = n ∧ ∀ b off, a = some ⟨b, off, none⟩ → base ≤ b ∧ b < w.heap.size := by
  have hl : l.length = n := by have := h.1; rw [nums_len] at this; omega
  by_cases hv : v = .slice none 0 0
  · rcases h.2 with ⟨_, h0⟩ | ⟨g, cap, cur, e, _⟩
    · subst h0
      exact ⟨none, 0, hv, Or.inl (List.eq_nil_of_length_eq_zero hl), hl, fun b off e => by cases e⟩
    · rw [hv] at e; simp at e
  · obtain ⟨g, cap, rfl, hb, _, hline⟩ := LineAt.of_owns h hv
    refine ⟨_, cap, rfl, Or.inr ⟨g, 0, rfl, hline.cell⟩, hl, fun b off e => ?_⟩
    cases e
    exact ⟨hb, hline.lt⟩

set_option maxHeartbeats 1000000 in
theorem clone_nil (n c : Nat) (w : World) :
    Calls Try.prog 13 #[.slice none n c] w fun e w' => e = .returned (.slice none 0 0) ∧ w' = w := by
  have q : ∀ (w : World) (a : Option Addr) (n c n' c' : Nat), (binOp .eql 22 (.slice a n c) (.slice none n' c')).run Try.prog w = .ok (.bool a.isNone) w := fun w a n c n' c' => Lib.run_eql_slice_nil w _ _ a n c n' c' Try.underlying22
  go_enter Try.func13, Try.ntmps13
  go_wp2
  go_ret
  exact ⟨rfl, rfl⟩

set_option maxHeartbeats 2000000 in
theorem clone_some (ad : Addr) (n c : Nat) (zs : List Int) (w : World) (hl : zs.length = n) (hz : IntsAt w (some ad) zs) (hb : n ≤ 1000000) :
    Calls Try.prog 13 #[.slice (some ad) n c] w fun e w' => ∃ v, e = .returned v ∧ w'.ownsRow w.heap.size 3 1 v n (nums zs) ∧ Keeps [] w w' := by
  obtain ⟨i0, hi, hz0, hz1, hz2⟩ := info_parts info_int
  have q : ∀ (w : World) (a : Option Addr) (n c n' c' : Nat), (binOp .eql 22 (.slice a n c) (.slice none n' c')).run Try.prog w = .ok (.bool a.isNone) w := fun w a n c n' c' => Lib.run_eql_slice_nil w _ _ a n c n' c' Try.underlying22
  have H := hid hz.cells
  have HL := hid hl
  clear hz hl
  go_enter Try.func13, Try.ntmps13
  go_wp2_with (at_builtin; refine wpList_append_own _ rfl _ _ 22 rfl w.heap.size 3 i0 (.int .i64 0) 1 8 Try.underlying22 hi hz0 hz1 hz2 rfl (by decide) _ _ _ rfl (World.ownsRow_made w #[] 0 (Nat.le_refl _) (Nat.zero_le _) rfl) ad n c (nums zs) rfl ?qc1 ?qc2 ?qc3 ?qc4 ?qc5 ?qc6 ?_)
  case qc1 => rw [nums_len, HL.out]; omega
  case qc2 => intro j u hj; exact Lib.cell?_alloc_some _ (H.out j u hj)
  case qc3 => exact nums_one zs
  case qc4 => unfold maxLen; omega
  case qc5 => omega
  case qc6 => simp
  intro v' w1 hown hgrow hnil
  go_wp2
  go_ret
  refine ⟨v', rfl, by simpa using hown, ?_⟩
  exact (Keeps.alloc [] w _).trans (Keeps.grown [w.heap.size] hgrow (fun k hk => by simp [Value.ownBlock] at hk; simp [hk])) (fun x hx hlt => by simp at hx; omega)

theorem clone_any (a : Option Addr) (n c : Nat) (zs : List Int) (w : World) (hl : zs.length = n) (hz : IntsAt w a zs) (hb : n ≤ 1000000) :
    Calls Try.prog 13 #[.slice a n c] w fun e w' => ∃ a' c', e = .returned (.slice a' n c') ∧ IntsAt w' a' zs ∧ Keeps [] w w' ∧ ∀ b off, a' = some ⟨b, off, none⟩ → w.heap.size ≤ b ∧ b < w'.heap.size := by
  cases a with
  | none =>
    obtain rfl : zs = [] := by
      rcases hz with e | ⟨b, off, e, _⟩
      · exact e
      · cases e
    obtain rfl : n = 0 := by simpa using hl.symm
    refine (clone_nil 0 c w).mono ?_
    rintro e w' ⟨rfl, rfl⟩
    exact ⟨none, 0, rfl, Or.inl rfl, Keeps.refl _ _, fun b off e => by cases e⟩
  | some ad =>
    refine (clone_some ad n c zs w hl hz hb).mono ?_
    rintro e w' ⟨v, rfl, ho, hk⟩
    obtain ⟨a', c', rfl, h1, _, h2⟩ := ints_of_owns ho
    exact ⟨a', c', rfl, h1, hk, h2⟩

theorem getD_erase (l : List Int) (i k : Nat) : (l.eraseIdx i).getD k 0 = if k < i then l.getD k 0 else l.getD (k + 1) 0 := by
  rw [List.getD_eq_getElem?_getD, List.getElem?_eraseIdx]
  by_cases c : k < i
  · rw [if_pos c, if_pos c, List.getD_eq_getElem?_getD]
  · rw [if_neg c, if_neg c, List.getD_eq_getElem?_getD]
theorem getD_drop (l : List Int) (j k : Nat) : (l.drop j).getD k 0 = l.getD (j + k) 0 := by
  rw [List.getD_eq_getElem?_getD, List.getElem?_drop, List.getD_eq_getElem?_getD]
theorem erase_len (l : List Int) (i : Nat) (h : i < l.length) : (l.eraseIdx i).length = l.length - 1 := List.length_eraseIdx_of_lt h

/-- The row behind slices.Delete of one number. -/
theorem LineAt.deleted {w : World} {g off cap : Nat} {l : List Int} (h : LineAt w g off cap l) {i : Nat} (hi : i < l.length) :
    LineAt ((w.setCells g (off + i) (nums (l.drop (i + 1)))).setCells g (off + (l.length - 1)) [.int .i64 0]) g off cap (l.eraseIdx i) := by
  have hl := h.len
  have h1 : LineAt (w.setCells g (off + i) (nums (l.drop (i + 1)))) g off cap (l.eraseIdx i) := by
    refine h.set i _ _ (by rw [nums_len, List.length_drop]; omega) (by rw [erase_len l i hi]; omega) (fun k hk => ?_)
    rw [erase_len l i hi] at hk
    rw [nums_len, List.length_drop, getD_erase]
    by_cases c : k < i
    · rw [if_pos c, if_neg (by omega)]; exact h.cell k (by omega)
    · rw [if_neg c, if_pos (by omega), nums_get _ _ (by rw [List.length_drop]; omega), getD_drop, show i + 1 + (k - i) = k + 1 by omega]
  refine h1.set (l.length - 1) _ _ (by simp; omega) (by rw [erase_len l i hi]; omega) (fun k hk => ?_)
  have hk' := hk
  rw [erase_len l i hi] at hk
  rw [if_neg (by omega)]
  exact h1.cell k hk'

set_option maxHeartbeats 4000000 in
set_option maxRecDepth 1000000 in
theorem delete_raw (g off n cap i j : Nat) (l : List Int) (w : World) (h : LineAt w g off cap l) (hn : l.length = n) (hij : j = i + 1) (hj : j ≤ n) :
    Calls Try.prog 16 #[.slice (some ⟨g, off, none⟩) n cap, .int .i64 i, .int .i64 j] w fun e w' => e = .returned (.slice (some ⟨g, off, none⟩) (i + (n - j)) cap) ∧ LineAt w' g off cap (l.eraseIdx i) ∧ Keeps [g] w w' := by
  obtain ⟨i0, hi0, hz0, hz1, hz2⟩ := info_parts info_int
  have hlen := h.len
  have hmax := h.max
  obtain ⟨news, hnews⟩ : ∃ news, news = nums (l.drop j) := ⟨_, rfl⟩
  have hnl : news.length = n - j := by rw [hnews, nums_len, List.length_drop, hn]
  have hget : ∀ t, t < n - j → news[t]? = some (.int .i64 (l.getD (j + t) 0)) := fun t ht => by rw [hnews, nums_get _ _ (by rw [List.length_drop]; omega), getD_drop]
  obtain ⟨A, hA, hsrc⟩ : ∃ A : Addr, (if cap = j then some (⟨g, off, none⟩ : Addr) else some ⟨g, off + j, none⟩) = some A ∧ Box (∀ t u, news[t]? = some u → w.drew.cell? (A.add t) = some u) := by
    by_cases c : cap = j
    · refine ⟨⟨g, off, none⟩, by simp [c], hid fun t u hu => ?_⟩
      have h0 : news.length = 0 := by rw [hnl]; omega
      rw [List.length_eq_zero_iff.1 h0] at hu
      simp at hu
    · refine ⟨⟨g, off + j, none⟩, by simp [c], hid fun t u hu => ?_⟩
      have ht : t < n - j := by
        have := (List.getElem?_eq_some_iff.1 hu).1
        rwa [hnl] at this
      rw [hget t ht] at hu
      rw [Addr.add_lit, show off + j + t = off + (j + t) by omega]
      exact (h.cell (j + t) (by omega)).trans hu
  have s1 := hid (show news.length = (n - j) * 1 by rw [Nat.mul_one]; exact hnl)
  have s2 : Box (∀ u ∈ news, u.oneCell' = true) := hid (by rw [hnews]; exact nums_one _)
  have s3 : Box (∀ t, t < news.length → (w.drew.cell? ⟨g, off + i * 1 + t, none⟩).isSome = true ∧ w.drew.frozen? ⟨g, off + i * 1 + t, none⟩ = false) := hid fun t ht => by
    rw [hnl] at ht
    rw [Nat.mul_one, Nat.add_assoc]
    exact h.room (i + t) (by omega)
  obtain ⟨W1, hW1⟩ : ∃ W1, W1 = w.drew.setCells g (off + i * 1) news := ⟨_, rfl⟩
  have hroom : ∀ k, k < cap → (W1.cell? ⟨g, off + k, none⟩).isSome = true ∧ W1.frozen? ⟨g, off + k, none⟩ = false := fun k hk => by
    rw [hW1]
    exact ⟨some_setCells _ g _ _ _ (fun t ht => (s3.out t ht).1) (h.room k hk).1, by rw [World.frozen?_setCells]; exact (h.room k hk).2⟩
  have hcl : ∀ ty, (Builtin.clear_ #[22] ty #[.slice (some ⟨g, off + (i + (n - j)), none⟩) (n - (i + (n - j))) (cap - (i + (n - j)))]).run Try.prog W1 = .ok (.tuple #[]) (W1.setCells g (off + (i + (n - j))) (List.replicate (n - (i + (n - j))) (.int .i64 0))) :=
    fun ty => Lib.run_clear_slice W1 _ _ ty _ Try.underlying22 zero_int rfl rfl g (off + (i + (n - j))) _ _ (by omega) (fun t ht => by rw [Nat.add_assoc]; exact (hroom _ (by omega)).1) (fun t ht => by rw [Nat.add_assoc]; exact (hroom _ (by omega)).2)
  have hD : LineAt (W1.setCells g (off + (i + (n - j))) (List.replicate (n - (i + (n - j))) (.int .i64 0))) g off cap (l.eraseIdx i) := by
    have hd := LineAt.deleted (w := w.drew) ⟨h.cell, h.room, h.len, h.max, h.lt⟩ (show i < l.length by omega)
    rw [hW1, hnews, Nat.mul_one, hij, show n - (i + (n - (i + 1))) = 1 by omega, show i + (n - (i + 1)) = l.length - 1 by omega]
    exact hd
  have hK : Keeps [g] w (W1.setCells g (off + (i + (n - j))) (List.replicate (n - (i + (n - j))) (.int .i64 0))) := by
    rw [hW1]
    exact ((Keeps.drew [g] w).step (Keeps.setCells g _ _ _)).step (Keeps.setCells g _ _ _)
  have hW := hid hW1
  have hDD := hid (And.intro hD hK)
  have hic : i ≤ cap := by omega
  have hjc : j ≤ cap := by omega
  have hlt : i < j := by omega
  clear hW1 h hget hnews hnl hroom hD hK hij
  go_enter Try.func16, Try.ntmps16
  go_wp2_with fail
  go_region_law (refine step_append_room rfl (.tmp 22) (.tmp 25) 22 rfl 3 i0 1 Try.underlying22 hi0 hz1 g off i cap (by simp [Act.eval, Act.put]) A (n - j) (cap - j) news (by simp [Act.eval, Act.put]) s1.out hsrc.out s2.out (by omega) s3.out ?_; rw [← hW.out])
  go_wp2
  go_ret
  exact ⟨rfl, hDD.out.1, hDD.out.2⟩

theorem delete_any (g off n cap i : Nat) (l : List Int) (w : World) (h : LineAt w g off cap l) (hn : l.length = n) (hi : i < n) :
    Calls Try.prog 16 #[.slice (some ⟨g, off, none⟩) n cap, .int .i64 i, .int .i64 ((i : Int) + 1)] w fun e w' => e = .returned (.slice (some ⟨g, off, none⟩) (n - 1) cap) ∧ LineAt w' g off cap (l.eraseIdx i) ∧ Keeps [g] w w' := by
  have := delete_raw g off n cap i (i + 1) l w h hn rfl (by omega)
  rw [show i + (n - (i + 1)) = n - 1 by omega, show (((i + 1 : Nat) : Int)) = (i : Int) + 1 by omega] at this
  exact this
end Go.Proofs.Ytjfemabgbmadfaa
