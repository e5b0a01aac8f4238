/-
  RefuseIs's walk.
-/
import Derived.Test.YtjofffhfabmfkaaDoorRMadeAny
import Derived.Test.YtjofffhfabmfkaaDoorRRef
import Derived.Test.YtjofffhfabmfkaaDoorRIsTop
import Derived.Test.YtjofffhfabmfkaaDoorRBegun
namespace Go.Proofs.YtjofffhfabmfkaaDoor
open Go.RowKit

theorem any_asked0 (l : List Int) : l.any (asked 0) = decide (0 < l.length) := by
  cases l <;> simp [asked]
theorem any_asked (k : Int) (l : List Int) : l.any (asked k) = (decide (k ∈ l) || (decide (k = 0) && decide (0 < l.length))) := by
  rw [Bool.eq_iff_iff]
  simp only [List.any_eq_true, asked, Bool.or_eq_true, Bool.and_eq_true, decide_eq_true_eq]
  constructor
  · rintro ⟨x, hx, h | rfl⟩
    · exact Or.inr ⟨h, List.length_pos_of_mem hx⟩
    · exact Or.inl hx
  · rintro (h | ⟨h, hp⟩)
    · exact ⟨k, h, Or.inr rfl⟩
    · obtain ⟨x, hx⟩ := List.exists_mem_of_length_pos hp
      exact ⟨x, hx, Or.inl h⟩

theorem is_cases (y : Int) (ys : List Int) (m : Nat) (h : m = ys.length) : (y ∈ ys ∧ 0 < m) ∨ (y ∉ ys ∧ y = 0 ∧ 0 < m) ∨ (y ∉ ys ∧ y = 0 ∧ m = 0) ∨ (y ∉ ys ∧ y ≠ 0 ∧ 0 < m) ∨ (y ∉ ys ∧ y ≠ 0 ∧ m = 0) := by
  by_cases h1 : y ∈ ys
  · exact Or.inl ⟨h1, by rw [h]; exact List.length_pos_of_mem h1⟩
  · by_cases h2 : y = 0
    · rcases Nat.eq_zero_or_pos m with h3 | h3
      · exact Or.inr (Or.inr (Or.inl ⟨h1, h2, h3⟩))
      · exact Or.inr (Or.inl ⟨h1, h2, h3⟩)
    · rcases Nat.eq_zero_or_pos m with h3 | h3
      · exact Or.inr (Or.inr (Or.inr (Or.inr ⟨h1, h2, h3⟩)))
      · exact Or.inr (Or.inr (Or.inr (Or.inl ⟨h1, h2, h3⟩)))

set_option maxHeartbeats 8000000 in
/-- RefuseIs, behind its cut. -/
theorem isLaw_core (a : Option Addr) (cap L : Nat) (zs : List Ln) (y : Int) (w : World) (hg : Glob w) (hz : LinksAt w a zs) (hL : zs.length = L) (hLc : L ≤ cap) (hw : ∀ x, x ∈ zs → x.wf) :
    Calls Tryd.prog 4 #[.slice a L cap, .int .i64 y] w fun e w' => e = .returned (.bool true) ∧ Keeps [] w w' := by
  have hb := hid (begun_any w hg)
  have HM := hid fun w' (k : Keeps [] w w') (c : Nat) (hc : c ≤ 8) => made_any a cap (zs.take c) w' ((hz.take c).quiet k) (by rw [List.length_take]; omega) (fun x hx => hw x (List.mem_of_mem_take hx))
  have HG := hid hg
  have HL := hid hL
  clear hg hz hw hL
  go_enter Tryd.func4, Tryd.ntmps4
  go_wp2_with (go_at_call 7; refine hb.out.mono ?_; rintro e w1 ⟨rfl, hk⟩; have K1 := hid hk; clear hk)
  all_goals
    have hm := HM.out w1 K1.out 8 (Nat.le_refl _)
    first
      | rw [show (zs.take 8).length = 8 by rw [List.length_take, HL.out]; omega] at hm
      | rw [show (zs.take 8).length = L by rw [List.length_take, HL.out]; omega] at hm
    refine hm.mono ?_
    rintro e w2 ⟨l, lv, rfl, hs⟩
    obtain ⟨a2, cap2, rfl, hi⟩ := owns_ints hs.own
    have S2 := hid (show ChainAt w2 l ∧ Falls l ∧ Keeps [] w w2 from ⟨hs.chain, hs.falls, K1.out.step hs.keep⟩)
    have HI := hid hi
    have hwl := whys_le l
    have hml := hs.made.len
    have HLW : Box ((whys l).length ≤ 8) := hid (by rw [List.length_take] at hml; omega)
    clear hs hi hm hwl hml
    have k3 := Keeps.alloc [] w2 (.cells #[.int .i64 0, .int .i64 0, .int .i64 0, .int .i64 0, .nilIface] 44)
    have H3 := hid (Is_ref l w2.heap.size 0 0 0 0 _ (HG.out.quiet (S2.out.2.2.step k3)) (S2.out.1.quiet k3) S2.out.2.1 ⟨heap_new _ _, trivial⟩ (fun x hx e => by have := S2.out.1.lt x hx; omega))
    rw [any_asked0] at H3
    have K3 := hid k3
    clear k3
    obtain ⟨m, hme⟩ : ∃ m, m = (whys l).length := ⟨_, rfl⟩
    rw [← hme] at H3 ⊢
    have HME := hid hme
    clear hme
    have hcase := is_cases y (whys l) m HME.out
    go_wp2_with fail
    refine H3.out.mono ?_
    rintro e w4 ⟨rfl, hk4⟩
    have K4 := hid ((S2.out.2.2.step K3.out).step hk4)
    have C4 := hid (S2.out.1.quiet (K3.out.step hk4))
    have I4 := hid (HI.out.kept (K3.out.step hk4) (fun _ _ _ => by simp))
    clear H3 K3 hk4
    have k5 := Keeps.alloc [] w4 (.cells #[.int .i64 y, .int .i64 0, .int .i64 0, .int .i64 0, .nilIface] 44)
    have H5 := hid (Is_ref l w4.heap.size y 0 0 0 _ (HG.out.quiet (K4.out.step k5)) (C4.out.quiet k5) S2.out.2.1 ⟨heap_new _ _, trivial⟩ (fun x hx e => by have := C4.out.lt x hx; omega))
    rw [any_asked, ← HME.out] at H5
    have K5 := hid k5
    clear k5
    go_wp2_with fail
    refine H5.out.mono ?_
    rintro e w6 ⟨rfl, hk6⟩
    have K6 := hid ((K4.out.step K5.out).step hk6)
    have C6 := hid (C4.out.quiet (K5.out.step hk6))
    have I6 := hid (I4.out.kept (K5.out.step hk6) (fun _ _ _ => by simp))
    clear H5 K5 hk6
    have HR := hid (rin_any a2 cap2 (whys l) y w6 I6.out (by have := HLW.out; omega))
    rw [← HME.out] at HR
    have k7 := Keeps.alloc [] w6 (.cells #[.string ⟨#[]⟩, .nilIface] 50)
    have H7 := hid (Is_oth l w6.heap.size ⟨#[]⟩ _ (HG.out.quiet (K6.out.step k7)) (C6.out.quiet k7) S2.out.2.1 ⟨heap_new _ _, trivial⟩ (fun x hx e => by have := C6.out.lt x hx; omega))
    have K7 := hid k7
    clear k7
    rcases hcase with ⟨h1, h3⟩ | ⟨h1, rfl, h3⟩ | ⟨h1, rfl, rfl⟩ | ⟨h1, h2, h3⟩ | ⟨h1, h2, rfl⟩
    · have hm1 : decide ((0 : Int) < (m : Int)) = true := decide_eq_true (by omega)
      have hm2 : decide (0 < m) = true := decide_eq_true h3
      rw [decide_eq_true h1] at HR ⊢
      rw [hm2]
      clear h1
      go_wp2_with (first | (go_at_call 18; refine HR.out.mono ?_; rintro e w7 ⟨rfl, rfl⟩) | (go_at_call 17; refine H7.out.mono ?_; rintro e w8 ⟨rfl, hk8⟩; have K8 := hid ((K6.out.step K7.out).step hk8); clear hk8))
      go_ret
      exact ⟨rfl, K8.out⟩
    · have hm1 : decide ((0 : Int) < (m : Int)) = true := decide_eq_true (by omega)
      have hm2 : decide (0 < m) = true := decide_eq_true h3
      rw [decide_eq_false h1] at HR ⊢
      rw [hm2]
      clear h1
      go_wp2_with (first | (go_at_call 18; refine HR.out.mono ?_; rintro e w7 ⟨rfl, rfl⟩) | (go_at_call 17; refine H7.out.mono ?_; rintro e w8 ⟨rfl, hk8⟩; have K8 := hid ((K6.out.step K7.out).step hk8); clear hk8))
      go_ret
      exact ⟨rfl, K8.out⟩
    · rw [decide_eq_false h1] at HR ⊢
      clear h1
      go_wp2_with (first | (go_at_call 18; refine HR.out.mono ?_; rintro e w7 ⟨rfl, rfl⟩) | (go_at_call 17; refine H7.out.mono ?_; rintro e w8 ⟨rfl, hk8⟩; have K8 := hid ((K6.out.step K7.out).step hk8); clear hk8))
      go_ret
      exact ⟨rfl, K8.out⟩
    · have hm1 : decide ((0 : Int) < (m : Int)) = true := decide_eq_true (by omega)
      have hm2 : decide (0 < m) = true := decide_eq_true h3
      have hy0 : (y == 0) = false := by simpa using h2
      have hy1 : decide (y = 0) = false := by simpa using h2
      rw [decide_eq_false h1] at HR ⊢
      rw [hm2, hy1]
      clear h1
      go_wp2_with (first | (go_at_call 18; refine HR.out.mono ?_; rintro e w7 ⟨rfl, rfl⟩) | (go_at_call 17; refine H7.out.mono ?_; rintro e w8 ⟨rfl, hk8⟩; have K8 := hid ((K6.out.step K7.out).step hk8); clear hk8))
      go_ret
      exact ⟨rfl, K8.out⟩
    · have hy0 : (y == 0) = false := by simpa using h2
      have hy1 : decide (y = 0) = false := by simpa using h2
      rw [decide_eq_false h1] at HR ⊢
      rw [hy1]
      clear h1
      go_wp2_with (first | (go_at_call 18; refine HR.out.mono ?_; rintro e w7 ⟨rfl, rfl⟩) | (go_at_call 17; refine H7.out.mono ?_; rintro e w8 ⟨rfl, hk8⟩; have K8 := hid ((K6.out.step K7.out).step hk8); clear hk8))
      go_ret
      exact ⟨rfl, K8.out⟩

/-- RefuseIs, of every slice of links and every number. -/
theorem refuseIs_walk (a : Option Addr) (cap : Nat) (zs : List Ln) (y : Int) (w : World) (hg : Glob w) (hz : LinksAt w a zs) (_ : zs.length ≤ maxLen) (hc : zs.length ≤ cap) (hw : ∀ x, x ∈ zs → x.wf) (_ : wf64 y) :
    Calls Tryd.prog 4 #[.slice a zs.length cap, .int .i64 y] w fun e w' => e = .returned (.bool true) ∧ Keeps [] w w' :=
  isLaw_core a cap zs.length zs y w hg hz rfl hc hw
end Go.Proofs.YtjofffhfabmfkaaDoor
