/-
  RefuseDeep's walk, where it asks.
-/
import Derived.Test.YtjofffhfabmfkaaDoorRDeep
namespace Go.Proofs.YtjofffhfabmfkaaDoor
open Go.RowKit

theorem deep_slice {w : World} {base k : Nat} {y : Int} {v : Value} (h : w.ownsRow base 3 1 v (k + 1) (nums (List.replicate k 0 ++ [y]))) :
    ∃ g cap, v = .slice (some ⟨g, 0, none⟩) (k + 1) cap ∧ w.cell? ⟨g, k, none⟩ = some (.int .i64 y) := by
  rcases h.2 with ⟨_, h0⟩ | ⟨g, cap, cur, rfl, hr⟩
  · omega
  · refine ⟨g, cap, rfl, ?_⟩
    rw [h.cellAt k (by omega)]
    simp [nums]

set_option maxHeartbeats 8000000 in
theorem deep_in (n : Nat) (y f b i : Int) (w : World) (hg : Glob w) (hn : n ≤ 60) (hy1 : 1 ≤ y) (hy7 : y ≤ 7) (hf : 0 ≤ f) :
    Calls Tryd.prog 6 #[.int .i64 n, .int .i64 y, .agg #[.int .i64 f, .int .i64 b, .int .i64 i]] w fun e w' => e = .returned (.bool true) ∧ Keeps [] w w' := by
  have k1 := Keeps.alloc [] w (.cells #[.int .i64 f, .int .i64 b, .int .i64 i] 38)
  have hb := hid (begun_any _ (hg.quiet k1))
  have K1 := hid k1
  have hN := hid (heap_new w (.cells #[.int .i64 f, .int .i64 b, .int .i64 i] 38))
  have HG := hid hg
  clear hg k1
  have g1 : ¬ (n : Int) < 0 := by omega
  have g2 : ¬ (60 : Int) < (n : Int) := by omega
  have g3 : ¬ y < 1 := by omega
  have g4 : ¬ 7 < y := by omega
  have g5 : ¬ f < 0 := by omega
  go_enter Tryd.func6, Tryd.ntmps6
  go_wp2_with (go_at_call 7; refine hb.out.mono ?_; rintro e w2 ⟨rfl, hk⟩; have HK := hid (K1.out.step hk); have HB := hid ((hk.block w.heap.size (by simp) (by simp)).trans hN.out); have c0 := pcell HB.out 0; have c1 := pcell HB.out 1; have c2 := pcell HB.out 2; clear hk)
  refine (new_any y f b i [] _ trivial trivial).mono ?_
  rintro e w3 ⟨p, he, hc3, hF3, hk3, hp3⟩
  obtain rfl : e = .returned (headV [.ref p y f b i]) := he
  have HS : Box (DeepSt w w3 w.heap.size p y f b i 0 [.ref p y f b i]) := hid ⟨HK.out.step hk3, (hk3.block _ (heap_lt HB.out) (by simp)).trans HB.out, hc3, hF3, rfl⟩
  clear hc3 hF3 hk3 hp3 c0 c1 c2 HK HB K1 hN hb g1 g2 g3 g4
  go_wp2_with fail
  go_loopw [8, 9] (fun v t wr => ∃ (k : Nat) (l : List Lk), k ≤ n ∧ t = .int .i64 (k : Int) ∧ v = headV l ∧ Box (DeepSt w wr w.heap.size p y f b i k l)) (fun _ t _ => n - (intOf t).toNat)
  case atStart => exact ⟨0, _, Nat.zero_le _, rfl, rfl, HS⟩
  case round =>
    clear HS
    obtain ⟨k, l, hk, rfl, rfl, hs⟩ := hrel
    by_cases hlt : k < n
    · have hi : (k : Int) < (n : Int) := by omega
      have hnw := hid (new_any 0 (-1) 0 0 l wr hs.out.chain hs.out.falls)
      go_wp2_with (go_at_call 21; refine hnw.out.mono ?_; rintro e w4 ⟨q, rfl, hc4, hF4, hk4, hp4⟩; have H4 := hid (show ChainAt w4 (.ref q 0 (-1) 0 0 :: l) ∧ Falls (.ref q 0 (-1) 0 0 :: l) ∧ Keeps [] wr w4 from ⟨hc4, hF4, hk4⟩); clear hc4 hF4 hk4 hp4)
      go_roundw
      case rel => exact ⟨k + 1, .ref q 0 (-1) 0 0 :: l, by omega, by go_num, rfl, hid ⟨hs.out.keep.step H4.out.2.2, (H4.out.2.2.block _ (heap_lt hs.out.place) (by simp)).trans hs.out.place, H4.out.1, H4.out.2.1, ⟨q, l, rfl, hs.out.deep⟩⟩⟩
      case measure => simp [intOf]; omega
    · obtain rfl : k = n := by omega
      have hi : ¬ (k : Int) < (k : Int) := by omega
      clear hlt
      go_wp2_with fail
      refine (chain_any l wr (HG.out.quiet hs.out.keep) hs.out.chain hs.out.falls (by rw [hs.out.deep.len]; omega)).mono ?_
      rintro e w5 ⟨v, rfl, hown, hk5⟩
      have H5 := hid (hs.out.quiet hk5)
      rw [hs.out.deep.whys] at hown
      have hlen : (List.replicate k (0 : Int) ++ [y]).length = k + 1 := by simp
      rw [hlen] at hown
      obtain ⟨g, cap, rfl, hcell⟩ := deep_slice hown
      clear hown hlen hs hk5 hk
      have z1 : (0 : Int) ≤ (k : Int) := by omega
      have z2 : (k : Int) < (k : Int) + 1 := by omega
      have z3 : ((k : Int) + 1 != (k : Int) + 1) = false := by simp
      go_wp2_with fail
      have k6 := Keeps.alloc [] w5 (.cells #[.int .i64 y, .int .i64 0, .int .i64 0, .int .i64 0, .nilIface] 44)
      have H6 := hid (H5.out.quiet k6)
      have hmem : (whys l).any (asked y) = true := by
        rw [H5.out.deep.whys]
        simp [asked]
      refine (Is_ref l w5.heap.size y 0 0 0 _ (HG.out.quiet H6.out.keep) H6.out.chain H6.out.falls ⟨heap_new _ _, trivial⟩ (fun x hx e => by have := H5.out.chain.lt x hx; omega)).mono ?_
      rintro e w7 ⟨he, hk7⟩
      rw [hmem] at he
      subst he
      have H7 := hid (H6.out.quiet hk7)
      clear k6 H6 hmem hk7 H5 hcell z1 z2 z3 hn hy1 hy7
      go_wp2_with fail
      go_loopw [8, 11] (fun v t wr => ∃ (j : Nat) (l : List Lk), j ≤ k ∧ t = .int .i64 (j : Int) ∧ v = headV l ∧ Box (DeepSt w wr w.heap.size p y f b i (k - j) l)) (fun _ t _ => k - (intOf t).toNat)
      case atStart => exact ⟨0, l, Nat.zero_le _, rfl, rfl, H7⟩
      case round =>
        clear H7
        obtain ⟨j, l2, hj, rfl, rfl, hs⟩ := hrel
        by_cases hlt : j < k
        · have hi : (j : Int) < (k : Int) := by omega
          have hu := hid (eunwrap_any l2 _ hs.out.chain)
          go_wp2_with (go_at_call 22; refine hu.out.mono ?_; rintro e w8 ⟨rfl, rfl⟩)
          go_roundw
          case rel =>
            refine ⟨j + 1, l2.tail, by omega, by go_num, rfl, hid ⟨hs.out.keep, hs.out.place, chain_tail hs.out.chain, falls_tail hs.out.falls, ?_⟩⟩
            have hd := hs.out.deep
            rw [show k - j = (k - (j + 1)) + 1 by omega] at hd
            exact hd.tail
          case measure => simp [intOf]; omega
        · obtain rfl : j = k := by omega
          have hi : ¬ (j : Int) < (j : Int) := by omega
          have hd := hs.out.deep
          rw [Nat.sub_self] at hd
          obtain rfl : l2 = [.ref p y f b i] := hd
          clear hlt
          go_wp2_with fail
          refine (where_any [.ref p y f b i] _ (HG.out.quiet hs.out.keep) hs.out.chain hs.out.falls).mono ?_
          rintro e w8 ⟨he, hk8⟩
          obtain rfl : e = .returned (.tuple #[.agg #[.int .i64 f, .int .i64 b, .int .i64 i], .bool true]) := he.trans (by unfold whereV firstOf; simp [hf])
          have H8 := hid (hs.out.quiet hk8)
          clear hs hk8 hj
          go_wp2_with fail
          have k9 := Keeps.alloc [] w8 (.cells #[.int .i64 f, .int .i64 b, .int .i64 i] 38)
          have H9 := hid (H8.out.quiet k9)
          have Q9 := hid (heap_new w8 (.cells #[.int .i64 f, .int .i64 b, .int .i64 i] 38))
          refine (why_any [.ref p y f b i] _ (HG.out.quiet H9.out.keep) H9.out.chain H9.out.falls).mono ?_
          rintro e w10 ⟨he, hk10⟩
          obtain rfl : e = .returned (.int .i64 y) := he
          have H10 := hid (H9.out.quiet hk10)
          have hq := (hk10.block _ (heap_lt Q9.out) (by simp)).trans Q9.out
          have q0 := pcell hq 0
          have q1 := pcell hq 1
          have q2 := pcell hq 2
          have a0 := pcell H10.out.place 0
          have a1 := pcell H10.out.place 1
          have a2 := pcell H10.out.place 2
          clear hk10 hq H9 Q9 k9 H8 hf g5
          go_wp2_with fail
          refine (eunwrap_any [.ref p y f b i] _ H10.out.chain).mono ?_
          rintro e w11 ⟨he, rfl⟩
          obtain rfl : e = .returned .nilIface := he
          go_wp2_with fail
          go_ret
          exact ⟨rfl, H10.out.keep⟩

/-- RefuseDeep, of all numbers. -/
theorem refuseDeep_walk (n y f b i : Int) (w : World) (hg : Glob w) (_ : wf64 n) (_ : wf64 y) (_ : wf64 f) (_ : wf64 b) (_ : wf64 i) :
    Calls Tryd.prog 6 #[.int .i64 n, .int .i64 y, .agg #[.int .i64 f, .int .i64 b, .int .i64 i]] w fun e w' => e = .returned (.bool true) ∧ Keeps [] w w' := by
  by_cases h : (0 ≤ n ∧ n ≤ 60) ∧ (1 ≤ y ∧ y ≤ 7) ∧ 0 ≤ f
  · obtain ⟨⟨h1, h2⟩, ⟨h3, h4⟩, h5⟩ := h
    obtain ⟨m, rfl⟩ : ∃ m : Nat, n = (m : Int) := ⟨n.toNat, by omega⟩
    exact deep_in m y f b i w hg (by omega) h3 h4 h5
  · exact deep_out n y f b i w hg (by omega)
end Go.Proofs.YtjofffhfabmfkaaDoor
