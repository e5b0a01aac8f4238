/-
  Contract: the statements' own Order.
-/
import Derived.Test.YtjckdjeckbdmdaaDoorGDeep
namespace Go.Proofs.YtjckdjeckbdmdaaDoor
open Go.RowKit

theorem zero_bool : Tryd.t4.zero = some (.bool false) := by kernel_rfl
theorem size_bool : Tryd.t4.size = 1 := by kernel_rfl
theorem bytes_bool : Tryd.t4.bytes = 1 := by kernel_rfl
theorem info_bool : Tryd.prog.info? 4 = some Tryd.t4 := by kernel_rfl
theorem under_bools : Tryd.prog.underlying 34 = some (.slice 4) := by kernel_rfl

set_option maxHeartbeats 400000 in
theorem rorder_out (a : Option Addr) (len cap : Nat) (n : Int) (w : World) (hn : ¬ (0 ≤ n ∧ n < (len : Int))) :
    Calls Tryd.prog 22 #[.slice a len cap, .int .i64 n] w fun e w' => e = .returned (.slice none 0 0) ∧ w' = w := by
  by_cases h : n < 0
  · clear hn
    have hd : decide (n < 0) = true := decide_eq_true h
    go_enter Tryd.func22, Tryd.ntmps22
    go_wp2
    go_ret
    exact ⟨rfl, rfl⟩
  · have hd : decide (n < 0) = false := decide_eq_false h
    have hd2 : decide ((len : Int) ≤ n) = true := decide_eq_true (by omega)
    go_enter Tryd.func22, Tryd.ntmps22
    go_wp2
    go_ret
    exact ⟨rfl, rfl⟩

set_option maxHeartbeats 2000000 in
theorem rorder_in (g : List (List Nat)) (hs : Sm g) (a : Option Addr) (cap B n : Nat) (w : World) (hG : GAt w B a g) (hB : B ≤ w.heap.size) (hn : n < g.length) :
    Calls Tryd.prog 22 #[.slice a g.length cap, .int .i64 (n : Int)] w fun e w' => ∃ v, e = .returned v ∧ w'.ownsRow w.heap.size 3 1 v (ordG g n).length (ints (ordG g n)) ∧ Keeps [] w w' := by
  have HG := hid hG
  have HS := hid hs
  have HD := hid (fun w1 b (h0 : w.heap.size ≤ b) (h1 : w.heap.size ≤ w1.heap.size) h2 h3 => deep_any g hs.ok hs.len hs.inner B b w.heap.size w.heap.size a cap (Nat.le_trans hB h0) hB (g.length + 1) n none_ [] (.slice none 0 0) w1 hn (un_no g) rfl (by have := un_le g none_; have := hs.len; simp; omega) h2 h1 h3 (nil_row w1 _))
  have hlen := hid (vis_list_le hs (g.length + 1) n none_ hn)
  have hg6 := hs.len
  obtain ⟨N, hN⟩ : ∃ N, g.length = N := ⟨_, rfl⟩
  rw [hN] at HD hg6 hn ⊢
  have HN := hid hN
  clear hG hs hN
  have hd : decide ((n : Int) < 0) = false := decide_eq_false (by omega)
  have hd2 : decide ((N : Int) ≤ (n : Int)) = false := decide_eq_false (by omega)
  have hww : w.heap.size ≤ w.heap.size := Nat.le_refl _
  go_enter Tryd.func22, Tryd.ntmps22
  go_wp2_with (at_make; go_must (refine wpList_make_full _ rfl _ _ 34 rfl w.heap.size 4 Tryd.t4 (.bool false) 1 under_bools info_bool zero_bool size_bool .i64 .i64 _ _ N rfl rfl rfl rfl (by rw [bytes_bool]; omega) (by unfold maxLen; omega) hww ?_; intro w2 hown2 hgrow2))
  have k2 : Keeps [] w w2 := Keeps.grown [] hgrow2 (by simp)
  have R2 : RowAt w2 w.heap.size w.heap.size N 4 (bl none_) := (RowAt.made hown2 rfl).congr (fun i _ => rfl)
  refine (HD.out w2 w.heap.size (Nat.le_refl _) k2.size (HG.out.quiet k2) R2).mono ?_
  rintro e w3 ⟨v3, rfl, F3⟩
  have F3' := hid F3
  have k3 : Keeps [] w w3 := k2.fresh F3.keep (fun x hx => by simp [Value.ownBlock] at hx; omega)
  clear F3 HD hown2 hgrow2 R2 hd hd2
  obtain ⟨l, hl⟩ : ∃ l, (vis g (g.length + 1) n (none_, [])).2 = l := ⟨_, rfl⟩
  have HL : Box (ordG g n = l.reverse) := hid (by rw [← hl]; rfl)
  have hl6 : l.length ≤ 600 := by rw [← hl]; exact hlen.out
  have hrow := F3'.out.row
  rw [← HN.out] at hrow
  have e9 : (vis g (g.length + 1) n (none_, [])).2 = l := hl
  rw [e9] at hrow
  obtain ⟨al, cl, rfl, hnl, _, _⟩ := ownsRow_nat hrow
  have HNL := hid hnl
  clear hl e9 hrow hnl hlen F3'
  obtain ⟨ll, hll⟩ : ∃ ll, l.length = ll := ⟨_, rfl⟩
  have HLL := hid hll
  rw [hll] at hl6 ⊢
  clear hll
  go_wp2_with fail
  go_loopw [6, 7] (fun v6 v7 wr => ∃ (vr : Value) (k : Nat), v7 = .int .i64 ((ll : Int) - 1 - (k : Int)) ∧ vr = v6 ∧ k ≤ ll ∧ Box (wr.ownsRow w3.heap.size 3 1 vr (l.reverse.take k).length (ints (l.reverse.take k))) ∧ Keeps [] w3 wr) (fun _ v7 _ => (intOf v7 + 1).toNat)
  case atStart => exact ⟨_, 0, by go_num, rfl, by omega, hid (nil_row _ _), Keeps.refl _ _⟩
  case round =>
    obtain ⟨vr, k, rfl, rfl, hk, HO, hkw⟩ := hrel
    by_cases hkl : k < ll
    · have hrl : k < l.reverse.length := by rw [List.length_reverse, HLL.out]; exact hkl
      obtain ⟨j, hj⟩ : ∃ j : Nat, (ll : Int) - 1 - (k : Int) = (j : Int) := ⟨ll - 1 - k, by omega⟩
      have hjl : j < ll := by omega
      obtain ⟨bz, oz, rfl, hcz⟩ := (HNL.out.kept hkw (by simp)).at (k := j) (by rw [HLL.out]; exact hjl)
      have htk := hid (take_snoc l.reverse k 0 hrl)
      have hel : l.reverse.getD k 0 = l.getD j 0 := by
        rw [List.getD_eq_getElem?_getD, List.getD_eq_getElem?_getD, List.getElem?_reverse (by rw [HLL.out]; exact hkl), HLL.out, show ll - 1 - k = j by omega]
      rw [hel] at htk
      obtain ⟨x, hx⟩ : ∃ x, l.getD j 0 = x := ⟨_, rfl⟩
      rw [hx] at hcz htk
      clear hx hel hrl
      have htl : (l.reverse.take k).length = k := by rw [List.length_take, List.length_reverse, HLL.out]; omega
      rw [htl] at HO
      have hws := hkw.size
      have hjj : ((ll : Int) - 1 - (k : Int)) - 1 = (ll : Int) - 1 - ((k + 1 : Nat) : Int) := by omega
      have HJ := hid hj
      rw [hj] at hjj ⊢
      have hj0 : (0 : Int) ≤ (j : Int) := by omega
      have hjl' : (j : Int) < (ll : Int) := by omega
      clear hj
      go_wp2_with (at_builtin; go_must (refine wpList_append_own _ rfl _ _ 23 rfl w3.heap.size 3 Tryd.t3 (.int .i64 0) 1 8 under_ints info_int zero_int size_int bytes_int rfl (by decide) vr _ _ rfl (HO.out.alloc _) _ 1 1 [.int .i64 (x : Int)] rfl rfl (cell_one_new _ _ _) (fun x hx => by simp at hx; subst hx; rfl) (by unfold maxLen; omega) (by omega) (by simp; omega) ?_; intro v8 w8 hown8 hgrow8 hnil8))
      have HO8 : Box (w8.ownsRow w3.heap.size 3 1 v8 (l.reverse.take (k + 1)).length (ints (l.reverse.take (k + 1)))) := hid (by
        rw [htk.out, List.length_append, htl, show ints (l.reverse.take k ++ [x]) = ints (l.reverse.take k) ++ [.int .i64 (x : Int)] from by simp [ints]]
        exact hown8)
      have k8 : Keeps [] w3 w8 := (hkw.quiet (Keeps.alloc [] _ _)).fresh (Keeps.grown vr.ownBlock.toList hgrow8 (fun y hy => by rw [hy]; simp)) (own_new HO.out)
      clear hown8 hgrow8 hnil8
      go_roundw
      case rel => exact ⟨v8, k + 1, by rw [← hjj]; go_num, rfl, by omega, HO8, k8⟩
      case measure => simp [intOf]; omega
    · obtain rfl : k = ll := by omega
      have e : (k : Int) - 1 - (k : Int) = -1 := by omega
      rw [e]
      go_wp2
      go_ret
      refine ⟨_, rfl, ?_, k3.quiet hkw⟩
      have hall : l.reverse.take k = l.reverse := by rw [← HLL.out, ← List.length_reverse, List.take_length]
      rw [hall] at HO
      rw [HL.out]
      exact ownsRow_base HO.out k3.size
end Go.Proofs.YtjckdjeckbdmdaaDoor
