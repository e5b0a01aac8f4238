/-
  The statement DomLine.
-/
import Derived.Test.YtjdcphkmaaoehaaDBegun
import Derived.Test.YtjdcphkmaaoehaaDLine
import Derived.Test.YtjdcphkmaaoehaaGLaw
namespace Go.Proofs.Ytjdcphkmaaoehaa
open Go.RowKit

theorem line_dep {n : Nat} {U D : Nat → Int} (h : UpOf (lineG n) 0 U) (hd : DepOf (lineG n) 0 U D) : ∀ b, b < n → D b = (b : Int)
  | 0, _ => hd.root
  | b + 1, hb => by
    have h1 := line_up h hb
    have h2 := hd.next (b + 1) (line_reach hb) (by omega) b (by rw [h1]; congr 1)
    rw [h2, line_dep h hd b (by omega)]
    omega
/-- A new list is put into its place. -/
theorem OwnL.lit {w : World} {base p n : Nat} {vs : Nat → Value} {L : Nat → List Nat} (h : OwnL w base p n vs L) {k : Nat} (hk : k < n) (l : List Nat) (xs : Array Value) (hx : xs = (ints l).toArray) (hl : l.length ≤ maxLen) (hb : base ≤ w.heap.size) :
    OwnL ((w.alloc (.cells xs 3)).setCell ⟨p, k, none⟩ (.slice (some ⟨w.heap.size, 0, none⟩) l.length l.length)) base p n (fun i => if i = k then .slice (some ⟨w.heap.size, 0, none⟩) l.length l.length else vs i) (fun i => if i = k then l else L i) := by
  have ka : Keeps [] w (w.alloc (.cells xs 3)) := Keeps.alloc _ _ _
  have h2 := h.quiet ka
  have hnew : (w.alloc (.cells xs 3)).ownsRow base 3 1 (.slice (some ⟨w.heap.size, 0, none⟩) l.length l.length) l.length (ints l) := by
    refine ⟨by simp [ints], .inr ⟨w.heap.size, l.length, xs, rfl, hb, heap_alloc_new w _, Nat.le_refl _, hl, by rw [hx]; simp [ints], ?_⟩⟩
    rw [hx, List.take_of_length_le (by simp [ints])]
  have ks : Keeps [p] (w.alloc (.cells xs 3)) ((w.alloc (.cells xs 3)).setCell ⟨p, k, none⟩ (.slice (some ⟨w.heap.size, 0, none⟩) l.length l.length)) := Keeps.setCell _ _ _ _ (by simp)
  have hp := h.outer.lt.2
  refine ⟨h2.outer.put k _, fun i hi => ?_, fun i j b hi hj hbi hbj => ?_⟩
  · by_cases e : i = k
    · subst e
      simp only [if_true]
      exact ownsRow_keeps hnew ks (fun b hb' => by simp [Value.ownBlock] at hb'; simp; omega)
    · simp only [e, if_false]
      exact ownsRow_keeps (h2.inner i hi) ks (fun b hb' hx' => h2.ne hi (by simp at hx'; rw [hb', hx']))
  · by_cases e1 : i = k
    · by_cases e2 : j = k
      · omega
      · simp only [e1, if_true] at hbi
        simp only [e2, if_false] at hbj
        have := ((h.inner j hj).lt b hbj).2
        simp [Value.ownBlock] at hbi
        omega
    · by_cases e2 : j = k
      · simp only [e2, if_true] at hbj
        simp only [e1, if_false] at hbi
        have := ((h.inner i hi).lt b hbi).2
        simp [Value.ownBlock] at hbj
        omega
      · simp only [e1, if_false] at hbi
        simp only [e2, if_false] at hbj
        exact h.apart i j b hi hj hbi hbj

set_option maxRecDepth 20000 in
set_option maxHeartbeats 8000000 in
theorem domLine_law (n a b : Int) (w : World) :
    Calls Try.prog 5 #[.int .i64 n, .int .i64 a, .int .i64 b] w fun e w' => e = .returned (.bool true) ∧ Keeps [] w w' := by
  have HBG := hid (begun6_any w)
  go_enter Try.func5, Try.ntmps5
  go_wp2_with fail
  refine HBG.out.mono ?_
  rintro e w1 ⟨rfl, k1⟩
  clear HBG
  by_cases hbad : n < 1 ∨ 200 < n ∨ a < 0 ∨ n ≤ a ∨ b < 0 ∨ n ≤ b
  · by_cases h1 : n < 1
    · clear hbad
      go_wp2
      go_ret
      exact ⟨rfl, k1⟩
    · by_cases h2 : 200 < n
      · clear hbad
        go_wp2
        go_ret
        exact ⟨rfl, k1⟩
      · by_cases h3 : a < 0
        · clear hbad
          go_wp2
          go_ret
          exact ⟨rfl, k1⟩
        · by_cases h4 : n ≤ a
          · clear hbad
            go_wp2
            go_ret
            exact ⟨rfl, k1⟩
          · by_cases h5 : b < 0
            · clear hbad
              go_wp2
              go_ret
              exact ⟨rfl, k1⟩
            · have h6 : n ≤ b := by omega
              clear hbad
              go_wp2
              go_ret
              exact ⟨rfl, k1⟩
  · obtain ⟨N, rfl⟩ : ∃ N : Nat, n = (N : Int) := Int.eq_ofNat_of_zero_le (by omega)
    obtain ⟨x, rfl⟩ : ∃ x : Nat, a = (x : Int) := Int.eq_ofNat_of_zero_le (by omega)
    obtain ⟨y, rfl⟩ : ∃ y : Nat, b = (y : Int) := Int.eq_ofNat_of_zero_le (by omega)
    have h1 : ¬ (N : Int) < 1 := by omega
    have h2 : ¬ (200 : Int) < (N : Int) := by omega
    have h3 : ¬ (x : Int) < 0 := by omega
    have h4 : ¬ (N : Int) ≤ (x : Int) := by omega
    have h5 : ¬ (y : Int) < 0 := by omega
    have h6 : ¬ (N : Int) ≤ (y : Int) := by omega
    have hN1 : 1 ≤ N := by omega
    have hN2 : N ≤ 200 := by omega
    have hxN : x < N := by omega
    have hyN : y < N := by omega
    clear hbad
    have hww : w1.heap.size ≤ w1.heap.size := Nat.le_refl _
    go_wp2_with (at_make; go_must (refine wpList_make_full _ rfl _ _ 24 rfl w1.heap.size 28 Try.t28 (.slice none 0 0) 1 under_lists info_ints zero_ints size_ints .i64 .i64 _ _ N rfl rfl rfl rfl (by rw [bytes_ints]; omega) (by unfold maxLen; omega) hww ?_; intro w2 hown2 hgrow2))
    have k2 : Keeps [] w1 w2 := Keeps.grown [] hgrow2 (by simp)
    have R2 := RowAt.made hown2 rfl
    have kA : Keeps [] w2 (w2.alloc (.cells #[.int .i64 (N : Int), .slice (some ⟨w1.heap.size, 0, none⟩) N N] 26)) := Keeps.alloc _ _ _
    have T3 := hid (TwoAt.new w2 (.int .i64 (N : Int)) (.slice (some ⟨w1.heap.size, 0, none⟩) N N))
    have O3 : Box (OwnL (w2.alloc (.cells #[.int .i64 (N : Int), .slice (some ⟨w1.heap.size, 0, none⟩) N N] 26)) w1.heap.size w1.heap.size N (fun _ => nilS) (fun i => if i < 0 then [i + 1, 0] else [])) := hid ((OwnL.nil (R2.kept kA (by simp))).congr (fun i _ => ⟨rfl, rfl⟩))
    have K3 := hid ((k1.quiet k2).quiet kA)
    have hsz := k2.size
    have k13 := hid (k2.quiet kA)
    clear hown2 hgrow2 R2 kA k2 hww
    obtain ⟨p, hp⟩ : ∃ p, w1.heap.size = p := ⟨_, rfl⟩
    rw [hp] at T3 O3 k13 K3 ⊢
    have HP := hid hp
    have hpsz : p ≤ w2.heap.size := by omega
    clear hp
    generalize w2.alloc (.cells #[.int .i64 (N : Int), .slice (some ⟨p, 0, none⟩) N N] 26) = w3 at T3 O3 K3 k13 ⊢
    generalize w2.heap.size = bx at T3 hpsz ⊢
    go_loopw [9] (fun iv wr => ∃ (i : Nat) (vs : Nat → Value), iv = .int .i64 (i : Int) ∧ i < N ∧ Box (OwnL wr p p N vs (fun j => if j < i then [j + 1, 0] else [])) ∧ Box (TwoAt wr bx (.int .i64 (N : Int)) (.slice (some ⟨p, 0, none⟩) N N)) ∧ Box (Keeps [] w1 wr)) (fun iv _ => N - (intOf iv).toNat)
    case atStart => exact ⟨0, _, rfl, by omega, O3, T3, k13⟩
    case round =>
      clear O3 T3 K3 k13
      obtain ⟨i, vs, rfl, hi, HO, HT, HK⟩ := hrel
      by_cases hlt : i + 1 < N
      · have hlt' : (i : Int) + 1 < (N : Int) := by omega
        have c1 := HT.out.c1
        have co := HO.out.cell hi
        have fo := HO.out.outer.frozen i
        have hp2 := HO.out.outer.lt.2
        have hbl := HT.out.lt
        have hi' : (i : Int) < (N : Int) := by omega
        have hne : bx ≠ p := two_ne_row HT.out HO.out.outer
        have O4 := hid (HO.out.lit (k := i) (by omega) [i + 1, 0] #[.int .i64 ((i : Int) + 1), .int .i64 0] (by simp [ints]) (by unfold maxLen; simp) (by omega))
        have ka : Keeps [] wr (wr.alloc (.cells #[.int .i64 ((i : Int) + 1), .int .i64 0] 3)) := Keeps.alloc _ _ _
        have ks : Keeps [p] (wr.alloc (.cells #[.int .i64 ((i : Int) + 1), .int .i64 0] 3)) ((wr.alloc (.cells #[.int .i64 ((i : Int) + 1), .int .i64 0] 3)).setCell ⟨p, i, none⟩ (.slice (some ⟨wr.heap.size, 0, none⟩) 2 2)) := Keeps.setCell _ _ _ _ (by simp)
        have T4 := hid ((HT.out.kept ka (by simp)).kept ks (by simp; exact hne))
        have K4 := hid ((HK.out.quiet ka).fresh ks (fun z hz => by simp at hz; have := HP.out; omega))
        have O5 : Box (OwnL ((wr.alloc (.cells #[.int .i64 ((i : Int) + 1), .int .i64 0] 3)).setCell ⟨p, i, none⟩ (.slice (some ⟨wr.heap.size, 0, none⟩) 2 2)) p p N (fun j => if j = i then .slice (some ⟨wr.heap.size, 0, none⟩) 2 2 else vs j) (fun j => if j < i + 1 then [j + 1, 0] else [])) := hid (O4.out.congr (fun j _ => ⟨rfl, by
          by_cases e : j = i
          · subst e; simp
          · have : j < i + 1 ↔ j < i := by omega
            simp only [e, if_false, this]⟩))
        rw [World.setCell_alloc_past _ _ _ _ hp2] at O5 T4 K4
        clear O4 HO HT HK ka ks
        go_wp2
        generalize (wr.setCell ⟨p, i, none⟩ (.slice (some ⟨wr.heap.size, 0, none⟩) 2 2)).alloc (.cells #[.int .i64 ((i : Int) + 1), .int .i64 0] 3) = w5 at O5 T4 K4 ⊢
        go_roundw
        case rel => exact ⟨i + 1, _, by go_num, by omega, O5, T4, K4⟩
        case measure => simp [intOf]; omega
      · have hL : Box (LG w wr bx p wr.heap.size (lineG N)) := hid (by
          have hg := HO.out.graph
          have e : (List.range N).map (fun j => if j < i then [j + 1, 0] else []) = lineG N := by
            unfold lineG
            refine List.map_congr_left fun j hj => ?_
            have := List.mem_range.1 hj
            unfold lineL
            by_cases h7 : j < i
            · rw [if_pos h7, if_pos (by omega)]
            · rw [if_neg h7, if_neg (by omega)]
          rw [e] at hg
          exact ⟨by rw [lineG_len]; exact HT.out, hg, HT.out.lt, Nat.le_refl _, k1.quiet HK.out, (k1.quiet HK.out).size⟩)
        have hlt' : ¬ (i : Int) + 1 < (N : Int) := by omega
        have hsm : Sm (lineG N) := ⟨(line_sm (by omega)).1, (line_sm (by omega)).2.1, (line_sm (by omega)).2.2⟩
        have h0g : 0 < (lineG N).length := by rw [lineG_len]; omega
        have HUP := hid (up_in (lineG N) hsm (some ⟨p, 0, none⟩) (lineG N).length wr.heap.size 0 wr hL.out.gr (Nat.le_refl _) h0g)
        have HDP := hid (fun U (hU : UpOf (lineG N) 0 U) pu wz (h : UAt wz pu (lineG N).length U) (hp : pu < wz.heap.size) => depth_any (lineG N) hsm 0 h0g U (depU (lineG N) 0 U) hU (depU_of hsm.ok h0g hU) pu wz h hp)
        have HAB := hid (fun U (hU : UpOf (lineG N) 0 U) pu wz (h : UAt wz pu (lineG N).length U) a b d hd => above_any (lineG N) hsm 0 h0g U hU pu wz h a b d hd)
        have HDO := hid (fun U (hU : UpOf (lineG N) 0 U) => depU_of hsm.ok h0g hU)
        rw [lineG_len] at HUP HDP HAB
        have c0 := HT.out.c0
        have c1 := HT.out.c1
        have KF := hid (k1.quiet HK.out)
        clear HO HT HK hL hsm h0g
        go_wp2_with fail
        refine HUP.out.mono ?_
        rintro e w4 ⟨pu, U, rfl, r4, u4, k4⟩
        have R4 := hid r4.uat
        have U4 := hid u4
        have hpu := r4.lt.2
        have K4 := hid (KF.out.quiet k4)
        clear r4 u4 k4 c0 c1 HUP KF
        go_wp2_with fail
        refine (HDP.out U U4.out pu w4 R4.out hpu).mono ?_
        rintro e w5 ⟨pd, rfl, r5, k5⟩
        have D5 := r5.uat
        have R5 := R4.out.kept k5 (by simp)
        have K5 := hid (K4.out.quiet k5)
        have HA := hid (HAB.out U U4.out pu w5 R5 (x : Int) (y : Int) (decide (x ≤ y)) (by
          rw [decide_eq_true_iff]
          constructor
          · intro h
            exact ⟨x, y, rfl, rfl, (line_dom hyN).2 h⟩
          · rintro ⟨i', j', e1, e2, h8⟩
            obtain rfl : x = i' := by omega
            obtain rfl : y = j' := by omega
            exact (line_dom hyN).1 h8))
        have cu0 := R5 0 (by omega)
        rw [show U 0 = 0 from U4.out.root] at cu0
        have cuy := R5 y hyN
        rw [line_up U4.out hyN] at cuy
        have cdy := D5 y hyN
        rw [line_dep U4.out (HDO.out U U4.out) y hyN] at cdy
        clear r5 k5 HDP HAB HDO R5 D5 R4 K4 hpu
        have hNN : ((N : Int) == (N : Int)) = true := by simp
        have hyy : ((y : Int) == (y : Int)) = true := by simp
        have hyN' : (y : Int) < (N : Int) := by omega
        by_cases hy0 : y = 0
        · subst hy0
          go_wp2_with (go_at_call 14; refine HA.out.mono ?_; rintro e wq ⟨rfl, hwq⟩; rw [hwq]; clear hwq)
          go_ret
          exact ⟨rfl, K5.out⟩
        · have hyc : (((y - 1 : Nat) : Nat) : Int) = (y : Int) - 1 := by omega
          rw [hyc] at cuy
          have hy1 : (1 : Int) ≤ (y : Int) := by omega
          clear hyc
          go_wp2_with (go_at_call 14; refine HA.out.mono ?_; rintro e wq ⟨rfl, hwq⟩; rw [hwq]; clear hwq)
          all_goals
            go_ret
            exact ⟨rfl, K5.out⟩
end Go.Proofs.Ytjdcphkmaaoehaa
