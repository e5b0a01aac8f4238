/-
  The statement UnionTurned: its walk.
-/
import Derived.Test.YtokoebbghkbliaaUTwo
import Derived.Test.YtokoebbghkbliaaUGen
import Derived.Test.YtokoebbghkbliaaUPairs
import Derived.Deep.RegionWith
namespace Go.Proofs.Ytokoebbghkbliaa
open Go.RowKit

theorem two_joinU {w wr : World} {bu bv n : Nat} {ru rv : Nat → Nat} (h : Two w wr bu bv n ru rv) (x y : Int) :
    Calls Try.prog 11 #[.pointer (some ⟨bu, 0, none⟩), .int .i64 x, .int .i64 y] wr fun e w' => e = .returned (.bool (joinB n ru x y)) ∧ Two w w' bu bv n (joinI n ru x y) rv :=
  (join_any bu n ru x y wr h.u).mono fun _ _ ⟨he, h1, h2⟩ => ⟨he, h.onU h1 h2⟩
theorem two_joinV {w wr : World} {bu bv n : Nat} {ru rv : Nat → Nat} (h : Two w wr bu bv n ru rv) (x y : Int) :
    Calls Try.prog 11 #[.pointer (some ⟨bv, 0, none⟩), .int .i64 x, .int .i64 y] wr fun e w' => e = .returned (.bool (joinB n rv x y)) ∧ Two w w' bu bv n ru (joinI n rv x y) :=
  (join_any bv n rv x y wr h.v).mono fun _ _ ⟨he, h1, h2⟩ => ⟨he, h.onV h1 h2⟩

theorem two_joinUY {w wr : World} {bu bv n Y : Nat} {ru rv : Nat → Nat} (h : Two w wr bu bv n ru rv) (x y q1 q2 : Int) (hY : bu ≠ Y) (c0 : wr.cell? ⟨Y, 0, none⟩ = some (.int .i64 q1)) (c1 : wr.cell? ⟨Y, 1, none⟩ = some (.int .i64 q2)) :
    Calls Try.prog 11 #[.pointer (some ⟨bu, 0, none⟩), .int .i64 x, .int .i64 y] wr fun e w' => e = .returned (.bool (joinB n ru x y)) ∧ Box (Two w w' bu bv n (joinI n ru x y) rv) ∧ w'.cell? ⟨Y, 0, none⟩ = some (.int .i64 q1) ∧ w'.cell? ⟨Y, 1, none⟩ = some (.int .i64 q2) :=
  (join_any bu n ru x y wr h.u).mono fun _ _ ⟨he, h1, h2⟩ => ⟨he, hid (h.onU h1 h2), (h2.cell (p := ⟨Y, 0, none⟩) (block_lt_of_cell c0) (by simp; omega)).trans c0, (h2.cell (p := ⟨Y, 1, none⟩) (block_lt_of_cell c1) (by simp; omega)).trans c1⟩

theorem pair_keeps (wr : World) (o1 o2 : Obj) : Keeps [] wr ((wr.alloc o1).alloc o2).drew := ((Keeps.alloc [] _ _).quiet (Keeps.alloc [] _ _)).quiet (Keeps.drew _ _)
theorem pair_cells1 (wr : World) (a b : Int) (o : Obj) : (((wr.alloc (.cells #[.int .i64 a, .int .i64 b] 27)).alloc o).drew).cell? ⟨wr.heap.size, 0, none⟩ = some (.int .i64 a) ∧ (((wr.alloc (.cells #[.int .i64 a, .int .i64 b] 27)).alloc o).drew).cell? ⟨wr.heap.size, 1, none⟩ = some (.int .i64 b) := by
  have hk : Keeps [] (wr.alloc (.cells #[.int .i64 a, .int .i64 b] 27)) ((wr.alloc (.cells #[.int .i64 a, .int .i64 b] 27)).alloc o).drew := (Keeps.alloc [] _ _).quiet (Keeps.drew _ _)
  have hh := heap_alloc_new wr (.cells #[.int .i64 a, .int .i64 b] 27)
  have c0 := cell_of_row _ _ 0 _ _ _ hh
  have c1 := cell_of_row _ _ 1 _ _ _ hh
  exact ⟨(hk.cell (p := ⟨wr.heap.size, 0, none⟩) (block_lt_of_cell c0) (by simp)).trans c0, (hk.cell (p := ⟨wr.heap.size, 1, none⟩) (block_lt_of_cell c1) (by simp)).trans c1⟩
theorem pair_cells2 (wr : World) (a b : Int) (o : Obj) : (((wr.alloc o).alloc (.cells #[.int .i64 a, .int .i64 b] 27)).drew).cell? ⟨wr.heap.size + 1, 0, none⟩ = some (.int .i64 a) ∧ (((wr.alloc o).alloc (.cells #[.int .i64 a, .int .i64 b] 27)).drew).cell? ⟨wr.heap.size + 1, 1, none⟩ = some (.int .i64 b) := by
  have hs : (wr.alloc o).heap.size = wr.heap.size + 1 := by simp
  have hh := heap_alloc_new (wr.alloc o) (.cells #[.int .i64 a, .int .i64 b] 27)
  rw [hs] at hh
  exact ⟨cell_of_row _ _ 0 _ _ _ hh, cell_of_row _ _ 1 _ _ _ hh⟩

set_option maxHeartbeats 2000000 in
theorem turned_in (n : Nat) (pa : Option Addr) (L cap : Nat) (zs : List (Int × Int)) (w : World) (hz : PairsAt w pa zs) (hL : zs.length = L) (hn : n ≤ 60) (hL2 : L ≤ 60) :
    Calls Try.prog 4 #[.int .i64 (n : Int), .slice pa L cap] w fun e w' => e = .returned (.bool true) ∧ Keeps [] w w' := by
  have HA := hid (begun_any w)
  have HZ := hid hz
  have HL := hid hL
  clear hz hL
  have f1 : decide ((n : Int) < 0) = false := decide_eq_false (by omega)
  have f2 : decide ((60 : Int) < (n : Int)) = false := decide_eq_false (by omega)
  have f3 : decide ((60 : Int) < (L : Int)) = false := decide_eq_false (by omega)
  go_enter Try.func4, Try.ntmps4
  go_wp2_with fail
  refine HA.out.mono ?_
  rintro e w1 ⟨rfl, hk1⟩
  clear HA
  have HA := hid (new_nat n w1 (by omega))
  go_wp2_with fail
  refine HA.out.mono ?_
  rintro e w2 ⟨rfl, hu2, hk2⟩
  clear HA
  have HA := hid (new_nat n w2 (by omega))
  go_wp2_with fail
  refine HA.out.mono ?_
  rintro e w3 ⟨rfl, hv3, hk3⟩
  have hT := hid (two_new hk1 hu2 hk2 hv3 hk3)
  clear HA hk1 hu2 hk2 hv3 hk3
  generalize w1.heap.size = bu at hT ⊢
  generalize w2.heap.size = bv at hT ⊢
  go_wp2_with fail
  go_loopw [8] (fun i wr => ∃ (k : Nat) (ru rv : Nat → Nat), k ≤ L ∧ i = .int .i64 k ∧ Box (Two w wr bu bv n ru rv) ∧ Box (Gen n (fun p => p ∈ zs.take k) ru ∧ Gen n (fun p => p ∈ zs.drop (zs.length - k)) rv)) (fun i _ => L - (intOf i).toNat)
  case atStart => exact ⟨0, _, _, by omega, rfl, hT, hid ⟨gen_alone n _ (by simp), gen_alone n _ (by simp)⟩⟩
  case round =>
    clear hT
    obtain ⟨k, ru, rv, hk, rfl, hT, hG⟩ := hrel
    by_cases hlt : k < L
    · have hlt' : (k : Int) < (L : Int) := by omega
      rcases HZ.out with h0 | ⟨bp, op, rfl, hc⟩
      · have := HL.out
        rw [h0] at this
        simp at this
        omega
      · obtain ⟨j, hj⟩ : ∃ j, L - 1 - k = j := ⟨_, rfl⟩
        have hjL : j < L := by omega
        have hjI : (L : Int) - 1 - (k : Int) = (j : Int) := by omega
        have hg1 := hid (hG.out.1.step (zs.getD k (0, 0)))
        have hg2 := hid (hG.out.2.step (zs.getD j (0, 0)))
        have hg1' : Box (Gen n (fun p => p ∈ zs.take (k + 1)) (joinI n ru (zs.getD k (0, 0)).1 (zs.getD k (0, 0)).2)) := hid (hg1.out.congr fun p => (mem_take_succ zs (0, 0) k (by rw [HL.out]; exact hlt) p).symm)
        have hg2' : Box (Gen n (fun p => p ∈ zs.drop (zs.length - (k + 1))) (joinI n rv (zs.getD j (0, 0)).2 (zs.getD j (0, 0)).1)) := hid (by
          rw [joinI_comm]
          refine hg2.out.congr fun p => ?_
          have := mem_drop_succ zs (0, 0) k (by rw [HL.out]; exact hlt) p
          rw [HL.out, hj] at this
          rw [HL.out]
          exact this.symm)
        obtain ⟨c1, c2⟩ := hc k (by rw [HL.out]; exact hlt)
        obtain ⟨c3, c4⟩ := hc j (by rw [HL.out]; exact hjL)
        have d1 := (hT.out.keep.cell (p := ⟨bp, op + k * 2, none⟩) (block_lt_of_cell c1) (by simp)).trans c1
        have d2 := (hT.out.keep.cell (p := ⟨bp, op + k * 2 + 1, none⟩) (block_lt_of_cell c2) (by simp)).trans c2
        have d3 := (hT.out.keep.cell (p := ⟨bp, op + j * 2, none⟩) (block_lt_of_cell c3) (by simp)).trans c3
        have d4 := (hT.out.keep.cell (p := ⟨bp, op + j * 2 + 1, none⟩) (block_lt_of_cell c4) (by simp)).trans c4
        have hbp := block_lt_of_cell d1
        simp only at hbp
        clear c1 c2 c3 c4 hc hg1 hg2 hG
        generalize (zs.getD k (0, 0)).1 = p1 at *
        generalize (zs.getD k (0, 0)).2 = p2 at *
        generalize (zs.getD j (0, 0)).1 = q1 at *
        generalize (zs.getD j (0, 0)).2 = q2 at *
        go_wp2
        go_region
        all_goals
          first
          | (have hTx := hid (hT.out.quiet (pair_keeps wr (Obj.cells #[.int .i64 p1, .int .i64 p2] 27) (Obj.cells #[.int .i64 q1, .int .i64 q2] 27)))
             obtain ⟨y0, y1⟩ := pair_cells2 wr q1 q2 (Obj.cells #[.int .i64 p1, .int .i64 p2] 27)
             obtain ⟨x0, x1⟩ := pair_cells1 wr p1 p2 (Obj.cells #[.int .i64 q1, .int .i64 q2] 27)
             have hne : bu ≠ wr.heap.size + 1 := by have h1 := hT.out.u.lt; omega
             have HJ := hid (two_joinUY hTx.out p1 p2 q1 q2 hne y0 y1)
             clear hTx hT
             go_wp2_with fail
             refine HJ.out.mono ?_
             clear HJ x0 x1 y0 y1
             rintro e w5 ⟨rfl, hT5, y0, y1⟩
             have HJ := hid (two_joinV hT5.out q2 q1)
             go_wp2_with fail
             refine HJ.out.mono ?_
             rintro e w6 ⟨rfl, hT6⟩
             have H6 := hid hT6
             clear HJ y0 y1 hT5 hT6
             go_wp2
             go_roundw
             case rel => exact ⟨k + 1, _, _, by omega, by go_num, H6, hid ⟨hg1'.out, hg2'.out⟩⟩
             case measure => simp [intOf]; omega)
          | (have hTx := hid (hT.out.quiet (pair_keeps wr (Obj.cells #[.int .i64 q1, .int .i64 q2] 27) (Obj.cells #[.int .i64 p1, .int .i64 p2] 27)))
             obtain ⟨y0, y1⟩ := pair_cells1 wr q1 q2 (Obj.cells #[.int .i64 p1, .int .i64 p2] 27)
             obtain ⟨x0, x1⟩ := pair_cells2 wr p1 p2 (Obj.cells #[.int .i64 q1, .int .i64 q2] 27)
             have hne : bu ≠ wr.heap.size := by have h1 := hT.out.u.lt; omega
             have HJ := hid (two_joinUY hTx.out p1 p2 q1 q2 hne y0 y1)
             clear hTx hT
             go_wp2_with fail
             refine HJ.out.mono ?_
             clear HJ x0 x1 y0 y1
             rintro e w5 ⟨rfl, hT5, y0, y1⟩
             have HJ := hid (two_joinV hT5.out q2 q1)
             go_wp2_with fail
             refine HJ.out.mono ?_
             rintro e w6 ⟨rfl, hT6⟩
             have H6 := hid hT6
             clear HJ y0 y1 hT5 hT6
             go_wp2
             go_roundw
             case rel => exact ⟨k + 1, _, _, by omega, by go_num, H6, hid ⟨hg1'.out, hg2'.out⟩⟩
             case measure => simp [intOf]; omega)
    · obtain rfl : k = L := by omega
      have hGr : Box (listsI (groups n ru) = listsI (groups n rv)) := hid (by
        obtain ⟨g1, g2⟩ := hG.out
        rw [← HL.out] at g1 g2
        have e1 : Gen n (fun p => p ∈ zs) ru := g1.congr fun p => by rw [List.take_length]
        have e2 : Gen n (fun p => p ∈ zs) rv := g2.congr fun p => by rw [Nat.sub_self, List.drop_zero]
        rw [groups_congr n ru rv (e1.uniq e2)])
      clear hG
      have HGu := hid (groups_any bu n ru wr hT.out.u)
      go_wp2_with fail
      refine HGu.out.mono ?_
      rintro e w5 ⟨g5, c5, rfl, hl5, hu5, hk5⟩
      have hT5 := hid (hT.out.onU hu5 hk5)
      have hL5 := hid hl5
      have hbv := hid hT.out.v.lt
      clear HGu hl5 hu5 hk5 hT
      have HGv := hid (groups_any bv n rv w5 hT5.out.v)
      go_wp2_with fail
      refine HGv.out.mono ?_
      rintro e w6 ⟨g6, c6, rfl, hl6, hv6, hk6⟩
      have hT6 := hid (hT5.out.onV hv6 hk6)
      have hL6 := hid (hL5.out.kept hk6 (fun x hx => by have := hbv.out; simp at hx; omega))
      have HE := hid (eqall_any (some ⟨g5, 0, none⟩) (some ⟨g6, 0, none⟩) wr.heap.size w5.heap.size c5 c6 (listsI (groups n ru)) (listsI (groups n rv)) w6 hL6.out hl6 (groups_le n rv (by omega)) (groups_li n rv (by omega)))
      rw [decide_eq_true hGr.out] at HE
      clear HGv hl6 hv6 hk6 hT5 hL5 hL6
      generalize (listsI (groups n ru)).length = l1 at HE ⊢
      generalize (listsI (groups n rv)).length = l2 at HE ⊢
      go_wp2_with fail
      refine HE.out.mono ?_
      rintro e w7 ⟨rfl, m7, rfl⟩
      have hK7 : Keeps [] w (w6.drewN m7) := hT6.out.keep.quiet (Keeps.drewN _ _ _)
      generalize w6.drewN m7 = w7 at hK7 ⊢
      clear HE hT6
      go_wp2
      go_ret
      exact ⟨rfl, hK7⟩
set_option maxHeartbeats 2000000 in
theorem turned_cut (n b0 o0 LL cap : Nat) (zs : List (Int × Int)) (w : World) (hz : PairsAt w (some ⟨b0, o0, none⟩) zs) (hL : zs.length = 60) (hn : n ≤ 60) (hL2 : 60 < LL) (hLc : LL ≤ cap) (hLm : LL ≤ 9223372036854775807) :
    Calls Try.prog 4 #[.int .i64 (n : Int), .slice (some ⟨b0, o0, none⟩) LL cap] w fun e w' => e = .returned (.bool true) ∧ Keeps [] w w' := by
  have HA := hid (begun_any w)
  have HZ := hid hz
  have HL := hid hL
  clear hz hL
  have f1 : decide ((n : Int) < 0) = false := decide_eq_false (by omega)
  have f2 : decide ((60 : Int) < (n : Int)) = false := decide_eq_false (by omega)
  have f3 : decide ((60 : Int) < (LL : Int)) = true := decide_eq_true (by omega)
  go_enter Try.func4, Try.ntmps4
  go_wp2_with fail
  refine HA.out.mono ?_
  rintro e w1 ⟨rfl, hk1⟩
  clear HA
  have HA := hid (new_nat n w1 (by omega))
  go_wp2_with fail
  refine HA.out.mono ?_
  rintro e w2 ⟨rfl, hu2, hk2⟩
  clear HA
  have HA := hid (new_nat n w2 (by omega))
  go_wp2_with fail
  refine HA.out.mono ?_
  rintro e w3 ⟨rfl, hv3, hk3⟩
  have hT := hid (two_new hk1 hu2 hk2 hv3 hk3)
  clear HA hk1 hu2 hk2 hv3 hk3
  generalize w1.heap.size = bu at hT ⊢
  generalize w2.heap.size = bv at hT ⊢
  go_wp2_with fail
  go_loopw [8] (fun i wr => ∃ (k : Nat) (ru rv : Nat → Nat), k ≤ 60 ∧ i = .int .i64 k ∧ Box (Two w wr bu bv n ru rv) ∧ Box (Gen n (fun p => p ∈ zs.take k) ru ∧ Gen n (fun p => p ∈ zs.drop (zs.length - k)) rv)) (fun i _ => 60 - (intOf i).toNat)
  case atStart => exact ⟨0, _, _, by omega, rfl, hT, hid ⟨gen_alone n _ (by simp), gen_alone n _ (by simp)⟩⟩
  case round =>
    clear hT
    obtain ⟨k, ru, rv, hk, rfl, hT, hG⟩ := hrel
    by_cases hlt : k < 60
    · have hlt' : (k : Int) < (60 : Int) := by omega
      rcases HZ.out with h0 | ⟨bp, op, hpo, hc⟩
      · have := HL.out
        rw [h0] at this
        simp at this
      · obtain ⟨rfl, rfl⟩ : b0 = bp ∧ o0 = op := by simpa using hpo
        clear hpo
        obtain ⟨j, hj⟩ : ∃ j, 60 - 1 - k = j := ⟨_, rfl⟩
        have hjL : j < 60 := by omega
        have hjI : (60 : Int) - 1 - (k : Int) = (j : Int) := by omega
        have hg1 := hid (hG.out.1.step (zs.getD k (0, 0)))
        have hg2 := hid (hG.out.2.step (zs.getD j (0, 0)))
        have hg1' : Box (Gen n (fun p => p ∈ zs.take (k + 1)) (joinI n ru (zs.getD k (0, 0)).1 (zs.getD k (0, 0)).2)) := hid (hg1.out.congr fun p => (mem_take_succ zs (0, 0) k (by rw [HL.out]; exact hlt) p).symm)
        have hg2' : Box (Gen n (fun p => p ∈ zs.drop (zs.length - (k + 1))) (joinI n rv (zs.getD j (0, 0)).2 (zs.getD j (0, 0)).1)) := hid (by
          rw [joinI_comm]
          refine hg2.out.congr fun p => ?_
          have := mem_drop_succ zs (0, 0) k (by rw [HL.out]; exact hlt) p
          rw [HL.out, hj] at this
          rw [HL.out]
          exact this.symm)
        obtain ⟨c1, c2⟩ := hc k (by rw [HL.out]; exact hlt)
        obtain ⟨c3, c4⟩ := hc j (by rw [HL.out]; exact hjL)
        have d1 := (hT.out.keep.cell (p := ⟨b0, o0 + k * 2, none⟩) (block_lt_of_cell c1) (by simp)).trans c1
        have d2 := (hT.out.keep.cell (p := ⟨b0, o0 + k * 2 + 1, none⟩) (block_lt_of_cell c2) (by simp)).trans c2
        have d3 := (hT.out.keep.cell (p := ⟨b0, o0 + j * 2, none⟩) (block_lt_of_cell c3) (by simp)).trans c3
        have d4 := (hT.out.keep.cell (p := ⟨b0, o0 + j * 2 + 1, none⟩) (block_lt_of_cell c4) (by simp)).trans c4
        have hbp := block_lt_of_cell d1
        simp only at hbp
        clear c1 c2 c3 c4 hc hg1 hg2 hG
        generalize (zs.getD k (0, 0)).1 = p1 at *
        generalize (zs.getD k (0, 0)).2 = p2 at *
        generalize (zs.getD j (0, 0)).1 = q1 at *
        generalize (zs.getD j (0, 0)).2 = q2 at *
        go_wp2
        go_region
        all_goals
          first
          | (have hTx := hid (hT.out.quiet (pair_keeps wr (Obj.cells #[.int .i64 p1, .int .i64 p2] 27) (Obj.cells #[.int .i64 q1, .int .i64 q2] 27)))
             obtain ⟨y0, y1⟩ := pair_cells2 wr q1 q2 (Obj.cells #[.int .i64 p1, .int .i64 p2] 27)
             obtain ⟨x0, x1⟩ := pair_cells1 wr p1 p2 (Obj.cells #[.int .i64 q1, .int .i64 q2] 27)
             have hne : bu ≠ wr.heap.size + 1 := by have h1 := hT.out.u.lt; omega
             have HJ := hid (two_joinUY hTx.out p1 p2 q1 q2 hne y0 y1)
             clear hTx hT
             go_wp2_with fail
             refine HJ.out.mono ?_
             clear HJ x0 x1 y0 y1
             rintro e w5 ⟨rfl, hT5, y0, y1⟩
             have HJ := hid (two_joinV hT5.out q2 q1)
             go_wp2_with fail
             refine HJ.out.mono ?_
             rintro e w6 ⟨rfl, hT6⟩
             have H6 := hid hT6
             clear HJ y0 y1 hT5 hT6
             go_wp2
             go_roundw
             case rel => exact ⟨k + 1, _, _, by omega, by go_num, H6, hid ⟨hg1'.out, hg2'.out⟩⟩
             case measure => simp [intOf]; omega)
          | (have hTx := hid (hT.out.quiet (pair_keeps wr (Obj.cells #[.int .i64 q1, .int .i64 q2] 27) (Obj.cells #[.int .i64 p1, .int .i64 p2] 27)))
             obtain ⟨y0, y1⟩ := pair_cells1 wr q1 q2 (Obj.cells #[.int .i64 p1, .int .i64 p2] 27)
             obtain ⟨x0, x1⟩ := pair_cells2 wr p1 p2 (Obj.cells #[.int .i64 q1, .int .i64 q2] 27)
             have hne : bu ≠ wr.heap.size := by have h1 := hT.out.u.lt; omega
             have HJ := hid (two_joinUY hTx.out p1 p2 q1 q2 hne y0 y1)
             clear hTx hT
             go_wp2_with fail
             refine HJ.out.mono ?_
             clear HJ x0 x1 y0 y1
             rintro e w5 ⟨rfl, hT5, y0, y1⟩
             have HJ := hid (two_joinV hT5.out q2 q1)
             go_wp2_with fail
             refine HJ.out.mono ?_
             rintro e w6 ⟨rfl, hT6⟩
             have H6 := hid hT6
             clear HJ y0 y1 hT5 hT6
             go_wp2
             go_roundw
             case rel => exact ⟨k + 1, _, _, by omega, by go_num, H6, hid ⟨hg1'.out, hg2'.out⟩⟩
             case measure => simp [intOf]; omega)
    · obtain rfl : k = 60 := by omega
      have hGr : Box (listsI (groups n ru) = listsI (groups n rv)) := hid (by
        obtain ⟨g1, g2⟩ := hG.out
        rw [← HL.out] at g1 g2
        have e1 : Gen n (fun p => p ∈ zs) ru := g1.congr fun p => by rw [List.take_length]
        have e2 : Gen n (fun p => p ∈ zs) rv := g2.congr fun p => by rw [Nat.sub_self, List.drop_zero]
        rw [groups_congr n ru rv (e1.uniq e2)])
      clear hG
      have HGu := hid (groups_any bu n ru wr hT.out.u)
      go_wp2_with fail
      refine HGu.out.mono ?_
      rintro e w5 ⟨g5, c5, rfl, hl5, hu5, hk5⟩
      have hT5 := hid (hT.out.onU hu5 hk5)
      have hL5 := hid hl5
      have hbv := hid hT.out.v.lt
      clear HGu hl5 hu5 hk5 hT
      have HGv := hid (groups_any bv n rv w5 hT5.out.v)
      go_wp2_with fail
      refine HGv.out.mono ?_
      rintro e w6 ⟨g6, c6, rfl, hl6, hv6, hk6⟩
      have hT6 := hid (hT5.out.onV hv6 hk6)
      have hL6 := hid (hL5.out.kept hk6 (fun x hx => by have := hbv.out; simp at hx; omega))
      have HE := hid (eqall_any (some ⟨g5, 0, none⟩) (some ⟨g6, 0, none⟩) wr.heap.size w5.heap.size c5 c6 (listsI (groups n ru)) (listsI (groups n rv)) w6 hL6.out hl6 (groups_le n rv (by omega)) (groups_li n rv (by omega)))
      rw [decide_eq_true hGr.out] at HE
      clear HGv hl6 hv6 hk6 hT5 hL5 hL6
      generalize (listsI (groups n ru)).length = l1 at HE ⊢
      generalize (listsI (groups n rv)).length = l2 at HE ⊢
      go_wp2_with fail
      refine HE.out.mono ?_
      rintro e w7 ⟨rfl, m7, rfl⟩
      have hK7 : Keeps [] w (w6.drewN m7) := hT6.out.keep.quiet (Keeps.drewN _ _ _)
      generalize w6.drewN m7 = w7 at hK7 ⊢
      clear HE hT6
      go_wp2
      go_ret
      exact ⟨rfl, hK7⟩

set_option maxHeartbeats 1000000 in
theorem turned_out (a : Int) (pv : Value) (w : World) (h : a < 0 ∨ 60 < a) :
    Calls Try.prog 4 #[.int .i64 a, pv] w fun e w' => e = .returned (.bool true) ∧ Keeps [] w w' := by
  have HA := hid (begun_any w)
  rcases h with h | h
  · have hb : decide (a < 0) = true := decide_eq_true h
    go_enter Try.func4, Try.ntmps4
    go_wp2_with fail
    refine HA.out.mono ?_
    rintro e w1 ⟨rfl, hk1⟩
    clear HA
    go_wp2
    go_ret
    exact ⟨rfl, hk1⟩
  · have hb : decide (a < 0) = false := decide_eq_false (by omega)
    have hb2 : decide (60 < a) = true := decide_eq_true h
    go_enter Try.func4, Try.ntmps4
    go_wp2_with fail
    refine HA.out.mono ?_
    rintro e w1 ⟨rfl, hk1⟩
    clear HA
    go_wp2
    go_ret
    exact ⟨rfl, hk1⟩

theorem turned_any (a : Int) (pa : Option Addr) (cap : Nat) (zs : List (Int × Int)) (w : World) (hz : PairsAt w pa zs) (hl : zs.length ≤ maxLen) (hc : zs.length ≤ cap) :
    Calls Try.prog 4 #[.int .i64 a, .slice pa zs.length cap] w fun e w' => e = .returned (.bool true) ∧ Keeps [] w w' := by
  by_cases h : a < 0 ∨ 60 < a
  · exact turned_out a _ w h
  · obtain ⟨n, rfl⟩ := Int.eq_ofNat_of_zero_le (show 0 ≤ a by omega)
    by_cases h60 : zs.length ≤ 60
    · exact turned_in n pa zs.length cap zs w hz rfl (by omega) h60
    · have hz' := hz.take 60
      rcases hz with rfl | ⟨b0, o0, rfl, _⟩
      · simp at h60
      · exact turned_cut n b0 o0 zs.length cap (zs.take 60) w hz' (by rw [List.length_take]; omega) (by omega) (by omega) hc (by unfold maxLen at hl; omega)
end Go.Proofs.Ytokoebbghkbliaa
