/-
  TypesLimits: functions, the walk; the whole.
-/
import Derived.Test.YtlopddflbhnjdaaDoorTLimF
namespace Go.Proofs.YtlopddflbhnjdaaDoor
open Go.RowKit

theorem ownsRow_drew {w : World} {base : Nat} {e : TypeId} {size : Nat} {v : Value} {n : Nat} {xs : List Value} (h : w.ownsRow base e size v n xs) : w.drew.ownsRow base e size v n xs := h
set_option maxRecDepth 20000 in
set_option maxHeartbeats 4000000 in
theorem lim_4 (n : Nat) (hn : n ≤ 40) (w : World) (hg : Glob w) : Calls Tryd.prog 3 #[.int .i64 4, .int .i64 (n : Int)] w fun e w' => e = .returned (.bool true) ∧ Keeps [] w w' := by
  have HG := hid hg
  have HB := hid (begun_any w hg)
  have HO := hid fun (w' : World) => one_any w'
  have h1 : ¬ (n : Int) < 0 := by omega
  have h2 : ¬ (40 : Int) < (n : Int) := by omega
  have HLB := hid (lb4 n hn)
  clear hg
  go_enter Tryd.func3, Tryd.ntmps3
  go_wp2_with fail
  refine HB.out.mono ?_
  rintro e w1 ⟨rfl, k1⟩
  have K1 := hid k1
  clear HB k1
  go_wp2_with fail
  refine (HO.out _).mono ?_
  rintro e w2 ⟨rfl, o2, k2⟩
  obtain ⟨q, hq⟩ : ∃ q, q = w1.heap.size := ⟨_, rfl⟩
  rw [← hq] at o2 ⊢
  have HQ := hid hq
  have p4 := hcell o2.h5 4
  have zc := hfrozen o2.h5 4
  have hlt := heap_lt o2.h5
  have O2 := hid o2
  have K2 := hid (K1.out.quiet k2)
  clear o2 k2 hq
  go_upto_region 21 with fail
  have G0 : Box (GrF w2 ((w2.setCell ⟨q + 5, 4, none⟩ (.slice none 0 0)).alloc (.cells #[.int .i64 6, .int .i64 10, .int .i64 4, .int .i64 12, .int .i64 12, .int .i64 4, .int .i64 4, .int .i64 12, .int .i64 30, .int .i64 16] 3)) q (.slice none 0 0) []) := hid (by
    have ka := Keeps.alloc [] (w2.setCell ⟨q + 5, 4, none⟩ (.slice none 0 0)) (.cells #[.int .i64 6, .int .i64 10, .int .i64 4, .int .i64 12, .int .i64 12, .int .i64 4, .int .i64 4, .int .i64 12, .int .i64 30, .int .i64 16] 3)
    exact ⟨keep_heap (heap_setCell_same _ _ 4 _ _ _ O2.out.h5) ka, keep_heap ((heap_setCell_other _ _ _ _ (by show q ≠ q + 5; omega)).trans O2.out.h0) ka, World.ownsRow_nil _ _ _ _, (fun b hb => by cases hb), (Keeps.setCell [q + 5] _ _ _ (List.mem_singleton.2 rfl)).quiet ka⟩)
  generalize (w2.setCell ⟨q + 5, 4, none⟩ (.slice none 0 0)).alloc (.cells #[.int .i64 6, .int .i64 10, .int .i64 4, .int .i64 12, .int .i64 12, .int .i64 4, .int .i64 4, .int .i64 12, .int .i64 30, .int .i64 16] 3) = w3 at *
  clear p4 zc
  go_wp2_with fail
  go_loopw [9] (fun iv wr => ∃ (k : Nat) (sv : Value) (bs : List Nat), k ≤ n ∧ iv = .int .i64 (k : Int) ∧ Box (bs.length = k) ∧ Box (GrF w2 wr q sv bs)) (fun iv _ => n - (intOf iv).toNat)
  case atStart => exact ⟨0, _, [], by omega, rfl, hid rfl, G0⟩
  case round =>
    obtain ⟨k, sv, bs, hk, rfl, HL, HR⟩ := hrel
    clear G0
    by_cases hlt9 : k < n
    · have hlt' : (k : Int) < (n : Int) := by omega
      have p4 := hcell HR.out.box 4
      have z4 := hfrozen HR.out.box 4
      have hq9 := heap_lt HR.out.box
      have mk := fun w' => mk_one w'
      have hks := HR.out.keeps.size
      have HOW : Box (wr.ownsRow w2.heap.size 29 3 sv k (fuCs bs)) := hid (by rw [← HL.out]; exact HR.out.own)
      go_upto_region 24 with fail
      go_region_law (go_loud (refine step_append_lies _ (by rfl) _ _ _ (by rfl) w2.heap.size 29 Tryd.t29 (.agg #[.int .i64 0, .slice none 0 0, .slice none 0 0]) 3 56 under_fns info_fn zero_fn size_fn bytes_fn rfl (by decide) sv k (fuCs bs) (by rfl) (ownsRow_drew ((HOW.out.alloc _).alloc _)) ⟨wr.heap.size + 1, 0, none⟩ 1 1 [.int .i64 0, .slice none 0 0, .slice (some ⟨wr.heap.size, 0, none⟩) 1 1] (by rfl) (by rfl) (World.news_of_block (cs := #[.int .i64 0, .slice none 0 0, .slice (some ⟨wr.heap.size, 0, none⟩) 1 1]) (t := 29) (fr := (0, 0)) (heap_at (w := wr.alloc (.cells #[.slice none 0 0, .int .i64 0, .int .i64 0, .int .i64 0, .int .i64 0] 44)) (by rw [World.size_alloc]))) (three_fn _) (by omega) (by unfold maxLen; omega) (by omega) (by simp; omega) (wr.heap.size + 2) (by simp) ?_; intro g5 cap5 w5 hown5 hgrow5 hat5 hlt5; have HG5 := hid (HR.out.grow (b := wr.heap.size) (sv' := .slice (some ⟨g5, 0, none⟩) (k + 1) cap5) (wa := (wr.alloc (.cells #[.slice none 0 0, .int .i64 0, .int .i64 0, .int .i64 0, .int .i64 0] 44)).alloc (.cells #[.int .i64 0, .slice none 0 0, .slice (some ⟨wr.heap.size, 0, none⟩) 1 1] 29)) ((Keeps.alloc [] _ _).quiet (Keeps.alloc [] _ _)) (keep_heap (heap_new wr _) (Keeps.alloc [] _ _)) (by rw [HL.out]; exact hown5) ⟨hgrow5.os, hgrow5.tape, hgrow5.output, hgrow5.size, hgrow5.block⟩); have hbx := HR.out.still (wa := ((wr.alloc (.cells #[.slice none 0 0, .int .i64 0, .int .i64 0, .int .i64 0, .int .i64 0] 44)).alloc (.cells #[.int .i64 0, .slice none 0 0, .slice (some ⟨wr.heap.size, 0, none⟩) 1 1] 29))) ((Keeps.alloc [] _ _).quiet (Keeps.alloc [] _ _)) ⟨hgrow5.os, hgrow5.tape, hgrow5.output, hgrow5.size, hgrow5.block⟩; have p5 := hcell hbx 4; have z5 := hfrozen hbx 4; clear hown5 hgrow5 hbx))
      all_goals (
        clear p5 z5
        go_wp2_with fail
        go_roundw
        case rel => exact ⟨k + 1, _, bs ++ [wr.heap.size], by omega, by go_num, hid (by rw [List.length_append, HL.out]; rfl), HG5⟩
        case measure => simp [intOf]; omega)
    · obtain rfl : n = k := by omega
      have HP := hid (HR.out.prc (by rw [HL.out]; omega))
      rw [HL.out] at HP
      have HK : Box (Keeps [] w wr) := hid (K2.out.trans HR.out.keeps (fun x hx hl => by
        rw [List.mem_singleton.1 hx] at hl
        have := K1.out.size
        have := HQ.out
        omega))
      clear HR HL O2
      by_cases hok : 1 ≤ n ∧ n ≤ 12
      · have hm : ¬ (12 : Int) < (n : Int) := by omega
        have hl : ¬ (n : Int) < 1 := by omega
        rw [decide_eq_true hok] at HLB
        go_wp2_with fail
        refine (bounds_any HP.out).mono ?_
        intro e w6 h6
        rw [HLB.out] at h6
        obtain ⟨rfl, k6⟩ := h6.yes
        have K6 := hid (HK.out.quiet k6)
        clear k6 h6
        go_wp2_with fail
        refine (nowhere_any _).mono ?_
        rintro e w7 ⟨rfl, k7⟩
        have K7 := hid (K6.out.quiet k7)
        clear k7
        go_wp2_with fail
        refine (says_none _ _ _ _).mono ?_
        rintro e w8 ⟨rfl, k8⟩
        have K8 := hid (K7.out.quiet k8)
        clear k8
        go_wp2_with fail
        go_ret
        exact ⟨rfl, K8.out⟩
      · have hor : (12 : Int) < (n : Int) ∨ (¬ (12 : Int) < (n : Int) ∧ (n : Int) < 1) := by omega
        rw [decide_eq_false hok] at HLB
        clear hok
        rcases hor with hm | ⟨hm, hl⟩
        all_goals (
          go_wp2_with fail
          refine (bounds_any HP.out).mono ?_
          intro e w6 h6
          rw [HLB.out] at h6
          obtain ⟨p, rfl, r6, k6⟩ := h6.no
          have K6 := hid (HK.out.quiet k6)
          have R6 := hid r6
          clear k6 h6 r6
          go_wp2_with fail
          refine (nowhere_any _).mono ?_
          rintro e w7 ⟨rfl, k7⟩
          have K7 := hid (K6.out.quiet k7)
          have R7 := hid (R6.out.quiet k7)
          clear k7
          go_wp2_with fail
          refine (says_now (HG.out.quiet K7.out) R7.out (by decide)).mono ?_
          rintro e w8 ⟨rfl, k8⟩
          have K8 := hid (K7.out.quiet k8)
          clear k8
          go_wp2_with fail
          go_ret
          exact ⟨rfl, K8.out⟩)
end Go.Proofs.YtlopddflbhnjdaaDoor
