/-
  The statement FrontLine.
-/
import Derived.Test.YtlnimcpmkammfaaDoorFKit
import Derived.Test.YtlnimcpmkammfaaDoorFLine
import Derived.Test.YtlnimcpmkammfaaDoorGLit2
namespace Go.Proofs.YtlnimcpmkammfaaDoor
open Go.RowKit

theorem fl_len {n a : Nat} {rg : Bool} (hn : 0 < n) (ha : a < n) {F : Nat → Nat → Bool} (h : ∀ x y, F x y = true ↔ Fr (flG n rg) 0 x y) : ((elems (F a)).length : Nat) = if rg = true then 1 else 0 := by
  have e : F a = fun y => rg && decide (y = 0) := by
    funext y
    rw [Bool.eq_iff_iff, h a y, fl_fr hn ha, Bool.and_eq_true, decide_eq_true_iff]
  rw [elems_to (F a) 1 (by omega) (fun i hi => by
    rw [e]
    show (rg && decide (i = 0)) = false
    rw [decide_eq_false (by omega), Bool.and_false]), e]
  cases rg <;> decide
theorem fl_has {n a : Nat} {rg : Bool} (hn : 0 < n) (ha : a < n) {F : Nat → Nat → Bool} (h : ∀ x y, F x y = true ↔ Fr (flG n rg) 0 x y) : F a 0 = rg := by
  rw [Bool.eq_iff_iff, h a 0, fl_fr hn ha]
  simp

set_option maxRecDepth 20000 in
set_option maxHeartbeats 8000000 in
theorem frontLine_law (n : Int) (rg : Bool) (w : World) (hT : TabAt w) :
    Calls Tryd.prog 6 #[.int .i64 n, .bool rg] w fun e w' => e = .returned (.bool true) ∧ Keeps [] w w' := by
  have HBG := hid (begun7_any w hT)
  clear hT
  go_enter Tryd.func6, Tryd.ntmps6
  go_wp2_with fail
  refine HBG.out.mono ?_
  rintro e w1 ⟨rfl, k1⟩
  clear HBG
  by_cases h1 : n < 1
  · go_wp2
    go_ret
    exact ⟨rfl, k1⟩
  by_cases h2 : 60 < n
  · go_wp2
    go_ret
    exact ⟨rfl, k1⟩
  obtain ⟨N, rfl⟩ : ∃ N : Nat, n = (N : Int) := Int.eq_ofNat_of_zero_le (by omega)
  have hN2 : N ≤ 60 := by omega
  have hN1 : 1 ≤ N := by omega
  have hww : w1.heap.size ≤ w1.heap.size := Nat.le_refl _
  go_wp2_with (at_make; go_must (refine wpList_make_full _ rfl _ _ 25 rfl w1.heap.size 23 Tryd.t23 (.slice none 0 0) 1 under_lists info_ints zero_ints size_ints .i64 .i64 _ _ N rfl rfl rfl rfl (by rw [bytes_ints]; omega) (by unfold maxLen; omega) hww ?_; intro w2 hown2 hgrow2))
  have k2 : Keeps [] w1 w2 := Keeps.grown [] hgrow2 (by simp)
  have R2 := RowAt.made hown2 rfl
  have kA : Keeps [] w2 (w2.alloc (.cells #[.int .i64 (N : Int), .slice (some ⟨w1.heap.size, 0, none⟩) N N] 27)) := Keeps.alloc _ _ _
  have T3 := hid (TwoAt.new w2 (.int .i64 (N : Int)) (.slice (some ⟨w1.heap.size, 0, none⟩) N N))
  have O3 : Box (OwnL (w2.alloc (.cells #[.int .i64 (N : Int), .slice (some ⟨w1.heap.size, 0, none⟩) N N] 27)) w1.heap.size w1.heap.size N (fun _ => nilS) (flK 0)) := hid ((OwnL.nil (R2.kept kA (by simp))).congr (fun i _ => ⟨rfl, by simp [flK]⟩))
  have k13 := hid (k2.quiet kA)
  clear hown2 hgrow2 R2 kA k2 hww h1 h2
  obtain ⟨p, hp⟩ : ∃ p, w1.heap.size = p := ⟨_, rfl⟩
  rw [hp] at T3 O3 k13 ⊢
  have HP := hid hp
  clear hp
  generalize w2.alloc (.cells #[.int .i64 (N : Int), .slice (some ⟨p, 0, none⟩) N N] 27) = w3 at T3 O3 k13 ⊢
  generalize w2.heap.size = bx at T3 ⊢
  go_loopw [7] (fun iv wr => ∃ (i : Nat) (vs : Nat → Value), iv = .int .i64 (i : Int) ∧ i + 1 ≤ N ∧ Box (OwnL wr p p N vs (flK i)) ∧ Box (TwoAt wr bx (.int .i64 (N : Int)) (.slice (some ⟨p, 0, none⟩) N N)) ∧ Box (Keeps [] w1 wr)) (fun iv _ => N - (intOf iv).toNat)
  case atStart => exact ⟨0, _, rfl, hN1, O3, T3, k13⟩
  case round =>
    clear O3 T3 k13
    obtain ⟨i, vs, rfl, hi, HO, HT, HK⟩ := hrel
    have c1 := HT.out.c1
    have co := HO.out.cell (k := i) (by omega)
    have fo := HO.out.outer.frozen i
    have hp2 := HO.out.outer.lt.2
    have hbl := HT.out.lt
    have hi' : (i : Int) < (N : Int) := by omega
    have hne : bx ≠ p := two_ne_row HT.out HO.out.outer
    by_cases hlt : i + 1 < N
    · have hlt' : (i : Int) + 1 < (N : Int) := by omega
      have O4 := hid (HO.out.lit (k := i) (by omega) [i + 1] #[.int .i64 ((i : Int) + 1)] (by simp [ints]) (by unfold maxLen; simp) (by omega))
      have ka : Keeps [] wr (wr.alloc (.cells #[.int .i64 ((i : Int) + 1)] 3)) := Keeps.alloc _ _ _
      have ks : Keeps [p] (wr.alloc (.cells #[.int .i64 ((i : Int) + 1)] 3)) ((wr.alloc (.cells #[.int .i64 ((i : Int) + 1)] 3)).setCell ⟨p, i, none⟩ (.slice (some ⟨wr.heap.size, 0, none⟩) 1 1)) := Keeps.setCell _ _ _ _ (by simp)
      have T4 := hid ((HT.out.kept ka (by simp)).kept ks (by simp; exact hne))
      have K4 := hid ((HK.out.quiet ka).fresh ks (fun z hz => by simp at hz; have := HP.out; omega))
      have O5 : Box (OwnL ((wr.alloc (.cells #[.int .i64 ((i : Int) + 1)] 3)).setCell ⟨p, i, none⟩ (.slice (some ⟨wr.heap.size, 0, none⟩) 1 1)) p p N (fun j => if j = i then .slice (some ⟨wr.heap.size, 0, none⟩) 1 1 else vs j) (flK (i + 1))) := hid (O4.out.congr (fun j _ => ⟨rfl, flK_next i j⟩))
      rw [World.setCell_alloc_past _ _ _ _ hp2] at O5 T4 K4
      clear O4 HO HT HK ka ks
      go_wp2
      generalize (wr.setCell ⟨p, i, none⟩ (.slice (some ⟨wr.heap.size, 0, none⟩) 1 1)).alloc (.cells #[.int .i64 ((i : Int) + 1)] 3) = w5 at O5 T4 K4 ⊢
      go_roundw
      case rel => exact ⟨i + 1, _, by go_num, by omega, O5, T4, K4⟩
      case measure => simp [intOf]; omega
    · have hlt' : ¬ (i : Int) + 1 < (N : Int) := by omega
      have hiN : i + 1 = N := by omega
      have HIN := hid hiN
      have KF := hid (k1.quiet HK.out)
      have hsm : Sm (flG N rg) := ⟨fl_ok N rg, by rw [flG_len]; omega, fl_short⟩
      have h0g : 0 < (flG N rg).length := by rw [flG_len]; omega
      have HOF := hid (fun bx p B wz (h : LG w wz bx p B (flG N rg)) => fof_in (flG N rg) hsm (some ⟨p, 0, none⟩) (flG N rg).length B 0 wz h.gr h.le h0g)
      rw [flG_len, show (((0 : Nat) : Int)) = (0 : Int) from rfl] at HOF
      have HFL := hid (fun (F : Nat → Nat → Bool) (h : ∀ x y, F x y = true ↔ Fr (flG N rg) 0 x y) a (ha : a < N) => fl_len (by omega) ha h)
      have HFH := hid (fun (F : Nat → Nat → Bool) (h : ∀ x y, F x y = true ↔ Fr (flG N rg) 0 x y) a (ha : a < N) => fl_has (by omega) ha h)
      have hm1 : (N : Int) - 1 = (i : Int) := by omega
      clear hiN hlt hsm h0g
      cases rg with
      | false =>
        have L4 : Box (LG w wr bx p wr.heap.size (flG N false)) := hid (by
          have hg := HO.out.graph
          rw [flK_all HIN.out] at hg
          exact ⟨by rw [flG_len]; exact HT.out, hg, hbl, Nat.le_refl _, KF.out, KF.out.size⟩)
        have c0 := HT.out.c0
        clear HO HT HK hm1 co fo hp2 hi'
        go_wp2_with fail
        refine (HOF.out bx p _ wr L4.out).mono ?_
        rintro e w4 ⟨pf, q, F, rfl, m4, hF4, k4⟩
        have M4 := hid m4
        have HL4 := hid (HFL.out F hF4)
        have K4 := hid (KF.out.quiet k4)
        clear m4 hF4 k4 c0 c1 hlt' L4 HOF HFL HFH
        go_wp2_with fail
        have K0 := hid (Keeps.refl [] w4)
        go_loopw [9] (fun iv wr => ∃ i : Nat, iv = .int .i64 (i : Int) ∧ i ≤ N ∧ Box (Keeps [] w4 wr)) (fun iv _ => N - (intOf iv).toNat)
        case atStart => exact ⟨0, rfl, by omega, K0⟩
        case round =>
          clear K0
          obtain ⟨a, rfl, ha, HK⟩ := hrel
          by_cases hlt : a < N
          · have hlt' : (a : Int) < (N : Int) := by omega
            have M5 := M4.out.quiet HK.out
            have cq := M5.cell hlt
            have HLN := hid (len_any (q a) (F a) wr (M5.set a hlt) (M5.fit a hlt))
            rw [HL4.out a hlt, if_neg (by simp)] at HLN
            clear M5
            go_wp2_with fail
            refine HLN.out.mono ?_
            rintro e w5 ⟨rfl, hw5⟩
            rw [hw5]
            clear hw5 HLN
            go_wp2
            go_roundw
            case rel => exact ⟨a + 1, by go_num, by omega, HK⟩
            case measure => simp [intOf]; omega
          · obtain rfl : a = N := by omega
            have KE := hid (K4.out.quiet HK.out)
            have hNN : ((a : Int) == (a : Int)) = true := by simp
            go_wp2
            go_ret
            exact ⟨rfl, KE.out⟩
      | true =>
        have O4 := hid (HO.out.lit (k := i) (by omega) [0] #[.int .i64 0] (by simp [ints]) (by unfold maxLen; simp) (by omega))
        have ka : Keeps [] wr (wr.alloc (.cells #[.int .i64 0] 3)) := Keeps.alloc _ _ _
        have ks : Keeps [p] (wr.alloc (.cells #[.int .i64 0] 3)) ((wr.alloc (.cells #[.int .i64 0] 3)).setCell ⟨p, i, none⟩ (.slice (some ⟨wr.heap.size, 0, none⟩) 1 1)) := Keeps.setCell _ _ _ _ (by simp)
        have T4 := hid ((HT.out.kept ka (by simp)).kept ks (by simp; exact hne))
        have K4 := hid ((KF.out.quiet ka).fresh ks (fun z hz => by simp at hz; have := HP.out; have := k1.size; omega))
        rw [show ([0] : List Nat).length = 1 from rfl] at O4
        rw [World.setCell_alloc_past _ _ _ _ hp2] at O4 T4 K4
        have L4 : Box (LG w ((wr.setCell ⟨p, i, none⟩ (.slice (some ⟨wr.heap.size, 0, none⟩) 1 1)).alloc (.cells #[.int .i64 0] 3)) bx p ((wr.setCell ⟨p, i, none⟩ (.slice (some ⟨wr.heap.size, 0, none⟩) 1 1)).alloc (.cells #[.int .i64 0] 3)).heap.size (flG N true)) := hid (by
          have hg := O4.out.graph
          rw [flK_ring HIN.out] at hg
          exact ⟨by rw [flG_len]; exact T4.out, hg, T4.out.lt, Nat.le_refl _, K4.out, K4.out.size⟩)
        have d0 := T4.out.c0
        have d1 := T4.out.c1
        clear HO HT HK ka ks O4 T4 KF
        go_wp2_with fail
        generalize (wr.setCell ⟨p, i, none⟩ (.slice (some ⟨wr.heap.size, 0, none⟩) 1 1)).alloc (.cells #[.int .i64 0] 3) = w5 at L4 K4 d0 d1 ⊢
        refine (HOF.out bx p _ w5 L4.out).mono ?_
        rintro e w4 ⟨pf, q, F, rfl, m4, hF4, k4⟩
        have M4 := hid m4
        have HL4 := hid (HFL.out F hF4)
        have HH4 := hid (HFH.out F hF4)
        have K5 := hid (K4.out.quiet k4)
        clear m4 hF4 k4 d0 d1 c1 hlt' L4 HOF HFL HFH K4 hm1 co fo hp2 hi'
        go_wp2_with fail
        have K0 := hid (Keeps.refl [] w4)
        go_loopw [9] (fun iv wr => ∃ i : Nat, iv = .int .i64 (i : Int) ∧ i ≤ N ∧ Box (Keeps [] w4 wr)) (fun iv _ => N - (intOf iv).toNat)
        case atStart => exact ⟨0, rfl, by omega, K0⟩
        case round =>
          clear K0
          obtain ⟨a, rfl, ha, HK⟩ := hrel
          by_cases hlt : a < N
          · have hlt' : (a : Int) < (N : Int) := by omega
            have M5 := M4.out.quiet HK.out
            have cq := M5.cell hlt
            have HLN := hid (len_any (q a) (F a) wr (M5.set a hlt) (M5.fit a hlt))
            have h9 : (elems (F a)).length = 1 := HL4.out a hlt
            rw [h9] at HLN
            clear h9
            have HHA := hid (has_any (q a) (F a) 0 wr (M5.set a hlt) (M5.fit a hlt))
            have e0 : hasI (F a) 0 = true := by
              unfold hasI
              rw [decide_eq_true (by omega), Bool.true_and]
              exact HH4.out a hlt
            rw [e0] at HHA
            clear M5 e0
            go_wp2_with fail
            refine HLN.out.mono ?_
            rintro e w5 ⟨rfl, hw5⟩
            rw [hw5]
            clear hw5 HLN
            go_wp2_with fail
            refine HHA.out.mono ?_
            rintro e w6 ⟨rfl, m6, hw6⟩
            have HK6 := hid (HK.out.quiet (c := w6) (by rw [hw6]; exact Keeps.drewN _ _ _))
            clear hw6 HHA cq
            go_wp2
            go_roundw
            case rel => exact ⟨a + 1, by go_num, by omega, HK6⟩
            case measure => simp [intOf]; omega
          · obtain rfl : a = N := by omega
            have KE := hid (K5.out.quiet HK.out)
            have hNN : ((a : Int) == (a : Int)) = true := by simp
            go_wp2
            go_ret
            exact ⟨rfl, KE.out⟩
end Go.Proofs.YtlnimcpmkammfaaDoor
