/-
  The statement GraphReach.
-/
import Derived.Test.YtngdnjlohmkbiaaDoorGRefSet
import Derived.Deep.RegionHeld3
import Derived.Deep.DrawnRows
namespace Go.Proofs.YtngdnjlohmkbiaaDoor
open Go.RowKit
attribute [local go_sem ↓] Go.wp_at_zero Go.wp_at_succ

theorem ints_in {w : World} {a : Option Addr} {zs : List Int} (h : IntsAt w a zs) : InAt w w.heap.size a zs := by
  rcases h with h | ⟨b, off, h1, h2⟩
  · exact .inl h
  · by_cases e : zs.length = 0
    · exact .inl (List.eq_nil_of_length_eq_zero e)
    · exact .inr ⟨b, off, h1, block_lt_of_cell (h2 0 (by omega)), h2⟩
theorem ints_take {w : World} {a : Option Addr} {zs : List Int} (h : IntsAt w a zs) (n : Nat) : IntsAt w a (zs.take n) := by
  rcases h with h | ⟨b, off, h1, h2⟩
  · exact .inl (by rw [h]; simp)
  · refine .inr ⟨b, off, h1, fun i hi => ?_⟩
    rw [List.length_take] at hi
    rw [h2 i (by omega), List.getD_eq_getElem?_getD, List.getD_eq_getElem?_getD, List.getElem?_take, if_pos (by omega)]
theorem filter_eq {N : Nat} {s t : Nat → Bool} (h : ∀ i, i < N → s i = t i) : (List.range N).filter s = (List.range N).filter t :=
  List.filter_congr fun i hi => h i (List.mem_range.1 hi)

set_option maxRecDepth 20000 in
set_option maxHeartbeats 8000000 in
theorem reach_law (n : Int) (pa : Option Addr) (cap : Nat) (zs : List (Int × Int)) (fa : Option Addr) (fc : Nat) (fs : List Int) (w : World) (hT : TabAt w) (hz : PairsAt w pa zs) (hl : zs.length ≤ maxLen) (hf : IntsAt w fa fs) (hfl : fs.length ≤ maxLen) (hfc : fs.length ≤ fc) :
    Calls Tryd.prog 3 #[.int .i64 n, .slice pa zs.length cap, .slice fa fs.length fc] w fun e w' => e = .returned (.bool true) ∧ Keeps [] w w' := by
  have HBG := hid (begun5_any w hT)
  obtain ⟨N, g, L, hN2, hN1, hgl, hsm, hgd, hnn, hmd⟩ := made_pack n zs hl
  have HMD := hid (fun wz (k : Keeps [] w wz) => hmd pa cap wz (hz.kept k (fun _ _ _ => by simp)))
  have HS := hid hsm
  have HGD := hid hgd
  have HN := hid hgl
  have HT := hid (fun wz (k : Keeps [] w wz) => tab_of hT k)
  have HF := hid (fun wz (k : Keeps [] w wz) => (ints_in (ints_take hf 10)).kept k (by simp))
  have hmin : (fs.take 10).length = min fs.length 10 := by rw [List.length_take, Nat.min_comm]
  have HMIN := hid hmin
  clear hT hz hl hmd hsm hgd hgl hnn hf hmin
  generalize zs.length = zl at HMD
  obtain ⟨fl, hfle⟩ : ∃ fl, fs.length = fl := ⟨_, rfl⟩
  rw [hfle] at hfl hfc HMIN ⊢
  clear hfle
  unfold maxLen at hfl
  go_enter Tryd.func3, Tryd.ntmps3
  go_wp2_with fail
  refine HBG.out.mono ?_
  rintro e w1 ⟨rfl, k1⟩
  clear HBG
  go_wp2_with fail
  refine (HMD.out w1 k1).mono ?_
  rintro e w2 ⟨p, vs, rfl, ho2, k2⟩
  have L3 := hid (LG.make ho2 (k1.quiet k2))
  rw [← HGD.out] at L3
  clear ho2 k2 k1 HMD HGD
  go_upto_region 5 with fail
  generalize w2.alloc (Obj.cells #[.int .i64 (N : Int), .slice (some ⟨p, 0, none⟩) N N] 27) = w3 at L3 ⊢
  obtain ⟨B, hB⟩ : ∃ B, w2.heap.size + 1 = B := ⟨_, rfl⟩
  rw [hB] at L3
  generalize w2.heap.size = bx at L3 ⊢
  clear hB
  by_cases h10 : 10 < fl
  all_goals
    first
      | (have hm : min fl 10 = 10 := by omega
         rw [hm] at HMIN
         have h10' : (10 : Int) < (fl : Int) := by omega
         have hc10 : (10 : Int) ≤ (fc : Int) := by omega
         go_upto_region 7 with fail
         obtain ⟨q, hq⟩ : ∃ q, (fs.take 10).length = q := ⟨_, rfl⟩
         have hq2 := HMIN.out
         rw [hq] at hq2
         subst hq2
         clear hm h10' hc10)
      | (have hm : min fl 10 = fl := by omega
         rw [hm] at HMIN
         have h10' : ¬ (10 : Int) < (fl : Int) := by omega
         go_upto_region 7 with fail
         obtain ⟨q, hq⟩ : ∃ q, (fs.take 10).length = q := ⟨_, rfl⟩
         have hq2 := HMIN.out
         rw [hq] at hq2
         subst hq2
         clear hm h10')
    have hq9 : (fs.take 10).length ≤ 10 := by rw [List.length_take]; omega
    have HR1 := hid (fun wz (k : Keeps [] w3 wz) => reach_any g HS.out (some ⟨p, 0, none⟩) g.length B wz (L3.out.quiet k).gr (L3.out.quiet k).le fa fc w.heap.size (fs.take 10) (HF.out wz (L3.out.keep.quiet k)) (by omega) (L3.out.keep.quiet k).size)
    have HR2 := hid (fun wz (k : Keeps [] w3 wz) => rreach_any g HS.out (some ⟨p, 0, none⟩) g.length B wz (L3.out.quiet k).gr fa fc w.heap.size (fs.take 10) (HF.out wz (L3.out.keep.quiet k)) (by omega) (-1))
    have HL1 := hid (fun wz (k : Keeps [] w3 wz) => loops_any g HS.out (some ⟨p, 0, none⟩) g.length B wz (L3.out.quiet k).gr (L3.out.quiet k).le)
    have HL2 := hid (fun wz (k : Keeps [] w3 wz) => rloops_any g HS.out (some ⟨p, 0, none⟩) g.length B wz (L3.out.quiet k).gr)
    rw [hq] at HR1 HR2
    have hout1 : ∀ i, g.length ≤ i → rch g (fs.take 10) i = false := fun i hi => rch_out HS.out.ok _ i hi
    have hout2 : ∀ i, g.length ≤ i → loopS g (sccs g) i = false := fun i hi => by
      cases e : loopS g (sccs g) i with
      | false => rfl
      | true =>
        unfold loopS at e
        rcases orL_true.1 e with h1 | h1
        · cases h1
        · obtain ⟨q', hq1, hq2⟩ := List.mem_flatten.1 h1
          obtain ⟨a', ha', rfl⟩ := sccs_part (List.mem_filter.1 hq1).1
          have := ((mem_part HS.out.ok i ha').1 hq2).1
          omega
    have HE1 : Box (elems (rch g (fs.take 10)) = (List.range N).filter (rch g (fs.take 10))) := hid (by rw [← HN.out]; exact elems_cut _ _ (by have := HS.out.len; omega) hout1)
    have HE2 : Box (elems (loopS g (sccs g)) = (List.range N).filter (loopS g (sccs g))) := hid (by rw [← HN.out]; exact elems_cut _ _ (by have := HS.out.len; omega) hout2)
    have f1 : Box (Fit (rch g (fs.take 10))) := hid (rchS_fit HS.out _ none_ fit_none)
    have f2 : Box (Fit (loopS g (sccs g))) := hid (fun i hi => hout2 i (by have := HS.out.len; omega))
    have HA1 := hid (fun b wz (k : Keeps [] w3 wz) (hs : SetAt wz b (rch g (fs.take 10))) => all_any b _ wz hs f1.out (HT.out wz (L3.out.keep.quiet k)))
    have HA2 := hid (fun b wz (k : Keeps [] w3 wz) (hs : SetAt wz b (loopS g (sccs g))) => all_any b _ wz hs f2.out (HT.out wz (L3.out.keep.quiet k)))
    have HRC : Box (∀ s : Nat → Bool, (∀ u, s u = true ↔ ∃ z, z ∈ nodI g.length (fs.take 10) ∧ Pth g (avI (-1)) z u) → (List.range N).filter s = (List.range N).filter (rch g (fs.take 10))) := hid (fun s hs => filter_eq (fun i _ => by rw [Bool.eq_iff_iff, hs i, avI_no, rch_all HS.out.ok]))
    rw [HE1.out] at HA1
    rw [HE2.out] at HA2
    rw [HN.out] at HR1 HR2 HL1 HL2
    have HRS := hid (fun ps s wz (hs : ∀ i, i < N → wz.cell? ⟨ps, i, none⟩ = some (.bool (s i))) => rset_any ps N s wz hs (by omega))
    have hl1 : ((List.range N).filter (rch g (fs.take 10))).length ≤ 1000000 := by
      have := List.length_filter_le (rch g (fs.take 10)) (List.range N)
      rw [List.length_range] at this
      omega
    have hl2 : ((List.range N).filter (loopS g (sccs g))).length ≤ 1000000 := by
      have := List.length_filter_le (loopS g (sccs g)) (List.range N)
      rw [List.length_range] at this
      omega
    clear HE1 HE2 hout1 hout2 HF HT f1 f2
    generalize hr1 : (List.range N).filter (rch g (fs.take 10)) = r1 at HA1 HRC hl1
    generalize hr2 : (List.range N).filter (loopS g (sccs g)) = r2 at HA2 HL2 hl2
    clear hr1 hr2
    have HQ1 := hid (fun a1 a2 c1 c2 wz (h1 : NAt wz wz.heap.size a1 r1) (h2 : NAt wz wz.heap.size a2 r1) => geq_any a1 a2 _ _ c1 c2 r1 r1 wz h1 h2 hl1)
    have HQ2 := hid (fun a1 a2 c1 c2 wz (h1 : NAt wz wz.heap.size a1 r2) (h2 : NAt wz wz.heap.size a2 r2) => geq_any a1 a2 _ _ c1 c2 r2 r2 wz h1 h2 hl2)
    rw [decide_eq_true rfl] at HQ1 HQ2
    clear hl1 hl2
    have t6 := L3.out.two
    rw [HN.out] at t6
    have c0 := t6.c0
    have c1 := t6.c1
    have T6 := hid t6
    clear t6
    have kd : Keeps [] w3 w3.drew := Keeps.drew _ _
    go_region_held3 (fun w' => w'.cell? ⟨bx, 0, none⟩ = some (.int .i64 (N : Int)) ∧ w'.cell? ⟨bx, 1, none⟩ = some (.slice (some ⟨p, 0, none⟩) N N)) (go_keep) (first
      | (go_at_call 12; refine (HR1.out _ kd).mono ?_; rintro e w4 ⟨b4, rfl, hs4, k4, _⟩; have kk4 := kd.quiet k4; have S4 := hid hs4; have g4 := (T6.out.kept kk4 (by simp)).c0; have h4 := (T6.out.kept kk4 (by simp)).c1; clear hs4 k4)
      | (go_at_call 13; revert kk8; intro kk8; refine (HA2.out _ _ kk8 S8.out).mono ?_; rintro e w9 ⟨v9, rfl, h9, k9⟩; obtain ⟨a9, c9, rfl, n9, _, _⟩ := ownsRow_nat h9; have N9 := hid n9; have kk9 := kk8.quiet k9; have g9 := (T6.out.kept kk9 (by simp)).c0; have i9 := (T6.out.kept kk9 (by simp)).c1; clear h9 n9 k9)
      | (go_at_call 13; refine (HA1.out _ _ kk4 S4.out).mono ?_; rintro e w5 ⟨v5, rfl, h5, k5⟩; obtain ⟨a5, c5, rfl, n5, _, _⟩ := ownsRow_nat h5; have N5 := hid n5; have kk5 := kk4.quiet k5; have g5 := (T6.out.kept kk5 (by simp)).c0; have i5 := (T6.out.kept kk5 (by simp)).c1; clear h5 n5 k5)
      | (go_at_call 15; refine (HR2.out _ kk5).mono ?_; rintro e w6 ⟨ps, rfl, s6, r6, k6, hs6⟩; have e6 := hid (HRC.out s6 (by rw [HN.out]; exact hs6)); have C6 := hid (fun i (hi : i < N) => r6.cell hi); have kk6 := kk5.quiet k6; have k56 := hid k6; have g6 := (T6.out.kept kk6 (by simp)).c0; have i6 := (T6.out.kept kk6 (by simp)).c1; clear r6 k6 hs6)
      | (go_at_call 14; refine (HRS.out _ s6 _ C6.out).mono ?_; rintro e w7 ⟨v7, rfl, h7, k7⟩; rw [e6.out] at h7; obtain ⟨a7, c7, rfl, n7, _, _⟩ := ownsRow_nat h7; have N7 := hid n7; have M7 := hid (InAt.up (N5.out.kept (k56.out.quiet k7) (by simp)) (k56.out.quiet k7).size); have kk7 := kk6.quiet k7; have g7 := (T6.out.kept kk7 (by simp)).c0; have i7 := (T6.out.kept kk7 (by simp)).c1; clear h7 n7 k7)
      | (go_at_call 11; revert kk10; intro kk10; refine (HQ2.out _ _ _ _ _ M10.out N10.out).mono ?_; rintro e wb ⟨rfl, mb, rfl⟩; have kkb := kk10.quiet (Keeps.drewN [] _ mb); have gb := (T6.out.kept kkb (by simp)).c0; have ib := (T6.out.kept kkb (by simp)).c1)
      | (go_at_call 11; refine (HQ1.out _ _ _ _ _ M7.out N7.out).mono ?_; rintro e wq ⟨rfl, mq, rfl⟩; have kkq := kk7.quiet (Keeps.drewN [] _ mq); have gq := (T6.out.kept kkq (by simp)).c0; have iq := (T6.out.kept kkq (by simp)).c1)
      | (go_at_call 16; refine (HL1.out _ kkq).mono ?_; rintro e w8 ⟨b8, rfl, hs8, k8, _⟩; have kk8 := kkq.quiet k8; have S8 := hid hs8; have g8 := (T6.out.kept kk8 (by simp)).c0; have i8 := (T6.out.kept kk8 (by simp)).c1; clear hs8 k8)
      | (go_at_call 17; refine (HL2.out _ kk9).mono ?_; rintro e w10 ⟨v10, rfl, h10, k10⟩; obtain ⟨a10, c10, rfl, n10, _, _⟩ := ownsRow_nat h10; have N10 := hid n10; have M10 := hid (InAt.up (N9.out.kept k10 (by simp)) k10.size); have kk10 := kk9.quiet k10; have g10 := (T6.out.kept kk10 (by simp)).c0; have i10 := (T6.out.kept kk10 (by simp)).c1; clear h10 n10 k10)
      | fail)
    all_goals
      go_wp2
      go_ret
      exact ⟨rfl, L3.out.keep.quiet kkb⟩
end Go.Proofs.YtngdnjlohmkbiaaDoor
