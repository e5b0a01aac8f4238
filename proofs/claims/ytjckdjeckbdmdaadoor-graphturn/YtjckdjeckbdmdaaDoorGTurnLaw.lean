/-
  The statement GraphTurn.
-/
import Derived.Test.YtjckdjeckbdmdaaDoorGLaw
namespace Go.Proofs.YtjckdjeckbdmdaaDoor
open Go.RowKit

set_option maxHeartbeats 4000000 in
theorem turn_law (n : Int) (pa : Option Addr) (cap : Nat) (zs : List (Int × Int)) (w : World) (hT : TabAt w) (hz : PairsAt w pa zs) (hl : zs.length ≤ maxLen) :
    Calls Tryd.prog 7 #[.int .i64 n, .slice pa zs.length cap] w fun e w' => e = .returned (.bool true) ∧ Keeps [] w w' := by
  have HBG := hid (begun5_any w hT)
  obtain ⟨N, g, L, hN2, hN1, hgl, hsm, hgd, hnn, hmd⟩ := made_pack n zs hl
  have HMD := hid (fun wz (k : Keeps [] w wz) => hmd pa cap wz (hz.kept k (fun _ _ _ => by simp)))
  have HS := hid hsm
  have HGD := hid hgd
  have HN := hid hgl
  clear hT hz hl hmd hsm hgd hgl hnn
  generalize zs.length = zl at HMD
  go_enter Tryd.func7, Tryd.ntmps7
  go_wp2_with fail
  refine HBG.out.mono ?_
  rintro e w1 ⟨rfl, k1⟩
  clear HBG
  go_wp2_with fail
  refine (HMD.out w1 k1).mono ?_
  rintro e w2 ⟨p, vs, rfl, ho2, k2⟩
  have L3 := hid (LG.make ho2 (k1.quiet k2))
  rw [← HGD.out] at L3
  clear ho2 k2 k1 HMD HGD
  have HTN := hid (turn_any g HS.out (some ⟨p, 0, none⟩) g.length _ _ L3.out.gr (by simp))
  have t3 := L3.out.two
  rw [HN.out] at HTN t3
  have c0 := t3.c0
  have c1 := t3.c1
  have hlt3 := L3.out.lt
  clear t3
  go_wp2_with fail
  generalize w2.alloc (Obj.cells #[.int .i64 (N : Int), .slice (some ⟨p, 0, none⟩) N N] 27) = w3 at L3 HTN c0 c1 ⊢
  obtain ⟨B, hB⟩ : ∃ B, w2.heap.size + 1 = B := ⟨_, rfl⟩
  rw [hB] at L3 hlt3
  generalize w2.heap.size = bx at L3 hlt3 c0 c1 ⊢
  clear hB
  refine HTN.out.mono ?_
  rintro e w4 ⟨p4, vs4, rfl, ho4, k4⟩
  have L5 := hid (LG.make ho4 k4)
  have k5 := k4.quiet (Keeps.alloc [] w4 (.cells #[.int .i64 (N : Int), .slice (some ⟨p4, 0, none⟩) N N] 27))
  have G5 := hid (L3.out.quiet k5)
  have e5 : ((List.range N).map (inTo g N)).length = N := by simp
  have t5 := L5.out.two
  rw [e5] at t5
  have d0 := t5.c0
  have d1 := t5.c1
  have g5 := G5.out.two
  rw [HN.out] at g5
  have f0 := g5.c0
  have f1 := g5.c1
  have hle5 := L3.out.le
  have hb5 := L5.out.base
  have hl5 := L5.out.lt
  have hnn : ((N : Int) != (N : Int)) = false := by simp
  clear HTN L3 ho4 k4 c0 c1 t5 g5
  go_wp2_with fail
  generalize w4.alloc (Obj.cells #[.int .i64 (N : Int), .slice (some ⟨p4, 0, none⟩) N N] 27) = w5 at L5 G5 d0 d1 f0 f1 k5 ⊢
  obtain ⟨B5, hB5⟩ : ∃ B5, w4.heap.size + 1 = B5 := ⟨_, rfl⟩
  rw [hB5] at L5 hb5 hl5
  generalize w4.heap.size = b5 at L5 d0 d1 hl5 ⊢
  clear hB5 d0 d1 f0 f1 k5

  have hBB : B ≤ B5 := by omega
  obtain ⟨tG, htG⟩ : ∃ tG, (List.range N).map (inTo g N) = tG := ⟨_, rfl⟩
  rw [htG] at L5 e5
  have HTG := hid htG
  have HTL := hid e5
  clear htG e5 hl5 hb5 hle5 hlt3
  go_loopw [8] (fun v8 wr => ∃ b : Nat, v8 = .int .i64 (b : Int) ∧ b ≤ N ∧ Box (LG w wr bx p B g) ∧ Box (LG w3 wr b5 p4 B5 tG)) (fun v8 _ => N - (intOf v8).toNat)
  case atStart => exact ⟨0, rfl, by omega, G5, L5⟩
  case round =>
    clear G5 L5
    obtain ⟨b, rfl, hb, HG, HL⟩ := hrel
    have t6 := HG.out.two
    rw [HN.out] at t6
    have c0 := t6.c0
    have c1 := t6.c1
    clear t6
    by_cases hbN : b < N
    · have hbN' : (b : Int) < (N : Int) := by omega
      go_wp2_with fail
      clear c0 c1
      obtain ⟨wo, hwo⟩ : ∃ wo, wo = wr := ⟨_, rfl⟩
      subst hwo
      go_loopw [9, 10] (fun v9 v10 wr => ∃ (vl : Value) (a : Nat), v10 = .int .i64 (a : Int) ∧ vl = v9 ∧ a ≤ N ∧ Box (LG w wr bx p B g) ∧ Box (LG w3 wr b5 p4 B5 tG) ∧ Box (wr.ownsRow B5 3 1 vl (inTo g a b).length (ints (inTo g a b)))) (fun _ v10 _ => N - (intOf v10).toNat)
      case atStart => exact ⟨_, 0, rfl, rfl, by omega, HG, HL, hid (nil_row _ _)⟩
      case round =>
        clear HG HL
        obtain ⟨vl, a, rfl, rfl, ha, HG, HL, HO⟩ := hrel
        have t6 := HG.out.two
        rw [HN.out] at t6
        have c0 := t6.c0
        have c1 := t6.c1
        clear t6
        by_cases haN : a < N
        · have haN' : (a : Int) < (N : Int) := by omega
          have HO0 : Box (wr.ownsRow B5 3 1 vl (inT g a 0 b).length (ints (inT g a 0 b))) := hid (by rw [inT_zero]; exact HO.out)
          go_wp2_with fail
          clear c0 c1 HO
          obtain ⟨wo2, hwo2⟩ : ∃ wo2, wo2 = wr := ⟨_, rfl⟩
          subst hwo2
          go_loopw [9, 11] (fun v9 v11 wr => ∃ (vl : Value) (m : Nat), v11 = .int .i64 (m : Int) ∧ vl = v9 ∧ m ≤ (nb g a).length ∧ Box (LG w wr bx p B g) ∧ Box (LG w3 wr b5 p4 B5 tG) ∧ Box (wr.ownsRow B5 3 1 vl (inT g a m b).length (ints (inT g a m b)))) (fun _ v11 _ => (nb g a).length - (intOf v11).toNat)
          case atStart => exact ⟨_, 0, rfl, rfl, by omega, HG, HL, HO0⟩
          case round =>
            clear HG HL HO0
            obtain ⟨vl, m, rfl, rfl, hm, HG, HL, HO⟩ := hrel
            have t6 := HG.out.two
            rw [HN.out] at t6
            have c0 := t6.c0
            have c1 := t6.c1
            clear t6
            obtain ⟨bq, oq, ai, ci, hpq, hcg, hin⟩ := HG.out.gr.at (k := a) (by rw [HN.out]; exact haN)
            simp only [Option.some.injEq, Addr.mk.injEq, and_true] at hpq
            obtain ⟨rfl, rfl⟩ := hpq
            rw [Nat.zero_add] at hcg
            have hlen := HS.out.short a
            by_cases hml : m < (nb g a).length
            · obtain ⟨bz, oz, rfl, hcz⟩ := hin.at hml
              have hml' : (m : Int) < ((nb g a).length : Int) := by omega
              have hsc := hid (inT_succ g a m b hml)
              have hle : (inT g a m b).length ≤ 10000000 := by
                rw [inT_len]
                have h1 := deg_short HS.out b a
                have h2 : occ ((nb g a).take m) b ≤ (nb g a).length := Nat.le_trans (List.length_filter_le _ _) (by rw [List.length_take]; omega)
                omega
              obtain ⟨x, hx⟩ : ∃ x, (nb g a).getD m 0 = x := ⟨_, rfl⟩
              rw [hx] at hcz hsc
              clear hx hin
              obtain ⟨nl, hnl⟩ : ∃ nl, (nb g a).length = nl := ⟨_, rfl⟩
              rw [hnl] at hcg hml hml' hm hlen ⊢
              by_cases hbx : b = x
              · rw [if_pos hbx] at hsc
                subst hbx
                have hee : ((b : Int) == (b : Int)) = true := by simp
                have hB5 := HL.out.le
                go_wp2_with (at_builtin; go_must (refine wpList_append_own _ rfl _ _ 23 rfl B5 3 Tryd.t3 (.int .i64 0) 1 8 under_ints info_int zero_int size_int bytes_int rfl (by decide) vl _ _ rfl (HO.out.alloc _) _ 1 1 [.int .i64 (a : Int)] rfl rfl (cell_one_new _ _ _) (fun x hx => by simp at hx; subst hx; rfl) (by unfold maxLen; omega) (by omega) (by simp; omega) ?_; intro v8 w8 hown8 hgrow8 hnil8))
                have HO8 : Box (w8.ownsRow B5 3 1 v8 (inT g a (m + 1) b).length (ints (inT g a (m + 1) b))) := hid (by
                  rw [hsc.out, List.length_append, show ints (inT g a m b ++ [a]) = ints (inT g a m b) ++ [.int .i64 (a : Int)] from by simp [ints]]
                  exact hown8)
                have k8 : Keeps vl.ownBlock.toList wr w8 := (Keeps.alloc [] wr _).mono (by simp) |>.trans (Keeps.grown vl.ownBlock.toList hgrow8 (fun y hy => by rw [hy]; simp)) (fun x hx _ => hx)
                have G8 := hid (HG.out.kept k8 (fun x hx => Nat.le_trans hBB (own_new HO.out x hx)))
                have L8 := hid (HL.out.kept k8 (fun x hx => own_new HO.out x hx))
                clear hown8 hgrow8 hnil8 k8 HG HL HO
                go_roundw
                case rel => exact ⟨v8, m + 1, by go_num, rfl, by omega, G8, L8, HO8⟩
                case measure => simp [intOf]; omega
              · rw [if_neg hbx] at hsc
                have hee : ((x : Int) == (b : Int)) = false := by rw [beq_eq_false_iff_ne]; omega
                go_wp2
                go_roundw
                case rel => exact ⟨vl, m + 1, by go_num, rfl, by omega, HG, HL, hid (by rw [hsc.out]; exact HO.out)⟩
                case measure => simp [intOf]; omega
            · have hml' : ¬ ((m : Int) < ((nb g a).length : Int)) := by omega
              have HO2 : Box (wr.ownsRow B5 3 1 vl (inTo g (a + 1) b).length (ints (inTo g (a + 1) b))) := hid (by
                rw [← inT_all, ← show m = (nb g a).length by omega]
                exact HO.out)
              clear hin HO
              generalize (nb g a).length = nl at hcg hml hml' hm hlen ⊢
              go_wp2
              go_roundw
              case rel => exact ⟨vl, a + 1, by go_num, rfl, by omega, HG, HL, HO2⟩
              case measure => simp [intOf]; omega
        · obtain rfl : a = N := by omega
          have t7 := HL.out.two
          rw [HTL.out] at t7
          have d0 := t7.c0
          have d1 := t7.c1
          clear t7
          obtain ⟨bq, oq, ai, ci, hpq, hcg, hin⟩ := HL.out.gr.at (k := b) (by rw [HTL.out]; exact hbN)
          simp only [Option.some.injEq, Addr.mk.injEq, and_true] at hpq
          obtain ⟨rfl, rfl⟩ := hpq
          rw [Nat.zero_add] at hcg
          have hnb : nb tG b = inTo g a b := by rw [← HTG.out]; exact nb_map _ _ _ hbN
          rw [hnb] at hcg hin
          obtain ⟨av, cv, rfl, hnv, _, _⟩ := ownsRow_nat HO.out
          have hle : (inTo g a b).length ≤ 1000000 := by
            have h1 := inT_len g a 0 b
            rw [inT_zero] at h1
            have h2 := deg_short HS.out b a
            have h3 : occ ((nb g a).take 0) b = 0 := rfl
            omega
          have HEQ := hid (geq_any ai av _ _ ci cv _ _ wr hin hnv hle)
          rw [decide_eq_true rfl] at HEQ
          clear hin hnv hnb HO
          generalize (inTo g a b).length = il at hcg HEQ ⊢
          go_wp2_with fail
          refine HEQ.out.mono ?_
          rintro e w9 ⟨rfl, m9, rfl⟩
          have G9 := hid (HG.out.quiet (Keeps.drewN [] _ m9))
          have L9 := hid (HL.out.quiet (Keeps.drewN [] _ m9))
          clear HG HL HEQ c0 c1 d0 d1 hcg
          go_wp2
          go_roundw
          case rel => exact ⟨b + 1, by go_num, by omega, G9, L9⟩
          case measure => simp [intOf]; omega
    · obtain rfl : b = N := by omega
      go_wp2
      go_ret
      exact ⟨rfl, HG.out.keep⟩
end Go.Proofs.YtjckdjeckbdmdaaDoor
