/-
  The statement DomUp.
-/
import Derived.Test.YtjdcphkmaaoehaaDRefUp
import Derived.Test.YtjdcphkmaaoehaaGLaw
import Derived.Deep.RegionHeld3
namespace Go.Proofs.Ytjdcphkmaaoehaa
open Go.RowKit

set_option maxRecDepth 20000 in
set_option maxHeartbeats 8000000 in
theorem domUp_law (n : Int) (pa : Option Addr) (cap : Nat) (zs : List (Int × Int)) (rt : Int) (w : World) (hz : PairsAt w pa zs) (hl : zs.length ≤ maxLen) (_ : zs.length ≤ cap) :
    Calls Try.prog 3 #[.int .i64 n, .slice pa zs.length cap, .int .i64 rt] w fun e w' => e = .returned (.bool true) ∧ Keeps [] w w' := by
  have HBG := hid (begun6_any w)
  obtain ⟨N, g, L, hN2, hN1, hgl, hsm, hgd, hnn, hmd⟩ := made_pack n zs hl
  have HMD := hid (fun wz (k : Keeps [] w wz) => hmd pa cap wz (hz.kept k (fun _ _ _ => by simp)))
  have HS := hid hsm
  have HGD := hid hgd
  have HN := hid hgl
  clear hz hl hmd hsm hgd hgl hnn
  generalize zs.length = zl at HMD
  go_enter Try.func3, Try.ntmps3
  go_wp2_with fail
  refine HBG.out.mono ?_
  rintro e w1 ⟨rfl, k1⟩
  clear HBG
  go_wp2_with fail
  refine (HMD.out w1 k1).mono ?_
  rintro e w2 ⟨p, vs, rfl, ho2, k2⟩
  have L3 := hid (LG.make ho2 (k1.quiet k2))
  rw [← HGD.out] at L3
  clear ho2 k2 k1 HMD HGD
  go_upto_region 5 with fail
  generalize w2.alloc (Obj.cells #[.int .i64 (N : Int), .slice (some ⟨p, 0, none⟩) N N] 26) = w3 at L3 ⊢
  obtain ⟨B, hB⟩ : ∃ B, w2.heap.size + 1 = B := ⟨_, rfl⟩
  rw [hB] at L3
  generalize w2.heap.size = bx at L3 ⊢
  clear hB
  have t3 := L3.out.two
  rw [HN.out] at t3
  have c0 := t3.c0
  have c1 := t3.c1
  clear t3
  by_cases hin : 0 ≤ rt ∧ rt < (N : Int)
  · obtain ⟨r, rfl⟩ := Int.eq_ofNat_of_zero_le hin.1
    have hrN : r < N := by omega
    have hrN' := hin.2
    have hr0 := hin.1
    clear hin
    have hrg : r < g.length := by rw [HN.out]; exact hrN
    have HUP := hid (fun bx p B wz (h : LG w wz bx p B g) => up_in g HS.out (some ⟨p, 0, none⟩) g.length B r wz h.gr h.le hrg)
    have HRU := hid (fun bx p B wz (h : LG w wz bx p B g) U hU => rup_any g HS.out (some ⟨p, 0, none⟩) g.length B wz h.gr r hrg U hU)
    have HAB := hid (fun U (hU : UpOf g r U) pu wz (h : UAt wz pu g.length U) a b d hd => above_any g HS.out r hrg U hU pu wz h a b d hd)
    have HRA := hid (fun bx p B wz (h : LG w wz bx p B g) x y hx hy => rabove_any g HS.out (some ⟨p, 0, none⟩) g.length B wz h.gr r x y hrg hx hy)
    have HDP := hid (fun U (hU : UpOf g r U) pu wz (h : UAt wz pu g.length U) (hp : pu < wz.heap.size) => depth_any g HS.out r hrg U (depU g r U) hU (depU_of HS.out.ok hrg hU) pu wz h hp)
    have HDB := hid (fun a b => domB_iff HS.out.ok hrg a b)
    have HDO := hid (fun U (hU : UpOf g r U) => depU_of HS.out.ok hrg hU)
    have HRL := hid (fun b (hb : Pth g noS r b) => rk_lt HS.out.ok hrg hb)
    have HPL := hid (fun b (hb : Pth g noS r b) => hb.lt HS.out.ok hrg)
    have HHR := hid hrg
    rw [HN.out] at HUP HRU HAB HRA HDP HRL HPL
    clear hrg
    go_wp2_with fail
    refine (HUP.out bx p B w3 L3.out).mono ?_
    rintro e w4 ⟨pu, U, rfl, r4, u4, k4⟩
    have R4 := hid r4.uat
    have hpu4 := r4.lt.2
    have U4 := hid u4
    have L4 := hid (L3.out.quiet k4)
    clear r4 u4 k4 c0 c1 L3 HUP
    have t4 := L4.out.two
    rw [HN.out] at t4
    have c0 := t4.c0
    have c1 := t4.c1
    clear t4
    go_wp2_with fail
    refine (HRU.out bx p B w4 L4.out U U4.out).mono ?_
    rintro e w5 ⟨po, rfl, r5, k5⟩
    have Q5 := hid r5.uat
    have R5 := hid (R4.out.kept k5 (by simp))
    have L5 := hid (L4.out.quiet k5)
    have hpu5 : pu < w5.heap.size := Nat.lt_of_lt_of_le hpu4 k5.size
    clear r5 k5 c0 c1 L4 R4 hpu4 HRU
    have HE := hid (eq_any (some ⟨pu, 0, none⟩) (some ⟨po, 0, none⟩) N N ((List.range N).map U) ((List.range N).map U) w5 R5.out.ints Q5.out.ints (by rw [List.length_map, List.length_range]; omega))
    rw [List.length_map, List.length_range, decide_eq_true rfl] at HE
    go_wp2_with fail
    refine HE.out.mono ?_
    rintro e w6 ⟨rfl, m6, rfl⟩
    have k6 := Keeps.drewN [] w5 m6
    have Q6 := hid (Q5.out.kept k6 (by simp))
    have R6 := hid (R5.out.kept k6 (by simp))
    have L6 := hid (L5.out.quiet k6)
    have hpu6 : pu < (w5.drewN m6).heap.size := Nat.lt_of_lt_of_le hpu5 k6.size
    clear k6 HE Q5 R5 L5 hpu5
    generalize w5.drewN m6 = w6 at Q6 R6 L6 hpu6 ⊢
    go_wp2_with fail
    refine (HDP.out U U4.out pu w6 R6.out hpu6).mono ?_
    rintro e w7 ⟨pd, rfl, r7, k7⟩
    have D7 := hid r7.uat
    have Q7 := hid (Q6.out.kept k7 (by simp))
    have R7 := hid (R6.out.kept k7 (by simp))
    have L7 := hid (L6.out.quiet k7)
    clear r7 k7 Q6 R6 L6 hpu6 HDP
    have HD := hid (HDO.out U U4.out)
    have HST := hid (fun y (h1 : Pth g noS r y) (h2 : y ≠ r) => U4.out.step HS.out.ok HHR.out h1 h2)
    have HUO : Box (∀ y, y < N → ¬ Pth g noS r y → U y = -1) := hid (fun y hy => U4.out.out y (by rw [HN.out]; exact hy))
    have HURoot := hid U4.out.root
    generalize depU g r U = D at D7 HD
    have A3 := hid (fun w9 (k9 : Keeps [] w7 w9) (a b : Nat) => HAB.out U U4.out pu w9 (R7.out.kept k9 (by simp)) (a : Int) (b : Int) (domB g r a b) (by
      rw [HDB.out]
      constructor
      · intro h; exact ⟨a, b, rfl, rfl, h⟩
      · rintro ⟨i, j, h1, h2, h3⟩
        obtain rfl : a = i := by omega
        obtain rfl : b = j := by omega
        exact h3))
    have A5 := hid (fun w9 (k9 : Keeps [] w7 w9) => HAB.out U U4.out pu w9 (R7.out.kept k9 (by simp)) (-1) 0 false ⟨fun h => (by cases h), fun ⟨i, j, h1, _⟩ => by omega⟩)
    have A6 := hid (fun w9 (k9 : Keeps [] w7 w9) => HAB.out U U4.out pu w9 (R7.out.kept k9 (by simp)) 0 (N : Int) false ⟨fun h => (by cases h), fun ⟨i, j, h1, h2, h3⟩ => by have := HPL.out j h3.1; omega⟩)
    have A7 := hid (fun w9 (k9 : Keeps [] w7 w9) x y hx hy => HRA.out bx p B w9 (L7.out.quiet k9) x y hx hy)
    have t7 := L7.out.two
    rw [HN.out] at t7
    have T7 := hid t7
    have c0 := t7.c0
    clear t7 HAB HRA HDO R7
    go_wp2_with fail
    go_loopw [12] (fun iv wr => ∃ i : Nat, iv = .int .i64 (i : Int) ∧ i ≤ N ∧ Box (Keeps [] w7 wr)) (fun iv _ => N - (intOf iv).toNat)
    case atStart => exact ⟨0, rfl, by omega, hid (Keeps.refl _ _)⟩
    case round =>
      clear c0
      obtain ⟨i, rfl, hi, HK⟩ := hrel
      have c0 := (T7.out.kept HK.out (by simp)).c0
      by_cases hlt : i < N
      · have hlt' : (i : Int) < (N : Int) := by omega
        have cd := (D7.out.kept HK.out (by simp)) i hlt
        have cu := (Q7.out.kept HK.out (by simp)) i hlt
        by_cases hp : Pth g noS r i
        · have hu0 : 0 ≤ U i := by
            by_cases e : i = r
            · rw [e, HURoot.out]; omega
            · obtain ⟨z, h1, _⟩ := HST.out i hp e
              rw [h1]; omega
          have hDi := HD.out.low i hp
          have hDh := HD.out.high i hp
          have hrk := HRL.out i hp
          have HP := hid hp
          obtain ⟨di, hdi⟩ : ∃ di : Nat, D i = (di : Int) := Int.eq_ofNat_of_zero_le hDi
          have hdi6 : di ≤ 600 := by omega
          have HDI := hid hdi
          rw [hdi] at cd
          clear hp hDi hDh hrk hdi
          generalize U i = u at cu hu0
          go_wp2_with fail
          clear cu c0 cd
          generalize wr = w8 at HK ⊢
          go_loopw [13, 14] (fun dv xv wr => ∃ d c : Nat, dv = .int .i64 (d : Int) ∧ xv = .int .i64 (c : Int) ∧ Pth g noS r c ∧ (di : Int) = (d : Int) + D c ∧ wr = w8) (fun _ xv _ => rk g r (intOf xv).toNat)
          case atStart => exact ⟨0, i, rfl, rfl, HP.out, by rw [← HDI.out]; omega, rfl⟩
          case round =>
            clear HP
            obtain ⟨d, c, rfl, rfl, hp, hdc, hw8⟩ := hrel
            subst hw8
            have hcN := HPL.out c hp
            have hcN' : (c : Int) < (N : Int) := by omega
            have hDc := HD.out.low c hp
            have hd6 : d ≤ 600 := by omega
            by_cases e : c = r
            · have hb : ((c : Int) != (r : Int)) = false := by rw [e]; simp
              have hD0 := HD.out.root
              rw [e, hD0] at hdc
              obtain rfl : di = d := by omega
              have c0 := (T7.out.kept HK.out (by simp)).c0
              have cd := (D7.out.kept HK.out (by simp)) i hlt
              rw [HDI.out] at cd
              clear hp hdc hDc hD0 e HST HDI HD HUO
              go_wp2_with fail
              clear cd c0
              go_loopw [15] (fun jv wr => ∃ j : Nat, jv = .int .i64 (j : Int) ∧ j ≤ N ∧ Box (Keeps [] w7 wr)) (fun jv _ => N - (intOf jv).toNat)
              case atStart => exact ⟨0, rfl, by omega, HK⟩
              case round =>
                clear HK
                obtain ⟨j, rfl, hj, HK⟩ := hrel
                have t8 := T7.out.kept HK.out (by simp)
                have c0 := t8.c0
                have c1 := t8.c1
                have T8 := hid t8
                clear t8
                by_cases hlj : j < N
                · have hlj' : (j : Int) < (N : Int) := by omega
                  have HC1 := hid (A3.out wr.drew (HK.out.quiet (Keeps.drew _ _)) i j)
                  have HC2 := hid (A7.out wr.drew (HK.out.quiet (Keeps.drew _ _)) i j hlt hlj)
                  generalize domB g r i j = d at HC1 HC2
                  go_upto_region 27 with fail
                  cases d
                  all_goals
                    have kd : Keeps [] wr wr.drew := Keeps.drew _ _
                    go_region_held3 (fun w' => w'.cell? ⟨bx, 0, none⟩ = some (.int .i64 (N : Int)) ∧ w'.cell? ⟨bx, 1, none⟩ = some (.slice (some ⟨p, 0, none⟩) N N)) (go_keep) (first
                      | (go_at_call 14; refine HC1.out.mono ?_; rintro e wq ⟨rfl, hwq⟩; rw [hwq]; clear hwq; have f0 := (T8.out.kept kd (by simp)).c0; have f1 := (T8.out.kept kd (by simp)).c1)
                      | (go_at_call 15; refine HC2.out.mono ?_; rintro e wa ⟨rfl, ka⟩; have kk := kd.quiet ka; have f0 := (T8.out.kept kk (by simp)).c0; have f1 := (T8.out.kept kk (by simp)).c1; clear ka)
                      | fail)
                    all_goals
                      go_wp2_with fail
                      go_roundw
                      case rel => exact ⟨j + 1, by go_num, by omega, hid (HK.out.quiet kk)⟩
                      case measure => simp [intOf]; omega
                · obtain rfl : j = N := by omega
                  go_wp2_with fail
                  go_roundw
                  case rel => exact ⟨i + 1, by go_num, by omega, HK⟩
                  case measure => simp [intOf]; omega
            · have hb : ((c : Int) != (r : Int)) = true := by rw [bne_iff_ne]; omega
              obtain ⟨z, h1, h2, h3, h4, h5, _, _⟩ := HST.out c hp e
              have hDz := HD.out.next c hp e z h1
              have cu := (Q7.out.kept HK.out (by simp)) c hcN
              rw [h1] at cu
              have H3 := hid h3
              have H5 := hid h5
              have hdz : Box ((di : Int) = ((d + 1 : Nat) : Int) + D z) := hid (by omega)
              clear h1 h3 h4 h5 hDz hDc hdc hp
              go_wp2
              go_roundw
              case rel => exact ⟨d + 1, z, by go_num, rfl, H3.out, hdz.out, trivial⟩
              case measure => simp [intOf]; exact H5.out
        · have hu0 := HUO.out i hlt hp
          have hDi := HD.out.out i hp
          rw [hu0] at cu
          rw [hDi] at cd
          clear hp hu0 hDi
          go_wp2_with fail
          clear cu cd c0
          go_loopw [15] (fun jv wr => ∃ j : Nat, jv = .int .i64 (j : Int) ∧ j ≤ N ∧ Box (Keeps [] w7 wr)) (fun jv _ => N - (intOf jv).toNat)
          case atStart => exact ⟨0, rfl, by omega, HK⟩
          case round =>
            clear HK
            obtain ⟨j, rfl, hj, HK⟩ := hrel
            have t8 := T7.out.kept HK.out (by simp)
            have c0 := t8.c0
            have c1 := t8.c1
            have T8 := hid t8
            clear t8
            by_cases hlj : j < N
            · have hlj' : (j : Int) < (N : Int) := by omega
              have HC1 := hid (A3.out wr.drew (HK.out.quiet (Keeps.drew _ _)) i j)
              have HC2 := hid (A7.out wr.drew (HK.out.quiet (Keeps.drew _ _)) i j hlt hlj)
              generalize domB g r i j = d at HC1 HC2
              go_upto_region 27 with fail
              cases d
              all_goals
                have kd : Keeps [] wr wr.drew := Keeps.drew _ _
                go_region_held3 (fun w' => w'.cell? ⟨bx, 0, none⟩ = some (.int .i64 (N : Int)) ∧ w'.cell? ⟨bx, 1, none⟩ = some (.slice (some ⟨p, 0, none⟩) N N)) (go_keep) (first
                  | (go_at_call 14; refine HC1.out.mono ?_; rintro e wq ⟨rfl, hwq⟩; rw [hwq]; clear hwq; have f0 := (T8.out.kept kd (by simp)).c0; have f1 := (T8.out.kept kd (by simp)).c1)
                  | (go_at_call 15; refine HC2.out.mono ?_; rintro e wa ⟨rfl, ka⟩; have kk := kd.quiet ka; have f0 := (T8.out.kept kk (by simp)).c0; have f1 := (T8.out.kept kk (by simp)).c1; clear ka)
                  | fail)
                all_goals
                  go_wp2_with fail
                  go_roundw
                  case rel => exact ⟨j + 1, by go_num, by omega, hid (HK.out.quiet kk)⟩
                  case measure => simp [intOf]; omega
            · obtain rfl : j = N := by omega
              go_wp2_with fail
              go_roundw
              case rel => exact ⟨i + 1, by go_num, by omega, HK⟩
              case measure => simp [intOf]; omega
      · obtain rfl : i = N := by omega
        have HF := hid (L7.out.keep.quiet HK.out)
        have B5 := hid (A5.out wr HK.out)
        have B6 := hid (A6.out wr HK.out)
        clear A3 A5 A6 A7
        go_wp2_with fail
        refine B5.out.mono ?_
        rintro e wq ⟨rfl, hwq⟩
        rw [hwq]
        clear hwq B5
        go_wp2_with fail
        refine B6.out.mono ?_
        rintro e wq ⟨rfl, hwq⟩
        rw [hwq]
        clear hwq B6
        go_wp2
        go_ret
        exact ⟨rfl, HF.out⟩
  · have HUO := hid (up_out g HS.out (some ⟨p, 0, none⟩) g.length B rt w3 L3.out.gr (by rw [HN.out]; exact hin))
    rw [HN.out] at HUO
    go_wp2_with fail
    refine HUO.out.mono ?_
    rintro e w4 ⟨rfl, k4⟩
    have L4 := hid (L3.out.quiet k4)
    have t4 := L4.out.two
    rw [HN.out] at t4
    have c0' := t4.c0
    clear t4 k4 c0 c1 L3 HUO
    by_cases h0 : rt < 0
    · clear hin
      go_wp2
      go_ret
      exact ⟨rfl, L4.out.keep⟩
    · have h1 : (N : Int) ≤ rt := by omega
      clear hin
      go_wp2
      go_ret
      exact ⟨rfl, L4.out.keep⟩
end Go.Proofs.Ytjdcphkmaaoehaa
