/-
  The statement DomDeep.
-/
import Derived.Test.YtjdcphkmaaoehaaDBegun
import Derived.Test.YtjdcphkmaaoehaaGLaw
namespace Go.Proofs.Ytjdcphkmaaoehaa
open Go.RowKit

/-- What Up of a graph's variable leaves: the graph, and the list. -/
structure LU (w wz : World) (bx p B : Nat) (g : List (List Nat)) (pu : Nat) (U : Nat → Int) : Prop where
  lg : LG w wz bx p B g
  up : UAt wz pu g.length U
  of : UpOf g 0 U
theorem LU.quiet {w wz wy : World} {bx p B pu : Nat} {g : List (List Nat)} {U : Nat → Int} (h : LU w wz bx p B g pu U) (k : Keeps [] wz wy) : LU w wy bx p B g pu U :=
  ⟨h.lg.quiet k, h.up.kept k (by simp), h.of⟩

set_option maxRecDepth 20000 in
set_option maxHeartbeats 4000000 in
theorem domDeep_law (n : Int) (pa : Option Addr) (cap : Nat) (zs : List (Int × Int)) (w : World) (hz : PairsAt w pa zs) (hl : zs.length ≤ maxLen) (_ : zs.length ≤ cap) :
    Calls Try.prog 7 #[.int .i64 n, .slice pa zs.length cap] w fun e w' => e = .returned (.bool true) ∧ Keeps [] w w' := by
  have HBG := hid (begun6_any w)
  obtain ⟨N, g, L, hN2, hN1, hgl, hsm, hgd, hnn, hmd⟩ := made_pack n zs hl
  have HMD := hid (fun wz (k : Keeps [] w wz) => hmd pa cap wz (hz.kept k (fun _ _ _ => by simp)))
  have HS := hid hsm
  have HGD := hid hgd
  have HN := hid hgl
  have h0g : 0 < g.length := by omega
  have HUP := hid (fun bx p B wz (h : LG w wz bx p B g) => up_in g hsm (some ⟨p, 0, none⟩) g.length B 0 wz h.gr h.le h0g)
  have HDP := hid (fun U (hU : UpOf g 0 U) pu wz (h : UAt wz pu g.length U) (hp : pu < wz.heap.size) => depth_any g hsm 0 h0g U (depU g 0 U) hU (depU_of hsm.ok h0g hU) pu wz h hp)
  have HAB := hid (fun U (hU : UpOf g 0 U) pu wz (h : UAt wz pu g.length U) a b d hd => above_any g hsm 0 h0g U hU pu wz h a b d hd)
  have HDO := hid (fun U (hU : UpOf g 0 U) => depU_of hsm.ok h0g hU)
  have HST := hid (fun U (hU : UpOf g 0 U) y hy hne => hU.step hsm.ok h0g (y := y) hy hne)
  have HRK := hid (fun y (hy : Pth g noS 0 y) => rk_lt hsm.ok h0g hy)
  have HAN := hid (fun a b (h1 : Dom g 0 a b) (h2 : Dom g 0 b a) => Dom.anti hsm.ok h0g h1 h2)
  rw [hgl] at HUP HDP HAB HRK
  clear hz hl hmd hsm hgd hgl hnn h0g
  generalize zs.length = zl at HMD
  go_enter Try.func7, Try.ntmps7
  go_wp2_with fail
  refine HBG.out.mono ?_
  rintro e w1 ⟨rfl, k1⟩
  clear HBG
  go_wp2_with fail
  refine (HMD.out w1 k1).mono ?_
  rintro e w2 ⟨p, vs, rfl, ho2, k2⟩
  have L3 := hid (LG.make ho2 (k1.quiet k2))
  rw [← HGD.out] at L3
  clear ho2 k2 k1 HMD HGD
  go_upto_region 5 with fail
  generalize w2.alloc (Obj.cells #[.int .i64 (N : Int), .slice (some ⟨p, 0, none⟩) N N] 26) = w3 at L3 ⊢
  obtain ⟨B, hB⟩ : ∃ B, w2.heap.size + 1 = B := ⟨_, rfl⟩
  rw [hB] at L3
  generalize w2.heap.size = bx at L3 ⊢
  clear hB
  have t3 := L3.out.two
  rw [HN.out] at t3
  have c0 := t3.c0
  have c1 := t3.c1
  clear t3
  go_wp2_with fail
  refine (HUP.out bx p B w3 L3.out).mono ?_
  rintro e w4 ⟨pu, U, rfl, r4, u4, k4⟩
  have R4 := hid r4.uat
  have U4 := hid u4
  have L4 := hid (L3.out.quiet k4)
  have hpu := r4.lt.2
  clear r4 u4 k4 c0 c1 L3 HUP
  go_wp2_with fail
  refine (HDP.out U U4.out pu w4 R4.out hpu).mono ?_
  rintro e w5 ⟨pd, rfl, r5, k5⟩
  have D5 := hid r5.uat
  have R5 := hid (R4.out.kept k5 (by simp))
  have L5 := hid (L4.out.quiet k5)
  have DO := hid (HDO.out U U4.out)
  clear r5 k5 R4 L4 HDP HDO hpu
  have t5 := L5.out.two
  rw [HN.out] at t5
  have c0 := t5.c0
  clear t5
  have hbN : ((N : Int) != (N : Int)) = false := by simp
  generalize hDD : depU g 0 U = D at D5 DO
  clear hDD
  go_wp2_with fail
  go_loopw [9] (fun iv wr => ∃ i : Nat, iv = .int .i64 (i : Int) ∧ i ≤ N ∧ Box (Keeps [] w5 wr)) (fun iv _ => N - (intOf iv).toNat)
  case atStart => exact ⟨0, rfl, by omega, hid (Keeps.refl _ _)⟩
  case round =>
    clear c0
    obtain ⟨i, rfl, hi, HK⟩ := hrel
    have t6 := (L5.out.quiet HK.out).two
    rw [HN.out] at t6
    have c0 := t6.c0
    clear t6
    have RU := (R5.out.kept HK.out (by simp))
    have RD := (D5.out.kept HK.out (by simp))
    by_cases hlt : i < N
    · have hlt' : (i : Int) < (N : Int) := by omega
      have cu := RU i hlt
      have cd := RD i hlt
      by_cases hp : Pth g noS 0 i
      · by_cases hi0 : i = 0
        · subst hi0
          have hu0 : U 0 = 0 := U4.out.root
          rw [hu0] at cu
          clear hp RU RD
          go_wp2_with fail
          go_quiet (fail)
          have HK2 := hid (HK.out.quiet (Keeps.drewN [] wr nq))
          clear HK
          generalize wr.drewN nq = w9 at HK2 ⊢
          go_wp2_with fail
          go_roundw
          case rel => exact ⟨1, by go_num, by omega, HK2⟩
          case measure => simp [intOf]; omega
        · obtain ⟨z, h1, h2, h3, h4, h5, h6, h7⟩ := HST.out U U4.out i hp hi0
          have hD := DO.out.next i hp hi0 z h1
          have hDz := DO.out.low z h3
          have hDi := DO.out.high i hp
          have hrk := HRK.out i hp
          have cz := RD z (by rw [HN.out] at h2; exact h2)
          have hzN : z < N := by rw [HN.out] at h2; exact h2
          have B1 : Box (DomI g 0 (z : Int) (i : Int)) := hid ⟨z, i, rfl, rfl, h6⟩
          have B2 : Box (¬ DomI g 0 (i : Int) (z : Int)) := hid (fun ⟨a, b, e1, e2, h8⟩ => absurd (HAN.out z i h6 (by rw [show i = a by omega, show z = b by omega]; exact h8)) h4)
          have A1 := hid (fun w9 (k9 : Keeps [] wr w9) a b (hd : DomI g 0 a b) => HAB.out U U4.out pu w9 ((R5.out.kept HK.out (by simp)).kept k9 (by simp)) a b true ⟨fun _ => hd, fun _ => rfl⟩)
          have A2 := hid (fun w9 (k9 : Keeps [] wr w9) a b (hd : ¬ DomI g 0 a b) => HAB.out U U4.out pu w9 ((R5.out.kept HK.out (by simp)).kept k9 (by simp)) a b false ⟨fun h => (by cases h), fun h => absurd h hd⟩)
          rw [h1] at cu
          have hb1 : ((i : Int) != 0) = true := by rw [bne_iff_ne]; omega
          have hzN' : (z : Int) < (N : Int) := by omega
          have hz6 : z < 600 := by omega
          have hz0 : ¬ (z : Int) < 0 := by omega
          have hq6 : D z ≤ 600 := by omega
          have hb2 : (D i != IntKind.i64.wrap (D z + 1)) = false := by
            have e : IntKind.i64.wrap (D z + 1) = D z + 1 := IntWalk.i64_in _ (by omega)
            rw [e, hD]
            simp
          clear h1 h2 h3 h4 h5 h6 h7 hp RU RD hD hDi hrk
          generalize D z = q at cz hDz hb2 hq6
          generalize D i = s at cd hb2
          go_wp2_with fail
          go_quiet ((go_at_call 14; first | (refine Calls.quiet_of_same (A1.out _ (Keeps.drewN _ _ _) _ _ ?_); exact B1.out) | (refine Calls.quiet_of_same (A2.out _ (Keeps.drewN _ _ _) _ _ ?_); exact B2.out)))
          have HK2 := hid (HK.out.quiet (Keeps.drewN [] wr nq))
          clear HK A1 A2 B1 B2
          generalize wr.drewN nq = w9 at HK2 ⊢
          go_wp2_with fail
          go_roundw
          case rel => exact ⟨i + 1, by go_num, by omega, HK2⟩
          case measure => simp [intOf]; omega
      · have e1 := U4.out.out i (by rw [HN.out]; exact hlt) hp
        have e2 := DO.out.out i hp
        rw [e1] at cu
        rw [e2] at cd
        clear hp RU RD e1 e2
        go_wp2
        go_roundw
        case rel => exact ⟨i + 1, by go_num, by omega, HK⟩
        case measure => simp [intOf]; omega
    · obtain rfl : i = N := by omega
      have cd := RD 0 (by omega)
      have e2 : D 0 = 0 := DO.out.root
      rw [e2] at cd
      clear RU RD e2
      go_wp2
      go_ret
      exact ⟨rfl, L5.out.keep.quiet HK.out⟩
end Go.Proofs.Ytjdcphkmaaoehaa
