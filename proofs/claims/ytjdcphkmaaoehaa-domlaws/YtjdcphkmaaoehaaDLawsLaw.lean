/-
  The statement DomLaws.
-/
import Derived.Test.YtjdcphkmaaoehaaDBegun
import Derived.Test.YtjdcphkmaaoehaaGLaw
import Derived.Test.YtjdcphkmaaoehaaGRch
namespace Go.Proofs.Ytjdcphkmaaoehaa
open Go.RowKit

theorem avI_none : avI (-1) = noS := by
  funext m
  unfold avI noS
  exact decide_eq_false (by omega)
theorem nodI_one {N r : Nat} (h : r < N) : nodI N [(r : Int)] = [r] := by
  have := nodI_snoc_in (N := N) (zs := []) (z := (r : Int)) (by omega)
  rw [List.nil_append] at this
  rw [this, Int.toNat_natCast]
  rfl
theorem one_at {w : World} {b : Nat} {x : Int} (h : w.cell? ⟨b, 0, none⟩ = some (.int .i64 x)) : InAt w w.heap.size (some ⟨b, 0, none⟩) [x] :=
  .inr ⟨b, 0, rfl, block_lt_of_cell h, fun i hi => by
    have : i = 0 := by simp at hi; exact hi
    subst this
    exact h⟩
theorem domI_nat {g : List (List Nat)} {r a b : Nat} : DomI g r (a : Int) (b : Int) ↔ Dom g r a b := by
  constructor
  · rintro ⟨i, j, h1, h2, h3⟩
    obtain rfl : a = i := by omega
    obtain rfl : b = j := by omega
    exact h3
  · intro h
    exact ⟨a, b, rfl, rfl, h⟩

set_option maxRecDepth 20000 in
set_option maxHeartbeats 8000000 in
theorem domLaws_law (n : Int) (pa : Option Addr) (cap : Nat) (zs : List (Int × Int)) (za zb zc : Int) (w : World) (hz : PairsAt w pa zs) (hl : zs.length ≤ maxLen) (_ : zs.length ≤ cap) :
    Calls Try.prog 4 #[.int .i64 n, .slice pa zs.length cap, .int .i64 za, .int .i64 zb, .int .i64 zc] w fun e w' => e = .returned (.bool true) ∧ Keeps [] w w' := by
  have HBG := hid (begun6_any w)
  obtain ⟨N, g, L, hN2, hN1, hgl, hsm, hgd, hnn, hmd⟩ := made_pack n zs hl
  have HMD := hid (fun wz (k : Keeps [] w wz) => hmd pa cap wz (hz.kept k (fun _ _ _ => by simp)))
  have HS := hid hsm
  have HGD := hid hgd
  have HN := hid hgl
  have h0g : 0 < g.length := by omega
  have HUP := hid (fun bx p B wz (h : LG w wz bx p B g) => up_in g hsm (some ⟨p, 0, none⟩) g.length B 0 wz h.gr h.le h0g)
  have HAB := hid (fun U (hU : UpOf g 0 U) pu wz (h : UAt wz pu g.length U) a b d hd => above_any g hsm 0 h0g U hU pu wz h a b d hd)
  have HRE := hid (fun bx p B wz (h : LG w wz bx p B g) bz (hc : wz.cell? ⟨bz, 0, none⟩ = some (.int .i64 0)) => rreach_any g hsm (some ⟨p, 0, none⟩) g.length B wz h.gr (some ⟨bz, 0, none⟩) 1 wz.heap.size [0] (one_at hc) (by simp) (-1))
  have HDT := hid (fun a b c (h1 : Dom g 0 a b) (h2 : Dom g 0 b c) => h1.trans h2)
  have HDA := hid (fun a b (h1 : Dom g 0 a b) (h2 : Dom g 0 b a) => Dom.anti hsm.ok h0g h1 h2)
  have HDL := hid (fun a b c (h1 : Dom g 0 a c) (h2 : Dom g 0 b c) => Dom.line hsm.ok h0g h1 h2)
  have HDB := hid (fun a b => domB_iff hsm.ok h0g a b)
  rw [hgl] at HUP HAB HRE
  clear hz hl hmd hsm hgd hgl hnn h0g
  generalize zs.length = zl at HMD
  go_enter Try.func4, Try.ntmps4
  go_wp2_with fail
  refine HBG.out.mono ?_
  rintro e w1 ⟨rfl, k1⟩
  clear HBG
  go_wp2_with fail
  refine (HMD.out w1 k1).mono ?_
  rintro e w2 ⟨p, vs, rfl, ho2, k2⟩
  have L3 := hid (LG.make ho2 (k1.quiet k2))
  rw [← HGD.out] at L3
  clear ho2 k2 k1 HMD HGD
  go_upto_region 5 with fail
  generalize w2.alloc (Obj.cells #[.int .i64 (N : Int), .slice (some ⟨p, 0, none⟩) N N] 26) = w3 at L3 ⊢
  obtain ⟨B, hB⟩ : ∃ B, w2.heap.size + 1 = B := ⟨_, rfl⟩
  rw [hB] at L3
  generalize w2.heap.size = bx at L3 ⊢
  clear hB
  have t3 := L3.out.two
  rw [HN.out] at t3
  have c0 := t3.c0
  have c1 := t3.c1
  clear t3
  go_wp2_with fail
  refine (HUP.out bx p B w3 L3.out).mono ?_
  rintro e w4 ⟨pu, U, rfl, r4, u4, k4⟩
  have R4 := hid r4.uat
  have U4 := hid u4
  have L4 := hid (L3.out.quiet k4)
  clear r4 u4 k4 c0 c1 L3 HUP
  have ka : Keeps [] w4 (w4.alloc (Obj.cells #[.int .i64 0] 3)) := Keeps.alloc _ _ _
  have hoc := one_cell w4 (.int .i64 0) 3
  have L5 := hid (L4.out.quiet ka)
  have R5 := hid (R4.out.kept ka (by simp))
  have t4 := L4.out.two
  rw [HN.out] at t4
  have c1 := t4.c1
  clear t4 R4 L4 ka
  go_wp2_with fail
  generalize w4.alloc (Obj.cells #[.int .i64 0] 3) = w5 at hoc L5 R5 ⊢
  refine (HRE.out bx p B w5 L5.out _ hoc).mono ?_
  rintro e w6 ⟨ps, rfl, s, r6, k6, hs6⟩
  have S6 := hid r6
  have R6 := hid (R5.out.kept k6 (by simp))
  have L6 := hid (L5.out.quiet k6)
  have HSP : Box (∀ u, s u = true ↔ Pth g noS 0 u) := hid (fun u => by
    rw [hs6 u, avI_none, show ([0] : List Int) = [((0 : Nat) : Int)] from rfl, nodI_one (by omega)]
    simp)
  clear r6 k6 hs6 L5 R5 HRE hoc c1
  have t6 := L6.out.two
  rw [HN.out] at t6
  have c0 := t6.c0
  clear t6
  have A1 := hid (fun w9 (k9 : Keeps [] w6 w9) a b (hd : DomI g 0 a b) => HAB.out U U4.out pu w9 (R6.out.kept k9 (by simp)) a b true ⟨fun _ => hd, fun _ => rfl⟩)
  have A2 := hid (fun w9 (k9 : Keeps [] w6 w9) a b (hd : ¬ DomI g 0 a b) => HAB.out U U4.out pu w9 (R6.out.kept k9 (by simp)) a b false ⟨fun h => (by cases h), fun h => absurd h hd⟩)
  have A3 := hid (fun w9 (k9 : Keeps [] w6 w9) (a b : Nat) => HAB.out U U4.out pu w9 (R6.out.kept k9 (by simp)) (a : Int) (b : Int) (domB g 0 a b) (by rw [HDB.out, domI_nat]))
  clear HAB
  go_wp2_with fail
  go_loopw [15] (fun iv wr => ∃ i : Nat, iv = .int .i64 (i : Int) ∧ i ≤ N ∧ Box (Keeps [] w6 wr)) (fun iv _ => N - (intOf iv).toNat)
  case atStart => exact ⟨0, rfl, by omega, hid (Keeps.refl _ _)⟩
  case round =>
    clear c0
    obtain ⟨i, rfl, hi, HK⟩ := hrel
    have t7 := (L6.out.quiet HK.out).two
    rw [HN.out] at t7
    have c0 := t7.c0
    clear t7
    by_cases hlt : i < N
    · have hlt' : (i : Int) < (N : Int) := by omega
      have cs := (S6.out.kept HK.out (by simp)).cell hlt
      unfold bw at cs
      by_cases hp : Pth g noS 0 i
      · have B1 : Box (DomI g 0 0 (i : Int)) := hid ⟨0, i, rfl, rfl, Dom.root hp⟩
        have B2 : Box (DomI g 0 (i : Int) (i : Int)) := hid ⟨i, i, rfl, rfl, Dom.refl hp⟩
        rw [(HSP.out i).2 hp] at cs
        clear hp
        go_wp2_with fail
        go_quiet ((go_at_call 14; first | (refine Calls.quiet_of_same (A1.out _ (HK.out.quiet (Keeps.drewN _ _ _)) _ _ ?_); exact B1.out) | (refine Calls.quiet_of_same (A1.out _ (HK.out.quiet (Keeps.drewN _ _ _)) _ _ ?_); exact B2.out)))
        have HK2 := hid (HK.out.quiet (Keeps.drewN [] wr nq))
        clear HK B1 B2 cs c0
        generalize wr.drewN nq = w9 at HK2 ⊢
        go_wp2_with fail
        go_roundw
        case rel => exact ⟨i + 1, by go_num, by omega, HK2⟩
        case measure => simp [intOf]; omega
      · have B1 : Box (¬ DomI g 0 0 (i : Int)) := hid (fun ⟨a, b, e1, e2, h8⟩ => hp (by rw [show i = b by omega]; exact h8.1))
        have B2 : Box (¬ DomI g 0 (i : Int) (i : Int)) := hid (fun ⟨a, b, e1, e2, h8⟩ => hp (by rw [show i = b by omega]; exact h8.1))
        have hsf : s i = false := by
          cases e : s i with
          | false => rfl
          | true => exact absurd ((HSP.out i).1 e) hp
        rw [hsf] at cs
        clear hp hsf
        go_wp2_with fail
        go_quiet ((go_at_call 14; first | (refine Calls.quiet_of_same (A2.out _ (HK.out.quiet (Keeps.drewN _ _ _)) _ _ ?_); exact B1.out) | (refine Calls.quiet_of_same (A2.out _ (HK.out.quiet (Keeps.drewN _ _ _)) _ _ ?_); exact B2.out)))
        have HK2 := hid (HK.out.quiet (Keeps.drewN [] wr nq))
        clear HK B1 B2 cs c0
        generalize wr.drewN nq = w9 at HK2 ⊢
        go_wp2_with fail
        go_roundw
        case rel => exact ⟨i + 1, by go_num, by omega, HK2⟩
        case measure => simp [intOf]; omega
    · obtain rfl : i = N := by omega
      clear A1 A2 S6 HSP
      go_wp2_with fail
      go_quiet (fail)
      rw [node_num za i hN1 (by omega), node_num zb i hN1 (by omega), node_num zc i hN1 (by omega)]
      have HK2 := hid (HK.out.quiet (Keeps.drewN [] wr nq))
      have A4 := hid (fun (a b : Nat) => A3.out (wr.drewN nq) HK2.out a b)
      have HF := hid (L6.out.keep.quiet HK2.out)
      clear HK c0 A3 HK2
      generalize wr.drewN nq = w9 at A4 HF ⊢
      generalize nd i za = x
      generalize nd i zb = y
      generalize nd i zc = z
      have hT : domB g 0 x y = true → domB g 0 y z = true → domB g 0 x z = true := fun h1 h2 => (HDB.out x z).2 (HDT.out x y z ((HDB.out x y).1 h1) ((HDB.out y z).1 h2))
      have hA : domB g 0 x y = true → domB g 0 y x = true → x = y := fun h1 h2 => HDA.out x y ((HDB.out x y).1 h1) ((HDB.out y x).1 h2)
      have hL : domB g 0 x z = true → domB g 0 y z = true → domB g 0 x y = true ∨ domB g 0 y x = true := fun h1 h2 => by
        rcases HDL.out x y z ((HDB.out x z).1 h1) ((HDB.out y z).1 h2) with h | h
        · exact .inl ((HDB.out x y).2 h)
        · exact .inr ((HDB.out y x).2 h)
      by_cases hxy : x = y
      · have hb : ((x : Int) != (y : Int)) = false := by rw [hxy]; simp
        have hF : (domB g 0 x y = true → domB g 0 y z = true → domB g 0 x z = true) ∧ (domB g 0 x z = true → domB g 0 y z = true → domB g 0 x y = true ∨ domB g 0 y x = true) := ⟨hT, hL⟩
        clear hT hL hA hxy
        cases h1 : domB g 0 x y <;> cases h2 : domB g 0 y z <;> cases h3 : domB g 0 x z <;> cases h4 : domB g 0 y x <;> rw [h1, h2, h3, h4] at hF <;> first | exact absurd hF (by decide) | clear hF
        all_goals
          go_wp2_with (go_at_call 14; refine (A4.out _ _).mono ?_; rintro e wq ⟨rfl, hwq⟩; rw [hwq]; clear hwq)
          go_ret
          exact ⟨rfl, HF.out⟩
      · have hb : ((x : Int) != (y : Int)) = true := by rw [bne_iff_ne]; omega
        have hF : (domB g 0 x y = true → domB g 0 y z = true → domB g 0 x z = true) ∧ (domB g 0 x z = true → domB g 0 y z = true → domB g 0 x y = true ∨ domB g 0 y x = true) ∧ (domB g 0 x y = true → domB g 0 y x = true → False) := ⟨hT, hL, fun h1 h2 => hxy (hA h1 h2)⟩
        clear hT hL hA hxy
        cases h1 : domB g 0 x y <;> cases h2 : domB g 0 y z <;> cases h3 : domB g 0 x z <;> cases h4 : domB g 0 y x <;> rw [h1, h2, h3, h4] at hF <;> first | exact absurd hF (by decide) | clear hF
        all_goals
          go_wp2_with (go_at_call 14; refine (A4.out _ _).mono ?_; rintro e wq ⟨rfl, hwq⟩; rw [hwq]; clear hwq)
          go_ret
          exact ⟨rfl, HF.out⟩
end Go.Proofs.Ytjdcphkmaaoehaa
