/-
  The statement GraphOrder.
-/
import Derived.Test.YtjckdjeckbdmdaaDoorGOrdRef
namespace Go.Proofs.YtjckdjeckbdmdaaDoor
open Go.RowKit

/-- What Order tells. -/
def ordI (g : List (List Nat)) (n : Int) : List Nat := if 0 ≤ n ∧ n < (g.length : Int) then ordG g n.toNat else []
theorem ordI_le {g : List (List Nat)} (hs : Sm g) (n : Int) : (ordI g n).length ≤ 1000000 := by
  unfold ordI
  by_cases h : 0 ≤ n ∧ n < (g.length : Int)
  · rw [if_pos h]
    have := vis_list_le hs (g.length + 1) n.toNat none_ (by omega)
    unfold ordG
    rw [List.length_reverse]
    omega
  · rw [if_neg h]; simp
theorem order_all (g : List (List Nat)) (hs : Sm g) (a : Option Addr) (cap B : Nat) (n : Int) (w : World) (hG : GAt w B a g) (hB : B ≤ w.heap.size) :
    Calls Tryd.prog 21 #[.agg #[.int .i64 (g.length : Int), .slice a g.length cap], .int .i64 n] w fun e w' => ∃ v, e = .returned v ∧ w'.ownsRow w.heap.size 3 1 v (ordI g n).length (ints (ordI g n)) ∧ Keeps [] w w' := by
  unfold ordI
  by_cases h : 0 ≤ n ∧ n < (g.length : Int)
  · rw [if_pos h]
    obtain ⟨m, rfl⟩ := Int.eq_ofNat_of_zero_le h.1
    exact order_in g hs a cap B m w hG hB (by omega)
  · rw [if_neg h]
    refine (order_out g hs a cap B n w hG h).mono ?_
    rintro e w' ⟨rfl, k⟩
    exact ⟨_, rfl, nil_row _ _, k⟩
theorem rorder_all (g : List (List Nat)) (hs : Sm g) (a : Option Addr) (cap B : Nat) (n : Int) (w : World) (hG : GAt w B a g) (hB : B ≤ w.heap.size) :
    Calls Tryd.prog 22 #[.slice a g.length cap, .int .i64 n] w fun e w' => ∃ v, e = .returned v ∧ w'.ownsRow w.heap.size 3 1 v (ordI g n).length (ints (ordI g n)) ∧ Keeps [] w w' := by
  unfold ordI
  by_cases h : 0 ≤ n ∧ n < (g.length : Int)
  · rw [if_pos h]
    obtain ⟨m, rfl⟩ := Int.eq_ofNat_of_zero_le h.1
    exact rorder_in g hs a cap B m w hG hB (by omega)
  · rw [if_neg h]
    refine (rorder_out a g.length cap n w h).mono ?_
    rintro e w' ⟨rfl, rfl⟩
    exact ⟨_, rfl, nil_row _ _, Keeps.refl _ _⟩

set_option maxHeartbeats 4000000 in
theorem order_law (n : Int) (pa : Option Addr) (cap : Nat) (zs : List (Int × Int)) (from' : Int) (w : World) (hT : TabAt w) (hz : PairsAt w pa zs) (hl : zs.length ≤ maxLen) :
    Calls Tryd.prog 5 #[.int .i64 n, .slice pa zs.length cap, .int .i64 from'] w fun e w' => e = .returned (.bool true) ∧ Keeps [] w w' := by
  have HBG := hid (begun5_any w hT)
  obtain ⟨N, g, L, hN2, hN1, hgl, hsm, hgd, hnn, hmd⟩ := made_pack n zs hl
  have HMD := hid (fun wz (k : Keeps [] w wz) => hmd pa cap wz (hz.kept k (fun _ _ _ => by simp)))
  have HS := hid hsm
  have HGD := hid hgd
  have HN := hid hgl
  clear hT hz hl hmd hsm hgd hgl hnn
  generalize zs.length = zl at HMD
  go_enter Tryd.func5, Tryd.ntmps5
  go_wp2_with fail
  refine HBG.out.mono ?_
  rintro e w1 ⟨rfl, k1⟩
  clear HBG
  go_wp2_with fail
  refine (HMD.out w1 k1).mono ?_
  rintro e w2 ⟨p, vs, rfl, ho2, k2⟩
  have L3 := hid (LG.make ho2 (k1.quiet k2))
  rw [← HGD.out] at L3
  clear ho2 k2 k1 HMD HGD
  go_upto_region 5 with fail
  generalize w2.alloc (Obj.cells #[.int .i64 (N : Int), .slice (some ⟨p, 0, none⟩) N N] 27) = w3 at L3 ⊢
  obtain ⟨B, hB⟩ : ∃ B, w2.heap.size + 1 = B := ⟨_, rfl⟩
  rw [hB] at L3
  generalize w2.heap.size = bx at L3 ⊢
  clear hB
  have HO := hid (fun w9 (h9 : Keeps [] w3 w9) => order_all g HS.out (some ⟨p, 0, none⟩) g.length B from' w9 (L3.out.quiet h9).gr (L3.out.quiet h9).le)
  have HR := hid (fun w9 (h9 : Keeps [] w3 w9) => rorder_all g HS.out (some ⟨p, 0, none⟩) g.length B from' w9 (L3.out.quiet h9).gr (L3.out.quiet h9).le)
  rw [HN.out] at HO HR
  have hle := hid (ordI_le HS.out from')
  obtain ⟨l, hl⟩ : ∃ l, ordI g from' = l := ⟨_, rfl⟩
  rw [hl] at HO HR hle
  clear hl
  have HE := hid (fun a1 a2 c1 c2 w9 (h1 : NAt w9 w9.heap.size a1 l) (h2 : NAt w9 w9.heap.size a2 l) => geq_any a1 a2 _ _ c1 c2 l l w9 h1 h2 hle.out)
  rw [decide_eq_true rfl] at HE
  have t6 := L3.out.two
  rw [HN.out] at t6
  have c0 := t6.c0
  have c1 := t6.c1
  have T6 := hid t6
  clear t6
  have kd : Keeps [] w3 w3.drew := Keeps.drew _ _
  go_region_with (first | (go_at_call 21; refine (HO.out _ kd).mono ?_; rintro e w4 ⟨v4, rfl, h4, k4⟩; have H4 := hid h4; have k34 := kd.quiet k4; have t4 := T6.out.kept k34 (by simp); have d0 := t4.c0; have d1 := t4.c1; clear t4 h4) | (go_at_call 22; refine (HR.out _ k34).mono ?_; rintro e w5 ⟨v5, rfl, h5, k5⟩; obtain ⟨a4, c4, hv4, n4, _, _⟩ := ownsRow_nat (ownsRow_keeps H4.out k5 (by simp)); obtain ⟨a5, c5, hv5, n5, _, _⟩ := ownsRow_nat h5; have k35 := k34.quiet k5; have HEQ := hid (HE.out a4 a5 c4 c5 w5 n4 n5); clear n4 n5 h5 H4; subst hv4; subst hv5) | (go_at_call 11; refine HEQ.out.mono ?_; rintro e w6 ⟨rfl, m6, rfl⟩))
  all_goals
    go_wp2
    go_ret
    exact ⟨rfl, (L3.out.keep.quiet k35).quiet (Keeps.drewN [] _ m6)⟩
end Go.Proofs.YtjckdjeckbdmdaaDoor
