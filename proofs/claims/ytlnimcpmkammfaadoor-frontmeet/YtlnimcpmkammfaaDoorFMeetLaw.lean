/-
  The statement FrontMeet.
-/
import Derived.Test.YtlnimcpmkammfaaDoorFKit
import Derived.Test.YtlnimcpmkammfaaDoorDRef
namespace Go.Proofs.YtlnimcpmkammfaaDoor
open Go.RowKit

set_option maxRecDepth 20000 in
set_option maxHeartbeats 8000000 in
theorem frontMeet_law (n : Int) (pa : Option Addr) (cap : Nat) (zs : List (Int × Int)) (w : World) (hT : TabAt w) (hz : PairsAt w pa zs) (hl : zs.length ≤ maxLen) :
    Calls Tryd.prog 4 #[.int .i64 n, .slice pa zs.length cap] w fun e w' => e = .returned (.bool true) ∧ Keeps [] w w' := by
  have HBG := hid (begun7_any w hT)
  obtain ⟨N, g, L, hN2, hN1, hgl, hsm, hgd, hnn, hmd⟩ := made_pack n zs hl
  have HMD := hid (fun wz (k : Keeps [] w wz) => hmd pa cap wz (hz.kept k (fun _ _ _ => by simp)))
  have HS := hid hsm
  have HGD := hid hgd
  have HN := hid hgl
  have h0g : 0 < g.length := by omega
  have HOF := hid (fun bx p B wz (h : LG w wz bx p B g) => fof_in g hsm (some ⟨p, 0, none⟩) g.length B 0 wz h.gr h.le h0g)
  have HRE := hid (fun bx p B wz (h : LG w wz bx p B g) (we : World) (hwe : wz = we.alloc (Obj.cells #[.int .i64 0] 3)) => rreach_any g hsm (some ⟨p, 0, none⟩) g.length B wz h.gr (some ⟨we.heap.size, 0, none⟩) 1 wz.heap.size [0] (by subst hwe; exact rone_at we 0) (by simp) (-1))
  have HSP : Box (∀ s : Nat → Bool, (∀ u, s u = true ↔ ∃ z, z ∈ nodI g.length [0] ∧ Pth g (avI (-1)) z u) → ∀ u, s u = rB g 0 u) := hid (fun s h u => rone_all (r := 0) hsm.ok h0g h u)
  have HRB := hid (fun u => rB_iff hsm.ok u h0g)
  have HRA := hid (fun bx p B wz (h : LG w wz bx p B g) x y hx hy => rabove_any g hsm (some ⟨p, 0, none⟩) g.length B wz h.gr 0 x y h0g hx hy)
  have HDB := hid (fun a b => domB_iff hsm.ok h0g a b)
  rw [hgl] at HOF HRE HRA HSP
  rw [show (((0 : Nat) : Int)) = (0 : Int) from rfl] at HOF HRA
  clear hz hl hmd hsm hgd hgl hnn h0g hT
  generalize zs.length = zl at HMD
  go_enter Tryd.func4, Tryd.ntmps4
  go_wp2_with fail
  refine HBG.out.mono ?_
  rintro e w1 ⟨rfl, k1⟩
  clear HBG
  go_wp2_with fail
  refine (HMD.out w1 k1).mono ?_
  rintro e w2 ⟨p, vs, rfl, ho2, k2⟩
  have L3 := hid (LG.make ho2 (k1.quiet k2))
  rw [← HGD.out] at L3
  clear ho2 k2 k1 HMD HGD
  go_upto_region 5 with fail
  generalize w2.alloc (Obj.cells #[.int .i64 (N : Int), .slice (some ⟨p, 0, none⟩) N N] 27) = w3 at L3 ⊢
  obtain ⟨B, hB⟩ : ∃ B, w2.heap.size + 1 = B := ⟨_, rfl⟩
  rw [hB] at L3
  generalize w2.heap.size = bx at L3 ⊢
  clear hB
  have t3 := L3.out.two
  rw [HN.out] at t3
  have c0 := t3.c0
  have c1 := t3.c1
  clear t3
  go_wp2_with fail
  refine (HOF.out bx p B w3 L3.out).mono ?_
  rintro e w4 ⟨pf, q, F, rfl, m4, hF4, k4⟩
  have L4 : Box (LF w w4 bx p B N g w3.heap.size pf q F) := hid ⟨L3.out.quiet k4, m4, HN.out⟩
  have HF := hid hF4
  generalize w3.heap.size = base at L4
  clear m4 hF4 k4 L3 c0 c1 HOF
  have ka : Keeps [] w4 (w4.alloc (Obj.cells #[.int .i64 0] 3)) := Keeps.alloc _ _ _
  have L5 := hid (L4.out.quiet ka)
  have HR5 := hid (HRE.out bx p B _ L5.out.lg w4 rfl)
  have c1 := L4.out.c1
  clear ka L4 HRE
  go_wp2_with fail
  generalize w4.alloc (Obj.cells #[.int .i64 0] 3) = w5 at L5 HR5 ⊢
  refine HR5.out.mono ?_
  rintro e w6 ⟨ps, rfl, s, r6, k6, hs6⟩
  have S6 := hid r6
  have L6 := hid (L5.out.quiet k6)
  have HS6 := hid (HSP.out s hs6)
  clear r6 k6 hs6 L5 HR5 c1 HSP
  go_wp2_with fail
  have K0 := hid (Keeps.refl [] w6)
  go_loopw [9] (fun iv wr => ∃ i : Nat, iv = .int .i64 (i : Int) ∧ i ≤ N ∧ Box (Keeps [] w6 wr)) (fun iv _ => N - (intOf iv).toNat)
  case atStart => exact ⟨0, rfl, by omega, K0⟩
  case round =>
    clear K0
    obtain ⟨i, rfl, hi, HK⟩ := hrel
    have LA := hid (L6.out.quiet HK.out)
    have c0 := LA.out.c0
    by_cases hlt : i < N
    · have hlt' : (i : Int) < (N : Int) := by omega
      have hi6 : i < 25 := by omega
      have hnb := HS.out.short i
      obtain ⟨nl, hnl⟩ : ∃ nl, (nb g i).length = nl := ⟨_, rfl⟩
      have HNL := hid hnl
      rw [hnl] at hnb
      clear hnl
      go_wp2_with fail
      clear c0
      go_loopw [10] (fun kv wr => ∃ k : Nat, kv = .int .i64 (k : Int) ∧ k ≤ nl ∧ Box (Keeps [] w6 wr)) (fun kv _ => nl - (intOf kv).toNat)
      case atStart => exact ⟨0, rfl, by omega, HK⟩
      case round =>
        clear HK LA
        obtain ⟨k, rfl, hk, HK⟩ := hrel
        have LA := hid (L6.out.quiet HK.out)
        have c0 := LA.out.c0
        have c1 := LA.out.c1
        have cs := (S6.out.kept HK.out (by simp)).cell hlt
        unfold bw at cs
        rw [HS6.out i] at cs
        obtain ⟨al, cl, hcl, hnl⟩ := LA.out.node hlt
        rw [HNL.out] at hcl
        cases hsi : rB g 0 i with
        | false =>
          rw [hsi] at cs
          clear hsi hnl hcl
          go_wp2
          go_roundw
          case rel => exact ⟨i + 1, by go_num, by omega, HK⟩
          case measure => simp [intOf]; omega
        | true =>
          rw [hsi] at cs
          have HP := hid ((HRB.out i).1 hsi)
          clear hsi
          by_cases hkl : k < nl
          · have hkl' : (k : Int) < (nl : Int) := by omega
            obtain ⟨bm, om, ham, hcm⟩ := hnl.at (k := k) (by rw [HNL.out]; exact hkl)
            subst ham
            have hmem : (nb g i).getD k 0 ∈ nb g i := getD_mem _ _ _ (by rw [HNL.out]; exact hkl)
            obtain ⟨b, hb⟩ : ∃ b, (nb g i).getD k 0 = b := ⟨_, rfl⟩
            rw [hb] at hcm hmem
            clear hb hnl
            have hbN : b < N := by rw [← HN.out]; exact HS.out.ok i b hmem
            have HBM := hid hmem
            have HCA := hid (HRA.out bx p B wr LA.out.lg i b hlt hbN)
            have HFR : Box (¬ (domB g 0 i b = true ∧ i ≠ b) → F i b = true) := hid (fun h => (HF.out i b).2 ⟨i, Dom.refl HP.out, fun hd => h ⟨(HDB.out i b).2 hd.1, hd.2⟩, HBM.out⟩)
            clear hmem
            generalize domB g 0 i b = d at HCA HFR
            go_wp2_with fail
            refine HCA.out.mono ?_
            rintro e w7 ⟨rfl, k7⟩
            have HK7 := hid (HK.out.quiet k7)
            have L7 := hid (LA.out.quiet k7)
            have cq := L7.out.fm.cell hlt
            have HHA := hid (L7.out.has hlt b)
            have f0 := L7.out.c0
            have f1 := L7.out.c1
            clear HCA k7 hcm hcl cs c0 c1 LA
            by_cases hib : i = b
            · have h1 : ((i : Int) != (b : Int)) = false := by rw [hib]; simp
              have hf : F i b = true := HFR.out (fun h => h.2 hib)
              rw [hf] at HHA
              clear hib hf HFR
              cases d
              all_goals
                go_wp2_with fail
                refine HHA.out.mono ?_
                rintro e w8 ⟨rfl, k8⟩
                have HK8 := hid (HK7.out.quiet k8)
                clear k8 HHA cq f0 f1
                go_wp2
                go_roundw
                case rel => exact ⟨k + 1, by go_num, by omega, HK8⟩
                case measure => simp [intOf]; omega
            · have h1 : ((i : Int) != (b : Int)) = true := by rw [bne_iff_ne]; omega
              cases d with
              | true =>
                clear HFR hib HHA cq
                go_wp2
                go_roundw
                case rel => exact ⟨k + 1, by go_num, by omega, HK7⟩
                case measure => simp [intOf]; omega
              | false =>
                have hf : F i b = true := HFR.out (fun h => by cases h.1)
                rw [hf] at HHA
                clear hib hf HFR
                go_wp2_with fail
                refine HHA.out.mono ?_
                rintro e w8 ⟨rfl, k8⟩
                have HK8 := hid (HK7.out.quiet k8)
                clear k8 HHA cq f0 f1
                go_wp2
                go_roundw
                case rel => exact ⟨k + 1, by go_num, by omega, HK8⟩
                case measure => simp [intOf]; omega
          · obtain rfl : k = nl := by omega
            clear hnl
            go_wp2
            go_roundw
            case rel => exact ⟨i + 1, by go_num, by omega, HK⟩
            case measure => simp [intOf]; omega
    · obtain rfl : i = N := by omega
      have KE := hid (L6.out.lg.keep.quiet HK.out)
      go_wp2
      go_ret
      exact ⟨rfl, KE.out⟩
end Go.Proofs.YtlnimcpmkammfaaDoor
