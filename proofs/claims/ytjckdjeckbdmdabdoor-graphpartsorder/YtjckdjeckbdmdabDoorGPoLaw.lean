/-
  The statement GraphPartsOrder.
-/
import Derived.Test.YtjckdjeckbdmdabDoorGTopo2
namespace Go.Proofs.YtjckdjeckbdmdabDoor
open Go.RowKit

set_option maxRecDepth 20000 in
set_option maxHeartbeats 8000000 in
theorem po_law (n : Int) (pa : Option Addr) (cap : Nat) (zs : List (Int × Int)) (w : World) (hT : TabAt w) (hz : PairsAt w pa zs) (hl : zs.length ≤ maxLen) :
    Calls Tryd.prog 7 #[.int .i64 n, .slice pa zs.length cap] w fun e w' => e = .returned (.bool true) ∧ Keeps [] w w' := by
  have HBG := hid (begun5_any w hT)
  obtain ⟨N, g, L, hN2, hN1, hgl, hsm, hgd, hnn, hmd⟩ := made_pack n zs hl
  have HMD := hid (fun wz (k : Keeps [] w wz) => hmd pa cap wz (hz.kept k (fun _ _ _ => by simp)))
  have HS := hid hsm
  have HGD := hid hgd
  have HN := hid hgl
  have HT := hid hT
  clear hT hz hl hmd hsm hgd hgl hnn
  generalize zs.length = zl at HMD
  go_enter Tryd.func7, Tryd.ntmps7
  go_wp2_with fail
  refine HBG.out.mono ?_
  rintro e w1 ⟨rfl, k1⟩
  clear HBG
  go_wp2_with fail
  refine (HMD.out w1 k1).mono ?_
  rintro e w2 ⟨p, vs, rfl, ho2, k2⟩
  have L3 := hid (LG.make ho2 (k1.quiet k2))
  rw [← HGD.out] at L3
  clear ho2 k2 k1 HMD HGD
  have HPA := hid (parts_any g HS.out (some ⟨p, 0, none⟩) g.length _ _ L3.out.gr L3.out.le (tab_of HT.out L3.out.keep))
  rw [HN.out] at HPA
  go_wp2_with fail
  generalize w2.alloc (Obj.cells #[.int .i64 (N : Int), .slice (some ⟨p, 0, none⟩) N N] 26) = w3 at L3 HPA ⊢
  obtain ⟨B, hB⟩ : ∃ B, w2.heap.size + 1 = B := ⟨_, rfl⟩
  rw [hB] at L3
  generalize w2.heap.size = bx at L3 ⊢
  clear hB
  refine HPA.out.mono ?_
  rintro e w5 ⟨v5, vs5, rfl, h5, k5⟩
  have L5 := hid (L3.out.quiet k5)
  obtain ⟨a5, c5, rfl, hg5, _⟩ := h5.graph
  have P5 := hid hg5
  have hpl : (partsM g).length ≤ 600 := by
    have h1 := ahd_len (smallG g (sccs g))
    rw [smallG_len] at h1
    have h2 := sccs_len g
    have h3 := HS.out.len
    rw [partsM_len]
    omega
  have HPM := hid (fun k (hk : k < (partsM g).length) => parts_mem (nb_mem hk))
  have HRI := hid (fun t j (ht : t < (partsM g).length) => parts_rise (g := g) (j := j) ht)
  have HED := hid (fun a b (ha : a < g.length) hb => parts_edge HS.out (a := a) (b := b) ha hb)
  have HCN := hid (parts_count HS.out)
  obtain ⟨ps, hps⟩ : ∃ ps, partsM g = ps := ⟨_, rfl⟩
  rw [hps] at P5 HPM hpl HRI HED HCN ⊢
  clear HPA L3 k5 h5 hg5 hps
  obtain ⟨m, hm⟩ : ∃ m, ps.length = m := ⟨_, rfl⟩
  have HM := hid hm
  rw [hm] at hpl HED HCN ⊢
  rw [HN.out] at HCN
  clear hm
  have t6 := L5.out.two
  rw [HN.out] at t6
  have c0 := t6.c0
  have hw5 := L5.out.keep.size
  have hww : w5.heap.size ≤ w5.heap.size := Nat.le_refl _
  clear t6
  go_wp2_with (at_make; go_must (refine wpList_make_full _ rfl _ _ 31 rfl w5.heap.size 3 Tryd.t3 (.int .i64 0) 1 under_ints info_int zero_int size_int .i64 .i64 _ _ N rfl rfl rfl rfl (by rw [bytes_int]; omega) (by unfold maxLen; omega) hww ?_; intro w7 hown7 hgrow7))
  have k7 : Keeps [] w5 w7 := Keeps.grown [] hgrow7 (by simp)
  have R7 : Box (RowAt w7 w5.heap.size w5.heap.size N 3 (num (plcK ps 0))) := hid ((RowAt.made hown7 rfl).congr (fun i _ => rfl))
  have L7 := hid (L5.out.quiet k7)
  have P7 := hid (P5.out.quiet k7)
  have hBC := L5.out.le
  clear hown7 hgrow7 k7 L5 P5 c0 hww hw5
  generalize w5.heap.size = C at R7 P7 hBC ⊢
  go_loopw [9, 10] (fun v9 v10 wr => ∃ i : Nat, v10 = .int .i64 (i : Int) ∧ v9 = .int .i64 ((cntP ps i : Nat) : Int) ∧ i ≤ m ∧ Box (LG w wr bx p B g) ∧ Box (GAt wr C a5 ps) ∧ Box (RowAt wr C C N 3 (num (plcK ps i)))) (fun _ v10 _ => m - (intOf v10).toNat)
  case atStart => exact ⟨0, rfl, rfl, by omega, L7, P7, R7⟩
  case round =>
    clear L7 P7 R7
    obtain ⟨i, rfl, rfl, hi, HL, HP, HR⟩ := hrel
    by_cases him : i < m
    · have him' : (i : Int) < (m : Int) := by omega
      have hpsi := HPM.out i (by rw [HM.out]; exact him)
      have hlen : (nb ps i).length ≤ 600 := by
        obtain ⟨j, hj, e⟩ := List.getElem_of_mem hpsi
        have := sccs_inner HS.out j
        rw [nb, List.getD_eq_getElem?_getD, List.getElem?_eq_getElem hj] at this
        rw [← e]
        exact this
      have HQN : Box (∀ x, x ∈ nb ps i → x < N) := hid (fun x hx => by
        obtain ⟨a, ha, e⟩ := sccs_part hpsi
        rw [e] at hx
        have := ((mem_part HS.out.ok x ha).1 hx).1
        rwa [HN.out] at this)
      have hrise := hid (fun j => HRI.out i j (by rw [HM.out]; exact him))
      have hcs := hid (cntP_succ ps i (by rw [HM.out]; exact him))
      have hcnt : cntP ps i ≤ 1000000 := by
        have h1 : ∀ k, cntP ps k ≤ cntP ps (k + 1) := fun k => by
          by_cases hk : k < ps.length
          · rw [cntP_succ ps k hk]; omega
          · unfold cntP; rw [List.take_of_length_le (by omega), List.take_of_length_le (by omega)]; exact Nat.le_refl _
        have h2 : ∀ d, cntP ps i ≤ cntP ps (i + d) := fun d => by
          induction d with
          | zero => exact Nat.le_refl _
          | succ d ih => exact Nat.le_trans ih (h1 _)
        have h3 := h2 (m - i)
        rw [show i + (m - i) = m by omega, HCN.out] at h3
        omega
      have R0 : Box (RowAt wr C C N 3 (num (plcT ps i 0))) := hid (HR.out.congr (fun x _ => by unfold num; rw [plcT_zero]))
      clear HR hpsi
      obtain ⟨cn, hcn⟩ : ∃ cn, cntP ps i = cn := ⟨_, rfl⟩
      rw [hcn] at hcs hcnt ⊢
      clear hcn
      go_wp2_with fail
      obtain ⟨wo, hwo⟩ : ∃ wo, wo = wr := ⟨_, rfl⟩
      subst hwo
      go_loopw [9, 11] (fun v9 v11 wr => ∃ j : Nat, v11 = .int .i64 (j : Int) ∧ v9 = .int .i64 ((cn + j : Nat) : Int) ∧ j ≤ (nb ps i).length ∧ Box (LG w wr bx p B g) ∧ Box (GAt wr C a5 ps) ∧ Box (RowAt wr C C N 3 (num (plcT ps i j)))) (fun _ v11 _ => (nb ps i).length - (intOf v11).toNat)
      case atStart => exact ⟨0, rfl, rfl, by omega, HL, HP, R0⟩
      case round =>
        clear HL HP R0
        obtain ⟨j, rfl, rfl, hj, HL, HP, HR⟩ := hrel
        obtain ⟨bq, oq, ai, ci, rfl, hcg, hin⟩ := HP.out.at (k := i) (by rw [HM.out]; exact him)
        by_cases hjq : j < (nb ps i).length
        · have hjq' : (j : Int) < ((nb ps i).length : Int) := by omega
          obtain ⟨bz, oz, rfl, hcz⟩ := hin.at hjq
          have hsc := hid (fun y => plcT_succ ps i j y hjq)
          have hxN := HQN.out _ (getD_mem (nb ps i) j 0 hjq)
          have hpre : Box (∀ j', j = j' + 1 → wr.cell? ⟨bz, oz + j', none⟩ = some (.int .i64 (((nb ps i).getD j' 0 : Nat) : Int)) ∧ (nb ps i).getD j' 0 < (nb ps i).getD j 0) := hid (fun j' e => by
            subst e
            obtain ⟨b9, o9, e9, h9⟩ := hin.at (k := j') (by omega)
            simp only [Option.some.injEq, Addr.mk.injEq, and_true] at e9
            obtain ⟨rfl, rfl⟩ := e9
            exact ⟨h9, hrise.out j' hjq⟩)
          obtain ⟨x, hx⟩ : ∃ x, (nb ps i).getD j 0 = x := ⟨_, rfl⟩
          rw [hx] at hcz hsc hxN hpre
          clear hx hin
          have hcx : wr.cell? ⟨C, x, none⟩ = some (.int .i64 ((plcT ps i j x : Nat) : Int)) := HR.out.cell hxN
          have hfx := HR.out.frozen x
          have t6 := HL.out.two
          rw [HN.out] at t6
          have c0 := t6.c0
          have hd1 : decide ((x : Int) < 0) = false := decide_eq_false (by omega)
          have hd2 : decide ((N : Int) ≤ (x : Int)) = false := decide_eq_false (by omega)
          have hd2n : decide (N ≤ x) = false := decide_eq_false (by omega)
          have hxN' : (x : Int) < (N : Int) := by omega
          generalize plcT ps i j x = old at hcx
          clear t6
          have hcnt2 : cn + j ≤ 2000000 := by omega
          obtain ⟨ql, hql⟩ : ∃ ql, (nb ps i).length = ql := ⟨_, rfl⟩
          rw [hql] at hcg hjq hjq' hj ⊢
          clear hql
          by_cases hj0 : j = 0
          · have hd3 : decide ((0 : Int) < (j : Int)) = false := decide_eq_false (by omega)
            have hd3n : decide (0 < j) = false := decide_eq_false (by omega)
            clear hj0 hpre
            go_wp2_with fail
            go_quiet (fail)
            have kq : Keeps [] wr (wr.drewN nq) := Keeps.drewN _ _ _
            have ks : Keeps [C] (wr.drewN nq) ((wr.drewN nq).setCell ⟨C, x, none⟩ (.int .i64 (i : Int))) := Keeps.setCell [C] _ _ _ (by simp)
            have R8 : Box (RowAt ((wr.drewN nq).setCell ⟨C, x, none⟩ (.int .i64 (i : Int))) C C N 3 (num (plcT ps i (j + 1)))) := hid (((HR.out.kept kq (by simp)).put x (.int .i64 (i : Int))).congr (fun y _ => by
              unfold num
              rw [hsc.out y]
              by_cases e : y = x
              · rw [if_pos e, if_pos e]
              · rw [if_neg e, if_neg e]))
            have L8 := hid ((HL.out.quiet kq).kept ks (fun u hu => by simp at hu; omega))
            have P8 := hid ((HP.out.quiet kq).kept ks (fun u hu => by simp at hu; omega))
            clear kq ks HR HL HP hsc
            go_wp2
            go_roundw
            case rel => exact ⟨j + 1, by go_num, by go_num, by omega, L8, P8, R8⟩
            case measure => simp [intOf]; omega
          · obtain ⟨j', hjj⟩ : ∃ j', j = j' + 1 := ⟨j - 1, by omega⟩
            obtain ⟨hcp, hpx⟩ := hpre.out j' hjj
            have hd3 : decide ((0 : Int) < (j : Int)) = true := decide_eq_true (by omega)
            have hd3n : decide (0 < j) = true := decide_eq_true (by omega)
            obtain ⟨x', hx'⟩ : ∃ x', (nb ps i).getD j' 0 = x' := ⟨_, rfl⟩
            rw [hx'] at hcp hpx
            have hd4 : decide ((x : Int) ≤ (x' : Int)) = false := decide_eq_false (by omega)
            have hj1 : (j : Int) - 1 = (j' : Int) := by omega
            have hd4n : decide (x ≤ x') = false := decide_eq_false (by omega)
            have hjw : wrap64 ((j : Int) - 1) = (j' : Int) := by rw [hj1, IntWalk.wrap64_in _ (by omega)]
            have hj2 : (j' : Int) < (ql : Int) := by omega
            have hj3 : (0 : Int) ≤ (j' : Int) := by omega
            clear hx' hj0 hjj hpre hpx
            go_wp2_with fail
            go_quiet (fail)
            have kq : Keeps [] wr (wr.drewN nq) := Keeps.drewN _ _ _
            have ks : Keeps [C] (wr.drewN nq) ((wr.drewN nq).setCell ⟨C, x, none⟩ (.int .i64 (i : Int))) := Keeps.setCell [C] _ _ _ (by simp)
            have R8 : Box (RowAt ((wr.drewN nq).setCell ⟨C, x, none⟩ (.int .i64 (i : Int))) C C N 3 (num (plcT ps i (j + 1)))) := hid (((HR.out.kept kq (by simp)).put x (.int .i64 (i : Int))).congr (fun y _ => by
              unfold num
              rw [hsc.out y]
              by_cases e : y = x
              · rw [if_pos e, if_pos e]
              · rw [if_neg e, if_neg e]))
            have L8 := hid ((HL.out.quiet kq).kept ks (fun u hu => by simp at hu; omega))
            have P8 := hid ((HP.out.quiet kq).kept ks (fun u hu => by simp at hu; omega))
            clear kq ks HR HL HP hsc
            go_wp2
            go_roundw
            case rel => exact ⟨j + 1, by go_num, by go_num, by omega, L8, P8, R8⟩
            case measure => simp [intOf]; omega
        · have hjq' : ¬ ((j : Int) < ((nb ps i).length : Int)) := by omega
          have hje : j = (nb ps i).length := by omega
          have R9 : Box (RowAt wr C C N 3 (num (plcK ps (i + 1)))) := hid (HR.out.congr (fun y _ => by unfold num; rw [hje, plcT_all]))
          have hce : Box (cn + j = cntP ps (i + 1)) := hid (by rw [hcs.out, hje])
          clear HR hje hin
          rw [hce.out]
          generalize (nb ps i).length = ql at hcg hjq hjq' hj ⊢
          go_wp2
          go_roundw
          case rel => exact ⟨i + 1, by go_num, rfl, by omega, HL, HP, R9⟩
          case measure => simp [intOf]; omega
    · obtain rfl : i = m := by omega
      rw [HCN.out]
      have HF : Box (RowAt wr C C N 3 (num (plcK ps i))) := HR
      have HEE : Box (∀ a b, a < N → b ∈ nb g a → plcK ps i a ≤ plcK ps i b) := hid (fun a b ha hb => HED.out a b (by rw [HN.out]; exact ha) hb)
      obtain ⟨F, hF⟩ : ∃ F, plcK ps i = F := ⟨_, rfl⟩
      rw [hF] at HF HEE
      have HFB : Box (∀ y, F y ≤ 1000) := hid (fun y => by rw [← hF]; have := plcK_le ps y i; omega)
      clear HR HED hF HP
      go_wp2_with fail
      obtain ⟨wo, hwo⟩ : ∃ wo, wo = wr := ⟨_, rfl⟩
      subst hwo
      go_loopw [12] (fun v wr => ∃ a : Nat, v = .int .i64 (a : Int) ∧ a ≤ N ∧ Box (LG w wr bx p B g) ∧ Box (RowAt wr C C N 3 (num F))) (fun v _ => N - (intOf v).toNat)
      case atStart => exact ⟨0, rfl, by omega, HL, HF⟩
      case round =>
        clear HL HF
        obtain ⟨a, rfl, ha, HL, HF⟩ := hrel
        have t6 := HL.out.two
        rw [HN.out] at t6
        have c0 := t6.c0
        have c1 := t6.c1
        clear t6
        by_cases haN : a < N
        · have haN' : (a : Int) < (N : Int) := by omega
          have hlen := HS.out.short a
          go_wp2_with fail
          clear c0 c1
          obtain ⟨wo2, hwo2⟩ : ∃ wo2, wo2 = wr := ⟨_, rfl⟩
          subst hwo2
          go_loopw [13] (fun v wr => ∃ j : Nat, v = .int .i64 (j : Int) ∧ j ≤ (nb g a).length ∧ Box (LG w wr bx p B g) ∧ Box (RowAt wr C C N 3 (num F))) (fun v _ => (nb g a).length - (intOf v).toNat)
          case atStart => exact ⟨0, rfl, by omega, HL, HF⟩
          case round =>
            clear HL HF
            obtain ⟨j, rfl, hj, HL, HF⟩ := hrel
            have t6 := HL.out.two
            rw [HN.out] at t6
            have c0 := t6.c0
            have c1 := t6.c1
            clear t6
            obtain ⟨bq, oq, ai, ci, hpq, hcg, hin⟩ := HL.out.gr.at (k := a) (by rw [HN.out]; exact haN)
            simp only [Option.some.injEq, Addr.mk.injEq, and_true] at hpq
            obtain ⟨rfl, rfl⟩ := hpq
            rw [Nat.zero_add] at hcg
            by_cases hjl : j < (nb g a).length
            · have hjl' : (j : Int) < ((nb g a).length : Int) := by omega
              obtain ⟨bz, oz, rfl, hcz⟩ := hin.at hjl
              have hbm := getD_mem (nb g a) j 0 hjl
              obtain ⟨b, hb⟩ : ∃ b, (nb g a).getD j 0 = b := ⟨_, rfl⟩
              rw [hb] at hcz hbm
              have hbN : b < N := by have := HS.out.ok a b hbm; rwa [HN.out] at this
              have hle := HEE.out a b haN hbm
              have hca : wr.cell? ⟨C, a, none⟩ = some (.int .i64 ((F a : Nat) : Int)) := HF.out.cell haN
              have hcb : wr.cell? ⟨C, b, none⟩ = some (.int .i64 ((F b : Nat) : Int)) := HF.out.cell hbN
              have hd : decide (((F b : Nat) : Int) < ((F a : Nat) : Int)) = false := decide_eq_false (by omega)
              have hbN' : (b : Int) < (N : Int) := by omega
              clear hb hbm hin
              have hdn : decide (F b < F a) = false := decide_eq_false (by omega)
              generalize F a = fa at hca hd hdn hle
              generalize F b = fb at hcb hd hdn hle
              clear hle
              generalize (nb g a).length = nl at hcg hjl hjl' hj hlen ⊢
              go_wp2_with fail
              go_quiet (fail)
              have L8 := hid (HL.out.quiet (Keeps.drewN [] _ nq))
              have F8 := hid (HF.out.kept (Keeps.drewN [] _ nq) (by simp))
              clear HL HF
              go_wp2
              go_roundw
              case rel => exact ⟨j + 1, by go_num, by omega, L8, F8⟩
              case measure => simp [intOf]; omega
            · have hjl' : ¬ ((j : Int) < ((nb g a).length : Int)) := by omega
              clear hin
              generalize (nb g a).length = nl at hcg hjl hjl' hj hlen ⊢
              go_wp2
              go_roundw
              case rel => exact ⟨a + 1, by go_num, by omega, HL, HF⟩
              case measure => simp [intOf]; omega
        · obtain rfl : a = N := by omega
          have hee : ((a : Int) == (a : Int)) = true := by simp
          go_wp2
          go_ret
          exact ⟨rfl, HL.out.keep⟩
end Go.Proofs.YtjckdjeckbdmdabDoor
