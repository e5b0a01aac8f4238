/-
  The statement GraphPathLeast.
-/
import Derived.Test.YtngdnjlohmkbiaaDoorGPlRg
import Derived.Deep.RegionHeld3
namespace Go.Proofs.YtngdnjlohmkbiaaDoor
open Go.RowKit

theorem cell_kept2 {w w' : World} {p : Addr} {v : Value} (k : Keeps [] w w') (h : w.cell? p = some v) : w'.cell? p = some v := by
  rw [k.cell (block_lt_of_cell h) (by simp)]
  exact h

set_option maxRecDepth 20000 in
set_option maxHeartbeats 8000000 in
theorem pathLeast_law (n : Int) (pa : Option Addr) (cap : Nat) (zs : List (Int × Int)) (fr tt : Int) (w : World) (hT : TabAt w) (hz : PairsAt w pa zs) (hl : zs.length ≤ maxLen) :
    Calls Tryd.prog 8 #[.int .i64 n, .slice pa zs.length cap, .int .i64 fr, .int .i64 tt] w fun e w' => e = .returned (.bool true) ∧ Keeps [] w w' := by
  have HBG := hid (begun5_any w hT)
  obtain ⟨N, g, L, hN2, hN1, hgl, hsm, hgd, hnn, hmd⟩ := made_pack n zs hl
  have HMD := hid (fun wz (k : Keeps [] w wz) => hmd pa cap wz (hz.kept k (fun _ _ _ => by simp)))
  have HS := hid hsm
  have HGD := hid hgd
  have HN := hid hgl
  have HT := hid (fun wz (k : Keeps [] w wz) => tab_of hT k)
  clear hT hz hl hmd hsm hgd hgl hnn
  generalize zs.length = zl at HMD
  go_enter Tryd.func8, Tryd.ntmps8
  go_wp2_with fail
  refine HBG.out.mono ?_
  rintro e w1 ⟨rfl, k1⟩
  clear HBG
  go_wp2_with fail
  refine (HMD.out w1 k1).mono ?_
  rintro e w2 ⟨p, vs, rfl, ho2, k2⟩
  have L3 := hid (LG.make ho2 (k1.quiet k2))
  rw [← HGD.out] at L3
  clear ho2 k2 k1 HMD HGD
  go_upto_region 5 with fail
  generalize w2.alloc (Obj.cells #[.int .i64 (N : Int), .slice (some ⟨p, 0, none⟩) N N] 27) = w3 at L3 ⊢
  obtain ⟨B, hB⟩ : ∃ B, w2.heap.size + 1 = B := ⟨_, rfl⟩
  rw [hB] at L3
  generalize w2.heap.size = bx at L3 ⊢
  clear hB
  have t3 := L3.out.two
  rw [HN.out] at t3
  have c0 := t3.c0
  have c1 := t3.c1
  clear t3
  by_cases hin : 0 ≤ fr ∧ fr < (N : Int)
  · have hf0 := hin.1
    have hf1 := hin.2
    by_cases hin2 : 0 ≤ tt ∧ tt < (N : Int)
    · obtain ⟨a, rfl⟩ := Int.eq_ofNat_of_zero_le hin.1
      obtain ⟨b, rfl⟩ := Int.eq_ofNat_of_zero_le hin2.1
      have hb0 := hin2.1
      have hb1 := hin2.2
      have haN : a < N := by omega
      have hbN : b < N := by omega
      clear hin hin2
      have HPI := hid (path_in g HS.out (some ⟨p, 0, none⟩) g.length B a b w3 L3.out.gr (HT.out w3 L3.out.keep) (by rw [HN.out]; exact haN) (by rw [HN.out]; exact hbN))
      have hpw := path_way HS.out.ok (a := a) (b := b) (by rw [HN.out]; exact haN)
      rw [HN.out] at HPI hpw
      have HPW := hid hpw
      clear hpw
      generalize pathM g a b = P at HPI HPW
      go_wp2_with fail
      refine HPI.out.mono ?_
      rintro e w4 ⟨v4, rfl, h4, k4⟩
      have L4 := hid (L3.out.quiet k4)
      have P4 := hid h4
      have hpw := HPW.out
      clear h4 k4 c0 c1 L3 HPI HPW
      have t4 := L4.out.two
      rw [HN.out] at t4
      have T4 := hid t4
      have c0 := t4.c0
      have c1 := t4.c1
      clear t4
      obtain ⟨av, cv, hv4, n4, _, _⟩ := ownsRow_nat P4.out
      have N4 := hid n4
      subst hv4
      clear n4 P4
      rcases hpw with ⟨rfl, hno⟩ | ⟨d, hd, hway, hmin⟩
      · have HNO := hid hno
        clear hno
        have ka : Keeps [] w4 (w4.alloc (Obj.cells #[.int .i64 (a : Int)] 3)) := Keeps.alloc _ _ _
        have hia : InAt (w4.alloc (Obj.cells #[.int .i64 (a : Int)] 3)) (w4.alloc (Obj.cells #[.int .i64 (a : Int)] 3)).heap.size (some ⟨w4.heap.size, 0, none⟩) [(a : Int)] := InAt.up (lit_nat w4 [a] #[.int .i64 (a : Int)] rfl) (by simp)
        have HRE := hid (reach_any g HS.out (some ⟨p, 0, none⟩) g.length B (w4.alloc (Obj.cells #[.int .i64 (a : Int)] 3)) (L4.out.quiet ka).gr (L4.out.quiet ka).le (some ⟨w4.heap.size, 0, none⟩) 1 _ [(a : Int)] hia (by simp) (Nat.le_refl _))
        have hrf : rch g [(a : Int)] b = false := by
          cases e : rch g [(a : Int)] b with
          | false => rfl
          | true =>
            obtain ⟨m, hm⟩ := pth_wz ((rch_iff HS.out.ok (by rw [HN.out]; exact haN) b).1 e)
            exact absurd hm (HNO.out m)
        have HRF : Box (hasI (rch g [(a : Int)]) (b : Int) = false) := hid (by simp [hasI, hrf])
        have HFT : Box (Fit (rch g [(a : Int)])) := hid (rchS_fit HS.out _ none_ fit_none)
        have K5 := hid (L4.out.quiet ka).keep
        rw [HN.out] at HRE
        clear hrf hia ka HNO
        go_wp2_with fail
        generalize w4.alloc (Obj.cells #[.int .i64 (a : Int)] 3) = w5 at HRE K5 ⊢
        refine HRE.out.mono ?_
        rintro e w6 ⟨b6, rfl, h6, k6, _⟩
        have HC := hid (has_any b6 _ (b : Int) w6 h6 HFT.out)
        rw [HRF.out] at HC
        have K6 := hid (K5.out.quiet k6)
        clear h6 k6 HRE
        go_wp2_with fail
        refine HC.out.mono ?_
        rintro e w7 ⟨rfl, m7, rfl⟩
        have K7 := hid (K6.out.quiet (Keeps.drewN [] w6 m7))
        clear HC K6 K5
        go_wp2
        go_ret
        exact ⟨rfl, K7.out⟩
      · have HWY := hid hway
        have HMI := hid hmin
        have hlen := hway.len
        have hP : ∃ pb po, av = some ⟨pb, po, none⟩ ∧ ∀ i, i < d + 1 → w4.cell? ⟨pb, po + i, none⟩ = some (.int .i64 ((P.getD i 0 : Nat) : Int)) := by
          rcases N4.out with h | ⟨pb, po, h1, _, h3⟩
          · have := congrArg List.length h
            rw [intsI_len, hlen] at this
            simp at this
          · exact ⟨pb, po, h1, fun i hi => by rw [h3 i (by rw [intsI_len, hlen]; exact hi), intsI_get]⟩
        obtain ⟨pb, po, rfl, hpc⟩ := hP
        have ch := hpc 0 (by omega)
        have cl := hpc d (by omega)
        rw [hway.head, Nat.add_zero] at ch
        rw [hway.last] at cl
        have HPC := hid hpc
        rw [hlen]
        clear hway hmin hlen hpc N4
        obtain ⟨q, hq⟩ : ∃ q, d + 1 = q := ⟨_, rfl⟩
        have HQ := hid hq
        rw [hq] at HPC ⊢
        have hdq : d < q := by omega
        rw [show d = q - 1 by omega] at cl
        have hdq' : (d : Int) < (q : Int) := by omega
        have hq0 : (0 : Int) < (q : Int) := by omega
        have hqe : ((q : Int) == 0) = false := by rw [beq_eq_false_iff_ne]; omega
        have hq6 : q ≤ 1000 := by omega
        have hqw : wrap64 ((q : Int) - 1) = (d : Int) := by rw [IntWalk.wrap64_in _ (by omega)]; omega
        clear hq
        have RG0 : Box (Rg (w4.alloc (Obj.cells #[.int .i64 (a : Int)] 3)) w4.heap.size (.slice (some ⟨w4.heap.size, 0, none⟩) 1 1) [(a : Int)] N (Wi g a 0)) := hid ⟨.inr ⟨by simp, one_row (w := w4) (base := w4.heap.size) a (Nat.le_refl _)⟩, by simp, fun z => by
            rw [List.mem_singleton]
            constructor
            · rintro rfl; exact ⟨a, rfl, wi_zero.2 rfl⟩
            · rintro ⟨u, rfl, hu⟩; rw [wi_zero.1 hu], fun u hu => by rw [wi_zero.1 hu]; exact haN⟩
        have ka : Keeps [] w4 (w4.alloc (Obj.cells #[.int .i64 (a : Int)] 3)) := Keeps.alloc _ _ _
        go_upto_region 12 with fail
        clear ch cl c0 c1
        generalize w4.alloc (Obj.cells #[.int .i64 (a : Int)] 3) = w5 at RG0 ka ⊢
        have KA := hid ka
        obtain ⟨base, hbase⟩ : ∃ base, w4.heap.size = base := ⟨_, rfl⟩
        rw [hbase] at RG0 ⊢
        have hb5 : base ≤ w5.heap.size := by have := ka.size; omega
        have HBE := hid hbase
        clear hbase ka hqw hqe hq0
        go_wp2_with fail
        go_loopw [13, 14] (fun rv iv wr => ∃ (i j : Nat) (l : List Int) (v : Value), v = rv ∧ iv = .int .i64 (i : Int) ∧ i ≤ q ∧ Box (i = j + 1) ∧ Box (Rg wr base v l N (Wi g a j)) ∧ Box (Keeps [] w4 wr)) (fun _ iv _ => q - (intOf iv).toNat)
        case atStart => exact ⟨1, 0, _, _, rfl, rfl, by omega, hid rfl, RG0, KA⟩
        case round =>
          clear RG0 KA hb5
          obtain ⟨i, j, l, v, rfl, rfl, hi, HIJ, HR, HK⟩ := hrel
          have hbs : base ≤ wr.heap.size := by have := HK.out.size; have := HBE.out; omega
          by_cases hlt : i < q
          · have hlt' : (i : Int) < (q : Int) := by omega
            have hjd : j < d := by have := HIJ.out; have := HQ.out; omega
            have hjq : j < q := by omega
            have hjq' : (j : Int) < (q : Int) := by omega
            have hj1 : (i : Int) - 1 = (j : Int) := by have := HIJ.out; omega
            have hjw : wrap64 ((i : Int) - 1) = (j : Int) := by rw [hj1, IntWalk.wrap64_in _ (by omega)]
            have hj3 : (0 : Int) ≤ (j : Int) := by omega
            have cj := cell_kept2 HK.out (HPC.out j hjq)
            have ci := cell_kept2 HK.out (HPC.out i hlt)
            have hxN : P.getD j 0 < N := by rw [← HN.out]; exact (HWY.out.to j (by omega)).lt HS.out.ok (by rw [HN.out]; exact haN)
            have hyn : P.getD i 0 ∈ nb g (P.getD j 0) := by rw [HIJ.out]; exact HWY.out.edge j hjd
            generalize P.getD j 0 = x at cj hxN hyn
            generalize P.getD i 0 = y at ci hyn
            have hxN' : (x : Int) < (N : Int) := by omega
            have HG6 := hid (fun wz (k : Keeps [] w4 wz) => (L4.out.quiet k).gr)
            obtain ⟨bl, ol, al, cp, hal, hcl, hnl⟩ := (HG6.out wr HK.out).at (k := x) (by rw [HN.out]; exact hxN)
            simp only [Option.some.injEq, Addr.mk.injEq, and_true] at hal
            obtain ⟨hal1, hal2⟩ := hal
            subst hal1
            subst hal2
            rw [Nat.zero_add] at hcl
            have hsh := HS.out.short x
            have HI1 := hid (fun wz (k : Keeps [] wr wz) => rin_any al cp (intsI (nb g x)) (y : Int) wz (hnl.kept k (by simp)).ints (by rw [intsI_len]; omega))
            rw [intsI_len, decide_eq_true (show ((y : Int) ∈ intsI (nb g x)) from List.mem_map.2 ⟨y, hyn, rfl⟩)] at HI1
            have hS : ¬ Wi g a j b := by
              rintro ⟨m, hm, hw⟩
              have := HMI.out m hw
              omega
            have HI2 := hid (fun wz (k : Keeps [] wr wz) => rin_ring base v l N b _ wz (HR.out.quiet k) (by omega) false ⟨fun h => (by cases h), fun h => absurd h hS⟩)
            have c1 := (T4.out.kept HK.out (by simp)).c1
            obtain ⟨ar, cr, hv, _, _, _⟩ := HR.out.lst.open
            subst hv
            have hllN := HR.out.len
            obtain ⟨ll, hll⟩ : ∃ ll, l.length = ll := ⟨_, rfl⟩
            rw [hll] at HI2 hllN HR ⊢
            have HLE := hid hll
            clear hll hyn hsh hnl hS hjd
            generalize (nb g x).length = nl at hcl HI1
            go_wp2_with fail
            go_quiet (first | (go_at_call 32; with_reducible exact Calls.quiet_of_same (HI1.out _ (Keeps.drewN _ _ _))) | (go_at_call 32; with_reducible exact Calls.quiet_of_same (HI2.out _ (Keeps.drewN _ _ _))))
            have HR7 := hid (HR.out.quiet (Keeps.drewN [] wr nq))
            have K7 := hid (HK.out.quiet (Keeps.drewN [] wr nq))
            clear HI1 HI2 HR HK hcl ci cj c1 hjw hj1 hj3 hjq hjq' hbs hxN hxN'
            generalize wr.drewN nq = w7 at HR7 K7 ⊢
            have hb7 : base ≤ w7.heap.size := by have := K7.out.size; have := HBE.out; omega
            have HB7 : Box (∀ wz, Keeps [] w7 wz → base ≤ wz.heap.size) := hid (fun wz k => Nat.le_trans hb7 k.size)
            have RN0 : Box (Rg w7 base (.slice none 0 0) [] N (fun u => ∃ x, RgK l 0 x ∧ u ∈ nb g x)) := hid ⟨.inl ⟨rfl, rfl⟩, by simp, fun z => by
              constructor
              · intro h; simp at h
              · rintro ⟨u, _, x, ⟨q', h1, _⟩, _⟩; omega, fun u ⟨x, ⟨q', h1, _⟩, _⟩ => by omega⟩
            go_wp2_with fail
            go_loopw [15, 16] (fun nv kv wr => ∃ (k : Nat) (l2 : List Int) (v2 : Value), v2 = nv ∧ kv = .int .i64 (k : Int) ∧ k ≤ ll ∧ Box (Rg wr base v2 l2 N (fun u => ∃ x, RgK l k x ∧ u ∈ nb g x)) ∧ Box (Keeps [] w7 wr)) (fun _ kv _ => ll - (intOf kv).toNat)
            case atStart => exact ⟨0, [], _, rfl, rfl, by omega, RN0, hid (Keeps.refl _ _)⟩
            case round =>
              clear RN0
              obtain ⟨k, l2, v2, rfl, rfl, hk, HR2, HK2⟩ := hrel
              by_cases hlk : k < ll
              · have hlk' : (k : Int) < (ll : Int) := by omega
                obtain ⟨u, hu1, hu2, rb, ro, rc, hrv, hru⟩ := HR7.out.at (q := k) (by rw [HLE.out]; exact hlk)
                simp only [Value.slice.injEq] at hrv
                obtain ⟨rfl, hx9, rfl⟩ := hrv
                clear hx9
                have huN : u < N := HR7.out.lt u hu2
                have huN' : (u : Int) < (N : Int) := by omega
                have HRU := hid hru
                have HU1 := hid hu1
                have R3 : Box (Rg wr base v2 l2 N (fun z => (∃ x, RgK l k x ∧ z ∈ nb g x) ∨ ∃ q', q' < 0 ∧ (nb g u).getD q' 0 = z)) := hid (HR2.out.congr (fun z => ⟨.inl, fun h => h.resolve_right (fun ⟨q', h1, _⟩ => by omega)⟩))
                have hsh := HS.out.short u
                obtain ⟨nl, hnl⟩ : ∃ nl, (nb g u).length = nl := ⟨_, rfl⟩
                have HNL := hid hnl
                rw [hnl] at hsh
                clear hru hu1 hu2 HR2 hnl
                go_wp2_with fail
                go_loopw [15, 17] (fun nv jv wr => ∃ (j2 : Nat) (l3 : List Int) (v3 : Value), v3 = nv ∧ jv = .int .i64 (j2 : Int) ∧ j2 ≤ nl ∧ Box (Rg wr base v3 l3 N (fun z => (∃ x, RgK l k x ∧ z ∈ nb g x) ∨ ∃ q', q' < j2 ∧ (nb g u).getD q' 0 = z)) ∧ Box (Keeps [] w7 wr)) (fun _ jv _ => nl - (intOf jv).toNat)
                case atStart => exact ⟨0, l2, v2, rfl, rfl, by omega, R3, HK2⟩
                case round =>
                  clear R3 HK2
                  obtain ⟨j2, l3, v3, rfl, rfl, hj2, HR3, HK3⟩ := hrel
                  have c1 := (T4.out.kept (K7.out.quiet HK3.out) (by simp)).c1
                  have cr := cell_kept2 HK3.out HRU.out
                  obtain ⟨bl, ol, al, cp, hal, hcl, hnl⟩ := (HG6.out wr (K7.out.quiet HK3.out)).at (k := u) (by rw [HN.out]; exact huN)
                  simp only [Option.some.injEq, Addr.mk.injEq, and_true] at hal
                  obtain ⟨hal1, hal2⟩ := hal
                  subst hal1
                  subst hal2
                  rw [Nat.zero_add, HNL.out] at hcl
                  by_cases hlj : j2 < nl
                  · have hlj' : (j2 : Int) < (nl : Int) := by omega
                    obtain ⟨bn, on, rfl, hcn⟩ := hnl.at (k := j2) (by rw [HNL.out]; exact hlj)
                    have hcN : (nb g u).getD j2 0 < N := by
                      rw [← HN.out]
                      exact HS.out.ok u _ (getD_mem _ _ _ (by rw [HNL.out]; exact hlj))
                    have HSU : Box (∀ z, ((∃ x, RgK l k x ∧ z ∈ nb g x) ∨ ∃ q', q' < j2 ∧ (nb g u).getD q' 0 = z) ∨ z = (nb g u).getD j2 0 ↔ (∃ x, RgK l k x ∧ z ∈ nb g x) ∨ ∃ q', q' < j2 + 1 ∧ (nb g u).getD q' 0 = z) := hid (fun z => by
                      constructor
                      · rintro ((h | ⟨q', h1, h2⟩) | h)
                        · exact .inl h
                        · exact .inr ⟨q', by omega, h2⟩
                        · exact .inr ⟨j2, by omega, h.symm⟩
                      · rintro (h | ⟨q', h1, h2⟩)
                        · exact .inl (.inl h)
                        · by_cases e : q' = j2
                          · subst e; exact .inr h2.symm
                          · exact .inl (.inr ⟨q', by omega, h2⟩))
                    generalize (nb g u).getD j2 0 = c at hcn hcN HSU
                    clear hnl
                    go_wp2_with fail
                    go_quiet (fail)
                    have kq : Keeps [] wr (wr.drewN nq) := Keeps.drewN _ _ _
                    have K8 := hid (HK3.out.quiet kq)
                    have HP8 := hid (rput_any base v3 l3 N c _ (wr.drewN nq).drew (HR3.out.quiet (kq.quiet (Keeps.drew _ _))) hcN (by omega) (HB7.out _ (K8.out.quiet (Keeps.drew _ _))))
                    have d1 := cell_kept2 kq c1
                    have d2 := cell_kept2 kq cr
                    have d3 := cell_kept2 kq hcl
                    have d4 := cell_kept2 kq hcn
                    clear c1 cr hcl hcn HR3 HK3 kq
                    generalize wr.drewN nq = w8 at K8 HP8 d1 d2 d3 d4 ⊢
                    have HD1 := hid d1
                    have HD2 := hid d2
                    have HD3 := hid d3
                    have HD4 := hid d4
                    have kd : Keeps [] w8 w8.drew := Keeps.drew _ _
                    go_upto_region 24 with fail
                    go_region_held3 (fun w' => w'.cell? ⟨bx, 1, none⟩ = some (.slice (some ⟨p, 0, none⟩) N N) ∧ w'.cell? ⟨rb, ro + k, none⟩ = some (.int .i64 (u : Int)) ∧ w'.cell? ⟨p, u, none⟩ = some (.slice (some ⟨bn, on, none⟩) nl cp) ∧ w'.cell? ⟨bn, on + j2, none⟩ = some (.int .i64 (c : Int))) (go_keep) (first
                      | (go_at_call 33; refine HP8.out.mono ?_; rintro e w9 ⟨v9, l9, rfl, h9, k9⟩; have R9 := hid h9; have kk := kd.quiet k9; have f1 := cell_kept2 kk HD1.out; have f2 := cell_kept2 kk HD2.out; have f3 := cell_kept2 kk HD3.out; have f4 := cell_kept2 kk HD4.out; clear h9 k9)
                      | fail)
                    all_goals
                      have R10 := hid (R9.out.congr HSU.out)
                      have K10 := hid (K8.out.quiet kk)
                      clear R9 f1 f2 f3 f4 d1 d2 d3 d4
                      go_wp2_with fail
                      go_roundw
                      case rel => exact ⟨j2 + 1, l9, v9, rfl, by go_num, by omega, R10, K10⟩
                      case measure => simp [intOf]; omega
                  · obtain rfl : j2 = nl := by omega
                    have R9 : Box (Rg wr base v3 l3 N (fun z => ∃ x, RgK l (k + 1) x ∧ z ∈ nb g x)) := hid (HR3.out.congr (fun z => by
                      constructor
                      · rintro (⟨x, ⟨q', h1, h2⟩, h3⟩ | ⟨q', h1, h2⟩)
                        · exact ⟨x, ⟨q', by omega, h2⟩, h3⟩
                        · exact ⟨u, ⟨k, by omega, HU1.out⟩, by rw [← h2]; exact getD_mem _ _ _ (by rw [HNL.out]; exact h1)⟩
                      · rintro ⟨x, ⟨q', h1, h2⟩, h3⟩
                        by_cases e : q' = k
                        · subst e
                          have e2 := HU1.out
                          rw [h2] at e2
                          have e3 : x = u := by omega
                          subst e3
                          obtain ⟨y', hy, e4⟩ := List.getElem_of_mem h3
                          refine .inr ⟨y', by rw [← HNL.out]; exact hy, ?_⟩
                          rw [List.getD_eq_getElem?_getD, List.getElem?_eq_getElem hy]
                          exact e4
                        · exact .inl ⟨x, ⟨q', by omega, h2⟩, h3⟩))
                    clear hnl HR3
                    go_wp2_with fail
                    go_quiet (fail)
                    have R10 := hid (R9.out.quiet (Keeps.drewN [] wr nq))
                    have K10 := hid (HK3.out.quiet (Keeps.drewN [] wr nq))
                    clear R9 HK3 c1 cr hcl
                    generalize wr.drewN nq = w8 at R10 K10 ⊢
                    go_wp2_with fail
                    go_roundw
                    case rel => exact ⟨k + 1, l3, v3, rfl, by go_num, by omega, R10, K10⟩
                    case measure => simp [intOf]; omega
              · obtain rfl : k = ll := by omega
                have R4 : Box (Rg wr base v2 l2 N (fun z => (∃ x, RgK l k x ∧ z ∈ nb g x) ∨ RgK l 0 z)) := hid (HR2.out.congr (fun z => ⟨.inl, fun h => h.resolve_right (fun ⟨q', h1, _⟩ => by omega)⟩))
                clear HR2
                go_wp2_with fail
                go_loopw [15, 18] (fun nv kv wr => ∃ (k4 : Nat) (l4 : List Int) (v4 : Value), v4 = nv ∧ kv = .int .i64 (k4 : Int) ∧ k4 ≤ k ∧ Box (Rg wr base v4 l4 N (fun z => (∃ x, RgK l k x ∧ z ∈ nb g x) ∨ RgK l k4 z)) ∧ Box (Keeps [] w7 wr)) (fun _ kv _ => k - (intOf kv).toNat)
                case atStart => exact ⟨0, l2, v2, rfl, rfl, by omega, R4, HK2⟩
                case round =>
                  clear R4 HK2
                  obtain ⟨k4, l4, v4, rfl, rfl, hk4, HR4, HK4⟩ := hrel
                  by_cases hlk4 : k4 < k
                  · have hlk4' : (k4 : Int) < (k : Int) := by omega
                    obtain ⟨u, hu1, hu2, rb, ro, rc, hrv, hru⟩ := HR7.out.at (q := k4) (by rw [HLE.out]; exact hlk4)
                    simp only [Value.slice.injEq] at hrv
                    obtain ⟨rfl, hx9, rfl⟩ := hrv
                    clear hx9
                    have huN : u < N := HR7.out.lt u hu2
                    have cr := cell_kept2 HK4.out hru
                    have HSU : Box (∀ z, ((∃ x, RgK l k x ∧ z ∈ nb g x) ∨ RgK l k4 z) ∨ z = u ↔ (∃ x, RgK l k x ∧ z ∈ nb g x) ∨ RgK l (k4 + 1) z) := hid (fun z => by
                      constructor
                      · rintro ((h | ⟨q', h1, h2⟩) | h)
                        · exact .inl h
                        · exact .inr ⟨q', by omega, h2⟩
                        · exact .inr ⟨k4, by omega, by rw [h]; exact hu1⟩
                      · rintro (h | ⟨q', h1, h2⟩)
                        · exact .inl (.inl h)
                        · by_cases e : q' = k4
                          · subst e; rw [hu1] at h2; exact .inr (by omega)
                          · exact .inl (.inr ⟨q', by omega, h2⟩))
                    have HP := hid (rput_any base v4 l4 N u _ wr HR4.out huN (by omega) (HB7.out _ HK4.out))
                    clear hu1 hu2 hru
                    go_wp2_with fail
                    refine HP.out.mono ?_
                    rintro e w9 ⟨v9, l9, rfl, h9, k9⟩
                    have R10 := hid (h9.congr HSU.out)
                    have K10 := hid (HK4.out.quiet k9)
                    clear h9 k9 cr HP HR4 HK4
                    go_wp2_with fail
                    go_roundw
                    case rel => exact ⟨k4 + 1, l9, v9, rfl, by go_num, by omega, R10, K10⟩
                    case measure => simp [intOf]; omega
                  · obtain rfl : k4 = k := by omega
                    have R10 : Box (Rg wr base v4 l4 N (Wi g a (j + 1))) := hid (HR4.out.congr (fun z => by
                      rw [wi_next]
                      have h1 := fun x => HR7.out.all x
                      rw [HLE.out] at h1
                      constructor
                      · rintro (⟨x, h2, h3⟩ | h2)
                        · exact .inl ⟨x, (h1 x).1 h2, h3⟩
                        · exact .inr ((h1 z).1 h2)
                      · rintro (⟨x, h2, h3⟩ | h2)
                        · exact .inl ⟨x, (h1 x).2 h2, h3⟩
                        · exact .inr ((h1 z).2 h2)))
                    have K10 := hid (K7.out.quiet HK4.out)
                    have HIJ2 : Box (i + 1 = j + 1 + 1) := hid (by rw [HIJ.out])
                    clear HR4 HK4
                    go_wp2_with fail
                    go_roundw
                    case rel => exact ⟨i + 1, j + 1, l4, v4, rfl, by go_num, by omega, HIJ2, R10, K10⟩
                    case measure => simp [intOf]; omega
          · obtain rfl : i = q := by omega
            have HC := hid (rin_ring base v l N b _ wr HR.out (by omega) true ⟨fun _ => by
              have h1 := HWY.out.to d (Nat.le_refl _)
              rw [HWY.out.last] at h1
              exact ⟨d, by have := HIJ.out; have := HQ.out; omega, h1⟩, fun _ => rfl⟩)
            have KF := hid (L4.out.keep.quiet HK.out)
            obtain ⟨ar, cr, hv, _, _, _⟩ := HR.out.lst.open
            subst hv
            clear HR HK
            go_wp2_with fail
            refine HC.out.mono ?_
            rintro e wq ⟨rfl, hwq⟩
            rw [hwq]
            clear hwq HC
            go_wp2
            go_ret
            exact ⟨rfl, KF.out⟩
    · have HPO := hid (path_out2 g HS.out (some ⟨p, 0, none⟩) g.length B fr tt w3 L3.out.gr (by rw [HN.out]; exact hin) (by rw [HN.out]; exact hin2))
      rw [HN.out] at HPO
      go_wp2_with fail
      refine HPO.out.mono ?_
      rintro e w4 ⟨rfl, k4⟩
      have L4 := hid (L3.out.quiet k4)
      have t4 := L4.out.two
      rw [HN.out] at t4
      have c0' := t4.c0
      clear t4 k4 c0 c1 L3 HPO hin
      by_cases h0 : tt < 0
      · clear hin2
        go_wp2
        go_ret
        exact ⟨rfl, L4.out.keep⟩
      · have h1 : (N : Int) ≤ tt := by omega
        clear hin2
        go_wp2
        go_ret
        exact ⟨rfl, L4.out.keep⟩
  · have HPO := hid (path_out1 g HS.out (some ⟨p, 0, none⟩) g.length B fr tt w3 L3.out.gr (by rw [HN.out]; exact hin))
    rw [HN.out] at HPO
    go_wp2_with fail
    refine HPO.out.mono ?_
    rintro e w4 ⟨rfl, k4⟩
    have L4 := hid (L3.out.quiet k4)
    have t4 := L4.out.two
    rw [HN.out] at t4
    have c0' := t4.c0
    clear t4 k4 c0 c1 L3 HPO
    by_cases h0 : fr < 0
    · clear hin
      go_wp2
      go_ret
      exact ⟨rfl, L4.out.keep⟩
    · have h1 : (N : Int) ≤ fr := by omega
      clear hin
      go_wp2
      go_ret
      exact ⟨rfl, L4.out.keep⟩
end Go.Proofs.YtngdnjlohmkbiaaDoor
