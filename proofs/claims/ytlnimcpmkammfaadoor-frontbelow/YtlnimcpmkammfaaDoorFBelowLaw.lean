/-
  The statement FrontBelow.
-/
import Derived.Test.YtlnimcpmkammfaaDoorFKit
namespace Go.Proofs.YtlnimcpmkammfaaDoor
open Go.RowKit

/-- Of the first k ahead of b one is dominated by i. -/
def AhK (g : List (List Nat)) (i : Nat) (l : List Nat) (k : Nat) (d : Bool) : Prop := d = true ↔ ∃ c, c ∈ l.take k ∧ Dom g 0 i c
theorem AhK.next {g : List (List Nat)} {i : Nat} {l : List Nat} {k : Nat} {d e : Bool} (h : AhK g i l k d) (hk : k < l.length) (he : e = true ↔ Dom g 0 i (l.getD k 0)) : AhK g i l (k + 1) (d || e) := by
  unfold AhK at h ⊢
  have et : l.take (k + 1) = l.take k ++ [l.getD k 0] := by
    rw [List.take_add_one, List.getElem?_eq_getElem hk, List.getD_eq_getElem?_getD, List.getElem?_eq_getElem hk]
    rfl
  rw [Bool.or_eq_true, h, he, et]
  constructor
  · rintro (⟨c, h1, h2⟩ | h1)
    · exact ⟨c, List.mem_append_left _ h1, h2⟩
    · exact ⟨_, by simp, h1⟩
  · rintro ⟨c, h1, h2⟩
    rcases List.mem_append.1 h1 with h3 | h3
    · exact .inl ⟨c, h3, h2⟩
    · rw [List.mem_singleton.1 h3] at h2
      exact .inr h2

set_option maxRecDepth 20000 in
set_option maxHeartbeats 8000000 in
theorem frontBelow_law (n : Int) (pa : Option Addr) (cap : Nat) (zs : List (Int × Int)) (w : World) (hT : TabAt w) (hz : PairsAt w pa zs) (hl : zs.length ≤ maxLen) :
    Calls Tryd.prog 7 #[.int .i64 n, .slice pa zs.length cap] w fun e w' => e = .returned (.bool true) ∧ Keeps [] w w' := by
  have HBG := hid (begun7_any w hT)
  have HTT := hid (fun wz (k : Keeps [] w wz) => tabq hT k)
  obtain ⟨N, g, L, hN2, hN1, hgl, hsm, hgd, hnn, hmd⟩ := made_pack n zs hl
  have HMD := hid (fun wz (k : Keeps [] w wz) => hmd pa cap wz (hz.kept k (fun _ _ _ => by simp)))
  have HS := hid hsm
  have HGD := hid hgd
  have HN := hid hgl
  have h0g : 0 < g.length := by omega
  have HOF := hid (fun bx p B wz (h : LG w wz bx p B g) => fof_in g hsm (some ⟨p, 0, none⟩) g.length B 0 wz h.gr h.le h0g)
  have HUP := hid (fun bx p B wz (h : LG w wz bx p B g) => up_in g hsm (some ⟨p, 0, none⟩) g.length B 0 wz h.gr h.le h0g)
  have HTN := hid (fun bx p B wz (h : LG w wz bx p B g) => turn_any g hsm (some ⟨p, 0, none⟩) g.length B wz h.gr h.le)
  have HDB := hid (fun a b => domB_iff hsm.ok h0g a b)
  have HAB := hid (fun U (hU : UpOf g 0 U) pu wz (h : UAt wz pu g.length U) (a b : Nat) => above_any g hsm 0 h0g U hU pu wz h (a : Int) (b : Int) (domB g 0 a b) (by rw [HDB.out, domI_of]))
  have HMT : Box (∀ a b, b < g.length → (a ∈ nb (turnG g) b ↔ a < g.length ∧ b ∈ nb g a)) := hid (fun a b hb => mem_turn hb)
  have HTL : Box (turnG g = (List.range N).map (inTo g N)) := hid (by unfold turnG; rw [hgl])
  have HDL : Box (∀ a b, Dom g 0 a b → b < N) := hid (fun a b h => by rw [← hgl]; exact h.1.lt hsm.ok h0g)
  have HTI : Box (∀ j, (nb (turnG g) j).length ≤ 1000000) := hid (fun j => by
    by_cases hj : j < g.length
    · rw [nb_turn hj]
      have h1 := deg_short hsm j g.length
      have h2 := hsm.len
      show deg g g.length j ≤ 1000000
      omega
    · rw [nb_out (by rw [turnG_len]; omega)]; simp)
  rw [hgl] at HOF HUP HTN HAB HMT
  rw [show (((0 : Nat) : Int)) = (0 : Int) from rfl] at HOF HUP
  clear hz hl hmd hsm hgd hgl hnn h0g hT
  generalize zs.length = zl at HMD
  go_enter Tryd.func7, Tryd.ntmps7
  go_wp2_with fail
  refine HBG.out.mono ?_
  rintro e w1 ⟨rfl, k1⟩
  clear HBG
  go_wp2_with fail
  refine (HMD.out w1 k1).mono ?_
  rintro e w2 ⟨p, vs, rfl, ho2, k2⟩
  have L3 := hid (LG.make ho2 (k1.quiet k2))
  rw [← HGD.out] at L3
  clear ho2 k2 k1 HMD HGD
  go_upto_region 5 with fail
  generalize w2.alloc (Obj.cells #[.int .i64 (N : Int), .slice (some ⟨p, 0, none⟩) N N] 27) = w3 at L3 ⊢
  obtain ⟨B, hB⟩ : ∃ B, w2.heap.size + 1 = B := ⟨_, rfl⟩
  rw [hB] at L3
  generalize w2.heap.size = bx at L3 ⊢
  clear hB
  have t3 := L3.out.two
  rw [HN.out] at t3
  have c0 := t3.c0
  have c1 := t3.c1
  clear t3
  go_wp2_with fail
  refine (HOF.out bx p B w3 L3.out).mono ?_
  rintro e w4 ⟨pf, q, F, rfl, m4, hF4, k4⟩
  have L4 : Box (LF w w4 bx p B N g w3.heap.size pf q F) := hid ⟨L3.out.quiet k4, m4, HN.out⟩
  have HF := hid hF4
  generalize w3.heap.size = base at L4
  clear m4 hF4 k4 L3 c0 c1 HOF
  have c0 := L4.out.c0
  have c1 := L4.out.c1
  go_wp2_with fail
  refine (HUP.out bx p B w4 L4.out.lg).mono ?_
  rintro e w5 ⟨pu, U, rfl, r5, u5, k5⟩
  have R5 := hid r5.uat
  have U5 := hid u5
  have L5 := hid (L4.out.quiet k5)
  clear r5 u5 k5 c0 c1 L4 HUP
  have c0 := L5.out.c0
  have c1 := L5.out.c1
  go_wp2_with fail
  refine (HTN.out bx p B w5 L5.out.lg).mono ?_
  rintro e w6 ⟨p6, vs6, rfl, ho6, k6⟩
  have LT7 := hid (LG.make ho6 (L5.out.lg.keep.quiet k6))
  have k7 := k6.quiet (Keeps.alloc [] w6 (.cells #[.int .i64 (N : Int), .slice (some ⟨p6, 0, none⟩) N N] 27))
  have L7 := hid (L5.out.quiet k7)
  have R7 := hid (R5.out.kept k7 (by simp))
  rw [← HTL.out] at LT7
  clear ho6 k6 k7 c0 c1 L5 R5 HTN
  go_upto_region 8 with fail
  generalize w6.alloc (Obj.cells #[.int .i64 (N : Int), .slice (some ⟨p6, 0, none⟩) N N] 27) = w7 at LT7 L7 R7 ⊢
  obtain ⟨B7, hB7⟩ : ∃ B7, w6.heap.size + 1 = B7 := ⟨_, rfl⟩
  rw [hB7] at LT7
  generalize w6.heap.size = bt at LT7 ⊢
  clear hB7
  have T7 : Box (∀ wr, Keeps [] w7 wr → wr.cell? ⟨bt, 1, none⟩ = some (.slice (some ⟨p6, 0, none⟩) N N)) := hid (fun wr k => by
    have := (LT7.out.quiet k).two.c1
    rw [turnG_len, HN.out] at this
    exact this)
  have N7 : Box (∀ wr b, Keeps [] w7 wr → b < N → ∃ ai ci, wr.cell? ⟨p6, b, none⟩ = some (.slice ai (nb (turnG g) b).length ci) ∧ NAt wr B7 ai (nb (turnG g) b)) := hid (fun wr b k hb => by
    obtain ⟨b', off, ai, ci, h1, h2, h3⟩ := (LT7.out.quiet k).gr.at (k := b) (by rw [turnG_len, HN.out]; exact hb)
    simp only [Option.some.injEq, Addr.mk.injEq, and_true] at h1
    obtain ⟨rfl, rfl⟩ := h1
    rw [Nat.zero_add] at h2
    exact ⟨ai, ci, h2, h3⟩)
  have A7 := hid (fun w9 (k9 : Keeps [] w7 w9) (a b : Nat) => HAB.out U U5.out pu w9 (R7.out.kept k9 (by simp)) a b)
  clear LT7 R7 HAB U5
  go_wp2_with fail
  have K0 := hid (Keeps.refl [] w7)
  go_loopw [10] (fun iv wr => ∃ i : Nat, iv = .int .i64 (i : Int) ∧ i ≤ N ∧ Box (Keeps [] w7 wr)) (fun iv _ => N - (intOf iv).toNat)
  case atStart => exact ⟨0, rfl, by omega, K0⟩
  case round =>
    clear K0
    obtain ⟨i, rfl, hi, HK⟩ := hrel
    have LA := hid (L7.out.quiet HK.out)
    have c0 := LA.out.c0
    by_cases hlt : i < N
    · have hlt' : (i : Int) < (N : Int) := by omega
      have hi6 : i < 25 := by omega
      have cq := LA.out.fm.cell hlt
      have HAL := hid (LA.out.all (HTT.out wr LA.out.lg.keep) hlt)
      have HEL : Box (∀ b, b ∈ elems (F i) → Fr g 0 i b) := hid (fun b hb => (HF.out i b).1 ((mem_elems (LA.out.fm.fit i hlt)).1 hb))
      have hel : (elems (F i)).length ≤ 5000 := pre_len (F i) 5000
      obtain ⟨el, hee⟩ : ∃ el, elems (F i) = el := ⟨_, rfl⟩
      rw [hee] at HAL HEL hel
      clear hee
      go_wp2_with fail
      refine HAL.out.mono ?_
      rintro e w8 ⟨al, cl, rfl, hl8, k8⟩
      have HL8 := hid hl8
      have HK8 := hid (HK.out.quiet k8)
      have K0 := hid (Keeps.refl [] w8)
      obtain ⟨ell, hell⟩ : ∃ ell, el.length = ell := ⟨_, rfl⟩
      have HLL := hid hell
      rw [hell] at hel ⊢
      clear HAL hl8 k8 HK LA c0 cq hell
      go_wp2_with fail
      go_loopw [12] (fun jv wr => ∃ j : Nat, jv = .int .i64 (j : Int) ∧ j ≤ ell ∧ Box (Keeps [] w8 wr)) (fun jv _ => ell - (intOf jv).toNat)
      case atStart => exact ⟨0, rfl, by omega, K0⟩
      case round =>
        clear K0
        obtain ⟨j, rfl, hj, HK⟩ := hrel
        have HKA := hid (HK8.out.quiet HK.out)
        by_cases hjl : j < ell
        · have hjl' : (j : Int) < (ell : Int) := by omega
          have hjl2 : j < el.length := by rw [HLL.out]; exact hjl
          obtain ⟨bl, ol, hal, hcl⟩ : ∃ bl ol, al = some ⟨bl, ol, none⟩ ∧ wr.cell? ⟨bl, ol + j, none⟩ = some (.int .i64 ((el.getD j 0 : Nat) : Int)) := by
            rcases HL8.out.kept HK.out (by simp) with h | ⟨bl, ol, h1, h2⟩
            · have : el = [] := List.map_eq_nil_iff.1 h
              rw [this] at hjl2
              simp at hjl2
            · refine ⟨bl, ol, h1, ?_⟩
              have := h2 j (by rw [List.length_map]; exact hjl2)
              rw [this]
              simp [List.getD_eq_getElem?_getD, List.getElem?_map, List.getElem?_eq_getElem hjl2]
          subst hal
          have HFR := hid (HEL.out _ (getD_mem el j 0 hjl2))
          obtain ⟨b, hb⟩ : ∃ b, el.getD j 0 = b := ⟨_, rfl⟩
          rw [hb] at hcl HFR
          have hbN : b < N := by rw [← HN.out]; exact HFR.out.lt HS.out.ok
          clear hb hjl2
          have hb6 : b < 25 := by omega
          have hbN' : (b : Int) < (N : Int) := by omega
          have hnt := HTI.out b
          have HMB := hid (fun a => HMT.out a b hbN)
          obtain ⟨tl, htl⟩ : ∃ tl, nb (turnG g) b = tl := ⟨_, rfl⟩
          have N8 := hid (fun wr k => N7.out wr b k hbN)
          rw [htl] at hnt HMB N8
          obtain ⟨tn, htn⟩ : ∃ tn, tl.length = tn := ⟨_, rfl⟩
          have HTN := hid htn
          rw [htn] at hnt N8
          clear htl htn
          have H0 : Box (AhK g i tl 0 false) := hid (by unfold AhK; simp)
          go_wp2_with fail
          clear hcl
          go_loopw [14, 15] (fun dv kv wr => ∃ (k : Nat) (d : Bool), dv = .bool d ∧ kv = .int .i64 (k : Int) ∧ k ≤ tn ∧ Box (AhK g i tl k d) ∧ Box (Keeps [] w8 wr)) (fun _ kv _ => tn - (intOf kv).toNat)
          case atStart => exact ⟨0, false, rfl, rfl, by omega, H0, HK⟩
          case round =>
            clear H0 HK HKA
            obtain ⟨k, d, rfl, rfl, hk, HA, HK⟩ := hrel
            have HKA := hid (HK8.out.quiet HK.out)
            have t1 := T7.out wr HKA.out
            obtain ⟨at', ct, hct, hnt2⟩ := N8.out wr HKA.out
            by_cases hkl : k < tn
            · have hkl' : (k : Int) < (tn : Int) := by omega
              have hkl2 : k < tl.length := by rw [HTN.out]; exact hkl
              obtain ⟨bm, om, ham, hcm⟩ := hnt2.at (k := k) hkl2
              subst ham
              have HNX := hid (fun e he => HA.out.next (e := e) hkl2 he)
              obtain ⟨c, hc⟩ : ∃ c, tl.getD k 0 = c := ⟨_, rfl⟩
              rw [hc] at hcm HNX
              clear hc hnt2 hkl2
              cases d with
              | true =>
                have HN2 := hid (HNX.out (domB g 0 i c) (HDB.out i c))
                rw [Bool.true_or] at HN2
                clear HNX HA
                go_wp2
                go_roundw
                case rel => exact ⟨k + 1, true, rfl, by go_num, by omega, HN2, HK⟩
                case measure => simp [intOf]; omega
              | false =>
                have HN2 := hid (HNX.out (domB g 0 i c) (HDB.out i c))
                rw [Bool.false_or] at HN2
                have HAA := hid (A7.out wr HKA.out i c)
                clear HNX HA
                generalize domB g 0 i c = e at HN2 HAA
                go_wp2_with fail
                refine HAA.out.mono ?_
                rintro e' w9 ⟨rfl, hw9⟩
                rw [hw9]
                clear hw9 HAA
                go_wp2
                go_roundw
                case rel => exact ⟨k + 1, e, rfl, by go_num, by omega, HN2, HK⟩
                case measure => simp [intOf]; omega
            · obtain rfl : k = tn := by omega
              have hd : d = true := by
                apply HA.out.2
                obtain ⟨c, h1, h2, h3⟩ := HFR.out
                refine ⟨c, ?_, h1⟩
                rw [← HTN.out, List.take_length, HMB.out c]
                exact ⟨HDL.out i c h1, h3⟩
              subst hd
              clear HA hnt2
              by_cases hib : i = b
              · have h1 : ((i : Int) != (b : Int)) = false := by rw [hib]; simp
                clear hib
                go_wp2
                go_roundw
                case rel => exact ⟨j + 1, by go_num, by omega, HK⟩
                case measure => simp [intOf]; omega
              · have h1 : ((i : Int) != (b : Int)) = true := by rw [bne_iff_ne]; omega
                have HAA := hid (A7.out wr HKA.out i b)
                have hdf : domB g 0 i b = false := by
                  cases e : domB g 0 i b with
                  | false => rfl
                  | true =>
                    obtain ⟨_, _, h2, _⟩ := HFR.out
                    exact absurd ⟨(HDB.out i b).1 e, hib⟩ h2
                rw [hdf] at HAA
                clear hib hdf
                go_wp2_with fail
                refine HAA.out.mono ?_
                rintro e' w9 ⟨rfl, hw9⟩
                rw [hw9]
                clear hw9 HAA
                go_wp2
                go_roundw
                case rel => exact ⟨j + 1, by go_num, by omega, HK⟩
                case measure => simp [intOf]; omega
        · obtain rfl : j = ell := by omega
          go_wp2
          go_roundw
          case rel => exact ⟨i + 1, by go_num, by omega, HKA⟩
          case measure => simp [intOf]; omega
    · obtain rfl : i = N := by omega
      have KE := hid (L7.out.lg.keep.quiet HK.out)
      go_wp2
      go_ret
      exact ⟨rfl, KE.out⟩
end Go.Proofs.YtlnimcpmkammfaaDoor
