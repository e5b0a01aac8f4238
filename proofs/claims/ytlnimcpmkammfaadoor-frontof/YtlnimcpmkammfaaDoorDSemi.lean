/-
  Contract: dom's semis.
-/
import Derived.Test.YtlnimcpmkammfaaDoorDNew
namespace Go.Proofs.YtlnimcpmkammfaaDoor
open Go.RowKit
attribute [local go_sem ↓] Go.wp_at_zero Go.wp_at_succ

theorem idx_nd {g : List (List Nat)} {r n : Nat} (h : n ∈ (dsr g r).1) : (dsr g r).1.idxOf n < (dsr g r).1.length ∧ ndd g r ((dsr g r).1.idxOf n) = n := by
  have h1 := List.idxOf_lt_length_iff.2 h
  refine ⟨h1, ?_⟩
  unfold ndd
  rw [List.getD_eq_getElem?_getD, List.getElem?_eq_getElem h1, Option.getD_some, List.getElem_idxOf h1]
theorem nd_mem {g : List (List Nat)} {r k : Nat} (h : k < (dsr g r).1.length) : ndd g r k ∈ (dsr g r).1 := by
  unfold ndd
  rw [List.getD_eq_getElem?_getD, List.getElem?_eq_getElem h, Option.getD_some]
  exact List.getElem_mem h
theorem Srd.len6 {g : List (List Nat)} {r : Nat} (h : Srd g r) (h6 : g.length ≤ 600) : (dsr g r).1.length ≤ 600 := by
  have hn : (dsr g r).1.Nodup := by
    rw [List.nodup_iff_pairwise_ne, List.pairwise_iff_getElem]
    intro i j hi hj hij e
    have := h.inj i j hi hj (by unfold ndd; rw [List.getD_eq_getElem?_getD, List.getD_eq_getElem?_getD, List.getElem?_eq_getElem hi, List.getElem?_eq_getElem hj, Option.getD_some, Option.getD_some, e])
    omega
  have h1 := List.Nodup.length_le_of_subset hn (l₂ := List.range g.length) (fun m hm => by
    have := idx_nd hm
    rw [List.mem_range, ← this.2]
    exact h.lt _ this.1)
  rw [List.length_range] at h1
  omega

/-- The semidominators of the places behind k are known. -/
structure SK (g : List (List Nat)) (r k : Nat) (S : Nat → Nat) : Prop where
  ok : ∀ z, k < z → z < (dsr g r).1.length → Semi (Eg g r) z (S z) ∧ S z < z
  zero : ∀ z, z ≤ k → S z = 0
theorem SK.step {g : List (List Nat)} {r k : Nat} {S : Nat → Nat} (t : Srd g r) (h : SK g r k S) (h0 : 0 < k) (hk : k < (dsr g r).1.length) {s : Nat} (hs : SemiP (dsr g r).1.length (Eg g r) (prr g r) S k s (fun v => ndd g r v ∈ inTo g g.length (ndd g r k))) :
    SK g r (k - 1) (fun i => if i = k then s else S i) := by
  have h1 := hs.done t.tr (fun v hv => mem_inTo.2 ⟨t.lt v hv.1, hv.2.2⟩) h0 hk (fun u hu hk => (h.ok u hu hk).1) (fun u hu hk => (h.ok u hu hk).2)
  refine ⟨fun z hz hzK => ?_, fun z hz => ?_⟩
  · by_cases e : z = k
    · subst e; simp only [if_true]; exact h1
    · simp only [e, if_false]; exact h.ok z (by omega) hzK
  · simp only [show z ≠ k by omega, if_false]; exact h.zero z (by omega)

/-- In the midst of semis: the row of semidominators, the forest, what is kept. -/
structure SM (w4 wr : World) (base ps bf pa pl K : Nat) (S : Nat → Nat) (A : Nat → Int) (L : Nat → Nat) : Prop where
  row : RowAt wr base ps K 3 (num S)
  fo : ForAt wr base bf pa pl K A L
  keep : Keeps [ps, pa, pl] w4 wr
  ne1 : ps ≠ pa
  ne2 : ps ≠ pl
theorem SM.quiet {w4 wr wy : World} {base ps bf pa pl K : Nat} {S : Nat → Nat} {A : Nat → Int} {L : Nat → Nat} (h : SM w4 wr base ps bf pa pl K S A L) (k : Keeps [] wr wy) : SM w4 wy base ps bf pa pl K S A L :=
  ⟨h.row.kept k (by simp), h.fo.quiet k, h.keep.quiet k, h.ne1, h.ne2⟩
theorem SM.set {w4 wr : World} {base ps bf pa pl K : Nat} {S : Nat → Nat} {A : Nat → Int} {L : Nat → Nat} (h : SM w4 wr base ps bf pa pl K S A L) (k v : Nat) : SM w4 (wr.setCell ⟨ps, k, none⟩ (.int .i64 ((v : Nat) : Int))) base ps bf pa pl K (fun i => if i = k then v else S i) A L := by
  have kk : Keeps [ps] wr (wr.setCell ⟨ps, k, none⟩ (.int .i64 ((v : Nat) : Int))) := Keeps.setCell _ _ _ _ (by simp)
  exact ⟨num_put h.row k v, h.fo.kept kk (by simp; exact fun e => (h.fo.st.ne_row h.row (by decide)) e) (by simp; exact fun e => h.ne1 e.symm) (by simp; exact fun e => h.ne2 e.symm), h.keep.step (kk.mono (by simp)), h.ne1, h.ne2⟩
theorem SM.call {w4 wr wy : World} {base ps bf pa pl K : Nat} {S : Nat → Nat} {A A' : Nat → Int} {L L' : Nat → Nat} (h : SM w4 wr base ps bf pa pl K S A L) (hf : ForAt wy base bf pa pl K A' L') (k : Keeps [pa, pl] wr wy) : SM w4 wy base ps bf pa pl K S A' L' :=
  ⟨h.row.kept k (by simp; exact ⟨h.ne1, h.ne2⟩), hf, h.keep.step (k.mono (fun x hx => List.mem_cons_of_mem _ hx)), h.ne1, h.ne2⟩
theorem SM.congr {w4 wr : World} {base ps bf pa pl K : Nat} {S S' : Nat → Nat} {A : Nat → Int} {L : Nat → Nat} (h : SM w4 wr base ps bf pa pl K S A L) (e : ∀ i, S i = S' i) : SM w4 wr base ps bf pa pl K S' A L := by
  have : S = S' := funext e
  rw [← this]; exact h

set_option maxRecDepth 20000 in
set_option maxHeartbeats 8000000 in
theorem semis_any (g : List (List Nat)) (hs : Sm g) (r : Nat) (ht : Srd g r) (B base b pp : Nat) (a : Option Addr) (cap : Nat) (vn vp : Value) (w : World) (hG : GAt w B a g) (hBw : B ≤ w.heap.size) (h : VSt w base b pp g.length a cap vn vp (dsr g r)) :
    Calls Tryd.prog 40 #[.pointer (some ⟨b, 0, none⟩)] w fun e w' => ∃ ps S, e = .returned (.slice (some ⟨ps, 0, none⟩) (dsr g r).1.length (dsr g r).1.length) ∧ RowAt w' w.heap.size ps (dsr g r).1.length 3 (num S) ∧ SK g r 0 S ∧ Keeps [] w w' := by
  have HV := hid h
  have HT := hid ht
  have HS := hid hs
  have HTn := hid (fun w9 (k : Keeps [] w w9) => turn_any g hs a cap B w9 (hG.quiet k) (Nat.le_trans hBw k.size))
  have hg6 := hs.len
  have hK6 := ht.len6 hs.len
  have hK1 := ht.tr.pos
  have HNF := hid (fun w9 => newForest_any (dsr g r).1.length hK6 w9)
  obtain ⟨an, cn, hvn, hnn, hcn, _⟩ := ownsRow_nat h.no
  obtain ⟨ap, cp, hvp, hnp, hcp, _⟩ := ownsRow_nat h.pa
  have HNN := hid hnn
  have HNP := hid hnp
  have c0 := h.st.cell 0
  have c1 := h.st.cell 1
  have c3 := h.st.cell 3
  have hbl := h.st.lt
  subst hvn hvp
  have hpl2 : (dsr g r).2.length = (dsr g r).1.length := ht.len.symm
  rw [hpl2] at HV
  obtain ⟨K, hKe⟩ : ∃ K, (dsr g r).1.length = K := ⟨_, rfl⟩
  have HK := hid hKe
  rw [hKe] at c3 hK6 hK1 HNF HV ⊢
  obtain ⟨N, hNe⟩ : ∃ N, g.length = N := ⟨_, rfl⟩
  have HN := hid hNe
  rw [hNe] at c0 c1 hg6 HTn HV
  clear h ht hs hG hnn hnp hcn hcp hKe hNe hpl2
  go_enter Tryd.func40, Tryd.ntmps40
  go_wp2_with fail
  refine (HTn.out w (Keeps.refl _ _)).mono ?_
  rintro e w1 ⟨p1, vs1, rfl, ho1, k1⟩
  have k2 : Keeps [] w1 (w1.alloc (.cells #[.int .i64 (N : Int), .slice (some ⟨p1, 0, none⟩) N N] 27)) := Keeps.alloc _ _ _
  have T2 := TwoAt.new w1 (.int .i64 (N : Int)) (.slice (some ⟨p1, 0, none⟩) N N)
  have HGB := ho1.graph.quiet k2
  have k02 := k1.quiet k2
  have hsz2 : (w1.alloc (.cells #[.int .i64 (N : Int), .slice (some ⟨p1, 0, none⟩) N N] 27)).heap.size = w1.heap.size + 1 := by simp
  have e3 : (w1.alloc (.cells #[.int .i64 (N : Int), .slice (some ⟨p1, 0, none⟩) N N] 27)).cell? ⟨b, 3, none⟩ = some (.slice an K cn) := (HV.out.quiet k02).st.cell 3
  clear ho1 HTn
  go_upto_region 2 with fail
  generalize w1.alloc (.cells #[.int .i64 (N : Int), .slice (some ⟨p1, 0, none⟩) N N] 27) = w2 at k2 T2 HGB k02 hsz2 e3 ⊢
  generalize w1.heap.size = bb at T2 HGB hsz2 ⊢
  have hbb2 : bb < w2.heap.size := by omega
  clear hsz2
  have hww : w2.heap.size ≤ w2.heap.size := Nat.le_refl _
  go_upto_region 3 with (at_make; go_must (refine wpList_make_full _ rfl _ _ 23 rfl w2.heap.size 3 Tryd.t3 (.int .i64 0) 1 under_ints info_int zero_int size_int .i64 .i64 _ _ K rfl rfl rfl rfl (by rw [bytes_int]; omega) (by unfold maxLen; omega) hww ?_; intro w3 hown3 hgrow3))
  have k3 : Keeps [] w2 w3 := Keeps.grown [] hgrow3 (by simp)
  have R3 : RowAt w3 w2.heap.size w2.heap.size K 3 (num fun _ => 0) := (RowAt.made hown3 rfl).congr (fun i _ => rfl)
  have k03 := k02.quiet k3
  have e3' : w3.cell? ⟨b, 3, none⟩ = some (.slice an K cn) := (HV.out.quiet k03).st.cell 3
  clear hown3 hgrow3 e3
  go_wp2_with fail
  refine (HNF.out w3).mono ?_
  rintro e w4 ⟨bf, pa, pl, rfl, hf4, k4, hbf⟩
  have k04 := k03.quiet k4
  have R4 := R3.kept k4 (by simp)
  have hps : w2.heap.size < w3.heap.size := R3.lt.2
  have hpa := hf4.ab.lt.1
  have hpl := hf4.lo.lt.1
  have hw04 := k02.size
  have M4 : Box (SM w4 w4 w.heap.size w2.heap.size bf pa pl K (fun _ => 0) (fun i => if i < K then -1 else 0) (fun i => if i < K then i else 0)) := hid ⟨R4.base hw04, ⟨hf4.st, hf4.ab.base (by omega), hf4.lo.base (by omega), hf4.ne⟩, Keeps.refl _ _, by omega, by omega⟩
  have F4 : Box (Fo K (prr g r) (fun _ => 0) (K - 1) (fun i => if i < K then -1 else 0) (fun i => if i < K then i else 0)) := hid ⟨fun x hx hxK => ⟨if_pos hxK, if_pos hxK⟩, fun x h1 h2 => by omega⟩
  have S4 : Box (SK g r (K - 1) (fun _ => 0)) := hid ⟨fun z h1 h2 => by rw [HK.out] at h2; omega, fun _ _ => rfl⟩
  have T4 : Box (TwoAt w4 bb (.int .i64 (N : Int)) (.slice (some ⟨p1, 0, none⟩) N N)) := hid ((T2.kept k3 (by simp)).kept k4 (by simp))
  have G4 : Box (GAt w4 bb (some ⟨p1, 0, none⟩) (turnG g)) := hid (by
    have := (HGB.quiet k3).quiet k4
    unfold turnG
    rw [HN.out]
    exact this)
  have V4 := hid (HV.out.quiet k04)
  have K04 := hid k04
  obtain ⟨ps, hpse⟩ : ∃ ps, w2.heap.size = ps := ⟨_, rfl⟩
  rw [hpse] at M4 ⊢
  have hbbps : bb < ps := by omega
  have hpapl : ps < pa ∧ ps < pl := by omega
  have c3' := V4.out.st.cell 3
  have hwsz : w.heap.size ≤ ps := by omega
  clear k1 k2 T2 HGB k02 hbb2 R3 R4 k03 e3' hf4 k4 hbf HNF hps hpa hpl hw04 hpse k3 k04 hww c0 c1 c3
  go_wp2_with fail
  go_loopw [6] (fun i wr => ∃ (k : Nat) (S : Nat → Nat) (A : Nat → Int) (L : Nat → Nat), i = .int .i64 (k : Int) ∧ k < K ∧ Box (SM w4 wr w.heap.size ps bf pa pl K S A L) ∧ Box (Fo K (prr g r) S k A L) ∧ Box (SK g r k S)) (fun i _ => (intOf i).toNat)
  case atStart => exact ⟨K - 1, _, _, _, by go_num, by omega, M4, F4, S4⟩
  case round =>
    clear M4 F4 S4 c3'
    obtain ⟨k, S, A, L, rfl, hk, HM, HF, HSK⟩ := hrel
    by_cases h0 : 0 < k
    · have h0' : (0 : Int) < (k : Int) := by omega
      have hk' : (k : Int) < (K : Int) := by omega
      have HW := hid (K04.out.fresh HM.out.keep (fun x hx => by simp at hx; omega))
      have e4 := (HV.out.quiet HW.out).st.cell 4
      have e3 := (HV.out.quiet HW.out).st.cell 3
      obtain ⟨bp, op, rfl, hcp⟩ := (HNP.out.kept HW.out (by simp)).at (k := k) (by rw [← HT.out.len, HK.out]; exact hk)
      have hcp' : wr.cell? ⟨bp, op + k, none⟩ = some (.int .i64 ((prr g r k : Nat) : Int)) := hcp
      obtain ⟨bn, on, rfl, hcn⟩ := (HNN.out.kept HW.out (by simp)).at (k := k) (by rw [HK.out]; exact hk)
      have hcn' : wr.cell? ⟨bn, on + k, none⟩ = some (.int .i64 ((ndd g r k : Nat) : Int)) := hcn
      have cs := HM.out.row.cell hk
      have fs := HM.out.row.frozen k
      have M5 := hid (HM.out.set k (prr g r k))
      have W5 := hid (HW.out.fresh (Keeps.setCell [ps] wr ⟨ps, k, none⟩ (.int .i64 ((prr g r k : Nat) : Int)) (by simp)) (fun x hx => by simp at hx; omega))
      have hkd : k < (dsr g r).1.length := by rw [HK.out]; exact hk
      have hxN : ndd g r k < N := by rw [← HN.out]; exact HT.out.lt k hkd
      have HP0 : Box (SemiP (dsr g r).1.length (Eg g r) (prr g r) S k (prr g r k) (fun v => ndd g r v ∈ (nb (turnG g) (ndd g r k)).take 0)) := hid ((SemiP.begin HT.out.tr h0 hkd).imp (fun v _ hv => by simp at hv))
      have HL9 : Box (nb (turnG g) (ndd g r k) = inTo g g.length (ndd g r k)) := hid (nb_turn (by rw [HN.out]; exact hxN))
      have hll : (nb (turnG g) (ndd g r k)).length ≤ 600000 := by
        rw [HL9.out]
        have h1 := deg_short HS.out (ndd g r k) g.length
        unfold deg at h1
        have := HN.out
        omega
      clear hcp hcn HM
      go_upto_region 8 with fail
      clear cs fs e4 hcp' e3 hcn'
      generalize wr.setCell ⟨ps, k, none⟩ (.int .i64 ((prr g r k : Nat) : Int)) = w5 at M5 W5 ⊢
      have HSK' : Box (∀ s, SemiP (dsr g r).1.length (Eg g r) (prr g r) S k s (fun v => ndd g r v ∈ nb (turnG g) (ndd g r k)) → SK g r (k - 1) (fun i => if i = k then s else S i)) := hid (fun s hs => HSK.out.step HT.out h0 hkd (by rw [← HL9.out]; exact hs))
      have e3 := (HV.out.quiet W5.out).st.cell 3
      obtain ⟨bn2, on2, heq, hcn⟩ := (HNN.out.kept W5.out (by simp)).at (k := k) (by rw [HK.out]; exact hk)
      have hcn' : w5.cell? ⟨bn2, on2 + k, none⟩ = some (.int .i64 ((ndd g r k : Nat) : Int)) := hcn
      simp only [Option.some.injEq, Addr.mk.injEq, and_true] at heq
      obtain ⟨rfl, rfl⟩ := heq
      have hb1 := (T4.out.kept M5.out.keep (by simp; omega)).c1
      have hdn : Box (∀ v, v ∈ nb (turnG g) (ndd g r k) → v < N) := hid (fun v hv => by
        have := turn_ok g _ v hv
        rw [turnG_len, HN.out] at this
        exact this)
      obtain ⟨bg, og, ai, ci, heq2, hcl, hnl⟩ := (G4.out.kept M5.out.keep (fun x hx => by simp at hx; omega)).at (k := ndd g r k) (by rw [turnG_len, HN.out]; exact hxN)
      simp only [Option.some.injEq, Addr.mk.injEq, and_true] at heq2
      obtain ⟨rfl, rfl⟩ := heq2
      rw [Nat.zero_add] at hcl
      have HNL := hid hnl
      have HED : Box (∀ v, v < (dsr g r).1.length → ndd g r v ∈ nb (turnG g) (ndd g r k) → Eg g r v k) := hid (fun v hv hm => ⟨hv, hkd, (by rw [HL9.out] at hm; exact (mem_inTo.1 hm).2)⟩)
      clear hcn hnl HL9 hkd
      generalize nb (turnG g) (ndd g r k) = l at HP0 hcl HNL hll HSK' hdn HED
      generalize ndd g r k = x at hxN hcn' hcl
      have hx' : (x : Int) < (N : Int) := by omega
      have hx6 : x < 600 := by omega
      go_quiet (fail)
      have M6 := hid (M5.out.quiet (Keeps.drewN [] _ nq))
      have NL6 := hid (HNL.out.kept (Keeps.drewN [] w5 nq) (by simp))
      clear hcl hcn' hb1 e3 M5 HNL W5
      generalize w5.drewN nq = w6 at M6 NL6 ⊢
      go_wp2_with fail
      go_loopw [58] (fun v wr2 => ∃ (i s : Nat) (A2 : Nat → Int) (L2 : Nat → Nat), v = .int .i64 (i : Int) ∧ i ≤ l.length ∧ Box (Keeps [ps, pa, pl] w6 wr2) ∧ Box (SM w4 wr2 w.heap.size ps bf pa pl K (fun j => if j = k then s else S j) A2 L2) ∧ Box (Fo K (prr g r) S k A2 L2) ∧ Box (SemiP (dsr g r).1.length (Eg g r) (prr g r) S k s (fun v => ndd g r v ∈ l.take i))) (fun v _ => l.length - (intOf v).toNat)
      case atStart => exact ⟨0, _, _, _, rfl, by omega, hid (Keeps.refl _ _), M6, HF, HP0⟩
      case round =>
        clear M6 HP0 HF
        obtain ⟨i, s, A2, L2, rfl, hi, HK6, HM2, HF2, HP2⟩ := hrel
        have HW2 := hid (K04.out.fresh HM2.out.keep (fun x hx => by simp at hx; omega))
        by_cases hil : i < l.length
        · obtain ⟨bi, oi, rfl, hci⟩ := (NL6.out.kept HK6.out (fun x hx => by simp at hx; omega)).at hil
          obtain ⟨n, hn⟩ : ∃ n, l.getD i 0 = n := ⟨_, rfl⟩
          have hnN : n < N := by rw [← hn]; exact hdn.out _ (getD_mem l i 0 hil)
          have hnl : n ∈ l := by rw [← hn]; exact getD_mem l i 0 hil
          have htk := hid (take_snoc l i 0 hil)
          rw [hn] at hci htk
          have e2 := (HV.out.quiet HW2.out).st.cell 2
          have cpl := (HV.out.quiet HW2.out).pl.cell hnN
          unfold numI at cpl
          have hnN' : (n : Int) < (N : Int) := by omega
          have hn6 : n < 600 := by omega
          have hil' : (i : Int) < (l.length : Int) := by omega
          clear hn
          by_cases hin : n ∈ (dsr g r).1
          · rw [plcN_in hin] at cpl
            have hv := idx_nd hin
            generalize (dsr g r).1.idxOf n = v at cpl hv
            have hb1 : (((v : Nat) : Int) != (-1)) = true := by simp
            have hvK : v < K := by rw [← HK.out]; exact hv.1
            have HEv := hid (HED.out v hv.1 (by rw [hv.2]; exact hnl))
            have htr : Box (Tr K (Eg g r) (prr g r)) := hid (by have := HT.out.tr; rw [HK.out] at this; exact this)
            have HLE := hid (fun w9 (k9 : Keeps [] wr w9) => least_any (semi := S) (k := k) htr.out w.heap.size bf pa pl hK6 v v A2 L2 w9 (Nat.le_refl _) hvK HF2.out (HM2.out.fo.quiet k9))
            have HST : Box (∀ z, Low (prr g r) S k v z → SemiP (dsr g r).1.length (Eg g r) (prr g r) S k (min s z) (fun v => ndd g r v ∈ l.take (i + 1))) := hid (fun z hz => by
              refine (HP2.out.step HT.out.tr (fun u hu hk => (HSK.out.ok u hu hk).1) HEv.out hz).imp (fun y hy hm => ?_)
              rw [htk.out] at hm
              rcases List.mem_append.1 hm with h1 | h1
              · exact .inl h1
              · exact .inr (HT.out.inj y v hy.1 hv.1 (by rw [List.mem_singleton.1 h1, hv.2])))
            have cs := HM2.out.row.cell hk
            unfold num at cs
            simp only [if_true] at cs
            have kd : Keeps [] wr wr.drew := Keeps.drew _ _
            clear HP2 hv
            go_upto_region 12 with fail
            go_region_with (first | (go_at_call 49; refine (HLE.out _ kd).mono ?_; rintro e w7 ⟨A3, L3, z, rfl, h7, f7, o7, _, _, k7⟩; have M7 := hid ((HM2.out.quiet kd).call h7 k7); have d7 := M7.out.row.cell hk; unfold num at d7; simp only [if_true] at d7; have g7 := M7.out.row.frozen k; have F7 := hid f7; have O7 := hid o7; have K7 := hid k7; clear h7 f7 o7 k7))
            all_goals
              rw [min_nat]
              have HK7 : Box (Keeps [ps, pa, pl] w6 (w7.setCell ⟨ps, k, none⟩ (.int .i64 ((min s z : Nat) : Int)))) := hid (((HK6.out.quiet kd).step (K7.out.mono (fun x hx => List.mem_cons_of_mem _ hx))).step (Keeps.setCell _ _ _ _ (by simp)))
              have HM7 : Box (SM w4 (w7.setCell ⟨ps, k, none⟩ (.int .i64 ((min s z : Nat) : Int))) w.heap.size ps bf pa pl K (fun j => if j = k then min s z else S j) A3 L3) := hid ((M7.out.set k (min s z)).congr (fun j => by by_cases e : j = k <;> simp [e]))
              have HP7 := hid (HST.out z O7.out)
              clear HK6 HM2 HF2 HLE HST cs kd cpl e2 hci M7 d7 g7 O7 K7
              generalize w7.setCell ⟨ps, k, none⟩ (.int .i64 ((min s z : Nat) : Int)) = w8 at HK7 HM7 ⊢
              generalize min s z = s' at HM7 HP7 ⊢
              go_wp2_with fail
              go_roundw
              case rel => exact ⟨i + 1, s', A3, L3, by go_num, by omega, HK7, HM7, F7, HP7⟩
              case measure => simp [intOf]; omega
          · rw [plcN_out hin] at cpl
            have HP7 : Box (SemiP (dsr g r).1.length (Eg g r) (prr g r) S k s (fun v => ndd g r v ∈ l.take (i + 1))) := hid (HP2.out.imp (fun y hy hm => by
              rw [htk.out] at hm
              rcases List.mem_append.1 hm with h1 | h1
              · exact h1
              · exact absurd (by rw [← List.mem_singleton.1 h1]; exact nd_mem hy.1) hin))
            go_wp2_with fail
            go_roundw
            case rel => exact ⟨i + 1, s, A2, L2, by go_num, by omega, HK6, HM2, HF2, HP7⟩
            case measure => simp [intOf]; omega
        · obtain rfl : i = l.length := by omega
          rw [List.take_length] at HP2
          have hSK2 := hid (HSK'.out s HP2.out)
          have e4 := (HV.out.quiet HW2.out).st.cell 4
          obtain ⟨bp2, op2, heq, hcp⟩ := (HNP.out.kept HW2.out (by simp)).at (k := k) (by rw [← HT.out.len, HK.out]; exact hk)
          have hcp' : wr.cell? ⟨bp2, op2 + k, none⟩ = some (.int .i64 ((prr g r k : Nat) : Int)) := hcp
          simp only [Option.some.injEq, Addr.mk.injEq, and_true] at heq
          obtain ⟨rfl, rfl⟩ := heq
          have cs := HM2.out.row.cell hk
          unfold num at cs
          simp only [if_true] at cs
          have HLK := hid (fun w9 (k9 : Keeps [] wr w9) => link_any w.heap.size bf pa pl K k (prr g r k) s A2 L2 w9 (HM2.out.fo.quiet k9) hk)
          have HFK := hid (HF2.out.link (semi' := fun i => if i = k then s else S i) (by have := HT.out.tr; rw [HK.out] at this; exact this) h0 hk (fun x hx => if_neg (by omega)))
          simp only [if_true] at HFK
          clear hcp
          go_wp2_with fail
          go_region_with (first | (go_at_call 50; refine (HLK.out _ (Keeps.drew [] _)).mono ?_; rintro e w7 ⟨rfl, h7, k7⟩; have M7 := hid ((HM2.out.quiet (Keeps.drew [] _)).call h7 k7); clear h7 k7))
          all_goals
            clear HLK cs hcp' e4 HM2 HF2 HP2
            go_wp2_with fail
            go_roundw
            case rel => exact ⟨k - 1, _, _, _, by go_num, by omega, M7, HFK, hSK2⟩
            case measure => simp [intOf]; omega
    · obtain rfl : k = 0 := by omega
      go_wp2
      go_ret
      exact ⟨ps, S, rfl, HM.out.row, HSK.out, K04.out.fresh HM.out.keep (fun x hx => by simp at hx; omega)⟩
end Go.Proofs.YtlnimcpmkammfaaDoor
