/-
  Contract: dom's Up.
-/
import Derived.Test.YtlnimcpmkammfaaDoorDNear
namespace Go.Proofs.YtlnimcpmkammfaaDoor
open Go.RowKit
attribute [local go_sem ↓] Go.wp_at_zero Go.wp_at_succ

/-- Up's list when k places are written. -/
def upK (g : List (List Nat)) (r : Nat) (U : Nat → Nat) (k i : Nat) : Int := if i ∈ (dsr g r).1 ∧ (dsr g r).1.idxOf i < k then ((ndd g r (U ((dsr g r).1.idxOf i)) : Nat) : Int) else -1
theorem idx_of_nd {g : List (List Nat)} {r : Nat} (h : Srd g r) {k : Nat} (hk : k < (dsr g r).1.length) : (dsr g r).1.idxOf (ndd g r k) = k := by
  have h1 := idx_nd (nd_mem hk)
  exact h.inj _ _ h1.1 hk h1.2
theorem upK_succ {g : List (List Nat)} {r : Nat} (h : Srd g r) (U : Nat → Nat) {k : Nat} (hk : k < (dsr g r).1.length) (i : Nat) : upK g r U (k + 1) i = if i = ndd g r k then ((ndd g r (U k) : Nat) : Int) else upK g r U k i := by
  unfold upK
  by_cases e : i = ndd g r k
  · subst e
    rw [if_pos rfl, idx_of_nd h hk, if_pos ⟨nd_mem hk, by omega⟩]
  · rw [if_neg e]
    by_cases hi : i ∈ (dsr g r).1
    · have h1 := idx_nd hi
      have : (dsr g r).1.idxOf i ≠ k := fun e' => e (by rw [← h1.2, e'])
      by_cases h2 : (dsr g r).1.idxOf i < k
      · rw [if_pos ⟨hi, by omega⟩, if_pos ⟨hi, h2⟩]
      · rw [if_neg (fun q => by have := q.2; omega), if_neg (fun q => h2 q.2)]
    · rw [if_neg (fun q => hi q.1), if_neg (fun q => hi q.1)]
theorem upOf_all {g : List (List Nat)} {r : Nat} (h : Srd g r) {U : Nat → Nat} (hn : NK g r (dsr g r).1.length U) : UpOf g r (upK g r U (dsr g r).1.length) := by
  have hpos := h.tr.pos
  refine ⟨fun b _ hb => ?_, ?_, fun b _ hb hne => ?_⟩
  · unfold upK
    rw [if_neg (fun q => hb ((h.reach b).2 ⟨_, (idx_nd q.1).1, (idx_nd q.1).2⟩))]
  · have hm : r ∈ (dsr g r).1 := by have := nd_mem (g := g) (r := r) hpos; rw [h.zero] at this; exact this
    have hi : (dsr g r).1.idxOf r = 0 := by have := idx_of_nd h hpos; rw [h.zero] at this; exact this
    unfold upK
    rw [if_pos ⟨hm, by rw [hi]; exact hpos⟩, hi, hn.zero, h.zero]
  · obtain ⟨z, hz, rfl⟩ := (h.reach b).1 hb
    have hz0 : 0 < z := by
      apply Classical.byContradiction
      intro e
      exact hne (by rw [show z = 0 by omega]; exact h.zero)
    have hx := hn.done z hz0 hz hz
    have hxle := h.tr.dm_le hx.dm
    have hxK : U z < (dsr g r).1.length := by omega
    refine ⟨ndd g r (U z), ?_, fun e => hx.ne (h.inj _ _ hxK hz e), (h.dom hxK hz).2 hx.dm, fun c hc hd => ?_⟩
    · unfold upK
      rw [idx_of_nd h hz, if_pos ⟨nd_mem hz, hz⟩]
    · obtain ⟨y, hy, rfl⟩ := (h.reach c).1 hd.on
      exact (h.dom hy hxK).2 (hx.near y (fun e => hc (by rw [e])) ((h.dom hy hz).1 hd))

theorem one_cell (w : World) (x : Value) (t : TypeId) : (w.alloc (.cells #[x] t)).cell? ⟨w.heap.size, 0, none⟩ = some x := by rw [cell_of_row _ _ 0 _ _ _ (heap_alloc_new w _)]; rfl
theorem one_cell_d (w : World) (x : Value) (t : TypeId) : (w.alloc (.cells #[x] t)).drew.cell? ⟨w.heap.size, 0, none⟩ = some x := one_cell w x t

set_option maxHeartbeats 2000000 in
theorem up_out (g : List (List Nat)) (hs : Sm g) (a : Option Addr) (cap B : Nat) (n : Int) (w : World) (hG : GAt w B a g) (hn : ¬ (0 ≤ n ∧ n < (g.length : Int))) :
    Calls Tryd.prog 24 #[.agg #[.int .i64 (g.length : Int), .slice a g.length cap], .int .i64 n] w fun e w' => e = .returned (.slice none 0 0) ∧ Keeps [] w w' := by
  have hk1 : Keeps [] w (w.alloc (Obj.cells #[.int .i64 (g.length : Int), .slice a g.length cap] 27)) := Keeps.alloc _ _ _
  have HB1 := hid (BoxAt.new w (g.length : Int) a g.length cap)
  have HG1 := hid (hG.quiet hk1)
  have HC : Box (∀ w, GAt w B a g → Calls Tryd.prog 36 #[.agg #[.int .i64 (g.length : Int), .slice a g.length cap]] w fun e w' => e = .returned (.bool true) ∧ Keeps [] w w') := hid (fun w => gmay_yes g hs a cap B w)
  clear hG hs
  by_cases h0 : n < 0
  · clear hn
    have hd : decide (n < 0) = true := decide_eq_true h0
    go_enter Tryd.func24, Tryd.ntmps24
    go_wp2_with fail
    generalize w.alloc (Obj.cells #[.int .i64 (g.length : Int), .slice a g.length cap] 27) = w1 at hk1 HB1 HG1 ⊢
    refine (HC.out w1 HG1.out).mono ?_
    rintro e w2 ⟨rfl, hk2⟩
    go_wp2
    go_ret
    exact ⟨rfl, hk1.quiet hk2⟩
  · have hd : decide (n < 0) = false := decide_eq_false h0
    have hd2 : decide ((g.length : Int) ≤ n) = true := decide_eq_true (by omega)
    clear hn
    go_enter Tryd.func24, Tryd.ntmps24
    go_wp2_with fail
    generalize w.alloc (Obj.cells #[.int .i64 (g.length : Int), .slice a g.length cap] 27) = w1 at hk1 HB1 HG1 ⊢
    refine (HC.out w1 HG1.out).mono ?_
    rintro e w2 ⟨rfl, hk2⟩
    have c0 := (HB1.out.kept hk2 (by simp)).c0
    go_wp2
    go_ret
    exact ⟨rfl, hk1.quiet hk2⟩

set_option maxRecDepth 20000 in
set_option maxHeartbeats 8000000 in
theorem up_in (g : List (List Nat)) (hs : Sm g) (a : Option Addr) (cap B r : Nat) (w : World) (hG : GAt w B a g) (hB : B ≤ w.heap.size) (hr : r < g.length) :
    Calls Tryd.prog 24 #[.agg #[.int .i64 (g.length : Int), .slice a g.length cap], .int .i64 (r : Int)] w fun e w' => ∃ p U, e = .returned (.slice (some ⟨p, 0, none⟩) g.length g.length) ∧ RowAt w' w.heap.size p g.length 3 (numI U) ∧ UpOf g r U ∧ Keeps [] w w' := by
  have hk1 : Keeps [] w (w.alloc (Obj.cells #[.int .i64 (g.length : Int), .slice a g.length cap] 27)) := Keeps.alloc _ _ _
  have HB1 := hid (BoxAt.new w (g.length : Int) a g.length cap)
  have HG1 := hid (hG.quiet hk1)
  have HS := hid hs
  have HT := hid (dsr_spec g hs.ok hr)
  have hg6 := hs.len
  have HC : Box (∀ w, GAt w B a g → Calls Tryd.prog 36 #[.agg #[.int .i64 (g.length : Int), .slice a g.length cap]] w fun e w' => e = .returned (.bool true) ∧ Keeps [] w w') := hid (fun w => gmay_yes g hs a cap B w)
  have hd : decide ((r : Int) < 0) = false := decide_eq_false (by omega)
  have HVI := hid (fun base b pp w9 (h1 : B ≤ base) h2 h3 h4 => visit_any g hs B base b pp a cap h1 (g.length + 1) r 0 ([], []) (.slice none 0 0) (.slice none 0 0) w9 ⟨rfl, List.nodup_nil, fun m hm => absurd hm List.not_mem_nil⟩ List.not_mem_nil hr (Nat.lt_succ_of_le (un_le g _)) h2 h3 h4)
  have HSE := hid (fun base b pp vn vp w9 h1 h2 h3 => semis_any g hs r (dsr_spec g hs.ok hr) B base b pp a cap vn vp w9 h1 h2 h3)
  have HNE := hid (fun base b pp ps vn vp S base2 w9 h1 h2 h3 => nearest_any g hs r (dsr_spec g hs.ok hr) base b pp ps a cap vn vp S base2 w9 h1 h2 h3)
  obtain ⟨N, hN⟩ : ∃ N, g.length = N := ⟨_, rfl⟩
  have HN := hid hN
  rw [hN] at HB1 HC hr hg6 HVI HSE HNE hk1 HG1 ⊢
  have HRP := hid (fun bx w9 h1 => repeat_any (-1) bx N w9 h1 (by omega) hg6)
  have hd2 : decide ((N : Int) ≤ (r : Int)) = false := decide_eq_false (by omega)
  clear hG hs hN
  go_enter Tryd.func24, Tryd.ntmps24
  go_wp2_with fail
  generalize w.alloc (Obj.cells #[.int .i64 (N : Int), .slice a N cap] 27) = w1 at hk1 HB1 HG1 ⊢
  refine (HC.out w1 HG1.out).mono ?_
  rintro e w2 ⟨rfl, hk2⟩
  have HB2 := HB1.out.kept hk2 (by simp)
  have c0 := HB2.c0
  have c1 := HB2.c1
  have hbl := HB2.lt
  have HBX := hid HB2
  have HG2 := hid (HG1.out.quiet hk2)
  have K2 := hid (hk1.quiet hk2)
  clear HB2 HB1 HG1 hk1 hk2 HC
  go_upto_region 3 with fail
  go_cut [5] (fun t wz => ∃ b pp, t = .pointer (some ⟨b, 0, none⟩) ∧ Box (VSt wz w2.heap.size b pp N a cap (.slice none 0 0) (.slice none 0 0) ([], [])) ∧ Box (Keeps [] w2 wz))
  case first =>
    go_region_with (first | (go_at_call 37; refine (HRP.out w2.heap.size _ (by first | exact one_cell _ _ _ | exact one_cell_d _ _ _)).mono ?_; rintro e w3 ⟨pp, rfl, h3, k3⟩; have kq : Keeps [] w2 w3 := ((Keeps.alloc [] w2 (Obj.cells #[.int .i64 (-1)] 3)).quiet (Keeps.drew [] _)).quiet k3; have q3 := HBX.out.kept kq (by simp); have d0 := q3.c0; have d1 := q3.c1; have R3 : Box (RowAt w3 w2.heap.size pp N 3 (fun _ => .int .i64 (-1))) := hid (h3.base (by simp)); clear h3 q3 k3))
    all_goals
      go_wp2_with fail
      go_meet
      have kb := Keeps.alloc [] w3 (Obj.cells #[.int .i64 (N : Int), .slice a N cap, .slice (some ⟨pp, 0, none⟩) N N, .slice none 0 0, .slice none 0 0] 67)
      exact ⟨w3.heap.size, pp, rfl, hid ⟨StAt.new w3 _ _, kq.size, (R3.out.kept kb (by simp)).congr (fun i _ => rfl), nil_row _ _, nil_row _ _, by simp [Value.ownBlock], by simp [Value.ownBlock], by simp [Value.ownBlock]⟩, hid (kq.quiet kb)⟩
  case rest =>
    obtain ⟨b, pp, rfl, HV, HK⟩ := hcut
    have hB2 : B ≤ w2.heap.size := Nat.le_trans hB K2.out.size
    clear c0 c1
    go_wp2_with fail
    refine (HVI.out w2.heap.size b pp wc hB2 HK.out.size (HG2.out.quiet HK.out) HV.out).mono ?_
    rintro e w4 ⟨rfl, vn, vp, h4, kb4⟩
    have V4 : Box (VSt w4 w2.heap.size b pp N a cap vn vp (dsr g r)) := hid (by rw [← HN.out] at h4 ⊢; exact h4)
    obtain ⟨L4, k4, hL4⟩ := range_keeps kb4
    have hB4 := HBX.out.kept (HK.out.fresh k4 hL4) (by simp)
    have c0 := hB4.c0
    have hsz4 : w2.heap.size ≤ w4.heap.size := Nat.le_trans HK.out.size kb4.size
    have K4 := hid (K2.out.quiet (HK.out.fresh k4 hL4))
    have K4s := hid K4.out.size
    have G4 := hid (HG2.out.quiet (HK.out.fresh k4 hL4))
    have ka : Keeps [] w4 (w4.alloc (Obj.cells #[.int .i64 (-1)] 3)) := Keeps.alloc _ _ _
    have hoc := one_cell w4 (.int .i64 (-1)) 3
    have c0a := (hB4.kept ka (by simp)).c0
    clear h4 kb4 k4 hL4 HV HK HVI hB4
    have hlt0 : w.heap.size < w4.heap.size := by omega
    go_wp2_with fail
    refine (HRP.out _ _ hoc).mono ?_
    rintro e w5 ⟨pu, rfl, h5, k5⟩
    have k45 := ka.quiet k5
    have R5 := hid (h5.base (base' := w4.heap.size) (by simp))
    have V5 := hid (V4.out.quiet k45)
    have G5 := hid (G4.out.quiet k45)
    have K5 := hid (K4.out.quiet k45)
    have hB5 : B ≤ w5.heap.size := Nat.le_trans hB K5.out.size
    have K45 := hid k45
    clear h5 ka k5 hoc c0a c0 G4 K4 k45 HRP
    go_wp2_with fail
    refine (HSE.out w2.heap.size b pp vn vp w5 G5.out hB5 V5.out).mono ?_
    rintro e w6 ⟨ps, S, rfl, h6, s6, k6⟩
    have V6 := hid (V5.out.quiet k6)
    have R6 := hid (R5.out.kept k6 (by simp))
    have H6 := hid h6
    have S6 := hid s6
    have K6 := hid (K5.out.quiet k6)
    have K46 := hid (K45.out.quiet k6)
    clear h6 s6 V5 R5 G5 K5 k6 HSE
    go_wp2_with fail
    refine (HNE.out w2.heap.size b pp ps vn vp S _ w6 V6.out H6.out S6.out).mono ?_
    rintro e w7 ⟨pn, capn, U, rfl, h7, n7, k7⟩
    have R7 : Box (RowAt w7 w4.heap.size pu N 3 (numI (upK g r U 0))) := hid ((R6.out.kept k7 (by simp)).congr (fun i _ => by unfold numI upK; rw [if_neg (by omega)]))
    have hpn := h7.lt.1
    have hpu := R6.out.lt
    have H7 := hid h7
    have N7 := hid n7
    have K7 := hid (K6.out.quiet k7)
    have K47 := hid (K46.out.quiet k7)
    obtain ⟨an, cn, hvn, hnn, _, _⟩ := ownsRow_nat V4.out.no
    have HNN := hid hnn
    have hK6 := HT.out.len6 HS.out.len
    have hK1 := HT.out.tr.pos
    subst hvn
    obtain ⟨K, hKe⟩ : ∃ K, (dsr g r).1.length = K := ⟨_, rfl⟩
    have HK := hid hKe
    rw [hKe] at H7 hK6 hK1 V4 ⊢
    clear h7 n7 k7 hnn HNE V6 H6 S6 K6 R6 K46 K45
    go_wp2_with fail
    go_loopw [41] (fun i wr => ∃ k : Nat, i = .int .i64 (k : Int) ∧ k ≤ K ∧ Box (RowAt wr w4.heap.size pu N 3 (numI (upK g r U k))) ∧ Box (Keeps [pu] w7 wr)) (fun i _ => K - (intOf i).toNat)
    case atStart => exact ⟨0, rfl, by omega, R7, hid (Keeps.refl _ _)⟩
    case round =>
      clear R7
      obtain ⟨k, rfl, hk, HR, HKW⟩ := hrel
      have kw := K47.out.fresh HKW.out (fun x hx => by simp at hx; omega)
      by_cases hlt : k < K
      · have hkd : k < (dsr g r).1.length := by rw [HK.out]; exact hlt
        have hUk : U k < K := by
          by_cases h0 : k = 0
          · rw [h0, N7.out.zero]; exact hK1
          · have h1 := N7.out.done k (by omega) hkd hkd
            have h2 := HT.out.tr.dm_le h1.dm
            omega
        have e3 := (V4.out.quiet kw).st.cell 3
        obtain ⟨bn, on, rfl, hcn⟩ := (HNN.out.kept kw (by simp)).at (k := k) hkd
        obtain ⟨bn2, on2, heq, hcn2⟩ := (HNN.out.kept kw (by simp)).at (k := U k) (by rw [HK.out]; exact hUk)
        simp only [Option.some.injEq, Addr.mk.injEq, and_true] at heq
        obtain ⟨rfl, rfl⟩ := heq
        have hcn' : wr.cell? ⟨bn, on + k, none⟩ = some (.int .i64 ((ndd g r k : Nat) : Int)) := hcn
        have hcn2' : wr.cell? ⟨bn, on + U k, none⟩ = some (.int .i64 ((ndd g r (U k) : Nat) : Int)) := hcn2
        have cab := (H7.out.kept HKW.out (by simp; omega)).cell hlt
        unfold num at cab
        have hxN : ndd g r k < N := by rw [← HN.out]; exact HT.out.lt k hkd
        have cu := HR.out.cell hxN
        have fu := HR.out.frozen (ndd g r k)
        have HR2 : Box (RowAt (wr.setCell ⟨pu, ndd g r k, none⟩ (.int .i64 ((ndd g r (U k) : Nat) : Int))) w4.heap.size pu N 3 (numI (upK g r U (k + 1)))) := hid ((numI_put HR.out (ndd g r k) ((ndd g r (U k) : Nat) : Int)).congr (fun i _ => by unfold numI; rw [upK_succ HT.out U hkd]))
        have HK2 := hid (HKW.out.step (Keeps.setCell [pu] wr ⟨pu, ndd g r k, none⟩ (.int .i64 ((ndd g r (U k) : Nat) : Int)) (by simp)))
        clear hcn hcn2 HR HKW kw hkd
        have hlt' : (k : Int) < (K : Int) := by omega
        have hUk' : (U k : Int) < (K : Int) := by omega
        generalize ndd g r (U k) = y at hcn2' HR2 HK2
        generalize ndd g r k = x at hcn' hxN cu fu HR2 HK2
        generalize U k = u at hUk hUk' hcn2' cab
        have hxN' : (x : Int) < (N : Int) := by omega
        have hx6 : x < 600 := by omega
        have hu6 : u < 600 := by omega
        go_wp2_with fail
        go_region
        have HR3 := hid (HR2.out.kept (Keeps.drew [] _) (by simp))
        have HK3 := hid (HK2.out.quiet (Keeps.drew [] _))
        clear HR2 HK2
        generalize (wr.setCell ⟨pu, x, none⟩ (.int .i64 (y : Int))).drew = w9 at HR3 HK3 ⊢
        go_wp2_with fail
        go_roundw
        case rel => exact ⟨k + 1, by go_num, by omega, HR3, HK3⟩
        case measure => simp [intOf]; omega
      · obtain rfl : k = K := by omega
        go_wp2
        go_ret
        refine ⟨pu, upK g r U k, rfl, HR.out.base K4s.out, ?_, K7.out.fresh HKW.out (fun x hx => by simp at hx; omega)⟩
        rw [← HK.out]
        exact upOf_all HT.out N7.out
end Go.Proofs.YtlnimcpmkammfaaDoor
