/-
  AssignDiamond: the walk.
-/
import Derived.Test.YtmebkeidpklcbaaDoorZYDiK
import Derived.Deep.AppendLies
import Derived.Deep.DeepCutAuto
import Derived.Deep.RegionLaw
namespace Go.Proofs.YtmebkeidpklcbaaDoor
open Go.RowKit

set_option maxRecDepth 20000 in
set_option maxHeartbeats 8000000 in
theorem di_walk (la : Option Addr) (lc : Nat) (ll : List Int) (ra : Option Addr) (rc : Nat) (rl : List Int) (w : World) (hg : Glob w) (hT : TabAt w) (hl : IntsAt w la ll) (hr : IntsAt w ra rl) :
    Calls Tryd.prog 6 #[.slice la ll.length lc, .slice ra rl.length rc] w fun e w' => e = .returned (.bool true) ∧ Keeps [] w w' := by
  have HG := hid hg
  have HT := hid hT
  have HB := hid (begun11_any w hg hT)
  have H1 := hid fun (w' : World) => one_any w'
  have HL := hid hl
  have HR := hid hr
  clear hg hT hl hr
  go_enter Tryd.func6, Tryd.ntmps6
  go_wp2_with fail
  refine HB.out.mono ?_
  rintro e w1 ⟨rfl, k1⟩
  have K1 := hid k1
  clear HB k1
  go_wp2_with fail
  refine (H1.out _).mono ?_
  rintro e w2 ⟨rfl, o2, k2⟩
  have O2 := hid (OF.of o2)
  have K2 := hid (K1.out.quiet k2)
  have HW : Box (w.heap.size ≤ w1.heap.size) := hid K1.out.size
  have hlt := heap_lt o2.h5
  obtain ⟨n, hn⟩ : ∃ n, n = w1.heap.size := ⟨_, rfl⟩
  rw [← hn] at O2 hlt HW ⊢
  clear o2 k2 hn K1 H1
  have p4 := hcell O2.out.h5 4
  go_upto_region 7 with fail
  have ka := Keeps.alloc [] w2 (.cells #[.bool false, .bool false, .bool false, .bool false, .bool false] 60)
  have kb := Keeps.alloc [] (w2.alloc (.cells #[.bool false, .bool false, .bool false, .bool false, .bool false] 60)) (.cells #[.bool false, .bool false, .bool false, .bool false, .bool false] 60)
  have O3 := hid (O2.out.quiet (ka.quiet kb))
  have K3 := hid (K2.out.quiet (ka.quiet kb))
  have MA := hid (keep_heap (heap_new w2 (.cells #[.bool false, .bool false, .bool false, .bool false, .bool false] 60)) kb)
  have MB := hid (heap_new (w2.alloc (.cells #[.bool false, .bool false, .bool false, .bool false, .bool false] 60)) (.cells #[.bool false, .bool false, .bool false, .bool false, .bool false] 60))
  rw [World.size_alloc] at MB
  have hab : n + 5 < w2.heap.size := hlt
  clear ka kb p4 O2 K2 hlt
  generalize (w2.alloc (.cells #[.bool false, .bool false, .bool false, .bool false, .bool false] 60)).alloc (.cells #[.bool false, .bool false, .bool false, .bool false, .bool false] 60) = W3 at *
  generalize w2.heap.size = ab at *
  have hbb : ab + 1 < W3.heap.size := heap_lt MB.out
  have ka := Keeps.alloc [] W3 (.cells #[.int .i64 0, .int .i64 0, .int .i64 0, .int .i64 0, .int .i64 0, .int .i64 0, .int .i64 0, .int .i64 0, .int .i64 0, .int .i64 0, .int .i64 0, .int .i64 0] 70)
  have f1 := cell_stays ka (hcell O3.out.h4 1)
  have z1 := hfrozen (keep_heap O3.out.h4 ka) 1
  have hmk : ∀ w, (Instr.makeSlice 36 (.int .i64 6) (.int .i64 6)).run Tryd.prog w = .ok (.slice (some ⟨w.heap.size, 0, none⟩) 6 6) (w.alloc (.cells #[.int .i64 0, .int .i64 0, .int .i64 0, .int .i64 0, .int .i64 0, .int .i64 0, .int .i64 0, .int .i64 0, .int .i64 0, .int .i64 0, .int .i64 0, .int .i64 0] 70)) := fun w => by kernel_rfl
  go_upto_region 8 with fail
  have kk : Keeps [n + 4] (W3.alloc (.cells #[.int .i64 0, .int .i64 0, .int .i64 0, .int .i64 0, .int .i64 0, .int .i64 0, .int .i64 0, .int .i64 0, .int .i64 0, .int .i64 0, .int .i64 0, .int .i64 0] 70)) ((W3.alloc (.cells #[.int .i64 0, .int .i64 0, .int .i64 0, .int .i64 0, .int .i64 0, .int .i64 0, .int .i64 0, .int .i64 0, .int .i64 0, .int .i64 0, .int .i64 0, .int .i64 0] 70)).setCell ⟨n + 4, 1, none⟩ (.slice (some ⟨W3.heap.size, 0, none⟩) 6 6)) := Keeps.setCell _ _ _ _ (by simp)
  have O4 := hid ((O3.out.quiet ka).regs (.slice (some ⟨W3.heap.size, 0, none⟩) 6 6))
  have K4 := hid ((K3.out.quiet ka).fresh kk (fun x hx => by have := HW.out; simp at hx; omega))
  have FB : ∀ b cs (T : TypeId), b ≠ n + 4 → (W3.alloc (.cells #[.int .i64 0, .int .i64 0, .int .i64 0, .int .i64 0, .int .i64 0, .int .i64 0, .int .i64 0, .int .i64 0, .int .i64 0, .int .i64 0, .int .i64 0, .int .i64 0] 70)).heap[b]? = some (.cells cs T (0, 0)) → ((W3.alloc (.cells #[.int .i64 0, .int .i64 0, .int .i64 0, .int .i64 0, .int .i64 0, .int .i64 0, .int .i64 0, .int .i64 0, .int .i64 0, .int .i64 0, .int .i64 0, .int .i64 0] 70)).setCell ⟨n + 4, 1, none⟩ (.slice (some ⟨W3.heap.size, 0, none⟩) 6 6)).heap[b]? = some (.cells cs T (0, 0)) := fun b cs T h1 h => by
    rw [kk.block b (heap_lt h) (by simp; omega)]
    exact h
  have R4 := hid (FB _ _ _ (by omega) (heap_new W3 (.cells #[.int .i64 0, .int .i64 0, .int .i64 0, .int .i64 0, .int .i64 0, .int .i64 0, .int .i64 0, .int .i64 0, .int .i64 0, .int .i64 0, .int .i64 0, .int .i64 0] 70)))
  have MA4 := hid (FB _ _ _ (by omega) (keep_heap MA.out ka))
  have MB4 := hid (FB _ _ _ (by omega) (keep_heap MB.out ka))
  clear FB kk ka f1 z1 hmk O3 K3 MA MB
  generalize (W3.alloc (.cells #[.int .i64 0, .int .i64 0, .int .i64 0, .int .i64 0, .int .i64 0, .int .i64 0, .int .i64 0, .int .i64 0, .int .i64 0, .int .i64 0, .int .i64 0, .int .i64 0] 70)).setCell ⟨n + 4, 1, none⟩ (.slice (some ⟨W3.heap.size, 0, none⟩) 6 6) = W4 at *
  generalize W3.heap.size = r at *
  have hrr : r < W4.heap.size := heap_lt R4.out
  go_upto_region 9 with fail
  have ka := Keeps.alloc [] W4 (.cells #[.slice none 0 0, .int .i64 0, .int .i64 0, .int .i64 0, .int .i64 0] 63)
  have kb := Keeps.alloc [] (W4.alloc (.cells #[.slice none 0 0, .int .i64 0, .int .i64 0, .int .i64 0, .int .i64 0] 63)) (.cells #[.slice none 0 0, .int .i64 0, .int .i64 0, .int .i64 0, .int .i64 0] 63)
  have O5 := hid (O4.out.quiet (ka.quiet kb))
  have K5 := hid (K4.out.quiet (ka.quiet kb))
  have R5 := hid (keep_heap R4.out (ka.quiet kb))
  have BL5 := hid (keep_heap (heap_new W4 (.cells #[.slice none 0 0, .int .i64 0, .int .i64 0, .int .i64 0, .int .i64 0] 63)) kb)
  have BR5 := hid (heap_new (W4.alloc (.cells #[.slice none 0 0, .int .i64 0, .int .i64 0, .int .i64 0, .int .i64 0] 63)) (.cells #[.slice none 0 0, .int .i64 0, .int .i64 0, .int .i64 0, .int .i64 0] 63))
  rw [World.size_alloc] at BR5
  have MA5 := hid (keep_heap MA4.out (ka.quiet kb))
  have MB5 := hid (keep_heap MB4.out (ka.quiet kb))
  clear ka kb O4 K4 R4 MA4 MB4
  generalize (W4.alloc (.cells #[.slice none 0 0, .int .i64 0, .int .i64 0, .int .i64 0, .int .i64 0] 63)).alloc (.cells #[.slice none 0 0, .int .i64 0, .int .i64 0, .int .i64 0, .int .i64 0] 63) = W5 at *
  generalize W4.heap.size = lb at *
  have hl5 : lb + 1 < W5.heap.size := heap_lt BR5.out
  have SL0 : Box (SD W5 (lb + 2) ab lb 60 [] (.slice none 0 0) 0 0) := hid ⟨MA5.out, BL5.out, World.ownsRow_nil _ _ _ _⟩
  have SR0 : Box (SD W5 (lb + 2) (ab + 1) (lb + 1) 60 [] (.slice none 0 0) 0 0) := hid ⟨MB5.out, BR5.out, World.ownsRow_nil _ _ _ _⟩
  clear MA5 MB5 BL5 BR5
  have D0 : Box (DS w W5 n r) := hid ⟨O5.out, R5.out, K5.out⟩
  clear O5 R5 K5
  obtain ⟨LN, hLN⟩ : ∃ LN, ll.length = LN := ⟨_, rfl⟩
  have HLN := hid hLN
  obtain ⟨RN, hRN⟩ : ∃ RN, rl.length = RN := ⟨_, rfl⟩
  have HRN := hid hRN
  rw [hLN]
  rw [hRN]
  clear hLN hRN
  go_wp2_with fail
  go_loopw [12] (fun i wr => ∃ (ks : List Nat) (v : Value), ks.length ≤ LN ∧ ks.length ≤ 6 ∧ i = .int .i64 (ks.length : Int) ∧ Box (∀ k, k ∈ ks → k < 5) ∧ Box (DS w wr n r) ∧ Box (SD wr (lb + 2) (ab) (lb) 60 ks v 0 0) ∧ Box (SD wr (lb + 2) (ab + 1) (lb + 1) 60 [] (.slice none 0 0) 0 0)) (fun i _ => 6 - (intOf i).toNat)
  case atStart => exact ⟨[], _, by simp, by simp, rfl, hid (by simp), D0, SL0, SR0⟩
  case round =>
    clear D0 SL0 SR0
    obtain ⟨ks, v, h1, h6, rfl, HKS, D, SL, SR⟩ := hrel
    obtain ⟨m, hm⟩ : ∃ m, ks.length = m := ⟨_, rfl⟩
    have HM := hid hm
    rw [hm] at h1 h6 ⊢
    obtain ⟨va, vc, hv⟩ := own_formY SL.out.row
    rw [hm] at hv
    clear hm
    go_upto_region 10 with fail
    go_cut [39] (fun tt wz => tt = .bool (decide (m < LN ∧ m < 6)) ∧ wz = wr)
    case first =>
      by_cases a1 : m < LN
      · have c1 : (m : Int) < (LN : Int) := by omega
        by_cases a2 : m < 6
        · have c2 : (m : Int) < 6 := by omega
          have HD : Box (decide (m < LN ∧ m < 6) = true) := hid (decide_eq_true ⟨a1, a2⟩)
          clear a1 a2
          go_wp2_with fail
          go_meet
          exact ⟨by rw [HD.out], rfl⟩
        · have c2 : ¬ (m : Int) < 6 := by omega
          have HD : Box (decide (m < LN ∧ m < 6) = false) := hid (decide_eq_false (fun h => a2 h.2))
          clear a1 a2
          go_wp2_with fail
          go_meet
          exact ⟨by rw [HD.out], rfl⟩
      · have c1 : ¬ (m : Int) < (LN : Int) := by omega
        have HD : Box (decide (m < LN ∧ m < 6) = false) := hid (decide_eq_false (fun h => a1 h.1))
        clear a1
        go_wp2_with fail
        go_meet
        exact ⟨by rw [HD.out], rfl⟩
    case rest =>
    obtain ⟨hte, hwz⟩ := hcut
    subst hte
    have hwz' := hwz.symm
    subst hwz'
    clear hwz
    by_cases hc : m < LN ∧ m < 6
    · rw [decide_eq_true hc]
      have c1 : (m : Int) < (LN : Int) := by omega
      have c2 : (m : Int) < 6 := by omega
      have c3 : m < ll.length := by rw [HLN.out]; exact hc.1
      rcases HL.out with h0 | ⟨bz, oz, rfl, hcz⟩
      · exfalso
        rw [h0] at c3
        simp at c3
      have cz := cell_stays D.out.keep (hcz m c3)
      generalize ll.getD m 0 = z at *
      clear hcz c3
      go_upto_region 13 with fail
      obtain ⟨k, hk, hk5⟩ := fifth z
      rw [hk]
      have hk5' : (k : Int) < 5 := by omega
      have hk0' : (0 : Int) ≤ (k : Int) := by omega
      have cm : wr.cell? ⟨ab, k, none⟩ = some (.bool (mk5 ks k)) := by rw [hcell SL.out.marks k]; exact A5_get hk5
      have ym := hfrozen SL.out.marks k
      go_upto_region 14 with fail
      have hW1 : Box (wr.setCell ⟨ab, k, none⟩ (.bool true) = wr.setCell ⟨ab, k, none⟩ (.bool true)) := hid rfl
      obtain ⟨W1, hW⟩ : ∃ W1, wr.setCell ⟨ab, k, none⟩ (.bool true) = W1 := ⟨_, rfl⟩
      have kA : Keeps [ab] wr (wr.setCell ⟨ab, k, none⟩ (.bool true)) := Keeps.setCell _ _ _ _ (by simp)
      have HB1 : Box (W1.heap[lb]? = some (.cells #[v, .int .i64 0, .int .i64 0, .int .i64 0, .int .i64 0] 63 (0, 0))) := hid (by rw [← hW]; exact (heap_setCell_other _ _ _ _ (by simp; omega)).trans SL.out.blk)
      have HRW : Box (W1.ownsRow (lb + 2) 65 6 v m (iksC ks)) := hid (by
        have h9 := ownsRow_keeps SL.out.row kA (fun b hb hx => by have := own_ge SL.out.row hb; simp at hx; omega)
        rw [hW, HM.out] at h9
        exact h9)
      have HSW : Box (lb + 2 ≤ W1.heap.size) := hid (by
        have h8 := heap_lt SR.out.blk
        have h9 := kA.size
        rw [hW] at h9
        omega)
      have HWE := hid hW
      rw [hW]
      clear hW kA cm ym cz hk hW1
      subst hv
      have l0 := hcell HB1.out 0
      have HNEW : Box (∀ j u, (ikC k)[j]? = some u → (W1.alloc (.cells #[.int .i64 1, .int .i64 ((k : Int) + 1), .int .i64 0, .int .i64 0, .int .i64 0, .slice none 0 0] 65)).cell? ((⟨W1.heap.size, 0, none⟩ : Addr).add j) = some u) := hid (fun j u hu => by
        have hx := heap_new W1 (.cells #[.int .i64 1, .int .i64 ((k : Int) + 1), .int .i64 0, .int .i64 0, .int .i64 0, .slice none 0 0] 65)
        rw [Addr.add_lit, hcell hx (0 + j), Nat.zero_add, ← hu]
        exact List.getElem?_toArray ..)
      have HONE : Box (∀ u ∈ ikC k, u.oneCell' = true) := hid (List.all_eq_true.1 (rfl : List.all (ikC k) (fun u => u.oneCell') = true))
      have hsw := HSW.out
      have HBA := hid (keep_heap HB1.out (Keeps.alloc [] W1 (.cells #[.int .i64 1, .int .i64 ((k : Int) + 1), .int .i64 0, .int .i64 0, .int .i64 0, .slice none 0 0] 65)))
      have hvb : (Value.slice va m vc).ownBlock ≠ some (lb) := fun e => by have := own_ge HRW.out e; omega
      have HVB := hid hvb
      clear hvb
      go_upto_region 11 with (at_builtin; go_must (refine wpList_append_lies _ rfl _ _ 61 rfl (lb + 2) 65 Tryd.t65 (.agg #[.int .i64 0, .int .i64 0, .int .i64 0, .int .i64 0, .int .i64 0, .slice none 0 0]) 6 64 under_insY info_inY zero_inY size_inY bytes_inY rfl (by decide) (.slice va m vc) m (iksC ks) rfl (HRW.out.alloc _) ⟨W1.heap.size, 0, none⟩ 1 1 (ikC k) rfl rfl HNEW.out HONE.out (by decide) (by unfold maxLen; omega) (by omega) (by simp; omega) (W1.heap.size + 1) (by simp) ?_; intro g cap w6 hown hgrow hat hlt6; have h48 := grownY hgrow HBA.out HVB.out; have qb := hcell h48 0; have yb := hfrozen h48 0))
      rw [← HM.out] at hown
      rw [← HWE.out] at hgrow
      obtain ⟨g1, g2, -⟩ := SL.out.grow (by omega) (by omega) (by omega) hk5 hown hgrow
      rw [HM.out] at g1 g2
      have hLL : ∀ x, x ∈ (ab) :: (lb) :: (Value.slice va m vc).ownBlock.toList → n + 5 < x ∧ x ≠ r := fun x hx => by
        simp only [List.mem_cons, Option.mem_toList] at hx
        rcases hx with rfl | rfl | hx
        · omega
        · omega
        · have := own_ge HRW.out hx
          omega
      have D2 := hid (D.out.kept g2 hLL HW.out)
      have S2 := hid g1
      have T2 := hid (SR.out.kept g2 (fun hx => by
        simp only [List.mem_cons, Option.mem_toList] at hx
        rcases hx with h | h | h
        · omega
        · omega
        · have := own_ge HRW.out h
          omega) (fun hx => by
        simp only [List.mem_cons, Option.mem_toList] at hx
        rcases hx with h | h | h
        · omega
        · omega
        · have := own_ge HRW.out h
          omega) (fun b hb => by simp [Value.ownBlock] at hb))
      have KS2 : Box (∀ j, j ∈ ks ++ [k] → j < 5) := hid (fun j hj => by
        rcases List.mem_append.1 hj with h | h
        · exact HKS.out j h
        · rw [List.mem_singleton.1 h]; exact hk5)
      have hlen : (ks ++ [k]).length = m + 1 := by rw [List.length_append, HM.out]; rfl
      clear g1 g2 hLL hown hgrow h48 qb yb hlt6
      go_wp2_with fail
      go_roundw
      case rel => exact ⟨ks ++ [k], _, by rw [hlen]; omega, by rw [hlen]; omega, by rw [hlen]; go_num, KS2, D2, S2, T2⟩
      case measure => simp [intOf]; omega
    · rw [decide_eq_false hc]
      clear hc
      obtain ⟨kl, vl, HKL, SLx⟩ : ∃ (kl : List Nat) (vl : Value), Box ((∀ k, k ∈ kl → k < 5) ∧ kl.length ≤ 6) ∧ Box (SD wr (lb + 2) ab lb 60 kl vl 0 0) := ⟨ks, v, hid ⟨HKS.out, by rw [HM.out]; exact h6⟩, SL⟩
      clear SL HKS HM hv
      have SL := SLx
      clear SLx
      go_upto_region 15 with fail
      go_wp2_with fail
      go_loopw [14] (fun i wr => ∃ (ks : List Nat) (v : Value), ks.length ≤ RN ∧ ks.length ≤ 6 ∧ i = .int .i64 (ks.length : Int) ∧ Box (∀ k, k ∈ ks → k < 5) ∧ Box (DS w wr n r) ∧ Box (SD wr (lb + 2) (ab + 1) (lb + 1) 60 ks v 0 0) ∧ Box (SD wr (lb + 2) ab lb 60 kl vl 0 0) ∧ Box (∀ b, v.ownBlock = some b → vl.ownBlock ≠ some b)) (fun i _ => 6 - (intOf i).toNat)
      case atStart => exact ⟨[], _, by simp, by simp, rfl, hid (by simp), D, SR, SL, hid (by simp [Value.ownBlock])⟩
      case round =>
        clear D SL SR
        obtain ⟨ks, v, h1, h6, rfl, HKS, D, SR, SL, HDI⟩ := hrel
        obtain ⟨m, hm⟩ : ∃ m, ks.length = m := ⟨_, rfl⟩
        have HM := hid hm
        rw [hm] at h1 h6 ⊢
        obtain ⟨va, vc, hv⟩ := own_formY SR.out.row
        rw [hm] at hv
        clear hm
        go_upto_region 16 with fail
        go_cut [66] (fun tt wz => tt = .bool (decide (m < RN ∧ m < 6)) ∧ wz = wr)
        case first =>
          by_cases a1 : m < RN
          · have c1 : (m : Int) < (RN : Int) := by omega
            by_cases a2 : m < 6
            · have c2 : (m : Int) < 6 := by omega
              have HD : Box (decide (m < RN ∧ m < 6) = true) := hid (decide_eq_true ⟨a1, a2⟩)
              clear a1 a2
              go_wp2_with fail
              go_meet
              exact ⟨by rw [HD.out], rfl⟩
            · have c2 : ¬ (m : Int) < 6 := by omega
              have HD : Box (decide (m < RN ∧ m < 6) = false) := hid (decide_eq_false (fun h => a2 h.2))
              clear a1 a2
              go_wp2_with fail
              go_meet
              exact ⟨by rw [HD.out], rfl⟩
          · have c1 : ¬ (m : Int) < (RN : Int) := by omega
            have HD : Box (decide (m < RN ∧ m < 6) = false) := hid (decide_eq_false (fun h => a1 h.1))
            clear a1
            go_wp2_with fail
            go_meet
            exact ⟨by rw [HD.out], rfl⟩
        case rest =>
        obtain ⟨hte, hwz⟩ := hcut
        subst hte
        have hwz' := hwz.symm
        subst hwz'
        clear hwz
        by_cases hc : m < RN ∧ m < 6
        · rw [decide_eq_true hc]
          have c1 : (m : Int) < (RN : Int) := by omega
          have c2 : (m : Int) < 6 := by omega
          have c3 : m < rl.length := by rw [HRN.out]; exact hc.1
          rcases HR.out with h0 | ⟨bz, oz, rfl, hcz⟩
          · exfalso
            rw [h0] at c3
            simp at c3
          have cz := cell_stays D.out.keep (hcz m c3)
          generalize rl.getD m 0 = z at *
          clear hcz c3
          go_upto_region 19 with fail
          obtain ⟨k, hk, hk5⟩ := fifth z
          rw [hk]
          have hk5' : (k : Int) < 5 := by omega
          have hk0' : (0 : Int) ≤ (k : Int) := by omega
          have cm : wr.cell? ⟨ab + 1, k, none⟩ = some (.bool (mk5 ks k)) := by rw [hcell SR.out.marks k]; exact A5_get hk5
          have ym := hfrozen SR.out.marks k
          go_upto_region 20 with fail
          have hW1 : Box (wr.setCell ⟨ab + 1, k, none⟩ (.bool true) = wr.setCell ⟨ab + 1, k, none⟩ (.bool true)) := hid rfl
          obtain ⟨W1, hW⟩ : ∃ W1, wr.setCell ⟨ab + 1, k, none⟩ (.bool true) = W1 := ⟨_, rfl⟩
          have kA : Keeps [ab + 1] wr (wr.setCell ⟨ab + 1, k, none⟩ (.bool true)) := Keeps.setCell _ _ _ _ (by simp)
          have HB1 : Box (W1.heap[lb + 1]? = some (.cells #[v, .int .i64 0, .int .i64 0, .int .i64 0, .int .i64 0] 63 (0, 0))) := hid (by rw [← hW]; exact (heap_setCell_other _ _ _ _ (by simp; omega)).trans SR.out.blk)
          have HRW : Box (W1.ownsRow (lb + 2) 65 6 v m (iksC ks)) := hid (by
            have h9 := ownsRow_keeps SR.out.row kA (fun b hb hx => by have := own_ge SR.out.row hb; simp at hx; omega)
            rw [hW, HM.out] at h9
            exact h9)
          have HSW : Box (lb + 2 ≤ W1.heap.size) := hid (by
            have h8 := heap_lt SR.out.blk
            have h9 := kA.size
            rw [hW] at h9
            omega)
          have HWE := hid hW
          rw [hW]
          clear hW kA cm ym cz hk hW1
          subst hv
          have l0 := hcell HB1.out 0
          have HNEW : Box (∀ j u, (ikC k)[j]? = some u → (W1.alloc (.cells #[.int .i64 1, .int .i64 ((k : Int) + 1), .int .i64 0, .int .i64 0, .int .i64 0, .slice none 0 0] 65)).cell? ((⟨W1.heap.size, 0, none⟩ : Addr).add j) = some u) := hid (fun j u hu => by
            have hx := heap_new W1 (.cells #[.int .i64 1, .int .i64 ((k : Int) + 1), .int .i64 0, .int .i64 0, .int .i64 0, .slice none 0 0] 65)
            rw [Addr.add_lit, hcell hx (0 + j), Nat.zero_add, ← hu]
            exact List.getElem?_toArray ..)
          have HONE : Box (∀ u ∈ ikC k, u.oneCell' = true) := hid (List.all_eq_true.1 (rfl : List.all (ikC k) (fun u => u.oneCell') = true))
          have hsw := HSW.out
          have HBA := hid (keep_heap HB1.out (Keeps.alloc [] W1 (.cells #[.int .i64 1, .int .i64 ((k : Int) + 1), .int .i64 0, .int .i64 0, .int .i64 0, .slice none 0 0] 65)))
          have hvb : (Value.slice va m vc).ownBlock ≠ some (lb + 1) := fun e => by have := own_ge HRW.out e; omega
          have HVB := hid hvb
          clear hvb
          go_upto_region 17 with (at_builtin; go_must (refine wpList_append_lies _ rfl _ _ 61 rfl (lb + 2) 65 Tryd.t65 (.agg #[.int .i64 0, .int .i64 0, .int .i64 0, .int .i64 0, .int .i64 0, .slice none 0 0]) 6 64 under_insY info_inY zero_inY size_inY bytes_inY rfl (by decide) (.slice va m vc) m (iksC ks) rfl (HRW.out.alloc _) ⟨W1.heap.size, 0, none⟩ 1 1 (ikC k) rfl rfl HNEW.out HONE.out (by decide) (by unfold maxLen; omega) (by omega) (by simp; omega) (W1.heap.size + 1) (by simp) ?_; intro g cap w6 hown hgrow hat hlt6; have h48 := grownY hgrow HBA.out HVB.out; have qb := hcell h48 0; have yb := hfrozen h48 0))
          rw [← HM.out] at hown
          rw [← HWE.out] at hgrow
          obtain ⟨g1, g2, -⟩ := SR.out.grow (by omega) (by omega) (by omega) hk5 hown hgrow
          rw [HM.out] at g1 g2
          have hLL : ∀ x, x ∈ (ab + 1) :: (lb + 1) :: (Value.slice va m vc).ownBlock.toList → n + 5 < x ∧ x ≠ r := fun x hx => by
            simp only [List.mem_cons, Option.mem_toList] at hx
            rcases hx with rfl | rfl | hx
            · omega
            · omega
            · have := own_ge HRW.out hx
              omega
          have D2 := hid (D.out.kept g2 hLL HW.out)
          have S2 := hid g1
          have T2 := hid (SL.out.kept g2 (fun hx => by
            simp only [List.mem_cons, Option.mem_toList] at hx
            rcases hx with h | h | h
            · omega
            · omega
            · have := own_ge HRW.out h
              omega) (fun hx => by
            simp only [List.mem_cons, Option.mem_toList] at hx
            rcases hx with h | h | h
            · omega
            · omega
            · have := own_ge HRW.out h
              omega) (fun b hb hx => by
            simp only [List.mem_cons, Option.mem_toList] at hx
            have h9 := own_ge SL.out.row hb
            rcases hx with h | h | h
            · omega
            · omega
            · exact HDI.out b h hb))
          have DI2 : Box (∀ b, (Value.slice (some ⟨g, 0, none⟩) (m + 1) cap).ownBlock = some b → vl.ownBlock ≠ some b) := hid (fun b hb e => by
            simp [Value.ownBlock] at hb
            subst hb
            rcases hat with h | h
            · exact HDI.out _ h e
            · have h9 := own_ge SL.out.row e
              have h8 : wr.heap.size ≤ W1.heap.size := by rw [← HWE.out]; exact (Keeps.setCell [ab + 1] wr ⟨ab + 1, k, none⟩ (.bool true) (by simp)).size
              omega)
          have KS2 : Box (∀ j, j ∈ ks ++ [k] → j < 5) := hid (fun j hj => by
            rcases List.mem_append.1 hj with h | h
            · exact HKS.out j h
            · rw [List.mem_singleton.1 h]; exact hk5)
          have hlen : (ks ++ [k]).length = m + 1 := by rw [List.length_append, HM.out]; rfl
          clear g1 g2 hLL hown hgrow h48 qb yb hlt6
          go_wp2_with fail
          go_roundw
          case rel => exact ⟨ks ++ [k], _, by rw [hlen]; omega, by rw [hlen]; omega, by rw [hlen]; go_num, KS2, D2, S2, T2, DI2⟩
          case measure => simp [intOf]; omega
        · rw [decide_eq_false hc]
          clear hc
          obtain ⟨kr, vr, HKR, SRx, HDX⟩ : ∃ (kr : List Nat) (vr : Value), Box ((∀ k, k ∈ kr → k < 5) ∧ kr.length ≤ 6) ∧ Box (SD wr (lb + 2) (ab + 1) (lb + 1) 60 kr vr 0 0) ∧ Box (∀ b, vr.ownBlock = some b → vl.ownBlock ≠ some b) := ⟨ks, v, hid ⟨HKS.out, by rw [HM.out]; exact h6⟩, SR, HDI⟩
          clear SR HKS HM hv HDI
          have SR := SRx
          clear SRx
          go_upto_region 21 with fail
          have fb := hcell D.out.of.h4 2
          have b1 := hcell D.out.of.h3 1
          have y1 := hfrozen D.out.of.h3 1
          have b3 := hcell D.out.of.h3 3
          have y3 := hfrozen D.out.of.h3 3
          have b4 := hcell D.out.of.h3 4
          have y4 := hfrozen D.out.of.h3 4
          go_cut [103] (fun tt wz => Box (OF wz n (.slice (some ⟨r, 0, none⟩) 6 6) (.slice (some ⟨n + 3, 0, none⟩) 1 1) 2 1 2) ∧ Box (wz.heap[r]? = some (.cells #[.int .i64 0, .int .i64 0, .int .i64 0, .int .i64 0, .int .i64 0, .int .i64 0, .int .i64 0, .int .i64 0, .int .i64 0, .int .i64 0, .int .i64 0, .int .i64 0] 70 (0, 0))) ∧ Box (Keeps [] w wz) ∧ Box (SD wz (lb + 2) ab lb 60 kl vl 0 0) ∧ Box (SD wz (lb + 2) (ab + 1) (lb + 1) 60 kr vr 0 0))
          case first =>
            have kk : Keeps [n + 3] wr.drew (((wr.drew.setCell ⟨n + 3, 1, none⟩ (.int .i64 2)).setCell ⟨n + 3, 3, none⟩ (.int .i64 1)).setCell ⟨n + 3, 4, none⟩ (.int .i64 2)) := ((Keeps.setCell [n + 3] _ _ _ (by simp)).step (Keeps.setCell [n + 3] _ _ _ (by simp))).step (Keeps.setCell [n + 3] _ _ _ (by simp))
            have D1 := D.out.kept (Keeps.drew [] wr) (by simp) HW.out
            have FF : Box (OF (((wr.drew.setCell ⟨n + 3, 1, none⟩ (.int .i64 2)).setCell ⟨n + 3, 3, none⟩ (.int .i64 1)).setCell ⟨n + 3, 4, none⟩ (.int .i64 2)) n (.slice (some ⟨r, 0, none⟩) 6 6) (.slice (some ⟨n + 3, 0, none⟩) 1 1) 2 1 2) := hid (((D1.of.fin 2).to 1).els 2)
            have FK := hid (D1.keep.fresh kk (fun x hx => by have := HW.out; simp at hx; omega))
            have FR : Box ((((wr.drew.setCell ⟨n + 3, 1, none⟩ (.int .i64 2)).setCell ⟨n + 3, 3, none⟩ (.int .i64 1)).setCell ⟨n + 3, 4, none⟩ (.int .i64 2)).heap[r]? = some (.cells #[.int .i64 0, .int .i64 0, .int .i64 0, .int .i64 0, .int .i64 0, .int .i64 0, .int .i64 0, .int .i64 0, .int .i64 0, .int .i64 0, .int .i64 0, .int .i64 0] 70 (0, 0))) := hid (by rw [kk.block r (heap_lt D1.rr) (by simp; omega)]; exact D1.rr)
            have FL := hid ((SL.out.quiet (Keeps.drew [] wr)).kept kk (by simp; omega) (by simp; omega) (fun b hb hx => by have := own_ge SL.out.row hb; simp at hx; omega))
            have FQ := hid ((SR.out.quiet (Keeps.drew [] wr)).kept kk (by simp; omega) (by simp; omega) (fun b hb hx => by have := own_ge SR.out.row hb; simp at hx; omega))
            clear kk D1
            go_region
            all_goals
              go_wp2_with fail
              go_meet
              exact ⟨FF, FR, FK, FL, FQ⟩
          case rest =>
          clear fb b1 y1 b3 y3 b4 y4 D SL SR
          obtain ⟨O6, R6, K6, SL, SR⟩ := hcut
          have l1 := hcell SL.out.blk 1
          have x1 := hfrozen SL.out.blk 1
          have l3 := hcell SL.out.blk 3
          have x3 := hfrozen SL.out.blk 3
          go_upto_region 23 with fail
          obtain ⟨s1, kk⟩ := SL.out.ends (by omega) (by omega)
          have SL7 := hid s1
          have O7 := hid (O6.out.kept kk (fun x hx => by simp at hx; omega))
          have R7 : Box (((wc.setCell ⟨lb, 1, none⟩ (.int .i64 1)).setCell ⟨lb, 3, none⟩ (.int .i64 3)).heap[r]? = some (.cells #[.int .i64 0, .int .i64 0, .int .i64 0, .int .i64 0, .int .i64 0, .int .i64 0, .int .i64 0, .int .i64 0, .int .i64 0, .int .i64 0, .int .i64 0, .int .i64 0] 70 (0, 0))) := hid (by rw [kk.block r (heap_lt R6.out) (by simp; omega)]; exact R6.out)
          have K7 := hid (K6.out.fresh kk (fun x hx => by have := HW.out; simp at hx; omega))
          have SR7 := hid (SR.out.kept kk (by simp; omega) (by simp) (fun b hb hx => by have := own_ge SR.out.row hb; simp at hx; omega))
          clear s1 kk l1 x1 l3 x3 O6 R6 K6 SL SR
          generalize (wc.setCell ⟨lb, 1, none⟩ (.int .i64 1)).setCell ⟨lb, 3, none⟩ (.int .i64 3) = W7 at *
          have l1 := hcell SR7.out.blk 1
          have x1 := hfrozen SR7.out.blk 1
          have l3 := hcell SR7.out.blk 3
          have x3 := hfrozen SR7.out.blk 3
          go_upto_region 24 with fail
          obtain ⟨s1, kk⟩ := SR7.out.ends (by omega) (by omega)
          have SR8 := hid s1
          have O8 := hid (O7.out.kept kk (fun x hx => by simp at hx; omega))
          have R8 : Box (((W7.setCell ⟨lb + 1, 1, none⟩ (.int .i64 1)).setCell ⟨lb + 1, 3, none⟩ (.int .i64 3)).heap[r]? = some (.cells #[.int .i64 0, .int .i64 0, .int .i64 0, .int .i64 0, .int .i64 0, .int .i64 0, .int .i64 0, .int .i64 0, .int .i64 0, .int .i64 0, .int .i64 0, .int .i64 0] 70 (0, 0))) := hid (by rw [kk.block r (heap_lt R7.out) (by simp; omega)]; exact R7.out)
          have K8 := hid (K7.out.fresh kk (fun x hx => by have := HW.out; simp at hx; omega))
          have SL8 := hid (SL7.out.kept kk (by simp; omega) (by simp) (fun b hb hx => by have := own_ge SL7.out.row hb; simp at hx; omega))
          clear s1 kk l1 x1 l3 x3 O7 R7 K7 SL7 SR7
          generalize (W7.setCell ⟨lb + 1, 1, none⟩ (.int .i64 1)).setCell ⟨lb + 1, 3, none⟩ (.int .i64 3) = W8 at *
          obtain ⟨ea, ec, hvl⟩ := own_formY SL8.out.row
          obtain ⟨ga, gc, hvr⟩ := own_formY SR8.out.row
          have HVL := hid hvl
          have HVR := hid hvr
          subst hvl
          subst hvr
          have fb := hcell O8.out.h4 2
          have l0 := hcell SL8.out.blk 0
          have l1 := hcell SL8.out.blk 1
          have l2 := hcell SL8.out.blk 2
          have l3 := hcell SL8.out.blk 3
          have l4 := hcell SL8.out.blk 4
          have r0 := hcell SR8.out.blk 0
          have r1 := hcell SR8.out.blk 1
          have r2 := hcell SR8.out.blk 2
          have r3 := hcell SR8.out.blk 3
          have r4 := hcell SR8.out.blk 4
          have OWN : Box (W8.ownsRow n 63 5 (.slice (some ⟨n + 3, 0, none⟩) 1 1) 1 [.slice (some ⟨n + 2, 0, none⟩) 1 1, .int .i64 2, .int .i64 0, .int .i64 1, .int .i64 2]) := hid (own_litY O8.out.h3 (by omega) rfl (by unfold maxLen; omega))
          have hnw : n ≤ W8.heap.size := by have := heap_lt O8.out.h5; omega
          have HONE : Box (∀ u ∈ ([.slice ea kl.length ec, .int .i64 1, .int .i64 0, .int .i64 3, .int .i64 0, .slice ga kr.length gc, .int .i64 1, .int .i64 0, .int .i64 3, .int .i64 0, .slice none 0 0, .int .i64 3, .int .i64 0, .int .i64 0, .int .i64 0] : List Value), u.oneCell' = true) := hid (List.all_eq_true.1 (rfl : List.all ([.slice ea kl.length ec, .int .i64 1, .int .i64 0, .int .i64 3, .int .i64 0, .slice ga kr.length gc, .int .i64 1, .int .i64 0, .int .i64 3, .int .i64 0, .slice none 0 0, .int .i64 3, .int .i64 0, .int .i64 0, .int .i64 0] : List Value) (fun u => u.oneCell') = true))
          have HNEW : Box (∀ j u, ([.slice ea kl.length ec, .int .i64 1, .int .i64 0, .int .i64 3, .int .i64 0, .slice ga kr.length gc, .int .i64 1, .int .i64 0, .int .i64 3, .int .i64 0, .slice none 0 0, .int .i64 3, .int .i64 0, .int .i64 0, .int .i64 0] : List Value)[j]? = some u → ((W8.alloc (.cells #[.slice ea kl.length ec, .int .i64 1, .int .i64 0, .int .i64 3, .int .i64 0, .slice ga kr.length gc, .int .i64 1, .int .i64 0, .int .i64 3, .int .i64 0, .slice none 0 0, .int .i64 3, .int .i64 0, .int .i64 0, .int .i64 0] 63)).drew).cell? ((⟨W8.heap.size, 0, none⟩ : Addr).add j) = some u) := hid (World.news_of_block (cs := #[.slice ea kl.length ec, .int .i64 1, .int .i64 0, .int .i64 3, .int .i64 0, .slice ga kr.length gc, .int .i64 1, .int .i64 0, .int .i64 3, .int .i64 0, .slice none 0 0, .int .i64 3, .int .i64 0, .int .i64 0, .int .i64 0]) (t := 63) (fr := (0, 0)) (heap_new W8 _))
          have OWA : Box (((W8.alloc (.cells #[.slice ea kl.length ec, .int .i64 1, .int .i64 0, .int .i64 3, .int .i64 0, .slice ga kr.length gc, .int .i64 1, .int .i64 0, .int .i64 3, .int .i64 0, .slice none 0 0, .int .i64 3, .int .i64 0, .int .i64 0, .int .i64 0] 63)).drew).ownsRow n 63 5 (.slice (some ⟨n + 3, 0, none⟩) 1 1) 1 [.slice (some ⟨n + 2, 0, none⟩) 1 1, .int .i64 2, .int .i64 0, .int .i64 1, .int .i64 2]) := hid (ownsRow_keeps OWN.out ((Keeps.alloc [] W8 (.cells #[.slice ea kl.length ec, .int .i64 1, .int .i64 0, .int .i64 3, .int .i64 0, .slice ga kr.length gc, .int .i64 1, .int .i64 0, .int .i64 3, .int .i64 0, .slice none 0 0, .int .i64 3, .int .i64 0, .int .i64 0, .int .i64 0] 63)).quiet (Keeps.drew [] _)) (fun _ _ => by simp))
          have H4A : Box (((W8.alloc (.cells #[.slice ea kl.length ec, .int .i64 1, .int .i64 0, .int .i64 3, .int .i64 0, .slice ga kr.length gc, .int .i64 1, .int .i64 0, .int .i64 3, .int .i64 0, .slice none 0 0, .int .i64 3, .int .i64 0, .int .i64 0, .int .i64 0] 63)).drew).heap[n + 4]? = some (.cells #[.int .i64 0, (.slice (some ⟨r, 0, none⟩) 6 6), (.slice (some ⟨n + 3, 0, none⟩) 1 1)] 39 (0, 0))) := hid (keep_heap O8.out.h4 ((Keeps.alloc [] W8 (.cells #[.slice ea kl.length ec, .int .i64 1, .int .i64 0, .int .i64 3, .int .i64 0, .slice ga kr.length gc, .int .i64 1, .int .i64 0, .int .i64 3, .int .i64 0, .slice none 0 0, .int .i64 3, .int .i64 0, .int .i64 0, .int .i64 0] 63)).quiet (Keeps.drew [] _)))
          have KA : Box (Keeps [] W8 ((W8.alloc (.cells #[.slice ea kl.length ec, .int .i64 1, .int .i64 0, .int .i64 3, .int .i64 0, .slice ga kr.length gc, .int .i64 1, .int .i64 0, .int .i64 3, .int .i64 0, .slice none 0 0, .int .i64 3, .int .i64 0, .int .i64 0, .int .i64 0] 63)).drew)) := hid ((Keeps.alloc [] W8 (.cells #[.slice ea kl.length ec, .int .i64 1, .int .i64 0, .int .i64 3, .int .i64 0, .slice ga kr.length gc, .int .i64 1, .int .i64 0, .int .i64 3, .int .i64 0, .slice none 0 0, .int .i64 3, .int .i64 0, .int .i64 0, .int .i64 0] 63)).quiet (Keeps.drew [] _))
          go_cut [119] (fun tt wz => ∃ g cap, Box (LD wz n r g cap ab (lb + 2) kl kr (.slice ea kl.length ec) (.slice ga kr.length gc) 0 60) ∧ Box (Keeps [] w wz) ∧ Box (n ≤ g))
          case first =>
            have PAY : Box (∀ g cap w8, w8.ownsRow n 63 5 (.slice (some ⟨g, 0, none⟩) (1 + 3) cap) (1 + 3) ([.slice (some ⟨n + 2, 0, none⟩) 1 1, .int .i64 2, .int .i64 0, .int .i64 1, .int .i64 2] ++ [.slice ea kl.length ec, .int .i64 1, .int .i64 0, .int .i64 3, .int .i64 0, .slice ga kr.length gc, .int .i64 1, .int .i64 0, .int .i64 3, .int .i64 0, .slice none 0 0, .int .i64 3, .int .i64 0, .int .i64 0, .int .i64 0]) → ((W8.alloc (.cells #[.slice ea kl.length ec, .int .i64 1, .int .i64 0, .int .i64 3, .int .i64 0, .slice ga kr.length gc, .int .i64 1, .int .i64 0, .int .i64 3, .int .i64 0, .slice none 0 0, .int .i64 3, .int .i64 0, .int .i64 0, .int .i64 0] 63)).drew).grownBy w8 (some (n + 3)) → w8.heap[n + 4]? = some (.cells #[.int .i64 0, (.slice (some ⟨r, 0, none⟩) 6 6), (.slice (some ⟨n + 3, 0, none⟩) 1 1)] 39 (0, 0)) ∧ LD (w8.setCell ⟨n + 4, 2, none⟩ (.slice (some ⟨g, 0, none⟩) (1 + 3) cap)) n r g cap ab (lb + 2) kl kr (.slice ea kl.length ec) (.slice ga kr.length gc) 0 60 ∧ Keeps [] w (w8.setCell ⟨n + 4, 2, none⟩ (.slice (some ⟨g, 0, none⟩) (1 + 3) cap))) := hid fun g cap w8 hown hgrow => by
              have h48 := grownY hgrow H4A.out (by simp)
              have k8 : Keeps [n + 3] ((W8.alloc (.cells #[.slice ea kl.length ec, .int .i64 1, .int .i64 0, .int .i64 3, .int .i64 0, .slice ga kr.length gc, .int .i64 1, .int .i64 0, .int .i64 3, .int .i64 0, .slice none 0 0, .int .i64 3, .int .i64 0, .int .i64 0, .int .i64 0] 63)).drew) w8 := Keeps.grown _ hgrow (fun k hk => by simp at hk; simp [hk])
              have k9 : Keeps [n + 4] w8 (w8.setCell ⟨n + 4, 2, none⟩ (.slice (some ⟨g, 0, none⟩) (1 + 3) cap)) := Keeps.setCell _ _ _ _ (by simp)
              have FB : ∀ (b : Nat) (cs : Array Value) (T : TypeId), b ≠ n + 3 → b ≠ n + 4 → W8.heap[b]? = some (.cells cs T (0, 0)) → (w8.setCell ⟨n + 4, 2, none⟩ (.slice (some ⟨g, 0, none⟩) (1 + 3) cap)).heap[b]? = some (.cells cs T (0, 0)) := fun b cs T h1 h2 h => by
                have h3 := keep_heap h KA.out
                rw [k9.block b (Nat.lt_of_lt_of_le (heap_lt h3) k8.size) (by simp; omega), k8.block b (heap_lt h3) (by simp; omega)]
                exact h3
              have FO : ∀ (v : Value) m xs, W8.ownsRow (lb + 2) 65 6 v m xs → (w8.setCell ⟨n + 4, 2, none⟩ (.slice (some ⟨g, 0, none⟩) (1 + 3) cap)).ownsRow (lb + 2) 65 6 v m xs := fun v m xs ho => ownsRow_keeps (ownsRow_keeps (ownsRow_keeps ho KA.out (fun _ _ => by simp)) k8 (fun b hb hx => by have := own_ge ho hb; simp at hx; omega)) k9 (fun b hb hx => by have := own_ge ho hb; simp at hx; omega)
              have hrow := ownsRow_keeps hown k9 (fun b hb hx => by simp at hx; subst hx; exact row_neY hown h48 (by decide) hb)
              refine ⟨h48, ⟨FB _ _ _ (by omega) (by omega) O8.out.h0, FB _ _ _ (by omega) (by omega) O8.out.h2, FB _ _ _ (by omega) (by omega) R8.out, ?_, heap_setCell_same _ _ _ _ _ _ h48, FB _ _ _ (by omega) (by omega) O8.out.h5, FO _ _ _ SL8.out.row, FO _ _ _ SR8.out.row, FB _ _ _ (by omega) (by omega) SL8.out.marks, FB _ _ _ (by omega) (by omega) SR8.out.marks, own_capY hown⟩, ((K8.out.quiet KA.out).fresh k8 (fun x hx => by have := HW.out; simp at hx; omega)).fresh k9 (fun x hx => by have := HW.out; simp at hx; omega)⟩
              rcases hrow.2 with ⟨hv, _⟩ | ⟨g', cap', cur, hv, _, hh, _, _, hcs, ht⟩
              · cases hv
              · cases hv
                refine ⟨cur, hh, fun i hi => ?_⟩
                have e : (cur.toList.take ((1 + 3) * 5))[i]? = cur[i]? := by rw [List.getElem?_take, if_pos (by omega)]; simp
                rw [← e, ht]
                rfl
            have fbA : (W8.alloc (.cells #[.slice ea kl.length ec, .int .i64 1, .int .i64 0, .int .i64 3, .int .i64 0, .slice ga kr.length gc, .int .i64 1, .int .i64 0, .int .i64 3, .int .i64 0, .slice none 0 0, .int .i64 3, .int .i64 0, .int .i64 0, .int .i64 0] 63)).cell? ⟨n + 4, 2, none⟩ = some (.slice (some ⟨n + 3, 0, none⟩) 1 1) := cell_stays (Keeps.alloc [] W8 (.cells #[.slice ea kl.length ec, .int .i64 1, .int .i64 0, .int .i64 3, .int .i64 0, .slice ga kr.length gc, .int .i64 1, .int .i64 0, .int .i64 3, .int .i64 0, .slice none 0 0, .int .i64 3, .int .i64 0, .int .i64 0, .int .i64 0] 63)) (show W8.cell? ⟨n + 4, 2, none⟩ = some (.slice (some ⟨n + 3, 0, none⟩) 1 1) from fb)
            clear SL8 SR8 O8 R8 K8 OWN KA HVL HVR
            go_region_law (go_loud (refine step_append_lies _ (by rfl) _ _ _ (by rfl) n 63 Tryd.t63 (.agg #[.slice none 0 0, .int .i64 0, .int .i64 0, .int .i64 0, .int .i64 0]) 5 56 under_bksY info_bkY zero_bkY size_bkY bytes_bkY rfl (by decide) (.slice (some ⟨n + 3, 0, none⟩) 1 1) 1 [.slice (some ⟨n + 2, 0, none⟩) 1 1, .int .i64 2, .int .i64 0, .int .i64 1, .int .i64 2] (by rfl) OWA.out ⟨W8.heap.size, 0, none⟩ 3 3 [.slice ea kl.length ec, .int .i64 1, .int .i64 0, .int .i64 3, .int .i64 0, .slice ga kr.length gc, .int .i64 1, .int .i64 0, .int .i64 3, .int .i64 0, .slice none 0 0, .int .i64 3, .int .i64 0, .int .i64 0, .int .i64 0] (by rfl) (by rfl) HNEW.out HONE.out (by decide) (by unfold maxLen; omega) (by omega) (by simp; omega) (W8.heap.size + 1) (by simp) ?_; intro g cap w8 hown hgrow hat hlt8; obtain ⟨h48, hld, hkk⟩ := PAY.out g cap w8 hown hgrow; have HLD := hid hld; have HKK := hid hkk; have HGE : Box (n ≤ g) := hid (own_ge hown rfl).1; have qb := hcell h48 2; have yb := hfrozen h48 2; clear hld hkk hown hgrow hat hlt8))
            all_goals
              go_wp2_with fail
              go_meet
              exact ⟨g, cap, HLD, HKK, HGE⟩
          case rest =>
          clear fb l0 l1 l2 l3 l4 r0 r1 r2 r3 r4 OWN HONE HNEW OWA H4A KA SL8 SR8 O8 R8 K8
          obtain ⟨g, cap, LD0, KD, HGN⟩ := hcut
          have HGB : Box (w.heap.size ≤ g) := hid (Nat.le_trans HW.out HGN.out)
          clear HGN
          have HSZ := hid fun (z : Int) => sz_D HKL.out.2 HKR.out.2 z
          have HPR : Box (∀ w', Keeps [] wc w' → PrC w' (n + 5) 0 (prD kl kr 0)) := hid fun w' k => (LD0.out.quiet k).prc HKL.out HKR.out (by decide)
          have HIN := hid (in_any (f := 0) (HPR.out _ (Keeps.refl _ _)) (HT.out.kept KD.out (by simp)) (show 0 < 1 by decide) (show 0 < 4 by decide) (show 4 ≤ 600 by decide) (show 6 ≤ 1000 by decide) (fun b => (HSZ.out 0).code 0 b (show 0 < 1 by decide)))
          rw [fun_D] at HIN
          unfold InPost at HIN
          rw [show (fuD kl kr 0).blocks.length = 4 from rfl] at HIN
          go_wp2_with fail
          refine HIN.out.mono ?_
          rintro e w9 ⟨p9, d9, q9, rfl, h9, -, -, k9⟩
          have HH9 := hid h9
          have K9 := hid k9
          clear h9 k9 HIN
          have HCK := hid (check_any (HPR.out _ K9.out) (HT.out.kept (KD.out.quiet K9.out) (by simp)) (HSZ.out 0))
          rw [chk_D0] at HCK
          go_wp2_with fail
          refine HCK.out.mono ?_
          rintro e wA ⟨rfl, kA⟩
          have KA := hid (K9.out.quiet kA)
          have HHA := hid (HH9.out.quiet kA)
          clear kA HCK HH9 K9
          have HSH := hid (shape_any (HPR.out _ KA.out) (HSZ.out 0))
          rw [shp_D] at HSH
          go_wp2_with fail
          refine HSH.out.mono ?_
          rintro e wB ⟨rfl, kB⟩
          have KB := hid (KD.out.quiet (KA.out.quiet kB))
          have HHB := hid (HHA.out.quiet kB)
          have LDB := hid (LD0.out.quiet (KA.out.quiet kB))
          clear kB HSH HHA KA HPR LD0 KD
          go_upto_region 28 with fail
          go_wp2_with fail
          go_loopw [17] (fun i wr => ∃ k : Nat, k ≤ 5 ∧ i = .int .i64 (k : Int) ∧ Box (Keeps [] wB wr)) (fun i _ => 5 - (intOf i).toNat)
          case atStart => exact ⟨0, by omega, rfl, hid (Keeps.refl _ _)⟩
          case round =>
            obtain ⟨k, hk, rfl, HKC⟩ := hrel
            by_cases hlt5 : k < 5
            · have hlt5' : (k : Int) < 5 := by omega
              have hk0' : (0 : Int) ≤ (k : Int) := by omega
              have HHR := hid (HHB.out.quiet HKC.out)
              have c3 := HHR.out.row.cell (show 3 < 4 by decide)
              have c1 := HHR.out.row.cell (show 1 < 4 by decide)
              have c3' : wr.cell? ⟨p9, 3, none⟩ = some (.pointer (some ⟨d9 3, 0, none⟩)) := c3
              have c1' : wr.cell? ⟨p9, 1, none⟩ = some (.pointer (some ⟨d9 1, 0, none⟩)) := c1
              clear c3 c1
              have ma : wr.cell? ⟨ab, k, none⟩ = some (.bool (mk5 kl k)) := by rw [hcell (LDB.out.quiet HKC.out).ma k]; exact A5_get hlt5
              have mb : wr.cell? ⟨ab + 1, k, none⟩ = some (.bool (mk5 kr k)) := by rw [hcell (LDB.out.quiet HKC.out).mb k]; exact A5_get hlt5
              have HFT : ∀ b, Fit (inS (prD kl kr 0) (fuD kl kr 0) b) := fun b m hm => by
                unfold inS
                rw [decide_eq_false (show ¬ m < (fuD kl kr 0).regs.length by show ¬ m < 6; omega)]
                rfl
              have HAS3 : Box (∀ w', Keeps [] wr w' → Calls Tryd.prog 19 #[.pointer (some ⟨d9 3, 0, none⟩), .int .i64 ((k : Int) + 1)] w' fun e w'' => e = .returned (.bool (mk5 kl k && mk5 kr k)) ∧ ∃ m, w'' = w'.drewN m) := hid fun w' k' => by
                have := has_any (d9 3) _ ((k : Int) + 1) w' ((HHR.out.quiet k').set 3 (by decide)) (HFT 3)
                unfold hasI at this
                rw [show ((k : Int) + 1).toNat = k + 1 by omega, decide_eq_true (by omega : (0 : Int) ≤ (k : Int) + 1), Bool.true_and, in_D3 hlt5] at this
                exact this
              have HAS1 : Box (∀ w', Keeps [] wr w' → Calls Tryd.prog 19 #[.pointer (some ⟨d9 1, 0, none⟩), .int .i64 ((k : Int) + 1)] w' fun e w'' => e = .returned (.bool false) ∧ ∃ m, w'' = w'.drewN m) := hid fun w' k' => by
                have := has_any (d9 1) _ ((k : Int) + 1) w' ((HHR.out.quiet k').set 1 (by decide)) (HFT 1)
                unfold hasI at this
                rw [show ((k : Int) + 1).toNat = k + 1 by omega, decide_eq_true (by omega : (0 : Int) ≤ (k : Int) + 1), Bool.true_and, in_D1 hlt5] at this
                exact this
              clear HFT
              cases hxa : mk5 kl k with
              | false =>
                rw [hxa, Bool.false_and] at HAS3
                rw [hxa] at ma
                clear hxa
                go_upto_region 31 with fail
                refine wp_region_det (W0 := wr) 190 [(.slice (some ⟨p9, 0, none⟩) 4 4 : Value), (.pointer (some ⟨p9, 3, none⟩) : Value), (.pointer (some ⟨d9 3, 0, none⟩) : Value), (.int .i64 (k : Int) : Value), (.int .i64 ((k : Int) + 1) : Value), (.bool false : Value), (.int .i64 (k : Int) : Value), (.pointer (some ⟨ab, k, none⟩) : Value), (.bool false : Value), (.bool false : Value), (undef : Value), (undef : Value), (undef : Value), (.bool false : Value), (.bool false : Value), (.bool false : Value), (.slice (some ⟨p9, 0, none⟩) 4 4 : Value), (.pointer (some ⟨p9, 1, none⟩) : Value), (.pointer (some ⟨d9 1, 0, none⟩) : Value), (.int .i64 (k : Int) : Value), (.int .i64 ((k : Int) + 1) : Value), (.bool false : Value), (.bool false : Value)] (by kernel_rfl) (by rfl) (by kernel_rfl) (Keeps.refl _ _) (fun A hA => ?_)
                simp only [putAll, Act.put, List.setIfInBounds_toArray, List.set_cons_zero, List.set_cons_succ] at hA
                subst hA
                refine ⟨AllGive.cons (give_yield (by rfl) (fun _ _ => rfl)) (AllGive.cons (give_yield (by rfl) (fun _ k9 => ix_setsY (j := 3) rfl rfl rfl (by decide))) (AllGive.cons (give_yield (by rfl) (fun _ k9 => ld_setY (cell_stays k9 c3') rfl rfl)) (AllGive.cons (give_yield (by rfl) (fun _ _ => rfl)) (AllGive.cons (give_yield (by rfl) (fun _ k9 => add_oneY rfl rfl rfl hlt5)) (AllGive.cons (give_call (by rfl) 19 #[.pointer (some ⟨d9 3, 0, none⟩), .int .i64 ((k : Int) + 1)] (fun w => exec_call2 rfl rfl rfl rfl (enter_hasY _ _ w)) (fun w9 k9 => (HAS3.out w9 k9).mono (fun e w8 h8 => ⟨h8.1, by obtain ⟨m, rfl⟩ := h8.2; exact Keeps.drewN [] _ _⟩))) (AllGive.cons (give_yield (by rfl) (fun _ _ => rfl)) (AllGive.cons (give_yield (by rfl) (fun _ k9 => ix_arrY rfl rfl rfl hlt5)) (AllGive.cons (give_yield (by rfl) (fun _ k9 => ld_boolY (cell_stays k9 ma) rfl rfl)) (AllGive.cons (give_yield (by rfl) (fun _ _ => rfl)) (AllGive.cons (give_pass (by rfl)) (AllGive.cons (give_pass (by rfl)) (AllGive.cons (give_pass (by rfl)) (AllGive.cons (give_yield (by rfl) (fun _ _ => rfl)) (AllGive.cons (give_yield (by rfl) (fun _ k9 => neq_boolY rfl rfl rfl rfl)) (AllGive.cons (give_yield (by rfl) (fun _ _ => rfl)) (AllGive.cons (give_yield (by rfl) (fun _ _ => rfl)) (AllGive.cons (give_yield (by rfl) (fun _ k9 => ix_setsY (j := 1) rfl rfl rfl (by decide))) (AllGive.cons (give_yield (by rfl) (fun _ k9 => ld_setY (cell_stays k9 c1') rfl rfl)) (AllGive.cons (give_yield (by rfl) (fun _ _ => rfl)) (AllGive.cons (give_yield (by rfl) (fun _ k9 => add_oneY rfl rfl rfl hlt5)) (AllGive.cons (give_call (by rfl) 19 #[.pointer (some ⟨d9 1, 0, none⟩), .int .i64 ((k : Int) + 1)] (fun w => exec_call2 rfl rfl rfl rfl (enter_hasY _ _ w)) (fun w9 k9 => (HAS1.out w9 k9).mono (fun e w8 h8 => ⟨h8.1, by obtain ⟨m, rfl⟩ := h8.2; exact Keeps.drewN [] _ _⟩))) (AllGive.cons (give_yield (by rfl) (fun _ _ => rfl)) (AllGive.nil))))))))))))))))))))))), fun w8 k8 => ?_⟩
                go_wp2_with fail
                go_roundw
                case rel => exact ⟨k + 1, by omega, by go_num, hid (HKC.out.quiet k8)⟩
                case measure => simp [intOf]; omega
              | true =>
                rw [hxa, Bool.true_and] at HAS3
                rw [hxa] at ma
                clear hxa
                cases hxb : mk5 kr k with
                | false =>
                  rw [hxb] at HAS3 mb
                  clear hxb
                  go_upto_region 31 with fail
                  refine wp_region_det (W0 := wr) 190 [(.slice (some ⟨p9, 0, none⟩) 4 4 : Value), (.pointer (some ⟨p9, 3, none⟩) : Value), (.pointer (some ⟨d9 3, 0, none⟩) : Value), (.int .i64 (k : Int) : Value), (.int .i64 ((k : Int) + 1) : Value), (.bool false : Value), (.int .i64 (k : Int) : Value), (.pointer (some ⟨ab, k, none⟩) : Value), (.bool true : Value), (.bool true : Value), (.int .i64 (k : Int) : Value), (.pointer (some ⟨ab + 1, k, none⟩) : Value), (.bool false : Value), (.bool false : Value), (.bool false : Value), (.bool false : Value), (.slice (some ⟨p9, 0, none⟩) 4 4 : Value), (.pointer (some ⟨p9, 1, none⟩) : Value), (.pointer (some ⟨d9 1, 0, none⟩) : Value), (.int .i64 (k : Int) : Value), (.int .i64 ((k : Int) + 1) : Value), (.bool false : Value), (.bool false : Value)] (by kernel_rfl) (by rfl) (by kernel_rfl) (Keeps.refl _ _) (fun A hA => ?_)
                  simp only [putAll, Act.put, List.setIfInBounds_toArray, List.set_cons_zero, List.set_cons_succ] at hA
                  subst hA
                  refine ⟨AllGive.cons (give_yield (by rfl) (fun _ _ => rfl)) (AllGive.cons (give_yield (by rfl) (fun _ k9 => ix_setsY (j := 3) rfl rfl rfl (by decide))) (AllGive.cons (give_yield (by rfl) (fun _ k9 => ld_setY (cell_stays k9 c3') rfl rfl)) (AllGive.cons (give_yield (by rfl) (fun _ _ => rfl)) (AllGive.cons (give_yield (by rfl) (fun _ k9 => add_oneY rfl rfl rfl hlt5)) (AllGive.cons (give_call (by rfl) 19 #[.pointer (some ⟨d9 3, 0, none⟩), .int .i64 ((k : Int) + 1)] (fun w => exec_call2 rfl rfl rfl rfl (enter_hasY _ _ w)) (fun w9 k9 => (HAS3.out w9 k9).mono (fun e w8 h8 => ⟨h8.1, by obtain ⟨m, rfl⟩ := h8.2; exact Keeps.drewN [] _ _⟩))) (AllGive.cons (give_yield (by rfl) (fun _ _ => rfl)) (AllGive.cons (give_yield (by rfl) (fun _ k9 => ix_arrY rfl rfl rfl hlt5)) (AllGive.cons (give_yield (by rfl) (fun _ k9 => ld_boolY (cell_stays k9 ma) rfl rfl)) (AllGive.cons (give_yield (by rfl) (fun _ _ => rfl)) (AllGive.cons (give_yield (by rfl) (fun _ _ => rfl)) (AllGive.cons (give_yield (by rfl) (fun _ k9 => ix_arrY rfl rfl rfl hlt5)) (AllGive.cons (give_yield (by rfl) (fun _ k9 => ld_boolY (cell_stays k9 mb) rfl rfl)) (AllGive.cons (give_yield (by rfl) (fun _ _ => rfl)) (AllGive.cons (give_yield (by rfl) (fun _ k9 => neq_boolY rfl rfl rfl rfl)) (AllGive.cons (give_yield (by rfl) (fun _ _ => rfl)) (AllGive.cons (give_yield (by rfl) (fun _ _ => rfl)) (AllGive.cons (give_yield (by rfl) (fun _ k9 => ix_setsY (j := 1) rfl rfl rfl (by decide))) (AllGive.cons (give_yield (by rfl) (fun _ k9 => ld_setY (cell_stays k9 c1') rfl rfl)) (AllGive.cons (give_yield (by rfl) (fun _ _ => rfl)) (AllGive.cons (give_yield (by rfl) (fun _ k9 => add_oneY rfl rfl rfl hlt5)) (AllGive.cons (give_call (by rfl) 19 #[.pointer (some ⟨d9 1, 0, none⟩), .int .i64 ((k : Int) + 1)] (fun w => exec_call2 rfl rfl rfl rfl (enter_hasY _ _ w)) (fun w9 k9 => (HAS1.out w9 k9).mono (fun e w8 h8 => ⟨h8.1, by obtain ⟨m, rfl⟩ := h8.2; exact Keeps.drewN [] _ _⟩))) (AllGive.cons (give_yield (by rfl) (fun _ _ => rfl)) (AllGive.nil))))))))))))))))))))))), fun w8 k8 => ?_⟩
                  go_wp2_with fail
                  go_roundw
                  case rel => exact ⟨k + 1, by omega, by go_num, hid (HKC.out.quiet k8)⟩
                  case measure => simp [intOf]; omega
                | true =>
                  rw [hxb] at HAS3 mb
                  clear hxb
                  go_upto_region 31 with fail
                  refine wp_region_det (W0 := wr) 190 [(.slice (some ⟨p9, 0, none⟩) 4 4 : Value), (.pointer (some ⟨p9, 3, none⟩) : Value), (.pointer (some ⟨d9 3, 0, none⟩) : Value), (.int .i64 (k : Int) : Value), (.int .i64 ((k : Int) + 1) : Value), (.bool true : Value), (.int .i64 (k : Int) : Value), (.pointer (some ⟨ab, k, none⟩) : Value), (.bool true : Value), (.bool true : Value), (.int .i64 (k : Int) : Value), (.pointer (some ⟨ab + 1, k, none⟩) : Value), (.bool true : Value), (.bool true : Value), (.bool false : Value), (.bool false : Value), (.slice (some ⟨p9, 0, none⟩) 4 4 : Value), (.pointer (some ⟨p9, 1, none⟩) : Value), (.pointer (some ⟨d9 1, 0, none⟩) : Value), (.int .i64 (k : Int) : Value), (.int .i64 ((k : Int) + 1) : Value), (.bool false : Value), (.bool false : Value)] (by kernel_rfl) (by rfl) (by kernel_rfl) (Keeps.refl _ _) (fun A hA => ?_)
                  simp only [putAll, Act.put, List.setIfInBounds_toArray, List.set_cons_zero, List.set_cons_succ] at hA
                  subst hA
                  refine ⟨AllGive.cons (give_yield (by rfl) (fun _ _ => rfl)) (AllGive.cons (give_yield (by rfl) (fun _ k9 => ix_setsY (j := 3) rfl rfl rfl (by decide))) (AllGive.cons (give_yield (by rfl) (fun _ k9 => ld_setY (cell_stays k9 c3') rfl rfl)) (AllGive.cons (give_yield (by rfl) (fun _ _ => rfl)) (AllGive.cons (give_yield (by rfl) (fun _ k9 => add_oneY rfl rfl rfl hlt5)) (AllGive.cons (give_call (by rfl) 19 #[.pointer (some ⟨d9 3, 0, none⟩), .int .i64 ((k : Int) + 1)] (fun w => exec_call2 rfl rfl rfl rfl (enter_hasY _ _ w)) (fun w9 k9 => (HAS3.out w9 k9).mono (fun e w8 h8 => ⟨h8.1, by obtain ⟨m, rfl⟩ := h8.2; exact Keeps.drewN [] _ _⟩))) (AllGive.cons (give_yield (by rfl) (fun _ _ => rfl)) (AllGive.cons (give_yield (by rfl) (fun _ k9 => ix_arrY rfl rfl rfl hlt5)) (AllGive.cons (give_yield (by rfl) (fun _ k9 => ld_boolY (cell_stays k9 ma) rfl rfl)) (AllGive.cons (give_yield (by rfl) (fun _ _ => rfl)) (AllGive.cons (give_yield (by rfl) (fun _ _ => rfl)) (AllGive.cons (give_yield (by rfl) (fun _ k9 => ix_arrY rfl rfl rfl hlt5)) (AllGive.cons (give_yield (by rfl) (fun _ k9 => ld_boolY (cell_stays k9 mb) rfl rfl)) (AllGive.cons (give_yield (by rfl) (fun _ _ => rfl)) (AllGive.cons (give_yield (by rfl) (fun _ k9 => neq_boolY rfl rfl rfl rfl)) (AllGive.cons (give_yield (by rfl) (fun _ _ => rfl)) (AllGive.cons (give_yield (by rfl) (fun _ _ => rfl)) (AllGive.cons (give_yield (by rfl) (fun _ k9 => ix_setsY (j := 1) rfl rfl rfl (by decide))) (AllGive.cons (give_yield (by rfl) (fun _ k9 => ld_setY (cell_stays k9 c1') rfl rfl)) (AllGive.cons (give_yield (by rfl) (fun _ _ => rfl)) (AllGive.cons (give_yield (by rfl) (fun _ k9 => add_oneY rfl rfl rfl hlt5)) (AllGive.cons (give_call (by rfl) 19 #[.pointer (some ⟨d9 1, 0, none⟩), .int .i64 ((k : Int) + 1)] (fun w => exec_call2 rfl rfl rfl rfl (enter_hasY _ _ w)) (fun w9 k9 => (HAS1.out w9 k9).mono (fun e w8 h8 => ⟨h8.1, by obtain ⟨m, rfl⟩ := h8.2; exact Keeps.drewN [] _ _⟩))) (AllGive.cons (give_yield (by rfl) (fun _ _ => rfl)) (AllGive.nil))))))))))))))))))))))), fun w8 k8 => ?_⟩
                  go_wp2_with fail
                  go_roundw
                  case rel => exact ⟨k + 1, by omega, by go_num, hid (HKC.out.quiet k8)⟩
                  case measure => simp [intOf]; omega
            · have hk5 : ¬ (k : Int) < 5 := by omega
              have KC := hid (KB.out.quiet HKC.out)
              have LDC := hid (LDB.out.quiet HKC.out)
              clear HHB KB LDB HKC
              go_upto_region 33 with fail
              go_wp2_with fail
              clear hk5
              go_loopw [18] (fun i wr => ∃ (k : Nat) (z : Int), k ≤ 5 ∧ i = .int .i64 (k : Int) ∧ (-100 ≤ z ∧ z ≤ 100) ∧ Box (LD wr n r g cap ab (lb + 2) kl kr (.slice ea kl.length ec) (.slice ga kr.length gc) z 60) ∧ Box (Keeps [] w wr)) (fun i _ => 5 - (intOf i).toNat)
              case atStart => exact ⟨0, 0, by omega, rfl, by omega, LDC, KC⟩
              case round =>
                clear LDC KC
                obtain ⟨k, z, hk, rfl, hz, HLX, HKX⟩ := hrel
                by_cases hlt5 : k < 5
                · have hlt5' : (k : Int) < 5 := by omega
                  have hk0' : (0 : Int) ≤ (k : Int) := by omega
                  have fb := hcell HLX.out.h4 2
                  have cg : wr.cell? ⟨g, 17, none⟩ = some (.int .i64 z) := HLX.out.cell (by decide)
                  have yg : wr.frozen? ⟨g, 17, none⟩ = false := by obtain ⟨cur, h1, -⟩ := HLX.out.row; exact hfrozen h1 17
                  have hcp : (4 : Int) ≤ (cap : Int) := by have := HLX.out.cap4; omega
                  go_upto_region 37 with fail
                  have HLT := hid (HLX.out.turn ((k : Int) + 1))
                  have hgn : w.heap.size ≤ g := by
                    obtain ⟨cur, h1, -⟩ := HLX.out.row
                    have hx := HGB.out
                    omega
                  have HKT := hid (HKX.out.fresh (Keeps.setCell [g] wr ⟨g, 17, none⟩ (.int .i64 ((k : Int) + 1)) (by simp)) (fun x hx => by simp at hx; omega))
                  clear fb cg yg hcp hgn HLX HKX
                  generalize wr.setCell ⟨g, 17, none⟩ (.int .i64 ((k : Int) + 1)) = WT at *
                  have ma : WT.cell? ⟨ab, k, none⟩ = some (.bool (mk5 kl k)) := by rw [hcell HLT.out.ma k]; exact A5_get hlt5
                  have mb : WT.cell? ⟨ab + 1, k, none⟩ = some (.bool (mk5 kr k)) := by rw [hcell HLT.out.mb k]; exact A5_get hlt5
                  have HCK0 := hid (check_any (HLT.out.prc HKL.out HKR.out (by omega)) (HT.out.kept HKT.out (by simp)) (HSZ.out ((k : Int) + 1)))
                  rw [chk_D hlt5] at HCK0
                  have HCC : Box (Calls Tryd.prog 21 #[.pointer (some ⟨n + 5, 0, none⟩)] WT (FirstPost (if (mk5 kl k && mk5 kr k) then none else some (0, 3, 0)) 5 WT)) := HCK0
                  clear HCK0
                  have HCK0 := HCC
                  clear HCC
                  cases hxa : mk5 kl k with
                  | false =>
                    rw [hxa, Bool.false_and] at HCK0
                    rw [hxa] at ma
                    clear hxa
                    have HCK := HCK0
                    rw [if_neg (by decide)] at HCK
                    go_wp2_with fail
                    refine HCK.out.mono ?_
                    rintro e wA ⟨pA, rfl, rA, kA⟩
                    have HLA := hid (HLT.out.quiet kA)
                    have HKA := hid (HKT.out.quiet kA)
                    have HSY : Box (Calls Tryd.prog 15 #[errV pA, .int .i64 5, .agg #[.int .i64 0, .int .i64 3, .int .i64 0]] wA fun e w' => e = .returned (.bool true) ∧ Keeps [] wA w') := hid (says_at (f := 0) (b := 3) (i := 0) (HG.out.quiet (HKT.out.quiet kA)) rA (by decide))
                    clear kA rA
                    go_wp2_with fail
                    refine HSY.out.mono ?_
                    rintro e wB ⟨rfl, kB⟩
                    have HLB := hid (HLA.out.quiet kB)
                    have HKB := hid (HKA.out.quiet kB)
                    clear kB
                    go_wp2_with fail
                    go_roundw
                    case rel => exact ⟨k + 1, (k : Int) + 1, by omega, by go_num, by omega, HLB, HKB⟩
                    case measure => simp [intOf]; omega
                  | true =>
                    rw [hxa, Bool.true_and] at HCK0
                    rw [hxa] at ma
                    clear hxa
                    cases hxb : mk5 kr k with
                    | false =>
                      rw [hxb] at HCK0 mb
                      clear hxb
                      have HCK := HCK0
                      rw [if_neg (by decide)] at HCK
                      go_wp2_with fail
                      refine HCK.out.mono ?_
                      rintro e wA ⟨pA, rfl, rA, kA⟩
                      have HLA := hid (HLT.out.quiet kA)
                      have HKA := hid (HKT.out.quiet kA)
                      have HSY : Box (Calls Tryd.prog 15 #[errV pA, .int .i64 5, .agg #[.int .i64 0, .int .i64 3, .int .i64 0]] wA fun e w' => e = .returned (.bool true) ∧ Keeps [] wA w') := hid (says_at (f := 0) (b := 3) (i := 0) (HG.out.quiet (HKT.out.quiet kA)) rA (by decide))
                      clear kA rA
                      go_wp2_with fail
                      refine HSY.out.mono ?_
                      rintro e wB ⟨rfl, kB⟩
                      have HLB := hid (HLA.out.quiet kB)
                      have HKB := hid (HKA.out.quiet kB)
                      clear kB
                      go_wp2_with fail
                      go_roundw
                      case rel => exact ⟨k + 1, (k : Int) + 1, by omega, by go_num, by omega, HLB, HKB⟩
                      case measure => simp [intOf]; omega
                    | true =>
                      rw [hxb, if_pos rfl] at HCK0
                      rw [hxb] at mb
                      clear hxb
                      go_wp2_with fail
                      refine HCK0.out.mono ?_
                      rintro e wA ⟨rfl, kA⟩
                      have HLA := hid (HLT.out.quiet kA)
                      have HKA := hid (HKT.out.quiet kA)
                      clear kA
                      go_wp2_with fail
                      go_roundw
                      case rel => exact ⟨k + 1, (k : Int) + 1, by omega, by go_num, by omega, HLA, HKA⟩
                      case measure => simp [intOf]; omega
                · have hk5 : ¬ (k : Int) < 5 := by omega
                  go_wp2_with fail
                  go_ret
                  exact ⟨rfl, HKX.out⟩
end Go.Proofs.YtmebkeidpklcbaaDoor
