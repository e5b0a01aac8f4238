/-
  Contract: front's Of.
-/
import Derived.Test.YtlnimcpmkammfaaDoorFMark
namespace Go.Proofs.YtlnimcpmkammfaaDoor
open Go.RowKit

theorem uPs : Tryd.prog.underlying 29 = some (.slice 33) := by kernel_rfl
theorem iPs : Tryd.prog.info? 33 = some Tryd.t33 := by kernel_rfl
theorem zPs : Tryd.t33.zero = some (.pointer none) := by kernel_rfl
theorem sPs : Tryd.t33.size = 1 := by kernel_rfl
theorem yPs : Tryd.t33.bytes = 8 := by kernel_rfl

theorem nil_no (b N : Nat) (w : World) : (binOp BinOp.eql 23 (.slice (some ⟨b, 0, none⟩) N N) (.slice none 0 0)).run Tryd.prog w = .ok (.bool false) w := by rfl
theorem nil_yes (w : World) : (binOp BinOp.eql 23 (.slice none 0 0) (.slice none 0 0)).run Tryd.prog w = .ok (.bool true) w := by rfl

/-- The first k sets are there, empty. -/
def qcell (q : Nat → Nat) (k i : Nat) : Value := if i < k then .pointer (some ⟨q i, 0, none⟩) else .pointer none
structure FrN (w : World) (base p N k : Nat) (q : Nat → Nat) : Prop where
  tab : RowAt w base p N 33 (qcell q k)
  set : ∀ i, i < k → SetAt w (q i) none_
  low : ∀ i, i < k → base ≤ q i ∧ q i ≠ p
  inj : ∀ i j, i < k → j < k → q i = q j → i = j
theorem FrN.push {w : World} {base p N k : Nat} {q : Nat → Nat} (h : FrN w base p N k q) (hb : base ≤ w.heap.size) : FrN ((w.setCell ⟨p, k, none⟩ (.pointer (some ⟨w.heap.size, 0, none⟩))).alloc (.cells (row none_) 56)) base p N (k + 1) (fun i => if i = k then w.heap.size else q i) := by
  have kb : Keeps [p] w (w.setCell ⟨p, k, none⟩ (.pointer (some ⟨w.heap.size, 0, none⟩))) := Keeps.setCell _ _ _ _ (by simp)
  have ka : Keeps [] (w.setCell ⟨p, k, none⟩ (.pointer (some ⟨w.heap.size, 0, none⟩))) ((w.setCell ⟨p, k, none⟩ (.pointer (some ⟨w.heap.size, 0, none⟩))).alloc (.cells (row none_) 56)) := Keeps.alloc _ _ _
  have hp := h.tab.lt.2
  refine ⟨((h.tab.put k _).kept ka (by simp)).congr fun i _ => ?_, fun i hi => ?_, fun i hi => ?_, fun i j hi hj e => ?_⟩
  · unfold qcell
    by_cases e : i = k
    · subst e
      simp
    · have : i < k + 1 ↔ i < k := by omega
      simp only [e, if_false, this]
  · by_cases e : i = k
    · simp only [e, if_true]
      have := setAt_new (w.setCell ⟨p, k, none⟩ (.pointer (some ⟨w.heap.size, 0, none⟩))) none_
      rw [show (w.setCell ⟨p, k, none⟩ (.pointer (some ⟨w.heap.size, 0, none⟩))).heap.size = w.heap.size by simp [World.setCell]] at this
      exact this
    · simp only [e, if_false]
      exact ((h.set i (by omega)).kept kb (by simp; exact (h.low i (by omega)).2)).kept ka (by simp)
  · by_cases e : i = k
    · simp only [e, if_true]
      exact ⟨hb, by omega⟩
    · simp only [e, if_false]
      exact h.low i (by omega)
  · by_cases e1 : i = k <;> by_cases e2 : j = k
    · rw [e1, e2]
    · simp only [e1, if_true, e2, if_false] at e
      have := (h.set j (by omega)).lt
      omega
    · simp only [e1, if_false, e2, if_true] at e
      have := (h.set i (by omega)).lt
      omega
    · simp only [e1, if_false, e2] at e
      exact h.inj i j (by omega) (by omega) e
theorem FrN.all {w : World} {base p N : Nat} {q : Nat → Nat} (h : FrN w base p N N q) : FrM w base p N q (fun _ _ => false) :=
  ⟨h.tab.congr fun i hi => by unfold qcell; rw [if_pos hi], h.set, fun _ _ => fit_none, h.low, h.inj⟩
theorem keeps_qs {w w' wa : World} {base p N : Nat} {q : Nat → Nat} {F : Nat → Nat → Bool} (h : FrM w base p N q F) (k : Keeps [] wa w) (k2 : Keeps (qs q N) w w') (hb : wa.heap.size ≤ base) : Keeps [] wa w' :=
  k.fresh k2 fun x hx => by
    obtain ⟨i, hi, rfl⟩ := mem_qs.1 hx
    have := (h.low i hi).1
    omega

set_option maxHeartbeats 2000000 in
theorem fof_out (g : List (List Nat)) (hs : Sm g) (a : Option Addr) (cap B : Nat) (n : Int) (w : World) (hG : GAt w B a g) (hn : ¬ (0 ≤ n ∧ n < (g.length : Int))) :
    Calls Tryd.prog 10 #[.agg #[.int .i64 (g.length : Int), .slice a g.length cap], .int .i64 n] w fun e w' => e = .returned (.slice none 0 0) ∧ Keeps [] w w' := by
  have hk1 : Keeps [] w (w.alloc (Obj.cells #[.int .i64 (g.length : Int), .slice a g.length cap] 27)) := Keeps.alloc _ _ _
  have HB1 := hid (BoxAt.new w (g.length : Int) a g.length cap)
  have HUQ := hid (up_out g hs a cap B n _ (hG.quiet hk1) hn)
  generalize g.length = N at *
  clear hG hs hn
  go_enter Tryd.func10, Tryd.ntmps10
  go_wp2_with fail
  generalize w.alloc (Obj.cells #[.int .i64 (N : Int), .slice a N cap] 27) = w1 at hk1 HB1 HUQ ⊢
  refine HUQ.out.mono ?_
  rintro e w2 ⟨rfl, hk2⟩
  have hnn := nil_yes w2
  go_wp2
  go_ret
  exact ⟨rfl, hk1.quiet hk2⟩

set_option maxRecDepth 20000 in
set_option maxHeartbeats 8000000 in
theorem fof_in (g : List (List Nat)) (hs : Sm g) (a : Option Addr) (cap B r : Nat) (w : World) (hG : GAt w B a g) (hB : B ≤ w.heap.size) (hr : r < g.length) :
    Calls Tryd.prog 10 #[.agg #[.int .i64 (g.length : Int), .slice a g.length cap], .int .i64 (r : Int)] w fun e w' => ∃ p q F, e = .returned (.slice (some ⟨p, 0, none⟩) g.length g.length) ∧ FrM w' w.heap.size p g.length q F ∧ (∀ x y, F x y = true ↔ Fr g r x y) ∧ Keeps [] w w' := by
  have hk1 : Keeps [] w (w.alloc (Obj.cells #[.int .i64 (g.length : Int), .slice a g.length cap] 27)) := Keeps.alloc _ _ _
  have HB1 := hid (BoxAt.new w (g.length : Int) a g.length cap)
  have HG1 := hid (hG.quiet hk1)
  have HUP := hid (up_in g hs a cap B r _ HG1.out (Nat.le_trans hB hk1.size) hr)
  have HMK := hid (fun U (hU : UpOf g r U) p pu base c b q F w9 h1 h2 h3 h4 h5 h6 => mark_any g hs r hr U hU p pu base c b q F w9 h1 h2 h3 h4 h5 h6)
  have HOK := hid hs
  have HRR := hid hr
  have hg6 := hs.len
  obtain ⟨N, hN⟩ : ∃ N, g.length = N := ⟨_, rfl⟩
  have HN := hid hN
  rw [hN] at hg6 hk1 HB1 HG1 HUP HMK hr ⊢
  clear hG hs hN hr
  go_enter Tryd.func10, Tryd.ntmps10
  go_wp2_with fail
  generalize w.alloc (Obj.cells #[.int .i64 (N : Int), .slice a N cap] 27) = w1 at hk1 HB1 HG1 HUP ⊢
  refine HUP.out.mono ?_
  rintro e w2 ⟨pu, U, rfl, hrow, hU, hk2⟩
  have HU := hid hU
  have HUA := hid hrow.uat
  have hpu := hrow.lt
  have HBX := hid (HB1.out.kept hk2 (by simp))
  have HG2 := hid (HG1.out.quiet hk2)
  have K2 := hid (hk1.quiet hk2)
  clear hU hrow HB1 HG1 HUP hk1 hk2
  have hww : w2.heap.size ≤ w2.heap.size := Nat.le_refl _
  have hnn := nil_no pu N w2
  go_wp2_with (at_make; go_must (refine wpList_make_full _ rfl _ _ 29 rfl w2.heap.size 33 Tryd.t33 (.pointer none) 1 uPs iPs zPs sPs .i64 .i64 _ _ N rfl rfl rfl rfl (by rw [yPs]; omega) (by unfold maxLen; omega) hww ?_; intro w3 hown3 hgrow3))
  have k3 : Keeps [] w2 w3 := Keeps.grown [] hgrow3 (by simp)
  have R3 := RowAt.made hown3 rfl
  obtain ⟨p, hp⟩ : ∃ p, w2.heap.size = p := ⟨_, rfl⟩
  have HP := hid hp
  rw [hp] at R3 ⊢
  have HN3 : Box (FrN w3 p p N 0 (fun _ => 0)) := hid ⟨R3.congr fun i _ => by unfold qcell; rw [if_neg (by omega)], fun i hi => by omega, fun i hi => by omega, fun i j hi => by omega⟩
  have K3 := hid k3
  have hzero := zero_set
  clear hown3 hgrow3 R3 k3 hww hp hnn
  go_wp2_with fail
  go_loopw [22] (fun iv wr => ∃ (k : Nat) (q : Nat → Nat), iv = .int .i64 (k : Int) ∧ k ≤ N ∧ Box (FrN wr p p N k q) ∧ Box (Keeps [] w2 wr)) (fun iv _ => N - (intOf iv).toNat)
  case atStart => exact ⟨0, _, rfl, by omega, HN3, K3⟩
  case round =>
    clear HN3 K3
    obtain ⟨k, q, rfl, hk, HF, HK⟩ := hrel
    by_cases hlt : k < N
    · have hlt' : (k : Int) < (N : Int) := by omega
      have co := HF.out.tab.cell hlt
      have fo : (wr.alloc (.cells (row none_) 56)).frozen? ⟨p, k, none⟩ = false := (HF.out.tab.kept (Keeps.alloc [] wr (.cells (row none_) 56)) (by simp)).frozen k
      have hpw := HF.out.tab.lt.2
      have HF2 := hid (HF.out.push (by have := HK.out.size; have := HP.out; omega))
      have K2' : Box (Keeps [] w2 ((wr.setCell ⟨p, k, none⟩ (.pointer (some ⟨wr.heap.size, 0, none⟩))).alloc (.cells (row none_) 56))) := hid ((HK.out.fresh (Keeps.setCell [p] _ _ _ (by simp)) (fun x hx => by simp at hx; have := HP.out; omega)).quiet (Keeps.alloc _ _ _))
      have ca : (wr.alloc (.cells (row none_) 56)).cell? ⟨p, k, none⟩ = some (qcell q k k) := by
        rw [(Keeps.alloc [] wr (.cells (row none_) 56)).cell (p := ⟨p, k, none⟩) hpw (by simp)]
        exact co
      have hq : qcell q k k = .pointer none := by unfold qcell; rw [if_neg (by omega)]
      rw [hq] at co ca
      clear hq HF HK
      go_wp2
      go_roundw
      case rel => exact ⟨k + 1, _, by go_num, by omega, HF2, K2'⟩
      case measure => simp [intOf]; omega
    · obtain rfl : k = N := by omega
      have HM0 := hid HF.out.all
      have HK0 := hid (FrK.start g r)
      have c1 := (HBX.out.kept HK.out (by simp)).c1
      clear HF hzero
      go_wp2_with fail
      clear c1
      go_loopw [34] (fun iv wr => ∃ (n : Nat) (F : Nat → Nat → Bool), iv = .int .i64 (n : Int) ∧ n ≤ k ∧ Box (FrK g r n 0 F) ∧ Box (FrM wr p p k q F) ∧ Box (Keeps [] w2 wr)) (fun iv _ => k - (intOf iv).toNat)
      case atStart => exact ⟨0, _, rfl, by omega, HK0, HM0, HK⟩
      case round =>
        clear HM0 HK0 HK hlt hk
        obtain ⟨n, F, rfl, hn, HFK, HM, HK⟩ := hrel
        by_cases hlt : n < k
        · have hlt' : (n : Int) < (k : Int) := by omega
          have hn6 : n < 600 := by omega
          obtain ⟨bl, ol, al, cl, hal, hcl0, hnl⟩ := HG2.out.at (k := n) (by rw [HN.out]; exact hlt)
          subst hal
          have hcl : wr.cell? ⟨bl, ol + n, none⟩ = some (.slice al (nb g n).length cl) := by rw [HK.out.cell (p := ⟨bl, ol + n, none⟩) (block_lt_of_cell hcl0) (by simp)]; exact hcl0
          have HNL := hid hnl
          have cu := HUA.out.kept HK.out (by simp) n hlt
          have hnb := HOK.out.short n
          clear hnl hcl0
          by_cases hpn : Pth g noS r n
          · have h1 : (U n == (-1)) = false := by
              rw [beq_eq_false_iff_ne]
              by_cases e : n = r
              · rw [e, HU.out.root]; omega
              · obtain ⟨z, h, _⟩ := HU.out.step HOK.out.ok HRR.out hpn e
                rw [h]; omega
            have HPN := hid hpn
            clear hpn
            generalize hu : U n = un at cu h1
            clear hu
            obtain ⟨nl, hnl⟩ : ∃ nl, (nb g n).length = nl := ⟨_, rfl⟩
            have HL := hid hnl
            rw [hnl] at hcl hnb
            clear hnl
            go_wp2_with fail
            clear hcl cu h1
            go_loopw [46] (fun iv wr => ∃ (j : Nat) (F : Nat → Nat → Bool), iv = .int .i64 (j : Int) ∧ j ≤ nl ∧ Box (FrK g r n j F) ∧ Box (FrM wr p p k q F) ∧ Box (Keeps [] w2 wr)) (fun iv _ => nl - (intOf iv).toNat)
            case atStart => exact ⟨0, F, rfl, by omega, HFK, HM, HK⟩
            case round =>
              clear HFK HM HK
              obtain ⟨j, F1, rfl, hj, HFK, HM, HK⟩ := hrel
              by_cases hjl : j < nl
              · have hjl' : (j : Int) < (nl : Int) := by omega
                have hjg : j < (nb g n).length := by rw [HL.out]; exact hjl
                obtain ⟨bm, om, ham, hcm⟩ := (HNL.out.kept HK.out (by simp)).at hjg
                subst ham
                obtain ⟨b, hb⟩ : ∃ b, (nb g n).getD j 0 = b := ⟨_, rfl⟩
                have HBB := hid hb
                have hmem : b ∈ nb g n := by rw [← hb]; exact getD_mem _ _ _ hjg
                rw [hb] at hcm
                have HC := hid (HMK.out U HU.out p pu p n b q F1 _ HM.out (HUA.out.kept HK.out (by simp)) (by have := HP.out; omega) HPN.out hmem (HFK.out.upc b))
                have HJ := hid hjg
                clear hb hmem hjg
                go_wp2_with fail
                refine HC.out.mono ?_
                rintro e w5 ⟨rfl, F2, hM2, hD2, k5⟩
                have HM2 := hid hM2
                have HF2 := hid (HFK.out.edge HJ.out HBB.out hD2)
                have HK2 := hid (keeps_qs HM.out HK.out k5 (by have := HP.out; omega))
                clear hM2 hD2 k5 hcm HC
                go_wp2
                go_roundw
                case rel => exact ⟨j + 1, F2, by go_num, by omega, HF2, HM2, HK2⟩
                case measure => simp [intOf]; omega
              · obtain rfl : j = nl := by omega
                have HF2 : Box (FrK g r (n + 1) 0 F1) := hid (by have := HFK.out; rw [← HL.out] at this; exact this.row)
                go_wp2
                go_roundw
                case rel => exact ⟨n + 1, F1, by go_num, by omega, HF2, HM, HK⟩
                case measure => simp [intOf]; omega
          · have h1 : (U n == (-1)) = true := by
              rw [beq_iff_eq]
              exact HU.out.out n (by rw [HN.out]; exact hlt) hpn
            have HF2 := hid (HFK.out.skip hpn)
            clear hpn
            generalize hu : U n = un at cu h1
            clear hu
            go_wp2
            go_roundw
            case rel => exact ⟨n + 1, F, by go_num, by omega, HF2, HM, HK⟩
            case measure => simp [intOf]; omega
        · obtain rfl : n = k := by omega
          have HD := hid (fun x y => FrK.done (F := F) HOK.out.ok HRR.out (by rw [HN.out]; exact HFK.out) x y)
          go_wp2
          go_ret
          exact ⟨p, q, F, rfl, ⟨HM.out.row.base (by have := K2.out.size; have := HP.out; omega), HM.out.set, HM.out.fit, fun i hi => ⟨by have := (HM.out.low i hi).1; have := K2.out.size; have := HP.out; omega, (HM.out.low i hi).2⟩, HM.out.inj⟩, HD.out, K2.out.quiet HK.out⟩
end Go.Proofs.YtlnimcpmkammfaaDoor
