/-
  The document's own bytes of a list of types.
-/
import Derived.Test.YtmipbaihlodmdaaDoorCRf
namespace Go.Proofs.YtmipbaihlodmdaaDoor
open Go.RowKit

/-- Bytes are appended, at a step of a region that draws its order. -/
theorem step_app_b {ops : Array Oper} {o : Oper} {a : Act} {K : Act → World → Prop} {Q : Exit → Act → World → Prop} {E : Prop} (hgd : o.guard = none) (s x : Operand) (ho : o.op = .call { callee := .builtin .append, args := #[s, x], argTypes := #[25, 25] })
    {w0 w : World} {v : Value} {B : List UInt8} (hs : a.eval s = v) (hB : OB w0 w v B) {b off m c : Nat} {T : List UInt8} (hx : a.eval x = .slice (some ⟨b, off, none⟩) m c) (hm : m = T.length) (hT : 0 < T.length) (hnews : ∀ i, i < T.length → w.cell? ⟨b, off + i, none⟩ = some (.int .u8 ((T.getD i 0).toNat : Int)))
    (hlen : B.length + T.length ≤ 140737488355328)
    (h : ∀ g cap N w', Box (N = (B ++ T).length) → OB w0 w' (.slice (some ⟨g, 0, none⟩) N cap) (B ++ T) → w.grownBy w' v.ownBlock → K (a.put o.dst (.slice (some ⟨g, 0, none⟩) N cap)) w') :
    if Region.wanted o (yielded ops a.tmps) = true then Oper.wp Tryd.prog o a w K Q else E := by
  subst hm
  refine step_append_lies w hgd s x 25 ho w0.heap.size 5 Tryd.t5 (.int .u8 0) 1 1 under_bytes info_u8 zero_u8 size_u8 bytes_u8 rfl (by decide) v B.length (Lib.byteCells B) hs hB.own ⟨b, off, none⟩ T.length c (Lib.byteCells T) hx (by rw [Lib.byteCells_length]; omega) (bytes_news hnews) (bytes_one T) hT (by unfold maxLen; omega) (by omega) hB.keeps.size w.heap.size rfl ?_
  intro g cap w' h1 h2 _ _
  exact h g cap (B.length + T.length) w' (hid List.length_append.symm) ⟨by rw [List.length_append, Lib.byteCells_append]; exact h1, (Keeps.refl [] w0).quiet (hB.keeps.appended hB.own h2 (Nat.le_refl _))⟩ h2
/-- What a number's bytes are, behind what a call has made. -/
structure NB (w : World) (g : Nat) (T : List UInt8) : Prop where
  at_ : ∀ i, i < T.length → w.cell? ⟨g, 0 + i, none⟩ = some (.int .u8 ((T.getD i 0).toNat : Int))
theorem NB.quiet {w w' : World} {g : Nat} {T : List UInt8} (h : NB w g T) (k : Keeps [] w w') : NB w' g T := ⟨fun i hi => cell_stays k (h.at_ i hi)⟩
theorem NB.grown {w w' : World} {g : Nat} {T : List UInt8} {bl : Option Nat} (h : NB w g T) (hgr : w.grownBy w' bl) (hne : bl ≠ some g) : NB w' g T := ⟨fun i hi => by
  have hc := h.at_ i hi
  rw [World.cell?_of_block (w := w) (hgr.block g (block_lt_of_cell hc) (fun e => hne e.symm))]
  exact hc⟩
theorem OB.apart {w0 w1 w2 : World} {v : Value} {B T : List UInt8} {g n c : Nat} (h : OB w0 w1 v B) (k : OB w1 w2 (.slice (some ⟨g, 0, none⟩) n c) T) : v.ownBlock ≠ some g := by
  intro e
  have h1 := h.own.lt g e
  have h2 := k.own.lt g rfl
  omega
set_option maxRecDepth 20000 in
set_option maxHeartbeats 4000000 in
theorem ftypes_any {w : World} {a : Option Addr} {cp : Nat} {l : List (Int × Int)} (hr : RowsAt w 2 TyC a l) (hl : l.length ≤ maxLen) (hs : (tysE l).length ≤ 35184372088832) : Calls Tryd.prog 19 #[.slice a l.length cp] w (ObPost w (tysE l)) := by
  have hb : b64 (l.length : Int) := by unfold b64; unfold maxLen at hl; omega
  have H1 := hid (fnum_any _ hb w)
  have HR := hid hr
  have HZ : Box (∀ k, (headE tyE l k).length ≤ 35184372088832) := hid (fun k => Nat.le_trans (headE_len tyE l k) hs)
  obtain ⟨n, hn⟩ : ∃ n, n = l.length := ⟨_, rfl⟩
  rw [← hn] at H1 hl ⊢
  have HL := hid hn
  have hn1 : (n : Int) ≤ 9223372036854775807 := by unfold maxLen at hl; omega
  clear hr hb hl hn hs
  go_enter Tryd.func19, Tryd.ntmps19
  go_wp2_with fail
  refine H1.out.mono ?_
  rintro e w1 ⟨v1, rfl, O1⟩
  have HO0 : Box (OB w w1 v1 (headE tyE l 0)) := hid (by rw [headE_zero, ← HL.out]; exact O1)
  clear H1 O1
  go_wp2_with fail
  go_loopw [3, 4] (fun bv iv wr => ∃ k : Nat, k ≤ n ∧ iv = .int .i64 (k : Int) ∧ Box (OB w wr bv (headE tyE l k))) (fun _ iv _ => n - (intOf iv).toNat)
  case atStart => exact ⟨0, by omega, rfl, HO0⟩
  case round =>
    obtain ⟨k, hk, rfl, HO⟩ := hrel
    clear HO0
    by_cases hlt : k < n
    · have hlt' : (k : Int) < (n : Int) := by omega
      have hk0 : (0 : Int) ≤ (k : Int) := by omega
      obtain ⟨y, hy⟩ : ∃ y, l[k]? = some y := ⟨_, List.getElem?_eq_getElem (by rw [← HL.out]; exact hlt)⟩
      obtain ⟨b, off, rfl, hc⟩ := HR.out.at hy
      have HD : Box (∀ w', Keeps [] w w' → w'.cell? ⟨b, off + k * 2, none⟩ = some (.int .i64 y.1) ∧ w'.cell? ⟨b, off + k * 2 + 1, none⟩ = some (.int .i64 y.2)) := hid (fun w' kk => ⟨cell_stays kk hc.c0.1, cell_stays kk hc.c1.1⟩)
      obtain ⟨d0, d1⟩ := HD.out _ HO.out.keeps
      have HC1 := hid fun (w' : World) => fnum_any y.1 hc.c0.2 w'
      have HC2 := hid fun (w' : World) => fnum_any y.2 hc.c1.2 w'
      have HE : Box (headE tyE l (k + 1) = headE tyE l k ++ numE y.1 ++ numE y.2) := hid (by rw [headE_succ tyE hy, List.append_assoc]; rfl)
      have hz := HZ.out (k + 1)
      rw [HE.out, List.length_append, List.length_append] at hz
      have HY := hid hz
      have HP1 := hid (numE_pos y.1)
      have HP2 := hid (numE_pos y.2)
      obtain ⟨m1, hm1⟩ : ∃ m, m = (numE y.1).length := ⟨_, rfl⟩
      obtain ⟨m2, hm2⟩ : ∃ m, m = (numE y.2).length := ⟨_, rfl⟩
      have HM1 := hid hm1
      have HM2 := hid hm2
      obtain ⟨y1, hy1⟩ : ∃ z, z = y.1 := ⟨_, rfl⟩
      obtain ⟨y2, hy2⟩ : ∃ z, z = y.2 := ⟨_, rfl⟩
      rw [← hy1] at d0 HD HC1 HE HY HP1 HM1
      rw [← hy2] at d1 HD HC2 HE HY HP2 HM2
      clear hc hy hz hm1 hm2 hy1 hy2
      have HOD := hid (HO.out.quiet (Keeps.drew [] wr))
      obtain ⟨av, cv, hu3, _⟩ := HO.out.open
      have HFIN : Box (∀ (v : Value) (w' : World), OB w w' v (headE tyE l k ++ numE y1 ++ numE y2) → OB w w' v (headE tyE l (k + 1))) := hid (fun v w' h => by rw [HE.out]; exact h)
      clear HE HO
      generalize headE tyE l k = B0 at *
      obtain ⟨n0, hn0⟩ : ∃ m, m = B0.length := ⟨_, rfl⟩
      rw [← hn0] at hu3
      subst hu3
      clear hn0
      go_upto_region 5 with fail
      go_region_held3 (fun w' => w'.cell? ⟨b, off + k * 2, none⟩ = some (.int .i64 y1) ∧ w'.cell? ⟨b, off + k * 2 + 1, none⟩ = some (.int .i64 y2)) (go_keep) (first
        | (go_at_call 18; revert oF; intro oF; refine (HC2.out _).mono ?_; rintro e w7 ⟨v7, rfl, O7⟩; obtain ⟨g7, c7, rfl, n7⟩ := O7.row HP2.out; have nF := NB.mk n7; have oF := oF.quiet O7.keeps; obtain ⟨d0, d1⟩ := HD.out _ oF.keeps; rw [← HM2.out])
        | (go_at_call 18; revert oA; intro oA; refine (HC2.out _).mono ?_; rintro e w7 ⟨v7, rfl, O7⟩; obtain ⟨g7, c7, rfl, n7⟩ := O7.row HP2.out; have nB := NB.mk n7; have hne := oA.apart O7; have nA := nA.quiet O7.keeps; have oA := oA.quiet O7.keeps; obtain ⟨d0, d1⟩ := HD.out _ oA.keeps; rw [← HM2.out])
        | (go_at_call 18; refine (HC1.out _).mono ?_; rintro e w6 ⟨v6, rfl, O6⟩; obtain ⟨g6, c6, rfl, n6⟩ := O6.row HP1.out; have nA := NB.mk n6; have oA := HOD.out.quiet O6.keeps; obtain ⟨d0, d1⟩ := HD.out _ oA.keeps; rw [← HM1.out])
        | (refine step_app_b (by rfl) _ _ (by rfl) (by rfl) oF (by rfl) HM2.out HP2.out nF.at_ (by have := HY.out; rw [List.length_append]; omega) ?_; intro g9 c9 N9 w9 hN9 oZ hgr9; obtain ⟨d0, d1⟩ := HD.out _ oZ.keeps)
        | (refine step_app_b (by rfl) _ _ (by rfl) (by rfl) oA (by rfl) HM1.out HP1.out nA.at_ (by have := HY.out; omega) ?_; intro g8 c8 N8 w8 hN8 oF hgr8; have nF := nB.grown hgr8 hne; obtain ⟨d0, d1⟩ := HD.out _ oF.keeps)
        | (refine step_app_b (by rfl) _ _ (by rfl) (by rfl) oA (by rfl) HM1.out HP1.out nA.at_ (by have := HY.out; omega) ?_; intro g8 c8 N8 w8 hN8 oF hgr8; obtain ⟨d0, d1⟩ := HD.out _ oF.keeps))
      all_goals have HZZ := hid oZ
      all_goals clear oZ
      all_goals go_wp2_with fail
      all_goals exact ⟨⟨k + 1, by omega, by go_num, hid (HFIN.out _ _ HZZ.out)⟩, by simp [intOf]; omega⟩
    · obtain rfl : k = n := by omega
      go_wp2_with fail
      go_ret
      exact ⟨_, rfl, by rw [show tysE l = headE tyE l k by rw [HL.out]; exact (headE_all tyE l).symm]; exact HO.out⟩
end Go.Proofs.YtmipbaihlodmdaaDoor
