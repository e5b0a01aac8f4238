/-
  Contract: dom's visit.
-/
import Derived.Test.YtlnimcpmkammfaaDoorDFor
import Derived.Test.YtlnimcpmkammfaaDoorDRep
import Derived.Deep.AppendLies
namespace Go.Proofs.YtlnimcpmkammfaaDoor
open Go.RowKit

/-- Where a node stands among those found. -/
def plcN (N : List Nat) (m : Nat) : Int := if m ∈ N then ((N.idxOf m : Nat) : Int) else -1
theorem plcN_in {N : List Nat} {m : Nat} (h : m ∈ N) : plcN N m = ((N.idxOf m : Nat) : Int) := if_pos h
theorem plcN_out {N : List Nat} {m : Nat} (h : m ∉ N) : plcN N m = -1 := if_neg h
theorem plcN_snoc {N : List Nat} {n : Nat} (h : n ∉ N) (m : Nat) : plcN (N ++ [n]) m = if m = n then ((N.length : Nat) : Int) else plcN N m := by
  unfold plcN
  by_cases e : m = n
  · subst e
    rw [if_pos (by simp), if_pos rfl, List.idxOf_append, if_neg h]
    simp
  · rw [if_neg e]
    by_cases h1 : m ∈ N
    · rw [if_pos (by simp [h1]), if_pos h1, List.idxOf_append, if_pos h1]
    · rw [if_neg (by simp [h1, e]), if_neg h1]
theorem plcN_nil (m : Nat) : plcN [] m = -1 := rfl

theorem range_keeps {B : Nat} {w w' : World} (h : Below B w w') : ∃ L, Keeps L w w' ∧ ∀ x, x ∈ L → B ≤ x := by
  refine ⟨(List.range w.heap.size).filter fun x => decide (B ≤ x), ⟨h.os, h.tape, h.output, h.size, fun k hk hn => h.block k ?_⟩, fun x hx => by simpa using (List.mem_filter.1 hx).2⟩
  apply Classical.byContradiction
  intro hB
  exact hn (List.mem_filter.2 ⟨List.mem_range.2 hk, by simp; omega⟩)
theorem GAt.belowK {w w' : World} {B C : Nat} {a : Option Addr} {g : List (List Nat)} (h : GAt w B a g) (k : Below C w w') (hB : B ≤ C) : GAt w' B a g := by
  obtain ⟨L, k1, k2⟩ := range_keeps k
  exact h.kept k1 (fun x hx => Nat.le_trans hB (k2 x hx))
theorem bkeep {B : Nat} {L : List Nat} {a b c : World} (h : Below B a b) (k : Keeps L b c) (hB : B ≤ a.heap.size) (hL : ∀ x, x ∈ L → B ≤ x) : Below B a c :=
  h.trans (k.below (Nat.le_trans hB h.size) hL)

/-- The search's struct in block b: its graph, its places (in pp), its two lists. -/
structure VS (w : World) (base b pp N : Nat) (a : Option Addr) (cap : Nat) (vn vp : Value) (P : Nat → Int) (l1 l2 : List Nat) : Prop where
  st : StAt w b 67 #[.int .i64 (N : Int), .slice a N cap, .slice (some ⟨pp, 0, none⟩) N N, vn, vp]
  bb : base ≤ b
  pl : RowAt w base pp N 3 (numI P)
  no : w.ownsRow base 3 1 vn l1.length (ints l1)
  pa : w.ownsRow base 3 1 vp l2.length (ints l2)
  ne1 : vn.ownBlock ≠ some pp
  ne2 : vp.ownBlock ≠ some pp
  ne3 : ∀ k, vn.ownBlock = some k → vp.ownBlock ≠ some k
theorem VS.kept {w w' : World} {base b pp N : Nat} {a : Option Addr} {cap : Nat} {vn vp : Value} {P : Nat → Int} {l1 l2 L : List Nat} (h : VS w base b pp N a cap vn vp P l1 l2) (k : Keeps L w w') (hL : ∀ x, x ∈ L → w.heap.size ≤ x) : VS w' base b pp N a cap vn vp P l1 l2 := by
  have hs := h.st.lt
  have hp := h.pl.lt.2
  exact ⟨h.st.kept k (fun hx => by have := hL _ hx; omega), h.bb, h.pl.kept k (fun hx => by have := hL _ hx; omega), ownsRow_keeps h.no k (fun x hx hx' => by have := hL _ hx'; have := (h.no.lt x hx).2; omega), ownsRow_keeps h.pa k (fun x hx hx' => by have := hL _ hx'; have := (h.pa.lt x hx).2; omega), h.ne1, h.ne2, h.ne3⟩
theorem VS.quiet {w w' : World} {base b pp N : Nat} {a : Option Addr} {cap : Nat} {vn vp : Value} {P : Nat → Int} {l1 l2 : List Nat} (h : VS w base b pp N a cap vn vp P l1 l2) (k : Keeps [] w w') : VS w' base b pp N a cap vn vp P l1 l2 := h.kept k (by simp)
theorem own_ne_st {w : World} {base b n : Nat} {T : TypeId} {vs : Array Value} {v : Value} {xs : List Value} (h : StAt w b T vs) (hr : w.ownsRow base 3 1 v n xs) (hT : T ≠ 3) : v.ownBlock ≠ some b :=
  Lib.ownBlock_ne hr h.heap hT
theorem VS.setP {w : World} {base b pp N : Nat} {a : Option Addr} {cap : Nat} {vn vp : Value} {P : Nat → Int} {l1 l2 : List Nat} (h : VS w base b pp N a cap vn vp P l1 l2) (n : Nat) (v : Int) : VS (w.setCell ⟨pp, n, none⟩ (.int .i64 v)) base b pp N a cap vn vp (fun i => if i = n then v else P i) l1 l2 := by
  have k : Keeps [pp] w (w.setCell ⟨pp, n, none⟩ (.int .i64 v)) := Keeps.setCell _ _ _ _ (by simp)
  exact ⟨h.st.kept k (by simp; exact h.st.ne_row h.pl (by decide)), h.bb, numI_put h.pl n v, ownsRow_keeps h.no k (fun x hx hx' => h.ne1 (by simp at hx'; rw [hx, hx'])), ownsRow_keeps h.pa k (fun x hx hx' => h.ne2 (by simp at hx'; rw [hx, hx'])), h.ne1, h.ne2, h.ne3⟩
/-- The first list has grown. -/
theorem VS.putN {w wa w1 : World} {base b pp N : Nat} {a : Option Addr} {cap : Nat} {vn vp vn' : Value} {P : Nat → Int} {l1 l2 : List Nat} {n : Nat} (h : VS w base b pp N a cap vn vp P l1 l2) (ka : Keeps [] w wa)
    (o1 : w1.ownsRow base 3 1 vn' (l1.length + 1) (ints l1 ++ [.int .i64 (n : Int)])) (g1 : wa.grownBy w1 vn.ownBlock) (t1 : vn'.ownBlock = vn.ownBlock ∨ vn'.ownBlock = some wa.heap.size) :
    (StAt w1 b 67 #[.int .i64 (N : Int), .slice a N cap, .slice (some ⟨pp, 0, none⟩) N N, vn, vp]) ∧ VS (w1.setCell ⟨b, 3, none⟩ vn') base b pp N a cap vn' vp P (l1 ++ [n]) l2 := by
  have h2 := h.quiet ka
  have k1 : Keeps vn.ownBlock.toList wa w1 := Keeps.grown _ g1 (fun k hk => by rw [hk]; simp)
  have s1 := h2.st.kept k1 (fun hx => own_ne_st h2.st h2.no (by decide) (by simpa using hx))
  have p1 := h2.pl.kept k1 (fun hx => h.ne1 (by simpa using hx))
  have q1 := ownsRow_keeps h2.pa k1 (fun x hx hx' => h.ne3 x (by simpa using hx') hx)
  have ks : Keeps [b] w1 (w1.setCell ⟨b, 3, none⟩ vn') := Keeps.setCell _ _ _ _ (by simp)
  have e1 : vn'.ownBlock ≠ some b := own_ne_st s1 o1 (by decide)
  have e2 : vp.ownBlock ≠ some b := own_ne_st s1 q1 (by decide)
  have e3 : b ≠ pp := s1.ne_row p1 (by decide)
  refine ⟨s1, ⟨?_⟩, h.bb, p1.kept ks (by simp; exact fun e => e3 e.symm), ?_, ownsRow_keeps q1 ks (fun x hx hx' => e2 (by simp at hx'; rw [hx, hx'])), ?_, h.ne2, ?_⟩
  · have := heap_setCell_same w1 b 3 _ _ vn' s1.heap
    simpa using this
  · rw [List.length_append, show ints (l1 ++ [n]) = ints l1 ++ [.int .i64 (n : Int)] from by simp [ints]]
    exact ownsRow_keeps o1 ks (fun x hx hx' => e1 (by simp at hx'; rw [hx, hx']))
  · rcases t1 with e | e
    · rw [e]; exact h.ne1
    · rw [e]; intro e'; have := h2.pl.lt.2; simp at e'; omega
  · intro k hk
    rcases t1 with e | e
    · rw [e] at hk; exact h.ne3 k hk
    · rw [e] at hk
      intro e'
      have := (h2.pa.lt k e').2
      simp at hk
      omega
/-- The second list has grown. -/
theorem VS.putP {w wa w1 : World} {base b pp N : Nat} {a : Option Addr} {cap : Nat} {vn vp vp' : Value} {P : Nat → Int} {l1 l2 : List Nat} {n : Nat} (h : VS w base b pp N a cap vn vp P l1 l2) (ka : Keeps [] w wa)
    (o1 : w1.ownsRow base 3 1 vp' (l2.length + 1) (ints l2 ++ [.int .i64 (n : Int)])) (g1 : wa.grownBy w1 vp.ownBlock) (t1 : vp'.ownBlock = vp.ownBlock ∨ vp'.ownBlock = some wa.heap.size) :
    (StAt w1 b 67 #[.int .i64 (N : Int), .slice a N cap, .slice (some ⟨pp, 0, none⟩) N N, vn, vp]) ∧ VS (w1.setCell ⟨b, 4, none⟩ vp') base b pp N a cap vn vp' P l1 (l2 ++ [n]) := by
  have h2 := h.quiet ka
  have k1 : Keeps vp.ownBlock.toList wa w1 := Keeps.grown _ g1 (fun k hk => by rw [hk]; simp)
  have s1 := h2.st.kept k1 (fun hx => own_ne_st h2.st h2.pa (by decide) (by simpa using hx))
  have p1 := h2.pl.kept k1 (fun hx => h.ne2 (by simpa using hx))
  have q1 := ownsRow_keeps h2.no k1 (fun x hx hx' => h.ne3 x hx (by simpa using hx'))
  have ks : Keeps [b] w1 (w1.setCell ⟨b, 4, none⟩ vp') := Keeps.setCell _ _ _ _ (by simp)
  have e1 : vp'.ownBlock ≠ some b := own_ne_st s1 o1 (by decide)
  have e2 : vn.ownBlock ≠ some b := own_ne_st s1 q1 (by decide)
  have e3 : b ≠ pp := s1.ne_row p1 (by decide)
  refine ⟨s1, ⟨?_⟩, h.bb, p1.kept ks (by simp; exact fun e => e3 e.symm), ownsRow_keeps q1 ks (fun x hx hx' => e2 (by simp at hx'; rw [hx, hx'])), ?_, h.ne1, ?_, ?_⟩
  · have := heap_setCell_same w1 b 4 _ _ vp' s1.heap
    simpa using this
  · rw [List.length_append, show ints (l2 ++ [n]) = ints l2 ++ [.int .i64 (n : Int)] from by simp [ints]]
    exact ownsRow_keeps o1 ks (fun x hx hx' => e1 (by simp at hx'; rw [hx, hx']))
  · rcases t1 with e | e
    · rw [e]; exact h.ne2
    · rw [e]; intro e'; have := h2.pl.lt.2; simp at e'; omega
  · intro k hk
    rcases t1 with e | e
    · rw [e]; exact h.ne3 k hk
    · rw [e]
      intro e'
      have := (h2.no.lt k hk).2
      simp at e'
      omega
theorem VS.congr {w : World} {base b pp N : Nat} {a : Option Addr} {cap : Nat} {vn vp : Value} {P P' : Nat → Int} {l1 l2 : List Nat} (h : VS w base b pp N a cap vn vp P l1 l2) (e : ∀ i, P i = P' i) : VS w base b pp N a cap vn vp P' l1 l2 := by
  have : P = P' := funext e
  rw [← this]; exact h

/-- A search's struct with the lists so far. -/
def VSt (w : World) (base b pp N : Nat) (a : Option Addr) (cap : Nat) (vn vp : Value) (st : List Nat × List Nat) : Prop := VS w base b pp N a cap vn vp (plcN st.1) st.1 st.2

set_option maxRecDepth 20000 in
set_option maxHeartbeats 4000000 in
theorem visit_any (g : List (List Nat)) (hs : Sm g) (B base b pp : Nat) (a : Option Addr) (cap : Nat) (hB : B ≤ base) :
    ∀ (f n q : Nat) (st : List Nat × List Nat) (vn vp : Value) (w : World), Wf g st → n ∉ st.1 → n < g.length → un g (inB st.1) < f → base ≤ w.heap.size → GAt w B a g → VSt w base b pp g.length a cap vn vp st →
    Calls Tryd.prog 38 #[.pointer (some ⟨b, 0, none⟩), .int .i64 (n : Int), .int .i64 (q : Int)] w fun e w' => e = .returned (.tuple #[]) ∧ ∃ vn' vp', VSt w' base b pp g.length a cap vn' vp' (dfs g f n q st) ∧ Below base w w'
  | 0, _, _, _, _, _, _, _, _, _, h, _, _, _ => absurd h (Nat.not_lt_zero _)
  | f + 1, n, q, st, vn, vp, w, hw, hn, hl, hu, hbw, hG, h => by
    have ih := hid (visit_any g hs B base b pp a cap hB f)
    have HG := hid hG
    have HW := hid hw
    have hlen : st.1.length ≤ 600 := by
      have h1 := List.Nodup.length_le_of_subset hw.nodup (l₂ := List.range g.length) (fun m hm => List.mem_range.2 (hw.lt m hm))
      rw [List.length_range] at h1
      have := hs.len
      omega
    have hlen2 : st.2.length ≤ 600 := by rw [← hw.len]; exact hlen
    have hu1 := un_snoc hn hl
    have hn6 : n < 600 := by have := hs.len; omega
    have c2 := h.st.cell 2
    have c3 := h.st.cell 3
    have cp := h.pl.cell hl
    have fp := h.pl.frozen n
    obtain ⟨an, cn, hvn, hnn, hcn, _⟩ := ownsRow_nat h.no
    obtain ⟨ap, cpp, hvp, hnp, hcp, _⟩ := ownsRow_nat h.pa
    have hV1 := h.setP n ((st.1.length : Nat) : Int)
    have HV1 := hid hV1
    have kp : Below base w (w.setCell ⟨pp, n, none⟩ (.int .i64 ((st.1.length : Nat) : Int))) := (Keeps.setCell [pp] w ⟨pp, n, none⟩ _ (by simp)).below hbw (fun x hx => by simp at hx; subst hx; exact h.pl.lt.1)
    have d3 := hV1.st.cell 3
    have HN := hid hV1.no
    have hpsz : base ≤ (w.setCell ⟨pp, n, none⟩ (.int .i64 ((st.1.length : Nat) : Int))).heap.size := Nat.le_trans hbw kp.size
    have hbb := h.bb
    subst hvn
    obtain ⟨gl, hgl⟩ : ∃ gl, g.length = gl := ⟨_, rfl⟩
    have Hgl := hid hgl
    rw [hgl] at c2 hl HV1 ⊢
    have hl' : (n : Int) < (gl : Int) := by omega
    clear h hG hw hV1 hnn hnp hcn hcp hgl
    obtain ⟨ln, hln⟩ : ∃ ln, st.1.length = ln := ⟨_, rfl⟩
    have HLN := hid hln
    rw [hln] at c3 kp hlen d3 HN hpsz HV1
    clear hln
    go_enter Tryd.func38, Tryd.ntmps38
    go_upto_region 2 with fail
    clear c2 c3 cp fp
    generalize w.setCell ⟨pp, n, none⟩ (.int .i64 (ln : Int)) = w1 at HV1 d3 HN kp hpsz ⊢
    have hnl1 : (ints st.1).length = ln := by rw [← HLN.out]; simp [ints]
    generalize hxs : ints st.1 = xs at HN hnl1
    have HXS := hid hxs
    clear hxs
    go_upto_region 3 with (at_builtin; go_must (refine wpList_append_lies _ rfl _ _ _ rfl base 3 Tryd.t3 (.int .i64 0) 1 8 under_ints info_int zero_int size_int bytes_int rfl (by decide) (.slice an ln cn) ln xs rfl (HN.out.alloc _) ⟨w1.heap.size, 0, none⟩ 1 1 [.int .i64 (n : Int)] rfl rfl (cell_one_new _ _ _) (fun x hx => by simp at hx; subst hx; rfl) (by omega) (by unfold maxLen; omega) (by omega) (by simp; omega) (w1.heap.size + 1) (by simp) ?_; intro g5 cap5 w5 hown5 hgrow5 hat5 hlt5; have P5 := hid (HV1.out.putN (vn' := .slice (some ⟨g5, 0, none⟩) (ln + 1) cap5) (n := n) (Keeps.alloc [] _ _) (by rw [HLN.out, HXS.out]; exact hown5) hgrow5 (hat5.elim (fun e => .inl (by rw [e]; rfl)) (fun e => .inr (by rw [e]; simp [Value.ownBlock])))); have e3 := P5.out.1.cell 3; have ef := P5.out.1.frozen 3))
    have k5 : Below base w1 w5 := bkeep ((Keeps.alloc [] w1 (Obj.cells #[.int .i64 (n : Int)] 3)).below hpsz (by simp)) (Keeps.grown (Value.slice an ln cn).ownBlock.toList hgrow5 (fun k hk => by rw [hk]; simp)) hpsz (own_new HN.out)
    have HV6 := hid P5.out.2
    have k6 : Below base w1 (w5.setCell ⟨b, 3, none⟩ (.slice (some ⟨g5, 0, none⟩) (ln + 1) cap5)) := bkeep k5 (Keeps.setCell [b] w5 ⟨b, 3, none⟩ _ (by simp)) hpsz (fun x hx => by simp at hx; omega)
    have k06 := kp.trans k6
    have hsz6 : base ≤ (w5.setCell ⟨b, 3, none⟩ (.slice (some ⟨g5, 0, none⟩) (ln + 1) cap5)).heap.size := Nat.le_trans hpsz k6.size
    clear P5 hown5 hgrow5 hat5 hlt5 e3 ef k5 k6 kp HV1 d3 HN
    generalize w5.setCell ⟨b, 3, none⟩ (.slice (some ⟨g5, 0, none⟩) (ln + 1) cap5) = w6 at HV6 k06 hsz6 ⊢
    have d4 := HV6.out.st.cell 4
    have HP := hid HV6.out.pa
    obtain ⟨lp, hlp⟩ : ∃ lp, st.2.length = lp := ⟨_, rfl⟩
    have HLP := hid hlp
    rw [hlp] at HP hlen2 hvp
    subst hvp
    have hnl2 : (ints st.2).length = lp := by rw [← HLP.out]; simp [ints]
    generalize hys : ints st.2 = ys at HP hnl2
    have HYS := hid hys
    clear hys hlp
    go_upto_region 4 with (at_builtin; go_must (refine wpList_append_lies _ rfl _ _ _ rfl base 3 Tryd.t3 (.int .i64 0) 1 8 under_ints info_int zero_int size_int bytes_int rfl (by decide) (.slice ap lp cpp) lp ys rfl (HP.out.alloc _) ⟨w6.heap.size, 0, none⟩ 1 1 [.int .i64 (q : Int)] rfl rfl (cell_one_new _ _ _) (fun x hx => by simp at hx; subst hx; rfl) (by omega) (by unfold maxLen; omega) (by omega) (by simp; omega) (w6.heap.size + 1) (by simp) ?_; intro g7 cap7 w7 hown7 hgrow7 hat7 hlt7; have P7 := hid (HV6.out.putP (vp' := .slice (some ⟨g7, 0, none⟩) (lp + 1) cap7) (n := q) (Keeps.alloc [] _ _) (by rw [HLP.out, HYS.out]; exact hown7) hgrow7 (hat7.elim (fun e => .inl (by rw [e]; rfl)) (fun e => .inr (by rw [e]; simp [Value.ownBlock])))); have e3 := P7.out.1.cell 4; have ef := P7.out.1.frozen 4))
    have k7 : Below base w6 w7 := bkeep ((Keeps.alloc [] w6 (Obj.cells #[.int .i64 (q : Int)] 3)).below hsz6 (by simp)) (Keeps.grown (Value.slice ap lp cpp).ownBlock.toList hgrow7 (fun k hk => by rw [hk]; simp)) hsz6 (own_new HP.out)
    have HV8 := hid P7.out.2
    have k8 : Below base w6 (w7.setCell ⟨b, 4, none⟩ (.slice (some ⟨g7, 0, none⟩) (lp + 1) cap7)) := bkeep k7 (Keeps.setCell [b] w7 ⟨b, 4, none⟩ _ (by simp)) hsz6 (fun x hx => by simp at hx; omega)
    have k08 := k06.trans k8
    have hsz8 : base ≤ (w7.setCell ⟨b, 4, none⟩ (.slice (some ⟨g7, 0, none⟩) (lp + 1) cap7)).heap.size := Nat.le_trans hsz6 k8.size
    clear P7 hown7 hgrow7 hat7 hlt7 e3 ef k7 k8 HV6 d4 HP k06
    generalize w7.setCell ⟨b, 4, none⟩ (.slice (some ⟨g7, 0, none⟩) (lp + 1) cap7) = w8 at HV8 k08 hsz8 ⊢
    have HS0 : Box (VSt w8 base b pp gl a cap (.slice (some ⟨g5, 0, none⟩) (ln + 1) cap5) (.slice (some ⟨g7, 0, none⟩) (lp + 1) cap7) (st.1 ++ [n], st.2 ++ [q])) := hid (HV8.out.congr (fun i => by rw [plcN_snoc hn, HLN.out]))
    clear HV8
    have hw0 : Box (Wf g (st.1 ++ [n], st.2 ++ [q])) := hid (wf_snoc HW.out hn (by rw [Hgl.out]; exact hl))
    have HL := hid (dfsL_take g hs.ok f n ln (st.1 ++ [n], st.2 ++ [q]) (fun m q st => dfs_spec g hs.ok f m q st) hw0.out (by rw [← HLN.out]; simp) (by rw [← HLN.out]; simp) (show un g (inB (st.1 ++ [n])) < f by omega))
    have HD : Box (dfs g (f + 1) n q st = dfsL g f ln (nb g n) (st.1 ++ [n], st.2 ++ [q])) := hid (by rw [dfs_succ, HLN.out])
    have Hu1 : Box (un g (inB (st.1 ++ [n])) < f) := hid (by omega)
    obtain ⟨s0, hs0⟩ : ∃ s0, (st.1 ++ [n], st.2 ++ [q]) = s0 := ⟨_, rfl⟩
    have hs01 : st.1 ++ [n] = s0.1 := by rw [← hs0]
    rw [hs01] at Hu1
    rw [hs0] at HS0 hw0 HL HD
    obtain ⟨bl, off, ai, ci, rfl, hc, hN⟩ := (HG.out.belowK k08 hB).at (by rw [Hgl.out]; exact hl)
    have HN := hid hN
    have hnl := hs.short n
    have Hnb := hid (fun m hm => hs.ok n m hm)
    have c1 := HS0.out.st.cell 1
    clear hN hs0 hs01 hu hu1 hn HW HLP HYS HXS hnl1 hnl2 hlen2
    generalize nb g n = N at hc HN hnl Hnb HL HD ⊢
    go_wp2_with fail
    go_loopw [50] (fun i wr => ∃ (k : Nat) (vn vp : Value), k ≤ N.length ∧ i = .int .i64 k ∧ Box (VSt wr base b pp gl (some ⟨bl, off, none⟩) cap vn vp (dfsL g f ln (N.take k) s0)) ∧ Box (Below base w8 wr)) (fun i _ => N.length - (intOf i).toNat)
    case atStart => exact ⟨0, _, _, by omega, rfl, HS0, hid (Below.refl _ _)⟩
    case round =>
      clear HS0 c1 hc
      obtain ⟨k, vn, vp, hk, rfl, HR, HB⟩ := hrel
      by_cases hlt : k < N.length
      · obtain ⟨Lx, kx, hLx⟩ := range_keeps HB.out
        obtain ⟨bm, om, rfl, hcm⟩ := (HN.out.kept kx (fun x hx => Nat.le_trans hB (hLx x hx))).at hlt
        obtain ⟨m, hm⟩ : ∃ m, N.getD k 0 = m := ⟨_, rfl⟩
        have hml : m < gl := by rw [← Hgl.out, ← hm]; exact Hnb.out _ (getD_mem N k 0 hlt)
        have htk := hid (take_snoc N k 0 hlt)
        rw [hm] at hcm htk
        have hnext := hid (dfsL_snoc g f ln m (N.take k) s0)
        have hVL := hid (HL.out k)
        clear hm kx hLx
        obtain ⟨s1, hs1⟩ : ∃ s1, dfsL g f ln (N.take k) s0 = s1 := ⟨_, rfl⟩
        rw [hs1] at HR hnext hVL
        clear hs1
        have c2 := HR.out.st.cell 2
        have cpl := HR.out.pl.cell hml
        unfold numI at cpl
        have hml' : (m : Int) < (gl : Int) := by omega
        have hm6 : m < 600 := by have := hs.len; have := Hgl.out; omega
        by_cases hin : m ∈ s1.1
        · rw [plcN_in hin] at cpl
          have hb1 : (((s1.1.idxOf m : Nat) : Int) == (-1)) = false := by rw [beq_eq_false_iff_ne]; omega
          generalize s1.1.idxOf m = z at cpl hb1
          rw [if_pos hin] at hnext
          go_wp2
          go_roundw
          case rel => exact ⟨k + 1, vn, vp, by omega, by go_num, hid (by rw [htk.out, hnext.out]; exact HR.out), HB⟩
          case measure => simp [intOf]; omega
        · rw [plcN_out hin] at cpl
          rw [if_neg hin] at hnext
          have hsub : un g (inB s1.1) < f := by
            obtain ⟨X, Y, e1, _⟩ := hVL.out.ex
            refine Nat.lt_of_le_of_lt (un_in_mono (N := s0.1) fun x hx => ?_) Hu1.out
            rw [e1]
            exact List.mem_append_left _ hx
          have HVS := HR.out
          rw [← Hgl.out] at HVS
          have HC := hid (ih.out m ln s1 vn vp wr hVL.out.wf hin (by rw [Hgl.out]; exact hml) hsub (Nat.le_trans hsz8 HB.out.size) ((HG.out.belowK k08 hB).belowK HB.out hB) HVS)
          rw [Hgl.out] at HC
          clear HVS hsub
          go_wp2_with fail
          refine HC.out.mono ?_
          rintro e w9 ⟨rfl, vn9, vp9, h9, k9⟩
          have H9 := hid h9
          have K9 := hid (HB.out.trans k9)
          clear h9 k9 HC HR HB
          go_wp2
          go_roundw
          case rel => exact ⟨k + 1, vn9, vp9, by omega, by go_num, hid (by rw [htk.out, hnext.out]; exact H9.out), K9⟩
          case measure => simp [intOf]; omega
      · obtain rfl : k = N.length := by omega
        rw [List.take_length] at HR
        go_wp2
        go_end0
        exact ⟨rfl, vn, vp, by rw [HD.out]; exact HR.out, k08.trans HB.out⟩
end Go.Proofs.YtlnimcpmkammfaaDoor
