/-
  Contract: graph's strong, the strongly connected parts.
-/
import Derived.Test.YtngdnjlohmkbiaaDoorGBack
namespace Go.Proofs.YtngdnjlohmkbiaaDoor
open Go.RowKit Go.Shelf

attribute [local go_sem] Oper.semAt_some

theorem Keeps.others {L : List Nat} {W W' : World} (k : Keeps L W W') (hL : ∀ x, x ∈ L → ∀ o, W.heap[x]? = some o → o.isCells = true) : KeepsOthers W W' := by
  refine ⟨k.size, fun x o hx ho => ?_⟩
  rw [k.block x (Array.getElem?_eq_some_iff.1 hx).1 (fun hm => by rw [hL x hm o hx] at ho; cases ho)]
  exact hx

/-- A block of one cell. -/
structure OneAt (w : World) (b : Nat) (T : TypeId) (x : Value) : Prop where
  heap : w.heap[b]? = some (.cells #[x] T (0, 0))
theorem OneAt.cell {w : World} {b : Nat} {T : TypeId} {x : Value} (h : OneAt w b T x) : w.cell? ⟨b, 0, none⟩ = some x := by rw [cell_of_row w b 0 _ _ _ h.heap]; rfl
theorem OneAt.frozen {w : World} {b : Nat} {T : TypeId} {x : Value} (h : OneAt w b T x) : w.frozen? ⟨b, 0, none⟩ = false := frozen_of_row w b 0 _ _ h.heap
theorem OneAt.lt {w : World} {b : Nat} {T : TypeId} {x : Value} (h : OneAt w b T x) : b < w.heap.size := (Array.getElem?_eq_some_iff.1 h.heap).1
theorem OneAt.kept {w w' : World} {b : Nat} {T : TypeId} {x : Value} {L : List Nat} (h : OneAt w b T x) (k : Keeps L w w') (hb : b ∉ L) : OneAt w' b T x := ⟨by rw [k.block b h.lt hb]; exact h.heap⟩
theorem OneAt.new (w : World) (T : TypeId) (x : Value) : OneAt (w.alloc (.cells #[x] T)) w.heap.size T x := ⟨heap_alloc_new w _⟩
theorem OneAt.put {w : World} {b : Nat} {T : TypeId} {x : Value} (h : OneAt w b T x) (y : Value) : OneAt (w.setCell ⟨b, 0, none⟩ y) b T y := ⟨by rw [heap_setCell_same w b 0 _ _ _ h.heap]; rfl⟩

theorem LsOwn.kept {w w' : World} {base : Nat} {v : Value} {vs : List Value} {ps : List (List Nat)} {F : List Nat} (h : LsOwn w base v vs ps) (k : Keeps F w w') (h1 : ∀ b, v.ownBlock = some b → b ∉ F) (h2 : ∀ i, i < ps.length → ∀ b, (vs.getD i nilS).ownBlock = some b → b ∉ F) : LsOwn w' base v vs ps :=
  ⟨ownsRow_keeps h.outer k h1, fun i hi => ownsRow_keeps (h.inner i hi) k (h2 i hi)⟩

theorem own_cells {w : World} {base : Nat} {e : TypeId} {size : Nat} {v : Value} {n : Nat} {xs : List Value} (h : w.ownsRow base e size v n xs) {b : Nat} (hb : v.ownBlock = some b) : ∃ cur, w.heap[b]? = some (.cells cur e (0, 0)) := by
  rcases h.2 with ⟨rfl, _⟩ | ⟨g, cap, cur, rfl, _, hg, _⟩
  · simp [Value.ownBlock] at hb
  · simp [Value.ownBlock] at hb
    subst hb
    exact ⟨cur, hg⟩

theorem owns_form {w : World} {base : Nat} {e : TypeId} {size : Nat} {v : Value} {k : Nat} {xs : List Value} (h : w.ownsRow base e size v (k + 1) xs) : ∃ g cap, v = .slice (some ⟨g, 0, none⟩) (k + 1) cap := by
  rcases h.2 with ⟨_, h0⟩ | ⟨g, cap, _, rfl, _⟩
  · omega
  · exact ⟨g, cap, rfl⟩

/-- A made graph whose blocks lie from lo on, below hi. -/
def TG (w : World) (lo hi p n : Nat) (L : Nat → List Nat) : Prop := ∃ vs, OwnL w lo p n vs L ∧ p < hi ∧ ∀ i, i < n → ∀ b, (vs i).ownBlock = some b → b < hi
theorem TG.kept {w w' : World} {lo hi p n : Nat} {L : Nat → List Nat} {F : List Nat} (h : TG w lo hi p n L) (k : Keeps F w w') (hF : ∀ x, x ∈ F → x < lo ∨ hi ≤ x) : TG w' lo hi p n L := by
  obtain ⟨vs, ho, hp, hi'⟩ := h
  refine ⟨vs, ho.kept k (fun hx => ?_) (fun i hn b hb hx => ?_), hp, hi'⟩
  · have := ho.outer.lt
    rcases hF p hx with h | h <;> omega
  · have h1 := ((ho.inner i hn).lt b hb).1
    have h2 := hi' i hn b hb
    rcases hF b hx with h | h <;> omega
theorem TG.graph {w : World} {lo hi p n : Nat} {L : Nat → List Nat} (h : TG w lo hi p n L) : GAt w hi (some ⟨p, 0, none⟩) ((List.range n).map L) := by
  obtain ⟨vs, ho, hp, hi'⟩ := h
  refine .inr ⟨p, 0, rfl, hp, fun j hj => ?_⟩
  rw [listsI_len, List.length_map, List.length_range] at hj
  obtain ⟨a, cap, hv, hn, _, _⟩ := ownsRow_nat (ho.inner j hj)
  refine ⟨a, cap, ?_, ?_⟩
  · rw [Nat.zero_add, ho.cell hj, hv, listsI_get, intsI_len, nb_map L n j hj]
  · rw [listsI_get, nb_map L n j hj]
    rcases hn with h | ⟨b, off, rfl, _, hc⟩
    · exact .inl h
    · exact .inr ⟨b, off, rfl, hi' j hj b (by rw [hv]; rfl), hc⟩

/-- In the midst of strong's second search. -/
structure SM (w0 : World) (B0 gl b6 b7 b8 bt pb : Nat) (h : Nat → List Nat) (W : World) (st : (Nat → Bool) × List (List Nat)) : Prop where
  keep : Keeps [] w0 W
  p6 : ∃ pv vs, OneAt W b6 25 pv ∧ LsOwn W B0 pv vs st.2
  p7 : TwoAt W b7 (.int .i64 (gl : Int)) (.slice (some ⟨pb, 0, none⟩) gl gl)
  p8 : OneAt W b8 30 (.pointer (some ⟨bt, 0, none⟩))
  set : SetAt W bt st.1
  gr : TG W (b6 + 1) bt pb gl h
  fit : Fit st.1
  le : B0 ≤ W.heap.size

theorem SM.own {w0 : World} {B0 gl b6 b7 b8 bt pb : Nat} {h : Nat → List Nat} {W W' : World} {st : (Nat → Bool) × List (List Nat)} (s : SM w0 B0 gl b6 b7 b8 bt pb h W st) {F : List Nat} (k : Keeps F W W') (hF : ∀ x, x ∈ F → B0 ≤ x ∧ ∃ o, W.heap[x]? = some o ∧ o.isCells = false)
    (hw : w0.heap.size ≤ B0) (h6 : b6 < B0) (h7 : b7 < B0) (h8 : b8 < B0) (ht : bt < B0) : SM w0 B0 gl b6 b7 b8 bt pb h W' st := by
  have nl : ∀ b, b < B0 → b ∉ F := fun b hb hx => by have := (hF b hx).1; omega
  have nc : ∀ b cur T fr, W.heap[b]? = some (.cells cur T fr) → b ∉ F := by
    intro b cur T fr hb hx
    obtain ⟨o, ho, hc⟩ := (hF b hx).2
    rw [hb] at ho
    cases ho
    cases hc
  obtain ⟨pv, vs, hp, hl⟩ := s.p6
  refine ⟨s.keep.fresh k (fun x hx => by have := (hF x hx).1; omega), ⟨pv, vs, hp.kept k (nl _ h6), hl.kept k ?_ ?_⟩, s.p7.kept k (nl _ h7), s.p8.kept k (nl _ h8), s.set.kept k (nl _ ht), s.gr.kept k (fun x hx => .inr (by have := (hF x hx).1; omega)), s.fit, Nat.le_trans s.le k.size⟩
  · intro b hb
    obtain ⟨cur, hc⟩ := own_cells hl.outer hb
    exact nc b _ _ _ hc
  · intro i hi b hb
    obtain ⟨cur, hc⟩ := own_cells (hl.inner i hi) hb
    exact nc b _ _ _ hc
theorem SM.quiet {w0 : World} {B0 gl b6 b7 b8 bt pb : Nat} {h : Nat → List Nat} {W W' : World} {st : (Nat → Bool) × List (List Nat)} (s : SM w0 B0 gl b6 b7 b8 bt pb h W st) (k : Keeps [] W W') : SM w0 B0 gl b6 b7 b8 bt pb h W' st := by
  obtain ⟨pv, vs, hp, hl⟩ := s.p6
  exact ⟨s.keep.quiet k, ⟨pv, vs, hp.kept k (by simp), hl.kept k (by simp) (by simp)⟩, s.p7.kept k (by simp), s.p8.kept k (by simp), s.set.kept k (by simp), s.gr.kept k (by simp), s.fit, Nat.le_trans s.le k.size⟩

theorem turn_inner {g : List (List Nat)} (hs : Sm g) (j : Nat) : (nb (turnG g) j).length ≤ 1000000 := by
  by_cases hj : j < g.length
  · rw [nb_turn hj]
    have h1 := deg_short hs j g.length
    have h2 := hs.len
    show deg g g.length j ≤ 1000000
    omega
  · rw [nb_out (by rw [turnG_len]; omega)]
    simp

/-- Where the second search begins. -/
structure Start (w wr W4 : World) (s5 k pb : Nat) (g : List (List Nat)) (dv : Value) : Prop where
  sm : SM w (s5 + 1 + 1 + 1 + 1) k wr.heap.size (s5 + 1) (s5 + 1 + 1) s5 pb (inTo g k) W4 (noS, [])
  bs : OneAt W4 (s5 + 1 + 1 + 1) 23 dv
  size : W4.heap.size = s5 + 1 + 1 + 1 + 1
  keep : Keeps [] wr W4
  low : wr.heap.size < s5
theorem sm_start {w wr w5 : World} {k pb : Nat} {vsb : Nat → Value} {g : List (List Nat)} (dv : Value) (hkwr : Keeps [] w wr) (hk5 : Keeps [] (wr.alloc (Obj.cells #[.slice none 0 0] 25)) w5)
    (hob : OwnL w5 (wr.alloc (Obj.cells #[.slice none 0 0] 25)).heap.size pb k vsb (inTo g k)) :
    Start w wr ((((w5.alloc (Obj.cells (row none_) 60)).alloc (Obj.cells #[.int .i64 (k : Int), .slice (some ⟨pb, 0, none⟩) k k] 27)).alloc (Obj.cells #[.pointer (some ⟨w5.heap.size, 0, none⟩)] 30)).alloc (Obj.cells #[dv] 23)) w5.heap.size k pb g dv := by
  have hk6 : Keeps [] wr (wr.alloc (Obj.cells #[.slice none 0 0] 25)) := Keeps.alloc _ _ _
  have hlow : wr.heap.size < w5.heap.size := by have := hk5.size; simp at this; omega
  have h6 := (OneAt.new wr 25 (.slice none 0 0)).kept hk5 (by simp)
  have hgr : TG w5 (wr.heap.size + 1) w5.heap.size pb k (inTo g k) := by
    rw [World.size_alloc] at hob
    exact ⟨vsb, hob, hob.outer.lt.2, fun i hi b hb => ((hob.inner i hi).lt b hb).2⟩
  have h1 := setAt_new w5 none_
  have k1 : Keeps [] w5 (w5.alloc (Obj.cells (row none_) 60)) := Keeps.alloc _ _ _
  have z1 : (w5.alloc (Obj.cells (row none_) 60)).heap.size = w5.heap.size + 1 := by simp
  generalize w5.alloc (Obj.cells (row none_) 60) = W1 at h1 k1 z1 ⊢
  have h2 := TwoAt.new W1 (.int .i64 (k : Int)) (.slice (some ⟨pb, 0, none⟩) k k)
  have k2 : Keeps [] W1 (W1.alloc (Obj.cells #[.int .i64 (k : Int), .slice (some ⟨pb, 0, none⟩) k k] 27)) := Keeps.alloc _ _ _
  have z2 : (W1.alloc (Obj.cells #[.int .i64 (k : Int), .slice (some ⟨pb, 0, none⟩) k k] 27)).heap.size = w5.heap.size + 1 + 1 := by simp; omega
  rw [z1] at h2
  generalize W1.alloc (Obj.cells #[.int .i64 (k : Int), .slice (some ⟨pb, 0, none⟩) k k] 27) = W2 at h2 k2 z2 ⊢
  have h3 := OneAt.new W2 30 (.pointer (some ⟨w5.heap.size, 0, none⟩))
  have k3 : Keeps [] W2 (W2.alloc (Obj.cells #[.pointer (some ⟨w5.heap.size, 0, none⟩)] 30)) := Keeps.alloc _ _ _
  have z3 : (W2.alloc (Obj.cells #[.pointer (some ⟨w5.heap.size, 0, none⟩)] 30)).heap.size = w5.heap.size + 1 + 1 + 1 := by simp; omega
  rw [z2] at h3
  generalize W2.alloc (Obj.cells #[.pointer (some ⟨w5.heap.size, 0, none⟩)] 30) = W3 at h3 k3 z3 ⊢
  have h4 := OneAt.new W3 23 dv
  have k4 : Keeps [] W3 (W3.alloc (Obj.cells #[dv] 23)) := Keeps.alloc _ _ _
  have z4 : (W3.alloc (Obj.cells #[dv] 23)).heap.size = w5.heap.size + 1 + 1 + 1 + 1 := by simp; omega
  rw [z3] at h4
  generalize W3.alloc (Obj.cells #[dv] 23) = W4 at h4 k4 z4 ⊢
  have k34 := k3.quiet k4
  have k24 := k2.quiet k34
  have k14 := k1.quiet k24
  refine ⟨⟨((hkwr.quiet hk6).quiet hk5).quiet k14, ⟨.slice none 0 0, [], h6.kept k14 (by simp), World.ownsRow_nil _ _ _ _, fun i hi => absurd hi (Nat.not_lt_zero _)⟩, h2.kept k34 (by simp), h3.kept k4 (by simp), h1.kept k24 (by simp), hgr.kept k14 (by simp), fit_none, by omega⟩, h4, z4, (hk6.quiet hk5).quiet k14, hlow⟩

/-- A part more. -/
theorem SM.part {w0 : World} {B0 gl b6 b7 b8 bt pb : Nat} {h : Nat → List Nat} {W W1 W2 wa W3 : World} {t t' : Nat → Bool} {ps : List (List Nat)} {pv v1 pv' : Value} {vs : List Value} {l : List Nat} (s : SM w0 B0 gl b6 b7 b8 bt pb h W (t, ps))
    (h6 : OneAt W b6 25 pv) (hl : LsOwn W B0 pv vs ps) (k1 : Keeps [bt] W W1) (hset : SetAt W1 bt t') (hfit : Fit t') (k2 : Keeps v1.ownBlock.toList W1 W2) (hrow : W2.ownsRow B0 3 1 v1 l.length (ints l)) (hnew : ∀ b, v1.ownBlock = some b → W.heap.size ≤ b)
    (ka : Keeps [] W2 wa) (hout : W3.ownsRow B0 23 1 pv' (ps.length + 1) (vs ++ [v1])) (hg : wa.grownBy W3 pv.ownBlock)
    (hw : w0.heap.size ≤ b6) (h6t : b6 < bt) (ht7 : bt < b7) (h78 : b7 < b8) (h8B : b8 < B0) :
    SM w0 B0 gl b6 b7 b8 bt pb h (W3.setCell ⟨b6, 0, none⟩ pv') (t', ps ++ [l]) ∧ Keeps (bt :: b6 :: pv.ownBlock.toList) W (W3.setCell ⟨b6, 0, none⟩ pv') := by
  have hle := s.le
  have hvl : vs.length = ps.length := by have := hl.outer.1; omega
  have k3 : Keeps pv.ownBlock.toList wa W3 := Keeps.grown _ hg (fun x hx => by rw [hx]; simp)
  have k4 : Keeps [b6] W3 (W3.setCell ⟨b6, 0, none⟩ pv') := Keeps.setCell _ _ _ _ (by simp)
  have pvB : ∀ b, b ∈ pv.ownBlock.toList → B0 ≤ b := own_new hl.outer
  have kA : Keeps [bt] W W2 := k1.trans k2 (fun x hx hlt => by have := hnew x (by simpa using hx); omega)
  have kB : Keeps [bt] W wa := kA.quiet ka
  have kC : Keeps (bt :: pv.ownBlock.toList) W W3 := (kB.mono (L' := bt :: pv.ownBlock.toList) (by simp)).trans k3 (fun x hx _ => List.mem_cons_of_mem _ hx)
  have kD : Keeps (bt :: b6 :: pv.ownBlock.toList) W (W3.setCell ⟨b6, 0, none⟩ pv') :=
    (kC.mono (L' := bt :: b6 :: pv.ownBlock.toList) (fun x hx => by
      rcases List.mem_cons.1 hx with e | e
      · rw [e]; simp
      · exact List.mem_cons_of_mem _ (List.mem_cons_of_mem _ e))).trans k4 (fun x hx _ => by simp at hx; subst hx; simp)
  have low : ∀ b, b < B0 → b ≠ bt → b ≠ b6 → b ∉ bt :: b6 :: pv.ownBlock.toList := by
    intro b hb h1 h2 hx
    rcases List.mem_cons.1 hx with e | e
    · exact h1 e
    · rcases List.mem_cons.1 e with e | e
      · exact h2 e
      · have := pvB b e; omega
  have h6w : OneAt W3 b6 25 pv := h6.kept kC (fun hx => by
    rcases List.mem_cons.1 hx with e | e
    · omega
    · have := pvB b6 e; omega)
  have hset3 : SetAt (W3.setCell ⟨b6, 0, none⟩ pv') bt t' := by
    have hb1 : bt ∉ v1.ownBlock.toList := fun hx => by have := hnew bt (by simpa using hx); omega
    have hb2 : bt ∉ pv.ownBlock.toList := fun hx => by have := pvB bt hx; omega
    exact ((((hset.kept k2 hb1).kept ka (by simp)).kept k3 hb2).kept k4 (by simp; omega))
  refine ⟨⟨s.keep.fresh kD ?_, ⟨pv', vs ++ [v1], h6w.put pv', ?_, ?_⟩, s.p7.kept kD (low b7 (by omega) (by omega) (by omega)), s.p8.kept kD (low b8 (by omega) (by omega) (by omega)), hset3, s.gr.kept kD ?_, hfit, Nat.le_trans hle kD.size⟩, kD⟩
  · intro x hx
    rcases List.mem_cons.1 hx with e | e
    · omega
    · rcases List.mem_cons.1 e with e | e
      · omega
      · have := pvB x e; omega
  · show (W3.setCell ⟨b6, 0, none⟩ pv').ownsRow B0 23 1 pv' (ps ++ [l]).length (vs ++ [v1])
    rw [List.length_append]
    exact ownsRow_keeps hout k4 (fun b hb hx => by
      simp at hx
      subst hx
      have := (hout.lt b hb).1
      omega)
  · intro i hi
    have hi2 : i < (ps ++ [l]).length := hi
    have hi' : i < ps.length + 1 := by rw [List.length_append] at hi2; exact hi2
    have pn : ∀ b cur fr, wa.heap[b]? = some (.cells cur 3 fr) → b ∉ pv.ownBlock.toList := by
      intro b cur fr hb hx
      have hpw := ownsRow_keeps hl.outer kB (fun c hc hx => by simp at hx; have := pvB c (by rw [hc]; simp); omega)
      exact Lib.ownBlock_ne hpw hb (by decide) (by simpa using hx)
    have n6 : ∀ b, B0 ≤ b → b ∉ [b6] := fun b hb hx => by simp at hx; omega
    by_cases e : i < ps.length
    · have e1 : (vs ++ [v1]).getD i nilS = vs.getD i nilS := by rw [List.getD_eq_getElem?_getD, List.getD_eq_getElem?_getD, List.getElem?_append_left (by omega)]
      have e2 : nb (ps ++ [l]) i = nb ps i := by unfold nb; rw [List.getD_eq_getElem?_getD, List.getD_eq_getElem?_getD, List.getElem?_append_left e]
      rw [e1, e2]
      have ow := ownsRow_keeps (hl.inner i e) kB (fun b hb hx => by simp at hx; have := ((hl.inner i e).lt b hb).1; omega)
      refine ownsRow_keeps (ownsRow_keeps ow k3 (fun b hb => ?_)) k4 (fun b hb => n6 b ((hl.inner i e).lt b hb).1)
      obtain ⟨cur, hc⟩ := own_cells ow hb
      exact pn b cur _ hc
    · obtain rfl : i = ps.length := by omega
      have e1 : (vs ++ [v1]).getD ps.length nilS = v1 := by rw [List.getD_eq_getElem?_getD, ← hvl]; simp
      have e2 : nb (ps ++ [l]) ps.length = l := by unfold nb; rw [List.getD_eq_getElem?_getD]; simp
      rw [e1, e2]
      have ow := ownsRow_keeps hrow ka (by simp)
      refine ownsRow_keeps (ownsRow_keeps ow k3 (fun b hb => ?_)) k4 (fun b hb => n6 b (hrow.lt b hb).1)
      obtain ⟨cur, hc⟩ := own_cells ow hb
      exact pn b cur _ hc
  · intro x hx
    rcases List.mem_cons.1 hx with e | e
    · exact .inr (by omega)
    · rcases List.mem_cons.1 e with e | e
      · exact .inl (by omega)
      · exact .inr (by have := pvB x e; omega)

set_option maxRecDepth 100000 in
set_option maxHeartbeats 4000000 in
theorem strong_in (g : List (List Nat)) (hs : Sm g) (a : Option Addr) (cap B : Nat) (w : World) (hG : GAt w B a g) (hB : B ≤ w.heap.size) :
    CallsIn Fence.wide 8 Tryd.prog 37 #[.agg #[.int .i64 (g.length : Int), .slice a g.length cap]] w fun e w' => ∃ v vs, e = .returned v ∧ LsOwn w' w.heap.size v vs (sccs g) ∧ Keeps [] w w' := by
  have hzero := zero_set
  have H2 := hid (two_new w B a cap g hG)
  have HS := hid hs
  have hg6 := hs.len
  clear hG hs
  refine callsIn_of_wp_marks Tryd.func37 rfl trivial ?_ rfl
  simp only [Tryd.ntmps37, List.size_toArray, List.length_cons, List.length_nil, Nat.reduceAdd, Nat.reduceSub, Array.replicate_succ, Array.replicate_zero, List.push_toArray, List.append_toArray, List.nil_append, List.cons_append]
  have wf1 : Fence.wide.fn 35 := trivial
  have wf2 : Fence.wide.fn 25 := trivial
  have wf3 : Fence.wide.fn 53 := trivial
  have wf4 : Fence.wide.fn 55 := trivial
  gi_wp2_with fail
  generalize (w.alloc (Obj.cells #[.int .i64 (g.length : Int), .slice a g.length cap] 27)).alloc (Obj.cells (row none_) 60) = w2 at H2 ⊢
  generalize row none_ = R
  have F0 : Box (Srch w2 w2 (w.heap.size + 1) w.heap.size (.slice none 0 0) (.slice none 0 0) (visL g (g.length + 1) (List.range 0) (none_, []))) := hid (Srch.refl (b := w.heap.size + 1) (st := (none_, [])) H2.out.set (nil_row w2 _))
  obtain ⟨n, hn⟩ : ∃ n, g.length = n := ⟨_, rfl⟩
  rw [hn] at hg6 ⊢
  have HN := hid hn
  clear hn
  gi_loopw [3, 16] (fun vs i wr => ∃ (k : Nat) (vr : Value), k ≤ n ∧ i = .int .i64 k ∧ vr = vs ∧ Box (Srch w2 wr (w.heap.size + 1) w.heap.size (.slice none 0 0) vr (visL g (g.length + 1) (List.range k) (none_, [])))) (fun _ i _ => n - (intOf i).toNat)
  case atStart => exact ⟨0, _, by omega, rfl, rfl, F0⟩
  case round =>
    obtain ⟨k, vr, hk, rfl, rfl, FR⟩ := hrel
    have hkw : Keeps [w.heap.size + 1] w2 wr := by
      have := FR.out.keep
      simpa [Value.ownBlock] using this
    have hlen := visL_len g HS.out.ok (g.length + 1) (List.range k) (none_, []) (fun m hm => by rw [List.mem_range] at hm; rw [HN.out]; omega)
    have hnode := visL_node g HS.out.ok (g.length + 1) (List.range k) (none_, [])
    have hfit : Fit (visL g (g.length + 1) (List.range k) (none_, [])).1 := Fit.node HS.out.len fit_none (fun m hm => hnode m (fun a ha => by rw [List.mem_range] at ha; rw [HN.out]; omega) hm)
    clear hnode
    have hbx := H2.out.box.kept hkw (by simp)
    rw [HN.out] at hbx
    have hc0 := hbx.c0
    have hc1 := hbx.c1
    by_cases hlt : k < n
    · have hnext := hid (visL_snoc g (g.length + 1) (List.range k) k (none_, []))
      obtain ⟨st, hst⟩ : ∃ st, visL g (g.length + 1) (List.range k) (none_, []) = st := ⟨_, rfl⟩
      rw [hst] at hlen hfit FR hnext
      have hun := un_le g none_
      have hun2 := un_le g st.1
      have hlen' : st.2.length + un g st.1 ≤ 100000 := by
        have : st.2.length + un g st.1 ≤ ([] : List Nat).length + un g none_ := hlen
        have h6 := HS.out.len
        simp at this
        omega
      have HC := hid (finish_any g HS.out.ok HS.out.len HS.out.inner B (w.heap.size + 1) w.heap.size a cap (by omega) hB (g.length + 1) k st.1 st.2 vr wr (by rw [HN.out]; exact hlt) (by omega) hlen' (H2.out.gr.kept hkw (fun x hx => by simp at hx; omega)) (Nat.le_trans H2.out.keep.size hkw.size) FR.out.set hfit FR.out.row)
      rw [HN.out] at HC
      clear hlen hfit hst hlen' hun hun2 hbx
      gi_wp2_with (gi_at_call 35; refine (callsIn_wide.2 HC.out).mono ?_; rintro e w3 ⟨v3, rfl, F3⟩)
      have F4 := hid (FR.out.trans F3)
      clear F3 FR HC
      go_roundw
      case rel => exact ⟨k + 1, v3, by omega, by go_num, rfl, hid (by rw [List.range_succ, hnext.out, HN.out]; exact F4.out)⟩
      case measure => simp [intOf]; omega
    · obtain rfl : k = n := by omega
      have hl0 : w.heap.size < wr.heap.size := hbx.lt
      have hgr := H2.out.gr.kept hkw (fun x hx => by simp at hx; omega)
      have hsz := Nat.le_trans H2.out.keep.size hkw.size
      have hk6 : Keeps [] wr (wr.alloc (Obj.cells #[.slice none 0 0] 25)) := Keeps.alloc _ _ _
      have HT := hid (turn_any g HS.out a cap B (wr.alloc (Obj.cells #[.slice none 0 0] 25)) (hgr.quiet hk6) (by have := hk6.size; omega))
      rw [HN.out] at HT
      obtain ⟨av, cd, hvr, hNd, _, _⟩ := ownsRow_nat FR.out.row
      have hleft : (visL g (g.length + 1) (List.range k) (none_, [])).2 = left g := by unfold left; rw [HN.out]; rfl
      rw [hleft] at hvr hNd
      have HND := hid hNd
      have hav : Box (∀ x, vr.ownBlock = some x → x < wr.heap.size) := hid (fun x e => (FR.out.row.lt x e).2)
      have hLl : (left g).length ≤ k := by
        have h1 : (visL g (g.length + 1) (List.range k) (none_, [])).2.length + un g (visL g (g.length + 1) (List.range k) (none_, [])).1 ≤ ([] : List Nat).length + un g none_ := hlen
        have h2 := un_le g none_
        rw [hleft] at h1
        rw [HN.out] at h2
        simp at h1
        omega
      obtain ⟨ln, hln⟩ : ∃ ln, (left g).length = ln := ⟨_, rfl⟩
      rw [hln] at hvr hLl
      have HLN := hid hln
      have hleft0 : Box (∀ x, x ∈ left g → x < k) := hid (fun x hx => by
        have := (left_spec g HS.out.ok).lt HS.out.ok (fun n hn => List.mem_range.1 hn) x hx
        rwa [HN.out] at this)
      subst hvr
      have hkwr : Keeps [] w wr := H2.out.keep.fresh hkw (fun x hx => by simp at hx; omega)
      clear hbx hgr F0 hleft hln hlen hfit FR hNd H2
      gi_wp2_with (first | (gi_at_call 25; refine (callsIn_wide.2 HT.out).mono ?_; rintro e w5 ⟨pb, vsb, rfl, hob, hk5⟩) | (gi_at_call 53; refine (backward_in Fence.wide _ trivial rfl _ _ _ _).mono ?_; rintro e w9 ⟨rfl, rfl⟩))
      have HST := hid (sm_start (w := w) (.slice av ln cd) hkwr hk5 hob)
      have hs5 : wr.heap.size < w5.heap.size := HST.out.low
      clear HT hk5 hob hk6
      generalize hR4 : (((w5.alloc (Obj.cells (row none_) 60)).alloc (Obj.cells #[.int .i64 (k : Int), .slice (some ⟨pb, 0, none⟩) k k] 27)).alloc (Obj.cells #[.pointer (some ⟨w5.heap.size, 0, none⟩)] 30)).alloc (Obj.cells #[.slice av ln cd] 23) = W4 at HST ⊢
      clear hR4
      generalize w5.heap.size = s5 at HST hs5 ⊢
      have hz4 := HST.out.size
      obtain ⟨it, hit⟩ : ∃ it : Nat → { x : Nat × Nat // x.2 < max k 1 }, ∀ j, j < ln → (it j).1 = (ln - 1 - j, (left g).getD (ln - 1 - j) 0) := by
        refine ⟨fun j => if h : (left g).getD (ln - 1 - j) 0 < max k 1 then ⟨(ln - 1 - j, (left g).getD (ln - 1 - j) 0), h⟩ else ⟨(0, 0), by show 0 < max k 1; omega⟩, fun j hj => ?_⟩
        have hlt : (left g).getD (ln - 1 - j) 0 < max k 1 := by
          have := hleft0.out _ (getD_mem (left g) (ln - 1 - j) 0 (by rw [HLN.out]; omega))
          omega
        simp only [dif_pos hlt]
      have HIT := hid hit
      clear hit
      refine wpIn_rangeFunc_ownG (F := Fence.wide) (α := { x : Nat × Nat // x.2 < max k 1 }) rfl (by decide) (gf := 61) (lb := #[.pointer (some ⟨s5 + 1 + 1 + 1, 0, none⟩)]) rfl trivial (enters_of Tryd.func61 (by kernel_rfl) rfl)
        (encs := fun x => #[.int .i64 (x.1.1 : Int), .int .i64 (x.1.2 : Int)]) (Kp := KpL ((s5 + 1 + 1 + 1) :: (Value.slice av ln cd).ownBlock.toList)) (S := fun ys => ys = upto it ln) (Sp := fun pre => ∃ j, j ≤ ln ∧ pre = upto it j) (N := ln) (w0 := W4) ?hseq KpL.trans (KpL.putObj ?hLK) (Below.refl _ _) (fun _ => rfl)
        (fun pre W => SM w (s5 + 1 + 1 + 1 + 1) k wr.heap.size (s5 + 1) (s5 + 1 + 1) s5 pb (inTo g k) W (second (turnG g) (g.length + 1) (pre.map (fun x => x.1.2)) (noS, [])) ∧ (second (turnG g) (g.length + 1) (pre.map (fun x => x.1.2)) (noS, [])).2.length ≤ pre.length)
        (fun _ _ _ => False) ?hI (fun _ _ _ _ _ h _ _ => h) ⟨HST.out.sm, Nat.le_refl _⟩
        (fun x => { tmps := #[.agg #[.int .i64 (k : Int), .slice a k cap], .pointer (some ⟨w.heap.size, 0, none⟩), .slice none 0 0, .slice av ln cd, .pointer (some ⟨w.heap.size + 1, 0, none⟩), u5, .pointer (some ⟨wr.heap.size, 0, none⟩), .pointer (some ⟨s5 + 1, 0, none⟩), .pointer (some ⟨s5 + 1 + 1, 0, none⟩), undef, .int .i64 (x.1.2 : Int), undef, .agg R, .pointer (some ⟨w.heap.size + 1, 0, none⟩), .pointer (some ⟨w.heap.size, 0, none⟩), .int .i64 (k : Int), .int .i64 (k : Int), .bool false, u18, u19, u20, u21, u22, u23, u24, .agg #[.int .i64 (k : Int), .slice a k cap], .agg #[.int .i64 (k : Int), .slice (some ⟨pb, 0, none⟩) k k], .agg (row none_), .pointer (some ⟨s5, 0, none⟩), .slice av ln cd, .func (.func 61) #[] #[.pointer (some ⟨s5 + 1 + 1 + 1, 0, none⟩)], .int .i64 (x.1.1 : Int), .int .i64 (x.1.2 : Int), undef, undef, undef, undef, undef, undef, undef, undef, undef, undef, undef, undef, undef, undef, undef, undef], defers := [] }) ?assign ?body ?done ?stop
      case hseq =>
        intro l J Jx W hW _ _ hY h0
        have hbs := (hW.cell (p := ⟨s5 + 1 + 1 + 1, 0, none⟩) (by show s5 + 1 + 1 + 1 < W4.heap.size; omega)).trans HST.out.bs.cell
        refine backward1_in Fence.wide 7 trivial rfl (by decide) l (s5 + 1 + 1 + 1) av ln cd (left g) _ (fun x => x.1.1) (fun x => x.1.2) it (by omega) (by simp) (fun b off e => by rw [e]; simp [Value.ownBlock]) (fun j hj => by rw [HIT.out j hj]; exact ⟨rfl, rfl⟩) J Jx hY W hbs ?_ h0
        have h4 := HND.out.kept HST.out.keep (by simp)
        by_cases hz : ln = 0
        · exact .inl hz
        · right
          rcases h4 with h | ⟨b, off, e, hb, hc⟩
          · have h2 : (intsI (left g)).length = 0 := by rw [h]; rfl
            rw [intsI_len, HLN.out] at h2
            omega
          · refine ⟨b, off, e, fun j hj => ?_⟩
            have h5 := hc j (by rw [intsI_len, HLN.out]; exact hj)
            rw [intsI_get] at h5
            exact (hW.cell (p := ⟨b, off + j, none⟩) (by show b < W4.heap.size; omega)).trans h5
      case hLK =>
        intro x hx
        rcases List.mem_cons.1 hx with e | e
        · omega
        · have := hav.out x (by simpa using e)
          omega
      case hI =>
        intro s W W' row hs hg hr
        refine ⟨hs.1.own (Keeps.grown row.toList hg (fun x hx => by rw [hx]; simp)) (fun x hx => ?_) (by omega) (by omega) (by omega) (by omega) (by omega), hs.2⟩
        have := hr x (by simpa using hx)
        exact ⟨by omega, this.2⟩
      case assign =>
        intro l x W K hK
        gi_wp2
        exact hK
      case body =>
        rintro l pre x W ⟨hSM, hps⟩ hpl
        have HSM := hid hSM
        clear hSM
        obtain ⟨pv, vs, h6, hl⟩ := HSM.out.p6
        have hnx : x.1.2 < k := by have := x.2; omega
        have hc8 := HSM.out.p8.cell
        have wf5 : Fence.wide.fn 29 := trivial
        have wf7 : Fence.wide.fn 54 := trivial
        have hsa : Box (second (turnG g) (g.length + 1) ((pre ++ [x]).map (fun x => x.1.2)) (noS, []) = second (turnG g) (g.length + 1) [x.1.2] (second (turnG g) (g.length + 1) (pre.map (fun x => x.1.2)) (noS, []))) := hid (by rw [List.map_append, second_append]; rfl)
        have HH := hid (has_any s5 _ x.1.2 W HSM.out.set HSM.out.fit)
        obtain ⟨st, hst⟩ : ∃ st, second (turnG g) (g.length + 1) (pre.map (fun x => x.1.2)) (noS, []) = st := ⟨_, rfl⟩
        rw [hst] at HSM hsa HH hps hl
        obtain ⟨n, hn⟩ : ∃ n, x.1.2 = n := ⟨_, rfl⟩
        rw [hn] at HH hnx hsa ⊢
        have e2 : hasI st.1 (n : Int) = st.1 n := by simp [hasI]
        rw [e2] at HH
        clear hn hst e2
        cases htn : st.1 n with
        | true =>
          rw [htn] at HH
          have hin := hid (second_in (turnG g) (g.length + 1) n [] st htn)
          gi_wp2_with (gi_at_call 29; refine (CallsIn.inRound l (callsIn_wide.2 HH.out)).mono ?_; rintro e w2 ⟨rfl, m, rfl⟩)
          refine ⟨(Keeps.others (Keeps.drewN [] W m) (by simp)).from _, fun _ _ => rfl, ?_, ?_⟩
          · rw [hsa.out, hin.out]
            exact HSM.out.quiet (Keeps.drewN _ _ _)
          · rw [hsa.out, hin.out, List.length_append]
            exact Nat.le_trans hps (Nat.le_add_right _ _)
        | false =>
          rw [htn] at HH
          have hout := hid (second_out (turnG g) (g.length + 1) n [] st htn)
          have hgr : ∀ m, GAt (W.drewN m) s5 (some ⟨pb, 0, none⟩) (turnG g) := by
            intro m
            have := (HSM.out.gr.kept (Keeps.drewN [] W m) (by simp)).graph
            rw [← HN.out] at this
            exact this
          have hun : un (turnG g) st.1 ≤ k := by have := un_le (turnG g) st.1; rwa [turnG_len, HN.out] at this
          obtain ⟨N, hvis, hfnd⟩ := vis_spec (turnG g) (turn_ok g) (g.length + 1) n st.1 [] (by rw [turnG_len, HN.out]; exact hnx) (by rw [HN.out]; omega)
          rw [List.nil_append] at hvis
          have hNl : N.length ≤ k := by
            have h1 := vis_len (turnG g) (turn_ok g) (g.length + 1) n (st.1, []) (by rw [turnG_len, HN.out]; exact hnx)
            rw [hvis] at h1
            have h2 : N.length + un (turnG g) (orL st.1 N) ≤ 0 + un (turnG g) st.1 := h1
            omega
          have hN0 : N ≠ [] := by
            intro e
            rcases hfnd.all n (by simp) with h | h
            · rw [htn] at h; cases h
            · rw [e] at h; cases h
          have HF := hid (fun m => finish_any (turnG g) (turn_ok g) (by rw [turnG_len, HN.out]; exact hg6) (turn_inner HS.out) s5 s5 (s5 + 1 + 1 + 1 + 1) (some ⟨pb, 0, none⟩) k (Nat.le_refl _) (by omega) (g.length + 1) n st.1 [] (.slice none 0 0) (W.drewN m) (by rw [turnG_len, HN.out]; exact hnx) (by rw [HN.out]; omega) (by simp; omega) (hgr m) HSM.out.le (HSM.out.set.drewN m) HSM.out.fit (nil_row _ _))
          rw [hvis, turnG_len, HN.out] at HF
          have hfit2 : Fit (orL st.1 N) := by
            refine Fit.node (g := turnG g) (by rw [turnG_len, HN.out]; exact hg6) HSM.out.fit (fun m hm => ?_)
            rcases orL_true.1 hm with h | h
            · exact .inl h
            · exact .inr (hfnd.lt (turn_ok g) (fun a ha => by simp at ha; subst ha; rw [turnG_len, HN.out]; exact hnx) m h)
          have hsecond : Box (second (turnG g) (g.length + 1) [n] st = (orL st.1 N, st.2 ++ [asc k N])) := hid (by
            rw [hout.out, hvis, turnG_len, HN.out]
            rfl)
          have HSRT := hid (fun v w2 hr => sort_any v N (s5 + 1 + 1 + 1 + 1) k w2 hr hfnd.good.nodup (fun y hy => by
            have := hfnd.lt (turn_ok g) (fun a ha => by simp at ha; subst ha; rw [turnG_len, HN.out]; exact hnx) y hy
            rwa [turnG_len, HN.out] at this) hN0 (by omega))
          have hc70 := HSM.out.p7.c0
          have hc71 := HSM.out.p7.c1
          have Hl := hid hl
          have H6 := hid h6
          have hN0' := hid hN0
          clear hvis hgr hl h6 hN0
          gi_wp2_with (first | (gi_at_call 29; refine (CallsIn.inRound l (callsIn_wide.2 HH.out)).mono ?_; rintro e w2 ⟨rfl, m, rfl⟩) | (gi_at_call 35; refine (CallsIn.inRound l (callsIn_wide.2 (HF.out _))).mono ?_; rintro e w3 ⟨v3, rfl, F3⟩))
          have k1 : Keeps [s5] W w3 := ((Keeps.drewN [s5] W m).trans F3.keep (fun y hy _ => by simpa [Value.ownBlock] using hy))
          have hnew : ∀ b, v3.ownBlock = some b → W.heap.size ≤ b := by
            intro b hb
            refine Nat.le_of_not_lt fun hlt => ?_
            have := F3.near b hb hlt
            simp [Value.ownBlock] at this
          have HK1 := hid k1
          have HNW := hid hnew
          have HF3 := hid F3
          obtain ⟨g3, c3, rfl, _, _⟩ := cell0 (l := N) F3.row hN0'.out
          have HC := hid (HSRT.out _ w3 F3.row)
          clear k1 hnew F3 HSRT HF HH
          refine (CallsIn.inRound l (callsIn_wide.2 HC.out)).mono ?_
          rintro e w4 ⟨rfl, hrow4, hk4⟩
          have HR4 := hid hrow4
          have HK4 := hid hk4
          have k14 : Keeps [s5] W w4 := HK1.out.trans hk4 (fun y hy hlt => by have := HNW.out y (by simpa using hy); omega)
          have h64 : OneAt w4 wr.heap.size 25 pv := H6.out.kept k14 (by simp; omega)
          have hc6 := h64.cell
          have hb6l := h64.lt
          have HO : Box (w4.ownsRow (s5 + 1 + 1 + 1 + 1) 23 1 pv st.2.length vs) := hid (ownsRow_keeps Hl.out.outer k14 (fun b hb hx => by simp at hx; have := (Hl.out.outer.lt b hb).1; omega))
          have H64 := hid h64
          have hW4 : s5 + 1 + 1 + 1 + 1 ≤ w4.heap.size := Nat.le_trans HSM.out.le k14.size
          have hps6 : st.2.length ≤ 600 := by omega
          clear hrow4 hk4 h64 k14
          gi_wp2_with (gi_at_builtin; go_must (refine wpListIn_append_own _ rfl _ _ 25 rfl (s5 + 1 + 1 + 1 + 1) 23 Tryd.t23 (.slice none 0 0) 1 24 under_lists info_ints zero_ints size_ints bytes_ints rfl (by decide) pv _ _ rfl (HO.out.alloc _) ⟨w4.heap.size, 0, none⟩ 1 1 [.slice (some ⟨g3, 0, none⟩) N.length c3] rfl rfl (cell_one_new _ _ _) (fun u hu => by simp at hu; subst hu; rfl) (by unfold maxLen; omega) (by omega) (by simp; omega) ?_; intro pv' w6 hown6 hgrow6 hnil6; obtain ⟨g6, c6, hv6⟩ := owns_form hown6; have h66 : OneAt w6 wr.heap.size 25 pv := (H64.out.kept (Keeps.alloc [] _ _) (by simp)).kept (Keeps.grown pv.ownBlock.toList hgrow6 (fun y hy => by rw [hy]; simp)) (fun hx => by have := (HO.out.lt _ (by simpa using hx)).1; omega); have hc66 := h66.cell; have hf66 := h66.frozen; have HO6 := hid hown6; have HG6 := hid hgrow6; clear hown6 hgrow6 hnil6 h66; subst hv6))
          have HP := HSM.out.part (t := st.1) (ps := st.2) H6.out Hl.out HK1.out HF3.out.set hfit2 HK4.out HR4.out HNW.out (Keeps.alloc [] _ _) HO6.out HG6.out (by omega) (by omega) (by omega) (by omega) (by omega)
          refine ⟨?_, ?_, ?_, ?_⟩
          · refine (Keeps.others HP.2 (fun y hy o ho => ?_)).from _
            rcases List.mem_cons.1 hy with e | e
            · rw [e, HSM.out.set.heap] at ho; cases ho; rfl
            · rcases List.mem_cons.1 e with e | e
              · rw [e, H6.out.heap] at ho; cases ho; rfl
              · obtain ⟨cur, hcur⟩ := own_cells Hl.out.outer (b := y) (by simpa using e)
                rw [hcur] at ho; cases ho; rfl
          · intro y hy
            refine HP.2.block y ?_ ?_
            · have := HSM.out.le
              rcases List.mem_cons.1 hy with e | e
              · omega
              · have := hav.out y (by simpa using e); omega
            · intro hx
              have hyl : y < s5 + 1 + 1 + 1 + 1 := by
                rcases List.mem_cons.1 hy with e | e
                · omega
                · have := hav.out y (by simpa using e); omega
              rcases List.mem_cons.1 hx with e | e
              · rcases List.mem_cons.1 hy with e2 | e2
                · omega
                · have := hav.out y (by simpa using e2); omega
              · rcases List.mem_cons.1 e with e | e
                · rcases List.mem_cons.1 hy with e2 | e2
                  · omega
                  · have := hav.out y (by simpa using e2); omega
                · have := (Hl.out.outer.lt y (by simpa using e)).1; omega
          · rw [hsa.out, hsecond.out]
            exact HP.1
          · rw [hsa.out, hsecond.out, List.length_append, List.length_append]
            exact Nat.add_le_add_right hps 1
      case done =>
        rintro D ys W hD rfl ⟨hSM, hps⟩ hK
        have hmap : (upto it ln).map (fun x => x.1.2) = (left g).reverse := by
          unfold upto
          rw [List.map_map]
          apply List.ext_getElem?
          intro i
          rw [List.getElem?_map]
          by_cases hi : i < ln
          · rw [List.getElem?_range hi, List.getElem?_reverse (by rw [HLN.out]; exact hi), HLN.out]
            show some (it i).1.2 = _
            rw [HIT.out i hi, List.getElem?_eq_getElem (by rw [HLN.out]; omega), List.getD_eq_getElem?_getD, List.getElem?_eq_getElem (by rw [HLN.out]; omega)]
            rfl
          · rw [List.getElem?_eq_none (by rw [List.length_range]; omega), List.getElem?_eq_none (by rw [List.length_reverse, HLN.out]; omega)]
            rfl
        rw [hmap] at hSM hps
        rw [upto_length] at hps
        have hperm := second_sccs HS.out.ok
        obtain ⟨pv, vs, h6, hl⟩ := hSM.p6
        have hne : ∀ p, p ∈ (second (turnG g) (g.length + 1) (left g).reverse (noS, [])).2 → p ≠ [] := by
          intro p hp e
          obtain ⟨a, ha, ep⟩ := (mem_sccs HS.out.ok p).1 (hperm.mem_iff.2 hp)
          have := part_self HS.out.ok ha
          rw [← ep, e] at this
          cases this
        have HC := hid (sortf_any pv vs _ (sccs g) (s5 + 1 + 1 + 1 + 1) W hl hne hperm (sccs_pw HS.out.ok) (by omega))
        have hc6 := h6.cell
        have hDp : pv.ownBlock ≠ some D := by
          intro e
          obtain ⟨cur, hcur⟩ := own_cells hl.outer e
          rw [hK] at hcur
          cases hcur
        have hpw : ∀ x, x ∈ pv.ownBlock.toList → w.heap.size ≤ x := fun x hx => by have := own_new hl.outer x hx; omega
        have h6p : wr.heap.size ∉ pv.ownBlock.toList := fun hx => by have := own_new hl.outer _ hx; omega
        have H6 := hid h6
        have HKP := hid hSM.keep
        have HL := hid hl
        clear hSM hl h6 hne hperm hps hmap
        gi_wp2_with (gi_at_call 55; refine (callsIn_wide.2 HC.out).mono ?_; rintro e w7 ⟨rfl, ⟨vs7, hl7⟩, hk7⟩; have hc67 := (H6.out.kept hk7 h6p).cell)
        have hK7 : w7.heap[D]? = some (.deferred (some [])) := by
          rw [hk7.block D (Array.getElem?_eq_some_iff.1 hK).1 (fun hx => hDp (by simpa using hx))]
          exact hK
        refine ⟨by simp, .inl ⟨_, _, rfl, run_takeDeferred hK7, ?_⟩⟩
        have kD : Keeps [D] w7 (w7.putObj D (.deferred none)) := Keeps.grownRow (grownBy_putObj' _ D _)
        have hkw7 : Keeps [] w w7 := HKP.out.fresh hk7 hpw
        refine ⟨_, results_tmp rfl _ _ _, pv, vs7, rfl, ?_, hkw7.fresh kD (fun x hx => by simp at hx; omega)⟩
        have hl8 : LsOwn (w7.putObj D (.deferred none)) (s5 + 1 + 1 + 1 + 1) pv vs7 (sccs g) := by
          refine hl7.kept kD (fun b hb hx => ?_) (fun i hi b hb hx => ?_)
          · simp at hx
            subst hx
            exact hDp hb
          · simp at hx
            subst hx
            obtain ⟨cur, hcur⟩ := own_cells (hl7.inner i hi) hb
            rw [hK7] at hcur
            cases hcur
        exact ⟨ownsRow_base hl8.outer (by omega), fun i hi => ownsRow_base (hl8.inner i hi) (by omega)⟩
      case stop =>
        rintro D c pre W _ _ h _
        exact h.elim

/-- strong: the strongly connected parts, by their least nodes. -/
theorem strong_any (g : List (List Nat)) (hs : Sm g) (a : Option Addr) (cap B : Nat) (w : World) (hG : GAt w B a g) (hB : B ≤ w.heap.size) :
    Calls Tryd.prog 37 #[.agg #[.int .i64 (g.length : Int), .slice a g.length cap]] w fun e w' => ∃ v vs, e = .returned v ∧ LsOwn w' w.heap.size v vs (sccs g) ∧ Keeps [] w w' :=
  callsIn_wide.1 (strong_in g hs a cap B w hG hB)
end Go.Proofs.YtngdnjlohmkbiaaDoor
