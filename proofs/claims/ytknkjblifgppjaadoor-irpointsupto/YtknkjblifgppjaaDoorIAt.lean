/-
  slices.Clone of numbers; ir.At: the instruction at a point.
-/
import Derived.Test.YtknkjblifgppjaaDoorINxt
import Derived.Test.YtknkjblifgppjaaDoorIPrn
namespace Go.Proofs.YtknkjblifgppjaaDoor
open Go.RowKit Go.Shelf

theorem clone_nil (n c : Nat) (w : World) : Calls Tryd.prog 32 #[.slice none n c] w fun e w' => e = .returned (.slice none 0 0) ∧ w' = w := by
  have q : ∀ (w : World) (a : Option Addr) (n c n' c' : Nat), (binOp .eql 32 (.slice a n c) (.slice none n' c')).run Tryd.prog w = .ok (.bool a.isNone) w := fun w a n c n' c' => Lib.run_eql_slice_nil w _ _ a n c n' c' Tryd.underlying32
  go_enter Tryd.func32, Tryd.ntmps32
  go_wp2
  go_ret
  exact ⟨rfl, rfl⟩
set_option maxHeartbeats 2000000 in
theorem clone_some (ad : Addr) (n c : Nat) (zs : List Int) (w : World) (hl : zs.length = n) (hz : IntsAt w (some ad) zs) (hb : n ≤ 17592186044416) :
    Calls Tryd.prog 32 #[.slice (some ad) n c] w fun e w' => ∃ v, e = .returned v ∧ w'.ownsRow w.heap.size 3 1 v n (numC zs) ∧ Keeps [] w w' := by
  have q : ∀ (w : World) (a : Option Addr) (n c n' c' : Nat), (binOp .eql 32 (.slice a n c) (.slice none n' c')).run Tryd.prog w = .ok (.bool a.isNone) w := fun w a n c n' c' => Lib.run_eql_slice_nil w _ _ a n c n' c' Tryd.underlying32
  have H : Box (∀ j u, (numC zs)[j]? = some u → w.cell? (ad.add j) = some u) := hid (by
    rcases hz with e | ⟨b, off, e, h⟩
    · intro j u hj; rw [e] at hj; simp [numC] at hj
    · cases e
      exact numC_at h)
  have HL := hid hl
  clear hz hl
  go_enter Tryd.func32, Tryd.ntmps32
  go_wp2_with (at_builtin; go_must (refine wpList_append_own _ rfl _ _ 32 rfl w.heap.size 3 Tryd.t3 (.int .i64 0) 1 8 under_ints info_int zero_int size_int bytes_int rfl (by decide) _ _ _ rfl (World.ownsRow_made w #[] 0 (Nat.le_refl _) (Nat.zero_le _) rfl) ad n c (numC zs) rfl (by rw [numC_len, HL.out]; omega) (fun j u hj => Lib.cell?_alloc_some _ (H.out j u hj)) (numC_one zs) (by unfold maxLen; omega) (by omega) (by simp) ?_; intro v' w1 hown hgrow hnil))
  have HO := hid hown
  have hg2 : (w.alloc (Obj.cells #[] 3)).grownBy w1 (some w.heap.size) := hgrow
  have HK := hid ((Keeps.alloc [] w _).trans (Keeps.grown [w.heap.size] hg2 (fun k hk => by simp at hk; simp [hk])) (fun x hx hlt => by simp at hx; omega) : Keeps [] w w1)
  clear hown hgrow hnil hg2
  go_wp2_with fail
  go_ret
  exact ⟨v', rfl, by simpa using HO.out, HK.out⟩
theorem clone_any (a : Option Addr) (c : Nat) (zs : List Int) (w : World) (hz : IntsAt w a zs) (hb : zs.length ≤ 17592186044416) :
    Calls Tryd.prog 32 #[.slice a zs.length c] w fun e w' => ∃ a' c', e = .returned (.slice a' zs.length c') ∧ IntsAt w' a' zs ∧ Keeps [] w w' ∧ ∀ b off, a' = some ⟨b, off, none⟩ → w.heap.size ≤ b := by
  cases a with
  | none =>
    obtain rfl : zs = [] := by
      rcases hz with e | ⟨b, off, e, _⟩
      · exact e
      · cases e
    refine (clone_nil 0 c w).mono ?_
    rintro e w' ⟨rfl, rfl⟩
    exact ⟨none, 0, rfl, Or.inl rfl, Keeps.refl _ _, fun _ _ e => by cases e⟩
  | some ad =>
    refine (clone_some ad zs.length c zs w rfl hz hb).mono ?_
    rintro e w' ⟨v, rfl, ho, hk⟩
    obtain ⟨a', c', e1, _, h1, _, h2⟩ := nums_open ho
    exact ⟨a', c', by rw [e1], h1, hk, h2⟩

def zero8 : In8 := ⟨0, 0, 0, 0, 0, []⟩
def noAt : Value := .tuple #[insV zero8 (.slice none 0 0), .bool false]
theorem set6 {w : World} {b : Nat} {x0 x1 x2 x3 x4 x5 : Value} {T : TypeId} (h : w.heap[b]? = some (.cells #[x0, x1, x2, x3, x4, x5] T (0, 0))) (u0 u1 u2 u3 u4 u5 : Value) :
    ((((((w.setCell ⟨b, 0, none⟩ u0).setCell ⟨b, 1, none⟩ u1).setCell ⟨b, 2, none⟩ u2).setCell ⟨b, 3, none⟩ u3).setCell ⟨b, 4, none⟩ u4).setCell ⟨b, 5, none⟩ u5).heap[b]? = some (.cells #[u0, u1, u2, u3, u4, u5] T (0, 0)) :=
  heap_setCell_same _ b 5 _ _ u5 (heap_setCell_same _ b 4 _ _ u4 (heap_setCell_same _ b 3 _ _ u3 (heap_setCell_same _ b 2 _ _ u2 (heap_setCell_same _ b 1 _ _ u1 (heap_setCell_same w b 0 _ _ u0 h)))))
theorem keeps6 (w : World) (b : Nat) (u0 u1 u2 u3 u4 u5 : Value) : Keeps [b] w ((((((w.setCell ⟨b, 0, none⟩ u0).setCell ⟨b, 1, none⟩ u1).setCell ⟨b, 2, none⟩ u2).setCell ⟨b, 3, none⟩ u3).setCell ⟨b, 4, none⟩ u4).setCell ⟨b, 5, none⟩ u5) :=
  (((((Keeps.setCell [b] _ _ _ (List.mem_singleton.2 rfl)).step (Keeps.setCell [b] _ _ _ (List.mem_singleton.2 rfl))).step (Keeps.setCell [b] _ _ _ (List.mem_singleton.2 rfl))).step (Keeps.setCell [b] _ _ _ (List.mem_singleton.2 rfl))).step (Keeps.setCell [b] _ _ _ (List.mem_singleton.2 rfl))).step (Keeps.setCell [b] _ _ _ (List.mem_singleton.2 rfl))
set_option maxHeartbeats 8000000 in
theorem at_no (p : Value) (n : Int) (w : World) (hpl : ∀ w', Keeps [] w w' → Calls Tryd.prog 43 #[p, .int .i64 n] w' fun e w2 => e = .returned (.tuple #[ptV 0 0 0, .bool false]) ∧ Keeps [] w' w2) : Calls Tryd.prog 25 #[p, .int .i64 n] w fun e w' => e = .returned noAt ∧ Keeps [] w w' := by
  have hp := hid (hpl (w.alloc (.cells #[.int .i64 0, .int .i64 0, .int .i64 0, .int .i64 0, .int .i64 0, .slice none 0 0] 34)) (Keeps.alloc _ _ _))
  have hh := hid (heap_new w (.cells #[.int .i64 0, .int .i64 0, .int .i64 0, .int .i64 0, .int .i64 0, .slice none 0 0] 34))
  have ka := hid (Keeps.alloc [] w (.cells #[.int .i64 0, .int .i64 0, .int .i64 0, .int .i64 0, .int .i64 0, .slice none 0 0] 34))
  unfold ptV at hp
  clear hpl
  go_enter Tryd.func25, Tryd.ntmps25
  go_wp2_with fail
  generalize w.alloc (.cells #[.int .i64 0, .int .i64 0, .int .i64 0, .int .i64 0, .int .i64 0, .slice none 0 0] 34) = wa at *
  obtain ⟨z, HZ⟩ : ∃ z, Box (w.heap.size = z) := ⟨_, hid rfl⟩
  rw [HZ.out] at hh ⊢
  refine hp.out.mono ?_
  rintro e w1 ⟨rfl, k1⟩
  have hb := hid (keep_heap hh.out (k1.quiet (Keeps.alloc [] w1 (.cells #[.int .i64 0, .int .i64 0, .int .i64 0] 24))))
  have K1 := hid ((ka.out.quiet k1).quiet (Keeps.alloc [] w1 (.cells #[.int .i64 0, .int .i64 0, .int .i64 0] 24)))
  clear k1 hh hp ka
  go_upto_region 2 with fail
  generalize w1.alloc (.cells #[.int .i64 0, .int .i64 0, .int .i64 0] 24) = w2 at *
  have z0 := hfrozen hb.out 0
  have z1 := hfrozen hb.out 1
  have z2 := hfrozen hb.out 2
  have z3 := hfrozen hb.out 3
  have z4 := hfrozen hb.out 4
  have z5 := hfrozen hb.out 5
  have c0 := hcell hb.out 0
  have c1 := hcell hb.out 1
  have c2 := hcell hb.out 2
  have c3 := hcell hb.out 3
  have c4 := hcell hb.out 4
  have c5 := hcell hb.out 5
  go_wp2_with fail
  have h6 := set6 hb.out (.int .i64 0) (.int .i64 0) (.int .i64 0) (.int .i64 0) (.int .i64 0) (.slice none 0 0)
  have e0 := hcell h6 0
  have e1 := hcell h6 1
  have e2 := hcell h6 2
  have e3 := hcell h6 3
  have e4 := hcell h6 4
  have e5 := hcell h6 5
  exact bodyPost_ret (v := noAt) (by simp [results, Tryd.results25, go_sem, noAt, insV, zero8, e0, e1, e2, e3, e4, e5]) rfl ⟨rfl, K1.out.fresh (keeps6 _ _ _ _ _ _ _ _) (fun x hx => by have := HZ.out; simp at hx; omega)⟩
theorem at_nil (n : Int) (w : World) : Calls Tryd.prog 25 #[.pointer none, .int .i64 n] w fun e w' => e = .returned noAt ∧ Keeps [] w w' := at_no (.pointer none) n w fun w' _ => place_nil n w'
/-- What At tells of an instruction. -/
def atV (x : In8) (ar : Value) : Value := .tuple #[insV x ar, .bool true]
/-- What At does at point (f, b, i). -/
def AtPost (w : World) (P : Pr8) (f b i : Nat) (e : Ending) (w' : World) : Prop :=
  Keeps [] w w' ∧ ((i < (blk8 (fun8 P f) b).code.length ∧ ∃ a cp, e = .returned (atV (ins8 (blk8 (fun8 P f) b) i) (.slice a (ins8 (blk8 (fun8 P f) b) i).args.length cp)) ∧ IntsAt w' a (ins8 (blk8 (fun8 P f) b) i).args) ∨ (¬ i < (blk8 (fun8 P f) b).code.length ∧ e = .returned noAt))
set_option maxRecDepth 20000 in
set_option maxHeartbeats 8000000 in
theorem at_pt {w : World} {pb po : Nat} {P : Pr8} (h : PrC w pb po P) (hs : Sm8 P) (f b i : Nat) (hp : IsPt P f b i) (hf : i < (blk8 (fun8 P f) b).code.length → (ins8 (blk8 (fun8 P f) b) i).args.length ≤ 17592186044416) :
    Calls Tryd.prog 25 #[.pointer (some ⟨pb, po, none⟩), .int .i64 (pos8 P f b i : Int)] w (AtPost w P f b i) := by
  have hle : pos8 P f b i < 150 := by have := hs.pt; have := pos8_lt hp; omega
  have ka := hid (Keeps.alloc [] w (.cells #[.int .i64 0, .int .i64 0, .int .i64 0, .int .i64 0, .int .i64 0, .slice none 0 0] 34))
  have hh := hid (heap_new w (.cells #[.int .i64 0, .int .i64 0, .int .i64 0, .int .i64 0, .int .i64 0, .slice none 0 0] 34))
  have hpl := hid (place_any (PrC.stays _ _ _ _ _ ka.out h) hs (pos8 P f b i : Int) ⟨by omega, by omega⟩)
  rw [plcV_in hp rfl] at hpl
  have HP := hid h
  have HS := hid hs
  have HI := hid hp
  have HFA := hid hf
  have hbk : Box (∀ w', PrC w' pb po P → ∃ q o, BlC w' q o (blk8 (fun8 P f) b) ∧ Calls Tryd.prog 29 #[.pointer (some ⟨pb, po, none⟩), .int .i64 (f : Int), .int .i64 (b : Int)] w' fun e w2 => e = .returned (.pointer (some ⟨q, o, none⟩)) ∧ w2 = w') := hid fun w' hP => by
    have h1 := hp.1
    have h2 := hp.2.1
    obtain ⟨q, o, L, hc⟩ := block_yes hP (f := (f : Int)) (b := (b : Int)) ⟨by omega, by omega, by omega, by simpa using h2⟩
    rw [Int.toNat_natCast, Int.toNat_natCast] at L
    exact ⟨q, o, L, hc⟩
  have FIN : Box (i < (blk8 (fun8 P f) b).code.length → ∀ a cp w', Keeps [] w w' → IntsAt w' a (ins8 (blk8 (fun8 P f) b) i).args → AtPost w P f b i (.returned (.tuple #[.agg #[.int .i64 (ins8 (blk8 (fun8 P f) b) i).op, .int .i64 (ins8 (blk8 (fun8 P f) b) i).dst, .int .i64 (ins8 (blk8 (fun8 P f) b) i).a, .int .i64 (ins8 (blk8 (fun8 P f) b) i).b, .int .i64 (ins8 (blk8 (fun8 P f) b) i).n, .slice a (ins8 (blk8 (fun8 P f) b) i).args.length cp], .bool true])) w') := hid fun h1 a cp w' h2 h3 => ⟨h2, .inl ⟨h1, a, cp, rfl, h3⟩⟩
  have FIE : Box (¬ i < (blk8 (fun8 P f) b).code.length → ∀ w', Keeps [] w w' → AtPost w P f b i (.returned noAt) w') := hid fun h1 w' h2 => ⟨h2, .inr ⟨h1, rfl⟩⟩
  unfold ptV at hpl
  generalize pos8 P f b i = np at *
  clear h hs hp hf hle
  go_enter Tryd.func25, Tryd.ntmps25
  go_wp2_with fail
  generalize w.alloc (.cells #[.int .i64 0, .int .i64 0, .int .i64 0, .int .i64 0, .int .i64 0, .slice none 0 0] 34) = wa at *
  obtain ⟨z, HZ⟩ : ∃ z, Box (w.heap.size = z) := ⟨_, hid rfl⟩
  rw [HZ.out] at hh ⊢
  refine hpl.out.mono ?_
  rintro e w1 ⟨rfl, k1⟩
  have hb := hid (keep_heap hh.out (k1.quiet (Keeps.alloc [] w1 (.cells #[.int .i64 (f : Int), .int .i64 (b : Int), .int .i64 (i : Int)] 24))))
  have K2 := hid ((ka.out.quiet k1).quiet (Keeps.alloc [] w1 (.cells #[.int .i64 (f : Int), .int .i64 (b : Int), .int .i64 (i : Int)] 24)))
  have h2 := heap_new w1 (.cells #[.int .i64 (f : Int), .int .i64 (b : Int), .int .i64 (i : Int)] 24)
  clear k1 hh hpl ka
  go_upto_region 2 with fail
  generalize w1.alloc (.cells #[.int .i64 (f : Int), .int .i64 (b : Int), .int .i64 (i : Int)] 24) = w2 at *
  generalize w1.heap.size = y at *
  have p0 : w2.cell? ⟨y, 0, none⟩ = some (.int .i64 (f : Int)) := hcell h2 0
  have p1 : w2.cell? ⟨y, 1, none⟩ = some (.int .i64 (b : Int)) := hcell h2 1
  have p2 : w2.cell? ⟨y, 2, none⟩ = some (.int .i64 (i : Int)) := hcell h2 2
  have hP2 := PrC.stays _ _ _ _ _ K2.out HP.out
  obtain ⟨q, o, L, hcl⟩ := hbk.out _ hP2
  have hcall := hid hcl
  obtain ⟨ca, ccp, hcc, hrows, _⟩ := L.c0
  have hcode := HS.out.code HI.out.1 HI.out.2.1
  have hi := HI.out.2.2
  have HRW := hid hrows
  clear h2 hbk L hcl hP2 hrows
  generalize blk8 (fun8 P f) b = x at *
  have z0 := hfrozen hb.out 0
  have z1 := hfrozen hb.out 1
  have z2 := hfrozen hb.out 2
  have z3 := hfrozen hb.out 3
  have z4 := hfrozen hb.out 4
  have z5 := hfrozen hb.out 5
  have c0 := hcell hb.out 0
  have c1 := hcell hb.out 1
  have c2 := hcell hb.out 2
  have c3 := hcell hb.out 3
  have c4 := hcell hb.out 4
  have c5 := hcell hb.out 5
  by_cases hin : i < x.code.length
  · obtain ⟨cb, co, rfl, h3⟩ := HRW.out.at (ins_get hin)
    obtain ⟨_, ar, acp, g5, g6, _⟩ := h3.open
    have g0 := h3.c0.1
    have g1 := h3.c1.1
    have g2 := h3.c2.1
    have g3 := h3.c3.1
    have g4 := h3.c4.1
    have hcn := hid fun (w' : World) (k : Keeps [] w2 w') => clone_any ar acp (ins8 x i).args w' (g6.kept k (fun _ _ _ => by simp)) (HFA.out hin)
    have HIN := hid hin
    have hne : ((i : Int) == (x.code.length : Int)) = false := by simp; omega
    have hin' : (i : Int) < (x.code.length : Int) := by omega
    clear h3 g6 HRW HFA
    generalize x.code.length = n at *
    generalize (ins8 x i).op = y0 at *
    generalize (ins8 x i).dst = y1 at *
    generalize (ins8 x i).a = y2 at *
    generalize (ins8 x i).b = y3 at *
    generalize (ins8 x i).n = y4 at *
    generalize (ins8 x i).args = ag at *
    go_upto_region 8 with (go_at_call 29; refine hcall.out.mono ?_; rintro e w' ⟨rfl, rfl⟩)
    have K3 := Keeps.alloc [] w' (.cells #[.int .i64 y0, .int .i64 y1, .int .i64 y2, .int .i64 y3, .int .i64 y4, .slice ar ag.length acp] 34)
    have h8 := heap_new w' (.cells #[.int .i64 y0, .int .i64 y1, .int .i64 y2, .int .i64 y3, .int .i64 y4, .slice ar ag.length acp] 34)
    have hzy : z ≠ w'.heap.size := fun e => by have := heap_lt hb.out; omega
    have hy8 : w.heap.size ≤ w'.heap.size := K2.out.size
    generalize w'.alloc (.cells #[.int .i64 y0, .int .i64 y1, .int .i64 y2, .int .i64 y3, .int .i64 y4, .slice ar ag.length acp] 34) = w4 at *
    generalize w'.heap.size = u at *
    have d5 : w4.cell? ⟨u, 5, none⟩ = some (.slice ar ag.length acp) := hcell h8 5
    have hcn4 := hid (hcn.out _ K3)
    have hb4 := hid (keep_heap hb.out K3)
    have K4 := hid (K2.out.quiet K3)
    clear z0 z1 z2 z3 z4 z5 c0 c1 c2 c3 c4 c5 g0 g1 g2 g3 g4 g5 p0 p1 p2 hcc hcall hcn K3 hb
    go_wp2_with fail
    refine hcn4.out.mono ?_
    rintro e w5 ⟨a', c', rfl, ha', k5, hnew⟩
    have hu := keep_heap h8 k5
    have hz := keep_heap hb4.out k5
    have r5 := hfrozen hu 5
    have d5' := hcell hu 5
    have hul := heap_lt h8
    have k6 : Keeps [u] w5 (w5.setCell ⟨u, 5, none⟩ (.slice a' ag.length c')) := Keeps.setCell _ _ _ _ (by simp)
    have hu6 : (w5.setCell ⟨u, 5, none⟩ (.slice a' ag.length c')).heap[u]? = some (.cells #[.int .i64 y0, .int .i64 y1, .int .i64 y2, .int .i64 y3, .int .i64 y4, .slice a' ag.length c'] 34 (0, 0)) := heap_setCell_same w5 u 5 _ _ _ hu
    have hz6 := (k6.block z (heap_lt hz) (by simp; exact hzy)).trans hz
    have HA := hid (ha'.kept k6 (fun b off e hx => by
      have := hnew b off e
      simp at hx
      omega))
    have HNW := hid hnew
    have K6 : Box (Keeps [] w (w5.setCell ⟨u, 5, none⟩ (.slice a' ag.length c'))) := hid ((K4.out.quiet k5).fresh k6 (fun x hx => by simp at hx; omega))
    have hzl := heap_lt hb4.out
    clear hu hz k5 k6 ha' h8 hb4 hnew d5
    go_upto_region 9 with fail
    generalize w5.setCell ⟨u, 5, none⟩ (.slice a' ag.length c') = w6 at *
    have z0 := hfrozen hz6 0
    have z1 := hfrozen hz6 1
    have z2 := hfrozen hz6 2
    have z3 := hfrozen hz6 3
    have z4 := hfrozen hz6 4
    have z5 := hfrozen hz6 5
    have c0 := hcell hz6 0
    have c1 := hcell hz6 1
    have c2 := hcell hz6 2
    have c3 := hcell hz6 3
    have c4 := hcell hz6 4
    have c5 := hcell hz6 5
    have g0 := hcell hu6 0
    have g1 := hcell hu6 1
    have g2 := hcell hu6 2
    have g3 := hcell hu6 3
    have g4 := hcell hu6 4
    have g5 := hcell hu6 5
    clear r5 d5'
    go_wp2_with fail
    have h6 := set6 hz6 (.int .i64 y0) (.int .i64 y1) (.int .i64 y2) (.int .i64 y3) (.int .i64 y4) (.slice a' ag.length c')
    have e0 := hcell h6 0
    have e1 := hcell h6 1
    have e2 := hcell h6 2
    have e3 := hcell h6 3
    have e4 := hcell h6 4
    have e5 := hcell h6 5
    refine bodyPost_ret (v := .tuple #[.agg #[.int .i64 y0, .int .i64 y1, .int .i64 y2, .int .i64 y3, .int .i64 y4, .slice a' ag.length c'], .bool true]) (by simp [results, Tryd.results25, go_sem, e0, e1, e2, e3, e4, e5]) rfl ?_
    refine FIN.out HIN.out a' c' _ (K6.out.fresh (keeps6 _ _ _ _ _ _ _ _) (fun x hx => by have := HZ.out; simp at hx; omega)) ?_
    exact HA.out.kept (keeps6 _ _ _ _ _ _ _ _) (fun b off e hx => by
      have := HNW.out b off e
      simp at hx
      omega)
  · have hne : i = x.code.length := by omega
    have HIN := hid hin
    have hbe : ((i : Int) == (x.code.length : Int)) = true := by simp; omega
    clear HRW HFA FIN
    generalize x.code.length = n at *
    clear hne hin
    go_wp2_with (go_at_call 29; refine hcall.out.mono ?_; rintro e w' ⟨rfl, rfl⟩)
    have h6 := set6 hb.out (.int .i64 0) (.int .i64 0) (.int .i64 0) (.int .i64 0) (.int .i64 0) (.slice none 0 0)
    have e0 := hcell h6 0
    have e1 := hcell h6 1
    have e2 := hcell h6 2
    have e3 := hcell h6 3
    have e4 := hcell h6 4
    have e5 := hcell h6 5
    exact bodyPost_ret (v := noAt) (by simp [results, Tryd.results25, go_sem, noAt, insV, zero8, e0, e1, e2, e3, e4, e5]) rfl (FIE.out HIN.out _ (K2.out.fresh (keeps6 _ _ _ _ _ _ _ _) (fun x hx => by have := HZ.out; simp at hx; omega)))
end Go.Proofs.YtknkjblifgppjaaDoor
