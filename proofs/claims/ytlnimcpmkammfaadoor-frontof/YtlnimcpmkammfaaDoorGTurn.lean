/-
  Contract: graph's Turn.
-/
import Derived.Test.YtlnimcpmkammfaaDoorGOwn
import Derived.Deep.RegionLaw
import Derived.Deep.RegionLawGrows
import Derived.ArgAppend
import Derived.Deep.DeepCutAuto
namespace Go.Proofs.YtlnimcpmkammfaaDoor
open Go.RowKit

theorem zero_ints : Tryd.t23.zero = some (.slice none 0 0) := by kernel_rfl
theorem size_ints : Tryd.t23.size = 1 := by kernel_rfl
theorem bytes_ints : Tryd.t23.bytes = 24 := by kernel_rfl
theorem info_ints : Tryd.prog.info? 23 = some Tryd.t23 := by kernel_rfl
theorem under_lists : Tryd.prog.underlying 25 = some (.slice 23) := by kernel_rfl

theorem run_lists (n : Nat) (hn : n ≤ 1000000) (w : World) : (Instr.makeSlice 25 (.int .i64 (n : Int)) (.int .i64 (n : Int))).run Tryd.prog w = .ok (.slice (some ⟨w.heap.size, 0, none⟩) n n) (w.alloc (.cells (madeCells #[nilS] n) 23)) :=
  run_make_row 25 23 Tryd.t23 nilS under_lists info_ints zero_ints size_ints rfl .i64 .i64 n (by rw [bytes_ints]; omega) (by omega) w
theorem run_room (n : Nat) (hn : n ≤ 1000000000) (w : World) : (Instr.makeSlice 23 (.int .i64 0) (.int .i64 (n : Int))).run Tryd.prog w = .ok (.slice (some ⟨w.heap.size, 0, none⟩) 0 n) (w.alloc (.cells (madeCells #[.int .i64 0] n) 3)) := by
  have := run_make (P := Tryd.prog) w 23 3 Tryd.t3 (.int .i64 0) under_ints info_int zero_int .i64 .i64 0 n (by omega) (by omega) (by rw [bytes_int]; omega) (by omega)
  rw [size_int, Int.toNat_natCast, Nat.mul_one] at this
  exact this

/-- A block of two cells. -/
structure TwoAt (w : World) (b : Nat) (x y : Value) : Prop where
  heap : w.heap[b]? = some (.cells #[x, y] 27 (0, 0))
theorem TwoAt.c0 {w : World} {b : Nat} {x y : Value} (h : TwoAt w b x y) : w.cell? ⟨b, 0, none⟩ = some x := by rw [cell_of_row w b 0 _ _ _ h.heap]; rfl
theorem TwoAt.c1 {w : World} {b : Nat} {x y : Value} (h : TwoAt w b x y) : w.cell? ⟨b, 1, none⟩ = some y := by rw [cell_of_row w b 1 _ _ _ h.heap]; rfl
theorem TwoAt.frozen {w : World} {b : Nat} {x y : Value} (h : TwoAt w b x y) (k : Nat) : w.frozen? ⟨b, k, none⟩ = false := frozen_of_row w b k _ _ h.heap
theorem TwoAt.lt {w : World} {b : Nat} {x y : Value} (h : TwoAt w b x y) : b < w.heap.size := (Array.getElem?_eq_some_iff.1 h.heap).1
theorem TwoAt.kept {w w' : World} {b : Nat} {x y : Value} {L : List Nat} (h : TwoAt w b x y) (k : Keeps L w w') (hb : b ∉ L) : TwoAt w' b x y := ⟨by rw [k.block b h.lt hb]; exact h.heap⟩
theorem TwoAt.new (w : World) (x y : Value) : TwoAt (w.alloc (.cells #[x, y] 27)) w.heap.size x y := ⟨heap_alloc_new w _⟩

theorem two_ne_row {w : World} {b base p n : Nat} {x y : Value} {c : Nat → Value} (h : TwoAt w b x y) (hr : RowAt w base p n 23 c) : b ≠ p := by
  intro e
  subst e
  obtain ⟨cur, hc⟩ := hr.heap
  rw [h.heap] at hc
  simp at hc
theorem two_ne_num {w : World} {b base p n : Nat} {x y : Value} {c : Nat → Value} (h : TwoAt w b x y) (hr : RowAt w base p n 3 c) : b ≠ p := by
  intro e
  subst e
  obtain ⟨cur, hc⟩ := hr.heap
  rw [h.heap] at hc
  simp at hc
theorem two_ne_own {w : World} {b base n : Nat} {x y v : Value} {xs : List Value} (h : TwoAt w b x y) (hr : w.ownsRow base 3 1 v n xs) : v.ownBlock ≠ some b :=
  Lib.ownBlock_ne hr h.heap (by decide)
theorem row_new (w : World) (n base : Nat) (hb : base ≤ w.heap.size) (hn : n ≤ maxLen) : RowAt (w.alloc (.cells (madeCells #[nilS] n) 23)) base w.heap.size n 23 (fun _ => nilS) := by
  have h := World.ownsRow_lit (base := base) (e := 23) (size := 1) w (madeCells #[nilS] n) n hb hn (by rw [size_madeCells, Nat.mul_one])
  refine RowAt.made (z := nilS) ?_ rfl
  rw [Nat.mul_one]
  exact h

/-- In the midst of Turn. -/
structure TM (w wz : World) (a : Option Addr) (cap n p q : Nat) (vs : Nat → Value) (L : Nat → List Nat) : Prop where
  gb : TwoAt wz w.heap.size (.int .i64 (n : Int)) (.slice a n cap)
  rb : TwoAt wz (w.heap.size + 1) (.int .i64 0) (.slice none 0 0)
  tb : TwoAt wz q (.int .i64 (n : Int)) (.slice (some ⟨p, 0, none⟩) n n)
  own : OwnL wz w.heap.size p n vs L
  keep : Keeps [] w wz
theorem TM.quiet {w wz wy : World} {a : Option Addr} {cap n p q : Nat} {vs : Nat → Value} {L : Nat → List Nat} (h : TM w wz a cap n p q vs L) (k : Keeps [] wz wy) : TM w wy a cap n p q vs L :=
  ⟨h.gb.kept k (by simp), h.rb.kept k (by simp), h.tb.kept k (by simp), h.own.quiet k, h.keep.quiet k⟩
/-- List k gets another value. -/
theorem TM.put {w wz wa w2 : World} {a : Option Addr} {cap n p q : Nat} {vs : Nat → Value} {L : Nat → List Nat} (h : TM w wz a cap n p q vs L) (ha : Keeps [] wz wa) {k : Nat} (hk : k < n) {v' : Value} {l' : List Nat}
    (ho : w2.ownsRow w.heap.size 3 1 v' l'.length (ints l')) (hg : wa.grownBy w2 (vs k).ownBlock) (hat : v'.ownBlock = (vs k).ownBlock ∨ v'.ownBlock = some wa.heap.size) :
    TM w (w2.setCell ⟨p, k, none⟩ v') a cap n p q (fun i => if i = k then v' else vs i) (fun i => if i = k then l' else L i) ∧ Keeps (p :: (vs k).ownBlock.toList) wz (w2.setCell ⟨p, k, none⟩ v') := by
  have hkeep : Keeps (vs k).ownBlock.toList wa w2 := Keeps.grown _ hg (fun x hx => by rw [hx]; simp)
  have hk1 : Keeps (p :: (vs k).ownBlock.toList) wz (w2.setCell ⟨p, k, none⟩ v') :=
    ((ha.mono (L' := p :: (vs k).ownBlock.toList) (by simp)).trans hkeep (fun x hx _ => List.mem_cons_of_mem _ hx)).trans (Keeps.setCell [p] _ _ _ (by simp)) (fun x hx _ => by simp at hx; subst hx; simp)
  have ne : ∀ b x y, TwoAt wz b x y → b ∉ p :: (vs k).ownBlock.toList := by
    intro b x y hb hx
    rcases List.mem_cons.1 hx with e | e
    · exact two_ne_row hb h.own.outer e
    · exact two_ne_own hb (h.own.inner k hk) (by simpa using e)
  refine ⟨⟨h.gb.kept hk1 (ne _ _ _ h.gb), h.rb.kept hk1 (ne _ _ _ h.rb), h.tb.kept hk1 (ne _ _ _ h.tb), h.own.put ha hk ho hg hat, h.keep.fresh hk1 ?_⟩, hk1⟩
  intro x hx
  rcases List.mem_cons.1 hx with e | e
  · have := h.own.outer.lt; omega
  · exact own_new (h.own.inner k hk) x e

theorem spare_at {w : World} {base g n cap : Nat} {xs : List Value} (h : w.ownsRow base 3 1 (.slice (some ⟨g, 0, none⟩) n cap) n xs) {k : Nat} (hk : k < cap) : (w.cell? ⟨g, k, none⟩).isSome = true ∧ w.frozen? ⟨g, k, none⟩ = false := by
  rcases h.2 with ⟨h', _⟩ | ⟨g', cap', cur, h', _, hg, _, _, hs, _⟩
  · simp at h'
  · simp only [Value.slice.injEq, Option.some.injEq, Addr.mk.injEq, and_true, true_and] at h'
    obtain ⟨rfl, rfl⟩ := h'
    refine ⟨?_, frozen_of_row w g k _ _ hg⟩
    rw [cell_of_row w g k _ _ _ hg, Array.getElem?_eq_getElem (by omega)]
    rfl
/-- A number more where there is room. -/
theorem own_room {w : World} {base g n cap : Nat} {xs : List Value} (h : w.ownsRow base 3 1 (.slice (some ⟨g, 0, none⟩) n cap) n xs) (hr : n < cap) (v : Value) :
    (w.setCell ⟨g, n, none⟩ v).ownsRow base 3 1 (.slice (some ⟨g, 0, none⟩) (n + 1) cap) (n + 1) (xs ++ [v]) := by
  rcases h.2 with ⟨h', _⟩ | ⟨g', cap', cur, h', hb, hg, hn, hm, hs, ht⟩
  · simp at h'
  · simp only [Value.slice.injEq, Option.some.injEq, Addr.mk.injEq, and_true, true_and] at h'
    obtain ⟨rfl, rfl⟩ := h'
    have hx := h.1
    refine ⟨by rw [List.length_append]; simp; omega, .inr ⟨g, cap, cur.setIfInBounds n v, rfl, hb, heap_setCell_same w g n cur _ _ hg, by omega, hm, by simpa using hs, ?_⟩⟩
    rw [Nat.mul_one] at ht ⊢
    have hc : n < cur.toList.length := by rw [Array.length_toList]; omega
    rw [Array.toList_setIfInBounds, List.take_succ_eq_append_getElem (by rw [List.length_set]; exact hc), List.take_set_of_le (Nat.le_refl _), ht]
    simp
theorem TM.mk_of {w wz : World} {a : Option Addr} {cap n p q : Nat} {vs : Nat → Value} {L L' : Nat → List Nat} (h : TM w wz a cap n p q vs L) (e : ∀ i, i < n → L i = L' i) : TM w wz a cap n p q vs L' :=
  ⟨h.gb, h.rb, h.tb, h.own.congr (fun i hi => ⟨rfl, e i hi⟩), h.keep⟩

/-- A number more in list x, where there is room. -/
structure Room (w wz w5 : World) (a : Option Addr) (cap n p q x qi ln c j : Nat) (vs : Nat → Value) (L : Nat → List Nat) : Prop where
  cell : w5.cell? ⟨p, x, none⟩ = some (.slice (some ⟨qi, 0, none⟩) ln c)
  frozen : w5.frozen? ⟨p, x, none⟩ = false
  head : w5.cell? ⟨q, 1, none⟩ = some (.slice (some ⟨p, 0, none⟩) n n)
  tm : TM w (w5.setCell ⟨p, x, none⟩ (.slice (some ⟨qi, 0, none⟩) (ln + 1) c)) a cap n p q (fun i => if i = x then .slice (some ⟨qi, 0, none⟩) (ln + 1) c else vs i) (fun i => if i = x then L x ++ [j] else L i)
theorem TM.room {w wz : World} {a : Option Addr} {cap n p q : Nat} {vs : Nat → Value} {L : Nat → List Nat} (h : TM w wz a cap n p q vs L) {x : Nat} (hx : x < n) {qi ln c : Nat} (hv : vs x = .slice (some ⟨qi, 0, none⟩) ln c) (hl : (L x).length = ln) (hr : ln < c) (j : Nat) :
    Room w wz ((wz.alloc (Obj.cells #[.int .i64 (j : Int)] 3)).drew.setCells qi (0 + ln * 1) [.int .i64 (j : Int)]) a cap n p q x qi ln c j vs L := by
  have ka : Keeps [] wz (wz.alloc (Obj.cells #[.int .i64 (j : Int)] 3)).drew := (Keeps.alloc [] _ _).quiet (Keeps.drew [] _)
  have e : (wz.alloc (Obj.cells #[.int .i64 (j : Int)] 3)).drew.setCells qi (0 + ln * 1) [.int .i64 (j : Int)] = (wz.alloc (Obj.cells #[.int .i64 (j : Int)] 3)).drew.setCell ⟨qi, ln, none⟩ (.int .i64 (j : Int)) := by
    rw [Nat.zero_add, Nat.mul_one]; rfl
  rw [e]
  have hrow := ownsRow_keeps (h.own.inner x hx) ka (by simp)
  rw [hv, hl] at hrow
  have hne : qi ≠ p := fun e => h.own.ne hx (by rw [hv, e]; rfl)
  have kb : Keeps [qi] (wz.alloc (Obj.cells #[.int .i64 (j : Int)] 3)).drew ((wz.alloc (Obj.cells #[.int .i64 (j : Int)] 3)).drew.setCell ⟨qi, ln, none⟩ (.int .i64 (j : Int))) := Keeps.setCell _ _ _ _ (by simp)
  have hout := (h.own.outer.kept ka (by simp)).kept kb (by simp; exact fun e => hne e.symm)
  have hg : (wz.alloc (Obj.cells #[.int .i64 (j : Int)] 3)).drew.grownBy ((wz.alloc (Obj.cells #[.int .i64 (j : Int)] 3)).drew.setCell ⟨qi, ln, none⟩ (.int .i64 (j : Int))) (vs x).ownBlock :=
    ⟨kb.os, kb.tape, kb.output, kb.size, fun k hk hn => kb.block k hk (by rw [hv] at hn; simp [Value.ownBlock] at hn ⊢; exact hn)⟩
  refine ⟨by rw [hout.cell hx, hv], hout.frozen x, ((h.tb.kept ka (by simp)).kept kb (by simp; exact fun e => two_ne_own h.tb (h.own.inner x hx) (by rw [hv, e]; rfl))).c1, (h.put ka hx ?_ hg (.inl (by rw [hv]; rfl))).1⟩
  have := own_room hrow hr (.int .i64 (j : Int))
  rw [List.length_append, hl, show ints (L x ++ [j]) = ints (L x) ++ [.int .i64 (j : Int)] from by simp [ints]]
  exact this

theorem deg_mono (g : List (List Nat)) (b k : Nat) : ∀ d, deg g k b ≤ deg g (k + d) b
  | 0 => Nat.le_refl _
  | d + 1 => by
    have := deg_mono g b k d
    have h2 := deg_succ g (k + d) b
    rw [show k + (d + 1) = (k + d) + 1 from rfl]
    omega
/-- The edges to b from nodes below k, and from the first of node k's own list. -/
def inT (g : List (List Nat)) (k m b : Nat) : List Nat := inTo g k b ++ (((nb g k).take m).filter fun x => x == b).map fun _ => k
theorem inT_zero (g : List (List Nat)) (k b : Nat) : inT g k 0 b = inTo g k b := by simp [inT]
theorem inT_all (g : List (List Nat)) (k b : Nat) : inT g k (nb g k).length b = inTo g (k + 1) b := by
  unfold inT inTo
  rw [List.take_length, List.range_succ, List.flatMap_append]
  simp
theorem inT_succ (g : List (List Nat)) (k m b : Nat) (hm : m < (nb g k).length) : inT g k (m + 1) b = if b = (nb g k).getD m 0 then inT g k m b ++ [k] else inT g k m b := by
  unfold inT
  rw [take_snoc (nb g k) m 0 hm, List.filter_append, List.map_append]
  generalize (nb g k).getD m 0 = x
  by_cases h : b = x
  · subst h; simp
  · have : (x == b) = false := by simp; exact fun e => h e.symm
    simp [this, h]
theorem inT_len (g : List (List Nat)) (k m b : Nat) : (inT g k m b).length = deg g k b + occ ((nb g k).take m) b := by
  unfold inT deg occ
  simp

set_option maxHeartbeats 4000000 in
theorem turn_any (g : List (List Nat)) (hs : Sm g) (a : Option Addr) (cap B : Nat) (w : World) (hG : GAt w B a g) (hB : B ≤ w.heap.size) :
    Calls Tryd.prog 25 #[.agg #[.int .i64 (g.length : Int), .slice a g.length cap]] w fun e w' => ∃ p vs, e = .returned (.agg #[.int .i64 (g.length : Int), .slice (some ⟨p, 0, none⟩) g.length g.length]) ∧ OwnL w' w.heap.size p g.length vs (inTo g g.length) ∧ Keeps [] w w' := by
  have HG := hid hG
  have HS := hid hs
  have hg6 := hs.len
  have HC : Box (∀ w, GAt w B a g → Calls Tryd.prog 36 #[.agg #[.int .i64 (g.length : Int), .slice a g.length cap]] w fun e w' => e = .returned (.bool true) ∧ Keeps [] w w') := hid (fun w => gmay_yes g hs a cap B w)
  have HI := hid (fun w h1 h2 => into_any g hs a cap B w h1 h2)
  obtain ⟨n, hn⟩ : ∃ n, g.length = n := ⟨_, rfl⟩
  rw [hn] at HC HI hg6 ⊢
  have HN := hid hn
  clear hG hs hn
  have hmk := run_lists n (by omega)
  have hk1 : Keeps [] w (w.alloc (Obj.cells #[.int .i64 (n : Int), .slice a n cap] 27)) := Keeps.alloc _ _ _
  have hk2 : Keeps [] (w.alloc (Obj.cells #[.int .i64 (n : Int), .slice a n cap] 27)) ((w.alloc (Obj.cells #[.int .i64 (n : Int), .slice a n cap] 27)).alloc (Obj.cells #[.int .i64 0, .slice none 0 0] 27)) := Keeps.alloc _ _ _
  have HT1 := hid ((TwoAt.new w (.int .i64 (n : Int)) (.slice a n cap)).kept hk2 (by simp))
  have HT2 := TwoAt.new (w.alloc (Obj.cells #[.int .i64 (n : Int), .slice a n cap] 27)) (.int .i64 0) (.slice none 0 0)
  rw [World.size_alloc] at HT2
  have HT2' := hid HT2
  have hw2 := hk1.quiet hk2
  clear HT2
  go_enter Tryd.func25, Tryd.ntmps25
  go_wp2_with fail
  generalize (w.alloc (Obj.cells #[.int .i64 (n : Int), .slice a n cap] 27)).alloc (Obj.cells #[.int .i64 0, .slice none 0 0] 27) = w2 at hk2 HT1 HT2' hw2 ⊢
  clear hk1 hk2
  refine (HC.out w2 (HG.out.quiet hw2)).mono ?_
  rintro e w3 ⟨rfl, hk3⟩
  have HT3 := HT1.out.kept hk3 (by simp)
  have HT3' := HT2'.out.kept hk3 (by simp)
  have hc0 := HT3.c0
  have hc1 := HT3.c1
  have hw3 := hw2.quiet hk3
  have HTA := hid HT3
  have HTB := hid HT3'
  clear HT3 HT3' HT1 HT2' hk3 hw2 HC
  have hl3 : w.heap.size < w3.heap.size := HTA.out.lt
  have hl3' : w.heap.size + 1 < w3.heap.size := HTB.out.lt
  go_upto_region 3 with fail
  go_cut [3] (fun t wz => ∃ p q, t = .pointer (some ⟨q, 0, none⟩) ∧ Box (TM w wz a cap n p q (fun _ => nilS) (fun _ => [])))
  case first =>
    have hm : n ≤ maxLen := by unfold maxLen; omega
    go_region
    · go_wp2_with fail
      go_meet
      have ka := Keeps.alloc [] w3 (.cells (madeCells #[nilS] n) 23)
      have kb := Keeps.alloc [] (w3.alloc (.cells (madeCells #[nilS] n) 23)) (.cells #[.int .i64 (n : Int), .slice (some ⟨w3.heap.size, 0, none⟩) n n] 27)
      have kc := Keeps.drew [] ((w3.alloc (.cells (madeCells #[nilS] n) 23)).alloc (.cells #[.int .i64 (n : Int), .slice (some ⟨w3.heap.size, 0, none⟩) n n] 27))
      have kk := (ka.quiet kb).quiet kc
      refine ⟨w3.heap.size, w3.heap.size + 1, rfl, hid ⟨HTA.out.kept kk (by simp), HTB.out.kept kk (by simp), ?_, OwnL.nil (((row_new w3 n w.heap.size hw3.size hm).kept kb (by simp)).kept kc (by simp)), hw3.quiet kk⟩⟩
      have := TwoAt.new (w3.alloc (.cells (madeCells #[nilS] n) 23)) (.int .i64 (n : Int)) (.slice (some ⟨w3.heap.size, 0, none⟩) n n)
      rw [World.size_alloc] at this
      exact this.kept kc (by simp)
    · go_wp2_with fail
      go_meet
      have ka := Keeps.alloc [] w3 (.cells #[.int .i64 (n : Int), .slice (some ⟨w3.heap.size + 1, 0, none⟩) n n] 27)
      have kb := Keeps.alloc [] (w3.alloc (.cells #[.int .i64 (n : Int), .slice (some ⟨w3.heap.size + 1, 0, none⟩) n n] 27)) (.cells (madeCells #[nilS] n) 23)
      have kc := Keeps.drew [] ((w3.alloc (.cells #[.int .i64 (n : Int), .slice (some ⟨w3.heap.size + 1, 0, none⟩) n n] 27)).alloc (.cells (madeCells #[nilS] n) 23))
      have kk := (ka.quiet kb).quiet kc
      refine ⟨w3.heap.size + 1, w3.heap.size, rfl, hid ⟨HTA.out.kept kk (by simp), HTB.out.kept kk (by simp), ((TwoAt.new w3 _ _).kept kb (by simp)).kept kc (by simp), OwnL.nil ?_, hw3.quiet kk⟩⟩
      have := row_new (w3.alloc (.cells #[.int .i64 (n : Int), .slice (some ⟨w3.heap.size + 1, 0, none⟩) n n] 27)) n w.heap.size (hw3.quiet ka).size hm
      rw [World.size_alloc] at this
      exact this.kept kc (by simp)
  case rest =>
    obtain ⟨p, q, rfl, HM⟩ := hcut
    have hc0 := HM.out.gb.c0
    have hc1 := HM.out.gb.c1
    clear HTA HTB hl3 hl3'
    go_wp2_with fail
    refine (HI.out wc (HG.out.quiet HM.out.keep) (by have := HM.out.keep.size; omega)).mono ?_
    rintro e w4 ⟨pc, rfl, hcnt, hk4⟩
    have HCN := hid hcnt
    have HM4 := hid (HM.out.quiet hk4)
    have hpc := hid (Nat.le_trans HM.out.keep.size hcnt.lt.1)
    have HCW : Box (RowAt w4 w.heap.size pc n 3 (num (deg g n))) := hid (hcnt.base HM.out.keep.size)
    clear hcnt HI HCN hc0 hc1 hmk
    go_wp2_with fail
    go_loopw [23] (fun i wr => ∃ (k : Nat) (vs : Nat → Value), k ≤ n ∧ i = .int .i64 k ∧ Box (TM w wr a cap n p q vs (fun _ => [])) ∧ Box (∀ i, i < k → ∃ qi, vs i = .slice (some ⟨qi, 0, none⟩) 0 (deg g n i)) ∧ Box (∀ i, k ≤ i → vs i = nilS) ∧ Box (RowAt wr w.heap.size pc n 3 (num (deg g n)))) (fun i _ => n - (intOf i).toNat)
    case atStart => exact ⟨0, fun _ => nilS, by omega, rfl, HM4, hid (fun i hi => by omega), hid (fun _ _ => rfl), HCW⟩
    case round =>
      clear HM4 HCW
      obtain ⟨k, vs, hk, rfl, HM, HV, HZ, HC⟩ := hrel
      by_cases hlt : k < n
      · have hcc : wr.cell? ⟨pc, k, none⟩ = some (.int .i64 ((deg g n k : Nat) : Int)) := HC.out.cell hlt
        have hdl := deg_le HS.out k n
        have hrm := run_room (deg g n k) (by omega)
        obtain ⟨c, hcdef⟩ : ∃ c, deg g n k = c := ⟨_, rfl⟩
        rw [hcdef] at hcc hdl hrm
        have Hc := hid hcdef
        clear hcdef
        have ht1 := HM.out.tb.c1
        have hp := HM.out.own.outer.lt.2
        have hq := HM.out.tb.lt
        have hcp : wr.cell? ⟨p, k, none⟩ = some nilS := by rw [HM.out.own.cell hlt, HZ.out k (Nat.le_refl _)]
        have hfp := HM.out.own.outer.frozen k
        have hlt' : (k : Int) < (n : Int) := by omega
        have hcb : c < 1000000000 := by omega
        unfold nilS at hcp
        have hput := HM.out.put (wa := wr) (Keeps.refl _ _) hlt (v' := .slice (some ⟨wr.heap.size, 0, none⟩) 0 c) (l' := []) (w2 := wr.alloc (.cells (madeCells #[.int .i64 0] c) 3))
          (World.ownsRow_made wr _ c HM.out.keep.size (by unfold maxLen; omega) (by rw [size_madeCells, Nat.mul_one])) (by rw [HZ.out k (Nat.le_refl _)]; exact World.grownBy_alloc wr _ none) (.inr rfl)
        have e1 : (wr.alloc (.cells (madeCells #[.int .i64 0] c) 3)).setCell ⟨p, k, none⟩ (.slice (some ⟨wr.heap.size, 0, none⟩) 0 c) = (wr.setCell ⟨p, k, none⟩ (.slice (some ⟨wr.heap.size, 0, none⟩) 0 c)).alloc (.cells (madeCells #[.int .i64 0] c) 3) := World.setCell_alloc_past _ p k _ hp
        rw [e1] at hput
        have HP := hid hput
        clear hput e1
        go_upto_region 7 with fail
        go_region
        go_wp2
        go_roundw
        case rel =>
          refine ⟨k + 1, _, by omega, by go_num, hid (((HP.out.1.quiet (Keeps.drew _ _)).mk_of (fun i _ => ?_))), hid (fun i hi => ?_), hid (fun i hi => ?_), hid (HC.out.kept (HP.out.2.quiet (Keeps.drew _ _)) ?_)⟩
          · by_cases e : i = k
            · rw [if_pos e]
            · rw [if_neg e]
          · by_cases e : i = k
            · subst e; exact ⟨wr.heap.size, by rw [if_pos rfl, Hc.out]⟩
            · obtain ⟨qi, hqi⟩ := HV.out i (by omega)
              exact ⟨qi, by rw [if_neg e, hqi]⟩
          · rw [if_neg (by omega)]; exact HZ.out i (by omega)
          · rw [HZ.out k (Nat.le_refl _)]
            intro hx
            simp [nilS, Value.ownBlock] at hx
            subst hx
            obtain ⟨c1, h1⟩ := HC.out.heap
            obtain ⟨c2, h2⟩ := HM.out.own.outer.heap
            rw [h1] at h2
            simp at h2
        case measure => simp [intOf]; omega
      · obtain rfl : k = n := by omega
        clear HC HZ hpc
        have ht1 := HM.out.gb.c1
        have HM0 : Box (TM w wr a cap k p q vs (fun b => inTo g 0 b)) := hid (HM.out.mk_of (fun i _ => rfl))
        have HV0 : Box (∀ i, i < k → ∃ qi, vs i = .slice (some ⟨qi, 0, none⟩) (inTo g 0 i).length (deg g k i)) := HV
        clear HM HV
        go_wp2_with fail
        clear ht1
        go_loopw [38] (fun i wr => ∃ (j : Nat) (vs : Nat → Value), j ≤ k ∧ i = .int .i64 j ∧ Box (TM w wr a cap k p q vs (fun b => inTo g j b)) ∧ Box (∀ i, i < k → ∃ qi, vs i = .slice (some ⟨qi, 0, none⟩) (inTo g j i).length (deg g k i))) (fun i _ => k - (intOf i).toNat)
        case atStart => exact ⟨0, vs, by omega, rfl, HM0, HV0⟩
        case round =>
          clear HM0 HV0
          obtain ⟨j, vs1, hj, rfl, HM1, HV1⟩ := hrel
          by_cases hjlt : j < k
          · obtain ⟨bl, off, ai, ci, rfl, hcw, hin⟩ := HG.out.at (k := j) (by rw [HN.out]; exact hjlt)
            have hc := hcw
            rw [← HM1.out.keep.cell (p := ⟨bl, off + j, none⟩) (block_lt_of_cell hcw) (by simp)] at hc
            have HI1 := hid hin
            clear hcw
            have hlen := HS.out.inner j
            have hok := hid (fun m (h : m ∈ nb g j) => HS.out.ok j m h)
            rw [HN.out] at hok
            clear hin
            have HM2 : Box (TM w _ (some ⟨bl, off, none⟩) cap k p q vs1 (fun b => inT g j 0 b)) := hid (HM1.out.mk_of (fun i _ => (inT_zero g j i).symm))
            have HV2 : Box (∀ i, i < k → ∃ qi, vs1 i = .slice (some ⟨qi, 0, none⟩) (inT g j 0 i).length (deg g k i)) := hid (fun i hi => by rw [inT_zero]; exact HV1.out i hi)
            clear HM1 HV1
            go_wp2_with fail
            clear hc
            go_loopw [45] (fun i wr => ∃ (m : Nat) (vs : Nat → Value), m ≤ (nb g j).length ∧ i = .int .i64 m ∧ Box (TM w wr (some ⟨bl, off, none⟩) cap k p q vs (fun b => inT g j m b)) ∧ Box (∀ i, i < k → ∃ qi, vs i = .slice (some ⟨qi, 0, none⟩) (inT g j m i).length (deg g k i)) ∧ Keeps [] w wr) (fun i _ => (nb g j).length - (intOf i).toNat)
            case atStart => exact ⟨0, vs1, by omega, rfl, HM2, HV2, HM2.out.keep⟩
            case round =>
              obtain ⟨m, vs3, hm, rfl, HM3, HV3, hkw⟩ := hrel
              have hjlt' : (j : Int) < (k : Int) := by omega
              by_cases hml : m < (nb g j).length
              · obtain ⟨bm, om, rfl, hcm⟩ := (HI1.out.kept hkw (by simp)).at hml
                have hxk := hok.out _ (getD_mem (nb g j) m 0 hml)
                have hsc := hid (fun b => inT_succ g j m b hml)
                have hlt2 : (inT g j m ((nb g j).getD m 0)).length < deg g k ((nb g j).getD m 0) := by
                  have h1 : (inT g j (m + 1) ((nb g j).getD m 0)).length = (inT g j m ((nb g j).getD m 0)).length + 1 := by rw [inT_succ g j m _ hml, if_pos rfl, List.length_append]; rfl
                  have h2 := inT_len g j (m + 1) ((nb g j).getD m 0)
                  have h3 := deg_succ g j ((nb g j).getD m 0)
                  have h4 := deg_mono g ((nb g j).getD m 0) (j + 1) (k - (j + 1))
                  rw [show j + 1 + (k - (j + 1)) = k by omega] at h4
                  have h5 : occ ((nb g j).take (m + 1)) ((nb g j).getD m 0) ≤ occ (nb g j) ((nb g j).getD m 0) := ((List.take_sublist (m + 1) (nb g j)).filter _).length_le
                  omega
                have hdl := deg_le HS.out ((nb g j).getD m 0) k
                obtain ⟨x, hx⟩ : ∃ x, (nb g j).getD m 0 = x := ⟨_, rfl⟩
                rw [hx] at hcm hxk hsc hlt2 hdl
                clear hx
                obtain ⟨qi, hqi⟩ := HV3.out x hxk
                have hcp := HM3.out.own.cell hxk
                have hrow := HM3.out.own.inner x hxk
                have hqp := hid (HM3.out.own.ne hxk)
                rw [hqi] at hcp hrow
                obtain ⟨ln, hln⟩ : ∃ ln, (inT g j m x).length = ln := ⟨_, rfl⟩
                obtain ⟨c, hcc⟩ : ∃ c, deg g k x = c := ⟨_, rfl⟩
                rw [hln, hcc] at hcp hrow hlt2
                rw [hcc] at hdl
                have Hln := hid hln
                have Hcc := hid hcc
                have Hqi := hid hqi
                clear hln hcc hqi
                have HRW := hid hrow
                have ht1 := HM3.out.tb.c1
                have hp := HM3.out.own.outer.lt.2
                have hq := HM3.out.tb.lt
                have hqs := (hrow.lt qi rfl).2
                have hfp := HM3.out.own.outer.frozen x
                have hxk' : (x : Int) < (k : Int) := by omega
                clear hrow
                have HRM := hid (HM3.out.room hxk (qi := qi) (ln := ln) (c := c) (by rw [Hqi.out, Hln.out, Hcc.out]) Hln.out hlt2 j)
                go_upto_region 15 with fail
                go_region_law (refine step_append_room rfl (.tmp 56) (.tmp 58) 23 rfl 3 Tryd.t3 1 under_ints info_int size_int qi 0 ln c (by simp [Act.eval]) ⟨wr.heap.size, 0, none⟩ 1 1 [.int .i64 (j : Int)] (by simp [Act.eval]) rfl (cell_one_new _ _ _) (fun u hu => by simp at hu; subst hu; rfl) hlt2 (fun i hi => by simp at hi; subst hi; simpa using spare_at (HRW.out.alloc _) hlt2) ?_; generalize (wr.alloc (Obj.cells #[Value.int .i64 (j : Int)] 3)).drew.setCells qi (0 + ln * 1) [Value.int .i64 (j : Int)] = w5 at HRM ⊢; have hcp5 := HRM.out.cell; have hq5 := HRM.out.head; have hfp5 := HRM.out.frozen)
                all_goals
                  go_wp2
                  go_roundw
                  case rel =>
                    refine ⟨m + 1, _, by omega, by go_num, hid (HRM.out.tm.mk_of (fun i _ => ?_)), hid (fun i hi => ?_), HRM.out.tm.keep⟩
                    · rw [hsc.out i]
                      by_cases e : i = x
                      · rw [if_pos e, if_pos e, e]
                      · rw [if_neg e, if_neg e]
                    · rw [hsc.out i]
                      by_cases e : i = x
                      · refine ⟨qi, ?_⟩
                        rw [if_pos e, if_pos e, e, List.length_append, Hln.out, Hcc.out]
                        rfl
                      · obtain ⟨q2, hq2⟩ := HV3.out i hi
                        exact ⟨q2, by rw [if_neg e, if_neg e, hq2]⟩
                  case measure => simp [intOf]; omega
              · obtain rfl : m = (nb g j).length := by omega
                go_wp2
                go_roundw
                case rel => exact ⟨j + 1, vs3, by omega, by go_num, hid (HM3.out.mk_of (fun i _ => inT_all g j i)), hid (fun i hi => by rw [← inT_all]; exact HV3.out i hi)⟩
                case measure => simp [intOf]; omega
          · obtain rfl : j = k := by omega
            have ht0 := HM1.out.tb.c0
            have ht1 := HM1.out.tb.c1
            have hr0 := HM1.out.rb.c0
            have hr1 := HM1.out.rb.c1
            have hf0 := HM1.out.rb.frozen 0
            have hf1 := HM1.out.rb.frozen 1
            go_wp2
            have k1 : Keeps [w.heap.size + 1] wr (wr.setCell ⟨w.heap.size + 1, 0, none⟩ (.int .i64 (j : Int))) := Keeps.setCell _ _ _ _ (by simp)
            have k2 : Keeps [w.heap.size + 1] (wr.setCell ⟨w.heap.size + 1, 0, none⟩ (.int .i64 (j : Int))) ((wr.setCell ⟨w.heap.size + 1, 0, none⟩ (.int .i64 (j : Int))).setCell ⟨w.heap.size + 1, 1, none⟩ (.slice (some ⟨p, 0, none⟩) j j)) := Keeps.setCell _ _ _ _ (by simp)
            have k3 := k1.step k2
            have hb2 : TwoAt ((wr.setCell ⟨w.heap.size + 1, 0, none⟩ (.int .i64 (j : Int))).setCell ⟨w.heap.size + 1, 1, none⟩ (.slice (some ⟨p, 0, none⟩) j j)) (w.heap.size + 1) (.int .i64 (j : Int)) (.slice (some ⟨p, 0, none⟩) j j) := by
              have h1 := heap_setCell_same wr (w.heap.size + 1) 0 _ _ (.int .i64 (j : Int)) HM1.out.rb.heap
              have h2 := heap_setCell_same _ (w.heap.size + 1) 1 _ _ (.slice (some ⟨p, 0, none⟩) j j) h1
              exact ⟨h2⟩
            have hd0 := hb2.c0
            have hd1 := hb2.c1
            have hown := HM1.out.own.kept k3 (by simp; exact fun e => two_ne_row HM1.out.rb HM1.out.own.outer e.symm) (fun i hi b hb => by simp; exact fun e => two_ne_own HM1.out.rb (HM1.out.own.inner i hi) (e ▸ hb))
            have hkeep := HM1.out.keep.fresh k3 (fun x hx => by simp at hx; omega)
            generalize (wr.setCell ⟨w.heap.size + 1, 0, none⟩ (.int .i64 (j : Int))).setCell ⟨w.heap.size + 1, 1, none⟩ (.slice (some ⟨p, 0, none⟩) j j) = w9 at hd0 hd1 hown hkeep ⊢
            exact bodyPost_ret (v := .agg #[.int .i64 (j : Int), .slice (some ⟨p, 0, none⟩) j j]) (by simp [results, Tryd.results25, go_sem, hd0, hd1]) rfl ⟨p, vs1, rfl, hown, hkeep⟩
end Go.Proofs.YtlnimcpmkammfaaDoor
