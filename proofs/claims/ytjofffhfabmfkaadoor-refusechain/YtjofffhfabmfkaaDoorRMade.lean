/-
  The statements' own chains: what 'made' gives.
-/
import Derived.Test.YtjofffhfabmfkaaDoorRLinks
import Derived.Test.YtjofffhfabmfkaaDoorRDecAny
import Derived.Test.YtjofffhfabmfkaaDoorRChain
import Derived.Test.YtjofffhfabmfkaaDoorRHand
namespace Go.Proofs.YtjofffhfabmfkaaDoor
open Go.RowKit

/-- A chain of such links. -/
def Made : List Ln → List Lk → Prop
  | [], l => l = []
  | x :: zs, l => (if x.oth then ∃ p t r, l = .oth p t :: r ∧ Made zs r else ∃ p r, l = .ref p x.why x.f x.b x.i :: r ∧ Made zs r)

/-- The text of the first refusal. -/
def textL : List Ln → ByteArray
  | [] => ⟨#[]⟩
  | x :: zs => if x.oth then textL zs else textB x.why x.f x.b x.i

theorem Made.len : ∀ {zs : List Ln} {l : List Lk}, Made zs l → l.length = zs.length
  | [], l, h => by rw [show l = [] from h]; rfl
  | x :: zs, l, h => by
    unfold Made at h
    by_cases c : x.oth
    · rw [if_pos c] at h
      obtain ⟨p, t, r, rfl, h⟩ := h
      rw [List.length_cons, List.length_cons, h.len]
    · rw [if_neg c] at h
      obtain ⟨p, r, rfl, h⟩ := h
      rw [List.length_cons, List.length_cons, h.len]

structure MadeSt (w wr : World) (zs : List Ln) (l : List Lk) (lv : Value) : Prop where
  keep : Keeps [] w wr
  chain : ChainAt wr l
  falls : Falls l
  made : Made zs l
  own : wr.ownsRow w.heap.size 3 1 lv (whys l).length (nums (whys l))
  nil : whys l = [] → lv = .slice none 0 0
theorem MadeSt.quiet {w wr w' : World} {zs : List Ln} {l : List Lk} {lv : Value} (h : MadeSt w wr zs l lv) (k : Keeps [] wr w') : MadeSt w w' zs l lv :=
  ⟨h.keep.step k, h.chain.quiet k, h.falls, h.made, owns_keep h.own k (by simp), h.nil⟩

theorem MadeSt.ref {w wr w4 w6 : World} {zs : List Ln} {l : List Lk} {lv v' : Value} {q : Nat} {x : Ln} (h : MadeSt w wr zs l lv) (hx : x.oth = false) (k4 : Keeps [] wr w4) (c4 : ChainAt w4 (.ref q x.why x.f x.b x.i :: l)) (F4 : Falls (.ref q x.why x.f x.b x.i :: l))
    (k6 : Keeps [w4.heap.size] (w4.alloc (.cells #[.int .i64 x.why] 3)) w6) (own6 : w6.ownsRow w.heap.size 3 1 v' (1 + (whys l).length) ([.int .i64 x.why] ++ nums (whys l))) : MadeSt w w6 (x :: zs) (.ref q x.why x.f x.b x.i :: l) v' := by
  have hsz := (h.keep.step k4).size
  refine ⟨((h.keep.step k4).step (Keeps.alloc [] _ _)).trans k6 (fun z hz hl => by simp at hz; omega), (c4.quiet (Keeps.alloc [] _ _)).kept k6 (fun z hz => ?_), F4, ?_, ?_, fun e => by cases e⟩
  · have := c4.lt z hz
    simp
    omega
  · unfold Made
    rw [if_neg (by rw [hx]; simp)]
    exact ⟨q, l, rfl, h.made⟩
  · have e1 : (whys (.ref q x.why x.f x.b x.i :: l)).length = 1 + (whys l).length := by show (x.why :: whys l).length = _; rw [List.length_cons]; omega
    rw [e1]
    exact own6

theorem one_own {w : World} {base : Nat} {y : Int} (h : base ≤ w.heap.size) : (w.alloc (.cells #[.int .i64 y] 3)).ownsRow base 3 1 (.slice (some ⟨w.heap.size, 0, none⟩) 1 1) 1 [.int .i64 y] :=
  ⟨rfl, Or.inr ⟨w.heap.size, 1, _, rfl, h, heap_new _ _, Nat.le_refl _, by unfold maxLen; omega, rfl, rfl⟩⟩
theorem news_own {w : World} {base g n cap : Nat} {xs : List Value} (h : w.ownsRow base 3 1 (.slice (some ⟨g, 0, none⟩) n cap) n xs) : ∀ j u, xs[j]? = some u → w.cell? ((⟨g, 0, none⟩ : Addr).add j) = some u := by
  intro j u hu
  have hj : j < n := by
    have := (List.getElem?_eq_some_iff.1 hu).1
    have := h.1
    omega
  rw [Addr.add_lit, Nat.zero_add, h.cellAt j (by omega)]
  exact hu
theorem nums_one (l : List Int) : ∀ u ∈ nums l, u.oneCell' = true := ints_oneCell .i64 l

theorem drop_cons (zs : List Ln) (k : Nat) (h : k < zs.length) : zs.drop k = zs.getD k Ln.zero :: zs.drop (k + 1) := by
  rw [List.drop_eq_getElem_cons h, List.getD_eq_getElem?_getD, List.getElem?_eq_getElem h]
  rfl

theorem heap_new2 (w : World) (a o : Obj) : ((w.alloc a).alloc o).heap[w.heap.size + 1]? = some o := by
  have := heap_new (w.alloc a) o
  simpa using this

theorem getD_mem_ln (zs : List Ln) (k : Nat) (h : k < zs.length) : zs.getD k Ln.zero ∈ zs := by
  rw [List.getD_eq_getElem?_getD, List.getElem?_eq_getElem h]
  exact List.getElem_mem h

set_option maxHeartbeats 8000000 in
theorem made_raw (b off cap : Nat) (zs : List Ln) (w : World) (hl : zs.length ≤ 8) (hw : ∀ x, x ∈ zs → x.wf)
    (hc : ∀ i, i < zs.length → ∀ k, k < 6 → w.cell? ⟨b, off + i * 6 + k, none⟩ = (zs.getD i Ln.zero).cells[k]?) :
    Calls Tryd.prog 8 #[.slice (some ⟨b, off, none⟩) zs.length cap] w fun e w' => ∃ l lv, e = .returned (.tuple #[headV l, .string (textL zs), lv]) ∧ MadeSt w w' zs l lv := by
  have HC := hid hc
  have HW := hid hw
  have HL := hid hl
  have g1 : (0 : Int) ≤ (zs.length : Int) := by omega
  have g2 : (zs.length : Int) ≤ 8 := by omega
  clear hc hw hl
  obtain ⟨n, hn⟩ : ∃ n, n = zs.length := ⟨_, rfl⟩
  rw [← hn] at g1 g2 ⊢
  have HN := hid hn
  clear hn
  go_enter Tryd.func8, Tryd.ntmps8
  go_wp2_with fail
  go_loopw [5, 6, 7, 8] (fun e t lv i wr => ∃ (k : Nat) (j : Int) (l : List Lk), k ≤ n ∧ j = (k : Int) - 1 ∧ i = .int .i64 j ∧ e = headV l ∧ t = .string (textL (zs.drop k)) ∧ Box (MadeSt w wr (zs.drop k) l lv)) (fun _ _ _ i _ => (intOf i + 1).toNat)
  case atStart =>
    refine ⟨n, (n : Int) - 1, [], Nat.le_refl _, rfl, rfl, rfl, ?_, hid ?_⟩
    · rw [HN.out, List.drop_length]; rfl
    · rw [HN.out, List.drop_length]
      exact ⟨Keeps.refl _ _, trivial, trivial, rfl, ⟨rfl, Or.inl ⟨rfl, rfl⟩⟩, fun _ => rfl⟩
  case round =>
    obtain ⟨k, j, l, hk, rfl, rfl, rfl, rfl, hs⟩ := hrel
    rcases k with _ | k
    · have hi : ¬ (0 : Int) ≤ ((0 : Nat) : Int) - 1 := by omega
      go_wp2_with fail
      exact bodyPost_ret (v := .tuple #[headV l, .string (textL zs), u7]) (by simp [results, Tryd.results8, go_sem]) rfl ⟨l, u7, rfl, hs.out⟩
    · have e1 : ((k + 1 : Nat) : Int) - 1 = (k : Int) := by omega
      rw [e1]
      clear e1
      have hkn : k < zs.length := by have := HN.out; omega
      have i0 : (0 : Int) ≤ (k : Int) := by omega
      have i1 : (k : Int) < (n : Int) := by omega
      have hx := HW.out _ (getD_mem_ln zs k hkn)
      have HD := drop_cons zs k hkn
      have hbl : b < w.heap.size := block_lt_of_cell (a := ⟨b, off + k * 6 + 0, none⟩) (HC.out k hkn 0 (by omega))
      have hcell : ∀ j, j < 6 → wr.cell? ⟨b, off + k * 6 + j, none⟩ = (zs.getD k Ln.zero).cells[j]? := fun j hj => by
        rw [hs.out.keep.cell (p := ⟨b, off + k * 6 + j, none⟩) hbl (by simp)]
        exact HC.out k hkn j hj
      generalize zs.getD k Ln.zero = x at *
      obtain ⟨y, f, bb, i, oth, tx⟩ := x
      have c0 : wr.cell? ⟨b, off + k * 6, none⟩ = some (.int .i64 y) := hcell 0 (by omega)
      have c1 : wr.cell? ⟨b, off + k * 6 + 1, none⟩ = some (.int .i64 f) := hcell 1 (by omega)
      have c2 : wr.cell? ⟨b, off + k * 6 + 2, none⟩ = some (.int .i64 bb) := hcell 2 (by omega)
      have c3 : wr.cell? ⟨b, off + k * 6 + 3, none⟩ = some (.int .i64 i) := hcell 3 (by omega)
      have c4 : wr.cell? ⟨b, off + k * 6 + 4, none⟩ = some (.bool oth) := hcell 4 (by omega)
      have c5 : wr.cell? ⟨b, off + k * 6 + 5, none⟩ = some (.string tx) := hcell 5 (by omega)
      have HX := hid hx
      have HDR := hid HD
      have HK := hid (show k < n from hk)
      clear hcell hx HD hkn hbl hk
      obtain ⟨TT, hT⟩ : ∃ TT : ByteArray, (20 < tx.size ∧ ∀ w, (Instr.slice 9 (.string tx) none (some (.int .i64 20)) none).run Tryd.prog w = .ok (.string TT) w) ∨ (¬ 20 < tx.size ∧ TT = tx) := by
        by_cases c : 20 < tx.size
        · exact ⟨tx.extract 0 20, Or.inl ⟨c, fun w => run_slice_string_h w 9 tx Tryd.underlying9 .i64 20 (by omega) (by omega)⟩⟩
        · exact ⟨tx, Or.inr ⟨c, rfl⟩⟩
      cases oth with
      | true =>
        have hfin : Box (∀ w' q, w'.heap[q]? = some (.cells #[.string TT, headV l] 50 (0, 0)) → Keeps [] wr w' → wr.heap.size ≤ q → MadeSt w w' (zs.drop k) (.oth q TT :: l) u7) := hid fun w' q hq kk hle => by
          have h2 := hs.out.quiet kk
          refine ⟨h2.keep, ⟨hq, h2.chain⟩, ⟨fun z hz => ?_, h2.falls⟩, ?_, h2.own, h2.nil⟩
          · have := hs.out.chain.lt z hz
            show z.at < q
            omega
          · rw [HDR.out]
            exact ⟨q, TT, l, rfl, h2.made⟩
        have HTX : Box (textL (zs.drop (k + 1)) = textL (zs.drop k)) := hid (by rw [HDR.out]; rfl)
        have hE := headV_cases l
        generalize hV : headV l = V at *
        have EV := hid hV
        clear hV
        rcases hE with rfl | ⟨T, p0, rfl⟩ <;> rcases hT with ⟨hb, hsl⟩ | ⟨hb, rfl⟩
        all_goals
          go_wp2_with fail
          go_roundw
          case rel =>
            refine ⟨k, _, _, by have := HK.out; omega, rfl, rfl, rfl, by rw [HTX.out], hid (hfin.out _ (wr.heap.size + 1) ?_ ?_ (by omega))⟩
            · exact heap_new2 _ _ _
            · exact ((Keeps.refl [] wr).step (Keeps.alloc [] _ _)).step (Keeps.alloc [] _ _)
          case measure => simp [intOf]
      | false =>
        have HTX0 : Box (textL (zs.drop k) = textB y f bb i) := hid (by rw [HDR.out]; rfl)
        obtain ⟨w0, w1, w2, w3⟩ : wf64 y ∧ wf64 f ∧ wf64 bb ∧ wf64 i := HX.out
        have hu : (u7 = .slice none 0 0 ∧ whys l = []) ∨ ∃ g cap7, u7 = .slice (some ⟨g, 0, none⟩) (whys l).length cap7 ∧ 0 < (whys l).length := by
          rcases hs.out.own.2 with ⟨e, h0⟩ | ⟨g, cap7, cur, e, _⟩
          · exact Or.inl ⟨e, List.eq_nil_of_length_eq_zero h0⟩
          · refine Or.inr ⟨g, cap7, e, ?_⟩
            rcases Nat.eq_zero_or_pos (whys l).length with h0 | h0
            · have := hs.out.nil (List.eq_nil_of_length_eq_zero h0)
              rw [e] at this
              simp at this
            · exact h0
        have XH0 : (wr.alloc (.cells #[.int .i64 y, .int .i64 f, .int .i64 bb, .int .i64 i, .bool false, .string TT] 42)).heap[wr.heap.size]? = some (.cells #[.int .i64 y, .int .i64 f, .int .i64 bb, .int .i64 i, .bool false, .string TT] 42 (0, 0)) := heap_new _ _
        by_cases hf : 0 ≤ f
        · have HTX : Box (textL (zs.drop k) = nameB y ++ (atB ++ decB f ++ dotB ++ decB bb ++ dotB ++ decB i)) := hid (by
            rw [HTX0.out]
            unfold textB
            rw [if_pos hf]
            simp only [ByteArray.append_assoc])
          have hnew : Box (∀ w', Keeps [] (wr.alloc (.cells #[.int .i64 y, .int .i64 f, .int .i64 bb, .int .i64 i, .bool false, .string TT] 42)) w' → Box (Keeps [] (wr.alloc (.cells #[.int .i64 y, .int .i64 f, .int .i64 bb, .int .i64 i, .bool false, .string TT] 42)) w') ∧ w'.cell? ⟨wr.heap.size, 0, none⟩ = some (.int .i64 y) ∧ w'.cell? ⟨wr.heap.size, 1, none⟩ = some (.int .i64 f) ∧ w'.cell? ⟨wr.heap.size, 2, none⟩ = some (.int .i64 bb) ∧ w'.cell? ⟨wr.heap.size, 3, none⟩ = some (.int .i64 i)) := hid fun w' kk => by
            have hh := (kk.block _ (heap_lt XH0) (by simp)).trans XH0
            exact ⟨hid kk, pcell hh 0, pcell hh 1, pcell hh 2, pcell hh 3⟩
          have HF := hid fun w' (s : Box (Keeps [] (wr.alloc (.cells #[.int .i64 y, .int .i64 f, .int .i64 bb, .int .i64 i, .bool false, .string TT] 42)) w') ∧ w'.cell? ⟨wr.heap.size, 0, none⟩ = some (.int .i64 y) ∧ w'.cell? ⟨wr.heap.size, 1, none⟩ = some (.int .i64 f) ∧ w'.cell? ⟨wr.heap.size, 2, none⟩ = some (.int .i64 bb) ∧ w'.cell? ⟨wr.heap.size, 3, none⟩ = some (.int .i64 i)) => (dec_any f w1 w').mono fun e w2 (hh : e = _ ∧ Keeps [] w' w2) => (⟨hh.1, hnew.out w2 (s.1.out.step hh.2)⟩ : _ ∧ _)
          have HB := hid fun w' (s : Box (Keeps [] (wr.alloc (.cells #[.int .i64 y, .int .i64 f, .int .i64 bb, .int .i64 i, .bool false, .string TT] 42)) w') ∧ w'.cell? ⟨wr.heap.size, 0, none⟩ = some (.int .i64 y) ∧ w'.cell? ⟨wr.heap.size, 1, none⟩ = some (.int .i64 f) ∧ w'.cell? ⟨wr.heap.size, 2, none⟩ = some (.int .i64 bb) ∧ w'.cell? ⟨wr.heap.size, 3, none⟩ = some (.int .i64 i)) => (dec_any bb w2 w').mono fun e w2 (hh : e = _ ∧ Keeps [] w' w2) => (⟨hh.1, hnew.out w2 (s.1.out.step hh.2)⟩ : _ ∧ _)
          have HI := hid fun w' (s : Box (Keeps [] (wr.alloc (.cells #[.int .i64 y, .int .i64 f, .int .i64 bb, .int .i64 i, .bool false, .string TT] 42)) w') ∧ w'.cell? ⟨wr.heap.size, 0, none⟩ = some (.int .i64 y) ∧ w'.cell? ⟨wr.heap.size, 1, none⟩ = some (.int .i64 f) ∧ w'.cell? ⟨wr.heap.size, 2, none⟩ = some (.int .i64 bb) ∧ w'.cell? ⟨wr.heap.size, 3, none⟩ = some (.int .i64 i)) => (dec_any i w3 w').mono fun e w2 (hh : e = _ ∧ Keeps [] w' w2) => (⟨hh.1, hnew.out w2 (s.1.out.step hh.2)⟩ : _ ∧ _)
          have z0 := nameB_size y
          have z1 := decB_size f w1.1 w1.2
          have z2 := decB_size bb w2.1 w2.2
          have z3 := decB_size i w3.1 w3.2
          have HNm := hid fun w' => name13_any y w'
          generalize nameB y = N at *
          generalize decB f = F at *
          generalize decB bb = B at *
          generalize decB i = I at *
          obtain ⟨S1, E1⟩ : ∃ S, S = atB ++ F := ⟨_, rfl⟩
          obtain ⟨S2, E2⟩ : ∃ S, S = S1 ++ dotB := ⟨_, rfl⟩
          obtain ⟨S3, E3⟩ : ∃ S, S = S2 ++ B := ⟨_, rfl⟩
          obtain ⟨S4, E4⟩ : ∃ S, S = S3 ++ dotB := ⟨_, rfl⟩
          obtain ⟨S5, E5⟩ : ∃ S, S = S4 ++ I := ⟨_, rfl⟩
          obtain ⟨S6, E6⟩ : ∃ S, S = N ++ S5 := ⟨_, rfl⟩
          have a0 : atB.size = 4 := rfl
          have a1 : dotB.size = 1 := rfl
          have t1 : S1.size = 4 + F.size := by rw [E1, ByteArray.size_append, a0]
          have t2 : S2.size = S1.size + 1 := by rw [E2, ByteArray.size_append, a1]
          have t3 : S3.size = S2.size + B.size := by rw [E3, ByteArray.size_append]
          have t4 : S4.size = S3.size + 1 := by rw [E4, ByteArray.size_append, a1]
          have t5 : S5.size = S4.size + I.size := by rw [E5, ByteArray.size_append]
          have U1 : Box (4 + F.size ≤ 1000 ∧ S1 = atB ++ F) := hid ⟨by omega, E1⟩
          have U2 : Box (S1.size + 1 ≤ 1000 ∧ S2 = S1 ++ dotB) := hid ⟨by omega, E2⟩
          have U3 : Box (S2.size + B.size ≤ 1000 ∧ S3 = S2 ++ B) := hid ⟨by omega, E3⟩
          have U4 : Box (S3.size + 1 ≤ 1000 ∧ S4 = S3 ++ dotB) := hid ⟨by omega, E4⟩
          have U5 : Box (S4.size + I.size ≤ 1000 ∧ S5 = S4 ++ I) := hid ⟨by omega, E5⟩
          have U6 : Box (N.size + S5.size ≤ 1000 ∧ S6 = N ++ S5) := hid ⟨by omega, E6⟩
          rw [← E1, ← E2, ← E3, ← E4, ← E5, ← E6] at HTX
          have hs0 := hnew.out (wr.alloc (.cells #[.int .i64 y, .int .i64 f, .int .i64 bb, .int .i64 i, .bool false, .string TT] 42)).drew (Keeps.drew _ _)
          clear E1 E2 E3 E4 E5 E6 t1 t2 t3 t4 t5 a0 a1 z0 z1 z2 z3 w0 w1 w2 w3 HTX0 hnew
          rcases hT with ⟨hb, hsl⟩ | ⟨hb, rfl⟩
          all_goals
            go_wp2_with (go_at_call 13; refine (HNm.out _).mono ?_; rintro e w' ⟨rfl, rfl⟩)
            refine wp_region_held_drew (S := fun w' => Box (Keeps [] (wr.alloc (.cells #[.int .i64 y, .int .i64 f, .int .i64 bb, .int .i64 i, .bool false, .string TT] 42)) w') ∧ w'.cell? ⟨wr.heap.size, 0, none⟩ = some (.int .i64 y) ∧ w'.cell? ⟨wr.heap.size, 1, none⟩ = some (.int .i64 f) ∧ w'.cell? ⟨wr.heap.size, 2, none⟩ = some (.int .i64 bb) ∧ w'.cell? ⟨wr.heap.size, 3, none⟩ = some (.int .i64 i)) (by kernel_rfl) hs0 (fun _ => ?_)
            refine take_yield (i := 0) (d := 45) (v := .string N) rfl rfl (by as_aux_lemma => kernel_rfl) (by as_aux_lemma => kernel_rfl) (by as_aux_lemma => kernel_rfl) (fun _ _ _ h => h) (by rfl) hs0 (fun w9 hw9 => by (try dsimp only at hw9); go_simp) ?_
            simp only [Act.put, List.setIfInBounds_toArray, List.set_cons_zero, List.set_cons_succ]
            refine take_yield (i := 1) (d := 46) (v := .pointer (some ⟨wr.heap.size, 1, none⟩)) rfl rfl (by as_aux_lemma => kernel_rfl) (by as_aux_lemma => kernel_rfl) (by as_aux_lemma => kernel_rfl) (fun _ _ _ h => h) (by rfl) hs0 (fun w9 hw9 => by (try dsimp only at hw9); go_simp) ?_
            simp only [Act.put, List.setIfInBounds_toArray, List.set_cons_zero, List.set_cons_succ]
            refine take_yield (i := 2) (d := 47) (v := .pointer (some ⟨wr.heap.size, 1, none⟩)) rfl rfl (by as_aux_lemma => kernel_rfl) (by as_aux_lemma => kernel_rfl) (by as_aux_lemma => kernel_rfl) (fun _ _ _ h => h) (by rfl) hs0 (fun w9 hw9 => by (try dsimp only at hw9); go_simp) ?_
            simp only [Act.put, List.setIfInBounds_toArray, List.set_cons_zero, List.set_cons_succ]
            refine take_yield (i := 3) (d := 48) (v := .int .i64 f) rfl rfl (by as_aux_lemma => kernel_rfl) (by as_aux_lemma => kernel_rfl) (by as_aux_lemma => kernel_rfl) (fun _ _ _ h => h) (by rfl) hs0 (fun w9 hw9 => by (try dsimp only at hw9); go_simp) ?_
            simp only [Act.put, List.setIfInBounds_toArray, List.set_cons_zero, List.set_cons_succ]
            refine take_yield (i := 7) (d := 52) (v := .pointer (some ⟨wr.heap.size, 1, none⟩)) rfl rfl (by as_aux_lemma => kernel_rfl) (by as_aux_lemma => kernel_rfl) (by as_aux_lemma => kernel_rfl) (fun _ _ _ h => h) (by rfl) hs0 (fun w9 hw9 => by (try dsimp only at hw9); go_simp) ?_
            simp only [Act.put, List.setIfInBounds_toArray, List.set_cons_zero, List.set_cons_succ]
            refine take_yield (i := 8) (d := 53) (v := .pointer (some ⟨wr.heap.size, 2, none⟩)) rfl rfl (by as_aux_lemma => kernel_rfl) (by as_aux_lemma => kernel_rfl) (by as_aux_lemma => kernel_rfl) (fun _ _ _ h => h) (by rfl) hs0 (fun w9 hw9 => by (try dsimp only at hw9); go_simp) ?_
            simp only [Act.put, List.setIfInBounds_toArray, List.set_cons_zero, List.set_cons_succ]
            refine take_yield (i := 9) (d := 54) (v := .int .i64 bb) rfl rfl (by as_aux_lemma => kernel_rfl) (by as_aux_lemma => kernel_rfl) (by as_aux_lemma => kernel_rfl) (fun _ _ _ h => h) (by rfl) hs0 (fun w9 hw9 => by (try dsimp only at hw9); go_simp) ?_
            simp only [Act.put, List.setIfInBounds_toArray, List.set_cons_zero, List.set_cons_succ]
            refine take_yield (i := 13) (d := 58) (v := .pointer (some ⟨wr.heap.size, 1, none⟩)) rfl rfl (by as_aux_lemma => kernel_rfl) (by as_aux_lemma => kernel_rfl) (by as_aux_lemma => kernel_rfl) (fun _ _ _ h => h) (by rfl) hs0 (fun w9 hw9 => by (try dsimp only at hw9); go_simp) ?_
            simp only [Act.put, List.setIfInBounds_toArray, List.set_cons_zero, List.set_cons_succ]
            refine take_yield (i := 14) (d := 59) (v := .pointer (some ⟨wr.heap.size, 3, none⟩)) rfl rfl (by as_aux_lemma => kernel_rfl) (by as_aux_lemma => kernel_rfl) (by as_aux_lemma => kernel_rfl) (fun _ _ _ h => h) (by rfl) hs0 (fun w9 hw9 => by (try dsimp only at hw9); go_simp) ?_
            simp only [Act.put, List.setIfInBounds_toArray, List.set_cons_zero, List.set_cons_succ]
            refine take_yield (i := 15) (d := 60) (v := .int .i64 i) rfl rfl (by as_aux_lemma => kernel_rfl) (by as_aux_lemma => kernel_rfl) (by as_aux_lemma => kernel_rfl) (fun _ _ _ h => h) (by rfl) hs0 (fun w9 hw9 => by (try dsimp only at hw9); go_simp) ?_
            simp only [Act.put, List.setIfInBounds_toArray, List.set_cons_zero, List.set_cons_succ]
            refine take_call (i := 4) (d := 49) rfl rfl (by as_aux_lemma => kernel_rfl) (by rfl) 23 #[.int .i64 f] (by first | rfl | (go_simp; done)) (.string F) (HF.out _ hs0) ?_
            intro w71 hs71
            simp only [Act.put, List.setIfInBounds_toArray, List.set_cons_zero, List.set_cons_succ]
            refine take_yield (i := 5) (d := 50) (v := .string S1) rfl rfl (by as_aux_lemma => kernel_rfl) (by as_aux_lemma => kernel_rfl) (by as_aux_lemma => kernel_rfl) (fun _ _ _ h => h) (by rfl) hs71 (fun w9 hw9 => by (try dsimp only at hw9); go_simp; rw [if_neg (by have := U1.out.1; omega), U1.out.2]; try rfl) ?_
            simp only [Act.put, List.setIfInBounds_toArray, List.set_cons_zero, List.set_cons_succ]
            refine take_yield (i := 6) (d := 51) (v := .string S2) rfl rfl (by as_aux_lemma => kernel_rfl) (by as_aux_lemma => kernel_rfl) (by as_aux_lemma => kernel_rfl) (fun _ _ _ h => h) (by rfl) hs71 (fun w9 hw9 => by (try dsimp only at hw9); go_simp; rw [if_neg (by have := U2.out.1; omega), U2.out.2]; try rfl) ?_
            simp only [Act.put, List.setIfInBounds_toArray, List.set_cons_zero, List.set_cons_succ]
            refine take_call (i := 10) (d := 55) rfl rfl (by as_aux_lemma => kernel_rfl) (by rfl) 23 #[.int .i64 bb] (by first | rfl | (go_simp; done)) (.string B) (HB.out _ hs71) ?_
            intro w72 hs72
            simp only [Act.put, List.setIfInBounds_toArray, List.set_cons_zero, List.set_cons_succ]
            refine take_yield (i := 11) (d := 56) (v := .string S3) rfl rfl (by as_aux_lemma => kernel_rfl) (by as_aux_lemma => kernel_rfl) (by as_aux_lemma => kernel_rfl) (fun _ _ _ h => h) (by rfl) hs72 (fun w9 hw9 => by (try dsimp only at hw9); go_simp; rw [if_neg (by have := U3.out.1; omega), U3.out.2]; try rfl) ?_
            simp only [Act.put, List.setIfInBounds_toArray, List.set_cons_zero, List.set_cons_succ]
            refine take_yield (i := 12) (d := 57) (v := .string S4) rfl rfl (by as_aux_lemma => kernel_rfl) (by as_aux_lemma => kernel_rfl) (by as_aux_lemma => kernel_rfl) (fun _ _ _ h => h) (by rfl) hs72 (fun w9 hw9 => by (try dsimp only at hw9); go_simp; rw [if_neg (by have := U4.out.1; omega), U4.out.2]; try rfl) ?_
            simp only [Act.put, List.setIfInBounds_toArray, List.set_cons_zero, List.set_cons_succ]
            refine take_call (i := 16) (d := 61) rfl rfl (by as_aux_lemma => kernel_rfl) (by rfl) 23 #[.int .i64 i] (by first | rfl | (go_simp; done)) (.string I) (HI.out _ hs72) ?_
            intro w73 hs73
            simp only [Act.put, List.setIfInBounds_toArray, List.set_cons_zero, List.set_cons_succ]
            refine take_yield (i := 17) (d := 62) (v := .string S5) rfl rfl (by as_aux_lemma => kernel_rfl) (by as_aux_lemma => kernel_rfl) (by as_aux_lemma => kernel_rfl) (fun _ _ _ h => h) (by rfl) hs73 (fun w9 hw9 => by (try dsimp only at hw9); go_simp; rw [if_neg (by have := U5.out.1; omega), U5.out.2]; try rfl) ?_
            simp only [Act.put, List.setIfInBounds_toArray, List.set_cons_zero, List.set_cons_succ]
            refine take_yield (i := 18) (d := 63) (v := .string S6) rfl rfl (by as_aux_lemma => kernel_rfl) (by as_aux_lemma => kernel_rfl) (by as_aux_lemma => kernel_rfl) (fun _ _ _ h => h) (by rfl) hs73 (fun w9 hw9 => by (try dsimp only at hw9); go_simp; rw [if_neg (by have := U6.out.1; omega), U6.out.2]; try rfl) ?_
            simp only [Act.put, List.setIfInBounds_toArray, List.set_cons_zero, List.set_cons_succ]
            refine take_yield (i := 19) (d := 10) (v := .string S6) rfl rfl (by as_aux_lemma => kernel_rfl) (by as_aux_lemma => kernel_rfl) (by as_aux_lemma => kernel_rfl) (fun _ _ _ h => h) (by rfl) hs73 (fun w9 hw9 => by (try dsimp only at hw9); go_simp) ?_
            simp only [Act.put, List.setIfInBounds_toArray, List.set_cons_zero, List.set_cons_succ]
            refine wpAnyH_done (by as_aux_lemma => kernel_rfl) ?_ _
            go_wp2_with fail
            have KX := hs73.1.out
            have XH := (KX.block _ (heap_lt XH0) (by simp)).trans XH0
            refine (new_any y f bb i l _ ((hs.out.chain.quiet (Keeps.alloc [] wr _)).quiet KX) hs.out.falls).mono ?_
            rintro e w4 ⟨q, rfl, hc4, hF4, hk4, hp4⟩
            have H4 := hid (show ChainAt w4 (.ref q y f bb i :: l) ∧ Falls (.ref q y f bb i :: l) ∧ Keeps [] wr w4 from ⟨hc4, hF4, ((Keeps.alloc [] wr _).step KX).step hk4⟩)
            have HX4 := hid ((hk4.block _ (heap_lt XH) (by simp)).trans XH)
            have d0 := pcell HX4.out 0
            clear hc4 hF4 hk4 hp4
            rcases hu with ⟨rfl, hw0⟩ | ⟨g, cap7, rfl, hpos⟩
            · go_wp2_with fail
              go_roundw
              case rel =>
                refine ⟨k, _, _, by have := HK.out; omega, rfl, rfl, rfl, by rw [HTX.out], hid ?_⟩
                rw [HDR.out]
                refine hs.out.ref rfl H4.out.2.2 H4.out.1 H4.out.2.1 (Keeps.refl _ _) ?_
                rw [hw0]
                exact one_own (by have := (hs.out.keep.step H4.out.2.2).size; omega)
              case measure => simp [intOf]
            · have ho4 := hid (owns_keep (owns_keep hs.out.own H4.out.2.2 (by simp)) (Keeps.alloc [] w4 (Obj.cells #[.int .i64 y] 3)) (by simp))
              have hlen := whys_le l
              have hmade := hs.out.made.len
              have hdl : (zs.drop (k + 1)).length ≤ 8 := by have := HL.out; rw [List.length_drop]; omega
              have HLL : Box ((whys l).length ≤ 8) := hid (by omega)
              have hsz := (hs.out.keep.step H4.out.2.2).size
              clear hlen hmade hdl
              obtain ⟨m, hm⟩ : ∃ m, m = (whys l).length := ⟨_, rfl⟩
              rw [← hm] at ho4 HLL hpos
              have HM := hid hm
              rw [← hm]
              clear hm
              go_wp2_with (at_builtin; refine wpList_append_own _ rfl _ _ 26 rfl w.heap.size 3 Tryd.t3 (.int .i64 0) 1 8 under_ints info_int zero_int size_int bytes_int rfl (by decide) _ 1 [.int .i64 y] rfl (one_own (by omega)) ⟨g, 0, none⟩ m cap7 (nums (whys l)) rfl (by unfold nums; rw [List.length_map, HM.out, Nat.mul_one]) (news_own ho4.out) (fun u hu => nums_one _ u hu) (by have := HLL.out; unfold maxLen; omega) (by have := HLL.out; omega) (by simp; omega) ?_; intro v' w6 hown6 hgrow6 hnil6; have HO6 := hid hown6; have HG6 := hid hgrow6; clear hown6 hgrow6 hnil6)
              go_roundw
              case rel =>
                refine ⟨k, _, _, by have := HK.out; omega, rfl, rfl, rfl, by rw [HTX.out], hid ?_⟩
                rw [HDR.out]
                have hg6 : (w4.alloc (Obj.cells #[.int .i64 y] 3)).grownBy w6 (some w4.heap.size) := HG6.out
                refine hs.out.ref rfl H4.out.2.2 H4.out.1 H4.out.2.1 (Keeps.grown [w4.heap.size] hg6 (fun k hk => by cases hk; simp)) ?_
                rw [← HM.out]
                exact HO6.out
              case measure => simp [intOf]
        · have HTX : Box (textL (zs.drop k) = nameB y) := hid (by rw [HTX0.out]; unfold textB; rw [if_neg hf])
          have HNm := hid fun w' => name13_any y w'
          generalize nameB y = N at *
          clear HTX0 w0 w1 w2 w3
          have hf' : ¬ 0 ≤ f := hf
          have KX : Keeps [] (wr.alloc (.cells #[.int .i64 y, .int .i64 f, .int .i64 bb, .int .i64 i, .bool false, .string TT] 42)) (wr.alloc (.cells #[.int .i64 y, .int .i64 f, .int .i64 bb, .int .i64 i, .bool false, .string TT] 42)) := Keeps.refl _ _
          have XH := XH0
          rcases hT with ⟨hb, hsl⟩ | ⟨hb, rfl⟩
          all_goals
            go_wp2_with (go_at_call 13; refine (HNm.out _).mono ?_; rintro e w' ⟨rfl, rfl⟩)
            refine (new_any y f bb i l _ ((hs.out.chain.quiet (Keeps.alloc [] wr _)).quiet KX) hs.out.falls).mono ?_
            rintro e w4 ⟨q, rfl, hc4, hF4, hk4, hp4⟩
            have H4 := hid (show ChainAt w4 (.ref q y f bb i :: l) ∧ Falls (.ref q y f bb i :: l) ∧ Keeps [] wr w4 from ⟨hc4, hF4, ((Keeps.alloc [] wr _).step KX).step hk4⟩)
            have HX4 := hid ((hk4.block _ (heap_lt XH) (by simp)).trans XH)
            have d0 := pcell HX4.out 0
            clear hc4 hF4 hk4 hp4
            rcases hu with ⟨rfl, hw0⟩ | ⟨g, cap7, rfl, hpos⟩
            · go_wp2_with fail
              go_roundw
              case rel =>
                refine ⟨k, _, _, by have := HK.out; omega, rfl, rfl, rfl, by rw [HTX.out], hid ?_⟩
                rw [HDR.out]
                refine hs.out.ref rfl H4.out.2.2 H4.out.1 H4.out.2.1 (Keeps.refl _ _) ?_
                rw [hw0]
                exact one_own (by have := (hs.out.keep.step H4.out.2.2).size; omega)
              case measure => simp [intOf]
            · have ho4 := hid (owns_keep (owns_keep hs.out.own H4.out.2.2 (by simp)) (Keeps.alloc [] w4 (Obj.cells #[.int .i64 y] 3)) (by simp))
              have hlen := whys_le l
              have hmade := hs.out.made.len
              have hdl : (zs.drop (k + 1)).length ≤ 8 := by have := HL.out; rw [List.length_drop]; omega
              have HLL : Box ((whys l).length ≤ 8) := hid (by omega)
              have hsz := (hs.out.keep.step H4.out.2.2).size
              clear hlen hmade hdl
              obtain ⟨m, hm⟩ : ∃ m, m = (whys l).length := ⟨_, rfl⟩
              rw [← hm] at ho4 HLL hpos
              have HM := hid hm
              rw [← hm]
              clear hm
              go_wp2_with (at_builtin; refine wpList_append_own _ rfl _ _ 26 rfl w.heap.size 3 Tryd.t3 (.int .i64 0) 1 8 under_ints info_int zero_int size_int bytes_int rfl (by decide) _ 1 [.int .i64 y] rfl (one_own (by omega)) ⟨g, 0, none⟩ m cap7 (nums (whys l)) rfl (by unfold nums; rw [List.length_map, HM.out, Nat.mul_one]) (news_own ho4.out) (fun u hu => nums_one _ u hu) (by have := HLL.out; unfold maxLen; omega) (by have := HLL.out; omega) (by simp; omega) ?_; intro v' w6 hown6 hgrow6 hnil6; have HO6 := hid hown6; have HG6 := hid hgrow6; clear hown6 hgrow6 hnil6)
              go_roundw
              case rel =>
                refine ⟨k, _, _, by have := HK.out; omega, rfl, rfl, rfl, by rw [HTX.out], hid ?_⟩
                rw [HDR.out]
                have hg6 : (w4.alloc (Obj.cells #[.int .i64 y] 3)).grownBy w6 (some w4.heap.size) := HG6.out
                refine hs.out.ref rfl H4.out.2.2 H4.out.1 H4.out.2.1 (Keeps.grown [w4.heap.size] hg6 (fun k hk => by cases hk; simp)) ?_
                rw [← HM.out]
                exact HO6.out
              case measure => simp [intOf]
end Go.Proofs.YtjofffhfabmfkaaDoor
