/-
  Plain: the way that the walk by breadth finds is a way of edges, a shortest one, and of these the least.
  Contract: graph's Path, where an end is no node.
  Contracts: the documents' own In and Put.
  Plain: a graph with an edge more.
  Plain: an edge more; sets that are the same.
  Contracts: a ring of nodes, each once, by the statements' own Put and In.
  The statement GraphPathLeast.
-/
import Derived.Test.YtngdnjlohmkbiaaDoorGPath
import Derived.Test.YtngdnjlohmkbiaaDoorGRef
import Derived.Deep.RegionLawGrows
import Derived.Test.YtngdnjlohmkbiaaDoorGLaw
import Derived.Deep.RegionHeld3

namespace Go.Proofs.YtngdnjlohmkbiaaDoor
open Go.RowKit

theorem idx_app {l r : List Nat} {y : Nat} (h : y ∈ l) : (l ++ r).idxOf y = l.idxOf y := by rw [List.idxOf_append, if_pos h]
theorem idx_app_new {l r : List Nat} {y : Nat} (h : y ∉ l) : (l ++ r).idxOf y = r.idxOf y + l.length := by rw [List.idxOf_append, if_neg h]
theorem idx_lt {l : List Nat} {y : Nat} (h : y ∈ l) : l.idxOf y < l.length := List.idxOf_lt_length_of_mem h
theorem idx_getD {l : List Nat} {y : Nat} (h : y ∈ l) : l.getD (l.idxOf y) 0 = y := by
  rw [List.getD_eq_getElem?_getD, List.getElem?_eq_getElem (idx_lt h), Option.getD_some]
  exact List.getElem_idxOf (idx_lt h)
theorem idx_inj {l : List Nat} {x y : Nat} (hx : x ∈ l) (hy : y ∈ l) (e : l.idxOf x = l.idxOf y) : x = y := by
  rw [← idx_getD hx, ← idx_getD hy, e]
theorem getD_idx {l : List Nat} (hn : l.Nodup) {k : Nat} (hk : k < l.length) : l.idxOf (l.getD k 0) = k := by
  rw [List.getD_eq_getElem?_getD, List.getElem?_eq_getElem hk, Option.getD_some]
  exact List.Nodup.idxOf_getElem hn k hk
theorem idx_sorted {l : List Nat} (hs : l.Pairwise (· < ·)) {x y : Nat} (hx : x ∈ l) (hy : y ∈ l) (h : l.idxOf x ≤ l.idxOf y) : x ≤ y := by
  by_cases e : l.idxOf x = l.idxOf y
  · rw [idx_inj hx hy e]; exact Nat.le_refl _
  · have h1 := List.pairwise_iff_getElem.1 hs (l.idxOf x) (l.idxOf y) (idx_lt hx) (idx_lt hy) (by omega)
    rw [List.getElem_idxOf, List.getElem_idxOf] at h1
    omega

structure Bq (g : List (List Nat)) (fr : Nat) (line : List Nat) (bf : Nat → Nat) (k : Nat) : Prop where
  bs : Bf g fr line bf
  le : k ≤ line.length
  edge : ∀ y, y ∈ line → y ≠ fr → y ∈ nb g (bf y) ∧ bf y ∈ line ∧ line.idxOf (bf y) < k
  first : ∀ y, y ∈ line → y ≠ fr → ∀ x, y ∈ nb g x → line.idxOf (bf y) ≤ line.idxOf x
  mono : ∀ y z, y ∈ line → z ∈ line → y ≠ fr → z ≠ fr → line.idxOf y ≤ line.idxOf z → line.idxOf (bf y) ≤ line.idxOf (bf z) ∧ (bf y = bf z → y ≤ z)
  seen : ∀ x, x ∈ line → line.idxOf x < k → ∀ y, y ∈ nb g x → y ∈ line
theorem Bf.fr_mem {g : List (List Nat)} {fr : Nat} {line : List Nat} {bf : Nat → Nat} (h : Bf g fr line bf) : fr ∈ line := h.head.2 ▸ getD_mem line 0 0 h.head.1
theorem Bf.fr_idx {g : List (List Nat)} {fr : Nat} {line : List Nat} {bf : Nat → Nat} (h : Bf g fr line bf) : line.idxOf fr = 0 := by
  have := getD_idx h.nodup h.head.1
  rw [h.head.2] at this
  exact this
theorem Bq.start {g : List (List Nat)} {fr : Nat} (h : fr < g.length) (bf : Nat → Nat) : Bq g fr [fr] bf 0 := by
  have key : ∀ y, y ∈ [fr] → y ≠ fr → False := fun y hy hne => hne (List.mem_singleton.1 hy)
  exact ⟨Bf.start h bf, Nat.zero_le _, fun y hy hn => (key y hy hn).elim, fun y hy hn => (key y hy hn).elim, fun y z hy _ hn => (key y hy hn).elim, fun _ _ h => absurd h (Nat.not_lt_zero _)⟩
theorem Bq.step {g : List (List Nat)} {fr : Nat} {line : List Nat} {bf : Nat → Nat} {k : Nat} (h : Bq g fr line bf k) (hg : Ok g) (hk : k < line.length) : Bq g fr (line ++ nxs g line (line.getD k 0) g.length) (bfJ g line (line.getD k 0) bf g.length) (k + 1) := by
  have hB := h.bs.step hg hk
  have hxi := getD_idx h.bs.nodup hk
  have hxl : line.getD k 0 ∈ line := getD_mem line k 0 hk
  generalize line.getD k 0 = x at hB hxi hxl ⊢
  have hnew : ∀ y, y ∈ line ++ nxs g line x g.length → y ∉ line → y ∈ nb g x ∧ bfJ g line x bf g.length y = x ∧ y ∈ nxs g line x g.length := by
    intro y hy hn
    have hm := (List.mem_append.1 hy).resolve_left hn
    obtain ⟨h1, h2, h3⟩ := nxs_mem.1 hm
    refine ⟨h2, ?_, hm⟩
    unfold bfJ
    rw [if_pos (by rw [nxt_iff.2 ⟨h2, h3⟩]; simp [h1])]
  have hold : ∀ y, y ∈ line → bfJ g line x bf g.length y = bf y := fun y hy => bfJ_old y hy
  have hfr := h.bs.fr_mem
  have hge : ∀ y, y ∉ line → line.length ≤ (line ++ nxs g line x g.length).idxOf y := fun y hy => by rw [idx_app_new hy]; omega
  refine ⟨hB, by rw [List.length_append]; omega, fun y hy hne => ?_, fun y hy hne x0 hx0 => ?_, fun y z hy hz hny hnz hle => ?_, fun x0 hx0 hi y hy => ?_⟩
  · by_cases ho : y ∈ line
    · obtain ⟨h1, h2, h3⟩ := h.edge y ho hne
      rw [hold y ho, idx_app h2]
      exact ⟨h1, List.mem_append_left _ h2, by omega⟩
    · obtain ⟨h1, h2, _⟩ := hnew y hy ho
      rw [h2, idx_app hxl, hxi]
      exact ⟨h1, List.mem_append_left _ hxl, by omega⟩
  · by_cases ho : y ∈ line
    · obtain ⟨_, h2, h3⟩ := h.edge y ho hne
      have h4 := h.first y ho hne x0 hx0
      rw [hold y ho, idx_app h2]
      by_cases hx : x0 ∈ line
      · rw [idx_app hx]; exact h4
      · have := hge x0 hx; omega
    · obtain ⟨_, h2, _⟩ := hnew y hy ho
      rw [h2, idx_app hxl, hxi]
      by_cases hx : x0 ∈ line
      · rw [idx_app hx]
        apply Classical.byContradiction
        intro hlt
        exact ho (h.seen x0 hx (by omega) y hx0)
      · have := hge x0 hx; omega
  · by_cases ho : y ∈ line
    · by_cases ho2 : z ∈ line
      · rw [hold y ho, hold z ho2, idx_app (h.edge y ho hny).2.1, idx_app (h.edge z ho2 hnz).2.1]
        rw [idx_app ho, idx_app ho2] at hle
        exact h.mono y z ho ho2 hny hnz hle
      · obtain ⟨_, h2, _⟩ := hnew z hz ho2
        obtain ⟨_, h3, h4⟩ := h.edge y ho hny
        rw [hold y ho, h2, idx_app h3, idx_app hxl, hxi]
        exact ⟨by omega, fun e => by rw [e, hxi] at h4; omega⟩
    · have h1 := hge y ho
      by_cases ho2 : z ∈ line
      · rw [idx_app ho2] at hle
        have := idx_lt ho2
        omega
      · obtain ⟨_, h2, h3⟩ := hnew y hy ho
        obtain ⟨_, h4, h5⟩ := hnew z hz ho2
        rw [h2, h4]
        refine ⟨Nat.le_refl _, fun _ => ?_⟩
        rw [idx_app_new ho, idx_app_new ho2] at hle
        have hso : (nxs g line x g.length).Pairwise (· < ·) := List.Pairwise.sublist List.filter_sublist List.pairwise_lt_range
        exact idx_sorted hso h3 h5 (by omega)
  · by_cases ho : x0 ∈ line
    · rw [idx_app ho] at hi
      by_cases e : line.idxOf x0 < k
      · exact List.mem_append_left _ (h.seen x0 ho e y hy)
      · have : x0 = x := idx_inj ho hxl (by omega)
        subst this
        by_cases hyl : y ∈ line
        · exact List.mem_append_left _ hyl
        · exact List.mem_append_right _ (nxs_mem.2 ⟨hg x0 y hy, hy, hyl⟩)
    · have := hge x0 ho; omega
theorem Bf.short {g : List (List Nat)} {fr : Nat} {line : List Nat} {bf : Nat → Nat} (h : Bf g fr line bf) : line.length ≤ g.length := by
  have := List.Nodup.length_le_of_subset h.nodup (l₂ := List.range g.length) (fun m hm => List.mem_range.2 (h.lt m hm))
  rw [List.length_range] at this
  exact this
theorem pthS_spec {g : List (List Nat)} (hg : Ok g) {fr t : Nat} : ∀ (f k : Nat) (line : List Nat) (bf : Nat → Nat), Bq g fr line bf k → g.length + 1 ≤ f + k → ∃ k', Bq g fr (pthS g t f k line bf).1 (pthS g t f k line bf).2 k' ∧ (t ∈ (pthS g t f k line bf).1 ∨ k' = (pthS g t f k line bf).1.length)
  | 0, k, line, bf, h, hf => by have := h.le; have := h.bs.short; omega
  | f + 1, k, line, bf, h, hf => by
    by_cases hc : k < line.length ∧ t ∉ line
    · rw [pthS_step hc]
      exact pthS_spec hg f (k + 1) _ _ (h.step hg hc.1) (by omega)
    · rw [pthS_end hc]
      refine ⟨k, h, ?_⟩
      by_cases ht : t ∈ line
      · exact .inl ht
      · exact .inr (by have := h.le; have : ¬ k < line.length := fun q => hc ⟨q, ht⟩; show k = line.length; omega)

/-- Ways, the last edge last. -/
def Wz (g : List (List Nat)) : Nat → Nat → Nat → Prop
  | 0, a, z => z = a
  | m + 1, a, z => ∃ y, Wz g m a y ∧ z ∈ nb g y
theorem Bq.back {g : List (List Nat)} {fr : Nat} {line : List Nat} {bf : Nat → Nat} {k : Nat} (h : Bq g fr line bf k) {y z u : Nat} (hy : y ∈ line) (hn : y ≠ fr) (hz : z ∈ nb g u) (hle : line.idxOf y ≤ line.idxOf z) : line.idxOf (bf y) ≤ line.idxOf u := by
  have hy0 : line.idxOf y ≠ 0 := fun e => hn (idx_inj hy h.bs.fr_mem (by rw [e, h.bs.fr_idx]))
  have hzf : z ≠ fr := fun e => by rw [e, h.bs.fr_idx] at hle; omega
  by_cases hzl : z ∈ line
  · exact Nat.le_trans (h.mono y z hy hzl hn hzf hle).1 (h.first z hzl hzf u hz)
  · have h1 := (h.edge y hy hn).2.2
    by_cases hu : u ∈ line
    · apply Classical.byContradiction
      intro hlt
      exact hzl (h.seen u hu (by omega) z hz)
    · have := List.idxOf_eq_length hu
      have := h.le
      omega
theorem Bq.short {g : List (List Nat)} {fr : Nat} {line : List Nat} {bf : Nat → Nat} {k : Nat} (h : Bq g fr line bf k) : ∀ (m z : Nat), Wz g m fr z → ∀ d y, Back line bf fr d y → line.idxOf y ≤ line.idxOf z → d ≤ m
  | 0, z, hw, d, y, hb, hle => by
    have hw' : z = fr := hw
    rw [hw', h.bs.fr_idx] at hle
    have : y = fr := idx_inj hb.mem h.bs.fr_mem (by rw [h.bs.fr_idx]; omega)
    cases d with
    | zero => exact Nat.le_refl _
    | succ d => exact absurd this hb.1
  | m + 1, z, hw, d, y, hb, hle => by
    cases d with
    | zero => omega
    | succ d =>
      obtain ⟨u, hu, hz⟩ := hw
      have := h.short m u hu d (bf y) hb.2.2 (h.back hb.2.1 hb.1 hz hle)
      omega
/-- What pathM is. -/
theorem path_spec {g : List (List Nat)} (hg : Ok g) {a b : Nat} (ha : a < g.length) :
    (pathM g a b = [] ∧ ∀ m, ¬ Wz g m a b) ∨ ∃ line bf k d, Bq g a line bf k ∧ Back line bf a d b ∧ d ≤ g.length ∧ pathM g a b = (wb bf d b).reverse := by
  obtain ⟨k, hq, hend⟩ := pthS_spec hg (t := b) (g.length + 1) 0 [a] (fun _ => 0) (Bq.start ha _) (by omega)
  unfold pathM
  generalize pthS g b (g.length + 1) 0 [a] (fun _ => 0) = s at hq hend
  by_cases hb : b ∈ s.1
  · right
    have hi := idx_lt hb
    obtain ⟨d, hd, hbk⟩ := hq.bs.back _ hi
    rw [idx_getD hb] at hbk
    have := hq.bs.short
    refine ⟨s.1, s.2, k, d, hq, hbk, by omega, ?_⟩
    show (if b ∈ s.1 then (wbk s.2 a g.length b).reverse else []) = _
    rw [if_pos hb, wbk_wb d g.length b (by omega) hbk]
  · left
    refine ⟨by show (if b ∈ s.1 then (wbk s.2 a g.length b).reverse else []) = _; rw [if_neg hb], ?_⟩
    have hk := hend.resolve_left hb
    have key : ∀ m z, Wz g m a z → z ∈ s.1 := by
      intro m
      induction m with
      | zero => intro z hz; have : z = a := hz; rw [this]; exact hq.bs.fr_mem
      | succ m ih =>
        rintro z ⟨u, hu, hz⟩
        exact hq.seen u (ih u hu) (by rw [hk]; exact idx_lt (ih u hu)) z hz
    exact fun m hm => hb (key m b hm)
/-- A way, written out. -/
structure Way (g : List (List Nat)) (a b d : Nat) (P : List Nat) : Prop where
  len : P.length = d + 1
  head : P.getD 0 0 = a
  last : P.getD d 0 = b
  edge : ∀ i, i < d → P.getD (i + 1) 0 ∈ nb g (P.getD i 0)
theorem snoc_old {P : List Nat} {y i : Nat} (h : i < P.length) : (P ++ [y]).getD i 0 = P.getD i 0 := by
  rw [List.getD_eq_getElem?_getD, List.getElem?_append_left h, List.getD_eq_getElem?_getD]
theorem snoc_new (P : List Nat) (y : Nat) : (P ++ [y]).getD P.length 0 = y := by
  rw [List.getD_eq_getElem?_getD, List.getElem?_append_right (Nat.le_refl _)]
  simp
theorem Bq.way {g : List (List Nat)} {fr : Nat} {line : List Nat} {bf : Nat → Nat} {k : Nat} (h : Bq g fr line bf k) : ∀ (d y : Nat), Back line bf fr d y → Way g fr y d (wb bf d y).reverse
  | 0, y, hb => by
    refine ⟨rfl, ?_, rfl, fun i hi => by omega⟩
    exact hb.1
  | d + 1, y, hb => by
    have ih := h.way d (bf y) hb.2.2
    have e : (wb bf (d + 1) y).reverse = (wb bf d (bf y)).reverse ++ [y] := by
      show (y :: wb bf d (bf y)).reverse = _
      rw [List.reverse_cons]
    rw [e]
    generalize (wb bf d (bf y)).reverse = P at ih
    have hl := ih.len
    refine ⟨by rw [List.length_append, hl]; rfl, ?_, ?_, fun i hi => ?_⟩
    · rw [snoc_old (by omega)]; exact ih.head
    · rw [← hl]; exact snoc_new P y
    · by_cases h1 : i < d
      · rw [snoc_old (by omega), snoc_old (by omega)]
        exact ih.edge i h1
      · obtain rfl : i = d := by omega
        rw [snoc_old (by omega), ih.last, ← hl, snoc_new]
        exact (h.edge y hb.2.1 hb.1).1
theorem Way.to {g : List (List Nat)} {a b d : Nat} {P : List Nat} (h : Way g a b d P) : ∀ i, i ≤ d → Wz g i a (P.getD i 0)
  | 0, _ => h.head
  | i + 1, hi => ⟨P.getD i 0, h.to i (by omega), h.edge i (by omega)⟩
theorem Wz.lt {g : List (List Nat)} (hg : Ok g) {a : Nat} (ha : a < g.length) : ∀ {m z : Nat}, Wz g m a z → z < g.length
  | 0, z, h => by have : z = a := h; omega
  | m + 1, z, ⟨y, _, hz⟩ => hg y z hz
/-- Path's answer between nodes. -/
theorem path_way {g : List (List Nat)} (hg : Ok g) {a b : Nat} (ha : a < g.length) :
    (pathM g a b = [] ∧ ∀ m, ¬ Wz g m a b) ∨ ∃ d, d ≤ g.length ∧ Way g a b d (pathM g a b) ∧ ∀ m, Wz g m a b → d ≤ m := by
  rcases path_spec hg (b := b) ha with h | ⟨line, bf, k, d, hq, hb, hd, e⟩
  · exact .inl h
  · refine .inr ⟨d, hd, by rw [e]; exact hq.way d b hb, fun m hm => hq.short m b hm d b hb (Nat.le_refl _)⟩
theorem Wk.snoc {g : List (List Nat)} {s : Nat → Bool} : ∀ {k a b c : Nat}, Wk g s k a b → c ∈ nb g b → s c = false → Wk g s (k + 1) a c
  | 0, a, b, c, h, hc, hs => by
    obtain ⟨h1, rfl⟩ := h
    exact ⟨h1, c, hc, hs, rfl⟩
  | k + 1, a, b, c, h, hc, hs => by
    obtain ⟨h1, x, hx, hw⟩ := h
    exact ⟨h1, x, hx, hw.snoc hc hs⟩
theorem wz_pth {g : List (List Nat)} {a : Nat} : ∀ {m z : Nat}, Wz g m a z → Pth g noS a z
  | 0, z, h => by have : z = a := h; rw [this]; exact Pth.refl rfl
  | m + 1, z, ⟨y, hy, hz⟩ => by
    obtain ⟨k, hk⟩ := wz_pth hy
    exact ⟨k + 1, hk.snoc hz rfl⟩
theorem wk_wz {g : List (List Nat)} {s : Nat → Bool} {a : Nat} : ∀ {k m x z : Nat}, Wz g m a x → Wk g s k x z → Wz g (m + k) a z
  | 0, m, x, z, h, hw => by obtain ⟨_, rfl⟩ := hw; exact h
  | k + 1, m, x, z, h, hw => by
    obtain ⟨_, y, hy, hw⟩ := hw
    have := wk_wz (m := m + 1) ⟨x, h, hy⟩ hw
    rw [show m + 1 + k = m + (k + 1) by omega] at this
    exact this
theorem pth_wz {g : List (List Nat)} {s : Nat → Bool} {a z : Nat} (h : Pth g s a z) : ∃ m, Wz g m a z := by
  obtain ⟨k, hk⟩ := h
  exact ⟨0 + k, wk_wz (m := 0) rfl hk⟩
end Go.Proofs.YtngdnjlohmkbiaaDoor

namespace Go.Proofs.YtngdnjlohmkbiaaDoor
open Go.RowKit

set_option maxHeartbeats 2000000 in
theorem path_out1 (g : List (List Nat)) (hs : Sm g) (a : Option Addr) (cap B : Nat) (fr t : Int) (w : World) (hG : GAt w B a g) (hn : ¬ (0 ≤ fr ∧ fr < (g.length : Int))) :
    Calls Tryd.prog 21 #[.agg #[.int .i64 (g.length : Int), .slice a g.length cap], .int .i64 fr, .int .i64 t] w fun e w' => e = .returned (.slice none 0 0) ∧ Keeps [] w w' := by
  have hk1 : Keeps [] w (w.alloc (Obj.cells #[.int .i64 (g.length : Int), .slice a g.length cap] 27)) := Keeps.alloc _ _ _
  have HB1 := hid (BoxAt.new w (g.length : Int) a g.length cap)
  have HG1 := hid (hG.quiet hk1)
  have HC : Box (∀ w, GAt w B a g → Calls Tryd.prog 24 #[.agg #[.int .i64 (g.length : Int), .slice a g.length cap]] w fun e w' => e = .returned (.bool true) ∧ Keeps [] w w') := hid (fun w => gmay_yes g hs a cap B w)
  have H1 := hid (fun w1 => ghas_no (g.length : Int) fr a g.length cap w1 hn)
  clear hG hs hn
  go_enter Tryd.func21, Tryd.ntmps21
  go_wp2_with fail
  generalize w.alloc (Obj.cells #[.int .i64 (g.length : Int), .slice a g.length cap] 27) = w1 at hk1 HB1 HG1 ⊢
  refine (HC.out w1 HG1.out).mono ?_
  rintro e w2 ⟨rfl, hk2⟩
  have HB2 := HB1.out.kept hk2 (by simp)
  have hc0 := HB2.c0
  have hc1 := HB2.c1
  clear HB2 HB1 HG1 HC
  go_wp2_with fail
  refine (H1.out w2).mono ?_
  rintro e w3 ⟨rfl, hk3⟩
  go_wp2
  go_ret
  exact ⟨rfl, (hk1.quiet hk2).quiet hk3⟩

set_option maxHeartbeats 2000000 in
theorem path_out2 (g : List (List Nat)) (hs : Sm g) (a : Option Addr) (cap B : Nat) (fr t : Int) (w : World) (hG : GAt w B a g) (hf : 0 ≤ fr ∧ fr < (g.length : Int)) (hn : ¬ (0 ≤ t ∧ t < (g.length : Int))) :
    Calls Tryd.prog 21 #[.agg #[.int .i64 (g.length : Int), .slice a g.length cap], .int .i64 fr, .int .i64 t] w fun e w' => e = .returned (.slice none 0 0) ∧ Keeps [] w w' := by
  have hk1 : Keeps [] w (w.alloc (Obj.cells #[.int .i64 (g.length : Int), .slice a g.length cap] 27)) := Keeps.alloc _ _ _
  have HB1 := hid (BoxAt.new w (g.length : Int) a g.length cap)
  have HG1 := hid (hG.quiet hk1)
  have HC : Box (∀ w, GAt w B a g → Calls Tryd.prog 24 #[.agg #[.int .i64 (g.length : Int), .slice a g.length cap]] w fun e w' => e = .returned (.bool true) ∧ Keeps [] w w') := hid (fun w => gmay_yes g hs a cap B w)
  have H1 := hid (fun w1 => ghas_yes (g.length : Int) fr a g.length cap w1 hf.1 hf.2)
  have H2 := hid (fun w1 => ghas_no (g.length : Int) t a g.length cap w1 hn)
  clear hG hs hn hf
  go_enter Tryd.func21, Tryd.ntmps21
  go_wp2_with fail
  generalize w.alloc (Obj.cells #[.int .i64 (g.length : Int), .slice a g.length cap] 27) = w1 at hk1 HB1 HG1 ⊢
  refine (HC.out w1 HG1.out).mono ?_
  rintro e w2 ⟨rfl, hk2⟩
  have HB2 := hid (HB1.out.kept hk2 (by simp))
  have hc0 := HB2.out.c0
  have hc1 := HB2.out.c1
  clear HB1 HG1 HC
  go_wp2_with fail
  refine (H1.out w2).mono ?_
  rintro e w3 ⟨rfl, hk3⟩
  have HB3 := HB2.out.kept hk3 (by simp)
  clear hc0 hc1 HB2
  have hc0 := HB3.c0
  have hc1 := HB3.c1
  clear HB3
  go_wp2_with fail
  refine (H2.out w3).mono ?_
  rintro e w4 ⟨rfl, hk4⟩
  go_wp2
  go_ret
  exact ⟨rfl, ((hk1.quiet hk2).quiet hk3).quiet hk4⟩

/-- Path from a node to any number: what it leaves. -/
theorem path_quiet (g : List (List Nat)) (hs : Sm g) (a : Option Addr) (cap B fr : Nat) (t : Int) (w : World) (hG : GAt w B a g) (hT : TabAt w) (hf : fr < g.length) :
    Calls Tryd.prog 21 #[.agg #[.int .i64 (g.length : Int), .slice a g.length cap], .int .i64 (fr : Int), .int .i64 t] w fun e w' => (∃ v, e = .returned v) ∧ Keeps [] w w' := by
  by_cases h : 0 ≤ t ∧ t < (g.length : Int)
  · obtain ⟨m, rfl⟩ := Int.eq_ofNat_of_zero_le h.1
    refine (path_in g hs a cap B fr m w hG hT hf (by omega)).mono ?_
    rintro e w' ⟨v, rfl, _, k⟩
    exact ⟨⟨v, rfl⟩, k⟩
  · refine (path_out2 g hs a cap B fr t w hG (by omega) h).mono ?_
    rintro e w' ⟨rfl, k⟩
    exact ⟨⟨_, rfl⟩, k⟩
theorem order_quiet (g : List (List Nat)) (hs : Sm g) (a : Option Addr) (cap B : Nat) (t : Int) (w : World) (hG : GAt w B a g) (hB : B ≤ w.heap.size) :
    Calls Tryd.prog 27 #[.agg #[.int .i64 (g.length : Int), .slice a g.length cap], .int .i64 t] w fun e w' => (∃ v, e = .returned v) ∧ Keeps [] w w' := by
  by_cases h : 0 ≤ t ∧ t < (g.length : Int)
  · obtain ⟨m, rfl⟩ := Int.eq_ofNat_of_zero_le h.1
    refine (order_in g hs a cap B m w hG hB (by omega)).mono ?_
    rintro e w' ⟨v, rfl, _, k⟩
    exact ⟨⟨v, rfl⟩, k⟩
  · refine (order_out g hs a cap B t w hG h).mono ?_
    rintro e w' ⟨rfl, k⟩
    exact ⟨⟨_, rfl⟩, k⟩
end Go.Proofs.YtngdnjlohmkbiaaDoor

namespace Go.Proofs.YtngdnjlohmkbiaaDoor
open Go.RowKit

/-- Numbers as values. -/
def vals (l : List Int) : List Value := l.map fun z => Value.int .i64 z

theorem vals_one (l : List Int) : ∀ u ∈ vals l, u.oneCell' = true := by
  intro u hu
  unfold vals at hu
  rw [List.mem_map] at hu
  obtain ⟨z, _, rfl⟩ := hu
  rfl
theorem vals_len (l : List Int) : (vals l).length = l.length := by simp [vals]

theorem addr_add (b off j : Nat) : (⟨b, off, none⟩ : Addr).add j = ⟨b, off + j, none⟩ := by
  unfold Addr.add
  by_cases h : j = 0
  · subst h; simp
  · rw [if_neg h]

theorem vals_at {w : World} {b off : Nat} {l : List Int} (h : ∀ i, i < l.length → w.cell? ⟨b, off + i, none⟩ = some (.int .i64 (l.getD i 0))) : ∀ j u, (vals l)[j]? = some u → w.cell? ((⟨b, off, none⟩ : Addr).add j) = some u := by
  intro j u hu
  unfold vals at hu
  rw [List.getElem?_map] at hu
  by_cases hj : j < l.length
  · rw [addr_add, h j hj]
    simp [List.getElem?_eq_getElem hj] at hu
    simp [List.getD, List.getElem?_eq_getElem hj, hu]
  · rw [List.getElem?_eq_none (by omega)] at hu
    cases hu

theorem ownsRow_baseP {w : World} {base base' : Nat} {e : TypeId} {size : Nat} {v : Value} {n : Nat} {xs : List Value} (h : w.ownsRow base e size v n xs) (hb : base' ≤ base) : w.ownsRow base' e size v n xs := by
  obtain ⟨h1, h2⟩ := h
  refine ⟨h1, ?_⟩
  rcases h2 with h2 | ⟨g, cap, cur, hv, hg, r⟩
  · exact Or.inl h2
  · exact Or.inr ⟨g, cap, cur, hv, by omega, r⟩

/-- A row that the call has made, written out. -/
theorem ownsRow_open {w : World} {base : Nat} {v : Value} {n : Nat} {l : List Int} (h : w.ownsRow base 3 1 v n (vals l)) (hn : 0 < n) : ∃ g cap, v = .slice (some ⟨g, 0, none⟩) n cap ∧ base ≤ g ∧ n ≤ cap ∧ n = l.length ∧ ∀ i, i < l.length → w.cell? ⟨g, 0 + i, none⟩ = some (.int .i64 (l.getD i 0)) := by
  obtain ⟨h1, h2⟩ := h
  rcases h2 with ⟨_, h0⟩ | ⟨g, cap, cur, rfl, hg, hh, hle, _, hsz, ht⟩
  · omega
  · rw [vals_len] at h1
    refine ⟨g, cap, rfl, hg, hle, by omega, fun i hi => ?_⟩
    rw [Nat.zero_add, cell_of_row w g i cur _ _ hh]
    have e1 : cur[i]? = cur.toList[i]? := by simp
    have e2 : (cur.toList.take (n * 1))[i]? = cur.toList[i]? := by rw [List.getElem?_take, if_pos (by omega)]
    rw [e1, ← e2, ht]
    simp [vals, List.getD, List.getElem?_eq_getElem hi]

theorem drop_getDP (zs : List Int) (k i : Nat) : (zs.drop k).getD i 0 = zs.getD (k + i) 0 := by simp [List.getD]
theorem take_getD (zs : List Int) (k i : Nat) (h : i < k) : (zs.take k).getD i 0 = zs.getD i 0 := by
  simp only [List.getD, List.getElem?_take]
  rw [if_pos h]

set_option maxHeartbeats 400000 in
theorem rin_empty (a : Option Addr) (cap : Nat) (n : Int) (w : World) :
    Calls Tryd.prog 32 #[.slice a 0 cap, .int .i64 n] w fun e w' => e = .returned (.bool false) ∧ w' = w := by
  go_enter Tryd.func32, Tryd.ntmps32
  go_wp2
  go_loop [5] (fun i => i = .int .i64 0) (fun _ => 0)
  case atStart => rfl
  case round =>
    subst hrel
    go_wp2
    go_ret
    exact ⟨rfl, rfl⟩

theorem getD_mem' (zs : List Int) (j : Nat) (h : j < zs.length) : zs.getD j 0 ∈ zs := by
  simp [List.getD, List.getElem?_eq_getElem h]
theorem mem_getD {zs : List Int} {n : Int} (h : n ∈ zs) : ∃ j, j < zs.length ∧ zs.getD j 0 = n := by
  obtain ⟨i, hi, he⟩ := List.getElem_of_mem h
  exact ⟨i, hi, by simp [List.getD, List.getElem?_eq_getElem hi, he]⟩

set_option maxHeartbeats 1000000 in
theorem rin_raw (b off len cap : Nat) (zs : List Int) (n : Int) (w : World) (hl : zs.length = len) (hm : len ≤ 1000000) (hc : ∀ i, i < len → w.cell? ⟨b, off + i, none⟩ = some (.int .i64 (zs.getD i 0))) :
    Calls Tryd.prog 32 #[.slice (some ⟨b, off, none⟩) len cap, .int .i64 n] w fun e w' => e = .returned (.bool (decide (n ∈ zs))) ∧ w' = w := by
  have HL := hid hl
  have HC := hid hc
  clear hl hc
  go_enter Tryd.func32, Tryd.ntmps32
  go_wp2
  go_loop [5] (fun i => ∃ k : Nat, k ≤ len ∧ i = .int .i64 k ∧ Box (∀ j, j < k → zs.getD j 0 ≠ n)) (fun i => len - (intOf i).toNat)
  case atStart => exact ⟨0, by omega, rfl, hid fun j hj => by omega⟩
  case round =>
    obtain ⟨k, hk, rfl, hno⟩ := hrel
    by_cases hlt : k < len
    · have e1 := HC.out k hlt
      have hmem : Box (zs.getD k 0 = n → n ∈ zs) := hid fun h => by rw [← h]; exact getD_mem' zs k (by rw [HL.out]; exact hlt)
      have hnx : Box (zs.getD k 0 ≠ n → ∀ j, j < k + 1 → zs.getD j 0 ≠ n) := hid fun h j hj => by
        by_cases hjk : j < k
        · exact hno.out j hjk
        · have : j = k := by omega
          rw [this]; exact h
      generalize zs.getD k 0 = z at e1 hmem hnx
      by_cases hz : z = n
      · have hin := hid (hmem.out hz)
        have hb : (z == n) = true := by simpa using hz
        clear hz
        go_wp2
        go_ret
        exact ⟨by rw [decide_eq_true hin.out]; rfl, rfl⟩
      · have hs := hid (hnx.out hz)
        have hb : (z == n) = false := by simpa using hz
        clear hz
        go_wp2
        go_round
        case rel => exact ⟨k + 1, by omega, by go_num, hs⟩
        case measure => simp [intOf]; omega
    · obtain rfl : k = len := by omega
      have hout : Box (n ∉ zs) := hid fun hin => by
        obtain ⟨j, hj, he⟩ := mem_getD hin
        exact hno.out j (by rw [← HL.out]; exact hj) he
      go_wp2
      go_ret
      exact ⟨by rw [decide_eq_false hout.out]; rfl, rfl⟩

/-- In: is n among zs? -/
theorem rin_any (a : Option Addr) (cap : Nat) (zs : List Int) (n : Int) (w : World) (hz : IntsAt w a zs) (hm : zs.length ≤ 1000000) :
    Calls Tryd.prog 32 #[.slice a zs.length cap, .int .i64 n] w fun e w' => e = .returned (.bool (decide (n ∈ zs))) ∧ w' = w := by
  rcases hz with rfl | ⟨b, off, rfl, hc⟩
  · exact rin_empty a cap n w
  · exact rin_raw b off zs.length cap zs n w rfl hm hc

set_option maxHeartbeats 400000 in
theorem put_in (a : Option Addr) (len cap : Nat) (n : Int) (w : World) (h : Calls Tryd.prog 32 #[.slice a len cap, .int .i64 n] w fun e w' => e = .returned (.bool true) ∧ w' = w) :
    Calls Tryd.prog 33 #[.slice a len cap, .int .i64 n] w fun e w' => e = .returned (.slice a len cap) ∧ w' = w := by
  have H := hid h
  clear h
  go_enter Tryd.func33, Tryd.ntmps33
  go_wp2_with fail
  refine H.out.mono ?_
  rintro e w1 ⟨rfl, rfl⟩
  go_wp2
  go_ret
  exact ⟨rfl, rfl⟩

set_option maxHeartbeats 1000000 in
theorem put_raw (b off len cap : Nat) (zs : List Int) (n : Int) (w : World) (hl : zs.length = len) (hpos : 0 < len) (hcap : len ≤ cap) (hm : len ≤ 10000) (hc : ∀ i, i < len → w.cell? ⟨b, off + i, none⟩ = some (.int .i64 (zs.getD i 0)))
    (h : Calls Tryd.prog 32 #[.slice (some ⟨b, off, none⟩) len cap, .int .i64 n] w fun e w' => e = .returned (.bool false) ∧ w' = w) :
    Calls Tryd.prog 33 #[.slice (some ⟨b, off, none⟩) len cap, .int .i64 n] w fun e w' => ∃ (k : Nat) (v : Value), e = .returned v ∧ k ≤ len ∧ (∀ j, j < k → zs.getD j 0 < n) ∧ (k < len → n ≤ zs.getD k 0) ∧
      w'.ownsRow w.heap.size 3 1 v (len + 1) (vals (zs.take k ++ n :: zs.drop k)) ∧ Keeps [] w w' := by
  have HL := hid hl
  have HC := hid hc
  have H := hid h
  clear hl hc h
  go_enter Tryd.func33, Tryd.ntmps33
  go_wp2_with fail
  refine H.out.mono ?_
  rintro e w1 ⟨rfl, hw⟩
  obtain rfl := hw.symm
  clear hw H
  go_wp2_with fail
  go_loop [5] (fun i => ∃ k : Nat, k ≤ len ∧ i = .int .i64 k ∧ Box (∀ j, j < k → zs.getD j 0 < n)) (fun i => len - (intOf i).toNat)
  case atStart => exact ⟨0, by omega, rfl, hid fun j hj => by omega⟩
  case round =>
    obtain ⟨k, hk, rfl, hlow⟩ := hrel
    by_cases hgo : k < len ∧ zs.getD k 0 < n
    · obtain ⟨hlt, hz⟩ := hgo
      have e1 := HC.out k hlt
      have hs : Box (∀ j, j < k + 1 → zs.getD j 0 < n) := hid fun j hj => by
        by_cases hjk : j < k
        · exact hlow.out j hjk
        · have : j = k := by omega
          rw [this]; exact hz
      generalize zs.getD k 0 = z at e1 hz
      go_wp2
      go_round
      case rel => exact ⟨k + 1, by omega, by go_num, hs⟩
      case measure => simp [intOf]; omega
    · have hstop : Box (k < len → n ≤ zs.getD k 0) := hid fun hlt => by
        have : ¬ zs.getD k 0 < n := fun hz => hgo ⟨hlt, hz⟩
        omega
      by_cases hlt : k < len
      · have e1 := HC.out k hlt
        have hz : ¬ zs.getD k 0 < n := fun hz => hgo ⟨hlt, hz⟩
        clear hgo
        generalize hzz : zs.getD k 0 = z at e1 hz
        have hZ := hid hzz
        clear hzz
        go_wp2
        have hkc : k ≤ cap := by omega
        have hne : ¬ cap = k := by omega
        have hbw : b < w.heap.size := block_lt_of_cell e1
        have hkA : Keeps [] w (w.alloc (Obj.cells #[Value.int IntKind.i64 n] 3)).drew := (Keeps.alloc [] w _).quiet (Keeps.drew _ _)
        have hold : Box (∀ b', some (⟨w.heap.size, 0, none⟩ : Addr) = some b' → ∀ j u, (vals [n])[j]? = some u → (w.alloc (Obj.cells #[Value.int IntKind.i64 n] 3)).drew.cell? (b'.add j) = some u) := hid fun b' hb' => by
          cases hb'
          exact vals_at fun i hi => by
            have h0 : i = 0 := by simp at hi; omega
            subst h0
            exact (cell_of_row _ _ _ _ _ _ (heap_alloc_new w _)).trans rfl
        have hsrc : Box (∀ j u, (vals (zs.drop k))[j]? = some u → (w.alloc (Obj.cells #[Value.int IntKind.i64 n] 3)).drew.cell? ((⟨b, off + k, none⟩ : Addr).add j) = some u) := hid (vals_at fun i hi => by
          rw [List.length_drop, HL.out] at hi
          rw [hkA.cell (p := ⟨b, off + k + i, none⟩) hbw (by simp), drop_getDP, Nat.add_assoc]
          exact HC.out (k + i) (by omega))
        have hld : Box ((vals (zs.drop k)).length = (len - k) * 1) := hid (by rw [vals_len, List.length_drop, HL.out]; omega)
        have htk : Box (∀ w1 : World, Keeps [] w w1 → ∀ b', some (⟨b, off, none⟩ : Addr) = some b' → ∀ j u, (vals (zs.take k))[j]? = some u → w1.cell? (b'.add j) = some u) := hid fun w1 hk1 b' hb' => by
          cases hb'
          exact vals_at fun i hi => by
            rw [List.length_take, HL.out] at hi
            rw [hk1.cell (p := ⟨b, off + i, none⟩) hbw (by simp), take_getD zs k i (by omega)]
            exact HC.out i (by omega)
        have hlt' : Box ((vals (zs.take k)).length = k * 1) := hid (by rw [vals_len, List.length_take, HL.out]; omega)
        have hall : Box (vals (zs.take k) ++ (vals [n] ++ vals (zs.drop k)) = vals (zs.take k ++ n :: zs.drop k)) := hid (by simp [vals])
        go_region_law (first
          | (refine step_append_grows rfl (.tmp 29) (.tmp 32) 23 rfl 3 Tryd.t3 (.int .i64 0) 1 8 under_ints info_int zero_int size_int bytes_int rfl (by decide) (some ⟨w.heap.size, 0, none⟩) 1 1 (vals [n]) (by rfl) (by simp) rfl hold.out ⟨b, off + k, none⟩ (len - k) (cap - k) (vals (zs.drop k)) (by rfl) hld.out hsrc.out (vals_one _) (by omega) (by unfold maxLen; omega) (by omega) ?_
             intro v33 w33 hown33 hgrow33
             have hK33 : Keeps [] w w33 := hkA.quiet (Keeps.grown [] hgrow33 (by simp))
             have hown33' : w33.ownsRow ((w.alloc (Obj.cells #[Value.int IntKind.i64 n] 3)).drew.heap.size) 3 1 v33 (1 + (len - k)) (vals (n :: zs.drop k)) := hown33
             obtain ⟨g, c33, hv33, _, _, hl33, hcell33⟩ := ownsRow_open hown33' (by omega)
             rw [hv33]
             have hsrc34 := hid (vals_at hcell33)
             have hl34 : Box ((vals (n :: zs.drop k)).length = (1 + (len - k)) * 1) := hid (by rw [vals_len]; omega)
             clear hown33 hgrow33 hown33' hl33 hcell33 hv33)
          | (refine step_append_grows rfl (.tmp 27) (.tmp 33) 23 rfl 3 Tryd.t3 (.int .i64 0) 1 8 under_ints info_int zero_int size_int bytes_int rfl (by decide) (some ⟨b, off, none⟩) k k (vals (zs.take k)) (by rfl) (by simp) hlt'.out (htk.out w33 hK33) ⟨g, 0, none⟩ (1 + (len - k)) c33 (vals (n :: zs.drop k)) (by rfl) hl34.out hsrc34.out (vals_one _) (by omega) (by unfold maxLen; omega) (by omega) ?_
             intro v34 w34 hown34 hgrow34))
        have hK34 : Keeps [] w w34 := hK33.quiet (Keeps.grown [] hgrow34 (by simp))
        have hfin : Box (w34.ownsRow w.heap.size 3 1 v34 (len + 1) (vals (zs.take k ++ n :: zs.drop k))) := hid (by
          have h1 := ownsRow_baseP hown34 hK33.size
          have e2 : k + (1 + (len - k)) = len + 1 := by omega
          rw [e2] at h1
          rw [← hall.out]
          exact h1)
        clear hold hsrc hld htk hlt' hall hK33 hsrc34 hl34 hown34 hgrow34 hkA
        go_wp2
        go_ret
        exact ⟨k, v34, rfl, hk, hlow.out, hstop.out, hfin.out, hK34⟩
      · obtain rfl : k = len := by omega
        clear hgo hlt
        have hkc : k ≤ cap := hcap
        have hbw : b < w.heap.size := block_lt_of_cell (HC.out 0 hpos)
        have hkA : Keeps [] w (w.alloc (Obj.cells #[Value.int IntKind.i64 n] 3)).drew := (Keeps.alloc [] w _).quiet (Keeps.drew _ _)
        have hsrc34 : Box (∀ j u, (vals [n])[j]? = some u → (w.alloc (Obj.cells #[Value.int IntKind.i64 n] 3)).drew.cell? ((⟨w.heap.size, 0, none⟩ : Addr).add j) = some u) := hid (vals_at fun i hi => by
            have h0 : i = 0 := by simp at hi; omega
            subst h0
            exact (cell_of_row _ _ _ _ _ _ (heap_alloc_new w _)).trans rfl)
        have htk : Box (∀ w1 : World, Keeps [] w w1 → ∀ b', some (⟨b, off, none⟩ : Addr) = some b' → ∀ j u, (vals zs)[j]? = some u → w1.cell? (b'.add j) = some u) := hid fun w1 hk1 b' hb' => by
          cases hb'
          exact vals_at fun i hi => by
            rw [HL.out] at hi
            rw [hk1.cell (p := ⟨b, off + i, none⟩) hbw (by simp)]
            exact HC.out i hi
        have hlt' : Box ((vals zs).length = k * 1) := hid (by rw [vals_len, HL.out]; omega)
        have hall : Box (vals zs ++ vals [n] = vals (zs.take k ++ n :: zs.drop k)) := hid (by rw [List.take_of_length_le (by rw [HL.out]; omega), List.drop_eq_nil_of_le (by rw [HL.out]; omega)]; simp [vals])
        go_wp2
        by_cases hce : cap = k
        · subst hce
          go_region_law (first
            | (refine step_append_room rfl (.tmp 29) (.tmp 32) 23 rfl 3 Tryd.t3 1 under_ints info_int size_int w.heap.size 0 1 1 (by rfl) ⟨b, off, none⟩ 0 0 [] (by simp [Act.eval]) rfl (by simp) (by simp) (by omega) (by simp) ?_)
            | (refine step_append_grows rfl (.tmp 27) (.tmp 33) 23 rfl 3 Tryd.t3 (.int .i64 0) 1 8 under_ints info_int zero_int size_int bytes_int rfl (by decide) (some ⟨b, off, none⟩) cap cap (vals zs) (by rfl) (by simp) hlt'.out (htk.out _ hkA) ⟨w.heap.size, 0, none⟩ 1 1 (vals [n]) (by rfl) rfl hsrc34.out (vals_one _) (by omega) (by unfold maxLen; omega) (by omega) ?_
               intro v34 w34 hown34 hgrow34))
          have hK34 : Keeps [] w w34 := hkA.quiet (Keeps.grown [] hgrow34 (by simp))
          have hfin : Box (w34.ownsRow w.heap.size 3 1 v34 (cap + 1) (vals (zs.take cap ++ n :: zs.drop cap))) := hid (by
            rw [← hall.out]
            exact ownsRow_baseP hown34 hkA.size)
          clear htk hlt' hall hsrc34 hown34 hgrow34 hkA
          go_wp2
          go_ret
          exact ⟨cap, v34, rfl, hk, hlow.out, hstop.out, hfin.out, hK34⟩
        · go_region_law (first
            | (refine step_append_room rfl (.tmp 29) (.tmp 32) 23 rfl 3 Tryd.t3 1 under_ints info_int size_int w.heap.size 0 1 1 (by rfl) ⟨b, off + k, none⟩ 0 (cap - k) [] (by simp [Act.eval]) rfl (by simp) (by simp) (by omega) (by simp) ?_)
            | (refine step_append_grows rfl (.tmp 27) (.tmp 33) 23 rfl 3 Tryd.t3 (.int .i64 0) 1 8 under_ints info_int zero_int size_int bytes_int rfl (by decide) (some ⟨b, off, none⟩) k k (vals zs) (by rfl) (by simp) hlt'.out (htk.out _ hkA) ⟨w.heap.size, 0, none⟩ 1 1 (vals [n]) (by rfl) rfl hsrc34.out (vals_one _) (by omega) (by unfold maxLen; omega) (by omega) ?_
               intro v34 w34 hown34 hgrow34))
          have hK34 : Keeps [] w w34 := hkA.quiet (Keeps.grown [] hgrow34 (by simp))
          have hfin : Box (w34.ownsRow w.heap.size 3 1 v34 (k + 1) (vals (zs.take k ++ n :: zs.drop k))) := hid (by
            rw [← hall.out]
            exact ownsRow_baseP hown34 hkA.size)
          clear htk hlt' hall hsrc34 hown34 hgrow34 hkA
          go_wp2
          go_ret
          exact ⟨k, v34, rfl, hk, hlow.out, hstop.out, hfin.out, hK34⟩

set_option maxHeartbeats 1000000 in
theorem put_nil (n : Int) (w : World) :
    Calls Tryd.prog 33 #[.slice none 0 0, .int .i64 n] w fun e w' => ∃ v : Value, e = .returned v ∧ w'.ownsRow w.heap.size 3 1 v 1 (vals [n]) ∧ Keeps [] w w' := by
  have H := hid (rin_empty none 0 n w)
  go_enter Tryd.func33, Tryd.ntmps33
  go_wp2_with fail
  refine H.out.mono ?_
  rintro e w1 ⟨rfl, hw⟩
  obtain rfl := hw.symm
  clear hw H
  go_wp2_with fail
  go_loop [5] (fun i => i = .int .i64 0) (fun _ => 0)
  case atStart => rfl
  case round =>
    subst hrel
    go_wp2
    have hkA : Keeps [] w (w.alloc (Obj.cells #[Value.int IntKind.i64 n] 3)).drew := (Keeps.alloc [] w _).quiet (Keeps.drew _ _)
    have hsrc34 : Box (∀ j u, (vals [n])[j]? = some u → (w.alloc (Obj.cells #[Value.int IntKind.i64 n] 3)).drew.cell? ((⟨w.heap.size, 0, none⟩ : Addr).add j) = some u) := hid (vals_at fun i hi => by
        have h0 : i = 0 := by simp at hi; omega
        subst h0
        exact (cell_of_row _ _ _ _ _ _ (heap_alloc_new w _)).trans rfl)
    go_region_law (refine step_append_grows rfl (.tmp 27) (.tmp 33) 23 rfl 3 Tryd.t3 (.int .i64 0) 1 8 under_ints info_int zero_int size_int bytes_int rfl (by decide) none 0 0 [] (by rfl) (by simp) rfl (by simp) ⟨w.heap.size, 0, none⟩ 1 1 (vals [n]) (by rfl) rfl hsrc34.out (vals_one _) (by omega) (by unfold maxLen; omega) (by omega) ?_
                   intro v34 w34 hown34 hgrow34)
    have hK34 : Keeps [] w w34 := hkA.quiet (Keeps.grown [] hgrow34 (by simp))
    have hfin : Box (w34.ownsRow w.heap.size 3 1 v34 1 (vals [n])) := hid (ownsRow_baseP hown34 hkA.size)
    clear hsrc34 hown34 hgrow34 hkA
    go_wp2
    go_ret
    exact ⟨v34, rfl, hfin.out, hK34⟩

/-- A list of numbers that the call has made: nil, or a row of its own. -/
def Lst (w : World) (base : Nat) (v : Value) (l : List Int) : Prop :=
  (l = [] ∧ v = .slice none 0 0) ∨ (l ≠ [] ∧ w.ownsRow base 3 1 v l.length (vals l))

theorem Lst.open {w : World} {base : Nat} {v : Value} {l : List Int} (h : Lst w base v l) : ∃ a cap, v = .slice a l.length cap ∧ IntsAt w a l ∧ l.length ≤ cap ∧ (∀ b off, a = some ⟨b, off, none⟩ → base ≤ b) := by
  rcases h with ⟨rfl, rfl⟩ | ⟨hne, h⟩
  · exact ⟨none, 0, rfl, Or.inl rfl, by simp, fun b off h => by cases h⟩
  · obtain ⟨g, cap, rfl, hg, hle, _, hc⟩ := ownsRow_open h (List.length_pos_iff.2 hne)
    exact ⟨_, cap, rfl, Or.inr ⟨g, 0, rfl, hc⟩, hle, fun b off h => by cases h; exact hg⟩

theorem Lst.kept {w w' : World} {base : Nat} {v : Value} {l : List Int} {L : List Nat} (h : Lst w base v l) (k : Keeps L w w') (hL : ∀ x, x ∈ L → x < base) : Lst w' base v l := by
  rcases h with h | ⟨hne, h1, h2⟩
  · exact Or.inl h
  · refine Or.inr ⟨hne, h1, ?_⟩
    rcases h2 with h2 | ⟨g, cap, cur, hv, hg, hh, r⟩
    · exact Or.inl h2
    · have hlt : g < w.heap.size := (Array.getElem?_eq_some_iff.1 hh).1
      exact Or.inr ⟨g, cap, cur, hv, hg, by rw [k.block g hlt (fun hx => by have := hL g hx; omega)]; exact hh, r⟩

/-- What Put gives. -/
def PutIs (l : List Int) (n : Int) (l' : List Int) : Prop :=
  (n ∈ l ∧ l' = l) ∨ (n ∉ l ∧ ∃ k : Nat, k ≤ l.length ∧ (∀ j, j < k → l.getD j 0 < n) ∧ (k < l.length → n ≤ l.getD k 0) ∧ l' = l.take k ++ n :: l.drop k)

/-- Put: a number among rising ones. -/
theorem put_any (base : Nat) (v : Value) (l : List Int) (n : Int) (w : World) (hv : Lst w base v l) (hb : base ≤ w.heap.size) (hm : l.length ≤ 10000) :
    Calls Tryd.prog 33 #[v, .int .i64 n] w fun e w' => ∃ v' l', e = .returned v' ∧ PutIs l n l' ∧ Lst w' base v' l' ∧ Keeps [] w w' := by
  rcases hv with ⟨rfl, rfl⟩ | ⟨hne, hown⟩
  · refine (put_nil n w).mono ?_
    rintro e w' ⟨v', he, ho, hk⟩
    refine ⟨v', [n], he, Or.inr ⟨by simp, 0, by simp, fun j hj => by omega, fun h => by simp at h, rfl⟩, Or.inr ⟨by simp, ownsRow_baseP ho hb⟩, hk⟩
  · obtain ⟨g, cap, rfl, hg, hle, _, hc⟩ := ownsRow_open hown (List.length_pos_iff.2 hne)
    have hin := rin_any (some ⟨g, 0, none⟩) cap l n w (Or.inr ⟨g, 0, rfl, hc⟩) (by omega)
    by_cases hmem : n ∈ l
    · rw [decide_eq_true hmem] at hin
      refine (put_in _ _ cap n w hin).mono ?_
      rintro e w' ⟨he, hw⟩
      subst hw
      exact ⟨_, l, he, Or.inl ⟨hmem, rfl⟩, Or.inr ⟨hne, hown⟩, Keeps.refl _ _⟩
    · rw [decide_eq_false hmem] at hin
      refine (put_raw g 0 l.length cap l n w rfl (List.length_pos_iff.2 hne) hle hm hc hin).mono ?_
      rintro e w' ⟨k, v', he, hk, h1, h2, ho, hK⟩
      have hlen : (l.take k ++ n :: l.drop k).length = l.length + 1 := by
        rw [List.length_append, List.length_cons, List.length_take, List.length_drop]; omega
      refine ⟨v', _, he, Or.inr ⟨hmem, k, hk, h1, h2, rfl⟩, Or.inr ⟨?_, ?_⟩, hK⟩
      · intro hnil
        have := congrArg List.length hnil
        rw [hlen] at this
        simp at this
      · rw [hlen]
        exact ownsRow_baseP ho hb
end Go.Proofs.YtngdnjlohmkbiaaDoor

namespace Go.Proofs.YtngdnjlohmkbiaaDoor

/-- g with an edge from x to y more. -/
def moreG (L : Nat → List Nat) (N x y : Nat) : List (List Nat) := (List.range N).map fun i => if i = x then L x ++ [y] else L i
theorem nb_more {L : Nat → List Nat} {N x y a : Nat} (hx : x < N) : ∀ b, b ∈ nb (moreG L N x y) a ↔ b ∈ nb ((List.range N).map L) a ∨ (a = x ∧ b = y) := by
  intro b
  by_cases ha : a < N
  · unfold moreG
    rw [nb_map _ _ _ ha, nb_map _ _ _ ha]
    by_cases e : a = x
    · subst e; simp
    · simp [e]
  · rw [nb_out (by simp [moreG]; omega), nb_out (by simp; omega)]
    simp
    omega
theorem pth_more {L : Nat → List Nat} {N x y : Nat} (hx : x < N) (i m : Nat) : Pth (moreG L N x y) noS i m ↔ Pth ((List.range N).map L) noS i m ∨ (Pth ((List.range N).map L) noS i x ∧ Pth ((List.range N).map L) noS y m) := by
  constructor
  · intro p
    refine p.carry (C := fun m => Pth ((List.range N).map L) noS i m ∨ (Pth ((List.range N).map L) noS i x ∧ Pth ((List.range N).map L) noS y m)) ?_ (.inl (Pth.refl rfl))
    intro u hu _ v hv _
    rcases (nb_more hx v).1 hv with h | ⟨rfl, rfl⟩
    · rcases hu with h1 | ⟨h1, h2⟩
      · exact .inl (h1.snoc h rfl)
      · exact .inr ⟨h1, h2.snoc h rfl⟩
    · rcases hu with h1 | ⟨h1, _⟩
      · exact .inr ⟨h1, Pth.refl rfl⟩
      · exact .inr ⟨h1, Pth.refl rfl⟩
  · have up : ∀ {a b}, Pth ((List.range N).map L) noS a b → Pth (moreG L N x y) noS a b := by
      intro a b p
      refine p.carry (C := fun m => Pth (moreG L N x y) noS a m) ?_ (Pth.refl rfl)
      intro u hu _ v hv _
      exact hu.snoc ((nb_more hx v).2 (.inl hv)) rfl
    rintro (h | ⟨h1, h2⟩)
    · exact up h
    · exact ((up h1).snoc ((nb_more hx y).2 (.inr ⟨rfl, rfl⟩)) rfl).trans (up h2)
theorem more_sm {L : Nat → List Nat} {N x y : Nat} (hs : Sm ((List.range N).map L)) (h5 : ∀ i, i < N → (L i).length ≤ 900) (hx : x < N) (hy : y < N) : Sm (moreG L N x y) := by
  have e1 : (moreG L N x y).length = N := by simp [moreG]
  have e2 : ((List.range N).map L).length = N := by simp
  refine ⟨fun a b hb => ?_, by rw [e1, ← e2]; exact hs.len, fun j => ?_⟩
  · rw [e1]
    rcases (nb_more hx b).1 hb with h | ⟨rfl, rfl⟩
    · have := hs.ok a b h
      rwa [e2] at this
    · exact hy
  · by_cases hj : j < N
    · unfold moreG
      rw [nb_map _ _ _ hj]
      have := h5 j hj
      have := h5 x hx
      by_cases e : j = x
      · rw [if_pos e, List.length_append]; simp; omega
      · rw [if_neg e]; omega
    · rw [nb_out (by rw [e1]; omega)]; simp
theorem made_short (n : Int) (zs : List (Int × Int)) (j : Nat) : (nb (madeG n zs) j).length ≤ 80 := by
  by_cases ha : j < nN n
  · unfold madeG
    rw [nb_map _ _ _ ha]
    have h1 := edL_len (edsM (nN n) (zs.take 80)) j
    have h2 : (edsM (nN n) (zs.take 80)).length ≤ 80 := by unfold edsM; rw [List.length_map, List.length_take]; omega
    omega
  · rw [nb_out (by rw [madeG_len]; omega)]
    simp
end Go.Proofs.YtngdnjlohmkbiaaDoor

namespace Go.Proofs.YtngdnjlohmkbiaaDoor
open Go.RowKit

set_option maxHeartbeats 400000 in
theorem seq_same (b c : Nat) (s : Nat → Bool) (w : World) (hs : SetAt w b s) (ht : SetAt w c s) (hf : Fit s) :
    Calls Tryd.prog 31 #[.pointer (some ⟨b, 0, none⟩), .pointer (some ⟨c, 0, none⟩)] w fun e w' => e = .returned (.bool true) ∧ w' = w := by
  have h1 := in_any b c s s w hs ht hf
  have h2 := in_any c b s s w ht hs hf
  have e : subI s s = true := (subI_iff s s hf).2 fun _ h => h
  rw [e] at h1 h2
  have H1 := hid h1
  have H2 := hid h2
  clear h1 h2 e hs ht hf
  go_enter Tryd.func31, Tryd.ntmps31
  go_wp2_with fail
  refine H1.out.mono ?_
  rintro e w1 ⟨rfl, hw1⟩
  obtain rfl := hw1.symm
  clear hw1
  go_wp2_with fail
  refine H2.out.mono ?_
  rintro e w2 ⟨rfl, hw2⟩
  obtain rfl := hw2.symm
  clear hw2
  go_wp2
  go_ret
  exact ⟨rfl, rfl⟩

theorem rch_iff {g : List (List Nat)} (hg : Ok g) {i : Nat} (hi : i < g.length) (m : Nat) : rch g [(i : Int)] m = true ↔ Pth g noS i m := by
  have e : rch g [(i : Int)] m = rB g i m := by
    show (if 0 ≤ (i : Int) ∧ (i : Int) < (g.length : Int) then (vis g (g.length + 1) (i : Int).toNat (none_, [])).1 else none_) m = _
    rw [if_pos (by omega)]
    rfl
  rw [e, rB_iff hg m hi]
theorem rch_more {L : Nat → List Nat} {N x y i : Nat} (hs : Sm ((List.range N).map L)) (hs2 : Sm (moreG L N x y)) (hx : x < N) (hy : y < N) (hi : i < N) :
    rch (moreG L N x y) [(i : Int)] = if rch ((List.range N).map L) [(i : Int)] x = true then both or (rch ((List.range N).map L) [(i : Int)]) (rch ((List.range N).map L) [(y : Int)]) else rch ((List.range N).map L) [(i : Int)] := by
  have e1 : (moreG L N x y).length = N := by simp [moreG]
  have e2 : ((List.range N).map L).length = N := by simp
  funext m
  rw [Bool.eq_iff_iff, rch_iff hs2.ok (by omega), pth_more hx]
  by_cases h : rch ((List.range N).map L) [(i : Int)] x = true
  · rw [if_pos h]
    show _ ↔ (rch ((List.range N).map L) [(i : Int)] m || rch ((List.range N).map L) [(y : Int)] m) = true
    rw [Bool.or_eq_true, rch_iff hs.ok (by omega), rch_iff hs.ok (by omega)]
    rw [rch_iff hs.ok (by omega)] at h
    simp [h]
  · rw [if_neg h, rch_iff hs.ok (by omega)]
    rw [rch_iff hs.ok (by omega)] at h
    simp [h]
end Go.Proofs.YtngdnjlohmkbiaaDoor

namespace Go.Proofs.YtngdnjlohmkbiaaDoor
open Go.RowKit

/-- A list of nodes, each once. -/
structure Rg (w : World) (base : Nat) (v : Value) (l : List Int) (N : Nat) (S : Nat → Prop) : Prop where
  lst : Lst w base v l
  nod : l.Nodup
  mem : ∀ z, z ∈ l ↔ ∃ u : Nat, z = (u : Int) ∧ S u
  lt : ∀ u, S u → u < N
theorem Rg.len {w : World} {base : Nat} {v : Value} {l : List Int} {N : Nat} {S : Nat → Prop} (h : Rg w base v l N S) : l.length ≤ N := by
  have := List.Nodup.length_le_of_subset h.nod (l₂ := (List.range N).map fun i : Nat => (i : Int)) (fun z hz => by
    obtain ⟨u, rfl, hu⟩ := (h.mem z).1 hz
    exact List.mem_map.2 ⟨u, List.mem_range.2 (h.lt u hu), rfl⟩)
  rw [List.length_map, List.length_range] at this
  exact this
theorem Rg.quiet {w w' : World} {base : Nat} {v : Value} {l : List Int} {N : Nat} {S : Nat → Prop} (h : Rg w base v l N S) (k : Keeps [] w w') : Rg w' base v l N S :=
  ⟨h.lst.kept k (by simp), h.nod, h.mem, h.lt⟩
theorem Rg.congr {w : World} {base : Nat} {v : Value} {l : List Int} {N : Nat} {S T : Nat → Prop} (h : Rg w base v l N S) (e : ∀ u, S u ↔ T u) : Rg w base v l N T :=
  ⟨h.lst, h.nod, fun z => by rw [h.mem z]; exact ⟨fun ⟨u, h1, h2⟩ => ⟨u, h1, (e u).1 h2⟩, fun ⟨u, h1, h2⟩ => ⟨u, h1, (e u).2 h2⟩⟩, fun u hu => h.lt u ((e u).2 hu)⟩
theorem putIs_mem {l l' : List Int} {n : Int} (h : PutIs l n l') (z : Int) : z ∈ l' ↔ z ∈ l ∨ z = n := by
  rcases h with ⟨h1, rfl⟩ | ⟨_, k, _, _, _, rfl⟩
  · constructor
    · exact .inl
    · rintro (h | rfl)
      · exact h
      · exact h1
  · rw [List.mem_append, List.mem_cons]
    conv => rhs; rw [← List.take_append_drop k l, List.mem_append]
    constructor
    · rintro (h | h | h)
      · exact .inl (.inl h)
      · exact .inr h
      · exact .inl (.inr h)
    · rintro ((h | h) | h)
      · exact .inl h
      · exact .inr (.inr h)
      · exact .inr (.inl h)
theorem putIs_nod {l l' : List Int} {n : Int} (h : PutIs l n l') (hn : l.Nodup) : l'.Nodup := by
  rcases h with ⟨_, rfl⟩ | ⟨h1, k, _, _, _, rfl⟩
  · exact hn
  · rw [List.nodup_append, List.nodup_cons]
    rw [← List.take_append_drop k l, List.nodup_append] at hn
    have h2 : ∀ z, z ∈ l.take k → z ∈ l := fun z hz => List.mem_of_mem_take hz
    have h3 : ∀ z, z ∈ l.drop k → z ∈ l := fun z hz => List.mem_of_mem_drop hz
    refine ⟨hn.1, ⟨fun h => h1 (h3 _ h), hn.2.1⟩, fun a ha b hb e => ?_⟩
    rcases List.mem_cons.1 hb with h | h
    · exact h1 (h ▸ e ▸ h2 a ha)
    · exact hn.2.2 a ha b h e
theorem rput_any (base : Nat) (v : Value) (l : List Int) (N c : Nat) (S : Nat → Prop) (w : World) (h : Rg w base v l N S) (hc : c < N) (hN : N ≤ 600) (hb : base ≤ w.heap.size) :
    Calls Tryd.prog 33 #[v, .int .i64 (c : Int)] w fun e w' => ∃ v' l', e = .returned v' ∧ Rg w' base v' l' N (fun u => S u ∨ u = c) ∧ Keeps [] w w' := by
  refine (put_any base v l (c : Int) w h.lst hb (by have := h.len; omega)).mono ?_
  rintro e w' ⟨v', l', rfl, hp, hl, hk⟩
  refine ⟨v', l', rfl, ⟨hl, putIs_nod hp h.nod, fun z => ?_, fun u hu => ?_⟩, hk⟩
  · rw [putIs_mem hp, h.mem]
    constructor
    · rintro (⟨u, h1, h2⟩ | h1)
      · exact ⟨u, h1, .inl h2⟩
      · exact ⟨c, h1, .inr rfl⟩
    · rintro ⟨u, h1, h2 | h2⟩
      · exact .inl ⟨u, h1, h2⟩
      · exact .inr (by rw [h1, h2])
  · rcases hu with hu | rfl
    · exact h.lt u hu
    · exact hc
theorem rin_ring (base : Nat) (v : Value) (l : List Int) (N c : Nat) (S : Nat → Prop) (w : World) (h : Rg w base v l N S) (hN : N ≤ 600) (d : Bool) (hd : d = true ↔ S c) :
    Calls Tryd.prog 32 #[v, .int .i64 (c : Int)] w fun e w' => e = .returned (.bool d) ∧ w' = w := by
  obtain ⟨a, cap, rfl, hi, _, _⟩ := h.lst.open
  have hin := rin_any a cap l (c : Int) w hi (by have := h.len; omega)
  have e : decide ((c : Int) ∈ l) = d := by
    rw [Bool.eq_iff_iff, decide_eq_true_eq, hd, h.mem]
    constructor
    · rintro ⟨u, h1, h2⟩
      rw [show c = u by omega]; exact h2
    · exact fun hs => ⟨c, rfl, hs⟩
  rw [e] at hin
  exact hin
/-- Who is within j edges. -/
def Wi (g : List (List Nat)) (a j u : Nat) : Prop := ∃ m, m ≤ j ∧ Wz g m a u
theorem wi_next {g : List (List Nat)} {a j u : Nat} : Wi g a (j + 1) u ↔ (∃ x, Wi g a j x ∧ u ∈ nb g x) ∨ Wi g a j u := by
  constructor
  · rintro ⟨m, hm, hw⟩
    by_cases h : m ≤ j
    · exact .inr ⟨m, h, hw⟩
    · obtain rfl : m = j + 1 := by omega
      obtain ⟨x, hx, hu⟩ := hw
      exact .inl ⟨x, ⟨j, Nat.le_refl _, hx⟩, hu⟩
  · rintro (⟨x, ⟨m, hm, hx⟩, hu⟩ | ⟨m, hm, hw⟩)
    · exact ⟨m + 1, by omega, x, hx, hu⟩
    · exact ⟨m, by omega, hw⟩
theorem wi_zero {g : List (List Nat)} {a u : Nat} : Wi g a 0 u ↔ u = a := by
  constructor
  · rintro ⟨m, hm, hw⟩
    obtain rfl : m = 0 := by omega
    exact hw
  · rintro rfl; exact ⟨0, Nat.le_refl _, rfl⟩
/-- The ring's first k. -/
def RgK (l : List Int) (k u : Nat) : Prop := ∃ q, q < k ∧ l.getD q 0 = (u : Int)
theorem Rg.all {w : World} {base : Nat} {v : Value} {l : List Int} {N : Nat} {S : Nat → Prop} (h : Rg w base v l N S) (u : Nat) : RgK l l.length u ↔ S u := by
  constructor
  · rintro ⟨q, hq, e⟩
    have : l.getD q 0 ∈ l := by
      rw [List.getD_eq_getElem?_getD, List.getElem?_eq_getElem hq]
      exact List.getElem_mem hq
    obtain ⟨x, h1, h2⟩ := (h.mem _).1 this
    rw [show u = x by omega]; exact h2
  · intro hs
    obtain ⟨q, hq, e⟩ := List.getElem_of_mem ((h.mem (u : Int)).2 ⟨u, rfl, hs⟩)
    exact ⟨q, hq, by rw [List.getD_eq_getElem?_getD, List.getElem?_eq_getElem hq]; exact e⟩
theorem Rg.at {w : World} {base : Nat} {v : Value} {l : List Int} {N : Nat} {S : Nat → Prop} (h : Rg w base v l N S) {q : Nat} (hq : q < l.length) : ∃ u : Nat, l.getD q 0 = (u : Int) ∧ S u ∧ ∃ b off cap, v = .slice (some ⟨b, off, none⟩) l.length cap ∧ w.cell? ⟨b, off + q, none⟩ = some (.int .i64 (u : Int)) := by
  have hm : l.getD q 0 ∈ l := by
    rw [List.getD_eq_getElem?_getD, List.getElem?_eq_getElem hq]
    exact List.getElem_mem hq
  obtain ⟨u, h1, h2⟩ := (h.mem _).1 hm
  obtain ⟨a, cap, rfl, hi, _, _⟩ := h.lst.open
  rcases hi with rfl | ⟨b, off, rfl, hc⟩
  · simp at hq
  · exact ⟨u, h1, h2, b, off, cap, rfl, by rw [hc q hq, h1]⟩
end Go.Proofs.YtngdnjlohmkbiaaDoor

namespace Go.Proofs.YtngdnjlohmkbiaaDoor
open Go.RowKit

theorem cell_kept2 {w w' : World} {p : Addr} {v : Value} (k : Keeps [] w w') (h : w.cell? p = some v) : w'.cell? p = some v := by
  rw [k.cell (block_lt_of_cell h) (by simp)]
  exact h

set_option maxRecDepth 20000 in
set_option maxHeartbeats 8000000 in
theorem pathLeast_law (n : Int) (pa : Option Addr) (cap : Nat) (zs : List (Int × Int)) (fr tt : Int) (w : World) (hT : TabAt w) (hz : PairsAt w pa zs) (hl : zs.length ≤ maxLen) :
    Calls Tryd.prog 8 #[.int .i64 n, .slice pa zs.length cap, .int .i64 fr, .int .i64 tt] w fun e w' => e = .returned (.bool true) ∧ Keeps [] w w' := by
  have HBG := hid (begun5_any w hT)
  obtain ⟨N, g, L, hN2, hN1, hgl, hsm, hgd, hnn, hmd⟩ := made_pack n zs hl
  have HMD := hid (fun wz (k : Keeps [] w wz) => hmd pa cap wz (hz.kept k (fun _ _ _ => by simp)))
  have HS := hid hsm
  have HGD := hid hgd
  have HN := hid hgl
  have HT := hid (fun wz (k : Keeps [] w wz) => tab_of hT k)
  clear hT hz hl hmd hsm hgd hgl hnn
  generalize zs.length = zl at HMD
  go_enter Tryd.func8, Tryd.ntmps8
  go_wp2_with fail
  refine HBG.out.mono ?_
  rintro e w1 ⟨rfl, k1⟩
  clear HBG
  go_wp2_with fail
  refine (HMD.out w1 k1).mono ?_
  rintro e w2 ⟨p, vs, rfl, ho2, k2⟩
  have L3 := hid (LG.make ho2 (k1.quiet k2))
  rw [← HGD.out] at L3
  clear ho2 k2 k1 HMD HGD
  go_upto_region 5 with fail
  generalize w2.alloc (Obj.cells #[.int .i64 (N : Int), .slice (some ⟨p, 0, none⟩) N N] 27) = w3 at L3 ⊢
  obtain ⟨B, hB⟩ : ∃ B, w2.heap.size + 1 = B := ⟨_, rfl⟩
  rw [hB] at L3
  generalize w2.heap.size = bx at L3 ⊢
  clear hB
  have t3 := L3.out.two
  rw [HN.out] at t3
  have c0 := t3.c0
  have c1 := t3.c1
  clear t3
  by_cases hin : 0 ≤ fr ∧ fr < (N : Int)
  · have hf0 := hin.1
    have hf1 := hin.2
    by_cases hin2 : 0 ≤ tt ∧ tt < (N : Int)
    · obtain ⟨a, rfl⟩ := Int.eq_ofNat_of_zero_le hin.1
      obtain ⟨b, rfl⟩ := Int.eq_ofNat_of_zero_le hin2.1
      have hb0 := hin2.1
      have hb1 := hin2.2
      have haN : a < N := by omega
      have hbN : b < N := by omega
      clear hin hin2
      have HPI := hid (path_in g HS.out (some ⟨p, 0, none⟩) g.length B a b w3 L3.out.gr (HT.out w3 L3.out.keep) (by rw [HN.out]; exact haN) (by rw [HN.out]; exact hbN))
      have hpw := path_way HS.out.ok (a := a) (b := b) (by rw [HN.out]; exact haN)
      rw [HN.out] at HPI hpw
      have HPW := hid hpw
      clear hpw
      generalize pathM g a b = P at HPI HPW
      go_wp2_with fail
      refine HPI.out.mono ?_
      rintro e w4 ⟨v4, rfl, h4, k4⟩
      have L4 := hid (L3.out.quiet k4)
      have P4 := hid h4
      have hpw := HPW.out
      clear h4 k4 c0 c1 L3 HPI HPW
      have t4 := L4.out.two
      rw [HN.out] at t4
      have T4 := hid t4
      have c0 := t4.c0
      have c1 := t4.c1
      clear t4
      obtain ⟨av, cv, hv4, n4, _, _⟩ := ownsRow_nat P4.out
      have N4 := hid n4
      subst hv4
      clear n4 P4
      rcases hpw with ⟨rfl, hno⟩ | ⟨d, hd, hway, hmin⟩
      · have HNO := hid hno
        clear hno
        have ka : Keeps [] w4 (w4.alloc (Obj.cells #[.int .i64 (a : Int)] 3)) := Keeps.alloc _ _ _
        have hia : InAt (w4.alloc (Obj.cells #[.int .i64 (a : Int)] 3)) (w4.alloc (Obj.cells #[.int .i64 (a : Int)] 3)).heap.size (some ⟨w4.heap.size, 0, none⟩) [(a : Int)] := InAt.up (lit_nat w4 [a] #[.int .i64 (a : Int)] rfl) (by simp)
        have HRE := hid (reach_any g HS.out (some ⟨p, 0, none⟩) g.length B (w4.alloc (Obj.cells #[.int .i64 (a : Int)] 3)) (L4.out.quiet ka).gr (L4.out.quiet ka).le (some ⟨w4.heap.size, 0, none⟩) 1 _ [(a : Int)] hia (by simp) (Nat.le_refl _))
        have hrf : rch g [(a : Int)] b = false := by
          cases e : rch g [(a : Int)] b with
          | false => rfl
          | true =>
            obtain ⟨m, hm⟩ := pth_wz ((rch_iff HS.out.ok (by rw [HN.out]; exact haN) b).1 e)
            exact absurd hm (HNO.out m)
        have HRF : Box (hasI (rch g [(a : Int)]) (b : Int) = false) := hid (by simp [hasI, hrf])
        have HFT : Box (Fit (rch g [(a : Int)])) := hid (rchS_fit HS.out _ none_ fit_none)
        have K5 := hid (L4.out.quiet ka).keep
        rw [HN.out] at HRE
        clear hrf hia ka HNO
        go_wp2_with fail
        generalize w4.alloc (Obj.cells #[.int .i64 (a : Int)] 3) = w5 at HRE K5 ⊢
        refine HRE.out.mono ?_
        rintro e w6 ⟨b6, rfl, h6, k6, _⟩
        have HC := hid (has_any b6 _ (b : Int) w6 h6 HFT.out)
        rw [HRF.out] at HC
        have K6 := hid (K5.out.quiet k6)
        clear h6 k6 HRE
        go_wp2_with fail
        refine HC.out.mono ?_
        rintro e w7 ⟨rfl, m7, rfl⟩
        have K7 := hid (K6.out.quiet (Keeps.drewN [] w6 m7))
        clear HC K6 K5
        go_wp2
        go_ret
        exact ⟨rfl, K7.out⟩
      · have HWY := hid hway
        have HMI := hid hmin
        have hlen := hway.len
        have hP : ∃ pb po, av = some ⟨pb, po, none⟩ ∧ ∀ i, i < d + 1 → w4.cell? ⟨pb, po + i, none⟩ = some (.int .i64 ((P.getD i 0 : Nat) : Int)) := by
          rcases N4.out with h | ⟨pb, po, h1, _, h3⟩
          · have := congrArg List.length h
            rw [intsI_len, hlen] at this
            simp at this
          · exact ⟨pb, po, h1, fun i hi => by rw [h3 i (by rw [intsI_len, hlen]; exact hi), intsI_get]⟩
        obtain ⟨pb, po, rfl, hpc⟩ := hP
        have ch := hpc 0 (by omega)
        have cl := hpc d (by omega)
        rw [hway.head, Nat.add_zero] at ch
        rw [hway.last] at cl
        have HPC := hid hpc
        rw [hlen]
        clear hway hmin hlen hpc N4
        obtain ⟨q, hq⟩ : ∃ q, d + 1 = q := ⟨_, rfl⟩
        have HQ := hid hq
        rw [hq] at HPC ⊢
        have hdq : d < q := by omega
        rw [show d = q - 1 by omega] at cl
        have hdq' : (d : Int) < (q : Int) := by omega
        have hq0 : (0 : Int) < (q : Int) := by omega
        have hqe : ((q : Int) == 0) = false := by rw [beq_eq_false_iff_ne]; omega
        have hq6 : q ≤ 1000 := by omega
        have hqw : wrap64 ((q : Int) - 1) = (d : Int) := by rw [IntWalk.wrap64_in _ (by omega)]; omega
        clear hq
        have RG0 : Box (Rg (w4.alloc (Obj.cells #[.int .i64 (a : Int)] 3)) w4.heap.size (.slice (some ⟨w4.heap.size, 0, none⟩) 1 1) [(a : Int)] N (Wi g a 0)) := hid ⟨.inr ⟨by simp, one_row (w := w4) (base := w4.heap.size) a (Nat.le_refl _)⟩, by simp, fun z => by
            rw [List.mem_singleton]
            constructor
            · rintro rfl; exact ⟨a, rfl, wi_zero.2 rfl⟩
            · rintro ⟨u, rfl, hu⟩; rw [wi_zero.1 hu], fun u hu => by rw [wi_zero.1 hu]; exact haN⟩
        have ka : Keeps [] w4 (w4.alloc (Obj.cells #[.int .i64 (a : Int)] 3)) := Keeps.alloc _ _ _
        go_upto_region 12 with fail
        clear ch cl c0 c1
        generalize w4.alloc (Obj.cells #[.int .i64 (a : Int)] 3) = w5 at RG0 ka ⊢
        have KA := hid ka
        obtain ⟨base, hbase⟩ : ∃ base, w4.heap.size = base := ⟨_, rfl⟩
        rw [hbase] at RG0 ⊢
        have hb5 : base ≤ w5.heap.size := by have := ka.size; omega
        have HBE := hid hbase
        clear hbase ka hqw hqe hq0
        go_wp2_with fail
        go_loopw [13, 14] (fun rv iv wr => ∃ (i j : Nat) (l : List Int) (v : Value), v = rv ∧ iv = .int .i64 (i : Int) ∧ i ≤ q ∧ Box (i = j + 1) ∧ Box (Rg wr base v l N (Wi g a j)) ∧ Box (Keeps [] w4 wr)) (fun _ iv _ => q - (intOf iv).toNat)
        case atStart => exact ⟨1, 0, _, _, rfl, rfl, by omega, hid rfl, RG0, KA⟩
        case round =>
          clear RG0 KA hb5
          obtain ⟨i, j, l, v, rfl, rfl, hi, HIJ, HR, HK⟩ := hrel
          have hbs : base ≤ wr.heap.size := by have := HK.out.size; have := HBE.out; omega
          by_cases hlt : i < q
          · have hlt' : (i : Int) < (q : Int) := by omega
            have hjd : j < d := by have := HIJ.out; have := HQ.out; omega
            have hjq : j < q := by omega
            have hjq' : (j : Int) < (q : Int) := by omega
            have hj1 : (i : Int) - 1 = (j : Int) := by have := HIJ.out; omega
            have hjw : wrap64 ((i : Int) - 1) = (j : Int) := by rw [hj1, IntWalk.wrap64_in _ (by omega)]
            have hj3 : (0 : Int) ≤ (j : Int) := by omega
            have cj := cell_kept2 HK.out (HPC.out j hjq)
            have ci := cell_kept2 HK.out (HPC.out i hlt)
            have hxN : P.getD j 0 < N := by rw [← HN.out]; exact (HWY.out.to j (by omega)).lt HS.out.ok (by rw [HN.out]; exact haN)
            have hyn : P.getD i 0 ∈ nb g (P.getD j 0) := by rw [HIJ.out]; exact HWY.out.edge j hjd
            generalize P.getD j 0 = x at cj hxN hyn
            generalize P.getD i 0 = y at ci hyn
            have hxN' : (x : Int) < (N : Int) := by omega
            have HG6 := hid (fun wz (k : Keeps [] w4 wz) => (L4.out.quiet k).gr)
            obtain ⟨bl, ol, al, cp, hal, hcl, hnl⟩ := (HG6.out wr HK.out).at (k := x) (by rw [HN.out]; exact hxN)
            simp only [Option.some.injEq, Addr.mk.injEq, and_true] at hal
            obtain ⟨hal1, hal2⟩ := hal
            subst hal1
            subst hal2
            rw [Nat.zero_add] at hcl
            have hsh := HS.out.short x
            have HI1 := hid (fun wz (k : Keeps [] wr wz) => rin_any al cp (intsI (nb g x)) (y : Int) wz (hnl.kept k (by simp)).ints (by rw [intsI_len]; omega))
            rw [intsI_len, decide_eq_true (show ((y : Int) ∈ intsI (nb g x)) from List.mem_map.2 ⟨y, hyn, rfl⟩)] at HI1
            have hS : ¬ Wi g a j b := by
              rintro ⟨m, hm, hw⟩
              have := HMI.out m hw
              omega
            have HI2 := hid (fun wz (k : Keeps [] wr wz) => rin_ring base v l N b _ wz (HR.out.quiet k) (by omega) false ⟨fun h => (by cases h), fun h => absurd h hS⟩)
            have c1 := (T4.out.kept HK.out (by simp)).c1
            obtain ⟨ar, cr, hv, _, _, _⟩ := HR.out.lst.open
            subst hv
            have hllN := HR.out.len
            obtain ⟨ll, hll⟩ : ∃ ll, l.length = ll := ⟨_, rfl⟩
            rw [hll] at HI2 hllN HR ⊢
            have HLE := hid hll
            clear hll hyn hsh hnl hS hjd
            generalize (nb g x).length = nl at hcl HI1
            go_wp2_with fail
            go_quiet (first | (go_at_call 32; with_reducible exact Calls.quiet_of_same (HI1.out _ (Keeps.drewN _ _ _))) | (go_at_call 32; with_reducible exact Calls.quiet_of_same (HI2.out _ (Keeps.drewN _ _ _))))
            have HR7 := hid (HR.out.quiet (Keeps.drewN [] wr nq))
            have K7 := hid (HK.out.quiet (Keeps.drewN [] wr nq))
            clear HI1 HI2 HR HK hcl ci cj c1 hjw hj1 hj3 hjq hjq' hbs hxN hxN'
            generalize wr.drewN nq = w7 at HR7 K7 ⊢
            have hb7 : base ≤ w7.heap.size := by have := K7.out.size; have := HBE.out; omega
            have HB7 : Box (∀ wz, Keeps [] w7 wz → base ≤ wz.heap.size) := hid (fun wz k => Nat.le_trans hb7 k.size)
            have RN0 : Box (Rg w7 base (.slice none 0 0) [] N (fun u => ∃ x, RgK l 0 x ∧ u ∈ nb g x)) := hid ⟨.inl ⟨rfl, rfl⟩, by simp, fun z => by
              constructor
              · intro h; simp at h
              · rintro ⟨u, _, x, ⟨q', h1, _⟩, _⟩; omega, fun u ⟨x, ⟨q', h1, _⟩, _⟩ => by omega⟩
            go_wp2_with fail
            go_loopw [15, 16] (fun nv kv wr => ∃ (k : Nat) (l2 : List Int) (v2 : Value), v2 = nv ∧ kv = .int .i64 (k : Int) ∧ k ≤ ll ∧ Box (Rg wr base v2 l2 N (fun u => ∃ x, RgK l k x ∧ u ∈ nb g x)) ∧ Box (Keeps [] w7 wr)) (fun _ kv _ => ll - (intOf kv).toNat)
            case atStart => exact ⟨0, [], _, rfl, rfl, by omega, RN0, hid (Keeps.refl _ _)⟩
            case round =>
              clear RN0
              obtain ⟨k, l2, v2, rfl, rfl, hk, HR2, HK2⟩ := hrel
              by_cases hlk : k < ll
              · have hlk' : (k : Int) < (ll : Int) := by omega
                obtain ⟨u, hu1, hu2, rb, ro, rc, hrv, hru⟩ := HR7.out.at (q := k) (by rw [HLE.out]; exact hlk)
                simp only [Value.slice.injEq] at hrv
                obtain ⟨rfl, hx9, rfl⟩ := hrv
                clear hx9
                have huN : u < N := HR7.out.lt u hu2
                have huN' : (u : Int) < (N : Int) := by omega
                have HRU := hid hru
                have HU1 := hid hu1
                have R3 : Box (Rg wr base v2 l2 N (fun z => (∃ x, RgK l k x ∧ z ∈ nb g x) ∨ ∃ q', q' < 0 ∧ (nb g u).getD q' 0 = z)) := hid (HR2.out.congr (fun z => ⟨.inl, fun h => h.resolve_right (fun ⟨q', h1, _⟩ => by omega)⟩))
                have hsh := HS.out.short u
                obtain ⟨nl, hnl⟩ : ∃ nl, (nb g u).length = nl := ⟨_, rfl⟩
                have HNL := hid hnl
                rw [hnl] at hsh
                clear hru hu1 hu2 HR2 hnl
                go_wp2_with fail
                go_loopw [15, 17] (fun nv jv wr => ∃ (j2 : Nat) (l3 : List Int) (v3 : Value), v3 = nv ∧ jv = .int .i64 (j2 : Int) ∧ j2 ≤ nl ∧ Box (Rg wr base v3 l3 N (fun z => (∃ x, RgK l k x ∧ z ∈ nb g x) ∨ ∃ q', q' < j2 ∧ (nb g u).getD q' 0 = z)) ∧ Box (Keeps [] w7 wr)) (fun _ jv _ => nl - (intOf jv).toNat)
                case atStart => exact ⟨0, l2, v2, rfl, rfl, by omega, R3, HK2⟩
                case round =>
                  clear R3 HK2
                  obtain ⟨j2, l3, v3, rfl, rfl, hj2, HR3, HK3⟩ := hrel
                  have c1 := (T4.out.kept (K7.out.quiet HK3.out) (by simp)).c1
                  have cr := cell_kept2 HK3.out HRU.out
                  obtain ⟨bl, ol, al, cp, hal, hcl, hnl⟩ := (HG6.out wr (K7.out.quiet HK3.out)).at (k := u) (by rw [HN.out]; exact huN)
                  simp only [Option.some.injEq, Addr.mk.injEq, and_true] at hal
                  obtain ⟨hal1, hal2⟩ := hal
                  subst hal1
                  subst hal2
                  rw [Nat.zero_add, HNL.out] at hcl
                  by_cases hlj : j2 < nl
                  · have hlj' : (j2 : Int) < (nl : Int) := by omega
                    obtain ⟨bn, on, rfl, hcn⟩ := hnl.at (k := j2) (by rw [HNL.out]; exact hlj)
                    have hcN : (nb g u).getD j2 0 < N := by
                      rw [← HN.out]
                      exact HS.out.ok u _ (getD_mem _ _ _ (by rw [HNL.out]; exact hlj))
                    have HSU : Box (∀ z, ((∃ x, RgK l k x ∧ z ∈ nb g x) ∨ ∃ q', q' < j2 ∧ (nb g u).getD q' 0 = z) ∨ z = (nb g u).getD j2 0 ↔ (∃ x, RgK l k x ∧ z ∈ nb g x) ∨ ∃ q', q' < j2 + 1 ∧ (nb g u).getD q' 0 = z) := hid (fun z => by
                      constructor
                      · rintro ((h | ⟨q', h1, h2⟩) | h)
                        · exact .inl h
                        · exact .inr ⟨q', by omega, h2⟩
                        · exact .inr ⟨j2, by omega, h.symm⟩
                      · rintro (h | ⟨q', h1, h2⟩)
                        · exact .inl (.inl h)
                        · by_cases e : q' = j2
                          · subst e; exact .inr h2.symm
                          · exact .inl (.inr ⟨q', by omega, h2⟩))
                    generalize (nb g u).getD j2 0 = c at hcn hcN HSU
                    clear hnl
                    go_wp2_with fail
                    go_quiet (fail)
                    have kq : Keeps [] wr (wr.drewN nq) := Keeps.drewN _ _ _
                    have K8 := hid (HK3.out.quiet kq)
                    have HP8 := hid (rput_any base v3 l3 N c _ (wr.drewN nq).drew (HR3.out.quiet (kq.quiet (Keeps.drew _ _))) hcN (by omega) (HB7.out _ (K8.out.quiet (Keeps.drew _ _))))
                    have d1 := cell_kept2 kq c1
                    have d2 := cell_kept2 kq cr
                    have d3 := cell_kept2 kq hcl
                    have d4 := cell_kept2 kq hcn
                    clear c1 cr hcl hcn HR3 HK3 kq
                    generalize wr.drewN nq = w8 at K8 HP8 d1 d2 d3 d4 ⊢
                    have HD1 := hid d1
                    have HD2 := hid d2
                    have HD3 := hid d3
                    have HD4 := hid d4
                    have kd : Keeps [] w8 w8.drew := Keeps.drew _ _
                    go_upto_region 24 with fail
                    go_region_held3 (fun w' => w'.cell? ⟨bx, 1, none⟩ = some (.slice (some ⟨p, 0, none⟩) N N) ∧ w'.cell? ⟨rb, ro + k, none⟩ = some (.int .i64 (u : Int)) ∧ w'.cell? ⟨p, u, none⟩ = some (.slice (some ⟨bn, on, none⟩) nl cp) ∧ w'.cell? ⟨bn, on + j2, none⟩ = some (.int .i64 (c : Int))) (go_keep) (first
                      | (go_at_call 33; refine HP8.out.mono ?_; rintro e w9 ⟨v9, l9, rfl, h9, k9⟩; have R9 := hid h9; have kk := kd.quiet k9; have f1 := cell_kept2 kk HD1.out; have f2 := cell_kept2 kk HD2.out; have f3 := cell_kept2 kk HD3.out; have f4 := cell_kept2 kk HD4.out; clear h9 k9)
                      | fail)
                    all_goals
                      have R10 := hid (R9.out.congr HSU.out)
                      have K10 := hid (K8.out.quiet kk)
                      clear R9 f1 f2 f3 f4 d1 d2 d3 d4
                      go_wp2_with fail
                      go_roundw
                      case rel => exact ⟨j2 + 1, l9, v9, rfl, by go_num, by omega, R10, K10⟩
                      case measure => simp [intOf]; omega
                  · obtain rfl : j2 = nl := by omega
                    have R9 : Box (Rg wr base v3 l3 N (fun z => ∃ x, RgK l (k + 1) x ∧ z ∈ nb g x)) := hid (HR3.out.congr (fun z => by
                      constructor
                      · rintro (⟨x, ⟨q', h1, h2⟩, h3⟩ | ⟨q', h1, h2⟩)
                        · exact ⟨x, ⟨q', by omega, h2⟩, h3⟩
                        · exact ⟨u, ⟨k, by omega, HU1.out⟩, by rw [← h2]; exact getD_mem _ _ _ (by rw [HNL.out]; exact h1)⟩
                      · rintro ⟨x, ⟨q', h1, h2⟩, h3⟩
                        by_cases e : q' = k
                        · subst e
                          have e2 := HU1.out
                          rw [h2] at e2
                          have e3 : x = u := by omega
                          subst e3
                          obtain ⟨y', hy, e4⟩ := List.getElem_of_mem h3
                          refine .inr ⟨y', by rw [← HNL.out]; exact hy, ?_⟩
                          rw [List.getD_eq_getElem?_getD, List.getElem?_eq_getElem hy]
                          exact e4
                        · exact .inl ⟨x, ⟨q', by omega, h2⟩, h3⟩))
                    clear hnl HR3
                    go_wp2_with fail
                    go_quiet (fail)
                    have R10 := hid (R9.out.quiet (Keeps.drewN [] wr nq))
                    have K10 := hid (HK3.out.quiet (Keeps.drewN [] wr nq))
                    clear R9 HK3 c1 cr hcl
                    generalize wr.drewN nq = w8 at R10 K10 ⊢
                    go_wp2_with fail
                    go_roundw
                    case rel => exact ⟨k + 1, l3, v3, rfl, by go_num, by omega, R10, K10⟩
                    case measure => simp [intOf]; omega
              · obtain rfl : k = ll := by omega
                have R4 : Box (Rg wr base v2 l2 N (fun z => (∃ x, RgK l k x ∧ z ∈ nb g x) ∨ RgK l 0 z)) := hid (HR2.out.congr (fun z => ⟨.inl, fun h => h.resolve_right (fun ⟨q', h1, _⟩ => by omega)⟩))
                clear HR2
                go_wp2_with fail
                go_loopw [15, 18] (fun nv kv wr => ∃ (k4 : Nat) (l4 : List Int) (v4 : Value), v4 = nv ∧ kv = .int .i64 (k4 : Int) ∧ k4 ≤ k ∧ Box (Rg wr base v4 l4 N (fun z => (∃ x, RgK l k x ∧ z ∈ nb g x) ∨ RgK l k4 z)) ∧ Box (Keeps [] w7 wr)) (fun _ kv _ => k - (intOf kv).toNat)
                case atStart => exact ⟨0, l2, v2, rfl, rfl, by omega, R4, HK2⟩
                case round =>
                  clear R4 HK2
                  obtain ⟨k4, l4, v4, rfl, rfl, hk4, HR4, HK4⟩ := hrel
                  by_cases hlk4 : k4 < k
                  · have hlk4' : (k4 : Int) < (k : Int) := by omega
                    obtain ⟨u, hu1, hu2, rb, ro, rc, hrv, hru⟩ := HR7.out.at (q := k4) (by rw [HLE.out]; exact hlk4)
                    simp only [Value.slice.injEq] at hrv
                    obtain ⟨rfl, hx9, rfl⟩ := hrv
                    clear hx9
                    have huN : u < N := HR7.out.lt u hu2
                    have cr := cell_kept2 HK4.out hru
                    have HSU : Box (∀ z, ((∃ x, RgK l k x ∧ z ∈ nb g x) ∨ RgK l k4 z) ∨ z = u ↔ (∃ x, RgK l k x ∧ z ∈ nb g x) ∨ RgK l (k4 + 1) z) := hid (fun z => by
                      constructor
                      · rintro ((h | ⟨q', h1, h2⟩) | h)
                        · exact .inl h
                        · exact .inr ⟨q', by omega, h2⟩
                        · exact .inr ⟨k4, by omega, by rw [h]; exact hu1⟩
                      · rintro (h | ⟨q', h1, h2⟩)
                        · exact .inl (.inl h)
                        · by_cases e : q' = k4
                          · subst e; rw [hu1] at h2; exact .inr (by omega)
                          · exact .inl (.inr ⟨q', by omega, h2⟩))
                    have HP := hid (rput_any base v4 l4 N u _ wr HR4.out huN (by omega) (HB7.out _ HK4.out))
                    clear hu1 hu2 hru
                    go_wp2_with fail
                    refine HP.out.mono ?_
                    rintro e w9 ⟨v9, l9, rfl, h9, k9⟩
                    have R10 := hid (h9.congr HSU.out)
                    have K10 := hid (HK4.out.quiet k9)
                    clear h9 k9 cr HP HR4 HK4
                    go_wp2_with fail
                    go_roundw
                    case rel => exact ⟨k4 + 1, l9, v9, rfl, by go_num, by omega, R10, K10⟩
                    case measure => simp [intOf]; omega
                  · obtain rfl : k4 = k := by omega
                    have R10 : Box (Rg wr base v4 l4 N (Wi g a (j + 1))) := hid (HR4.out.congr (fun z => by
                      rw [wi_next]
                      have h1 := fun x => HR7.out.all x
                      rw [HLE.out] at h1
                      constructor
                      · rintro (⟨x, h2, h3⟩ | h2)
                        · exact .inl ⟨x, (h1 x).1 h2, h3⟩
                        · exact .inr ((h1 z).1 h2)
                      · rintro (⟨x, h2, h3⟩ | h2)
                        · exact .inl ⟨x, (h1 x).2 h2, h3⟩
                        · exact .inr ((h1 z).2 h2)))
                    have K10 := hid (K7.out.quiet HK4.out)
                    have HIJ2 : Box (i + 1 = j + 1 + 1) := hid (by rw [HIJ.out])
                    clear HR4 HK4
                    go_wp2_with fail
                    go_roundw
                    case rel => exact ⟨i + 1, j + 1, l4, v4, rfl, by go_num, by omega, HIJ2, R10, K10⟩
                    case measure => simp [intOf]; omega
          · obtain rfl : i = q := by omega
            have HC := hid (rin_ring base v l N b _ wr HR.out (by omega) true ⟨fun _ => by
              have h1 := HWY.out.to d (Nat.le_refl _)
              rw [HWY.out.last] at h1
              exact ⟨d, by have := HIJ.out; have := HQ.out; omega, h1⟩, fun _ => rfl⟩)
            have KF := hid (L4.out.keep.quiet HK.out)
            obtain ⟨ar, cr, hv, _, _, _⟩ := HR.out.lst.open
            subst hv
            clear HR HK
            go_wp2_with fail
            refine HC.out.mono ?_
            rintro e wq ⟨rfl, hwq⟩
            rw [hwq]
            clear hwq HC
            go_wp2
            go_ret
            exact ⟨rfl, KF.out⟩
    · have HPO := hid (path_out2 g HS.out (some ⟨p, 0, none⟩) g.length B fr tt w3 L3.out.gr (by rw [HN.out]; exact hin) (by rw [HN.out]; exact hin2))
      rw [HN.out] at HPO
      go_wp2_with fail
      refine HPO.out.mono ?_
      rintro e w4 ⟨rfl, k4⟩
      have L4 := hid (L3.out.quiet k4)
      have t4 := L4.out.two
      rw [HN.out] at t4
      have c0' := t4.c0
      clear t4 k4 c0 c1 L3 HPO hin
      by_cases h0 : tt < 0
      · clear hin2
        go_wp2
        go_ret
        exact ⟨rfl, L4.out.keep⟩
      · have h1 : (N : Int) ≤ tt := by omega
        clear hin2
        go_wp2
        go_ret
        exact ⟨rfl, L4.out.keep⟩
  · have HPO := hid (path_out1 g HS.out (some ⟨p, 0, none⟩) g.length B fr tt w3 L3.out.gr (by rw [HN.out]; exact hin))
    rw [HN.out] at HPO
    go_wp2_with fail
    refine HPO.out.mono ?_
    rintro e w4 ⟨rfl, k4⟩
    have L4 := hid (L3.out.quiet k4)
    have t4 := L4.out.two
    rw [HN.out] at t4
    have c0' := t4.c0
    clear t4 k4 c0 c1 L3 HPO
    by_cases h0 : fr < 0
    · clear hin
      go_wp2
      go_ret
      exact ⟨rfl, L4.out.keep⟩
    · have h1 : (N : Int) ≤ fr := by omega
      clear hin
      go_wp2
      go_ret
      exact ⟨rfl, L4.out.keep⟩
end Go.Proofs.YtngdnjlohmkbiaaDoor
