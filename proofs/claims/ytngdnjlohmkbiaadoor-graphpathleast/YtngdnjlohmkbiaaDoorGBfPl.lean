/-
  Plain: the way that the walk by breadth finds is a way of edges, a shortest one, and of these the least.
-/
import Derived.Test.YtngdnjlohmkbiaaDoorGPath
namespace Go.Proofs.YtngdnjlohmkbiaaDoor
open Go.RowKit

theorem idx_app {l r : List Nat} {y : Nat} (h : y ∈ l) : (l ++ r).idxOf y = l.idxOf y := by rw [List.idxOf_append, if_pos h]
theorem idx_app_new {l r : List Nat} {y : Nat} (h : y ∉ l) : (l ++ r).idxOf y = r.idxOf y + l.length := by rw [List.idxOf_append, if_neg h]
theorem idx_lt {l : List Nat} {y : Nat} (h : y ∈ l) : l.idxOf y < l.length := List.idxOf_lt_length_of_mem h
theorem idx_getD {l : List Nat} {y : Nat} (h : y ∈ l) : l.getD (l.idxOf y) 0 = y := by
  rw [List.getD_eq_getElem?_getD, List.getElem?_eq_getElem (idx_lt h), Option.getD_some]
  exact List.getElem_idxOf (idx_lt h)
theorem idx_inj {l : List Nat} {x y : Nat} (hx : x ∈ l) (hy : y ∈ l) (e : l.idxOf x = l.idxOf y) : x = y := by
  rw [← idx_getD hx, ← idx_getD hy, e]
theorem getD_idx {l : List Nat} (hn : l.Nodup) {k : Nat} (hk : k < l.length) : l.idxOf (l.getD k 0) = k := by
  rw [List.getD_eq_getElem?_getD, List.getElem?_eq_getElem hk, Option.getD_some]
  exact List.Nodup.idxOf_getElem hn k hk
theorem idx_sorted {l : List Nat} (hs : l.Pairwise (· < ·)) {x y : Nat} (hx : x ∈ l) (hy : y ∈ l) (h : l.idxOf x ≤ l.idxOf y) : x ≤ y := by
  by_cases e : l.idxOf x = l.idxOf y
  · rw [idx_inj hx hy e]; exact Nat.le_refl _
  · have h1 := List.pairwise_iff_getElem.1 hs (l.idxOf x) (l.idxOf y) (idx_lt hx) (idx_lt hy) (by omega)
    rw [List.getElem_idxOf, List.getElem_idxOf] at h1
    omega

structure Bq (g : List (List Nat)) (fr : Nat) (line : List Nat) (bf : Nat → Nat) (k : Nat) : Prop where
  bs : Bf g fr line bf
  le : k ≤ line.length
  edge : ∀ y, y ∈ line → y ≠ fr → y ∈ nb g (bf y) ∧ bf y ∈ line ∧ line.idxOf (bf y) < k
  first : ∀ y, y ∈ line → y ≠ fr → ∀ x, y ∈ nb g x → line.idxOf (bf y) ≤ line.idxOf x
  mono : ∀ y z, y ∈ line → z ∈ line → y ≠ fr → z ≠ fr → line.idxOf y ≤ line.idxOf z → line.idxOf (bf y) ≤ line.idxOf (bf z) ∧ (bf y = bf z → y ≤ z)
  seen : ∀ x, x ∈ line → line.idxOf x < k → ∀ y, y ∈ nb g x → y ∈ line
theorem Bf.fr_mem {g : List (List Nat)} {fr : Nat} {line : List Nat} {bf : Nat → Nat} (h : Bf g fr line bf) : fr ∈ line := h.head.2 ▸ getD_mem line 0 0 h.head.1
theorem Bf.fr_idx {g : List (List Nat)} {fr : Nat} {line : List Nat} {bf : Nat → Nat} (h : Bf g fr line bf) : line.idxOf fr = 0 := by
  have := getD_idx h.nodup h.head.1
  rw [h.head.2] at this
  exact this
theorem Bq.start {g : List (List Nat)} {fr : Nat} (h : fr < g.length) (bf : Nat → Nat) : Bq g fr [fr] bf 0 := by
  have key : ∀ y, y ∈ [fr] → y ≠ fr → False := fun y hy hne => hne (List.mem_singleton.1 hy)
  exact ⟨Bf.start h bf, Nat.zero_le _, fun y hy hn => (key y hy hn).elim, fun y hy hn => (key y hy hn).elim, fun y z hy _ hn => (key y hy hn).elim, fun _ _ h => absurd h (Nat.not_lt_zero _)⟩
theorem Bq.step {g : List (List Nat)} {fr : Nat} {line : List Nat} {bf : Nat → Nat} {k : Nat} (h : Bq g fr line bf k) (hg : Ok g) (hk : k < line.length) : Bq g fr (line ++ nxs g line (line.getD k 0) g.length) (bfJ g line (line.getD k 0) bf g.length) (k + 1) := by
  have hB := h.bs.step hg hk
  have hxi := getD_idx h.bs.nodup hk
  have hxl : line.getD k 0 ∈ line := getD_mem line k 0 hk
  generalize line.getD k 0 = x at hB hxi hxl ⊢
  have hnew : ∀ y, y ∈ line ++ nxs g line x g.length → y ∉ line → y ∈ nb g x ∧ bfJ g line x bf g.length y = x ∧ y ∈ nxs g line x g.length := by
    intro y hy hn
    have hm := (List.mem_append.1 hy).resolve_left hn
    obtain ⟨h1, h2, h3⟩ := nxs_mem.1 hm
    refine ⟨h2, ?_, hm⟩
    unfold bfJ
    rw [if_pos (by rw [nxt_iff.2 ⟨h2, h3⟩]; simp [h1])]
  have hold : ∀ y, y ∈ line → bfJ g line x bf g.length y = bf y := fun y hy => bfJ_old y hy
  have hfr := h.bs.fr_mem
  have hge : ∀ y, y ∉ line → line.length ≤ (line ++ nxs g line x g.length).idxOf y := fun y hy => by rw [idx_app_new hy]; omega
  refine ⟨hB, by rw [List.length_append]; omega, fun y hy hne => ?_, fun y hy hne x0 hx0 => ?_, fun y z hy hz hny hnz hle => ?_, fun x0 hx0 hi y hy => ?_⟩
  · by_cases ho : y ∈ line
    · obtain ⟨h1, h2, h3⟩ := h.edge y ho hne
      rw [hold y ho, idx_app h2]
      exact ⟨h1, List.mem_append_left _ h2, by omega⟩
    · obtain ⟨h1, h2, _⟩ := hnew y hy ho
      rw [h2, idx_app hxl, hxi]
      exact ⟨h1, List.mem_append_left _ hxl, by omega⟩
  · by_cases ho : y ∈ line
    · obtain ⟨_, h2, h3⟩ := h.edge y ho hne
      have h4 := h.first y ho hne x0 hx0
      rw [hold y ho, idx_app h2]
      by_cases hx : x0 ∈ line
      · rw [idx_app hx]; exact h4
      · have := hge x0 hx; omega
    · obtain ⟨_, h2, _⟩ := hnew y hy ho
      rw [h2, idx_app hxl, hxi]
      by_cases hx : x0 ∈ line
      · rw [idx_app hx]
        apply Classical.byContradiction
        intro hlt
        exact ho (h.seen x0 hx (by omega) y hx0)
      · have := hge x0 hx; omega
  · by_cases ho : y ∈ line
    · by_cases ho2 : z ∈ line
      · rw [hold y ho, hold z ho2, idx_app (h.edge y ho hny).2.1, idx_app (h.edge z ho2 hnz).2.1]
        rw [idx_app ho, idx_app ho2] at hle
        exact h.mono y z ho ho2 hny hnz hle
      · obtain ⟨_, h2, _⟩ := hnew z hz ho2
        obtain ⟨_, h3, h4⟩ := h.edge y ho hny
        rw [hold y ho, h2, idx_app h3, idx_app hxl, hxi]
        exact ⟨by omega, fun e => by rw [e, hxi] at h4; omega⟩
    · have h1 := hge y ho
      by_cases ho2 : z ∈ line
      · rw [idx_app ho2] at hle
        have := idx_lt ho2
        omega
      · obtain ⟨_, h2, h3⟩ := hnew y hy ho
        obtain ⟨_, h4, h5⟩ := hnew z hz ho2
        rw [h2, h4]
        refine ⟨Nat.le_refl _, fun _ => ?_⟩
        rw [idx_app_new ho, idx_app_new ho2] at hle
        have hso : (nxs g line x g.length).Pairwise (· < ·) := List.Pairwise.sublist List.filter_sublist List.pairwise_lt_range
        exact idx_sorted hso h3 h5 (by omega)
  · by_cases ho : x0 ∈ line
    · rw [idx_app ho] at hi
      by_cases e : line.idxOf x0 < k
      · exact List.mem_append_left _ (h.seen x0 ho e y hy)
      · have : x0 = x := idx_inj ho hxl (by omega)
        subst this
        by_cases hyl : y ∈ line
        · exact List.mem_append_left _ hyl
        · exact List.mem_append_right _ (nxs_mem.2 ⟨hg x0 y hy, hy, hyl⟩)
    · have := hge x0 ho; omega
theorem Bf.short {g : List (List Nat)} {fr : Nat} {line : List Nat} {bf : Nat → Nat} (h : Bf g fr line bf) : line.length ≤ g.length := by
  have := List.Nodup.length_le_of_subset h.nodup (l₂ := List.range g.length) (fun m hm => List.mem_range.2 (h.lt m hm))
  rw [List.length_range] at this
  exact this
theorem pthS_spec {g : List (List Nat)} (hg : Ok g) {fr t : Nat} : ∀ (f k : Nat) (line : List Nat) (bf : Nat → Nat), Bq g fr line bf k → g.length + 1 ≤ f + k → ∃ k', Bq g fr (pthS g t f k line bf).1 (pthS g t f k line bf).2 k' ∧ (t ∈ (pthS g t f k line bf).1 ∨ k' = (pthS g t f k line bf).1.length)
  | 0, k, line, bf, h, hf => by have := h.le; have := h.bs.short; omega
  | f + 1, k, line, bf, h, hf => by
    by_cases hc : k < line.length ∧ t ∉ line
    · rw [pthS_step hc]
      exact pthS_spec hg f (k + 1) _ _ (h.step hg hc.1) (by omega)
    · rw [pthS_end hc]
      refine ⟨k, h, ?_⟩
      by_cases ht : t ∈ line
      · exact .inl ht
      · exact .inr (by have := h.le; have : ¬ k < line.length := fun q => hc ⟨q, ht⟩; show k = line.length; omega)

/-- Ways, the last edge last. -/
def Wz (g : List (List Nat)) : Nat → Nat → Nat → Prop
  | 0, a, z => z = a
  | m + 1, a, z => ∃ y, Wz g m a y ∧ z ∈ nb g y
theorem Bq.back {g : List (List Nat)} {fr : Nat} {line : List Nat} {bf : Nat → Nat} {k : Nat} (h : Bq g fr line bf k) {y z u : Nat} (hy : y ∈ line) (hn : y ≠ fr) (hz : z ∈ nb g u) (hle : line.idxOf y ≤ line.idxOf z) : line.idxOf (bf y) ≤ line.idxOf u := by
  have hy0 : line.idxOf y ≠ 0 := fun e => hn (idx_inj hy h.bs.fr_mem (by rw [e, h.bs.fr_idx]))
  have hzf : z ≠ fr := fun e => by rw [e, h.bs.fr_idx] at hle; omega
  by_cases hzl : z ∈ line
  · exact Nat.le_trans (h.mono y z hy hzl hn hzf hle).1 (h.first z hzl hzf u hz)
  · have h1 := (h.edge y hy hn).2.2
    by_cases hu : u ∈ line
    · apply Classical.byContradiction
      intro hlt
      exact hzl (h.seen u hu (by omega) z hz)
    · have := List.idxOf_eq_length hu
      have := h.le
      omega
theorem Bq.short {g : List (List Nat)} {fr : Nat} {line : List Nat} {bf : Nat → Nat} {k : Nat} (h : Bq g fr line bf k) : ∀ (m z : Nat), Wz g m fr z → ∀ d y, Back line bf fr d y → line.idxOf y ≤ line.idxOf z → d ≤ m
  | 0, z, hw, d, y, hb, hle => by
    have hw' : z = fr := hw
    rw [hw', h.bs.fr_idx] at hle
    have : y = fr := idx_inj hb.mem h.bs.fr_mem (by rw [h.bs.fr_idx]; omega)
    cases d with
    | zero => exact Nat.le_refl _
    | succ d => exact absurd this hb.1
  | m + 1, z, hw, d, y, hb, hle => by
    cases d with
    | zero => omega
    | succ d =>
      obtain ⟨u, hu, hz⟩ := hw
      have := h.short m u hu d (bf y) hb.2.2 (h.back hb.2.1 hb.1 hz hle)
      omega
/-- What pathM is. -/
theorem path_spec {g : List (List Nat)} (hg : Ok g) {a b : Nat} (ha : a < g.length) :
    (pathM g a b = [] ∧ ∀ m, ¬ Wz g m a b) ∨ ∃ line bf k d, Bq g a line bf k ∧ Back line bf a d b ∧ d ≤ g.length ∧ pathM g a b = (wb bf d b).reverse := by
  obtain ⟨k, hq, hend⟩ := pthS_spec hg (t := b) (g.length + 1) 0 [a] (fun _ => 0) (Bq.start ha _) (by omega)
  unfold pathM
  generalize pthS g b (g.length + 1) 0 [a] (fun _ => 0) = s at hq hend
  by_cases hb : b ∈ s.1
  · right
    have hi := idx_lt hb
    obtain ⟨d, hd, hbk⟩ := hq.bs.back _ hi
    rw [idx_getD hb] at hbk
    have := hq.bs.short
    refine ⟨s.1, s.2, k, d, hq, hbk, by omega, ?_⟩
    show (if b ∈ s.1 then (wbk s.2 a g.length b).reverse else []) = _
    rw [if_pos hb, wbk_wb d g.length b (by omega) hbk]
  · left
    refine ⟨by show (if b ∈ s.1 then (wbk s.2 a g.length b).reverse else []) = _; rw [if_neg hb], ?_⟩
    have hk := hend.resolve_left hb
    have key : ∀ m z, Wz g m a z → z ∈ s.1 := by
      intro m
      induction m with
      | zero => intro z hz; have : z = a := hz; rw [this]; exact hq.bs.fr_mem
      | succ m ih =>
        rintro z ⟨u, hu, hz⟩
        exact hq.seen u (ih u hu) (by rw [hk]; exact idx_lt (ih u hu)) z hz
    exact fun m hm => hb (key m b hm)
/-- A way, written out. -/
structure Way (g : List (List Nat)) (a b d : Nat) (P : List Nat) : Prop where
  len : P.length = d + 1
  head : P.getD 0 0 = a
  last : P.getD d 0 = b
  edge : ∀ i, i < d → P.getD (i + 1) 0 ∈ nb g (P.getD i 0)
theorem snoc_old {P : List Nat} {y i : Nat} (h : i < P.length) : (P ++ [y]).getD i 0 = P.getD i 0 := by
  rw [List.getD_eq_getElem?_getD, List.getElem?_append_left h, List.getD_eq_getElem?_getD]
theorem snoc_new (P : List Nat) (y : Nat) : (P ++ [y]).getD P.length 0 = y := by
  rw [List.getD_eq_getElem?_getD, List.getElem?_append_right (Nat.le_refl _)]
  simp
theorem Bq.way {g : List (List Nat)} {fr : Nat} {line : List Nat} {bf : Nat → Nat} {k : Nat} (h : Bq g fr line bf k) : ∀ (d y : Nat), Back line bf fr d y → Way g fr y d (wb bf d y).reverse
  | 0, y, hb => by
    refine ⟨rfl, ?_, rfl, fun i hi => by omega⟩
    exact hb.1
  | d + 1, y, hb => by
    have ih := h.way d (bf y) hb.2.2
    have e : (wb bf (d + 1) y).reverse = (wb bf d (bf y)).reverse ++ [y] := by
      show (y :: wb bf d (bf y)).reverse = _
      rw [List.reverse_cons]
    rw [e]
    generalize (wb bf d (bf y)).reverse = P at ih
    have hl := ih.len
    refine ⟨by rw [List.length_append, hl]; rfl, ?_, ?_, fun i hi => ?_⟩
    · rw [snoc_old (by omega)]; exact ih.head
    · rw [← hl]; exact snoc_new P y
    · by_cases h1 : i < d
      · rw [snoc_old (by omega), snoc_old (by omega)]
        exact ih.edge i h1
      · obtain rfl : i = d := by omega
        rw [snoc_old (by omega), ih.last, ← hl, snoc_new]
        exact (h.edge y hb.2.1 hb.1).1
theorem Way.to {g : List (List Nat)} {a b d : Nat} {P : List Nat} (h : Way g a b d P) : ∀ i, i ≤ d → Wz g i a (P.getD i 0)
  | 0, _ => h.head
  | i + 1, hi => ⟨P.getD i 0, h.to i (by omega), h.edge i (by omega)⟩
theorem Wz.lt {g : List (List Nat)} (hg : Ok g) {a : Nat} (ha : a < g.length) : ∀ {m z : Nat}, Wz g m a z → z < g.length
  | 0, z, h => by have : z = a := h; omega
  | m + 1, z, ⟨y, _, hz⟩ => hg y z hz
/-- Path's answer between nodes. -/
theorem path_way {g : List (List Nat)} (hg : Ok g) {a b : Nat} (ha : a < g.length) :
    (pathM g a b = [] ∧ ∀ m, ¬ Wz g m a b) ∨ ∃ d, d ≤ g.length ∧ Way g a b d (pathM g a b) ∧ ∀ m, Wz g m a b → d ≤ m := by
  rcases path_spec hg (b := b) ha with h | ⟨line, bf, k, d, hq, hb, hd, e⟩
  · exact .inl h
  · refine .inr ⟨d, hd, by rw [e]; exact hq.way d b hb, fun m hm => hq.short m b hm d b hb (Nat.le_refl _)⟩
theorem Wk.snoc {g : List (List Nat)} {s : Nat → Bool} : ∀ {k a b c : Nat}, Wk g s k a b → c ∈ nb g b → s c = false → Wk g s (k + 1) a c
  | 0, a, b, c, h, hc, hs => by
    obtain ⟨h1, rfl⟩ := h
    exact ⟨h1, c, hc, hs, rfl⟩
  | k + 1, a, b, c, h, hc, hs => by
    obtain ⟨h1, x, hx, hw⟩ := h
    exact ⟨h1, x, hx, hw.snoc hc hs⟩
theorem wz_pth {g : List (List Nat)} {a : Nat} : ∀ {m z : Nat}, Wz g m a z → Pth g noS a z
  | 0, z, h => by have : z = a := h; rw [this]; exact Pth.refl rfl
  | m + 1, z, ⟨y, hy, hz⟩ => by
    obtain ⟨k, hk⟩ := wz_pth hy
    exact ⟨k + 1, hk.snoc hz rfl⟩
theorem wk_wz {g : List (List Nat)} {s : Nat → Bool} {a : Nat} : ∀ {k m x z : Nat}, Wz g m a x → Wk g s k x z → Wz g (m + k) a z
  | 0, m, x, z, h, hw => by obtain ⟨_, rfl⟩ := hw; exact h
  | k + 1, m, x, z, h, hw => by
    obtain ⟨_, y, hy, hw⟩ := hw
    have := wk_wz (m := m + 1) ⟨x, h, hy⟩ hw
    rw [show m + 1 + k = m + (k + 1) by omega] at this
    exact this
theorem pth_wz {g : List (List Nat)} {s : Nat → Bool} {a z : Nat} (h : Pth g s a z) : ∃ m, Wz g m a z := by
  obtain ⟨k, hk⟩ := h
  exact ⟨0 + k, wk_wz (m := 0) rfl hk⟩
end Go.Proofs.YtngdnjlohmkbiaaDoor
