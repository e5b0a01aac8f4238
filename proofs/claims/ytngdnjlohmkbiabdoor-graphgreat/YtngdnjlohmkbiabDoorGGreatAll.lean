/-
  Plain: the way that the walk by breadth finds is a way of edges, a shortest one, and of these the least.
  Plain: a graph with an edge more.
  Plain: an edge more; sets that are the same.
  Plain: a line.
  A new list is put into its place in a list of lists.
  Contracts: what graph's functions give of what is no graph.
  Contract: graph's Path, where an end is no node.
  The statement GraphGreat.
-/
import Derived.Test.YtngdnjlohmkbiabDoorGPath
import Derived.Test.YtngdnjlohmkbiabDoorGLaw

namespace Go.Proofs.YtngdnjlohmkbiabDoor
open Go.RowKit

theorem idx_app {l r : List Nat} {y : Nat} (h : y ∈ l) : (l ++ r).idxOf y = l.idxOf y := by rw [List.idxOf_append, if_pos h]
theorem idx_app_new {l r : List Nat} {y : Nat} (h : y ∉ l) : (l ++ r).idxOf y = r.idxOf y + l.length := by rw [List.idxOf_append, if_neg h]
theorem idx_lt {l : List Nat} {y : Nat} (h : y ∈ l) : l.idxOf y < l.length := List.idxOf_lt_length_of_mem h
theorem idx_getD {l : List Nat} {y : Nat} (h : y ∈ l) : l.getD (l.idxOf y) 0 = y := by
  rw [List.getD_eq_getElem?_getD, List.getElem?_eq_getElem (idx_lt h), Option.getD_some]
  exact List.getElem_idxOf (idx_lt h)
theorem idx_inj {l : List Nat} {x y : Nat} (hx : x ∈ l) (hy : y ∈ l) (e : l.idxOf x = l.idxOf y) : x = y := by
  rw [← idx_getD hx, ← idx_getD hy, e]
theorem getD_idx {l : List Nat} (hn : l.Nodup) {k : Nat} (hk : k < l.length) : l.idxOf (l.getD k 0) = k := by
  rw [List.getD_eq_getElem?_getD, List.getElem?_eq_getElem hk, Option.getD_some]
  exact List.Nodup.idxOf_getElem hn k hk
theorem idx_sorted {l : List Nat} (hs : l.Pairwise (· < ·)) {x y : Nat} (hx : x ∈ l) (hy : y ∈ l) (h : l.idxOf x ≤ l.idxOf y) : x ≤ y := by
  by_cases e : l.idxOf x = l.idxOf y
  · rw [idx_inj hx hy e]; exact Nat.le_refl _
  · have h1 := List.pairwise_iff_getElem.1 hs (l.idxOf x) (l.idxOf y) (idx_lt hx) (idx_lt hy) (by omega)
    rw [List.getElem_idxOf, List.getElem_idxOf] at h1
    omega

structure Bq (g : List (List Nat)) (fr : Nat) (line : List Nat) (bf : Nat → Nat) (k : Nat) : Prop where
  bs : Bf g fr line bf
  le : k ≤ line.length
  edge : ∀ y, y ∈ line → y ≠ fr → y ∈ nb g (bf y) ∧ bf y ∈ line ∧ line.idxOf (bf y) < k
  first : ∀ y, y ∈ line → y ≠ fr → ∀ x, y ∈ nb g x → line.idxOf (bf y) ≤ line.idxOf x
  mono : ∀ y z, y ∈ line → z ∈ line → y ≠ fr → z ≠ fr → line.idxOf y ≤ line.idxOf z → line.idxOf (bf y) ≤ line.idxOf (bf z) ∧ (bf y = bf z → y ≤ z)
  seen : ∀ x, x ∈ line → line.idxOf x < k → ∀ y, y ∈ nb g x → y ∈ line
theorem Bf.fr_mem {g : List (List Nat)} {fr : Nat} {line : List Nat} {bf : Nat → Nat} (h : Bf g fr line bf) : fr ∈ line := h.head.2 ▸ getD_mem line 0 0 h.head.1
theorem Bf.fr_idx {g : List (List Nat)} {fr : Nat} {line : List Nat} {bf : Nat → Nat} (h : Bf g fr line bf) : line.idxOf fr = 0 := by
  have := getD_idx h.nodup h.head.1
  rw [h.head.2] at this
  exact this
theorem Bq.start {g : List (List Nat)} {fr : Nat} (h : fr < g.length) (bf : Nat → Nat) : Bq g fr [fr] bf 0 := by
  have key : ∀ y, y ∈ [fr] → y ≠ fr → False := fun y hy hne => hne (List.mem_singleton.1 hy)
  exact ⟨Bf.start h bf, Nat.zero_le _, fun y hy hn => (key y hy hn).elim, fun y hy hn => (key y hy hn).elim, fun y z hy _ hn => (key y hy hn).elim, fun _ _ h => absurd h (Nat.not_lt_zero _)⟩
theorem Bq.step {g : List (List Nat)} {fr : Nat} {line : List Nat} {bf : Nat → Nat} {k : Nat} (h : Bq g fr line bf k) (hg : Ok g) (hk : k < line.length) : Bq g fr (line ++ nxs g line (line.getD k 0) g.length) (bfJ g line (line.getD k 0) bf g.length) (k + 1) := by
  have hB := h.bs.step hg hk
  have hxi := getD_idx h.bs.nodup hk
  have hxl : line.getD k 0 ∈ line := getD_mem line k 0 hk
  generalize line.getD k 0 = x at hB hxi hxl ⊢
  have hnew : ∀ y, y ∈ line ++ nxs g line x g.length → y ∉ line → y ∈ nb g x ∧ bfJ g line x bf g.length y = x ∧ y ∈ nxs g line x g.length := by
    intro y hy hn
    have hm := (List.mem_append.1 hy).resolve_left hn
    obtain ⟨h1, h2, h3⟩ := nxs_mem.1 hm
    refine ⟨h2, ?_, hm⟩
    unfold bfJ
    rw [if_pos (by rw [nxt_iff.2 ⟨h2, h3⟩]; simp [h1])]
  have hold : ∀ y, y ∈ line → bfJ g line x bf g.length y = bf y := fun y hy => bfJ_old y hy
  have hfr := h.bs.fr_mem
  have hge : ∀ y, y ∉ line → line.length ≤ (line ++ nxs g line x g.length).idxOf y := fun y hy => by rw [idx_app_new hy]; omega
  refine ⟨hB, by rw [List.length_append]; omega, fun y hy hne => ?_, fun y hy hne x0 hx0 => ?_, fun y z hy hz hny hnz hle => ?_, fun x0 hx0 hi y hy => ?_⟩
  · by_cases ho : y ∈ line
    · obtain ⟨h1, h2, h3⟩ := h.edge y ho hne
      rw [hold y ho, idx_app h2]
      exact ⟨h1, List.mem_append_left _ h2, by omega⟩
    · obtain ⟨h1, h2, _⟩ := hnew y hy ho
      rw [h2, idx_app hxl, hxi]
      exact ⟨h1, List.mem_append_left _ hxl, by omega⟩
  · by_cases ho : y ∈ line
    · obtain ⟨_, h2, h3⟩ := h.edge y ho hne
      have h4 := h.first y ho hne x0 hx0
      rw [hold y ho, idx_app h2]
      by_cases hx : x0 ∈ line
      · rw [idx_app hx]; exact h4
      · have := hge x0 hx; omega
    · obtain ⟨_, h2, _⟩ := hnew y hy ho
      rw [h2, idx_app hxl, hxi]
      by_cases hx : x0 ∈ line
      · rw [idx_app hx]
        apply Classical.byContradiction
        intro hlt
        exact ho (h.seen x0 hx (by omega) y hx0)
      · have := hge x0 hx; omega
  · by_cases ho : y ∈ line
    · by_cases ho2 : z ∈ line
      · rw [hold y ho, hold z ho2, idx_app (h.edge y ho hny).2.1, idx_app (h.edge z ho2 hnz).2.1]
        rw [idx_app ho, idx_app ho2] at hle
        exact h.mono y z ho ho2 hny hnz hle
      · obtain ⟨_, h2, _⟩ := hnew z hz ho2
        obtain ⟨_, h3, h4⟩ := h.edge y ho hny
        rw [hold y ho, h2, idx_app h3, idx_app hxl, hxi]
        exact ⟨by omega, fun e => by rw [e, hxi] at h4; omega⟩
    · have h1 := hge y ho
      by_cases ho2 : z ∈ line
      · rw [idx_app ho2] at hle
        have := idx_lt ho2
        omega
      · obtain ⟨_, h2, h3⟩ := hnew y hy ho
        obtain ⟨_, h4, h5⟩ := hnew z hz ho2
        rw [h2, h4]
        refine ⟨Nat.le_refl _, fun _ => ?_⟩
        rw [idx_app_new ho, idx_app_new ho2] at hle
        have hso : (nxs g line x g.length).Pairwise (· < ·) := List.Pairwise.sublist List.filter_sublist List.pairwise_lt_range
        exact idx_sorted hso h3 h5 (by omega)
  · by_cases ho : x0 ∈ line
    · rw [idx_app ho] at hi
      by_cases e : line.idxOf x0 < k
      · exact List.mem_append_left _ (h.seen x0 ho e y hy)
      · have : x0 = x := idx_inj ho hxl (by omega)
        subst this
        by_cases hyl : y ∈ line
        · exact List.mem_append_left _ hyl
        · exact List.mem_append_right _ (nxs_mem.2 ⟨hg x0 y hy, hy, hyl⟩)
    · have := hge x0 ho; omega
theorem Bf.short {g : List (List Nat)} {fr : Nat} {line : List Nat} {bf : Nat → Nat} (h : Bf g fr line bf) : line.length ≤ g.length := by
  have := List.Nodup.length_le_of_subset h.nodup (l₂ := List.range g.length) (fun m hm => List.mem_range.2 (h.lt m hm))
  rw [List.length_range] at this
  exact this
theorem pthS_spec {g : List (List Nat)} (hg : Ok g) {fr t : Nat} : ∀ (f k : Nat) (line : List Nat) (bf : Nat → Nat), Bq g fr line bf k → g.length + 1 ≤ f + k → ∃ k', Bq g fr (pthS g t f k line bf).1 (pthS g t f k line bf).2 k' ∧ (t ∈ (pthS g t f k line bf).1 ∨ k' = (pthS g t f k line bf).1.length)
  | 0, k, line, bf, h, hf => by have := h.le; have := h.bs.short; omega
  | f + 1, k, line, bf, h, hf => by
    by_cases hc : k < line.length ∧ t ∉ line
    · rw [pthS_step hc]
      exact pthS_spec hg f (k + 1) _ _ (h.step hg hc.1) (by omega)
    · rw [pthS_end hc]
      refine ⟨k, h, ?_⟩
      by_cases ht : t ∈ line
      · exact .inl ht
      · exact .inr (by have := h.le; have : ¬ k < line.length := fun q => hc ⟨q, ht⟩; show k = line.length; omega)

/-- Ways, the last edge last. -/
def Wz (g : List (List Nat)) : Nat → Nat → Nat → Prop
  | 0, a, z => z = a
  | m + 1, a, z => ∃ y, Wz g m a y ∧ z ∈ nb g y
theorem Bq.back {g : List (List Nat)} {fr : Nat} {line : List Nat} {bf : Nat → Nat} {k : Nat} (h : Bq g fr line bf k) {y z u : Nat} (hy : y ∈ line) (hn : y ≠ fr) (hz : z ∈ nb g u) (hle : line.idxOf y ≤ line.idxOf z) : line.idxOf (bf y) ≤ line.idxOf u := by
  have hy0 : line.idxOf y ≠ 0 := fun e => hn (idx_inj hy h.bs.fr_mem (by rw [e, h.bs.fr_idx]))
  have hzf : z ≠ fr := fun e => by rw [e, h.bs.fr_idx] at hle; omega
  by_cases hzl : z ∈ line
  · exact Nat.le_trans (h.mono y z hy hzl hn hzf hle).1 (h.first z hzl hzf u hz)
  · have h1 := (h.edge y hy hn).2.2
    by_cases hu : u ∈ line
    · apply Classical.byContradiction
      intro hlt
      exact hzl (h.seen u hu (by omega) z hz)
    · have := List.idxOf_eq_length hu
      have := h.le
      omega
theorem Bq.short {g : List (List Nat)} {fr : Nat} {line : List Nat} {bf : Nat → Nat} {k : Nat} (h : Bq g fr line bf k) : ∀ (m z : Nat), Wz g m fr z → ∀ d y, Back line bf fr d y → line.idxOf y ≤ line.idxOf z → d ≤ m
  | 0, z, hw, d, y, hb, hle => by
    have hw' : z = fr := hw
    rw [hw', h.bs.fr_idx] at hle
    have : y = fr := idx_inj hb.mem h.bs.fr_mem (by rw [h.bs.fr_idx]; omega)
    cases d with
    | zero => exact Nat.le_refl _
    | succ d => exact absurd this hb.1
  | m + 1, z, hw, d, y, hb, hle => by
    cases d with
    | zero => omega
    | succ d =>
      obtain ⟨u, hu, hz⟩ := hw
      have := h.short m u hu d (bf y) hb.2.2 (h.back hb.2.1 hb.1 hz hle)
      omega
/-- What pathM is. -/
theorem path_spec {g : List (List Nat)} (hg : Ok g) {a b : Nat} (ha : a < g.length) :
    (pathM g a b = [] ∧ ∀ m, ¬ Wz g m a b) ∨ ∃ line bf k d, Bq g a line bf k ∧ Back line bf a d b ∧ d ≤ g.length ∧ pathM g a b = (wb bf d b).reverse := by
  obtain ⟨k, hq, hend⟩ := pthS_spec hg (t := b) (g.length + 1) 0 [a] (fun _ => 0) (Bq.start ha _) (by omega)
  unfold pathM
  generalize pthS g b (g.length + 1) 0 [a] (fun _ => 0) = s at hq hend
  by_cases hb : b ∈ s.1
  · right
    have hi := idx_lt hb
    obtain ⟨d, hd, hbk⟩ := hq.bs.back _ hi
    rw [idx_getD hb] at hbk
    have := hq.bs.short
    refine ⟨s.1, s.2, k, d, hq, hbk, by omega, ?_⟩
    show (if b ∈ s.1 then (wbk s.2 a g.length b).reverse else []) = _
    rw [if_pos hb, wbk_wb d g.length b (by omega) hbk]
  · left
    refine ⟨by show (if b ∈ s.1 then (wbk s.2 a g.length b).reverse else []) = _; rw [if_neg hb], ?_⟩
    have hk := hend.resolve_left hb
    have key : ∀ m z, Wz g m a z → z ∈ s.1 := by
      intro m
      induction m with
      | zero => intro z hz; have : z = a := hz; rw [this]; exact hq.bs.fr_mem
      | succ m ih =>
        rintro z ⟨u, hu, hz⟩
        exact hq.seen u (ih u hu) (by rw [hk]; exact idx_lt (ih u hu)) z hz
    exact fun m hm => hb (key m b hm)
/-- A way, written out. -/
structure Way (g : List (List Nat)) (a b d : Nat) (P : List Nat) : Prop where
  len : P.length = d + 1
  head : P.getD 0 0 = a
  last : P.getD d 0 = b
  edge : ∀ i, i < d → P.getD (i + 1) 0 ∈ nb g (P.getD i 0)
theorem snoc_old {P : List Nat} {y i : Nat} (h : i < P.length) : (P ++ [y]).getD i 0 = P.getD i 0 := by
  rw [List.getD_eq_getElem?_getD, List.getElem?_append_left h, List.getD_eq_getElem?_getD]
theorem snoc_new (P : List Nat) (y : Nat) : (P ++ [y]).getD P.length 0 = y := by
  rw [List.getD_eq_getElem?_getD, List.getElem?_append_right (Nat.le_refl _)]
  simp
theorem Bq.way {g : List (List Nat)} {fr : Nat} {line : List Nat} {bf : Nat → Nat} {k : Nat} (h : Bq g fr line bf k) : ∀ (d y : Nat), Back line bf fr d y → Way g fr y d (wb bf d y).reverse
  | 0, y, hb => by
    refine ⟨rfl, ?_, rfl, fun i hi => by omega⟩
    exact hb.1
  | d + 1, y, hb => by
    have ih := h.way d (bf y) hb.2.2
    have e : (wb bf (d + 1) y).reverse = (wb bf d (bf y)).reverse ++ [y] := by
      show (y :: wb bf d (bf y)).reverse = _
      rw [List.reverse_cons]
    rw [e]
    generalize (wb bf d (bf y)).reverse = P at ih
    have hl := ih.len
    refine ⟨by rw [List.length_append, hl]; rfl, ?_, ?_, fun i hi => ?_⟩
    · rw [snoc_old (by omega)]; exact ih.head
    · rw [← hl]; exact snoc_new P y
    · by_cases h1 : i < d
      · rw [snoc_old (by omega), snoc_old (by omega)]
        exact ih.edge i h1
      · obtain rfl : i = d := by omega
        rw [snoc_old (by omega), ih.last, ← hl, snoc_new]
        exact (h.edge y hb.2.1 hb.1).1
theorem Way.to {g : List (List Nat)} {a b d : Nat} {P : List Nat} (h : Way g a b d P) : ∀ i, i ≤ d → Wz g i a (P.getD i 0)
  | 0, _ => h.head
  | i + 1, hi => ⟨P.getD i 0, h.to i (by omega), h.edge i (by omega)⟩
theorem Wz.lt {g : List (List Nat)} (hg : Ok g) {a : Nat} (ha : a < g.length) : ∀ {m z : Nat}, Wz g m a z → z < g.length
  | 0, z, h => by have : z = a := h; omega
  | m + 1, z, ⟨y, _, hz⟩ => hg y z hz
/-- Path's answer between nodes. -/
theorem path_way {g : List (List Nat)} (hg : Ok g) {a b : Nat} (ha : a < g.length) :
    (pathM g a b = [] ∧ ∀ m, ¬ Wz g m a b) ∨ ∃ d, d ≤ g.length ∧ Way g a b d (pathM g a b) ∧ ∀ m, Wz g m a b → d ≤ m := by
  rcases path_spec hg (b := b) ha with h | ⟨line, bf, k, d, hq, hb, hd, e⟩
  · exact .inl h
  · refine .inr ⟨d, hd, by rw [e]; exact hq.way d b hb, fun m hm => hq.short m b hm d b hb (Nat.le_refl _)⟩
theorem Wk.snoc {g : List (List Nat)} {s : Nat → Bool} : ∀ {k a b c : Nat}, Wk g s k a b → c ∈ nb g b → s c = false → Wk g s (k + 1) a c
  | 0, a, b, c, h, hc, hs => by
    obtain ⟨h1, rfl⟩ := h
    exact ⟨h1, c, hc, hs, rfl⟩
  | k + 1, a, b, c, h, hc, hs => by
    obtain ⟨h1, x, hx, hw⟩ := h
    exact ⟨h1, x, hx, hw.snoc hc hs⟩
theorem wz_pth {g : List (List Nat)} {a : Nat} : ∀ {m z : Nat}, Wz g m a z → Pth g noS a z
  | 0, z, h => by have : z = a := h; rw [this]; exact Pth.refl rfl
  | m + 1, z, ⟨y, hy, hz⟩ => by
    obtain ⟨k, hk⟩ := wz_pth hy
    exact ⟨k + 1, hk.snoc hz rfl⟩
theorem wk_wz {g : List (List Nat)} {s : Nat → Bool} {a : Nat} : ∀ {k m x z : Nat}, Wz g m a x → Wk g s k x z → Wz g (m + k) a z
  | 0, m, x, z, h, hw => by obtain ⟨_, rfl⟩ := hw; exact h
  | k + 1, m, x, z, h, hw => by
    obtain ⟨_, y, hy, hw⟩ := hw
    have := wk_wz (m := m + 1) ⟨x, h, hy⟩ hw
    rw [show m + 1 + k = m + (k + 1) by omega] at this
    exact this
theorem pth_wz {g : List (List Nat)} {s : Nat → Bool} {a z : Nat} (h : Pth g s a z) : ∃ m, Wz g m a z := by
  obtain ⟨k, hk⟩ := h
  exact ⟨0 + k, wk_wz (m := 0) rfl hk⟩
end Go.Proofs.YtngdnjlohmkbiabDoor

namespace Go.Proofs.YtngdnjlohmkbiabDoor

/-- g with an edge from x to y more. -/
def moreG (L : Nat → List Nat) (N x y : Nat) : List (List Nat) := (List.range N).map fun i => if i = x then L x ++ [y] else L i
theorem nb_more {L : Nat → List Nat} {N x y a : Nat} (hx : x < N) : ∀ b, b ∈ nb (moreG L N x y) a ↔ b ∈ nb ((List.range N).map L) a ∨ (a = x ∧ b = y) := by
  intro b
  by_cases ha : a < N
  · unfold moreG
    rw [nb_map _ _ _ ha, nb_map _ _ _ ha]
    by_cases e : a = x
    · subst e; simp
    · simp [e]
  · rw [nb_out (by simp [moreG]; omega), nb_out (by simp; omega)]
    simp
    omega
theorem pth_more {L : Nat → List Nat} {N x y : Nat} (hx : x < N) (i m : Nat) : Pth (moreG L N x y) noS i m ↔ Pth ((List.range N).map L) noS i m ∨ (Pth ((List.range N).map L) noS i x ∧ Pth ((List.range N).map L) noS y m) := by
  constructor
  · intro p
    refine p.carry (C := fun m => Pth ((List.range N).map L) noS i m ∨ (Pth ((List.range N).map L) noS i x ∧ Pth ((List.range N).map L) noS y m)) ?_ (.inl (Pth.refl rfl))
    intro u hu _ v hv _
    rcases (nb_more hx v).1 hv with h | ⟨rfl, rfl⟩
    · rcases hu with h1 | ⟨h1, h2⟩
      · exact .inl (h1.snoc h rfl)
      · exact .inr ⟨h1, h2.snoc h rfl⟩
    · rcases hu with h1 | ⟨h1, _⟩
      · exact .inr ⟨h1, Pth.refl rfl⟩
      · exact .inr ⟨h1, Pth.refl rfl⟩
  · have up : ∀ {a b}, Pth ((List.range N).map L) noS a b → Pth (moreG L N x y) noS a b := by
      intro a b p
      refine p.carry (C := fun m => Pth (moreG L N x y) noS a m) ?_ (Pth.refl rfl)
      intro u hu _ v hv _
      exact hu.snoc ((nb_more hx v).2 (.inl hv)) rfl
    rintro (h | ⟨h1, h2⟩)
    · exact up h
    · exact ((up h1).snoc ((nb_more hx y).2 (.inr ⟨rfl, rfl⟩)) rfl).trans (up h2)
theorem more_sm {L : Nat → List Nat} {N x y : Nat} (hs : Sm ((List.range N).map L)) (h5 : ∀ i, i < N → (L i).length ≤ 900) (hx : x < N) (hy : y < N) : Sm (moreG L N x y) := by
  have e1 : (moreG L N x y).length = N := by simp [moreG]
  have e2 : ((List.range N).map L).length = N := by simp
  refine ⟨fun a b hb => ?_, by rw [e1, ← e2]; exact hs.len, fun j => ?_⟩
  · rw [e1]
    rcases (nb_more hx b).1 hb with h | ⟨rfl, rfl⟩
    · have := hs.ok a b h
      rwa [e2] at this
    · exact hy
  · by_cases hj : j < N
    · unfold moreG
      rw [nb_map _ _ _ hj]
      have := h5 j hj
      have := h5 x hx
      by_cases e : j = x
      · rw [if_pos e, List.length_append]; simp; omega
      · rw [if_neg e]; omega
    · rw [nb_out (by rw [e1]; omega)]; simp
end Go.Proofs.YtngdnjlohmkbiabDoor

namespace Go.Proofs.YtngdnjlohmkbiabDoor
open Go.RowKit

theorem rch_iff {g : List (List Nat)} (hg : Ok g) {i : Nat} (hi : i < g.length) (m : Nat) : rch g [(i : Int)] m = true ↔ Pth g noS i m := by
  have e : rch g [(i : Int)] m = rB g i m := by
    show (if 0 ≤ (i : Int) ∧ (i : Int) < (g.length : Int) then (vis g (g.length + 1) (i : Int).toNat (none_, [])).1 else none_) m = _
    rw [if_pos (by omega)]
    rfl
  rw [e, rB_iff hg m hi]
theorem rch_more {L : Nat → List Nat} {N x y i : Nat} (hs : Sm ((List.range N).map L)) (hs2 : Sm (moreG L N x y)) (hx : x < N) (hy : y < N) (hi : i < N) :
    rch (moreG L N x y) [(i : Int)] = if rch ((List.range N).map L) [(i : Int)] x = true then both or (rch ((List.range N).map L) [(i : Int)]) (rch ((List.range N).map L) [(y : Int)]) else rch ((List.range N).map L) [(i : Int)] := by
  have e1 : (moreG L N x y).length = N := by simp [moreG]
  have e2 : ((List.range N).map L).length = N := by simp
  funext m
  rw [Bool.eq_iff_iff, rch_iff hs2.ok (by omega), pth_more hx]
  by_cases h : rch ((List.range N).map L) [(i : Int)] x = true
  · rw [if_pos h]
    show _ ↔ (rch ((List.range N).map L) [(i : Int)] m || rch ((List.range N).map L) [(y : Int)] m) = true
    rw [Bool.or_eq_true, rch_iff hs.ok (by omega), rch_iff hs.ok (by omega)]
    rw [rch_iff hs.ok (by omega)] at h
    simp [h]
  · rw [if_neg h, rch_iff hs.ok (by omega)]
    rw [rch_iff hs.ok (by omega)] at h
    simp [h]
end Go.Proofs.YtngdnjlohmkbiabDoor

namespace Go.Proofs.YtngdnjlohmkbiabDoor
open Go.RowKit

def linL (n i : Nat) : List Nat := if i + 1 < n then [i + 1] else []
def lin (n : Nat) : List (List Nat) := (List.range n).map (linL n)
theorem lin_len (n : Nat) : (lin n).length = n := by simp [lin]
theorem nb_lin {n i : Nat} (h : i < n) : nb (lin n) i = linL n i := by
  unfold nb lin
  rw [List.getD_eq_getElem?_getD, List.getElem?_map, List.getElem?_range h]
  rfl
theorem mem_lin {n a b : Nat} : b ∈ nb (lin n) a ↔ b = a + 1 ∧ b < n := by
  by_cases ha : a < n
  · rw [nb_lin ha]
    unfold linL
    by_cases h : a + 1 < n
    · rw [if_pos h, List.mem_singleton]
      omega
    · rw [if_neg h]
      constructor
      · intro h; cases h
      · omega
  · rw [nb_out (by rw [lin_len]; omega)]
    constructor
    · intro h; cases h
    · omega
theorem lin_ok (n : Nat) : Ok (lin n) := fun a b hb => by
  rw [lin_len]; exact (mem_lin.1 hb).2
theorem lin_short (n j : Nat) : (nb (lin n) j).length ≤ 1 := by
  by_cases hj : j < n
  · rw [nb_lin hj]
    unfold linL
    by_cases h : j + 1 < n
    · rw [if_pos h]; simp
    · rw [if_neg h]; simp
  · rw [nb_out (by rw [lin_len]; omega)]; simp
theorem lin_sm {n : Nat} (h2 : n ≤ 600) : Sm (lin n) := ⟨lin_ok n, by rw [lin_len]; omega, fun j => Nat.le_trans (lin_short n j) (by decide)⟩
theorem lin_wz {n a : Nat} (ha : a < n) : ∀ (m z : Nat), Wz (lin n) m a z ↔ z = a + m ∧ z < n
  | 0, z => by
    show z = a ↔ _
    omega
  | m + 1, z => by
    constructor
    · rintro ⟨y, hy, hz⟩
      have e := (lin_wz ha m y).1 hy
      have e2 := mem_lin.1 hz
      omega
    · rintro ⟨e, h⟩
      exact ⟨a + m, (lin_wz ha m _).2 ⟨rfl, by omega⟩, mem_lin.2 ⟨by omega, h⟩⟩
theorem lin_path {n : Nat} (h : 1 ≤ n) : (pathM (lin n) 0 (n - 1)).length = n := by
  rcases path_way (lin_ok n) (a := 0) (b := n - 1) (by rw [lin_len]; omega) with ⟨_, hno⟩ | ⟨d, hd, hway, hmin⟩
  · exact absurd ((lin_wz (a := 0) (by omega) (n - 1) (n - 1)).2 (by omega)) (hno _)
  · have h1 := hway.to d (Nat.le_refl _)
    rw [hway.last] at h1
    have h2 := (lin_wz (a := 0) (by omega) d (n - 1)).1 h1
    rw [hway.len]
    omega
theorem lin_back {n : Nat} (h : 1 ≤ n) : decide (pathM (lin n) (n - 1) 0 = []) = decide (1 < n) := by
  rw [decide_eq_decide]
  rcases path_way (lin_ok n) (a := n - 1) (b := 0) (by rw [lin_len]; omega) with ⟨h1, hno⟩ | ⟨d, hd, hway, hmin⟩
  · refine ⟨fun _ => ?_, fun _ => h1⟩
    apply Classical.byContradiction
    intro hn
    exact hno 0 ((lin_wz (a := n - 1) (by omega) 0 0).2 (by omega))
  · have h1 := hway.to d (Nat.le_refl _)
    rw [hway.last] at h1
    have h2 := (lin_wz (a := n - 1) (by omega) d 0).1 h1
    have h3 := hway.len
    constructor
    · intro e
      rw [e] at h3
      simp at h3
    · intro h4; omega
theorem lin_reach {n : Nat} (h : 1 ≤ n) (x : Nat) : rch (lin n) [((0 : Nat) : Int)] x = decide (x < n) := by
  rw [Bool.eq_iff_iff, decide_eq_true_iff, rch_iff (lin_ok n) (by rw [lin_len]; omega) x]
  constructor
  · intro p
    obtain ⟨m, hm⟩ := pth_wz p
    exact ((lin_wz (by omega) m x).1 hm).2
  · intro hx
    exact wz_pth ((lin_wz (a := 0) (by omega) x x).2 (by omega))
theorem lin_vis (n : Nat) : ∀ (d k f : Nat) (s : Nat → Bool) (l : List Nat), k + (d + 1) = n → d + 1 ≤ f → (∀ i, k ≤ i → s i = false) → (vis (lin n) f k (s, l)).2 = l ++ (List.range' k (d + 1)).reverse
  | 0, k, f, s, l, hk, hf, hs => by
    obtain ⟨f, rfl⟩ : ∃ q, f = q + 1 := ⟨f - 1, by omega⟩
    rw [vis_out (lin n) f k (s, l) (hs k (Nat.le_refl _)), nb_lin (by omega)]
    unfold linL
    rw [if_neg (by omega)]
    rfl
  | d + 1, k, f, s, l, hk, hf, hs => by
    obtain ⟨f, rfl⟩ : ∃ q, f = q + 1 := ⟨f - 1, by omega⟩
    rw [vis_out (lin n) f k (s, l) (hs k (Nat.le_refl _)), nb_lin (by omega)]
    unfold linL
    rw [if_pos (by omega)]
    show (vis (lin n) f (k + 1) (ins s k, l)).2 ++ [k] = _
    rw [lin_vis n d (k + 1) f (ins s k) l (by omega) (by omega) (fun i hi => by
      show (s i || (i == k)) = false
      rw [hs i (by omega)]
      simp
      omega)]
    rw [List.append_assoc, List.range'_succ (s := k) (n := d + 1), List.reverse_cons]
theorem lin_ord {n : Nat} (h : 1 ≤ n) : ordG (lin n) 0 = List.range n := by
  unfold ordG
  rw [lin_len, lin_vis n (n - 1) 0 (n + 1) none_ [] (by omega) (by omega) (fun _ _ => rfl), show n - 1 + 1 = n by omega, List.nil_append, List.reverse_reverse, List.range_eq_range']
end Go.Proofs.YtngdnjlohmkbiabDoor

namespace Go.Proofs.YtngdnjlohmkbiabDoor
open Go.RowKit

/-- A new list is put into its place. -/
theorem OwnL.lit {w : World} {base p n : Nat} {vs : Nat → Value} {L : Nat → List Nat} (h : OwnL w base p n vs L) {k : Nat} (hk : k < n) (l : List Nat) (xs : Array Value) (hx : xs = (ints l).toArray) (hl : l.length ≤ maxLen) (hb : base ≤ w.heap.size) :
    OwnL ((w.alloc (.cells xs 3)).setCell ⟨p, k, none⟩ (.slice (some ⟨w.heap.size, 0, none⟩) l.length l.length)) base p n (fun i => if i = k then .slice (some ⟨w.heap.size, 0, none⟩) l.length l.length else vs i) (fun i => if i = k then l else L i) := by
  have ka : Keeps [] w (w.alloc (.cells xs 3)) := Keeps.alloc _ _ _
  have h2 := h.quiet ka
  have hnew : (w.alloc (.cells xs 3)).ownsRow base 3 1 (.slice (some ⟨w.heap.size, 0, none⟩) l.length l.length) l.length (ints l) := by
    refine ⟨by simp [ints], .inr ⟨w.heap.size, l.length, xs, rfl, hb, heap_alloc_new w _, Nat.le_refl _, hl, by rw [hx]; simp [ints], ?_⟩⟩
    rw [hx, List.take_of_length_le (by simp [ints])]
  have ks : Keeps [p] (w.alloc (.cells xs 3)) ((w.alloc (.cells xs 3)).setCell ⟨p, k, none⟩ (.slice (some ⟨w.heap.size, 0, none⟩) l.length l.length)) := Keeps.setCell _ _ _ _ (by simp)
  have hp := h.outer.lt.2
  refine ⟨h2.outer.put k _, fun i hi => ?_, fun i j b hi hj hbi hbj => ?_⟩
  · by_cases e : i = k
    · subst e
      simp only [if_true]
      exact ownsRow_keeps hnew ks (fun b hb' => by simp [Value.ownBlock] at hb'; simp; omega)
    · simp only [e, if_false]
      exact ownsRow_keeps (h2.inner i hi) ks (fun b hb' hx' => h2.ne hi (by simp at hx'; rw [hb', hx']))
  · by_cases e1 : i = k
    · by_cases e2 : j = k
      · omega
      · simp only [e1, if_true] at hbi
        simp only [e2, if_false] at hbj
        have := ((h.inner j hj).lt b hbj).2
        simp [Value.ownBlock] at hbi
        omega
    · by_cases e2 : j = k
      · simp only [e2, if_true] at hbj
        simp only [e1, if_false] at hbi
        have := ((h.inner i hi).lt b hbi).2
        simp [Value.ownBlock] at hbj
        omega
      · simp only [e1, if_false] at hbi
        simp only [e2, if_false] at hbj
        exact h.apart i j b hi hj hbi hbj

end Go.Proofs.YtngdnjlohmkbiabDoor

namespace Go.Proofs.YtngdnjlohmkbiabDoor
open Go.RowKit

set_option maxHeartbeats 1000000 in
theorem gmay_early (N : Int) (a : Option Addr) (len cap : Nat) (w : World) (h : N < 0 ∨ 600 < N ∨ (len : Int) ≠ N) :
    Calls Tryd.prog 10 #[.agg #[.int .i64 N, .slice a len cap]] w fun e w' => e = .returned (.bool false) ∧ Keeps [] w w' := by
  have hk1 : Keeps [] w (w.alloc (Obj.cells #[.int .i64 N, .slice a len cap] 25)) := Keeps.alloc _ _ _
  by_cases h1 : N < 0
  · clear h
    have hd : decide (N < 0) = true := decide_eq_true h1
    go_enter Tryd.func10, Tryd.ntmps10
    go_wp2
    go_ret
    exact ⟨rfl, hk1⟩
  · have hd : decide (N < 0) = false := decide_eq_false h1
    by_cases h2 : 600 < N
    · clear h
      have hd2 : decide ((600 : Int) < N) = true := decide_eq_true h2
      go_enter Tryd.func10, Tryd.ntmps10
      go_wp2
      go_ret
      exact ⟨rfl, hk1⟩
    · have hd2 : decide ((600 : Int) < N) = false := decide_eq_false h2
      have h3 : (len : Int) ≠ N := by rcases h with h | h | h <;> first | exact absurd h h1 | exact absurd h h2 | exact h
      have hd3 : ((len : Int) != N) = true := by rw [bne_iff_ne]; exact h3
      clear h
      go_enter Tryd.func10, Tryd.ntmps10
      go_wp2
      go_ret
      exact ⟨rfl, hk1⟩

/-- No graph. -/
def NoMay (w : World) (N : Int) (a : Option Addr) (len cap : Nat) : Prop := ∀ w9, Keeps [] w w9 → Calls Tryd.prog 10 #[.agg #[.int .i64 N, .slice a len cap]] w9 fun e w' => e = .returned (.bool false) ∧ Keeps [] w9 w'
theorem NoMay.quiet {w wz : World} {N : Int} {a : Option Addr} {len cap : Nat} (h : NoMay w N a len cap) (k : Keeps [] w wz) : NoMay wz N a len cap := fun w9 k9 => h w9 (k.quiet k9)
theorem noMay_early {w : World} {N : Int} {a : Option Addr} {len cap : Nat} (h : N < 0 ∨ 600 < N ∨ (len : Int) ≠ N) : NoMay w N a len cap := fun w9 _ => gmay_early N a len cap w9 h
theorem noMay_bad {w : World} {N : Int} {a : Option Addr} {n cap B : Nat} {xs : List (List Int)} (hL : LsAt w B a xs) (hnn : xs.length = n) (h0 : 0 ≤ N) (h1 : N ≤ 600) (h2 : (n : Int) = N) (hi : ∀ j, (xs.getD j []).length ≤ 1000000) (hb : ¬ MayP N xs) : NoMay w N a n cap := by
  intro w9 k9
  refine (may_loop N a n cap B xs w9 (hL.quiet k9) hnn h0 h1 h2 hi).mono ?_
  rintro e w' ⟨h | h, k⟩
  · exact absurd h.2 hb
  · exact ⟨h.1, k⟩

set_option maxHeartbeats 1000000 in
theorem parts_nomay (N : Int) (a : Option Addr) (len cap : Nat) (w : World) (h : NoMay w N a len cap) :
    Calls Tryd.prog 7 #[.agg #[.int .i64 N, .slice a len cap]] w fun e w' => e = .returned (.slice none 0 0) ∧ Keeps [] w w' := by
  have hk1 : Keeps [] w (w.alloc (Obj.cells #[.int .i64 N, .slice a len cap] 25)) := Keeps.alloc _ _ _
  have HM := hid (h _ hk1)
  clear h
  go_enter Tryd.func7, Tryd.ntmps7
  go_wp2_with fail
  refine HM.out.mono ?_
  rintro e w2 ⟨rfl, k2⟩
  go_wp2
  go_ret
  exact ⟨rfl, hk1.quiet k2⟩
set_option maxHeartbeats 1000000 in
theorem order_nomay (N : Int) (a : Option Addr) (len cap : Nat) (t : Int) (w : World) (h : NoMay w N a len cap) :
    Calls Tryd.prog 11 #[.agg #[.int .i64 N, .slice a len cap], .int .i64 t] w fun e w' => e = .returned (.slice none 0 0) ∧ Keeps [] w w' := by
  have hk1 : Keeps [] w (w.alloc (Obj.cells #[.int .i64 N, .slice a len cap] 25)) := Keeps.alloc _ _ _
  have HM := hid (h _ hk1)
  clear h
  go_enter Tryd.func11, Tryd.ntmps11
  go_wp2_with fail
  refine HM.out.mono ?_
  rintro e w2 ⟨rfl, k2⟩
  go_wp2
  go_ret
  exact ⟨rfl, hk1.quiet k2⟩
set_option maxHeartbeats 1000000 in
theorem path_nomay (N : Int) (a : Option Addr) (len cap : Nat) (s t : Int) (w : World) (h : NoMay w N a len cap) :
    Calls Tryd.prog 6 #[.agg #[.int .i64 N, .slice a len cap], .int .i64 s, .int .i64 t] w fun e w' => e = .returned (.slice none 0 0) ∧ Keeps [] w w' := by
  have hk1 : Keeps [] w (w.alloc (Obj.cells #[.int .i64 N, .slice a len cap] 25)) := Keeps.alloc _ _ _
  have HM := hid (h _ hk1)
  clear h
  go_enter Tryd.func6, Tryd.ntmps6
  go_wp2_with fail
  refine HM.out.mono ?_
  rintro e w2 ⟨rfl, k2⟩
  go_wp2
  go_ret
  exact ⟨rfl, hk1.quiet k2⟩
theorem two_raw (w : World) (N : Int) (a : Option Addr) (len cap : Nat) : Keeps [] w ((w.alloc (Obj.cells #[.int .i64 N, .slice a len cap] 25)).alloc (Obj.cells (row none_) 50)) ∧ SetAt ((w.alloc (Obj.cells #[.int .i64 N, .slice a len cap] 25)).alloc (Obj.cells (row none_) 50)) (w.heap.size + 1) none_ := by
  refine ⟨(Keeps.alloc [] _ _).quiet (Keeps.alloc [] _ _), ?_⟩
  have := setAt_new (w.alloc (Obj.cells #[.int .i64 N, .slice a len cap] 25)) none_
  rw [World.size_alloc] at this
  exact this
set_option maxHeartbeats 1000000 in
theorem loops_nomay (N : Int) (a : Option Addr) (len cap : Nat) (w : World) (h : NoMay w N a len cap) :
    Calls Tryd.prog 8 #[.agg #[.int .i64 N, .slice a len cap]] w fun e w' => ∃ b, e = .returned (.pointer (some ⟨b, 0, none⟩)) ∧ SetAt w' b none_ ∧ Keeps [] w w' := by
  have hzero := zero_set
  have H2 := hid (two_raw w N a len cap)
  have HM := hid (h _ H2.out.1)
  clear h
  go_enter Tryd.func8, Tryd.ntmps8
  go_wp2_with fail
  generalize (w.alloc (Obj.cells #[.int .i64 N, .slice a len cap] 25)).alloc (Obj.cells (row none_) 50) = w1 at H2 HM ⊢
  generalize row none_ = R
  refine HM.out.mono ?_
  rintro e w2 ⟨rfl, k2⟩
  go_wp2
  go_ret
  exact ⟨_, rfl, H2.out.2.kept k2 (by simp), H2.out.1.quiet k2⟩
set_option maxHeartbeats 1000000 in
theorem reach_nomay (N : Int) (a : Option Addr) (len cap : Nat) (v : Value) (w : World) (h : NoMay w N a len cap) :
    Calls Tryd.prog 12 #[.agg #[.int .i64 N, .slice a len cap], v] w fun e w' => ∃ b, e = .returned (.pointer (some ⟨b, 0, none⟩)) ∧ SetAt w' b none_ ∧ Keeps [] w w' := by
  have hzero := zero_set
  have H2 := hid (two_raw w N a len cap)
  have HM := hid (h _ H2.out.1)
  clear h
  go_enter Tryd.func12, Tryd.ntmps12
  go_wp2_with fail
  generalize (w.alloc (Obj.cells #[.int .i64 N, .slice a len cap] 25)).alloc (Obj.cells (row none_) 50) = w1 at H2 HM ⊢
  generalize row none_ = R
  refine HM.out.mono ?_
  rintro e w2 ⟨rfl, k2⟩
  go_wp2
  go_ret
  exact ⟨_, rfl, H2.out.2.kept k2 (by simp), H2.out.1.quiet k2⟩
end Go.Proofs.YtngdnjlohmkbiabDoor

namespace Go.Proofs.YtngdnjlohmkbiabDoor
open Go.RowKit

set_option maxHeartbeats 2000000 in
theorem path_out1 (g : List (List Nat)) (hs : Sm g) (a : Option Addr) (cap B : Nat) (fr t : Int) (w : World) (hG : GAt w B a g) (hn : ¬ (0 ≤ fr ∧ fr < (g.length : Int))) :
    Calls Tryd.prog 6 #[.agg #[.int .i64 (g.length : Int), .slice a g.length cap], .int .i64 fr, .int .i64 t] w fun e w' => e = .returned (.slice none 0 0) ∧ Keeps [] w w' := by
  have hk1 : Keeps [] w (w.alloc (Obj.cells #[.int .i64 (g.length : Int), .slice a g.length cap] 25)) := Keeps.alloc _ _ _
  have HB1 := hid (BoxAt.new w (g.length : Int) a g.length cap)
  have HG1 := hid (hG.quiet hk1)
  have HC : Box (∀ w, GAt w B a g → Calls Tryd.prog 10 #[.agg #[.int .i64 (g.length : Int), .slice a g.length cap]] w fun e w' => e = .returned (.bool true) ∧ Keeps [] w w') := hid (fun w => gmay_yes g hs a cap B w)
  have H1 := hid (fun w1 => ghas_no (g.length : Int) fr a g.length cap w1 hn)
  clear hG hs hn
  go_enter Tryd.func6, Tryd.ntmps6
  go_wp2_with fail
  generalize w.alloc (Obj.cells #[.int .i64 (g.length : Int), .slice a g.length cap] 25) = w1 at hk1 HB1 HG1 ⊢
  refine (HC.out w1 HG1.out).mono ?_
  rintro e w2 ⟨rfl, hk2⟩
  have HB2 := HB1.out.kept hk2 (by simp)
  have hc0 := HB2.c0
  have hc1 := HB2.c1
  clear HB2 HB1 HG1 HC
  go_wp2_with fail
  refine (H1.out w2).mono ?_
  rintro e w3 ⟨rfl, hk3⟩
  go_wp2
  go_ret
  exact ⟨rfl, (hk1.quiet hk2).quiet hk3⟩

set_option maxHeartbeats 2000000 in
theorem path_out2 (g : List (List Nat)) (hs : Sm g) (a : Option Addr) (cap B : Nat) (fr t : Int) (w : World) (hG : GAt w B a g) (hf : 0 ≤ fr ∧ fr < (g.length : Int)) (hn : ¬ (0 ≤ t ∧ t < (g.length : Int))) :
    Calls Tryd.prog 6 #[.agg #[.int .i64 (g.length : Int), .slice a g.length cap], .int .i64 fr, .int .i64 t] w fun e w' => e = .returned (.slice none 0 0) ∧ Keeps [] w w' := by
  have hk1 : Keeps [] w (w.alloc (Obj.cells #[.int .i64 (g.length : Int), .slice a g.length cap] 25)) := Keeps.alloc _ _ _
  have HB1 := hid (BoxAt.new w (g.length : Int) a g.length cap)
  have HG1 := hid (hG.quiet hk1)
  have HC : Box (∀ w, GAt w B a g → Calls Tryd.prog 10 #[.agg #[.int .i64 (g.length : Int), .slice a g.length cap]] w fun e w' => e = .returned (.bool true) ∧ Keeps [] w w') := hid (fun w => gmay_yes g hs a cap B w)
  have H1 := hid (fun w1 => ghas_yes (g.length : Int) fr a g.length cap w1 hf.1 hf.2)
  have H2 := hid (fun w1 => ghas_no (g.length : Int) t a g.length cap w1 hn)
  clear hG hs hn hf
  go_enter Tryd.func6, Tryd.ntmps6
  go_wp2_with fail
  generalize w.alloc (Obj.cells #[.int .i64 (g.length : Int), .slice a g.length cap] 25) = w1 at hk1 HB1 HG1 ⊢
  refine (HC.out w1 HG1.out).mono ?_
  rintro e w2 ⟨rfl, hk2⟩
  have HB2 := hid (HB1.out.kept hk2 (by simp))
  have hc0 := HB2.out.c0
  have hc1 := HB2.out.c1
  clear HB1 HG1 HC
  go_wp2_with fail
  refine (H1.out w2).mono ?_
  rintro e w3 ⟨rfl, hk3⟩
  have HB3 := HB2.out.kept hk3 (by simp)
  clear hc0 hc1 HB2
  have hc0 := HB3.c0
  have hc1 := HB3.c1
  clear HB3
  go_wp2_with fail
  refine (H2.out w3).mono ?_
  rintro e w4 ⟨rfl, hk4⟩
  go_wp2
  go_ret
  exact ⟨rfl, ((hk1.quiet hk2).quiet hk3).quiet hk4⟩

/-- Path from a node to any number: what it leaves. -/
theorem path_quiet (g : List (List Nat)) (hs : Sm g) (a : Option Addr) (cap B fr : Nat) (t : Int) (w : World) (hG : GAt w B a g) (hT : TabAt w) (hf : fr < g.length) :
    Calls Tryd.prog 6 #[.agg #[.int .i64 (g.length : Int), .slice a g.length cap], .int .i64 (fr : Int), .int .i64 t] w fun e w' => (∃ v, e = .returned v) ∧ Keeps [] w w' := by
  by_cases h : 0 ≤ t ∧ t < (g.length : Int)
  · obtain ⟨m, rfl⟩ := Int.eq_ofNat_of_zero_le h.1
    refine (path_in g hs a cap B fr m w hG hT hf (by omega)).mono ?_
    rintro e w' ⟨v, rfl, _, k⟩
    exact ⟨⟨v, rfl⟩, k⟩
  · refine (path_out2 g hs a cap B fr t w hG (by omega) h).mono ?_
    rintro e w' ⟨rfl, k⟩
    exact ⟨⟨_, rfl⟩, k⟩
theorem order_quiet (g : List (List Nat)) (hs : Sm g) (a : Option Addr) (cap B : Nat) (t : Int) (w : World) (hG : GAt w B a g) (hB : B ≤ w.heap.size) :
    Calls Tryd.prog 11 #[.agg #[.int .i64 (g.length : Int), .slice a g.length cap], .int .i64 t] w fun e w' => (∃ v, e = .returned v) ∧ Keeps [] w w' := by
  by_cases h : 0 ≤ t ∧ t < (g.length : Int)
  · obtain ⟨m, rfl⟩ := Int.eq_ofNat_of_zero_le h.1
    refine (order_in g hs a cap B m w hG hB (by omega)).mono ?_
    rintro e w' ⟨v, rfl, _, k⟩
    exact ⟨⟨v, rfl⟩, k⟩
  · refine (order_out g hs a cap B t w hG h).mono ?_
    rintro e w' ⟨rfl, k⟩
    exact ⟨⟨_, rfl⟩, k⟩
end Go.Proofs.YtngdnjlohmkbiabDoor

namespace Go.Proofs.YtngdnjlohmkbiabDoor
open Go.RowKit

def linK (i j : Nat) : List Nat := if j < i then [j + 1] else []
theorem linK_all {n i : Nat} (h : ¬ i + 1 < n) (h2 : i + 1 ≤ n ∨ i = 0) : (List.range n).map (linK i) = lin n := by
  unfold lin
  refine List.map_congr_left fun j hj => ?_
  have := List.mem_range.1 hj
  unfold linK linL
  by_cases h7 : j < i
  · rw [if_pos h7, if_pos (by omega)]
  · rw [if_neg h7, if_neg (by omega)]
theorem linK_next (i j : Nat) : (if j = i then [i + 1] else linK i j) = linK (i + 1) j := by
  unfold linK
  by_cases e : j = i
  · subst e; simp
  · have : j < i + 1 ↔ j < i := by omega
    simp only [e, if_false, this]

set_option maxRecDepth 20000 in
set_option maxHeartbeats 8000000 in
theorem great_law (n : Int) (w : World) (hT : TabAt w) :
    Calls Tryd.prog 4 #[.int .i64 n] w fun e w' => e = .returned (.bool true) ∧ Keeps [] w w' := by
  have HBG := hid (begun5_any w hT)
  have HTT := hid (fun wz (k : Keeps [] w wz) => tab_of hT k)
  clear hT
  go_enter Tryd.func4, Tryd.ntmps4
  go_wp2_with fail
  refine HBG.out.mono ?_
  rintro e w1 ⟨rfl, k1⟩
  clear HBG
  by_cases h1 : n < 0
  · go_wp2
    go_ret
    exact ⟨rfl, k1⟩
  by_cases h2 : 700 < n
  · go_wp2
    go_ret
    exact ⟨rfl, k1⟩
  obtain ⟨N, rfl⟩ : ∃ N : Nat, n = (N : Int) := Int.eq_ofNat_of_zero_le (by omega)
  have hN2 : N ≤ 700 := by omega
  have hww : w1.heap.size ≤ w1.heap.size := Nat.le_refl _
  go_wp2_with (at_make; go_must (refine wpList_make_full _ rfl _ _ 23 rfl w1.heap.size 26 Tryd.t26 (.slice none 0 0) 1 under_lists info_ints zero_ints size_ints .i64 .i64 _ _ N rfl rfl rfl rfl (by rw [bytes_ints]; omega) (by unfold maxLen; omega) hww ?_; intro w2 hown2 hgrow2))
  have k2 : Keeps [] w1 w2 := Keeps.grown [] hgrow2 (by simp)
  have R2 := RowAt.made hown2 rfl
  have kA : Keeps [] w2 (w2.alloc (.cells #[.int .i64 (N : Int), .slice (some ⟨w1.heap.size, 0, none⟩) N N] 25)) := Keeps.alloc _ _ _
  have T3 := hid (TwoAt.new w2 (.int .i64 (N : Int)) (.slice (some ⟨w1.heap.size, 0, none⟩) N N))
  have O3 : Box (OwnL (w2.alloc (.cells #[.int .i64 (N : Int), .slice (some ⟨w1.heap.size, 0, none⟩) N N] 25)) w1.heap.size w1.heap.size N (fun _ => nilS) (linK 0)) := hid ((OwnL.nil (R2.kept kA (by simp))).congr (fun i _ => ⟨rfl, by simp [linK]⟩))
  have k13 := hid (k2.quiet kA)
  clear hown2 hgrow2 R2 kA k2 hww h1 h2
  obtain ⟨p, hp⟩ : ∃ p, w1.heap.size = p := ⟨_, rfl⟩
  rw [hp] at T3 O3 k13 ⊢
  have HP := hid hp
  clear hp
  generalize w2.alloc (.cells #[.int .i64 (N : Int), .slice (some ⟨p, 0, none⟩) N N] 25) = w3 at T3 O3 k13 ⊢
  generalize w2.heap.size = bx at T3 ⊢
  go_loopw [5] (fun iv wr => ∃ (i : Nat) (vs : Nat → Value), iv = .int .i64 (i : Int) ∧ (i + 1 ≤ N ∨ i = 0) ∧ Box (OwnL wr p p N vs (linK i)) ∧ Box (TwoAt wr bx (.int .i64 (N : Int)) (.slice (some ⟨p, 0, none⟩) N N)) ∧ Box (Keeps [] w1 wr)) (fun iv _ => N - (intOf iv).toNat)
  case atStart => exact ⟨0, _, rfl, .inr rfl, O3, T3, k13⟩
  case round =>
    clear O3 T3 k13
    obtain ⟨i, vs, rfl, hi, HO, HT, HK⟩ := hrel
    by_cases hlt : i + 1 < N
    · have hlt' : (i : Int) + 1 < (N : Int) := by omega
      have hi' : (i : Int) < (N : Int) := by omega
      have c1 := HT.out.c1
      have co := HO.out.cell (k := i) (by omega)
      have fo := HO.out.outer.frozen i
      have hp2 := HO.out.outer.lt.2
      have hbl := HT.out.lt
      have hne : bx ≠ p := two_ne_row HT.out HO.out.outer
      have O4 := hid (HO.out.lit (k := i) (by omega) [i + 1] #[.int .i64 ((i : Int) + 1)] (by simp [ints]) (by unfold maxLen; simp) (by omega))
      have ka : Keeps [] wr (wr.alloc (.cells #[.int .i64 ((i : Int) + 1)] 3)) := Keeps.alloc _ _ _
      have ks : Keeps [p] (wr.alloc (.cells #[.int .i64 ((i : Int) + 1)] 3)) ((wr.alloc (.cells #[.int .i64 ((i : Int) + 1)] 3)).setCell ⟨p, i, none⟩ (.slice (some ⟨wr.heap.size, 0, none⟩) 1 1)) := Keeps.setCell _ _ _ _ (by simp)
      have T4 := hid ((HT.out.kept ka (by simp)).kept ks (by simp; exact hne))
      have K4 := hid ((HK.out.quiet ka).fresh ks (fun z hz => by simp at hz; have := HP.out; omega))
      have O5 : Box (OwnL ((wr.alloc (.cells #[.int .i64 ((i : Int) + 1)] 3)).setCell ⟨p, i, none⟩ (.slice (some ⟨wr.heap.size, 0, none⟩) 1 1)) p p N (fun j => if j = i then .slice (some ⟨wr.heap.size, 0, none⟩) 1 1 else vs j) (linK (i + 1))) := hid (O4.out.congr (fun j _ => ⟨rfl, linK_next i j⟩))
      rw [World.setCell_alloc_past _ _ _ _ hp2] at O5 T4 K4
      clear O4 HO HT HK ka ks hi
      go_wp2
      generalize (wr.setCell ⟨p, i, none⟩ (.slice (some ⟨wr.heap.size, 0, none⟩) 1 1)).alloc (.cells #[.int .i64 ((i : Int) + 1)] 3) = w5 at O5 T4 K4 ⊢
      go_roundw
      case rel => exact ⟨i + 1, _, by go_num, .inl (by omega), O5, T4, K4⟩
      case measure => simp [intOf]; omega
    · have hL : Box (LG w wr bx p wr.heap.size (lin N)) := hid (by
        have hg := HO.out.graph
        rw [linK_all hlt hi] at hg
        exact ⟨by rw [lin_len]; exact HT.out, hg, HT.out.lt, Nat.le_refl _, k1.quiet HK.out, (k1.quiet HK.out).size⟩)
      have hlt' : ¬ (i : Int) + 1 < (N : Int) := by omega
      have c0 := HT.out.c0
      have c1 := HT.out.c1
      have HT2 := hid (fun wz (k : Keeps [] wr wz) => HT.out.kept k (by simp))
      have KF := hid (k1.quiet HK.out)
      have hib : i ≤ 700 := by omega
      clear HO HT HK hi
      by_cases h6 : N ≤ 600
      · have HS := hid (lin_sm h6)
        have h6' : (N : Int) ≤ 600 := by omega
        have h6d : decide ((N : Int) ≤ 600) = true := decide_eq_true h6'
        have HMY := hid (gmay_yes (lin N) HS.out (some ⟨p, 0, none⟩) (lin N).length wr.heap.size wr hL.out.gr)
        have HOR := hid (fun wz (k : Keeps [] wr wz) (h : 0 < (lin N).length) => order_in (lin N) HS.out (some ⟨p, 0, none⟩) (lin N).length wr.heap.size 0 wz (hL.out.quiet k).gr (hL.out.quiet k).le h)
        have HOO := hid (fun wz (k : Keeps [] wr wz) (h : ¬ ((0 : Int) ≤ 0 ∧ (0 : Int) < ((lin N).length : Int))) => order_out (lin N) HS.out (some ⟨p, 0, none⟩) (lin N).length wr.heap.size 0 wz (hL.out.quiet k).gr h)
        have HRC := hid (fun wz (k : Keeps [] wr wz) af fc (hz : InAt wz wz.heap.size af [((0 : Nat) : Int)]) => reach_any (lin N) HS.out (some ⟨p, 0, none⟩) (lin N).length wr.heap.size wz (hL.out.quiet k).gr (hL.out.quiet k).le af fc wz.heap.size [((0 : Nat) : Int)] hz (by simp) (Nat.le_refl _))
        have HPA := hid (fun wz (k : Keeps [] wr wz) x y (hx : x < (lin N).length) (hy : y < (lin N).length) => path_in (lin N) HS.out (some ⟨p, 0, none⟩) (lin N).length wr.heap.size x y wz (hL.out.quiet k).gr (HTT.out wz (hL.out.quiet k).keep) hx hy)
        rw [lin_len] at HMY HOR HOO HRC HPA
        clear hL HS
        go_wp2_with fail
        refine HMY.out.mono ?_
        rintro e w4 ⟨rfl, k4⟩
        have T4 := hid (HT2.out w4 k4)
        clear c0 c1 HMY
        have c0 := T4.out.c0
        have c1 := T4.out.c1
        by_cases h0 : N = 0
        · have h0' : ((N : Int) == 0) = true := by rw [h0]; rfl
          have HC := hid (HOO.out w4 k4 (by omega))
          clear HOR HOO HRC HPA h0
          go_wp2_with fail
          refine HC.out.mono ?_
          rintro e w5 ⟨rfl, k5⟩
          go_wp2
          go_ret
          exact ⟨rfl, KF.out.quiet (k4.quiet k5)⟩
        · have h0' : ((N : Int) == 0) = false := by rw [beq_eq_false_iff_ne]; omega
          have hN1 : 1 ≤ N := by omega
          have HC := hid (HOR.out w4 k4 (by omega))
          rw [lin_ord hN1, show ((0 : Nat) : Int) = (0 : Int) from rfl] at HC
          clear HOR HOO h0
          go_wp2_with fail
          refine HC.out.mono ?_
          rintro e w5 ⟨v5, rfl, h5, k5⟩
          obtain ⟨a5, c5, hv5, n5, _, _⟩ := ownsRow_nat h5
          rw [List.length_range] at hv5
          subst hv5
          have N5 := hid n5
          have k45 := hid (k4.quiet k5)
          clear h5 n5 k5 k4 HC T4 c0 c1
          go_wp2_with fail
          go_loopw [8] (fun jv wr => ∃ j : Nat, jv = .int .i64 (j : Int) ∧ j ≤ N ∧ wr = w5) (fun jv _ => N - (intOf jv).toNat)
          case atStart => exact ⟨0, rfl, by omega, rfl⟩
          case round =>
            obtain ⟨j, rfl, hj, hw5⟩ := hrel
            subst wr
            by_cases hlj : j < N
            · have hlj' : (j : Int) < (N : Int) := by omega
              obtain ⟨bp, op, rfl, cp⟩ := N5.out.at (k := j) (by rw [List.length_range]; exact hlj)
              have hg : (List.range N).getD j 0 = j := by rw [List.getD_eq_getElem?_getD, List.getElem?_range hlj]; rfl
              rw [hg] at cp
              have hjj : ((j : Int) != (j : Int)) = false := by simp
              clear hg
              go_wp2
              go_roundw
              case rel => exact ⟨j + 1, by go_num, by omega, (by first | trivial | rfl)⟩
              case measure => simp [intOf]; omega
            · obtain rfl : N = j := by omega
              have hNN : ((N : Int) == (N : Int)) = true := by simp
              have T5 := hid (HT2.out w5 k45.out)
              have c0 := T5.out.c0
              have c1 := T5.out.c1
              have ka : Keeps [] w5 (w5.alloc (Obj.cells #[.int .i64 0] 3)) := Keeps.alloc _ _ _
              have hia : InAt (w5.alloc (Obj.cells #[.int .i64 0] 3)) (w5.alloc (Obj.cells #[.int .i64 0] 3)).heap.size (some ⟨w5.heap.size, 0, none⟩) [((0 : Nat) : Int)] := InAt.up (lit_nat w5 [0] #[.int .i64 0] rfl) (by simp)
              have HR := hid (HRC.out _ (k45.out.quiet ka) (some ⟨w5.heap.size, 0, none⟩) 1 hia)
              have hre : rch (lin N) [((0 : Nat) : Int)] = fun x => decide (x < N) := funext (lin_reach hN1)
              rw [hre] at HR
              have HFT : Box (Fit (fun x => decide (x < N))) := hid (fun i hi => decide_eq_false (by omega))
              have HLE : Box ((elems (fun x => decide (x < N))).length = N) := hid (by
                rw [elems_cut _ N (by omega) (fun i hi => decide_eq_false (by omega)), List.filter_eq_self.2 (fun a ha => decide_eq_true (List.mem_range.1 ha)), List.length_range])
              have K6 := hid (k45.out.quiet ka)
              clear hia hre ka
              go_wp2_with fail
              generalize w5.alloc (Obj.cells #[.int .i64 0] 3) = w6 at HR K6 ⊢
              refine HR.out.mono ?_
              rintro e w7 ⟨b7, rfl, h7, k7, _⟩
              have HLN := hid (len_any b7 _ w7 h7 HFT.out)
              rw [HLE.out] at HLN
              have K7 := hid (K6.out.quiet k7)
              clear h7 k7 K6 HR HFT HLE c0 c1
              go_wp2_with fail
              refine HLN.out.mono ?_
              rintro e w8 ⟨rfl, hw8⟩
              subst w8
              have T7 := hid (HT2.out w7 K7.out)
              have c0 := T7.out.c0
              have c1 := T7.out.c1
              have HP1 := hid (HPA.out w7 K7.out 0 (N - 1) (by omega) (by omega))
              have HL1 := hid (lin_path hN1)
              have HB1 := hid (lin_back hN1)
              generalize pathM (lin N) 0 (N - 1) = P1 at HP1 HL1
              rw [show ((N - 1 : Nat) : Int) = (N : Int) - 1 by omega, show ((0 : Nat) : Int) = (0 : Int) from rfl] at HP1
              clear HLN
              go_wp2_with fail
              refine HP1.out.mono ?_
              rintro e w8 ⟨v8, rfl, h8, k8⟩
              obtain ⟨a8, c8, hv8, _, _, _⟩ := ownsRow_nat h8
              rw [HL1.out] at hv8
              subst hv8
              have K8 := hid (K7.out.quiet k8)
              have T8 := hid (HT2.out w8 K8.out)
              have HP2 := hid (HPA.out w8 K8.out (N - 1) 0 (by omega) (by omega))
              generalize pathM (lin N) (N - 1) 0 = P2 at HP2 HB1
              rw [show ((N - 1 : Nat) : Int) = (N : Int) - 1 by omega, show ((0 : Nat) : Int) = (0 : Int) from rfl] at HP2
              clear c0 c1 h8 k8 HP1 T7 K7
              have c0 := T8.out.c0
              have c1 := T8.out.c1
              go_wp2_with fail
              refine HP2.out.mono ?_
              rintro e w9 ⟨v9, rfl, h9, k9⟩
              obtain ⟨a9, c9, hv9, n9, _, _⟩ := ownsRow_nat h9
              subst hv9
              have HEQ := hid (geq_any a9 none w9.heap.size w9.heap.size c9 0 P2 [] w9 n9 (.inl rfl) (by simp))
              rw [HB1.out] at HEQ
              have K9 := hid (K8.out.quiet k9)
              clear c0 c1 h9 n9 k9 HP2 T8 K8
              by_cases h1N : 1 < N
              all_goals
                first
                  | (have hd1 : decide (1 < N) = true := decide_eq_true h1N
                     have hd2 : decide ((1 : Int) < (N : Int)) = true := decide_eq_true (by omega)
                     rw [hd1] at HEQ)
                  | (have hd1 : decide (1 < N) = false := decide_eq_false h1N
                     have hd2 : decide ((1 : Int) < (N : Int)) = false := decide_eq_false (by omega)
                     rw [hd1] at HEQ)
                go_wp2_with fail
                refine HEQ.out.mono ?_
                rintro e w10 ⟨rfl, m10, rfl⟩
                have K10 := hid (K9.out.quiet (Keeps.drewN [] w9 m10))
                clear HEQ
                go_wp2
                go_ret
                exact ⟨rfl, KF.out.quiet K10.out⟩
      · have h6' : ¬ (N : Int) ≤ 600 := by omega
        have h6d : decide ((N : Int) ≤ 600) = false := decide_eq_false h6'
        have HNM := hid (noMay_early (w := wr) (a := some ⟨p, 0, none⟩) (len := N) (cap := N) (.inr (.inl (show (600 : Int) < (N : Int) by omega))))
        have HMY := hid (HNM.out wr (Keeps.refl _ _))
        have HOR := hid (fun wz (k : Keeps [] wr wz) => order_nomay (N : Int) (some ⟨p, 0, none⟩) N N 0 wz (HNM.out.quiet k))
        clear hL HNM
        go_wp2_with fail
        refine HMY.out.mono ?_
        rintro e w4 ⟨rfl, k4⟩
        have T4 := hid (HT2.out w4 k4)
        have HC := hid (HOR.out w4 k4)
        clear c0 c1 HMY HOR
        have c0 := T4.out.c0
        have c1 := T4.out.c1
        go_wp2_with fail
        refine HC.out.mono ?_
        rintro e w5 ⟨rfl, k5⟩
        go_wp2
        go_ret
        exact ⟨rfl, KF.out.quiet (k4.quiet k5)⟩
end Go.Proofs.YtngdnjlohmkbiabDoor
