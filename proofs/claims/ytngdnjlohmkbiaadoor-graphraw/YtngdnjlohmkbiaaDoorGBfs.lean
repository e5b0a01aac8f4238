/-
  Plain: the walk over a graph by breadth, with the node before each.
-/
import Derived.Test.YtngdnjlohmkbiaaDoorGParts
namespace Go.Proofs.YtngdnjlohmkbiaaDoor
open Go.RowKit

def nxt (g : List (List Nat)) (line : List Nat) (x m : Nat) : Bool := decide (m ∈ nb g x) && !decide (m ∈ line)
def nxs (g : List (List Nat)) (line : List Nat) (x j : Nat) : List Nat := (List.range j).filter (nxt g line x)
def bfJ (g : List (List Nat)) (line : List Nat) (x : Nat) (bf : Nat → Nat) (j : Nat) : Nat → Nat := fun i => if (decide (i < j) && nxt g line x i) = true then x else bf i
def pthS (g : List (List Nat)) (t : Nat) : Nat → Nat → List Nat → (Nat → Nat) → List Nat × (Nat → Nat)
  | 0, _, line, bf => (line, bf)
  | f + 1, k, line, bf => if k < line.length ∧ t ∉ line then pthS g t f (k + 1) (line ++ nxs g line (line.getD k 0) g.length) (bfJ g line (line.getD k 0) bf g.length) else (line, bf)
def wbk (bf : Nat → Nat) (fr : Nat) : Nat → Nat → List Nat
  | 0, y => [y]
  | f + 1, y => if y = fr then [y] else y :: wbk bf fr f (bf y)
def wb (bf : Nat → Nat) : Nat → Nat → List Nat
  | 0, y => [y]
  | d + 1, y => y :: wb bf d (bf y)
def Back (line : List Nat) (bf : Nat → Nat) (fr : Nat) : Nat → Nat → Prop
  | 0, y => y = fr ∧ y ∈ line
  | d + 1, y => y ≠ fr ∧ y ∈ line ∧ Back line bf fr d (bf y)
theorem Back.mem {line : List Nat} {bf : Nat → Nat} {fr d y : Nat} (h : Back line bf fr d y) : y ∈ line := by
  cases d with
  | zero => exact h.2
  | succ d => exact h.2.1
theorem Back.mono {line line' : List Nat} {bf bf' : Nat → Nat} {fr : Nat} (hl : ∀ y, y ∈ line → y ∈ line') (hb : ∀ y, y ∈ line → bf' y = bf y) : ∀ {d y : Nat}, Back line bf fr d y → Back line' bf' fr d y
  | 0, _, h => ⟨h.1, hl _ h.2⟩
  | d + 1, y, h => ⟨h.1, hl _ h.2.1, by rw [hb y h.2.1]; exact Back.mono hl hb h.2.2⟩
theorem wb_len (bf : Nat → Nat) : ∀ (d y : Nat), (wb bf d y).length = d + 1
  | 0, _ => rfl
  | d + 1, y => by show (wb bf d (bf y)).length + 1 = _; rw [wb_len bf d]
theorem wbk_wb {line : List Nat} {bf : Nat → Nat} {fr : Nat} : ∀ (d f y : Nat), d ≤ f → Back line bf fr d y → wbk bf fr f y = wb bf d y
  | 0, 0, _, _, _ => rfl
  | 0, f + 1, y, _, h => by show (if y = fr then [y] else _) = _; rw [if_pos h.1]; rfl
  | d + 1, 0, _, hf, _ => by omega
  | d + 1, f + 1, y, hf, h => by
    show (if y = fr then [y] else y :: wbk bf fr f (bf y)) = y :: wb bf d (bf y)
    rw [if_neg h.1, wbk_wb d f (bf y) (by omega) h.2.2]

/-- In the midst of the walk. -/
structure Bf (g : List (List Nat)) (fr : Nat) (line : List Nat) (bf : Nat → Nat) : Prop where
  nodup : line.Nodup
  lt : ∀ x, x ∈ line → x < g.length
  head : 0 < line.length ∧ line.getD 0 0 = fr
  back : ∀ i, i < line.length → ∃ d, d ≤ i ∧ Back line bf fr d (line.getD i 0)
theorem Bf.start {g : List (List Nat)} {fr : Nat} (h : fr < g.length) (bf : Nat → Nat) : Bf g fr [fr] bf := by
  refine ⟨by simp, by simp [h], by simp, fun i hi => ⟨0, by omega, ?_⟩⟩
  have : i = 0 := by simp at hi; exact hi
  subst this
  exact ⟨rfl, by simp⟩
theorem nxt_iff {g : List (List Nat)} {line : List Nat} {x m : Nat} : nxt g line x m = true ↔ m ∈ nb g x ∧ m ∉ line := by
  unfold nxt; simp
theorem nxs_mem {g : List (List Nat)} {line : List Nat} {x j m : Nat} : m ∈ nxs g line x j ↔ m < j ∧ m ∈ nb g x ∧ m ∉ line := by
  unfold nxs; rw [List.mem_filter, List.mem_range, nxt_iff]
theorem nxs_zero (g : List (List Nat)) (line : List Nat) (x : Nat) : nxs g line x 0 = [] := rfl
theorem nxs_nodup (g : List (List Nat)) (line : List Nat) (x j : Nat) (h : line.Nodup) : (line ++ nxs g line x j).Nodup := by
  rw [List.nodup_append]
  refine ⟨h, List.Pairwise.sublist List.filter_sublist List.nodup_range, ?_⟩
  intro a ha b hb e
  subst e
  exact (nxs_mem.1 hb).2.2 ha
theorem nxs_lt {g : List (List Nat)} {line : List Nat} {x j : Nat} (hg : Ok g) (h : ∀ y, y ∈ line → y < g.length) : ∀ y, y ∈ line ++ nxs g line x j → y < g.length := by
  intro y hy
  rcases List.mem_append.1 hy with hy | hy
  · exact h y hy
  · exact hg x y (nxs_mem.1 hy).2.1
theorem range_filter_skip (p : Nat → Bool) (j : Nat) : ∀ m, (∀ i, j ≤ i → i < j + m → p i = false) → (List.range (j + m)).filter p = (List.range j).filter p
  | 0, _ => rfl
  | m + 1, h => by
    rw [← Nat.add_assoc, List.range_succ, List.filter_append, range_filter_skip p j m (fun i hi hl => h i hi (by omega))]
    simp [h (j + m) (by omega) (by omega)]
theorem nxs_step {g : List (List Nat)} {line : List Nat} {x j m : Nat} (hj : j ≤ m) (hm : nxt g line x m = true) (hn : ∀ i, i < m → (j : Int) ≤ (i : Int) → nxt g line x i = false) : nxs g line x (m + 1) = nxs g line x j ++ [m] := by
  unfold nxs
  rw [List.range_succ, List.filter_append]
  obtain ⟨e, rfl⟩ := Nat.exists_eq_add_of_le hj
  rw [range_filter_skip _ j e (fun i hi hl => hn i hl (by omega))]
  simp [hm]
theorem nxs_end {g : List (List Nat)} {line : List Nat} {x j : Nat} (hj : j ≤ g.length) (h5 : g.length ≤ 600) (hn : ∀ i : Nat, i < 5000 → (j : Int) ≤ (i : Int) → nxt g line x i = false) : nxs g line x g.length = nxs g line x j := by
  unfold nxs
  obtain ⟨e, he⟩ := Nat.exists_eq_add_of_le hj
  rw [he]
  exact range_filter_skip _ j e (fun i hi hl => hn i (by omega) (by omega))
theorem bfJ_zero (g : List (List Nat)) (line : List Nat) (x : Nat) (bf : Nat → Nat) (i : Nat) : bfJ g line x bf 0 i = bf i := by
  unfold bfJ; simp
theorem bfJ_step {g : List (List Nat)} {line : List Nat} {x j m : Nat} {bf : Nat → Nat} (hj : j ≤ m) (hm : nxt g line x m = true) (hn : ∀ i, i < m → (j : Int) ≤ (i : Int) → nxt g line x i = false) (i : Nat) : (if i = m then x else bfJ g line x bf j i) = bfJ g line x bf (m + 1) i := by
  unfold bfJ
  by_cases e : i = m
  · subst e; simp [hm]
  · rw [if_neg e]
    by_cases h1 : i < j
    · have h2 : i < m + 1 := by omega
      simp [h1, h2]
    · by_cases h2 : i < m
      · rw [hn i h2 (by omega)]; simp
      · have h3 : ¬ i < m + 1 := by omega
        simp [h1, h3]
theorem bfJ_end {g : List (List Nat)} {line : List Nat} {x j : Nat} {bf : Nat → Nat} (h5 : g.length ≤ 600) (hn : ∀ i : Nat, i < 5000 → (j : Int) ≤ (i : Int) → nxt g line x i = false) (i : Nat) (hi : i < g.length) : bfJ g line x bf j i = bfJ g line x bf g.length i := by
  unfold bfJ
  by_cases h1 : i < j
  · simp [h1, hi]
  · rw [hn i (by omega) (by omega)]; simp
theorem bfJ_old {g : List (List Nat)} {line : List Nat} {x j : Nat} {bf : Nat → Nat} (y : Nat) (hy : y ∈ line) : bfJ g line x bf j y = bf y := by
  unfold bfJ nxt; simp [hy]
theorem Bf.step {g : List (List Nat)} {fr : Nat} {line : List Nat} {bf : Nat → Nat} (h : Bf g fr line bf) (hg : Ok g) {k : Nat} (hk : k < line.length) : Bf g fr (line ++ nxs g line (line.getD k 0) g.length) (bfJ g line (line.getD k 0) bf g.length) := by
  obtain ⟨x, hx⟩ : ∃ x, line.getD k 0 = x := ⟨_, rfl⟩
  have hxl : x ∈ line := hx ▸ getD_mem line k 0 hk
  refine ⟨?_, ?_, ?_, ?_⟩
  · rw [hx]; exact nxs_nodup g line x _ h.nodup
  · rw [hx]; exact nxs_lt hg h.lt
  · refine ⟨by rw [List.length_append]; have := h.head.1; omega, ?_⟩
    rw [← h.head.2]
    simp [List.getD_eq_getElem?_getD, List.getElem?_append_left h.head.1]
  · intro i hi
    have hmono : ∀ {d y}, Back line bf fr d y → Back (line ++ nxs g line (line.getD k 0) g.length) (bfJ g line (line.getD k 0) bf g.length) fr d y := fun hb => Back.mono (fun y hy => List.mem_append_left _ hy) (fun y hy => bfJ_old y hy) hb
    by_cases h1 : i < line.length
    · obtain ⟨d, hd, hb⟩ := h.back i h1
      have e : (line ++ nxs g line (line.getD k 0) g.length).getD i 0 = line.getD i 0 := by
        simp [List.getD_eq_getElem?_getD, List.getElem?_append_left h1]
      rw [e]
      exact ⟨d, hd, hmono hb⟩
    · obtain ⟨y, hy⟩ : ∃ y, (line ++ nxs g line (line.getD k 0) g.length).getD i 0 = y := ⟨_, rfl⟩
      have hm : y ∈ nxs g line x g.length := by
        have hi2 : i - line.length < (nxs g line x g.length).length := by rw [hx, List.length_append] at hi; omega
        have e : (line ++ nxs g line x g.length).getD i 0 = (nxs g line x g.length).getD (i - line.length) 0 := by
          rw [List.getD_eq_getElem?_getD, List.getD_eq_getElem?_getD, List.getElem?_append_right (by omega)]
        rw [hx, e] at hy
        exact hy ▸ getD_mem _ _ _ hi2
      obtain ⟨d, hd, hb⟩ := h.back k hk
      obtain ⟨hm1, hm2, hm3⟩ := nxs_mem.1 hm
      refine ⟨d + 1, by omega, ?_⟩
      rw [hy]
      have hfr : y ≠ fr := by
        intro e
        subst e
        exact hm3 (h.head.2 ▸ getD_mem line 0 0 h.head.1)
      refine ⟨hfr, List.mem_append_right _ (hx ▸ hm), ?_⟩
      have e2 : bfJ g line (line.getD k 0) bf g.length y = line.getD k 0 := by
        rw [hx]
        unfold bfJ
        rw [if_pos (by rw [nxt_iff.2 ⟨hm2, hm3⟩]; simp [hm1])]
      rw [e2]
      exact hmono hb

/-- The way that the walk finds. -/
def pathM (g : List (List Nat)) (a b : Nat) : List Nat :=
  let s := pthS g b (g.length + 1) 0 [a] (fun _ => 0)
  if b ∈ s.1 then (wbk s.2 a g.length b).reverse else []
theorem pthS_end {g : List (List Nat)} {t k : Nat} {line : List Nat} {bf : Nat → Nat} (h : ¬ (k < line.length ∧ t ∉ line)) : ∀ f, pthS g t f k line bf = (line, bf)
  | 0 => rfl
  | f + 1 => by show (if k < line.length ∧ t ∉ line then _ else _) = _; rw [if_neg h]
theorem pthS_step {g : List (List Nat)} {t k : Nat} {line : List Nat} {bf : Nat → Nat} (h : k < line.length ∧ t ∉ line) (f : Nat) : pthS g t (f + 1) k line bf = pthS g t f (k + 1) (line ++ nxs g line (line.getD k 0) g.length) (bfJ g line (line.getD k 0) bf g.length) := by
  show (if k < line.length ∧ t ∉ line then _ else _) = _; rw [if_pos h]
/-- Sets. -/
theorem less_nxt (g : List (List Nat)) (line : List Nat) (x : Nat) : both lessB (orL none_ (nb g x)) (orL none_ line) = nxt g line x := by
  funext m
  simp [both, lessB, orL, none_, nxt]
theorem join_nxt {g : List (List Nat)} (hg : Ok g) (line : List Nat) (x : Nat) : both or (orL none_ line) (nxt g line x) = orL none_ (line ++ nxs g line x g.length) := by
  funext m
  show (orL none_ line m || nxt g line x m) = _
  rw [Bool.eq_iff_iff, Bool.or_eq_true, nxt_iff]
  simp only [orL, none_, Bool.false_or, decide_eq_true_eq, List.mem_append, nxs_mem]
  constructor
  · rintro (h | h)
    · exact .inl h
    · exact .inr ⟨hg x m h.1, h⟩
  · rintro (h | h)
    · exact .inl h
    · exact .inr h.2
theorem nxt_fit {g : List (List Nat)} (hg : Ok g) (h6 : g.length ≤ 600) (line : List Nat) (x : Nat) : Fit (nxt g line x) := by
  intro m hm
  cases h : nxt g line x m
  · rfl
  · have := hg x m (nxt_iff.1 h).1
    omega
end Go.Proofs.YtngdnjlohmkbiaaDoor
