/-
  Plain facts: nodes in an order in which each stands ahead of those that it leads to; of those that may stand next the least. No program stands in it.
-/
import Derived.Test.YtngdnjlohmkbiaaDoorGReach
import Derived.Test.YtngdnjlohmkbiaaDoorGInto
namespace Go.Proofs.YtngdnjlohmkbiaaDoor

/-- How many edges go to m from nodes that are not in line. -/
def wts (g : List (List Nat)) (line : List Nat) (m : Nat) : Nat := (((List.range g.length).filter fun a => !decide (a ∈ line)).map fun a => occ (nb g a) m).sum
theorem sum_map_filter_ne (f : Nat → Nat) (line : List Nat) (n : Nat) (hn : n ∉ line) : ∀ l : List Nat, l.Nodup → (((l.filter fun a => !decide (a ∈ line)).map f).sum = ((l.filter fun a => !decide (a ∈ line ++ [n])).map f).sum + if n ∈ l then f n else 0)
  | [], _ => by simp
  | a :: l, hd => by
    rw [List.nodup_cons] at hd
    have ih := sum_map_filter_ne f line n hn l hd.2
    by_cases ha : a = n
    · subst ha
      have h1 : (!decide (a ∈ line)) = true := by simp [hn]
      have h2 : (!decide (a ∈ line ++ [a])) = false := by simp
      rw [List.filter_cons_of_pos (by simpa using hn), List.filter_cons_of_neg (by simp), List.map_cons, List.sum_cons, ih, if_neg hd.1, if_pos (by simp)]
      omega
    · have hm : (n ∈ a :: l) ↔ (n ∈ l) := by
        rw [List.mem_cons]
        exact ⟨fun h => by rcases h with h | h; exact absurd h.symm ha; exact h, fun h => .inr h⟩
      by_cases hl : a ∈ line
      · rw [List.filter_cons_of_neg (by simpa using hl), List.filter_cons_of_neg (by simp [hl]), ih]
        simp only [hm]
      · rw [List.filter_cons_of_pos (by simpa using hl), List.filter_cons_of_pos (by simp [hl, ha]), List.map_cons, List.sum_cons, List.map_cons, List.sum_cons, ih]
        simp only [hm]
        omega
theorem wts_snoc (g : List (List Nat)) (line : List Nat) (n m : Nat) (hn : n ∉ line) (hl : n < g.length) : wts g line m = wts g (line ++ [n]) m + occ (nb g n) m := by
  unfold wts
  rw [sum_map_filter_ne (fun a => occ (nb g a) m) line n hn (List.range g.length) List.nodup_range, if_pos (List.mem_range.2 hl)]
theorem sum_range_deg (g : List (List Nat)) (m : Nat) : ∀ k, ((List.range k).map fun a => occ (nb g a) m).sum = deg g k m
  | 0 => rfl
  | k + 1 => by
    rw [List.range_succ, List.map_append, List.sum_append, sum_range_deg g m k, deg_succ]
    simp
theorem wts_nil (g : List (List Nat)) (m : Nat) : wts g [] m = deg g g.length m := by
  unfold wts
  rw [← sum_range_deg]
  congr 2
  rw [List.filter_eq_self]
  simp

theorem filter_sum_le (p : Nat → Bool) (f : Nat → Nat) : ∀ l : List Nat, ((l.filter p).map f).sum ≤ (l.map f).sum
  | [] => Nat.le_refl _
  | a :: l => by
    have ih := filter_sum_le p f l
    rw [List.map_cons, List.sum_cons]
    cases h : p a with
    | true => rw [List.filter_cons_of_pos h, List.map_cons, List.sum_cons]; omega
    | false => rw [List.filter_cons_of_neg (by rw [h]; decide)]; omega
theorem wts_le (g : List (List Nat)) (line : List Nat) (m : Nat) : wts g line m ≤ deg g g.length m := by
  unfold wts
  rw [← sum_range_deg]
  exact filter_sum_le _ _ _

/-- May m stand next? -/
def rdy (g : List (List Nat)) (line : List Nat) (m : Nat) : Bool := decide (m < g.length) && (!decide (m ∈ line) && decide (wts g line m = 0))
/-- .. in the midst of node n's edges, i of which are gone. -/
def rdyT (g : List (List Nat)) (line : List Nat) (n i m : Nat) : Bool := decide (m < g.length) && (!decide (m ∈ line ++ [n]) && decide (wts g (line ++ [n]) m + occ ((nb g n).drop i) m = 0))
def wtsT (g : List (List Nat)) (line : List Nat) (n i m : Nat) : Nat := wts g (line ++ [n]) m + occ ((nb g n).drop i) m

theorem drop_getD (l : List Nat) (i : Nat) (h : i < l.length) : l.drop i = l.getD i 0 :: l.drop (i + 1) := by
  rw [List.drop_eq_getElem_cons h, List.getD_eq_getElem?_getD, List.getElem?_eq_getElem h]; rfl
theorem occ_cons (x : Nat) (l : List Nat) (b : Nat) : occ (x :: l) b = occ l b + if b = x then 1 else 0 := by
  unfold occ
  by_cases h : b = x
  · subst h; simp
  · have : (x == b) = false := by simp; exact fun e => h e.symm
    simp [this, h]
theorem wtsT_zero (g : List (List Nat)) (line : List Nat) (n m : Nat) (hn : n ∉ line) (hl : n < g.length) : wtsT g line n 0 m = wts g line m := by
  unfold wtsT
  rw [List.drop_zero, wts_snoc g line n m hn hl]
theorem wtsT_all (g : List (List Nat)) (line : List Nat) (n m : Nat) : wtsT g line n (nb g n).length m = wts g (line ++ [n]) m := by
  unfold wtsT
  rw [List.drop_length]
  rfl
theorem wtsT_succ (g : List (List Nat)) (line : List Nat) (n i m : Nat) (hi : i < (nb g n).length) : wtsT g line n i m = wtsT g line n (i + 1) m + if m = (nb g n).getD i 0 then 1 else 0 := by
  unfold wtsT
  rw [drop_getD (nb g n) i hi, occ_cons]
  omega
theorem rdyT_zero (g : List (List Nat)) (line : List Nat) (n : Nat) (hn : n ∉ line) (hl : n < g.length) : rdyT g line n 0 = delI (rdy g line) (n : Int) := by
  funext m
  show (decide (m < g.length) && (!decide (m ∈ line ++ [n]) && decide (wtsT g line n 0 m = 0))) = (rdy g line m && !decide ((m : Int) = n))
  rw [wtsT_zero g line n m hn hl]
  unfold rdy
  by_cases e : m = n
  · subst e; simp
  · have e2 : ¬ (m : Int) = (n : Int) := by omega
    simp [e, e2]
theorem rdyT_all (g : List (List Nat)) (line : List Nat) (n : Nat) : rdyT g line n (nb g n).length = rdy g (line ++ [n]) := by
  funext m
  show (decide (m < g.length) && (!decide (m ∈ line ++ [n]) && decide (wtsT g line n (nb g n).length m = 0))) = _
  rw [wtsT_all]
  rfl
/-- An edge more is gone: its end may stand next if it was the last one to it. -/
theorem rdyT_succ (g : List (List Nat)) (line : List Nat) (n i : Nat) (hi : i < (nb g n).length) (hx : (nb g n).getD i 0 < g.length) (h0 : ∀ m, m ∈ line ++ [n] → wtsT g line n i m = 0) :
    rdyT g line n (i + 1) = if wtsT g line n (i + 1) ((nb g n).getD i 0) = 0 then ins (rdyT g line n i) ((nb g n).getD i 0) else rdyT g line n i := by
  have hs := fun m => wtsT_succ g line n i m hi
  generalize (nb g n).getD i 0 = x at hs hx ⊢
  have hxl : x ∉ line ++ [n] := fun hm => by have := h0 x hm; rw [hs x, if_pos rfl] at this; omega
  have e1 : ∀ m j, rdyT g line n j m = (decide (m < g.length) && (!decide (m ∈ line ++ [n]) && decide (wtsT g line n j m = 0))) := fun _ _ => rfl
  by_cases hz : wtsT g line n (i + 1) x = 0
  · rw [if_pos hz]
    funext m
    show _ = (rdyT g line n i m || (m == x))
    rw [e1, e1, hs m]
    by_cases e : m = x
    · subst e; rw [hz]; simp [hx]; simpa using hxl
    · simp [e]
  · rw [if_neg hz]
    funext m
    rw [e1, e1, hs m]
    by_cases e : m = x
    · subst e; simp [hz]
    · simp [e]

theorem nodup_len_le {l : List Nat} {n : Nat} (h : l.Nodup) (hl : ∀ x, x ∈ l → x < n) : l.length ≤ n := by
  have := List.Nodup.length_le_of_subset h (l₂ := List.range n) (fun x hx => List.mem_range.2 (hl x hx))
  rwa [List.length_range] at this

/-- The order, with so much fuel. -/
def ahdL (g : List (List Nat)) : Nat → List Nat → List Nat
  | 0, line => line
  | f + 1, line => if firstI (rdy g line) 0 < 0 then line else ahdL g f (line ++ [(firstI (rdy g line) 0).toNat])
def ahd (g : List (List Nat)) : List Nat := ahdL g (g.length + 1) []

theorem rdy_fit (g : List (List Nat)) (h6 : g.length ≤ 600) (line : List Nat) : Fit (rdy g line) := by
  intro m hm
  unfold rdy
  have : ¬ m < g.length := by omega
  simp [this]
theorem rdyT_fit (g : List (List Nat)) (h6 : g.length ≤ 600) (line : List Nat) (n i : Nat) : Fit (rdyT g line n i) := by
  intro m hm
  unfold rdyT
  have : ¬ m < g.length := by omega
  simp [this]
/-- A line that the order may begin with. -/
structure Ahd (g : List (List Nat)) (line : List Nat) : Prop where
  nodup : line.Nodup
  lt : ∀ x, x ∈ line → x < g.length
  zero : ∀ x, x ∈ line → wts g line x = 0
theorem Ahd.nil (g : List (List Nat)) : Ahd g [] := ⟨List.nodup_nil, fun _ h => absurd h List.not_mem_nil, fun _ h => absurd h List.not_mem_nil⟩
theorem rdy_iff {g : List (List Nat)} {line : List Nat} {m : Nat} : rdy g line m = true ↔ m < g.length ∧ m ∉ line ∧ wts g line m = 0 := by
  unfold rdy; simp
theorem Ahd.snoc {g : List (List Nat)} {line : List Nat} (h : Ahd g line) {n : Nat} (hn : rdy g line n = true) : Ahd g (line ++ [n]) := by
  obtain ⟨h1, h2, h3⟩ := rdy_iff.1 hn
  refine ⟨?_, ?_, ?_⟩
  · rw [List.nodup_append]
    exact ⟨h.nodup, by simp, fun x hx y hy e => by simp at hy; subst hy; subst e; exact h2 hx⟩
  · intro x hx
    rcases List.mem_append.1 hx with h4 | h4
    · exact h.lt x h4
    · simp at h4; subst h4; exact h1
  · intro x hx
    have hw := wts_snoc g line n x h2 h1
    rcases List.mem_append.1 hx with h4 | h4
    · have := h.zero x h4; omega
    · simp at h4; subst h4; omega
theorem Ahd.mid {g : List (List Nat)} {line : List Nat} (h : Ahd g line) {n : Nat} (hn : rdy g line n = true) (i : Nat) : ∀ m, m ∈ line ++ [n] → wtsT g line n i m = 0 := by
  obtain ⟨h1, h2, h3⟩ := rdy_iff.1 hn
  intro m hm
  have e0 : wtsT g line n 0 m = 0 := by
    rw [wtsT_zero g line n m h2 h1]
    rcases List.mem_append.1 hm with h4 | h4
    · exact h.zero m h4
    · simp at h4; subst h4; exact h3
  have : wtsT g line n i m ≤ wtsT g line n 0 m := by
    unfold wtsT
    rw [List.drop_zero]
    have : occ ((nb g n).drop i) m ≤ occ (nb g n) m := ((List.drop_sublist i (nb g n)).filter _).length_le
    omega
  omega
/-- The order goes on from a line. -/
theorem ahdL_step (g : List (List Nat)) (line : List Nat) (n : Nat) (hf : firstI (rdy g line) 0 = (n : Int)) (f : Nat) : ahdL g (f + 1) line = ahdL g f (line ++ [n]) := by
  rw [ahdL, hf, if_neg (by omega), Int.toNat_natCast]
theorem ahdL_end (g : List (List Nat)) (line : List Nat) (hf : firstI (rdy g line) 0 = -1) (f : Nat) : ahdL g f line = line := by
  cases f with
  | zero => rfl
  | succ f => rw [ahdL, hf, if_pos (by decide)]
theorem rdy_first (g : List (List Nat)) (line : List Nat) (n : Nat) (hf : firstI (rdy g line) 0 = (n : Int)) : rdy g line n = true := by
  rcases firstI_spec (rdy g line) 0 with ⟨e, _⟩ | ⟨j, e, _, _, hj, _⟩
  · rw [e] at hf; omega
  · rw [e] at hf
    obtain rfl : j = n := by omega
    exact hj
end Go.Proofs.YtngdnjlohmkbiaaDoor
