/-
  Plain: the parts stand in an order, and each node in one of them.
-/
import Derived.Test.YtjckdjeckbdmdabDoorGLpLaw
namespace Go.Proofs.YtjckdjeckbdmdabDoor
open Go.RowKit

theorem plcK_mem (ps : List (List Nat)) (x : Nat) : ∀ k, (∃ j, j < k ∧ x ∈ nb ps j) → x ∈ nb ps (plcK ps k x) ∧ plcK ps k x < k
  | 0, ⟨_, h, _⟩ => absurd h (Nat.not_lt_zero _)
  | k + 1, ⟨j, hj, hx⟩ => by
    unfold plcK
    by_cases e : x ∈ nb ps k
    · rw [if_pos e]; exact ⟨e, by omega⟩
    · rw [if_neg e]
      have hjk : j < k := by
        rcases Nat.lt_or_ge j k with h | h
        · exact h
        · have : j = k := by omega
          subst this
          exact absurd hx e
      have := plcK_mem ps x k ⟨j, hjk, hx⟩
      exact ⟨this.1, by omega⟩
theorem sccs_idx {g : List (List Nat)} (hg : Ok g) {i j x : Nat} (hi : i < (sccs g).length) (hj : j < (sccs g).length) (h1 : x ∈ nb (sccs g) i) (h2 : x ∈ nb (sccs g) j) : i = j := by
  have e := sccs_same hg (nb_mem hi) (nb_mem hj) h1 h2
  have hp := List.pairwise_iff_getElem.1 (sccs_pw hg)
  have ge : ∀ k (hk : k < (sccs g).length), nb (sccs g) k = (sccs g)[k] := fun k hk => by rw [nb, List.getD_eq_getElem?_getD, List.getElem?_eq_getElem hk]; rfl
  rcases Nat.lt_trichotomy i j with h | h | h
  · have := hp i j hi hj h
    rw [← ge i hi, ← ge j hj, e] at this
    omega
  · exact h
  · have := hp j i hj hi h
    rw [← ge i hi, ← ge j hj, e] at this
    omega
theorem sccs_has {g : List (List Nat)} (hg : Ok g) {x : Nat} (hx : x < g.length) : ∃ j, j < (sccs g).length ∧ x ∈ nb (sccs g) j := by
  obtain ⟨i, hi, hm, hl⟩ := least_of hg x hx
  have hp : part g i ∈ sccs g := List.mem_map.2 ⟨i, List.mem_filter.2 ⟨List.mem_range.2 (by omega), hl⟩, rfl⟩
  obtain ⟨j, hj, e⟩ := List.getElem_of_mem hp
  refine ⟨j, hj, ?_⟩
  rw [nb, List.getD_eq_getElem?_getD, List.getElem?_eq_getElem hj]
  show x ∈ (sccs g)[j]
  rw [e]
  exact (mem_part hg x (by omega)).2 ⟨hx, hm.symm⟩
/-- The part of a node. -/
def plc (g : List (List Nat)) (x : Nat) : Nat := plcK (sccs g) (sccs g).length x
theorem plc_mem {g : List (List Nat)} (hg : Ok g) {x : Nat} (hx : x < g.length) : x ∈ nb (sccs g) (plc g x) ∧ plc g x < (sccs g).length := plcK_mem _ x _ (sccs_has hg hx)
theorem plc_eq {g : List (List Nat)} (hg : Ok g) {x j : Nat} (hx : x < g.length) (hj : j < (sccs g).length) (h : x ∈ nb (sccs g) j) : plc g x = j := sccs_idx hg (plc_mem hg hx).2 hj (plc_mem hg hx).1 h
theorem small_edge {g : List (List Nat)} (hs : Sm g) {a b : Nat} (ha : a < g.length) (hb : b ∈ nb g a) (hne : plc g b ≠ plc g a) : plc g b ∈ nb (smallG g (sccs g)) (plc g a) := by
  have h6 : (sccs g).length ≤ 600 := Nat.le_trans (sccs_len g) hs.len
  have h1 := plc_mem hs.ok ha
  rw [nb_smallG _ _ _ h1.2, mem_smallL h6 h1.2]
  exact ⟨hne, List.mem_map.2 ⟨b, List.mem_flatMap.2 ⟨a, h1.1, hb⟩, rfl⟩⟩
/-- An edge between two parts is an edge between nodes of theirs. -/
theorem small_node {g : List (List Nat)} (hs : Sm g) {i j : Nat} (hi : i < (sccs g).length) (h : j ∈ nb (smallG g (sccs g)) i) : j ≠ i ∧ ∃ a b, a ∈ nb (sccs g) i ∧ b ∈ nb g a ∧ b ∈ nb (sccs g) j ∧ j < (sccs g).length := by
  have h6 : (sccs g).length ≤ 600 := Nat.le_trans (sccs_len g) hs.len
  rw [nb_smallG _ _ _ hi, mem_smallL h6 hi] at h
  obtain ⟨b, hb, e⟩ := List.mem_map.1 h.2
  obtain ⟨a, ha, hab⟩ := List.mem_flatMap.1 hb
  have hbl := hs.ok a b hab
  have h2 := plc_mem hs.ok hbl
  have e2 : plc g b = j := e
  rw [e2] at h2
  exact ⟨h.1, a, b, ha, hab, h2.1, h2.2⟩

/-- A line in which whoever leads to one stands ahead of it. -/
def Ord (h : List (List Nat)) (line : List Nat) : Prop := ∀ t, t < line.length → ∀ i, line.getD t 0 ∈ nb h i → i ∈ line.take t
theorem wts_pred {h : List (List Nat)} {line : List Nat} {m i : Nat} (hw : wts h line m = 0) (hi : i < h.length) (hm : m ∈ nb h i) : i ∈ line := by
  by_cases e : i ∈ line
  · exact e
  · exfalso
    have h1 : occ (nb h i) m ∈ (((List.range h.length).filter fun a => !decide (a ∈ line)).map fun a => occ (nb h a) m) := List.mem_map.2 ⟨i, List.mem_filter.2 ⟨List.mem_range.2 hi, by simp [e]⟩, rfl⟩
    have h2 : ∀ (l : List Nat) (x : Nat), x ∈ l → x ≤ l.sum := fun l x hx => by
      induction l with
      | nil => cases hx
      | cons a l ih =>
        rw [List.sum_cons]
        rcases List.mem_cons.1 hx with e | e
        · omega
        · have := ih e; omega
    have h3 := h2 _ _ h1
    have h4 : 0 < occ (nb h i) m := List.length_pos_of_mem (List.mem_filter.2 ⟨hm, by simp⟩)
    unfold wts at hw
    omega
theorem Ord.snoc {h : List (List Nat)} {line : List Nat} (ho : Ord h line) {n : Nat} (hn : rdy h line n = true) : Ord h (line ++ [n]) := by
  intro t ht i hi
  by_cases e : t < line.length
  · rw [List.getD_eq_getElem?_getD, List.getElem?_append_left e, ← List.getD_eq_getElem?_getD] at hi
    rw [List.take_append_of_le_length (by omega)]
    exact ho t e i hi
  · have e2 : t = line.length := by rw [List.length_append] at ht; simp at ht; omega
    subst e2
    rw [List.getD_eq_getElem?_getD, List.getElem?_append_right (Nat.le_refl _)] at hi
    simp at hi
    rw [List.take_left]
    refine wts_pred (rdy_iff.1 hn).2.2 ?_ hi
    rcases Nat.lt_or_ge i h.length with h5 | h5
    · exact h5
    · rw [nb_out h5] at hi; cases hi
theorem ahdL_ord (h : List (List Nat)) : ∀ (f : Nat) (line : List Nat), Ord h line → Ord h (ahdL h f line)
  | 0, _, ho => ho
  | f + 1, line, ho => by
    rcases firstI_spec (rdy h line) 0 with ⟨e, _⟩ | ⟨j, e, _, _, hj, _⟩
    · rw [ahdL_end h line e]; exact ho
    · rw [ahdL_step h line j e]; exact ahdL_ord h f _ (ho.snoc hj)
theorem ahdL_done (h : List (List Nat)) : ∀ (f : Nat) (line : List Nat), Ahd h line → h.length + 1 ≤ f + line.length → firstI (rdy h (ahdL h f line)) 0 = -1
  | 0, line, ha, hl => by
    have := nodup_len_le ha.nodup ha.lt
    omega
  | f + 1, line, ha, hl => by
    rcases firstI_spec (rdy h line) 0 with ⟨e, _⟩ | ⟨j, e, _, _, hj, _⟩
    · rw [ahdL_end h line e]; exact e
    · rw [ahdL_step h line j e]
      exact ahdL_done h f _ (ha.snoc hj) (by rw [List.length_append]; simp; omega)
/-- How many a part reaches. -/
def rcount (g : List (List Nat)) (k : Nat) : Nat := ((List.range g.length).filter (rB g (key0 (nb (sccs g) k)))).length
theorem rcount_le (g : List (List Nat)) (k : Nat) : rcount g k ≤ g.length := by
  unfold rcount
  exact Nat.le_trans (List.length_filter_le _ _) (by simp)
theorem key_mem {g : List (List Nat)} (hg : Ok g) {k : Nat} (hk : k < (sccs g).length) : key0 (nb (sccs g) k) ∈ nb (sccs g) k := by
  obtain ⟨a, ha, e⟩ := nb_sccs hk
  have := part_self hg ha
  rw [← e] at this
  exact getD_mem _ 0 0 (List.length_pos_of_mem this)
theorem mem_mut {g : List (List Nat)} (hg : Ok g) {k x y : Nat} (hk : k < (sccs g).length) (hx : x ∈ nb (sccs g) k) (hy : y ∈ nb (sccs g) k) : Mut g x y := by
  obtain ⟨a, ha, e⟩ := nb_sccs hk
  rw [e] at hx hy
  exact ((mem_part hg x ha).1 hx).2.symm.trans ((mem_part hg y ha).1 hy).2
theorem mut_mem {g : List (List Nat)} (hg : Ok g) {k x y : Nat} (hk : k < (sccs g).length) (hx : x ∈ nb (sccs g) k) (hyl : y < g.length) (hm : Mut g x y) : y ∈ nb (sccs g) k := by
  obtain ⟨a, ha, e⟩ := nb_sccs hk
  rw [e] at hx ⊢
  exact (mem_part hg y ha).2 ⟨hyl, ((mem_part hg x ha).1 hx).2.trans hm⟩
theorem rcount_lt {g : List (List Nat)} (hs : Sm g) {a k : Nat} (ha : a < (sccs g).length) (h : k ∈ nb (smallG g (sccs g)) a) : rcount g k < rcount g a := by
  obtain ⟨hne, x, y, hx, hxy, hy, hk⟩ := small_node hs ha h
  have ka := key_mem hs.ok ha
  have kk := key_mem hs.ok hk
  have la := sccs_lt (g := g) a _ ka
  have lk := sccs_lt (g := g) k _ kk
  have p1 : Pth g noS (key0 (nb (sccs g) a)) (key0 (nb (sccs g) k)) := ((mem_mut hs.ok ha ka hx).1.snoc hxy rfl).trans (mem_mut hs.ok hk hy kk).1
  have hnot : rB g (key0 (nb (sccs g) k)) (key0 (nb (sccs g) a)) = false := by
    cases e : rB g (key0 (nb (sccs g) k)) (key0 (nb (sccs g) a))
    · rfl
    · have p2 := (rB_iff hs.ok _ lk).1 e
      have := mut_mem hs.ok ha ka lk ⟨p1, p2⟩
      exact absurd (sccs_idx hs.ok hk ha kk this) hne
  have hsub : ∀ m, rB g (key0 (nb (sccs g) k)) m = true → rB g (key0 (nb (sccs g) a)) m = true := fun m hm => (rB_iff hs.ok m la).2 (p1.trans ((rB_iff hs.ok m lk).1 hm))
  unfold rcount
  have hself : rB g (key0 (nb (sccs g) a)) (key0 (nb (sccs g) a)) = true := (rB_iff hs.ok _ la).2 (Pth.refl rfl)
  generalize key0 (nb (sccs g) a) = u at *
  generalize rB g (key0 (nb (sccs g) k)) = R at *
  generalize rB g u = S at *
  have hn : ((List.range g.length).filter R ++ [u]).Nodup := by
    rw [List.nodup_append]
    refine ⟨List.nodup_range.filter _, by simp, fun c hc d hd e => ?_⟩
    simp at hd
    subst hd; subst e
    rw [(List.mem_filter.1 hc).2] at hnot
    cases hnot
  have := List.Nodup.length_le_of_subset hn (l₂ := (List.range g.length).filter S) (fun c hc => by
    rcases List.mem_append.1 hc with h1 | h1
    · exact List.mem_filter.2 ⟨(List.mem_filter.1 h1).1, hsub c (List.mem_filter.1 h1).2⟩
    · simp at h1
      subst h1
      exact List.mem_filter.2 ⟨List.mem_range.2 la, hself⟩)
  rw [List.length_append] at this
  simp at this
  omega
theorem ahd_one {g : List (List Nat)} (hs : Sm g) {k : Nat} (hk : k < (sccs g).length) (hp : ∀ a, a < (sccs g).length → k ∈ nb (smallG g (sccs g)) a → a ∈ ahd (smallG g (sccs g))) : k ∈ ahd (smallG g (sccs g)) := by
  have hd := ahdL_done (smallG g (sccs g)) ((smallG g (sccs g)).length + 1) [] (Ahd.nil _) (by simp)
  by_cases e : k ∈ ahd (smallG g (sccs g))
  · exact e
  · exfalso
    have hl := smallG_len g (sccs g)
    have h6 : (sccs g).length ≤ 600 := Nat.le_trans (sccs_len g) hs.len
    have hw : wts (smallG g (sccs g)) (ahd (smallG g (sccs g))) k = 0 := by
      unfold wts
      have hz : ∀ a, a ∈ ((List.range (smallG g (sccs g)).length).filter fun a => !decide (a ∈ ahd (smallG g (sccs g)))) → occ (nb (smallG g (sccs g)) a) k = 0 := by
        intro a ha
        have h1 := List.mem_range.1 (List.mem_filter.1 ha).1
        have h2 : a ∉ ahd (smallG g (sccs g)) := by simpa using (List.mem_filter.1 ha).2
        unfold occ
        rw [List.length_eq_zero_iff, List.filter_eq_nil_iff]
        intro y hy hyk
        simp at hyk
        subst hyk
        exact h2 (hp a (by omega) hy)
      have hs0 : ∀ l : List Nat, (∀ a, a ∈ l → occ (nb (smallG g (sccs g)) a) k = 0) → (l.map fun a => occ (nb (smallG g (sccs g)) a) k).sum = 0 := by
        intro l hl
        induction l with
        | nil => rfl
        | cons b l ih => rw [List.map_cons, List.sum_cons, hl b (by simp), ih (fun a ha => hl a (by simp [ha]))]
      exact hs0 _ hz
    have hr : rdy (smallG g (sccs g)) (ahd (smallG g (sccs g))) k = true := rdy_iff.2 ⟨by omega, e, hw⟩
    rcases firstI_spec (rdy (smallG g (sccs g)) (ahd (smallG g (sccs g)))) 0 with ⟨_, h1⟩ | ⟨j, e1, _⟩
    · have := h1 k (by omega) (by omega)
      rw [hr] at this
      cases this
    · have hd' : firstI (rdy (smallG g (sccs g)) (ahd (smallG g (sccs g)))) 0 = -1 := hd
      rw [e1] at hd'
      omega
theorem ahd_all {g : List (List Nat)} (hs : Sm g) : ∀ (d k : Nat), k < (sccs g).length → g.length - rcount g k ≤ d → k ∈ ahd (smallG g (sccs g)) := by
  intro d
  induction d with
  | zero =>
    intro k hk hd
    exact ahd_one hs hk (fun a ha hak => by
      have := rcount_lt hs ha hak
      have := rcount_le g a
      omega)
  | succ d ih =>
    intro k hk hd
    exact ahd_one hs hk (fun a ha hak => ih a ha (by
      have := rcount_lt hs ha hak
      have := rcount_le g a
      omega))
end Go.Proofs.YtjckdjeckbdmdabDoor
