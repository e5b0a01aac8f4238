/-
  Plain: who reaches itself stands in a part with others, or has an edge to itself.
  Plain: the parts stand in an order, and each node in one of them.
  Plain: Parts as the statement GraphPartsOrder asks it.
  Plain: the parts in their order, found by the least node that is free.
  A slice of numbers at any place of its row, with the room behind it; one number is appended.
  Plain: a search by a queue that keeps off some nodes finds who is reached without them.
  Contract: the statements' own Reach.
  A table of marks; who is reached from one node by the statements' own Reach.
  Contract: the statements' own Parts.
  The statement GraphParts.
-/
import Derived.Test.YtngdnjlohmkbiaaDoorGLaw
import Derived.Test.YtngdnjlohmkbiaaDoorGLst
import Derived.ArgAppend
import Derived.Laws.IdiomCopy
import Derived.Test.YtngdnjlohmkbiaaDoorGScc
import Derived.Test.YtngdnjlohmkbiaaDoorGInto
import Derived.Deep.LoopGhost
import Derived.Deep.DeepCutAuto
import Derived.Deep.RegionHeld3
import Derived.Deep.DrawnRows

namespace Go.Proofs.YtngdnjlohmkbiaaDoor
open Go.RowKit

theorem sccs_part {g : List (List Nat)} {p : List Nat} (hp : p ∈ sccs g) : ∃ a, a < g.length ∧ p = part g a := by
  obtain ⟨a, ha, rfl⟩ := List.mem_map.1 hp
  exact ⟨a, List.mem_range.1 (List.mem_filter.1 ha).1, rfl⟩
theorem sccs_same {g : List (List Nat)} (hg : Ok g) {p q : List Nat} (hp : p ∈ sccs g) (hq : q ∈ sccs g) {x : Nat} (h1 : x ∈ p) (h2 : x ∈ q) : p = q := by
  obtain ⟨a, ha, rfl⟩ := sccs_part hp
  obtain ⟨b, hb, rfl⟩ := sccs_part hq
  exact part_eq hg ha hb (((mem_part hg x ha).1 h1).2.trans ((mem_part hg x hb).1 h2).2.symm)
theorem nb_mem {l : List (List Nat)} {k : Nat} (hk : k < l.length) : nb l k ∈ l := getD_mem l k [] hk
theorem parts_mem {g : List (List Nat)} {p : List Nat} (hp : p ∈ partsM g) : p ∈ sccs g := by
  obtain ⟨k, hk, rfl⟩ := List.mem_map.1 hp
  have h := ahd_lt (smallG g (sccs g)) _ [] (fun _ h => absurd h List.not_mem_nil) k hk
  rw [smallG_len] at h
  exact nb_mem h
theorem loopS_part {g : List (List Nat)} (hg : Ok g) {p : List Nat} (hp : p ∈ sccs g) {x : Nat} (hx : x ∈ p) : loopS g (sccs g) x = loopB g p := by
  unfold loopS
  show (none_ x || decide (x ∈ ((sccs g).filter (loopB g)).flatten)) = _
  cases h : loopB g p
  · rw [decide_eq_false]
    · rfl
    · intro hm
      obtain ⟨q, hq, hxq⟩ := List.mem_flatten.1 hm
      have := sccs_same hg hp (List.mem_filter.1 hq).1 hx hxq
      subst this
      have := (List.mem_filter.1 hq).2
      rw [h] at this
      cases this
  · rw [decide_eq_true]
    · rfl
    · exact List.mem_flatten.2 ⟨p, List.mem_filter.2 ⟨hp, h⟩, hx⟩
theorem loopB_node {g : List (List Nat)} {p : List Nat} {x : Nat} (hx : x ∈ p) : loopB g p = (decide (1 < p.length) || decide (x ∈ nb g x)) := by
  unfold loopB
  by_cases h : 1 < p.length
  · simp [h]
  · have : p = [x] := by
      match p, h with
      | [], _ => cases hx
      | [y], _ => simp at hx; rw [hx]
      | _ :: _ :: _, h => simp at h
    rw [this]
    rfl

theorem part_nodup (g : List (List Nat)) (a : Nat) : (part g a).Nodup := List.nodup_range.filter _
end Go.Proofs.YtngdnjlohmkbiaaDoor

namespace Go.Proofs.YtngdnjlohmkbiaaDoor
open Go.RowKit

theorem plcK_mem (ps : List (List Nat)) (x : Nat) : ∀ k, (∃ j, j < k ∧ x ∈ nb ps j) → x ∈ nb ps (plcK ps k x) ∧ plcK ps k x < k
  | 0, ⟨_, h, _⟩ => absurd h (Nat.not_lt_zero _)
  | k + 1, ⟨j, hj, hx⟩ => by
    unfold plcK
    by_cases e : x ∈ nb ps k
    · rw [if_pos e]; exact ⟨e, by omega⟩
    · rw [if_neg e]
      have hjk : j < k := by
        rcases Nat.lt_or_ge j k with h | h
        · exact h
        · have : j = k := by omega
          subst this
          exact absurd hx e
      have := plcK_mem ps x k ⟨j, hjk, hx⟩
      exact ⟨this.1, by omega⟩
theorem sccs_idx {g : List (List Nat)} (hg : Ok g) {i j x : Nat} (hi : i < (sccs g).length) (hj : j < (sccs g).length) (h1 : x ∈ nb (sccs g) i) (h2 : x ∈ nb (sccs g) j) : i = j := by
  have e := sccs_same hg (nb_mem hi) (nb_mem hj) h1 h2
  have hp := List.pairwise_iff_getElem.1 (sccs_pw hg)
  have ge : ∀ k (hk : k < (sccs g).length), nb (sccs g) k = (sccs g)[k] := fun k hk => by rw [nb, List.getD_eq_getElem?_getD, List.getElem?_eq_getElem hk]; rfl
  rcases Nat.lt_trichotomy i j with h | h | h
  · have := hp i j hi hj h
    rw [← ge i hi, ← ge j hj, e] at this
    omega
  · exact h
  · have := hp j i hj hi h
    rw [← ge i hi, ← ge j hj, e] at this
    omega
theorem sccs_has {g : List (List Nat)} (hg : Ok g) {x : Nat} (hx : x < g.length) : ∃ j, j < (sccs g).length ∧ x ∈ nb (sccs g) j := by
  obtain ⟨i, hi, hm, hl⟩ := least_of hg x hx
  have hp : part g i ∈ sccs g := List.mem_map.2 ⟨i, List.mem_filter.2 ⟨List.mem_range.2 (by omega), hl⟩, rfl⟩
  obtain ⟨j, hj, e⟩ := List.getElem_of_mem hp
  refine ⟨j, hj, ?_⟩
  rw [nb, List.getD_eq_getElem?_getD, List.getElem?_eq_getElem hj]
  show x ∈ (sccs g)[j]
  rw [e]
  exact (mem_part hg x (by omega)).2 ⟨hx, hm.symm⟩
/-- The part of a node. -/
def plc (g : List (List Nat)) (x : Nat) : Nat := plcK (sccs g) (sccs g).length x
theorem plc_mem {g : List (List Nat)} (hg : Ok g) {x : Nat} (hx : x < g.length) : x ∈ nb (sccs g) (plc g x) ∧ plc g x < (sccs g).length := plcK_mem _ x _ (sccs_has hg hx)
theorem plc_eq {g : List (List Nat)} (hg : Ok g) {x j : Nat} (hx : x < g.length) (hj : j < (sccs g).length) (h : x ∈ nb (sccs g) j) : plc g x = j := sccs_idx hg (plc_mem hg hx).2 hj (plc_mem hg hx).1 h
theorem small_edge {g : List (List Nat)} (hs : Sm g) {a b : Nat} (ha : a < g.length) (hb : b ∈ nb g a) (hne : plc g b ≠ plc g a) : plc g b ∈ nb (smallG g (sccs g)) (plc g a) := by
  have h6 : (sccs g).length ≤ 600 := Nat.le_trans (sccs_len g) hs.len
  have h1 := plc_mem hs.ok ha
  rw [nb_smallG _ _ _ h1.2, mem_smallL h6 h1.2]
  exact ⟨hne, List.mem_map.2 ⟨b, List.mem_flatMap.2 ⟨a, h1.1, hb⟩, rfl⟩⟩
/-- An edge between two parts is an edge between nodes of theirs. -/
theorem small_node {g : List (List Nat)} (hs : Sm g) {i j : Nat} (hi : i < (sccs g).length) (h : j ∈ nb (smallG g (sccs g)) i) : j ≠ i ∧ ∃ a b, a ∈ nb (sccs g) i ∧ b ∈ nb g a ∧ b ∈ nb (sccs g) j ∧ j < (sccs g).length := by
  have h6 : (sccs g).length ≤ 600 := Nat.le_trans (sccs_len g) hs.len
  rw [nb_smallG _ _ _ hi, mem_smallL h6 hi] at h
  obtain ⟨b, hb, e⟩ := List.mem_map.1 h.2
  obtain ⟨a, ha, hab⟩ := List.mem_flatMap.1 hb
  have hbl := hs.ok a b hab
  have h2 := plc_mem hs.ok hbl
  have e2 : plc g b = j := e
  rw [e2] at h2
  exact ⟨h.1, a, b, ha, hab, h2.1, h2.2⟩

/-- A line in which whoever leads to one stands ahead of it. -/
def Ord (h : List (List Nat)) (line : List Nat) : Prop := ∀ t, t < line.length → ∀ i, line.getD t 0 ∈ nb h i → i ∈ line.take t
theorem wts_pred {h : List (List Nat)} {line : List Nat} {m i : Nat} (hw : wts h line m = 0) (hi : i < h.length) (hm : m ∈ nb h i) : i ∈ line := by
  by_cases e : i ∈ line
  · exact e
  · exfalso
    have h1 : occ (nb h i) m ∈ (((List.range h.length).filter fun a => !decide (a ∈ line)).map fun a => occ (nb h a) m) := List.mem_map.2 ⟨i, List.mem_filter.2 ⟨List.mem_range.2 hi, by simp [e]⟩, rfl⟩
    have h2 : ∀ (l : List Nat) (x : Nat), x ∈ l → x ≤ l.sum := fun l x hx => by
      induction l with
      | nil => cases hx
      | cons a l ih =>
        rw [List.sum_cons]
        rcases List.mem_cons.1 hx with e | e
        · omega
        · have := ih e; omega
    have h3 := h2 _ _ h1
    have h4 : 0 < occ (nb h i) m := List.length_pos_of_mem (List.mem_filter.2 ⟨hm, by simp⟩)
    unfold wts at hw
    omega
theorem Ord.snoc {h : List (List Nat)} {line : List Nat} (ho : Ord h line) {n : Nat} (hn : rdy h line n = true) : Ord h (line ++ [n]) := by
  intro t ht i hi
  by_cases e : t < line.length
  · rw [List.getD_eq_getElem?_getD, List.getElem?_append_left e, ← List.getD_eq_getElem?_getD] at hi
    rw [List.take_append_of_le_length (by omega)]
    exact ho t e i hi
  · have e2 : t = line.length := by rw [List.length_append] at ht; simp at ht; omega
    subst e2
    rw [List.getD_eq_getElem?_getD, List.getElem?_append_right (Nat.le_refl _)] at hi
    simp at hi
    rw [List.take_left]
    refine wts_pred (rdy_iff.1 hn).2.2 ?_ hi
    rcases Nat.lt_or_ge i h.length with h5 | h5
    · exact h5
    · rw [nb_out h5] at hi; cases hi
theorem ahdL_ord (h : List (List Nat)) : ∀ (f : Nat) (line : List Nat), Ord h line → Ord h (ahdL h f line)
  | 0, _, ho => ho
  | f + 1, line, ho => by
    rcases firstI_spec (rdy h line) 0 with ⟨e, _⟩ | ⟨j, e, _, _, hj, _⟩
    · rw [ahdL_end h line e]; exact ho
    · rw [ahdL_step h line j e]; exact ahdL_ord h f _ (ho.snoc hj)
theorem ahdL_done (h : List (List Nat)) : ∀ (f : Nat) (line : List Nat), Ahd h line → h.length + 1 ≤ f + line.length → firstI (rdy h (ahdL h f line)) 0 = -1
  | 0, line, ha, hl => by
    have := nodup_len_le ha.nodup ha.lt
    omega
  | f + 1, line, ha, hl => by
    rcases firstI_spec (rdy h line) 0 with ⟨e, _⟩ | ⟨j, e, _, _, hj, _⟩
    · rw [ahdL_end h line e]; exact e
    · rw [ahdL_step h line j e]
      exact ahdL_done h f _ (ha.snoc hj) (by rw [List.length_append]; simp; omega)
/-- How many a part reaches. -/
def rcount (g : List (List Nat)) (k : Nat) : Nat := ((List.range g.length).filter (rB g (key0 (nb (sccs g) k)))).length
theorem rcount_le (g : List (List Nat)) (k : Nat) : rcount g k ≤ g.length := by
  unfold rcount
  exact Nat.le_trans (List.length_filter_le _ _) (by simp)
theorem key_mem {g : List (List Nat)} (hg : Ok g) {k : Nat} (hk : k < (sccs g).length) : key0 (nb (sccs g) k) ∈ nb (sccs g) k := by
  obtain ⟨a, ha, e⟩ := nb_sccs hk
  have := part_self hg ha
  rw [← e] at this
  exact getD_mem _ 0 0 (List.length_pos_of_mem this)
theorem mem_mut {g : List (List Nat)} (hg : Ok g) {k x y : Nat} (hk : k < (sccs g).length) (hx : x ∈ nb (sccs g) k) (hy : y ∈ nb (sccs g) k) : Mut g x y := by
  obtain ⟨a, ha, e⟩ := nb_sccs hk
  rw [e] at hx hy
  exact ((mem_part hg x ha).1 hx).2.symm.trans ((mem_part hg y ha).1 hy).2
theorem mut_mem {g : List (List Nat)} (hg : Ok g) {k x y : Nat} (hk : k < (sccs g).length) (hx : x ∈ nb (sccs g) k) (hyl : y < g.length) (hm : Mut g x y) : y ∈ nb (sccs g) k := by
  obtain ⟨a, ha, e⟩ := nb_sccs hk
  rw [e] at hx ⊢
  exact (mem_part hg y ha).2 ⟨hyl, ((mem_part hg x ha).1 hx).2.trans hm⟩
theorem rcount_lt {g : List (List Nat)} (hs : Sm g) {a k : Nat} (ha : a < (sccs g).length) (h : k ∈ nb (smallG g (sccs g)) a) : rcount g k < rcount g a := by
  obtain ⟨hne, x, y, hx, hxy, hy, hk⟩ := small_node hs ha h
  have ka := key_mem hs.ok ha
  have kk := key_mem hs.ok hk
  have la := sccs_lt (g := g) a _ ka
  have lk := sccs_lt (g := g) k _ kk
  have p1 : Pth g noS (key0 (nb (sccs g) a)) (key0 (nb (sccs g) k)) := ((mem_mut hs.ok ha ka hx).1.snoc hxy rfl).trans (mem_mut hs.ok hk hy kk).1
  have hnot : rB g (key0 (nb (sccs g) k)) (key0 (nb (sccs g) a)) = false := by
    cases e : rB g (key0 (nb (sccs g) k)) (key0 (nb (sccs g) a))
    · rfl
    · have p2 := (rB_iff hs.ok _ lk).1 e
      have := mut_mem hs.ok ha ka lk ⟨p1, p2⟩
      exact absurd (sccs_idx hs.ok hk ha kk this) hne
  have hsub : ∀ m, rB g (key0 (nb (sccs g) k)) m = true → rB g (key0 (nb (sccs g) a)) m = true := fun m hm => (rB_iff hs.ok m la).2 (p1.trans ((rB_iff hs.ok m lk).1 hm))
  unfold rcount
  have hself : rB g (key0 (nb (sccs g) a)) (key0 (nb (sccs g) a)) = true := (rB_iff hs.ok _ la).2 (Pth.refl rfl)
  generalize key0 (nb (sccs g) a) = u at *
  generalize rB g (key0 (nb (sccs g) k)) = R at *
  generalize rB g u = S at *
  have hn : ((List.range g.length).filter R ++ [u]).Nodup := by
    rw [List.nodup_append]
    refine ⟨List.nodup_range.filter _, by simp, fun c hc d hd e => ?_⟩
    simp at hd
    subst hd; subst e
    rw [(List.mem_filter.1 hc).2] at hnot
    cases hnot
  have := List.Nodup.length_le_of_subset hn (l₂ := (List.range g.length).filter S) (fun c hc => by
    rcases List.mem_append.1 hc with h1 | h1
    · exact List.mem_filter.2 ⟨(List.mem_filter.1 h1).1, hsub c (List.mem_filter.1 h1).2⟩
    · simp at h1
      subst h1
      exact List.mem_filter.2 ⟨List.mem_range.2 la, hself⟩)
  rw [List.length_append] at this
  simp at this
  omega
theorem ahd_one {g : List (List Nat)} (hs : Sm g) {k : Nat} (hk : k < (sccs g).length) (hp : ∀ a, a < (sccs g).length → k ∈ nb (smallG g (sccs g)) a → a ∈ ahd (smallG g (sccs g))) : k ∈ ahd (smallG g (sccs g)) := by
  have hd := ahdL_done (smallG g (sccs g)) ((smallG g (sccs g)).length + 1) [] (Ahd.nil _) (by simp)
  by_cases e : k ∈ ahd (smallG g (sccs g))
  · exact e
  · exfalso
    have hl := smallG_len g (sccs g)
    have h6 : (sccs g).length ≤ 600 := Nat.le_trans (sccs_len g) hs.len
    have hw : wts (smallG g (sccs g)) (ahd (smallG g (sccs g))) k = 0 := by
      unfold wts
      have hz : ∀ a, a ∈ ((List.range (smallG g (sccs g)).length).filter fun a => !decide (a ∈ ahd (smallG g (sccs g)))) → occ (nb (smallG g (sccs g)) a) k = 0 := by
        intro a ha
        have h1 := List.mem_range.1 (List.mem_filter.1 ha).1
        have h2 : a ∉ ahd (smallG g (sccs g)) := by simpa using (List.mem_filter.1 ha).2
        unfold occ
        rw [List.length_eq_zero_iff, List.filter_eq_nil_iff]
        intro y hy hyk
        simp at hyk
        subst hyk
        exact h2 (hp a (by omega) hy)
      have hs0 : ∀ l : List Nat, (∀ a, a ∈ l → occ (nb (smallG g (sccs g)) a) k = 0) → (l.map fun a => occ (nb (smallG g (sccs g)) a) k).sum = 0 := by
        intro l hl
        induction l with
        | nil => rfl
        | cons b l ih => rw [List.map_cons, List.sum_cons, hl b (by simp), ih (fun a ha => hl a (by simp [ha]))]
      exact hs0 _ hz
    have hr : rdy (smallG g (sccs g)) (ahd (smallG g (sccs g))) k = true := rdy_iff.2 ⟨by omega, e, hw⟩
    rcases firstI_spec (rdy (smallG g (sccs g)) (ahd (smallG g (sccs g)))) 0 with ⟨_, h1⟩ | ⟨j, e1, _⟩
    · have := h1 k (by omega) (by omega)
      rw [hr] at this
      cases this
    · have hd' : firstI (rdy (smallG g (sccs g)) (ahd (smallG g (sccs g)))) 0 = -1 := hd
      rw [e1] at hd'
      omega
theorem ahd_all {g : List (List Nat)} (hs : Sm g) : ∀ (d k : Nat), k < (sccs g).length → g.length - rcount g k ≤ d → k ∈ ahd (smallG g (sccs g)) := by
  intro d
  induction d with
  | zero =>
    intro k hk hd
    exact ahd_one hs hk (fun a ha hak => by
      have := rcount_lt hs ha hak
      have := rcount_le g a
      omega)
  | succ d ih =>
    intro k hk hd
    exact ahd_one hs hk (fun a ha hak => ih a ha (by
      have := rcount_lt hs ha hak
      have := rcount_le g a
      omega))
end Go.Proofs.YtngdnjlohmkbiaaDoor

namespace Go.Proofs.YtngdnjlohmkbiaaDoor
open Go.RowKit

theorem getD_nodup {l : List Nat} (h : l.Nodup) {i j : Nat} (hi : i < l.length) (hj : j < l.length) (e : l.getD i 0 = l.getD j 0) : i = j := by
  rw [List.getD_eq_getElem?_getD, List.getD_eq_getElem?_getD, List.getElem?_eq_getElem hi, List.getElem?_eq_getElem hj] at e
  exact (List.getElem_inj h).1 e
theorem line_nodup (g : List (List Nat)) : (ahd (smallG g (sccs g))).Nodup := (ahd_ahd _ _ _ (Ahd.nil _)).nodup
theorem line_lt (g : List (List Nat)) {k : Nat} (hk : k ∈ ahd (smallG g (sccs g))) : k < (sccs g).length := by
  have := (ahd_ahd _ _ _ (Ahd.nil _)).lt k hk
  rwa [smallG_len] at this
theorem partsM_len (g : List (List Nat)) : (partsM g).length = (ahd (smallG g (sccs g))).length := by simp [partsM]
theorem nb_parts {g : List (List Nat)} {t : Nat} (ht : t < (partsM g).length) : nb (partsM g) t = nb (sccs g) ((ahd (smallG g (sccs g))).getD t 0) := by
  rw [partsM_len] at ht
  unfold partsM
  rw [nb, List.getD_eq_getElem?_getD, List.getElem?_map, List.getD_eq_getElem?_getD, List.getElem?_eq_getElem ht, Option.map_some, Option.getD_some, Option.getD_some]
theorem line_at (g : List (List Nat)) {t : Nat} (ht : t < (partsM g).length) : (ahd (smallG g (sccs g))).getD t 0 ∈ ahd (smallG g (sccs g)) := getD_mem _ _ _ (by rw [← partsM_len]; exact ht)
/-- Where a node's part stands. -/
theorem pos_has {g : List (List Nat)} (hs : Sm g) {x : Nat} (hx : x < g.length) : ∃ t, t < (partsM g).length ∧ x ∈ nb (partsM g) t := by
  have h1 := plc_mem hs.ok hx
  have h2 := ahd_all hs _ _ h1.2 (Nat.le_refl _)
  obtain ⟨t, ht, e⟩ := List.getElem_of_mem h2
  have ht' : t < (partsM g).length := by rw [partsM_len]; exact ht
  refine ⟨t, ht', ?_⟩
  rw [nb_parts ht', List.getD_eq_getElem?_getD, List.getElem?_eq_getElem ht]
  rw [Option.getD_some, e]
  exact h1.1
theorem pos_plc {g : List (List Nat)} (hs : Sm g) {x t : Nat} (hx : x < g.length) (ht : t < (partsM g).length) (h : x ∈ nb (partsM g) t) : plc g x = (ahd (smallG g (sccs g))).getD t 0 := by
  rw [nb_parts ht] at h
  exact plc_eq hs.ok hx (line_lt g (line_at g ht)) h
theorem pos_uniq {g : List (List Nat)} (hs : Sm g) {x t u : Nat} (hx : x < g.length) (ht : t < (partsM g).length) (hu : u < (partsM g).length) (h1 : x ∈ nb (partsM g) t) (h2 : x ∈ nb (partsM g) u) : t = u :=
  getD_nodup (line_nodup g) (by rw [← partsM_len]; exact ht) (by rw [← partsM_len]; exact hu) ((pos_plc hs hx ht h1).symm.trans (pos_plc hs hx hu h2))
theorem parts_edge {g : List (List Nat)} (hs : Sm g) {a b : Nat} (ha : a < g.length) (hb : b ∈ nb g a) : plcK (partsM g) (partsM g).length a ≤ plcK (partsM g) (partsM g).length b := by
  have hbl := hs.ok a b hb
  have h1 := plcK_mem _ a _ (pos_has hs ha)
  have h2 := plcK_mem _ b _ (pos_has hs hbl)
  generalize plcK (partsM g) (partsM g).length a = ta at *
  generalize plcK (partsM g) (partsM g).length b = tb at *
  have e1 := pos_plc hs ha h1.2 h1.1
  have e2 := pos_plc hs hbl h2.2 h2.1
  by_cases e : plc g b = plc g a
  · have := getD_nodup (line_nodup g) (by rw [← partsM_len]; exact h2.2) (by rw [← partsM_len]; exact h1.2) (e2.symm.trans (e.trans e1))
    omega
  · have h3 := small_edge hs ha hb e
    rw [e2] at h3
    have h4 := ahdL_ord (smallG g (sccs g)) ((smallG g (sccs g)).length + 1) [] (fun t ht => absurd ht (by simp)) tb (by have := h2.2; rw [partsM_len] at this; exact this) (plc g a) h3
    obtain ⟨u, hu, e5⟩ := List.getElem_of_mem h4
    have hu1 : u < tb := by rw [List.length_take] at hu; omega
    have hul : u < (ahd (smallG g (sccs g))).length := by rw [List.length_take] at hu; exact Nat.lt_of_lt_of_le hu (Nat.min_le_right _ _)
    have e6 : (ahd (smallG g (sccs g))).getD u 0 = plc g a := by
      rw [List.getElem_take] at e5
      rw [List.getD_eq_getElem?_getD, List.getElem?_eq_getElem hul, Option.getD_some]
      exact e5
    have := getD_nodup (line_nodup g) hul (by rw [← partsM_len]; exact h1.2) (e6.trans e1)
    omega
/-- Numbers in the first i parts. -/
def cntP (ps : List (List Nat)) (i : Nat) : Nat := ((ps.take i).map List.length).sum
theorem cntP_succ (ps : List (List Nat)) (i : Nat) (hi : i < ps.length) : cntP ps (i + 1) = cntP ps i + (nb ps i).length := by
  unfold cntP
  rw [take_snoc ps i [] hi, List.map_append, List.sum_append]
  simp [nb]
theorem flat_nodup (f : Nat → List Nat) : ∀ l : List Nat, l.Nodup → (∀ a, a ∈ l → (f a).Nodup) → (∀ a b x, a ∈ l → b ∈ l → x ∈ f a → x ∈ f b → a = b) → (l.map f).flatten.Nodup
  | [], _, _, _ => by simp
  | a :: l, hn, h1, h2 => by
    rw [List.map_cons, List.flatten_cons, List.nodup_append]
    rw [List.nodup_cons] at hn
    refine ⟨h1 a (by simp), flat_nodup f l hn.2 (fun b hb => h1 b (by simp [hb])) (fun b c x hb hc => h2 b c x (by simp [hb]) (by simp [hc])), ?_⟩
    intro x hx y hy e
    subst e
    obtain ⟨q, hq, hxq⟩ := List.mem_flatten.1 hy
    obtain ⟨b, hb, rfl⟩ := List.mem_map.1 hq
    have := h2 a b x (by simp) (by simp [hb]) hx hxq
    subst this
    exact hn.1 hb
theorem parts_count {g : List (List Nat)} (hs : Sm g) : cntP (partsM g) (partsM g).length = g.length := by
  unfold cntP
  rw [List.take_length]
  have e : ((partsM g).map List.length).sum = (partsM g).flatten.length := by rw [List.length_flatten]
  rw [e]
  have hn : (partsM g).flatten.Nodup := by
    unfold partsM
    refine flat_nodup _ _ (line_nodup g) (fun k hk => ?_) (fun i j x hi hj h1 h2 => sccs_idx hs.ok (line_lt g hi) (line_lt g hj) h1 h2)
    obtain ⟨a, _, e⟩ := nb_sccs (line_lt g hk)
    rw [e]
    exact part_nodup g a
  have hlt : ∀ x, x ∈ (partsM g).flatten → x < g.length := by
    intro x hx
    obtain ⟨q, hq, hxq⟩ := List.mem_flatten.1 hx
    obtain ⟨a, ha, rfl⟩ := sccs_part (parts_mem hq)
    exact ((mem_part hs.ok x ha).1 hxq).1
  have h1 := nodup_len_le hn hlt
  have h2 := List.Nodup.length_le_of_subset (List.nodup_range (n := g.length)) (l₂ := (partsM g).flatten) (fun x hx => by
    obtain ⟨t, ht, hxt⟩ := pos_has hs (List.mem_range.1 hx)
    exact List.mem_flatten.2 ⟨_, nb_mem ht, hxt⟩)
  rw [List.length_range] at h2
  omega
/-- A part rises. -/
theorem parts_rise {g : List (List Nat)} {t j : Nat} (ht : t < (partsM g).length) (hj : j + 1 < (nb (partsM g) t).length) : (nb (partsM g) t).getD j 0 < (nb (partsM g) t).getD (j + 1) 0 := by
  obtain ⟨a, _, e⟩ := sccs_part (parts_mem (nb_mem ht))
  rw [e] at hj ⊢
  have hp : (part g a).Pairwise (· < ·) := List.Pairwise.sublist List.filter_sublist List.pairwise_lt_range
  have := List.pairwise_iff_getElem.1 hp j (j + 1) (by omega) hj (by omega)
  rw [List.getD_eq_getElem?_getD, List.getD_eq_getElem?_getD, List.getElem?_eq_getElem hj, List.getElem?_eq_getElem (by omega)]
  exact this
end Go.Proofs.YtngdnjlohmkbiaaDoor

namespace Go.Proofs.YtngdnjlohmkbiaaDoor
open Go.RowKit

/-- Who is in a part of the line. -/
def dn (g : List (List Nat)) (line : List Nat) (x : Nat) : Bool := decide (x < g.length) && decide (plc g x ∈ line)
theorem dn_iff {g : List (List Nat)} {line : List Nat} {x : Nat} (hx : x < g.length) : dn g line x = true ↔ plc g x ∈ line := by
  unfold dn
  simp [hx]
theorem dn_no {g : List (List Nat)} {line : List Nat} {x : Nat} (hx : x < g.length) : dn g line x = false ↔ plc g x ∉ line := by
  unfold dn
  simp [hx]
/-- No part that is left reaches it. -/
def Free (g : List (List Nat)) (line : List Nat) (i : Nat) : Prop := dn g line i = false ∧ ∀ k, k < g.length → dn g line k = false → Pth g noS k i → Pth g noS i k

theorem mut_plc {g : List (List Nat)} (hg : Ok g) {x y : Nat} (hx : x < g.length) (hy : y < g.length) : Mut g x y ↔ plc g x = plc g y := by
  have h1 := plc_mem hg hx
  have h2 := plc_mem hg hy
  constructor
  · intro h
    exact (plc_eq hg hy h1.2 (mut_mem hg h1.2 h1.1 hy h)).symm
  · intro e
    rw [← e] at h2
    exact mem_mut hg h1.2 h1.1 h2.1
theorem sum_zero : ∀ (l : List Nat), (∀ x, x ∈ l → x = 0) → l.sum = 0
  | [], _ => rfl
  | a :: l, h => by
    rw [List.sum_cons, h a (by simp), sum_zero l (fun x hx => h x (by simp [hx]))]
theorem wts_zero {h : List (List Nat)} {line : List Nat} {m : Nat} (hp : ∀ i, i < h.length → m ∈ nb h i → i ∈ line) : wts h line m = 0 := by
  unfold wts
  refine sum_zero _ (fun x hx => ?_)
  obtain ⟨a, ha, rfl⟩ := List.mem_map.1 hx
  obtain ⟨h1, h2⟩ := List.mem_filter.1 ha
  unfold occ
  rw [List.filter_eq_nil_iff.2 (fun y hy e => ?_)]
  · rfl
  · have e2 : y = m := by simpa using e
    subst e2
    have := hp a (List.mem_range.1 h1) hy
    simp [this] at h2
theorem edge_dn {g : List (List Nat)} (hs : Sm g) {line : List Nat} (ha : Ahd (smallG g (sccs g)) line) {x y : Nat} (hx : x < g.length) (hy : y ∈ nb g x) (h : dn g line y = true) : dn g line x = true := by
  have hyl := hs.ok x y hy
  rw [dn_iff hyl] at h
  rw [dn_iff hx]
  by_cases e : plc g y = plc g x
  · rw [← e]; exact h
  · exact wts_pred (ha.zero _ h) (by rw [smallG_len]; exact (plc_mem hs.ok hx).2) (small_edge hs hx hy e)
theorem free_iff {g : List (List Nat)} (hs : Sm g) {line : List Nat} (ha : Ahd (smallG g (sccs g)) line) {i : Nat} (hi : i < g.length) : Free g line i ↔ rdy (smallG g (sccs g)) line (plc g i) = true := by
  rw [rdy_iff]
  have hpi := plc_mem hs.ok hi
  constructor
  · rintro ⟨h1, h2⟩
    refine ⟨by rw [smallG_len]; exact hpi.2, (dn_no hi).1 h1, wts_zero (fun a hal hm => ?_)⟩
    rw [smallG_len] at hal
    obtain ⟨hne, x, y, hxa, hxy, hyi, _⟩ := small_node hs hal hm
    have hxl := sccs_lt a x hxa
    have hyl := sccs_lt (plc g i) y hyi
    have hpx : plc g x = a := plc_eq hs.ok hxl hal hxa
    apply Classical.byContradiction
    intro hn
    have hp : Pth g noS x i := Pth.cons rfl hxy (mem_mut hs.ok hpi.2 hyi hpi.1).1
    have hq := h2 x hxl ((dn_no hxl).2 (by rw [hpx]; exact hn)) hp
    have := (mut_plc hs.ok hxl hi).1 ⟨hp, hq⟩
    exact hne (by rw [← this, hpx])
  · rintro ⟨h1, h2, h3⟩
    refine ⟨(dn_no hi).2 h2, fun k hk hd hp => ?_⟩
    have key : ∀ (q u : Nat), u < g.length → Wk g noS q u i → dn g line u = true ∨ Mut g u i := by
      intro q
      induction q with
      | zero =>
        intro u _ hw
        have e : u = i := hw.2
        rw [e]
        exact .inr (Mut.refl g i)
      | succ q ih =>
        rintro u hu ⟨_, c, hc, hw⟩
        have hcl := hs.ok u c hc
        rcases ih c hcl hw with h | h
        · exact .inl (edge_dn hs ha hu hc h)
        · by_cases e : plc g c = plc g u
          · exact .inr (((mut_plc hs.ok hu hcl).2 e.symm).trans h)
          · refine .inl ((dn_iff hu).2 ?_)
            have he := small_edge hs hu hc e
            rw [(mut_plc hs.ok hcl hi).1 h] at he
            exact wts_pred h3 (by rw [smallG_len]; exact (plc_mem hs.ok hu).2) he
    obtain ⟨q, hw⟩ := hp
    rcases key q k hk hw with h | h
    · rw [hd] at h; cases h
    · exact h.2
/-- The least node of a part. -/
def lst (g : List (List Nat)) : List Nat := (List.range g.length).filter (leastB g)
theorem nb_lst {g : List (List Nat)} {k : Nat} (hk : k < (sccs g).length) : nb (sccs g) k = part g ((lst g).getD k 0) ∧ (lst g).getD k 0 ∈ lst g := by
  have e : sccs g = (lst g).map (part g) := rfl
  rw [e, List.length_map] at hk
  refine ⟨?_, getD_mem _ _ _ hk⟩
  rw [e]
  unfold nb
  rw [List.getD_eq_getElem?_getD, List.getElem?_map, List.getElem?_eq_getElem hk, List.getD_eq_getElem?_getD, List.getElem?_eq_getElem hk]
  rfl
theorem lst_sorted (g : List (List Nat)) : (lst g).Pairwise (· < ·) := List.Pairwise.filter _ List.pairwise_lt_range
theorem free_next {g : List (List Nat)} (hs : Sm g) {line : List Nat} (ha : Ahd (smallG g (sccs g)) line) {i : Nat} (hi : i < g.length) (hf : Free g line i) (hl : ∀ j, j < i → ¬ Free g line j) : firstI (rdy (smallG g (sccs g)) line) 0 = (plc g i : Int) := by
  have hr := (free_iff hs ha hi).1 hf
  have hpi := plc_mem hs.ok hi
  have h6 := sccs_len g
  have h66 := hs.len
  rcases firstI_spec (rdy (smallG g (sccs g)) line) 0 with ⟨_, h⟩ | ⟨m, e, _, _, hm, hmin⟩
  · have := h (plc g i) (by omega) (by omega)
    rw [this] at hr; cases hr
  · rw [e]
    have hml : m < (sccs g).length := by have := (rdy_iff.1 hm).1; rwa [smallG_len] at this
    obtain ⟨e1, k1⟩ := nb_lst hml
    obtain ⟨e2, k2⟩ := nb_lst hpi.2
    have hm1 : (lst g).getD m 0 < g.length := List.mem_range.1 (List.mem_filter.1 k1).1
    have hm2 : (lst g).getD (plc g i) 0 < g.length := List.mem_range.1 (List.mem_filter.1 k2).1
    have hpm : plc g ((lst g).getD m 0) = m := plc_eq hs.ok hm1 hml (by rw [e1]; exact part_self hs.ok hm1)
    have hfm : Free g line ((lst g).getD m 0) := (free_iff hs ha hm1).2 (by rw [hpm]; exact hm)
    have h1 : i ≤ (lst g).getD m 0 := by
      apply Classical.byContradiction
      intro hn
      exact hl _ (by omega) hfm
    have h2 : ¬ plc g i < m := fun hlt => by
      have := hmin _ hlt (by omega)
      rw [this] at hr; cases hr
    have h3 : (lst g).getD (plc g i) 0 ≤ i := by
      apply Classical.byContradiction
      intro hn
      have hb := (List.mem_filter.1 k2).2
      unfold leastB at hb
      rw [List.all_eq_true] at hb
      have := hb i (List.mem_range.2 (by omega))
      have hmut : mutB g ((lst g).getD (plc g i) 0) i = true := (mut_iff hs.ok hm2 hi).2 (by
        have := hpi.1
        rw [e2] at this
        exact ((mem_part hs.ok i hm2).1 this).2)
      rw [hmut] at this; cases this
    have h4 : ¬ m < plc g i := fun hlt => by
      have hle : (lst g).length = (sccs g).length := by show _ = ((lst g).map (part g)).length; rw [List.length_map]
      have := List.pairwise_iff_getElem.1 (lst_sorted g) m (plc g i) (by rw [hle]; exact hml) (by rw [hle]; exact hpi.2) hlt
      rw [List.getD_eq_getElem?_getD, List.getElem?_eq_getElem (by rw [hle]; exact hml)] at h1
      rw [List.getD_eq_getElem?_getD, List.getElem?_eq_getElem (by rw [hle]; exact hpi.2)] at h3
      simp only [Option.getD_some] at h1 h3
      omega
    have hmm : m = plc g i := by omega
    rw [hmm]
theorem free_none {g : List (List Nat)} (hs : Sm g) {line : List Nat} (ha : Ahd (smallG g (sccs g)) line) (hl : ∀ j, j < g.length → ¬ Free g line j) : firstI (rdy (smallG g (sccs g)) line) 0 = -1 := by
  rcases firstI_spec (rdy (smallG g (sccs g)) line) 0 with ⟨e, _⟩ | ⟨m, e, _, _, hm, hmin⟩
  · exact e
  · exfalso
    have hml : m < (sccs g).length := by have := (rdy_iff.1 hm).1; rwa [smallG_len] at this
    obtain ⟨e1, k1⟩ := nb_lst hml
    have hm1 : (lst g).getD m 0 < g.length := List.mem_range.1 (List.mem_filter.1 k1).1
    have hpm : plc g ((lst g).getD m 0) = m := plc_eq hs.ok hm1 hml (by rw [e1]; exact part_self hs.ok hm1)
    exact hl _ hm1 ((free_iff hs ha hm1).2 (by rw [hpm]; exact hm))
theorem plc_part {g : List (List Nat)} (hg : Ok g) {i : Nat} (hi : i < g.length) : nb (sccs g) (plc g i) = part g i := by
  have h := plc_mem hg hi
  obtain ⟨a, ha, e⟩ := sccs_part (nb_mem h.2)
  rw [e] at h ⊢
  exact part_eq hg ha hi ((mem_part hg i ha).1 h.1).2
theorem dn_snoc {g : List (List Nat)} (hg : Ok g) {line : List Nat} {i x : Nat} (hi : i < g.length) (hx : x < g.length) : dn g (line ++ [plc g i]) x = (dn g line x || mutB g i x) := by
  rw [Bool.eq_iff_iff, Bool.or_eq_true, dn_iff hx, dn_iff hx, List.mem_append, List.mem_singleton, mut_iff hg hi hx, mut_plc hg hi hx]
  constructor
  · rintro (h | h)
    · exact .inl h
    · exact .inr h.symm
  · rintro (h | h)
    · exact .inl h
    · exact .inr h.symm
/-- In the midst: so many parts of the line have been found. -/
structure Mid (g : List (List Nat)) (line : List Nat) : Prop where
  ahd : Ahd (smallG g (sccs g)) line
  rest : ∃ f, f + line.length = (sccs g).length + 1 ∧ ahdL (smallG g (sccs g)) f line = Go.Proofs.YtngdnjlohmkbiaaDoor.ahd (smallG g (sccs g))
theorem Mid.nil (g : List (List Nat)) : Mid g [] := ⟨Ahd.nil _, (sccs g).length + 1, by simp, by unfold Go.Proofs.YtngdnjlohmkbiaaDoor.ahd; rw [smallG_len]⟩
theorem Mid.len {g : List (List Nat)} {line : List Nat} (h : Mid g line) : line.length ≤ (sccs g).length := by
  have := nodup_len_le h.ahd.nodup h.ahd.lt
  rwa [smallG_len] at this
theorem Mid.next {g : List (List Nat)} (hs : Sm g) {line : List Nat} (h : Mid g line) {i : Nat} (hi : i < g.length) (hf : Free g line i) (hl : ∀ j, j < i → ¬ Free g line j) : Mid g (line ++ [plc g i]) := by
  have e := free_next hs h.ahd hi hf hl
  obtain ⟨f, h1, h2⟩ := h.rest
  have hle := h.len
  obtain ⟨f, rfl⟩ : ∃ q, f = q + 1 := ⟨f - 1, by omega⟩
  refine ⟨h.ahd.snoc (rdy_first _ _ _ e), f, by rw [List.length_append]; simp; omega, ?_⟩
  rw [← ahdL_step _ _ _ e]
  exact h2
theorem Mid.done {g : List (List Nat)} (hs : Sm g) {line : List Nat} (h : Mid g line) (hl : ∀ j, j < g.length → ¬ Free g line j) : line.map (fun k => nb (sccs g) k) = partsM g := by
  obtain ⟨f, h1, h2⟩ := h.rest
  rw [ahdL_end _ _ (free_none hs h.ahd hl)] at h2
  unfold partsM
  rw [← h2]
end Go.Proofs.YtngdnjlohmkbiaaDoor

namespace Go.Proofs.YtngdnjlohmkbiaaDoor
open Go.RowKit

def nums (l : List Int) : List Value := l.map (Value.int .i64)
theorem nums_len (l : List Int) : (nums l).length = l.length := by unfold nums; rw [List.length_map]
theorem nums_get (l : List Int) (i : Nat) (h : i < l.length) : (nums l)[i]? = some (.int .i64 (l.getD i 0)) := by
  unfold nums
  simp [List.getD, List.getElem?_eq_getElem h]
theorem nums_one (l : List Int) : ∀ u ∈ nums l, u.oneCell' = true := ints_oneCell .i64 l

/-- A slice's numbers, from place off of block g on, and the room behind them. -/
structure LineAt (w : World) (g off cap : Nat) (l : List Int) : Prop where
  cell : ∀ i, i < l.length → w.cell? ⟨g, off + i, none⟩ = some (.int .i64 (l.getD i 0))
  room : ∀ k, k < cap → (w.cell? ⟨g, off + k, none⟩).isSome = true ∧ w.frozen? ⟨g, off + k, none⟩ = false
  len : l.length ≤ cap
  max : cap ≤ 9223372036854775807
  lt : g < w.heap.size

theorem Keeps.frozen {L : List Nat} {w w' : World} (h : Keeps L w w') {p : Addr} (hp : p.block < w.heap.size) (hn : p.block ∉ L) : w'.frozen? p = w.frozen? p :=
  World.frozen?_of_block (w := w) (h.block p.block hp hn)

theorem LineAt.kept {w w' : World} {g off cap : Nat} {l : List Int} {L : List Nat} (h : LineAt w g off cap l) (k : Keeps L w w') (hn : g ∉ L) : LineAt w' g off cap l :=
  ⟨fun i hi => by rw [k.cell (p := ⟨g, off + i, none⟩) h.lt hn]; exact h.cell i hi,
   fun i hi => by rw [k.cell (p := ⟨g, off + i, none⟩) h.lt hn, k.frozen (p := ⟨g, off + i, none⟩) h.lt hn]; exact h.room i hi,
   h.len, h.max, Nat.lt_of_lt_of_le h.lt k.size⟩

theorem LineAt.of_owns {w : World} {base : Nat} {v : Value} {n : Nat} {l : List Int} (h : w.ownsRow base 3 1 v n (nums l)) (hv : v ≠ .slice none 0 0) :
    ∃ g cap, v = .slice (some ⟨g, 0, none⟩) n cap ∧ base ≤ g ∧ l.length = n ∧ LineAt w g 0 cap l := by
  have hl : l.length = n := by have := h.1; rw [nums_len] at this; omega
  rcases h.2 with ⟨e, _⟩ | ⟨g, cap, cur, rfl, hb, hg, hnc, hcm, hcs, ht⟩
  · exact absurd e hv
  · refine ⟨g, cap, rfl, hb, hl, ⟨fun i hi => ?_, fun k hk => ?_, by omega, by unfold maxLen at hcm; omega, (Array.getElem?_eq_some_iff.1 hg).1⟩⟩
    · rw [Nat.zero_add, h.cellAt i (by omega), nums_get l i hi]
    · refine ⟨?_, frozen_of_row w g _ _ _ hg⟩
      rw [cell_of_row w g _ _ _ _ hg, Nat.zero_add, Array.getElem?_eq_getElem (by omega)]
      rfl

theorem cell_setCells (w : World) (b o k : Nat) (vs : List Value) (ht : ∀ j, j < vs.length → (w.cell? ⟨b, o + j, none⟩).isSome = true) :
    (w.setCells b o vs).cell? ⟨b, k, none⟩ = if o ≤ k ∧ k < o + vs.length then vs[k - o]? else w.cell? ⟨b, k, none⟩ := by
  by_cases h : o ≤ k ∧ k < o + vs.length
  · rw [if_pos h]
    have := World.cell?_setCells_in b vs o w ht (k - o) (by omega)
    rw [show o + (k - o) = k by omega] at this
    rw [this, List.getElem?_eq_getElem]
  · rw [if_neg h]
    exact World.cell?_setCells_out b vs o w _ (fun _ _ => by show k < o ∨ o + vs.length ≤ k; omega)

theorem Keeps.setCells (g : Nat) : ∀ (vs : List Value) (o : Nat) (w : World), Keeps [g] w (w.setCells g o vs)
  | [], _, w => Keeps.refl _ _
  | v :: r, o, w => by
    rw [World.setCells]
    exact (Keeps.setCell [g] w ⟨g, o, none⟩ v (by simp)).step (Keeps.setCells g r (o + 1) _)

theorem some_setCells (w : World) (b o k : Nat) (vs : List Value) (ht : ∀ j, j < vs.length → (w.cell? ⟨b, o + j, none⟩).isSome = true) (hk : (w.cell? ⟨b, k, none⟩).isSome = true) : ((w.setCells b o vs).cell? ⟨b, k, none⟩).isSome = true := by
  rw [cell_setCells w b o k vs ht]
  by_cases h : o ≤ k ∧ k < o + vs.length
  · rw [if_pos h, List.getElem?_eq_getElem (by omega)]; rfl
  · rw [if_neg h]; exact hk

/-- Cells of the row are written: what the row then holds. -/
theorem LineAt.set {w : World} {g off cap : Nat} {l : List Int} (h : LineAt w g off cap l) (o : Nat) (vs : List Value) (l' : List Int) (ho : o + vs.length ≤ cap) (hl : l'.length ≤ cap)
    (hc : ∀ i, i < l'.length → (if o ≤ i ∧ i < o + vs.length then vs[i - o]? else w.cell? ⟨g, off + i, none⟩) = some (.int .i64 (l'.getD i 0))) : LineAt (w.setCells g (off + o) vs) g off cap l' := by
  have ht : ∀ j, j < vs.length → (w.cell? ⟨g, off + o + j, none⟩).isSome = true := fun j hj => by rw [Nat.add_assoc]; exact (h.room (o + j) (by omega)).1
  refine ⟨fun i hi => ?_, fun k hk => ⟨some_setCells w g _ _ vs ht (h.room k hk).1, by rw [World.frozen?_setCells]; exact (h.room k hk).2⟩, hl, h.max, Nat.lt_of_lt_of_le h.lt (Keeps.setCells g vs _ w).size⟩
  rw [cell_setCells w g (off + o) (off + i) vs ht, ← hc i hi]
  by_cases c : o ≤ i ∧ i < o + vs.length
  · rw [if_pos c, if_pos (by omega), show off + i - (off + o) = i - o by omega]
  · rw [if_neg c, if_neg (by omega)]

theorem info3_int : (Tryd.prog.info? 3).map (fun i => (i.zero, i.size, i.bytes)) = some (some (.int .i64 0), 1, 8) := by kernel_rfl

theorem getD_snoc (l : List Int) (x : Int) (i : Nat) (h : i < l.length + 1) : (l ++ [x]).getD i 0 = if i < l.length then l.getD i 0 else x := by
  rw [List.getD_eq_getElem?_getD, List.getD_eq_getElem?_getD]
  by_cases c : i < l.length
  · rw [if_pos c, List.getElem?_append_left c]
  · obtain rfl : i = l.length := by omega
    rw [if_neg c]; simp

/-- One number is appended to the line: where there is room, and where there is none. -/
theorem run_append_line (w : World) (ty : TypeId) (l : List Int) (x : Int) (lv : Value)
    (hv : (lv = .slice none 0 0 ∧ l = []) ∨ ∃ g off cap, lv = .slice (some ⟨g, off, none⟩) l.length cap ∧ LineAt w g off cap l) (ad : Addr) (c : Nat)
    (hnew : ∀ j u, [Value.int .i64 x][j]? = some u → w.cell? (ad.add j) = some u) (hb : l.length < 1000000) :
    ∃ g' off' cap' w', (Builtin.append_ #[23, 23] ty #[lv, .slice (some ad) 1 c]).run Tryd.prog w = .ok (.slice (some ⟨g', off', none⟩) (l.length + 1) cap') w' ∧
      LineAt w' g' off' cap' (l ++ [x]) ∧ Keeps lv.ownBlock.toList w w' ∧ (lv.ownBlock = some g' ∨ g' = w.heap.size) := by
  obtain ⟨i0, hi, hz0, hz1, hz2⟩ := info_parts info3_int
  have h1 : ∀ u ∈ [Value.int .i64 x], u.oneCell' = true := by intro u hu; simp at hu; subst hu; rfl
  have fresh : ∀ (v' : Value) (w' : World), w'.ownsRow w.heap.size 3 1 v' (l.length + 1) (nums l ++ [Value.int .i64 x]) → w.grownBy w' none → w'.heap.size = w.heap.size + 1 →
      ∃ g' off' cap', v' = .slice (some ⟨g', off', none⟩) (l.length + 1) cap' ∧ LineAt w' g' off' cap' (l ++ [x]) ∧ Keeps lv.ownBlock.toList w w' ∧ (lv.ownBlock = some g' ∨ g' = w.heap.size) := by
    intro v' w' ho hg hsz
    have e : nums l ++ [Value.int .i64 x] = nums (l ++ [x]) := by unfold nums; rw [List.map_append]; rfl
    rw [e] at ho
    obtain ⟨g', cap', rfl, hbg, hl, hline⟩ := LineAt.of_owns ho (by
      intro ev
      rcases ho.2 with ⟨_, h0⟩ | ⟨_, _, _, h', _⟩
      · omega
      · rw [ev] at h'; simp at h')
    have := hline.lt
    exact ⟨g', 0, cap', rfl, hline, Keeps.grown _ hg (fun k hk => by cases hk), Or.inr (by omega)⟩
  rcases hv with ⟨rfl, rfl⟩ | ⟨g, off, cap, rfl, hline⟩
  · have hr := run_append_nil (P := Tryd.prog) w 23 ty 3 i0 (.int .i64 0) Tryd.underlying23 hi hz0 ad 1 c [Value.int .i64 x] (by rw [hz1]; rfl) hnew (by omega) (by omega) (by rw [hz2]; omega)
    have hge := grownCap_ge w 1 0 3
    have hle := grownCap_le_maxLen w 1 0 3 (by unfold maxLen; omega)
    have ho : (w.drew.alloc (.cells ([Value.int .i64 x].toArray ++ Builtin.zeroCells (Value.int .i64 0).cells (grownCap w 1 0 3 - 1)) 3)).ownsRow w.heap.size 3 1 (.slice (some ⟨w.heap.size, 0, none⟩) 1 (grownCap w 1 0 3)) 1 (nums [] ++ [Value.int .i64 x]) := by
      refine ⟨rfl, .inr ⟨_, _, _, rfl, Nat.le_refl _, heap_alloc_new w.drew _, hge, hle, ?_, ?_⟩⟩
      · simp only [Array.size_append, List.size_toArray, size_zeroCells]
        show 1 + (grownCap w 1 0 3 - 1) * 1 = _
        omega
      · simp [nums]
    obtain ⟨g', off', cap', e, r⟩ := fresh _ _ ho ⟨rfl, rfl, rfl, by simp, fun k hk _ => heap_alloc_old w.drew _ hk⟩ (by simp)
    exact ⟨g', off', cap', _, by rw [hr, ← e], r⟩
  · by_cases hroom : l.length + 1 ≤ cap
    · have hr := run_append_room_cells (P := Tryd.prog) w 23 ty 3 i0 Tryd.underlying23 hi g off l.length cap ad 1 c [Value.int .i64 x] (by rw [hz1]; rfl) hnew h1 hroom
        (fun j hj => by rw [hz1, Nat.mul_one, Nat.add_assoc]; simp at hj; exact (hline.room _ (by omega)).1) (fun j hj => by rw [hz1, Nat.mul_one, Nat.add_assoc]; simp at hj; exact (hline.room _ (by omega)).2)
      rw [hz1, Nat.mul_one] at hr
      refine ⟨g, off, cap, _, hr, hline.set l.length _ (l ++ [x]) (by simpa using hroom) (by simpa using hroom) (fun i hi => ?_), Keeps.setCells g _ _ w, Or.inl rfl⟩
      rw [List.length_append] at hi
      simp at hi
      rw [getD_snoc l x i hi]
      by_cases ci : i < l.length
      · rw [if_pos ci, if_neg (by omega)]; exact hline.cell i ci
      · obtain rfl : i = l.length := by omega
        rw [if_neg ci, if_pos (by simp)]; simp
    · have hr0 : ∃ v' w', (Builtin.append_ #[23, 23] ty #[.slice (some ⟨g, off, none⟩) l.length cap, .slice (some ad) 1 c]).run Tryd.prog w = .ok v' w' ∧ w'.ownsRow w.heap.size 3 1 v' (l.length + 1) (nums l ++ [Value.int .i64 x]) ∧ w.grownBy w' none ∧ w'.heap.size = w.heap.size + 1 := by
        have hlo : (nums l).length = l.length * i0.size := by rw [nums_len, hz1]; omega
        have hol : ∀ j u, (nums l)[j]? = some u → w.cell? ((⟨g, off, none⟩ : Addr).add j) = some u := by
          intro j u hu
          have hj : j < l.length := by
            have := (List.getElem?_eq_some_iff.1 hu).1
            rwa [nums_len] at this
          rw [nums_get l j hj] at hu
          rw [Addr.add_lit, hline.cell j hj]
          exact hu
        have hr := run_append_grow (P := Tryd.prog) w 23 ty 3 i0 (.int .i64 0) Tryd.underlying23 hi hz0 ⟨g, off, none⟩ l.length cap (nums l) hlo hol ad 1 c [Value.int .i64 x] (by rw [hz1]; rfl) hnew (by omega) (by omega) (growslice_fits (by omega) (by rw [hz2]; omega))
        refine ⟨_, _, hr, ?_, ⟨rfl, rfl, rfl, by simp, fun k hk _ => heap_alloc_old w.drew _ hk⟩, by simp⟩
        have hge := grownCap_ge w (l.length + 1) cap 3
        have hle := grownCap_le_maxLen w (l.length + 1) cap 3 (by unfold maxLen; omega)
        have hll : (nums l ++ [Value.int .i64 x]).length = l.length + 1 := by rw [List.length_append, nums_len]; rfl
        refine ⟨by rw [hll]; omega, .inr ⟨_, _, _, rfl, Nat.le_refl _, heap_alloc_new w.drew _, hge, hle, ?_, ?_⟩⟩
        · simp only [Array.size_append, List.size_toArray, size_zeroCells, nums_len]
          show l.length + 1 + (grownCap w (l.length + 1) cap 3 - (l.length + 1)) * 1 = _
          omega
        · simp only [Array.toList_append, List.append_assoc, Nat.mul_one]
          rw [← List.append_assoc]
          exact List.take_left' hll
      obtain ⟨v', w', hr, ho, hg, hsz⟩ := hr0
      obtain ⟨g', off', cap', rfl, r⟩ := fresh v' w' ho hg hsz
      exact ⟨g', off', cap', w', hr, r⟩

/-- The same at the operation. -/
theorem wpList_append_line {ops : Array Oper} {rest : List Oper} {o : Oper} {a : Act} {Q : Exit → Act → World → Prop} (w : World) (hgd : o.guard = none) (s x' : Operand)
    (ho : o.op = .call { callee := .builtin .append, args := #[s, x'], argTypes := #[23, 23] })
    (l : List Int) (x : Int) (lv : Value) (hs : a.eval s = lv) (hv : (lv = .slice none 0 0 ∧ l = []) ∨ ∃ g off cap, lv = .slice (some ⟨g, off, none⟩) l.length cap ∧ LineAt w g off cap l)
    (ad : Addr) (c : Nat) (hx : a.eval x' = .slice (some ad) 1 c) (hnew : ∀ j u, [Value.int .i64 x][j]? = some u → w.cell? (ad.add j) = some u) (hb : l.length < 1000000)
    (h : ∀ g' off' cap' w', LineAt w' g' off' cap' (l ++ [x]) → Keeps lv.ownBlock.toList w w' → (lv.ownBlock = some g' ∨ g' = w.heap.size) → wpList Tryd.prog ops Q rest (a.put o.dst (.slice (some ⟨g', off', none⟩) (l.length + 1) cap')) w') :
    wpList Tryd.prog ops Q (o :: rest) a w := by
  refine wpList_plain hgd fun K hK => ?_
  obtain ⟨g', off', cap', w', hr, h2, h3, h4⟩ := run_append_line w o.type l x lv hv ad c hnew hb
  unfold Oper.wp execOp
  simp only [ho, resolve, invoke, builtin, Sem.run_bind, Sem.run_pure, Result.andThen_ok, List.map_toArray, List.map_cons, List.map_nil, hs, hx, hr]
  exact hK _ _ (h g' off' cap' w' h2 h3 h4)

end Go.Proofs.YtngdnjlohmkbiaaDoor

namespace Go.Proofs.YtngdnjlohmkbiaaDoor

/-- One more into the queue, if it is new and not barred. -/
def push1 (av : Nat → Bool) (st : (Nat → Bool) × List Nat) (b : Nat) : (Nat → Bool) × List Nat := if st.1 b = true ∨ av b = true then st else (ins st.1 b, st.2 ++ [b])
def pushes (av : Nat → Bool) (st : (Nat → Bool) × List Nat) (l : List Nat) : (Nat → Bool) × List Nat := l.foldl (push1 av) st
theorem pushes_cons (av : Nat → Bool) (st : (Nat → Bool) × List Nat) (b : Nat) (l : List Nat) : pushes av st (b :: l) = pushes av (push1 av st b) l := rfl
theorem pushes_snoc (av : Nat → Bool) (st : (Nat → Bool) × List Nat) (b : Nat) (l : List Nat) : pushes av st (l ++ [b]) = push1 av (pushes av st l) b := by
  unfold pushes
  rw [List.foldl_append]
  rfl
theorem ins_true {s : Nat → Bool} {b u : Nat} : ins s b u = true ↔ s u = true ∨ u = b := by
  show (s u || (u == b)) = true ↔ _
  rw [Bool.or_eq_true, beq_iff_eq]
theorem push1_set (av : Nat → Bool) (st : (Nat → Bool) × List Nat) (b u : Nat) : (push1 av st b).1 u = true ↔ st.1 u = true ∨ (u = b ∧ av b = false) := by
  unfold push1
  by_cases h : st.1 b = true ∨ av b = true
  · rw [if_pos h]
    constructor
    · exact .inl
    · rintro (h1 | ⟨rfl, h1⟩)
      · exact h1
      · rcases h with h | h
        · exact h
        · rw [h1] at h; cases h
  · rw [if_neg h, ins_true]
    have h2 : av b = false := by
      cases e : av b with
      | false => rfl
      | true => exact absurd (.inr e) h
    exact ⟨fun q => q.imp id fun e => ⟨e, h2⟩, fun q => q.imp id fun e => e.1⟩
theorem push1_line (av : Nat → Bool) (st : (Nat → Bool) × List Nat) (b u : Nat) : u ∈ (push1 av st b).2 ↔ u ∈ st.2 ∨ (u = b ∧ st.1 u = false ∧ av u = false) := by
  unfold push1
  by_cases h : st.1 b = true ∨ av b = true
  · rw [if_pos h]
    constructor
    · exact .inl
    · rintro (h1 | ⟨rfl, h2, h3⟩)
      · exact h1
      · rcases h with h | h
        · rw [h] at h2; cases h2
        · rw [h] at h3; cases h3
  · rw [if_neg h]
    have h1 : st.1 b = false := by
      cases e : st.1 b with
      | false => rfl
      | true => exact absurd (.inl e) h
    have h2 : av b = false := by
      cases e : av b with
      | false => rfl
      | true => exact absurd (.inr e) h
    simp only [List.mem_append, List.mem_singleton]
    constructor
    · rintro (h3 | rfl)
      · exact .inl h3
      · exact .inr ⟨rfl, h1, h2⟩
    · rintro (h3 | ⟨rfl, _⟩)
      · exact .inl h3
      · exact .inr rfl
theorem pushes_set (av : Nat → Bool) (l : List Nat) : ∀ (st : (Nat → Bool) × List Nat) (u : Nat), (pushes av st l).1 u = true ↔ st.1 u = true ∨ (u ∈ l ∧ av u = false) := by
  induction l with
  | nil => intro st u; simp [pushes]
  | cons b l ih =>
    intro st u
    rw [pushes_cons, ih, push1_set, List.mem_cons, or_assoc]
    refine or_congr Iff.rfl ?_
    constructor
    · rintro (⟨rfl, h⟩ | ⟨h1, h2⟩)
      · exact ⟨.inl rfl, h⟩
      · exact ⟨.inr h1, h2⟩
    · rintro ⟨rfl | h1, h2⟩
      · exact .inl ⟨rfl, h2⟩
      · exact .inr ⟨h1, h2⟩
theorem pushes_keep (av : Nat → Bool) (l : List Nat) : ∀ (st : (Nat → Bool) × List Nat) (u : Nat), u ∈ st.2 → u ∈ (pushes av st l).2 := by
  induction l with
  | nil => intro st u h; exact h
  | cons b l ih => intro st u h; rw [pushes_cons]; exact ih _ u ((push1_line av st b u).2 (.inl h))
theorem pushes_new (av : Nat → Bool) (l : List Nat) : ∀ (st : (Nat → Bool) × List Nat) (u : Nat), (pushes av st l).1 u = true → st.1 u = false → u ∈ (pushes av st l).2 := by
  induction l with
  | nil => intro st u h1 h2; rw [show (pushes av st []).1 u = st.1 u from rfl, h2] at h1; cases h1
  | cons b l ih =>
    intro st u h1 h2
    rw [pushes_cons] at h1 ⊢
    cases h3 : (push1 av st b).1 u with
    | false => exact ih _ u h1 h3
    | true =>
      rcases (push1_set av st b u).1 h3 with h4 | ⟨rfl, h4⟩
      · rw [h2] at h4; cases h4
      · exact pushes_keep av l _ u ((push1_line av st u u).2 (.inr ⟨rfl, h2, h4⟩))
theorem pushes_in (av : Nat → Bool) (l : List Nat) : ∀ (st : (Nat → Bool) × List Nat), (∀ u, u ∈ st.2 → st.1 u = true) → ∀ u, u ∈ (pushes av st l).2 → (pushes av st l).1 u = true := by
  induction l with
  | nil => intro st h u hu; exact h u hu
  | cons b l ih =>
    intro st h u hu
    rw [pushes_cons] at hu ⊢
    refine ih _ (fun v hv => ?_) u hu
    rcases (push1_line av st b v).1 hv with h1 | ⟨rfl, _, h2⟩
    · exact (push1_set av st b v).2 (.inl (h v h1))
    · exact (push1_set av st v v).2 (.inr ⟨rfl, h2⟩)
theorem pushes_un (av : Nat → Bool) (g : List (List Nat)) (l : List Nat) : ∀ (st : (Nat → Bool) × List Nat), (∀ b, b ∈ l → b < g.length) → un g (pushes av st l).1 + (pushes av st l).2.length ≤ un g st.1 + st.2.length := by
  induction l with
  | nil => intro st _; exact Nat.le_refl _
  | cons b l ih =>
    intro st hl
    rw [pushes_cons]
    refine Nat.le_trans (ih _ (fun x hx => hl x (by simp [hx]))) ?_
    unfold push1
    by_cases h : st.1 b = true ∨ av b = true
    · rw [if_pos h]; exact Nat.le_refl _
    · rw [if_neg h]
      have h1 : st.1 b = false := by
        cases e : st.1 b with
        | false => rfl
        | true => exact absurd (.inl e) h
      have := un_ins g st.1 b h1 (hl b (by simp))
      simp only [List.length_append, List.length_singleton]
      omega
theorem pushes_lt (av : Nat → Bool) {N : Nat} (l : List Nat) : ∀ (st : (Nat → Bool) × List Nat), (∀ b, b ∈ l → b < N) → (∀ u, u ∈ st.2 → u < N) → ∀ u, u ∈ (pushes av st l).2 → u < N := by
  induction l with
  | nil => intro st _ h u hu; exact h u hu
  | cons b l ih =>
    intro st hl h u hu
    rw [pushes_cons] at hu
    refine ih _ (fun x hx => hl x (by simp [hx])) (fun v hv => ?_) u hu
    rcases (push1_line av st b v).1 hv with h1 | ⟨rfl, _⟩
    · exact h v h1
    · exact hl v (by simp)
structure Qu (g : List (List Nat)) (av : Nat → Bool) (ns : List Nat) (st : (Nat → Bool) × List Nat) : Prop where
  from_ : ∀ u, st.1 u = true → ∃ z, z ∈ ns ∧ Pth g av z u
  line : ∀ u, u ∈ st.2 → st.1 u = true
  closed : ∀ u, st.1 u = true → u ∉ st.2 → ∀ v, v ∈ nb g u → av v = false → st.1 v = true
  start : ∀ z, z ∈ ns → av z = false → st.1 z = true
theorem Qu.begin (g : List (List Nat)) (av : Nat → Bool) (ns : List Nat) : Qu g av ns (pushes av (noS, []) ns) := by
  have h0 : ∀ u, noS u = false := fun _ => rfl
  refine ⟨fun u hu => ?_, pushes_in av ns _ (by simp), fun u hu hn => absurd (pushes_new av ns (noS, []) u hu (h0 u)) hn, fun z hz ha => (pushes_set av ns _ z).2 (.inr ⟨hz, ha⟩)⟩
  rcases (pushes_set av ns _ u).1 hu with h | ⟨h, ha⟩
  · cases h
  · exact ⟨u, h, Pth.refl ha⟩
theorem Qu.step {g : List (List Nat)} {av : Nat → Bool} {ns : List Nat} {s : Nat → Bool} {a : Nat} {q : List Nat} (h : Qu g av ns (s, a :: q)) : Qu g av ns (pushes av (s, q) (nb g a)) := by
  have ha : s a = true := h.line a (by simp)
  refine ⟨fun u hu => ?_, pushes_in av _ _ (fun u hu => h.line u (List.mem_cons_of_mem _ hu)), fun u hu hn v hv hav => ?_, fun z hz hav => (pushes_set av _ _ z).2 (.inl (h.start z hz hav))⟩
  · rcases (pushes_set av _ _ u).1 hu with h1 | ⟨h1, h2⟩
    · exact h.from_ u h1
    · obtain ⟨z, hz, p⟩ := h.from_ a ha
      exact ⟨z, hz, p.snoc h1 h2⟩
  · by_cases hs : s u = true
    · by_cases e : u = a
      · subst e; exact (pushes_set av _ _ v).2 (.inr ⟨hv, hav⟩)
      · have hnq : u ∉ a :: q := by
          intro hm
          rcases List.mem_cons.1 hm with h1 | h1
          · exact e h1
          · exact hn (pushes_keep av _ _ u h1)
        exact (pushes_set av _ _ v).2 (.inl (h.closed u hs hnq v hv hav))
    · exact absurd (pushes_new av _ (s, q) u hu (by simpa using hs)) hn
theorem Qu.done {g : List (List Nat)} {av : Nat → Bool} {ns : List Nat} {st : (Nat → Bool) × List Nat} (h : Qu g av ns st) (he : st.2 = []) (u : Nat) : st.1 u = true ↔ ∃ z, z ∈ ns ∧ Pth g av z u := by
  refine ⟨h.from_ u, ?_⟩
  rintro ⟨z, hz, p⟩
  exact p.carry (C := fun u => st.1 u = true) (fun x hx _ v hv hs => h.closed x hx (by rw [he]; simp) v hv hs) (h.start z hz p.start)
end Go.Proofs.YtngdnjlohmkbiaaDoor

namespace Go.Proofs.YtngdnjlohmkbiaaDoor
open Go.RowKit

/-- Marks. -/
def bw (s : Nat → Bool) (i : Nat) : Value := .bool (s i)
theorem bw_put {w : World} {B0 b gn : Nat} {s : Nat → Bool} (h : RowAt w B0 b gn 4 (bw s)) (n : Nat) : RowAt (w.setCell ⟨b, n, none⟩ (.bool true)) B0 b gn 4 (bw (ins s n)) := by
  refine (h.put n (.bool true)).congr (fun i _ => ?_)
  unfold bw ins
  by_cases e : i = n
  · subst e; simp
  · simp [e]
theorem bzero : Tryd.t4.zero = some (.bool false) := by kernel_rfl
theorem bsize : Tryd.t4.size = 1 := by kernel_rfl
theorem bbytes : Tryd.t4.bytes = 1 := by kernel_rfl
theorem binfo : Tryd.prog.info? 4 = some Tryd.t4 := by kernel_rfl
theorem bunder : Tryd.prog.underlying 34 = some (.slice 4) := by kernel_rfl

/-- Whom to keep off. -/
def avI (wo : Int) : Nat → Bool := fun m => decide ((m : Int) = wo)
/-- The queue in memory. -/
def WLine (w : World) (base ps : Nat) (lv : Value) (l : List Nat) : Prop :=
  (lv = .slice none 0 0 ∧ l = []) ∨ ∃ g off cap, lv = .slice (some ⟨g, off, none⟩) l.length cap ∧ LineAt w g off cap (intsI l) ∧ base ≤ g ∧ g ≠ ps
structure RQ (w wr : World) (ps N : Nat) (lv : Value) (st : (Nat → Bool) × List Nat) : Prop where
  row : RowAt wr w.heap.size ps N 4 (bw st.1)
  line : WLine wr w.heap.size ps lv st.2
  keep : Keeps [] w wr
theorem WLine.arm {w : World} {base ps : Nat} {lv : Value} {l : List Nat} (h : WLine w base ps lv l) : (lv = .slice none 0 0 ∧ intsI l = []) ∨ ∃ g off cap, lv = .slice (some ⟨g, off, none⟩) (intsI l).length cap ∧ LineAt w g off cap (intsI l) := by
  rcases h with ⟨h1, h2⟩ | ⟨g, off, cap, h1, h2, _, _⟩
  · exact .inl ⟨h1, by rw [h2]; rfl⟩
  · exact .inr ⟨g, off, cap, by rw [intsI_len]; exact h1, h2⟩
theorem WLine.len {w : World} {base ps : Nat} {lv : Value} {l : List Nat} (h : WLine w base ps lv l) : ∃ a c, lv = .slice a l.length c := by
  rcases h with ⟨rfl, rfl⟩ | ⟨g, off, cap, rfl, _⟩
  · exact ⟨none, 0, rfl⟩
  · exact ⟨_, _, rfl⟩
theorem WLine.kept {w w' : World} {base ps : Nat} {lv : Value} {l L : List Nat} (h : WLine w base ps lv l) (k : Keeps L w w') (hL : ∀ x, x ∈ L → lv.ownBlock ≠ some x) : WLine w' base ps lv l := by
  rcases h with h | ⟨g, off, cap, rfl, h2, h3, h4⟩
  · exact .inl h
  · exact .inr ⟨g, off, cap, rfl, h2.kept k (fun hx => hL g hx rfl), h3, h4⟩
theorem WLine.own {w : World} {base ps : Nat} {lv : Value} {l : List Nat} (h : WLine w base ps lv l) : ∀ x, lv.ownBlock = some x → base ≤ x ∧ x ≠ ps ∧ x < w.heap.size := by
  intro x hx
  rcases h with ⟨rfl, _⟩ | ⟨g, off, cap, rfl, h2, h3, h4⟩
  · cases hx
  · have : g = x := Option.some.inj hx
    subst this
    exact ⟨h3, h4, h2.lt⟩
theorem intsI_snoc (l : List Nat) (x : Nat) : intsI (l ++ [x]) = intsI l ++ [(x : Int)] := by unfold intsI; rw [List.map_append]; rfl
/-- A mark is set. -/
theorem RQ.mark {w wr : World} {ps N : Nat} {lv : Value} {st : (Nat → Bool) × List Nat} (h : RQ w wr ps N lv st) (b : Nat) : RQ w (wr.setCell ⟨ps, b, none⟩ (.bool true)) ps N lv (ins st.1 b, st.2) := by
  have k : Keeps [ps] wr (wr.setCell ⟨ps, b, none⟩ (.bool true)) := Keeps.setCell _ _ _ _ (by simp)
  exact ⟨bw_put h.row b, h.line.kept k (fun x hx e => by simp at hx; exact (h.line.own x e).2.1 hx), h.keep.fresh k (fun x hx => by have := h.row.lt.1; simp at hx; omega)⟩
theorem RQ.quiet {w wr wy : World} {ps N : Nat} {lv : Value} {st : (Nat → Bool) × List Nat} (h : RQ w wr ps N lv st) (k : Keeps [] wr wy) : RQ w wy ps N lv st :=
  ⟨h.row.kept k (by simp), h.line.kept k (by simp), h.keep.quiet k⟩
/-- One more stands at the end. -/
theorem RQ.push {w wr wa w5 : World} {ps N : Nat} {lv : Value} {st : (Nat → Bool) × List Nat} {b g5 off5 cap5 : Nat} (h : RQ w wr ps N lv st) (ka : Keeps [] wr wa) (hl : LineAt w5 g5 off5 cap5 (intsI st.2 ++ [(b : Int)])) (k5 : Keeps lv.ownBlock.toList wa w5) (hat : lv.ownBlock = some g5 ∨ g5 = wa.heap.size) :
    RQ w w5 ps N (.slice (some ⟨g5, off5, none⟩) ((intsI st.2).length + 1) cap5) (st.1, st.2 ++ [b]) := by
  have h2 := h.quiet ka
  have hps := h2.row.lt
  refine ⟨h2.row.kept k5 (fun hx => (h2.line.own ps (by simpa using hx)).2.1 rfl), .inr ⟨g5, off5, cap5, ?_, ?_, ?_, ?_⟩, h2.keep.fresh k5 (fun x hx => (h2.line.own x (by simpa using hx)).1)⟩
  · rw [intsI_len, List.length_append]; rfl
  · show LineAt w5 g5 off5 cap5 (intsI (st.2 ++ [b]))
    rw [intsI_snoc]; exact hl
  · rcases hat with e | e
    · exact (h2.line.own g5 e).1
    · have := h2.keep.size; omega
  · rcases hat with e | e
    · exact (h2.line.own g5 e).2.1
    · omega

/-- The first one goes. -/
theorem LineAt.tail {w : World} {g off cap : Nat} {x : Int} {l : List Int} (h : LineAt w g off cap (x :: l)) : LineAt w g (off + 1) (cap - 1) l := by
  have hl := h.len
  have hm := h.max
  have hlen : (x :: l).length = l.length + 1 := rfl
  refine ⟨fun i hi => ?_, fun k hk => ?_, by omega, by omega, h.lt⟩
  · have := h.cell (i + 1) (by omega)
    rw [Nat.add_assoc, Nat.add_comm 1 i]
    exact this
  · have := h.room (k + 1) (by omega)
    rw [Nat.add_assoc, Nat.add_comm 1 k]
    exact this
theorem WLine.pop {w : World} {base ps g off cap x : Nat} {l : List Nat} (h : LineAt w g off cap (intsI (x :: l))) (h1 : base ≤ g) (h2 : g ≠ ps) : WLine w base ps (.slice (some ⟨g, off + 1, none⟩) l.length (cap - 1)) l :=
  .inr ⟨g, off + 1, cap - 1, rfl, LineAt.tail (l := intsI l) h, h1, h2⟩
theorem WLine.pop1 {w : World} {base ps g off x : Nat} {l : List Nat} (h : LineAt w g off 1 (intsI (x :: l))) (h1 : base ≤ g) (h2 : g ≠ ps) : l = [] ∧ WLine w base ps (.slice (some ⟨g, off, none⟩) 0 0) [] := by
  have hl := h.len
  rw [intsI_len] at hl
  have hlen : (x :: l).length = l.length + 1 := rfl
  refine ⟨List.eq_nil_of_length_eq_zero (by omega), .inr ⟨g, off, 0, rfl, ⟨fun i hi => by simp [intsI] at hi, fun k hk => by omega, by simp [intsI], by omega, h.lt⟩, h1, h2⟩⟩

/-- Those that are nodes. -/
def nodI (N : Nat) (zs : List Int) : List Nat := (zs.filter fun z => decide (0 ≤ z ∧ z < (N : Int))).map Int.toNat
theorem nodI_snoc_in {N : Nat} {zs : List Int} {z : Int} (h : 0 ≤ z ∧ z < (N : Int)) : nodI N (zs ++ [z]) = nodI N zs ++ [z.toNat] := by
  unfold nodI
  rw [List.filter_append, List.map_append]
  simp [h]
theorem nodI_snoc_out {N : Nat} {zs : List Int} {z : Int} (h : ¬ (0 ≤ z ∧ z < (N : Int))) : nodI N (zs ++ [z]) = nodI N zs := by
  unfold nodI
  rw [List.filter_append, List.map_append, List.filter_cons, if_neg (by simpa using h)]
  simp
theorem mem_nodI {N : Nat} {zs : List Int} {u : Nat} : u ∈ nodI N zs ↔ (u : Int) ∈ zs ∧ u < N := by
  unfold nodI
  constructor
  · intro h
    obtain ⟨z, hz, rfl⟩ := List.mem_map.1 h
    obtain ⟨h1, h2⟩ := List.mem_filter.1 hz
    have h3 := of_decide_eq_true h2
    rw [Int.toNat_of_nonneg h3.1]
    exact ⟨h1, by omega⟩
  · rintro ⟨h1, h2⟩
    exact List.mem_map.2 ⟨(u : Int), List.mem_filter.2 ⟨h1, by simp; omega⟩, by simp⟩
theorem nodI_lt {N : Nat} {zs : List Int} : ∀ u, u ∈ nodI N zs → u < N := fun _ hu => (mem_nodI.1 hu).2

set_option maxRecDepth 20000 in
set_option maxHeartbeats 8000000 in
theorem rreach_any (g : List (List Nat)) (hs : Sm g) (a : Option Addr) (cap B : Nat) (w : World) (hG : GAt w B a g) (af : Option Addr) (fc Bf : Nat) (zs : List Int) (hz : InAt w Bf af zs) (hl : zs.length ≤ 1000) (wo : Int) :
    Calls Tryd.prog 15 #[.slice a g.length cap, .slice af zs.length fc, .int .i64 wo] w fun e w' => ∃ ps, e = .returned (.slice (some ⟨ps, 0, none⟩) g.length g.length) ∧ ∃ s, RowAt w' w.heap.size ps g.length 4 (bw s) ∧ Keeps [] w w' ∧ ∀ u, s u = true ↔ ∃ z, z ∈ nodI g.length zs ∧ Pth g (avI wo) z u := by
  have HS := hid hs
  have HG := hid hG
  have HZ := hid hz
  have hg6 := hs.len
  have HUN := hid (fun st : (Nat → Bool) × List Nat => un_le g st.1)
  obtain ⟨N, hN⟩ : ∃ N, g.length = N := ⟨_, rfl⟩
  have HN := hid hN
  rw [hN] at hg6 HUN ⊢
  obtain ⟨zl, hzl⟩ : ∃ zl, zs.length = zl := ⟨_, rfl⟩
  have HZL := hid hzl
  rw [hzl] at hl ⊢
  clear hs hG hz hN hzl
  have hww : w.heap.size ≤ w.heap.size := Nat.le_refl _
  go_enter Tryd.func15, Tryd.ntmps15
  go_wp2_with (at_make; go_must (refine wpList_make_full _ rfl _ _ 34 rfl w.heap.size 4 Tryd.t4 (.bool false) 1 bunder binfo bzero bsize .i64 .i64 _ _ N rfl rfl rfl rfl (by rw [bbytes]; omega) (by unfold maxLen; omega) hww ?_; intro w2 hown2 hgrow2))
  have k2 : Keeps [] w w2 := Keeps.grown [] hgrow2 (by simp)
  obtain ⟨ps, hps⟩ : ∃ ps, w.heap.size = ps := ⟨_, rfl⟩
  have HPS := hid hps
  have R2 : Box (RQ w w2 ps N (.slice none 0 0) (pushes (avI wo) (noS, []) (nodI N (zs.take 0)))) := hid ⟨by
    rw [← hps]
    exact (RowAt.made hown2 rfl).congr (fun i _ => rfl), .inl ⟨rfl, rfl⟩, k2⟩
  rw [hps]
  clear hown2 hgrow2 k2 hww hps
  have wsz : w.heap.size = ps := HPS.out
  clear wsz
  go_loopw [8, 9] (fun lv iv wr => ∃ (i : Nat) (v : Value), v = lv ∧ iv = .int .i64 (i : Int) ∧ i ≤ zl ∧ Box (RQ w wr ps N v (pushes (avI wo) (noS, []) (nodI N (zs.take i))))) (fun _ iv _ => zl - (intOf iv).toNat)
  case atStart => exact ⟨0, _, rfl, rfl, by omega, R2⟩
  case round =>
    clear R2
    obtain ⟨i, v, rfl, rfl, hi, HR⟩ := hrel
    by_cases hlt : i < zl
    · have hlt' : (i : Int) < (zl : Int) := by omega
      obtain ⟨bz, oz, rfl, hcz⟩ := (HZ.out.kept HR.out.keep (by simp)).at (k := i) (by rw [HZL.out]; exact hlt)
      have htk := hid (take_snoc zs i 0 (by rw [HZL.out]; exact hlt))
      obtain ⟨z, hzz⟩ : ∃ z, zs.getD i 0 = z := ⟨_, rfl⟩
      rw [hzz] at hcz htk
      clear hzz
      by_cases hin : 0 ≤ z ∧ z < (N : Int)
      · obtain ⟨b, rfl⟩ := Int.eq_ofNat_of_zero_le hin.1
        have hbN : b < N := by omega
        have hbN' := hin.2
        have hb0 := hin.1
        have hst : Box (pushes (avI wo) (noS, []) (nodI N (zs.take (i + 1))) = push1 (avI wo) (pushes (avI wo) (noS, []) (nodI N (zs.take i))) b) := hid (by rw [htk.out, nodI_snoc_in hin, pushes_snoc, Int.toNat_natCast])
        have hun := pushes_un (avI wo) g (nodI N (zs.take i)) (noS, []) (fun x hx => by rw [HN.out]; exact nodI_lt x hx)
        have hu0 := un_le g noS
        obtain ⟨st, hste⟩ : ∃ st, pushes (avI wo) (noS, []) (nodI N (zs.take i)) = st := ⟨_, rfl⟩
        rw [hste] at HR hst hun
        have hlen : st.2.length ≤ 600 := by
          have : (([] : List Nat)).length = 0 := rfl
          have h9 : un g st.1 + st.2.length ≤ un g noS + 0 := hun
          have := HN.out
          omega
        have cs := HR.out.row.cell hbN
        unfold bw at cs
        have fs := HR.out.row.frozen b
        clear hun hu0 hste hin htk
        cases hsb : st.1 b with
        | true =>
          rw [hsb] at cs
          have hst2 : Box (push1 (avI wo) st b = st) := hid (by unfold push1; rw [if_pos (.inl hsb)])
          clear hsb
          go_wp2
          go_roundw
          case rel => exact ⟨i + 1, v, rfl, by go_num, by omega, hid (by rw [hst.out, hst2.out]; exact HR.out)⟩
          case measure => simp [intOf]; omega
        | false =>
          rw [hsb] at cs
          by_cases hwo : (b : Int) = wo
          · have hb1 : ((b : Int) != wo) = false := by rw [hwo]; simp
            have hst2 : Box (push1 (avI wo) st b = st) := hid (by unfold push1 avI; rw [if_pos (.inr (decide_eq_true hwo))])
            clear hsb hwo
            go_wp2
            go_roundw
            case rel => exact ⟨i + 1, v, rfl, by go_num, by omega, hid (by rw [hst.out, hst2.out]; exact HR.out)⟩
            case measure => simp [intOf]; omega
          · have hb1 : ((b : Int) != wo) = true := by rw [bne_iff_ne]; exact hwo
            have hst2 : Box (push1 (avI wo) st b = (ins st.1 b, st.2 ++ [b])) := hid (by
              unfold push1
              rw [if_neg]
              rintro (h | h)
              · rw [hsb] at h; cases h
              · exact hwo (of_decide_eq_true h))
            have HM := hid (HR.out.mark b)
            clear hsb hwo HR
            obtain ⟨av, cv, rfl⟩ := HM.out.line.len
            go_upto_region 9 with fail
            clear cs fs
            generalize wr.setCell ⟨ps, b, none⟩ (.bool true) = wm at HM ⊢
            go_wp2_with (at_builtin; go_must (refine wpList_append_line _ rfl _ _ rfl (intsI st.2) (b : Int) (.slice av st.2.length cv) rfl (HM.out.quiet (Keeps.alloc [] _ _)).line.arm ⟨_, 0, none⟩ 1 rfl (cell_one_new _ _ _) (by rw [intsI_len]; omega) ?_; intro g5 off5 cap5 w5 hl5 k5 hat5))
            have HR5 := hid (HM.out.push (Keeps.alloc [] _ _) hl5 k5 hat5)
            clear hl5 k5 hat5 HM
            go_roundw
            case rel => exact ⟨i + 1, _, rfl, by go_num, by omega, hid (by rw [hst.out, hst2.out]; exact HR5.out)⟩
            case measure => simp [intOf]; omega
      · have hst : Box (pushes (avI wo) (noS, []) (nodI N (zs.take (i + 1))) = pushes (avI wo) (noS, []) (nodI N (zs.take i))) := hid (by rw [htk.out, nodI_snoc_out hin])
        clear htk
        by_cases h0 : 0 ≤ z
        · have h1 : ¬ z < (N : Int) := fun h => hin ⟨h0, h⟩
          clear hin
          go_wp2
          go_roundw
          case rel => exact ⟨i + 1, v, rfl, by go_num, by omega, hid (by rw [hst.out]; exact HR.out)⟩
          case measure => simp [intOf]; omega
        · clear hin
          go_wp2
          go_roundw
          case rel => exact ⟨i + 1, v, rfl, by go_num, by omega, hid (by rw [hst.out]; exact HR.out)⟩
          case measure => simp [intOf]; omega
    · obtain rfl : i = zl := by omega
      have hall : zs.take i = zs := by rw [← HZL.out]; exact List.take_length
      rw [hall] at HR
      have HQ := hid (Qu.begin g (avI wo) (nodI N zs))
      have HLT : Box (∀ u, u ∈ (pushes (avI wo) (noS, []) (nodI N zs)).2 → u < N) := hid (pushes_lt (avI wo) (nodI N zs) (noS, []) nodI_lt (by simp))
      have hun : un g (pushes (avI wo) (noS, []) (nodI N zs)).1 + (pushes (avI wo) (noS, []) (nodI N zs)).2.length ≤ N := by
        have h1 := pushes_un (avI wo) g (nodI N zs) (noS, []) (fun x hx => by rw [HN.out]; exact nodI_lt x hx)
        have h2 : un g (noS, ([] : List Nat)).1 + (noS, ([] : List Nat)).2.length ≤ N := by
          have := un_le g noS
          have := HN.out
          show un g noS + 0 ≤ N
          omega
        omega
      clear hall HZ
      go_wp2_with fail
      go_loopg [8] N (fun q lv wr => ∃ (v : Value) (st : (Nat → Bool) × List Nat), v = lv ∧ un g st.1 + st.2.length ≤ q ∧ q ≤ N ∧ Box (RQ w wr ps N v st) ∧ Box (Qu g (avI wo) (nodI N zs) st) ∧ Box (∀ u, u ∈ st.2 → u < N))
      case atStart => exact ⟨v, _, rfl, hun, Nat.le_refl _, HR, HQ, HLT⟩
      case round =>
        clear HR HQ HLT hun
        obtain ⟨v, ⟨s, l⟩, rfl, hq, hqN, HR, HQ, HLT⟩ := hrel
        cases l with
        | nil =>
          obtain ⟨av, cv, rfl⟩ := HR.out.line.len
          have hdone := hid (HQ.out.done rfl)
          go_wp2
          go_ret
          exact ⟨ps, rfl, s, HR.out.row, HR.out.keep, hdone.out⟩
        | cons x l =>
          have hx : x < N := HLT.out x (by simp)
          obtain ⟨g5, off5, cap5, rfl, hline, hb5, hne5⟩ := HR.out.line.resolve_left (fun h => by simp at h)
          have hcell := hline.cell 0 (by rw [intsI_len]; simp)
          rw [Nat.add_zero] at hcell
          have hcell' : wr.cell? ⟨g5, off5, none⟩ = some (.int .i64 (x : Int)) := hcell
          have hlc := hline.len
          have hmx := hline.max
          rw [intsI_len] at hlc
          have hlen : (x :: l).length = l.length + 1 := rfl
          rw [hlen] at hlc
          have hl1 : (1 : Int) ≤ ((l.length + 1 : Nat) : Int) := by omega
          have hrow := hid HR.out.row
          have HK := hid HR.out.keep
          have HQ2 := hid HQ.out.step
          have HLT2 : Box (∀ u, u ∈ l → u < N) := hid (fun u hu => HLT.out u (List.mem_cons_of_mem _ hu))
          have hun2 := pushes_un (avI wo) g (nb g x) (s, l) (fun y hy => HS.out.ok x y hy)
          have hq' : un g s + (l.length + 1) ≤ gk := hq
          have HPO : Box (WLine wr w.heap.size ps (.slice (some ⟨g5, off5 + 1, none⟩) l.length (cap5 - 1)) l) := hid (WLine.pop hline hb5 hne5)
          have HP1 : Box (∀ hc : cap5 = 1, l = [] ∧ WLine wr w.heap.size ps (.slice (some ⟨g5, off5, none⟩) 0 0) []) := hid (fun hc => by subst hc; exact WLine.pop1 hline hb5 hne5)
          obtain ⟨bl, ol, ai, ci, rfl, hcl, hnl⟩ := HG.out.at (k := x) (by rw [HN.out]; exact hx)
          have HCL : Box (∀ w9, Keeps [] w w9 → w9.cell? ⟨bl, ol + x, none⟩ = some (.slice ai (nb g x).length ci)) := hid (fun w9 k9 => by rw [k9.cell (p := ⟨bl, ol + x, none⟩) (block_lt_of_cell hcl) (by simp)]; exact hcl)
          have HNL := hid hnl
          have hnb := HS.out.short x
          have Hnb : Box (∀ y, y ∈ nb g x → y < N) := hid (fun y hy => by rw [← HN.out]; exact HS.out.ok x y hy)
          have hx' : (x : Int) < (N : Int) := by omega
          have hx6 : x < 600 := by omega
          clear hcell hline HR HQ HLT hq hnl hlen hcl
          have hMid : Box (∃ v2, WLine wr w.heap.size ps v2 l ∧ (cap5 = 1 → v2 = .slice (some ⟨g5, off5, none⟩) 0 0) ∧ (cap5 ≠ 1 → v2 = .slice (some ⟨g5, off5 + 1, none⟩) l.length (cap5 - 1))) := hid (by
            by_cases hc : cap5 = 1
            · obtain ⟨rfl, h9⟩ := HP1.out hc
              exact ⟨_, h9, fun _ => rfl, fun h => absurd hc h⟩
            · exact ⟨_, HPO.out, fun h => absurd h hc, fun _ => rfl⟩)
          clear HP1 HPO
          have hlen1 : ((x :: l).length : Nat) = l.length + 1 := rfl
          rw [hlen1]
          clear hlen1
          generalize hNB : nb g x = NB at HCL HNL hnb Hnb hun2 HQ2
          clear hNB
          obtain ⟨ll, hll⟩ : ∃ ll, l.length = ll := ⟨_, rfl⟩
          have HLL := hid hll
          rw [hll] at hlc hl1 hq' ⊢
          have hMid2 := hMid.out
          rw [hll] at hMid2
          obtain ⟨v2, hw2, hv1, hv2⟩ := hMid2
          have R0 : Box (RQ w wr ps N v2 (pushes (avI wo) (s, l) (NB.take 0))) := hid ⟨hrow.out, hw2, HK.out⟩
          clear hll hMid hw2 hrow
          have hcc : (1 : Int) ≤ (cap5 : Int) := by omega
          by_cases hc1 : cap5 = 1
          all_goals
            first
              | (subst hc1
                 obtain rfl : ll = 0 := by omega
                 obtain rfl := hv1 rfl
                 clear hv1 hv2
                 go_upto_region 13 with fail
                 generalize (Value.slice (some ⟨g5, off5, none⟩) 0 0) = v2 at R0 ⊢)
              | (obtain rfl := hv2 hc1
                 clear hv1 hv2
                 go_upto_region 13 with fail
                 generalize (Value.slice (some ⟨g5, off5 + 1, none⟩) ll (cap5 - 1)) = v2 at R0 ⊢)
            clear hcell' hlc hl1 hmx hcc
            go_wp2_with fail
            go_loopw [8, 12] (fun lv kv wr2 => ∃ (k : Nat) (v : Value), v = lv ∧ kv = .int .i64 (k : Int) ∧ k ≤ NB.length ∧ Box (RQ w wr2 ps N v (pushes (avI wo) (s, l) (NB.take k)))) (fun _ kv _ => NB.length - (intOf kv).toNat)
            case atStart => exact ⟨0, v2, rfl, rfl, by omega, R0⟩
            case round =>
              clear R0 HK
              obtain ⟨k, v, rfl, rfl, hk, HR⟩ := hrel
              have cto := HCL.out wr HR.out.keep
              by_cases hlt : k < NB.length
              · have hlt' : (k : Int) < (NB.length : Int) := by omega
                obtain ⟨bm, om, rfl, hcm⟩ := (HNL.out.kept HR.out.keep (by simp)).at hlt
                obtain ⟨b, hb⟩ : ∃ b, NB.getD k 0 = b := ⟨_, rfl⟩
                have hbN : b < N := by rw [← hb]; exact Hnb.out _ (getD_mem NB k 0 hlt)
                have htk := hid (take_snoc NB k 0 hlt)
                rw [hb] at hcm htk
                clear hb
                have hbN' : (b : Int) < (N : Int) := by omega
                have hb6 : b < 600 := by omega
                have hst : Box (pushes (avI wo) (s, l) (NB.take (k + 1)) = push1 (avI wo) (pushes (avI wo) (s, l) (NB.take k)) b) := hid (by rw [htk.out, pushes_snoc])
                have hun := pushes_un (avI wo) g (NB.take k) (s, l) (fun y hy => by rw [HN.out]; exact Hnb.out y (List.mem_of_mem_take hy))
                obtain ⟨st, hste⟩ : ∃ st, pushes (avI wo) (s, l) (NB.take k) = st := ⟨_, rfl⟩
                rw [hste] at HR hst hun
                have hlen : st.2.length ≤ 600 := by
                  have h9 : un g st.1 + st.2.length ≤ un g s + l.length := hun
                  have := HLL.out
                  omega
                have cs := HR.out.row.cell hbN
                unfold bw at cs
                have fs := HR.out.row.frozen b
                clear hun hste htk
                cases hsb : st.1 b with
                | true =>
                  rw [hsb] at cs
                  have hst2 : Box (push1 (avI wo) st b = st) := hid (by unfold push1; rw [if_pos (.inl hsb)])
                  clear hsb
                  go_wp2
                  go_roundw
                  case rel => exact ⟨k + 1, v, rfl, by go_num, by omega, hid (by rw [hst.out, hst2.out]; exact HR.out)⟩
                  case measure => simp [intOf]; omega
                | false =>
                  rw [hsb] at cs
                  by_cases hwo : (b : Int) = wo
                  · have hb1 : ((b : Int) != wo) = false := by rw [hwo]; simp
                    have hst2 : Box (push1 (avI wo) st b = st) := hid (by unfold push1 avI; rw [if_pos (.inr (decide_eq_true hwo))])
                    clear hsb hwo
                    go_wp2
                    go_roundw
                    case rel => exact ⟨k + 1, v, rfl, by go_num, by omega, hid (by rw [hst.out, hst2.out]; exact HR.out)⟩
                    case measure => simp [intOf]; omega
                  · have hb1 : ((b : Int) != wo) = true := by rw [bne_iff_ne]; exact hwo
                    have hst2 : Box (push1 (avI wo) st b = (ins st.1 b, st.2 ++ [b])) := hid (by
                      unfold push1
                      rw [if_neg]
                      rintro (h | h)
                      · rw [hsb] at h; cases h
                      · exact hwo (of_decide_eq_true h))
                    have HM := hid (HR.out.mark b)
                    clear hsb hwo HR
                    obtain ⟨av, cv, rfl⟩ := HM.out.line.len
                    go_upto_region 19 with fail
                    clear cs fs cto hcm
                    generalize wr.setCell ⟨ps, b, none⟩ (.bool true) = wm at HM ⊢
                    go_wp2_with (at_builtin; go_must (refine wpList_append_line _ rfl _ _ rfl (intsI st.2) (b : Int) (.slice av st.2.length cv) rfl (HM.out.quiet (Keeps.alloc [] _ _)).line.arm ⟨_, 0, none⟩ 1 rfl (cell_one_new _ _ _) (by rw [intsI_len]; omega) ?_; intro g6 off6 cap6 w6 hl6 k6 hat6))
                    have HR6 := hid (HM.out.push (Keeps.alloc [] _ _) hl6 k6 hat6)
                    clear hl6 k6 hat6 HM
                    go_roundw
                    case rel => exact ⟨k + 1, _, rfl, by go_num, by omega, hid (by rw [hst.out, hst2.out]; exact HR6.out)⟩
                    case measure => simp [intOf]; omega
              · obtain rfl : k = NB.length := by omega
                rw [List.take_length] at HR
                have HLT3 : Box (∀ u, u ∈ (pushes (avI wo) (s, l) NB).2 → u < N) := hid (pushes_lt (avI wo) NB (s, l) Hnb.out HLT2.out)
                have hq2 : un g (pushes (avI wo) (s, l) NB).1 + (pushes (avI wo) (s, l) NB).2.length ≤ gk - 1 := by
                  have h9 : un g (pushes (avI wo) (s, l) NB).1 + (pushes (avI wo) (s, l) NB).2.length ≤ un g s + l.length := hun2
                  have := HLL.out
                  omega
                go_wp2_with fail
                go_roundg (gk - 1)
                case measure => omega
                case rel => exact ⟨v, _, rfl, hq2, by omega, HR, HQ2, HLT3⟩
end Go.Proofs.YtngdnjlohmkbiaaDoor

namespace Go.Proofs.YtngdnjlohmkbiaaDoor
open Go.RowKit

theorem uBs : Tryd.prog.underlying 66 = some (.slice 34) := by kernel_rfl
theorem iBs : Tryd.prog.info? 34 = some Tryd.t34 := by kernel_rfl
theorem zBs : Tryd.t34.zero = some (.slice none 0 0) := by kernel_rfl
theorem sBs : Tryd.t34.size = 1 := by kernel_rfl
theorem yBs : Tryd.t34.bytes = 24 := by kernel_rfl
theorem bw_set {w : World} {B0 b gn : Nat} {s : Nat → Bool} (h : RowAt w B0 b gn 4 (bw s)) (n : Nat) (v : Bool) : RowAt (w.setCell ⟨b, n, none⟩ (.bool v)) B0 b gn 4 (bw fun i => if i = n then v else s i) := by
  refine (h.put n (.bool v)).congr (fun i _ => ?_)
  unfold bw
  by_cases e : i = n
  · subst e; simp
  · simp [e]
theorem cell_kept {w w' : World} {p : Addr} {v : Value} (k : Keeps [] w w') (h : w.cell? p = some v) : w'.cell? p = some v := by
  rw [k.cell (block_lt_of_cell h) (by simp)]
  exact h

/-- The table who stands above whom. -/
def bvs (pr : Nat → Nat) (N k : Nat) : List Value := (List.range k).map fun i => .slice (some ⟨pr i, 0, none⟩) N N
structure Mat (w : World) (base : Nat) (v : Value) (k N : Nat) (pr : Nat → Nat) (F : Nat → Nat → Bool) : Prop where
  own : w.ownsRow base 34 1 v k (bvs pr N k)
  row : ∀ i, i < k → RowAt w base (pr i) N 4 (bw (F i))
theorem mat_ne {w : World} {base : Nat} {v : Value} {n : Nat} {xs : List Value} (h : w.ownsRow base 34 1 v n xs) {b0 p N : Nat} {f : Nat → Value} (hr : RowAt w b0 p N 4 f) : p ∉ v.ownBlock.toList := by
  obtain ⟨cur, hg⟩ := hr.heap
  intro hx
  exact Lib.ownBlock_ne h hg (by decide) (by simpa using hx)
theorem Mat.quiet {w w' : World} {base : Nat} {v : Value} {k N : Nat} {pr : Nat → Nat} {F : Nat → Nat → Bool} (h : Mat w base v k N pr F) (q : Keeps [] w w') : Mat w' base v k N pr F :=
  ⟨ownsRow_keeps h.own q (fun _ _ => by simp), fun i hi => (h.row i hi).kept q (by simp)⟩
theorem bvs_snoc (pr : Nat → Nat) (N k p : Nat) : bvs (fun i => if i = k then p else pr i) N (k + 1) = bvs pr N k ++ [.slice (some ⟨p, 0, none⟩) N N] := by
  unfold bvs
  rw [List.range_succ, List.map_append]
  congr 1
  · refine List.map_congr_left (fun i hi => ?_)
    have : i ≠ k := by have := List.mem_range.1 hi; omega
    simp [this]
  · simp
theorem Mat.push {w wa w5 : World} {base : Nat} {v v5 : Value} {k N p b0 : Nat} {pr : Nat → Nat} {F : Nat → Nat → Bool} (h : Mat w base v k N pr F) (hr : RowAt w b0 p N 4 (bw (F k))) (hb : base ≤ b0) (ka : Keeps [] w wa) (h5 : w5.ownsRow base 34 1 v5 (k + 1) (bvs pr N k ++ [.slice (some ⟨p, 0, none⟩) N N])) (k5 : Keeps v.ownBlock.toList wa w5) : Mat w5 base v5 (k + 1) N (fun i => if i = k then p else pr i) F := by
  have h2 := h.quiet ka
  have hr2 := hr.kept ka (by simp)
  refine ⟨by rw [bvs_snoc]; exact h5, fun i hi => ?_⟩
  by_cases e : i = k
  · subst e
    simp only [if_true]
    exact (hr2.kept k5 (mat_ne h2.own hr2)).base hb
  · simp only [e, if_false]
    have := h2.row i (by omega)
    exact this.kept k5 (mat_ne h2.own this)
theorem Mat.open {w : World} {base : Nat} {v : Value} {N : Nat} {pr : Nat → Nat} {F : Nat → Nat → Bool} (h : Mat w base v N N pr F) (hN : 0 < N) : ∃ q cap, v = .slice (some ⟨q, 0, none⟩) N cap ∧ (∀ i, i < N → w.cell? ⟨q, i, none⟩ = some (.slice (some ⟨pr i, 0, none⟩) N N)) ∧ ∀ i, i < N → ∀ j, j < N → w.cell? ⟨pr i, j, none⟩ = some (.bool (F i j)) := by
  have h0 := h.own
  rcases h0.2 with ⟨_, h1⟩ | ⟨g, cap, cur, rfl, hb, hg, hn, _, _, ht⟩
  · omega
  · refine ⟨g, cap, rfl, fun i hi => ?_, fun i hi j hj => (h.row i hi).cell hj⟩
    rw [h0.cellAt i (by omega)]
    unfold bvs
    rw [List.getElem?_map, List.getElem?_range hi]
    rfl

theorem rav_none : avI (-1) = noS := by
  funext m
  unfold avI noS
  exact decide_eq_false (by omega)
theorem rnod_one {N r : Nat} (h : r < N) : nodI N [(r : Int)] = [r] := by
  have := nodI_snoc_in (N := N) (zs := []) (z := (r : Int)) (by omega)
  rw [List.nil_append] at this
  rw [this, Int.toNat_natCast]
  rfl
theorem one_cell (w : World) (x : Value) (t : TypeId) : (w.alloc (.cells #[x] t)).cell? ⟨w.heap.size, 0, none⟩ = some x := by rw [cell_of_row _ _ 0 _ _ _ (heap_alloc_new w _)]; rfl
theorem rone_at (w : World) (x : Int) : InAt (w.alloc (Obj.cells #[.int .i64 x] 3)) (w.alloc (Obj.cells #[.int .i64 x] 3)).heap.size (some ⟨w.heap.size, 0, none⟩) [x] :=
  .inr ⟨w.heap.size, 0, rfl, block_lt_of_cell (one_cell w (.int .i64 x) 3), fun i hi => by
    have : i = 0 := by simp at hi; exact hi
    subst this
    exact one_cell w (.int .i64 x) 3⟩
/-- All that is reached; all that is reached without one. -/
theorem rone_all {g : List (List Nat)} (hg : Ok g) {r : Nat} (hr : r < g.length) {s : Nat → Bool} (h : ∀ u, s u = true ↔ ∃ z, z ∈ nodI g.length [(r : Int)] ∧ Pth g (avI (-1)) z u) (u : Nat) : s u = rB g r u := by
  rw [Bool.eq_iff_iff, h u, rB_iff hg u hr, rnod_one hr, rav_none]
  simp
end Go.Proofs.YtngdnjlohmkbiaaDoor

namespace Go.Proofs.YtngdnjlohmkbiaaDoor
open Go.RowKit

theorem bol_ne_rows {w : World} {b base B0 gn : Nat} {c : Nat → Value} {v : Value} {n : Nat} {xs : List Value} (hs : RowAt w B0 b gn 4 c) (hr : w.ownsRow base 23 1 v n xs) : v.ownBlock ≠ some b := by
  obtain ⟨cur, hg⟩ := hs.heap
  exact Lib.ownBlock_ne hr hg (by decide)
theorem bol_ne_row {w : World} {b base B0 gn : Nat} {c : Nat → Value} {v : Value} {n : Nat} {xs : List Value} (hs : RowAt w B0 b gn 4 c) (hr : w.ownsRow base 3 1 v n xs) : v.ownBlock ≠ some b := by
  obtain ⟨cur, hg⟩ := hs.heap
  exact Lib.ownBlock_ne hr hg (by decide)
/-- The marks while a part is taken out. -/
def dnK (g : List (List Nat)) (line : List Nat) (z k : Nat) (x : Nat) : Bool := dn g line x || (decide (x < k) && mutB g z x)
theorem dnK_zero (g : List (List Nat)) (line : List Nat) (z x : Nat) : dnK g line z 0 x = dn g line x := by simp [dnK]
theorem dnK_all {g : List (List Nat)} (hg : Ok g) {line : List Nat} {z x : Nat} (hz : z < g.length) (hx : x < g.length) : dnK g line z g.length x = dn g (line ++ [plc g z]) x := by
  rw [dn_snoc hg hz hx]; simp [dnK, hx]
theorem dnK_in {g : List (List Nat)} {line : List Nat} {z k : Nat} (h : mutB g z k = true) (x : Nat) : ins (dnK g line z k) k x = dnK g line z (k + 1) x := by
  unfold ins dnK
  by_cases e : x = k
  · subst e; simp [h]
  · have h1 : x < k + 1 ↔ x < k := by omega
    simp [e, h1]
theorem dnK_out {g : List (List Nat)} {line : List Nat} {z k : Nat} (h : mutB g z k = false) (x : Nat) : dnK g line z k x = dnK g line z (k + 1) x := by
  unfold dnK
  by_cases e : x = k
  · subst e; simp [h]
  · have h1 : x < k + 1 ↔ x < k := by omega
    simp [h1]
def ptK (g : List (List Nat)) (z k : Nat) : List Nat := (List.range k).filter (mutB g z)
theorem ptK_in {g : List (List Nat)} {z k : Nat} (h : mutB g z k = true) : ptK g z (k + 1) = ptK g z k ++ [k] := by
  unfold ptK; rw [List.range_succ, List.filter_append]; simp [h]
theorem ptK_out {g : List (List Nat)} {z k : Nat} (h : mutB g z k = false) : ptK g z (k + 1) = ptK g z k := by
  unfold ptK; rw [List.range_succ, List.filter_append]; simp [h]
theorem ptK_len (g : List (List Nat)) (z k : Nat) : (ptK g z k).length ≤ k := by
  have := List.length_filter_le (mutB g z) (List.range k)
  rw [List.length_range] at this
  exact this
/-- What is asked of each node while it is looked whether one is free. -/
def okK (g : List (List Nat)) (line : List Nat) (i k : Nat) : Prop := ∀ j, j < k → dn g line j = true ∨ rB g j i = false ∨ rB g i j = true
theorem okK_free {g : List (List Nat)} (hg : Ok g) {line : List Nat} {i : Nat} (hi : i < g.length) (hd : dn g line i = false) : okK g line i g.length ↔ Free g line i := by
  constructor
  · intro h
    refine ⟨hd, fun k hk hk2 hp => ?_⟩
    rcases h k hk with h1 | h1 | h1
    · rw [hk2] at h1; cases h1
    · rw [(rB_iff hg i hk).2 hp] at h1; cases h1
    · exact (rB_iff hg k hi).1 h1
  · rintro ⟨_, h⟩ j hj
    cases e1 : dn g line j with
    | true => exact .inl rfl
    | false =>
      cases e2 : rB g j i with
      | false => exact .inr (.inl rfl)
      | true => exact .inr (.inr ((rB_iff hg j hi).2 (h j hj e1 ((rB_iff hg i hj).1 e2))))
theorem okK_next {g : List (List Nat)} {line : List Nat} {i k : Nat} {f f' : Bool} (h : f = true ↔ okK g line i k) (e : f' = (f && (dn g line k || (!rB g k i || rB g i k)))) : f' = true ↔ okK g line i (k + 1) := by
  subst e
  rw [Bool.and_eq_true, h]
  constructor
  · rintro ⟨h1, h2⟩ j hj
    by_cases e : j = k
    · subst e
      simp only [Bool.or_eq_true, Bool.not_eq_true'] at h2
      exact h2
    · exact h1 j (by omega)
  · intro h1
    refine ⟨fun j hj => h1 j (by omega), ?_⟩
    have := h1 k (by omega)
    simp only [Bool.or_eq_true, Bool.not_eq_true']
    exact this

set_option maxRecDepth 20000 in
set_option maxHeartbeats 8000000 in
theorem rparts_any (g : List (List Nat)) (hs : Sm g) (h1 : 1 ≤ g.length) (a : Option Addr) (cap B : Nat) (w : World) (hG : GAt w B a g) :
    Calls Tryd.prog 20 #[.slice a g.length cap] w fun e w' => ∃ v vs, e = .returned v ∧ LsOwn w' w.heap.size v vs (partsM g) ∧ Keeps [] w w' := by
  have HS := hid hs
  have HRE := hid (fun wz (k : Keeps [] w wz) (i : Nat) => rreach_any g hs a cap B (wz.alloc (Obj.cells #[.int .i64 (i : Int)] 3)) (hG.quiet (k.quiet (Keeps.alloc _ _ _))) (some ⟨wz.heap.size, 0, none⟩) 1 _ [(i : Int)] (rone_at wz (i : Int)) (by simp) (-1))
  have HRA := hid (fun i (hi : i < g.length) s h => rone_all hs.ok hi (s := s) h)
  have hg6 := hs.len
  obtain ⟨N, hN⟩ : ∃ N, g.length = N := ⟨_, rfl⟩
  have HN := hid hN
  rw [hN] at HRE HRA hg6 h1 ⊢
  clear hs hG hN
  have M0 : Box (Mat w w.heap.size (.slice none 0 0) 0 N (fun _ => 0) (rB g)) := hid ⟨⟨rfl, .inl ⟨rfl, rfl⟩⟩, fun i hi => by omega⟩
  go_enter Tryd.func20, Tryd.ntmps20
  go_wp2_with fail
  go_loopw [4, 5] (fun vv iv wr => ∃ (i : Nat) (v : Value) (pr : Nat → Nat), v = vv ∧ iv = .int .i64 (i : Int) ∧ i ≤ N ∧ Box (Mat wr w.heap.size v i N pr (rB g)) ∧ Box (Keeps [] w wr)) (fun _ iv _ => N - (intOf iv).toNat)
  case atStart => exact ⟨0, _, _, rfl, rfl, by omega, M0, hid (Keeps.refl _ _)⟩
  case round =>
    clear M0
    obtain ⟨i, v, pr, rfl, rfl, hi, HM, HK⟩ := hrel
    by_cases hlt : i < N
    · have hlt' : (i : Int) < (N : Int) := by omega
      have HC := hid (HRE.out wr HK.out i)
      go_wp2_with fail
      refine HC.out.mono ?_
      rintro e w3 ⟨pt, rfl, t, r3, k3, h3⟩
      have k13 := (Keeps.alloc [] wr (Obj.cells #[.int .i64 (i : Int)] 3)).quiet k3
      have K3 := hid (HK.out.quiet k13)
      have M3 := hid (HM.out.quiet k13)
      have R3 := hid (r3.congr (d := bw (rB g i)) (fun j _ => by unfold bw; rw [HRA.out i hlt t h3]))
      have hbp : w.heap.size ≤ (wr.alloc (Obj.cells #[.int .i64 (i : Int)] 3)).heap.size := by have := HK.out.size; simp; omega
      have hsz := K3.out.size
      clear r3 k3 h3 HC HM HK k13
      go_wp2_with (at_builtin; go_must (refine wpList_append_own _ rfl _ _ 66 rfl w.heap.size 34 Tryd.t34 (.slice none 0 0) 1 24 uBs iBs zBs sBs yBs rfl (by decide) v _ _ rfl (M3.out.own.alloc _) _ 1 1 [.slice (some ⟨pt, 0, none⟩) N N] rfl rfl (cell_one_new _ _ _) (fun x hx => by simp at hx; subst hx; rfl) (by unfold maxLen; omega) (by omega) (by simp; omega) ?_; intro v8 w8 hown8 hgrow8 hnil8))
      have k8 : Keeps v.ownBlock.toList _ w8 := Keeps.grown v.ownBlock.toList hgrow8 (fun y hy => by rw [hy]; simp)
      have M8 := hid (M3.out.push R3.out hbp (Keeps.alloc [] _ _) hown8 k8)
      have K8 := hid ((K3.out.quiet (Keeps.alloc [] _ _)).fresh k8 (own_new M3.out.own))
      clear hown8 hnil8 hgrow8 M3 R3 k8
      go_roundw
      case rel => exact ⟨i + 1, v8, _, rfl, by go_num, by omega, M8, K8⟩
      case measure => simp [intOf]; omega
    · obtain rfl : i = N := by omega
      obtain ⟨q, cq, hv, hq1, hq2⟩ := HM.out.open (by omega)
      subst hv
      have HV := hid hq1
      have HF := hid hq2
      clear hq1 hq2 HM HRE HRA
      have hww : wr.heap.size ≤ wr.heap.size := Nat.le_refl _
      go_wp2_with (at_make; go_must (refine wpList_make_full _ rfl _ _ 34 rfl wr.heap.size 4 Tryd.t4 (.bool false) 1 bunder binfo bzero bsize .i64 .i64 _ _ i rfl rfl rfl rfl (by rw [bbytes]; omega) (by unfold maxLen; omega) hww ?_; intro w6 hown6 hgrow6))
      have K6 : Box (Keeps [] wr w6) := hid (Keeps.grown [] hgrow6 (by simp))
      obtain ⟨pd, hpd⟩ : ∃ pd, wr.heap.size = pd := ⟨_, rfl⟩
      have HPD := hid hpd
      rw [hpd] at hown6 ⊢
      have R6 : Box (RowAt w6 pd pd i 4 (bw (dn g []))) := hid ((RowAt.made hown6 rfl).congr (fun x _ => by unfold bw dn; simp))
      have L6 : Box (LsOwn w6 pd (.slice none 0 0) [] (([] : List Nat).map fun k => nb (sccs g) k)) := hid ⟨World.ownsRow_nil _ _ _ _, fun i hi => by simp at hi⟩
      clear hown6 hgrow6 hww hpd
      have hS6 := sccs_len g
      rw [HN.out] at hS6
      have HSL := hid hS6
      clear hS6
      generalize wr = w5 at HV HF K6 HK HPD
      go_loopg [7] (i + 1) (fun qq ov wr => ∃ (line : List Nat) (v : Value) (vs : List Value), v = ov ∧ Box (Mid g line) ∧ Box (LsOwn wr pd v vs (line.map fun k => nb (sccs g) k)) ∧ Box (RowAt wr pd pd i 4 (bw (dn g line))) ∧ Box (line.length + qq = i + 1) ∧ Box (Keeps [] w5 wr))
      case atStart => exact ⟨[], _, _, rfl, hid (Mid.nil g), L6, R6, hid (by simp), K6⟩
      case round =>
        clear R6 L6 K6
        obtain ⟨line, v, vs, rfl, HMI, HL, HR, HQ, HK5⟩ := hrel
        obtain ⟨ov, oc, hov, _, _⟩ := HL.out.graph
        rw [List.length_map] at hov
        subst hov
        have hll := HMI.out.len
        have hsl := HSL.out
        have hle : (line.length : Int) ≤ (i : Int) := by omega
        obtain ⟨ln, hln⟩ : ∃ ln, line.length = ln := ⟨_, rfl⟩
        rw [hln] at hle hll HL HQ ⊢
        have HLN := hid hln
        clear hln
        have hgk : 0 < gk := by have := HQ.out; omega
        have HQ2 : Box (ln + 1 + (gk - 1) = i + 1) := hid (by have := HQ.out; omega)
        clear HQ
        go_wp2_with fail
        generalize wr = w8 at HL HR HK5 ⊢
        go_loopw [8, 9] (fun nv iv wr => ∃ (j : Nat) (nx : Int), nv = .int .i64 nx ∧ iv = .int .i64 (j : Int) ∧ j ≤ i ∧ wr = w8 ∧ Box ((nx = -1 ∧ ∀ c, c < j → ¬ Free g line c) ∨ ∃ z : Nat, nx = (z : Int) ∧ z < i ∧ Free g line z ∧ ∀ c, c < z → ¬ Free g line c)) (fun _ iv _ => i - (intOf iv).toNat)
        case atStart => exact ⟨0, -1, rfl, rfl, by omega, rfl, hid (.inl ⟨rfl, fun c hc => by omega⟩)⟩
        case round =>
          obtain ⟨j, nx, rfl, rfl, hj, hw8, HX⟩ := hrel
          subst wr
          rcases HX.out with ⟨hnx, hno⟩ | ⟨z, hnx, hz, hfz, hnz⟩
          · subst hnx
            have HNO := hid hno
            clear HX hno
            by_cases hlj : j < i
            · have hlj' : (j : Int) < (i : Int) := by omega
              have cd := HR.out.cell hlj
              unfold bw at cd
              cases hd : dn g line j with
              | true =>
                have NX : Box ((((-1 : Int)) = -1 ∧ ∀ c, c < j + 1 → ¬ Free g line c) ∨ ∃ z : Nat, (-1 : Int) = (z : Int) ∧ z < i ∧ Free g line z ∧ ∀ c, c < z → ¬ Free g line c) := hid (.inl ⟨rfl, fun c hc hf => by
                  by_cases e : c = j
                  · subst e; rw [hf.1] at hd; cases hd
                  · exact HNO.out c (by omega) hf⟩)
                rw [hd] at cd
                clear hd HNO
                go_wp2
                go_roundw
                case rel => exact ⟨j + 1, -1, rfl, by go_num, by omega, (by first | trivial | rfl), NX⟩
                case measure => simp [intOf]; omega
              | false =>
                have HD := hid hd
                rw [hd] at cd
                clear hd
                go_wp2_with fail
                clear cd
                go_loopw [10, 11] (fun fv kv wr => ∃ (k : Nat) (f : Bool), fv = .bool f ∧ kv = .int .i64 (k : Int) ∧ k ≤ i ∧ wr = w8 ∧ Box (f = true ↔ okK g line j k)) (fun _ kv _ => i - (intOf kv).toNat)
                case atStart => exact ⟨0, true, rfl, rfl, by omega, rfl, hid ⟨fun _ c hc => by omega, fun _ => rfl⟩⟩
                case round =>
                  obtain ⟨k, f, rfl, rfl, hk, hw9, HO⟩ := hrel
                  subst wr
                  by_cases hlk : k < i
                  · have hlk' : (k : Int) < (i : Int) := by omega
                    have ck := HR.out.cell hlk
                    unfold bw at ck
                    have qk := cell_kept HK5.out (HV.out k hlk)
                    have qj := cell_kept HK5.out (HV.out j hlj)
                    have ckj := cell_kept HK5.out (HF.out k hlk j hlj)
                    have cjk := cell_kept HK5.out (HF.out j hlj k hlk)
                    have HOK := hid (fun f' (e : f' = (f && (dn g line k || (!rB g k j || rB g j k)))) => okK_next HO.out e)
                    clear HO
                    cases f with
                    | false =>
                      have O1 := hid (HOK.out false (by simp))
                      clear HOK ck qk qj ckj cjk
                      go_wp2
                      go_roundw
                      case rel => exact ⟨k + 1, false, rfl, by go_num, by omega, (by first | trivial | rfl), O1⟩
                      case measure => simp [intOf]; omega
                    | true =>
                      cases h1 : dn g line k with
                      | true =>
                        rw [h1] at ck
                        have O1 := hid (HOK.out true (by simp [h1]))
                        clear HOK qk qj ckj cjk h1
                        go_wp2
                        go_roundw
                        case rel => exact ⟨k + 1, true, rfl, by go_num, by omega, (by first | trivial | rfl), O1⟩
                        case measure => simp [intOf]; omega
                      | false =>
                        rw [h1] at ck
                        cases h2 : rB g k j with
                        | false =>
                          rw [h2] at ckj
                          have O1 := hid (HOK.out true (by simp [h2]))
                          clear HOK qj cjk h1 h2
                          go_wp2
                          go_roundw
                          case rel => exact ⟨k + 1, true, rfl, by go_num, by omega, (by first | trivial | rfl), O1⟩
                          case measure => simp [intOf]; omega
                        | true =>
                          rw [h2] at ckj
                          have O1 := hid (HOK.out (rB g j k) (by simp [h1, h2]))
                          clear HOK h1 h2
                          generalize rB g j k = b2 at cjk O1
                          go_wp2
                          go_roundw
                          case rel => exact ⟨k + 1, b2, rfl, by go_num, by omega, (by first | trivial | rfl), O1⟩
                          case measure => simp [intOf]; omega
                  · obtain rfl : k = i := by omega
                    have hfr : f = true ↔ Free g line j := by
                      rw [HO.out, ← okK_free HS.out.ok (by rw [HN.out]; exact hlj) HD.out, HN.out]
                    cases f with
                    | false =>
                      have hnf : ¬ Free g line j := fun h => by have := hfr.2 h; cases this
                      have NX : Box ((((-1 : Int)) = -1 ∧ ∀ c, c < j + 1 → ¬ Free g line c) ∨ ∃ z : Nat, (-1 : Int) = (z : Int) ∧ z < k ∧ Free g line z ∧ ∀ c, c < z → ¬ Free g line c) := hid (.inl ⟨rfl, fun c hc hf => by
                        by_cases e : c = j
                        · subst e; exact hnf hf
                        · exact HNO.out c (by omega) hf⟩)
                      clear hfr hnf HO HNO
                      go_wp2
                      go_roundw
                      case rel => exact ⟨j + 1, -1, rfl, by go_num, by omega, (by first | trivial | rfl), NX⟩
                      case measure => simp [intOf]; omega
                    | true =>
                      have NX : Box ((((j : Int)) = -1 ∧ ∀ c, c < j + 1 → ¬ Free g line c) ∨ ∃ z : Nat, (j : Int) = (z : Int) ∧ z < k ∧ Free g line z ∧ ∀ c, c < z → ¬ Free g line c) := hid (.inr ⟨j, rfl, hlj, hfr.1 rfl, fun c hc => HNO.out c hc⟩)
                      clear hfr HO HNO
                      go_wp2
                      go_roundw
                      case rel => exact ⟨j + 1, (j : Int), rfl, by go_num, by omega, (by first | trivial | rfl), NX⟩
                      case measure => simp [intOf]; omega
            · obtain rfl : j = i := by omega
              have HDN : Box (line.map (fun k => nb (sccs g) k) = partsM g) := hid (HMI.out.done HS.out (fun c hc => HNO.out c (by rw [← HN.out]; exact hc)))
              have LF : Box (LsOwn w8 w.heap.size (.slice ov ln oc) vs (partsM g)) := hid (by
                rw [← HDN.out]
                exact HL.out.base (by have := HK.out.size; have := HPD.out; omega))
              have KF := hid (HK.out.quiet HK5.out)
              clear HNO HDN HL HR HMI
              go_wp2
              go_ret
              exact ⟨_, _, rfl, LF.out, KF.out⟩
          · have HFZ := hid hfz
            have HNZ := hid hnz
            subst hnx
            clear HX hfz hnz
            have hzn : ¬ (z : Int) < 0 := by omega
            have P0 : Box (w8.ownsRow w8.heap.size 3 1 (.slice none 0 0) (ptK g z 0).length (ints (ptK g z 0))) := hid (nil_row _ _)
            have R0 : Box (RowAt w8 pd pd i 4 (bw (dnK g line z 0))) := hid (HR.out.congr (fun x _ => by unfold bw; rw [dnK_zero]))
            by_cases hlj : j < i
            all_goals
              first
                | (have hlj' : (j : Int) < (i : Int) := by omega)
                | (have hlj' : ¬ (j : Int) < (i : Int) := by omega)
              go_wp2_with fail
              clear hlj'
              generalize w8 = w9 at HR HL HK5 P0 R0 ⊢
              go_loopw [12, 13] (fun pv kv wr => ∃ (k : Nat) (v12 : Value), v12 = pv ∧ kv = .int .i64 (k : Int) ∧ k ≤ i ∧ Box (wr.ownsRow w9.heap.size 3 1 v12 (ptK g z k).length (ints (ptK g z k))) ∧ Box (RowAt wr pd pd i 4 (bw (dnK g line z k))) ∧ Box (Keeps [pd] w9 wr)) (fun _ kv _ => i - (intOf kv).toNat)
              case atStart => exact ⟨0, _, rfl, rfl, by omega, P0, R0, hid (Keeps.refl _ _)⟩
              case round =>
                clear P0 R0
                obtain ⟨k, v12, rfl, rfl, hk, HP, HR2, HKP⟩ := hrel
                by_cases hlk : k < i
                · have hlk' : (k : Int) < (i : Int) := by omega
                  have hz' : (z : Int) < (i : Int) := by omega
                  have k5r := HK5.out.fresh HKP.out (fun x hx => by simp at hx; have := HPD.out; omega)
                  have qz := cell_kept k5r (HV.out z hz)
                  have qk := cell_kept k5r (HV.out k hlk)
                  have czk := cell_kept k5r (HF.out z hz k hlk)
                  have ckz := cell_kept k5r (HF.out k hlk z hz)
                  clear k5r
                  have hmu : mutB g z k = (rB g z k && rB g k z) := rfl
                  have HNO : Box (mutB g z k = false → wr.ownsRow w9.heap.size 3 1 v12 (ptK g z (k + 1)).length (ints (ptK g z (k + 1))) ∧ RowAt wr pd pd i 4 (bw (dnK g line z (k + 1)))) := hid (fun h => ⟨by rw [ptK_out h]; exact HP.out, HR2.out.congr (fun x _ => by unfold bw; rw [dnK_out h])⟩)
                  cases h1 : rB g z k with
                  | false =>
                    rw [h1] at czk hmu
                    have hq := HNO.out hmu
                    have P1 := hid hq.1
                    have R1 := hid hq.2
                    clear HNO hmu hq h1 HP HR2 qk ckz
                    go_wp2
                    go_roundw
                    case rel => exact ⟨k + 1, v12, rfl, by go_num, by omega, P1, R1, HKP⟩
                    case measure => simp [intOf]; omega
                  | true =>
                    cases h2 : rB g k z with
                    | false =>
                      rw [h1, h2] at hmu
                      rw [h1] at czk
                      rw [h2] at ckz
                      have hq := HNO.out hmu
                      have P1 := hid hq.1
                      have R1 := hid hq.2
                      clear HNO hmu hq h1 h2 HP HR2
                      go_wp2
                      go_roundw
                      case rel => exact ⟨k + 1, v12, rfl, by go_num, by omega, P1, R1, HKP⟩
                      case measure => simp [intOf]; omega
                    | true =>
                      rw [h1, h2] at hmu
                      rw [h1] at czk
                      rw [h2] at ckz
                      have HMU := hid hmu
                      have hpl := ptK_len g z k
                      have hsz : w9.heap.size ≤ wr.heap.size := HKP.out.size
                      clear HNO hmu h1 h2
                      have hne : pd ∉ v12.ownBlock.toList := fun hx => bol_ne_row HR2.out HP.out (by simpa using hx)
                      go_wp2_with (at_builtin; go_must (refine wpList_append_own _ rfl _ _ 23 rfl w9.heap.size 3 Tryd.t3 (.int .i64 0) 1 8 under_ints info_int zero_int size_int bytes_int rfl (by decide) v12 _ _ rfl (HP.out.alloc _) _ 1 1 [.int .i64 (k : Int)] rfl rfl (cell_one_new _ _ _) (fun x hx => by simp at hx; subst hx; rfl) (by unfold maxLen; omega) (by omega) (by simp; omega) ?_; intro v6 w6 hown6 hgrow6 hnil6; have k6 := Keeps.grown v12.ownBlock.toList hgrow6 (fun y hy => by rw [hy]; simp); have R6 := hid ((HR2.out.kept (Keeps.alloc [] wr (Obj.cells #[.int .i64 (k : Int)] 3)) (by simp)).kept k6 hne); have c6 := R6.out.cell hlk; unfold bw at c6; have f6 := R6.out.frozen k))
                      have R7 : Box (RowAt (w6.setCell ⟨pd, k, none⟩ (.bool true)) pd pd i 4 (bw (dnK g line z (k + 1)))) := hid ((bw_put R6.out k).congr (fun x _ => by unfold bw; rw [dnK_in HMU.out]))
                      have ks : Keeps [pd] w6 (w6.setCell ⟨pd, k, none⟩ (.bool true)) := Keeps.setCell _ _ _ _ (by simp)
                      have P7 : Box ((w6.setCell ⟨pd, k, none⟩ (.bool true)).ownsRow w9.heap.size 3 1 v6 (ptK g z (k + 1)).length (ints (ptK g z (k + 1)))) := hid (by
                        rw [ptK_in HMU.out, List.length_append, show ints (ptK g z k ++ [k]) = ints (ptK g z k) ++ [.int .i64 (k : Int)] from by simp [ints]]
                        exact ownsRow_keeps hown6 ks (fun b hb hx => by
                          simp at hx
                          exact bol_ne_row R6.out hown6 (by rw [hb, hx])))
                      have K7 : Box (Keeps [pd] w9 (w6.setCell ⟨pd, k, none⟩ (.bool true))) := hid (((HKP.out.quiet (Keeps.alloc [] _ _)).trans k6 (fun x hx hl => by have := own_new HP.out x hx; omega)).trans ks (fun x hx _ => hx))
                      clear c6 f6
                      clear hown6 hgrow6 hnil6 k6 hne ks R6 HP HR2 HKP HMU qz qk czk ckz
                      go_roundw
                      case rel => exact ⟨k + 1, v6, rfl, by go_num, by omega, P7, R7, K7⟩
                      case measure => simp [intOf]; omega
                · obtain rfl : k = i := by omega
                  have hzg : z < g.length := by rw [HN.out]; exact hz
                  have hpt : ptK g z k = nb (sccs g) (plc g z) := by
                    rw [plc_part HS.out.ok hzg]
                    unfold ptK part
                    rw [HN.out]
                  rw [hpt] at HP
                  have HM2 := hid (HMI.out.next HS.out hzg HFZ.out HNZ.out)
                  have R2 : Box (RowAt wr pd pd k 4 (bw (dn g (line ++ [plc g z])))) := hid (HR2.out.congr (fun x hx => by
                    unfold bw
                    have h := dnK_all HS.out.ok (line := line) hzg (x := x) (by rw [HN.out]; exact hx)
                    rw [HN.out] at h
                    rw [h]))
                  have L2 : Box (LsOwn wr pd (.slice ov ln oc) vs (line.map fun k => nb (sccs g) k)) := hid (HL.out.kept HKP.out (fun b hb hx => by
                      simp at hx
                      exact bol_ne_rows HR.out HL.out.outer (by rw [hb, hx])) (fun t ht b hb hx => by
                      simp at hx
                      exact bol_ne_row HR.out (HL.out.inner t ht) (by rw [hb, hx])))
                  have hlen1 : (line.map fun k => nb (sccs g) k).length = ln := by rw [List.length_map]; exact HLN.out
                  have HOU := hid L2.out.outer
                  rw [hlen1] at HOU
                  have hpw : pd ≤ w9.heap.size := by have := HR.out.lt; omega
                  have HPP := hid (ownsRow_base HP.out hpw)
                  obtain ⟨ax, cx, hvx, _, _, _⟩ := ownsRow_nat HP.out
                  have hsz2 : w9.heap.size ≤ wr.heap.size := HKP.out.size
                  subst hvx
                  have K5R := hid (HK5.out.fresh HKP.out (fun x hx => by simp at hx; have := HPD.out; omega))
                  clear hpt HP HR2 HKP HL HR HK5
                  go_wp2_with (at_builtin; go_must (refine wpList_append_own _ rfl _ _ 25 rfl pd 23 Tryd.t23 (.slice none 0 0) 1 24 under_lists info_ints zero_ints size_ints bytes_ints rfl (by decide) (.slice ov ln oc) _ _ rfl (HOU.out.alloc _) _ 1 1 [.slice ax (nb (sccs g) (plc g z)).length cx] rfl rfl (cell_one_new _ _ _) (fun x hx => by simp at hx; subst hx; rfl) (by unfold maxLen; omega) (by omega) (by simp; omega) ?_; intro v6 w6 hown6 hgrow6 hnil6))
                  have k6 : Keeps (Value.slice ov ln oc).ownBlock.toList _ w6 := Keeps.grown (Value.slice ov ln oc).ownBlock.toList hgrow6 (fun y hy => by rw [hy]; simp)
                  have L6 : Box (LsOwn w6 pd v6 (vs ++ [.slice ax (nb (sccs g) (plc g z)).length cx]) ((line ++ [plc g z]).map fun k => nb (sccs g) k)) := hid (by
                    have := L2.out.snoc (Keeps.alloc [] _ _) HPP.out (by rw [hlen1]; exact hown6) hgrow6
                    rw [List.map_append]
                    exact this)
                  have R6 := hid ((R2.out.kept (Keeps.alloc [] wr (Obj.cells #[.slice ax (nb (sccs g) (plc g z)).length cx] 23)) (by simp)).kept k6 (fun hx => bol_ne_rows R2.out HOU.out (by simpa using hx)))
                  have K6 := hid ((K5R.out.quiet (Keeps.alloc [] _ _)).fresh k6 (fun x hx => by have := own_new HOU.out x hx; have := HPD.out; omega))
                  have HQ6 : Box ((line ++ [plc g z]).length + (gk - 1) = k + 1) := hid (by
                    rw [List.length_append]
                    have := HQ2.out
                    have := HLN.out
                    simp
                    omega)
                  clear hown6 hgrow6 hnil6 k6 L2 R2 HPP HOU K5R
                  go_roundg (gk - 1)
                  case measure => omega
                  case rel => exact ⟨line ++ [plc g z], v6, _, rfl, HM2, L6, R6, HQ6, K6⟩
end Go.Proofs.YtngdnjlohmkbiaaDoor

namespace Go.Proofs.YtngdnjlohmkbiaaDoor
open Go.RowKit

theorem parts_small {g : List (List Nat)} (hs : Sm g) : (partsM g).length ≤ 1000000 ∧ ∀ j, (nb (partsM g) j).length ≤ 1000000 := by
  have h6 := hs.len
  have h1 := sccs_len g
  refine ⟨?_, fun j => ?_⟩
  · rw [partsM_len]
    have := nodup_len_le (line_nodup g) (n := (sccs g).length) (fun x hx => line_lt g hx)
    omega
  · by_cases hj : j < (partsM g).length
    · obtain ⟨a, ha, e⟩ := sccs_part (parts_mem (nb_mem hj))
      rw [e]
      have := List.length_filter_le (mutB g a) (List.range g.length)
      rw [List.length_range] at this
      exact Nat.le_trans this (by omega)
    · rw [nb_out (by omega)]; simp

set_option maxRecDepth 20000 in
set_option maxHeartbeats 8000000 in
theorem parts_law (n : Int) (pa : Option Addr) (cap : Nat) (zs : List (Int × Int)) (w : World) (hT : TabAt w) (hz : PairsAt w pa zs) (hl : zs.length ≤ maxLen) :
    Calls Tryd.prog 4 #[.int .i64 n, .slice pa zs.length cap] w fun e w' => e = .returned (.bool true) ∧ Keeps [] w w' := by
  have HBG := hid (begun5_any w hT)
  obtain ⟨N, g, L, hN2, hN1, hgl, hsm, hgd, hnn, hmd⟩ := made_pack n zs hl
  have HMD := hid (fun wz (k : Keeps [] w wz) => hmd pa cap wz (hz.kept k (fun _ _ _ => by simp)))
  have HS := hid hsm
  have HGD := hid hgd
  have HN := hid hgl
  have HT := hid (fun wz (k : Keeps [] w wz) => tab_of hT k)
  clear hT hz hl hmd hsm hgd hgl hnn
  generalize zs.length = zl at HMD
  go_enter Tryd.func4, Tryd.ntmps4
  go_wp2_with fail
  refine HBG.out.mono ?_
  rintro e w1 ⟨rfl, k1⟩
  clear HBG
  go_wp2_with fail
  refine (HMD.out w1 k1).mono ?_
  rintro e w2 ⟨p, vs, rfl, ho2, k2⟩
  have L3 := hid (LG.make ho2 (k1.quiet k2))
  rw [← HGD.out] at L3
  clear ho2 k2 k1 HMD HGD
  go_upto_region 5 with fail
  generalize w2.alloc (Obj.cells #[.int .i64 (N : Int), .slice (some ⟨p, 0, none⟩) N N] 27) = w3 at L3 ⊢
  obtain ⟨B, hB⟩ : ∃ B, w2.heap.size + 1 = B := ⟨_, rfl⟩
  rw [hB] at L3
  generalize w2.heap.size = bx at L3 ⊢
  clear hB
  have HP1 := hid (fun wz (k : Keeps [] w3 wz) => parts_any g HS.out (some ⟨p, 0, none⟩) g.length B wz (L3.out.quiet k).gr (L3.out.quiet k).le (HT.out wz (L3.out.keep.quiet k)))
  have HP2 := hid (fun wz (k : Keeps [] w3 wz) => rparts_any g HS.out (by rw [HN.out]; exact hN1) (some ⟨p, 0, none⟩) g.length B wz (L3.out.quiet k).gr)
  have hps := parts_small HS.out
  rw [HN.out] at HP1 HP2
  generalize partsM g = P at HP1 HP2 hps
  have HQ := hid (fun a1 a2 c1 c2 wz (h1 : GAt wz wz.heap.size a1 P) (h2 : GAt wz wz.heap.size a2 P) => geqall_any a1 a2 _ _ c1 c2 P P wz h1 h2 hps.1 hps.2)
  rw [decide_eq_true rfl] at HQ
  clear hps
  have t6 := L3.out.two
  rw [HN.out] at t6
  have c0 := t6.c0
  have c1 := t6.c1
  have T6 := hid t6
  clear t6
  have kd : Keeps [] w3 w3.drew := Keeps.drew _ _
  go_region_held3 (fun w' => w'.cell? ⟨bx, 0, none⟩ = some (.int .i64 (N : Int)) ∧ w'.cell? ⟨bx, 1, none⟩ = some (.slice (some ⟨p, 0, none⟩) N N)) (go_keep) (first
    | (go_at_call 19; refine (HP1.out _ kd).mono ?_; rintro e w4 ⟨v4, vs4, rfl, h4, k4⟩; obtain ⟨a4, c4, rfl, n4, _⟩ := h4.graph; have N4 := hid n4; have kk4 := kd.quiet k4; have g4 := (T6.out.kept kk4 (by simp)).c0; have i4 := (T6.out.kept kk4 (by simp)).c1; clear h4 n4 k4)
    | (go_at_call 20; refine (HP2.out _ kk4).mono ?_; rintro e w5 ⟨v5, vs5, rfl, h5, k5⟩; obtain ⟨a5, c5, rfl, n5, _⟩ := h5.graph; have N5 := hid n5; have M5 := hid (GAt.up (N4.out.quiet k5) k5.size); have kk5 := kk4.quiet k5; have g5 := (T6.out.kept kk5 (by simp)).c0; have i5 := (T6.out.kept kk5 (by simp)).c1; clear h5 n5 k5)
    | (go_at_call 18; refine (HQ.out _ _ _ _ _ M5.out N5.out).mono ?_; rintro e wq ⟨rfl, mq, rfl⟩; have kkq := kk5.quiet (Keeps.drewN [] _ mq); have gq := (T6.out.kept kkq (by simp)).c0; have iq := (T6.out.kept kkq (by simp)).c1)
    | fail)
  all_goals
    go_wp2
    go_ret
    exact ⟨rfl, L3.out.keep.quiet kkq⟩
end Go.Proofs.YtngdnjlohmkbiaaDoor
