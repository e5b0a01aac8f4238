/-
  Plain: who reaches itself stands in a part with others, or has an edge to itself.
  Plain: the parts stand in an order, and each node in one of them.
  Plain: Parts as the statement GraphPartsOrder asks it.
  Plain: what Reach and Loops tell; contracts: the statements' own Set and Loops.
  Plain: the way that the walk by breadth finds is a way of edges, a shortest one, and of these the least.
  Plain: a ring.
  A new list is put into its place in a list of lists.
  The statement GraphRing.
-/
import Derived.Test.YtngdnjlohmkbiabDoorGLaw
import Derived.Test.YtngdnjlohmkbiabDoorGPath
import Derived.Deep.DeepCutAuto
import Derived.Deep.RegionHeld3
import Derived.Deep.DrawnRows
import Derived.BigQuiet

namespace Go.Proofs.YtngdnjlohmkbiabDoor
open Go.RowKit

theorem sccs_part {g : List (List Nat)} {p : List Nat} (hp : p ∈ sccs g) : ∃ a, a < g.length ∧ p = part g a := by
  obtain ⟨a, ha, rfl⟩ := List.mem_map.1 hp
  exact ⟨a, List.mem_range.1 (List.mem_filter.1 ha).1, rfl⟩
theorem sccs_same {g : List (List Nat)} (hg : Ok g) {p q : List Nat} (hp : p ∈ sccs g) (hq : q ∈ sccs g) {x : Nat} (h1 : x ∈ p) (h2 : x ∈ q) : p = q := by
  obtain ⟨a, ha, rfl⟩ := sccs_part hp
  obtain ⟨b, hb, rfl⟩ := sccs_part hq
  exact part_eq hg ha hb (((mem_part hg x ha).1 h1).2.trans ((mem_part hg x hb).1 h2).2.symm)
theorem nb_mem {l : List (List Nat)} {k : Nat} (hk : k < l.length) : nb l k ∈ l := getD_mem l k [] hk
theorem parts_mem {g : List (List Nat)} {p : List Nat} (hp : p ∈ partsM g) : p ∈ sccs g := by
  obtain ⟨k, hk, rfl⟩ := List.mem_map.1 hp
  have h := ahd_lt (smallG g (sccs g)) _ [] (fun _ h => absurd h List.not_mem_nil) k hk
  rw [smallG_len] at h
  exact nb_mem h
theorem loopS_part {g : List (List Nat)} (hg : Ok g) {p : List Nat} (hp : p ∈ sccs g) {x : Nat} (hx : x ∈ p) : loopS g (sccs g) x = loopB g p := by
  unfold loopS
  show (none_ x || decide (x ∈ ((sccs g).filter (loopB g)).flatten)) = _
  cases h : loopB g p
  · rw [decide_eq_false]
    · rfl
    · intro hm
      obtain ⟨q, hq, hxq⟩ := List.mem_flatten.1 hm
      have := sccs_same hg hp (List.mem_filter.1 hq).1 hx hxq
      subst this
      have := (List.mem_filter.1 hq).2
      rw [h] at this
      cases this
  · rw [decide_eq_true]
    · rfl
    · exact List.mem_flatten.2 ⟨p, List.mem_filter.2 ⟨hp, h⟩, hx⟩
theorem loopB_node {g : List (List Nat)} {p : List Nat} {x : Nat} (hx : x ∈ p) : loopB g p = (decide (1 < p.length) || decide (x ∈ nb g x)) := by
  unfold loopB
  by_cases h : 1 < p.length
  · simp [h]
  · have : p = [x] := by
      match p, h with
      | [], _ => cases hx
      | [y], _ => simp at hx; rw [hx]
      | _ :: _ :: _, h => simp at h
    rw [this]
    rfl

theorem part_nodup (g : List (List Nat)) (a : Nat) : (part g a).Nodup := List.nodup_range.filter _
end Go.Proofs.YtngdnjlohmkbiabDoor

namespace Go.Proofs.YtngdnjlohmkbiabDoor
open Go.RowKit

theorem plcK_mem (ps : List (List Nat)) (x : Nat) : ∀ k, (∃ j, j < k ∧ x ∈ nb ps j) → x ∈ nb ps (plcK ps k x) ∧ plcK ps k x < k
  | 0, ⟨_, h, _⟩ => absurd h (Nat.not_lt_zero _)
  | k + 1, ⟨j, hj, hx⟩ => by
    unfold plcK
    by_cases e : x ∈ nb ps k
    · rw [if_pos e]; exact ⟨e, by omega⟩
    · rw [if_neg e]
      have hjk : j < k := by
        rcases Nat.lt_or_ge j k with h | h
        · exact h
        · have : j = k := by omega
          subst this
          exact absurd hx e
      have := plcK_mem ps x k ⟨j, hjk, hx⟩
      exact ⟨this.1, by omega⟩
theorem sccs_idx {g : List (List Nat)} (hg : Ok g) {i j x : Nat} (hi : i < (sccs g).length) (hj : j < (sccs g).length) (h1 : x ∈ nb (sccs g) i) (h2 : x ∈ nb (sccs g) j) : i = j := by
  have e := sccs_same hg (nb_mem hi) (nb_mem hj) h1 h2
  have hp := List.pairwise_iff_getElem.1 (sccs_pw hg)
  have ge : ∀ k (hk : k < (sccs g).length), nb (sccs g) k = (sccs g)[k] := fun k hk => by rw [nb, List.getD_eq_getElem?_getD, List.getElem?_eq_getElem hk]; rfl
  rcases Nat.lt_trichotomy i j with h | h | h
  · have := hp i j hi hj h
    rw [← ge i hi, ← ge j hj, e] at this
    omega
  · exact h
  · have := hp j i hj hi h
    rw [← ge i hi, ← ge j hj, e] at this
    omega
theorem sccs_has {g : List (List Nat)} (hg : Ok g) {x : Nat} (hx : x < g.length) : ∃ j, j < (sccs g).length ∧ x ∈ nb (sccs g) j := by
  obtain ⟨i, hi, hm, hl⟩ := least_of hg x hx
  have hp : part g i ∈ sccs g := List.mem_map.2 ⟨i, List.mem_filter.2 ⟨List.mem_range.2 (by omega), hl⟩, rfl⟩
  obtain ⟨j, hj, e⟩ := List.getElem_of_mem hp
  refine ⟨j, hj, ?_⟩
  rw [nb, List.getD_eq_getElem?_getD, List.getElem?_eq_getElem hj]
  show x ∈ (sccs g)[j]
  rw [e]
  exact (mem_part hg x (by omega)).2 ⟨hx, hm.symm⟩
/-- The part of a node. -/
def plc (g : List (List Nat)) (x : Nat) : Nat := plcK (sccs g) (sccs g).length x
theorem plc_mem {g : List (List Nat)} (hg : Ok g) {x : Nat} (hx : x < g.length) : x ∈ nb (sccs g) (plc g x) ∧ plc g x < (sccs g).length := plcK_mem _ x _ (sccs_has hg hx)
theorem plc_eq {g : List (List Nat)} (hg : Ok g) {x j : Nat} (hx : x < g.length) (hj : j < (sccs g).length) (h : x ∈ nb (sccs g) j) : plc g x = j := sccs_idx hg (plc_mem hg hx).2 hj (plc_mem hg hx).1 h
theorem small_edge {g : List (List Nat)} (hs : Sm g) {a b : Nat} (ha : a < g.length) (hb : b ∈ nb g a) (hne : plc g b ≠ plc g a) : plc g b ∈ nb (smallG g (sccs g)) (plc g a) := by
  have h6 : (sccs g).length ≤ 600 := Nat.le_trans (sccs_len g) hs.len
  have h1 := plc_mem hs.ok ha
  rw [nb_smallG _ _ _ h1.2, mem_smallL h6 h1.2]
  exact ⟨hne, List.mem_map.2 ⟨b, List.mem_flatMap.2 ⟨a, h1.1, hb⟩, rfl⟩⟩
/-- An edge between two parts is an edge between nodes of theirs. -/
theorem small_node {g : List (List Nat)} (hs : Sm g) {i j : Nat} (hi : i < (sccs g).length) (h : j ∈ nb (smallG g (sccs g)) i) : j ≠ i ∧ ∃ a b, a ∈ nb (sccs g) i ∧ b ∈ nb g a ∧ b ∈ nb (sccs g) j ∧ j < (sccs g).length := by
  have h6 : (sccs g).length ≤ 600 := Nat.le_trans (sccs_len g) hs.len
  rw [nb_smallG _ _ _ hi, mem_smallL h6 hi] at h
  obtain ⟨b, hb, e⟩ := List.mem_map.1 h.2
  obtain ⟨a, ha, hab⟩ := List.mem_flatMap.1 hb
  have hbl := hs.ok a b hab
  have h2 := plc_mem hs.ok hbl
  have e2 : plc g b = j := e
  rw [e2] at h2
  exact ⟨h.1, a, b, ha, hab, h2.1, h2.2⟩

/-- A line in which whoever leads to one stands ahead of it. -/
def Ord (h : List (List Nat)) (line : List Nat) : Prop := ∀ t, t < line.length → ∀ i, line.getD t 0 ∈ nb h i → i ∈ line.take t
theorem wts_pred {h : List (List Nat)} {line : List Nat} {m i : Nat} (hw : wts h line m = 0) (hi : i < h.length) (hm : m ∈ nb h i) : i ∈ line := by
  by_cases e : i ∈ line
  · exact e
  · exfalso
    have h1 : occ (nb h i) m ∈ (((List.range h.length).filter fun a => !decide (a ∈ line)).map fun a => occ (nb h a) m) := List.mem_map.2 ⟨i, List.mem_filter.2 ⟨List.mem_range.2 hi, by simp [e]⟩, rfl⟩
    have h2 : ∀ (l : List Nat) (x : Nat), x ∈ l → x ≤ l.sum := fun l x hx => by
      induction l with
      | nil => cases hx
      | cons a l ih =>
        rw [List.sum_cons]
        rcases List.mem_cons.1 hx with e | e
        · omega
        · have := ih e; omega
    have h3 := h2 _ _ h1
    have h4 : 0 < occ (nb h i) m := List.length_pos_of_mem (List.mem_filter.2 ⟨hm, by simp⟩)
    unfold wts at hw
    omega
theorem Ord.snoc {h : List (List Nat)} {line : List Nat} (ho : Ord h line) {n : Nat} (hn : rdy h line n = true) : Ord h (line ++ [n]) := by
  intro t ht i hi
  by_cases e : t < line.length
  · rw [List.getD_eq_getElem?_getD, List.getElem?_append_left e, ← List.getD_eq_getElem?_getD] at hi
    rw [List.take_append_of_le_length (by omega)]
    exact ho t e i hi
  · have e2 : t = line.length := by rw [List.length_append] at ht; simp at ht; omega
    subst e2
    rw [List.getD_eq_getElem?_getD, List.getElem?_append_right (Nat.le_refl _)] at hi
    simp at hi
    rw [List.take_left]
    refine wts_pred (rdy_iff.1 hn).2.2 ?_ hi
    rcases Nat.lt_or_ge i h.length with h5 | h5
    · exact h5
    · rw [nb_out h5] at hi; cases hi
theorem ahdL_ord (h : List (List Nat)) : ∀ (f : Nat) (line : List Nat), Ord h line → Ord h (ahdL h f line)
  | 0, _, ho => ho
  | f + 1, line, ho => by
    rcases firstI_spec (rdy h line) 0 with ⟨e, _⟩ | ⟨j, e, _, _, hj, _⟩
    · rw [ahdL_end h line e]; exact ho
    · rw [ahdL_step h line j e]; exact ahdL_ord h f _ (ho.snoc hj)
theorem ahdL_done (h : List (List Nat)) : ∀ (f : Nat) (line : List Nat), Ahd h line → h.length + 1 ≤ f + line.length → firstI (rdy h (ahdL h f line)) 0 = -1
  | 0, line, ha, hl => by
    have := nodup_len_le ha.nodup ha.lt
    omega
  | f + 1, line, ha, hl => by
    rcases firstI_spec (rdy h line) 0 with ⟨e, _⟩ | ⟨j, e, _, _, hj, _⟩
    · rw [ahdL_end h line e]; exact e
    · rw [ahdL_step h line j e]
      exact ahdL_done h f _ (ha.snoc hj) (by rw [List.length_append]; simp; omega)
/-- How many a part reaches. -/
def rcount (g : List (List Nat)) (k : Nat) : Nat := ((List.range g.length).filter (rB g (key0 (nb (sccs g) k)))).length
theorem rcount_le (g : List (List Nat)) (k : Nat) : rcount g k ≤ g.length := by
  unfold rcount
  exact Nat.le_trans (List.length_filter_le _ _) (by simp)
theorem key_mem {g : List (List Nat)} (hg : Ok g) {k : Nat} (hk : k < (sccs g).length) : key0 (nb (sccs g) k) ∈ nb (sccs g) k := by
  obtain ⟨a, ha, e⟩ := nb_sccs hk
  have := part_self hg ha
  rw [← e] at this
  exact getD_mem _ 0 0 (List.length_pos_of_mem this)
theorem mem_mut {g : List (List Nat)} (hg : Ok g) {k x y : Nat} (hk : k < (sccs g).length) (hx : x ∈ nb (sccs g) k) (hy : y ∈ nb (sccs g) k) : Mut g x y := by
  obtain ⟨a, ha, e⟩ := nb_sccs hk
  rw [e] at hx hy
  exact ((mem_part hg x ha).1 hx).2.symm.trans ((mem_part hg y ha).1 hy).2
theorem mut_mem {g : List (List Nat)} (hg : Ok g) {k x y : Nat} (hk : k < (sccs g).length) (hx : x ∈ nb (sccs g) k) (hyl : y < g.length) (hm : Mut g x y) : y ∈ nb (sccs g) k := by
  obtain ⟨a, ha, e⟩ := nb_sccs hk
  rw [e] at hx ⊢
  exact (mem_part hg y ha).2 ⟨hyl, ((mem_part hg x ha).1 hx).2.trans hm⟩
theorem rcount_lt {g : List (List Nat)} (hs : Sm g) {a k : Nat} (ha : a < (sccs g).length) (h : k ∈ nb (smallG g (sccs g)) a) : rcount g k < rcount g a := by
  obtain ⟨hne, x, y, hx, hxy, hy, hk⟩ := small_node hs ha h
  have ka := key_mem hs.ok ha
  have kk := key_mem hs.ok hk
  have la := sccs_lt (g := g) a _ ka
  have lk := sccs_lt (g := g) k _ kk
  have p1 : Pth g noS (key0 (nb (sccs g) a)) (key0 (nb (sccs g) k)) := ((mem_mut hs.ok ha ka hx).1.snoc hxy rfl).trans (mem_mut hs.ok hk hy kk).1
  have hnot : rB g (key0 (nb (sccs g) k)) (key0 (nb (sccs g) a)) = false := by
    cases e : rB g (key0 (nb (sccs g) k)) (key0 (nb (sccs g) a))
    · rfl
    · have p2 := (rB_iff hs.ok _ lk).1 e
      have := mut_mem hs.ok ha ka lk ⟨p1, p2⟩
      exact absurd (sccs_idx hs.ok hk ha kk this) hne
  have hsub : ∀ m, rB g (key0 (nb (sccs g) k)) m = true → rB g (key0 (nb (sccs g) a)) m = true := fun m hm => (rB_iff hs.ok m la).2 (p1.trans ((rB_iff hs.ok m lk).1 hm))
  unfold rcount
  have hself : rB g (key0 (nb (sccs g) a)) (key0 (nb (sccs g) a)) = true := (rB_iff hs.ok _ la).2 (Pth.refl rfl)
  generalize key0 (nb (sccs g) a) = u at *
  generalize rB g (key0 (nb (sccs g) k)) = R at *
  generalize rB g u = S at *
  have hn : ((List.range g.length).filter R ++ [u]).Nodup := by
    rw [List.nodup_append]
    refine ⟨List.nodup_range.filter _, by simp, fun c hc d hd e => ?_⟩
    simp at hd
    subst hd; subst e
    rw [(List.mem_filter.1 hc).2] at hnot
    cases hnot
  have := List.Nodup.length_le_of_subset hn (l₂ := (List.range g.length).filter S) (fun c hc => by
    rcases List.mem_append.1 hc with h1 | h1
    · exact List.mem_filter.2 ⟨(List.mem_filter.1 h1).1, hsub c (List.mem_filter.1 h1).2⟩
    · simp at h1
      subst h1
      exact List.mem_filter.2 ⟨List.mem_range.2 la, hself⟩)
  rw [List.length_append] at this
  simp at this
  omega
theorem ahd_one {g : List (List Nat)} (hs : Sm g) {k : Nat} (hk : k < (sccs g).length) (hp : ∀ a, a < (sccs g).length → k ∈ nb (smallG g (sccs g)) a → a ∈ ahd (smallG g (sccs g))) : k ∈ ahd (smallG g (sccs g)) := by
  have hd := ahdL_done (smallG g (sccs g)) ((smallG g (sccs g)).length + 1) [] (Ahd.nil _) (by simp)
  by_cases e : k ∈ ahd (smallG g (sccs g))
  · exact e
  · exfalso
    have hl := smallG_len g (sccs g)
    have h6 : (sccs g).length ≤ 600 := Nat.le_trans (sccs_len g) hs.len
    have hw : wts (smallG g (sccs g)) (ahd (smallG g (sccs g))) k = 0 := by
      unfold wts
      have hz : ∀ a, a ∈ ((List.range (smallG g (sccs g)).length).filter fun a => !decide (a ∈ ahd (smallG g (sccs g)))) → occ (nb (smallG g (sccs g)) a) k = 0 := by
        intro a ha
        have h1 := List.mem_range.1 (List.mem_filter.1 ha).1
        have h2 : a ∉ ahd (smallG g (sccs g)) := by simpa using (List.mem_filter.1 ha).2
        unfold occ
        rw [List.length_eq_zero_iff, List.filter_eq_nil_iff]
        intro y hy hyk
        simp at hyk
        subst hyk
        exact h2 (hp a (by omega) hy)
      have hs0 : ∀ l : List Nat, (∀ a, a ∈ l → occ (nb (smallG g (sccs g)) a) k = 0) → (l.map fun a => occ (nb (smallG g (sccs g)) a) k).sum = 0 := by
        intro l hl
        induction l with
        | nil => rfl
        | cons b l ih => rw [List.map_cons, List.sum_cons, hl b (by simp), ih (fun a ha => hl a (by simp [ha]))]
      exact hs0 _ hz
    have hr : rdy (smallG g (sccs g)) (ahd (smallG g (sccs g))) k = true := rdy_iff.2 ⟨by omega, e, hw⟩
    rcases firstI_spec (rdy (smallG g (sccs g)) (ahd (smallG g (sccs g)))) 0 with ⟨_, h1⟩ | ⟨j, e1, _⟩
    · have := h1 k (by omega) (by omega)
      rw [hr] at this
      cases this
    · have hd' : firstI (rdy (smallG g (sccs g)) (ahd (smallG g (sccs g)))) 0 = -1 := hd
      rw [e1] at hd'
      omega
theorem ahd_all {g : List (List Nat)} (hs : Sm g) : ∀ (d k : Nat), k < (sccs g).length → g.length - rcount g k ≤ d → k ∈ ahd (smallG g (sccs g)) := by
  intro d
  induction d with
  | zero =>
    intro k hk hd
    exact ahd_one hs hk (fun a ha hak => by
      have := rcount_lt hs ha hak
      have := rcount_le g a
      omega)
  | succ d ih =>
    intro k hk hd
    exact ahd_one hs hk (fun a ha hak => ih a ha (by
      have := rcount_lt hs ha hak
      have := rcount_le g a
      omega))
end Go.Proofs.YtngdnjlohmkbiabDoor

namespace Go.Proofs.YtngdnjlohmkbiabDoor
open Go.RowKit

theorem getD_nodup {l : List Nat} (h : l.Nodup) {i j : Nat} (hi : i < l.length) (hj : j < l.length) (e : l.getD i 0 = l.getD j 0) : i = j := by
  rw [List.getD_eq_getElem?_getD, List.getD_eq_getElem?_getD, List.getElem?_eq_getElem hi, List.getElem?_eq_getElem hj] at e
  exact (List.getElem_inj h).1 e
theorem line_nodup (g : List (List Nat)) : (ahd (smallG g (sccs g))).Nodup := (ahd_ahd _ _ _ (Ahd.nil _)).nodup
theorem line_lt (g : List (List Nat)) {k : Nat} (hk : k ∈ ahd (smallG g (sccs g))) : k < (sccs g).length := by
  have := (ahd_ahd _ _ _ (Ahd.nil _)).lt k hk
  rwa [smallG_len] at this
theorem partsM_len (g : List (List Nat)) : (partsM g).length = (ahd (smallG g (sccs g))).length := by simp [partsM]
theorem nb_parts {g : List (List Nat)} {t : Nat} (ht : t < (partsM g).length) : nb (partsM g) t = nb (sccs g) ((ahd (smallG g (sccs g))).getD t 0) := by
  rw [partsM_len] at ht
  unfold partsM
  rw [nb, List.getD_eq_getElem?_getD, List.getElem?_map, List.getD_eq_getElem?_getD, List.getElem?_eq_getElem ht, Option.map_some, Option.getD_some, Option.getD_some]
theorem line_at (g : List (List Nat)) {t : Nat} (ht : t < (partsM g).length) : (ahd (smallG g (sccs g))).getD t 0 ∈ ahd (smallG g (sccs g)) := getD_mem _ _ _ (by rw [← partsM_len]; exact ht)
/-- Where a node's part stands. -/
theorem pos_has {g : List (List Nat)} (hs : Sm g) {x : Nat} (hx : x < g.length) : ∃ t, t < (partsM g).length ∧ x ∈ nb (partsM g) t := by
  have h1 := plc_mem hs.ok hx
  have h2 := ahd_all hs _ _ h1.2 (Nat.le_refl _)
  obtain ⟨t, ht, e⟩ := List.getElem_of_mem h2
  have ht' : t < (partsM g).length := by rw [partsM_len]; exact ht
  refine ⟨t, ht', ?_⟩
  rw [nb_parts ht', List.getD_eq_getElem?_getD, List.getElem?_eq_getElem ht]
  rw [Option.getD_some, e]
  exact h1.1
theorem pos_plc {g : List (List Nat)} (hs : Sm g) {x t : Nat} (hx : x < g.length) (ht : t < (partsM g).length) (h : x ∈ nb (partsM g) t) : plc g x = (ahd (smallG g (sccs g))).getD t 0 := by
  rw [nb_parts ht] at h
  exact plc_eq hs.ok hx (line_lt g (line_at g ht)) h
theorem pos_uniq {g : List (List Nat)} (hs : Sm g) {x t u : Nat} (hx : x < g.length) (ht : t < (partsM g).length) (hu : u < (partsM g).length) (h1 : x ∈ nb (partsM g) t) (h2 : x ∈ nb (partsM g) u) : t = u :=
  getD_nodup (line_nodup g) (by rw [← partsM_len]; exact ht) (by rw [← partsM_len]; exact hu) ((pos_plc hs hx ht h1).symm.trans (pos_plc hs hx hu h2))
theorem parts_edge {g : List (List Nat)} (hs : Sm g) {a b : Nat} (ha : a < g.length) (hb : b ∈ nb g a) : plcK (partsM g) (partsM g).length a ≤ plcK (partsM g) (partsM g).length b := by
  have hbl := hs.ok a b hb
  have h1 := plcK_mem _ a _ (pos_has hs ha)
  have h2 := plcK_mem _ b _ (pos_has hs hbl)
  generalize plcK (partsM g) (partsM g).length a = ta at *
  generalize plcK (partsM g) (partsM g).length b = tb at *
  have e1 := pos_plc hs ha h1.2 h1.1
  have e2 := pos_plc hs hbl h2.2 h2.1
  by_cases e : plc g b = plc g a
  · have := getD_nodup (line_nodup g) (by rw [← partsM_len]; exact h2.2) (by rw [← partsM_len]; exact h1.2) (e2.symm.trans (e.trans e1))
    omega
  · have h3 := small_edge hs ha hb e
    rw [e2] at h3
    have h4 := ahdL_ord (smallG g (sccs g)) ((smallG g (sccs g)).length + 1) [] (fun t ht => absurd ht (by simp)) tb (by have := h2.2; rw [partsM_len] at this; exact this) (plc g a) h3
    obtain ⟨u, hu, e5⟩ := List.getElem_of_mem h4
    have hu1 : u < tb := by rw [List.length_take] at hu; omega
    have hul : u < (ahd (smallG g (sccs g))).length := by rw [List.length_take] at hu; exact Nat.lt_of_lt_of_le hu (Nat.min_le_right _ _)
    have e6 : (ahd (smallG g (sccs g))).getD u 0 = plc g a := by
      rw [List.getElem_take] at e5
      rw [List.getD_eq_getElem?_getD, List.getElem?_eq_getElem hul, Option.getD_some]
      exact e5
    have := getD_nodup (line_nodup g) hul (by rw [← partsM_len]; exact h1.2) (e6.trans e1)
    omega
/-- Numbers in the first i parts. -/
def cntP (ps : List (List Nat)) (i : Nat) : Nat := ((ps.take i).map List.length).sum
theorem cntP_succ (ps : List (List Nat)) (i : Nat) (hi : i < ps.length) : cntP ps (i + 1) = cntP ps i + (nb ps i).length := by
  unfold cntP
  rw [take_snoc ps i [] hi, List.map_append, List.sum_append]
  simp [nb]
theorem flat_nodup (f : Nat → List Nat) : ∀ l : List Nat, l.Nodup → (∀ a, a ∈ l → (f a).Nodup) → (∀ a b x, a ∈ l → b ∈ l → x ∈ f a → x ∈ f b → a = b) → (l.map f).flatten.Nodup
  | [], _, _, _ => by simp
  | a :: l, hn, h1, h2 => by
    rw [List.map_cons, List.flatten_cons, List.nodup_append]
    rw [List.nodup_cons] at hn
    refine ⟨h1 a (by simp), flat_nodup f l hn.2 (fun b hb => h1 b (by simp [hb])) (fun b c x hb hc => h2 b c x (by simp [hb]) (by simp [hc])), ?_⟩
    intro x hx y hy e
    subst e
    obtain ⟨q, hq, hxq⟩ := List.mem_flatten.1 hy
    obtain ⟨b, hb, rfl⟩ := List.mem_map.1 hq
    have := h2 a b x (by simp) (by simp [hb]) hx hxq
    subst this
    exact hn.1 hb
theorem parts_count {g : List (List Nat)} (hs : Sm g) : cntP (partsM g) (partsM g).length = g.length := by
  unfold cntP
  rw [List.take_length]
  have e : ((partsM g).map List.length).sum = (partsM g).flatten.length := by rw [List.length_flatten]
  rw [e]
  have hn : (partsM g).flatten.Nodup := by
    unfold partsM
    refine flat_nodup _ _ (line_nodup g) (fun k hk => ?_) (fun i j x hi hj h1 h2 => sccs_idx hs.ok (line_lt g hi) (line_lt g hj) h1 h2)
    obtain ⟨a, _, e⟩ := nb_sccs (line_lt g hk)
    rw [e]
    exact part_nodup g a
  have hlt : ∀ x, x ∈ (partsM g).flatten → x < g.length := by
    intro x hx
    obtain ⟨q, hq, hxq⟩ := List.mem_flatten.1 hx
    obtain ⟨a, ha, rfl⟩ := sccs_part (parts_mem hq)
    exact ((mem_part hs.ok x ha).1 hxq).1
  have h1 := nodup_len_le hn hlt
  have h2 := List.Nodup.length_le_of_subset (List.nodup_range (n := g.length)) (l₂ := (partsM g).flatten) (fun x hx => by
    obtain ⟨t, ht, hxt⟩ := pos_has hs (List.mem_range.1 hx)
    exact List.mem_flatten.2 ⟨_, nb_mem ht, hxt⟩)
  rw [List.length_range] at h2
  omega
/-- A part rises. -/
theorem parts_rise {g : List (List Nat)} {t j : Nat} (ht : t < (partsM g).length) (hj : j + 1 < (nb (partsM g) t).length) : (nb (partsM g) t).getD j 0 < (nb (partsM g) t).getD (j + 1) 0 := by
  obtain ⟨a, _, e⟩ := sccs_part (parts_mem (nb_mem ht))
  rw [e] at hj ⊢
  have hp : (part g a).Pairwise (· < ·) := List.Pairwise.sublist List.filter_sublist List.pairwise_lt_range
  have := List.pairwise_iff_getElem.1 hp j (j + 1) (by omega) hj (by omega)
  rw [List.getD_eq_getElem?_getD, List.getD_eq_getElem?_getD, List.getElem?_eq_getElem hj, List.getElem?_eq_getElem (by omega)]
  exact this
end Go.Proofs.YtngdnjlohmkbiabDoor

namespace Go.Proofs.YtngdnjlohmkbiabDoor
open Go.RowKit

theorem vis_closed {g : List (List Nat)} (hg : Ok g) {s : Nat → Bool} (hs : ∀ u, s u = true → ∀ v, v ∈ nb g u → s v = true) {z : Nat} (hz : z < g.length) :
    (∀ u, (vis g (g.length + 1) z (s, [])).1 u = true ↔ s u = true ∨ Pth g noS z u) ∧ ∀ u, (vis g (g.length + 1) z (s, [])).1 u = true → ∀ v, v ∈ nb g u → (vis g (g.length + 1) z (s, [])).1 v = true := by
  obtain ⟨N, e, h⟩ := vis_spec g hg (g.length + 1) z s [] hz (Nat.lt_succ_of_le (un_le g _))
  rw [e]
  have hcl : ∀ u, orL s N u = true → ∀ v, v ∈ nb g u → orL s N v = true := by
    intro u hu v hv
    rcases orL_true.1 hu with h1 | h1
    · exact orL_true.2 (.inl (hs u h1 v hv))
    · rcases h.good.closed u h1 v hv with h2 | h2
      · exact orL_true.2 (.inl h2)
      · exact orL_true.2 (.inr h2)
  refine ⟨fun u => ⟨fun hu => ?_, ?_⟩, hcl⟩
  · rcases orL_true.1 hu with h1 | h1
    · exact .inl h1
    · obtain ⟨n, hn, p⟩ := (h.iff u).1 h1
      rw [List.mem_singleton.1 hn] at p
      exact .inr (p.mono fun _ _ => rfl)
  · rintro (h1 | p)
    · exact orL_true.2 (.inl h1)
    · refine p.carry (C := fun u => orL s N u = true) (fun u hu _ v hv _ => hcl u hu v hv) ?_
      rcases h.all z (by simp) with h1 | h1
      · exact orL_true.2 (.inl h1)
      · exact orL_true.2 (.inr h1)
/-- Who reaches itself. -/
theorem loop_iff {g : List (List Nat)} (hg : Ok g) {x : Nat} (hx : x < g.length) : loopS g (sccs g) x = true ↔ ∃ z, z ∈ nb g x ∧ Pth g noS z x := by
  have hp : part g x ∈ sccs g := (mem_sccs hg _).2 ⟨x, hx, rfl⟩
  have hm := part_self hg hx
  rw [loopS_part hg hp hm, loopB_node hm, Bool.or_eq_true, decide_eq_true_iff, decide_eq_true_iff]
  constructor
  · rintro (h | h)
    · -- another one of its part
      obtain ⟨y, hy, hne⟩ : ∃ y, y ∈ part g x ∧ y ≠ x := by
        apply Classical.byContradiction
        intro hn
        have hall : ∀ y, y ∈ part g x → y = x := fun y hy => Classical.byContradiction fun e => hn ⟨y, hy, e⟩
        have := List.Nodup.length_le_of_subset (part_nodup g x) (l₂ := [x]) (fun y hy => by rw [hall y hy]; simp)
        simp at this
        omega
      obtain ⟨_, hmut⟩ := (mem_part hg y hx).1 hy
      obtain ⟨k, hk⟩ := hmut.1
      cases k with
      | zero => exact absurd hk.2.symm hne
      | succ k =>
        obtain ⟨_, c, hc, hw⟩ := hk
        exact ⟨c, hc, Pth.trans ⟨k, hw⟩ hmut.2⟩
    · exact ⟨x, h, Pth.refl rfl⟩
  · rintro ⟨z, hz, p⟩
    by_cases e : z = x
    · subst e; exact .inr hz
    · have hzN := hg x z hz
      have hmz : z ∈ part g x := (mem_part hg z hx).2 ⟨hzN, Pth.cons rfl hz (Pth.refl rfl), p⟩
      refine .inl ?_
      have h2 := List.Nodup.length_le_of_subset (l₁ := [x, z]) (l₂ := part g x) (by simp; exact fun e' => e e'.symm) (fun y hy => by
        simp at hy
        rcases hy with rfl | rfl
        · exact hm
        · exact hmz)
      simp at h2
      omega
end Go.Proofs.YtngdnjlohmkbiabDoor

namespace Go.Proofs.YtngdnjlohmkbiabDoor
open Go.RowKit

theorem idx_app {l r : List Nat} {y : Nat} (h : y ∈ l) : (l ++ r).idxOf y = l.idxOf y := by rw [List.idxOf_append, if_pos h]
theorem idx_app_new {l r : List Nat} {y : Nat} (h : y ∉ l) : (l ++ r).idxOf y = r.idxOf y + l.length := by rw [List.idxOf_append, if_neg h]
theorem idx_lt {l : List Nat} {y : Nat} (h : y ∈ l) : l.idxOf y < l.length := List.idxOf_lt_length_of_mem h
theorem idx_getD {l : List Nat} {y : Nat} (h : y ∈ l) : l.getD (l.idxOf y) 0 = y := by
  rw [List.getD_eq_getElem?_getD, List.getElem?_eq_getElem (idx_lt h), Option.getD_some]
  exact List.getElem_idxOf (idx_lt h)
theorem idx_inj {l : List Nat} {x y : Nat} (hx : x ∈ l) (hy : y ∈ l) (e : l.idxOf x = l.idxOf y) : x = y := by
  rw [← idx_getD hx, ← idx_getD hy, e]
theorem getD_idx {l : List Nat} (hn : l.Nodup) {k : Nat} (hk : k < l.length) : l.idxOf (l.getD k 0) = k := by
  rw [List.getD_eq_getElem?_getD, List.getElem?_eq_getElem hk, Option.getD_some]
  exact List.Nodup.idxOf_getElem hn k hk
theorem idx_sorted {l : List Nat} (hs : l.Pairwise (· < ·)) {x y : Nat} (hx : x ∈ l) (hy : y ∈ l) (h : l.idxOf x ≤ l.idxOf y) : x ≤ y := by
  by_cases e : l.idxOf x = l.idxOf y
  · rw [idx_inj hx hy e]; exact Nat.le_refl _
  · have h1 := List.pairwise_iff_getElem.1 hs (l.idxOf x) (l.idxOf y) (idx_lt hx) (idx_lt hy) (by omega)
    rw [List.getElem_idxOf, List.getElem_idxOf] at h1
    omega

structure Bq (g : List (List Nat)) (fr : Nat) (line : List Nat) (bf : Nat → Nat) (k : Nat) : Prop where
  bs : Bf g fr line bf
  le : k ≤ line.length
  edge : ∀ y, y ∈ line → y ≠ fr → y ∈ nb g (bf y) ∧ bf y ∈ line ∧ line.idxOf (bf y) < k
  first : ∀ y, y ∈ line → y ≠ fr → ∀ x, y ∈ nb g x → line.idxOf (bf y) ≤ line.idxOf x
  mono : ∀ y z, y ∈ line → z ∈ line → y ≠ fr → z ≠ fr → line.idxOf y ≤ line.idxOf z → line.idxOf (bf y) ≤ line.idxOf (bf z) ∧ (bf y = bf z → y ≤ z)
  seen : ∀ x, x ∈ line → line.idxOf x < k → ∀ y, y ∈ nb g x → y ∈ line
theorem Bf.fr_mem {g : List (List Nat)} {fr : Nat} {line : List Nat} {bf : Nat → Nat} (h : Bf g fr line bf) : fr ∈ line := h.head.2 ▸ getD_mem line 0 0 h.head.1
theorem Bf.fr_idx {g : List (List Nat)} {fr : Nat} {line : List Nat} {bf : Nat → Nat} (h : Bf g fr line bf) : line.idxOf fr = 0 := by
  have := getD_idx h.nodup h.head.1
  rw [h.head.2] at this
  exact this
theorem Bq.start {g : List (List Nat)} {fr : Nat} (h : fr < g.length) (bf : Nat → Nat) : Bq g fr [fr] bf 0 := by
  have key : ∀ y, y ∈ [fr] → y ≠ fr → False := fun y hy hne => hne (List.mem_singleton.1 hy)
  exact ⟨Bf.start h bf, Nat.zero_le _, fun y hy hn => (key y hy hn).elim, fun y hy hn => (key y hy hn).elim, fun y z hy _ hn => (key y hy hn).elim, fun _ _ h => absurd h (Nat.not_lt_zero _)⟩
theorem Bq.step {g : List (List Nat)} {fr : Nat} {line : List Nat} {bf : Nat → Nat} {k : Nat} (h : Bq g fr line bf k) (hg : Ok g) (hk : k < line.length) : Bq g fr (line ++ nxs g line (line.getD k 0) g.length) (bfJ g line (line.getD k 0) bf g.length) (k + 1) := by
  have hB := h.bs.step hg hk
  have hxi := getD_idx h.bs.nodup hk
  have hxl : line.getD k 0 ∈ line := getD_mem line k 0 hk
  generalize line.getD k 0 = x at hB hxi hxl ⊢
  have hnew : ∀ y, y ∈ line ++ nxs g line x g.length → y ∉ line → y ∈ nb g x ∧ bfJ g line x bf g.length y = x ∧ y ∈ nxs g line x g.length := by
    intro y hy hn
    have hm := (List.mem_append.1 hy).resolve_left hn
    obtain ⟨h1, h2, h3⟩ := nxs_mem.1 hm
    refine ⟨h2, ?_, hm⟩
    unfold bfJ
    rw [if_pos (by rw [nxt_iff.2 ⟨h2, h3⟩]; simp [h1])]
  have hold : ∀ y, y ∈ line → bfJ g line x bf g.length y = bf y := fun y hy => bfJ_old y hy
  have hfr := h.bs.fr_mem
  have hge : ∀ y, y ∉ line → line.length ≤ (line ++ nxs g line x g.length).idxOf y := fun y hy => by rw [idx_app_new hy]; omega
  refine ⟨hB, by rw [List.length_append]; omega, fun y hy hne => ?_, fun y hy hne x0 hx0 => ?_, fun y z hy hz hny hnz hle => ?_, fun x0 hx0 hi y hy => ?_⟩
  · by_cases ho : y ∈ line
    · obtain ⟨h1, h2, h3⟩ := h.edge y ho hne
      rw [hold y ho, idx_app h2]
      exact ⟨h1, List.mem_append_left _ h2, by omega⟩
    · obtain ⟨h1, h2, _⟩ := hnew y hy ho
      rw [h2, idx_app hxl, hxi]
      exact ⟨h1, List.mem_append_left _ hxl, by omega⟩
  · by_cases ho : y ∈ line
    · obtain ⟨_, h2, h3⟩ := h.edge y ho hne
      have h4 := h.first y ho hne x0 hx0
      rw [hold y ho, idx_app h2]
      by_cases hx : x0 ∈ line
      · rw [idx_app hx]; exact h4
      · have := hge x0 hx; omega
    · obtain ⟨_, h2, _⟩ := hnew y hy ho
      rw [h2, idx_app hxl, hxi]
      by_cases hx : x0 ∈ line
      · rw [idx_app hx]
        apply Classical.byContradiction
        intro hlt
        exact ho (h.seen x0 hx (by omega) y hx0)
      · have := hge x0 hx; omega
  · by_cases ho : y ∈ line
    · by_cases ho2 : z ∈ line
      · rw [hold y ho, hold z ho2, idx_app (h.edge y ho hny).2.1, idx_app (h.edge z ho2 hnz).2.1]
        rw [idx_app ho, idx_app ho2] at hle
        exact h.mono y z ho ho2 hny hnz hle
      · obtain ⟨_, h2, _⟩ := hnew z hz ho2
        obtain ⟨_, h3, h4⟩ := h.edge y ho hny
        rw [hold y ho, h2, idx_app h3, idx_app hxl, hxi]
        exact ⟨by omega, fun e => by rw [e, hxi] at h4; omega⟩
    · have h1 := hge y ho
      by_cases ho2 : z ∈ line
      · rw [idx_app ho2] at hle
        have := idx_lt ho2
        omega
      · obtain ⟨_, h2, h3⟩ := hnew y hy ho
        obtain ⟨_, h4, h5⟩ := hnew z hz ho2
        rw [h2, h4]
        refine ⟨Nat.le_refl _, fun _ => ?_⟩
        rw [idx_app_new ho, idx_app_new ho2] at hle
        have hso : (nxs g line x g.length).Pairwise (· < ·) := List.Pairwise.sublist List.filter_sublist List.pairwise_lt_range
        exact idx_sorted hso h3 h5 (by omega)
  · by_cases ho : x0 ∈ line
    · rw [idx_app ho] at hi
      by_cases e : line.idxOf x0 < k
      · exact List.mem_append_left _ (h.seen x0 ho e y hy)
      · have : x0 = x := idx_inj ho hxl (by omega)
        subst this
        by_cases hyl : y ∈ line
        · exact List.mem_append_left _ hyl
        · exact List.mem_append_right _ (nxs_mem.2 ⟨hg x0 y hy, hy, hyl⟩)
    · have := hge x0 ho; omega
theorem Bf.short {g : List (List Nat)} {fr : Nat} {line : List Nat} {bf : Nat → Nat} (h : Bf g fr line bf) : line.length ≤ g.length := by
  have := List.Nodup.length_le_of_subset h.nodup (l₂ := List.range g.length) (fun m hm => List.mem_range.2 (h.lt m hm))
  rw [List.length_range] at this
  exact this
theorem pthS_spec {g : List (List Nat)} (hg : Ok g) {fr t : Nat} : ∀ (f k : Nat) (line : List Nat) (bf : Nat → Nat), Bq g fr line bf k → g.length + 1 ≤ f + k → ∃ k', Bq g fr (pthS g t f k line bf).1 (pthS g t f k line bf).2 k' ∧ (t ∈ (pthS g t f k line bf).1 ∨ k' = (pthS g t f k line bf).1.length)
  | 0, k, line, bf, h, hf => by have := h.le; have := h.bs.short; omega
  | f + 1, k, line, bf, h, hf => by
    by_cases hc : k < line.length ∧ t ∉ line
    · rw [pthS_step hc]
      exact pthS_spec hg f (k + 1) _ _ (h.step hg hc.1) (by omega)
    · rw [pthS_end hc]
      refine ⟨k, h, ?_⟩
      by_cases ht : t ∈ line
      · exact .inl ht
      · exact .inr (by have := h.le; have : ¬ k < line.length := fun q => hc ⟨q, ht⟩; show k = line.length; omega)

/-- Ways, the last edge last. -/
def Wz (g : List (List Nat)) : Nat → Nat → Nat → Prop
  | 0, a, z => z = a
  | m + 1, a, z => ∃ y, Wz g m a y ∧ z ∈ nb g y
theorem Bq.back {g : List (List Nat)} {fr : Nat} {line : List Nat} {bf : Nat → Nat} {k : Nat} (h : Bq g fr line bf k) {y z u : Nat} (hy : y ∈ line) (hn : y ≠ fr) (hz : z ∈ nb g u) (hle : line.idxOf y ≤ line.idxOf z) : line.idxOf (bf y) ≤ line.idxOf u := by
  have hy0 : line.idxOf y ≠ 0 := fun e => hn (idx_inj hy h.bs.fr_mem (by rw [e, h.bs.fr_idx]))
  have hzf : z ≠ fr := fun e => by rw [e, h.bs.fr_idx] at hle; omega
  by_cases hzl : z ∈ line
  · exact Nat.le_trans (h.mono y z hy hzl hn hzf hle).1 (h.first z hzl hzf u hz)
  · have h1 := (h.edge y hy hn).2.2
    by_cases hu : u ∈ line
    · apply Classical.byContradiction
      intro hlt
      exact hzl (h.seen u hu (by omega) z hz)
    · have := List.idxOf_eq_length hu
      have := h.le
      omega
theorem Bq.short {g : List (List Nat)} {fr : Nat} {line : List Nat} {bf : Nat → Nat} {k : Nat} (h : Bq g fr line bf k) : ∀ (m z : Nat), Wz g m fr z → ∀ d y, Back line bf fr d y → line.idxOf y ≤ line.idxOf z → d ≤ m
  | 0, z, hw, d, y, hb, hle => by
    have hw' : z = fr := hw
    rw [hw', h.bs.fr_idx] at hle
    have : y = fr := idx_inj hb.mem h.bs.fr_mem (by rw [h.bs.fr_idx]; omega)
    cases d with
    | zero => exact Nat.le_refl _
    | succ d => exact absurd this hb.1
  | m + 1, z, hw, d, y, hb, hle => by
    cases d with
    | zero => omega
    | succ d =>
      obtain ⟨u, hu, hz⟩ := hw
      have := h.short m u hu d (bf y) hb.2.2 (h.back hb.2.1 hb.1 hz hle)
      omega
/-- What pathM is. -/
theorem path_spec {g : List (List Nat)} (hg : Ok g) {a b : Nat} (ha : a < g.length) :
    (pathM g a b = [] ∧ ∀ m, ¬ Wz g m a b) ∨ ∃ line bf k d, Bq g a line bf k ∧ Back line bf a d b ∧ d ≤ g.length ∧ pathM g a b = (wb bf d b).reverse := by
  obtain ⟨k, hq, hend⟩ := pthS_spec hg (t := b) (g.length + 1) 0 [a] (fun _ => 0) (Bq.start ha _) (by omega)
  unfold pathM
  generalize pthS g b (g.length + 1) 0 [a] (fun _ => 0) = s at hq hend
  by_cases hb : b ∈ s.1
  · right
    have hi := idx_lt hb
    obtain ⟨d, hd, hbk⟩ := hq.bs.back _ hi
    rw [idx_getD hb] at hbk
    have := hq.bs.short
    refine ⟨s.1, s.2, k, d, hq, hbk, by omega, ?_⟩
    show (if b ∈ s.1 then (wbk s.2 a g.length b).reverse else []) = _
    rw [if_pos hb, wbk_wb d g.length b (by omega) hbk]
  · left
    refine ⟨by show (if b ∈ s.1 then (wbk s.2 a g.length b).reverse else []) = _; rw [if_neg hb], ?_⟩
    have hk := hend.resolve_left hb
    have key : ∀ m z, Wz g m a z → z ∈ s.1 := by
      intro m
      induction m with
      | zero => intro z hz; have : z = a := hz; rw [this]; exact hq.bs.fr_mem
      | succ m ih =>
        rintro z ⟨u, hu, hz⟩
        exact hq.seen u (ih u hu) (by rw [hk]; exact idx_lt (ih u hu)) z hz
    exact fun m hm => hb (key m b hm)
/-- A way, written out. -/
structure Way (g : List (List Nat)) (a b d : Nat) (P : List Nat) : Prop where
  len : P.length = d + 1
  head : P.getD 0 0 = a
  last : P.getD d 0 = b
  edge : ∀ i, i < d → P.getD (i + 1) 0 ∈ nb g (P.getD i 0)
theorem snoc_old {P : List Nat} {y i : Nat} (h : i < P.length) : (P ++ [y]).getD i 0 = P.getD i 0 := by
  rw [List.getD_eq_getElem?_getD, List.getElem?_append_left h, List.getD_eq_getElem?_getD]
theorem snoc_new (P : List Nat) (y : Nat) : (P ++ [y]).getD P.length 0 = y := by
  rw [List.getD_eq_getElem?_getD, List.getElem?_append_right (Nat.le_refl _)]
  simp
theorem Bq.way {g : List (List Nat)} {fr : Nat} {line : List Nat} {bf : Nat → Nat} {k : Nat} (h : Bq g fr line bf k) : ∀ (d y : Nat), Back line bf fr d y → Way g fr y d (wb bf d y).reverse
  | 0, y, hb => by
    refine ⟨rfl, ?_, rfl, fun i hi => by omega⟩
    exact hb.1
  | d + 1, y, hb => by
    have ih := h.way d (bf y) hb.2.2
    have e : (wb bf (d + 1) y).reverse = (wb bf d (bf y)).reverse ++ [y] := by
      show (y :: wb bf d (bf y)).reverse = _
      rw [List.reverse_cons]
    rw [e]
    generalize (wb bf d (bf y)).reverse = P at ih
    have hl := ih.len
    refine ⟨by rw [List.length_append, hl]; rfl, ?_, ?_, fun i hi => ?_⟩
    · rw [snoc_old (by omega)]; exact ih.head
    · rw [← hl]; exact snoc_new P y
    · by_cases h1 : i < d
      · rw [snoc_old (by omega), snoc_old (by omega)]
        exact ih.edge i h1
      · obtain rfl : i = d := by omega
        rw [snoc_old (by omega), ih.last, ← hl, snoc_new]
        exact (h.edge y hb.2.1 hb.1).1
theorem Way.to {g : List (List Nat)} {a b d : Nat} {P : List Nat} (h : Way g a b d P) : ∀ i, i ≤ d → Wz g i a (P.getD i 0)
  | 0, _ => h.head
  | i + 1, hi => ⟨P.getD i 0, h.to i (by omega), h.edge i (by omega)⟩
theorem Wz.lt {g : List (List Nat)} (hg : Ok g) {a : Nat} (ha : a < g.length) : ∀ {m z : Nat}, Wz g m a z → z < g.length
  | 0, z, h => by have : z = a := h; omega
  | m + 1, z, ⟨y, _, hz⟩ => hg y z hz
/-- Path's answer between nodes. -/
theorem path_way {g : List (List Nat)} (hg : Ok g) {a b : Nat} (ha : a < g.length) :
    (pathM g a b = [] ∧ ∀ m, ¬ Wz g m a b) ∨ ∃ d, d ≤ g.length ∧ Way g a b d (pathM g a b) ∧ ∀ m, Wz g m a b → d ≤ m := by
  rcases path_spec hg (b := b) ha with h | ⟨line, bf, k, d, hq, hb, hd, e⟩
  · exact .inl h
  · refine .inr ⟨d, hd, by rw [e]; exact hq.way d b hb, fun m hm => hq.short m b hm d b hb (Nat.le_refl _)⟩
theorem Wk.snoc {g : List (List Nat)} {s : Nat → Bool} : ∀ {k a b c : Nat}, Wk g s k a b → c ∈ nb g b → s c = false → Wk g s (k + 1) a c
  | 0, a, b, c, h, hc, hs => by
    obtain ⟨h1, rfl⟩ := h
    exact ⟨h1, c, hc, hs, rfl⟩
  | k + 1, a, b, c, h, hc, hs => by
    obtain ⟨h1, x, hx, hw⟩ := h
    exact ⟨h1, x, hx, hw.snoc hc hs⟩
theorem wz_pth {g : List (List Nat)} {a : Nat} : ∀ {m z : Nat}, Wz g m a z → Pth g noS a z
  | 0, z, h => by have : z = a := h; rw [this]; exact Pth.refl rfl
  | m + 1, z, ⟨y, hy, hz⟩ => by
    obtain ⟨k, hk⟩ := wz_pth hy
    exact ⟨k + 1, hk.snoc hz rfl⟩
theorem wk_wz {g : List (List Nat)} {s : Nat → Bool} {a : Nat} : ∀ {k m x z : Nat}, Wz g m a x → Wk g s k x z → Wz g (m + k) a z
  | 0, m, x, z, h, hw => by obtain ⟨_, rfl⟩ := hw; exact h
  | k + 1, m, x, z, h, hw => by
    obtain ⟨_, y, hy, hw⟩ := hw
    have := wk_wz (m := m + 1) ⟨x, h, hy⟩ hw
    rw [show m + 1 + k = m + (k + 1) by omega] at this
    exact this
theorem pth_wz {g : List (List Nat)} {s : Nat → Bool} {a z : Nat} (h : Pth g s a z) : ∃ m, Wz g m a z := by
  obtain ⟨k, hk⟩ := h
  exact ⟨0 + k, wk_wz (m := 0) rfl hk⟩
end Go.Proofs.YtngdnjlohmkbiabDoor

namespace Go.Proofs.YtngdnjlohmkbiabDoor
open Go.RowKit

def ring (n : Nat) : List (List Nat) := (List.range n).map fun i => [(i + 1) % n]
theorem ring_len (n : Nat) : (ring n).length = n := by simp [ring]
theorem nb_ring {n i : Nat} (h : i < n) : nb (ring n) i = [(i + 1) % n] := by
  unfold nb ring
  rw [List.getD_eq_getElem?_getD, List.getElem?_map, List.getElem?_range h]
  rfl
theorem ring_ok {n : Nat} (h : 1 ≤ n) : Ok (ring n) := by
  intro a b hb
  rw [ring_len]
  by_cases ha : a < n
  · rw [nb_ring ha, List.mem_singleton] at hb
    rw [hb]; exact Nat.mod_lt _ h
  · rw [nb_out (by rw [ring_len]; omega)] at hb
    cases hb
theorem ring_sm {n : Nat} (h : 1 ≤ n) (h2 : n ≤ 100) : Sm (ring n) := by
  refine ⟨ring_ok h, by rw [ring_len]; omega, fun j => ?_⟩
  by_cases hj : j < n
  · rw [nb_ring hj]; simp
  · rw [nb_out (by rw [ring_len]; omega)]; simp
theorem ring_wz {n a : Nat} (h : 1 ≤ n) (ha : a < n) : ∀ (m z : Nat), Wz (ring n) m a z ↔ z = (a + m) % n
  | 0, z => by
    rw [Nat.add_zero, Nat.mod_eq_of_lt ha]; exact Iff.rfl
  | m + 1, z => by
    constructor
    · rintro ⟨y, hy, hz⟩
      have e := (ring_wz h ha m y).1 hy
      have hyn : y < n := by rw [e]; exact Nat.mod_lt _ h
      rw [nb_ring hyn, List.mem_singleton] at hz
      rw [hz, e, Nat.mod_add_mod, Nat.add_assoc]
    · intro e
      refine ⟨(a + m) % n, (ring_wz h ha m _).2 rfl, ?_⟩
      rw [nb_ring (Nat.mod_lt _ h), List.mem_singleton, e, Nat.mod_add_mod, Nat.add_assoc]
theorem ring_to {n a b : Nat} (ha : a < n) (hb : b < n) : b = (a + (b + n - a) % n) % n := by
  rw [Nat.add_mod_mod, show a + (b + n - a) = b + n by omega, Nat.add_mod_right, Nat.mod_eq_of_lt hb]
theorem mod_two {x n : Nat} (h : x < 2 * n) : x % n = if x < n then x else x - n := by
  by_cases e : x < n
  · rw [if_pos e, Nat.mod_eq_of_lt e]
  · rw [if_neg e, Nat.mod_eq_sub_mod (by omega), Nat.mod_eq_of_lt (by omega)]
theorem ring_path {n a b : Nat} (h : 1 ≤ n) (ha : a < n) (hb : b < n) : (pathM (ring n) a b).length = (b + n - a) % n + 1 ∧ ∀ i, i < (pathM (ring n) a b).length → (pathM (ring n) a b).getD i 0 = (a + i) % n := by
  have hD := ring_to ha hb
  rcases path_way (ring_ok h) (a := a) (b := b) (by rw [ring_len]; exact ha) with ⟨_, hno⟩ | ⟨d, hd, hway, hmin⟩
  · exact absurd ((ring_wz h ha _ b).2 hD) (hno _)
  · have h1 := hway.to d (Nat.le_refl _)
    rw [hway.last] at h1
    have h2 := (ring_wz h ha d b).1 h1
    have h3 := hmin _ ((ring_wz h ha _ b).2 hD)
    have hq : (b + n - a) % n < n := Nat.mod_lt _ h
    generalize (b + n - a) % n = q at *
    have h4 : d = q := by
      rw [mod_two (by omega)] at h2 hD
      split at h2 <;> split at hD <;> omega
    rw [hway.len, h4]
    refine ⟨rfl, fun i hi => ?_⟩
    exact (ring_wz h ha i _).1 (hway.to i (by omega))
theorem ring_pth {n a b : Nat} (h : 1 ≤ n) (ha : a < n) (hb : b < n) : Pth (ring n) noS a b := wz_pth ((ring_wz h ha _ b).2 (ring_to ha hb))
theorem ring_one {n : Nat} (h : 1 ≤ n) : (sccs (ring n)).length = 1 := by
  obtain ⟨k, rfl⟩ : ∃ k, n = k + 1 := ⟨n - 1, by omega⟩
  have hs : ∀ x, x < k + 1 → leastB (ring (k + 1)) x = decide (x = 0) := by
    intro x hx
    by_cases e : x = 0
    · subst e; rfl
    · rw [decide_eq_false e]
      unfold leastB
      rw [List.all_eq_false]
      refine ⟨0, List.mem_range.2 (by omega), ?_⟩
      have hm : mutB (ring (k + 1)) x 0 = true := (mut_iff (ring_ok h) (by rw [ring_len]; exact hx) (by rw [ring_len]; omega)).2 ⟨ring_pth h hx (by omega), ring_pth h (by omega) hx⟩
      rw [hm]; simp
  unfold sccs
  rw [List.length_map, ring_len, List.filter_congr (q := fun x => decide (x = 0)) (fun x hx => hs x (List.mem_range.1 hx)), List.range_succ_eq_map, List.filter_cons_of_pos (by simp)]
  rw [List.filter_eq_nil_iff.2 (fun x hx => by
    obtain ⟨y, _, rfl⟩ := List.mem_map.1 hx
    simp)]
  rfl
theorem ring_parts {n : Nat} (h : 1 ≤ n) (h2 : n ≤ 100) : (partsM (ring n)).length = 1 := by
  rw [partsM_len]
  have h1 := ring_one h
  have hle := nodup_len_le (line_nodup (ring n)) (n := 1) (fun x hx => by have := line_lt (ring n) hx; omega)
  have hin := ahd_all (ring_sm h h2) _ 0 (by omega) (Nat.le_refl _)
  have := List.length_pos_of_mem hin
  omega
theorem ring_loop {n : Nat} (h : 1 ≤ n) (x : Nat) : loopS (ring n) (sccs (ring n)) x = decide (x < n) := by
  by_cases hx : x < n
  · rw [decide_eq_true hx]
    refine (loop_iff (ring_ok h) (by rw [ring_len]; exact hx)).2 ⟨(x + 1) % n, by rw [nb_ring hx]; simp, ring_pth h (Nat.mod_lt _ h) hx⟩
  · rw [decide_eq_false hx]
    cases e : loopS (ring n) (sccs (ring n)) x with
    | false => rfl
    | true =>
      unfold loopS at e
      rcases orL_true.1 e with h1 | h1
      · cases h1
      · obtain ⟨q', hq1, hq2⟩ := List.mem_flatten.1 h1
        obtain ⟨a', ha', rfl⟩ := sccs_part (List.mem_filter.1 hq1).1
        have := ((mem_part (ring_ok h) x ha').1 hq2).1
        rw [ring_len] at this
        omega
theorem ring_loops {n : Nat} (h : 1 ≤ n) (h2 : n ≤ 100) : (elems (loopS (ring n) (sccs (ring n)))).length = n ∧ Fit (loopS (ring n) (sccs (ring n))) := by
  have e : loopS (ring n) (sccs (ring n)) = fun x => decide (x < n) := funext (ring_loop h)
  rw [e]
  refine ⟨?_, fun i hi => decide_eq_false (by omega)⟩
  rw [elems_cut _ n (by omega) (fun i hi => decide_eq_false (by omega)), List.filter_eq_self.2 (fun a ha => decide_eq_true (List.mem_range.1 ha)), List.length_range]
end Go.Proofs.YtngdnjlohmkbiabDoor

namespace Go.Proofs.YtngdnjlohmkbiabDoor
open Go.RowKit

/-- A new list is put into its place. -/
theorem OwnL.lit {w : World} {base p n : Nat} {vs : Nat → Value} {L : Nat → List Nat} (h : OwnL w base p n vs L) {k : Nat} (hk : k < n) (l : List Nat) (xs : Array Value) (hx : xs = (ints l).toArray) (hl : l.length ≤ maxLen) (hb : base ≤ w.heap.size) :
    OwnL ((w.alloc (.cells xs 3)).setCell ⟨p, k, none⟩ (.slice (some ⟨w.heap.size, 0, none⟩) l.length l.length)) base p n (fun i => if i = k then .slice (some ⟨w.heap.size, 0, none⟩) l.length l.length else vs i) (fun i => if i = k then l else L i) := by
  have ka : Keeps [] w (w.alloc (.cells xs 3)) := Keeps.alloc _ _ _
  have h2 := h.quiet ka
  have hnew : (w.alloc (.cells xs 3)).ownsRow base 3 1 (.slice (some ⟨w.heap.size, 0, none⟩) l.length l.length) l.length (ints l) := by
    refine ⟨by simp [ints], .inr ⟨w.heap.size, l.length, xs, rfl, hb, heap_alloc_new w _, Nat.le_refl _, hl, by rw [hx]; simp [ints], ?_⟩⟩
    rw [hx, List.take_of_length_le (by simp [ints])]
  have ks : Keeps [p] (w.alloc (.cells xs 3)) ((w.alloc (.cells xs 3)).setCell ⟨p, k, none⟩ (.slice (some ⟨w.heap.size, 0, none⟩) l.length l.length)) := Keeps.setCell _ _ _ _ (by simp)
  have hp := h.outer.lt.2
  refine ⟨h2.outer.put k _, fun i hi => ?_, fun i j b hi hj hbi hbj => ?_⟩
  · by_cases e : i = k
    · subst e
      simp only [if_true]
      exact ownsRow_keeps hnew ks (fun b hb' => by simp [Value.ownBlock] at hb'; simp; omega)
    · simp only [e, if_false]
      exact ownsRow_keeps (h2.inner i hi) ks (fun b hb' hx' => h2.ne hi (by simp at hx'; rw [hb', hx']))
  · by_cases e1 : i = k
    · by_cases e2 : j = k
      · omega
      · simp only [e1, if_true] at hbi
        simp only [e2, if_false] at hbj
        have := ((h.inner j hj).lt b hbj).2
        simp [Value.ownBlock] at hbi
        omega
    · by_cases e2 : j = k
      · simp only [e2, if_true] at hbj
        simp only [e1, if_false] at hbi
        have := ((h.inner i hi).lt b hbi).2
        simp [Value.ownBlock] at hbj
        omega
      · simp only [e1, if_false] at hbi
        simp only [e2, if_false] at hbj
        exact h.apart i j b hi hj hbi hbj

end Go.Proofs.YtngdnjlohmkbiabDoor

namespace Go.Proofs.YtngdnjlohmkbiabDoor
open Go.RowKit

def ringL (n i : Nat) (j : Nat) : List Nat := if j < i then [(j + 1) % n] else []
theorem ringL_all (n : Nat) : (List.range n).map (ringL n n) = ring n := by
  unfold ring
  refine List.map_congr_left fun j hj => ?_
  unfold ringL
  rw [if_pos (List.mem_range.1 hj)]
theorem ringL_next (n i j : Nat) : (if j = i then [(i + 1) % n] else ringL n i j) = ringL n (i + 1) j := by
  unfold ringL
  by_cases e : j = i
  · subst e; simp
  · have : j < i + 1 ↔ j < i := by omega
    simp only [e, if_false, this]
theorem rem_nat (x n : Nat) : Int.tmod (x : Int) (n : Int) = ((x % n : Nat) : Int) := by
  rw [Int.tmod_eq_emod_of_nonneg (by omega)]; rfl

set_option maxRecDepth 20000 in
set_option maxHeartbeats 8000000 in
theorem ring_law (n a b : Int) (w : World) (hT : TabAt w) :
    Calls Tryd.prog 3 #[.int .i64 n, .int .i64 a, .int .i64 b] w fun e w' => e = .returned (.bool true) ∧ Keeps [] w w' := by
  have HBG := hid (begun5_any w hT)
  have HTT := hid (fun wz (k : Keeps [] w wz) => tab_of hT k)
  clear hT
  go_enter Tryd.func3, Tryd.ntmps3
  go_wp2_with fail
  refine HBG.out.mono ?_
  rintro e w1 ⟨rfl, k1⟩
  clear HBG
  by_cases hbad : n < 1 ∨ 100 < n ∨ a < 0 ∨ n ≤ a ∨ b < 0 ∨ n ≤ b
  · by_cases h1 : n < 1
    · clear hbad
      go_wp2
      go_ret
      exact ⟨rfl, k1⟩
    · by_cases h2 : 100 < n
      · clear hbad
        go_wp2
        go_ret
        exact ⟨rfl, k1⟩
      · by_cases h3 : a < 0
        · clear hbad
          go_wp2
          go_ret
          exact ⟨rfl, k1⟩
        · by_cases h4 : n ≤ a
          · clear hbad
            go_wp2
            go_ret
            exact ⟨rfl, k1⟩
          · by_cases h5 : b < 0
            · clear hbad
              go_wp2
              go_ret
              exact ⟨rfl, k1⟩
            · have h6 : n ≤ b := by omega
              clear hbad
              go_wp2
              go_ret
              exact ⟨rfl, k1⟩
  · obtain ⟨N, rfl⟩ : ∃ N : Nat, n = (N : Int) := Int.eq_ofNat_of_zero_le (by omega)
    obtain ⟨x, rfl⟩ : ∃ x : Nat, a = (x : Int) := Int.eq_ofNat_of_zero_le (by omega)
    obtain ⟨y, rfl⟩ : ∃ y : Nat, b = (y : Int) := Int.eq_ofNat_of_zero_le (by omega)
    have h1 : ¬ (N : Int) < 1 := by omega
    have h2 : ¬ (100 : Int) < (N : Int) := by omega
    have h3 : ¬ (x : Int) < 0 := by omega
    have h4 : ¬ (N : Int) ≤ (x : Int) := by omega
    have h5 : ¬ (y : Int) < 0 := by omega
    have h6 : ¬ (N : Int) ≤ (y : Int) := by omega
    have hN1 : 1 ≤ N := by omega
    have hN2 : N ≤ 100 := by omega
    have hxN : x < N := by omega
    have hyN : y < N := by omega
    clear hbad
    have hww : w1.heap.size ≤ w1.heap.size := Nat.le_refl _
    go_wp2_with (at_make; go_must (refine wpList_make_full _ rfl _ _ 23 rfl w1.heap.size 26 Tryd.t26 (.slice none 0 0) 1 under_lists info_ints zero_ints size_ints .i64 .i64 _ _ N rfl rfl rfl rfl (by rw [bytes_ints]; omega) (by unfold maxLen; omega) hww ?_; intro w2 hown2 hgrow2))
    have k2 : Keeps [] w1 w2 := Keeps.grown [] hgrow2 (by simp)
    have R2 := RowAt.made hown2 rfl
    have kA : Keeps [] w2 (w2.alloc (.cells #[.int .i64 (N : Int), .slice (some ⟨w1.heap.size, 0, none⟩) N N] 25)) := Keeps.alloc _ _ _
    have T3 := hid (TwoAt.new w2 (.int .i64 (N : Int)) (.slice (some ⟨w1.heap.size, 0, none⟩) N N))
    have O3 : Box (OwnL (w2.alloc (.cells #[.int .i64 (N : Int), .slice (some ⟨w1.heap.size, 0, none⟩) N N] 25)) w1.heap.size w1.heap.size N (fun _ => nilS) (ringL N 0)) := hid ((OwnL.nil (R2.kept kA (by simp))).congr (fun i _ => ⟨rfl, by simp [ringL]⟩))
    have hsz := k2.size
    have k13 := hid (k2.quiet kA)
    clear hown2 hgrow2 R2 kA k2 hww h1 h2 h3 h4 h5 h6
    obtain ⟨p, hp⟩ : ∃ p, w1.heap.size = p := ⟨_, rfl⟩
    rw [hp] at T3 O3 k13 hsz ⊢
    have HP := hid hp
    clear hp
    generalize w2.alloc (.cells #[.int .i64 (N : Int), .slice (some ⟨p, 0, none⟩) N N] 25) = w3 at T3 O3 k13 ⊢
    generalize w2.heap.size = bx at T3 hsz ⊢
    go_loopw [9] (fun iv wr => ∃ (i : Nat) (vs : Nat → Value), iv = .int .i64 (i : Int) ∧ i ≤ N ∧ Box (OwnL wr p p N vs (ringL N i)) ∧ Box (TwoAt wr bx (.int .i64 (N : Int)) (.slice (some ⟨p, 0, none⟩) N N)) ∧ Box (Keeps [] w1 wr)) (fun iv _ => N - (intOf iv).toNat)
    case atStart => exact ⟨0, _, rfl, by omega, O3, T3, k13⟩
    case round =>
      clear O3 T3 k13
      obtain ⟨i, vs, rfl, hi, HO, HT, HK⟩ := hrel
      by_cases hlt : i < N
      · have hlt' : (i : Int) < (N : Int) := by omega
        have hrE : ((i : Int) + 1) % (N : Int) = (((i + 1) % N : Nat) : Int) := by
          show ((i + 1 : Nat) : Int) % (N : Int) = _
          rfl
        have HMOD := hid (ringL_next N i)
        generalize (i + 1) % N = r at hrE HMOD
        have c1 := HT.out.c1
        have co := HO.out.cell hlt
        have fo := HO.out.outer.frozen i
        have hp2 := HO.out.outer.lt.2
        have hbl := HT.out.lt
        have hne : bx ≠ p := two_ne_row HT.out HO.out.outer
        have O4 := hid (HO.out.lit (k := i) hlt [r] #[.int .i64 (r : Int)] (by simp [ints]) (by unfold maxLen; simp) (by omega))
        have ka : Keeps [] wr (wr.alloc (.cells #[.int .i64 (r : Int)] 3)) := Keeps.alloc _ _ _
        have ks : Keeps [p] (wr.alloc (.cells #[.int .i64 (r : Int)] 3)) ((wr.alloc (.cells #[.int .i64 (r : Int)] 3)).setCell ⟨p, i, none⟩ (.slice (some ⟨wr.heap.size, 0, none⟩) 1 1)) := Keeps.setCell _ _ _ _ (by simp)
        have T4 := hid ((HT.out.kept ka (by simp)).kept ks (by simp; exact hne))
        have K4 := hid ((HK.out.quiet ka).fresh ks (fun z hz => by simp at hz; have := HP.out; omega))
        have O5 : Box (OwnL ((wr.alloc (.cells #[.int .i64 (r : Int)] 3)).setCell ⟨p, i, none⟩ (.slice (some ⟨wr.heap.size, 0, none⟩) 1 1)) p p N (fun j => if j = i then .slice (some ⟨wr.heap.size, 0, none⟩) 1 1 else vs j) (ringL N (i + 1))) := hid (O4.out.congr (fun j _ => ⟨rfl, HMOD.out j⟩))
        rw [World.setCell_alloc_past _ _ _ _ hp2] at O5 T4 K4
        have HRE := hid hrE
        clear O4 HO HT HK ka ks hrE HMOD
        go_upto_region 10 with fail
        go_region
        go_wp2_with fail
        rw [HRE.out]
        generalize (wr.setCell ⟨p, i, none⟩ (.slice (some ⟨wr.heap.size, 0, none⟩) 1 1)).alloc (.cells #[.int .i64 (r : Int)] 3) = w5 at O5 T4 K4 ⊢
        have kd := Keeps.drew [] w5
        go_roundw
        case rel => exact ⟨i + 1, _, by go_num, by omega, hid (O5.out.quiet kd), hid (T4.out.kept kd (by simp)), hid (K4.out.quiet kd)⟩
        case measure => simp [intOf]; omega
      · obtain rfl : i = N := by omega
        have hL : Box (LG w wr bx p wr.heap.size (ring i)) := hid (by
          have hg := HO.out.graph
          rw [ringL_all] at hg
          exact ⟨by rw [ring_len]; exact HT.out, hg, HT.out.lt, Nat.le_refl _, k1.quiet HK.out, (k1.quiet HK.out).size⟩)
        have HS := hid (ring_sm hN1 hN2)
        have HPA := hid (path_in (ring i) HS.out (some ⟨p, 0, none⟩) (ring i).length wr.heap.size x y wr hL.out.gr (HTT.out wr hL.out.keep) (by rw [ring_len]; exact hxN) (by rw [ring_len]; exact hyN))
        have HPT := hid (fun wz (k : Keeps [] wr wz) => parts_any (ring i) HS.out (some ⟨p, 0, none⟩) (ring i).length wr.heap.size wz (hL.out.quiet k).gr (hL.out.quiet k).le (HTT.out wz (hL.out.quiet k).keep))
        have HLO := hid (fun wz (k : Keeps [] wr wz) => loops_any (ring i) HS.out (some ⟨p, 0, none⟩) (ring i).length wr.heap.size wz (hL.out.quiet k).gr (hL.out.quiet k).le)
        have HLL := hid (ring_loops hN1 hN2)
        have HPL := hid (ring_parts hN1 hN2)
        have hrp := ring_path hN1 hxN hyN
        have HGP := hid hrp.2
        have hpl := hrp.1
        rw [ring_len] at HPA HPT HLO
        have HT2 := hid (fun wz (k : Keeps [] wr wz) => HT.out.kept k (by simp))
        have c0 := HT.out.c0
        have c1 := HT.out.c1
        have KF := hid (k1.quiet HK.out)
        clear HO HT HK hL hrp HS
        generalize pathM (ring i) x y = P at HPA HGP hpl
        go_wp2_with fail
        refine HPA.out.mono ?_
        rintro e w4 ⟨v4, rfl, h4, k4⟩
        have N4 := hid h4
        obtain ⟨a4, c4, hv4, _, _, _⟩ := ownsRow_nat h4
        subst hv4
        rw [hpl]
        have hqI : ((y : Int) - (x : Int) + (i : Int)) % (i : Int) = (((y + i - x) % i : Nat) : Int) := by
          rw [show (y : Int) - (x : Int) + (i : Int) = ((y + i - x : Nat) : Int) by omega]
          rfl
        rw [hpl] at HGP
        have hqb : (y + i - x) % i < i := Nat.mod_lt _ hN1
        generalize (y + i - x) % i = q at hqI HGP hqb hpl ⊢
        have hneq : ((((q + 1 : Nat) : Int)) != (q : Int) + 1) = false := by simp
        have hneq2 : (((q : Int) + 1) != (q : Int) + 1) = false := by simp
        have K4 := hid (KF.out.quiet k4)
        have T4 := hid (HT2.out w4 k4)
        have HP4 := hid (HPT.out w4 k4)
        clear c0 c1 h4 HPA HPT
        have c0 := T4.out.c0
        have c1 := T4.out.c1
        go_wp2_with fail
        refine HP4.out.mono ?_
        rintro e w5 ⟨v5, vs5, rfl, h5, k5⟩
        obtain ⟨a5, c5, hv5, _, _⟩ := h5.graph
        rw [HPL.out] at hv5
        subst hv5
        have T5 := hid (T4.out.kept k5 (by simp))
        have K5 := hid (K4.out.quiet k5)
        have HL5 := hid (HLO.out w5 (k4.quiet k5))
        have N5 := hid (ownsRow_keeps N4.out k5 (by simp))
        clear c0 c1 h5 T4 K4 N4 HP4 HLO k5 k4
        have c0 := T5.out.c0
        have c1 := T5.out.c1
        go_wp2_with fail
        refine HL5.out.mono ?_
        rintro e w6 ⟨b6, rfl, h6, k6, _⟩
        have HLN := hid (len_any b6 _ w6 h6 HLL.out.2)
        rw [HLL.out.1] at HLN
        have K6 := hid (K5.out.quiet k6)
        have N6 := hid (ownsRow_keeps N5.out k6 (by simp))
        clear c0 c1 h6 k6 T5 K5 N5 HL5
        have hii : ((i : Int) != (i : Int)) = false := by simp
        go_wp2_with fail
        refine HLN.out.mono ?_
        rintro e w7 ⟨rfl, hw7⟩
        subst hw7
        clear HLN
        go_wp2_with fail
        rw [hpl] at N6
        obtain ⟨a6, c6, hv6, hna, _, _⟩ := ownsRow_nat (l := P) (by rw [hpl]; exact N6.out)
        simp only [Value.slice.injEq] at hv6
        obtain ⟨rfl, _, rfl⟩ := hv6
        have HNA := hid hna
        have HPL2 := hid hpl
        clear hna hpl N6 hneq hneq2 hqI hii
        go_loopw [11] (fun jv wr => ∃ j : Nat, jv = .int .i64 (j : Int) ∧ j ≤ q + 1 ∧ Box (Keeps [] w7 wr)) (fun jv _ => q + 1 - (intOf jv).toNat)
        case atStart => exact ⟨0, rfl, by omega, hid (Keeps.refl _ _)⟩
        case round =>
          obtain ⟨j, rfl, hj, HK⟩ := hrel
          by_cases hlj : j < q + 1
          · have hlj' : (j : Int) < (q : Int) + 1 := by omega
            have hljn : (j : Int) < ((q + 1 : Nat) : Int) := by omega
            obtain ⟨bp, op, rfl, cp⟩ := NAt.at (InAt.kept HNA.out HK.out (by simp)) (k := j) (by rw [HPL2.out]; exact hlj)
            rw [HGP.out j hlj] at cp
            have hz : ((x : Int) + (j : Int)) % (i : Int) = (((x + j) % i : Nat) : Int) := by
              show ((x + j : Nat) : Int) % (i : Int) = _
              rfl
            generalize (x + j) % i = z at cp hz
            have hzz : ((z : Int) != (z : Int)) = false := by simp
            go_wp2_with fail
            go_quiet (fail)
            have K9 := hid (HK.out.quiet (Keeps.drewN [] wr nq))
            clear cp HK
            generalize wr.drewN nq = w9 at K9 ⊢
            go_wp2_with fail
            go_roundw
            case rel => exact ⟨j + 1, by go_num, by omega, K9⟩
            case measure => simp [intOf]; omega
          · obtain rfl : j = q + 1 := by omega
            go_wp2
            go_ret
            exact ⟨rfl, K6.out.quiet HK.out⟩
end Go.Proofs.YtngdnjlohmkbiabDoor
