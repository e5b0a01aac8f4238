/-
  Plain: Parts as the statement GraphPartsOrder asks it.
-/
import Derived.Test.YtjckdjeckbdmdabDoorGTopo
namespace Go.Proofs.YtjckdjeckbdmdabDoor
open Go.RowKit

theorem getD_nodup {l : List Nat} (h : l.Nodup) {i j : Nat} (hi : i < l.length) (hj : j < l.length) (e : l.getD i 0 = l.getD j 0) : i = j := by
  rw [List.getD_eq_getElem?_getD, List.getD_eq_getElem?_getD, List.getElem?_eq_getElem hi, List.getElem?_eq_getElem hj] at e
  exact (List.getElem_inj h).1 e
theorem line_nodup (g : List (List Nat)) : (ahd (smallG g (sccs g))).Nodup := (ahd_ahd _ _ _ (Ahd.nil _)).nodup
theorem line_lt (g : List (List Nat)) {k : Nat} (hk : k ∈ ahd (smallG g (sccs g))) : k < (sccs g).length := by
  have := (ahd_ahd _ _ _ (Ahd.nil _)).lt k hk
  rwa [smallG_len] at this
theorem partsM_len (g : List (List Nat)) : (partsM g).length = (ahd (smallG g (sccs g))).length := by simp [partsM]
theorem nb_parts {g : List (List Nat)} {t : Nat} (ht : t < (partsM g).length) : nb (partsM g) t = nb (sccs g) ((ahd (smallG g (sccs g))).getD t 0) := by
  rw [partsM_len] at ht
  unfold partsM
  rw [nb, List.getD_eq_getElem?_getD, List.getElem?_map, List.getD_eq_getElem?_getD, List.getElem?_eq_getElem ht, Option.map_some, Option.getD_some, Option.getD_some]
theorem line_at (g : List (List Nat)) {t : Nat} (ht : t < (partsM g).length) : (ahd (smallG g (sccs g))).getD t 0 ∈ ahd (smallG g (sccs g)) := getD_mem _ _ _ (by rw [← partsM_len]; exact ht)
/-- Where a node's part stands. -/
theorem pos_has {g : List (List Nat)} (hs : Sm g) {x : Nat} (hx : x < g.length) : ∃ t, t < (partsM g).length ∧ x ∈ nb (partsM g) t := by
  have h1 := plc_mem hs.ok hx
  have h2 := ahd_all hs _ _ h1.2 (Nat.le_refl _)
  obtain ⟨t, ht, e⟩ := List.getElem_of_mem h2
  have ht' : t < (partsM g).length := by rw [partsM_len]; exact ht
  refine ⟨t, ht', ?_⟩
  rw [nb_parts ht', List.getD_eq_getElem?_getD, List.getElem?_eq_getElem ht]
  rw [Option.getD_some, e]
  exact h1.1
theorem pos_plc {g : List (List Nat)} (hs : Sm g) {x t : Nat} (hx : x < g.length) (ht : t < (partsM g).length) (h : x ∈ nb (partsM g) t) : plc g x = (ahd (smallG g (sccs g))).getD t 0 := by
  rw [nb_parts ht] at h
  exact plc_eq hs.ok hx (line_lt g (line_at g ht)) h
theorem pos_uniq {g : List (List Nat)} (hs : Sm g) {x t u : Nat} (hx : x < g.length) (ht : t < (partsM g).length) (hu : u < (partsM g).length) (h1 : x ∈ nb (partsM g) t) (h2 : x ∈ nb (partsM g) u) : t = u :=
  getD_nodup (line_nodup g) (by rw [← partsM_len]; exact ht) (by rw [← partsM_len]; exact hu) ((pos_plc hs hx ht h1).symm.trans (pos_plc hs hx hu h2))
theorem parts_edge {g : List (List Nat)} (hs : Sm g) {a b : Nat} (ha : a < g.length) (hb : b ∈ nb g a) : plcK (partsM g) (partsM g).length a ≤ plcK (partsM g) (partsM g).length b := by
  have hbl := hs.ok a b hb
  have h1 := plcK_mem _ a _ (pos_has hs ha)
  have h2 := plcK_mem _ b _ (pos_has hs hbl)
  generalize plcK (partsM g) (partsM g).length a = ta at *
  generalize plcK (partsM g) (partsM g).length b = tb at *
  have e1 := pos_plc hs ha h1.2 h1.1
  have e2 := pos_plc hs hbl h2.2 h2.1
  by_cases e : plc g b = plc g a
  · have := getD_nodup (line_nodup g) (by rw [← partsM_len]; exact h2.2) (by rw [← partsM_len]; exact h1.2) (e2.symm.trans (e.trans e1))
    omega
  · have h3 := small_edge hs ha hb e
    rw [e2] at h3
    have h4 := ahdL_ord (smallG g (sccs g)) ((smallG g (sccs g)).length + 1) [] (fun t ht => absurd ht (by simp)) tb (by have := h2.2; rw [partsM_len] at this; exact this) (plc g a) h3
    obtain ⟨u, hu, e5⟩ := List.getElem_of_mem h4
    have hu1 : u < tb := by rw [List.length_take] at hu; omega
    have hul : u < (ahd (smallG g (sccs g))).length := by rw [List.length_take] at hu; exact Nat.lt_of_lt_of_le hu (Nat.min_le_right _ _)
    have e6 : (ahd (smallG g (sccs g))).getD u 0 = plc g a := by
      rw [List.getElem_take] at e5
      rw [List.getD_eq_getElem?_getD, List.getElem?_eq_getElem hul, Option.getD_some]
      exact e5
    have := getD_nodup (line_nodup g) hul (by rw [← partsM_len]; exact h1.2) (e6.trans e1)
    omega
/-- Numbers in the first i parts. -/
def cntP (ps : List (List Nat)) (i : Nat) : Nat := ((ps.take i).map List.length).sum
theorem cntP_succ (ps : List (List Nat)) (i : Nat) (hi : i < ps.length) : cntP ps (i + 1) = cntP ps i + (nb ps i).length := by
  unfold cntP
  rw [take_snoc ps i [] hi, List.map_append, List.sum_append]
  simp [nb]
theorem flat_nodup (f : Nat → List Nat) : ∀ l : List Nat, l.Nodup → (∀ a, a ∈ l → (f a).Nodup) → (∀ a b x, a ∈ l → b ∈ l → x ∈ f a → x ∈ f b → a = b) → (l.map f).flatten.Nodup
  | [], _, _, _ => by simp
  | a :: l, hn, h1, h2 => by
    rw [List.map_cons, List.flatten_cons, List.nodup_append]
    rw [List.nodup_cons] at hn
    refine ⟨h1 a (by simp), flat_nodup f l hn.2 (fun b hb => h1 b (by simp [hb])) (fun b c x hb hc => h2 b c x (by simp [hb]) (by simp [hc])), ?_⟩
    intro x hx y hy e
    subst e
    obtain ⟨q, hq, hxq⟩ := List.mem_flatten.1 hy
    obtain ⟨b, hb, rfl⟩ := List.mem_map.1 hq
    have := h2 a b x (by simp) (by simp [hb]) hx hxq
    subst this
    exact hn.1 hb
theorem part_nodup (g : List (List Nat)) (a : Nat) : (part g a).Nodup := List.nodup_range.filter _
theorem parts_count {g : List (List Nat)} (hs : Sm g) : cntP (partsM g) (partsM g).length = g.length := by
  unfold cntP
  rw [List.take_length]
  have e : ((partsM g).map List.length).sum = (partsM g).flatten.length := by rw [List.length_flatten]
  rw [e]
  have hn : (partsM g).flatten.Nodup := by
    unfold partsM
    refine flat_nodup _ _ (line_nodup g) (fun k hk => ?_) (fun i j x hi hj h1 h2 => sccs_idx hs.ok (line_lt g hi) (line_lt g hj) h1 h2)
    obtain ⟨a, _, e⟩ := nb_sccs (line_lt g hk)
    rw [e]
    exact part_nodup g a
  have hlt : ∀ x, x ∈ (partsM g).flatten → x < g.length := by
    intro x hx
    obtain ⟨q, hq, hxq⟩ := List.mem_flatten.1 hx
    obtain ⟨a, ha, rfl⟩ := sccs_part (parts_mem hq)
    exact ((mem_part hs.ok x ha).1 hxq).1
  have h1 := nodup_len_le hn hlt
  have h2 := List.Nodup.length_le_of_subset (List.nodup_range (n := g.length)) (l₂ := (partsM g).flatten) (fun x hx => by
    obtain ⟨t, ht, hxt⟩ := pos_has hs (List.mem_range.1 hx)
    exact List.mem_flatten.2 ⟨_, nb_mem ht, hxt⟩)
  rw [List.length_range] at h2
  omega
/-- A part rises. -/
theorem parts_rise {g : List (List Nat)} {t j : Nat} (ht : t < (partsM g).length) (hj : j + 1 < (nb (partsM g) t).length) : (nb (partsM g) t).getD j 0 < (nb (partsM g) t).getD (j + 1) 0 := by
  obtain ⟨a, _, e⟩ := sccs_part (parts_mem (nb_mem ht))
  rw [e] at hj ⊢
  have hp : (part g a).Pairwise (· < ·) := List.Pairwise.sublist List.filter_sublist List.pairwise_lt_range
  have := List.pairwise_iff_getElem.1 hp j (j + 1) (by omega) hj (by omega)
  rw [List.getD_eq_getElem?_getD, List.getD_eq_getElem?_getD, List.getElem?_eq_getElem hj, List.getElem?_eq_getElem (by omega)]
  exact this
end Go.Proofs.YtjckdjeckbdmdabDoor
