/-
  Plain: who reaches itself stands in a part with others, or has an edge to itself.
-/
import Derived.Test.YtngdnjlohmkbiaaDoorGLaw
namespace Go.Proofs.YtngdnjlohmkbiaaDoor
open Go.RowKit

theorem sccs_part {g : List (List Nat)} {p : List Nat} (hp : p ∈ sccs g) : ∃ a, a < g.length ∧ p = part g a := by
  obtain ⟨a, ha, rfl⟩ := List.mem_map.1 hp
  exact ⟨a, List.mem_range.1 (List.mem_filter.1 ha).1, rfl⟩
theorem sccs_same {g : List (List Nat)} (hg : Ok g) {p q : List Nat} (hp : p ∈ sccs g) (hq : q ∈ sccs g) {x : Nat} (h1 : x ∈ p) (h2 : x ∈ q) : p = q := by
  obtain ⟨a, ha, rfl⟩ := sccs_part hp
  obtain ⟨b, hb, rfl⟩ := sccs_part hq
  exact part_eq hg ha hb (((mem_part hg x ha).1 h1).2.trans ((mem_part hg x hb).1 h2).2.symm)
theorem nb_mem {l : List (List Nat)} {k : Nat} (hk : k < l.length) : nb l k ∈ l := getD_mem l k [] hk
theorem parts_mem {g : List (List Nat)} {p : List Nat} (hp : p ∈ partsM g) : p ∈ sccs g := by
  obtain ⟨k, hk, rfl⟩ := List.mem_map.1 hp
  have h := ahd_lt (smallG g (sccs g)) _ [] (fun _ h => absurd h List.not_mem_nil) k hk
  rw [smallG_len] at h
  exact nb_mem h
theorem loopS_part {g : List (List Nat)} (hg : Ok g) {p : List Nat} (hp : p ∈ sccs g) {x : Nat} (hx : x ∈ p) : loopS g (sccs g) x = loopB g p := by
  unfold loopS
  show (none_ x || decide (x ∈ ((sccs g).filter (loopB g)).flatten)) = _
  cases h : loopB g p
  · rw [decide_eq_false]
    · rfl
    · intro hm
      obtain ⟨q, hq, hxq⟩ := List.mem_flatten.1 hm
      have := sccs_same hg hp (List.mem_filter.1 hq).1 hx hxq
      subst this
      have := (List.mem_filter.1 hq).2
      rw [h] at this
      cases this
  · rw [decide_eq_true]
    · rfl
    · exact List.mem_flatten.2 ⟨p, List.mem_filter.2 ⟨hp, h⟩, hx⟩
theorem loopB_node {g : List (List Nat)} {p : List Nat} {x : Nat} (hx : x ∈ p) : loopB g p = (decide (1 < p.length) || decide (x ∈ nb g x)) := by
  unfold loopB
  by_cases h : 1 < p.length
  · simp [h]
  · have : p = [x] := by
      match p, h with
      | [], _ => cases hx
      | [y], _ => simp at hx; rw [hx]
      | _ :: _ :: _, h => simp at h
    rw [this]
    rfl

theorem part_nodup (g : List (List Nat)) (a : Nat) : (part g a).Nodup := List.nodup_range.filter _
end Go.Proofs.YtngdnjlohmkbiaaDoor
