/-
  Contracts: a ring of nodes, each once, by the statements' own Put and In.
-/
import Derived.Test.YtngdnjlohmkbiaaDoorGBfPl
import Derived.Test.YtngdnjlohmkbiaaDoorGPut
import Derived.Test.YtngdnjlohmkbiaaDoorGPathOut
import Derived.Test.YtngdnjlohmkbiaaDoorGMorePl
import Derived.Test.YtngdnjlohmkbiaaDoorGLaw
namespace Go.Proofs.YtngdnjlohmkbiaaDoor
open Go.RowKit

/-- A list of nodes, each once. -/
structure Rg (w : World) (base : Nat) (v : Value) (l : List Int) (N : Nat) (S : Nat → Prop) : Prop where
  lst : Lst w base v l
  nod : l.Nodup
  mem : ∀ z, z ∈ l ↔ ∃ u : Nat, z = (u : Int) ∧ S u
  lt : ∀ u, S u → u < N
theorem Rg.len {w : World} {base : Nat} {v : Value} {l : List Int} {N : Nat} {S : Nat → Prop} (h : Rg w base v l N S) : l.length ≤ N := by
  have := List.Nodup.length_le_of_subset h.nod (l₂ := (List.range N).map fun i : Nat => (i : Int)) (fun z hz => by
    obtain ⟨u, rfl, hu⟩ := (h.mem z).1 hz
    exact List.mem_map.2 ⟨u, List.mem_range.2 (h.lt u hu), rfl⟩)
  rw [List.length_map, List.length_range] at this
  exact this
theorem Rg.quiet {w w' : World} {base : Nat} {v : Value} {l : List Int} {N : Nat} {S : Nat → Prop} (h : Rg w base v l N S) (k : Keeps [] w w') : Rg w' base v l N S :=
  ⟨h.lst.kept k (by simp), h.nod, h.mem, h.lt⟩
theorem Rg.congr {w : World} {base : Nat} {v : Value} {l : List Int} {N : Nat} {S T : Nat → Prop} (h : Rg w base v l N S) (e : ∀ u, S u ↔ T u) : Rg w base v l N T :=
  ⟨h.lst, h.nod, fun z => by rw [h.mem z]; exact ⟨fun ⟨u, h1, h2⟩ => ⟨u, h1, (e u).1 h2⟩, fun ⟨u, h1, h2⟩ => ⟨u, h1, (e u).2 h2⟩⟩, fun u hu => h.lt u ((e u).2 hu)⟩
theorem putIs_mem {l l' : List Int} {n : Int} (h : PutIs l n l') (z : Int) : z ∈ l' ↔ z ∈ l ∨ z = n := by
  rcases h with ⟨h1, rfl⟩ | ⟨_, k, _, _, _, rfl⟩
  · constructor
    · exact .inl
    · rintro (h | rfl)
      · exact h
      · exact h1
  · rw [List.mem_append, List.mem_cons]
    conv => rhs; rw [← List.take_append_drop k l, List.mem_append]
    constructor
    · rintro (h | h | h)
      · exact .inl (.inl h)
      · exact .inr h
      · exact .inl (.inr h)
    · rintro ((h | h) | h)
      · exact .inl h
      · exact .inr (.inr h)
      · exact .inr (.inl h)
theorem putIs_nod {l l' : List Int} {n : Int} (h : PutIs l n l') (hn : l.Nodup) : l'.Nodup := by
  rcases h with ⟨_, rfl⟩ | ⟨h1, k, _, _, _, rfl⟩
  · exact hn
  · rw [List.nodup_append, List.nodup_cons]
    rw [← List.take_append_drop k l, List.nodup_append] at hn
    have h2 : ∀ z, z ∈ l.take k → z ∈ l := fun z hz => List.mem_of_mem_take hz
    have h3 : ∀ z, z ∈ l.drop k → z ∈ l := fun z hz => List.mem_of_mem_drop hz
    refine ⟨hn.1, ⟨fun h => h1 (h3 _ h), hn.2.1⟩, fun a ha b hb e => ?_⟩
    rcases List.mem_cons.1 hb with h | h
    · exact h1 (h ▸ e ▸ h2 a ha)
    · exact hn.2.2 a ha b h e
theorem rput_any (base : Nat) (v : Value) (l : List Int) (N c : Nat) (S : Nat → Prop) (w : World) (h : Rg w base v l N S) (hc : c < N) (hN : N ≤ 600) (hb : base ≤ w.heap.size) :
    Calls Tryd.prog 33 #[v, .int .i64 (c : Int)] w fun e w' => ∃ v' l', e = .returned v' ∧ Rg w' base v' l' N (fun u => S u ∨ u = c) ∧ Keeps [] w w' := by
  refine (put_any base v l (c : Int) w h.lst hb (by have := h.len; omega)).mono ?_
  rintro e w' ⟨v', l', rfl, hp, hl, hk⟩
  refine ⟨v', l', rfl, ⟨hl, putIs_nod hp h.nod, fun z => ?_, fun u hu => ?_⟩, hk⟩
  · rw [putIs_mem hp, h.mem]
    constructor
    · rintro (⟨u, h1, h2⟩ | h1)
      · exact ⟨u, h1, .inl h2⟩
      · exact ⟨c, h1, .inr rfl⟩
    · rintro ⟨u, h1, h2 | h2⟩
      · exact .inl ⟨u, h1, h2⟩
      · exact .inr (by rw [h1, h2])
  · rcases hu with hu | rfl
    · exact h.lt u hu
    · exact hc
theorem rin_ring (base : Nat) (v : Value) (l : List Int) (N c : Nat) (S : Nat → Prop) (w : World) (h : Rg w base v l N S) (hN : N ≤ 600) (d : Bool) (hd : d = true ↔ S c) :
    Calls Tryd.prog 32 #[v, .int .i64 (c : Int)] w fun e w' => e = .returned (.bool d) ∧ w' = w := by
  obtain ⟨a, cap, rfl, hi, _, _⟩ := h.lst.open
  have hin := rin_any a cap l (c : Int) w hi (by have := h.len; omega)
  have e : decide ((c : Int) ∈ l) = d := by
    rw [Bool.eq_iff_iff, decide_eq_true_eq, hd, h.mem]
    constructor
    · rintro ⟨u, h1, h2⟩
      rw [show c = u by omega]; exact h2
    · exact fun hs => ⟨c, rfl, hs⟩
  rw [e] at hin
  exact hin
/-- Who is within j edges. -/
def Wi (g : List (List Nat)) (a j u : Nat) : Prop := ∃ m, m ≤ j ∧ Wz g m a u
theorem wi_next {g : List (List Nat)} {a j u : Nat} : Wi g a (j + 1) u ↔ (∃ x, Wi g a j x ∧ u ∈ nb g x) ∨ Wi g a j u := by
  constructor
  · rintro ⟨m, hm, hw⟩
    by_cases h : m ≤ j
    · exact .inr ⟨m, h, hw⟩
    · obtain rfl : m = j + 1 := by omega
      obtain ⟨x, hx, hu⟩ := hw
      exact .inl ⟨x, ⟨j, Nat.le_refl _, hx⟩, hu⟩
  · rintro (⟨x, ⟨m, hm, hx⟩, hu⟩ | ⟨m, hm, hw⟩)
    · exact ⟨m + 1, by omega, x, hx, hu⟩
    · exact ⟨m, by omega, hw⟩
theorem wi_zero {g : List (List Nat)} {a u : Nat} : Wi g a 0 u ↔ u = a := by
  constructor
  · rintro ⟨m, hm, hw⟩
    obtain rfl : m = 0 := by omega
    exact hw
  · rintro rfl; exact ⟨0, Nat.le_refl _, rfl⟩
/-- The ring's first k. -/
def RgK (l : List Int) (k u : Nat) : Prop := ∃ q, q < k ∧ l.getD q 0 = (u : Int)
theorem Rg.all {w : World} {base : Nat} {v : Value} {l : List Int} {N : Nat} {S : Nat → Prop} (h : Rg w base v l N S) (u : Nat) : RgK l l.length u ↔ S u := by
  constructor
  · rintro ⟨q, hq, e⟩
    have : l.getD q 0 ∈ l := by
      rw [List.getD_eq_getElem?_getD, List.getElem?_eq_getElem hq]
      exact List.getElem_mem hq
    obtain ⟨x, h1, h2⟩ := (h.mem _).1 this
    rw [show u = x by omega]; exact h2
  · intro hs
    obtain ⟨q, hq, e⟩ := List.getElem_of_mem ((h.mem (u : Int)).2 ⟨u, rfl, hs⟩)
    exact ⟨q, hq, by rw [List.getD_eq_getElem?_getD, List.getElem?_eq_getElem hq]; exact e⟩
theorem Rg.at {w : World} {base : Nat} {v : Value} {l : List Int} {N : Nat} {S : Nat → Prop} (h : Rg w base v l N S) {q : Nat} (hq : q < l.length) : ∃ u : Nat, l.getD q 0 = (u : Int) ∧ S u ∧ ∃ b off cap, v = .slice (some ⟨b, off, none⟩) l.length cap ∧ w.cell? ⟨b, off + q, none⟩ = some (.int .i64 (u : Int)) := by
  have hm : l.getD q 0 ∈ l := by
    rw [List.getD_eq_getElem?_getD, List.getElem?_eq_getElem hq]
    exact List.getElem_mem hq
  obtain ⟨u, h1, h2⟩ := (h.mem _).1 hm
  obtain ⟨a, cap, rfl, hi, _, _⟩ := h.lst.open
  rcases hi with rfl | ⟨b, off, rfl, hc⟩
  · simp at hq
  · exact ⟨u, h1, h2, b, off, cap, rfl, by rw [hc q hq, h1]⟩
end Go.Proofs.YtngdnjlohmkbiaaDoor
