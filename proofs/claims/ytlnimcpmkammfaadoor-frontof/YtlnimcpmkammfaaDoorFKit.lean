/-
  What the statements over frontiers share: a graph in its variable and its frontiers.
-/
import Derived.Test.YtlnimcpmkammfaaDoorFBegun
namespace Go.Proofs.YtlnimcpmkammfaaDoor
open Go.RowKit

/-- A graph's variable bx, and its frontiers at pf. -/
structure LF (w wz : World) (bx p B N : Nat) (g : List (List Nat)) (base pf : Nat) (q : Nat → Nat) (F : Nat → Nat → Bool) : Prop where
  lg : LG w wz bx p B g
  fm : FrM wz base pf N q F
  len : g.length = N
theorem LF.quiet {w wz wy : World} {bx p B N : Nat} {g : List (List Nat)} {base pf : Nat} {q : Nat → Nat} {F : Nat → Nat → Bool} (h : LF w wz bx p B N g base pf q F) (k : Keeps [] wz wy) : LF w wy bx p B N g base pf q F := ⟨h.lg.quiet k, h.fm.quiet k, h.len⟩
theorem LF.c0 {w wz : World} {bx p B N : Nat} {g : List (List Nat)} {base pf : Nat} {q : Nat → Nat} {F : Nat → Nat → Bool} (h : LF w wz bx p B N g base pf q F) : wz.cell? ⟨bx, 0, none⟩ = some (.int .i64 (N : Int)) := by
  have := h.lg.two.c0
  rw [h.len] at this
  exact this
theorem LF.c1 {w wz : World} {bx p B N : Nat} {g : List (List Nat)} {base pf : Nat} {q : Nat → Nat} {F : Nat → Nat → Bool} (h : LF w wz bx p B N g base pf q F) : wz.cell? ⟨bx, 1, none⟩ = some (.slice (some ⟨p, 0, none⟩) N N) := by
  have := h.lg.two.c1
  rw [h.len] at this
  exact this
theorem LF.node {w wz : World} {bx p B N : Nat} {g : List (List Nat)} {base pf : Nat} {q : Nat → Nat} {F : Nat → Nat → Bool} (h : LF w wz bx p B N g base pf q F) {k : Nat} (hk : k < N) : ∃ ai ci, wz.cell? ⟨p, k, none⟩ = some (.slice ai (nb g k).length ci) ∧ NAt wz B ai (nb g k) := by
  obtain ⟨b, off, ai, ci, h1, h2, h3⟩ := h.lg.gr.at (k := k) (by rw [h.len]; exact hk)
  simp only [Option.some.injEq, Addr.mk.injEq, and_true] at h1
  obtain ⟨rfl, rfl⟩ := h1
  rw [Nat.zero_add] at h2
  exact ⟨ai, ci, h2, h3⟩
theorem LF.has {w wz : World} {bx p B N : Nat} {g : List (List Nat)} {base pf : Nat} {q : Nat → Nat} {F : Nat → Nat → Bool} (h : LF w wz bx p B N g base pf q F) {k : Nat} (hk : k < N) (b : Nat) :
    Calls Tryd.prog 20 #[.pointer (some ⟨q k, 0, none⟩), .int .i64 (b : Int)] wz fun e w' => e = .returned (.bool (F k b)) ∧ Keeps [] wz w' := by
  refine (has_any (q k) (F k) (b : Int) wz (h.fm.set k hk) (h.fm.fit k hk)).mono ?_
  rintro e w' ⟨rfl, m, rfl⟩
  exact ⟨by simp [hasI], Keeps.drewN _ _ _⟩
theorem LF.all {w wz : World} {bx p B N : Nat} {g : List (List Nat)} {base pf : Nat} {q : Nat → Nat} {F : Nat → Nat → Bool} (h : LF w wz bx p B N g base pf q F) (hT : TabAt wz) {k : Nat} (hk : k < N) :
    Calls Tryd.prog 13 #[.pointer (some ⟨q k, 0, none⟩)] wz fun e w' => ∃ a cap, e = .returned (.slice a (elems (F k)).length cap) ∧ IntsAt w' a ((elems (F k)).map fun n : Nat => (n : Int)) ∧ Keeps [] wz w' := by
  refine (all_any (q k) (F k) wz (h.fm.set k hk) (h.fm.fit k hk) hT).mono ?_
  rintro e w' ⟨v, rfl, h1, h2⟩
  obtain ⟨a, cap, rfl, h3, _⟩ := ownsRow_ints h1
  exact ⟨a, cap, rfl, h3, h2⟩
theorem mem_elems {s : Nat → Bool} (hf : Fit s) {n : Nat} : n ∈ elems s ↔ s n = true := by
  unfold elems
  rw [List.mem_filter, List.mem_range]
  constructor
  · exact fun h => h.2
  · intro h
    refine ⟨?_, h⟩
    apply Nat.lt_of_not_le
    intro hle
    rw [hf n hle] at h
    cases h
theorem domI_of {g : List (List Nat)} {r a b : Nat} : DomI g r (a : Int) (b : Int) ↔ Dom g r a b := by
  constructor
  · rintro ⟨i, j, h1, h2, h3⟩
    obtain rfl : a = i := by omega
    obtain rfl : b = j := by omega
    exact h3
  · intro h
    exact ⟨a, b, rfl, rfl, h⟩
end Go.Proofs.YtlnimcpmkammfaaDoor
