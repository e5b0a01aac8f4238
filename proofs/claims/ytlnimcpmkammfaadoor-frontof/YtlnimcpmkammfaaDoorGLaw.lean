/-
  What the statements over graphs share: a graph in its variable.
-/
import Derived.Test.YtlnimcpmkammfaaDoorGMade
namespace Go.Proofs.YtlnimcpmkammfaaDoor
open Go.RowKit

/-- A graph's variable bx, its lists in blocks below B. -/
structure LG (w wz : World) (bx p B : Nat) (g : List (List Nat)) : Prop where
  two : TwoAt wz bx (.int .i64 (g.length : Int)) (.slice (some ⟨p, 0, none⟩) g.length g.length)
  gr : GAt wz B (some ⟨p, 0, none⟩) g
  lt : bx < B
  le : B ≤ wz.heap.size
  keep : Keeps [] w wz
  base : w.heap.size ≤ B
theorem LG.kept {w wz wy : World} {bx p B : Nat} {g : List (List Nat)} {F : List Nat} (h : LG w wz bx p B g) (k : Keeps F wz wy) (hF : ∀ x, x ∈ F → B ≤ x) : LG w wy bx p B g :=
  ⟨h.two.kept k (fun hx => by have := hF _ hx; have := h.lt; omega), h.gr.kept k hF, h.lt, Nat.le_trans h.le k.size, h.keep.fresh k (fun x hx => Nat.le_trans h.base (hF x hx)), h.base⟩
theorem LG.quiet {w wz wy : World} {bx p B : Nat} {g : List (List Nat)} (h : LG w wz bx p B g) (k : Keeps [] wz wy) : LG w wy bx p B g := h.kept k (by simp)
theorem LG.make {w w2 : World} {p N base : Nat} {vs : Nat → Value} {L : Nat → List Nat} (ho : OwnL w2 base p N vs L) (k : Keeps [] w w2) : LG w (w2.alloc (.cells #[.int .i64 (N : Int), .slice (some ⟨p, 0, none⟩) N N] 27)) w2.heap.size p (w2.heap.size + 1) ((List.range N).map L) := by
  have k3 : Keeps [] w2 (w2.alloc (.cells #[.int .i64 (N : Int), .slice (some ⟨p, 0, none⟩) N N] 27)) := Keeps.alloc _ _ _
  have e : ((List.range N).map L).length = N := by simp
  refine ⟨?_, GAt.up (ho.graph.quiet k3) (by omega), by omega, by simp, k.quiet k3, by have := k.size; omega⟩
  rw [e]
  exact TwoAt.new w2 _ _

/-- Made's graph, by letters. -/
theorem made_pack (n : Int) (zs : List (Int × Int)) (hl : zs.length ≤ maxLen) : ∃ (N : Nat) (g : List (List Nat)) (L : Nat → List Nat), N ≤ 25 ∧ 1 ≤ N ∧ g.length = N ∧ Sm g ∧ g = (List.range N).map L ∧ (N = nN n ∧ g = madeG n zs) ∧ ∀ pa cap wz, PairsAt wz pa zs →
    Calls Tryd.prog 9 #[.int .i64 n, .slice pa zs.length cap] wz fun e w' => ∃ p vs, e = .returned (.agg #[.int .i64 (N : Int), .slice (some ⟨p, 0, none⟩) N N]) ∧ OwnL w' wz.heap.size p N vs L ∧ Keeps [] wz w' :=
  ⟨nN n, madeG n zs, edL (edsM (nN n) (zs.take 80)), nN_le n, nN_pos n, madeG_len n zs, madeG_sm n zs, rfl, ⟨rfl, rfl⟩, fun pa cap wz h => made_any n pa cap zs wz h hl⟩

end Go.Proofs.YtlnimcpmkammfaaDoor
