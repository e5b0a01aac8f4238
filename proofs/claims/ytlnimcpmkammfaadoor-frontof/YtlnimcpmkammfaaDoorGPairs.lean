/-
  A slice of pairs of numbers that came in.
-/
import Derived.Test.YtlnimcpmkammfaaDoorBase
import Derived.ProofKit
import Derived.OpenShut
import Derived.ChangeOld
import Derived.Deep.DeepHandedRow
import Derived.Deep.Slices
namespace Go.Proofs.YtlnimcpmkammfaaDoor
open Go.ChangeShapes Go.WideShapes Go.ChangeAt Go.RowKit

/-- The pairs of a slice. -/
def PairsAt (w : World) (a : Option Addr) (zs : List (Int × Int)) : Prop :=
  zs = [] ∨ ∃ b off, a = some ⟨b, off, none⟩ ∧ ∀ i, i < zs.length → w.cell? ⟨b, off + i * 2, none⟩ = some (.int .i64 (zs.getD i (0, 0)).1) ∧ w.cell? ⟨b, off + i * 2 + 1, none⟩ = some (.int .i64 (zs.getD i (0, 0)).2)

theorem PairsAt.kept {w w' : World} {a : Option Addr} {zs : List (Int × Int)} {L : List Nat} (h : PairsAt w a zs) (k : Keeps L w w') (hn : ∀ b off, a = some ⟨b, off, none⟩ → b ∉ L) : PairsAt w' a zs := by
  rcases h with h | ⟨b, off, rfl, h⟩
  · exact Or.inl h
  · refine Or.inr ⟨b, off, rfl, fun i hi => ?_⟩
    obtain ⟨h1, h2⟩ := h i hi
    exact ⟨(k.cell (p := ⟨b, off + i * 2, none⟩) (block_lt_of_cell h1) (hn b off rfl)).trans h1, (k.cell (p := ⟨b, off + i * 2 + 1, none⟩) (block_lt_of_cell h2) (hn b off rfl)).trans h2⟩

theorem PairsAt.take {w : World} {a : Option Addr} {zs : List (Int × Int)} (h : PairsAt w a zs) (n : Nat) : PairsAt w a (zs.take n) := by
  rcases h with rfl | ⟨b, off, rfl, h⟩
  · left; simp
  · refine Or.inr ⟨b, off, rfl, fun i hi => ?_⟩
    rw [List.length_take] at hi
    have e : (zs.take n).getD i (0, 0) = zs.getD i (0, 0) := by
      rw [List.getD_eq_getElem?_getD, List.getD_eq_getElem?_getD, List.getElem?_take, if_pos (by omega)]
    rw [e]
    exact h i (by omega)

theorem trod_two {H : Type} {enc : TypeId × Value → H} {P : Program} {w : World} {base : Nat} {spare : Nat → Bool} {held : Bool} {fuel : Nat} {t e : TypeId} {cs : List Value} {x : DataW H × List MemPlace}
    (ht : P.underlying t = some (.array 2 e)) (he : P.underlying e = some (.int .i64)) (c2 : P.cellsOf t = 2) (c1 : P.cellsOf e = 1) (h : DataW.trod enc P w base spare held fuel t cs = some x) :
    ∃ m n : Int, cs = [.int .i64 m, .int .i64 n] := by
  cases fuel with
  | zero => simp [DataW.trod] at h
  | succ f =>
    unfold DataW.trod at h
    rw [ht] at h
    simp only [c2, c1] at h
    split at h
    · rename_i hl
      obtain ⟨xs, hx, _⟩ := Option.map_eq_some_iff.1 h
      match cs, hl with
      | [v0, v1], _ =>
        have hlen := mapM_some_length hx
        have g0 := mapM_some_get hx 0 0 rfl
        have g1 := mapM_some_get hx 1 1 rfl
        rw [List.length_range] at hlen
        rw [List.getElem?_eq_getElem (by omega)] at g0 g1
        simp at g0 g1
        obtain ⟨m, hm, _⟩ := DataW.trod_int he g0
        obtain ⟨n, hn, _⟩ := DataW.trod_int he g1
        simp at hm hn
        exact ⟨m, n, by rw [hm, hn]⟩
    · simp at h

theorem pairs_open {H : Type} {enc : TypeId × Value → H} {W : World} {held : Bool} {fuel : Nat} {a : Option Addr} {len cap : Nat} {x : DataW H × List MemPlace}
    (h : DataW.trod enc Tryd.prog W 0 (fun _ => true) held fuel 22 (Value.slice a len cap).cells.toList = some x) :
    ∃ zs : List (Int × Int), zs.length = len ∧ PairsAt W a zs ∧ zs.length ≤ maxLen ∧ zs.length ≤ cap := by
  rcases Deep.open_slice Tryd.underlying22 h with ⟨hcs, _⟩ | ⟨ad, l, c, m, n, D, Pl, hcs, _, hl, hm, hmm, _, hx⟩
  · simp [Value.cells] at hcs
    obtain ⟨rfl, rfl, rfl⟩ := hcs
    exact ⟨[], rfl, Or.inl rfl, by simp, by simp⟩
  · simp [Value.cells] at hcs
    obtain ⟨rfl, rfl, rfl⟩ := hcs
    simp only [if_true] at hmm
    subst hmm
    have ce : Tryd.prog.cellsOf 52 = 2 := by kernel_rfl
    have c1 : Tryd.prog.cellsOf 3 = 1 := by kernel_rfl
    have each : ∀ i, i < len → ∃ q : Int × Int, W.cell? (ad.add (i * 2)) = some (.int .i64 q.1) ∧ W.cell? (ad.add (i * 2 + 1)) = some (.int .i64 q.2) := by
      intro i hi
      obtain ⟨cs', h1, h2⟩ := hx i (by omega)
      rw [ce] at h1
      obtain ⟨_, hlen, hcell⟩ := World.cells?_some h1
      obtain ⟨p, q, rfl⟩ := trod_two Tryd.underlying52 Tryd.underlying3 ce c1 h2
      have e0 := hcell 0 (by omega)
      have e1 := hcell 1 (by omega)
      rw [Deep.add_add] at e0 e1
      exact ⟨(p, q), by simpa using e0, by simpa using e1⟩
    obtain ⟨q, hq⟩ := Deep.choose_lt each
    refine ⟨(List.range len).map q, by simp, ?_, by simp; omega, by simp; omega⟩
    by_cases h0 : len = 0
    · subst h0; left; rfl
    · right
      obtain ⟨b, off, spot⟩ := ad
      have h00 := (hq 0 (by omega)).1
      have hspot : spot = none := by simpa [Addr.add] using World.cell?_spot h00
      subst hspot
      refine ⟨b, off, rfl, fun i hi => ?_⟩
      rw [List.length_map, List.length_range] at hi
      obtain ⟨g0, g1⟩ := hq i hi
      have e : ((List.range len).map q).getD i (0, 0) = q i := by
        rw [List.getD_eq_getElem?_getD, List.getElem?_map, List.getElem?_range hi]; rfl
      rw [e]
      rw [Go.WideShapes.add_plain] at g0 g1
      exact ⟨g0, by rw [Nat.add_assoc]; exact g1⟩
end Go.Proofs.YtlnimcpmkammfaaDoor
