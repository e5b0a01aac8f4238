/-
  A slice of the statements' own operations that came in.
-/
import Derived.Test.YtjfemabgbmadfaaWRowKit
namespace Go.Proofs.Ytjfemabgbmadfaa
open Go.ChangeShapes Go.WideShapes Go.ChangeAt Go.RowKit

/-- The operations of a slice. -/
def OpsAt (w : World) (a : Option Addr) (os : List (Bool × Int)) : Prop :=
  os = [] ∨ ∃ b off, a = some ⟨b, off, none⟩ ∧ ∀ i, i < os.length → w.cell? ⟨b, off + i * 2, none⟩ = some (.bool (os.getD i (false, 0)).1) ∧ w.cell? ⟨b, off + i * 2 + 1, none⟩ = some (.int .i64 (os.getD i (false, 0)).2)

theorem trod_op {H : Type} {enc : TypeId × Value → H} {w : World} {base : Nat} {spare : Nat → Bool} {held : Bool} {fuel : Nat} {cs : List Value} {x : DataW H × List MemPlace}
    (h : DataW.trod enc Try.prog w base spare held fuel 28 cs = some x) : ∃ (m : Bool) (n : Int), cs = [.bool m, .int .i64 n] ∧ wfI n := by
  have c2 : Try.prog.cellsOf 28 = 2 := by kernel_rfl
  obtain ⟨y0, y1, k, _, hl, h0, h1⟩ := trod_struct2 Try.underlying28 h
  rw [c2] at hl
  have cb : Try.prog.cellsOf 4 = 1 := by kernel_rfl
  have ci : Try.prog.cellsOf 3 = 1 := by kernel_rfl
  match cs, hl with
  | [v0, v1], _ =>
    simp only [cb, ci] at h0 h1
    obtain ⟨m, hm, _⟩ := DataW.trod_bool Try.underlying4 h0
    obtain ⟨n, hn, _, hw⟩ := DataW.trod_int Try.underlying3 h1
    simp at hm hn
    exact ⟨m, n, by rw [hm, hn], hw⟩

theorem ops_open {H : Type} {enc : TypeId × Value → H} {W : World} {held : Bool} {fuel : Nat} {a : Option Addr} {len cap : Nat} {x : DataW H × List MemPlace}
    (h : DataW.trod enc Try.prog W 0 (fun _ => true) held fuel 23 (Value.slice a len cap).cells.toList = some x) :
    ∃ zs : List (Bool × Int), zs.length = len ∧ OpsAt W a zs ∧ zs.length ≤ maxLen ∧ zs.length ≤ cap ∧ ∀ x, x ∈ zs → wfI x.2 := by
  rcases Deep.open_slice Try.underlying23 h with ⟨hcs, _⟩ | ⟨ad, l, c, m, n, D, Pl, hcs, _, hl, hm, hmm, _, hx⟩
  · simp [Value.cells] at hcs
    obtain ⟨rfl, rfl, rfl⟩ := hcs
    exact ⟨[], rfl, Or.inl rfl, by simp, by simp, by simp⟩
  · simp [Value.cells] at hcs
    obtain ⟨rfl, rfl, rfl⟩ := hcs
    simp only [if_true] at hmm
    subst hmm
    have ce : Try.prog.cellsOf 28 = 2 := by kernel_rfl
    have each : ∀ i, i < len → ∃ q : Bool × Int, W.cell? (ad.add (i * 2)) = some (.bool q.1) ∧ W.cell? (ad.add (i * 2 + 1)) = some (.int .i64 q.2) ∧ wfI q.2 := by
      intro i hi
      obtain ⟨cs', h1, h2⟩ := hx i (by omega)
      rw [ce] at h1
      obtain ⟨_, hlen, hcell⟩ := World.cells?_some h1
      obtain ⟨p, q, rfl, hw⟩ := trod_op h2
      have e0 := hcell 0 (by omega)
      have e1 := hcell 1 (by omega)
      rw [Deep.add_add] at e0 e1
      exact ⟨(p, q), by simpa using e0, by simpa using e1, hw⟩
    obtain ⟨q, hq⟩ := Deep.choose_lt each
    refine ⟨(List.range len).map q, by simp, ?_, by simp; omega, by simp; omega, ?_⟩
    · by_cases h0 : len = 0
      · subst h0; left; rfl
      · right
        obtain ⟨b, off, spot⟩ := ad
        have h00 := (hq 0 (by omega)).1
        have hspot : spot = none := by simpa [Addr.add] using World.cell?_spot h00
        subst hspot
        refine ⟨b, off, rfl, fun i hi => ?_⟩
        rw [List.length_map, List.length_range] at hi
        obtain ⟨g0, g1, _⟩ := hq i hi
        have e : ((List.range len).map q).getD i (false, 0) = q i := by
          rw [List.getD_eq_getElem?_getD, List.getElem?_map, List.getElem?_range hi]; rfl
        rw [e]
        rw [Go.WideShapes.add_plain] at g0 g1
        exact ⟨g0, by rw [Nat.add_assoc]; exact g1⟩
    · intro y hy
      rw [List.mem_map] at hy
      obtain ⟨i, hi, rfl⟩ := hy
      exact (hq i (by simpa using hi)).2.2
end Go.Proofs.Ytjfemabgbmadfaa
