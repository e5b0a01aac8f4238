/-
  A place that came in; a slice of the statements' own links that came in.
-/
import Derived.Test.YtjofffhfabmfkaaDoorRCard
import Derived.Test.YtjofffhfabmfkaaDoorRText
import Derived.Deep.Slices
import Derived.Deep.Strs
import Derived.Lib.SmallJoins
namespace Go.Proofs.YtjofffhfabmfkaaDoor
open Go.ChangeShapes Go.WideShapes Go.ChangeAt Go.RowKit

theorem wf64_of {n : Int} (h : (Lit.int .i64 n).wf = true) : wf64 n := by
  have h1 : (decide (IntKind.i64.min ≤ n) && decide (n ≤ IntKind.i64.max)) = true := h
  have a : IntKind.i64.min = -9223372036854775808 := by decide
  have b : IntKind.i64.max = 9223372036854775807 := by decide
  rw [a, b] at h1
  simpa [wf64] using h1

theorem len3 {α : Type} : ∀ {l : List α}, l.length = 3 → ∃ a b c, l = [a, b, c]
  | [a, b, c], _ => ⟨a, b, c, rfl⟩
theorem len6 {α : Type} : ∀ {l : List α}, l.length = 6 → ∃ a b c d e f, l = [a, b, c, d, e, f]
  | [a, b, c, d, e, f], _ => ⟨a, b, c, d, e, f, rfl⟩

theorem trod_point {H : Type} {enc : TypeId × Value → H} {w : World} {base : Nat} {spare : Nat → Bool} {held : Bool} {fuel : Nat} {cs : List Value} {x : DataW H × List MemPlace}
    (h : DataW.trod enc Tryd.prog w base spare held fuel 38 cs = some x) : ∃ f b i : Int, cs = [.int .i64 f, .int .i64 b, .int .i64 i] ∧ wf64 f ∧ wf64 b ∧ wf64 i := by
  have c3 : Tryd.prog.cellsOf 38 = 3 := by kernel_rfl
  have ci : Tryd.prog.cellsOf 3 = 1 := by kernel_rfl
  obtain ⟨y0, y1, y2, k, _, hl, h0, h1, h2⟩ := Deep.trod_struct3 Tryd.underlying38 h
  rw [c3] at hl
  obtain ⟨v0, v1, v2, rfl⟩ := len3 hl
  simp only [ci] at h0 h1 h2
  obtain ⟨n0, e0, _, w0⟩ := DataW.trod_int Tryd.underlying3 h0
  obtain ⟨n1, e1, _, w1⟩ := DataW.trod_int Tryd.underlying3 h1
  obtain ⟨n2, e2, _, w2⟩ := DataW.trod_int Tryd.underlying3 h2
  simp at e0 e1 e2
  exact ⟨n0, n1, n2, by rw [e0, e1, e2], wf64_of w0, wf64_of w1, wf64_of w2⟩

set_option maxRecDepth 100000 in
theorem point_open {H : Type} {enc : TypeId × Value → H} {W : World} {r : Reach} {b0 : Nat} {base : Nat} {spare : Nat → Bool} {held : Bool} {v : Value} {d : DataW H} {p : List MemPlace}
    (hval : Value.okWide Tryd.prog W r b0 38 v) (h : ∃ fuel, DataW.trod enc Tryd.prog W base spare held fuel 38 v.cells.toList = some (d, p)) :
    ∃ f b i : Int, v = .agg #[.int .i64 f, .int .i64 b, .int .i64 i] ∧ wf64 f ∧ wf64 b ∧ wf64 i := by
  obtain ⟨cs, rfl, _⟩ := okWide_struct Tryd.underlying38 hval
  obtain ⟨fuel, hf⟩ := h
  obtain ⟨f, b, i, e, w0, w1, w2⟩ := trod_point hf
  refine ⟨f, b, i, ?_, w0, w1, w2⟩
  congr 1
  apply Array.ext'
  exact e

/-- A link. -/
structure Ln where
  why : Int
  f : Int
  b : Int
  i : Int
  oth : Bool
  text : ByteArray
def Ln.wf (x : Ln) : Prop := wf64 x.why ∧ wf64 x.f ∧ wf64 x.b ∧ wf64 x.i
def Ln.zero : Ln := ⟨0, 0, 0, 0, false, ⟨#[]⟩⟩
def Ln.cells (x : Ln) : List Value := [.int .i64 x.why, .int .i64 x.f, .int .i64 x.b, .int .i64 x.i, .bool x.oth, .string x.text]

/-- The links of a slice. -/
def LinksAt (w : World) (a : Option Addr) (zs : List Ln) : Prop :=
  zs = [] ∨ ∃ b off, a = some ⟨b, off, none⟩ ∧ ∀ i, i < zs.length → ∀ k, k < 6 → w.cell? ⟨b, off + i * 6 + k, none⟩ = (zs.getD i Ln.zero).cells[k]?

theorem trod_link {H : Type} {enc : TypeId × Value → H} {w : World} {base : Nat} {spare : Nat → Bool} {held : Bool} {fuel : Nat} {cs : List Value} {x : DataW H × List MemPlace}
    (h : DataW.trod enc Tryd.prog w base spare held fuel 42 cs = some x) : ∃ q : Ln, cs = q.cells ∧ q.wf := by
  have c6 : Tryd.prog.cellsOf 42 = 6 := by kernel_rfl
  have ci : Tryd.prog.cellsOf 3 = 1 := by kernel_rfl
  have cb : Tryd.prog.cellsOf 4 = 1 := by kernel_rfl
  have cs1 : Tryd.prog.cellsOf 9 = 1 := by kernel_rfl
  have cp : Tryd.prog.cellsOf 38 = 3 := by kernel_rfl
  obtain ⟨y0, y1, y2, y3, k, _, hl, h0, h1, h2, h3⟩ := Joins.trod_struct4 Tryd.underlying42 h
  rw [c6] at hl
  obtain ⟨v0, v1, v2, v3, v4, v5, rfl⟩ := len6 hl
  simp only [ci, cb, cs1, cp] at h0 h1 h2 h3
  obtain ⟨n0, e0, _, w0⟩ := DataW.trod_int Tryd.underlying3 h0
  obtain ⟨f, b, i, e1, w1, w2, w3⟩ := trod_point h1
  obtain ⟨m, e2, _⟩ := DataW.trod_bool Tryd.underlying4 h2
  obtain ⟨s, e3, _⟩ := DataW.trod_string Tryd.underlying9 h3
  simp at e0 e1 e2 e3
  exact ⟨⟨n0, f, b, i, m, s⟩, by rw [e0, e1.1, e1.2.1, e1.2.2, e2, e3]; rfl, wf64_of w0, w1, w2, w3⟩

theorem links_open {H : Type} {enc : TypeId × Value → H} {W : World} {held : Bool} {fuel : Nat} {a : Option Addr} {len cap : Nat} {x : DataW H × List MemPlace}
    (h : DataW.trod enc Tryd.prog W 0 (fun _ => true) held fuel 22 (Value.slice a len cap).cells.toList = some x) :
    ∃ zs : List Ln, zs.length = len ∧ LinksAt W a zs ∧ zs.length ≤ maxLen ∧ zs.length ≤ cap ∧ ∀ x, x ∈ zs → x.wf := by
  rcases Deep.open_slice Tryd.underlying22 h with ⟨hcs, _⟩ | ⟨ad, l, c, m, n, D, Pl, hcs, _, hl, hm, hmm, _, hx⟩
  · simp [Value.cells] at hcs
    obtain ⟨rfl, rfl, rfl⟩ := hcs
    exact ⟨[], rfl, Or.inl rfl, by simp, by simp, by simp⟩
  · simp [Value.cells] at hcs
    obtain ⟨rfl, rfl, rfl⟩ := hcs
    simp only [if_true] at hmm
    subst hmm
    have ce : Tryd.prog.cellsOf 42 = 6 := by kernel_rfl
    have each : ∀ i, i < len → ∃ q : Ln, (∀ k, k < 6 → W.cell? (ad.add (i * 6 + k)) = q.cells[k]?) ∧ q.wf := by
      intro i hi
      obtain ⟨cs', h1, h2⟩ := hx i (by omega)
      rw [ce] at h1
      obtain ⟨_, hlen, hcell⟩ := World.cells?_some h1
      obtain ⟨q, rfl, hw⟩ := trod_link h2
      refine ⟨q, fun k hk => ?_, hw⟩
      have e := hcell k (by omega)
      rw [Deep.add_add] at e
      exact e
    have : Inhabited Ln := ⟨Ln.zero⟩
    obtain ⟨q, hq⟩ := Deep.choose_lt each
    refine ⟨(List.range len).map q, by simp, ?_, by simp; omega, by simp; omega, ?_⟩
    · by_cases h0 : len = 0
      · subst h0; left; rfl
      · right
        obtain ⟨b, off, spot⟩ := ad
        have h00 := (hq 0 (by omega)).1 0 (by omega)
        have hspot : spot = none := by simpa [Addr.add] using World.cell?_spot (h00.trans rfl)
        subst hspot
        refine ⟨b, off, rfl, fun i hi k hk => ?_⟩
        rw [List.length_map, List.length_range] at hi
        have e : ((List.range len).map q).getD i Ln.zero = q i := by
          rw [List.getD_eq_getElem?_getD, List.getElem?_map, List.getElem?_range hi]; rfl
        rw [e]
        have g := (hq i hi).1 k hk
        rw [Go.WideShapes.add_plain] at g
        rw [Nat.add_assoc]
        exact g
    · intro y hy
      rw [List.mem_map] at hy
      obtain ⟨i, hi, rfl⟩ := hy
      exact (hq i (by simpa using hi)).2
end Go.Proofs.YtjofffhfabmfkaaDoor
