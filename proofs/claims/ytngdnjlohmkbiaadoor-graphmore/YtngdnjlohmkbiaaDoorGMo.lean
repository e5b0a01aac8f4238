/-
  Two graphs in their variables, the second of which grows.
-/
import Derived.Test.YtngdnjlohmkbiaaDoorGMoreG
namespace Go.Proofs.YtngdnjlohmkbiaaDoor
open Go.RowKit

/-- Two graphs in their variables; the second's lists may grow. -/
structure MO (w wz : World) (B p bx bh p3 N : Nat) (vs : Nat → Value) (L : Nat → List Nat) (g : List (List Nat)) : Prop where
  gr : GAt wz B (some ⟨p, 0, none⟩) g
  ta : TwoAt wz bx (.int .i64 (N : Int)) (.slice (some ⟨p, 0, none⟩) N N)
  tb : TwoAt wz bh (.int .i64 (N : Int)) (.slice (some ⟨p3, 0, none⟩) N N)
  own : OwnL wz B p3 N vs L
  keep : Keeps [] w wz
  base : w.heap.size ≤ B
theorem MO.quiet {w wz wy : World} {B p bx bh p3 N : Nat} {vs : Nat → Value} {L : Nat → List Nat} {g : List (List Nat)} (h : MO w wz B p bx bh p3 N vs L g) (k : Keeps [] wz wy) : MO w wy B p bx bh p3 N vs L g :=
  ⟨h.gr.quiet k, h.ta.kept k (by simp), h.tb.kept k (by simp), h.own.quiet k, h.keep.quiet k, h.base⟩
structure MOG (w w5 : World) (B p bx bh p3 N x : Nat) (v' : Value) (vs : Nat → Value) (L : Nat → List Nat) (g : List (List Nat)) (j : Nat) : Prop where
  cell : w5.cell? ⟨p3, x, none⟩ = some (vs x)
  frozen : w5.frozen? ⟨p3, x, none⟩ = false
  head : w5.cell? ⟨bh, 1, none⟩ = some (.slice (some ⟨p3, 0, none⟩) N N)
  md : MO w (w5.setCell ⟨p3, x, none⟩ v') B p bx bh p3 N (fun i => if i = x then v' else vs i) (fun i => if i = x then L x ++ [j] else L i) g
theorem MO.grow {w wz wa w5 : World} {B p bx bh p3 N : Nat} {vs : Nat → Value} {L : Nat → List Nat} {g : List (List Nat)} (h : MO w wz B p bx bh p3 N vs L g) (ha : Keeps [] wz wa) {x : Nat} (hx : x < N) {v' : Value} {j : Nat}
    (ho : w5.ownsRow B 3 1 v' ((L x).length + 1) (ints (L x) ++ [.int .i64 (j : Int)])) (hg : wa.grownBy w5 (vs x).ownBlock) (hat : v'.ownBlock = (vs x).ownBlock ∨ v'.ownBlock = some wa.heap.size) : MOG w w5 B p bx bh p3 N x v' vs L g j := by
  have hkeep : Keeps (vs x).ownBlock.toList wa w5 := Keeps.grown _ hg (fun y hy => by rw [hy]; simp)
  have h2 := h.quiet ha
  have hlow : ∀ y, y ∈ (vs x).ownBlock.toList → B ≤ y := own_new (h2.own.inner x hx)
  have hout : RowAt w5 B p3 N 23 vs := h2.own.outer.kept hkeep (fun hx' => h2.own.ne hx (by simpa using hx'))
  have htb := h2.tb.kept hkeep (fun hx' => two_ne_own h2.tb (h2.own.inner x hx) (by simpa using hx'))
  have hta := h2.ta.kept hkeep (fun hx' => two_ne_own h2.ta (h2.own.inner x hx) (by simpa using hx'))
  have hgr := h2.gr.kept hkeep hlow
  have ks : Keeps [p3] w5 (w5.setCell ⟨p3, x, none⟩ v') := Keeps.setCell [p3] _ _ _ (by simp)
  refine ⟨hout.cell hx, hout.frozen x, htb.c1, hgr.kept ks (fun y hy => by have := hout.lt; simp at hy; omega), hta.kept ks (by simp; exact two_ne_row hta hout), htb.kept ks (by simp; exact two_ne_row htb hout), h.own.put ha hx (l' := L x ++ [j]) ?_ hg hat, ?_, h.base⟩
  · rw [List.length_append, show ints (L x ++ [j]) = ints (L x) ++ [.int .i64 (j : Int)] from by simp [ints]]
    exact ho
  · exact (h2.keep.fresh hkeep (fun y hy => Nat.le_trans h.base (hlow y hy))).fresh ks (fun y hy => by have := hout.lt; have := h.base; simp at hy; omega)

theorem size_drew (w : World) : w.drew.heap.size = w.heap.size := rfl
theorem litc (w : World) (b : Nat) (v : Value) (t : TypeId) (hb : b = w.heap.size) : (w.alloc (.cells #[v] t)).cell? ⟨b, 0, none⟩ = some v := by
  subst hb
  exact cell_one_new w v t 0 v rfl
theorem litc_past {w : World} {ad : Addr} {v : Value} {o : Obj} (h : w.cell? ad = some v) : (w.alloc o).cell? ad = some v :=
  ((Keeps.alloc [] w o).cell (p := ad) (block_lt_of_cell h) (by simp)).trans h
theorem litc_drew {w : World} {ad : Addr} {v : Value} (h : w.cell? ad = some v) : w.drew.cell? ad = some v := h
theorem one_in {w : World} {b : Nat} {x : Int} (h : w.cell? ⟨b, 0, none⟩ = some (.int .i64 x)) : InAt w w.heap.size (some ⟨b, 0, none⟩) [x] :=
  .inr ⟨b, 0, rfl, block_lt_of_cell h, fun i hi => by
    have : i = 0 := by simp at hi; exact hi
    subst this
    exact h⟩

end Go.Proofs.YtngdnjlohmkbiaaDoor
