/-
  Two unions beside each other.
-/
import Derived.Test.YtokoebbghkbliaaUBegun
namespace Go.Proofs.Ytokoebbghkbliaa
open Go.RowKit

/-- Two unions. -/
structure Two (w wr : World) (bu bv n : Nat) (ru rv : Nat → Nat) : Prop where
  u : UAt wr bu n ru
  v : UAt wr bv n rv
  keep : Keeps [] w wr
  lu : w.heap.size ≤ bu
  lv : bu < bv
theorem Two.onU {w wr w1 : World} {bu bv n : Nat} {ru rv r' : Nat → Nat} (h : Two w wr bu bv n ru rv) (hu : UAt w1 bu n r') (hk : Keeps [bu] wr w1) : Two w w1 bu bv n r' rv := by
  have h1 := h.lu
  have h2 := h.lv
  exact ⟨hu, h.v.kept hk (by simp; omega), h.keep.trans hk fun x hx hl => by simp at hx; omega, h1, h2⟩
theorem Two.onV {w wr w1 : World} {bu bv n : Nat} {ru rv r' : Nat → Nat} (h : Two w wr bu bv n ru rv) (hv : UAt w1 bv n r') (hk : Keeps [bv] wr w1) : Two w w1 bu bv n ru r' := by
  have h1 := h.lu
  have h2 := h.lv
  exact ⟨h.u.kept hk (by simp; omega), hv, h.keep.trans hk fun x hx hl => by simp at hx; omega, h1, h2⟩
theorem two_new {w w1 w2 w3 : World} {n : Nat} (k1 : Keeps [] w w1) (hu : UAt w2 w1.heap.size n fun k => k) (k2 : Keeps [] w1 w2) (hv : UAt w3 w2.heap.size n fun k => k) (k3 : Keeps [] w2 w3) : Two w w3 w1.heap.size w2.heap.size n (fun k => k) (fun k => k) :=
  ⟨hu.kept k3 (by simp), hv, (k1.quiet k2).quiet k3, k1.size, hu.lt⟩
theorem Two.quiet {w wr w1 : World} {bu bv n : Nat} {ru rv : Nat → Nat} (h : Two w wr bu bv n ru rv) (hk : Keeps [] wr w1) : Two w w1 bu bv n ru rv :=
  ⟨h.u.kept hk (by simp), h.v.kept hk (by simp), h.keep.quiet hk, h.lu, h.lv⟩

end Go.Proofs.Ytokoebbghkbliaa
