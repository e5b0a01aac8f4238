/-
  Contract: slices.Backward at []int, for a range over it.
-/
import Derived.Test.YtngdnjlohmkbiaaDoorGSort
import Derived.RangeFuncNested
import Derived.RangeFuncBound
import Derived.RangeFuncCalls
import Derived.RangeFuncLeaves
import Derived.RangeFuncBox
import Derived.Shelf.Abstract
import Derived.Shelf.RegionOpen
import Derived.WalkKit
import Derived.OwnWalkIn
import Derived.TacticsInMore
import Derived.LoopNIn
import Derived.LoopIn
namespace Go.Proofs.YtngdnjlohmkbiaaDoor
open Go.RowKit Go.Shelf

attribute [local go_sem] Oper.semAt_some

/-- The blocks of L lie as they lay. -/
def KpL (L : List Nat) (W W' : World) : Prop := ∀ k, k ∈ L → W'.heap[k]? = W.heap[k]?
theorem KpL.refl (L : List Nat) (W : World) : KpL L W W := fun _ _ => rfl
theorem KpL.trans {L : List Nat} {A B C : World} (h : KpL L A B) (k : KpL L B C) : KpL L A C := fun x hx => (k x hx).trans (h x hx)
theorem KpL.putObj {L : List Nat} {w : World} (hL : ∀ x, x ∈ L → x < w.heap.size) (W : World) (l : Nat) (o o' : Obj) (hl : w.heap.size ≤ l) (h : W.heap[l]? = some o) (_ : o.isCells = false) (_ : o.isWalk = false) : KpL L W (W.putObj l o') := by
  intro x hx
  have hlt := (Array.getElem?_eq_some_iff.1 h).1
  have := hL x hx
  exact (grownBy_putObj' W l o').block x (by omega) (by simp; omega)

/-- What has come when k rounds are over. -/
def upto {α : Type} (f : Nat → α) (k : Nat) : List α := (List.range k).map f
theorem upto_succ {α : Type} (f : Nat → α) (k : Nat) : upto f (k + 1) = upto f k ++ [f k] := by simp [upto, List.range_succ]
theorem upto_length {α : Type} (f : Nat → α) (k : Nat) : (upto f k).length = k := by simp [upto]

set_option maxHeartbeats 1000000 in
/-- slices.Backward: the slice value is boxed; the function value captures the box. -/
theorem backward_in (F : Fence) (n : Nat) (hF : F.fn 53) (hro : F.round = none) (a : Option Addr) (len cap : Nat) (w : World) :
    CallsIn F n Tryd.prog 53 #[.slice a len cap] w fun e w' => e = .returned (.func (.func 61) #[] #[.pointer (some ⟨w.heap.size, 0, none⟩)]) ∧ w' = w.alloc (.cells #[.slice a len cap] 23) := by
  refine callsIn_of_wp Tryd.func53 rfl hF ?_ hro
  simp only [Tryd.ntmps53, List.size_toArray, List.length_cons, List.length_nil, Nat.reduceAdd, Nat.reduceSub, Array.replicate_succ, Array.replicate_zero, List.push_toArray, List.append_toArray, List.nil_append, List.cons_append]
  gi_wp2
  go_ret
  exact ⟨rfl, rfl⟩

set_option maxRecDepth 100000 in
set_option maxHeartbeats 2000000 in
/-- slices.Backward's closure: for every loop body that keeps the slice's box and its block. -/
theorem backward1_in {α : Type} (F : Fence) (n : Nat) (hF : F.fn 61) (hro : F.round = none) (hn : 1 ≤ n) (l Bs : Nat) (av : Option Addr) (len cap : Nat) (zs : List Nat) (LK : List Nat) (ix nd : α → Nat) (it : Nat → α) (hl : len ≤ 100000)
    (hBL : Bs ∈ LK) (hbL : ∀ b off, av = some ⟨b, off, none⟩ → b ∈ LK) (hit : ∀ k, k < len → ix (it k) = len - 1 - k ∧ nd (it k) = zs.getD (len - 1 - k) 0) (J Jx : List α → World → Prop)
    (hY : ∀ pre x W, J pre W → pre.length < len → YieldAt F (n - 1) Tryd.prog l #[.int .i64 (ix x : Int), .int .i64 (nd x : Int)] W fun e W' =>
      (e = .returned (.bool true) ∧ J (pre ++ [x]) W' ∧ KpL LK W W') ∨ (e = .returned (.bool false) ∧ Jx (pre ++ [x]) W'))
    (W : World) (hBs : W.cell? ⟨Bs, 0, none⟩ = some (.slice av len cap)) (hz : len = 0 ∨ ∃ b off, av = some ⟨b, off, none⟩ ∧ ∀ j, j < len → W.cell? ⟨b, off + j, none⟩ = some (.int .i64 ((zs.getD j 0 : Nat) : Int))) (h0 : J [] W) :
    CallsIn F n Tryd.prog 61 #[.func (.yield l) #[] #[], .pointer (some ⟨Bs, 0, none⟩)] W fun e W' => (∃ v, e = .returned v) ∧
      ((∃ ys, ys = upto it len ∧ J ys W') ∨ (∃ pre, (∃ k, k ≤ len ∧ pre = upto it k) ∧ Jx pre W')) := by
  have HZ := hid hz
  have HIT := hid hit
  have HY := hid hY
  clear hz hit hY
  refine callsIn_of_wp Tryd.func61 rfl hF ?_ hro
  simp only [Tryd.ntmps61, List.size_toArray, List.length_cons, List.length_nil, Nat.reduceAdd, Nat.reduceSub, Array.replicate_succ, Array.replicate_zero, List.push_toArray, List.append_toArray, List.nil_append, List.cons_append]
  gi_wp2
  gi_loopw [3] (fun i wr => ∃ (k : Nat) (r : Int), k ≤ len ∧ i = .int .i64 r ∧ Box (r = (len : Int) - 1 - k) ∧ Box (J (upto it k) wr) ∧ Box (KpL LK W wr))
    (fun i _ => (intOf i + 1).toNat)
  case atStart => exact ⟨0, (len : Int) - 1, Nat.zero_le _, rfl, hid (by omega), hid h0, hid (KpL.refl _ _)⟩
  case round =>
    obtain ⟨k, r, hk, rfl, Hr, HJ, HK⟩ := hrel
    have hBs' : wr.cell? ⟨Bs, 0, none⟩ = some (.slice av len cap) := by
      rw [World.cell?_of_block (w := W) (HK.out Bs hBL)]
      exact hBs
    by_cases hlt : k < len
    · obtain ⟨j, hj⟩ : ∃ j : Nat, len - 1 - k = j := ⟨_, rfl⟩
      obtain rfl : r = (j : Int) := by have := Hr.out; omega
      rcases HZ.out with h | ⟨b, off, rfl, hc⟩
      · omega
      · have hcj : wr.cell? ⟨b, off + j, none⟩ = some (.int .i64 ((zs.getD j 0 : Nat) : Int)) := by
          rw [World.cell?_of_block (w := W) (HK.out b (hbL b off rfl))]
          exact hc j (by omega)
        obtain ⟨fn, tmps, assign, body, hy, hR⟩ := HY.out _ (it k) wr HJ.out (by rw [upto_length]; exact hlt)
        rw [(HIT.out k hlt).1, (HIT.out k hlt).2, hj] at hy
        have hjl : (j : Int) < (len : Int) := by omega
        have hj0 : (0 : Int) ≤ (j : Int) := by omega
        generalize zs.getD j 0 = x at hcj hy
        gi_wp2
        refine hR.mono ?_
        rintro e W3 (⟨rfl, hJ3, hk3⟩ | ⟨rfl, hJx3⟩)
        · have HJ3 := hid hJ3
          have HK3 := hid (HK.out.trans hk3)
          clear hJ3 hk3
          gi_wp2
          go_roundw
          case rel => exact ⟨k + 1, (j : Int) - 1, by omega, rfl, hid (by omega), hid (by rw [upto_succ]; exact HJ3.out), HK3⟩
          case measure => simp [intOf]
        · have HJ3 := hid hJx3
          clear hJx3
          gi_wp2
          refine bodyPost_ret (results_none rfl _ _ _) rfl ?_
          exact ⟨⟨_, rfl⟩, .inr ⟨_, ⟨k + 1, by omega, (upto_succ _ _).symm⟩, HJ3.out⟩⟩
    · obtain rfl : k = len := by omega
      obtain rfl : r = -1 := by have := Hr.out; omega
      gi_wp2
      go_end0
      exact ⟨⟨_, rfl⟩, .inl ⟨_, rfl, HJ.out⟩⟩
end Go.Proofs.YtngdnjlohmkbiaaDoor
