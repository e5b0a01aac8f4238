/-
  RefuseDeep's walk.
-/
import Derived.Test.YtjofffhfabmfkaaDoorRIsTop
import Derived.Test.YtjofffhfabmfkaaDoorRBegun
namespace Go.Proofs.YtjofffhfabmfkaaDoor
open Go.RowKit

/-- k refusals without reason or place, and behind them the one. -/
def Deep (p : Nat) (y f b i : Int) : Nat → List Lk → Prop
  | 0, l => l = [.ref p y f b i]
  | k + 1, l => ∃ q r, l = .ref q 0 (-1) 0 0 :: r ∧ Deep p y f b i k r

theorem Deep.whys {p : Nat} {y f b i : Int} : ∀ {k : Nat} {l : List Lk}, Deep p y f b i k l → Go.Proofs.YtjofffhfabmfkaaDoor.whys l = List.replicate k 0 ++ [y]
  | 0, l, h => by rw [show l = _ from h]; rfl
  | k + 1, l, ⟨q, r, e, h⟩ => by
    rw [e]
    show 0 :: Go.Proofs.YtjofffhfabmfkaaDoor.whys r = _
    rw [h.whys]
    rfl
theorem Deep.len {p : Nat} {y f b i : Int} : ∀ {k : Nat} {l : List Lk}, Deep p y f b i k l → l.length = k + 1
  | 0, l, h => by rw [show l = _ from h]; rfl
  | k + 1, l, ⟨q, r, e, h⟩ => by rw [e, List.length_cons, h.len]
theorem Deep.tail {p : Nat} {y f b i : Int} {k : Nat} {l : List Lk} (h : Deep p y f b i (k + 1) l) : Deep p y f b i k l.tail := by
  obtain ⟨q, r, rfl, h⟩ := h
  exact h
theorem chain_tail {w : World} : ∀ {l : List Lk}, ChainAt w l → ChainAt w l.tail
  | [], h => h
  | _ :: _, h => h.tail
theorem falls_tail : ∀ {l : List Lk}, Falls l → Falls l.tail
  | [], h => h
  | _ :: _, h => h.2

/-- What the walk keeps: the place, which lies in block B; the chain. -/
structure DeepSt (w wr : World) (B p : Nat) (y f b i : Int) (k : Nat) (l : List Lk) : Prop where
  keep : Keeps [] w wr
  place : wr.heap[B]? = some (.cells #[.int .i64 f, .int .i64 b, .int .i64 i] 38 (0, 0))
  chain : ChainAt wr l
  falls : Falls l
  deep : Deep p y f b i k l
theorem DeepSt.quiet {w wr w' : World} {B p : Nat} {y f b i : Int} {k : Nat} {l : List Lk} (h : DeepSt w wr B p y f b i k l) (kk : Keeps [] wr w') : DeepSt w w' B p y f b i k l :=
  ⟨h.keep.step kk, (kk.block B (heap_lt h.place) (by simp)).trans h.place, h.chain.quiet kk, h.falls, h.deep⟩

set_option maxHeartbeats 4000000 in
theorem deep_out (n y f b i : Int) (w : World) (hg : Glob w) (h : n < 0 ∨ (¬ n < 0 ∧ 60 < n) ∨ ((¬ n < 0 ∧ ¬ 60 < n) ∧ y < 1) ∨ ((¬ n < 0 ∧ ¬ 60 < n) ∧ ¬ y < 1 ∧ 7 < y) ∨ ((¬ n < 0 ∧ ¬ 60 < n) ∧ (¬ y < 1 ∧ ¬ 7 < y) ∧ f < 0)) :
    Calls Tryd.prog 6 #[.int .i64 n, .int .i64 y, .agg #[.int .i64 f, .int .i64 b, .int .i64 i]] w fun e w' => e = .returned (.bool true) ∧ Keeps [] w w' := by
  have k1 := Keeps.alloc [] w (.cells #[.int .i64 f, .int .i64 b, .int .i64 i] 38)
  have hb := hid (begun_any _ (hg.quiet k1))
  have K1 := hid k1
  have hn := hid (heap_new w (.cells #[.int .i64 f, .int .i64 b, .int .i64 i] 38))
  clear hg k1
  rcases h with h | ⟨h1, h⟩ | ⟨⟨h1, h2⟩, h⟩ | ⟨⟨h1, h2⟩, h3, h⟩ | ⟨⟨h1, h2⟩, ⟨h3, h4⟩, h⟩
  all_goals
    go_enter Tryd.func6, Tryd.ntmps6
    go_wp2_with (go_at_call 7; refine hb.out.mono ?_; rintro e w' ⟨rfl, hk⟩; have HK := hid (K1.out.step hk); have c0 := pcell ((hk.block w.heap.size (by simp) (by simp)).trans hn.out) 0; clear hk)
    go_ret
    exact ⟨rfl, HK.out⟩
end Go.Proofs.YtjofffhfabmfkaaDoor
