/-
  refuse.New, placed, Why, Where; leads and next.
-/
import Derived.Test.YtjofffhfabmfkaaDoorRFirst
namespace Go.Proofs.YtjofffhfabmfkaaDoor
open Go.RowKit Go.Extern.Stop Go.Stop Go.Extern

/-- The first refusal's reason and place. -/
def firstOf : List Lk → Option (Int × Int × Int × Int)
  | [] => none
  | Sum.inl (_, y, f, b, i) :: _ => some (y, f, b, i)
  | Sum.inr (_, _) :: r => firstOf r

theorem first_none : ∀ {l : List Lk}, firstP l = none → firstOf l = none
  | [], _ => rfl
  | Sum.inr (_, _) :: r, h => first_none (l := r) h
theorem first_some : ∀ {l : List Lk} {w : World} {a : Addr}, ChainAt w l → firstP l = some a →
    ∃ p y f b i v, a = ⟨p, 0, none⟩ ∧ firstOf l = some (y, f, b, i) ∧ w.heap[p]? = some (.cells #[.int .i64 y, .int .i64 f, .int .i64 b, .int .i64 i, v] 44 (0, 0))
  | Sum.inl (p, y, f, b, i) :: r, w, a, hc, h => ⟨p, y, f, b, i, headV r, by simpa [firstP] using h.symm, rfl, hc.1⟩
  | Sum.inr (_, _) :: r, w, a, hc, h => first_some (l := r) hc.2 h

/-- refuse.New. -/
theorem new_any (y f b i : Int) (l : List Lk) (w : World) (hc : ChainAt w l) (hF : Falls l) :
    Calls Tryd.prog 21 #[.int .i64 y, .agg #[.int .i64 f, .int .i64 b, .int .i64 i], headV l] w fun e w' =>
      ∃ p, e = .returned (headV (.ref p y f b i :: l)) ∧ ChainAt w' (.ref p y f b i :: l) ∧ Falls (.ref p y f b i :: l) ∧ Keeps [] w w' ∧ w.heap.size ≤ p := by
  have k2 := ((Keeps.refl [] w).step (Keeps.alloc [] w (.cells #[.int .i64 f, .int .i64 b, .int .i64 i] 38))).step (Keeps.alloc [] _ (.cells #[.int .i64 y, .int .i64 f, .int .i64 b, .int .i64 i, headV l] 44))
  have hc2 := hc.quiet k2
  have hn := heap_new (w.alloc (.cells #[.int .i64 f, .int .i64 b, .int .i64 i] 38)) (.cells #[.int .i64 y, .int .i64 f, .int .i64 b, .int .i64 i, headV l] 44)
  have hfin : ∃ p, Ending.returned (.iface 33 (.pointer (some ⟨w.heap.size + 1, 0, none⟩))) = .returned (headV (.ref p y f b i :: l)) ∧ ChainAt ((w.alloc (.cells #[.int .i64 f, .int .i64 b, .int .i64 i] 38)).alloc (.cells #[.int .i64 y, .int .i64 f, .int .i64 b, .int .i64 i, headV l] 44)) (.ref p y f b i :: l) ∧ Falls (.ref p y f b i :: l) ∧ Keeps [] w ((w.alloc (.cells #[.int .i64 f, .int .i64 b, .int .i64 i] 38)).alloc (.cells #[.int .i64 y, .int .i64 f, .int .i64 b, .int .i64 i, headV l] 44)) ∧ w.heap.size ≤ p := by
    refine ⟨w.heap.size + 1, rfl, ⟨?_, hc2⟩, ⟨fun z hz => ?_, hF⟩, k2, by omega⟩
    · simpa using hn
    · have := hc.lt z hz
      show z.at < w.heap.size + 1
      omega
  clear hc hF hc2 hn k2
  have H := hid hfin
  clear hfin
  rcases headV_cases l with e2 | ⟨T, q, e2⟩
  · rw [e2] at H ⊢
    clear e2
    go_enter Tryd.func21, Tryd.ntmps21
    go_wp2
    go_ret
    exact H.out
  · rw [e2] at H ⊢
    clear e2
    go_enter Tryd.func21, Tryd.ntmps21
    go_wp2
    go_ret
    exact H.out

theorem placed_nil (w : World) : Calls Tryd.prog 30 #[.pointer none] w fun e w' => e = .returned (.bool false) ∧ w' = w := by
  go_enter Tryd.func30, Tryd.ntmps30
  go_wp2
  go_ret
  exact ⟨rfl, rfl⟩
theorem placed_any (p : Nat) (y f b i : Int) (v : Value) (w : World) (h : w.heap[p]? = some (.cells #[.int .i64 y, .int .i64 f, .int .i64 b, .int .i64 i, v] 44 (0, 0))) :
    Calls Tryd.prog 30 #[.pointer (some ⟨p, 0, none⟩)] w fun e w' => e = .returned (.bool (decide (0 ≤ f))) ∧ w' = w := by
  have h0 : w.cell? ⟨p, 0, none⟩ = some (.int .i64 y) := pcell h 0
  have h1 : w.cell? ⟨p, 1, none⟩ = some (.int .i64 f) := pcell h 1
  have hd : ∀ w, (binOp .geq 3 (.int .i64 f) (.int .i64 0)).run Tryd.prog w = .ok (.bool (decide (0 ≤ f))) w := fun w => by kernel_rfl
  clear h
  go_enter Tryd.func30, Tryd.ntmps30
  go_wp2
  go_ret
  exact ⟨rfl, rfl⟩

/-- refuse.Why. -/
theorem why_any (l : List Lk) (w : World) (hg : Glob w) (hc : ChainAt w l) (hF : Falls l) :
    Calls Tryd.prog 9 #[headV l] w fun e w' => e = .returned (.int .i64 ((firstOf l).map (·.1) |>.getD 0)) ∧ Keeps [] w w' := by
  have hf := hid (first_any l w hg hc hF)
  cases hp : firstP l with
  | none =>
    have ho := first_none hp
    rw [ho]
    rw [hp] at hf
    clear hp ho hg hc hF
    generalize headV l = v at *
    go_enter Tryd.func9, Tryd.ntmps9
    go_wp2_with (go_at_call 24; refine hf.out.mono ?_; rintro e w' ⟨rfl, hk⟩)
    go_ret
    exact ⟨rfl, hk⟩
  | some a =>
    obtain ⟨p, y, f, b, i, v, rfl, ho, hh⟩ := first_some hc hp
    rw [ho]
    rw [hp] at hf
    have HH := hid hh
    clear hp ho hg hc hF hh
    generalize headV l = v at *
    go_enter Tryd.func9, Tryd.ntmps9
    go_wp2_with (go_at_call 24; refine hf.out.mono ?_; rintro e w' ⟨rfl, hk⟩; have c0 := pcell ((hk.block p (heap_lt HH.out) (by simp)).trans HH.out) 0; have HK := hid hk; clear hk)
    go_ret
    exact ⟨rfl, HK.out⟩
end Go.Proofs.YtjofffhfabmfkaaDoor
