/-
  (*refuse.Error).Is.
-/
import Derived.Test.YtjofffhfabmfkaaDoorRLeads
import Derived.Deep.QuietTactic
import Derived.BigQuiet
namespace Go.Proofs.YtjofffhfabmfkaaDoor
open Go.RowKit

theorem falls_one (x : Lk) : Falls [x] := ⟨fun y h => absurd h (by simp), trivial⟩

/-- Is, of no refusal. -/
theorem is_none (q : Nat) (y f b i : Int) (w : World) (hg : Glob w) (hc : ChainAt w [.ref q y f b i]) :
    Calls Tryd.prog 20 #[.pointer none, .iface 33 (.pointer (some ⟨q, 0, none⟩))] w fun e w' => e = .returned (.bool false) ∧ Keeps [] w w' := by
  have hf := hid (first_any [.ref q y f b i] w hg hc (falls_one _))
  clear hc hg
  go_enter Tryd.func20, Tryd.ntmps20
  go_wp2_with (go_at_call 24; refine hf.out.mono ?_; rintro e w' ⟨he, hk⟩; obtain rfl : e = .returned (.tuple #[.pointer (some ⟨q, 0, none⟩), .bool true]) := he; have HK := hid hk; clear hk)
  go_ret
  exact ⟨rfl, HK.out⟩

/-- Is, at a target that is none. -/
theorem is_oth (p q : Nat) (t : ByteArray) (w : World) (hg : Glob w) (hc : ChainAt w [.oth q t]) :
    Calls Tryd.prog 20 #[.pointer (some ⟨p, 0, none⟩), .iface 48 (.pointer (some ⟨q, 0, none⟩))] w fun e w' => e = .returned (.bool false) ∧ Keeps [] w w' := by
  have hf := hid (first_any [.oth q t] w hg hc (falls_one _))
  clear hc hg
  go_enter Tryd.func20, Tryd.ntmps20
  go_wp2_with (go_at_call 24; refine hf.out.mono ?_; rintro e w' ⟨he, hk⟩; obtain rfl : e = .returned (.tuple #[.pointer none, .bool false]) := he; have HK := hid hk; clear hk)
  go_ret
  exact ⟨rfl, HK.out⟩

set_option maxHeartbeats 2000000 in
/-- Is, at a refusal. -/
theorem is_ref (p q : Nat) (y f b i y' f' b' i' : Int) (v : Value) (w : World) (hg : Glob w) (hp : w.heap[p]? = some (.cells #[.int .i64 y, .int .i64 f, .int .i64 b, .int .i64 i, v] 44 (0, 0))) (hc : ChainAt w [.ref q y' f' b' i']) :
    Calls Tryd.prog 20 #[.pointer (some ⟨p, 0, none⟩), .iface 33 (.pointer (some ⟨q, 0, none⟩))] w fun e w' => e = .returned (.bool (decide (y' = 0 ∨ y' = y))) ∧ Keeps [] w w' := by
  have hf := hid (first_any [.ref q y' f' b' i'] w hg hc (falls_one _))
  have HQ := hid hc.1
  have HP := hid hp
  have he := fun w => eq_same ⟨q, 0, none⟩ w
  clear hc hg hp
  by_cases h0 : y' = 0
  · rw [decide_eq_true (Or.inl h0)]
    go_enter Tryd.func20, Tryd.ntmps20
    go_wp2_with (go_at_call 24; refine hf.out.mono ?_; rintro e w' ⟨he, hk⟩; obtain rfl : e = .returned (.tuple #[.pointer (some ⟨q, 0, none⟩), .bool true]) := he; have c0 := pcell ((hk.block q (heap_lt HQ.out) (by simp)).trans HQ.out) 0; have d0 := pcell ((hk.block p (heap_lt HP.out) (by simp)).trans HP.out) 0; have HK := hid hk; clear hk)
    subst h0
    go_quiet (fail)
    go_wp2
    go_ret
    exact ⟨rfl, HK.out.step (Keeps.drewN _ _ _)⟩
  · have hd : decide (y' = 0) = false := by simpa using h0
    by_cases h1 : y' = y
    · rw [decide_eq_true (Or.inr h1)]
      subst h1
      go_enter Tryd.func20, Tryd.ntmps20
      go_wp2_with (go_at_call 24; refine hf.out.mono ?_; rintro e w' ⟨he, hk⟩; obtain rfl : e = .returned (.tuple #[.pointer (some ⟨q, 0, none⟩), .bool true]) := he; have c0 := pcell ((hk.block q (heap_lt HQ.out) (by simp)).trans HQ.out) 0; have d0 := pcell ((hk.block p (heap_lt HP.out) (by simp)).trans HP.out) 0; have HK := hid hk; clear hk)
      go_quiet (fail)
      go_wp2
      go_ret
      exact ⟨rfl, HK.out.step (Keeps.drewN _ _ _)⟩
    · have hd1 : decide (y' = y) = false := by simpa using h1
      rw [decide_eq_false (fun h => h.elim h0 h1)]
      go_enter Tryd.func20, Tryd.ntmps20
      go_wp2_with (go_at_call 24; refine hf.out.mono ?_; rintro e w' ⟨he, hk⟩; obtain rfl : e = .returned (.tuple #[.pointer (some ⟨q, 0, none⟩), .bool true]) := he; have c0 := pcell ((hk.block q (heap_lt HQ.out) (by simp)).trans HQ.out) 0; have d0 := pcell ((hk.block p (heap_lt HP.out) (by simp)).trans HP.out) 0; have HK := hid hk; clear hk)
      go_quiet (fail)
      go_wp2
      go_ret
      refine ⟨?_, HK.out.step (Keeps.drewN _ _ _)⟩
      show Ending.returned (.bool (y' == 0 || y' == y)) = _
      simp [h0, h1]
end Go.Proofs.YtjofffhfabmfkaaDoor
