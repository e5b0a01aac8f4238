/-
  Contract: the statements' own Cut.
-/
import Derived.Test.YtcmbhmlpififiaaDoorJoin
namespace Go.Proofs.YtcmbhmlpififiaaDoor
open Go.RowKit

set_option maxHeartbeats 400000 in
theorem cut_short (a : Option Addr) (len cap n : Nat) (w : World) (h : len ≤ n) :
    Calls Tryd.prog 19 #[.slice a len cap, .int .i64 (n : Int)] w fun e w' => e = .returned (.slice a len cap) ∧ w' = w := by
  go_enter Tryd.func19, Tryd.ntmps19
  go_wp2
  go_ret
  exact ⟨rfl, rfl⟩

set_option maxHeartbeats 400000 in
theorem cut_long (b off len cap n : Nat) (w : World) (h : n < len) (hc : len ≤ cap) :
    Calls Tryd.prog 19 #[.slice (some ⟨b, off, none⟩) len cap, .int .i64 (n : Int)] w fun e w' => e = .returned (.slice (some ⟨b, off, none⟩) n cap) ∧ w' = w := by
  go_enter Tryd.func19, Tryd.ntmps19
  go_wp2
  go_ret
  exact ⟨rfl, rfl⟩

/-- Cut: the first n at most. -/
theorem cut_any (a : Option Addr) (cap : Nat) (zs : List Int) (n : Nat) (w : World) (hz : IntsAt w a zs) (hc : zs.length ≤ cap) :
    Calls Tryd.prog 19 #[.slice a zs.length cap, .int .i64 (n : Int)] w fun e w' => e = .returned (.slice a (zs.take n).length cap) ∧ w' = w := by
  by_cases h : zs.length ≤ n
  · rw [List.take_of_length_le h]
    exact cut_short a _ cap n w h
  · have e : (zs.take n).length = n := by rw [List.length_take]; omega
    rw [e]
    rcases hz with rfl | ⟨b, off, rfl, _⟩
    · simp at h
    · exact cut_long b off _ cap n w (by omega) hc

theorem IntsAt.take {w : World} {a : Option Addr} {zs : List Int} (h : IntsAt w a zs) (n : Nat) : IntsAt w a (zs.take n) := by
  rcases h with rfl | ⟨b, off, rfl, hc⟩
  · left; simp
  · right
    refine ⟨b, off, rfl, fun i hi => ?_⟩
    rw [List.length_take] at hi
    rw [hc i (by omega)]
    simp only [List.getD, List.getElem?_take]
    rw [if_pos (by omega)]
end Go.Proofs.YtcmbhmlpififiaaDoor
