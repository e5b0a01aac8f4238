/-
  TypesLimits: the law's walk.
-/
import Derived.Test.YtlopddflbhnjdaaDoorTLimW
namespace Go.Proofs.YtlopddflbhnjdaaDoor
open Go.RowKit

set_option maxRecDepth 20000 in
set_option maxHeartbeats 1000000 in
/-- Which or how many is out of range. -/
theorem lim_out (a n : Int) (w : World) (hg : Glob w) (ho : a < 0 ∨ (¬ a < 0 ∧ (9 : Int) < a) ∨ (¬ a < 0 ∧ ¬ (9 : Int) < a ∧ n < 0) ∨ (¬ a < 0 ∧ ¬ (9 : Int) < a ∧ ¬ n < 0 ∧ (40 : Int) < n)) : Calls Tryd.prog 3 #[.int .i64 a, .int .i64 n] w fun e w' => e = .returned (.bool true) ∧ Keeps [] w w' := by
  have HB := hid (begun_any w hg)
  clear hg
  rcases ho with h1 | ⟨h1, h2⟩ | ⟨h1, h2, h3⟩ | ⟨h1, h2, h3, h4⟩
  all_goals (
    go_enter Tryd.func3, Tryd.ntmps3
    go_wp2_with fail
    refine HB.out.mono ?_
    rintro e w1 ⟨rfl, k1⟩
    have K1 := hid k1
    clear HB k1
    go_wp2_with fail
    go_ret
    exact ⟨rfl, K1.out⟩)

theorem tl_walk (a n : Int) (w : World) (hg : Glob w) (_ : b64 a) (_ : b64 n) : Calls Tryd.prog 3 #[.int .i64 a, .int .i64 n] w fun e w' => e = .returned (.bool true) ∧ Keeps [] w w' := by
  by_cases ho : a < 0 ∨ (¬ a < 0 ∧ (9 : Int) < a) ∨ (¬ a < 0 ∧ ¬ (9 : Int) < a ∧ n < 0) ∨ (¬ a < 0 ∧ ¬ (9 : Int) < a ∧ ¬ n < 0 ∧ (40 : Int) < n)
  · exact lim_out a n w hg ho
  · obtain ⟨k, rfl⟩ : ∃ k : Nat, n = (k : Int) := ⟨n.toNat, by omega⟩
    have hk : k ≤ 40 := by omega
    have ha : a = 0 ∨ a = 1 ∨ a = 2 ∨ a = 3 ∨ a = 4 ∨ a = 5 ∨ a = 6 ∨ a = 7 ∨ a = 8 ∨ a = 9 := by omega
    rcases ha with rfl | rfl | rfl | rfl | rfl | rfl | rfl | rfl | rfl | rfl
    · exact lim_0 k hk w hg
    · exact lim_1 k hk w hg
    · exact lim_2 k hk w hg
    · exact lim_3 k hk w hg
    · exact lim_4 k hk w hg
    · exact lim_5 k hk w hg
    · exact lim_6 k hk w hg
    · exact lim_7 k hk w hg
    · exact lim_8 k hk w hg
    · exact lim_9 k hk w hg
end Go.Proofs.YtlopddflbhnjdaaDoor
