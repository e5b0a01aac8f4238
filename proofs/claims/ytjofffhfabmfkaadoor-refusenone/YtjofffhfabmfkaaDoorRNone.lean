/-
  RefuseNone's walk.
-/
import Derived.Test.YtjofffhfabmfkaaDoorRBegun
import Derived.Test.YtjofffhfabmfkaaDoorRIs
namespace Go.Proofs.YtjofffhfabmfkaaDoor
open Go.RowKit

theorem unwP_nil (w : World) : Calls Tryd.prog 19 #[.pointer none] w fun e w' => e = .returned .nilIface ∧ w' = w := by
  go_enter Tryd.func19, Tryd.ntmps19
  go_wp2
  go_ret
  exact ⟨rfl, rfl⟩

set_option maxHeartbeats 2000000 in
theorem refuseNone_walk (w : World) (hg : Glob w) : Calls Tryd.prog 5 #[] w fun e w' => e = .returned (.bool true) ∧ Keeps [] w w' := by
  go_enter Tryd.func5, Tryd.ntmps5
  go_wp2_with fail
  refine (where_any [] w hg trivial trivial).mono ?_
  rintro e w1 ⟨he, hk1⟩
  obtain rfl : e = .returned (.tuple #[.agg #[.int .i64 0, .int .i64 0, .int .i64 0], .bool false]) := he
  have K1 := hid hk1
  clear hk1
  go_wp2_with fail
  have k2 := Keeps.alloc [] w1 (.cells #[.int .i64 0, .int .i64 0, .int .i64 0] 38)
  have K2 := hid (K1.out.step k2)
  clear k2
  refine (begun_any _ (hg.quiet K2.out)).mono ?_
  rintro e w3 ⟨rfl, hk3⟩
  have K3 := hid (K2.out.step hk3)
  clear hk3
  go_wp2_with fail
  refine (error_nil _).mono ?_
  rintro e w4 ⟨rfl, rfl⟩
  go_wp2_with fail
  refine (unwP_nil _).mono ?_
  rintro e w5 ⟨rfl, rfl⟩
  go_wp2_with fail
  have k6 := Keeps.alloc [] w5 (.cells #[.int .i64 0, .int .i64 0, .int .i64 0, .int .i64 0, .nilIface] 44)
  have K6 := hid (K3.out.step k6)
  clear k6
  refine (is_none w5.heap.size 0 0 0 0 _ (hg.quiet K6.out) ⟨heap_new _ _, trivial⟩).mono ?_
  rintro e w7 ⟨rfl, hk7⟩
  have K7 := hid (K6.out.step hk7)
  clear hk7
  go_wp2_with fail
  go_ret
  exact ⟨rfl, K7.out⟩
end Go.Proofs.YtjofffhfabmfkaaDoor
