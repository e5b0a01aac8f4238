/-
  Numbers as values; the type int and its slices.
-/
import Derived.Test.YtlopddflbhnjdaaDoorBase
import Derived.OwnWalk
import Derived.Deep.QuietTactic
import Derived.BigQuiet
namespace Go.Proofs.YtlopddflbhnjdaaDoor
open Go.RowKit

/-- Numbers as values. -/
def ints (l : List Nat) : List Value := l.map fun n : Nat => .int .i64 (n : Int)
theorem zero_int : Tryd.t3.zero = some (.int .i64 0) := by kernel_rfl
theorem size_int : Tryd.t3.size = 1 := by kernel_rfl
theorem bytes_int : Tryd.t3.bytes = 8 := by kernel_rfl
theorem info_int : Tryd.prog.info? 3 = some Tryd.t3 := by kernel_rfl
theorem under_ints : Tryd.prog.underlying 37 = some (.slice 3) := by kernel_rfl
end Go.Proofs.YtlopddflbhnjdaaDoor
