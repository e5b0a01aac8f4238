/-
  Numbers as values; the type int and its slices.
-/
import Derived.Test.YtjdcphkmaaoehaaBase
import Derived.OwnWalk
import Derived.Deep.QuietTactic
import Derived.BigQuiet
namespace Go.Proofs.Ytjdcphkmaaoehaa
open Go.RowKit

/-- Numbers as values. -/
def ints (l : List Nat) : List Value := l.map fun n : Nat => .int .i64 (n : Int)
theorem zero_int : Try.t3.zero = some (.int .i64 0) := by kernel_rfl
theorem size_int : Try.t3.size = 1 := by kernel_rfl
theorem bytes_int : Try.t3.bytes = 8 := by kernel_rfl
theorem info_int : Try.prog.info? 3 = some Try.t3 := by kernel_rfl
theorem under_ints : Try.prog.underlying 28 = some (.slice 3) := by kernel_rfl
end Go.Proofs.Ytjdcphkmaaoehaa
