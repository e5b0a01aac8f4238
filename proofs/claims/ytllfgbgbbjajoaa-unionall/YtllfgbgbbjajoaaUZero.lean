/-
  The zero value of a union and of its array.
-/
import Derived.Test.YtllfgbgbbjajoaaUMem
namespace Go.Proofs.Ytllfgbgbbjajoaa
open Go.RowKit

set_option maxRecDepth 100000 in
theorem zero_union_raw (w : World) : (zeroValue 37).run Try.prog w = .ok (.agg (Array.replicate 5002 (.int .i64 0))) w := by kernel_rfl
theorem zero_union (w : World) : (zeroValue 37).run Try.prog w = .ok (.agg (urow 0 0 fun _ => 0)) w := by rw [zero_row]; exact zero_union_raw w
set_option maxRecDepth 100000 in
theorem zero_arr_raw (w : World) : (zeroValue 35).run Try.prog w = .ok (.agg (Array.replicate 5000 (.int .i64 0))) w := by kernel_rfl
end Go.Proofs.Ytllfgbgbbjajoaa
