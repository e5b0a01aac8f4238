/-
  HeapNone: no heap.
-/
import Derived.Test.YtpllhcifoiahpaaHpBeg
namespace Go.Proofs.Ytpllhcifoiahpaa
open Go.RowKit

set_option maxRecDepth 20000 in
set_option maxHeartbeats 4000000 in
theorem heapNone_walk (w : World) : Calls Try.prog 6 #[] w fun e w' => e = .returned (.bool true) ∧ Keeps [] w w' := by
  go_enter Try.func6, Try.ntmps6
  go_wp2_with fail
  refine (get_nil w 1 0).mono ?_
  rintro e w1 ⟨rfl, k1⟩
  have K1 := hid k1
  clear k1
  go_upto_region 3 with fail
  have K2 := hid (K1.out.quiet (Keeps.alloc [] w1 (.cells #[.int .i64 0, .int .i64 0, .bool false] 29)))
  generalize w1.alloc (.cells #[.int .i64 0, .int .i64 0, .bool false] 29) = w2 at *
  generalize w1.heap.size = vb at *
  clear K1
  go_wp2_with fail
  refine (begun_any w2).mono ?_
  rintro e w3 ⟨rfl, k⟩
  have K3 := hid (K2.out.quiet k)
  clear K2 k
  go_wp2_with fail
  refine (alloc_nil w3 1 _).mono ?_
  rintro e w4 ⟨rfl, k⟩
  have K4 := hid (K3.out.quiet k)
  clear K3 k
  go_wp2_with fail
  refine (set_nil w4 1 0 (0, 0, false)).mono ?_
  rintro e w5 ⟨rfl, k⟩
  have K5 := hid (K4.out.quiet k)
  clear K4 k
  go_wp2_with fail
  refine (free_nil w5 1).mono ?_
  rintro e w6 ⟨rfl, k⟩
  have K6 := hid (K5.out.quiet k)
  clear K5 k
  go_wp2_with fail
  refine (site_no (.inl rfl)).mono ?_
  rintro e w7 ⟨rfl, k⟩
  have K7 := hid (K6.out.quiet k)
  clear K6 k
  go_wp2_with fail
  refine (freed_no (.inl rfl)).mono ?_
  rintro e w8 ⟨rfl, k⟩
  have K8 := hid (K7.out.quiet k)
  clear K7 k
  go_wp2_with fail
  refine (hlen_nil w8).mono ?_
  rintro e w9 ⟨rfl, k⟩
  have K9 := hid (K8.out.quiet k)
  clear K8 k
  go_wp2_with fail
  go_ret
  exact ⟨rfl, K9.out⟩
end Go.Proofs.Ytpllhcifoiahpaa
