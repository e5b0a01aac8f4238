/-
  Says, Nowhere: is an error just that refusal?
-/
import Derived.Test.YtlopddflbhnjdaaDoorTAs
namespace Go.Proofs.YtlopddflbhnjdaaDoor
open Go.RowKit

theorem nowhere_any (w : World) : Calls Tryd.prog 13 #[] w fun e w' => e = .returned (.agg #[.int .i64 (-1), .int .i64 0, .int .i64 0]) ∧ Keeps [] w w' := by
  go_enter Tryd.func13, Tryd.ntmps13
  go_wp2_with fail
  exact bodyPost_ret (v := .agg #[.int .i64 (-1), .int .i64 0, .int .i64 0]) (by simp [results, Tryd.results13, go_sem]) rfl ⟨rfl, Keeps.alloc _ _ _⟩
theorem says_none (f b i : Int) (w : World) : Calls Tryd.prog 11 #[.nilIface, .int .i64 0, .agg #[.int .i64 f, .int .i64 b, .int .i64 i]] w fun e w' => e = .returned (.bool true) ∧ Keeps [] w w' := by
  go_enter Tryd.func11, Tryd.ntmps11
  go_wp2_with fail
  go_ret
  exact ⟨rfl, Keeps.alloc _ _ _⟩
set_option maxHeartbeats 2000000 in
theorem says_now {w : World} {p : Nat} {y : Int} (hg : Glob w) (h : RefAt w p y (-1) 0 0) (hy : y ≠ 0) : Calls Tryd.prog 11 #[errV p, .int .i64 y, .agg #[.int .i64 (-1), .int .i64 0, .int .i64 0]] w fun e w' => e = .returned (.bool true) ∧ Keeps [] w w' := by
  have ka := Keeps.alloc [] w (.cells #[.int .i64 (-1), .int .i64 0, .int .i64 0] 50)
  have hn := heap_new w (.cells #[.int .i64 (-1), .int .i64 0, .int .i64 0] 50)
  have H1 := hid (where_no (hg.quiet ka) (h.quiet ka) (by decide))
  have H2 := hid fun (w' : World) (k : Keeps [] w w') => why_ref (hg.quiet k) (h.quiet k)
  have KA := hid ka
  have HN := hid hn
  have o0 := neb hy
  have hd : decide ((0 : Int) ≤ -1) = false := by decide
  have on : (y != y) = false := by simp
  clear hg h ka hn hy
  go_enter Tryd.func11, Tryd.ntmps11
  go_wp2_with fail
  generalize w.alloc (.cells #[.int .i64 (-1), .int .i64 0, .int .i64 0] 50) = WA at *
  generalize w.heap.size = q at *
  refine H1.out.mono ?_
  rintro e w1 ⟨rfl, k1⟩
  have K1 := hid ((KA.out.quiet k1).quiet (Keeps.alloc [] w1 (.cells #[.int .i64 0, .int .i64 0, .int .i64 0] 50)))
  have HN1 := hid (keep_heap HN.out (k1.quiet (Keeps.alloc [] w1 (.cells #[.int .i64 0, .int .i64 0, .int .i64 0] 50))))
  clear k1
  go_upto_region 6 with fail
  generalize w1.alloc (.cells #[.int .i64 0, .int .i64 0, .int .i64 0] 50) = w2 at *
  go_wp2_with fail
  refine (H2.out _ K1.out).mono ?_
  rintro e w3 ⟨rfl, k3⟩
  have K3 := hid (K1.out.quiet k3)
  have h3 := keep_heap HN1.out k3
  have q0 := hcell h3 0
  clear k3 h3
  go_wp2_with fail
  go_ret
  exact ⟨rfl, K3.out⟩
end Go.Proofs.YtlopddflbhnjdaaDoor
