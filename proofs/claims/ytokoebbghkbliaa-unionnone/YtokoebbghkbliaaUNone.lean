/-
  The statement UnionNone: its walk.
-/
import Derived.Test.YtokoebbghkbliaaUBegun
namespace Go.Proofs.Ytokoebbghkbliaa
open Go.RowKit

theorem leads_alone_len (n : Nat) : (leads n fun k => k).length = n := by rw [leads_alone, List.length_range]

set_option maxHeartbeats 1000000 in
theorem none_any (w : World) :
    Calls Try.prog 5 #[] w fun e w' => e = .returned (.bool true) ∧ Keeps [] w w' := by
  go_enter Try.func5, Try.ntmps5
  have HA := hid (begun_any w)
  go_wp2_with fail
  refine HA.out.mono ?_
  rintro e w1 ⟨rfl, hk1⟩
  clear HA
  go_wp2_with fail
  refine (find_nil _ _).mono ?_
  rintro e w2 ⟨rfl, hw2⟩
  obtain rfl := hw2.symm
  clear hw2
  go_wp2_with fail
  refine (join_nil _ _ _).mono ?_
  rintro e w2 ⟨rfl, hw2⟩
  obtain rfl := hw2.symm
  clear hw2
  go_wp2_with fail
  refine (same_nil _ _ _).mono ?_
  rintro e w2 ⟨rfl, hw2⟩
  obtain rfl := hw2.symm
  clear hw2
  go_wp2_with fail
  refine (groups_nil _).mono ?_
  rintro e w2 ⟨rfl, hw2⟩
  obtain rfl := hw2.symm
  clear hw2
  go_wp2_with fail
  refine (ulen_nil _).mono ?_
  rintro e w2 ⟨rfl, hw2⟩
  obtain rfl := hw2.symm
  clear hw2
  have HA := hid (new_raw (-5) 0 w1 (by omega))
  go_wp2_with fail
  refine HA.out.mono ?_
  rintro e w2 ⟨rfl, hu2, hk2⟩
  have hK2 := hk1.quiet hk2
  generalize w1.heap.size = b2 at hu2 ⊢
  have HB := hid (ulen_any b2 0 (fun k => k) w2 hu2)
  rw [leads_alone_len] at HB
  clear HA hk1 hk2 hu2
  go_wp2_with fail
  refine HB.out.mono ?_
  rintro e w3 ⟨rfl, hw3⟩
  obtain rfl := hw3.symm
  clear hw3 HB
  have HA := hid (new_raw 9999 5000 w2 (by omega))
  go_wp2_with fail
  refine HA.out.mono ?_
  rintro e w3 ⟨rfl, hu3, hk3⟩
  have hK3 := hK2.quiet hk3
  generalize w2.heap.size = b3 at hu3 ⊢
  have HB := hid (ulen_any b3 5000 (fun k => k) w3 hu3)
  rw [leads_alone_len] at HB
  clear HA hK2 hk3 hu3
  go_wp2_with fail
  refine HB.out.mono ?_
  rintro e w4 ⟨rfl, hw4⟩
  obtain rfl := hw4.symm
  clear hw4 HB
  go_wp2
  go_ret
  exact ⟨rfl, hK3⟩
end Go.Proofs.Ytokoebbghkbliaa
