/-
  Contract: the statements' own beginning, begun(); and the walk of WorkNone.
-/
import Derived.Test.YtjfemabgbmadfaaWPop
namespace Go.Proofs.Ytjfemabgbmadfaa
open Go.RowKit

theorem ints_new (w : World) (zs : List Int) : IntsAt (w.alloc (.cells (zs.map fun z => Value.int .i64 z).toArray 3)) (some ⟨w.heap.size, 0, none⟩) zs := by
  refine Or.inr ⟨_, _, rfl, fun i hi => ?_⟩
  rw [Nat.zero_add, cell_of_row _ _ i _ _ _ (heap_alloc_new w _)]
  simp [List.getD, List.getElem?_eq_getElem hi]

/-- What a call that keeps to F, all of F younger than w, does to w. -/
theorem Keeps.young {w w1 w2 : World} {F : List Nat} (h : Keeps [] w w1) (k : Keeps F w1 w2) (hF : ∀ x, x ∈ F → w.heap.size ≤ x) : Keeps [] w w2 :=
  h.trans k (fun x hx hlt => by have := hF x hx; omega)
theorem Near.young {w w1 : World} {F F' : List Nat} (h : Keeps [] w w1) (k : Near w1 F F') (hF : ∀ x, x ∈ F → w.heap.size ≤ x) : ∀ x, x ∈ F' → w.heap.size ≤ x := by
  intro x hx
  rcases k x hx with e | e
  · exact hF x e
  · exact Nat.le_trans h.size e

theorem wf5 : wfI 5 := by unfold wfI; decide
theorem wf7 : wfI 7 := by unfold wfI; decide
theorem b1 : (!decide ((5 : Int) ∈ ([] : List Int))) = true := by decide
theorem b2 : (!decide ((7 : Int) ∈ ([5] : List Int))) = true := by decide
theorem b3 : (!decide ((5 : Int) ∈ ([5, 7] : List Int))) = false := by decide
theorem l1 : pushed [] 5 = [5] := by decide
theorem l2 : pushed [5] 7 = [5, 7] := by decide
theorem l3 : pushed [5, 7] 5 = [5, 7] := by decide
theorem p1 : placeOf [1] 0 2 = 1 := by decide
theorem p2 : placeOf [1] 1 1 = 0 := by decide

set_option maxHeartbeats 1000000 in
theorem begun_any (w : World) :
    Calls Try.prog 7 #[] w fun e w' => e = .returned (.bool true) ∧ Keeps [] w w' := by
  go_enter Try.func7, Try.ntmps7
  have HA := hid (new_any (some ⟨w.heap.size, 0, none⟩) 1 1 [1] (w.alloc (.cells #[.int .i64 1] 3)) rfl (ints_new w [1]) (by omega))
  have HK0 := hid (Keeps.alloc [] w (.cells #[.int .i64 1] 3))
  go_wp2_with fail
  refine HA.out.mono ?_
  rintro e w1 ⟨p, F, rfl, hh, hk, hF⟩
  have HK := hid (HK0.out.quiet hk)
  have HF : Box (∀ x, x ∈ F → w.heap.size ≤ x) := hid fun x hx => Nat.le_trans HK0.out.size (hF x hx)
  have HH := hid hh
  clear HA HK0 hh hk hF
  have HA := hid (push_any 5 HH.out wf5 (by simp))
  rw [b1, l1] at HA
  go_wp2_with fail
  refine HA.out.mono ?_
  rintro e w2 ⟨rfl, F2, hh, hk, hn⟩
  have HK2 := hid (HK.out.young hk HF.out)
  have HF2 := hid (hn.young HK.out HF.out)
  have HH2 := hid hh
  clear HA HK HF HH hh hk hn
  have HA := hid (push_any 7 HH2.out wf7 (by simp))
  rw [b2, l2] at HA
  go_wp2_with fail
  refine HA.out.mono ?_
  rintro e w3 ⟨rfl, F3, hh, hk, hn⟩
  have HK3 := hid (HK2.out.young hk HF2.out)
  have HF3 := hid (hn.young HK2.out HF2.out)
  have HH3 := hid hh
  clear HA HK2 HF2 HH2 hh hk hn
  have HA := hid (push_any 5 HH3.out wf5 (by simp))
  rw [b3, l3] at HA
  go_wp2_with fail
  refine HA.out.mono ?_
  rintro e w4 ⟨rfl, F4, hh, hk, hn⟩
  have HK4 := hid (HK3.out.young hk HF3.out)
  have HF4 := hid (hn.young HK3.out HF3.out)
  have HH4 := hid hh
  clear HA HK3 HF3 HH3 hh hk hn
  have HA := hid (pop_any (n := 2) HH4.out rfl (by omega) (by omega))
  rw [p1] at HA
  go_wp2_with fail
  refine HA.out.mono ?_
  rintro e w5 ⟨rfl, hh, hk⟩
  have HK5 := hid (HK4.out.young hk HF4.out)
  have HH5 : Box (Has w5 p F4 [1] [5] 1) := hid hh
  clear HA HK4 HH4 hh hk
  have HA := hid (pop_any (n := 1) HH5.out rfl (by omega) (by omega))
  rw [p2] at HA
  go_wp2_with fail
  refine HA.out.mono ?_
  rintro e w6 ⟨rfl, hh, hk⟩
  have HK6 := hid (HK5.out.young hk HF4.out)
  have HH6 : Box (Has w6 p F4 [1] [] 2) := hid hh
  clear HA HK5 HH5 hh hk
  have HA := hid (pop_empty HH6.out)
  go_wp2_with fail
  refine HA.out.mono ?_
  rintro e w7 ⟨rfl, e7⟩
  obtain rfl := e7.symm
  clear e7 HA
  have HA := hid (len_any HH6.out)
  go_wp2_with fail
  refine HA.out.mono ?_
  rintro e w7 ⟨rfl, e7⟩
  obtain rfl := e7.symm
  clear e7 HA
  have HA := hid (pops_any HH6.out)
  go_wp2_with fail
  refine HA.out.mono ?_
  rintro e w7 ⟨rfl, e7⟩
  obtain rfl := e7.symm
  clear e7 HA
  go_wp2
  go_ret
  exact ⟨rfl, HK6.out⟩

set_option maxHeartbeats 1000000 in
theorem none_any (w : World) :
    Calls Try.prog 4 #[] w fun e w' => e = .returned (.bool true) ∧ Keeps [] w w' := by
  go_enter Try.func4, Try.ntmps4
  go_wp2_with fail
  refine (pop_nil _).mono ?_
  rintro e w7 ⟨rfl, e7⟩
  obtain rfl := e7.symm
  clear e7
  have HA := hid (begun_any w)
  go_wp2_with fail
  refine HA.out.mono ?_
  rintro e w1 ⟨rfl, hk1⟩
  have HK := hid hk1
  clear HA hk1
  go_wp2_with fail
  refine (push_nil _ _).mono ?_
  rintro e w7 ⟨rfl, e7⟩
  obtain rfl := e7.symm
  clear e7
  go_wp2_with fail
  refine (len_nil _).mono ?_
  rintro e w7 ⟨rfl, e7⟩
  obtain rfl := e7.symm
  clear e7
  go_wp2_with fail
  refine (pops_nil _).mono ?_
  rintro e w7 ⟨rfl, e7⟩
  obtain rfl := e7.symm
  clear e7
  go_wp2
  go_ret
  exact ⟨rfl, HK.out⟩
end Go.Proofs.Ytjfemabgbmadfaa
