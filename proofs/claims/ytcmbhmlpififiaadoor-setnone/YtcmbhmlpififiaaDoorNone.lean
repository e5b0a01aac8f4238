/-
  The statement SetNone: its walk.
-/
import Derived.Test.YtcmbhmlpififiaaDoorJoin
namespace Go.Proofs.YtcmbhmlpififiaaDoor
open Go.RowKit

def n1 : Nat → Bool := ofI [1]
theorem none_less : both lessB none_ n1 = none_ := by funext n; simp [both, lessB, none_]
theorem none_meet : both and none_ n1 = none_ := by funext n; simp [both, none_]
theorem none_join : both or n1 none_ = n1 := by funext n; simp [both, none_]
theorem none_eq : eqI none_ n1 = false := by decide +kernel
theorem none_len : (elems n1).length = 1 := by decide +kernel
theorem none_elems : elems none_ = [] := elems_none

set_option maxHeartbeats 2000000 in
theorem none_any (w : World) (hT : TabAt w) :
    Calls Tryd.prog 5 #[] w fun e w' => e = .returned (.bool true) ∧ Keeps [] w w' := by
  have HT := hid hT
  clear hT
  have hi1 := hid (ints_new w [1])
  have hk1 : Keeps [] w (w.alloc (.cells (([1] : List Int).map fun z => Value.int .i64 z).toArray 3)) := Keeps.alloc _ _ _
  have f1 : Fit n1 := fit_ofI _
  go_enter Tryd.func5, Tryd.ntmps5
  go_wp2_with fail
  refine (of_any (some ⟨w.heap.size, 0, none⟩) 1 [1] _ hi1.out (by simp)).mono ?_
  rintro e w2 ⟨rfl, hs2, hk2⟩
  have hk2' : Keeps [] w w2 := hk1.quiet hk2
  have hq2 : SetAt w2 (w.heap.size + 1) n1 := by have := hs2; simp at this; exact this
  have hQ2 := hid hq2
  clear hi1 hk1 hk2 hs2 hq2
  have hle : w.heap.size ≤ w.heap.size + 1 := by omega
  have HA := hid (begun_any w2 (HT.out.kept hk2' (by simp)))
  go_wp2_with fail
  refine HA.out.mono ?_
  rintro e w3 ⟨rfl, hk3⟩
  have hQ3 := hid (hQ2.out.kept hk3 (by simp))
  have hK3 := hk2'.quiet hk3
  clear HA hk3 hQ2 hk2'
  have HA := hid (add_nil 1 w3)
  go_wp2_with fail
  refine (HA.out).mono ?_
  rintro e w4 ⟨rfl, hw4⟩
  obtain rfl := hw4.symm
  clear hw4 HA
  have HA := hid (rem_nil 1 w3)
  go_wp2_with fail
  refine HA.out.mono ?_
  rintro e w5 ⟨rfl, m5, rfl⟩
  have hQ5 := hid (hQ3.out.drewN m5)
  have hK5 := hK3.quiet (Keeps.drewN [] _ m5)
  clear HA hQ3 hK3
  generalize w3.drewN m5 = w5 at hQ5 hK5 ⊢
  have HA := hid (has_nil 1 w5)
  go_wp2_with fail
  refine (HA.out).mono ?_
  rintro e w6 ⟨rfl, hw6⟩
  obtain rfl := hw6.symm
  clear hw6 HA
  have HA := hid (len_nil w5)
  go_wp2_with fail
  refine (HA.out).mono ?_
  rintro e w7 ⟨rfl, hw7⟩
  obtain rfl := hw7.symm
  clear hw7 HA
  have HA := hid (all_nil w5)
  go_wp2_with fail
  refine HA.out.mono ?_
  rintro e w8 ⟨v8, rfl, hown8, hk8⟩
  obtain ⟨a8, c8, rfl, _, _⟩ := ownsRow_ints (l := []) hown8
  rw [List.length_nil]
  have hQ8 := hid (hQ5.out.kept hk8 (by simp))
  have hK8 := hK5.quiet hk8
  clear HA hown8 hk8 hQ5 hK5
  have HA := hid (join_nil (.pointer (some ⟨w.heap.size + 1, 0, none⟩)) w8)
  go_wp2_with fail
  refine (HA.out).mono ?_
  rintro e w9 ⟨rfl, hw9⟩
  obtain rfl := hw9.symm
  clear hw9 HA
  have HA := hid (less_or none (some (w.heap.size + 1)) none_ n1 w8 rfl hQ8.out fit_none f1)
  rw [none_less] at HA
  go_wp2_with fail
  refine HA.out.mono ?_
  rintro e w10 ⟨rfl, hs10, hk10⟩
  generalize w8.heap.size = p10 at hs10 ⊢
  have hS10 := hid hs10
  have hQ10 := hid (hQ8.out.kept hk10 (by simp))
  have hK10 := hK8.quiet hk10
  clear HA hs10 hk10 hQ8 hK8
  have HB := hid (len_any p10 none_ w10 hS10.out fit_none)
  rw [none_elems] at HB
  go_wp2_with fail
  refine (HB.out).mono ?_
  rintro e w11 ⟨rfl, hw11⟩
  obtain rfl := hw11.symm
  clear hw11 HB
  have HA := hid (meet_or none (some (w.heap.size + 1)) none_ n1 w10 rfl hQ10.out fit_none f1)
  rw [none_meet] at HA
  go_wp2_with fail
  refine HA.out.mono ?_
  rintro e w12 ⟨rfl, hs12, hk12⟩
  generalize w10.heap.size = p12 at hs12 ⊢
  have hS12 := hid hs12
  have hQ12 := hid (hQ10.out.kept hk12 (by simp))
  have hK12 := hK10.quiet hk12
  clear HA hs12 hk12 hQ10 hK10
  have HB := hid (len_any p12 none_ w12 hS12.out fit_none)
  rw [none_elems] at HB
  go_wp2_with fail
  refine (HB.out).mono ?_
  rintro e w13 ⟨rfl, hw13⟩
  obtain rfl := hw13.symm
  clear hw13 HB
  have HA := hid (seq_or none (some (w.heap.size + 1)) none_ n1 w12 rfl hQ12.out fit_none f1)
  rw [none_eq] at HA
  go_wp2_with fail
  refine (HA.out).mono ?_
  rintro e w14 ⟨rfl, hw14⟩
  obtain rfl := hw14.symm
  clear hw14 HA
  have HA := hid (in_or none (some (w.heap.size + 1)) none_ n1 w12 rfl hQ12.out fit_none)
  rw [subI_none] at HA
  go_wp2_with fail
  refine (HA.out).mono ?_
  rintro e w15 ⟨rfl, hw15⟩
  obtain rfl := hw15.symm
  clear hw15 HA
  have HA := hid (copy_nil w12)
  go_wp2_with fail
  refine HA.out.mono ?_
  rintro e w16 ⟨rfl, hs16, hk16⟩
  generalize w12.heap.size = p16 at hs16 ⊢
  have hS16 := hid hs16
  have hQ16 := hid (hQ12.out.kept hk16 (by simp))
  have hK16 := hK12.quiet hk16
  clear HA hs16 hk16 hQ12 hK12
  have HB := hid (len_any p16 none_ w16 hS16.out fit_none)
  rw [none_elems] at HB
  go_wp2_with fail
  refine (HB.out).mono ?_
  rintro e w17 ⟨rfl, hw17⟩
  obtain rfl := hw17.symm
  clear hw17 HB
  have HA := hid (first_nil 0 w16)
  go_wp2_with fail
  refine (HA.out).mono ?_
  rintro e w18 ⟨rfl, hw18⟩
  obtain rfl := hw18.symm
  clear hw18 HA
  have HA := hid (join_any (w.heap.size + 1) none n1 none_ w16 hQ16.out rfl f1 fit_none)
  rw [subI_none, none_join] at HA
  go_wp2_with fail
  refine HA.out.mono ?_
  rintro e w19 ⟨rfl, hq19, hk19⟩
  have hK19 : Keeps [] w w19 := hK16.trans hk19 fun x hx hl => by simp at hx; omega
  have hQ19 := hid hq19
  clear HA hk19 hq19 hK16 hQ16
  have HA := hid (len_any (w.heap.size + 1) n1 w19 hQ19.out f1)
  rw [none_len] at HA
  go_wp2_with fail
  refine (HA.out).mono ?_
  rintro e w20 ⟨rfl, hw20⟩
  obtain rfl := hw20.symm
  clear hw20 HA
  go_wp2
  go_ret
  exact ⟨rfl, hK19⟩
end Go.Proofs.YtcmbhmlpififiaaDoor
