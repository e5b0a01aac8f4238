/-
  Contract: the statements' own beginning, begun().
-/
import Derived.Test.YtcmbhmlpififiaaDoorRef
namespace Go.Proofs.YtcmbhmlpififiaaDoor
open Go.RowKit

def q0 : Nat → Bool := ofI [5, 3, 5, -1]
def q1 : Nat → Bool := insI q0 9
def q2 : Nat → Bool := insI q1 9
def q3 : Nat → Bool := delI q2 3

theorem begun_add1 : (decide ((0 : Int) ≤ 9 ∧ (9 : Int) < 5000) && !hasI q0 9) = true := by decide
theorem begun_add2 : (decide ((0 : Int) ≤ 9 ∧ (9 : Int) < 5000) && !hasI q1 9) = false := by decide
theorem begun_elems : elems q2 = [3, 5, 9] := by decide +kernel
theorem begun_has : hasI q2 3 = true := by decide
theorem begun_first : firstI q2 4 = 5 := by decide +kernel
theorem begun_rem2 : hasI q3 3 = false := by decide

theorem ints_new (w : World) (zs : List Int) : IntsAt (w.alloc (.cells (zs.map fun z => Value.int .i64 z).toArray 3)) (some ⟨w.heap.size, 0, none⟩) zs := by
  refine Or.inr ⟨_, _, rfl, fun i hi => ?_⟩
  rw [Nat.zero_add, cell_of_row _ _ i _ _ _ (heap_alloc_new w _)]
  simp [List.getD, List.getElem?_eq_getElem hi]

set_option maxHeartbeats 1000000 in
theorem begun_any (w : World) (hT : TabAt w) :
    Calls Tryd.prog 9 #[] w fun e w' => e = .returned (.bool true) ∧ Keeps [] w w' := by
  have HT := hid hT
  clear hT
  have hi1 := hid (ints_new w [5, 3, 5, -1])
  have hk1 : Keeps [] w (w.alloc (.cells (([5, 3, 5, -1] : List Int).map fun z => Value.int .i64 z).toArray 3)) := Keeps.alloc _ _ _
  go_enter Tryd.func9, Tryd.ntmps9
  go_wp2_with fail
  refine (of_any (some ⟨w.heap.size, 0, none⟩) 4 [5, 3, 5, -1] _ hi1.out (by simp)).mono ?_
  rintro e w2 ⟨rfl, hs2, hk2⟩
  have hk2' : Keeps [] w w2 := hk1.quiet hk2
  have hq0 : SetAt w2 (w.heap.size + 1) q0 := by have := hs2; simp at this; exact this
  have hsz : w.heap.size + 1 < w2.heap.size := hq0.lt
  clear hi1 hk1 hk2 hs2
  have HA := hid (add_any (w.heap.size + 1) q0 9 w2 hq0 (fit_ofI _))
  rw [begun_add1] at HA
  clear hq0
  go_wp2_with fail
  refine HA.out.mono ?_
  rintro e w3 ⟨rfl, hq1, hk3⟩
  have hk3' : Keeps [] w w3 := hk2'.trans hk3 fun x hx hl => by simp at hx; omega
  have hsz3 : w.heap.size + 1 < w3.heap.size := hq1.lt
  have f1 : Fit q1 := (fit_ofI _).ins 9
  have HB := hid (add_any (w.heap.size + 1) q1 9 w3 hq1 f1)
  rw [begun_add2] at HB
  clear hq1 HA hk3 hsz hk2'
  go_wp2_with fail
  refine HB.out.mono ?_
  rintro e w4 ⟨rfl, hq2, hk4⟩
  have hk4' : Keeps [] w w4 := hk3'.trans hk4 fun x hx hl => by simp at hx; omega
  have hsz4 : w.heap.size + 1 < w4.heap.size := hq2.lt
  have f2 : Fit q2 := f1.ins 9
  have hQ2 := hid hq2
  have hT4 := HT.out.kept hk4' (by simp)
  have HC := hid (all_any (w.heap.size + 1) q2 w4 hq2 f2 hT4)
  clear hq2 HB hk4 hsz3 hk3' hT4
  go_wp2_with fail
  refine HC.out.mono ?_
  rintro e w5 ⟨v, rfl, hown, hk5⟩
  obtain ⟨a5, c5, rfl, hi5, hb5⟩ := ownsRow_ints hown
  rw [begun_elems] at hi5
  have hlen : (elems q2).length = 3 := by rw [begun_elems]; rfl
  rw [hlen]
  have hk5' : Keeps [] w w5 := hk4'.quiet hk5
  have hQ5 := hid (hQ2.out.kept hk5 (by simp))
  have hI5 := hid hi5
  clear hown hi5 hb5 hlen HC hQ2 hk5 hk4'
  have hi6 := hid (ints_new w5 [3, 5, 9])
  have hk6 : Keeps [] w5 (w5.alloc (.cells (([3, 5, 9] : List Int).map fun z => Value.int .i64 z).toArray 3)) := Keeps.alloc _ _ _
  have hi5' := hid (hI5.out.kept hk6 (fun _ _ _ => by simp))
  have hQ6 := hid (hQ5.out.kept hk6 (by simp))
  have hk6' : Keeps [] w (w5.alloc (.cells (([3, 5, 9] : List Int).map fun z => Value.int .i64 z).toArray 3)) := hk5'.quiet hk6
  clear hI5 hQ5 hk5' hk6
  have HD := hid (eq_any a5 (some ⟨w5.heap.size, 0, none⟩) c5 3 ([3, 5, 9].map fun n : Nat => (n : Int)) [3, 5, 9] _ hi5'.out hi6.out (by simp))
  have hdec : decide (([3, 5, 9].map fun n : Nat => (n : Int)) = ([3, 5, 9] : List Int)) = true := by decide
  rw [hdec] at HD
  clear hdec hi6 hi5'
  go_wp2_with fail
  refine HD.out.mono ?_
  rintro e w7 ⟨rfl, m7, rfl⟩
  have hQ7 := hid (hQ6.out.drewN m7)
  have hk7 := hk6'.quiet (Keeps.drewN [] _ m7)
  clear hQ6 hk6' HD
  generalize (w5.alloc (Obj.cells (List.map (fun z => Value.int IntKind.i64 z) ([3, 5, 9] : List Int)).toArray 3)).drewN m7 = w7 at hQ7 hk7 ⊢
  have HE := hid (has_any (w.heap.size + 1) q2 3 w7 hQ7.out f2)
  rw [begun_has] at HE
  go_wp2_with fail
  refine HE.out.mono ?_
  rintro e w8 ⟨rfl, m8, rfl⟩
  have hQ8 := hid (hQ7.out.drewN m8)
  have hk8 := hk7.quiet (Keeps.drewN [] _ m8)
  clear hQ7 hk7 HE
  generalize w7.drewN m8 = w8 at hQ8 hk8 ⊢
  have HF := hid (len_any (w.heap.size + 1) q2 w8 hQ8.out f2)
  rw [begun_elems] at HF
  go_wp2_with fail
  refine HF.out.mono ?_
  rintro e w9 ⟨rfl, hw9⟩
  obtain rfl := hw9.symm
  clear hw9 HF
  have HG := hid (first_any (w.heap.size + 1) q2 4 w8 hQ8.out f2 (HT.out.kept hk8 (by simp)))
  rw [begun_first] at HG
  go_wp2_with fail
  refine HG.out.mono ?_
  rintro e w10 ⟨rfl, m10, rfl⟩
  have hQ10 := hid (hQ8.out.drewN m10)
  have hk10 := hk8.quiet (Keeps.drewN [] _ m10)
  clear hQ8 hk8 HG
  generalize w8.drewN m10 = w10 at hQ10 hk10 ⊢
  have HH := hid (rem_any (w.heap.size + 1) q2 3 w10 hQ10.out f2)
  rw [begun_has] at HH
  clear hQ10
  go_wp2_with fail
  refine HH.out.mono ?_
  rintro e w11 ⟨rfl, hq11, hk11⟩
  have hk11' : Keeps [] w w11 := hk10.trans hk11 fun x hx hl => by simp at hx; omega
  have f3 : Fit q3 := f2.del 3
  have HI := hid (rem_any (w.heap.size + 1) q3 3 w11 hq11 f3)
  rw [begun_rem2] at HI
  clear hq11 hk10 hk11 HH
  go_wp2_with fail
  refine HI.out.mono ?_
  rintro e w12 ⟨rfl, hq12, hk12⟩
  have hk12' : Keeps [] w w12 := hk11'.trans hk12 fun x hx hl => by simp at hx; omega
  clear hq12 HI hk12 hk11'
  go_wp2
  go_ret
  exact ⟨rfl, hk12'⟩
end Go.Proofs.YtcmbhmlpififiaaDoor
