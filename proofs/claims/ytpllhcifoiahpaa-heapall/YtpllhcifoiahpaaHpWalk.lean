/-
  value's New, Zero, find, follow, slot.
-/
import Derived.Test.YtpllhcifoiahpaaHpMem
namespace Go.Proofs.Ytpllhcifoiahpaa
open Go.RowKit

abbrev tyV (t : Int × Int) : Value := .agg #[.int .i64 t.1, .int .i64 t.2]
def zeroV (t : Int × Int) : V3 := if t.1 = 0 then (0, 0, false) else (1, 0, false)
theorem new_hp (w : World) : Calls Try.prog 9 #[] w fun e w' => e = .returned (.pointer (some ⟨w.heap.size, 0, none⟩)) ∧ Hp w' w.heap.size [] [w.heap.size] ∧ Keeps [] w w' := by
  go_enter Try.func9, Try.ntmps9
  go_wp2
  go_ret
  refine ⟨rfl, ⟨.slice none 0 0, heap_new w _, List.mem_singleton.2 rfl, Obs.nil _ _ _ (fun x hx => ?_)⟩, Keeps.alloc [] w _⟩
  rw [List.mem_singleton.1 hx]
  exact heap_lt (heap_new w _)
theorem zero_any (t : Int × Int) (w : World) : Calls Try.prog 20 #[tyV t] w fun e w' => e = .returned (vlV (zeroV t)) ∧ Keeps [] w w' := by
  obtain ⟨k, n⟩ := t
  by_cases h : k = 0
  · subst h
    go_enter Try.func20, Try.ntmps20
    go_wp2
    exact bodyPost_ret (v := vlV (0, 0, false)) (by simp [results, Try.results20, go_sem]) rfl ⟨rfl, (Keeps.alloc [] _ _).quiet (Keeps.alloc [] _ _)⟩
  · have hz : zeroV (k, n) = (1, 0, false) := if_neg h
    rw [hz]
    go_enter Try.func20, Try.ntmps20
    go_wp2
    exact bodyPost_ret (v := vlV (1, 0, false)) (by simp [results, Try.results20, go_sem]) rfl ⟨rfl, (Keeps.alloc [] _ _).quiet (Keeps.alloc [] _ _)⟩
theorem HpV.le {w : World} {hp : Nat} {sv : Value} {os : List Ob} {F : List Nat} (h : HpV w hp sv os F) : os.length ≤ 9223372036854775807 := by
  rcases h.obs.own.2 with ⟨_, h0⟩ | ⟨_, c, _, _, _, _, h1, h2, _⟩
  · omega
  · unfold maxLen at h2
    omega
theorem find_in {w : World} {hp : Nat} {sv : Value} {os : List Ob} {F : List Nat} (h : HpV w hp sv os F) {g cap : Nat} (hs : sv = .slice (some ⟨g, 0, none⟩) os.length cap) {j : Nat} (hj : j < os.length) :
    Calls Try.prog 23 #[.pointer (some ⟨hp, 0, none⟩), .int .i64 ((j : Int) + 1)] w fun e w' => e = .returned (.pointer (some ⟨g, j * 3, none⟩)) ∧ Keeps [] w w' := by
  have p0 := hcell h.box 0
  rw [hs] at p0
  have hle := h.le
  have h1 : ¬ (j : Int) + 1 < 1 := by omega
  have h2 : ¬ (os.length : Int) < (j : Int) + 1 := by omega
  generalize os.length = n at *
  clear h hs
  go_enter Try.func23, Try.ntmps23
  go_wp2
  go_ret
  exact ⟨rfl, Keeps.refl _ _⟩
theorem find_out {w : World} {hp : Nat} {sv : Value} {os : List Ob} {F : List Nat} (h : HpV w hp sv os F) {o : Int} (ho : o < 1 ∨ (os.length : Int) < o) :
    Calls Try.prog 23 #[.pointer (some ⟨hp, 0, none⟩), .int .i64 o] w fun e w' => e = .returned (.pointer none) ∧ Keeps [] w w' := by
  obtain ⟨a, cap, hs, _⟩ := h.obs.len
  have p0 := hcell h.box 0
  rw [hs] at p0
  generalize os.length = n at *
  by_cases h1 : o < 1
  · clear h hs ho
    go_enter Try.func23, Try.ntmps23
    go_wp2
    go_ret
    exact ⟨rfl, Keeps.refl _ _⟩
  · have h2 : (n : Int) < o := by omega
    clear h hs ho
    go_enter Try.func23, Try.ntmps23
    go_wp2
    go_ret
    exact ⟨rfl, Keeps.refl _ _⟩
theorem find_nil (w : World) (o : Int) : Calls Try.prog 23 #[.pointer none, .int .i64 o] w fun e w' => e = .returned (.pointer none) ∧ Keeps [] w w' := by
  go_enter Try.func23, Try.ntmps23
  go_wp2
  go_ret
  exact ⟨rfl, Keeps.refl _ _⟩
/-- A pointer that is nil, or what is behind it: no object. -/
def NoHp (w : World) (pv : Value) (o : Int) : Prop := pv = .pointer none ∨ ∃ hp sv os F, pv = .pointer (some ⟨hp, 0, none⟩) ∧ HpV w hp sv os F ∧ (o < 1 ∨ (os.length : Int) < o)
theorem find_no {w : World} {pv : Value} {o : Int} (h : NoHp w pv o) : Calls Try.prog 23 #[pv, .int .i64 o] w fun e w' => e = .returned (.pointer none) ∧ Keeps [] w w' := by
  rcases h with rfl | ⟨hp, sv, os, F, rfl, h, ho⟩
  · exact find_nil w o
  · exact find_out h ho
theorem follow_no {w : World} {pv : Value} {o : Int} (h : NoHp w pv o) : Calls Try.prog 22 #[pv, .int .i64 o] w fun e w' => e = .returned (.tuple #[.pointer none, .int .i64 1]) ∧ Keeps [] w w' := by
  have H := hid (find_no h)
  clear h
  go_enter Try.func22, Try.ntmps22
  go_wp2_with fail
  refine H.out.mono ?_
  rintro e w1 ⟨rfl, k1⟩
  have K1 := hid k1
  clear k1 H
  go_wp2_with fail
  go_ret2
  exact ⟨rfl, K1.out⟩
theorem follow_live {w : World} {hp : Nat} {sv : Value} {os : List Ob} {F : List Nat} (h : HpV w hp sv os F) {g cap : Nat} (hs : sv = .slice (some ⟨g, 0, none⟩) os.length cap) {j : Nat} {o : Ob} (hj : os[j]? = some o) (hfr : o.free = false) :
    Calls Try.prog 22 #[.pointer (some ⟨hp, 0, none⟩), .int .i64 ((j : Int) + 1)] w fun e w' => e = .returned (.tuple #[.pointer (some ⟨g, j * 3, none⟩), .int .i64 0]) ∧ Keeps [] w w' := by
  have hjl := (List.getElem?_eq_some_iff.1 hj).1
  have H := hid (find_in h hs hjl)
  obtain ⟨g', cap', hs', _, _, _, c1, _⟩ := h.obs.at hj
  rw [hs] at hs'
  simp at hs'
  obtain ⟨rfl, _⟩ := hs'
  unfold ob3 at c1
  rw [hfr] at c1
  have C1 := hid c1
  clear h hs hj c1 hfr
  go_enter Try.func22, Try.ntmps22
  go_wp2_with fail
  refine H.out.mono ?_
  rintro e w1 ⟨rfl, k1⟩
  have K1 := hid k1
  have p1 := cell_stays k1 C1.out
  clear k1 H C1
  go_wp2_with fail
  go_ret2
  exact ⟨rfl, K1.out⟩
theorem follow_free {w : World} {hp : Nat} {sv : Value} {os : List Ob} {F : List Nat} (h : HpV w hp sv os F) {g cap : Nat} (hs : sv = .slice (some ⟨g, 0, none⟩) os.length cap) {j : Nat} {o : Ob} (hj : os[j]? = some o) (hfr : o.free = true) :
    Calls Try.prog 22 #[.pointer (some ⟨hp, 0, none⟩), .int .i64 ((j : Int) + 1)] w fun e w' => e = .returned (.tuple #[.pointer none, .int .i64 2]) ∧ Keeps [] w w' := by
  have hjl := (List.getElem?_eq_some_iff.1 hj).1
  have H := hid (find_in h hs hjl)
  obtain ⟨g', cap', hs', _, _, _, c1, _⟩ := h.obs.at hj
  rw [hs] at hs'
  simp at hs'
  obtain ⟨rfl, _⟩ := hs'
  unfold ob3 at c1
  rw [hfr] at c1
  have C1 := hid c1
  clear h hs hj c1 hfr
  go_enter Try.func22, Try.ntmps22
  go_wp2_with fail
  refine H.out.mono ?_
  rintro e w1 ⟨rfl, k1⟩
  have K1 := hid k1
  have p1 := cell_stays k1 C1.out
  clear k1 H C1
  go_wp2_with fail
  go_ret2
  exact ⟨rfl, K1.out⟩
/-- What follow tells: 0, or why the object may not be followed. -/
def foW (os : List Ob) (o : Int) : Int := if o < 1 ∨ (os.length : Int) < o then 1 else if (os.getD (o - 1).toNat ⟨0, false, .slice none 0 0, []⟩).free = true then 2 else 0
theorem foW_out {os : List Ob} {o : Int} (h : o < 1 ∨ (os.length : Int) < o) : foW os o = 1 := if_pos h
theorem foW_in {os : List Ob} {j : Nat} {x : Ob} (h : os[j]? = some x) : foW os ((j : Int) + 1) = if x.free = true then 2 else 0 := by
  have hj := (List.getElem?_eq_some_iff.1 h).1
  unfold foW
  rw [if_neg (by omega), show ((j : Int) + 1 - 1).toNat = j by omega, List.getD_eq_getElem?_getD, h]
  rfl
theorem foW_cases (os : List Ob) (o : Int) : (o < 1 ∨ (os.length : Int) < o) ∨ ∃ (j : Nat) (x : Ob), o = (j : Int) + 1 ∧ os[j]? = some x := by
  by_cases h : o < 1 ∨ (os.length : Int) < o
  · exact .inl h
  · exact .inr ⟨(o - 1).toNat, _, by omega, List.getElem?_eq_getElem (by omega)⟩
theorem foW_ok {os : List Ob} {o : Int} (h : foW os o = 0) : ∃ (j : Nat) (x : Ob), o = (j : Int) + 1 ∧ os[j]? = some x ∧ x.free = false := by
  rcases foW_cases os o with ho | ⟨j, x, rfl, hx⟩
  · rw [foW_out ho] at h
    omega
  · rw [foW_in hx] at h
    refine ⟨j, x, rfl, hx, ?_⟩
    cases hf : x.free
    · rfl
    · rw [hf] at h
      simp at h
/-- The object may not be followed. -/
theorem follow_bad {w : World} {hp : Nat} {sv : Value} {os : List Ob} {F : List Nat} (h : HpV w hp sv os F) {o : Int} (hw : foW os o ≠ 0) :
    Calls Try.prog 22 #[.pointer (some ⟨hp, 0, none⟩), .int .i64 o] w fun e w' => e = .returned (.tuple #[.pointer none, .int .i64 (foW os o)]) ∧ Keeps [] w w' := by
  rcases foW_cases os o with ho | ⟨j, x, rfl, hx⟩
  · rw [foW_out ho]
    exact follow_no (.inr ⟨hp, sv, os, F, rfl, h, ho⟩)
  · obtain ⟨g, cap, hs, _⟩ := h.obs.at hx
    rw [foW_in hx] at hw ⊢
    cases hf : x.free
    · rw [hf] at hw
      simp at hw
    · exact follow_free h hs hx hf
/-- What slot tells of an object that may not be followed. -/
theorem slot_bad {w : World} {pv : Value} {o y : Int} (f : Int) (H : Calls Try.prog 22 #[pv, .int .i64 o] w fun e w' => e = .returned (.tuple #[.pointer none, .int .i64 y]) ∧ Keeps [] w w') (hy : y ≠ 0) :
    Calls Try.prog 21 #[pv, .int .i64 o, .int .i64 f] w fun e w' => e = .returned (.tuple #[.pointer none, .int .i64 y]) ∧ Keeps [] w w' := by
  have H := hid H
  go_enter Try.func21, Try.ntmps21
  go_wp2_with fail
  refine H.out.mono ?_
  rintro e w1 ⟨rfl, k1⟩
  have K1 := hid k1
  clear k1 H
  go_wp2_with fail
  go_ret2
  exact ⟨rfl, K1.out⟩
theorem slot_out {w : World} {hp : Nat} {sv : Value} {os : List Ob} {F : List Nat} (h : HpV w hp sv os F) {j : Nat} {x : Ob} (hx : os[j]? = some x) (hf : x.free = false) {f : Int} (ho : f < 0 ∨ (x.vs.length : Int) ≤ f) :
    Calls Try.prog 21 #[.pointer (some ⟨hp, 0, none⟩), .int .i64 ((j : Int) + 1), .int .i64 f] w fun e w' => e = .returned (.tuple #[.pointer none, .int .i64 1]) ∧ Keeps [] w w' := by
  obtain ⟨g, cap, hs, _, _, _, _, c2, _⟩ := h.obs.at hx
  have H := hid (follow_live h hs hx hf)
  obtain ⟨fa, fc, hv, _⟩ : ∃ a c, x.fs = .slice a x.vs.length c ∧ True := by
    rcases (h.obs.fld j x hx).2 with ⟨hv, h0⟩ | ⟨b, c, _, hv, _⟩
    · exact ⟨none, 0, by rw [hv, h0], trivial⟩
    · exact ⟨_, c, hv, trivial⟩
  unfold ob3 at c2
  rw [hv] at c2
  have C2 := hid c2
  generalize x.vs.length = n at *
  clear h hs c2 hx hf
  by_cases h0 : f < 0
  · go_enter Try.func21, Try.ntmps21
    go_wp2_with fail
    refine H.out.mono ?_
    rintro e w1 ⟨rfl, k1⟩
    have K1 := hid k1
    have p2 := cell_stays k1 C2.out
    clear k1 H C2 ho
    go_wp2_with fail
    go_ret2
    exact ⟨rfl, K1.out⟩
  · have h1 : (n : Int) ≤ f := by omega
    go_enter Try.func21, Try.ntmps21
    go_wp2_with fail
    refine H.out.mono ?_
    rintro e w1 ⟨rfl, k1⟩
    have K1 := hid k1
    have p2 := cell_stays k1 C2.out
    clear k1 H C2 ho
    go_wp2_with fail
    go_ret2
    exact ⟨rfl, K1.out⟩
theorem slot_in {w : World} {hp : Nat} {sv : Value} {os : List Ob} {F : List Nat} (h : HpV w hp sv os F) {j : Nat} {x : Ob} (hx : os[j]? = some x) (hf : x.free = false) {i b cap : Nat} (hi : i < x.vs.length) (hb : x.fs = .slice (some ⟨b, 0, none⟩) x.vs.length cap) :
    Calls Try.prog 21 #[.pointer (some ⟨hp, 0, none⟩), .int .i64 ((j : Int) + 1), .int .i64 (i : Int)] w fun e w' => e = .returned (.tuple #[.pointer (some ⟨b, i * 3, none⟩), .int .i64 0]) ∧ Keeps [] w w' := by
  obtain ⟨g, cap', hs, _, _, _, _, c2, _⟩ := h.obs.at hx
  have H := hid (follow_live h hs hx hf)
  unfold ob3 at c2
  rw [hb] at c2
  have C2 := hid c2
  have hle : x.vs.length ≤ 9223372036854775807 := by
    rcases (h.obs.fld j x hx).2 with ⟨_, h0⟩ | ⟨_, c, _, _, _, _, h1, h2, _⟩
    · omega
    · unfold maxLen at h2
      omega
  generalize x.vs.length = n at *
  clear h hs c2 hx hf hb
  have h0 : ¬ (i : Int) < 0 := by omega
  have h1 : ¬ (n : Int) ≤ (i : Int) := by omega
  go_enter Try.func21, Try.ntmps21
  go_wp2_with fail
  refine H.out.mono ?_
  rintro e w1 ⟨rfl, k1⟩
  have K1 := hid k1
  have p2 := cell_stays k1 C2.out
  clear k1 H C2
  go_wp2_with fail
  go_ret2
  exact ⟨rfl, K1.out⟩
end Go.Proofs.Ytpllhcifoiahpaa
