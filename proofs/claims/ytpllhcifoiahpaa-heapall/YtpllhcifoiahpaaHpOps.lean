/-
  value's Get, Set, Free, Site, Freed, Len, Add; the document's Zero, EqValue.
-/
import Derived.Test.YtpllhcifoiahpaaHpWalk
namespace Go.Proofs.Ytpllhcifoiahpaa
open Go.RowKit

def obZ : Ob := ⟨0, false, .slice none 0 0, []⟩
/-- What slot tells: 0, or why the field may not be followed. -/
def slW (os : List Ob) (o f : Int) : Int := if foW os o ≠ 0 then foW os o else if f < 0 ∨ ((os.getD (o - 1).toNat obZ).vs.length : Int) ≤ f then 1 else 0
theorem slW_bad {os : List Ob} {o : Int} (f : Int) (h : foW os o ≠ 0) : slW os o f = foW os o := if_pos h
theorem slW_live {os : List Ob} {j : Nat} {x : Ob} (f : Int) (h : os[j]? = some x) (hf : x.free = false) : slW os ((j : Int) + 1) f = if f < 0 ∨ (x.vs.length : Int) ≤ f then 1 else 0 := by
  have h0 : foW os ((j : Int) + 1) = 0 := by rw [foW_in h, hf]; rfl
  unfold slW
  rw [if_neg (by omega), show ((j : Int) + 1 - 1).toNat = j by omega, List.getD_eq_getElem?_getD, h]
  rfl
theorem slW_cases (os : List Ob) (o f : Int) : (slW os o f ≠ 0 ∧ foW os o ≠ 0 ∧ slW os o f = foW os o) ∨ (∃ (j : Nat) (x : Ob), o = (j : Int) + 1 ∧ os[j]? = some x ∧ x.free = false ∧ (f < 0 ∨ (x.vs.length : Int) ≤ f) ∧ slW os o f = 1) ∨ ∃ (j i : Nat) (x : Ob) (v : V3), o = (j : Int) + 1 ∧ f = (i : Int) ∧ os[j]? = some x ∧ x.free = false ∧ x.vs[i]? = some v ∧ slW os o f = 0 := by
  by_cases h : foW os o = 0
  · obtain ⟨j, x, rfl, hx, hf⟩ := foW_ok h
    by_cases ho : f < 0 ∨ (x.vs.length : Int) ≤ f
    · exact .inr (.inl ⟨j, x, rfl, hx, hf, ho, by rw [slW_live f hx hf, if_pos ho]⟩)
    · exact .inr (.inr ⟨j, f.toNat, x, _, rfl, by omega, hx, hf, List.getElem?_eq_getElem (by omega), by rw [slW_live f hx hf, if_neg ho]⟩)
  · exact .inl ⟨by rw [slW_bad f h]; exact h, h, slW_bad f h⟩
/-- What a field holds, if it may be followed. -/
def getV (os : List Ob) (o f : Int) : V3 := if slW os o f = 0 then (os.getD (o - 1).toNat obZ).vs.getD f.toNat (0, 0, false) else (0, 0, false)
theorem getV_in {os : List Ob} {j i : Nat} {x : Ob} {v : V3} (hx : os[j]? = some x) (hv : x.vs[i]? = some v) (h : slW os ((j : Int) + 1) (i : Int) = 0) : getV os ((j : Int) + 1) (i : Int) = v := by
  unfold getV
  have e : os.getD j obZ = x := by rw [List.getD_eq_getElem?_getD, hx]; rfl
  rw [if_pos h, show ((j : Int) + 1 - 1).toNat = j by omega, e, show ((i : Int)).toNat = i by omega, List.getD_eq_getElem?_getD, hv]
  rfl
theorem get_bad {w : World} {pv : Value} {o f y : Int} (H : Calls Try.prog 21 #[pv, .int .i64 o, .int .i64 f] (w.alloc (.cells #[.int .i64 0, .int .i64 0, .bool false] 29)) fun e w' => e = .returned (.tuple #[.pointer none, .int .i64 y]) ∧ Keeps [] (w.alloc (.cells #[.int .i64 0, .int .i64 0, .bool false] 29)) w') (hy : y ≠ 0) :
    Calls Try.prog 12 #[pv, .int .i64 o, .int .i64 f] w fun e w' => e = .returned (.tuple #[vlV (0, 0, false), .int .i64 y]) ∧ Keeps [] w w' := by
  have H := hid H
  have hn := heap_new w (.cells #[.int .i64 0, .int .i64 0, .bool false] 29)
  have HN := hid hn
  have KA := hid (Keeps.alloc [] w (.cells #[.int .i64 0, .int .i64 0, .bool false] 29))
  clear hn
  go_enter Try.func12, Try.ntmps12
  go_wp2_with fail
  refine H.out.mono ?_
  rintro e w1 ⟨rfl, k1⟩
  have K1 := hid k1
  have hb := keep_heap HN.out k1
  have HB := hid hb
  have c0 := hcell hb 0
  have c1 := hcell hb 1
  have c2 := hcell hb 2
  have z0 := hfrozen hb 0
  have z1 := hfrozen hb 1
  have z2 := hfrozen hb 2
  have KK := hid (KA.out.quiet k1)
  clear k1 H hb HN
  go_wp2_with fail
  have HS := set3 HB.out (.int .i64 0) (.int .i64 0) (.bool false)
  have K3 := hid (KK.out.trans (keeps3 w1 w.heap.size (.int .i64 0) (.int .i64 0) (.bool false)) (fun x hx hl => by rw [List.mem_singleton.1 hx] at hl; omega))
  generalize ((w1.setCell ⟨w.heap.size, 0, none⟩ (.int .i64 0)).setCell ⟨w.heap.size, 1, none⟩ (.int .i64 0)).setCell ⟨w.heap.size, 2, none⟩ (.bool false) = w2 at *
  have r0 := hcell HS 0
  have r1 := hcell HS 1
  have r2 := hcell HS 2
  exact bodyPost_ret (v := .tuple #[vlV (0, 0, false), .int .i64 y]) (by simp [results, Try.results12, go_sem, r0, r1, r2]) rfl ⟨rfl, K3.out⟩
theorem get_in {w : World} {hp : Nat} {sv : Value} {os : List Ob} {F : List Nat} (h : HpV w hp sv os F) {j i : Nat} {x : Ob} {v : V3} (hx : os[j]? = some x) (hf : x.free = false) (hv : x.vs[i]? = some v) :
    Calls Try.prog 12 #[.pointer (some ⟨hp, 0, none⟩), .int .i64 ((j : Int) + 1), .int .i64 (i : Int)] w fun e w' => e = .returned (.tuple #[vlV v, .int .i64 0]) ∧ Keeps [] w w' := by
  obtain ⟨b, cap, hb, _, d0, d1, d2, _⟩ := h.obs.field hx hv
  have KA := hid (Keeps.alloc [] w (.cells #[.int .i64 0, .int .i64 0, .bool false] 29))
  have H := hid (slot_in (h.kept KA.out (fun _ _ => by simp)) hx hf (List.getElem?_eq_some_iff.1 hv).1 hb)
  have HN := hid (heap_new w (.cells #[.int .i64 0, .int .i64 0, .bool false] 29))
  have D := hid (And.intro (cell_stays KA.out d0) (And.intro (cell_stays KA.out d1) (cell_stays KA.out d2)))
  clear h hx hf hv hb d0 d1 d2
  obtain ⟨vk, vn, vt⟩ := v
  unfold v3 at D
  go_enter Try.func12, Try.ntmps12
  go_wp2_with fail
  refine H.out.mono ?_
  rintro e w1 ⟨rfl, k1⟩
  have HB := hid (keep_heap HN.out k1)
  have c0 := hcell HB.out 0
  have c1 := hcell HB.out 1
  have c2 := hcell HB.out 2
  have z0 := hfrozen HB.out 0
  have z1 := hfrozen HB.out 1
  have z2 := hfrozen HB.out 2
  have d0 := cell_stays k1 D.out.1
  have d1 := cell_stays k1 D.out.2.1
  have d2 := cell_stays k1 D.out.2.2
  have KK := hid (KA.out.quiet k1)
  clear k1 H HN
  go_wp2_with fail
  have HS := set3 HB.out (.int .i64 vk) (.int .i64 vn) (.bool vt)
  have K3 := hid (KK.out.trans (keeps3 w1 w.heap.size (.int .i64 vk) (.int .i64 vn) (.bool vt)) (fun x hx hl => by rw [List.mem_singleton.1 hx] at hl; omega))
  generalize ((w1.setCell ⟨w.heap.size, 0, none⟩ (.int .i64 vk)).setCell ⟨w.heap.size, 1, none⟩ (.int .i64 vn)).setCell ⟨w.heap.size, 2, none⟩ (.bool vt) = w2 at *
  have r0 := hcell HS 0
  have r1 := hcell HS 1
  have r2 := hcell HS 2
  exact bodyPost_ret (v := .tuple #[vlV (vk, vn, vt), .int .i64 0]) (by simp [results, Try.results12, go_sem, r0, r1, r2]) rfl ⟨rfl, K3.out⟩
theorem get_any {w : World} {hp : Nat} {os : List Ob} {F : List Nat} (h : Hp w hp os F) (o f : Int) :
    Calls Try.prog 12 #[.pointer (some ⟨hp, 0, none⟩), .int .i64 o, .int .i64 f] w fun e w' => e = .returned (.tuple #[vlV (getV os o f), .int .i64 (slW os o f)]) ∧ Keeps [] w w' := by
  obtain ⟨sv, h⟩ := h
  have ka := Keeps.alloc [] w (.cells #[.int .i64 0, .int .i64 0, .bool false] 29)
  have h' := h.kept ka (fun _ _ => by simp)
  rcases slW_cases os o f with ⟨h0, h1, h2⟩ | ⟨j, x, rfl, hx, hf, ho, hs⟩ | ⟨j, i, x, v, rfl, rfl, hx, hf, hv, hs⟩
  · have e : getV os o f = (0, 0, false) := if_neg h0
    rw [e, h2]
    exact get_bad (slot_bad f (follow_bad h' h1) h1) h1
  · have e : getV os ((j : Int) + 1) f = (0, 0, false) := if_neg (by omega)
    rw [e, hs]
    exact get_bad (slot_out h' hx hf ho) (by omega)
  · rw [getV_in hx hv hs, hs]
    exact get_in h hx hf hv
theorem get_nil (w : World) (o f : Int) : Calls Try.prog 12 #[.pointer none, .int .i64 o, .int .i64 f] w fun e w' => e = .returned (.tuple #[vlV (0, 0, false), .int .i64 1]) ∧ Keeps [] w w' :=
  get_bad (slot_bad f (follow_no (.inl rfl)) (by decide)) (by decide)
/-- A field is set, if it may be followed. -/
def setO (os : List Ob) (o f : Int) (v : V3) : List Ob := if slW os o f = 0 then os.set (o - 1).toNat { os.getD (o - 1).toNat obZ with vs := (os.getD (o - 1).toNat obZ).vs.set f.toNat v } else os
theorem setO_in {os : List Ob} {j i : Nat} {x : Ob} (u : V3) (hx : os[j]? = some x) (h : slW os ((j : Int) + 1) (i : Int) = 0) : setO os ((j : Int) + 1) (i : Int) u = os.set j { x with vs := x.vs.set i u } := by
  have e : os.getD j obZ = x := by rw [List.getD_eq_getElem?_getD, hx]; rfl
  unfold setO
  rw [if_pos h, show ((j : Int) + 1 - 1).toNat = j by omega, e, show ((i : Int)).toNat = i by omega]
theorem set_bad {w : World} {pv : Value} {o f y : Int} (u : V3) (H : Calls Try.prog 21 #[pv, .int .i64 o, .int .i64 f] (w.alloc (.cells #[.int .i64 u.1, .int .i64 u.2.1, .bool u.2.2] 29)) fun e w' => e = .returned (.tuple #[.pointer none, .int .i64 y]) ∧ Keeps [] (w.alloc (.cells #[.int .i64 u.1, .int .i64 u.2.1, .bool u.2.2] 29)) w') (hy : y ≠ 0) :
    Calls Try.prog 14 #[pv, .int .i64 o, .int .i64 f, vlV u] w fun e w' => e = .returned (.int .i64 y) ∧ Keeps [] w w' := by
  have H := hid H
  have KA := hid (Keeps.alloc [] w (.cells #[.int .i64 u.1, .int .i64 u.2.1, .bool u.2.2] 29))
  go_enter Try.func14, Try.ntmps14
  go_wp2_with fail
  refine H.out.mono ?_
  rintro e w1 ⟨rfl, k1⟩
  have KK := hid (KA.out.quiet k1)
  clear k1 H
  go_wp2_with fail
  go_ret
  exact ⟨rfl, KK.out⟩
theorem set_in {w : World} {hp : Nat} {sv : Value} {os : List Ob} {F : List Nat} (h : HpV w hp sv os F) {j i : Nat} {x : Ob} {v : V3} (hx : os[j]? = some x) (hf : x.free = false) (hv : x.vs[i]? = some v) (u : V3) :
    Calls Try.prog 14 #[.pointer (some ⟨hp, 0, none⟩), .int .i64 ((j : Int) + 1), .int .i64 (i : Int), vlV u] w fun e w' => e = .returned (.int .i64 0) ∧ Hp w' hp (os.set j { x with vs := x.vs.set i u }) F ∧ Keeps F w w' := by
  obtain ⟨b, cap, hb, hbF, d0, d1, d2, hz⟩ := h.obs.field hx hv
  have KA := hid (Keeps.alloc [] w (.cells #[.int .i64 u.1, .int .i64 u.2.1, .bool u.2.2] 29))
  have HA := hid (h.kept KA.out (fun _ _ => by simp))
  have H := hid (slot_in HA.out hx hf (List.getElem?_eq_some_iff.1 hv).1 hb)
  have HN := hid (heap_new w (.cells #[.int .i64 u.1, .int .i64 u.2.1, .bool u.2.2] 29))
  have HX := hid hx
  have HV := hid hv
  have HBB := hid hb
  have HF := hid hbF
  clear h hx hf hv hb d0 d1 d2 hz hbF
  go_enter Try.func14, Try.ntmps14
  go_wp2_with fail
  refine H.out.mono ?_
  rintro e w1 ⟨rfl, k1⟩
  have HB := hid (keep_heap HN.out k1)
  have c0 := hcell HB.out 0
  have c1 := hcell HB.out 1
  have c2 := hcell HB.out 2
  have KK := hid (KA.out.quiet k1)
  have H1 := hid (HA.out.kept k1 (fun _ _ => by simp))
  obtain ⟨b', cap', hb', _, d0, d1, d2, hz⟩ := H1.out.obs.field HX.out HV.out
  have e := HBB.out
  rw [hb'] at e
  simp at e
  obtain ⟨rfl, rfl⟩ := e
  have z0 := hz (i * 3)
  have z1 := hz (i * 3 + 1)
  have z2 := hz (i * 3 + 2)
  clear k1 H HN hz hb'
  go_wp2_with fail
  go_ret
  have hp1 := H1.out.obs.put (by decide) (fun _ _ => rfl) HX.out HV.out HBB.out u
  have k3 : Keeps [b'] w1 (((w1.setCell ⟨b', i * 3, none⟩ (v3 u).1).setCell ⟨b', i * 3 + 1, none⟩ (v3 u).2.1).setCell ⟨b', i * 3 + 2, none⟩ (v3 u).2.2) := ((Keeps.setCell [b'] _ _ _ (List.mem_singleton.2 rfl)).step (Keeps.setCell [b'] _ _ _ (List.mem_singleton.2 rfl))).step (Keeps.setCell [b'] _ _ _ (List.mem_singleton.2 rfl))
  refine ⟨rfl, ⟨sv, ?_, H1.out.hin, hp1⟩, (KK.out.mono (L' := F) (fun x hx => by cases hx)).step (k3.mono (fun x hx => by rw [List.mem_singleton.1 hx]; exact HF.out))⟩
  have hne : hp ≠ b' := fun e => by
    subst e
    have own := H1.out.obs.fld j x HX.out
    rw [HBB.out] at own
    rcases own.2 with ⟨h', _⟩ | ⟨g, _, cur, h', _, hg, _⟩
    · simp at h'
    · simp at h'
      obtain ⟨rfl, _⟩ := h'
      rw [H1.out.box] at hg
      simp at hg
  exact (k3.block hp (heap_lt H1.out.box) (by simpa using hne)).trans H1.out.box
end Go.Proofs.Ytpllhcifoiahpaa
