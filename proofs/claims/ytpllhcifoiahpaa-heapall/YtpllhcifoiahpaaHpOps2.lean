/-
  value's Set, Free, Site, Freed, Len, Add; the document's Zero, EqValue.
-/
import Derived.Test.YtpllhcifoiahpaaHpOps
namespace Go.Proofs.Ytpllhcifoiahpaa
open Go.RowKit

theorem set_any {w : World} {hp : Nat} {os : List Ob} {F : List Nat} (h : Hp w hp os F) (o f : Int) (u : V3) :
    Calls Try.prog 14 #[.pointer (some ⟨hp, 0, none⟩), .int .i64 o, .int .i64 f, vlV u] w fun e w' => e = .returned (.int .i64 (slW os o f)) ∧ Hp w' hp (setO os o f u) F ∧ Keeps F w w' := by
  obtain ⟨sv, h⟩ := h
  have ka := Keeps.alloc [] w (.cells #[.int .i64 u.1, .int .i64 u.2.1, .bool u.2.2] 29)
  have h' := h.kept ka (fun _ _ => by simp)
  have still : ∀ {w' : World} , Keeps [] w w' → Hp w' hp os F ∧ Keeps F w w' := fun k => ⟨⟨sv, h.kept k (fun _ _ => by simp)⟩, k.mono (fun x hx => by cases hx)⟩
  rcases slW_cases os o f with ⟨h0, h1, h2⟩ | ⟨j, x, rfl, hx, hf, ho, hs⟩ | ⟨j, i, x, v, rfl, rfl, hx, hf, hv, hs⟩
  · have e : setO os o f u = os := if_neg h0
    rw [e, h2]
    refine (set_bad u (slot_bad f (follow_bad h' h1) h1) h1).mono ?_
    rintro e w1 ⟨rfl, k1⟩
    exact ⟨rfl, still k1⟩
  · have e : setO os ((j : Int) + 1) f u = os := if_neg (by omega)
    rw [e, hs]
    refine (set_bad u (slot_out h' hx hf ho) (by omega)).mono ?_
    rintro e w1 ⟨rfl, k1⟩
    exact ⟨rfl, still k1⟩
  · rw [setO_in u hx hs, hs]
    exact set_in h hx hf hv u
theorem set_nil (w : World) (o f : Int) (u : V3) : Calls Try.prog 14 #[.pointer none, .int .i64 o, .int .i64 f, vlV u] w fun e w' => e = .returned (.int .i64 1) ∧ Keeps [] w w' :=
  set_bad u (slot_bad f (follow_no (.inl rfl)) (by decide)) (by decide)
/-- The object is free, if it may be followed. -/
def freeO (os : List Ob) (o : Int) : List Ob := if foW os o = 0 then os.set (o - 1).toNat ⟨(os.getD (o - 1).toNat obZ).site, true, .slice none 0 0, []⟩ else os
theorem freeO_in {os : List Ob} {j : Nat} {x : Ob} (hx : os[j]? = some x) (h : foW os ((j : Int) + 1) = 0) : freeO os ((j : Int) + 1) = os.set j ⟨x.site, true, .slice none 0 0, []⟩ := by
  have e : os.getD j obZ = x := by rw [List.getD_eq_getElem?_getD, hx]; rfl
  unfold freeO
  rw [if_pos h, show ((j : Int) + 1 - 1).toNat = j by omega, e]
theorem free_bad {w : World} {pv : Value} {o y : Int} (H : Calls Try.prog 22 #[pv, .int .i64 o] w fun e w' => e = .returned (.tuple #[.pointer none, .int .i64 y]) ∧ Keeps [] w w') (hy : y ≠ 0) :
    Calls Try.prog 15 #[pv, .int .i64 o] w fun e w' => e = .returned (.int .i64 y) ∧ Keeps [] w w' := by
  have H := hid H
  go_enter Try.func15, Try.ntmps15
  go_wp2_with fail
  refine H.out.mono ?_
  rintro e w1 ⟨rfl, k1⟩
  have KK := hid k1
  clear k1 H
  go_wp2_with fail
  go_ret
  exact ⟨rfl, KK.out⟩
theorem free_in {w : World} {hp : Nat} {sv : Value} {os : List Ob} {F : List Nat} (h : HpV w hp sv os F) {j : Nat} {x : Ob} (hx : os[j]? = some x) (hf : x.free = false) :
    Calls Try.prog 15 #[.pointer (some ⟨hp, 0, none⟩), .int .i64 ((j : Int) + 1)] w fun e w' => e = .returned (.int .i64 0) ∧ Hp w' hp (os.set j ⟨x.site, true, .slice none 0 0, []⟩) F ∧ Keeps F w w' := by
  obtain ⟨g, cap, hs, _⟩ := h.obs.at hx
  have H := hid (follow_live h hs hx hf)
  have HA := hid h
  have HX := hid hx
  have HS := hid hs
  clear h hx hf hs
  go_enter Try.func15, Try.ntmps15
  go_wp2_with fail
  refine H.out.mono ?_
  rintro e w1 ⟨rfl, k1⟩
  have KK := hid k1
  have H1 := hid (HA.out.kept k1 (fun _ _ => by simp))
  obtain ⟨g', cap', hs', _, _, d0, d1, d2, hz, hg⟩ := H1.out.obs.at HX.out
  rw [HS.out] at hs'
  simp at hs'
  obtain ⟨rfl, rfl⟩ := hs'
  have D0 := hid d0
  have z1 := hz (j * 3 + 1)
  have z2 := hz (j * 3 + 2)
  clear k1 H hz d0
  go_wp2_with fail
  go_ret
  have own := H1.out.obs.own
  rw [HS.out] at own
  have o2 := ((own.stored (j * 3 + 1) (.bool true)).1.stored (j * 3 + 2) (.slice none 0 0)).1
  have er : row3 ob3 (os.set j ⟨x.site, true, .slice none 0 0, []⟩) = ((row3 ob3 os).set (j * 3 + 1) (.bool true)).set (j * 3 + 2) (.slice none 0 0) := by
    have h0 : (row3 ob3 os)[j * 3]? = some (.int .i64 x.site) := (row3_get ob3 os j x HX.out).1
    rw [row3_set ob3 os j x _ HX.out]
    show (((row3 ob3 os).set (j * 3) (.int .i64 x.site)).set (j * 3 + 1) (.bool true)).set (j * 3 + 2) (.slice none 0 0) = _
    rw [set_same h0]
  rw [← er, ← HS.out] at o2
  have k2 : Keeps [g] w1 ((w1.setCell ⟨g, j * 3 + 1, none⟩ (.bool true)).setCell ⟨g, j * 3 + 2, none⟩ (.slice none 0 0)) := (Keeps.setCell [g] _ _ _ (List.mem_singleton.2 rfl)).step (Keeps.setCell [g] _ _ _ (List.mem_singleton.2 rfl))
  have hob : sv.ownBlock = some g := by rw [HS.out]; rfl
  have hgF := H1.out.obs.row g hob
  refine ⟨rfl, ⟨sv, ?_, H1.out.hin, H1.out.obs.turn (by decide) HX.out (by rw [hob]; exact k2) o2 (.inr ⟨rfl, rfl⟩)⟩, (KK.out.mono (L' := F) (fun x hx => by cases hx)).step (k2.mono (fun x hx => by rw [List.mem_singleton.1 hx]; exact hgF))⟩
  have hne : hp ≠ g := fun e => by
    subst e
    rcases own.2 with ⟨h', _⟩ | ⟨g, _, cur, h', _, hg, _⟩
    · simp at h'
    · simp at h'
      obtain ⟨rfl, _⟩ := h'
      rw [H1.out.box] at hg
      simp at hg
  exact (k2.block hp (heap_lt H1.out.box) (by simpa using hne)).trans H1.out.box
theorem free_any {w : World} {hp : Nat} {os : List Ob} {F : List Nat} (h : Hp w hp os F) (o : Int) :
    Calls Try.prog 15 #[.pointer (some ⟨hp, 0, none⟩), .int .i64 o] w fun e w' => e = .returned (.int .i64 (foW os o)) ∧ Hp w' hp (freeO os o) F ∧ Keeps F w w' := by
  obtain ⟨sv, h⟩ := h
  by_cases hw : foW os o = 0
  · obtain ⟨j, x, rfl, hx, hf⟩ := foW_ok hw
    rw [freeO_in hx hw, hw]
    exact free_in h hx hf
  · have e : freeO os o = os := if_neg hw
    rw [e]
    refine (free_bad (follow_bad h hw) hw).mono ?_
    rintro e w1 ⟨rfl, k1⟩
    exact ⟨rfl, ⟨sv, h.kept k1 (fun _ _ => by simp)⟩, k1.mono (fun x hx => by cases hx)⟩
theorem free_nil (w : World) (o : Int) : Calls Try.prog 15 #[.pointer none, .int .i64 o] w fun e w' => e = .returned (.int .i64 1) ∧ Keeps [] w w' :=
  free_bad (follow_no (.inl rfl)) (by decide)
def siteO (os : List Ob) (o : Int) : Int := if o < 1 ∨ (os.length : Int) < o then -1 else (os.getD (o - 1).toNat obZ).site
def freedO (os : List Ob) (o : Int) : Bool := if o < 1 ∨ (os.length : Int) < o then false else (os.getD (o - 1).toNat obZ).free
theorem siteO_in {os : List Ob} {j : Nat} {x : Ob} (hx : os[j]? = some x) : siteO os ((j : Int) + 1) = x.site ∧ freedO os ((j : Int) + 1) = x.free := by
  have hj := (List.getElem?_eq_some_iff.1 hx).1
  unfold siteO freedO
  rw [if_neg (by omega), if_neg (by omega), show ((j : Int) + 1 - 1).toNat = j by omega, List.getD_eq_getElem?_getD, hx]
  exact ⟨rfl, rfl⟩
theorem site_no {w : World} {pv : Value} {o : Int} (h : NoHp w pv o) : Calls Try.prog 17 #[pv, .int .i64 o] w fun e w' => e = .returned (.int .i64 (-1)) ∧ Keeps [] w w' := by
  have H := hid (find_no h)
  clear h
  go_enter Try.func17, Try.ntmps17
  go_wp2_with fail
  refine H.out.mono ?_
  rintro e w1 ⟨rfl, k1⟩
  have K1 := hid k1
  clear k1 H
  go_wp2_with fail
  go_ret
  exact ⟨rfl, K1.out⟩
theorem site_any {w : World} {hp : Nat} {os : List Ob} {F : List Nat} (h : Hp w hp os F) (o : Int) : Calls Try.prog 17 #[.pointer (some ⟨hp, 0, none⟩), .int .i64 o] w fun e w' => e = .returned (.int .i64 (siteO os o)) ∧ Keeps [] w w' := by
  obtain ⟨sv, h⟩ := h
  rcases foW_cases os o with ho | ⟨j, x, rfl, hx⟩
  · have e : siteO os o = -1 := if_pos ho
    rw [e]
    exact site_no (.inr ⟨hp, sv, os, F, rfl, h, ho⟩)
  · rw [(siteO_in hx).1]
    obtain ⟨g, cap, hs, _, hj, d0, _⟩ := h.obs.at hx
    have H := hid (find_in h hs hj)
    have D0 := hid d0
    unfold ob3 at D0
    clear h hs hx d0
    go_enter Try.func17, Try.ntmps17
    go_wp2_with fail
    refine H.out.mono ?_
    rintro e w1 ⟨rfl, k1⟩
    have K1 := hid k1
    have p0 := cell_stays k1 D0.out
    clear k1 H
    go_wp2_with fail
    go_ret
    exact ⟨rfl, K1.out⟩
theorem freed_no {w : World} {pv : Value} {o : Int} (h : NoHp w pv o) : Calls Try.prog 18 #[pv, .int .i64 o] w fun e w' => e = .returned (.bool false) ∧ Keeps [] w w' := by
  have H := hid (find_no h)
  clear h
  go_enter Try.func18, Try.ntmps18
  go_wp2_with fail
  refine H.out.mono ?_
  rintro e w1 ⟨rfl, k1⟩
  have K1 := hid k1
  clear k1 H
  go_wp2_with fail
  go_ret
  exact ⟨rfl, K1.out⟩
theorem freed_any {w : World} {hp : Nat} {os : List Ob} {F : List Nat} (h : Hp w hp os F) (o : Int) : Calls Try.prog 18 #[.pointer (some ⟨hp, 0, none⟩), .int .i64 o] w fun e w' => e = .returned (.bool (freedO os o)) ∧ Keeps [] w w' := by
  obtain ⟨sv, h⟩ := h
  rcases foW_cases os o with ho | ⟨j, x, rfl, hx⟩
  · have e : freedO os o = false := if_pos ho
    rw [e]
    exact freed_no (.inr ⟨hp, sv, os, F, rfl, h, ho⟩)
  · rw [(siteO_in hx).2]
    obtain ⟨g, cap, hs, _, hj, _, d1, _⟩ := h.obs.at hx
    have H := hid (find_in h hs hj)
    have D1 := hid d1
    unfold ob3 at D1
    clear h hs hx d1
    generalize x.free = fr at *
    go_enter Try.func18, Try.ntmps18
    go_wp2_with fail
    refine H.out.mono ?_
    rintro e w1 ⟨rfl, k1⟩
    have K1 := hid k1
    have p1 := cell_stays k1 D1.out
    clear k1 H
    go_wp2_with fail
    go_ret
    exact ⟨rfl, K1.out⟩
theorem hlen_any {w : World} {hp : Nat} {os : List Ob} {F : List Nat} (h : Hp w hp os F) : Calls Try.prog 16 #[.pointer (some ⟨hp, 0, none⟩)] w fun e w' => e = .returned (.int .i64 (os.length : Int)) ∧ Keeps [] w w' := by
  obtain ⟨sv, h⟩ := h
  obtain ⟨a, cap, hs, _⟩ := h.obs.len
  have p0 := hcell h.box 0
  rw [hs] at p0
  generalize os.length = n at *
  clear h hs
  go_enter Try.func16, Try.ntmps16
  go_wp2
  go_ret
  exact ⟨rfl, Keeps.refl _ _⟩
theorem hlen_nil (w : World) : Calls Try.prog 16 #[.pointer none] w fun e w' => e = .returned (.int .i64 0) ∧ Keeps [] w w' := by
  go_enter Try.func16, Try.ntmps16
  go_wp2
  go_ret
  exact ⟨rfl, Keeps.refl _ _⟩
theorem rzero_any (t : Int × Int) (w : World) : Calls Try.prog 10 #[tyV t] w fun e w' => e = .returned (vlV (zeroV t)) ∧ Keeps [] w w' := by
  obtain ⟨k, n⟩ := t
  by_cases h : k = 0
  · subst h
    go_enter Try.func10, Try.ntmps10
    go_wp2
    exact bodyPost_ret (v := vlV (0, 0, false)) (by simp [results, Try.results10, go_sem]) rfl ⟨rfl, (Keeps.alloc [] _ _).quiet (Keeps.alloc [] _ _)⟩
  · have hz : zeroV (k, n) = (1, 0, false) := if_neg h
    rw [hz]
    go_enter Try.func10, Try.ntmps10
    go_wp2
    exact bodyPost_ret (v := vlV (1, 0, false)) (by simp [results, Try.results10, go_sem]) rfl ⟨rfl, (Keeps.alloc [] _ _).quiet (Keeps.alloc [] _ _)⟩
theorem eqv_any (a b : V3) (w : World) : Calls Try.prog 13 #[vlV a, vlV b] w fun e w' => e = .returned (.bool (decide (a = b))) ∧ Keeps [] w w' := by
  obtain ⟨k, n, t⟩ := a
  obtain ⟨k', n', t'⟩ := b
  have hd : decide (((k, n, t) : V3) = (k', n', t')) = (decide (k = k') && (decide (n = n') && (t == t'))) := by
    cases t <;> cases t' <;> simp
  rw [hd]
  clear hd
  by_cases h1 : k = k'
  · subst h1
    by_cases h2 : n = n'
    · subst h2
      cases t <;> cases t' <;> (
        go_enter Try.func13, Try.ntmps13
        go_wp2
        go_ret
        exact ⟨by simp, (Keeps.alloc [] _ _).quiet (Keeps.alloc [] _ _)⟩)
    · go_enter Try.func13, Try.ntmps13
      go_wp2
      go_ret
      exact ⟨by simp [h2], (Keeps.alloc [] _ _).quiet (Keeps.alloc [] _ _)⟩
  · go_enter Try.func13, Try.ntmps13
    go_wp2
    go_ret
    exact ⟨by simp [h1], (Keeps.alloc [] _ _).quiet (Keeps.alloc [] _ _)⟩
end Go.Proofs.Ytpllhcifoiahpaa
