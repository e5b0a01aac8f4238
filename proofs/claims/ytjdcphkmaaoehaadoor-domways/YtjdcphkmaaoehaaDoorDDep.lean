/-
  Contracts: dom's climb, write, Depth.
-/
import Derived.Test.YtjdcphkmaaoehaaDoorDAbove
namespace Go.Proofs.YtjdcphkmaaoehaaDoor
open Go.RowKit

def depF (U : Nat → Int) (r : Nat) : Nat → Nat → Int
  | 0, _ => 0
  | f + 1, y => if y = r then 0 else depF U r f (U y).toNat + 1
/-- How many stand above y. -/
def depU (g : List (List Nat)) (r : Nat) (U : Nat → Int) (y : Nat) : Int := if rB g r y = true then depF U r g.length y else -1
structure DepOf (g : List (List Nat)) (r : Nat) (U D : Nat → Int) : Prop where
  out : ∀ b, ¬ Pth g noS r b → D b = -1
  root : D r = 0
  next : ∀ b, Pth g noS r b → b ≠ r → ∀ z : Nat, U b = (z : Int) → D b = D z + 1
  low : ∀ b, Pth g noS r b → 0 ≤ D b
  high : ∀ b, Pth g noS r b → D b ≤ (rk g r b : Int)
theorem depF_fuel {g : List (List Nat)} (hg : Ok g) {r : Nat} (hr : r < g.length) {U : Nat → Int} (h : UpOf g r U) : ∀ (f f' y : Nat), Pth g noS r y → rk g r y < f → rk g r y < f' → depF U r f y = depF U r f' y
  | 0, _, _, _, h1, _ => by omega
  | _ + 1, 0, _, _, _, h2 => by omega
  | f + 1, f' + 1, y, hy, h1, h2 => by
    unfold depF
    by_cases e : y = r
    · rw [if_pos e, if_pos e]
    · rw [if_neg e, if_neg e]
      obtain ⟨z, q1, _, q3, _, q5, _⟩ := h.step hg hr hy e
      rw [q1, Int.toNat_natCast, depF_fuel hg hr h f f' z q3 (by omega) (by omega)]
theorem depF_bd {g : List (List Nat)} (hg : Ok g) {r : Nat} (hr : r < g.length) {U : Nat → Int} (h : UpOf g r U) : ∀ (f y : Nat), Pth g noS r y → rk g r y < f → 0 ≤ depF U r f y ∧ depF U r f y ≤ (rk g r y : Int)
  | 0, _, _, h1 => by omega
  | f + 1, y, hy, h1 => by
    unfold depF
    by_cases e : y = r
    · rw [if_pos e]; omega
    · rw [if_neg e]
      obtain ⟨z, q1, _, q3, _, q5, _⟩ := h.step hg hr hy e
      rw [q1, Int.toNat_natCast]
      have := depF_bd hg hr h f z q3 (by omega)
      omega
theorem depU_of {g : List (List Nat)} (hg : Ok g) {r : Nat} (hr : r < g.length) {U : Nat → Int} (h : UpOf g r U) : DepOf g r U (depU g r U) := by
  have hB : ∀ y, rB g r y = true ↔ Pth g noS r y := fun y => rB_iff hg y hr
  have hd : ∀ y, Pth g noS r y → depU g r U y = depF U r g.length y := fun y hy => if_pos ((hB y).2 hy)
  refine ⟨fun b hb => if_neg (fun q => hb ((hB b).1 q)), ?_, fun b hb hne z hz => ?_, fun b hb => ?_, fun b hb => ?_⟩
  · rw [hd r (Pth.refl rfl)]
    obtain ⟨n, hn⟩ : ∃ n, g.length = n + 1 := ⟨g.length - 1, by omega⟩
    rw [hn]
    unfold depF
    rw [if_pos rfl]
  · obtain ⟨z', q1, q2, q3, _, q5, _⟩ := h.step hg hr hb hne
    obtain rfl : z' = z := by omega
    have hlb := rk_lt hg hr hb
    rw [hd b hb, hd z' q3]
    obtain ⟨n, hn⟩ : ∃ n, g.length = n + 1 := ⟨g.length - 1, by omega⟩
    have e1 : depF U r (n + 1) b = depF U r n z' + 1 := by
      show (if b = r then 0 else depF U r n (U b).toNat + 1) = _
      rw [if_neg hne, q1, Int.toNat_natCast]
    rw [hn, e1, depF_fuel hg hr h n (n + 1) z' q3 (by omega) (by omega)]
  · rw [hd b hb]; exact (depF_bd hg hr h _ b hb (rk_lt hg hr hb)).1
  · rw [hd b hb]; exact (depF_bd hg hr h _ b hb (rk_lt hg hr hb)).2

/-- What climb leaves of the depths Dv, from n up to x. -/
structure Cl (g : List (List Nat)) (r n x : Nat) (Dv A : Nat → Int) : Prop where
  on : Dom g r x n
  none : ∀ y, Dom g r y n → ¬ Dom g r y x → A y = -1
  same : ∀ y, ¬ (Dom g r y n ∧ ¬ Dom g r y x) → A y = Dv y
theorem Cl.begin {g : List (List Nat)} {r n : Nat} {Dv : Nat → Int} (h : Pth g noS r n) : Cl g r n n Dv Dv := ⟨Dom.refl h, fun _ h1 h2 => absurd h1 h2, fun _ _ => rfl⟩
theorem Cl.step {g : List (List Nat)} {r n x z : Nat} {Dv A : Nat → Int} (h : Cl g r n x Dv A) (hz : Dom g r z x) (hk : ∀ k, Dom g r k x ↔ k = x ∨ Dom g r k z) (hx : ¬ Dom g r x z) : Cl g r n z Dv (fun i => if i = x then -1 else A i) := by
  refine ⟨hz.trans h.on, fun y h1 h2 => ?_, fun y h1 => ?_⟩
  · by_cases e : y = x
    · simp only [e, if_true]
    · simp only [e, if_false]
      exact h.none y h1 (fun q => ((hk y).1 q).elim e h2)
  · have e : y ≠ x := fun e => h1 ⟨e ▸ h.on, e ▸ hx⟩
    simp only [e, if_false]
    exact h.same y (fun q => h1 ⟨q.1, fun q2 => q.2 ((hk y).2 (.inr q2))⟩)

/-- The list of who stands next above, to be read. -/
def UAt (w : World) (pu N : Nat) (U : Nat → Int) : Prop := ∀ i, i < N → w.cell? ⟨pu, i, none⟩ = some (.int .i64 (U i))
theorem UAt.kept {w w' : World} {pu N : Nat} {U : Nat → Int} {L : List Nat} (h : UAt w pu N U) (k : Keeps L w w') (hp : pu ∉ L) : UAt w' pu N U := by
  intro i hi
  have hc := h i hi
  rw [k.cell (p := ⟨pu, i, none⟩) (block_lt_of_cell hc) hp]
  exact hc

set_option maxRecDepth 20000 in
set_option maxHeartbeats 4000000 in
theorem climb_in (g : List (List Nat)) (hs : Sm g) (r : Nat) (hr : r < g.length) (U D : Nat → Int) (hU : UpOf g r U) (hD : DepOf g r U D) (pu pd base n : Nat) (Dv : Nat → Int) (w : World) (hu : UAt w pu g.length U) (hne : pu ≠ pd) (hd : RowAt w base pd g.length 3 (numI Dv)) (hn : Pth g noS r n) (hv : ∀ y, Pth g noS r y → Dv y = -2 ∨ Dv y = D y) (hvr : Dv r = 0) :
    Calls Tryd.prog 25 #[.slice (some ⟨pu, 0, none⟩) g.length g.length, .slice (some ⟨pd, 0, none⟩) g.length g.length, .int .i64 (n : Int)] w fun e w' => ∃ x A, e = .returned (.int .i64 (D n)) ∧ RowAt w' base pd g.length 3 (numI A) ∧ Cl g r n x Dv A ∧ Dv x = D x ∧ Keeps [pd] w w' := by
  have HS := hid hs
  have HU := hid hU
  have HD := hid hD
  have HUA := hid hu
  have HV := hid hv
  have HVR := hid hvr
  have hg6 := hs.len
  have HR0 := hid hd
  have HC0 := hid (Cl.begin (Dv := Dv) hn)
  have hDn := hD.low n hn
  have hDn2 := hD.high n hn
  have hrkn := rk_lt hs.ok hr hn
  have HHy := hid (fun n N cap w9 h0 h1 => dhas_yes n (some ⟨pu, 0, none⟩) N cap w9 h0 h1)
  have HPL := hid (fun y (h : Pth g noS r y) => h.lt hs.ok hr)
  obtain ⟨N, hN⟩ : ∃ N, g.length = N := ⟨_, rfl⟩
  have HN := hid hN
  have HHr := hid hr
  rw [hN] at HUA hg6 HR0 HPL hrkn ⊢
  have hD6 : D n ≤ 600 := by omega
  clear hs hU hD hu hv hvr hd hN hr
  go_enter Tryd.func25, Tryd.ntmps25
  go_wp2_with fail
  go_loopw [2, 7] (fun nv sv wr => ∃ (x s : Nat) (A : Nat → Int), nv = .int .i64 (x : Int) ∧ sv = .int .i64 (s : Int) ∧ Box ((s : Int) + D x = D n) ∧ Box (Cl g r n x Dv A) ∧ Box (RowAt wr base pd N 3 (numI A)) ∧ Box (Keeps [pd] w wr)) (fun nv _ _ => rk g r (intOf nv).toNat)
  case atStart => exact ⟨n, 0, Dv, rfl, rfl, hid (by omega), HC0, HR0, hid (Keeps.refl _ _)⟩
  case round =>
    clear HC0 HR0
    obtain ⟨x, s, A, rfl, rfl, HSum, HC, HR, HK⟩ := hrel
    have hx : Pth g noS r x := HC.out.on.on
    have hxN := HPL.out x hx
    have hxN' : (x : Int) < (N : Int) := by omega
    have hx6 : x < 600 := by omega
    have hx0 : (0 : Int) ≤ (x : Int) := by omega
    have hAx : A x = Dv x := HC.out.same x (fun q => q.2 (Dom.refl hx))
    have cd := HR.out.cell hxN
    unfold numI at cd
    rw [hAx] at cd
    have HY := hid (fun w9 => HHy.out (x : Int) N N w9 hx0 hxN')
    have hDx := HD.out.low x hx
    have hsum := HSum.out
    by_cases hopen : Dv x = -2
    · have hxr : x ≠ r := fun e => by rw [e, HVR.out] at hopen; omega
      obtain ⟨z, h1, h2, h3, h4, h5, h6, h7⟩ := HU.out.step HS.out.ok HHr.out hx hxr
      have hDz := HD.out.next x hx hxr z h1
      have hDz0 := HD.out.low z h3
      have cu := (HUA.out.kept HK.out (by simp; exact hne)) x hxN
      rw [h1] at cu
      rw [hopen] at cd
      have fd := HR.out.frozen x
      have HC2 := hid (HC.out.step h6 h7 (fun q => h4 (Dom.anti HS.out.ok HHr.out h6 q)))
      have HR2 := hid (numI_put HR.out x (-1))
      have ks : Keeps [pd] wr (wr.setCell ⟨pd, x, none⟩ (.int .i64 (-1))) := Keeps.setCell _ _ _ _ (by simp)
      have HK2 := hid (HK.out.step ks)
      have cu2 : (wr.setCell ⟨pd, x, none⟩ (.int .i64 (-1))).cell? ⟨pu, x, none⟩ = some (.int .i64 (z : Int)) := by
        rw [ks.cell (p := ⟨pu, x, none⟩) (block_lt_of_cell cu) (by simp; exact hne)]
        exact cu
      have hs6 : (s : Int) ≤ 600 := by omega
      have HS2 : Box (((s + 1 : Nat) : Int) + D z = D n) := hid (by omega)
      have hrkz := hid h5
      clear h1 h2 h3 h4 h5 h6 h7 hopen hAx HC HR HK hDz hDz0 hsum HSum hDx hx cu
      go_wp2_with (first | (go_at_call 24; refine (HY.out _).mono ?_; rintro e w9 ⟨rfl, hw9⟩; rw [hw9]; clear hw9))
      go_roundw
      case rel => exact ⟨z, s + 1, _, rfl, by go_num, HS2, HC2, HR2, HK2⟩
      case measure => simp [intOf]; exact hrkz.out
    · have hfin : Dv x = D x := (HV.out x hx).resolve_left hopen
      rw [hfin] at cd
      have HF := hid hfin
      have hb1 : (D x == (-2)) = false := by rw [beq_eq_false_iff_ne]; omega
      have hb2 : (D x == (-1)) = false := by rw [beq_eq_false_iff_ne]; omega
      clear hopen hfin hAx hsum hx
      obtain ⟨q, hq⟩ : ∃ q, D x = q := ⟨_, rfl⟩
      have hqs : q + (s : Int) = D n := by have := HSum.out; omega
      rw [hq] at cd hb1 hb2 hDx
      clear hq
      go_wp2_with (first | (go_at_call 24; refine (HY.out _).mono ?_; rintro e w9 ⟨rfl, hw9⟩; rw [hw9]; clear hw9))
      go_ret
      exact ⟨x, A, by first | rfl | (rw [← hqs]; rfl), HR.out, HC.out, HF.out, HK.out⟩

set_option maxRecDepth 20000 in
set_option maxHeartbeats 4000000 in
theorem climb_out (N : Nat) (hg6 : N ≤ 600) (U : Nat → Int) (pu pd base n : Nat) (Dv : Nat → Int) (w : World) (hu : UAt w pu N U) (hne : pu ≠ pd) (hd : RowAt w base pd N 3 (numI Dv)) (hn : n < N) (hUn : U n = -1) (hv : Dv n = -2 ∨ Dv n = -1) :
    Calls Tryd.prog 25 #[.slice (some ⟨pu, 0, none⟩) N N, .slice (some ⟨pd, 0, none⟩) N N, .int .i64 (n : Int)] w fun e w' => e = .returned (.int .i64 (-1)) ∧ RowAt w' base pd N 3 (numI fun i => if i = n then -1 else Dv i) ∧ Keeps [pd] w w' := by
  have HR0 := hid hd
  have HUA := hid hu
  have cu := hu n hn
  rw [hUn] at cu
  have cd := hd.cell hn
  unfold numI at cd
  have fd := hd.frozen n
  have hn' : (n : Int) < (N : Int) := by omega
  have hn0 : (0 : Int) ≤ (n : Int) := by omega
  have hn6 : n < 600 := by omega
  have HY := hid (fun w9 => dhas_yes (n : Int) (some ⟨pu, 0, none⟩) N N w9 hn0 hn')
  have HZ := hid (fun w9 => dhas_no (-1) (some ⟨pu, 0, none⟩) N N w9 (by omega))
  have ks : Keeps [pd] w (w.setCell ⟨pd, n, none⟩ (.int .i64 (-1))) := Keeps.setCell _ _ _ _ (by simp)
  have HR2 := hid (numI_put hd n (-1))
  clear hd hu hUn
  rcases hv with hv | hv
  · rw [hv] at cd
    clear hv
    have cu2 : (w.setCell ⟨pd, n, none⟩ (.int .i64 (-1))).cell? ⟨pu, n, none⟩ = some (.int .i64 (-1)) := by
      rw [ks.cell (p := ⟨pu, n, none⟩) (block_lt_of_cell cu) (by simp; exact hne)]
      exact cu
    go_enter Tryd.func25, Tryd.ntmps25
    go_wp2_with fail
    go_loopw [2, 7] (fun nv sv wr => (nv = .int .i64 (n : Int) ∧ sv = .int .i64 0 ∧ wr = w) ∨ (nv = .int .i64 (-1) ∧ sv = .int .i64 1 ∧ wr = w.setCell ⟨pd, n, none⟩ (.int .i64 (-1)))) (fun nv _ _ => (intOf nv + 1).toNat)
    case atStart => exact .inl ⟨rfl, rfl, rfl⟩
    case round =>
      rcases hrel with ⟨rfl, rfl, rfl⟩ | ⟨rfl, rfl, rfl⟩
      · go_wp2_with (first | (go_at_call 24; refine (HY.out _).mono ?_; rintro e w9 ⟨rfl, hw9⟩; rw [hw9]; clear hw9))
        go_roundw
        case rel => first | exact .inr ⟨rfl, rfl, rfl⟩ | exact .inr ⟨rfl, trivial⟩ | simp
        case measure => simp [intOf]
      · clear cd fd cu cu2
        generalize w.setCell ⟨pd, n, none⟩ (.int .i64 (-1)) = w2 at ks HR2 ⊢
        go_wp2_with (first | (go_at_call 24; refine (HZ.out _).mono ?_; rintro e w9 ⟨rfl, hw9⟩; rw [hw9]; clear hw9))
        go_ret
        exact ⟨rfl, HR2.out, ks⟩
  · rw [hv] at cd
    have HV := hid hv
    clear hv
    go_enter Tryd.func25, Tryd.ntmps25
    go_wp2_with fail
    go_loopw [2, 7] (fun nv sv wr => nv = .int .i64 (n : Int) ∧ sv = .int .i64 0 ∧ wr = w) (fun _ _ _ => 0)
    case atStart => exact ⟨rfl, rfl, rfl⟩
    case round =>
      obtain ⟨rfl, rfl, rfl⟩ := hrel
      go_wp2_with (first | (go_at_call 24; refine (HY.out _).mono ?_; rintro e w9 ⟨rfl, hw9⟩; rw [hw9]; clear hw9))
      go_ret
      exact ⟨rfl, HR0.out.congr (fun i _ => by unfold numI; by_cases e : i = n <;> simp [e, HV.out]), Keeps.refl _ _⟩

/-- In the midst of write: from n up to c the depths are written. -/
structure Wr (g : List (List Nat)) (r n x c : Nat) (Dv D A : Nat → Int) : Prop where
  on : Dom g r c n
  up : Dom g r x c
  wrt : ∀ y, Dom g r y n → ¬ Dom g r y c → A y = D y
  rest : ∀ y, Dom g r y n → ¬ Dom g r y x → Dom g r y c → A y = -1
  same : ∀ y, ¬ (Dom g r y n ∧ ¬ Dom g r y x) → A y = Dv y

set_option maxRecDepth 20000 in
set_option maxHeartbeats 4000000 in
theorem write_any (g : List (List Nat)) (hs : Sm g) (r : Nat) (hr : r < g.length) (U D : Nat → Int) (hU : UpOf g r U) (hD : DepOf g r U D) (pu pd base n x : Nat) (Dv A : Nat → Int) (w : World) (hu : UAt w pu g.length U) (hne : pu ≠ pd) (hd : RowAt w base pd g.length 3 (numI A)) (hc : Cl g r n x Dv A) (hx : Dv x = D x) :
    Calls Tryd.prog 26 #[.slice (some ⟨pu, 0, none⟩) g.length g.length, .slice (some ⟨pd, 0, none⟩) g.length g.length, .int .i64 (n : Int), .int .i64 (D n)] w fun e w' => ∃ A', e = .returned (.tuple #[]) ∧ RowAt w' base pd g.length 3 (numI A') ∧ Wr g r n x x Dv D A' ∧ Keeps [pd] w w' := by
  have HS := hid hs
  have HU := hid hU
  have HD := hid hD
  have HUA := hid hu
  have hg6 := hs.len
  have HR0 := hid hd
  have HX := hid hx
  have HW0 : Box (Wr g r n x n Dv D A) := hid ⟨Dom.refl hc.on.1, hc.on, fun y h1 h2 => absurd h1 h2, fun y h1 h2 _ => hc.none y h1 h2, hc.same⟩
  have HPL := hid (fun y (h : Pth g noS r y) => h.lt hs.ok hr)
  have HDB : Box (∀ y, Pth g noS r y → 0 ≤ D y ∧ D y ≤ 600) := hid (fun y hy => ⟨hD.low y hy, by have := hD.high y hy; have := rk_lt hs.ok hr hy; omega⟩)
  obtain ⟨N, hN⟩ : ∃ N, g.length = N := ⟨_, rfl⟩
  have HN := hid hN
  have HHr := hid hr
  rw [hN] at HUA hg6 HR0 HPL ⊢
  clear hs hU hD hu hd hc hx hN hr
  go_enter Tryd.func26, Tryd.ntmps26
  go_wp2_with fail
  go_loopw [2, 3] (fun cv dv wr => ∃ (c : Nat) (A' : Nat → Int), cv = .int .i64 (c : Int) ∧ dv = .int .i64 (D c) ∧ Box (Wr g r n x c Dv D A') ∧ Box (RowAt wr base pd N 3 (numI A')) ∧ Box (Keeps [pd] w wr)) (fun cv _ _ => rk g r (intOf cv).toNat)
  case atStart => exact ⟨n, A, rfl, rfl, HW0, HR0, hid (Keeps.refl _ _)⟩
  case round =>
    clear HW0 HR0
    obtain ⟨c, A', rfl, rfl, HW, HR, HK⟩ := hrel
    have hcp : Pth g noS r c := HW.out.on.on
    have hcN := HPL.out c hcp
    have hcN' : (c : Int) < (N : Int) := by omega
    have hc6 : c < 600 := by omega
    have hDc := HDB.out c hcp
    have cd := HR.out.cell hcN
    unfold numI at cd
    by_cases hcx : c = x
    · subst hcx
      have e1 : A' c = D c := by rw [HW.out.same c (fun q => q.2 (Dom.refl hcp)), HX.out]
      rw [e1] at cd
      have hb : (D c == (-1)) = false := by rw [beq_eq_false_iff_ne]; omega
      clear e1 hcp
      generalize D c = q at cd hb hDc
      go_wp2
      go_end0
      exact ⟨A', rfl, HR.out, HW.out, HK.out⟩
    · have hncx : ¬ Dom g r c x := fun q => hcx (Dom.anti HS.out.ok HHr.out q HW.out.up)
      have e1 : A' c = -1 := HW.out.rest c HW.out.on hncx (Dom.refl hcp)
      rw [e1] at cd
      have hcr : c ≠ r := fun e => hcx (by
        have := HW.out.up
        rw [e] at this
        rw [e, dom_root.1 this])
      obtain ⟨z, h1, h2, h3, h4, h5, h6, h7⟩ := HU.out.step HS.out.ok HHr.out hcp hcr
      have hDz := HD.out.next c hcp hcr z h1
      have hncz : ¬ Dom g r c z := fun q => h4 (Dom.anti HS.out.ok HHr.out h6 q)
      have cu := (HUA.out.kept HK.out (by simp; exact hne)) c hcN
      rw [h1] at cu
      have fd := HR.out.frozen c
      have ks : Keeps [pd] wr (wr.setCell ⟨pd, c, none⟩ (.int .i64 (D c))) := Keeps.setCell _ _ _ _ (by simp)
      have HR2 := hid (numI_put HR.out c (D c))
      have HK2 := hid (HK.out.step ks)
      have cu2 : (wr.setCell ⟨pd, c, none⟩ (.int .i64 (D c))).cell? ⟨pu, c, none⟩ = some (.int .i64 (z : Int)) := by
        rw [ks.cell (p := ⟨pu, c, none⟩) (block_lt_of_cell cu) (by simp; exact hne)]
        exact cu
      have HW2 : Box (Wr g r n x z Dv D (fun i => if i = c then D c else A' i)) := hid (by
        refine ⟨h6.trans HW.out.on, ((h7 x).1 HW.out.up).resolve_left (fun e => hcx e.symm), fun y q1 q2 => ?_, fun y q1 q2 q3 => ?_, fun y q1 => ?_⟩
        · by_cases e : y = c
          · simp only [e, if_true]
          · simp only [e, if_false]
            exact HW.out.wrt y q1 (fun q => ((h7 y).1 q).elim e q2)
        · have e : y ≠ c := fun e => hncz (e ▸ q3)
          simp only [e, if_false]
          exact HW.out.rest y q1 q2 ((h7 y).2 (.inr q3))
        · have e : y ≠ c := fun e => q1 (e ▸ ⟨HW.out.on, hncx⟩)
          simp only [e, if_false]
          exact HW.out.same y q1)
      have hDzc : Box (D c - 1 = D z) := hid (by omega)
      have hrkz := hid h5
      clear h1 h2 h3 h4 h5 h6 h7 e1 hncx hncz hcr HW HR HK hDz hcp cu
      obtain ⟨q, hq⟩ : ∃ q, D c = q := ⟨_, rfl⟩
      rw [hq] at HR2 HK2 cu2 hDc hDzc HW2 ⊢
      clear hq ks
      go_wp2
      go_roundw
      case rel => exact ⟨z, _, rfl, by rw [← hDzc.out], HW2, HR2, HK2⟩
      case measure => simp [intOf]; exact hrkz.out

/-- What the depths are when k nodes are done with. -/
structure DK (g : List (List Nat)) (r k : Nat) (D Dv : Nat → Int) : Prop where
  reach : ∀ y, Pth g noS r y → Dv y = -2 ∨ Dv y = D y
  out : ∀ y, ¬ Pth g noS r y → Dv y = -2 ∨ Dv y = -1
  root : Dv r = 0
  done : ∀ y, y < k → Dv y = D y
theorem up_self {g : List (List Nat)} (hg : Ok g) {r : Nat} (hr : r < g.length) {U : Nat → Int} (h : UpOf g r U) {y : Nat} (hy : y < g.length) : U y = (y : Int) ↔ y = r := by
  constructor
  · intro e
    apply Classical.byContradiction
    intro hne
    by_cases hp : Pth g noS r y
    · obtain ⟨z, h1, _, _, h4, _⟩ := h.step hg hr hp hne
      omega
    · have := h.out y hy hp
      omega
  · rintro rfl
    exact h.root
theorem DK.write {g : List (List Nat)} (hg : Ok g) {r k x : Nat} (hr : r < g.length) {D Dv A' : Nat → Int} (h : DK g r k D Dv) (hk : Pth g noS r k) (hw : Wr g r k x x Dv D A') (hx : Dv x = D x) (h0 : D r = 0) : DK g r (k + 1) D A' := by
  have key : ∀ y, A' y = D y ∨ A' y = Dv y := by
    intro y
    by_cases hy : Dom g r y k ∧ ¬ Dom g r y x
    · exact .inl (hw.wrt y hy.1 hy.2)
    · exact .inr (hw.same y hy)
  have hk2 : A' k = D k := by
    by_cases e : Dom g r k x
    · rw [hw.same k (fun q => q.2 e), Dom.anti hg hr e hw.on]
      exact hx
    · exact hw.wrt k (Dom.refl hk) e
  refine ⟨fun y hy => ?_, fun y hy => ?_, ?_, fun y hy => ?_⟩
  · rcases key y with e | e
    · exact .inr e
    · rw [e]; exact h.reach y hy
  · rw [hw.same y (fun q => hy q.1.on)]
    exact h.out y hy
  · rcases key r with e | e
    · rw [e, h0]
    · rw [e, h.root]
  · by_cases e : y = k
    · rw [e]; exact hk2
    · rcases key y with e1 | e1
      · exact e1
      · rw [e1]; exact h.done y (by omega)
theorem DK.pass {g : List (List Nat)} {r k : Nat} {D Dv : Nat → Int} (h : DK g r k D Dv) (hk : ¬ Pth g noS r k) (hD : D k = -1) : DK g r (k + 1) D (fun i => if i = k then -1 else Dv i) := by
  have hrk : r ≠ k := fun e => hk (e ▸ Pth.refl rfl)
  refine ⟨fun y hy => ?_, fun y hy => ?_, ?_, fun y hy => ?_⟩
  · have e : y ≠ k := fun e => hk (e ▸ hy)
    simp only [e, if_false]
    exact h.reach y hy
  · by_cases e : y = k
    · simp [e]
    · simp only [e, if_false]; exact h.out y hy
  · simp only [hrk, if_false]; exact h.root
  · by_cases e : y = k
    · simp only [e, if_true, hD]
    · simp only [e, if_false]; exact h.done y (by omega)

set_option maxRecDepth 20000 in
set_option maxHeartbeats 4000000 in
theorem depth_any (g : List (List Nat)) (hs : Sm g) (r : Nat) (hr : r < g.length) (U D : Nat → Int) (hU : UpOf g r U) (hD : DepOf g r U D) (pu : Nat) (w : World) (hu : UAt w pu g.length U) (hpu : pu < w.heap.size) :
    Calls Tryd.prog 11 #[.slice (some ⟨pu, 0, none⟩) g.length g.length] w fun e w' => ∃ pd, e = .returned (.slice (some ⟨pd, 0, none⟩) g.length g.length) ∧ RowAt w' w.heap.size pd g.length 3 (numI D) ∧ Keeps [] w w' := by
  have HS := hid hs
  have HU := hid hU
  have HD := hid hD
  have HUA := hid hu
  have hg6 := hs.len
  have HCI := hid (fun pd base n Dv w9 h1 h2 h3 h4 h5 h6 => climb_in g hs r hr U D hU hD pu pd base n Dv w9 h1 h2 h3 h4 h5 h6)
  have HWR := hid (fun pd base n x Dv A w9 h1 h2 h3 h4 h5 => write_any g hs r hr U D hU hD pu pd base n x Dv A w9 h1 h2 h3 h4 h5)
  have HSE := hid (fun y (hy : y < g.length) => up_self hs.ok hr hU hy)
  have HHr := hid hr
  obtain ⟨N, hN⟩ : ∃ N, g.length = N := ⟨_, rfl⟩
  have HN := hid hN
  rw [hN] at HUA hg6 HCI HWR hr HSE ⊢
  have HCO := hid (fun pd base n Dv w9 h1 h2 h3 h4 h5 h6 => climb_out N hg6 U pu pd base n Dv w9 h1 h2 h3 h4 h5 h6)
  clear hs hU hD hu hN
  have hww : w.heap.size ≤ w.heap.size := Nat.le_refl _
  go_enter Tryd.func11, Tryd.ntmps11
  go_wp2_with (at_make; go_must (refine wpList_make_full _ rfl _ _ 28 rfl w.heap.size 3 Tryd.t3 (.int .i64 0) 1 under_ints info_int zero_int size_int .i64 .i64 _ _ N rfl rfl rfl rfl (by rw [bytes_int]; omega) (by unfold maxLen; omega) hww ?_; intro w2 hown2 hgrow2))
  have k2 : Keeps [] w w2 := Keeps.grown [] hgrow2 (by simp)
  have R2 : Box (RowAt w2 w.heap.size w.heap.size N 3 (numI fun i => if i < 0 ∧ U i ≠ (i : Int) then -2 else 0)) := hid ((RowAt.made hown2 rfl).congr (fun i _ => by unfold numI; simp))
  have K2 := hid k2
  clear hown2 hgrow2 k2 hww
  obtain ⟨pd, hpd⟩ : ∃ pd, w.heap.size = pd := ⟨_, rfl⟩
  have hne : pu ≠ pd := by omega
  have HPD := hid hpd
  rw [hpd] at R2 ⊢
  clear hpd
  go_loopw [13] (fun iv wr => ∃ k : Nat, iv = .int .i64 (k : Int) ∧ k ≤ N ∧ Box (RowAt wr pd pd N 3 (numI fun i => if i < k ∧ U i ≠ (i : Int) then -2 else 0)) ∧ Box (Keeps [] w wr)) (fun iv _ => N - (intOf iv).toNat)
  case atStart => exact ⟨0, rfl, by omega, R2, K2⟩
  case round =>
    clear R2 K2
    obtain ⟨k, rfl, hk, HR, HK⟩ := hrel
    by_cases hlt : k < N
    · have hlt' : (k : Int) < (N : Int) := by omega
      have cu := (HUA.out.kept HK.out (by simp)) k hlt
      have cd := HR.out.cell hlt
      have fd := HR.out.frozen k
      by_cases hkr : U k = (k : Int)
      · have hb : (U k != (k : Int)) = false := by rw [hkr]; simp
        have HR2 : Box (RowAt wr pd pd N 3 (numI fun i => if i < k + 1 ∧ U i ≠ (i : Int) then -2 else 0)) := hid (HR.out.congr (fun i _ => by
          unfold numI
          by_cases e : i = k
          · subst e; simp [hkr]
          · have : i < k + 1 ↔ i < k := by omega
            simp only [this]))
        clear HR hkr
        generalize U k = u at cu hb
        go_wp2
        go_roundw
        case rel => exact ⟨k + 1, by go_num, by omega, HR2, HK⟩
        case measure => simp [intOf]; omega
      · have hb : (U k != (k : Int)) = true := by rw [bne_iff_ne]; exact hkr
        have HR2 : Box (RowAt (wr.setCell ⟨pd, k, none⟩ (.int .i64 (-2))) pd pd N 3 (numI fun i => if i < k + 1 ∧ U i ≠ (i : Int) then -2 else 0)) := hid ((numI_put HR.out k (-2)).congr (fun i _ => by
          unfold numI
          by_cases e : i = k
          · subst e; simp [hkr]
          · have : i < k + 1 ↔ i < k := by omega
            simp only [this, e, if_false]))
        have HK2 := hid (HK.out.fresh (Keeps.setCell [pd] wr ⟨pd, k, none⟩ (.int .i64 (-2)) (by simp)) (fun x hx => by simp at hx; have := HPD.out; omega))
        clear HR HK hkr
        generalize U k = u at cu hb
        go_wp2
        go_roundw
        case rel => exact ⟨k + 1, by go_num, by omega, HR2, HK2⟩
        case measure => simp [intOf]; omega
    · obtain rfl : k = N := by omega
      have HR3 : Box (RowAt wr pd pd k 3 (numI fun i => if i = r then 0 else -2)) := hid (HR.out.congr (fun i hi => by
        unfold numI
        have h1 := HSE.out i hi
        by_cases e : i = r
        · have h2 := h1.2 e
          simp only [e, if_true]
          rw [e] at h2
          simp [h2]
        · have h2 : U i ≠ (i : Int) := fun q => e (h1.1 q)
          simp only [e, if_false]
          rw [if_pos ⟨hi, h2⟩]))
      have D3 : Box (DK g r 0 D (fun i => if i = r then 0 else -2)) := hid (by
        refine ⟨fun y hy => ?_, fun y hy => ?_, if_pos rfl, fun y hy => by omega⟩
        · by_cases e : y = r
          · subst e; simp only [if_true]; exact .inr HD.out.root.symm
          · simp only [e, if_false]; exact .inl trivial
        · by_cases e : y = r
          · exact absurd (Pth.refl (g := g) (s := noS) (a := r) rfl) (e ▸ hy)
          · simp only [e, if_false]; exact .inl trivial)
      clear HR
      go_wp2_with fail
      go_loopw [27] (fun iv wr => ∃ (j : Nat) (Dv : Nat → Int), iv = .int .i64 (j : Int) ∧ j ≤ k ∧ Box (RowAt wr pd pd k 3 (numI Dv)) ∧ Box (DK g r j D Dv) ∧ Box (Keeps [] w wr)) (fun iv _ => k - (intOf iv).toNat)
      case atStart => exact ⟨0, _, rfl, by omega, HR3, D3, HK⟩
      case round =>
        clear HR3 D3 HK
        obtain ⟨j, Dv, rfl, hj, HR, HDK, HK⟩ := hrel
        by_cases hlt : j < k
        · have hlt' : (j : Int) < (k : Int) := by omega
          have hj6 : j < 600 := by omega
          by_cases hp : Pth g noS r j
          · have HC := hid (HCI.out pd pd j Dv wr (HUA.out.kept HK.out (by simp)) hne HR.out hp HDK.out.reach HDK.out.root)
            have hDj := HD.out.low j hp
            have hb : (D j != (-1)) = true := by rw [bne_iff_ne]; omega
            have HP := hid hp
            clear hp
            go_wp2_with fail
            refine HC.out.mono ?_
            rintro e w3 ⟨x, A, rfl, h3, c3, x3, k3⟩
            have K3 := hid (HK.out.fresh k3 (fun y hy => by simp at hy; have := HPD.out; omega))
            have HC2 := hid (HWR.out pd pd j x Dv A w3 (HUA.out.kept K3.out (by simp)) hne h3 c3 x3)
            have X3 := hid x3
            clear h3 c3 x3 k3 HC
            go_wp2_with fail
            refine HC2.out.mono ?_
            rintro e w4 ⟨A', rfl, h4, c4, k4⟩
            have R4 := hid h4
            have D4 := hid (HDK.out.write HS.out.ok HHr.out HP.out c4 X3.out HD.out.root)
            have K4 := hid (K3.out.fresh k4 (fun y hy => by simp at hy; have := HPD.out; omega))
            clear h4 c4 k4 HC2
            go_wp2_with fail
            go_roundw
            case rel => exact ⟨j + 1, A', by go_num, by omega, R4, D4, K4⟩
            case measure => simp [intOf]; omega
          · have HC := hid (HCO.out pd pd j Dv wr (HUA.out.kept HK.out (by simp)) hne HR.out hlt (HU.out.out j (by rw [HN.out]; exact hlt) hp) (HDK.out.out j hp))
            have D4 := hid (HDK.out.pass hp (HD.out.out j hp))
            clear hp
            go_wp2_with fail
            refine HC.out.mono ?_
            rintro e w3 ⟨rfl, h3, k3⟩
            have K3 := hid (HK.out.fresh k3 (fun y hy => by simp at hy; have := HPD.out; omega))
            have R3 := hid h3
            clear h3 k3 HC
            go_wp2_with fail
            go_roundw
            case rel => exact ⟨j + 1, _, by go_num, by omega, R3, D4, K3⟩
            case measure => simp [intOf]; omega
        · obtain rfl : j = k := by omega
          go_wp2
          go_ret
          exact ⟨pd, rfl, (HR.out.congr (fun i hi => by unfold numI; rw [HDK.out.done i hi])).base (Nat.le_of_eq HPD.out), HK.out⟩
end Go.Proofs.YtjdcphkmaaoehaaDoor
