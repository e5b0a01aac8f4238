/-
  Frontiers in memory; contracts: front's over and mark.
-/
import Derived.Test.YtlnimcpmkammfaaDoorFPl
import Derived.Test.YtlnimcpmkammfaaDoorDDomB
import Derived.Test.YtlnimcpmkammfaaDoorJoin
import Derived.Deep.LoopGhost
import Derived.Deep.DeepCutAuto
namespace Go.Proofs.YtlnimcpmkammfaaDoor
open Go.RowKit

/-- A list at block p of N pointers to sets of its own: the k-th, at block q k, holds F k. -/
structure FrM (w : World) (base p N : Nat) (q : Nat → Nat) (F : Nat → Nat → Bool) : Prop where
  row : RowAt w base p N 33 (fun i => .pointer (some ⟨q i, 0, none⟩))
  set : ∀ i, i < N → SetAt w (q i) (F i)
  fit : ∀ i, i < N → Fit (F i)
  low : ∀ i, i < N → base ≤ q i ∧ q i ≠ p
  inj : ∀ i j, i < N → j < N → q i = q j → i = j
/-- Its sets' blocks. -/
def qs (q : Nat → Nat) (N : Nat) : List Nat := (List.range N).map q
theorem mem_qs {q : Nat → Nat} {N x : Nat} : x ∈ qs q N ↔ ∃ i, i < N ∧ q i = x := by
  unfold qs
  rw [List.mem_map]
  constructor
  · rintro ⟨i, h1, h2⟩
    exact ⟨i, List.mem_range.1 h1, h2⟩
  · rintro ⟨i, h1, h2⟩
    exact ⟨i, List.mem_range.2 h1, h2⟩
theorem FrM.kept {w w' : World} {base p N : Nat} {q : Nat → Nat} {F : Nat → Nat → Bool} {L : List Nat} (h : FrM w base p N q F) (k : Keeps L w w') (hL : ∀ x, x ∈ L → x < base ∨ w.heap.size ≤ x) : FrM w' base p N q F :=
  ⟨h.row.kept k fun hx => by have := hL p hx; have := h.row.lt; omega, fun i hi => (h.set i hi).kept k fun hx => by have := hL _ hx; have := (h.low i hi).1; have := (h.set i hi).lt; omega, h.fit, h.low, h.inj⟩
theorem FrM.quiet {w w' : World} {base p N : Nat} {q : Nat → Nat} {F : Nat → Nat → Bool} (h : FrM w base p N q F) (k : Keeps [] w w') : FrM w' base p N q F := h.kept k (by simp)
theorem FrM.cell {w : World} {base p N : Nat} {q : Nat → Nat} {F : Nat → Nat → Bool} (h : FrM w base p N q F) {k : Nat} (hk : k < N) : w.cell? ⟨p, k, none⟩ = some (.pointer (some ⟨q k, 0, none⟩)) := h.row.cell hk
theorem FrM.add {w w' : World} {base p N n b : Nat} {q : Nat → Nat} {F : Nat → Nat → Bool} (h : FrM w base p N q F) (hn : n < N) (hb : b < 5000) (hs : SetAt w' (q n) (insI (F n) (b : Int))) (k : Keeps [q n] w w') : FrM w' base p N q (ins2 F n b) := by
  refine ⟨h.row.kept k (by simp; exact fun e => (h.low n hn).2 e.symm), fun i hi => ?_, fun i hi => ?_, h.low, h.inj⟩
  · by_cases e : i = n
    · subst e
      rw [ins2_at _ _ _ hb]
      exact hs
    · rw [ins2_off _ _ e]
      exact (h.set i hi).kept k (by simp; exact fun e2 => e (h.inj i n hi hn e2))
  · by_cases e : i = n
    · subst e
      rw [ins2_at _ _ _ hb]
      exact (h.fit i hi).ins _
    · rw [ins2_off _ _ e]
      exact h.fit i hi

set_option maxHeartbeats 400000 in
theorem over_any (g : List (List Nat)) (hs : Sm g) (U : Nat → Int) (pu : Nat) (w : World) (hu : UAt w pu g.length U) (b : Nat) (hb : b < g.length) :
    Calls Tryd.prog 43 #[.slice (some ⟨pu, 0, none⟩) g.length g.length, .int .i64 (b : Int)] w fun e w' => e = .returned (.int .i64 (endI U b)) ∧ w' = w := by
  have cb := hu b hb
  have hg6 := hs.len
  have hb' : (b : Int) < (g.length : Int) := by omega
  have hb6 : b < 600 := by omega
  unfold endI
  clear hu hs
  generalize g.length = N at *
  generalize U b = x at *
  by_cases h : x = (b : Int)
  · have h1 : (x == (b : Int)) = true := beq_iff_eq.2 h
    rw [if_pos h]
    clear h
    go_enter Tryd.func43, Tryd.ntmps43
    go_wp2
    go_ret
    exact ⟨rfl, rfl⟩
  · have h1 : (x == (b : Int)) = false := beq_eq_false_iff_ne.2 h
    rw [if_neg h]
    clear h
    go_enter Tryd.func43, Tryd.ntmps43
    go_wp2
    go_ret
    exact ⟨rfl, rfl⟩

set_option maxRecDepth 20000 in
set_option maxHeartbeats 4000000 in
theorem mark_any (g : List (List Nat)) (hs : Sm g) (r : Nat) (hr : r < g.length) (U : Nat → Int) (hU : UpOf g r U) (p pu base c b : Nat) (q : Nat → Nat) (F : Nat → Nat → Bool) (w : World) (hM : FrM w base p g.length q F) (hu : UAt w pu g.length U) (hpu : pu < base) (hc : Pth g noS r c) (he : b ∈ nb g c) (hF : UpC g r b F) :
    Calls Tryd.prog 27 #[.slice (some ⟨p, 0, none⟩) g.length g.length, .slice (some ⟨pu, 0, none⟩) g.length g.length, .int .i64 (c : Int), .int .i64 (b : Int)] w fun e w' => e = .returned (.tuple #[]) ∧ ∃ F', FrM w' base p g.length q F' ∧ MkDone g r c b F F' ∧ Keeps (qs q g.length) w w' := by
  have hg6 := hs.len
  have hcN := hc.lt hs.ok hr
  have hbN := hs.ok c b he
  have HOV := hid (fun w9 h9 => over_any g hs U pu w9 h9 b hbN)
  have HM0 := hid hM
  have HST0 := hid (MkSt.start (F := F) hc he)
  have HMU := hid hu
  have HP := hid hpu
  have hbp : Pth g noS r b := hc.snoc he rfl
  have HEND : Box (∀ (n : Nat) (F' : Nat → Nat → Bool), MkSt g r c b F F' n → (n : Int) = endI U b → MkDone g r c b F F') := hid (fun n F' h e => by
    by_cases hbr : b = r
    · subst hbr
      rw [endI_root hU] at e
      omega
    · obtain ⟨z, h1, h2, _⟩ := endI_next hs.ok hr hU hbp hbr
      obtain rfl : n = z := by omega
      exact h.ends hs.ok hr h2)
  have HSTOP : Box (∀ (n : Nat) (F' : Nat → Nat → Bool), MkSt g r c b F F' n → F' n b = true → MkDone g r c b F F') := hid (fun n F' h e => h.stop hF e)
  have HSTEP : Box (∀ (n : Nat) (F' : Nat → Nat → Bool), MkSt g r c b F F' n → (n : Int) ≠ endI U b → F' n b = false → ∃ z : Nat, U n = (z : Int) ∧ z < g.length ∧ MkSt g r c b F (ins2 F' n b) z ∧ mkM g r b (ins2 F' n b) z < mkM g r b F' n) := hid (fun n F' h h1 h2 => h.step hs.ok hr hU hbp h1 h2)
  obtain ⟨N, hN⟩ : ∃ N, g.length = N := ⟨_, rfl⟩
  rw [hN] at hg6 hcN hbN HOV HM0 HMU HSTEP ⊢
  have hb5 : b < 5000 := by omega
  clear hM hu hc he hF hs hr hU hpu hbp hN
  generalize endI U b = en at HOV HEND HSTEP
  go_enter Tryd.func27, Tryd.ntmps27
  go_wp2_with fail
  refine (HOV.out w HMU.out).mono ?_
  rintro e w1 ⟨rfl, hw1⟩
  subst hw1
  clear HOV
  go_wp2_with fail
  go_loopg [2] (mkM g r b F c) (fun gq nv wr => ∃ (n : Nat) (F' : Nat → Nat → Bool), nv = .int .i64 (n : Int) ∧ n < N ∧ mkM g r b F' n ≤ gq ∧ Box (MkSt g r c b F F' n) ∧ Box (FrM wr base p N q F') ∧ Box (Keeps (qs q N) w1 wr))
  case atStart => exact ⟨c, F, rfl, hcN, Nat.le_refl _, HST0, HM0, hid (Keeps.refl _ _)⟩
  case round =>
    clear HST0 HM0 hcN
    obtain ⟨n, F', rfl, hn, hq, HST, HM, HK⟩ := hrel
    have hn' : (n : Int) < (N : Int) := by omega
    have hn6 : n < 600 := by omega
    by_cases hen : (n : Int) = en
    · have h1 : ((n : Int) != en) = false := by rw [bne_eq_false_iff_eq]; exact hen
      have HD := hid (HEND.out n F' HST.out hen)
      clear hen hq
      go_wp2
      go_end0
      exact ⟨rfl, F', HM.out, HD.out, HK.out⟩
    · have h1 : ((n : Int) != en) = true := by rw [bne_iff_ne]; exact hen
      have cn := HM.out.cell hn
      have HAD := hid (add_any (q n) (F' n) (b : Int) wr (HM.out.set n hn) (HM.out.fit n hn))
      have e2 : (decide (0 ≤ (b : Int) ∧ (b : Int) < 5000) && !hasI (F' n) (b : Int)) = !F' n b := by
        have : decide (0 ≤ (b : Int) ∧ (b : Int) < 5000) = true := decide_eq_true (by omega)
        rw [this]
        simp [hasI]
      rw [e2] at HAD
      clear e2
      have hqn : q n ∈ qs q N := mem_qs.2 ⟨n, hn, rfl⟩
      cases hF : F' n b with
      | true =>
        rw [hF] at HAD
        have HD := hid (HSTOP.out n F' HST.out hF)
        have hsame : insI (F' n) (b : Int) = F' n := insI_in _ _ hF
        rw [hsame] at HAD
        clear hen hq hF hsame
        go_wp2_with fail
        refine HAD.out.mono ?_
        rintro e w2 ⟨rfl, hs2, k2⟩
        go_wp2
        go_end0
        refine ⟨rfl, F', ⟨HM.out.row.kept k2 (by simp; exact fun e => (HM.out.low n hn).2 e.symm), fun i hi => ?_, HM.out.fit, HM.out.low, HM.out.inj⟩, HD.out, HK.out.step (k2.mono (by simp; exact hqn))⟩
        by_cases e : i = n
        · subst e
          exact hs2
        · exact (HM.out.set i hi).kept k2 (by simp; exact fun e2 => e (HM.out.inj i n hi hn e2))
      | false =>
        rw [hF] at HAD
        obtain ⟨z, h2, h3, h4, h5⟩ := HSTEP.out n F' HST.out hen hF
        have H4 := hid h4
        have H5 := hid h5
        clear hen hF h4 h5
        go_wp2_with fail
        refine HAD.out.mono ?_
        rintro e w2 ⟨rfl, hs2, k2⟩
        have HM2 := hid (HM.out.add hn hb5 hs2 k2)
        have HK2 := hid (HK.out.step (k2.mono (L' := qs q N) (by simp; exact hqn)))
        have cu := HMU.out.kept HK2.out (fun hx => by
          obtain ⟨i, hi, e⟩ := mem_qs.1 hx
          have := (HM.out.low i hi).1
          have := HP.out
          omega) n hn
        rw [h2] at cu
        clear hs2 k2 cn
        go_wp2
        go_roundg (mkM g r b (ins2 F' n b) z)
        case measure => have := H5.out; omega
        case rel => exact ⟨z, ins2 F' n b, rfl, h3, Nat.le_refl _, H4, HM2, HK2⟩
end Go.Proofs.YtlnimcpmkammfaaDoor
