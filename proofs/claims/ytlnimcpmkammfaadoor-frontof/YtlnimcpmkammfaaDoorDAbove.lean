/-
  Contract: dom's Above.
-/
import Derived.Test.YtlnimcpmkammfaaDoorDUp
namespace Go.Proofs.YtlnimcpmkammfaaDoor
open Go.RowKit

/-- Where a node that is reached was found. -/
def rk (g : List (List Nat)) (r y : Nat) : Nat := (dsr g r).1.idxOf y
theorem rk_lt {g : List (List Nat)} (hg : Ok g) {r y : Nat} (hr : r < g.length) (hy : Pth g noS r y) : rk g r y < g.length := by
  have S := dsr_spec g hg hr
  obtain ⟨j, hj, rfl⟩ := (S.reach y).1 hy
  unfold rk
  rw [idx_of_nd S hj]
  have hn : (dsr g r).1.Nodup := by
    rw [List.nodup_iff_pairwise_ne, List.pairwise_iff_getElem]
    intro i j hi hj hij e
    have := S.inj i j hi hj (by unfold ndd; rw [List.getD_eq_getElem?_getD, List.getD_eq_getElem?_getD, List.getElem?_eq_getElem hi, List.getElem?_eq_getElem hj, Option.getD_some, Option.getD_some, e])
    omega
  have h1 := List.Nodup.length_le_of_subset hn (l₂ := List.range g.length) (fun m hm => by
    have := idx_nd hm
    rw [List.mem_range, ← this.2]
    exact S.lt _ this.1)
  rw [List.length_range] at h1
  omega
theorem dom_rk {g : List (List Nat)} (hg : Ok g) {r a b : Nat} (hr : r < g.length) (h : Dom g r a b) (hne : a ≠ b) : rk g r a < rk g r b := by
  have S := dsr_spec g hg hr
  obtain ⟨i, hi, rfl⟩ := (S.reach a).1 h.on
  obtain ⟨j, hj, rfl⟩ := (S.reach b).1 h.1
  unfold rk
  rw [idx_of_nd S hi, idx_of_nd S hj]
  have := S.tr.dm_le ((S.dom hi hj).1 h)
  have : i ≠ j := fun e => hne (by rw [e])
  omega
theorem UpOf.step {g : List (List Nat)} (hg : Ok g) {r : Nat} (hr : r < g.length) {U : Nat → Int} (h : UpOf g r U) {y : Nat} (hy : Pth g noS r y) (hne : y ≠ r) : ∃ z : Nat, U y = (z : Int) ∧ z < g.length ∧ Pth g noS r z ∧ z ≠ y ∧ rk g r z < rk g r y ∧ Dom g r z y ∧ ∀ k, Dom g r k y ↔ k = y ∨ Dom g r k z := by
  obtain ⟨z, h1, h2, h3, h4⟩ := h.next y (hy.lt hg hr) hy hne
  refine ⟨z, h1, h3.on.lt hg hr, h3.on, h2, dom_rk hg hr h3 h2, h3, fun k => ⟨fun hk => ?_, ?_⟩⟩
  · by_cases e : k = y
    · exact .inl e
    · exact .inr (h4 k e hk)
  · rintro (rfl | hk)
    · exact Dom.refl hy
    · exact hk.trans h3
theorem dom_root {g : List (List Nat)} {r k : Nat} : Dom g r k r ↔ k = r := by
  constructor
  · intro h
    apply Classical.byContradiction
    intro hne
    exact h.2 (Pth.refl (eqB_false.2 fun e => hne e.symm))
  · rintro rfl
    exact Dom.refl (Pth.refl rfl)
/-- The same, of numbers that may be no nodes. -/
def DomI (g : List (List Nat)) (r : Nat) (a b : Int) : Prop := ∃ i j : Nat, a = (i : Int) ∧ b = (j : Int) ∧ Dom g r i j

set_option maxHeartbeats 400000 in
theorem dhas_yes (n : Int) (a : Option Addr) (N cap : Nat) (w : World) (h0 : 0 ≤ n) (h1 : n < (N : Int)) :
    Calls Tryd.prog 42 #[.slice a N cap, .int .i64 n] w fun e w' => e = .returned (.bool true) ∧ w' = w := by
  go_enter Tryd.func42, Tryd.ntmps42
  go_wp2
  go_ret
  exact ⟨rfl, rfl⟩
set_option maxHeartbeats 400000 in
theorem dhas_no (n : Int) (a : Option Addr) (N cap : Nat) (w : World) (h : ¬ (0 ≤ n ∧ n < (N : Int))) :
    Calls Tryd.prog 42 #[.slice a N cap, .int .i64 n] w fun e w' => e = .returned (.bool false) ∧ w' = w := by
  by_cases h0 : 0 ≤ n
  · have h1 : ¬ n < (N : Int) := fun h1 => h ⟨h0, h1⟩
    clear h
    go_enter Tryd.func42, Tryd.ntmps42
    go_wp2
    go_ret
    exact ⟨rfl, rfl⟩
  · clear h
    go_enter Tryd.func42, Tryd.ntmps42
    go_wp2
    go_ret
    exact ⟨rfl, rfl⟩

/-- What the rounds of Above hold: a node that is reached, or one that never comes to the root. -/
def AbR (g : List (List Nat)) (r N : Nat) (a : Int) (d m : Bool) (i : Nat) (x : Int) : Prop :=
  (∃ y : Nat, x = (y : Int) ∧ Pth g noS r y ∧ rk g r y + i < N ∧ (d = true ↔ m = true ∨ ∃ k : Nat, a = (k : Int) ∧ Dom g r k y)) ∨ ((∀ y : Nat, x = (y : Int) → ¬ Pth g noS r y) ∧ d = false)

set_option maxRecDepth 20000 in
set_option maxHeartbeats 4000000 in
theorem above_any (g : List (List Nat)) (hs : Sm g) (r : Nat) (hr : r < g.length) (U : Nat → Int) (hU : UpOf g r U) (pu : Nat) (w : World) (hrow : ∀ i, i < g.length → w.cell? ⟨pu, i, none⟩ = some (.int .i64 (U i))) (a b : Int) (d : Bool) (hd : d = true ↔ DomI g r a b) :
    Calls Tryd.prog 26 #[.slice (some ⟨pu, 0, none⟩) g.length g.length, .int .i64 a, .int .i64 b] w fun e w' => e = .returned (.bool d) ∧ w' = w := by
  have HS := hid hs
  have HU := hid hU
  have HR := hid hrow
  have hg6 := hs.len
  have H0 : Box (AbR g r g.length a d false 0 b) := hid (by
    by_cases h : ∃ y : Nat, b = (y : Int) ∧ Pth g noS r y
    · obtain ⟨y, rfl, hy⟩ := h
      refine .inl ⟨y, rfl, hy, rk_lt hs.ok hr hy, ?_⟩
      rw [hd]
      constructor
      · rintro ⟨i, j, h1, h2, h3⟩
        refine .inr ⟨i, h1, ?_⟩
        rw [show y = j by omega]
        exact h3
      · rintro (h1 | ⟨k, h1, h2⟩)
        · cases h1
        · exact ⟨k, y, h1, rfl, h2⟩
    · refine .inr ⟨fun y hy hp => h ⟨y, hy, hp⟩, ?_⟩
      cases hdd : d with
      | false => rfl
      | true =>
        obtain ⟨i, j, h1, h2, h3⟩ := hd.1 hdd
        exact absurd ⟨j, h2, h3.1⟩ h)
  have HH1 := hid (fun n N cap w9 h0 h1 => dhas_yes n (some ⟨pu, 0, none⟩) N cap w9 h0 h1)
  have HH2 := hid (fun n N cap w9 h0 => dhas_no n (some ⟨pu, 0, none⟩) N cap w9 h0)
  obtain ⟨N, hN⟩ : ∃ N, g.length = N := ⟨_, rfl⟩
  have HN := hid hN
  rw [hN] at HR hg6 hr H0 ⊢
  clear hs hU hrow hd hN
  go_enter Tryd.func26, Tryd.ntmps26
  go_wp2_with fail
  go_loop [2, 7, 10] (fun bv mv iv => ∃ (i : Nat) (x : Int) (m : Bool), bv = .int .i64 x ∧ mv = .bool m ∧ iv = .int .i64 (i : Int) ∧ i ≤ N ∧ Box (AbR g r N a d m i x)) (fun _ _ iv => N - (intOf iv).toNat)
  case atStart => exact ⟨0, b, false, rfl, rfl, rfl, by omega, H0⟩
  case round =>
    clear H0
    obtain ⟨i, x, m, rfl, rfl, rfl, hi, HA⟩ := hrel
    by_cases hlt : i < N
    · have hlt' : (i : Int) < (N : Int) := by omega
      by_cases hin : 0 ≤ x ∧ x < (N : Int)
      · obtain ⟨y, rfl⟩ := Int.eq_ofNat_of_zero_le hin.1
        have hyN : y < N := by omega
        have hyN' := hin.2
        have cy := HR.out y hyN
        have HY := hid (fun w9 => HH1.out (y : Int) N N w9 hin.1 hin.2)
        have hy6 : y < 600 := by omega
        have hmm : Box (∀ k : Nat, ((a == (k : Int)) = true ↔ a = (k : Int))) := hid (fun k => beq_iff_eq)
        clear hin HH1 HH2
        -- who comes next
        by_cases hp : Pth g noS r y
        · by_cases hyr : y = r
          · subst hyr
            have e1 := HU.out.root
            rw [e1] at cy
            have hbb : (((y : Nat) : Int) == ((y : Nat) : Int)) = true := by simp
            cases m with
            | true =>
              have hdd : d = true := by
                rcases HA.out with ⟨z, h1, _, _, h4⟩ | ⟨h1, _⟩
                · exact h4.2 (.inl rfl)
                · exact absurd hp (h1 y rfl)
              subst hdd
              clear hp
              go_wp2_with (go_at_call 42; refine (HY.out _).mono ?_; rintro e w9 ⟨rfl, hw9⟩; rw [hw9]; clear hw9)
              go_ret
              exact ⟨rfl, rfl⟩
            | false =>
              have hdd : (a == ((y : Nat) : Int)) = d := by
                rcases HA.out with ⟨z, h1, _, _, h4⟩ | ⟨h1, _⟩
                · obtain rfl : y = z := by omega
                  rw [Bool.eq_iff_iff, h4, beq_iff_eq]
                  constructor
                  · rintro rfl; exact .inr ⟨y, rfl, dom_root.2 rfl⟩
                  · rintro (h | ⟨k, h5, h6⟩)
                    · cases h
                    · rw [h5, dom_root.1 h6]
                · exact absurd hp (h1 y rfl)
              clear hp
              go_wp2_with (go_at_call 42; refine (HY.out _).mono ?_; rintro e w9 ⟨rfl, hw9⟩; rw [hw9]; clear hw9)
              go_ret
              exact ⟨rfl, rfl⟩
          · obtain ⟨z, h1, h2, h3, h4, h5, _, h6⟩ := HU.out.step HS.out.ok (by rw [HN.out]; exact hr) hp hyr
            rw [h1] at cy
            have hbb : (((z : Nat) : Int) == ((y : Nat) : Int)) = false := by rw [beq_eq_false_iff_ne]; omega
            have HA2 : Box (AbR g r N a d (m || (a == ((y : Nat) : Int))) (i + 1) (z : Int)) := hid (by
              rcases HA.out with ⟨z', e1, _, e3, e4⟩ | ⟨e1, _⟩
              · obtain rfl : y = z' := by omega
                refine .inl ⟨z, rfl, h3, by omega, ?_⟩
                rw [e4, Bool.or_eq_true, beq_iff_eq]
                constructor
                · rintro (h | ⟨k, hk1, hk2⟩)
                  · exact .inl (.inl h)
                  · rcases (h6 k).1 hk2 with e | e
                    · exact .inl (.inr (by rw [hk1, e]))
                    · exact .inr ⟨k, hk1, e⟩
                · rintro ((h | h) | ⟨k, hk1, hk2⟩)
                  · exact .inl h
                  · exact .inr ⟨y, h, (h6 y).2 (.inl rfl)⟩
                  · exact .inr ⟨k, hk1, (h6 k).2 (.inr hk2)⟩
              · exact absurd hp (e1 y rfl))
            clear hp h1 h2 h3 h4 h5 h6 HA
            cases m with
            | true =>
              go_wp2_with (go_at_call 42; refine (HY.out _).mono ?_; rintro e w9 ⟨rfl, hw9⟩; rw [hw9]; clear hw9)
              go_round
              case rel => exact ⟨i + 1, (z : Int), true, rfl, rfl, by go_num, by omega, HA2⟩
              case measure => simp [intOf]; omega
            | false =>
              rw [Bool.false_or] at HA2
              go_wp2_with (go_at_call 42; refine (HY.out _).mono ?_; rintro e w9 ⟨rfl, hw9⟩; rw [hw9]; clear hw9)
              go_round
              case rel => exact ⟨i + 1, (z : Int), (a == ((y : Nat) : Int)), rfl, rfl, by go_num, by omega, HA2⟩
              case measure => simp [intOf]; omega
        · have hdd : d = false := by
            rcases HA.out with ⟨z, h1, h2, _⟩ | ⟨_, h2⟩
            · obtain rfl : y = z := by omega
              exact absurd h2 hp
            · exact h2
          have e1 := HU.out.out y (by rw [HN.out]; exact hyN) hp
          rw [e1] at cy
          have hbb : ((-1 : Int) == ((y : Nat) : Int)) = false := by rw [beq_eq_false_iff_ne]; omega
          have HA2 : Box (∀ m', AbR g r N a d m' (i + 1) (-1)) := hid (fun m' => .inr ⟨fun y hy => by omega, hdd⟩)
          clear hp e1 HA hdd
          cases m with
          | true =>
            go_wp2_with (go_at_call 42; refine (HY.out _).mono ?_; rintro e w9 ⟨rfl, hw9⟩; rw [hw9]; clear hw9)
            go_round
            case rel => exact ⟨i + 1, -1, true, rfl, rfl, by go_num, by omega, hid (HA2.out _)⟩
            case measure => simp [intOf]; omega
          | false =>
            go_wp2_with (go_at_call 42; refine (HY.out _).mono ?_; rintro e w9 ⟨rfl, hw9⟩; rw [hw9]; clear hw9)
            go_round
            case rel => exact ⟨i + 1, -1, (a == ((y : Nat) : Int)), rfl, rfl, by go_num, by omega, hid (HA2.out _)⟩
            case measure => simp [intOf]; omega
      · have hdd : d = false := by
          rcases HA.out with ⟨z, h1, h2, _⟩ | ⟨_, h2⟩
          · have := h2.lt HS.out.ok (by rw [HN.out]; exact hr)
            have := HN.out
            omega
          · exact h2
        subst hdd
        have HY := hid (fun w9 => HH2.out x N N w9 hin)
        clear hin HH1 HH2 HA
        go_wp2_with (go_at_call 42; refine (HY.out _).mono ?_; rintro e w9 ⟨rfl, hw9⟩; rw [hw9]; clear hw9)
        go_ret
        exact ⟨rfl, rfl⟩
    · obtain rfl : i = N := by omega
      have hdd : d = false := by
        rcases HA.out with ⟨z, _, _, h2, _⟩ | ⟨_, h2⟩
        · omega
        · exact h2
      subst hdd
      go_wp2
      go_ret
      exact ⟨rfl, rfl⟩
end Go.Proofs.YtlnimcpmkammfaaDoor
