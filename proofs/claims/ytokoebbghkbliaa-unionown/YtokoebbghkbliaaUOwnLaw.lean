/-
  The statement UnionOwn: its walk.
-/
import Derived.Test.YtokoebbghkbliaaUFind
namespace Go.Proofs.Ytokoebbghkbliaa
open Go.RowKit

/-- The blocks of the lists. -/
def blks (vs : List Value) : List Nat := vs.filterMap Value.ownBlock
theorem blks_mem {vs : List Value} {j b : Nat} (hj : j < vs.length) (h : (vs.getD j nilS).ownBlock = some b) : b ∈ blks vs := by
  unfold blks
  rw [List.mem_filterMap]
  refine ⟨vs.getD j nilS, ?_, h⟩
  rw [List.getD_eq_getElem?_getD, List.getElem?_eq_getElem hj]
  exact List.getElem_mem hj
theorem blks_get {vs : List Value} {b : Nat} (h : b ∈ blks vs) : ∃ j, j < vs.length ∧ (vs.getD j nilS).ownBlock = some b := by
  unfold blks at h
  rw [List.mem_filterMap] at h
  obtain ⟨v, hv, hb⟩ := h
  obtain ⟨j, hj, rfl⟩ := List.getElem_of_mem hv
  refine ⟨j, hj, ?_⟩
  rw [List.getD_eq_getElem?_getD, List.getElem?_eq_getElem hj]
  exact hb

/-- wr is w6 but for numbers written into the lists. -/
structure Wr (w6 wr : World) (vs : List Value) : Prop where
  keep : Keeps (blks vs) w6 wr
  rows : ∀ b cur, b ∈ blks vs → w6.heap[b]? = some (.cells cur 3 (0, 0)) → ∃ cur', wr.heap[b]? = some (.cells cur' 3 (0, 0)) ∧ cur'.size = cur.size
theorem wr_refl (w6 : World) (vs : List Value) : Wr w6 w6 vs := ⟨Keeps.refl _ _, fun _ cur _ h => ⟨cur, h, rfl⟩⟩

theorem Wr.put {w6 wr : World} {vs : List Value} (h : Wr w6 wr vs) {b : Nat} (hb : b ∈ blks vs) (k : Nat) (v : Value) : Wr w6 (wr.setCell ⟨b, k, none⟩ v) vs := by
  refine ⟨h.keep.step (Keeps.setCell _ _ _ _ hb), fun b' cur hb' hc => ?_⟩
  obtain ⟨cur', h1, h2⟩ := h.rows b' cur hb' hc
  by_cases e : b' = b
  · subst e
    exact ⟨_, heap_setCell_same wr b' k cur' _ v h1, by rw [Array.size_setIfInBounds]; exact h2⟩
  · exact ⟨cur', by rw [heap_setCell_other wr ⟨b, k, none⟩ b' v (fun x => e x)]; exact h1, h2⟩

theorem Wr.outer {w6 wr : World} {vs : List Value} {base g cap : Nat} {L : List (List Nat)} (h : Wr w6 wr vs) (ho : Own2 w6 base g cap vs L) {i : Nat} (hi : i < L.length) : wr.cell? ⟨g, i, none⟩ = some (vs.getD i nilS) := by
  have hc := ho.cell hi
  refine (h.keep.cell (p := ⟨g, i, none⟩) (block_lt_of_cell hc) ?_).trans hc
  intro hm
  obtain ⟨j, hj, hb⟩ := blks_get hm
  exact ho.innerNe (by rw [← ho.len]; exact hj) hb

theorem Wr.inner {w6 wr : World} {vs : List Value} {base g cap : Nat} {L : List (List Nat)} (h : Wr w6 wr vs) (ho : Own2 w6 base g cap vs L) {i k : Nat} (hi : i < L.length) (hk : k < (L.getD i []).length) {a : Option Addr} {l c : Nat} (hv : vs.getD i nilS = .slice a l c) :
    ∃ b, a = some ⟨b, 0, none⟩ ∧ b ∈ blks vs ∧ (∃ z, wr.cell? ⟨b, k, none⟩ = some z) ∧ wr.frozen? ⟨b, k, none⟩ = false := by
  have hin := ho.inner i hi
  rw [hv] at hin
  rcases hin.2 with ⟨_, h0⟩ | ⟨b, c', cur, he, _, hh, hnc, _, hsz, _⟩
  · omega
  · simp only [Value.slice.injEq] at he
    obtain ⟨rfl, rfl, rfl⟩ := he
    have hm : b ∈ blks vs := blks_mem (by rw [ho.len]; exact hi) (by rw [hv]; rfl)
    obtain ⟨cur', h1, h2⟩ := h.rows b cur hm hh
    have hk' : k < cur'.size := by omega
    exact ⟨b, rfl, hm, ⟨cur'[k], (cell_of_row wr b k _ _ _ h1).trans (Array.getElem?_eq_getElem hk')⟩, frozen_of_row wr b k _ _ h1⟩

set_option maxHeartbeats 4000000 in
theorem own_in (n : Nat) (pa : Option Addr) (L cap : Nat) (zs : List (Int × Int)) (w : World) (hz : PairsAt w pa zs) (hL : zs.length = L) (hn1 : 1 ≤ n) (hn : n ≤ 40) (hL2 : L ≤ 9223372036854775807) :
    Calls Try.prog 8 #[.int .i64 (n : Int), .slice pa L cap] w fun e w' => e = .returned (.bool true) ∧ Keeps [] w w' := by
  have HA := hid (begun_any w)
  have HZ := hid hz
  have HL := hid hL
  clear hz hL
  have f1 : decide ((n : Int) < 1) = false := decide_eq_false (by omega)
  have f2 : decide ((40 : Int) < (n : Int)) = false := decide_eq_false (by omega)
  go_enter Try.func8, Try.ntmps8
  go_wp2_with fail
  refine HA.out.mono ?_
  rintro e w1 ⟨rfl, hk1⟩
  clear HA
  have HA := hid (new_nat n w1 (by omega))
  go_wp2_with fail
  refine HA.out.mono ?_
  rintro e w2 ⟨rfl, hu2, hk2⟩
  have hO : Box (One w w2 w1.heap.size n fun k => k) := hid ⟨hu2, hk1.quiet hk2, hk1.size⟩
  clear HA hk1 hu2 hk2
  generalize w1.heap.size = bl at hO ⊢
  go_wp2_with fail
  go_loopw [7] (fun i wr => ∃ (k : Nat) (r : Nat → Nat), k ≤ L ∧ k ≤ 20 ∧ i = .int .i64 k ∧ Box (One w wr bl n r)) (fun i _ => L - (intOf i).toNat)
  case atStart => exact ⟨0, _, by omega, by omega, rfl, hO⟩
  case round =>
    clear hO
    obtain ⟨k, r, hk, hk40, rfl, hO⟩ := hrel
    by_cases hgo : k < L ∧ k < 20
    · obtain ⟨hlt, hlt40⟩ := hgo
      have hlt' : (k : Int) < (L : Int) := by omega
      have hlt40' : (k : Int) < 20 := by omega
      rcases HZ.out with h0 | ⟨bp, op, rfl, hc⟩
      · have := HL.out
        rw [h0] at this
        simp at this
        omega
      · obtain ⟨c1, c2⟩ := hc k (by rw [HL.out]; exact hlt)
        have d1 := (hO.out.keep.cell (p := ⟨bp, op + k * 2, none⟩) (block_lt_of_cell c1) (by simp)).trans c1
        have d2 := (hO.out.keep.cell (p := ⟨bp, op + k * 2 + 1, none⟩) (block_lt_of_cell c2) (by simp)).trans c2
        have HJ := hid fun (w9 : World) (h9 : Keeps [] wr w9) => one_join (hO.out.quiet h9) (zs.getD k (0, 0)).1 (zs.getD k (0, 0)).2
        clear c1 c2 hc
        generalize (zs.getD k (0, 0)).1 = p at d1 HJ
        generalize (zs.getD k (0, 0)).2 = q at d2 HJ
        have hkd : Keeps [] wr wr.drew := Keeps.drew _ _
        clear hO
        go_wp2
        go_region_with (first | (go_at_call 11; refine (HJ.out _ hkd).mono ?_; rintro e w5 ⟨rfl, hO5⟩; have hO6 := hid hO5; clear hO5))
        all_goals
          go_wp2
          go_roundw
          case rel => exact ⟨k + 1, _, by omega, by omega, by go_num, hO6⟩
          case measure => simp [intOf]; omega
    · have hguard : (¬ k < L ∧ decide ((k : Int) < (L : Int)) = false ∧ decide (k < L) = false) ∨ ((k < L ∧ decide ((k : Int) < (L : Int)) = true ∧ decide (k < L) = true) ∧ ¬ k < 20 ∧ decide ((k : Int) < 20) = false ∧ decide (k < 20) = false) := by
        by_cases h2 : k < L
        · right; exact ⟨⟨h2, decide_eq_true (by omega), decide_eq_true h2⟩, by omega, decide_eq_false (by omega), decide_eq_false (by omega)⟩
        · left; exact ⟨h2, decide_eq_false (by omega), decide_eq_false h2⟩
      clear hgo HZ HL
      rcases hguard with ⟨hg, hg', hg''⟩ | ⟨⟨hg, hg', hg''⟩, hh, hh', hh''⟩
      all_goals
        have HG := hid (groups_raw bl n r wr hO.out.u)
        go_wp2_with fail
        refine HG.out.mono ?_
        rintro e w5 ⟨g, gc, rfl, hown5, hu5, hk5⟩
        obtain ⟨vs, ho5⟩ := hown5
        have hO5 := hid (hO.out.on hu5 hk5)
        have hbl := hid hO.out.u.lt
        have HO5 := hid ho5
        clear HG hu5 hk5 ho5 hO
        have HG := hid (groups_any bl n r w5 hO5.out.u)
        go_wp2_with fail
        refine HG.out.mono ?_
        rintro e w6 ⟨g6, c6, rfl, hl6, hu6, hk6⟩
        have hO6 := hid (hO5.out.on hu6 hk6)
        have HO6 := hid (HO5.out.kept hk6 (fun x hx => Or.inl (by have := hbl.out; simp at hx; omega)))
        have hL6 := hid hl6
        have hFB : Box (∀ b, b ∈ blks vs → wr.heap.size ≤ b ∧ b < w5.heap.size) := hid (by
          intro b hb
          obtain ⟨j, hj, hjb⟩ := blks_get hb
          exact (HO5.out.inner j (by rw [← HO5.out.len]; exact hj)).lt b hjb)
        have hb5 := hid hO5.out.u.lt
        have hLn := hid (groups_len n r)
        have hL40 : (groups n r).length ≤ 40 := by rw [groups_len]; have := leads_le n r; omega
        have hIn : Box (∀ i, ((groups n r).getD i []).length ≤ 40) := hid (by
          intro i
          unfold groups
          rw [List.getD_eq_getElem?_getD, List.getElem?_map]
          cases (leads n r)[i]? with
          | none => simp
          | some l => have := membs_le n r l; simp; omega)
        clear HG hl6 hu6 hk6 hO5 HO5
        obtain ⟨G, hG⟩ : ∃ G, (groups n r).length = G := ⟨_, rfl⟩
        rw [hG] at hL40 ⊢
        have HGe := hid hG
        clear hG
        obtain ⟨l6, hl6⟩ : ∃ l6, (listsI (groups n r)).length = l6 := ⟨_, rfl⟩
        rw [hl6]
        have HL6 := hid hl6
        clear hl6
        obtain ⟨B1, hB1⟩ : ∃ B1, wr.heap.size = B1 := ⟨_, rfl⟩
        obtain ⟨B2, hB2⟩ : ∃ B2, w5.heap.size = B2 := ⟨_, rfl⟩
        rw [hB1, hB2] at hFB
        rw [hB2] at hL6 hb5
        rw [hB1] at hbl HO6
        clear hB1 hB2
        go_wp2_with fail
        go_loopw [10] (fun i wx => ∃ k : Nat, k ≤ G ∧ i = .int .i64 k ∧ Box (Wr w6 wx vs)) (fun i _ => G - (intOf i).toNat)
        case atStart => exact ⟨0, by omega, rfl, hid (wr_refl _ _)⟩
        case round =>
          obtain ⟨i, hi, rfl, hW⟩ := hrel
          by_cases hlt : i < G
          · have hiL : Box (i < (groups n r).length) := hid (by rw [HGe.out]; exact hlt)
            obtain ⟨ai, ci, hv, _, _⟩ := ownsRow_ints (HO6.out.inner i hiL.out)
            have hli := hIn.out i
            obtain ⟨li, hle⟩ : ∃ li, ((groups n r).getD i []).length = li := ⟨_, rfl⟩
            rw [hle] at hv hli
            have Hle := hid hle
            have Hv := hid hv
            clear hle hv
            have hlt' : (i : Int) < (G : Int) := by omega
            go_wp2_with fail
            go_loopw [11] (fun j wx => ∃ k : Nat, k ≤ li ∧ j = .int .i64 k ∧ Box (Wr w6 wx vs)) (fun j _ => li - (intOf j).toNat)
            case atStart => exact ⟨0, by omega, rfl, hW⟩
            case round =>
              clear hW
              obtain ⟨k, hk, rfl, hW⟩ := hrel
              have cg := hW.out.outer HO6.out hiL.out
              rw [Hv.out] at cg
              by_cases hkl : k < li
              · obtain ⟨b, hab, hm, ⟨z, cz⟩, fz⟩ := hW.out.inner HO6.out hiL.out (show k < _ by rw [Hle.out]; exact hkl) Hv.out
                subst hab
                have hW2 := hid (hW.out.put hm k (.int .i64 (-7)))
                have hkl' : (k : Int) < (li : Int) := by omega
                clear hW hm
                go_wp2
                go_roundw
                case rel => exact ⟨k + 1, by omega, by go_num, hW2⟩
                case measure => simp [intOf]; omega
              · obtain rfl : k = li := by omega
                go_wp2
                go_roundw
                case rel => exact ⟨i + 1, by omega, by go_num, hW⟩
                case measure => simp [intOf]; omega
          · obtain rfl : i = G := by omega
            have hOz : Box (One w wr bl n r) := hid ⟨hO6.out.u.kept hW.out.keep (fun hm => by have h1 := (hFB.out _ hm).1; have h2 := hbl.out; omega), hO6.out.keep.trans hW.out.keep (fun x hx hl => by have h1 := (hFB.out x hx).1; have h2 := hbl.out; have h3 := hO6.out.lo; omega), hO6.out.lo⟩
            have hLz := hid (hL6.out.kept hW.out.keep (fun x hx => (hFB.out x hx).2))
            have HG := hid (groups_any bl n r wr hOz.out.u)
            clear hW hO6 hL6
            go_wp2_with fail
            refine HG.out.mono ?_
            rintro e w7 ⟨g7, c7, rfl, hl7, hu7, hk7⟩
            have hO7 := hid (hOz.out.on hu7 hk7)
            have hL7 := hid (hLz.out.kept hk7 (fun x hx => by have := hb5.out; simp at hx; omega))
            have HE := hid (eqall_any (some ⟨g7, 0, none⟩) (some ⟨g6, 0, none⟩) wr.heap.size B2 c7 c6 (listsI (groups n r)) (listsI (groups n r)) w7 hl7 hL7.out (groups_le n r (by omega)) (groups_li n r (by omega)))
            rw [decide_eq_true rfl, HL6.out] at HE
            rw [HL6.out]
            clear HG hl7 hu7 hk7 hOz hLz hL7
            go_wp2_with fail
            refine HE.out.mono ?_
            rintro e w8 ⟨rfl, m8, rfl⟩
            have hK8 : Keeps [] w (w7.drewN m8) := hO7.out.keep.quiet (Keeps.drewN _ _ _)
            generalize w7.drewN m8 = w8 at hK8 ⊢
            clear HE hO7
            go_wp2
            go_ret
            exact ⟨rfl, hK8⟩

set_option maxHeartbeats 1000000 in
theorem own_out (a : Int) (pv : Value) (w : World) (h : a < 1 ∨ 40 < a) :
    Calls Try.prog 8 #[.int .i64 a, pv] w fun e w' => e = .returned (.bool true) ∧ Keeps [] w w' := by
  have HA := hid (begun_any w)
  rcases h with h | h
  · have hb : decide (a < 1) = true := decide_eq_true h
    go_enter Try.func8, Try.ntmps8
    go_wp2_with fail
    refine HA.out.mono ?_
    rintro e w1 ⟨rfl, hk1⟩
    clear HA
    go_wp2
    go_ret
    exact ⟨rfl, hk1⟩
  · have hb : decide (a < 1) = false := decide_eq_false (by omega)
    have hb2 : decide (40 < a) = true := decide_eq_true h
    go_enter Try.func8, Try.ntmps8
    go_wp2_with fail
    refine HA.out.mono ?_
    rintro e w1 ⟨rfl, hk1⟩
    clear HA
    go_wp2
    go_ret
    exact ⟨rfl, hk1⟩

theorem own_any (a : Int) (pa : Option Addr) (cap : Nat) (zs : List (Int × Int)) (w : World) (hz : PairsAt w pa zs) (hl : zs.length ≤ maxLen) (_hc : zs.length ≤ cap) :
    Calls Try.prog 8 #[.int .i64 a, .slice pa zs.length cap] w fun e w' => e = .returned (.bool true) ∧ Keeps [] w w' := by
  by_cases h : a < 1 ∨ 40 < a
  · exact own_out a _ w h
  · obtain ⟨n, rfl⟩ := Int.eq_ofNat_of_zero_le (show 0 ≤ a by omega)
    exact own_in n pa zs.length cap zs w hz rfl (by omega) (by omega) (by unfold maxLen at hl; omega)
end Go.Proofs.Ytokoebbghkbliaa
