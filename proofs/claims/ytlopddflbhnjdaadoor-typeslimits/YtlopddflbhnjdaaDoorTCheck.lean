/-
  types.Check: given what Fits tells.
-/
import Derived.Test.YtlopddflbhnjdaaDoorTChk
namespace Go.Proofs.YtlopddflbhnjdaaDoor
open Go.RowKit

def chkO (P : Pr8) (g : Fu8 → In8 → Bool) : Option (Int × Int × Int) :=
  if (List.range P.funcs.length).all (fun f => parB P (fun8 P f)) then (match (pts P).find? (fun q => !ptT P g q) with
    | some q => some (ptI q)
    | none => if mainB P then none else some (-1, 0, 0)) else some (-1, 0, 0)
theorem chk_par {P : Pr8} {g : Fu8 → In8 → Bool} {k : Nat} (hk : k < P.funcs.length) (h : parB P (fun8 P k) = false) : chkO P g = some (-1, 0, 0) := by
  unfold chkO
  have : (List.range P.funcs.length).all (fun f => parB P (fun8 P f)) = false := List.all_eq_false.2 ⟨k, List.mem_range.2 hk, by rw [h]; simp⟩
  rw [this]
  rfl
theorem chk_pt {P : Pr8} {g : Fu8 → In8 → Bool} (hp : ∀ k, k < P.funcs.length → parB P (fun8 P k) = true) {n : Nat} {q : Nat × Nat × Nat} (hq : (pts P)[n]? = some q) (hl : ∀ j x, j < n → (pts P)[j]? = some x → ptT P g x = true) (h : ptT P g q = false) : chkO P g = some (ptI q) := by
  unfold chkO
  rw [if_pos (List.all_eq_true.2 fun k hk => hp k (List.mem_range.1 hk))]
  have hn := (List.getElem?_eq_some_iff.1 hq).1
  have e : pts P = (pts P).take n ++ q :: (pts P).drop (n + 1) := by
    have h2 := List.take_append_drop n (pts P)
    rw [List.drop_eq_getElem_cons hn, (List.getElem?_eq_some_iff.1 hq).2] at h2
    exact h2.symm
  rw [e, find_first (l := (pts P).take n) (fun x hx => ?_) (by rw [h]; rfl)]
  obtain ⟨j, hj⟩ := List.getElem?_of_mem hx
  rw [List.getElem?_take] at hj
  split at hj
  · rename_i hjn
    rw [hl j x hjn hj]
    rfl
  · cases hj
theorem chk_end {P : Pr8} {g : Fu8 → In8 → Bool} (hp : ∀ k, k < P.funcs.length → parB P (fun8 P k) = true) (hl : ∀ (j : Nat) (x : Nat × Nat × Nat), (pts P)[j]? = some x → ptT P g x = true) : chkO P g = if mainB P then none else some (-1, 0, 0) := by
  unfold chkO
  rw [if_pos (List.all_eq_true.2 fun k hk => hp k (List.mem_range.1 hk)), find_none (fun x hx => ?_)]
  obtain ⟨j, hj⟩ := List.getElem?_of_mem hx
  rw [hl j x hj]
  rfl
set_option maxRecDepth 20000 in
set_option maxHeartbeats 4000000 in
theorem check_any {w : World} {pb po : Nat} {P : Pr8} (h : PrC w pb po P) (hs : Sm10 P) {g : Fu8 → In8 → Bool} (hg : FitsG w pb po P g) : Calls Tryd.prog 19 #[.pointer (some ⟨pb, po, none⟩)] w (EPost (chkO P g) 4 w) := by
  obtain ⟨fa, fp, c4, r4, _⟩ := h.c4
  have HP := hid h
  have HR := hid r4
  have HPT := hid fun (w' : World) (k : Keeps [] w w') => points_any (PrC.stays _ _ _ _ _ k h) hs
  have HG : Box (∀ w', Keeps [] w w' → FitsG w' pb po P g) := hid fun w' k w2 f b i a cp k2 => hg w2 f b i a cp (k.quiet k2)
  have HM := hid fun (w' : World) (k : Keeps [] w w') => main_any (PrC.stays _ _ _ _ _ k h)
  have HRF := hid fun (w' : World) => refused_any 4 w'
  have HRA := hid fun (f b i : Int) (w' : World) => refusedAt_any 4 f b i w'
  have C4 : Box (∀ w', Keeps [] w w' → w'.cell? ⟨pb, po + 4, none⟩ = some (.slice fa P.funcs.length fp)) := hid fun w' k => cell_stays k c4
  have B1 := hid fun (k : Nat) (hk : k < P.funcs.length) (h : parB P (fun8 P k) = false) => chk_par (g := g) hk h
  have B2 := hid fun (hp : ∀ k, k < P.funcs.length → parB P (fun8 P k) = true) (n : Nat) (q : Nat × Nat × Nat) (hq : (pts P)[n]? = some q) (hl : ∀ j x, j < n → (pts P)[j]? = some x → ptT P g x = true) (h : ptT P g q = false) => chk_pt (g := g) hp hq hl h
  have B3 := hid fun (hp : ∀ k, k < P.funcs.length → parB P (fun8 P k) = true) (hl : ∀ (j : Nat) (x : Nat × Nat × Nat), (pts P)[j]? = some x → ptT P g x = true) => chk_end (g := g) hp hl
  have hf12 := hs.fn
  have hp45 := hs.pts
  obtain ⟨N, hN⟩ : ∃ N, N = P.funcs.length := ⟨_, rfl⟩
  obtain ⟨M, hM⟩ : ∃ M, M = (pts P).length := ⟨_, rfl⟩
  have HN := hid hN
  have HMM := hid hM
  rw [← hN] at C4 c4 hf12
  rw [← hM] at HPT hp45
  have hf9 : (N : Int) ≤ 12 := by omega
  have hp9 : (M : Int) ≤ 4500 := by omega
  clear h r4 hs hg hN hM
  go_enter Tryd.func19, Tryd.ntmps19
  go_wp2_with fail
  clear c4
  go_loopw [14] (fun kv wr => ∃ k : Nat, k ≤ N ∧ kv = .int .i64 (k : Int) ∧ Box (Keeps [] w wr) ∧ Box (∀ j, j < k → parB P (fun8 P j) = true)) (fun kv _ => N - (intOf kv).toNat)
  case atStart => exact ⟨0, by omega, rfl, hid (Keeps.refl _ _), hid fun j hj => by omega⟩
  case round =>
    obtain ⟨k, hk, rfl, HK, HA⟩ := hrel
    by_cases hlt : k < N
    · have hlt' : (k : Int) < (N : Int) := by omega
      have hkf : k < P.funcs.length := by rw [← HN.out]; exact hlt
      obtain ⟨fb, fo, rfl, hfu0⟩ := HR.out.at (getD_get (d := ⟨0, [], []⟩) hkf)
      have hfu : FuC w fb (fo + k * 3) (fun8 P k) := hfu0
      have HC := hid (par_any (PrC.stays _ _ _ _ _ HK.out HP.out) (FuC.stays _ _ _ _ _ HK.out hfu))
      have c4 := C4.out _ HK.out
      have HB1 := hid (B1.out k hkf)
      clear hfu0 hfu hkf
      cases hg : parB P (fun8 P k) with
      | true =>
        rw [hg] at HC
        have HA2 : Box (∀ j, j < k + 1 → parB P (fun8 P j) = true) := hid fun j hj => by
          by_cases e : j < k
          · exact HA.out j e
          · obtain rfl : j = k := by omega
            exact hg
        clear hg
        go_wp2_with fail
        refine HC.out.mono ?_
        rintro e w2 ⟨rfl, k2⟩
        have K2 := hid (HK.out.quiet k2)
        clear k2
        go_wp2_with fail
        go_roundw
        case rel => exact ⟨k + 1, by omega, by go_num, K2, HA2⟩
        case measure => simp [intOf]; omega
      | false =>
        rw [hg] at HC
        have HQ := hid (HB1.out hg)
        clear hg
        go_wp2_with fail
        refine HC.out.mono ?_
        rintro e w2 ⟨rfl, k2⟩
        have K2 := hid (HK.out.quiet k2)
        clear k2
        go_wp2_with fail
        refine (HRF.out _).mono ?_
        rintro e w3 ⟨p, rfl, h1, h2⟩
        go_wp2_with fail
        go_ret
        exact EPost.no HQ.out ⟨p, rfl, h1, K2.out.quiet h2⟩
    · obtain rfl : N = k := by omega
      have HALL : Box (∀ k, k < P.funcs.length → parB P (fun8 P k) = true) := hid fun j hj => HA.out j (by rw [HN.out]; exact hj)
      clear HA
      go_wp2_with fail
      refine (HPT.out _ HK.out).mono ?_
      rintro e w2 ⟨la, lp, rfl, hr, k2⟩
      have HRW := hid hr
      have K2 := hid (HK.out.quiet k2)
      clear hr k2
      go_wp2_with fail
      go_loopw [31] (fun kv wr => ∃ k : Nat, k ≤ M ∧ kv = .int .i64 (k : Int) ∧ Box (Keeps [] w2 wr) ∧ Box (∀ j x, j < k → (pts P)[j]? = some x → ptT P g x = true)) (fun kv _ => M - (intOf kv).toNat)
      case atStart => exact ⟨0, by omega, rfl, hid (Keeps.refl _ _), hid fun j x hj => by omega⟩
      case round =>
        obtain ⟨k, hk, rfl, HK, HA⟩ := hrel
        by_cases hlt : k < M
        · have hlt' : (k : Int) < (M : Int) := by omega
          obtain ⟨f, b, i, hpt, hq⟩ := pts_back (p := P) (n := k) (by rw [← HMM.out]; exact hlt)
          obtain ⟨lb, lo, rfl, hc⟩ := HRW.out.at hq
          have d0 := cell_stays HK.out hc.c0
          have d1 := cell_stays HK.out hc.c1
          have d2 := cell_stays HK.out hc.c2
          have KA := hid (HK.out.quiet (Keeps.alloc [] wr (.cells #[.int .i64 (f : Int), .int .i64 (b : Int), .int .i64 (i : Int)] 50)))
          have hn := heap_new wr (.cells #[.int .i64 (f : Int), .int .i64 (b : Int), .int .i64 (i : Int)] 50)
          have HC := hid (ptt_any (PrC.stays _ _ _ _ _ (K2.out.quiet KA.out) HP.out) (HG.out _ (K2.out.quiet KA.out)) hpt)
          have HQQ := hid hq
          have HNW := hid hn
          have HB2 := hid (B2.out HALL.out k (f, b, i) hq HA.out)
          clear hc hq hpt hn
          cases hg : ptT P g (f, b, i) with
          | true =>
            rw [hg] at HC
            have HA2 : Box (∀ j x, j < k + 1 → (pts P)[j]? = some x → ptT P g x = true) := hid fun j x hj hx => by
              by_cases e : j < k
              · exact HA.out j x e hx
              · obtain rfl : j = k := by omega
                rw [HQQ.out] at hx
                cases hx
                exact hg
            clear hg
            go_wp2_with fail
            refine HC.out.mono ?_
            rintro e w4 ⟨rfl, k4⟩
            have K4 := hid (KA.out.quiet k4)
            clear k4
            go_wp2_with fail
            go_roundw
            case rel => exact ⟨k + 1, by omega, by go_num, K4, HA2⟩
            case measure => simp [intOf]; omega
          | false =>
            rw [hg] at HC
            have HQ := hid (HB2.out hg)
            clear hg
            go_wp2_with fail
            refine HC.out.mono ?_
            rintro e w4 ⟨rfl, k4⟩
            have K4 := hid (K2.out.quiet (KA.out.quiet k4))
            have h4 := keep_heap HNW.out k4
            have s0 := hcell h4 0
            have s1 := hcell h4 1
            have s2 := hcell h4 2
            clear k4 h4
            go_wp2_with fail
            refine (HRA.out _ _ _ _).mono ?_
            rintro e w5 ⟨p, rfl, h1, h2⟩
            go_wp2_with fail
            go_ret
            exact EPost.no HQ.out ⟨p, rfl, h1, K4.out.quiet h2⟩
        · obtain rfl : M = k := by omega
          have HE := hid (B3.out HALL.out (fun j x hx => HA.out j x (by rw [HMM.out]; exact (List.getElem?_eq_some_iff.1 hx).1) hx))
          have HC := hid (HM.out wr (K2.out.quiet HK.out))
          cases hm : mainB P with
          | true =>
            rw [hm] at HE HC
            have HQ : Box (chkO P g = none) := hid (by rw [HE.out]; rfl)
            clear hm
            go_wp2_with fail
            refine HC.out.mono ?_
            rintro e w4 ⟨rfl, k4⟩
            have K4 := hid ((K2.out.quiet HK.out).quiet k4)
            clear k4
            go_wp2_with fail
            go_ret
            exact EPost.yes HQ.out ⟨rfl, K4.out⟩
          | false =>
            rw [hm] at HE HC
            have HQ : Box (chkO P g = some (-1, 0, 0)) := hid (by rw [HE.out]; rfl)
            clear hm
            go_wp2_with fail
            refine HC.out.mono ?_
            rintro e w4 ⟨rfl, k4⟩
            have K4 := hid ((K2.out.quiet HK.out).quiet k4)
            clear k4
            go_wp2_with fail
            refine (HRF.out _).mono ?_
            rintro e w5 ⟨p, rfl, h1, h2⟩
            go_wp2_with fail
            go_ret
            exact EPost.no HQ.out ⟨p, rfl, h1, K4.out.quiet h2⟩
end Go.Proofs.YtlopddflbhnjdaaDoor
