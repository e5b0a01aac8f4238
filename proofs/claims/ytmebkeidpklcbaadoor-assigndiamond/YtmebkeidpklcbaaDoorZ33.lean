/-
  Contract: assign's Check, the walk.
-/
import Derived.Deep.DeepCutAuto
import Derived.Test.YtmebkeidpklcbaaDoorZ32

namespace Go.Proofs.YtmebkeidpklcbaaDoor
open Go.RowKit

theorem bare_int {x : Bl8} {s : Nat → Bool} {b fn : Nat} {args : Array Value} {w : World} (h : Calls Tryd.prog fn args w (BarePost x s b w)) : Calls Tryd.prog fn args w fun e w' => ∃ v : Int, e = .returned (.int .i64 v) ∧ ((∃ k : Nat, k ≤ x.code.length ∧ v = (k : Int) ∧ badAt x s k = true ∧ ∀ j, j < k → badAt x s j = false) ∨ (v = -1 ∧ ∀ k, k ≤ x.code.length → badAt x s k = false)) ∧ Keeps [b] w w' := by
  refine h.mono ?_
  rintro e w' ⟨⟨k, h1, rfl, h2⟩ | ⟨rfl, h2⟩, h3⟩
  · exact ⟨_, rfl, .inl ⟨k, h1, rfl, h2⟩, h3⟩
  · exact ⟨_, rfl, .inr ⟨rfl, h2⟩, h3⟩
set_option maxRecDepth 20000 in
set_option maxHeartbeats 8000000 in
theorem check_any {w : World} {pb po : Nat} {P : Pr8} (h : PrC w pb po P) (hT : TabAt w) (hz : SzP P) :
    Calls Tryd.prog 21 #[.pointer (some ⟨pb, po, none⟩)] w (FirstPost ((pts P).find? (badP P)) 5 w) := by
  have HFL : Box (∀ (w' : World) (f : Nat), Keeps [] w w' → f < P.funcs.length → Calls Tryd.prog 10 #[.pointer (some ⟨pb, po, none⟩), .int .i64 (f : Int)] w' fun e w'' => ∃ a, e = .returned (.agg #[.int .i64 ((flowF (fun8 P f)).length : Int), .slice a (flowF (fun8 P f)).length (flowF (fun8 P f)).length]) ∧ GAt w'' w''.heap.size a (flowF (fun8 P f)) ∧ Keeps [] w' w'') := hid fun w' f k hf => flow_any (PrC.stays _ _ _ _ _ k h) hf (hz.bk f hf)
  have HRE : Box (∀ (w' : World) (f : Nat) (a : Option Addr), f < P.funcs.length → GAt w' w'.heap.size a (flowF (fun8 P f)) → Calls Tryd.prog 32 #[.agg #[.int .i64 ((flowF (fun8 P f)).length : Int), .slice a (flowF (fun8 P f)).length (flowF (fun8 P f)).length]] w' fun e w'' => ∃ b, e = .returned (.pointer (some ⟨b, 0, none⟩)) ∧ SetAt w'' b (rch (flowF (fun8 P f)) [0]) ∧ Keeps [] w' w'' ∧ w'.heap.size ≤ b) := hid fun w' f a hf hG => reached_any (flowF (fun8 P f)) (flowF_sm (hz.bk f hf)) a _ w'.heap.size w' hG (Nat.le_refl _)
  have HRF : Box (∀ f, f < P.funcs.length → Fit (rch (flowF (fun8 P f)) [0])) := hid fun f hf => rchS_fit (flowF_sm (hz.bk f hf)) [0] none_ fit_none
  have HIN : Box (∀ (w' : World) (f : Nat), Keeps [] w w' → f < P.funcs.length → Calls Tryd.prog 16 #[.pointer (some ⟨pb, po, none⟩), .int .i64 (f : Int)] w' (InPost w' P (fun8 P f))) := hid fun w' f k hf => in_any (PrC.stays _ _ _ _ _ k h) (hT.kept k (by simp)) hf (hz.bk0 f hf) (hz.bk f hf) (hz.rg f hf) (fun b => hz.code f b hf)
  obtain ⟨fa, fcp, H⟩ := h.fns
  have h4 := H.cell
  have C4 : Box (∀ w', Keeps [] w w' → w'.cell? ⟨pb, po + 4, none⟩ = some (.slice fa P.funcs.length fcp)) := hid fun w' k => cell_stays k h4
  have FA : Box (∀ f, f < P.funcs.length → ∃ fb fo ba bcp, fa = some ⟨fb, fo, none⟩ ∧ BksAt w fb fo P f ba bcp) := hid fun f hf => H.at hf
  have HZ := hid hz
  have hN := hz.fn
  clear h H h4 hT hz
  obtain ⟨N, hNe⟩ : ∃ N, P.funcs.length = N := ⟨_, rfl⟩
  have HN := hid hNe
  rw [hNe] at HFL HRE HRF HIN C4 FA hN
  clear hNe
  have c4 := C4.out _ (Keeps.refl _ _)
  go_enter Tryd.func21, Tryd.ntmps21
  go_wp2_with fail
  clear c4
  go_loopw [15] (fun i wr => ∃ f : Nat, f ≤ N ∧ i = .int .i64 (f : Int) ∧ Box (Keeps [] w wr) ∧ Box (Well (badP P) (ptP P f))) (fun i _ => N - (intOf i).toNat)
  case atStart => exact ⟨0, by omega, rfl, hid (Keeps.refl _ _), hid (Well.nil _)⟩
  case round =>
    obtain ⟨f, hf, rfl, HK, HW⟩ := hrel
    by_cases hlt : f < N
    · have hlt' : (f : Int) < (N : Int) := by omega
      go_upto_region 8 with (first
        | (go_at_call 10; refine (HFL.out _ f HK.out hlt).mono ?_; rintro e w1 ⟨a1, rfl, g1, k1⟩)
        | (go_at_call 32; refine (HRE.out _ f a1 hlt g1).mono ?_; rintro e w2 ⟨b2, rfl, h2, k2, n2⟩)
        | (go_at_call 16; refine (HIN.out _ f ((HK.out.quiet k1).quiet k2) hlt).mono ?_; rintro e w3 ⟨p3, d3, q3, rfl, h3, l3, m3, k3⟩))
      have HH3 := hid h3
      have HK3 := hid (((HK.out.quiet k1).quiet k2).quiet k3)
      have H2 := hid (h2.kept k3 (by simp))
      have hb2 : b2 < w2.heap.size := h2.lt'
      have hw2 : w.heap.size ≤ w2.heap.size := ((HK.out.quiet k1).quiet k2).size
      have HNEW : Box (∀ j, j < (fun8 P f).blocks.length → q3 ≤ d3 j) := hid h3.new
      have HINJ := hid h3.inj
      have HHF := hid (HRF.out f hlt)
      have HIF := hid fun (b : Nat) => (show Fit (inS P (fun8 P f) b) from fun m hm => by
        have := HZ.out.rg f (by rw [HN.out]; exact hlt)
        unfold inS
        rw [decide_eq_false (by omega)]
        rfl)
      have HBF : Box (∀ b, b < (fun8 P f).blocks.length → ∀ (w' : World) (db : Nat), Keeps [] w w' → SetAt w' db (inS P (fun8 P f) b) → w.heap.size ≤ db → ∃ fb fo bb bo bcp, fa = some ⟨fb, fo, none⟩ ∧ w'.cell? ⟨fb, fo + f * 3 + 2, none⟩ = some (.slice (some ⟨bb, bo, none⟩) (fun8 P f).blocks.length bcp) ∧ Calls Tryd.prog 49 #[.pointer (some ⟨bb, bo + b * 5, none⟩), .pointer (some ⟨db, 0, none⟩)] w' (BarePost (blk8 (fun8 P f) b) (inS P (fun8 P f) b) db w')) := hid fun b hb w' db k' hs' hdb => by
        obtain ⟨fb, fo, ba, bcp, e, BB⟩ := FA.out f hlt
        obtain ⟨bb, bo, rfl, hbl⟩ := BB.at hb
        have hf' : f < P.funcs.length := by rw [HN.out]; exact hlt
        exact ⟨fb, fo, bb, bo, bcp, e, cell_stays k' BB.cell, firstBare_any hbl k' (HZ.out.code f b hf') (fun k hk => HZ.out.few f b k hf' hk) hs' (HIF.out b) hdb⟩
      have HPT := hid fun (b i : Nat) (hb : b < (fun8 P f).blocks.length) (hi : i ≤ (blk8 (fun8 P f) b).code.length) => (show IsPt P f b i from ⟨by rw [HN.out]; exact hlt, hb, hi⟩)
      have HB6 : Box ((fun8 P f).blocks.length ≤ 600) := hid (HZ.out.bk f (by rw [HN.out]; exact hlt))
      have hB6 := HB6.out
      clear h2 h3 k1 k2 k3 n2 g1 HK
      obtain ⟨n, hn⟩ : ∃ n, (fun8 P f).blocks.length = n := ⟨_, rfl⟩
      have HNB := hid hn
      rw [hn] at HH3 HNEW HINJ HBF HPT hB6 ⊢
      clear hn
      go_loopw [26] (fun i wr => ∃ b : Nat, b ≤ n ∧ i = .int .i64 (b : Int) ∧ Box (Keeps [] w wr) ∧ Box (SetAt wr b2 (rch (flowF (fun8 P f)) [0])) ∧ Box (RowAt wr w2.heap.size p3 n 56 (pv n d3)) ∧ Box (∀ j, b ≤ j → j < n → SetAt wr (d3 j) (inS P (fun8 P f) j)) ∧ Box (Well (badP P) (ptF (fun8 P f) f b))) (fun i _ => n - (intOf i).toNat)
      case atStart => exact ⟨0, by omega, rfl, HK3, H2, hid HH3.out.row, hid (fun j _ hj => HH3.out.set j hj), hid (Well.nil _)⟩
      case round =>
        clear HK3 H2 HH3
        obtain ⟨b, hb, rfl, HK, H2, HRO, HST, HWB⟩ := hrel
        by_cases hlb : b < n
        · have hlb' : (b : Int) < (n : Int) := by omega
          have cz := HRO.out.cell hlb
          unfold pv at cz
          rw [if_pos hlb] at cz
          have HHS : Box (∀ w', SetAt w' b2 (rch (flowF (fun8 P f)) [0]) → Calls Tryd.prog 19 #[.pointer (some ⟨b2, 0, none⟩), .int .i64 (b : Int)] w' fun e w'' => e = .returned (.bool (rch (flowF (fun8 P f)) [0] b)) ∧ ∃ m, w'' = w'.drewN m) := hid fun w' h' => by
            have := has_any b2 (rch (flowF (fun8 P f)) [0]) (b : Int) w' h' HHF.out
            unfold hasI at this
            rw [Int.toNat_natCast, decide_eq_true (by omega : (0 : Int) ≤ (b : Int)), Bool.true_and] at this
            exact this
          cases hm : rch (flowF (fun8 P f)) [0] b with
          | false =>
            rw [hm] at HHS
            have HWN := hid (well_out hm ((blk8 (fun8 P f) b).code.length + 1))
            clear hm
            go_wp2_with (go_at_call 19; refine (HHS.out _ H2.out).mono ?_; rintro e w5 ⟨rfl, m5, rfl⟩)
            have kd := Keeps.drewN [] wr m5
            go_roundw
            case rel => exact ⟨b + 1, by omega, by go_num, hid (HK.out.quiet kd), hid (H2.out.kept kd (by simp)), hid (HRO.out.kept kd (by simp)), hid (fun j h1 h2 => (HST.out j (by omega) h2).kept kd (by simp)), hid (by rw [ptF_succ]; exact HWB.out.app HWN.out)⟩
            case measure => simp [intOf]; omega
          | true =>
            rw [hm] at HHS
            have HM := hid hm
            clear hm
            have HDB : Box (w.heap.size ≤ d3 b) := hid (by have := HNEW.out b hlb; omega)
            have HD2 : Box (d3 b ≠ b2) := hid (by have := HNEW.out b hlb; omega)
            have HDP : Box (p3 ≠ d3 b) := hid (by have := HNEW.out b hlb; omega)
            go_upto_region 11 with (go_at_call 19; refine (HHS.out _ H2.out).mono ?_; rintro e w5 ⟨rfl, m5, rfl⟩)
            have kd := Keeps.drewN [] wr m5
            have HK5 := hid (HK.out.quiet kd)
            have H25 := hid (H2.out.kept kd (by simp))
            have HR5 := hid (HRO.out.kept kd (by simp))
            have HS5 : Box (∀ j, b ≤ j → j < n → SetAt (wr.drewN m5) (d3 j) (inS P (fun8 P f) j)) := hid (fun j h1 h2 => (HST.out j h1 h2).kept kd (by simp))
            clear HK H2 HRO HST kd cz HHS
            generalize wr.drewN m5 = w6 at *
            obtain ⟨fb, fo, bb, bo, bcp, rfl, c2, hbare⟩ := HBF.out b hlb w6 (d3 b) HK5.out (HS5.out b (Nat.le_refl _) hlb) HDB.out
            have c4 := C4.out _ HK5.out
            have HBR := hid (bare_int hbare)
            clear hbare
            go_upto_region 12 with (go_at_call 49; refine HBR.out.mono ?_; rintro e w7 ⟨v7, rfl, h7, k7⟩)
            have HKN := hid (HK5.out.fresh k7 (fun x hx => by have := HDB.out; simp at hx; omega))
            rcases h7 with ⟨k, hk, rfl, hbad, hgood⟩ | ⟨rfl, hgood⟩
            · have hk0 : (0 : Int) ≤ (k : Int) := by omega
              have HFD : Box ((pts P).find? (badP P) = some (f, b, k)) := hid (find_pt_at (HPT.out b k hlb hk) (HW.out.app (HWB.out.app (well_in hgood))) (by
                show (rch (flowF (fun8 P f)) [0] b && badAt (blk8 (fun8 P f) b) (inS P (fun8 P f) b) k) = true
                rw [HM.out, hbad]
                rfl))
              clear hbad hgood hk
              go_wp2_with (go_at_call 33; refine (newR_any _ _ _ _ _).mono ?_; rintro e w8 ⟨p8, rfl, h8, k8⟩)
              go_ret
              unfold FirstPost
              rw [HFD.out]
              exact ⟨p8, rfl, h8, HKN.out.quiet k8⟩
            · have HWN := hid (well_in (P := P) (f := f) (b := b) (n := (blk8 (fun8 P f) b).code.length + 1) (fun i hi => hgood i (by omega)))
              clear hgood
              go_wp2_with fail
              go_roundw
              case rel => exact ⟨b + 1, by omega, by go_num, HKN, hid (H25.out.kept k7 (by have := HD2.out; simp; omega)), hid (HR5.out.kept k7 (by have := HDP.out; simp; omega)), hid (fun j h1 h2 => (HS5.out j (by omega) h2).kept k7 (by have := HINJ.out j b h2 hlb (by omega); simp; omega)), hid (by rw [ptF_succ]; exact HWB.out.app HWN.out)⟩
              case measure => simp [intOf]; omega
        · obtain rfl : b = n := by omega
          rw [← HNB.out] at HWB
          go_wp2_with fail
          go_roundw
          case rel => exact ⟨f + 1, by omega, by go_num, HK, hid (by rw [ptP_succ]; exact HW.out.app HWB.out)⟩
          case measure => simp [intOf]; omega
    · obtain rfl : f = N := by omega
      have HFD : Box ((pts P).find? (badP P) = none) := hid (find_pt_none (by unfold pts; rw [HN.out]; exact HW.out))
      go_wp2
      go_ret
      unfold FirstPost
      rw [HFD.out]
      exact ⟨rfl, HK.out⟩
end Go.Proofs.YtmebkeidpklcbaaDoor
