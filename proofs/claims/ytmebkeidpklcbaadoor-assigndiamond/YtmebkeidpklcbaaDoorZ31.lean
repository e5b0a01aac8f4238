/-
  Contracts: assign's hasAll, firstBare.
-/
import Derived.Deep.DeepCutAuto
import Derived.Test.YtmebkeidpklcbaaDoorZ03
import Derived.Test.YtmebkeidpklcbaaDoorZ04
import Derived.Test.YtmebkeidpklcbaaDoorZ09
import Derived.Test.YtmebkeidpklcbaaDoorZ28

namespace Go.Proofs.YtmebkeidpklcbaaDoor
open Go.RowKit

set_option maxHeartbeats 1000000 in
theorem hasAll_any {w : World} {b : Nat} {s : Nat → Bool} (hs : SetAt w b s) (hf : Fit s) {a : Option Addr} {l : List Int} (c : Nat) (hl : IntsAt w a l) (hn : l.length ≤ 2000000) :
    Calls Tryd.prog 63 #[.pointer (some ⟨b, 0, none⟩), .slice a l.length c] w fun e w' => e = .returned (.bool (l.all (hasI s))) ∧ ∃ m, w' = w.drewN m := by
  have HH := hid fun (z : Int) (m : Nat) => has_any b s z (w.drewN m) (hs.kept (Keeps.drewN [] w m) (by simp)) hf
  have HL := hid hl
  clear hl hs hf
  obtain ⟨n, hln⟩ : ∃ n, l.length = n := ⟨_, rfl⟩
  have HN := hid hln
  rw [hln] at hn ⊢
  clear hln
  go_enter Tryd.func63, Tryd.ntmps63
  go_wp2_with fail
  go_loopw [9] (fun i wr => ∃ k m : Nat, k ≤ n ∧ i = .int .i64 (k : Int) ∧ wr = w.drewN m ∧ Box ((l.take k).all (hasI s) = true)) (fun i _ => n - (intOf i).toNat)
  case atStart => exact ⟨0, 0, by omega, rfl, rfl, hid (by simp)⟩
  case round =>
    obtain ⟨k, m, hk, rfl, rfl, HA⟩ := hrel
    by_cases hlt : k < n
    · have hlt' : (k : Int) < (n : Int) := by omega
      have hlt2 : k < l.length := by rw [HN.out]; exact hlt
      rcases HL.out with h0 | ⟨bz, oz, rfl, hcz⟩
      · exfalso
        rw [h0] at hlt2
        simp at hlt2
      have hc : (w.drewN m).cell? ⟨bz, oz + k, none⟩ = some (.int .i64 (l.getD k 0)) := hcz k hlt2
      have HTK := hid (take_snoc l k 0 hlt2)
      have HM := hid (getD_mem l k 0 hlt2)
      obtain ⟨z, hz⟩ : ∃ z, l.getD k 0 = z := ⟨_, rfl⟩
      rw [hz] at hc HTK HM
      clear hz hlt2 hcz
      have HZ := hid (HH.out z m)
      cases hb : hasI s z with
      | true =>
        rw [hb] at HZ
        have HB := hid hb
        clear hb
        go_wp2_with (go_at_call 19; refine HZ.out.mono ?_; rintro e w3 ⟨rfl, m3, rfl⟩)
        go_roundw
        case rel => exact ⟨k + 1, m + m3, by omega, by go_num, rfl, hid (by rw [HTK.out, List.all_append, HA.out]; simp [HB.out])⟩
        case measure => simp [intOf]; omega
      | false =>
        rw [hb] at HZ
        have HB : Box (l.all (hasI s) = false) := hid (by rw [List.all_eq_false]; exact ⟨z, HM.out, by simp [hb]⟩)
        clear hb
        go_wp2_with (go_at_call 19; refine HZ.out.mono ?_; rintro e w3 ⟨rfl, m3, rfl⟩)
        go_ret
        exact ⟨by rw [HB.out]; rfl, m + m3, rfl⟩
    · obtain rfl : k = n := by omega
      rw [← HN.out, List.take_length] at HA
      go_wp2
      go_ret
      exact ⟨by rw [HA.out]; rfl, m, rfl⟩
/-- Is a register read at place k of a block that is not assigned there? -/
def badAt (x : Bl8) (s : Nat → Bool) (k : Nat) : Bool :=
  if k < x.code.length then !((usesL (ins8 x k)).all (hasI (dfS (x.code.take k) s))) else decide (x.fin = 2 ∨ x.fin = 3) && !hasI (dfS x.code s) x.reg
/-- What firstBare answers. -/
def BarePost (x : Bl8) (s : Nat → Bool) (b : Nat) (w : World) (e : Ending) (w' : World) : Prop :=
  ((∃ k : Nat, k ≤ x.code.length ∧ e = .returned (.int .i64 (k : Int)) ∧ badAt x s k = true ∧ ∀ j, j < k → badAt x s j = false) ∨ (e = .returned (.int .i64 (-1)) ∧ ∀ k, k ≤ x.code.length → badAt x s k = false)) ∧ Keeps [b] w w'
theorem badAt_in {x : Bl8} {s : Nat → Bool} {k : Nat} (h : k < x.code.length) : badAt x s k = !((usesL (ins8 x k)).all (hasI (dfS (x.code.take k) s))) := by unfold badAt; rw [if_pos h]
theorem badAt_end (x : Bl8) (s : Nat → Bool) : badAt x s x.code.length = (decide (x.fin = 2 ∨ x.fin = 3) && !hasI (dfS x.code s) x.reg) := by unfold badAt; rw [if_neg (by omega)]
set_option maxRecDepth 20000 in
set_option maxHeartbeats 4000000 in
theorem firstBare_any {w0 w : World} {bb bo : Nat} {x : Bl8} (h : BlC w0 bb bo x) (k0 : Keeps [] w0 w) (hl : x.code.length ≤ 1000000) (hfew : ∀ k, k < x.code.length → (ins8 x k).args.length ≤ 1000) {b : Nat} {s : Nat → Bool} (hs : SetAt w b s) (hf : Fit s) (hb : w0.heap.size ≤ b) :
    Calls Tryd.prog 49 #[.pointer (some ⟨bb, bo, none⟩), .pointer (some ⟨b, 0, none⟩)] w (BarePost x s b w) := by
  obtain ⟨ca, cp, c0, hrows, -⟩ := h.c0
  have C0 : Box (∀ w', Keeps [] w0 w' → w'.cell? ⟨bb, bo, none⟩ = some (.slice ca x.code.length cp) ∧ w'.cell? ⟨bb, bo + 1, none⟩ = some (.int .i64 x.fin) ∧ w'.cell? ⟨bb, bo + 2, none⟩ = some (.int .i64 x.reg)) := hid fun w' k => ⟨cell_stays k c0, cell_stays k h.c1.1, cell_stays k h.c2.1⟩
  have HR := hid hrows
  have HS0 := hid hs
  have HK0 := hid k0
  have HFEW := hid hfew
  have HBB : Box (∀ y ∈ [b], w0.heap.size ≤ y) := hid fun y hy => by simp at hy; omega
  have HFT := hid fun (k : Nat) => dfS_fit (x.code.take k) s hf
  clear h c0 hrows hs k0 hfew hf hb
  obtain ⟨L, hL⟩ : ∃ L, x.code.length = L := ⟨_, rfl⟩
  rw [hL] at C0 hl
  have HL := hid hL
  clear hL
  obtain ⟨cc, -, -⟩ := C0.out _ HK0.out
  go_enter Tryd.func49, Tryd.ntmps49
  go_wp2_with fail
  clear cc
  go_loopw [14] (fun i wr => ∃ k : Nat, k ≤ L ∧ i = .int .i64 (k : Int) ∧ Box (SetAt wr b (dfS (x.code.take k) s)) ∧ Box (Keeps [b] w wr) ∧ Box (∀ j, j < k → badAt x s j = false)) (fun i _ => L - (intOf i).toNat)
  case atStart => exact ⟨0, by omega, rfl, by rw [List.take_zero]; exact HS0, hid (Keeps.refl _ _), hid (fun j hj => by omega)⟩
  case round =>
    clear HS0
    obtain ⟨k, hk, rfl, HS, HK, HJ⟩ := hrel
    have HKW := hid (HK0.out.fresh HK.out HBB.out)
    by_cases hlt : k < L
    · have hlt' : (k : Int) < (L : Int) := by omega
      have hlt2 : k < x.code.length := by rw [HL.out]; exact hlt
      have HTK := hid (take_snoc x.code k ⟨0, 0, 0, 0, 0, []⟩ hlt2)
      have HBA := hid (badAt_in (s := s) hlt2)
      have hfw := HFEW.out k hlt2
      obtain ⟨ib, io, rfl, hin⟩ := (HR.out.quiet InC.stays HKW.out).at (j := k) (y := ins8 x k) (getD_get hlt2)
      have HTK2 : Box (x.code.take (k + 1) = x.code.take k ++ [ins8 x k]) := HTK
      clear hlt2 HTK
      obtain ⟨i, hi⟩ : ∃ i, ins8 x k = i := ⟨_, rfl⟩
      rw [hi] at hin HTK2 HBA hfw
      clear hi
      obtain ⟨aa, ap, h5, hz5, -⟩ := hin.c5
      have h0 := hin.c0.1
      have h1 := hin.c1.1
      have h2 := hin.c2.1
      have h3 := hin.c3.1
      have h4 := hin.c4.1
      clear hin
      have ka := Keeps.alloc [] wr (.cells #[.int .i64 i.op, .int .i64 i.dst, .int .i64 i.a, .int .i64 i.b, .int .i64 i.n, .slice aa i.args.length ap] 65)
      have hnw := heap_new wr (.cells #[.int .i64 i.op, .int .i64 i.dst, .int .i64 i.a, .int .i64 i.b, .int .i64 i.n, .slice aa i.args.length ap] 65)
      have hz := rows_ints hz5
      have HU := hid (uuse_any i aa ap _ (hz.kept ka (fun _ _ _ => by simp)) (by omega))
      have HD := hid fun (w' : World) => def_any i (.slice aa i.args.length ap) w'
      have HLU : Box ((usesL i).length ≤ 2000000) := hid (by have := usesL_len i; omega)
      have HS2 := hid (HS.out.kept ka (by simp))
      have HK2 := hid (HK.out.quiet ka)
      have HNW := hid hnw
      have HSN := hid (dfS_snoc (x.code.take k) s i)
      rw [← HTK2.out] at HSN
      have HF := hid (HFT.out k)
      unfold insV at HU HD
      unfold defV at HD
      clear ka HS HK HTK2 hz hz5 hnw
      generalize hal : i.args.length = al at *
      clear hal
      generalize hs1 : dfS (x.code.take k) s = s1 at *
      clear hs1
      go_upto_region 4 with fail
      generalize wr.alloc (.cells #[.int .i64 i.op, .int .i64 i.dst, .int .i64 i.a, .int .i64 i.b, .int .i64 i.n, .slice aa al ap] 65) = wa at *
      generalize hws : wr.heap.size = u at *
      clear hws
      have e0 := hcell HNW.out 0
      have e1 := hcell HNW.out 1
      have e2 := hcell HNW.out 2
      have e3 := hcell HNW.out 3
      have e4 := hcell HNW.out 4
      have e5 := hcell HNW.out 5
      have HHA := hid fun (a : Option Addr) (c : Nat) (w' : World) (h' : SetAt w' b s1) (hz : IntsAt w' a (usesL i)) => hasAll_any h' HF.out c hz HLU.out
      have HNE : Box (∀ w', Keeps [] wa w' → w'.heap[u]? = some (.cells #[.int .i64 i.op, .int .i64 i.dst, .int .i64 i.a, .int .i64 i.b, .int .i64 i.n, .slice aa al ap] 65 (0, 0))) := hid fun w' k' => keep_heap HNW.out k'
      cases hall : (usesL i).all (hasI s1) with
      | false =>
        rw [hall] at HBA HHA
        go_wp2_with (first
          | (go_at_call 64; refine HU.out.mono ?_; rintro e w3 ⟨a3, c3, rfl, h3, k3⟩)
          | (go_at_call 63; refine (HHA.out a3 c3 _ (HS2.out.kept k3 (by simp)) h3).mono ?_; rintro e w4 ⟨rfl, m4, rfl⟩))
        go_ret
        exact ⟨.inl ⟨k, by rw [HL.out]; omega, rfl, HBA.out, HJ.out⟩, (HK2.out.quiet k3).quiet (Keeps.drewN [] _ _)⟩
      | true =>
        rw [hall] at HBA HHA
        have HA := hid fun (w' : World) (h' : SetAt w' b s1) => add_any b s1 i.dst w' h' HF.out
        cases hd : isDef i with
        | true =>
          rw [hd] at HD HSN
          rw [if_pos rfl] at HD HSN
          go_wp2_with (first
            | (go_at_call 64; refine HU.out.mono ?_; rintro e w3 ⟨a3, c3, rfl, h3, k3⟩)
            | (go_at_call 63; refine (HHA.out a3 c3 _ (HS2.out.kept k3 (by simp)) h3).mono ?_; rintro e w4 ⟨rfl, m4, rfl⟩; have k4 := k3.quiet (Keeps.drewN [] w3 m4); have hh := HNE.out _ k4; have q0 := hcell hh 0; have q1 := hcell hh 1; have q2 := hcell hh 2; have q3 := hcell hh 3; have q4 := hcell hh 4; have q5 := hcell hh 5)
            | (go_at_call 60; refine (HD.out _).mono ?_; rintro e w5 ⟨rfl, k5⟩; have k6 := k4.quiet k5)
            | (go_at_call 59; refine (HA.out _ (HS2.out.kept k6 (by simp))).mono ?_; rintro e w7 ⟨rfl, h7, k7⟩))
          go_roundw
          case rel => exact ⟨k + 1, by omega, by go_num, hid (by rw [HSN.out]; exact h7), hid ((HK2.out.quiet k6).step k7), hid (fun j hj => by
            by_cases e : j = k
            · subst e; exact HBA.out
            · exact HJ.out j (by omega))⟩
          case measure => simp [intOf]; omega
        | false =>
          rw [hd] at HD HSN
          rw [if_neg (by decide)] at HD HSN
          go_wp2_with (first
            | (go_at_call 64; refine HU.out.mono ?_; rintro e w3 ⟨a3, c3, rfl, h3, k3⟩)
            | (go_at_call 63; refine (HHA.out a3 c3 _ (HS2.out.kept k3 (by simp)) h3).mono ?_; rintro e w4 ⟨rfl, m4, rfl⟩; have k4 := k3.quiet (Keeps.drewN [] w3 m4); have hh := HNE.out _ k4; have q0 := hcell hh 0; have q1 := hcell hh 1; have q2 := hcell hh 2; have q3 := hcell hh 3; have q4 := hcell hh 4; have q5 := hcell hh 5)
            | (go_at_call 60; refine (HD.out _).mono ?_; rintro e w5 ⟨rfl, k5⟩; have k6 := k4.quiet k5))
          go_roundw
          case rel => exact ⟨k + 1, by omega, by go_num, hid (by rw [HSN.out]; exact HS2.out.kept k6 (by simp)), hid (HK2.out.quiet k6), hid (fun j hj => by
            by_cases e : j = k
            · subst e; exact HBA.out
            · exact HJ.out j (by omega))⟩
          case measure => simp [intOf]; omega
    · obtain rfl : k = L := by omega
      have HBE := hid (badAt_end x s)
      have htk : x.code.take k = x.code := by rw [← HL.out, List.take_length]
      rw [htk] at HS
      rw [HL.out] at HBE
      have HF : Box (Fit (dfS x.code s)) := hid (by have := HFT.out k; rw [htk] at this; exact this)
      have HH := hid fun (z : Int) (w' : World) (h' : SetAt w' b (dfS x.code s)) => has_any b _ z w' h' HF.out
      obtain ⟨q0, q1, q2⟩ := C0.out _ HKW.out
      clear htk
      by_cases f2 : x.fin = 2
      · have HFI : Box (x.fin = 2 ∨ x.fin = 3) := hid (.inl f2)
        rw [f2] at q1
        clear f2
        have HZ := hid (HH.out x.reg wr HS.out)
        cases hz : hasI (dfS x.code s) x.reg with
        | true =>
          rw [hz] at HZ HBE
          go_wp2_with (go_at_call 19; refine HZ.out.mono ?_; rintro e w3 ⟨rfl, m3, rfl⟩)
          go_ret
          exact ⟨.inr ⟨rfl, fun j hj => by
            by_cases e : j = k
            · subst e; rw [HBE.out]; simp
            · exact HJ.out j (by rw [HL.out] at hj; omega)⟩, HK.out.quiet (Keeps.drewN [] _ _)⟩
        | false =>
          rw [hz] at HZ HBE
          go_wp2_with (go_at_call 19; refine HZ.out.mono ?_; rintro e w3 ⟨rfl, m3, rfl⟩; have q0' : (wr.drewN m3).cell? ⟨bb, bo, none⟩ = some (.slice ca k cp) := q0)
          go_ret
          exact ⟨.inl ⟨k, by rw [HL.out]; omega, rfl, by rw [HBE.out]; simp [HFI.out], HJ.out⟩, HK.out.quiet (Keeps.drewN [] _ _)⟩
      by_cases f3 : x.fin = 3
      · have HFI : Box (x.fin = 2 ∨ x.fin = 3) := hid (.inr f3)
        rw [f3] at q1
        clear f2 f3
        have HZ := hid (HH.out x.reg wr HS.out)
        cases hz : hasI (dfS x.code s) x.reg with
        | true =>
          rw [hz] at HZ HBE
          go_wp2_with (go_at_call 19; refine HZ.out.mono ?_; rintro e w3 ⟨rfl, m3, rfl⟩)
          go_ret
          exact ⟨.inr ⟨rfl, fun j hj => by
            by_cases e : j = k
            · subst e; rw [HBE.out]; simp
            · exact HJ.out j (by rw [HL.out] at hj; omega)⟩, HK.out.quiet (Keeps.drewN [] _ _)⟩
        | false =>
          rw [hz] at HZ HBE
          go_wp2_with (go_at_call 19; refine HZ.out.mono ?_; rintro e w3 ⟨rfl, m3, rfl⟩; have q0' : (wr.drewN m3).cell? ⟨bb, bo, none⟩ = some (.slice ca k cp) := q0)
          go_ret
          exact ⟨.inl ⟨k, by rw [HL.out]; omega, rfl, by rw [HBE.out]; simp [HFI.out], HJ.out⟩, HK.out.quiet (Keeps.drewN [] _ _)⟩
      have HFI : Box (¬ (x.fin = 2 ∨ x.fin = 3)) := hid (fun h => h.elim f2 f3)
      have o2 : (x.fin == 2) = false := by simpa using f2
      have o3 : (x.fin == 3) = false := by simpa using f3
      clear f2 f3
      go_wp2
      go_ret
      exact ⟨.inr ⟨rfl, fun j hj => by
        by_cases e : j = k
        · subst e; rw [HBE.out]; simp [HFI.out]
        · exact HJ.out j (by rw [HL.out] at hj; omega)⟩, HK.out⟩
end Go.Proofs.YtmebkeidpklcbaaDoor
