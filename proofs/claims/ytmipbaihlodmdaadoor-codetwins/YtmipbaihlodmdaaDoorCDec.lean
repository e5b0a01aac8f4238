/-
  code's reader of a program; Decode.
-/
import Derived.Test.YtmipbaihlodmdaaDoorCRc
import Derived.Test.YtmipbaihlodmdaaDoorQAs
import Derived.Test.YtmipbaihlodmdaaDoorCEnc
namespace Go.Proofs.YtmipbaihlodmdaaDoor
open Go.RowKit

/-- What the reader of a program tells. -/
def RpPost (w : World) (rb : Nat) (s : Option (List UInt8)) (e : Ending) (w' : World) : Prop :=
  ∃ b P s', e = .returned (.pointer (some ⟨b, 0, none⟩)) ∧ PrC (above w.heap.size w') b 0 P ∧ Stp prE prOk s P s' ∧ RdAt w' rb s' ∧ Keeps [rb] w w'
theorem SlV.there {α : Type} {c : Nat} {R : World → Nat → Nat → α → Prop} {B B1 rb : Nat} {w1 wf : World} {v : Value} {l : List α} (hR : SubS R) (h : SlV c R (above B1 w1) v l) (hB : B ≤ B1) (hr : rb < B1) (k : Keeps [rb] w1 wf) : SlV c R (above B wf) v l :=
  lift (SlV.sub hR) (q := rb) h hB hr hr (k.mono (by simp))
set_option maxRecDepth 20000 in
set_option maxHeartbeats 4000000 in
theorem rprog_any {w : World} {rb : Nat} {s : Option (List UInt8)} (h : RdAt w rb s) : Calls Tryd.prog 26 #[.pointer (some ⟨rb, 0, none⟩)] w (RpPost w rb s) := by
  have hrb := hid h.lt
  have H1 := hid fun (w' : World) (s' : Option (List UInt8)) (h : RdAt w' rb s') => rtyss_any h
  have H2 := hid fun (w' : World) (s' : Option (List UInt8)) (h : RdAt w' rb s') => rsgs_any h
  have H3 := hid fun (w' : World) (s' : Option (List UInt8)) (h : RdAt w' rb s') => rifs_any h
  have H4 := hid fun (w' : World) (s' : Option (List UInt8)) (h : RdAt w' rb s') => rims_any h
  have H5 := hid fun (w' : World) (s' : Option (List UInt8)) (h : RdAt w' rb s') => rfus_any h
  have H6 := hid fun (w' : World) (s' : Option (List UInt8)) (h : RdAt w' rb s') => rnumber_any h
  go_enter Tryd.func26, Tryd.ntmps26
  go_wp2_with fail
  refine (H1.out _ _ h).mono ?_
  rintro e w1 ⟨v1, x1, s1, rfl, V1, P1, R1, K1⟩
  have Y1 := hid V1
  obtain ⟨a1, m1, rfl, _⟩ := V1
  have HP1 := hid P1
  clear P1 H1
  go_wp2_with fail
  refine (H2.out _ _ R1).mono ?_
  rintro e w2 ⟨v2, x2, s2, rfl, V2, P2, R2, K2⟩
  have Y2 := hid V2
  obtain ⟨a2, m2, rfl, _⟩ := V2
  have HP2 := hid P2
  clear P2 H2
  go_wp2_with fail
  refine (H3.out _ _ R2).mono ?_
  rintro e w3 ⟨v3, x3, s3, rfl, V3, P3, R3, K3⟩
  have Y3 := hid V3
  obtain ⟨a3, m3, rfl, _⟩ := V3
  have HP3 := hid P3
  clear P3 H3
  go_wp2_with fail
  refine (H4.out _ _ R3).mono ?_
  rintro e w4 ⟨v4, x4, s4, rfl, V4, P4, R4, K4⟩
  have Y4 := hid V4
  obtain ⟨a4, m4, rfl, _⟩ := V4
  have HP4 := hid P4
  clear P4 H4
  go_wp2_with fail
  refine (H5.out _ _ R4).mono ?_
  rintro e w5 ⟨v5, x5, s5, rfl, V5, P5, R5, K5⟩
  have Y5 := hid V5
  obtain ⟨a5, m5, rfl, _⟩ := V5
  have HP5 := hid P5
  clear P5 H5
  go_wp2_with fail
  refine (H6.out _ _ R5).mono ?_
  rintro e w6 ⟨v6, x6, s6, rfl, V6, P6, R6, K6⟩
  have Y6 := hid V6
  obtain ⟨rfl, _⟩ := V6
  have HP6 := hid P6
  clear P6 H6
  obtain ⟨wf, HWF⟩ : ∃ wf, Box (wf = w6.alloc (.cells #[.slice a1 x1.length m1, .slice a2 x2.length m2, .slice a3 x3.length m3, .slice a4 x4.length m4, .slice a5 x5.length m5, .int .i64 x6] 46)) := ⟨_, hid rfl⟩
  have KF : Keeps [rb] w6 wf := by rw [HWF.out]; exact Keeps.alloc [rb] w6 _
  have hq : wf.heap[w6.heap.size]? = some (.cells #[.slice a1 x1.length m1, .slice a2 x2.length m2, .slice a3 x3.length m3, .slice a4 x4.length m4, .slice a5 x5.length m5, .int .i64 x6] 46 (0, 0)) := by rw [HWF.out]; exact heap_new _ _
  have T5 := K6.step KF
  have T4 := K5.step T5
  have T3 := K4.step T4
  have T2 := K3.step T3
  have T1 := K2.step T2
  have S1 := K1.size
  have S2 := K2.size
  have S3 := K3.size
  have S4 := K4.size
  have S5 := K5.size
  have S6 := K6.size
  have hr0 := hrb.out
  have Z1 := SlV.there (B := w.heap.size) TysC.sub Y1.out (Nat.le_refl _) hr0 T1
  have Z2 := SlV.there (B := w.heap.size) SgC.sub Y2.out (by omega) (by omega) T2
  have Z3 := SlV.there (B := w.heap.size) IntsC.sub Y3.out (by omega) (by omega) T3
  have Z4 := SlV.there (B := w.heap.size) ImC.sub Y4.out (by omega) (by omega) T4
  have Z5 := SlV.there (B := w.heap.size) FuC.sub Y5.out (by omega) (by omega) T5
  have hc : ∀ i, (above w.heap.size wf).cell? ⟨w6.heap.size, i, none⟩ = (#[.slice a1 x1.length m1, .slice a2 x2.length m2, .slice a3 x3.length m3, .slice a4 x4.length m4, .slice a5 x5.length m5, .int .i64 x6] : Array Value)[i]? := fun i => by
    rw [World.cell?_of_block (w := wf) (above_ge (by show w.heap.size ≤ w6.heap.size; omega))]
    exact hcell hq i
  have HPR : Box (PrC (above w.heap.size wf) w6.heap.size 0 ⟨x1, x2, x3, x4, x5, x6⟩) := hid ⟨SlV.cell Z1 (hc 0), SlV.cell Z2 (hc 1), SlV.cell Z3 (hc 2), SlV.cell Z4 (hc 3), SlV.cell Z5 (hc 4), ⟨hc 5, Y6.out.2⟩⟩
  have HKF := hid (K1.step T1)
  have HRF : Box (RdAt wf rb s6) := hid (by rw [HWF.out]; exact R6.quiet (Keeps.alloc [] w6 _))
  have HW5 := hid HWF.out.symm
  clear HWF KF hq T1 T2 T3 T4 T5 S1 S2 S3 S4 S5 S6 Z1 Z2 Z3 Z4 Z5 hc K1 K2 K3 K4 K5 K6 R1 R2 R3 R4 R5 R6 hr0 h
  go_wp2_with fail
  rw [HW5.out]
  go_ret
  exact ⟨_, _, s6, rfl, HPR.out, (Stp.pair Cd.tyss HP1.out (Stp.pair Cd.sgs HP2.out (Stp.pair Cd.ifs HP3.out (Stp.pair Cd.ims HP4.out (Stp.pair Cd.fus HP5.out HP6.out))))).map (fun t => (⟨t.1, t.2.1, t.2.2.1, t.2.2.2.1, t.2.2.2.2.1, t.2.2.2.2.2⟩ : Pr8)) (fun x => (x.recs, x.sigs, x.ifs, x.ims, x.funcs, x.main)) rfl (fun _ => rfl) (fun h => h) (fun _ h => h), HRF.out, HKF.out⟩

/-- What Decode tells. -/
def DecPost (w : World) (L : List UInt8) (e : Ending) (w' : World) : Prop :=
  Keeps [] w w' ∧ ((L.length ≤ 20000 ∧ ∃ b P, e = .returned (.tuple #[.pointer (some ⟨b, 0, none⟩), .nilIface]) ∧ PrC w' b 0 P ∧ prE P = L) ∨ ((20000 < L.length ∨ ∀ P, prOk P → prE P ≠ L) ∧ ∃ p, e = .returned (.tuple #[.pointer none, errV p]) ∧ RefAt w' p))
set_option maxRecDepth 20000 in
set_option maxHeartbeats 4000000 in
theorem decode_any {w : World} {a : Option Addr} {cp : Nat} {L : List UInt8} (hb : BytesAt w a L) (hcp : L.length ≤ cp) (hL : L.length ≤ 9223372036854775807) : Calls Tryd.prog 14 #[.slice a L.length cp] w (DecPost w L) := by
  have HR := hid fun (w' : World) => refused_any w'
  obtain ⟨n, hn⟩ : ∃ n, n = L.length := ⟨_, rfl⟩
  have HN := hid hn
  rw [← hn] at hcp hL ⊢
  by_cases hg : 20000 < n
  · have hg' : (20000 : Int) < (n : Int) := by omega
    clear hb hn hcp
    go_enter Tryd.func14, Tryd.ntmps14
    go_wp2_with fail
    refine (HR.out _).mono ?_
    rintro e w1 ⟨p, rfl, h1, h2⟩
    go_wp2_with fail
    go_ret2
    exact ⟨h2, .inr ⟨.inl (by rw [← HN.out]; exact hg), p, rfl, h1⟩⟩
  · have hg' : ¬ (20000 : Int) < (n : Int) := by omega
    obtain ⟨w1, HW1⟩ : ∃ w1, Box (w1 = w.alloc (.cells #[.slice a n cp, .bool false] 79)) := ⟨_, hid rfl⟩
    have hk1 : Keeps [] w w1 := by rw [HW1.out]; exact Keeps.alloc [] w _
    have hr1 : RdAt w1 w.heap.size (some L) := ⟨a, cp, by rw [HW1.out, ← hn]; exact heap_new w _, hb.quiet hk1, by omega, by omega, fun hne b off e => by
      rcases hb with hb | ⟨b', off', e', hb⟩
      · exact absurd hb hne
      · rw [e'] at e
        cases e
        refine block_lt_of_cell (hb 0 ?_)
        cases L with
        | nil => exact absurd rfl hne
        | cons => simp⟩
    have HP := hid (rprog_any hr1)
    have HK1 := hid hk1
    have HS : Box (w1.heap.size = w.heap.size + 1) := hid (by rw [HW1.out, World.size_alloc])
    have HW5 := hid HW1.out.symm
    clear hb hn hcp hk1 hr1 HW1 hg
    go_enter Tryd.func14, Tryd.ntmps14
    go_wp2_with fail
    rw [HW5.out]
    refine HP.out.mono ?_
    rintro e w2 ⟨b, P, s', rfl, h1, h2, h3, h4⟩
    have HPC : Box (PrC w2 b 0 P) := hid (PrC.sub _ _ _ _ _ (Sub.all _ _) h1)
    have HST := hid h2
    have HK2 : Box (Keeps [] w w2) := hid (HK1.out.trans h4 (fun x hx hlt => by rw [List.mem_singleton] at hx; omega))
    generalize w.heap.size = rb at *
    cases s' with
    | none =>
      have h9 : w2.heap[rb]? = _ := h3
      have f1 := hcell h9 1
      have f0 := hcell h9 0
      clear h1 h2 h3 h4 h9 HP HW5
      go_wp2_with fail
      refine (HR.out _).mono ?_
      rintro e w3 ⟨p, rfl, g1, g2⟩
      go_wp2_with fail
      go_ret2
      exact ⟨HK2.out.quiet g2, .inr ⟨.inr (fun Q hQ e => HST.out.2.2.2 L rfl rfl Q [] hQ (by rw [List.append_nil]; exact e.symm)), p, rfl, g1⟩⟩
    | some R =>
      obtain ⟨ra, rcp, h9, _, _, hrl, _⟩ := h3
      have f1 := hcell h9 1
      have f0 := hcell h9 0
      have hE := hid (HST.out.2.2.1 L R rfl rfl)
      obtain ⟨m, hm⟩ : ∃ m, m = R.length := ⟨_, rfl⟩
      have HM := hid hm
      rw [← hm] at f0
      clear h1 h2 h4 h9 HP HW5
      by_cases hR : 0 < m
      · have hR' : (0 : Int) < (m : Int) := by omega
        clear hm hrl
        go_wp2_with fail
        refine (HR.out _).mono ?_
        rintro e w3 ⟨p, rfl, g1, g2⟩
        go_wp2_with fail
        go_ret2
        refine ⟨HK2.out.quiet g2, .inr ⟨.inr (fun Q hQ e => ?_), p, rfl, g1⟩⟩
        have e2 := hE.out
        rw [← e] at e2
        have := (Cd.pr.uniq Q P [] R hQ HST.out.1 (by rw [List.append_nil]; exact e2)).2
        rw [HM.out, ← this] at hR
        simp at hR
      · have hR' : ¬ (0 : Int) < (m : Int) := by omega
        have hnil : R = [] := List.eq_nil_of_length_eq_zero (by omega)
        have HE2 : Box (prE P = L) := hid (by have := hE.out; rw [hnil, List.append_nil] at this; exact this.symm)
        clear hm hrl hnil
        go_wp2_with fail
        go_ret2
        exact ⟨HK2.out, .inl ⟨by rw [← HN.out]; omega, b, P, rfl, HPC.out, HE2.out⟩⟩
end Go.Proofs.YtmipbaihlodmdaaDoor
