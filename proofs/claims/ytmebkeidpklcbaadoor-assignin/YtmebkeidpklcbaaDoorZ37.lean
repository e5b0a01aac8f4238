/-
  Contract: the document's own Shape.
-/
import Derived.Deep.DeepCutAuto
import Derived.Test.YtmebkeidpklcbaaDoorZ21
import Derived.Test.YtmebkeidpklcbaaDoorZ23
import Derived.Test.YtmebkeidpklcbaaDoorZ26
import Derived.Test.YtmebkeidpklcbaaDoorZ34

namespace Go.Proofs.YtmebkeidpklcbaaDoor
open Go.RowKit

/-- What Shape and Assign of the document answer. -/
def PtPost (o : Option (Nat × Nat × Nat)) (w : World) (e : Ending) (w' : World) : Prop := match o with
  | none => e = .returned (.tuple #[.agg #[.int .i64 (-1), .int .i64 0, .int .i64 0], .bool true]) ∧ Keeps [] w w'
  | some q => e = .returned (.tuple #[.agg #[.int .i64 (q.1 : Int), .int .i64 (q.2.1 : Int), .int .i64 (q.2.2 : Int)], .bool false]) ∧ Keeps [] w w'
theorem PtPost.yes {o : Option (Nat × Nat × Nat)} {w w' : World} (h : o = none) (k : Keeps [] w w') : PtPost o w (.returned (.tuple #[.agg #[.int .i64 (-1), .int .i64 0, .int .i64 0], .bool true])) w' := by subst h; exact ⟨rfl, k⟩
theorem PtPost.no {o : Option (Nat × Nat × Nat)} {w w' : World} {f b i : Nat} (h : o = some (f, b, i)) (k : Keeps [] w w') : PtPost o w (.returned (.tuple #[.agg #[.int .i64 (f : Int), .int .i64 (b : Int), .int .i64 (i : Int)], .bool false])) w' := by subst h; exact ⟨rfl, k⟩
theorem seen_rch {g : List (List Nat)} (hg : Ok g) {s : Nat → Bool} (h : ∀ u, s u = true ↔ ∃ z, z ∈ nodI g.length [0] ∧ Pth g (avI (-1)) z u) : s = rch g [0] := by
  funext u
  rw [Bool.eq_iff_iff, h u, rch_all hg]
  have e : avI (-1) = noS := by
    funext m
    unfold avI noS
    simp
  rw [e]
theorem zero_row (w : World) : InAt (w.alloc (.cells #[.int .i64 0] 3)) (w.alloc (.cells #[.int .i64 0] 3)).heap.size (some ⟨w.heap.size, 0, none⟩) [0] := by
  refine .inr ⟨w.heap.size, 0, rfl, by simp, fun i hi => ?_⟩
  obtain rfl : i = 0 := by simpa using hi
  rw [World.cell?_alloc_at _ _ _ _ rfl]
  rfl
/-- The blocks of a function of the program, as a value is handed over. -/
theorem fn_val {w : World} {pb po : Nat} {P : Pr8} (h : PrC w pb po P) {f : Nat} (hf : f < P.funcs.length) : ∃ fa fcp fb fo ra rp ba bcp, w.cell? ⟨pb, po + 4, none⟩ = some (.slice fa P.funcs.length fcp) ∧ fa = some ⟨fb, fo, none⟩ ∧ w.cell? ⟨fb, fo + f * 3, none⟩ = some (.int .i64 (fun8 P f).sig) ∧ w.cell? ⟨fb, fo + f * 3 + 1, none⟩ = some (.slice ra (fun8 P f).regs.length rp) ∧ w.cell? ⟨fb, fo + f * 3 + 2, none⟩ = some (.slice ba (fun8 P f).blocks.length bcp) ∧ RowsAt w 5 BlC ba (fun8 P f).blocks := by
  obtain ⟨fa, fcp, H⟩ := h.fns
  obtain ⟨fb, fo, rfl, hfu0⟩ := H.rows.at (getD_get (d := ⟨0, [], []⟩) hf)
  have hfu : FuC w fb (fo + f * 3) (fun8 P f) := hfu0
  obtain ⟨ra, rp, c1, -⟩ := hfu.c1
  obtain ⟨ba, bcp, c2, r2, -⟩ := hfu.c2
  exact ⟨_, fcp, fb, fo, ra, rp, ba, bcp, H.cell, rfl, hfu.c0.1, c1, c2, r2⟩
set_option maxRecDepth 20000 in
set_option maxHeartbeats 8000000 in
theorem rshape_any {w : World} {pb po : Nat} {P : Pr8} (h : PrC w pb po P) (hE : ∀ f, f < P.funcs.length → EndsIn (fun8 P f)) (hbk : ∀ f, f < P.funcs.length → (fun8 P f).blocks.length ≤ 600) (hN : P.funcs.length ≤ 1000) :
    Calls Tryd.prog 13 #[.pointer (some ⟨pb, po, none⟩)] w (PtPost ((bks P).find? (lostP P)) w) := by
  have ka := Keeps.alloc [] w (.cells #[.int .i64 0, .int .i64 0, .int .i64 0] 43)
  have HN0 := hid (heap_new w (.cells #[.int .i64 0, .int .i64 0, .int .i64 0] 43))
  have FIN := hid fun (W' : World) (u0 u1 u2 : Value) (k : Keeps [] (w.alloc (.cells #[.int .i64 0, .int .i64 0, .int .i64 0] 43)) W') => (ka.quiet k).trans (keeps3 W' w.heap.size u0 u1 u2) (fun x hx hl => by simp at hx; omega)
  have HFV := hid fun (f : Nat) (w' : World) (k : Keeps [] (w.alloc (.cells #[.int .i64 0, .int .i64 0, .int .i64 0] 43)) w') (hf : f < P.funcs.length) => fn_val (PrC.stays _ _ _ _ _ (ka.quiet k) h) hf
  have HBL := hid fun (f : Nat) (w' : World) (hf : f < P.funcs.length) (s : Int) (ra : Option Addr) (R rp : Nat) (ba : Option Addr) (bcp : Nat) (hr : RowsAt w' 5 BlC ba (fun8 P f).blocks) => rblocks_any (fun8 P f) s ra R rp ba bcp hr (hE f hf) (hbk f hf)
  have HRC : Box (∀ (f : Nat) (w' : World) (a : Option Addr) (cp : Nat), f < P.funcs.length → GAt w' w'.heap.size a (flowF (fun8 P f)) → Calls Tryd.prog 17 #[.slice a (fun8 P f).blocks.length cp, .slice (some ⟨w'.heap.size, 0, none⟩) 1 1, .int .i64 (-1)] (w'.alloc (.cells #[.int .i64 0] 3)) fun e w'' => ∃ ps, e = .returned (.slice (some ⟨ps, 0, none⟩) (fun8 P f).blocks.length (fun8 P f).blocks.length) ∧ RowAt w'' (w'.alloc (.cells #[.int .i64 0] 3)).heap.size ps (fun8 P f).blocks.length 4 (bw (rch (flowF (fun8 P f)) [0])) ∧ Keeps [] w' w'') := hid fun f w' a cp hf hG => by
    have hk := Keeps.alloc [] w' (.cells #[.int .i64 0] 3)
    have := rreach_any (flowF (fun8 P f)) (flowF_sm (hbk f hf)) a cp w'.heap.size _ (hG.quiet hk) (some ⟨w'.heap.size, 0, none⟩) 1 _ [0] (zero_row w') (by simp) (-1)
    rw [flowF_len] at this
    refine this.mono ?_
    rintro e w'' ⟨ps, rfl, s, hrow, k2, hsu⟩
    have hs' := seen_rch (flowF_sm (hbk f hf)).ok (s := s) (by rw [flowF_len]; exact hsu)
    subst hs'
    exact ⟨ps, rfl, hrow, hk.quiet k2⟩
  obtain ⟨fa0, fcp0, H⟩ := h.fns
  have h4 := H.cell
  have C4 : Box (∀ w', Keeps [] (w.alloc (.cells #[.int .i64 0, .int .i64 0, .int .i64 0] 43)) w' → w'.cell? ⟨pb, po + 4, none⟩ = some (.slice fa0 P.funcs.length fcp0)) := hid fun w' k => cell_stays (ka.quiet k) h4
  have HBK := hid hbk
  have HKA := hid ka
  clear h H hE hbk h4 ka
  obtain ⟨N, hNe⟩ : ∃ N, P.funcs.length = N := ⟨_, rfl⟩
  have HN := hid hNe
  rw [hNe] at HFV HBL HRC C4 hN
  clear hNe
  go_enter Tryd.func13, Tryd.ntmps13
  go_upto_region 1 with fail
  generalize hbx : w.heap.size = bx at *
  generalize w.alloc (.cells #[.int .i64 0, .int .i64 0, .int .i64 0] 43) = W at *
  clear hbx
  go_wp2_with fail
  go_loopw [4] (fun i wr => ∃ f : Nat, f ≤ N ∧ i = .int .i64 (f : Int) ∧ Box (Keeps [] W wr) ∧ Box (Well (lostP P) (bkP P f))) (fun i _ => N - (intOf i).toNat)
  case atStart => exact ⟨0, by omega, rfl, hid (Keeps.refl _ _), hid (Well.nil _)⟩
  case round =>
    obtain ⟨f, hf, rfl, HK, HW⟩ := hrel
    have c4 := C4.out _ HK.out
    by_cases hlt : f < N
    · have hlt' : (f : Int) < (N : Int) := by omega
      obtain ⟨fa, fcp, fb, fo, ra, rp, ba, bcp, d4, rfl, q0, q1, q2, hrows⟩ := HFV.out f wr HK.out hlt
      rw [c4] at d4
      simp only [Option.some.injEq, Value.slice.injEq, true_and] at d4
      obtain ⟨e1, e2⟩ := d4
      subst e1
      subst e2
      have HB1 := hid (HBL.out f wr hlt (fun8 P f).sig ra (fun8 P f).regs.length rp ba bcp hrows)
      have HR1 := hid fun (w' : World) (a : Option Addr) (cp : Nat) => HRC.out f w' a cp hlt
      have hb6 := HBK.out f (by rw [HN.out]; exact hlt)
      obtain ⟨n, hn⟩ : ∃ n, (fun8 P f).blocks.length = n := ⟨_, rfl⟩
      have HNB := hid hn
      rw [hn] at HB1 HR1 q2 hb6
      clear hn hrows
      generalize (fun8 P f).regs.length = R at *
      generalize (fun8 P f).sig = sg at *
      go_upto_region 5 with (first
        | (go_at_call 12; refine HB1.out.mono ?_; rintro e w1 ⟨a1, p1, rfl, g1, k1⟩)
        | (go_at_call 17; refine (HR1.out _ a1 p1 g1).mono ?_; rintro e w2 ⟨ps, rfl, hrow, k2⟩))
      have HRO := hid hrow
      have HK2 := hid ((HK.out.quiet k1).quiet k2)
      clear hrow k1 k2 g1 q0 q1 q2 c4 HB1 HR1 HK
      generalize (w1.alloc (.cells #[.int .i64 0] 3)).heap.size = base at *
      go_wp2_with fail
      go_loopw [6] (fun i wr => ∃ b : Nat, b ≤ n ∧ i = .int .i64 (b : Int) ∧ wr = w2 ∧ Box (Well (lostP P) (bkF f b))) (fun i _ => n - (intOf i).toNat)
      case atStart => exact ⟨0, by omega, rfl, rfl, hid (Well.nil _)⟩
      case round =>
        obtain ⟨b, hb, rfl, hwr, HWB⟩ := hrel
        subst hwr
        by_cases hlb : b < n
        · have hlb' : (b : Int) < (n : Int) := by omega
          have cs := HRO.out.cell hlb
          unfold bw at cs
          cases hm : rch (flowF (fun8 P f)) [0] b with
          | true =>
            rw [hm] at cs
            have HWN := hid (Well.one (B := lostP P) (q := (f, b, 0)) (by show (!rch (flowF (fun8 P f)) [0] b) = false; rw [hm]; rfl))
            clear hm
            go_wp2_with fail
            go_roundw
            case rel => exact ⟨b + 1, by omega, by go_num, (by first | trivial | rfl), hid (by rw [bkF_succ]; exact HWB.out.app HWN.out)⟩
            case measure => simp [intOf]; omega
          | false =>
            rw [hm] at cs
            have HFD : Box ((bks P).find? (lostP P) = some (f, b, 0)) := hid (bks_at (by rw [HN.out]; exact hlt) (by rw [HNB.out]; exact hlb) (HW.out.app HWB.out) (by show (!rch (flowF (fun8 P f)) [0] b) = true; rw [hm]; rfl))
            clear hm
            have hb6' := keep_heap HN0.out HK2.out
            have y0 := hfrozen hb6' 0
            have y1 := hfrozen hb6' 1
            have y2 := hfrozen hb6' 2
            have x0 := hcell hb6' 0
            have x1 := hcell hb6' 1
            have x2 := hcell hb6' 2
            have HB6 := hid hb6'
            clear hb6'
            go_wp2_with fail
            have h3 := set3 HB6.out (.int .i64 (f : Int)) (.int .i64 (b : Int)) (.int .i64 0)
            have e0 := hcell h3 0
            have e1 := hcell h3 1
            have e2 := hcell h3 2
            exact bodyPost_ret (v := .tuple #[.agg #[.int .i64 (f : Int), .int .i64 (b : Int), .int .i64 0], .bool false]) (by simp [results, Tryd.results13, go_sem, e0, e1, e2]) rfl (PtPost.no HFD.out (FIN.out _ _ _ _ HK2.out))
        · obtain rfl : b = n := by omega
          rw [← HNB.out] at HWB
          go_wp2_with fail
          go_roundw
          case rel => exact ⟨f + 1, by omega, by go_num, HK2, hid (by rw [bkP_succ]; exact HW.out.app HWB.out)⟩
          case measure => simp [intOf]; omega
    · obtain rfl : f = N := by omega
      have HFD : Box ((bks P).find? (lostP P) = none) := hid (bks_none (by rw [HN.out]; exact HW.out))
      go_wp2_with (go_at_call 30; refine (nowhere_any _).mono ?_; rintro e w6 ⟨rfl, k6⟩; have hb6 := keep_heap HN0.out (HK.out.quiet k6); have K6 := hid (HK.out.quiet k6); have y0 := hfrozen hb6 0; have y1 := hfrozen hb6 1; have y2 := hfrozen hb6 2; have x0 := hcell hb6 0; have x1 := hcell hb6 1; have x2 := hcell hb6 2; have HB6 := hid hb6; clear hb6 k6)
      have h3 := set3 HB6.out (.int .i64 (-1)) (.int .i64 0) (.int .i64 0)
      have e0 := hcell h3 0
      have e1 := hcell h3 1
      have e2 := hcell h3 2
      exact bodyPost_ret (v := .tuple #[.agg #[.int .i64 (-1), .int .i64 0, .int .i64 0], .bool true]) (by simp [results, Tryd.results13, go_sem, e0, e1, e2]) rfl (PtPost.yes HFD.out (FIN.out _ _ _ _ K6.out))
end Go.Proofs.YtmebkeidpklcbaaDoor
