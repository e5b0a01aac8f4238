/-
  Contracts: assign's reached, regs, params, registers, defined; refuse.New.
-/
import Derived.Test.YtmebkeidpklcbaaDoorZ03
import Derived.Test.YtmebkeidpklcbaaDoorZ08
import Derived.Test.YtmebkeidpklcbaaDoorZ12
import Derived.Test.YtmebkeidpklcbaaDoorZ22
import Derived.Test.YtmebkeidpklcbaaDoorZ25

namespace Go.Proofs.YtmebkeidpklcbaaDoor
open Go.RowKit

/-- What a call that refuses tells. -/
def RfPost (y f b i : Int) (w : World) (e : Ending) (w' : World) : Prop := ∃ p, e = .returned (errV p) ∧ RefAt w' p y f b i ∧ Keeps [] w w'
theorem newR_any (y f b i : Int) (w : World) : Calls Tryd.prog 33 #[.int .i64 y, .agg #[.int .i64 f, .int .i64 b, .int .i64 i], .nilIface] w (RfPost y f b i w) := by
  have k2 := ((Keeps.refl [] w).step (Keeps.alloc [] w (.cells #[.int .i64 f, .int .i64 b, .int .i64 i] 43))).step (Keeps.alloc [] _ (.cells #[.int .i64 y, .int .i64 f, .int .i64 b, .int .i64 i, .nilIface] 107))
  have hn := heap_new (w.alloc (.cells #[.int .i64 f, .int .i64 b, .int .i64 i] 43)) (.cells #[.int .i64 y, .int .i64 f, .int .i64 b, .int .i64 i, .nilIface] 107)
  rw [World.size_alloc] at hn
  have H := hid (show RefAt _ (w.heap.size + 1) y f b i from hn)
  have K := hid k2
  clear k2 hn
  go_enter Tryd.func33, Tryd.ntmps33
  go_wp2
  go_ret
  exact ⟨w.heap.size + 1, rfl, H.out, K.out⟩
set_option maxHeartbeats 1000000 in
theorem reached_any (g : List (List Nat)) (hs : Sm g) (a : Option Addr) (cap B : Nat) (w : World) (hG : GAt w B a g) (hB : B ≤ w.heap.size) :
    Calls Tryd.prog 32 #[.agg #[.int .i64 (g.length : Int), .slice a g.length cap]] w fun e w' => ∃ b, e = .returned (.pointer (some ⟨b, 0, none⟩)) ∧ SetAt w' b (rch g [0]) ∧ Keeps [] w w' ∧ w.heap.size ≤ b := by
  have k1 := Keeps.alloc [] w (.cells #[.int .i64 (g.length : Int), .slice a g.length cap] 34)
  have k2 := Keeps.alloc [] (w.alloc (.cells #[.int .i64 (g.length : Int), .slice a g.length cap] 34)) (.cells #[.int .i64 0] 3)
  have hz : InAt ((w.alloc (.cells #[.int .i64 (g.length : Int), .slice a g.length cap] 34)).alloc (.cells #[.int .i64 0] 3)) ((w.alloc (.cells #[.int .i64 (g.length : Int), .slice a g.length cap] 34)).alloc (.cells #[.int .i64 0] 3)).heap.size (some ⟨w.heap.size + 1, 0, none⟩) [0] := by
    refine .inr ⟨w.heap.size + 1, 0, rfl, by simp, fun i hi => ?_⟩
    obtain rfl : i = 0 := by simpa using hi
    rw [World.cell?_alloc_at _ _ _ _ (by simp)]
    rfl
  have HR := hid (reach_any g hs a cap B _ ((hG.quiet k1).quiet k2) (by simp; omega) (some ⟨w.heap.size + 1, 0, none⟩) 1 _ [0] hz (by simp) (Nat.le_refl _))
  have K := hid (k1.quiet k2)
  clear hz k1 k2 hG
  go_enter Tryd.func32, Tryd.ntmps32
  go_wp2_with (go_at_call 56; refine HR.out.mono ?_; rintro e w3 ⟨b, rfl, h3, k3, h4⟩)
  go_ret
  exact ⟨b, rfl, h3, K.out.quiet k3, Nat.le_trans K.out.size h4⟩
/-- How many parameters. -/
def parN (P : Pr8) (F : Fu8) : Nat := if inB F.sig P.sigs.length = true then (P.sigs.getD F.sig.toNat ([], 0, 0)).1.length else 0
theorem regs_any {w : World} {fb fo : Nat} {F : Fu8} (h : FuC w fb fo F) (hr : F.regs.length ≤ 5000) :
    Calls Tryd.prog 38 #[.pointer (some ⟨fb, fo, none⟩)] w fun e w' => e = .returned (.int .i64 (F.regs.length : Int)) ∧ w' = w := by
  obtain ⟨ra, rp, c1, -⟩ := h.c1
  clear h
  generalize F.regs.length = R at *
  by_cases e : R = 5000
  · subst e
    go_enter Tryd.func38, Tryd.ntmps38
    go_wp2
    go_ret
    exact ⟨rfl, rfl⟩
  · have h1 : (R : Int) < 5000 := by omega
    go_enter Tryd.func38, Tryd.ntmps38
    go_wp2
    go_ret
    exact ⟨by first | rfl | (show Ending.returned (Value.int .i64 (min (R : Int) 5000)) = _; rw [Int.min_eq_left (by omega)]), rfl⟩
set_option maxHeartbeats 1000000 in
theorem params_any {w : World} {pb po fb fo : Nat} {P : Pr8} {F : Fu8} (hp : PrC w pb po P) (h : FuC w fb fo F) :
    Calls Tryd.prog 37 #[.pointer (some ⟨pb, po, none⟩), .pointer (some ⟨fb, fo, none⟩)] w fun e w' => e = .returned (.int .i64 (parN P F : Int)) ∧ Keeps [] w w' := by
  obtain ⟨sa, sp, c1, r1, _⟩ := hp.c1
  have c0 := h.c0.1
  unfold parN
  by_cases hi : inB F.sig P.sigs.length = true
  · have HW : Box (∀ w, Calls Tryd.prog 27 #[.int .i64 F.sig, .int .i64 (P.sigs.length : Int)] w fun e w' => e = .returned (.bool true) ∧ w' = w) := hid fun w => by
      have := within_any F.sig P.sigs.length w
      rw [hi] at this
      exact this
    rw [if_pos hi]
    have hh := inB_iff.1 hi
    obtain ⟨s, hs'⟩ : ∃ s : Nat, F.sig = (s : Int) := ⟨F.sig.toNat, by omega⟩
    rw [hs'] at c0 HW hh ⊢
    rw [Int.toNat_natCast]
    obtain ⟨sb, so, rfl, hsg⟩ := r1.at (j := s) (y := P.sigs.getD s ([], 0, 0)) (getD_get (by omega))
    obtain ⟨ta, tp, ct, _⟩ := hsg.c0
    have hl := hh.2
    clear hi h hp r1 hsg hs'
    generalize (P.sigs.getD s ([], 0, 0)).1.length = T at *
    generalize P.sigs.length = N at *
    go_enter Tryd.func37, Tryd.ntmps37
    go_wp2_with fail
    go_quiet ((go_at_call 27; exact Calls.quiet_of_same (HW.out _)))
    go_wp2_with fail
    go_quiet (fail)
    go_wp2_with fail
    go_ret
    exact ⟨rfl, (Keeps.drewN [] _ _).quiet (Keeps.drewN [] _ _)⟩
  · rw [Bool.not_eq_true] at hi
    have HW : Box (∀ w, Calls Tryd.prog 27 #[.int .i64 F.sig, .int .i64 (P.sigs.length : Int)] w fun e w' => e = .returned (.bool false) ∧ w' = w) := hid fun w => by
      have := within_any F.sig P.sigs.length w
      rw [hi] at this
      exact this
    rw [if_neg (by simp [hi])]
    clear hi h hp r1
    generalize P.sigs.length = N at *
    go_enter Tryd.func37, Tryd.ntmps37
    go_wp2_with fail
    go_quiet ((go_at_call 27; exact Calls.quiet_of_same (HW.out _)))
    go_wp2_with fail
    go_ret
    exact ⟨rfl, Keeps.drewN [] _ _⟩
/-- The registers below R. -/
def allS (R : Nat) : Nat → Bool := fun m => decide (m < R)
theorem allS_fit {R : Nat} (h : R ≤ 5000) : Fit (allS R) := fun n hn => by unfold allS; simp; omega
theorem allS_zero : allS 0 = none_ := by funext m; unfold allS none_; simp
theorem allS_succ {R : Nat} (h : R < 5000) : insI (allS R) (R : Int) = allS (R + 1) := by
  funext m
  unfold insI allS
  have : (R : Int) < 5000 := by omega
  rw [Bool.eq_iff_iff]
  simp [this]
  omega
set_option maxHeartbeats 1000000 in
theorem registers_any {w : World} {fb fo : Nat} {F : Fu8} (h : FuC w fb fo F) (hr : F.regs.length ≤ 5000) :
    Calls Tryd.prog 35 #[.pointer (some ⟨fb, fo, none⟩)] w fun e w' => ∃ b, e = .returned (.pointer (some ⟨b, 0, none⟩)) ∧ SetAt w' b (allS F.regs.length) ∧ Keeps [] w w' ∧ w.heap.size ≤ b := by
  have HO := hid (of_empty none 0 w)
  have HG := hid fun (w' : World) (k : Keeps [] w w') => regs_any (FuC.stays _ _ _ _ _ k h) hr
  clear h
  generalize F.regs.length = R at *
  go_enter Tryd.func35, Tryd.ntmps35
  go_wp2_with (first | (go_at_call 58; refine HO.out.mono ?_; rintro e w1 ⟨rfl, h1, k1⟩) | (go_at_call 38; refine (HG.out _ k1).mono ?_; rintro e w2 ⟨rfl, rfl⟩))
  rw [← allS_zero] at h1
  have H1 := hid h1
  have K1 := hid k1
  clear HO HG h1 k1
  obtain ⟨q, hq⟩ : ∃ q, w.heap.size = q := ⟨_, rfl⟩
  rw [hq] at H1 ⊢
  have HQ := hid hq
  clear hq
  go_loopw [8] (fun i wr => ∃ k : Nat, k ≤ R ∧ i = .int .i64 (k : Int) ∧ Box (SetAt wr q (allS k)) ∧ Box (Keeps [q] w2 wr)) (fun i _ => R - (intOf i).toNat)
  case atStart => exact ⟨0, by omega, rfl, H1, hid (Keeps.refl _ _)⟩
  case round =>
    clear H1
    obtain ⟨k, hk, rfl, HS, HK⟩ := hrel
    by_cases hlt : k < R
    · have hlt' : (k : Int) < (R : Int) := by omega
      have HA := hid (add_any q (allS k) (k : Int) wr HS.out (allS_fit (by omega)))
      rw [allS_succ (by omega)] at HA
      go_wp2_with (go_at_call 59; refine HA.out.mono ?_; rintro e w3 ⟨rfl, h3, k3⟩)
      go_roundw
      case rel => exact ⟨k + 1, by omega, by go_num, hid h3, hid (HK.out.step k3)⟩
      case measure => simp [intOf]; omega
    · obtain rfl : k = R := by omega
      go_wp2
      go_ret
      exact ⟨q, rfl, HS.out, K1.out.fresh HK.out (fun x hx => by have := HQ.out; simp at hx; omega), by rw [HQ.out]; exact Nat.le_refl _⟩
/-- The registers that code assigns. -/
def dfS (c : List In8) (s : Nat → Bool) : Nat → Bool := c.foldl (fun s i => if isDef i then insI s i.dst else s) s
theorem dfS_fit : ∀ (c : List In8) (s : Nat → Bool), Fit s → Fit (dfS c s)
  | [], _, h => h
  | i :: c, s, h => by
    show Fit (dfS c (if isDef i then insI s i.dst else s))
    refine dfS_fit c _ ?_
    split
    · exact h.ins _
    · exact h
theorem dfS_snoc (c : List In8) (s : Nat → Bool) (i : In8) : dfS (c ++ [i]) s = if isDef i then insI (dfS c s) i.dst else dfS c s := by
  unfold dfS
  rw [List.foldl_append]
  rfl
set_option maxRecDepth 20000 in
set_option maxHeartbeats 2000000 in
theorem defined_any {w : World} {bb bo : Nat} {x : Bl8} (h : BlC w bb bo x) (hl : x.code.length ≤ 1000000) :
    Calls Tryd.prog 36 #[.pointer (some ⟨bb, bo, none⟩)] w fun e w' => ∃ b, e = .returned (.pointer (some ⟨b, 0, none⟩)) ∧ SetAt w' b (dfS x.code none_) ∧ Keeps [] w w' ∧ w.heap.size ≤ b := by
  have HO := hid (of_empty none 0 w)
  obtain ⟨ca, cp, c0, hrows, -⟩ := h.c0
  have C0 : Box (∀ w', Keeps [] w w' → w'.cell? ⟨bb, bo, none⟩ = some (.slice ca x.code.length cp)) := hid fun w' k => cell_stays k c0
  have HR := hid hrows
  clear h c0 hrows
  obtain ⟨L, hL⟩ : ∃ L, x.code.length = L := ⟨_, rfl⟩
  rw [hL] at C0 hl
  have HL := hid hL
  clear hL
  go_enter Tryd.func36, Tryd.ntmps36
  go_wp2_with (go_at_call 58; refine HO.out.mono ?_; rintro e w1 ⟨rfl, h1, k1⟩; have c1 := C0.out _ k1)
  have H1 := hid h1
  have K1 := hid k1
  clear HO h1 k1 C0 c1
  obtain ⟨q, hq⟩ : ∃ q, w.heap.size = q := ⟨_, rfl⟩
  rw [hq] at H1 ⊢
  have HQ := hid hq
  have HQL : Box (∀ y ∈ [q], w.heap.size ≤ y) := hid fun y hy => by simp at hy; omega
  clear hq
  go_loopw [14] (fun i wr => ∃ k : Nat, k ≤ L ∧ i = .int .i64 (k : Int) ∧ Box (SetAt wr q (dfS (x.code.take k) none_)) ∧ Box (Keeps [] w wr)) (fun i _ => L - (intOf i).toNat)
  case atStart => exact ⟨0, by omega, rfl, by rw [List.take_zero]; exact H1, K1⟩
  case round =>
    clear H1 K1
    obtain ⟨k, hk, rfl, HS, HK⟩ := hrel
    by_cases hlt : k < L
    · have hlt' : (k : Int) < (L : Int) := by omega
      have hlt2 : k < x.code.length := by rw [HL.out]; exact hlt
      have HTK := hid (take_snoc x.code k ⟨0, 0, 0, 0, 0, []⟩ hlt2)
      obtain ⟨ib, io, rfl, hin⟩ := (HR.out.quiet InC.stays HK.out).at (j := k) (y := x.code.getD k ⟨0, 0, 0, 0, 0, []⟩) (getD_get hlt2)
      clear hlt2
      obtain ⟨i, hi⟩ : ∃ i, x.code.getD k ⟨0, 0, 0, 0, 0, []⟩ = i := ⟨_, rfl⟩
      rw [hi] at hin HTK
      clear hi
      obtain ⟨aa, ap, h5, -⟩ := hin.c5
      have h0 := hin.c0.1
      have h1 := hin.c1.1
      have h2 := hin.c2.1
      have h3 := hin.c3.1
      have h4 := hin.c4.1
      clear hin
      have HD := hid fun (w' : World) => def_any i (.slice aa i.args.length ap) w'
      unfold insV defV at HD
      have ka := Keeps.alloc [] wr (.cells #[.int .i64 i.op, .int .i64 i.dst, .int .i64 i.a, .int .i64 i.b, .int .i64 i.n, .slice aa i.args.length ap] 65)
      have HS2 := hid (HS.out.kept ka (by simp))
      have HK2 := hid (HK.out.quiet ka)
      have HF := hid (dfS_fit (x.code.take k) none_ fit_none)
      have HSN := hid (dfS_snoc (x.code.take k) none_ i)
      rw [← HTK.out] at HSN
      clear ka HS HK HTK
      generalize i.args.length = al at *
      cases hd : isDef i with
      | true =>
        rw [hd] at HD HSN
        rw [if_pos rfl] at HD HSN
        clear hd
        generalize hs1 : dfS (x.code.take k) none_ = s at *
        clear hs1
        have HA := hid fun (w' : World) (h : SetAt w' q s) => add_any q s i.dst w' h HF.out
        go_wp2_with (first | (go_at_call 60; refine (HD.out _).mono ?_; rintro e w3 ⟨rfl, k3⟩; have H3 := hid (HS2.out.kept k3 (by simp)); have K3 := hid (HK2.out.quiet k3)) | (go_at_call 59; refine (HA.out _ H3.out).mono ?_; rintro e w4 ⟨rfl, h4, k4⟩))
        go_roundw
        case rel => exact ⟨k + 1, by omega, by go_num, hid (by rw [HSN.out]; exact h4), hid (K3.out.fresh k4 HQL.out)⟩
        case measure => simp [intOf]; omega
      | false =>
        rw [hd] at HD HSN
        rw [if_neg (by decide)] at HD HSN
        clear hd
        go_wp2_with (go_at_call 60; refine (HD.out _).mono ?_; rintro e w3 ⟨rfl, k3⟩; have H3 := hid (HS2.out.kept k3 (by simp)); have K3 := hid (HK2.out.quiet k3))
        go_roundw
        case rel => exact ⟨k + 1, by omega, by go_num, hid (by rw [HSN.out]; exact H3.out), K3⟩
        case measure => simp [intOf]; omega
    · obtain rfl : k = L := by omega
      go_wp2
      go_ret
      rw [← HL.out, List.take_length] at HS
      exact ⟨q, rfl, HS.out, HK.out, by rw [HQ.out]; exact Nat.le_refl _⟩
end Go.Proofs.YtmebkeidpklcbaaDoor
