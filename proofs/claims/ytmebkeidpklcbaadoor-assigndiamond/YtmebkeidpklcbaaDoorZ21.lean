/-
  The document's own Names.
-/
import Derived.Test.YtmebkeidpklcbaaDoorRows
import Derived.WalkKit
import Derived.WalkSpells
import Derived.WalkLawsBesides
import Derived.OwnWalk
import Derived.Deep.QuietTactic
import Derived.BigQuiet
import Derived.Maps.AppendAt
import Derived.Lib.Builder
import Derived.Deep.OwnRows
import Derived.Deep.DeepCutAuto
import Derived.Deep.AppendLies
import Derived.LaidEql
import Derived.Stop.Asserts
import Derived.RowKitTokens
import Derived.Defers
import Derived.Recover
import Derived.Deep.RegionLaw
import Derived.Deep.RegionHeld
import Derived.Deep.RegionWith
import Derived.Deep.RegionHeld3
import Derived.Laws.AppendOwnNone
import Derived.Test.YtmebkeidpklcbaaDoorZ03
import Derived.Test.YtmebkeidpklcbaaDoorZ09
import Derived.Test.YtmebkeidpklcbaaDoorZ13
import Derived.Test.YtmebkeidpklcbaaDoorZ14
import Derived.Test.YtmebkeidpklcbaaDoorZ20

namespace Go.Proofs.YtmebkeidpklcbaaDoor
open Go.RowKit

/-- What Names tells: a point, and whether all names are right. -/
def nmP (o : Option (Int × Int × Int)) : Int × Int × Int := o.getD (-1, 0, 0)
def NmPost (P : Pr8) (w : World) (e : Ending) (w' : World) : Prop := e = .returned (.tuple #[.agg #[.int .i64 (nmP (namesO P)).1, .int .i64 (nmP (namesO P)).2.1, .int .i64 (nmP (namesO P)).2.2], .bool (namesO P).isNone]) ∧ Keeps [] w w'
theorem NmPost.no {P : Pr8} {w w' : World} {a b c : Int} (h : namesO P = some (a, b, c)) (k : Keeps [] w w') : NmPost P w (.returned (.tuple #[.agg #[.int .i64 a, .int .i64 b, .int .i64 c], .bool false])) w' := by
  unfold NmPost
  rw [h]
  exact ⟨rfl, k⟩
theorem NmPost.yes {P : Pr8} {w w' : World} (h : namesO P = none) (k : Keeps [] w w') : NmPost P w (.returned (.tuple #[.agg #[.int .i64 (-1), .int .i64 0, .int .i64 0], .bool true])) w' := by
  unfold NmPost
  rw [h]
  exact ⟨rfl, k⟩
set_option maxRecDepth 20000 in
set_option maxHeartbeats 40000000 in
theorem rnames_any {w : World} {pb po : Nat} {P : Pr8} (h : PrC w pb po P) (hfew : FewA P) (hsm : Sm10 P) : Calls Tryd.prog 26 #[.pointer (some ⟨pb, po, none⟩)] w (NmPost P w) := by
  obtain ⟨W, hW⟩ : ∃ W, W = w.alloc (.cells #[.int .i64 0, .int .i64 0, .int .i64 0] 43) := ⟨_, rfl⟩
  have k2 : Keeps [] w W := by rw [hW]; exact Keeps.alloc [] w _
  have hn : W.heap[w.heap.size]? = some (.cells #[.int .i64 0, .int .i64 0, .int .i64 0] 43 (0, 0)) := by rw [hW]; exact heap_new w _
  have HN := hid hn
  have HK := hid k2
  have HWE := hid hW
  have FIN := hid fun (W' : World) (u0 u1 u2 : Value) (k : Keeps [] W W') => (k2.quiet k).trans (keeps3 W' w.heap.size u0 u1 u2) (fun x hx hl => by simp at hx; omega)
  have FIN2 := hid fun (W' : World) (u0 u1 u2 : Value) (k : Keeps [] w W') => k.trans (keeps3 W' w.heap.size u0 u1 u2) (fun x hx hl => by simp at hx; omega)
  have HPR := hid h
  have HFEW := hid hfew
  have HSM := hid hsm
  have HNM := hid fun (t : Int × Int) (w' : World) (k : Keeps [] W w') => rnamed_any (PrC.stays _ _ _ _ _ (k2.quiet k) h) t
  have HIN := hid fun (r : Int) (n : Nat) (w' : World) => rfin_any r n w'
  obtain ⟨a0, p0, c0, r0, _, l0⟩ := h.c0
  have C0 : Box (∀ w', Keeps [] W w' → w'.cell? ⟨pb, po, none⟩ = some (.slice a0 P.recs.length p0)) := hid fun w' k => cell_stays (k2.quiet k) c0
  have D0a : Box (∀ w', Keeps [] w w' → w'.cell? ⟨pb, po, none⟩ = some (.slice a0 P.recs.length p0)) := hid fun w' k => cell_stays k c0
  have R0 := hid r0
  obtain ⟨n0, hn0⟩ : ∃ n, n = P.recs.length := ⟨_, rfl⟩
  rw [← hn0] at C0 D0a l0
  have N0 := hid hn0
  have m0 : (n0 : Int) ≤ 9223372036854775807 := by unfold maxLen at l0; omega
  clear c0 r0 hn0 l0
  obtain ⟨a1, p1, c1, r1, _, l1⟩ := h.c1
  have C1 : Box (∀ w', Keeps [] W w' → w'.cell? ⟨pb, po + 1, none⟩ = some (.slice a1 P.sigs.length p1)) := hid fun w' k => cell_stays (k2.quiet k) c1
  have D1a : Box (∀ w', Keeps [] w w' → w'.cell? ⟨pb, po + 1, none⟩ = some (.slice a1 P.sigs.length p1)) := hid fun w' k => cell_stays k c1
  have R1 := hid r1
  obtain ⟨n1, hn1⟩ : ∃ n, n = P.sigs.length := ⟨_, rfl⟩
  rw [← hn1] at C1 D1a l1
  have N1 := hid hn1
  have m1 : (n1 : Int) ≤ 9223372036854775807 := by unfold maxLen at l1; omega
  clear c1 r1 hn1 l1
  obtain ⟨a2, p2, c2, r2, _, l2⟩ := h.c2
  have C2 : Box (∀ w', Keeps [] W w' → w'.cell? ⟨pb, po + 2, none⟩ = some (.slice a2 P.ifs.length p2)) := hid fun w' k => cell_stays (k2.quiet k) c2
  have D2a : Box (∀ w', Keeps [] w w' → w'.cell? ⟨pb, po + 2, none⟩ = some (.slice a2 P.ifs.length p2)) := hid fun w' k => cell_stays k c2
  have R2 := hid r2
  obtain ⟨n2, hn2⟩ : ∃ n, n = P.ifs.length := ⟨_, rfl⟩
  rw [← hn2] at C2 D2a l2
  have N2 := hid hn2
  have m2 : (n2 : Int) ≤ 9223372036854775807 := by unfold maxLen at l2; omega
  clear c2 r2 hn2 l2
  obtain ⟨a3, p3, c3, r3, _, l3⟩ := h.c3
  have C3 : Box (∀ w', Keeps [] W w' → w'.cell? ⟨pb, po + 3, none⟩ = some (.slice a3 P.ims.length p3)) := hid fun w' k => cell_stays (k2.quiet k) c3
  have D3a : Box (∀ w', Keeps [] w w' → w'.cell? ⟨pb, po + 3, none⟩ = some (.slice a3 P.ims.length p3)) := hid fun w' k => cell_stays k c3
  have R3 := hid r3
  obtain ⟨n3, hn3⟩ : ∃ n, n = P.ims.length := ⟨_, rfl⟩
  rw [← hn3] at C3 D3a l3
  have N3 := hid hn3
  have m3 : (n3 : Int) ≤ 9223372036854775807 := by unfold maxLen at l3; omega
  clear c3 r3 hn3 l3
  obtain ⟨a4, p4, c4, r4, _, l4⟩ := h.c4
  have C4 : Box (∀ w', Keeps [] W w' → w'.cell? ⟨pb, po + 4, none⟩ = some (.slice a4 P.funcs.length p4)) := hid fun w' k => cell_stays (k2.quiet k) c4
  have D4a : Box (∀ w', Keeps [] w w' → w'.cell? ⟨pb, po + 4, none⟩ = some (.slice a4 P.funcs.length p4)) := hid fun w' k => cell_stays k c4
  have R4 := hid r4
  obtain ⟨n4, hn4⟩ : ∃ n, n = P.funcs.length := ⟨_, rfl⟩
  rw [← hn4] at C4 D4a l4
  have N4 := hid hn4
  have m4 : (n4 : Int) ≤ 9223372036854775807 := by unfold maxLen at l4; omega
  clear c4 r4 hn4 l4
  have c5 := h.c5.1
  have D5a : Box (∀ w', Keeps [] w w' → w'.cell? ⟨pb, po + 5, none⟩ = some (.int .i64 P.main)) := hid fun w' k => cell_stays k c5
  have C5 : Box (∀ w', Keeps [] W w' → w'.cell? ⟨pb, po + 5, none⟩ = some (.int .i64 P.main)) := hid fun w' k => cell_stays (k2.quiet k) c5
  clear h hfew hsm hW k2 hn c5
  go_enter Tryd.func26, Tryd.ntmps26
  go_upto_region 1 with fail
  rw [← HWE.out]
  clear HWE
  generalize w.heap.size = q at *
  go_wp2_with fail
  go_loopw [5, 4] (fun iv bv wr => ∃ (k : Nat) (b : Bool), k ≤ n0 ∧ iv = .int .i64 (k : Int) ∧ bv = .bool b ∧ Box (Keeps [] W wr) ∧ Box (b = (true && allK P.recs (tysB P) k))) (fun iv _ _ => n0 - (intOf iv).toNat)
  case atStart => exact ⟨0, true, by omega, rfl, rfl, hid (Keeps.refl _ _), hid (by rw [allK_zero]; rfl)⟩
  case round =>
  obtain ⟨k, b1, hk, rfl, rfl, HK1, HB1⟩ := hrel
  have c0 := C0.out _ HK1.out
  by_cases hlt : k < n0
  case pos => as_aux_lemma =>
    have hlt' : (k : Int) < (n0 : Int) := by omega
    have HY := hid (getD_get (l := P.recs) (k := k) (d := []) (by rw [← N0.out]; exact hlt))
    obtain ⟨gb, go, rfl, hgc⟩ := R0.out.at HY.out
    obtain ⟨ga, gp, gc, grr, _, gl⟩ := hgc
    rw [Nat.mul_one] at gc
    have GC : Box (∀ w', Keeps [] W w' → w'.cell? ⟨gb, go + k, none⟩ = some (.slice ga (P.recs.getD k []).length gp)) := hid (by
      have g := gc
      exact fun w' kk => cell_stays (HK.out.quiet kk) g)
    have GR := hid grr
    obtain ⟨gn, hgn⟩ : ∃ n, n = (P.recs.getD k []).length := ⟨_, rfl⟩
    rw [← hgn] at GC gl
    have GN := hid hgn
    have gm : (gn : Int) ≤ 9223372036854775807 := by unfold maxLen at gl; omega
    clear gc grr hgn gl
    go_wp2_with fail
    clear c0
    go_loopw [6, 4] (fun iv bv wr => ∃ (i : Nat) (b : Bool), i ≤ gn ∧ iv = .int .i64 (i : Int) ∧ bv = .bool b ∧ Box (Keeps [] W wr) ∧ Box (b = (b1 && allK (P.recs.getD k []) (tyB P) i))) (fun iv _ _ => gn - (intOf iv).toNat)
    case atStart => exact ⟨0, b1, by omega, rfl, rfl, HK1, hid (by rw [allK_zero, Bool.and_true])⟩
    case round =>
      obtain ⟨i, b2, hi, rfl, rfl, HK2, HB2⟩ := hrel
      have c0 := C0.out _ HK2.out
      have g0 := GC.out _ HK2.out
      by_cases hli : i < gn
      · have hli' : (i : Int) < (gn : Int) := by omega
        have HZ := hid (getD_get (l := P.recs.getD k []) (k := i) (d := (0, 0)) (by rw [← GN.out]; exact hli))
        obtain ⟨tb, tq, rfl, htc⟩ := GR.out.at HZ.out
        have t0 := cell_stays (HK.out.quiet HK2.out) htc.c0.1
        have t1 := cell_stays (HK.out.quiet HK2.out) htc.c1.1
        have HC := hid (HNM.out ((P.recs.getD k []).getD i (0, 0)) _ HK2.out)
        have HS : Box (∀ b3, b3 = (b2 && tyB P ((P.recs.getD k []).getD i (0, 0))) → b3 = (b1 && allK (P.recs.getD k []) (tyB P) (i + 1))) := hid fun b3 e => by rw [e, HB2.out, allK_succ HZ.out, Bool.and_assoc]
        clear htc
        unfold tyV at HC
        generalize (P.recs.getD k []).getD i (0, 0) = T at *
        cases b2 with
        | true =>
          go_wp2_with fail
          refine HC.out.mono ?_
          rintro e w3 ⟨rfl, k3⟩
          have K3 := hid (HK2.out.quiet k3)
          clear k3
          go_wp2_with fail
          go_roundw
          case rel => exact ⟨i + 1, _, by omega, by go_num, rfl, K3, hid (HS.out _ rfl)⟩
          case measure => simp [intOf]; omega
        | false =>
          go_wp2_with fail
          go_roundw
          case rel => exact ⟨i + 1, false, by omega, by go_num, rfl, HK2, hid (HS.out _ rfl)⟩
          case measure => simp [intOf]; omega
      · obtain rfl : gn = i := by omega
        go_wp2_with fail
        go_roundw
        case rel => exact ⟨k + 1, b2, by omega, by go_num, rfl, HK2, hid (by rw [HB2.out, HB1.out, allK_full GN.out, allK_succ HY.out, Bool.and_assoc]; rfl)⟩
        case measure => simp [intOf]; omega
  obtain rfl : n0 = k := by omega
  have T1 : Box (b1 = P.recs.all (tysB P)) := hid (by rw [HB1.out, allK_full N0.out, Bool.true_and])
  clear HB1 hlt hk
  go_wp2_with fail
  clear c0
  go_loopw [7, 4] (fun iv bv wr => ∃ (k : Nat) (b : Bool), k ≤ n1 ∧ iv = .int .i64 (k : Int) ∧ bv = .bool b ∧ Box (Keeps [] W wr) ∧ Box (b = (b1 && allK P.sigs (sgnB P) k))) (fun iv _ _ => n1 - (intOf iv).toNat)
  case atStart => exact ⟨0, b1, by omega, rfl, rfl, HK1, hid (by rw [allK_zero, Bool.and_true])⟩
  case round =>
  obtain ⟨k, b2, hk, rfl, rfl, HK2, HB2⟩ := hrel
  have c1 := C1.out _ HK2.out
  by_cases hlt : k < n1
  case pos => as_aux_lemma =>
    have hlt' : (k : Int) < (n1 : Int) := by omega
    have HY := hid (getD_get (l := P.sigs) (k := k) (d := ([], 0, 0)) (by rw [← N1.out]; exact hlt))
    obtain ⟨gb, go, rfl, hgc⟩ := R1.out.at HY.out
    have HGC := hid hgc
    obtain ⟨ga, gp, gc, grr, _, gl⟩ := hgc.c0
    have GC : Box (∀ w', Keeps [] W w' → w'.cell? ⟨gb, go + k * 3, none⟩ = some (.slice ga (P.sigs.getD k ([], 0, 0)).1.length gp)) := hid (by
      have g := gc
      exact fun w' kk => cell_stays (HK.out.quiet kk) g)
    have GR := hid grr
    obtain ⟨gn, hgn⟩ : ∃ n, n = (P.sigs.getD k ([], 0, 0)).1.length := ⟨_, rfl⟩
    rw [← hgn] at GC gl
    have GN := hid hgn
    have gm : (gn : Int) ≤ 9223372036854775807 := by unfold maxLen at gl; omega
    clear gc grr hgn gl hgc
    go_wp2_with fail
    clear c1
    go_loopw [8, 4] (fun iv bv wr => ∃ (i : Nat) (b : Bool), i ≤ gn ∧ iv = .int .i64 (i : Int) ∧ bv = .bool b ∧ Box (Keeps [] W wr) ∧ Box (b = (b2 && allK (P.sigs.getD k ([], 0, 0)).1 (tyB P) i))) (fun iv _ _ => gn - (intOf iv).toNat)
    case atStart => exact ⟨0, b2, by omega, rfl, rfl, HK2, hid (by rw [allK_zero, Bool.and_true])⟩
    case round =>
      obtain ⟨i, b3, hi, rfl, rfl, HK3, HB3⟩ := hrel
      have c1 := C1.out _ HK3.out
      have g0 := GC.out _ HK3.out
      by_cases hli : i < gn
      · have hli' : (i : Int) < (gn : Int) := by omega
        have HZ := hid (getD_get (l := (P.sigs.getD k ([], 0, 0)).1) (k := i) (d := (0, 0)) (by rw [← GN.out]; exact hli))
        obtain ⟨tb, tq, rfl, htc⟩ := GR.out.at HZ.out
        have t0 := cell_stays (HK.out.quiet HK3.out) htc.c0.1
        have t1 := cell_stays (HK.out.quiet HK3.out) htc.c1.1
        have HC := hid (HNM.out ((P.sigs.getD k ([], 0, 0)).1.getD i (0, 0)) _ HK3.out)
        have HS : Box (∀ b4, b4 = (b3 && tyB P ((P.sigs.getD k ([], 0, 0)).1.getD i (0, 0))) → b4 = (b2 && allK (P.sigs.getD k ([], 0, 0)).1 (tyB P) (i + 1))) := hid fun b4 e => by rw [e, HB3.out, allK_succ HZ.out, Bool.and_assoc]
        clear htc
        unfold tyV at HC
        generalize (P.sigs.getD k ([], 0, 0)).1.getD i (0, 0) = T at *
        cases b3 with
        | true =>
          go_wp2_with fail
          refine HC.out.mono ?_
          rintro e w3 ⟨rfl, k3⟩
          have K3 := hid (HK3.out.quiet k3)
          clear k3
          go_wp2_with fail
          go_roundw
          case rel => exact ⟨i + 1, _, by omega, by go_num, rfl, K3, hid (HS.out _ rfl)⟩
          case measure => simp [intOf]; omega
        | false =>
          go_wp2_with fail
          go_roundw
          case rel => exact ⟨i + 1, false, by omega, by go_num, rfl, HK3, hid (HS.out _ rfl)⟩
          case measure => simp [intOf]; omega
      · obtain rfl : gn = i := by omega
        have u1 := cell_stays (HK.out.quiet HK3.out) HGC.out.c1.1
        have u2 := cell_stays (HK.out.quiet HK3.out) HGC.out.c2.1
        have HC := hid (HNM.out (P.sigs.getD k ([], 0, 0)).2 _ HK3.out)
        have HS : Box (∀ b4, b4 = (b3 && tyB P (P.sigs.getD k ([], 0, 0)).2) → b4 = (b1 && allK P.sigs (sgnB P) (k + 1))) := hid fun b4 e => by
          rw [e, HB3.out, HB2.out, allK_full GN.out, allK_succ HY.out]
          unfold sgnB tysB
          simp only [Bool.and_assoc]
        unfold tyV at HC
        generalize (P.sigs.getD k ([], 0, 0)).2 = T at *
        cases b3 with
        | true =>
          go_wp2_with fail
          refine HC.out.mono ?_
          rintro e w3 ⟨rfl, k3⟩
          have K3 := hid (HK3.out.quiet k3)
          clear k3
          go_wp2_with fail
          go_roundw
          case rel => exact ⟨k + 1, _, by omega, by go_num, rfl, K3, hid (HS.out _ rfl)⟩
          case measure => simp [intOf]; omega
        | false =>
          go_wp2_with fail
          go_roundw
          case rel => exact ⟨k + 1, false, by omega, by go_num, rfl, HK3, hid (HS.out _ rfl)⟩
          case measure => simp [intOf]; omega
  obtain rfl : n1 = k := by omega
  have T2 : Box (b2 = (P.recs.all (tysB P) && P.sigs.all (sgnB P))) := hid (by rw [HB2.out, allK_full N1.out, T1.out])
  clear HB2 hlt hk T1
  go_wp2_with fail
  clear c1
  go_loopw [9, 4] (fun iv bv wr => ∃ (k : Nat) (b : Bool), k ≤ n2 ∧ iv = .int .i64 (k : Int) ∧ bv = .bool b ∧ Box (Keeps [] W wr) ∧ Box (b = (b2 && allK P.ifs (fun l => insB l P.sigs.length) k))) (fun iv _ _ => n2 - (intOf iv).toNat)
  case atStart => exact ⟨0, b2, by omega, rfl, rfl, HK2, hid (by rw [allK_zero, Bool.and_true])⟩
  case round =>
  obtain ⟨k, b3, hk, rfl, rfl, HK3, HB3⟩ := hrel
  have c2 := C2.out _ HK3.out
  by_cases hlt : k < n2
  case pos => as_aux_lemma =>
    have hlt' : (k : Int) < (n2 : Int) := by omega
    have HY := hid (getD_get (l := P.ifs) (k := k) (d := []) (by rw [← N2.out]; exact hlt))
    obtain ⟨gb, go, rfl, hgc⟩ := R2.out.at HY.out
    obtain ⟨ga, gp, gc, grr, _, gl⟩ := hgc
    rw [Nat.mul_one] at gc
    have GC : Box (∀ w', Keeps [] W w' → w'.cell? ⟨gb, go + k, none⟩ = some (.slice ga (P.ifs.getD k []).length gp)) := hid (by
      have g := gc
      exact fun w' kk => cell_stays (HK.out.quiet kk) g)
    have GR := hid grr
    obtain ⟨gn, hgn⟩ : ∃ n, n = (P.ifs.getD k []).length := ⟨_, rfl⟩
    rw [← hgn] at GC gl
    have GN := hid hgn
    have gm : (gn : Int) ≤ 9223372036854775807 := by unfold maxLen at gl; omega
    clear gc grr hgn gl
    go_wp2_with fail
    clear c2
    go_loopw [10, 4] (fun iv bv wr => ∃ (i : Nat) (b : Bool), i ≤ gn ∧ iv = .int .i64 (i : Int) ∧ bv = .bool b ∧ Box (Keeps [] W wr) ∧ Box (b = (b3 && allK (P.ifs.getD k []) (fun r => inB r n1) i))) (fun iv _ _ => gn - (intOf iv).toNat)
    case atStart => exact ⟨0, b3, by omega, rfl, rfl, HK3, hid (by rw [allK_zero, Bool.and_true])⟩
    case round =>
      obtain ⟨i, b4, hi, rfl, rfl, HK4, HB4⟩ := hrel
      have c2 := C2.out _ HK4.out
      have c1 := C1.out _ HK4.out
      have g0 := GC.out _ HK4.out
      by_cases hli : i < gn
      · have hli' : (i : Int) < (gn : Int) := by omega
        have HZ := hid (getD_get (l := P.ifs.getD k []) (k := i) (d := 0) (by rw [← GN.out]; exact hli))
        obtain ⟨tb, tq, rfl, htc⟩ := GR.out.at HZ.out
        have t0 := cell_stays (HK.out.quiet HK4.out) htc.1
        rw [Nat.mul_one] at t0
        have HC := hid (HIN.out ((P.ifs.getD k []).getD i 0) n1)
        have HS : Box (∀ b5, b5 = (b4 && inB ((P.ifs.getD k []).getD i 0) n1) → b5 = (b3 && allK (P.ifs.getD k []) (fun r => inB r n1) (i + 1))) := hid fun b5 e => by rw [e, HB4.out, allK_succ HZ.out, Bool.and_assoc]
        clear htc
        generalize (P.ifs.getD k []).getD i 0 = T at *
        generalize inB T n1 = tb1 at *
        go_upto_region 23 with fail
        cases b4 with
        | true =>
          go_quiet ((go_at_call 52; exact Calls.quiet_of_same (HC.out _)))
          go_wp2_with fail
          go_roundw
          case rel => exact ⟨i + 1, _, by omega, by go_num, rfl, hid (HK4.out.quiet (Keeps.drewN _ _ _)), hid (HS.out _ (by rw [Bool.true_and]))⟩
          case measure => simp [intOf]; omega
        | false =>
          go_quiet (fail)
          go_wp2_with fail
          go_roundw
          case rel => exact ⟨i + 1, false, by omega, by go_num, rfl, hid (HK4.out.quiet (Keeps.drewN _ _ _)), hid (HS.out _ rfl)⟩
          case measure => simp [intOf]; omega
      · obtain rfl : gn = i := by omega
        go_wp2_with fail
        go_roundw
        case rel => exact ⟨k + 1, b4, by omega, by go_num, rfl, HK4, hid (by
          rw [HB4.out, HB3.out, allK_full GN.out, allK_succ HY.out, Bool.and_assoc, N1.out]
          rfl)⟩
        case measure => simp [intOf]; omega
  obtain rfl : n2 = k := by omega
  have T3 : Box (b3 = ((P.recs.all (tysB P) && P.sigs.all (sgnB P)) && P.ifs.all (fun l => insB l P.sigs.length))) := hid (by rw [HB3.out, allK_full N2.out, T2.out])
  clear HB3 hlt hk T2
  go_wp2_with fail
  clear c2
  go_loopw [11, 4] (fun iv bv wr => ∃ (k : Nat) (b : Bool), k ≤ n3 ∧ iv = .int .i64 (k : Int) ∧ bv = .bool b ∧ Box (Keeps [] W wr) ∧ Box (b = (b3 && allK P.ims (imnB P) k))) (fun iv _ _ => n3 - (intOf iv).toNat)
  case atStart => exact ⟨0, b3, by omega, rfl, rfl, HK3, hid (by rw [allK_zero, Bool.and_true])⟩
  case round =>
  obtain ⟨k, b4, hk, rfl, rfl, HK4, HB4⟩ := hrel
  have c3 := C3.out _ HK4.out
  by_cases hlt : k < n3
  case pos => as_aux_lemma =>
    have hlt' : (k : Int) < (n3 : Int) := by omega
    have HY := hid (getD_get (l := P.ims) (k := k) (d := (0, 0, [])) (by rw [← N3.out]; exact hlt))
    obtain ⟨gb, go, rfl, hgc⟩ := R3.out.at HY.out
    obtain ⟨ga, gp, gc, grr, _, gl⟩ := hgc.c2
    have y0 := cell_stays (HK.out.quiet HK4.out) hgc.c0.1
    have y1 := cell_stays (HK.out.quiet HK4.out) hgc.c1.1
    have y2 := cell_stays (HK.out.quiet HK4.out) gc
    have GR := hid grr
    obtain ⟨gn, hgn⟩ : ∃ n, n = (P.ims.getD k (0, 0, [])).2.2.length := ⟨_, rfl⟩
    rw [← hgn] at y2 gl
    have GN := hid hgn
    have gm : (gn : Int) ≤ 9223372036854775807 := by unfold maxLen at gl; omega
    clear gc grr hgn gl hgc
    have HM : Box (imnB P (P.ims.getD k (0, 0, [])) = (inB (P.ims.getD k (0, 0, [])).1 n0 && (inB (P.ims.getD k (0, 0, [])).2.1 n2 && insB (P.ims.getD k (0, 0, [])).2.2 n4))) := hid (by rw [N0.out, N2.out, N4.out]; rfl)
    generalize hmm : P.ims.getD k (0, 0, []) = mm at *
    clear hmm
    go_upto_region 28 with fail
    have hbx := heap_new wr (.cells #[.int .i64 mm.1, .int .i64 mm.2.1, .slice ga gn gp] 111)
    have KA : Box (Keeps [] W (wr.alloc (.cells #[.int .i64 mm.1, .int .i64 mm.2.1, .slice ga gn gp] 111))) := hid (HK4.out.quiet (Keeps.alloc [] _ _))
    have HBX := hid hbx
    clear hbx y0 y1 y2 c3
    generalize wr.alloc (.cells #[.int .i64 mm.1, .int .i64 mm.2.1, .slice ga gn gp] 111) = w5 at *
    generalize wr.heap.size = q5 at *
    have z0 := hcell HBX.out 0
    have z1 := hcell HBX.out 1
    have c0 := C0.out _ KA.out
    have c2 := C2.out _ KA.out
    have HC0 := hid (HIN.out mm.1 n0)
    have HC2 := hid (HIN.out mm.2.1 n2)
    go_cut [4] (fun v4 wz => ∃ b5 : Bool, v4 = .bool b5 ∧ Box (Keeps [] w5 wz) ∧ Box (b5 = (b4 && (inB mm.1 n0 && inB mm.2.1 n2))))
    case first =>
      generalize inB mm.1 n0 = i0 at *
      generalize inB mm.2.1 n2 = i2 at *
      cases b4 with
      | false =>
        go_quiet (fail)
        go_wp2_with fail
        go_meet
        exact ⟨false, rfl, hid (Keeps.drewN _ _ _), hid rfl⟩
      | true =>
        cases i0 with
        | false =>
          go_quiet ((go_at_call 52; exact Calls.quiet_of_same (HC0.out _)))
          go_wp2_with fail
          go_meet
          exact ⟨false, rfl, hid (Keeps.drewN _ _ _), hid rfl⟩
        | true =>
          go_quiet ((go_at_call 52; first | with_reducible exact Calls.quiet_of_same (HC0.out _) | with_reducible exact Calls.quiet_of_same (HC2.out _)))
          go_wp2_with fail
          go_meet
          exact ⟨i2, rfl, hid (Keeps.drewN _ _ _), hid rfl⟩
    case rest =>
    obtain ⟨b5, rfl, HKZ, HB5⟩ := hcut
    clear z0 z1 c0 c2 HC0 HC2
    go_wp2_with fail
    go_loopw [13, 4] (fun iv bv wr => ∃ (i : Nat) (b : Bool), i ≤ gn ∧ iv = .int .i64 (i : Int) ∧ bv = .bool b ∧ Box (Keeps [] w5 wr) ∧ Box (b = (b5 && allK mm.2.2 (fun r => inB r n4) i))) (fun iv _ _ => gn - (intOf iv).toNat)
    case atStart => exact ⟨0, b5, by omega, rfl, rfl, HKZ, hid (by rw [allK_zero, Bool.and_true])⟩
    case round =>
      obtain ⟨i, b6, hi, rfl, rfl, HK6, HB6⟩ := hrel
      have z2 := hcell (keep_heap HBX.out HK6.out) 2
      have c4 := C4.out _ (KA.out.quiet HK6.out)
      by_cases hli : i < gn
      · have hli' : (i : Int) < (gn : Int) := by omega
        have HZ := hid (getD_get (l := mm.2.2) (k := i) (d := 0) (by rw [← GN.out]; exact hli))
        obtain ⟨tb, tq, rfl, htc⟩ := GR.out.at HZ.out
        have t0 := cell_stays (HK.out.quiet (KA.out.quiet HK6.out)) htc.1
        rw [Nat.mul_one] at t0
        have HC := hid (HIN.out (mm.2.2.getD i 0) n4)
        have HS : Box (∀ b7, b7 = (b6 && inB (mm.2.2.getD i 0) n4) → b7 = (b5 && allK mm.2.2 (fun r => inB r n4) (i + 1))) := hid fun b7 e => by rw [e, HB6.out, allK_succ HZ.out, Bool.and_assoc]
        clear htc
        generalize mm.2.2.getD i 0 = T at *
        generalize inB T n4 = tb1 at *
        go_upto_region 32 with fail
        cases b6 with
        | true =>
          go_quiet ((go_at_call 52; exact Calls.quiet_of_same (HC.out _)))
          go_wp2_with fail
          go_roundw
          case rel => exact ⟨i + 1, _, by omega, by go_num, rfl, hid (HK6.out.quiet (Keeps.drewN _ _ _)), hid (HS.out _ (by rw [Bool.true_and]))⟩
          case measure => simp [intOf]; omega
        | false =>
          go_quiet (fail)
          go_wp2_with fail
          go_roundw
          case rel => exact ⟨i + 1, false, by omega, by go_num, rfl, hid (HK6.out.quiet (Keeps.drewN _ _ _)), hid (HS.out _ rfl)⟩
          case measure => simp [intOf]; omega
      · obtain rfl : gn = i := by omega
        go_wp2_with fail
        go_roundw
        case rel => exact ⟨k + 1, b6, by omega, by go_num, rfl, hid (KA.out.quiet HK6.out), hid (by
          rw [HB6.out, HB5.out, HB4.out, allK_full GN.out, allK_succ HY.out, HM.out]
          unfold insB
          simp only [Bool.and_assoc])⟩
        case measure => simp [intOf]; omega
  obtain rfl : n3 = k := by omega
  have T4 : Box (b4 = tablesB P) := hid (by
    rw [HB4.out, allK_full N3.out, T3.out]
    unfold tablesB
    simp only [Bool.and_assoc])
  clear HB4 hlt hk T3
  cases b4 with
  | false =>
    have HQ := hid (namesO_tab T4.out.symm)
    go_wp2_with fail
    refine (nowhere_any _).mono ?_
    rintro e w6 ⟨rfl, k6⟩
    have hb6 := keep_heap HN.out (HK4.out.quiet k6)
    have K6 := hid (HK4.out.quiet k6)
    have y0 := hfrozen hb6 0
    have y1 := hfrozen hb6 1
    have y2 := hfrozen hb6 2
    have x0 := hcell hb6 0
    have x1 := hcell hb6 1
    have x2 := hcell hb6 2
    have HB6 := hid hb6
    clear hb6 k6
    go_wp2_with fail
    have h3 := set3 HB6.out (.int .i64 (-1)) (.int .i64 0) (.int .i64 0)
    have e0 := hcell h3 0
    have e1 := hcell h3 1
    have e2 := hcell h3 2
    exact bodyPost_ret (v := .tuple #[.agg #[.int .i64 (-1), .int .i64 0, .int .i64 0], .bool false]) (by simp [results, Tryd.results26, go_sem, e0, e1, e2]) rfl (NmPost.no HQ.out (FIN.out _ _ _ _ K6.out))

  | true =>
  have HTT : Box (tablesB P = true) := hid T4.out.symm
  clear T4
  have HIF : Box (P.ifs.all (fun l => insB l P.sigs.length) = true) := hid (by
    have := HTT.out
    unfold tablesB at this
    rw [Bool.and_eq_true, Bool.and_eq_true, Bool.and_eq_true] at this
    exact this.2.2.1)
  have HFN : Box (∀ k, k < P.funcs.length → (∀ j, j < k → fnNm P j = none) → ∀ q, fnNm P k = some q → namesO P = some q) := hid fun k hk hl q hq => namesO_fn HTT.out hk hl hq
  have HEND := hid fun hl => namesO_end HTT.out hl
  go_wp2_with fail
  go_loopw [14] (fun iv wr => ∃ k : Nat, k ≤ n4 ∧ iv = .int .i64 (k : Int) ∧ Box (Keeps [] W wr) ∧ Box (∀ j, j < k → fnNm P j = none)) (fun iv _ => n4 - (intOf iv).toNat)
  case atStart => exact ⟨0, by omega, rfl, HK4, hid fun j hj => by omega⟩
  case round =>
  obtain ⟨k, hk, rfl, HK5, HB⟩ := hrel
  clear HK4
  have c4 := C4.out _ HK5.out
  by_cases hlt : k < n4
  case pos => as_aux_lemma =>
    have hlt' : (k : Int) < (n4 : Int) := by omega
    have HKF : Box (k < P.funcs.length) := hid (by rw [← N4.out]; exact hlt)
    obtain ⟨gb, go, rfl, hgc0⟩ := R4.out.at (getD_get (l := P.funcs) (k := k) (d := ⟨0, [], []⟩) HKF.out)
    have hgc : FuC w gb (go + k * 3) (fun8 P k) := hgc0
    obtain ⟨ra, rp, rc, rrr, _, rl⟩ := hgc.c1
    obtain ⟨ba, bp, bc, brr, _, bl⟩ := hgc.c2
    have y0 := cell_stays (HK.out.quiet HK5.out) hgc.c0.1
    have y1 := cell_stays (HK.out.quiet HK5.out) rc
    have y2 := cell_stays (HK.out.quiet HK5.out) bc
    have RR := hid rrr
    have BR := hid brr
    have HNK := hid (HFN.out k HKF.out HB.out)
    have HBAD := hid fun (hh : headOk P k = true) (b i : Nat) (hb : b < (fun8 P k).blocks.length) (hi : i ≤ (blk8 (fun8 P k) b).code.length) (hl : AllOk P (ptF (fun8 P k) k b ++ ptB k b i)) (hq : ptOk P (k, b, i) = false) => fnNm_bad hh hb hi hl hq
    have HGOOD := hid fun (hh : headOk P k = true) (hl : AllOk P (ptF (fun8 P k) k (fun8 P k).blocks.length)) => fnNm_good hh hl
    have HHEAD := hid fun (hh : headOk P k = false) => fnNm_head hh
    obtain ⟨rn, hrn⟩ : ∃ n, n = (fun8 P k).regs.length := ⟨_, rfl⟩
    obtain ⟨bn, hbn⟩ : ∃ n, n = (fun8 P k).blocks.length := ⟨_, rfl⟩
    rw [← hrn] at y1 rl
    rw [← hbn] at y2 bl
    have RN := hid hrn
    have BN := hid hbn
    have rm : (rn : Int) ≤ 9223372036854775807 := by unfold maxLen at rl; omega
    have bm : (bn : Int) ≤ 9223372036854775807 := by unfold maxLen at bl; omega
    have HHE : Box (headOk P k = (inB (fun8 P k).sig n1 && (fun8 P k).regs.all (tyB P))) := hid (by rw [N1.out]; rfl)
    clear hgc hgc0 rc bc rrr brr hrn hbn rl bl
    generalize hff : fun8 P k = ff at *
    have HFF := hid hff
    clear hff
    go_upto_region 39 with fail
    have hbx := heap_new wr (.cells #[.int .i64 ff.sig, .slice ra rn rp, .slice ba bn bp] 39)
    have KA : Box (Keeps [] W (wr.alloc (.cells #[.int .i64 ff.sig, .slice ra rn rp, .slice ba bn bp] 39))) := hid (HK5.out.quiet (Keeps.alloc [] _ _))
    have HBX := hid hbx
    clear hbx y0 y1 y2 c4
    generalize wr.alloc (.cells #[.int .i64 ff.sig, .slice ra rn rp, .slice ba bn bp] 39) = w5 at *
    generalize wr.heap.size = q5 at *
    have z0 := hcell HBX.out 0
    have c1 := C1.out _ KA.out
    have HC := hid (HIN.out ff.sig n1)
    generalize inB ff.sig n1 = sb at *
    go_quiet ((go_at_call 52; exact Calls.quiet_of_same (HC.out _)))
    have KD : Box (Keeps [] w5 (w5.drewN nq)) := hid (Keeps.drewN _ _ _)
    generalize w5.drewN nq = w6 at *
    clear z0 c1 HC
    go_wp2_with fail
    go_loopw [16, 4] (fun iv bv wr => ∃ (i : Nat) (b : Bool), i ≤ rn ∧ iv = .int .i64 (i : Int) ∧ bv = .bool b ∧ Box (Keeps [] w5 wr) ∧ Box (b = (sb && allK ff.regs (tyB P) i))) (fun iv _ _ => rn - (intOf iv).toNat)
    case atStart => exact ⟨0, sb, by omega, rfl, rfl, KD, hid (by rw [allK_zero, Bool.and_true])⟩
    case round =>
    obtain ⟨i, b6, hi, rfl, rfl, HK6, HB6⟩ := hrel
    have z1 := hcell (keep_heap HBX.out HK6.out) 1
    by_cases hli : i < rn
    case pos => as_aux_lemma =>
      have hli' : (i : Int) < (rn : Int) := by omega
      have HZ := hid (getD_get (l := ff.regs) (k := i) (d := (0, 0)) (by rw [← RN.out]; exact hli))
      obtain ⟨tb, tq, rfl, htc⟩ := RR.out.at HZ.out
      have t0 := cell_stays (HK.out.quiet (KA.out.quiet HK6.out)) htc.c0.1
      have t1 := cell_stays (HK.out.quiet (KA.out.quiet HK6.out)) htc.c1.1
      have HC := hid (HNM.out (ff.regs.getD i (0, 0)) _ (KA.out.quiet HK6.out))
      have HS : Box (∀ b7, b7 = (b6 && tyB P (ff.regs.getD i (0, 0))) → b7 = (sb && allK ff.regs (tyB P) (i + 1))) := hid fun b7 e => by rw [e, HB6.out, allK_succ HZ.out, Bool.and_assoc]
      clear htc
      unfold tyV at HC
      generalize ff.regs.getD i (0, 0) = T at *
      cases b6 with
      | true =>
        go_wp2_with fail
        refine HC.out.mono ?_
        rintro e w3 ⟨rfl, k3⟩
        have K3 := hid (HK6.out.quiet k3)
        clear k3
        go_wp2_with fail
        go_roundw
        case rel => exact ⟨i + 1, _, by omega, by go_num, rfl, K3, hid (HS.out _ rfl)⟩
        case measure => simp [intOf]; omega
      | false =>
        go_wp2_with fail
        go_roundw
        case rel => exact ⟨i + 1, false, by omega, by go_num, rfl, HK6, hid (HS.out _ rfl)⟩
        case measure => simp [intOf]; omega
    obtain rfl : rn = i := by omega
    have HH : Box (b6 = headOk P k) := hid (by rw [HB6.out, allK_full RN.out, HHE.out])
    clear HB6 HHE hli hi
    cases b6 with
    | false =>
      have HQ := hid (HNK.out _ (HHEAD.out HH.out.symm))
      have KX := hid (KA.out.quiet HK6.out)
      go_wp2_with fail
      refine (nowhere_any _).mono ?_
      rintro e w6 ⟨rfl, k6⟩
      have hb6 := keep_heap HN.out (KX.out.quiet k6)
      have K6 := hid (KX.out.quiet k6)
      have y0 := hfrozen hb6 0
      have y1 := hfrozen hb6 1
      have y2 := hfrozen hb6 2
      have x0 := hcell hb6 0
      have x1 := hcell hb6 1
      have x2 := hcell hb6 2
      have HB6 := hid hb6
      clear hb6 k6
      go_wp2_with fail
      have h3 := set3 HB6.out (.int .i64 (-1)) (.int .i64 0) (.int .i64 0)
      have e0 := hcell h3 0
      have e1 := hcell h3 1
      have e2 := hcell h3 2
      exact bodyPost_ret (v := .tuple #[.agg #[.int .i64 (-1), .int .i64 0, .int .i64 0], .bool false]) (by simp [results, Tryd.results26, go_sem, e0, e1, e2]) rfl (NmPost.no HQ.out (FIN.out _ _ _ _ K6.out))

    | true =>
    have HHT : Box (headOk P k = true) := hid HH.out.symm
    have HTY : Box (tysB P ff.regs = true) := hid (by
      have := HHT.out
      unfold headOk at this
      rw [Bool.and_eq_true, HFF.out] at this
      exact this.2)
    have HRIN := hid fun (w' : World) (kk : Keeps [] w5 w') (x : In8) (xa : Option Addr) (cp : Nat) (hz : IntsAt w' xa x.args) (hl : x.args.length ≤ 1000) => rinstr_any (cp := cp) (PrC.stays _ _ _ _ _ (HK.out.quiet (KA.out.quiet kk)) HPR.out) (RowsAt.quiet RR.out TyC.stays (HK.out.quiet (KA.out.quiet kk))) RN.out rp (.slice ba bn bp) HTY.out HIF.out x hz hl
    clear HH
    go_wp2_with fail
    go_loopw [17] (fun iv wr => ∃ b : Nat, b ≤ bn ∧ iv = .int .i64 (b : Int) ∧ Box (Keeps [] w5 wr) ∧ Box (AllOk P (ptF ff k b))) (fun iv _ => bn - (intOf iv).toNat)
    case atStart => exact ⟨0, by omega, rfl, HK6, hid (AllOk.nil P)⟩
    case round =>
    obtain ⟨b, hb, rfl, HK7, HAL⟩ := hrel
    clear HK6 z1
    have z2 := hcell (keep_heap HBX.out HK7.out) 2
    by_cases hlb : b < bn
    case pos => as_aux_lemma =>
      have hlt_b : (b : Int) < (bn : Int) := by omega
      have hbf : Box (b < ff.blocks.length) := hid (by rw [← BN.out]; exact hlb)
      obtain ⟨bb, bo, rfl, hbl0⟩ := BR.out.at (show ff.blocks[b]? = some (blk8 ff b) from getD_get hbf.out)
      obtain ⟨ca, cp, e3, rc, _, hcl⟩ := hbl0.c0
      have BLC : Box (∀ w', Keeps [] w5 w' → w'.cell? ⟨bb, bo + b * 5, none⟩ = some (.slice ca (blk8 ff b).code.length cp) ∧ w'.cell? ⟨bb, bo + b * 5 + 1, none⟩ = some (.int .i64 (blk8 ff b).fin) ∧ w'.cell? ⟨bb, bo + b * 5 + 2, none⟩ = some (.int .i64 (blk8 ff b).reg) ∧ w'.cell? ⟨bb, bo + b * 5 + 3, none⟩ = some (.int .i64 (blk8 ff b).to) ∧ w'.cell? ⟨bb, bo + b * 5 + 4, none⟩ = some (.int .i64 (blk8 ff b).els)) := hid (by
        have g := e3
        exact fun w' kk => ⟨cell_stays (HK.out.quiet (KA.out.quiet kk)) g, cell_stays (HK.out.quiet (KA.out.quiet kk)) hbl0.c1.1, cell_stays (HK.out.quiet (KA.out.quiet kk)) hbl0.c2.1, cell_stays (HK.out.quiet (KA.out.quiet kk)) hbl0.c3.1, cell_stays (HK.out.quiet (KA.out.quiet kk)) hbl0.c4.1⟩)
      have HRC := hid rc
      obtain ⟨cn, hcn⟩ : ∃ m, m = (blk8 ff b).code.length := ⟨_, rfl⟩
      rw [← hcn] at BLC hcl
      have HCN := hid hcn
      have hcl9 : (cn : Int) ≤ 9223372036854775806 := by
        have := HSM.out.code (f := k) (b := b) HKF.out (by rw [HFF.out]; exact hbf.out)
        rw [HFF.out, ← HCN.out] at this
        omega
      have HAL2 : Box (AllOk P (ptF ff k b ++ ptB k b 0)) := hid (HAL.out.cast (by rw [ptB_zero, List.append_nil]))
      clear hbl0 e3 rc hcn hcl
      go_wp2_with fail
      clear z2
      go_loopw [18] (fun iv wr => ∃ i : Nat, i ≤ cn + 1 ∧ iv = .int .i64 (i : Int) ∧ Box (Keeps [] w5 wr) ∧ Box (AllOk P (ptF ff k b ++ ptB k b i))) (fun iv _ => cn + 1 - (intOf iv).toNat)
      case atStart => exact ⟨0, by omega, rfl, HK7, HAL2⟩
      case round =>
      obtain ⟨i, hi, rfl, HK8, HAL3⟩ := hrel
      clear HAL2
      have hx := keep_heap HBX.out HK8.out
      have f0 := hcell hx 0
      have f1 := hcell hx 1
      have f2 := hcell hx 2
      obtain ⟨g0, g1, g2, g3, g4⟩ := BLC.out _ HK8.out
      clear hx
      have HSN : Box (ptF ff k b ++ ptB k b (i + 1) = (ptF ff k b ++ ptB k b i) ++ [(k, b, i)]) := hid (by rw [ptB_succ, ← List.append_assoc])
      by_cases hle : i ≤ cn
      case neg =>
        obtain rfl : i = cn + 1 := by omega
        have HAL9 : Box (AllOk P (ptF ff k (b + 1))) := hid (HAL3.out.cast (by rw [ptF_succ, ← HCN.out]))
        have hle' : ¬ ((cn + 1 : Nat) : Int) ≤ (cn : Int) := by omega
        have hle2 : decide (cn + 1 ≤ cn) = false := decide_eq_false (by omega)
        go_wp2_with fail
        go_roundw
        case rel => exact ⟨b + 1, by omega, by go_num, HK8, HAL9⟩
        case measure => simp [intOf]; omega
      have hle' : (i : Int) ≤ (cn : Int) := by omega
      by_cases hli : i < cn
      case pos => as_aux_lemma =>
        have hlt_i : (i : Int) < (cn : Int) := by omega
        have hif : Box (i < (blk8 ff b).code.length) := hid (by rw [← HCN.out]; exact hli)
        obtain ⟨ib, io, rfl, hin⟩ := HRC.out.at (show (blk8 ff b).code[i]? = some (ins8 (blk8 ff b) i) from getD_get hif.out)
        obtain ⟨xa, xp, e5, q5'⟩ := SlC.val hin.c5
        have hz : IntsAt w xa (ins8 (blk8 ff b) i).args := rows_ints q5'.slice.2.1
        have kW := HK.out.quiet (KA.out.quiet HK8.out)
        have F0 := cell_stays kW hin.c0.1
        have F1 := cell_stays kW hin.c1.1
        have F2 := cell_stays kW hin.c2.1
        have F3 := cell_stays kW hin.c3.1
        have F4 := cell_stays kW hin.c4.1
        have F5 := cell_stays kW e5
        have HC := hid fun (w' : World) (kk : Keeps [] wr w') => HRIN.out w' (HK8.out.quiet kk) (ins8 (blk8 ff b) i) xa xp (hz.kept (kW.quiet kk) (fun _ _ _ => by simp)) (by
          have := HFEW.out k b i HKF.out
          rw [HFF.out] at this
          exact this hbf.out hif.out)
        have HPT : Box (ptOk P (k, b, i) = insOk P ff (ins8 (blk8 ff b) i)) := hid (by
          have := ptOk_in (P := P) (f := k) (b := b) (i := i) (by rw [HFF.out]; exact hif.out)
          rw [HFF.out] at this
          exact this)
        unfold insV fnV at HC
        clear hin e5 q5' hz kW
        generalize ins8 (blk8 ff b) i = x at *
        go_upto_region 52 with fail
        generalize hok : insOk P ff x = ok at *
        clear hok
        cases ok with
        | true => as_aux_lemma =>
          have HAL9 : Box (AllOk P (ptF ff k b ++ ptB k b (i + 1))) := hid ((HAL3.out.snoc (q := (k, b, i)) HPT.out).cast HSN.out.symm)
          refine wp_region_det (W0 := wr) 331 [(.int .i64 (i : Int) : Value), (.pointer (some ⟨q5, 2, none⟩) : Value), (.slice (some ⟨bb, bo, none⟩) bn bp : Value), (.int .i64 (b : Int) : Value), (.pointer (some ⟨bb, bo + b * 5, none⟩) : Value), (.pointer (some ⟨bb, bo + b * 5, none⟩) : Value), (.slice (some ⟨ib, io, none⟩) cn cp : Value), (.int .i64 (cn : Int) : Value), (.bool true : Value), (.bool true : Value), (.pointer (some ⟨pb, po, none⟩) : Value), (.agg #[.int .i64 ff.sig, .slice ra rn rp, .slice (some ⟨bb, bo, none⟩) bn bp] : Value), (.pointer (some ⟨q5, 2, none⟩) : Value), (.slice (some ⟨bb, bo, none⟩) bn bp : Value), (.int .i64 (b : Int) : Value), (.pointer (some ⟨bb, bo + b * 5, none⟩) : Value), (.pointer (some ⟨bb, bo + b * 5, none⟩) : Value), (.slice (some ⟨ib, io, none⟩) cn cp : Value), (.int .i64 (i : Int) : Value), (.pointer (some ⟨ib, io + i * 6, none⟩) : Value), (.agg #[.int .i64 x.op, .int .i64 x.dst, .int .i64 x.a, .int .i64 x.b, .int .i64 x.n, .slice xa x.args.length xp] : Value), (.bool true : Value), (.bool false : Value), (.bool false : Value), (.bool false : Value), (.int .i64 (i : Int) : Value), (.pointer (some ⟨q5, 2, none⟩) : Value), (.slice (some ⟨bb, bo, none⟩) bn bp : Value), (.int .i64 (b : Int) : Value), (.pointer (some ⟨bb, bo + b * 5, none⟩) : Value), (.pointer (some ⟨bb, bo + b * 5, none⟩) : Value), (.slice (some ⟨ib, io, none⟩) cn cp : Value), (.int .i64 (cn : Int) : Value), (.bool false : Value), (.bool false : Value), (undef : Value), (undef : Value), (undef : Value), (undef : Value), (undef : Value), (undef : Value), (undef : Value), (undef : Value), (.bool false : Value), (.bool false : Value)] (by kernel_rfl) (by rfl) (by kernel_rfl) (Keeps.refl _ _) (fun A hA => ?_)
          simp only [putAll, Act.put, List.setIfInBounds_toArray, List.set_cons_zero, List.set_cons_succ] at hA
          subst hA
          refine ⟨AllGive.cons (give_yield (by rfl) (fun _ _ => rfl)) (AllGive.cons (give_yield (by rfl) (fun _ _ => rfl)) (AllGive.cons (give_yield (by rfl) (fun _ k9 => ld_bls (cell_stays k9 f2) rfl rfl)) (AllGive.cons (give_yield (by rfl) (fun _ _ => rfl)) (AllGive.cons (give_yield (by rfl) (fun _ _ => ix_bls rfl rfl rfl hlt_b)) (AllGive.cons (give_yield (by rfl) (fun _ _ => rfl)) (AllGive.cons (give_yield (by rfl) (fun _ k9 => ld_inss (cell_stays k9 g0) rfl rfl)) (AllGive.cons (give_yield (by rfl) (fun _ _ => len_inss rfl rfl)) (AllGive.cons (give_yield (by rfl) (fun _ _ => bin_lss rfl rfl rfl (decide_eq_true hlt_i))) (AllGive.cons (give_yield (by rfl) (fun _ _ => rfl)) (AllGive.cons (give_yield (by rfl) (fun _ _ => rfl)) (AllGive.cons (give_yield (by rfl) (fun _ k9 => ld_fn (cell_stays k9 f0) (cell_stays k9 f1) (cell_stays k9 f2) rfl rfl)) (AllGive.cons (give_yield (by rfl) (fun _ _ => rfl)) (AllGive.cons (give_yield (by rfl) (fun _ k9 => ld_bls (cell_stays k9 f2) rfl rfl)) (AllGive.cons (give_yield (by rfl) (fun _ _ => rfl)) (AllGive.cons (give_yield (by rfl) (fun _ _ => ix_bls rfl rfl rfl hlt_b)) (AllGive.cons (give_yield (by rfl) (fun _ _ => rfl)) (AllGive.cons (give_yield (by rfl) (fun _ k9 => ld_inss (cell_stays k9 g0) rfl rfl)) (AllGive.cons (give_yield (by rfl) (fun _ _ => rfl)) (AllGive.cons (give_yield (by rfl) (fun _ _ => ix_inss rfl rfl rfl hlt_i)) (AllGive.cons (give_yield (by rfl) (fun _ k9 => ld_in (cell_stays k9 F0) (cell_stays k9 F1) (cell_stays k9 F2) (cell_stays k9 F3) (cell_stays k9 F4) (cell_stays k9 F5) rfl rfl)) (AllGive.cons (give_call (by rfl) 53 #[.pointer (some ⟨pb, po, none⟩), .agg #[.int .i64 ff.sig, .slice ra rn rp, .slice (some ⟨bb, bo, none⟩) bn bp], .agg #[.int .i64 x.op, .int .i64 x.dst, .int .i64 x.a, .int .i64 x.b, .int .i64 x.n, .slice xa x.args.length xp]] (fun w => exec_call3 rfl rfl rfl rfl rfl (enter_instr _ _ _ w)) (fun w9 k9 => HC.out w9 k9)) (AllGive.cons (give_yield (by rfl) (fun _ _ => rfl)) (AllGive.cons (give_yield (by rfl) (fun _ _ => rfl)) (AllGive.cons (give_yield (by rfl) (fun _ _ => rfl)) (AllGive.cons (give_yield (by rfl) (fun _ _ => rfl)) (AllGive.cons (give_yield (by rfl) (fun _ _ => rfl)) (AllGive.cons (give_yield (by rfl) (fun _ k9 => ld_bls (cell_stays k9 f2) rfl rfl)) (AllGive.cons (give_yield (by rfl) (fun _ _ => rfl)) (AllGive.cons (give_yield (by rfl) (fun _ _ => ix_bls rfl rfl rfl hlt_b)) (AllGive.cons (give_yield (by rfl) (fun _ _ => rfl)) (AllGive.cons (give_yield (by rfl) (fun _ k9 => ld_inss (cell_stays k9 g0) rfl rfl)) (AllGive.cons (give_yield (by rfl) (fun _ _ => len_inss rfl rfl)) (AllGive.cons (give_yield (by rfl) (fun _ _ => bin_eql rfl rfl rfl (neb (by omega)))) (AllGive.cons (give_yield (by rfl) (fun _ _ => rfl)) (AllGive.cons (give_pass (by rfl)) (AllGive.cons (give_pass (by rfl)) (AllGive.cons (give_pass (by rfl)) (AllGive.cons (give_pass (by rfl)) (AllGive.cons (give_pass (by rfl)) (AllGive.cons (give_pass (by rfl)) (AllGive.cons (give_pass (by rfl)) (AllGive.cons (give_pass (by rfl)) (AllGive.cons (give_yield (by rfl) (fun _ _ => rfl)) (AllGive.cons (give_yield (by rfl) (fun _ _ => rfl)) (AllGive.nil))))))))))))))))))))))))))))))))))))))))))))), fun w8 k8 => ?_⟩
          go_wp2_with fail
          go_roundw
          case rel => exact ⟨i + 1, by omega, by go_num, hid (HK8.out.quiet k8), HAL9⟩
          case measure => simp [intOf]; omega
        | false => as_aux_lemma =>
          have HQ : Box (namesO P = some ((k : Int), (b : Int), (i : Int))) := hid (HNK.out _ (HBAD.out HHT.out b i hbf.out (Nat.le_of_lt hif.out) HAL3.out HPT.out))
          refine wp_region_det (W0 := wr) 331 [(.int .i64 (i : Int) : Value), (.pointer (some ⟨q5, 2, none⟩) : Value), (.slice (some ⟨bb, bo, none⟩) bn bp : Value), (.int .i64 (b : Int) : Value), (.pointer (some ⟨bb, bo + b * 5, none⟩) : Value), (.pointer (some ⟨bb, bo + b * 5, none⟩) : Value), (.slice (some ⟨ib, io, none⟩) cn cp : Value), (.int .i64 (cn : Int) : Value), (.bool true : Value), (.bool true : Value), (.pointer (some ⟨pb, po, none⟩) : Value), (.agg #[.int .i64 ff.sig, .slice ra rn rp, .slice (some ⟨bb, bo, none⟩) bn bp] : Value), (.pointer (some ⟨q5, 2, none⟩) : Value), (.slice (some ⟨bb, bo, none⟩) bn bp : Value), (.int .i64 (b : Int) : Value), (.pointer (some ⟨bb, bo + b * 5, none⟩) : Value), (.pointer (some ⟨bb, bo + b * 5, none⟩) : Value), (.slice (some ⟨ib, io, none⟩) cn cp : Value), (.int .i64 (i : Int) : Value), (.pointer (some ⟨ib, io + i * 6, none⟩) : Value), (.agg #[.int .i64 x.op, .int .i64 x.dst, .int .i64 x.a, .int .i64 x.b, .int .i64 x.n, .slice xa x.args.length xp] : Value), (.bool false : Value), (.bool true : Value), (.bool true : Value), (.bool true : Value), (undef : Value), (undef : Value), (undef : Value), (undef : Value), (undef : Value), (undef : Value), (undef : Value), (undef : Value), (undef : Value), (undef : Value), (undef : Value), (undef : Value), (undef : Value), (undef : Value), (undef : Value), (undef : Value), (undef : Value), (undef : Value), (undef : Value), (.bool true : Value)] (by kernel_rfl) (by rfl) (by kernel_rfl) (Keeps.refl _ _) (fun A hA => ?_)
          simp only [putAll, Act.put, List.setIfInBounds_toArray, List.set_cons_zero, List.set_cons_succ] at hA
          subst hA
          refine ⟨AllGive.cons (give_yield (by rfl) (fun _ _ => rfl)) (AllGive.cons (give_yield (by rfl) (fun _ _ => rfl)) (AllGive.cons (give_yield (by rfl) (fun _ k9 => ld_bls (cell_stays k9 f2) rfl rfl)) (AllGive.cons (give_yield (by rfl) (fun _ _ => rfl)) (AllGive.cons (give_yield (by rfl) (fun _ _ => ix_bls rfl rfl rfl hlt_b)) (AllGive.cons (give_yield (by rfl) (fun _ _ => rfl)) (AllGive.cons (give_yield (by rfl) (fun _ k9 => ld_inss (cell_stays k9 g0) rfl rfl)) (AllGive.cons (give_yield (by rfl) (fun _ _ => len_inss rfl rfl)) (AllGive.cons (give_yield (by rfl) (fun _ _ => bin_lss rfl rfl rfl (decide_eq_true hlt_i))) (AllGive.cons (give_yield (by rfl) (fun _ _ => rfl)) (AllGive.cons (give_yield (by rfl) (fun _ _ => rfl)) (AllGive.cons (give_yield (by rfl) (fun _ k9 => ld_fn (cell_stays k9 f0) (cell_stays k9 f1) (cell_stays k9 f2) rfl rfl)) (AllGive.cons (give_yield (by rfl) (fun _ _ => rfl)) (AllGive.cons (give_yield (by rfl) (fun _ k9 => ld_bls (cell_stays k9 f2) rfl rfl)) (AllGive.cons (give_yield (by rfl) (fun _ _ => rfl)) (AllGive.cons (give_yield (by rfl) (fun _ _ => ix_bls rfl rfl rfl hlt_b)) (AllGive.cons (give_yield (by rfl) (fun _ _ => rfl)) (AllGive.cons (give_yield (by rfl) (fun _ k9 => ld_inss (cell_stays k9 g0) rfl rfl)) (AllGive.cons (give_yield (by rfl) (fun _ _ => rfl)) (AllGive.cons (give_yield (by rfl) (fun _ _ => ix_inss rfl rfl rfl hlt_i)) (AllGive.cons (give_yield (by rfl) (fun _ k9 => ld_in (cell_stays k9 F0) (cell_stays k9 F1) (cell_stays k9 F2) (cell_stays k9 F3) (cell_stays k9 F4) (cell_stays k9 F5) rfl rfl)) (AllGive.cons (give_call (by rfl) 53 #[.pointer (some ⟨pb, po, none⟩), .agg #[.int .i64 ff.sig, .slice ra rn rp, .slice (some ⟨bb, bo, none⟩) bn bp], .agg #[.int .i64 x.op, .int .i64 x.dst, .int .i64 x.a, .int .i64 x.b, .int .i64 x.n, .slice xa x.args.length xp]] (fun w => exec_call3 rfl rfl rfl rfl rfl (enter_instr _ _ _ w)) (fun w9 k9 => HC.out w9 k9)) (AllGive.cons (give_yield (by rfl) (fun _ _ => rfl)) (AllGive.cons (give_yield (by rfl) (fun _ _ => rfl)) (AllGive.cons (give_yield (by rfl) (fun _ _ => rfl)) (AllGive.cons (give_pass (by rfl)) (AllGive.cons (give_pass (by rfl)) (AllGive.cons (give_pass (by rfl)) (AllGive.cons (give_pass (by rfl)) (AllGive.cons (give_pass (by rfl)) (AllGive.cons (give_pass (by rfl)) (AllGive.cons (give_pass (by rfl)) (AllGive.cons (give_pass (by rfl)) (AllGive.cons (give_pass (by rfl)) (AllGive.cons (give_pass (by rfl)) (AllGive.cons (give_pass (by rfl)) (AllGive.cons (give_pass (by rfl)) (AllGive.cons (give_pass (by rfl)) (AllGive.cons (give_pass (by rfl)) (AllGive.cons (give_pass (by rfl)) (AllGive.cons (give_pass (by rfl)) (AllGive.cons (give_pass (by rfl)) (AllGive.cons (give_pass (by rfl)) (AllGive.cons (give_pass (by rfl)) (AllGive.cons (give_yield (by rfl) (fun _ _ => rfl)) (AllGive.nil))))))))))))))))))))))))))))))))))))))))))))), fun w8 k8 => ?_⟩
          have hb6 := keep_heap HN.out (KA.out.quiet (HK8.out.quiet k8))
          have K6 := hid (KA.out.quiet (HK8.out.quiet k8))
          have y0 := hfrozen hb6 0
          have y1 := hfrozen hb6 1
          have y2 := hfrozen hb6 2
          have x0 := hcell hb6 0
          have x1 := hcell hb6 1
          have x2 := hcell hb6 2
          have HB6 := hid hb6
          clear hb6
          go_wp2_with fail
          have h3 := set3 HB6.out (.int .i64 (k : Int)) (.int .i64 (b : Int)) (.int .i64 (i : Int))
          have e0 := hcell h3 0
          have e1 := hcell h3 1
          have e2 := hcell h3 2
          exact bodyPost_ret (v := .tuple #[.agg #[.int .i64 (k : Int), .int .i64 (b : Int), .int .i64 (i : Int)], .bool false]) (by simp [results, Tryd.results26, go_sem, e0, e1, e2]) rfl (NmPost.no HQ.out (FIN.out _ _ _ _ K6.out))
      obtain rfl : i = cn := by omega
      have HC := hid fun (w' : World) => rend_any ff.sig ra rn rp (some ⟨bb, bo, none⟩) bn bp (.slice ca i cp) (blk8 ff b).fin (blk8 ff b).reg (blk8 ff b).to (blk8 ff b).els w'
      have HPT : Box (ptOk P (k, b, i) = endB rn bn (blk8 ff b).fin (blk8 ff b).reg (blk8 ff b).to (blk8 ff b).els) := hid (by
        have := ptOk_end P k b
        rw [HFF.out, ← HCN.out, ← RN.out, ← BN.out] at this
        exact this)
      have hII : ((i : Int) == (i : Int)) = true := eqb rfl
      go_upto_region 52 with fail
      generalize hok : endB rn bn (blk8 ff b).fin (blk8 ff b).reg (blk8 ff b).to (blk8 ff b).els = ok at *
      clear hok
      generalize (blk8 ff b).fin = fi at *
      generalize (blk8 ff b).reg = re at *
      generalize (blk8 ff b).to = tt at *
      generalize (blk8 ff b).els = el at *
      cases ok with
      | true => as_aux_lemma =>
        have HAL9 : Box (AllOk P (ptF ff k b ++ ptB k b (i + 1))) := hid ((HAL3.out.snoc (q := (k, b, i)) HPT.out).cast HSN.out.symm)
        refine wp_region_det (W0 := wr) 331 [(.int .i64 (i : Int) : Value), (.pointer (some ⟨q5, 2, none⟩) : Value), (.slice (some ⟨bb, bo, none⟩) bn bp : Value), (.int .i64 (b : Int) : Value), (.pointer (some ⟨bb, bo + b * 5, none⟩) : Value), (.pointer (some ⟨bb, bo + b * 5, none⟩) : Value), (.slice ca i cp : Value), (.int .i64 (i : Int) : Value), (.bool false : Value), (.bool false : Value), (undef : Value), (undef : Value), (undef : Value), (undef : Value), (undef : Value), (undef : Value), (undef : Value), (undef : Value), (undef : Value), (undef : Value), (undef : Value), (undef : Value), (undef : Value), (.bool false : Value), (.bool false : Value), (.int .i64 (i : Int) : Value), (.pointer (some ⟨q5, 2, none⟩) : Value), (.slice (some ⟨bb, bo, none⟩) bn bp : Value), (.int .i64 (b : Int) : Value), (.pointer (some ⟨bb, bo + b * 5, none⟩) : Value), (.pointer (some ⟨bb, bo + b * 5, none⟩) : Value), (.slice ca i cp : Value), (.int .i64 (i : Int) : Value), (.bool true : Value), (.bool true : Value), (.agg #[.int .i64 ff.sig, .slice ra rn rp, .slice (some ⟨bb, bo, none⟩) bn bp] : Value), (.pointer (some ⟨q5, 2, none⟩) : Value), (.slice (some ⟨bb, bo, none⟩) bn bp : Value), (.int .i64 (b : Int) : Value), (.pointer (some ⟨bb, bo + b * 5, none⟩) : Value), (.agg #[.slice ca i cp, .int .i64 fi, .int .i64 re, .int .i64 tt, .int .i64 el] : Value), (.bool true : Value), (.bool false : Value), (.bool false : Value), (.bool false : Value)] (by kernel_rfl) (by rfl) (by kernel_rfl) (Keeps.refl _ _) (fun A hA => ?_)
        simp only [putAll, Act.put, List.setIfInBounds_toArray, List.set_cons_zero, List.set_cons_succ] at hA
        subst hA
        refine ⟨AllGive.cons (give_yield (by rfl) (fun _ _ => rfl)) (AllGive.cons (give_yield (by rfl) (fun _ _ => rfl)) (AllGive.cons (give_yield (by rfl) (fun _ k9 => ld_bls (cell_stays k9 f2) rfl rfl)) (AllGive.cons (give_yield (by rfl) (fun _ _ => rfl)) (AllGive.cons (give_yield (by rfl) (fun _ _ => ix_bls rfl rfl rfl hlt_b)) (AllGive.cons (give_yield (by rfl) (fun _ _ => rfl)) (AllGive.cons (give_yield (by rfl) (fun _ k9 => ld_inss (cell_stays k9 g0) rfl rfl)) (AllGive.cons (give_yield (by rfl) (fun _ _ => len_inss rfl rfl)) (AllGive.cons (give_yield (by rfl) (fun _ _ => bin_lss rfl rfl rfl (decide_eq_false (by omega)))) (AllGive.cons (give_yield (by rfl) (fun _ _ => rfl)) (AllGive.cons (give_pass (by rfl)) (AllGive.cons (give_pass (by rfl)) (AllGive.cons (give_pass (by rfl)) (AllGive.cons (give_pass (by rfl)) (AllGive.cons (give_pass (by rfl)) (AllGive.cons (give_pass (by rfl)) (AllGive.cons (give_pass (by rfl)) (AllGive.cons (give_pass (by rfl)) (AllGive.cons (give_pass (by rfl)) (AllGive.cons (give_pass (by rfl)) (AllGive.cons (give_pass (by rfl)) (AllGive.cons (give_pass (by rfl)) (AllGive.cons (give_pass (by rfl)) (AllGive.cons (give_yield (by rfl) (fun _ _ => rfl)) (AllGive.cons (give_yield (by rfl) (fun _ _ => rfl)) (AllGive.cons (give_yield (by rfl) (fun _ _ => rfl)) (AllGive.cons (give_yield (by rfl) (fun _ _ => rfl)) (AllGive.cons (give_yield (by rfl) (fun _ k9 => ld_bls (cell_stays k9 f2) rfl rfl)) (AllGive.cons (give_yield (by rfl) (fun _ _ => rfl)) (AllGive.cons (give_yield (by rfl) (fun _ _ => ix_bls rfl rfl rfl hlt_b)) (AllGive.cons (give_yield (by rfl) (fun _ _ => rfl)) (AllGive.cons (give_yield (by rfl) (fun _ k9 => ld_inss (cell_stays k9 g0) rfl rfl)) (AllGive.cons (give_yield (by rfl) (fun _ _ => len_inss rfl rfl)) (AllGive.cons (give_yield (by rfl) (fun _ _ => bin_eql rfl rfl rfl hII)) (AllGive.cons (give_yield (by rfl) (fun _ _ => rfl)) (AllGive.cons (give_yield (by rfl) (fun _ k9 => ld_fn (cell_stays k9 f0) (cell_stays k9 f1) (cell_stays k9 f2) rfl rfl)) (AllGive.cons (give_yield (by rfl) (fun _ _ => rfl)) (AllGive.cons (give_yield (by rfl) (fun _ k9 => ld_bls (cell_stays k9 f2) rfl rfl)) (AllGive.cons (give_yield (by rfl) (fun _ _ => rfl)) (AllGive.cons (give_yield (by rfl) (fun _ _ => ix_bls rfl rfl rfl hlt_b)) (AllGive.cons (give_yield (by rfl) (fun _ k9 => ld_bl (cell_stays k9 g0) (cell_stays k9 g1) (cell_stays k9 g2) (cell_stays k9 g3) (cell_stays k9 g4) rfl rfl)) (AllGive.cons (give_call (by rfl) 54 #[.agg #[.int .i64 ff.sig, .slice ra rn rp, .slice (some ⟨bb, bo, none⟩) bn bp], .agg #[.slice ca i cp, .int .i64 fi, .int .i64 re, .int .i64 tt, .int .i64 el]] (fun w => exec_call2 rfl rfl rfl rfl (enter_ending _ _ w)) (fun w9 k9 => HC.out w9)) (AllGive.cons (give_yield (by rfl) (fun _ _ => rfl)) (AllGive.cons (give_yield (by rfl) (fun _ _ => rfl)) (AllGive.cons (give_yield (by rfl) (fun _ _ => rfl)) (AllGive.nil))))))))))))))))))))))))))))))))))))))))))))), fun w8 k8 => ?_⟩
        go_wp2_with fail
        go_roundw
        case rel => exact ⟨i + 1, by omega, by go_num, hid (HK8.out.quiet k8), HAL9⟩
        case measure => first | (simp [intOf]; done) | (simp [intOf]; omega)
      | false => as_aux_lemma =>
        have HQ : Box (namesO P = some ((k : Int), (b : Int), (i : Int))) := hid (HNK.out _ (HBAD.out HHT.out b i hbf.out (by rw [HCN.out]; exact Nat.le_refl _) HAL3.out HPT.out))
        refine wp_region_det (W0 := wr) 331 [(.int .i64 (i : Int) : Value), (.pointer (some ⟨q5, 2, none⟩) : Value), (.slice (some ⟨bb, bo, none⟩) bn bp : Value), (.int .i64 (b : Int) : Value), (.pointer (some ⟨bb, bo + b * 5, none⟩) : Value), (.pointer (some ⟨bb, bo + b * 5, none⟩) : Value), (.slice ca i cp : Value), (.int .i64 (i : Int) : Value), (.bool false : Value), (.bool false : Value), (undef : Value), (undef : Value), (undef : Value), (undef : Value), (undef : Value), (undef : Value), (undef : Value), (undef : Value), (undef : Value), (undef : Value), (undef : Value), (undef : Value), (undef : Value), (.bool false : Value), (.bool false : Value), (.int .i64 (i : Int) : Value), (.pointer (some ⟨q5, 2, none⟩) : Value), (.slice (some ⟨bb, bo, none⟩) bn bp : Value), (.int .i64 (b : Int) : Value), (.pointer (some ⟨bb, bo + b * 5, none⟩) : Value), (.pointer (some ⟨bb, bo + b * 5, none⟩) : Value), (.slice ca i cp : Value), (.int .i64 (i : Int) : Value), (.bool true : Value), (.bool true : Value), (.agg #[.int .i64 ff.sig, .slice ra rn rp, .slice (some ⟨bb, bo, none⟩) bn bp] : Value), (.pointer (some ⟨q5, 2, none⟩) : Value), (.slice (some ⟨bb, bo, none⟩) bn bp : Value), (.int .i64 (b : Int) : Value), (.pointer (some ⟨bb, bo + b * 5, none⟩) : Value), (.agg #[.slice ca i cp, .int .i64 fi, .int .i64 re, .int .i64 tt, .int .i64 el] : Value), (.bool false : Value), (.bool true : Value), (.bool true : Value), (.bool true : Value)] (by kernel_rfl) (by rfl) (by kernel_rfl) (Keeps.refl _ _) (fun A hA => ?_)
        simp only [putAll, Act.put, List.setIfInBounds_toArray, List.set_cons_zero, List.set_cons_succ] at hA
        subst hA
        refine ⟨AllGive.cons (give_yield (by rfl) (fun _ _ => rfl)) (AllGive.cons (give_yield (by rfl) (fun _ _ => rfl)) (AllGive.cons (give_yield (by rfl) (fun _ k9 => ld_bls (cell_stays k9 f2) rfl rfl)) (AllGive.cons (give_yield (by rfl) (fun _ _ => rfl)) (AllGive.cons (give_yield (by rfl) (fun _ _ => ix_bls rfl rfl rfl hlt_b)) (AllGive.cons (give_yield (by rfl) (fun _ _ => rfl)) (AllGive.cons (give_yield (by rfl) (fun _ k9 => ld_inss (cell_stays k9 g0) rfl rfl)) (AllGive.cons (give_yield (by rfl) (fun _ _ => len_inss rfl rfl)) (AllGive.cons (give_yield (by rfl) (fun _ _ => bin_lss rfl rfl rfl (decide_eq_false (by omega)))) (AllGive.cons (give_yield (by rfl) (fun _ _ => rfl)) (AllGive.cons (give_pass (by rfl)) (AllGive.cons (give_pass (by rfl)) (AllGive.cons (give_pass (by rfl)) (AllGive.cons (give_pass (by rfl)) (AllGive.cons (give_pass (by rfl)) (AllGive.cons (give_pass (by rfl)) (AllGive.cons (give_pass (by rfl)) (AllGive.cons (give_pass (by rfl)) (AllGive.cons (give_pass (by rfl)) (AllGive.cons (give_pass (by rfl)) (AllGive.cons (give_pass (by rfl)) (AllGive.cons (give_pass (by rfl)) (AllGive.cons (give_pass (by rfl)) (AllGive.cons (give_yield (by rfl) (fun _ _ => rfl)) (AllGive.cons (give_yield (by rfl) (fun _ _ => rfl)) (AllGive.cons (give_yield (by rfl) (fun _ _ => rfl)) (AllGive.cons (give_yield (by rfl) (fun _ _ => rfl)) (AllGive.cons (give_yield (by rfl) (fun _ k9 => ld_bls (cell_stays k9 f2) rfl rfl)) (AllGive.cons (give_yield (by rfl) (fun _ _ => rfl)) (AllGive.cons (give_yield (by rfl) (fun _ _ => ix_bls rfl rfl rfl hlt_b)) (AllGive.cons (give_yield (by rfl) (fun _ _ => rfl)) (AllGive.cons (give_yield (by rfl) (fun _ k9 => ld_inss (cell_stays k9 g0) rfl rfl)) (AllGive.cons (give_yield (by rfl) (fun _ _ => len_inss rfl rfl)) (AllGive.cons (give_yield (by rfl) (fun _ _ => bin_eql rfl rfl rfl hII)) (AllGive.cons (give_yield (by rfl) (fun _ _ => rfl)) (AllGive.cons (give_yield (by rfl) (fun _ k9 => ld_fn (cell_stays k9 f0) (cell_stays k9 f1) (cell_stays k9 f2) rfl rfl)) (AllGive.cons (give_yield (by rfl) (fun _ _ => rfl)) (AllGive.cons (give_yield (by rfl) (fun _ k9 => ld_bls (cell_stays k9 f2) rfl rfl)) (AllGive.cons (give_yield (by rfl) (fun _ _ => rfl)) (AllGive.cons (give_yield (by rfl) (fun _ _ => ix_bls rfl rfl rfl hlt_b)) (AllGive.cons (give_yield (by rfl) (fun _ k9 => ld_bl (cell_stays k9 g0) (cell_stays k9 g1) (cell_stays k9 g2) (cell_stays k9 g3) (cell_stays k9 g4) rfl rfl)) (AllGive.cons (give_call (by rfl) 54 #[.agg #[.int .i64 ff.sig, .slice ra rn rp, .slice (some ⟨bb, bo, none⟩) bn bp], .agg #[.slice ca i cp, .int .i64 fi, .int .i64 re, .int .i64 tt, .int .i64 el]] (fun w => exec_call2 rfl rfl rfl rfl (enter_ending _ _ w)) (fun w9 k9 => HC.out w9)) (AllGive.cons (give_yield (by rfl) (fun _ _ => rfl)) (AllGive.cons (give_yield (by rfl) (fun _ _ => rfl)) (AllGive.cons (give_yield (by rfl) (fun _ _ => rfl)) (AllGive.nil))))))))))))))))))))))))))))))))))))))))))))), fun w8 k8 => ?_⟩
        have hb6 := keep_heap HN.out (KA.out.quiet (HK8.out.quiet k8))
        have K6 := hid (KA.out.quiet (HK8.out.quiet k8))
        have y0 := hfrozen hb6 0
        have y1 := hfrozen hb6 1
        have y2 := hfrozen hb6 2
        have x0 := hcell hb6 0
        have x1 := hcell hb6 1
        have x2 := hcell hb6 2
        have HB6 := hid hb6
        clear hb6
        go_wp2_with fail
        have h3 := set3 HB6.out (.int .i64 (k : Int)) (.int .i64 (b : Int)) (.int .i64 (i : Int))
        have e0 := hcell h3 0
        have e1 := hcell h3 1
        have e2 := hcell h3 2
        exact bodyPost_ret (v := .tuple #[.agg #[.int .i64 (k : Int), .int .i64 (b : Int), .int .i64 (i : Int)], .bool false]) (by simp [results, Tryd.results26, go_sem, e0, e1, e2]) rfl (NmPost.no HQ.out (FIN.out _ _ _ _ K6.out))
    obtain rfl : b = bn := by omega
    have HQ := hid (HGOOD.out HHT.out (HAL.out.cast (by rw [BN.out])))
    go_wp2_with fail
    go_roundw
    case rel => exact ⟨k + 1, by omega, by go_num, hid (KA.out.quiet HK7.out), hid fun j hj => by
      by_cases e : j < k
      · exact HB.out j e
      · obtain rfl : j = k := by omega
        exact HQ.out⟩
    case measure => simp [intOf]; omega
  obtain rfl : n4 = k := by omega
  have HE : Box (namesO P = if inB P.main n4 then none else some (-1, 0, 0)) := hid (by
    have := HEND.out (by rw [← N4.out]; exact HB.out)
    rw [← N4.out] at this
    exact this)
  have c5 := C5.out _ HK5.out
  have HC := hid (HIN.out P.main n4)
  clear HB hlt hk
  generalize inB P.main n4 = mb at *
  go_upto_region 54 with fail
  have D4 : Box (∀ w', Keeps [] w w' → w'.cell? ⟨pb, po + 4, none⟩ = some (.slice a4 n4 p4)) := D4a
  have D5 : Box (∀ w', Keeps [] w w' → w'.cell? ⟨pb, po + 5, none⟩ = some (.int .i64 P.main)) := D5a
  refine wp_region_detE (fun w' => Keeps [] w w') (ptE q) 331 [(.agg #[.int .i64 (-1), .int .i64 0, .int .i64 0] : Value), (.pointer (some ⟨pb, po, none⟩) : Value), (.pointer (some ⟨pb, po, none⟩) : Value), (.pointer (some ⟨pb, po + 5, none⟩) : Value), (.int .i64 P.main : Value), (.pointer (some ⟨pb, po, none⟩) : Value), (.pointer (some ⟨pb, po, none⟩) : Value), (.pointer (some ⟨pb, po + 4, none⟩) : Value), (.slice a4 n4 p4 : Value), (.int .i64 (n4 : Int) : Value), (.bool mb : Value), (undef : Value), (.bool mb : Value)] (by kernel_rfl) (by rfl) (by kernel_rfl) ((HK.out.quiet HK5.out).quiet (Keeps.drew [] _)) (ptE.start (keep_heap HN.out (HK5.out.quiet (Keeps.drew [] _)))) (fun A hA => ?_)
  simp only [putAll, Act.put, List.setIfInBounds_toArray, List.set_cons_zero, List.set_cons_succ] at hA
  subst hA
  refine ⟨AllGiveE.cons (giveE_call (by rfl) 30 #[] (fun w => exec_call0 rfl rfl (enter_nowhere w)) (fun l w9 _ hs9 he9 => (nowhere_any w9).mono (fun e w8 h8 => ⟨h8.1, hs9.quiet h8.2, (he9.quiet h8.2).keep (by decide)⟩))) (AllGiveE.cons (giveE_yield (by rfl) (fun _ _ h => h.keep (by decide)) (fun _ _ => rfl)) (AllGiveE.cons (giveE_yield (by rfl) (fun _ _ h => h.keep (by decide)) (fun _ _ => rfl)) (AllGiveE.cons (giveE_yield (by rfl) (fun _ _ h => h.keep (by decide)) (fun _ _ => rfl)) (AllGiveE.cons (giveE_yield (by rfl) (fun _ _ h => h.keep (by decide)) (fun w9 k9 => ld_int (D5.out w9 k9) rfl rfl)) (AllGiveE.cons (giveE_yield (by rfl) (fun _ _ h => h.keep (by decide)) (fun _ _ => rfl)) (AllGiveE.cons (giveE_yield (by rfl) (fun _ _ h => h.keep (by decide)) (fun _ _ => rfl)) (AllGiveE.cons (giveE_yield (by rfl) (fun _ _ h => h.keep (by decide)) (fun _ _ => rfl)) (AllGiveE.cons (giveE_yield (by rfl) (fun _ _ h => h.keep (by decide)) (fun w9 k9 => ld_fns (D4.out w9 k9) rfl rfl)) (AllGiveE.cons (giveE_yield (by rfl) (fun _ _ h => h.keep (by decide)) (fun _ _ => len_fns rfl rfl)) (AllGiveE.cons (giveE_call (by rfl) 52 #[.int .i64 P.main, .int .i64 (n4 : Int)] (fun w => exec_call2 rfl rfl rfl rfl (enter_in _ _ w)) (fun l w9 _ hs9 he9 => (HC.out w9).mono (fun e w8 h8 => ⟨h8.1, by rw [h8.2]; exact hs9, by rw [h8.2]; exact he9.keep (by decide)⟩))) (AllGiveE.cons (giveE_skip (by rfl) (fun l w9 hi9 hs9 he9 => ⟨_, (he9.put hi9 rfl rfl rfl).1, FIN2.out _ _ _ _ hs9, he9.put2 hi9⟩)) (AllGiveE.cons (giveE_yield (by rfl) (fun _ _ h => h.keep (by decide)) (fun _ _ => rfl)) (AllGiveE.nil))))))))))))), fun l w8 hl8 k8 h8 => ?_⟩
  have hbit : l.getD 11 false = true := hl8 11 (by decide)
  have h9 := h8.all hbit
  have K8 := hid k8
  have H9 := hid h9
  clear h8 h9 hbit hl8 k8
  cases mb with
  | true =>
    have HQ : Box (namesO P = none) := hid (by rw [HE.out]; rfl)
    go_wp2_with fail
    have e0 := hcell H9.out 0
    have e1 := hcell H9.out 1
    have e2 := hcell H9.out 2
    exact bodyPost_ret (v := .tuple #[.agg #[.int .i64 (-1), .int .i64 0, .int .i64 0], .bool true]) (by simp [results, Tryd.results26, go_sem, e0, e1, e2]) rfl (NmPost.yes HQ.out K8.out)
  | false =>
    have HQ : Box (namesO P = some (-1, 0, 0)) := hid (by rw [HE.out]; rfl)
    go_wp2_with fail
    have e0 := hcell H9.out 0
    have e1 := hcell H9.out 1
    have e2 := hcell H9.out 2
    exact bodyPost_ret (v := .tuple #[.agg #[.int .i64 (-1), .int .i64 0, .int .i64 0], .bool false]) (by simp [results, Tryd.results26, go_sem, e0, e1, e2]) rfl (NmPost.no HQ.out K8.out)
end Go.Proofs.YtmebkeidpklcbaaDoor
