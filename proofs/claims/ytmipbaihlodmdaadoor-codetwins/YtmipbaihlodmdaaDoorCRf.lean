/-
  The document's own bytes: of a number, of a list of numbers.
-/
import Derived.Test.YtmipbaihlodmdaaDoorCAb
import Derived.Deep.RegionHeld3
import Derived.Deep.DeepCutAuto
namespace Go.Proofs.YtmipbaihlodmdaaDoor
open Go.RowKit

theorem OB.row {w0 w : World} {v : Value} {B : List UInt8} (h : OB w0 w v B) (hB : 0 < B.length) : ∃ g cp, v = .slice (some ⟨g, 0, none⟩) B.length cp ∧ (∀ i, i < B.length → w.cell? ⟨g, 0 + i, none⟩ = some (.int .u8 ((B.getD i 0).toNat : Int))) := by
  obtain ⟨a, cp, rfl, h1, h2, h3⟩ := h.open
  rcases h1 with h1 | ⟨b, off, rfl, h1⟩
  · rw [h1] at hB
    simp at hB
  · obtain ⟨_, rfl⟩ := h3 b off rfl
    exact ⟨b, cp, rfl, h1⟩
/-- A box beside the bytes is kept. -/
theorem box_app {w0 w w' : World} {q : Nat} {cs : Array Value} {t : TypeId} {v : Value} {B : List UInt8} (h : w.heap[q]? = some (.cells cs t (0, 0))) (ht : t ≠ 5) (hO : OB w0 w v B) (hgr : w.grownBy w' v.ownBlock) : w'.heap[q]? = some (.cells cs t (0, 0)) := by
  rw [hgr.block q (heap_lt h) (fun e => ?_)]
  · exact h
  · rcases hO.own.2 with ⟨rfl, _⟩ | ⟨g, cap, cur, rfl, _, hg, _⟩
    · simp [Value.ownBlock] at e
    · simp [Value.ownBlock] at e
      subst e
      rw [hg] at h
      simp at h
      exact ht h.2.symm
/-- What the document's own writers tell. -/
def ObPost (w : World) (T : List UInt8) (e : Ending) (w' : World) : Prop := ∃ v, e = .returned v ∧ OB w w' v T
theorem ones_xor (b : Nat) (hb : b < 18446744073709551616) : 18446744073709551615 ^^^ b = 18446744073709551615 - b := by
  apply Nat.eq_of_testBit_eq
  intro i
  have h1 := Nat.testBit_two_pow_sub_succ (n := 64) (x := b) (by omega) i
  have h2 := Nat.testBit_two_pow_sub_succ (n := 64) (x := 0) (by omega) i
  rw [show 2 ^ 64 - (b + 1) = 18446744073709551615 - b by omega] at h1
  rw [show 2 ^ 64 - (0 + 1) = 18446744073709551615 by omega] at h2
  rw [Nat.testBit_xor, h1, h2]
  by_cases hi : i < 64
  · simp [hi]
  · simp only [hi, decide_false, Bool.false_and, Bool.false_bne]
    exact Nat.testBit_lt_two_pow (Nat.lt_of_lt_of_le (show b < 2 ^ 64 by omega) (Nat.pow_le_pow_right (by omega) (by omega)))
theorem u64_neg {n : Int} (h : n < 0) (hn : b64 n) : IntKind.u64.wrap n = n + 18446744073709551616 := by
  rw [IntKind.wrap_u64]
  unfold b64 at hn
  omega
set_option maxRecDepth 20000 in
set_option maxHeartbeats 4000000 in
theorem fnum_any (n : Int) (hn : b64 n) (w : World) : Calls Tryd.prog 18 #[.int .i64 n] w (ObPost w (numE n)) := by
  have hlt := foldN_lt hn
  have hlen := numE_len hn
  have HL : Box ((numE n).length ≤ 10) := hid hlen
  have hb := hn
  obtain ⟨hl, hr⟩ := hb
  have HS : Box (OB w w (.slice none 0 0) []) := hid (OB.nil (Keeps.refl _ _))
  by_cases h0 : n < 0
  · have e := foldN_neg h0
    have e1 := u64_neg h0 hn
    have e2 : IntKind.u64.wrap ((n + 18446744073709551616) * 2) = 2 * n + 18446744073709551616 := by rw [IntKind.wrap_u64]; omega
    have e3 : bits BinOp.xor IntKind.u64 IntKind.u64.max (2 * n + 18446744073709551616) = -2 * n - 1 := by
      have h1 : IntKind.u64.max = ((18446744073709551615 : Nat) : Int) := by decide
      have h2 : 2 * n + 18446744073709551616 = (((2 * n + 18446744073709551616).toNat : Nat) : Int) := by omega
      rw [h1, h2, u64_xor_nat _ _ (by omega) (by omega), ones_xor _ (by omega)]
      omega
    have HE := hid e
    clear hlen e
    go_enter Tryd.func18, Tryd.ntmps18
    go_wp2_with fail
    clear e1 e2 e3
    go_loopw [3, 4] (fun uv bv wr => ∃ u : Nat, u < 18446744073709551616 ∧ uv = .int .u64 (u : Int) ∧ Box (∃ B1, OB w wr bv B1 ∧ B1 ++ seven u = numE n)) (fun uv _ _ => (intOf uv).toNat)
    case atStart => exact ⟨foldN n, hlt, by rw [HE.out], hid ⟨[], HS.out, rfl⟩⟩
    case round =>
      obtain ⟨u, hu, rfl, HB⟩ := hrel
      obtain ⟨B1, hO, hE⟩ := HB.out
      obtain ⟨a, cp, hva, _⟩ := hO.open
      have hlenE := congrArg List.length hE
      rw [List.length_append] at hlenE
      have hN1 := HL.out
      have HE2 := hid hE
      have HO := hid hO
      clear hE HB hO HS HE
      by_cases hg : 128 ≤ u
      · have hg' : (128 : Int) ≤ (u : Int) := by omega
        have e7 := seven_ge (show ¬ u < 128 by omega)
        have hsz := seven_pos (u / 128)
        have HE3 : Box ((B1 ++ [UInt8.ofNat (u % 128 + 128)]) ++ seven (u / 128) = numE n) := hid (by rw [← HE2.out, e7, List.append_assoc]; rfl)
        rw [e7, List.length_cons] at hlenE
        have hbl : Box (B1.length + 1 ≤ 20010) := hid (by omega)
        have hch : (UInt8.ofNat (u % 128 + 128)).toNat = u % 128 + 128 := u8_small (by omega)
        have HCH : Box ((u : Int) % 128 + 128 = ((UInt8.ofNat (u % 128 + 128)).toNat : Int)) := hid (by rw [hch]; omega)
        generalize UInt8.ofNat (u % 128 + 128) = ch at *
        have HDV : Box (((u / 128 : Nat) : Int) = (u : Int) / 128) := hid (by omega)
        have hlt8 : Box (u / 128 < u) := hid (by omega)
        clear hlenE hN1 e7 hsz hch
        subst hva
        go_wp2_with (at_builtin; go_must (refine app_b rfl _ _ rfl rfl (HO.out.quiet (Keeps.alloc [] wr _)) rfl rfl (T := [ch]) (by simp) (one_news (heap_new wr _) HCH.out) (by have := hbl.out; simp; omega) ?_; intro g cap N3 w3 hN3 hob hgr; have hob' := hid hob; clear hob hgr))
        go_roundw
        case rel => exact ⟨u / 128, by have := hlt8.out; omega, by rw [HDV.out], hid ⟨_, hob'.out, HE3.out⟩⟩
        case measure => have := hlt8.out; simp [intOf]; omega
      · have hg' : ¬ (128 : Int) ≤ (u : Int) := by omega
        have e7 := seven_lt (show u < 128 by omega)
        have HE3 : Box (B1 ++ [UInt8.ofNat u] = numE n) := hid (by rw [← HE2.out, e7])
        rw [e7] at hlenE
        have hbl : Box (B1.length + 1 ≤ 20010) := hid (by simp at hlenE; omega)
        have hch : (UInt8.ofNat u).toNat = u := u8_small (by omega)
        have HCH : Box ((u : Int) = ((UInt8.ofNat u).toNat : Int)) := hid (by rw [hch])
        have hu8 : u < 256 := by omega
        have hu9 : (u : Int) < 256 := by omega
        generalize UInt8.ofNat u = ch at *
        clear hlenE hN1 e7 hch
        subst hva
        go_wp2_with (at_builtin; go_must (refine app_b rfl _ _ rfl rfl (HO.out.quiet (Keeps.alloc [] wr _)) rfl rfl (T := [ch]) (by simp) (one_news (heap_new wr _) (by first | exact HCH.out | (rw [← HCH.out]; go_num))) (by have := hbl.out; simp; omega) ?_; intro g cap N3 w3 hN3 hob hgr; have hob' := hid hob; clear hob hgr))
        go_ret
        exact ⟨_, rfl, by rw [← HE3.out]; exact hob'.out⟩
  · have e := foldN_pos h0
    have HE := hid e
    clear hlen e
    go_enter Tryd.func18, Tryd.ntmps18
    go_wp2_with fail
    go_loopw [3, 4] (fun uv bv wr => ∃ u : Nat, u < 18446744073709551616 ∧ uv = .int .u64 (u : Int) ∧ Box (∃ B1, OB w wr bv B1 ∧ B1 ++ seven u = numE n)) (fun uv _ _ => (intOf uv).toNat)
    case atStart => exact ⟨foldN n, hlt, by rw [HE.out]; first | rfl | go_num, hid ⟨[], HS.out, rfl⟩⟩
    case round =>
      obtain ⟨u, hu, rfl, HB⟩ := hrel
      obtain ⟨B1, hO, hE⟩ := HB.out
      obtain ⟨a, cp, hva, _⟩ := hO.open
      have hlenE := congrArg List.length hE
      rw [List.length_append] at hlenE
      have hN1 := HL.out
      have HE2 := hid hE
      have HO := hid hO
      clear hE HB hO HS HE
      by_cases hg : 128 ≤ u
      · have hg' : (128 : Int) ≤ (u : Int) := by omega
        have e7 := seven_ge (show ¬ u < 128 by omega)
        have hsz := seven_pos (u / 128)
        have HE3 : Box ((B1 ++ [UInt8.ofNat (u % 128 + 128)]) ++ seven (u / 128) = numE n) := hid (by rw [← HE2.out, e7, List.append_assoc]; rfl)
        rw [e7, List.length_cons] at hlenE
        have hbl : Box (B1.length + 1 ≤ 20010) := hid (by omega)
        have hch : (UInt8.ofNat (u % 128 + 128)).toNat = u % 128 + 128 := u8_small (by omega)
        have HCH : Box ((u : Int) % 128 + 128 = ((UInt8.ofNat (u % 128 + 128)).toNat : Int)) := hid (by rw [hch]; omega)
        generalize UInt8.ofNat (u % 128 + 128) = ch at *
        have HDV : Box (((u / 128 : Nat) : Int) = (u : Int) / 128) := hid (by omega)
        have hlt8 : Box (u / 128 < u) := hid (by omega)
        clear hlenE hN1 e7 hsz hch
        subst hva
        go_wp2_with (at_builtin; go_must (refine app_b rfl _ _ rfl rfl (HO.out.quiet (Keeps.alloc [] wr _)) rfl rfl (T := [ch]) (by simp) (one_news (heap_new wr _) HCH.out) (by have := hbl.out; simp; omega) ?_; intro g cap N3 w3 hN3 hob hgr; have hob' := hid hob; clear hob hgr))
        go_roundw
        case rel => exact ⟨u / 128, by have := hlt8.out; omega, by rw [HDV.out], hid ⟨_, hob'.out, HE3.out⟩⟩
        case measure => have := hlt8.out; simp [intOf]; omega
      · have hg' : ¬ (128 : Int) ≤ (u : Int) := by omega
        have e7 := seven_lt (show u < 128 by omega)
        have HE3 : Box (B1 ++ [UInt8.ofNat u] = numE n) := hid (by rw [← HE2.out, e7])
        rw [e7] at hlenE
        have hbl : Box (B1.length + 1 ≤ 20010) := hid (by simp at hlenE; omega)
        have hch : (UInt8.ofNat u).toNat = u := u8_small (by omega)
        have HCH : Box ((u : Int) = ((UInt8.ofNat u).toNat : Int)) := hid (by rw [hch])
        have hu8 : u < 256 := by omega
        have hu9 : (u : Int) < 256 := by omega
        generalize UInt8.ofNat u = ch at *
        clear hlenE hN1 e7 hch
        subst hva
        go_wp2_with (at_builtin; go_must (refine app_b rfl _ _ rfl rfl (HO.out.quiet (Keeps.alloc [] wr _)) rfl rfl (T := [ch]) (by simp) (one_news (heap_new wr _) (by first | exact HCH.out | (rw [← HCH.out]; go_num))) (by have := hbl.out; simp; omega) ?_; intro g cap N3 w3 hN3 hob hgr; have hob' := hid hob; clear hob hgr))
        go_ret
        exact ⟨_, rfl, by rw [← HE3.out]; exact hob'.out⟩

set_option maxRecDepth 20000 in
set_option maxHeartbeats 4000000 in
theorem fnums_any {w : World} {a : Option Addr} {cp : Nat} {l : List Int} (hr : RowsAt w 1 IntC a l) (hl : l.length ≤ maxLen) (hs : (intsE l).length ≤ 35184372088832) : Calls Tryd.prog 20 #[.slice a l.length cp] w (ObPost w (intsE l)) := by
  have hb : b64 (l.length : Int) := by unfold b64; unfold maxLen at hl; omega
  have H1 := hid (fnum_any _ hb w)
  have HP := hid fun (w' : World) (x : Int) (hx : b64 x) => fnum_any x hx w'
  have HR := hid hr
  have HZ : Box (∀ k, (headE numE l k).length ≤ 35184372088832) := hid (fun k => Nat.le_trans (headE_len numE l k) hs)
  obtain ⟨n, hn⟩ : ∃ n, n = l.length := ⟨_, rfl⟩
  rw [← hn] at H1 hl ⊢
  have HL := hid hn
  have hn1 : (n : Int) ≤ 9223372036854775807 := by unfold maxLen at hl; omega
  clear hr hb hl hn hs
  go_enter Tryd.func20, Tryd.ntmps20
  go_wp2_with fail
  refine H1.out.mono ?_
  rintro e w1 ⟨v1, rfl, O1⟩
  have HO0 : Box (OB w w1 v1 (headE numE l 0)) := hid (by rw [headE_zero, ← HL.out]; exact O1)
  clear H1 O1
  go_wp2_with fail
  go_loopw [3, 4] (fun bv iv wr => ∃ k : Nat, k ≤ n ∧ iv = .int .i64 (k : Int) ∧ Box (OB w wr bv (headE numE l k))) (fun _ iv _ => n - (intOf iv).toNat)
  case atStart => exact ⟨0, by omega, rfl, HO0⟩
  case round =>
    obtain ⟨k, hk, rfl, HO⟩ := hrel
    clear HO0
    by_cases hlt : k < n
    · have hlt' : (k : Int) < (n : Int) := by omega
      obtain ⟨y, hy⟩ : ∃ y, l[k]? = some y := ⟨_, List.getElem?_eq_getElem (by rw [← HL.out]; exact hlt)⟩
      obtain ⟨b, off, rfl, hc⟩ := HR.out.at hy
      rw [Nat.mul_one] at hc
      have d0 := cell_stays HO.out.keeps hc.1
      have HC := hid (HP.out wr y hc.2)
      have HE := hid (headE_succ numE hy)
      have hz := HZ.out (k + 1)
      rw [HE.out, List.length_append] at hz
      have HY := hid hz
      have HPY := hid (numE_pos y)
      clear hc hy hz
      go_wp2_with fail
      refine HC.out.mono ?_
      rintro e w2 ⟨v2, rfl, O2⟩
      obtain ⟨g2, c2, rfl, n2⟩ := O2.row HPY.out
      have HN2 := hid n2
      have HO2 := hid (HO.out.quiet O2.keeps)
      obtain ⟨m, hm⟩ : ∃ m, m = (numE y).length := ⟨_, rfl⟩
      have HM := hid hm
      rw [← hm]
      clear O2 n2 HC hm d0
      go_wp2_with (at_builtin; go_must (refine app_b rfl _ _ rfl rfl HO2.out rfl HM.out HPY.out HN2.out (by have := HY.out; omega) ?_; intro g cap N3 w3 hN3 hob hgr; have hob' := hid hob; clear hob hgr))
      go_roundw
      case rel => exact ⟨k + 1, by omega, by go_num, hid (by rw [HE.out]; exact hob'.out)⟩
      case measure => simp [intOf]; omega
    · obtain rfl : k = n := by omega
      go_wp2_with fail
      go_ret
      exact ⟨_, rfl, by rw [show intsE l = headE numE l k by rw [HL.out]; exact (headE_all numE l).symm]; exact HO.out⟩
end Go.Proofs.YtmipbaihlodmdaaDoor
