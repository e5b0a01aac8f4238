/-
  types.regsNamed: what an instruction defines and reads are registers.
-/
import Derived.Test.YtlopddflbhnjdaaDoorTFld
import Derived.Test.YtlopddflbhnjdaaDoorTUse
import Derived.Deep.RegionWith
import Derived.Deep.RegionHeld3
namespace Go.Proofs.YtlopddflbhnjdaaDoor
open Go.RowKit

def regsB (R : Nat) (x : In8) : Bool := (!isDef x || inB x.dst R) && insB (usesL x) R
theorem usesL_len (x : In8) : (usesL x).length ≤ x.args.length + 2 := by
  unfold usesL
  repeat' split
  all_goals (try simp)
  all_goals omega
theorem defV_cases (x : In8) : (isDef x = true ∧ defV x = .tuple #[.int .i64 x.dst, .bool true]) ∨ (isDef x = false ∧ defV x = .tuple #[.int .i64 0, .bool false]) := by
  cases h : isDef x with
  | true => exact .inl ⟨rfl, defV_yes h⟩
  | false => exact .inr ⟨rfl, defV_no h⟩
set_option maxHeartbeats 4000000 in
theorem regsn_any {w : World} {fb fo : Nat} {f : Fu8} (h : FuC w fb fo f) (x : In8) {a : Option Addr} {cp : Nat} (hz : IntsAt w a x.args) (hl : x.args.length ≤ 1000) : Calls Tryd.prog 59 #[.pointer (some ⟨fb, fo, none⟩), insV x (.slice a x.args.length cp)] w fun e w' => e = .returned (.bool (regsB f.regs.length x)) ∧ Keeps [] w w' := by
  obtain ⟨ra, rp, c1, _⟩ := h.c1
  have ka := Keeps.alloc [] w (.cells #[.int .i64 x.op, .int .i64 x.dst, .int .i64 x.a, .int .i64 x.b, .int .i64 x.n, .slice a x.args.length cp] 54)
  have hn := heap_new w (.cells #[.int .i64 x.op, .int .i64 x.dst, .int .i64 x.a, .int .i64 x.b, .int .i64 x.n, .slice a x.args.length cp] 54)
  have HD := hid fun (w' : World) => def_any x (.slice a x.args.length cp) w'
  have C1 : Box (∀ w', Keeps [] w w' → w'.cell? ⟨fb, fo + 1, none⟩ = some (.slice ra f.regs.length rp)) := hid fun w' k => cell_stays k c1
  have HU := hid fun (w' : World) (k : Keeps [] w w') => uuse_any x a cp w' (hz.kept k (fun _ _ _ => by simp)) (by omega)
  have hul := usesL_len x
  have HA := hid fun (w' : World) (a1 : Option Addr) (p1 : Nat) (h1 : IntsAt w' a1 (usesL x)) => allwithin_any (cp := p1) h1 (by unfold maxLen; omega) f.regs.length
  have HWI := hid fun (w' : World) => within_any x.dst f.regs.length w'
  have IN : Box (∀ w', Keeps [] (w.alloc (.cells #[.int .i64 x.op, .int .i64 x.dst, .int .i64 x.a, .int .i64 x.b, .int .i64 x.n, .slice a x.args.length cp] 54)) w' → InW w' w.heap.size x (.slice a x.args.length cp)) := hid fun w' k => by
    have := keep_heap hn k
    exact ⟨hcell this 0, hcell this 1, hcell this 2, hcell this 3, hcell this 4, hcell this 5⟩
  have KA := hid ka
  have HE : Box (regsB f.regs.length x = ((!isDef x || inB x.dst f.regs.length) && insB (usesL x) f.regs.length)) := hid rfl
  have i0 := IN.out _ (Keeps.refl _ _)
  obtain ⟨d0, d1, d2, d3, d4, d5⟩ := i0
  clear h c1 ka hn hz hl hul
  unfold insV at *
  generalize regsB f.regs.length x = res at *
  generalize insB (usesL x) f.regs.length = r2 at *
  generalize hN : f.regs.length = N at *
  generalize hul : usesL x = ul at *
  clear hN hul
  generalize hWA : w.alloc (.cells #[.int .i64 x.op, .int .i64 x.dst, .int .i64 x.a, .int .i64 x.b, .int .i64 x.n, .slice a x.args.length cp] 54) = WA at *
  have HWA := hid hWA
  clear hWA
  rcases defV_cases x with ⟨hd, hv⟩ | ⟨hd, hv⟩
  · rw [hv] at HD
    cases hin : inB x.dst N with
    | false =>
      rw [hin] at HWI
      have HR : Box (res = false) := hid (by rw [HE.out, hd, hin]; rfl)
      clear HE hd hv hin
      go_enter Tryd.func59, Tryd.ntmps59
      go_upto_region 1 with fail
      rw [HWA.out]
      clear HWA
      generalize w.heap.size = q at *
      go_wp2_with fail
      refine (HD.out _).mono ?_
      rintro e w1 ⟨rfl, k1⟩
      have K1 := hid (KA.out.quiet k1)
      have c1 := C1.out _ K1.out
      go_wp2_with fail
      refine (HWI.out _).mono ?_
      rintro e w2 ⟨rfl, hw2⟩
      rw [hw2]
      clear hw2
      go_wp2_with fail
      go_ret
      exact ⟨by rw [HR.out]; rfl, K1.out⟩
    | true =>
      rw [hin] at HWI
      have HR : Box (res = r2) := hid (by rw [HE.out, hd, hin]; rfl)
      clear HE hd hv hin
      go_enter Tryd.func59, Tryd.ntmps59
      go_upto_region 1 with fail
      rw [HWA.out]
      clear HWA
      generalize w.heap.size = q at *
      go_wp2_with fail
      refine (HD.out _).mono ?_
      rintro e w1 ⟨rfl, k1⟩
      have K1 := hid (KA.out.quiet k1)
      have c1 := C1.out _ K1.out
      go_wp2_with fail
      refine (HWI.out _).mono ?_
      rintro e w2 ⟨rfl, hw2⟩
      rw [hw2]
      clear hw2
      obtain ⟨b0, b1, b2, b3, b4, b5⟩ := IN.out _ k1
      have KW := hid k1
      clear d0 d1 d2 d3 d4 d5 k1
      go_upto_region 4 with fail
      go_region_held3 (fun w' => w'.cell? ⟨fb, fo + 1, none⟩ = some (.slice ra N rp) ∧ w'.cell? ⟨q, 0, none⟩ = some (.int .i64 x.op) ∧ w'.cell? ⟨q, 1, none⟩ = some (.int .i64 x.dst) ∧ w'.cell? ⟨q, 2, none⟩ = some (.int .i64 x.a) ∧ w'.cell? ⟨q, 3, none⟩ = some (.int .i64 x.b) ∧ w'.cell? ⟨q, 4, none⟩ = some (.int .i64 x.n) ∧ w'.cell? ⟨q, 5, none⟩ = some (.slice a x.args.length cp)) (go_keep) (first
        | (go_at_call 64; refine (HU.out _ (K1.out.quiet (Keeps.drew [] _))).mono ?_; rintro e w5 ⟨a1, p1, rfl, h1, k5⟩; have K5 := (K1.out.quiet (Keeps.drew [] _)).quiet k5; have H1 := hid h1; have c5 := C1.out _ K5; have KW5 := (KW.out.quiet (Keeps.drew [] _)).quiet k5; obtain ⟨f50, f51, f52, f53, f54, f55⟩ := IN.out _ KW5; clear h1 k5)
        | (go_at_call 74; refine (HA.out _ _ _ H1.out).mono ?_; rintro e w6 ⟨rfl, hw6⟩; have K6 : Keeps [] w w6 := (by rw [hw6]; exact K5); have c6 := C1.out _ K6; have KW6 : Keeps [] WA w6 := (by rw [hw6]; exact KW5); obtain ⟨f60, f61, f62, f63, f64, f65⟩ := IN.out _ KW6; clear hw6))
      go_wp2_with fail
      go_ret
      exact ⟨by rw [HR.out]; rfl, K6⟩
  · rw [hv] at HD
    have HR : Box (res = r2) := hid (by rw [HE.out, hd]; rfl)
    clear HE hd hv HWI
    go_enter Tryd.func59, Tryd.ntmps59
    go_upto_region 1 with fail
    rw [HWA.out]
    clear HWA
    generalize w.heap.size = q at *
    go_wp2_with fail
    refine (HD.out _).mono ?_
    rintro e w1 ⟨rfl, k1⟩
    have K1 := hid (KA.out.quiet k1)
    have c1 := C1.out _ K1.out
    obtain ⟨b0, b1, b2, b3, b4, b5⟩ := IN.out _ k1
    have KW := hid k1
    clear d0 d1 d2 d3 d4 d5 k1
    go_upto_region 4 with fail
    go_region_held3 (fun w' => w'.cell? ⟨fb, fo + 1, none⟩ = some (.slice ra N rp) ∧ w'.cell? ⟨q, 0, none⟩ = some (.int .i64 x.op) ∧ w'.cell? ⟨q, 1, none⟩ = some (.int .i64 x.dst) ∧ w'.cell? ⟨q, 2, none⟩ = some (.int .i64 x.a) ∧ w'.cell? ⟨q, 3, none⟩ = some (.int .i64 x.b) ∧ w'.cell? ⟨q, 4, none⟩ = some (.int .i64 x.n) ∧ w'.cell? ⟨q, 5, none⟩ = some (.slice a x.args.length cp)) (go_keep) (first
      | (go_at_call 64; refine (HU.out _ (K1.out.quiet (Keeps.drew [] _))).mono ?_; rintro e w5 ⟨a1, p1, rfl, h1, k5⟩; have K5 := (K1.out.quiet (Keeps.drew [] _)).quiet k5; have H1 := hid h1; have c5 := C1.out _ K5; have KW5 := (KW.out.quiet (Keeps.drew [] _)).quiet k5; obtain ⟨f50, f51, f52, f53, f54, f55⟩ := IN.out _ KW5; clear h1 k5)
      | (go_at_call 74; refine (HA.out _ _ _ H1.out).mono ?_; rintro e w6 ⟨rfl, hw6⟩; have K6 : Keeps [] w w6 := (by rw [hw6]; exact K5); have c6 := C1.out _ K6; have KW6 : Keeps [] WA w6 := (by rw [hw6]; exact KW5); obtain ⟨f60, f61, f62, f63, f64, f65⟩ := IN.out _ KW6; clear hw6))
    go_wp2_with fail
    go_ret
    exact ⟨by rw [HR.out]; rfl, K6⟩

end Go.Proofs.YtlopddflbhnjdaaDoor
