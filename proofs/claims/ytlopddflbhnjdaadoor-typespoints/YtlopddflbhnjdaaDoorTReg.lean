/-
  types.regType, sig, field, method.
-/
import Derived.Test.YtlopddflbhnjdaaDoorTNam
namespace Go.Proofs.YtlopddflbhnjdaaDoor
open Go.RowKit

/-- A register's type; of what is none no kind. -/
def regT (x : Fu8) (r : Int) : Int × Int := if inB r x.regs.length then x.regs.getD r.toNat (0, 0) else (-1, 0)
theorem regT_in {x : Fu8} {r : Int} (h : inB r x.regs.length = true) : regT x r = x.regs.getD r.toNat (0, 0) := by unfold regT; rw [h]; rfl
theorem regT_out {x : Fu8} {r : Int} (h : inB r x.regs.length = false) : regT x r = (-1, 0) := by unfold regT; rw [h]; rfl
theorem set2 {w : World} {b : Nat} {x y : Value} {T : TypeId} (h : w.heap[b]? = some (.cells #[x, y] T (0, 0))) (u0 u1 : Value) :
    ((w.setCell ⟨b, 0, none⟩ u0).setCell ⟨b, 1, none⟩ u1).heap[b]? = some (.cells #[u0, u1] T (0, 0)) :=
  heap_setCell_same _ b 1 _ _ u1 (heap_setCell_same w b 0 _ _ u0 h)
theorem keeps2 (w : World) (b : Nat) (u0 u1 : Value) : Keeps [b] w ((w.setCell ⟨b, 0, none⟩ u0).setCell ⟨b, 1, none⟩ u1) :=
  (Keeps.setCell [b] _ _ _ (List.mem_singleton.2 rfl)).step (Keeps.setCell [b] _ _ _ (List.mem_singleton.2 rfl))
set_option maxHeartbeats 4000000 in
theorem regtype_any {w : World} {fb fo : Nat} {x : Fu8} (h : FuC w fb fo x) (r : Int) : Calls Tryd.prog 63 #[.pointer (some ⟨fb, fo, none⟩), .int .i64 r] w fun e w' => e = .returned (tyV (regT x r)) ∧ Keeps [] w w' := by
  obtain ⟨a, cp, c1, hr, _⟩ := h.c1
  have ka := Keeps.alloc [] w (.cells #[.int .i64 0, .int .i64 0] 39)
  replace c1 := cell_stays ka c1
  have hn := heap_new w (.cells #[.int .i64 0, .int .i64 0] 39)
  have HW := hid fun (w : World) => within_any r x.regs.length w
  have KA := hid ka
  have HR := hid hr
  have HN := hid hn
  have z0 := hfrozen hn 0
  have z1 := hfrozen hn 1
  have q0 := hcell hn 0
  have q1 := hcell hn 1
  cases hin : inB r x.regs.length with
  | true =>
    have HT := hid (regT_in hin)
    rw [hin] at HW
    obtain ⟨h0, h1⟩ := inB_iff.1 hin
    obtain ⟨b, off, rfl, hc⟩ := HR.out.at (getD_get (l := x.regs) (k := r.toNat) (d := (0, 0)) (by omega))
    obtain ⟨k, rfl⟩ : ∃ k : Nat, r = (k : Int) := ⟨r.toNat, by omega⟩
    have ek : ((k : Int)).toNat = k := by omega
    rw [ek] at hc HT
    have d0 := cell_stays ka hc.c0.1
    have d1 := cell_stays ka hc.c1.1
    generalize x.regs.getD k (0, 0) = t at *
    generalize regT x (k : Int) = T at *
    generalize x.regs.length = n at *
    clear h hr ka hn hc hin ek
    go_enter Tryd.func63, Tryd.ntmps63
    go_wp2_with fail
    refine (HW.out _).mono ?_
    rintro e w1 ⟨rfl, hw1⟩
    rw [hw1]
    clear hw1
    go_wp2_with fail
    exact bodyPost_ret (v := tyV t) (by simp [results, Tryd.results63, go_sem]) rfl ⟨by rw [HT.out], Keeps.alloc _ _ _⟩
  | false =>
    have HT := hid (regT_out hin)
    rw [hin] at HW
    generalize regT x r = T at *
    generalize x.regs.length = n at *
    clear h hr ka hn hin
    go_enter Tryd.func63, Tryd.ntmps63
    go_wp2_with fail
    refine (HW.out _).mono ?_
    rintro e w1 ⟨rfl, hw1⟩
    rw [hw1]
    clear hw1
    go_wp2_with fail
    exact bodyPost_ret (v := tyV (-1, 0)) (by simp [results, Tryd.results63, go_sem]) rfl ⟨by rw [HT.out], Keeps.alloc _ _ _⟩
theorem SgV.quiet {w w' : World} {v : Value} {s : List (Int × Int) × Int × Int} (h : SgV w v s) (k : Keeps [] w w') : SgV w' v s := by
  obtain ⟨a, cp, h1, h2, h3⟩ := h
  exact ⟨a, cp, h1, h2.keeps TyC.stays k, h3⟩
/-- What sig, method, called tell: a signature, or none. -/
def SigPost (o : Option (List (Int × Int) × Int × Int)) (w0 w : World) (e : Ending) (w' : World) : Prop :=
  Keeps [] w w' ∧ match o with
    | some s => ∃ v, e = .returned (.tuple #[v, .bool true]) ∧ SgV w0 v s
    | none => e = .returned (.tuple #[.agg #[.slice none 0 0, .int .i64 0, .int .i64 0], .bool false])
def sigO (P : Pr8) (n : Int) : Option (List (Int × Int) × Int × Int) := if inB n P.sigs.length then some (P.sigs.getD n.toNat ([], 0, 0)) else none
theorem sigO_in {P : Pr8} {n : Int} (h : inB n P.sigs.length = true) : sigO P n = some (P.sigs.getD n.toNat ([], 0, 0)) := by unfold sigO; rw [h]; rfl
theorem sigO_out {P : Pr8} {n : Int} (h : inB n P.sigs.length = false) : sigO P n = none := by unfold sigO; rw [h]; rfl
set_option maxHeartbeats 4000000 in
theorem sig_any {w0 w : World} {pb po : Nat} {P : Pr8} (h : PrC w0 pb po P) (k0 : Keeps [] w0 w) (r : Int) : Calls Tryd.prog 69 #[.pointer (some ⟨pb, po, none⟩), .int .i64 r] w (SigPost (sigO P r) w0 w) := by
  obtain ⟨a, cp, c1, hr, _⟩ := h.c1
  have ka := Keeps.alloc [] w (.cells #[.slice none 0 0, .int .i64 0, .int .i64 0] 41)
  replace c1 := cell_stays (k0.quiet ka) c1
  have hn := heap_new w (.cells #[.slice none 0 0, .int .i64 0, .int .i64 0] 41)
  have HW := hid fun (w : World) => within_any r P.sigs.length w
  have KA := hid ka
  have HR := hid hr
  have HN := hid hn
  have z0 := hfrozen hn 0
  have z1 := hfrozen hn 1
  have z2 := hfrozen hn 2
  have q0 := hcell hn 0
  have q1 := hcell hn 1
  have q2 := hcell hn 2
  cases hin : inB r P.sigs.length with
  | true =>
    rw [sigO_in hin]
    rw [hin] at HW
    obtain ⟨h0, h1⟩ := inB_iff.1 hin
    obtain ⟨b, off, rfl, hc⟩ := HR.out.at (getD_get (l := P.sigs) (k := r.toNat) (d := ([], 0, 0)) (by omega))
    obtain ⟨k, rfl⟩ : ∃ k : Nat, r = (k : Int) := ⟨r.toNat, by omega⟩
    have ek : ((k : Int)).toNat = k := by omega
    rw [ek] at hc ⊢
    obtain ⟨ga, gp, g0, q5⟩ := hc.c0.val
    have HV : Box (SgV w0 (.agg #[.slice ga (P.sigs.getD k ([], 0, 0)).1.length gp, .int .i64 (P.sigs.getD k ([], 0, 0)).2.1, .int .i64 (P.sigs.getD k ([], 0, 0)).2.2]) (P.sigs.getD k ([], 0, 0))) := hid ⟨ga, gp, rfl, q5, hc.c1.2, hc.c2.2⟩
    have d0 := cell_stays (k0.quiet ka) g0
    have d1 := cell_stays (k0.quiet ka) hc.c1.1
    have d2 := cell_stays (k0.quiet ka) hc.c2.1
    generalize P.sigs.getD k ([], 0, 0) = t at *
    generalize P.sigs.length = n at *
    clear h hr ka k0 hn hc hin ek g0 q5
    go_enter Tryd.func69, Tryd.ntmps69
    go_wp2_with fail
    refine (HW.out _).mono ?_
    rintro e w1 ⟨rfl, hw1⟩
    rw [hw1]
    clear hw1
    go_wp2_with fail
    exact bodyPost_ret (v := .tuple #[.agg #[.slice ga t.1.length gp, .int .i64 t.2.1, .int .i64 t.2.2], .bool true]) (by simp [results, Tryd.results69, go_sem]) rfl ⟨Keeps.alloc _ _ _, _, rfl, HV.out⟩
  | false =>
    rw [sigO_out hin]
    rw [hin] at HW
    generalize P.sigs.length = n at *
    clear h hr ka k0 hn hin
    go_enter Tryd.func69, Tryd.ntmps69
    go_wp2_with fail
    refine (HW.out _).mono ?_
    rintro e w1 ⟨rfl, hw1⟩
    rw [hw1]
    clear hw1
    go_wp2_with fail
    exact bodyPost_ret (v := .tuple #[.agg #[.slice none 0 0, .int .i64 0, .int .i64 0], .bool false]) (by simp [results, Tryd.results69, go_sem]) rfl ⟨Keeps.alloc _ _ _, rfl⟩
end Go.Proofs.YtlopddflbhnjdaaDoor
