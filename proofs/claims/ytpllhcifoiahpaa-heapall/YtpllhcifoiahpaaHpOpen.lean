/-
  Values, types and the statements' operations that came in, opened.
-/
import Derived.Test.YtpllhcifoiahpaaIOpen
import Derived.Test.YtpllhcifoiahpaaRowKit
namespace Go.Proofs.Ytpllhcifoiahpaa
open Go.ChangeShapes Go.WideShapes Go.ChangeAt Go.RowKit

theorem hlen2 {α : Type} {l : List α} (h : l.length = 2) : ∃ a b, l = [a, b] := by
  match l, h with
  | [a, b], _ => exact ⟨a, b, rfl⟩
theorem hlen3 {α : Type} {l : List α} (h : l.length = 3) : ∃ a b c, l = [a, b, c] := by
  match l, h with
  | [a, b, c], _ => exact ⟨a, b, c, rfl⟩
theorem val_open {H : Type} {enc : TypeId × Value → H} {W : World} {r : Reach} {b0 : Nat} {spare : Nat → Bool} {held : Bool} {v : Value} {d : DataW H} {p : List MemPlace}
    (hval : Value.okWide Try.prog W r b0 29 v) (h : ∃ fuel, DataW.trod enc Try.prog W 0 spare held fuel 29 v.cells.toList = some (d, p)) :
    ∃ (k n : Int) (t : Bool), v = .agg #[.int .i64 k, .int .i64 n, .bool t] ∧ b64 k ∧ b64 n := by
  obtain ⟨cs, rfl, _⟩ := okWide_struct Try.underlying29 hval
  obtain ⟨fuel, hf⟩ := h
  have hf' : DataW.trod enc Try.prog W 0 spare held fuel 29 cs.toList = some (d, p) := hf
  obtain ⟨xs, n, _, _, hl, hxl, hx⟩ := DataW.trod_struct Try.underlying29 hf'
  have c3 : Try.prog.cellsOf 29 = 3 := by kernel_rfl
  have ci : Try.prog.cellsOf 3 = 1 := by kernel_rfl
  have c6 : Try.prog.cellsOf 2 = 1 := by kernel_rfl
  have cb : Try.prog.cellsOf 4 = 1 := by kernel_rfl
  rw [c3] at hl
  obtain ⟨v0, v1, v2, e⟩ := hlen3 hl
  obtain ⟨x0, x1, x2, ex⟩ := hlen3 (show xs.length = 3 from hxl)
  rw [e, ex] at hx
  have h0 : DataW.trod enc Try.prog W 0 spare held n 3 (([v0, v1, v2].drop 0).take (Try.prog.cellsOf 3)) = some x0 := hx 0 _ rfl
  have h1 : DataW.trod enc Try.prog W 0 spare held n 2 (([v0, v1, v2].drop 1).take (Try.prog.cellsOf 2)) = some x1 := hx 1 _ rfl
  have h2 : DataW.trod enc Try.prog W 0 spare held n 4 (([v0, v1, v2].drop 2).take (Try.prog.cellsOf 4)) = some x2 := hx 2 _ rfl
  simp only [ci, cb, c6] at h0 h1 h2
  obtain ⟨n0, e0, _, w0⟩ := DataW.trod_int Try.underlying3 h0
  obtain ⟨n1, e1, _, w1⟩ := DataW.trod_int Try.underlying2 h1
  obtain ⟨t2, e2, _⟩ := DataW.trod_bool Try.underlying4 h2
  simp at e0 e1 e2
  refine ⟨n0, n1, t2, ?_, b64_of w0, b64_of w1⟩
  congr 1
  apply Array.ext'
  rw [e, e0, e1, e2]
theorem typ_open {H : Type} {enc : TypeId × Value → H} {W : World} {r : Reach} {b0 : Nat} {spare : Nat → Bool} {held : Bool} {v : Value} {d : DataW H} {p : List MemPlace}
    (hval : Value.okWide Try.prog W r b0 37 v) (h : ∃ fuel, DataW.trod enc Try.prog W 0 spare held fuel 37 v.cells.toList = some (d, p)) :
    ∃ k n : Int, v = .agg #[.int .i64 k, .int .i64 n] ∧ b64 k ∧ b64 n := by
  obtain ⟨cs, rfl, _⟩ := okWide_struct Try.underlying37 hval
  obtain ⟨fuel, hf⟩ := h
  have hf' : DataW.trod enc Try.prog W 0 spare held fuel 37 cs.toList = some (d, p) := hf
  obtain ⟨xs, n, _, _, hl, hxl, hx⟩ := DataW.trod_struct Try.underlying37 hf'
  have c2 : Try.prog.cellsOf 37 = 2 := by kernel_rfl
  have ci : Try.prog.cellsOf 3 = 1 := by kernel_rfl
  rw [c2] at hl
  obtain ⟨v0, v1, e⟩ := hlen2 hl
  obtain ⟨x0, x1, ex⟩ := hlen2 (show xs.length = 2 from hxl)
  rw [e, ex] at hx
  have h0 : DataW.trod enc Try.prog W 0 spare held n 3 (([v0, v1].drop 0).take (Try.prog.cellsOf 3)) = some x0 := hx 0 _ rfl
  have h1 : DataW.trod enc Try.prog W 0 spare held n 3 (([v0, v1].drop 1).take (Try.prog.cellsOf 3)) = some x1 := hx 1 _ rfl
  simp only [ci] at h0 h1
  obtain ⟨n0, e0, _, w0⟩ := DataW.trod_int Try.underlying3 h0
  obtain ⟨n1, e1, _, w1⟩ := DataW.trod_int Try.underlying3 h1
  simp at e0 e1
  refine ⟨n0, n1, ?_, b64_of w0, b64_of w1⟩
  congr 1
  apply Array.ext'
  rw [e, e0, e1]
/-- An operation of the statements: kind, site, field, object, record, value. -/
structure HOp where
  kind : Int
  n : Int
  field : Int
  o : Int
  tys : List (Int × Int)
  v : Int × Int × Bool
def BoolC (w : World) (b o : Nat) (t : Bool) : Prop := w.cell? ⟨b, o, none⟩ = some (.bool t)
theorem BoolC.stays : Stays BoolC := fun _ _ _ _ _ k h => cell_stays k h
structure VlC (w : World) (b o : Nat) (x : Int × Int × Bool) : Prop where
  c0 : IntC w b o x.1
  c1 : IntC w b (o + 1) x.2.1
  c2 : BoolC w b (o + 2) x.2.2
theorem VlC.stays : Stays VlC := fun _ _ _ _ _ k h => ⟨IntC.stays _ _ _ _ _ k h.c0, IntC.stays _ _ _ _ _ k h.c1, BoolC.stays _ _ _ _ _ k h.c2⟩
structure HOpC (w : World) (b o : Nat) (x : HOp) : Prop where
  c0 : IntC w b o x.kind
  c1 : IntC w b (o + 1) x.n
  c2 : IntC w b (o + 2) x.field
  c3 : IntC w b (o + 3) x.o
  c4 : SlC 2 TyC w b (o + 4) x.tys
  c5 : VlC w b (o + 5) x.v
theorem HOpC.stays : Stays HOpC := fun _ _ _ _ _ k h => ⟨IntC.stays _ _ _ _ _ k h.c0, IntC.stays _ _ _ _ _ k h.c1, IntC.stays _ _ _ _ _ k h.c2, IntC.stays _ _ _ _ _ k h.c3, SlC.stays TyC.stays _ _ _ _ _ k h.c4, VlC.stays _ _ _ _ _ k h.c5⟩
section
variable {H : Type} {enc : TypeId × Value → H} {w : World} {spare : Nat → Bool} {held : Bool}
theorem opens_bool {P : Program} {t : TypeId} (ht : P.underlying t = some .bool) (hc : P.cellsOf t = 1) : Opens enc P w spare held t BoolC := by
  intro fuel b o cs x hcell h
  obtain ⟨n, rfl, _⟩ := DataW.trod_bool ht h
  refine ⟨n, ?_⟩
  have := hcell 0 (by omega)
  rw [Nat.add_zero] at this
  show w.cell? _ = _
  rw [this]
  rfl
theorem ho_int : Opens enc Try.prog w spare held 3 IntC := opens_int Try.underlying3 (by kernel_rfl)
theorem ho_i64 : Opens enc Try.prog w spare held 2 IntC := opens_int Try.underlying2 (by kernel_rfl)
theorem ho_type : Opens enc Try.prog w spare held 37 TyC := by
  intro fuel b o cs x hc h
  have F := fields_open Try.underlying37 hc h
  obtain ⟨y0, h0⟩ := F 0 _ rfl (of_decide_eq_true (by kernel_rfl)) ho_int
  obtain ⟨y1, h1⟩ := F 1 _ rfl (of_decide_eq_true (by kernel_rfl)) ho_int
  exact ⟨(y0, y1), h0, h1⟩
theorem ho_value : Opens enc Try.prog w spare held 29 VlC := by
  intro fuel b o cs x hc h
  have F := fields_open Try.underlying29 hc h
  obtain ⟨y0, h0⟩ := F 0 _ rfl (of_decide_eq_true (by kernel_rfl)) ho_int
  obtain ⟨y1, h1⟩ := F 1 _ rfl (of_decide_eq_true (by kernel_rfl)) ho_i64
  obtain ⟨y2, h2⟩ := F 2 _ rfl (of_decide_eq_true (by kernel_rfl)) (opens_bool Try.underlying4 (by kernel_rfl))
  exact ⟨(y0, y1, y2), h0, h1, h2⟩
theorem ho_op : Opens enc Try.prog w spare held 31 HOpC := by
  intro fuel b o cs x hc h
  have F := fields_open Try.underlying31 hc h
  obtain ⟨y0, h0⟩ := F 0 _ rfl (of_decide_eq_true (by kernel_rfl)) ho_int
  obtain ⟨y1, h1⟩ := F 1 _ rfl (of_decide_eq_true (by kernel_rfl)) ho_int
  obtain ⟨y2, h2⟩ := F 2 _ rfl (of_decide_eq_true (by kernel_rfl)) ho_int
  obtain ⟨y3, h3⟩ := F 3 _ rfl (of_decide_eq_true (by kernel_rfl)) ho_i64
  obtain ⟨y4, h4⟩ := F 4 _ rfl (of_decide_eq_true (by kernel_rfl)) (opens_slice (c := 2) Try.underlying27 (by kernel_rfl) (by decide) (by kernel_rfl) ho_type)
  obtain ⟨y5, h5⟩ := F 5 _ rfl (of_decide_eq_true (by kernel_rfl)) ho_value
  exact ⟨⟨y0, y1, y2, y3, y4, y5⟩, h0, h1, h2, h3, h4, h5⟩
theorem hops_open {fuel : Nat} {a : Option Addr} {len cap : Nat} {x : DataW H × List MemPlace}
    (h : DataW.trod enc Try.prog w 0 spare held fuel 22 (Value.slice a len cap).cells.toList = some x) :
    ∃ zs : List HOp, zs.length = len ∧ RowsAt w 8 HOpC a zs ∧ zs.length ≤ maxLen ∧ zs.length ≤ cap := by
  obtain ⟨a', cp, l, e, h2, h3, h4⟩ := rows_open (e := 31) Try.underlying22 (by rw [show Try.prog.cellsOf 31 = 8 by kernel_rfl]; decide) ho_op h
  rw [show Try.prog.cellsOf 31 = 8 by kernel_rfl] at h2
  simp [Value.cells] at e
  obtain ⟨rfl, rfl, rfl⟩ := e
  exact ⟨l, rfl, h2, h4, h3⟩
end
end Go.Proofs.Ytpllhcifoiahpaa
