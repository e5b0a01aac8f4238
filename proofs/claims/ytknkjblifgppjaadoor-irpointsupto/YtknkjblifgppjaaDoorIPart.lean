/-
  ir.part, ir.list: fields, methods and arguments as text.
-/
import Derived.Test.YtknkjblifgppjaaDoorITxt
import Derived.Test.YtknkjblifgppjaaDoorIBld
import Derived.Deep.RegionHeld3
import Derived.Deep.DeepCutAuto
namespace Go.Proofs.YtknkjblifgppjaaDoor
open Go.RowKit Go.Shelf

/-- An instruction as a value. -/
def insV (x : In8) (ar : Value) : Value := .agg #[.int .i64 x.op, .int .i64 x.dst, .int .i64 x.a, .int .i64 x.b, .int .i64 x.n, ar]
/-- An instruction in a block of its own. -/
structure InW (w : World) (q : Nat) (x : In8) (ar : Value) : Prop where
  c0 : w.cell? ⟨q, 0, none⟩ = some (.int .i64 x.op)
  c1 : w.cell? ⟨q, 1, none⟩ = some (.int .i64 x.dst)
  c2 : w.cell? ⟨q, 2, none⟩ = some (.int .i64 x.a)
  c3 : w.cell? ⟨q, 3, none⟩ = some (.int .i64 x.b)
  c4 : w.cell? ⟨q, 4, none⟩ = some (.int .i64 x.n)
  c5 : w.cell? ⟨q, 5, none⟩ = some ar
theorem InW.stays {w w' : World} {q : Nat} {x : In8} {ar : Value} (h : InW w q x ar) (k : Keeps [] w w') : InW w' q x ar :=
  ⟨cell_stays k h.c0, cell_stays k h.c1, cell_stays k h.c2, cell_stays k h.c3, cell_stays k h.c4, cell_stays k h.c5⟩
theorem InW.new (w : World) (x : In8) (ar : Value) (t : TypeId) : InW (w.alloc (.cells #[.int .i64 x.op, .int .i64 x.dst, .int .i64 x.a, .int .i64 x.b, .int .i64 x.n, ar] t)) w.heap.size x ar := by
  constructor <;> rw [World.cell?_alloc_at _ _ _ _ rfl] <;> rfl
/-- Its numbers are of 64 bits. -/
structure InOk (x : In8) : Prop where
  op : wf64 x.op
  dst : wf64 x.dst
  a : wf64 x.a
  b : wf64 x.b
  n : wf64 x.n
  args : ∀ z, z ∈ x.args → wf64 z

def partB (x : In8) : ByteArray := regB x.a ++ ⟨#[46]⟩ ++ decB x.n
theorem partB_size (x : In8) (h : InOk x) : (partB x).size ≤ 42 := by
  have h1 := regB_size x.a h.a
  have h2 := decB_size x.n h.n
  unfold partB
  rw [ByteArray.size_append, ByteArray.size_append]
  show _ + 1 + _ ≤ 42
  omega
set_option maxHeartbeats 4000000 in
theorem part_any (x : In8) (ar : Value) (hx : InOk x) (w : World) (hg : Glob w) : Calls Tryd.prog 35 #[insV x ar] w fun e w' => e = .returned (.string (partB x)) ∧ Keeps [] w w' := by
  obtain ⟨W, hW⟩ : ∃ W, W = w.alloc (.cells #[.int .i64 x.op, .int .i64 x.dst, .int .i64 x.a, .int .i64 x.b, .int .i64 x.n, ar] 34) := ⟨_, rfl⟩
  have k0 : Keeps [] w W := by rw [hW]; exact Keeps.alloc _ _ _
  have i0 : InW W w.heap.size x ar := by rw [hW]; exact InW.new _ _ _ _
  have HR := hid fun (w' : World) (k : Keeps [] W w') => (reg_any x.a hx.a w' (hg.quiet (k0.quiet k))).mono (fun e w2 (h : e = .returned (.string (regB x.a)) ∧ Keeps [] w' w2) => (⟨h.1, k.quiet h.2, (i0.stays (k.quiet h.2)).c2, (i0.stays (k.quiet h.2)).c4⟩ : e = .returned (.string (regB x.a)) ∧ Keeps [] W w2 ∧ _ ∧ _))
  have HN := hid fun (w' : World) (k : Keeps [] W w') => (itoa_keep x.n hx.n w' (hg.quiet (k0.quiet k))).mono (fun e w2 (h : e = .returned (.string (decB x.n)) ∧ Keeps [] w' w2) => (⟨h.1, k.quiet h.2, (i0.stays (k.quiet h.2)).c2, (i0.stays (k.quiet h.2)).c4⟩ : e = .returned (.string (decB x.n)) ∧ Keeps [] W w2 ∧ _ ∧ _))
  have K0 := hid k0
  have z1 := regB_size x.a hx.a
  have z2 := decB_size x.n hx.n
  have c2 := i0.c2
  have c4 := i0.c4
  unfold partB insV
  generalize regB x.a = A at *
  generalize decB x.n = D at *
  have e1 : (A ++ ⟨#[46]⟩ : ByteArray).size = A.size + 1 := by rw [ByteArray.size_append]; rfl
  have b1 : ¬ 9223372036854775807 < A.size + 1 := by omega
  have b2 : ¬ 9223372036854775807 < A.size + 1 + D.size := by omega
  generalize hS1 : A ++ ⟨#[46]⟩ = S1 at *
  have a1 := fun w => add_str A ⟨#[46]⟩ (by omega) (by decide) w
  have a2 := fun w => add_str S1 D (by omega) (by omega) w
  rw [hS1] at a1
  clear hx hg i0 k0
  go_enter Tryd.func35, Tryd.ntmps35
  go_wp2_with fail
  rw [← hW]
  clear hW
  generalize w.heap.size = q at *
  go_region_held3 (fun w' => w'.cell? ⟨q, 2, none⟩ = some (.int .i64 x.a) ∧ w'.cell? ⟨q, 4, none⟩ = some (.int .i64 x.n)) (go_keep) (first
    | (go_at_call 33; refine (HR.out _ (by first | assumption | exact Keeps.drew _ _)).mono ?_; rintro e w1 ⟨rfl, K1, d2, d4⟩)
    | (go_at_call 40; refine (HN.out _ (by first | assumption | exact Keeps.drew _ _)).mono ?_; rintro e w1 ⟨rfl, K1, d2, d4⟩))
  go_wp2_with fail
  go_ret
  exact ⟨rfl, K0.out.quiet (by assumption)⟩
end Go.Proofs.YtknkjblifgppjaaDoor
