/-
  ir.write: a line written into a builder.
-/
import Derived.Test.YtknkjblifgppjaaDoorIEnd
import Derived.Test.YtknkjblifgppjaaDoorIRow
namespace Go.Proofs.YtknkjblifgppjaaDoor
open Go.RowKit Go.Shelf

/-- A builder that a call has made since w0: it holds the bytes l; what was there at w0 is as it was. -/
structure BuW (w0 w : World) (b : Nat) (l : List UInt8) : Prop where
  at_ : Lib.IsBuilder 71 5 w0.heap.size b (Lib.byteCells l) w
  keeps : Keeps [] w0 w
theorem BuilderAt_quiet {B b : Nat} {p : Value} {bs : List Value} {w w' : World} (h : Lib.BuilderAt 71 5 B b p bs w) (k : Keeps [] w w') : Lib.BuilderAt 71 5 B b p bs w' := by
  obtain ⟨h1, v, h2, h3, h4⟩ := h
  have hb : b < w.heap.size := by
    rw [Array.getElem?_eq_some_iff] at h2
    exact h2.1
  exact ⟨h1, v, (k.block b hb (by simp)).trans h2, ownsRow_keeps h3 k (fun _ _ => by simp), h4⟩
theorem BuW.quiet {w0 w w' : World} {b : Nat} {l : List UInt8} (h : BuW w0 w b l) (k : Keeps [] w w') : BuW w0 w' b l :=
  ⟨h.at_.elim (fun x => .inl (BuilderAt_quiet x k)) (fun x => .inr (BuilderAt_quiet x k)), h.keeps.quiet k⟩
theorem keeps_below {w0 w w' : World} (h : Keeps [] w0 w) (k : Below w0.heap.size w w') : Keeps [] w0 w' :=
  ⟨k.os.trans h.os, k.tape.trans h.tape, k.output.trans h.output, Nat.le_trans h.size k.size, fun i hi hn => (k.block i hi).trans (h.block i hi hn)⟩
theorem ws_any {w0 w : World} {b : Nat} {l : List UInt8} (h : BuW w0 w b l) (s : ByteArray) (hl : l.length + s.size ≤ 140737488355328) :
    Calls Tryd.prog 47 #[.pointer (some ⟨b, 0, none⟩), .string s] w fun e w' => e = .returned (.tuple #[.int .i64 s.size, .nilIface]) ∧ BuW w0 w' b (l ++ s.data.toList) :=
  (Any.Builder_WriteString wsLays bExtra w0.heap.size b (Lib.byteCells l) s w h.at_ (by rw [Lib.byteCells_length]; exact hl) h.keeps.size).mono fun _ _ h9 => ⟨h9.1, ⟨.inr (by rw [Lib.byteCells_append]; exact h9.2.1), keeps_below h.keeps h9.2.2⟩⟩
theorem wb_any {w0 w : World} {b : Nat} {l : List UInt8} (h : BuW w0 w b l) (c : UInt8) (hl : l.length + 1 ≤ 140737488355328) :
    Calls Tryd.prog 48 #[.pointer (some ⟨b, 0, none⟩), .int .u8 (c.toNat : Int)] w fun e w' => e = .returned .nilIface ∧ BuW w0 w' b (l ++ [c]) :=
  (Any.Builder_WriteByte wbLays bExtra w0.heap.size b (Lib.byteCells l) (c.toNat : Int) w h.at_ (by rw [Lib.byteCells_length]; exact hl) h.keeps.size).mono fun _ _ h9 => ⟨h9.1, ⟨.inr (by rw [Lib.byteCells_append]; exact h9.2.1), keeps_below h.keeps h9.2.2⟩⟩
theorem bs_any {w0 w : World} {b : Nat} {l : List UInt8} (h : BuW w0 w b l) :
    Calls Tryd.prog 42 #[.pointer (some ⟨b, 0, none⟩)] w fun e w' => e = .returned (.string ⟨l.toArray⟩) ∧ Keeps [] w0 w' :=
  (Any.Builder_String_any bsLays bExtra w0.heap.size b l w h.at_ h.keeps.size).mono fun _ _ h9 => ⟨h9.1, keeps_below h.keeps h9.2⟩
theorem BuW.new (w : World) : BuW w (w.alloc (.cells #[.pointer none, .slice none 0 0] 71)) w.heap.size [] := ⟨Lib.fresh_isBuilder _ _ w, Keeps.alloc _ _ _⟩

/-- A line. -/
def lnT (h r : ByteArray) : List UInt8 := h.data.toList ++ r.data.toList ++ [10]
theorem lnT_len (h r : ByteArray) : (lnT h r).length = h.size + r.size + 1 := by
  unfold lnT
  rw [List.length_append, List.length_append, Array.length_toList, Array.length_toList]
  rfl
theorem write_any {w0 w : World} {b : Nat} {l : List UInt8} (h : BuW w0 w b l) (x y : ByteArray) (hl : l.length + (x.size + y.size + 1) ≤ 140737488355328) :
    Calls Tryd.prog 39 #[.pointer (some ⟨b, 0, none⟩), .string x, .string y] w fun e w' => e = .returned (.tuple #[]) ∧ BuW w0 w' b (l ++ lnT x y) := by
  have H1 := hid (ws_any h x (by omega))
  have H2 := hid fun (w' : World) (h : BuW w0 w' b (l ++ x.data.toList)) => ws_any h y (by rw [List.length_append, Array.length_toList]; show l.length + x.size + y.size ≤ _; omega)
  have H3 := hid fun (w' : World) (h : BuW w0 w' b (l ++ x.data.toList ++ y.data.toList)) => wb_any h 10 (by rw [List.length_append, List.length_append, Array.length_toList, Array.length_toList]; show l.length + x.size + y.size + 1 ≤ _; omega)
  have HE : Box (l ++ lnT x y = l ++ x.data.toList ++ y.data.toList ++ [10]) := hid (by unfold lnT; rw [List.append_assoc, List.append_assoc, List.append_assoc])
  clear h hl
  go_enter Tryd.func39, Tryd.ntmps39
  go_wp2_with fail
  refine H1.out.mono ?_
  rintro e w1 ⟨rfl, B1⟩
  go_wp2_with fail
  refine (H2.out _ B1).mono ?_
  rintro e w2 ⟨rfl, B2⟩
  go_wp2_with fail
  refine (H3.out _ B2).mono ?_
  rintro e w3 ⟨rfl, B3⟩
  go_wp2_with fail
  go_end0
  exact ⟨rfl, by rw [HE.out]; exact B3⟩
end Go.Proofs.YtknkjblifgppjaaDoor
