/-
  Numerals and names of registers as text; what of the library's variables they lean on.
-/
import Derived.Test.YtknkjblifgppjaaDoorIDat
import Derived.Test.YtknkjblifgppjaaDoorRItoa
namespace Go.Proofs.YtknkjblifgppjaaDoor
open Go.RowKit

/-- The library's table of powers is as the program's text lays it. -/
def Glob (w : World) : Prop := Lib.TabIs Tryd.prog w "internal/strconv.uint64pow10" .u64 Lib.pow10Tab
theorem gPow : Tryd.prog.globalNamed "internal/strconv.uint64pow10" = some 0 := by kernel_rfl
theorem Glob.block {w w' : World} (t : Glob w) (h : w'.heap[0]? = w.heap[0]?) : Glob w' := by
  unfold Glob Lib.TabIs World.var? at *
  rw [gPow] at *
  simpa [h] using t
theorem Glob.lt {w : World} (h : Glob w) : 0 < w.heap.size := by
  unfold Glob Lib.TabIs World.var? at h
  rw [gPow] at h
  rcases Nat.lt_or_ge 0 w.heap.size with hl | hl
  · exact hl
  · simp [Array.getElem?_eq_none hl] at h
theorem Glob.kept {w w' : World} {L : List Nat} (g : Glob w) (k : Keeps L w w') (h1 : 0 ∉ L) : Glob w' := g.block (k.block 0 g.lt h1)
theorem Glob.quiet {w w' : World} (g : Glob w) (k : Keeps [] w w') : Glob w' := g.kept k (by simp)
theorem Keeps.grow {L : List Nat} (w : World) (k : Nat) (os : Array Obj) : Keeps L w (Sort.grow (w.drewN k) os) :=
  ⟨rfl, rfl, rfl, by simp [Sort.grow, World.drewN], fun i hi _ => by simp [Sort.grow, World.drewN, Array.getElem?_append, hi]⟩
theorem Keeps.of_below {w w' : World} (h : Below w.heap.size w w') : Keeps [] w w' := ⟨h.os, h.tape, h.output, h.size, fun k hk _ => h.block k hk⟩

/-- The numeral. -/
def decB (n : Int) : ByteArray := ⟨(Lib.itoa n).toArray⟩
theorem digits_len : ∀ (k u : Nat), u < 10 ^ (k + 1) → (Lib.decDigits u).length ≤ k + 1
  | 0, u, h => by rw [Lib.decDigits, dif_pos (by omega)]; simp
  | k + 1, u, h => by
    rw [Lib.decDigits]
    by_cases c : u < 10
    · rw [dif_pos c]; simp
    · rw [dif_neg c]
      have := digits_len k (u / 10) (by rw [Nat.pow_succ] at h; omega)
      simp
      omega
/-- A number of 64 bits. -/
abbrev wf64 (n : Int) : Prop := b64 n
theorem decB_size (n : Int) (h : wf64 n) : (decB n).size ≤ 20 := by
  obtain ⟨h0, h1⟩ := h
  show (Lib.itoa n).toArray.size ≤ 20
  rw [List.size_toArray]
  unfold Lib.itoa
  by_cases c : n < 0
  · rw [if_pos c]
    have := digits_len 18 n.natAbs (by omega)
    simp
    omega
  · rw [if_neg c]
    have := digits_len 18 n.toNat (by omega)
    omega
theorem itoa_keep (n : Int) (hn : wf64 n) (w : World) (hg : Glob w) : Calls Tryd.prog 40 #[.int .i64 n] w fun e w' => e = .returned (.string (decB n)) ∧ Keeps [] w w' :=
  (itoa_any n hn.1 hn.2 w hg).mono fun e w' ⟨he, k, os, hw⟩ => ⟨he, by rw [hw]; exact Keeps.grow w k os⟩
theorem add_big (x y : ByteArray) (h : x.size + y.size ≤ 4611686018427387904) (w : World) : (binOp .add 9 (.string x) (.string y)).run Tryd.prog w = .ok (.string (x ++ y)) w := by
  simp [binOp, Op.stringOp]
  omega
theorem add_str (x y : ByteArray) (hx : x.size ≤ 1000) (hy : y.size ≤ 1000) (w : World) : (binOp .add 9 (.string x) (.string y)).run Tryd.prog w = .ok (.string (x ++ y)) w := add_big x y (by omega) w

/-- A register's name. -/
def regB (r : Int) : ByteArray := ⟨#[114]⟩ ++ decB r
theorem regB_size (r : Int) (h : wf64 r) : (regB r).size ≤ 21 := by
  have := decB_size r h
  unfold regB
  rw [ByteArray.size_append]
  show 1 + _ ≤ 21
  omega
set_option maxHeartbeats 2000000 in
theorem reg_any (r : Int) (h : wf64 r) (w : World) (hg : Glob w) : Calls Tryd.prog 33 #[.int .i64 r] w fun e w' => e = .returned (.string (regB r)) ∧ Keeps [] w w' := by
  have hi := hid (itoa_keep r h w hg)
  have hz := decB_size r h
  unfold regB
  generalize decB r = D at *
  have ha := fun w => add_str ⟨#[114]⟩ D (by decide) (by omega) w
  have b3 : D.size + 1 ≤ 9223372036854775807 := by omega
  clear h hg
  go_enter Tryd.func33, Tryd.ntmps33
  go_wp2_with (go_at_call 40; refine hi.out.mono ?_; rintro e w' ⟨rfl, hk⟩; have HK := hid hk; clear hk)
  go_ret
  exact ⟨rfl, HK.out⟩
end Go.Proofs.YtknkjblifgppjaaDoor
