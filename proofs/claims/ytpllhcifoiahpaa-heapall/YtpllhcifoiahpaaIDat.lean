/-
  Programs, plain, and as they lie in memory: instructions, blocks, functions.
-/
import Derived.Test.YtpllhcifoiahpaaBase
namespace Go.Proofs.Ytpllhcifoiahpaa
open Go.RowKit

structure In8 where
  op : Int
  dst : Int
  a : Int
  b : Int
  n : Int
  args : List Int
structure Bl8 where
  code : List In8
  fin : Int
  reg : Int
  to : Int
  els : Int
structure Fu8 where
  sig : Int
  regs : List (Int × Int)
  blocks : List Bl8
structure Pr8 where
  recs : List (List (Int × Int))
  sigs : List (List (Int × Int) × Int × Int)
  ifs : List (List Int)
  ims : List (Int × Int × List Int)
  funcs : List Fu8
  main : Int
/-- A number of 64 bits. -/
def b64 (n : Int) : Prop := -9223372036854775808 ≤ n ∧ n ≤ 9223372036854775807

/-- Rows of c cells each, one behind the other: R tells what a row holds. -/
def RowsAt {α : Type} (w : World) (c : Nat) (R : World → Nat → Nat → α → Prop) (a : Option Addr) (l : List α) : Prop :=
  l = [] ∨ ∃ b off, a = some ⟨b, off, none⟩ ∧ ∀ j y, l[j]? = some y → R w b (off + j * c) y
/-- What is told of rows stays where only new memory is written. -/
def Stays {α : Type} (R : World → Nat → Nat → α → Prop) : Prop := ∀ w w' b o y, Keeps [] w w' → R w b o y → R w' b o y
theorem RowsAt.quiet {α : Type} {w w' : World} {c : Nat} {R : World → Nat → Nat → α → Prop} {a : Option Addr} {l : List α} (h : RowsAt w c R a l) (hR : Stays R) (k : Keeps [] w w') : RowsAt w' c R a l := by
  rcases h with h | ⟨b, off, h1, h2⟩
  · exact .inl h
  · exact .inr ⟨b, off, h1, fun j y hy => hR w w' b _ y k (h2 j y hy)⟩
theorem RowsAt.at {α : Type} {w : World} {c : Nat} {R : World → Nat → Nat → α → Prop} {a : Option Addr} {l : List α} (h : RowsAt w c R a l) {j : Nat} {y : α} (hy : l[j]? = some y) : ∃ b off, a = some ⟨b, off, none⟩ ∧ R w b (off + j * c) y := by
  rcases h with h | ⟨b, off, h1, h2⟩
  · rw [h] at hy
    simp at hy
  · exact ⟨b, off, h1, h2 j y hy⟩
theorem cell_stays {w w' : World} {p : Addr} {v : Value} (k : Keeps [] w w') (h : w.cell? p = some v) : w'.cell? p = some v := by
  rw [k.cell (block_lt_of_cell h) (by simp)]
  exact h

def IntC (w : World) (b o : Nat) (z : Int) : Prop := w.cell? ⟨b, o, none⟩ = some (.int .i64 z) ∧ b64 z
theorem IntC.stays : Stays IntC := fun _ _ _ _ _ k h => ⟨cell_stays k h.1, h.2⟩
/-- A slice in one cell. -/
def SlC {α : Type} (c : Nat) (R : World → Nat → Nat → α → Prop) (w : World) (b o : Nat) (l : List α) : Prop :=
  ∃ a cp, w.cell? ⟨b, o, none⟩ = some (.slice a l.length cp) ∧ RowsAt w c R a l ∧ l.length ≤ cp ∧ l.length ≤ maxLen
theorem SlC.stays {α : Type} {c : Nat} {R : World → Nat → Nat → α → Prop} (hR : Stays R) : Stays (SlC c R) := by
  rintro w w' b o l k ⟨a, cp, h1, h2, h3⟩
  exact ⟨a, cp, cell_stays k h1, h2.quiet hR k, h3⟩
def IntsC : World → Nat → Nat → List Int → Prop := SlC 1 IntC
theorem IntsC.stays : Stays IntsC := SlC.stays IntC.stays
theorem rows_ints {w : World} {a : Option Addr} {l : List Int} (h : RowsAt w 1 IntC a l) : IntsAt w a l := by
  rcases h with h | ⟨b, off, h1, h2⟩
  · exact .inl h
  · refine .inr ⟨b, off, h1, fun i hi => ?_⟩
    have := (h2 i l[i] (List.getElem?_eq_getElem hi)).1
    rw [Nat.mul_one] at this
    rw [this, List.getD_eq_getElem?_getD, List.getElem?_eq_getElem hi]
    rfl
structure TyC (w : World) (b o : Nat) (t : Int × Int) : Prop where
  c0 : IntC w b o t.1
  c1 : IntC w b (o + 1) t.2
theorem TyC.stays : Stays TyC := fun _ _ _ _ _ k h => ⟨IntC.stays _ _ _ _ _ k h.c0, IntC.stays _ _ _ _ _ k h.c1⟩
structure InC (w : World) (b o : Nat) (x : In8) : Prop where
  c0 : IntC w b o x.op
  c1 : IntC w b (o + 1) x.dst
  c2 : IntC w b (o + 2) x.a
  c3 : IntC w b (o + 3) x.b
  c4 : IntC w b (o + 4) x.n
  c5 : IntsC w b (o + 5) x.args
theorem InC.stays : Stays InC := fun _ _ _ _ _ k h => ⟨IntC.stays _ _ _ _ _ k h.c0, IntC.stays _ _ _ _ _ k h.c1, IntC.stays _ _ _ _ _ k h.c2, IntC.stays _ _ _ _ _ k h.c3, IntC.stays _ _ _ _ _ k h.c4, IntsC.stays _ _ _ _ _ k h.c5⟩
structure BlC (w : World) (b o : Nat) (x : Bl8) : Prop where
  c0 : SlC 6 InC w b o x.code
  c1 : IntC w b (o + 1) x.fin
  c2 : IntC w b (o + 2) x.reg
  c3 : IntC w b (o + 3) x.to
  c4 : IntC w b (o + 4) x.els
theorem BlC.stays : Stays BlC := fun _ _ _ _ _ k h => ⟨SlC.stays InC.stays _ _ _ _ _ k h.c0, IntC.stays _ _ _ _ _ k h.c1, IntC.stays _ _ _ _ _ k h.c2, IntC.stays _ _ _ _ _ k h.c3, IntC.stays _ _ _ _ _ k h.c4⟩
structure FuC (w : World) (b o : Nat) (x : Fu8) : Prop where
  c0 : IntC w b o x.sig
  c1 : SlC 2 TyC w b (o + 1) x.regs
  c2 : SlC 5 BlC w b (o + 2) x.blocks
theorem FuC.stays : Stays FuC := fun _ _ _ _ _ k h => ⟨IntC.stays _ _ _ _ _ k h.c0, SlC.stays TyC.stays _ _ _ _ _ k h.c1, SlC.stays BlC.stays _ _ _ _ _ k h.c2⟩
structure SgC (w : World) (b o : Nat) (x : List (Int × Int) × Int × Int) : Prop where
  c0 : SlC 2 TyC w b o x.1
  c1 : IntC w b (o + 1) x.2.1
  c2 : IntC w b (o + 2) x.2.2
theorem SgC.stays : Stays SgC := fun _ _ _ _ _ k h => ⟨SlC.stays TyC.stays _ _ _ _ _ k h.c0, IntC.stays _ _ _ _ _ k h.c1, IntC.stays _ _ _ _ _ k h.c2⟩
structure ImC (w : World) (b o : Nat) (x : Int × Int × List Int) : Prop where
  c0 : IntC w b o x.1
  c1 : IntC w b (o + 1) x.2.1
  c2 : IntsC w b (o + 2) x.2.2
theorem ImC.stays : Stays ImC := fun _ _ _ _ _ k h => ⟨IntC.stays _ _ _ _ _ k h.c0, IntC.stays _ _ _ _ _ k h.c1, IntsC.stays _ _ _ _ _ k h.c2⟩
/-- A program. -/
structure PrC (w : World) (b o : Nat) (x : Pr8) : Prop where
  c0 : SlC 1 (SlC 2 TyC) w b o x.recs
  c1 : SlC 3 SgC w b (o + 1) x.sigs
  c2 : SlC 1 IntsC w b (o + 2) x.ifs
  c3 : SlC 3 ImC w b (o + 3) x.ims
  c4 : SlC 3 FuC w b (o + 4) x.funcs
  c5 : IntC w b (o + 5) x.main
theorem PrC.stays : Stays PrC := fun _ _ _ _ _ k h => ⟨SlC.stays (SlC.stays TyC.stays) _ _ _ _ _ k h.c0, SlC.stays SgC.stays _ _ _ _ _ k h.c1, SlC.stays IntsC.stays _ _ _ _ _ k h.c2, SlC.stays ImC.stays _ _ _ _ _ k h.c3, SlC.stays FuC.stays _ _ _ _ _ k h.c4, IntC.stays _ _ _ _ _ k h.c5⟩
end Go.Proofs.Ytpllhcifoiahpaa
