/-
  Values of a program's types, as they are handed on (out of CVal).
-/
import Derived.Test.YtlopddflbhnjdaaDoorTFun
namespace Go.Proofs.YtlopddflbhnjdaaDoor
open Go.RowKit

def IntV (_ : World) (v : Value) (n : Int) : Prop := v = .int .i64 n ∧ b64 n
def TyV (_ : World) (v : Value) (t : Int × Int) : Prop := v = .agg #[.int .i64 t.1, .int .i64 t.2] ∧ b64 t.1 ∧ b64 t.2
def SlV {α : Type} (c : Nat) (R : World → Nat → Nat → α → Prop) (w : World) (v : Value) (l : List α) : Prop :=
  ∃ a cp, v = .slice a l.length cp ∧ RowsAt w c R a l ∧ l.length ≤ cp ∧ l.length ≤ maxLen
def IntsV : World → Value → List Int → Prop := SlV 1 IntC
def TysV : World → Value → List (Int × Int) → Prop := SlV 2 TyC
def SgV (w : World) (v : Value) (x : List (Int × Int) × Int × Int) : Prop :=
  ∃ a cp, v = .agg #[.slice a x.1.length cp, .int .i64 x.2.1, .int .i64 x.2.2] ∧ TysV w (.slice a x.1.length cp) x.1 ∧ b64 x.2.1 ∧ b64 x.2.2
def IfV (w : World) (v : Value) (x : List Int) : Prop := ∃ a cp, v = .agg #[.slice a x.length cp] ∧ IntsV w (.slice a x.length cp) x
def ImV (w : World) (v : Value) (x : Int × Int × List Int) : Prop :=
  ∃ a cp, v = .agg #[.int .i64 x.1, .int .i64 x.2.1, .slice a x.2.2.length cp] ∧ b64 x.1 ∧ b64 x.2.1 ∧ IntsV w (.slice a x.2.2.length cp) x.2.2
def InV (w : World) (v : Value) (x : In8) : Prop :=
  ∃ a cp, v = .agg #[.int .i64 x.op, .int .i64 x.dst, .int .i64 x.a, .int .i64 x.b, .int .i64 x.n, .slice a x.args.length cp] ∧ b64 x.op ∧ b64 x.dst ∧ b64 x.a ∧ b64 x.b ∧ b64 x.n ∧ IntsV w (.slice a x.args.length cp) x.args
def InsV : World → Value → List In8 → Prop := SlV 6 InC
def BlV (w : World) (v : Value) (x : Bl8) : Prop :=
  ∃ a cp, v = .agg #[.slice a x.code.length cp, .int .i64 x.fin, .int .i64 x.reg, .int .i64 x.to, .int .i64 x.els] ∧ InsV w (.slice a x.code.length cp) x.code ∧ b64 x.fin ∧ b64 x.reg ∧ b64 x.to ∧ b64 x.els
def BlsV : World → Value → List Bl8 → Prop := SlV 5 BlC
def FuV (w : World) (v : Value) (x : Fu8) : Prop :=
  ∃ a cp a' cp', v = .agg #[.int .i64 x.sig, .slice a x.regs.length cp, .slice a' x.blocks.length cp'] ∧ b64 x.sig ∧ TysV w (.slice a x.regs.length cp) x.regs ∧ BlsV w (.slice a' x.blocks.length cp') x.blocks
theorem SlC.val {α : Type} {c : Nat} {R : World → Nat → Nat → α → Prop} {w : World} {b o : Nat} {l : List α} (h : SlC c R w b o l) : ∃ a cp, w.cell? ⟨b, o, none⟩ = some (.slice a l.length cp) ∧ SlV c R w (.slice a l.length cp) l := by
  obtain ⟨a, cp, h1, h2⟩ := h
  exact ⟨a, cp, h1, a, cp, rfl, h2⟩
theorem SlV.slice {α : Type} {c : Nat} {R : World → Nat → Nat → α → Prop} {w : World} {a : Option Addr} {n cp : Nat} {l : List α} (h : SlV c R w (.slice a n cp) l) : n = l.length ∧ RowsAt w c R a l ∧ l.length ≤ cp ∧ l.length ≤ maxLen := by
  obtain ⟨a', cp', e, h1, h2⟩ := h
  simp only [Value.slice.injEq] at e
  obtain ⟨rfl, rfl, rfl⟩ := e
  exact ⟨rfl, h1, h2⟩
end Go.Proofs.YtlopddflbhnjdaaDoor
