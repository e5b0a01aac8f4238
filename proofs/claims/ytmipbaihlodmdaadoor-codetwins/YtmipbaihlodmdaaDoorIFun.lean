/-
  A program in memory, looked at; ir.size, ir.block, ir.total, ir.first.
-/
import Derived.Test.YtmipbaihlodmdaaDoorIPl
import Derived.Test.YtmipbaihlodmdaaDoorIRow
import Derived.Deep.DeepCutAuto
namespace Go.Proofs.YtmipbaihlodmdaaDoor
open Go.RowKit

/-- The program at p: its functions' slice; function f's blocks' slice. -/
structure FnAt (w : World) (pb po : Nat) (P : Pr8) (fa : Option Addr) (fcp : Nat) : Prop where
  cell : w.cell? ⟨pb, po + 4, none⟩ = some (.slice fa P.funcs.length fcp)
  rows : RowsAt w 3 FuC fa P.funcs
  cap : P.funcs.length ≤ fcp
  len : P.funcs.length ≤ maxLen
theorem PrC.fns {w : World} {pb po : Nat} {P : Pr8} (h : PrC w pb po P) : ∃ fa fcp, FnAt w pb po P fa fcp := by
  obtain ⟨fa, fcp, h1, h2, h3, h4⟩ := h.c4
  exact ⟨fa, fcp, h1, h2, h3, h4⟩
structure BksAt (w : World) (fb fo : Nat) (P : Pr8) (f : Nat) (ba : Option Addr) (bcp : Nat) : Prop where
  cell : w.cell? ⟨fb, fo + f * 3 + 2, none⟩ = some (.slice ba (fun8 P f).blocks.length bcp)
  rows : RowsAt w 5 BlC ba (fun8 P f).blocks
  cap : (fun8 P f).blocks.length ≤ bcp
  len : (fun8 P f).blocks.length ≤ maxLen
theorem getD_get {α : Type} {l : List α} {k : Nat} {d : α} (h : k < l.length) : l[k]? = some (l.getD k d) := by
  rw [List.getD_eq_getElem?_getD, List.getElem?_eq_getElem h]
  rfl
theorem FnAt.at {w : World} {pb po : Nat} {P : Pr8} {fa : Option Addr} {fcp : Nat} (h : FnAt w pb po P fa fcp) {f : Nat} (hf : f < P.funcs.length) : ∃ fb fo ba bcp, fa = some ⟨fb, fo, none⟩ ∧ BksAt w fb fo P f ba bcp := by
  obtain ⟨fb, fo, h1, h2⟩ := h.rows.at (getD_get (d := ⟨0, [], []⟩) hf)
  obtain ⟨ba, bcp, g1, g2, g3, g4⟩ := h2.c2
  exact ⟨fb, fo, ba, bcp, h1, g1, g2, g3, g4⟩
theorem BksAt.at {w : World} {fb fo : Nat} {P : Pr8} {f : Nat} {ba : Option Addr} {bcp : Nat} (h : BksAt w fb fo P f ba bcp) {b : Nat} (hb : b < (fun8 P f).blocks.length) : ∃ bb bo, ba = some ⟨bb, bo, none⟩ ∧ BlC w bb (bo + b * 5) (blk8 (fun8 P f) b) := by
  have e : (fun8 P f).blocks[b]? = some (blk8 (fun8 P f) b) := getD_get hb
  exact h.rows.at e
/-- Not too great. -/
structure Sm8 (P : Pr8) : Prop where
  fn : P.funcs.length ≤ 12
  bk : ∀ f, f < P.funcs.length → (fun8 P f).blocks.length ≤ 14
  pt : (pts P).length ≤ 150

/-- Is there a block b of a function f? -/
abbrev IsBk (P : Pr8) (f b : Int) : Prop := 0 ≤ f ∧ f < (P.funcs.length : Int) ∧ 0 ≤ b ∧ b < ((fun8 P f.toNat).blocks.length : Int)

/-- How many points the first m blocks have. -/
def cntF (x : Fu8) (m : Nat) : Nat := (ptF x 0 m).length
theorem ptF_len (x : Fu8) (f m : Nat) : (ptF x f m).length = cntF x m := by
  unfold cntF
  induction m with
  | zero => rfl
  | succ m ih => rw [ptF_succ, ptF_succ, List.length_append, List.length_append, ptB_len, ptB_len, ih]
theorem cntF_zero (x : Fu8) : cntF x 0 = 0 := rfl
theorem cntF_succ (x : Fu8) (m : Nat) : cntF x (m + 1) = cntF x m + ((blk8 x m).code.length + 1) := by
  unfold cntF
  rw [ptF_succ, List.length_append, ptB_len]
theorem cntF_mono (x : Fu8) {m n : Nat} (h : m ≤ n) : cntF x m ≤ cntF x n := by
  induction n with
  | zero => rw [show m = 0 by omega]; exact Nat.le_refl _
  | succ n ih =>
    by_cases e : m = n + 1
    · rw [e]; exact Nat.le_refl _
    · have := ih (by omega)
      rw [cntF_succ]
      omega
/-- How many points the first k functions have. -/
def cntP (P : Pr8) (k : Nat) : Nat := (ptP P k).length
theorem cntP_zero (P : Pr8) : cntP P 0 = 0 := rfl
theorem cntP_succ (P : Pr8) (k : Nat) : cntP P (k + 1) = cntP P k + cntF (fun8 P k) (fun8 P k).blocks.length := by
  unfold cntP
  rw [ptP_succ, List.length_append, ptF_len]
theorem cntP_mono (P : Pr8) {m n : Nat} (h : m ≤ n) : cntP P m ≤ cntP P n := by
  induction n with
  | zero => rw [show m = 0 by omega]; exact Nat.le_refl _
  | succ n ih =>
    by_cases e : m = n + 1
    · rw [e]; exact Nat.le_refl _
    · have := ih (by omega)
      rw [cntP_succ]
      omega
theorem pos8_cnt (P : Pr8) (f b i : Nat) : pos8 P f b i = cntP P f + cntF (fun8 P f) b + i := by
  unfold pos8
  rw [ptF_len]
  rfl
theorem pts_cnt (P : Pr8) : (pts P).length = cntP P P.funcs.length := rfl
theorem Sm8.cntF {P : Pr8} (h : Sm8 P) {f b : Nat} (hf : f < P.funcs.length) (hb : b ≤ (fun8 P f).blocks.length) : cntP P f + Go.Proofs.YtmipbaihlodmdaaDoor.cntF (fun8 P f) b ≤ 150 := by
  have h1 := h.pt
  rw [pts_cnt] at h1
  have h2 := cntP_mono P (show f + 1 ≤ P.funcs.length by omega)
  rw [cntP_succ] at h2
  have h3 := cntF_mono (fun8 P f) hb
  omega
theorem Sm8.code {P : Pr8} (h : Sm8 P) {f b : Nat} (hf : f < P.funcs.length) (hb : b < (fun8 P f).blocks.length) : (blk8 (fun8 P f) b).code.length ≤ 149 := by
  have := h.cntF hf (show b + 1 ≤ _ by omega)
  rw [cntF_succ] at this
  omega

end Go.Proofs.YtmipbaihlodmdaaDoor
