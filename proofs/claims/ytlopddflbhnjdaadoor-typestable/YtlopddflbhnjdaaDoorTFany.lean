/-
  types.Fits of any instruction.
-/
import Derived.Test.YtlopddflbhnjdaaDoorTFits1
import Derived.Test.YtlopddflbhnjdaaDoorTFitA
import Derived.Test.YtlopddflbhnjdaaDoorTFitB
import Derived.Test.YtlopddflbhnjdaaDoorTFitC
namespace Go.Proofs.YtlopddflbhnjdaaDoor
open Go.RowKit

/-- Do the types of an instruction fit? (Its names are right.) -/
def fitB (P : Pr8) (f : Fu8) (x : In8) : Bool :=
  if x.op = 1 then ((regT f x.dst).1 == 0) else
  if x.op = 2 then ((regT f x.a).1 == 0 && ((regT f x.b).1 == 0 && (regT f x.dst).1 == 0)) else
  if x.op = 3 then ((regT f x.dst).1 == 0) else
  if x.op = 4 then ((regT f x.dst).1 != 0) else
  if x.op = 5 then ((regT f x.dst).1 == 1) else
  if x.op = 6 then (tyE (regT f x.dst) (regT f x.a)) else
  if x.op = 7 then (match fieldO P (regT f x.a) x.n with | none => false | some t => tyE t (regT f x.dst)) else
  if x.op = 8 then (match fieldO P (regT f x.a) x.n with | none => false | some t => tyE t (regT f x.b)) else
  if x.op = 9 then ((regT f x.a).1 == 1) else
  if x.op = 10 then (tyE (regT f x.dst) (2, (fun8 P x.n.toNat).sig)) else
  if x.op = 11 then ((regT f x.dst).1 == 3 && ((regT f x.a).1 == 1 && implB P (regT f x.a).2 (regT f x.dst).2)) else
  if x.op = 12 then (match (sigO P (fun8 P x.n.toNat).sig) with | none => false | some s => argsB f x.args s.1 && tyE s.2 (regT f x.dst)) else
  if x.op = 13 then (match (if (regT f x.a).1 = 2 then sigO P (regT f x.a).2 else none) with | none => false | some s => argsB f x.args s.1 && tyE s.2 (regT f x.dst)) else
  if x.op = 14 then (match (methO P (regT f x.a) x.n) with | none => false | some s => argsB f x.args s.1 && tyE s.2 (regT f x.dst)) else
  if x.op = 15 then ((regT f x.a).1 == 0) else
  false
theorem insOk_op {P : Pr8} {f : Fu8} {x : In8} (h : insOk P f x = true) : 1 ≤ x.op ∧ x.op ≤ 15 := by
  unfold insOk restB at h
  rw [Bool.and_eq_true, Bool.and_eq_true] at h
  exact of_decide_eq_true h.1.1
theorem insOk_num {P : Pr8} {f : Fu8} {x : In8} (h : insOk P f x = true) : numB P f x = true := by
  unfold insOk at h
  rw [Bool.and_eq_true, Bool.and_eq_true] at h
  exact h.2.2
theorem insOk_fn {P : Pr8} {f : Fu8} {x : In8} (h : insOk P f x = true) (hop : x.op = 10 ∨ x.op = 12) : inB x.n P.funcs.length = true := by
  have := insOk_num h
  unfold numB at this
  rw [if_pos hop] at this
  exact this
theorem fits_any {w : World} {pb po : Nat} {P : Pr8} (h : PrC w pb po P) {f : Nat} (hf : f < P.funcs.length) (x : In8) {a : Option Addr} {cp : Nat} (hz : IntsAt w a x.args) (hl : x.args.length ≤ 1000) : Calls Tryd.prog 16 #[.pointer (some ⟨pb, po, none⟩), .int .i64 (f : Int), insV x (.slice a x.args.length cp)] w fun e w' => e = .returned (.bool (insOk P (fun8 P f) x && (rtB P (fun8 P f) x && fitB P (fun8 P f) x))) ∧ Keeps [] w w' :=
  fits_by h hf x hz hl _ fun hok fb fo w' k hp hfu => by
    have h15 := insOk_op hok
    have hc : x.op = 1 ∨ x.op = 2 ∨ x.op = 3 ∨ x.op = 4 ∨ x.op = 5 ∨ x.op = 6 ∨ x.op = 7 ∨ x.op = 8 ∨ x.op = 9 ∨ x.op = 10 ∨ x.op = 11 ∨ x.op = 12 ∨ x.op = 13 ∨ x.op = 14 ∨ x.op = 15 := by omega
    have hz' := hz.kept k (fun _ _ _ => by simp)
    rcases hc with e | e | e | e | e | e | e | e | e | e | e | e | e | e | e
    · have hB : fitB P (fun8 P f) x = ((regT (fun8 P f) x.dst).1 == 0) := by unfold fitB; rw [e]; rfl
      rw [hB]
      exact fit_1 hfu x _ e
    · have hB : fitB P (fun8 P f) x = ((regT (fun8 P f) x.a).1 == 0 && ((regT (fun8 P f) x.b).1 == 0 && (regT (fun8 P f) x.dst).1 == 0)) := by unfold fitB; rw [e]; rfl
      rw [hB]
      exact fit_2 hfu x _ e
    · have hB : fitB P (fun8 P f) x = ((regT (fun8 P f) x.dst).1 == 0) := by unfold fitB; rw [e]; rfl
      rw [hB]
      exact fit_3 hfu x _ e
    · have hB : fitB P (fun8 P f) x = ((regT (fun8 P f) x.dst).1 != 0) := by unfold fitB; rw [e]; rfl
      rw [hB]
      exact fit_4 hfu x _ e
    · have hB : fitB P (fun8 P f) x = ((regT (fun8 P f) x.dst).1 == 1) := by unfold fitB; rw [e]; rfl
      rw [hB]
      exact fit_5 hfu x _ e
    · have hB : fitB P (fun8 P f) x = (tyE (regT (fun8 P f) x.dst) (regT (fun8 P f) x.a)) := by unfold fitB; rw [e]; rfl
      rw [hB]
      exact fit_6 hfu x _ e
    · have hB : fitB P (fun8 P f) x = (match fieldO P (regT (fun8 P f) x.a) x.n with | none => false | some t => tyE t (regT (fun8 P f) x.dst)) := by unfold fitB; rw [e]; rfl
      rw [hB]
      exact fit_7 hp hfu x _ e
    · have hB : fitB P (fun8 P f) x = (match fieldO P (regT (fun8 P f) x.a) x.n with | none => false | some t => tyE t (regT (fun8 P f) x.b)) := by unfold fitB; rw [e]; rfl
      rw [hB]
      exact fit_8 hp hfu x _ e
    · have hB : fitB P (fun8 P f) x = ((regT (fun8 P f) x.a).1 == 1) := by unfold fitB; rw [e]; rfl
      rw [hB]
      exact fit_9 hfu x _ e
    · have hB : fitB P (fun8 P f) x = (tyE (regT (fun8 P f) x.dst) (2, (fun8 P x.n.toNat).sig)) := by unfold fitB; rw [e]; rfl
      rw [hB]
      exact fit_10 hp hfu x _ (insOk_fn hok (.inl e)) e
    · have hB : fitB P (fun8 P f) x = ((regT (fun8 P f) x.dst).1 == 3 && ((regT (fun8 P f) x.a).1 == 1 && implB P (regT (fun8 P f) x.a).2 (regT (fun8 P f) x.dst).2)) := by unfold fitB; rw [e]; rfl
      rw [hB]
      exact fit_11 hp hfu x _ e
    · have hB : fitB P (fun8 P f) x = (match (sigO P (fun8 P x.n.toNat).sig) with | none => false | some s => argsB (fun8 P f) x.args s.1 && tyE s.2 (regT (fun8 P f) x.dst)) := by unfold fitB; rw [e]; rfl
      rw [hB]
      exact fit_12 hp hfu x _ rfl hz' hl (insOk_fn hok (.inr e)) e
    · have hB : fitB P (fun8 P f) x = (match (if (regT (fun8 P f) x.a).1 = 2 then sigO P (regT (fun8 P f) x.a).2 else none) with | none => false | some s => argsB (fun8 P f) x.args s.1 && tyE s.2 (regT (fun8 P f) x.dst)) := by unfold fitB; rw [e]; rfl
      rw [hB]
      exact fit_13 hp hfu x _ rfl hz' hl e
    · have hB : fitB P (fun8 P f) x = (match (methO P (regT (fun8 P f) x.a) x.n) with | none => false | some s => argsB (fun8 P f) x.args s.1 && tyE s.2 (regT (fun8 P f) x.dst)) := by unfold fitB; rw [e]; rfl
      rw [hB]
      exact fit_14 hp hfu x _ rfl hz' hl e
    · have hB : fitB P (fun8 P f) x = ((regT (fun8 P f) x.a).1 == 0) := by unfold fitB; rw [e]; rfl
      rw [hB]
      exact fit_15 hfu x _ e
end Go.Proofs.YtlopddflbhnjdaaDoor
