/-
  Programs as bytes, plain; bytes that are added up to a bound.
-/
import Derived.Test.YtmipbaihlodmdaaDoorCPl
namespace Go.Proofs.YtmipbaihlodmdaaDoor

def tyE : Int × Int → List UInt8 := pairE numE numE
def tyOk : Int × Int → Prop := pairOk b64 b64
theorem Cd.ty : Cd tyE tyOk := Cd.num.pair Cd.num
def tysE : List (Int × Int) → List UInt8 := listE tyE
def tysOk : List (Int × Int) → Prop := listOk tyOk
theorem Cd.tys : Cd tysE tysOk := Cd.ty.list
def intsE : List Int → List UInt8 := listE numE
def intsOk : List Int → Prop := listOk b64
theorem Cd.ints : Cd intsE intsOk := Cd.num.list
def sgE : List (Int × Int) × Int × Int → List UInt8 := pairE tysE tyE
def sgOk : List (Int × Int) × Int × Int → Prop := pairOk tysOk tyOk
theorem Cd.sg : Cd sgE sgOk := Cd.tys.pair Cd.ty
def imE : Int × Int × List Int → List UInt8 := pairE numE (pairE numE intsE)
def imOk : Int × Int × List Int → Prop := pairOk b64 (pairOk b64 intsOk)
theorem Cd.im : Cd imE imOk := Cd.num.pair (Cd.num.pair Cd.ints)
def inE (x : In8) : List UInt8 := pairE numE (pairE numE (pairE numE (pairE numE (pairE numE intsE)))) (x.op, x.dst, x.a, x.b, x.n, x.args)
def inOk (x : In8) : Prop := pairOk b64 (pairOk b64 (pairOk b64 (pairOk b64 (pairOk b64 intsOk)))) (x.op, x.dst, x.a, x.b, x.n, x.args)
theorem Cd.in : Cd inE inOk := (Cd.num.pair (Cd.num.pair (Cd.num.pair (Cd.num.pair (Cd.num.pair Cd.ints))))).map (fun x : In8 => (x.op, x.dst, x.a, x.b, x.n, x.args)) (fun x y h => by
  cases x; cases y
  simp only [Prod.mk.injEq] at h
  obtain ⟨rfl, rfl, rfl, rfl, rfl, rfl⟩ := h
  rfl) (fun _ => rfl) (fun _ h => h)
def insE : List In8 → List UInt8 := listE inE
def insOk : List In8 → Prop := listOk inOk
theorem Cd.ins : Cd insE insOk := Cd.in.list
def blE (x : Bl8) : List UInt8 := pairE insE (pairE numE (pairE numE (pairE numE numE))) (x.code, x.fin, x.reg, x.to, x.els)
def blOk (x : Bl8) : Prop := pairOk insOk (pairOk b64 (pairOk b64 (pairOk b64 b64))) (x.code, x.fin, x.reg, x.to, x.els)
theorem Cd.bl : Cd blE blOk := (Cd.ins.pair (Cd.num.pair (Cd.num.pair (Cd.num.pair Cd.num)))).map (fun x : Bl8 => (x.code, x.fin, x.reg, x.to, x.els)) (fun x y h => by
  cases x; cases y
  simp only [Prod.mk.injEq] at h
  obtain ⟨rfl, rfl, rfl, rfl, rfl⟩ := h
  rfl) (fun _ => rfl) (fun _ h => h)
def blsE : List Bl8 → List UInt8 := listE blE
def blsOk : List Bl8 → Prop := listOk blOk
theorem Cd.bls : Cd blsE blsOk := Cd.bl.list
def fuE (x : Fu8) : List UInt8 := pairE numE (pairE tysE blsE) (x.sig, x.regs, x.blocks)
def fuOk (x : Fu8) : Prop := pairOk b64 (pairOk tysOk blsOk) (x.sig, x.regs, x.blocks)
theorem Cd.fu : Cd fuE fuOk := (Cd.num.pair (Cd.tys.pair Cd.bls)).map (fun x : Fu8 => (x.sig, x.regs, x.blocks)) (fun x y h => by
  cases x; cases y
  simp only [Prod.mk.injEq] at h
  obtain ⟨rfl, rfl, rfl⟩ := h
  rfl) (fun _ => rfl) (fun _ h => h)
def tyssE : List (List (Int × Int)) → List UInt8 := listE tysE
def tyssOk : List (List (Int × Int)) → Prop := listOk tysOk
theorem Cd.tyss : Cd tyssE tyssOk := Cd.tys.list
def sgsE : List (List (Int × Int) × Int × Int) → List UInt8 := listE sgE
def sgsOk : List (List (Int × Int) × Int × Int) → Prop := listOk sgOk
theorem Cd.sgs : Cd sgsE sgsOk := Cd.sg.list
def ifsE : List (List Int) → List UInt8 := listE intsE
def ifsOk : List (List Int) → Prop := listOk intsOk
theorem Cd.ifs : Cd ifsE ifsOk := Cd.ints.list
def imsE : List (Int × Int × List Int) → List UInt8 := listE imE
def imsOk : List (Int × Int × List Int) → Prop := listOk imOk
theorem Cd.ims : Cd imsE imsOk := Cd.im.list
def fusE : List Fu8 → List UInt8 := listE fuE
def fusOk : List Fu8 → Prop := listOk fuOk
theorem Cd.fus : Cd fusE fusOk := Cd.fu.list
/-- A program's bytes. -/
def prE (x : Pr8) : List UInt8 := pairE tyssE (pairE sgsE (pairE ifsE (pairE imsE (pairE fusE numE)))) (x.recs, x.sigs, x.ifs, x.ims, x.funcs, x.main)
def prOk (x : Pr8) : Prop := pairOk tyssOk (pairOk sgsOk (pairOk ifsOk (pairOk imsOk (pairOk fusOk b64)))) (x.recs, x.sigs, x.ifs, x.ims, x.funcs, x.main)
theorem Cd.pr : Cd prE prOk := (Cd.tyss.pair (Cd.sgs.pair (Cd.ifs.pair (Cd.ims.pair (Cd.fus.pair Cd.num))))).map (fun x : Pr8 => (x.recs, x.sigs, x.ifs, x.ims, x.funcs, x.main)) (fun x y h => by
  cases x; cases y
  simp only [Prod.mk.injEq] at h
  obtain ⟨rfl, rfl, rfl, rfl, rfl, rfl⟩ := h
  rfl) (fun _ => rfl) (fun _ h => h)
theorem prE_inj {P Q : Pr8} (hP : prOk P) (hQ : prOk Q) (h : prE P = prE Q) : P = Q :=
  (Cd.pr.uniq P Q [] [] hP hQ (by rw [List.append_nil, List.append_nil]; exact h)).1

/-- Bytes that are added to B, up to the bound. -/
def Adds (B T B' : List UInt8) : Prop := (B.length + T.length ≤ 20000 → B' = B ++ T) ∧ (20000 < B.length + T.length → 20000 < B'.length)
theorem Adds.nil (B : List UInt8) : Adds B [] B := ⟨fun _ => (List.append_nil B).symm, fun h => by simpa using h⟩
theorem Adds.just (B T : List UInt8) : Adds B T (B ++ T) := ⟨fun _ => rfl, fun h => by rw [List.length_append]; exact h⟩
theorem Adds.full {B : List UInt8} (T : List UInt8) (h : 20000 < B.length) : Adds B T B := ⟨fun h' => by omega, fun _ => h⟩
theorem Adds.trans {B T B1 U B2 : List UInt8} (h : Adds B T B1) (k : Adds B1 U B2) : Adds B (T ++ U) B2 := by
  obtain ⟨a1, a2⟩ := h
  obtain ⟨b1, b2⟩ := k
  refine ⟨fun h9 => ?_, fun h9 => ?_⟩
  · rw [List.length_append] at h9
    have e1 := a1 (by omega)
    have l1 : B1.length = B.length + T.length := by rw [e1, List.length_append]
    have e2 := b1 (by omega)
    rw [e2, e1, List.append_assoc]
  · rw [List.length_append] at h9
    by_cases h1 : B.length + T.length ≤ 20000
    · have e1 := a1 h1
      have l1 : B1.length = B.length + T.length := by rw [e1, List.length_append]
      exact b2 (by omega)
    · have := a2 (by omega)
      exact b2 (by omega)
theorem Adds.stop {B T B1 : List UInt8} (h : Adds B T B1) (U : List UInt8) (hf : 20000 < B1.length) : Adds B (T ++ U) B1 := h.trans (Adds.full U hf)
theorem Adds.cast {B T B1 U : List UInt8} (h : Adds B T B1) (e : T = U) : Adds B U B1 := e ▸ h
/-- A list's first parts. -/
def headE {α : Type} (E : α → List UInt8) (l : List α) (k : Nat) : List UInt8 := numE (l.length : Int) ++ (l.take k).flatMap E
theorem headE_zero {α : Type} (E : α → List UInt8) (l : List α) : headE E l 0 = numE (l.length : Int) := by simp [headE]
theorem headE_succ {α : Type} (E : α → List UInt8) {l : List α} {k : Nat} {x : α} (h : l[k]? = some x) : headE E l (k + 1) = headE E l k ++ E x := by
  have hk : k < l.length := by
    rcases Nat.lt_or_ge k l.length with h' | h'
    · exact h'
    · rw [List.getElem?_eq_none h'] at h; cases h
  have e : l.take (k + 1) = l.take k ++ [x] := by
    rw [List.take_add_one, h]
    rfl
  rw [headE, headE, e, List.flatMap_append, List.append_assoc]
  simp
theorem headE_all {α : Type} (E : α → List UInt8) (l : List α) : headE E l l.length = listE E l := by rw [headE, listE, List.take_length]
theorem headE_rest {α : Type} (E : α → List UInt8) (l : List α) (k : Nat) : headE E l k ++ (l.drop k).flatMap E = listE E l := by
  rw [headE, listE, List.append_assoc, ← List.flatMap_append, List.take_append_drop]
theorem headE_len {α : Type} (E : α → List UInt8) (l : List α) (k : Nat) : (headE E l k).length ≤ (listE E l).length := by
  rw [← headE_rest E l k, List.length_append]
  omega
end Go.Proofs.YtmipbaihlodmdaaDoor
