/-
  A program's text, plain (out of the texts of ir: decB, regB, lineB, endB, textL).
-/
import Derived.Test.YtmipbaihlodmdaaDoorISm
import Derived.Lib.ItoaNum
import Derived.Lib.Join
namespace Go.Proofs.YtmipbaihlodmdaaDoor
open Go.RowKit

def decB (n : Int) : ByteArray := ⟨(Lib.itoa n).toArray⟩
theorem digits_len : ∀ (k u : Nat), u < 10 ^ (k + 1) → (Lib.decDigits u).length ≤ k + 1
  | 0, u, h => by rw [Lib.decDigits, dif_pos (by omega)]; simp
  | k + 1, u, h => by
    rw [Lib.decDigits]
    by_cases c : u < 10
    · rw [dif_pos c]; simp
    · rw [dif_neg c]
      have := digits_len k (u / 10) (by rw [Nat.pow_succ] at h; omega)
      simp
      omega
abbrev wf64 (n : Int) : Prop := b64 n
theorem decB_size (n : Int) (h : wf64 n) : (decB n).size ≤ 20 := by
  obtain ⟨h0, h1⟩ := h
  show (Lib.itoa n).toArray.size ≤ 20
  rw [List.size_toArray]
  unfold Lib.itoa
  by_cases c : n < 0
  · rw [if_pos c]
    have := digits_len 18 n.natAbs (by omega)
    simp
    omega
  · rw [if_neg c]
    have := digits_len 18 n.toNat (by omega)
    omega
theorem add_big (x y : ByteArray) (h : x.size + y.size ≤ 4611686018427387904) (w : World) : (binOp .add 9 (.string x) (.string y)).run Tryd.prog w = .ok (.string (x ++ y)) w := by
  simp [binOp, Op.stringOp]
  omega
theorem add_str (x y : ByteArray) (hx : x.size ≤ 1000) (hy : y.size ≤ 1000) (w : World) : (binOp .add 9 (.string x) (.string y)).run Tryd.prog w = .ok (.string (x ++ y)) w := add_big x y (by omega) w
def regB (r : Int) : ByteArray := ⟨#[114]⟩ ++ decB r
theorem regB_size (r : Int) (h : wf64 r) : (regB r).size ≤ 21 := by
  have := decB_size r h
  unfold regB
  rw [ByteArray.size_append]
  show 1 + _ ≤ 21
  omega
def insV (x : In8) (ar : Value) : Value := .agg #[.int .i64 x.op, .int .i64 x.dst, .int .i64 x.a, .int .i64 x.b, .int .i64 x.n, ar]
structure InW (w : World) (q : Nat) (x : In8) (ar : Value) : Prop where
  c0 : w.cell? ⟨q, 0, none⟩ = some (.int .i64 x.op)
  c1 : w.cell? ⟨q, 1, none⟩ = some (.int .i64 x.dst)
  c2 : w.cell? ⟨q, 2, none⟩ = some (.int .i64 x.a)
  c3 : w.cell? ⟨q, 3, none⟩ = some (.int .i64 x.b)
  c4 : w.cell? ⟨q, 4, none⟩ = some (.int .i64 x.n)
  c5 : w.cell? ⟨q, 5, none⟩ = some ar
theorem InW.stays {w w' : World} {q : Nat} {x : In8} {ar : Value} (h : InW w q x ar) (k : Keeps [] w w') : InW w' q x ar :=
  ⟨cell_stays k h.c0, cell_stays k h.c1, cell_stays k h.c2, cell_stays k h.c3, cell_stays k h.c4, cell_stays k h.c5⟩
theorem InW.new (w : World) (x : In8) (ar : Value) (t : TypeId) : InW (w.alloc (.cells #[.int .i64 x.op, .int .i64 x.dst, .int .i64 x.a, .int .i64 x.b, .int .i64 x.n, ar] t)) w.heap.size x ar := by
  constructor <;> rw [World.cell?_alloc_at _ _ _ _ rfl] <;> rfl
structure InOk (x : In8) : Prop where
  op : wf64 x.op
  dst : wf64 x.dst
  a : wf64 x.a
  b : wf64 x.b
  n : wf64 x.n
  args : ∀ z, z ∈ x.args → wf64 z
def partB (x : In8) : ByteArray := regB x.a ++ ⟨#[46]⟩ ++ decB x.n
theorem partB_size (x : In8) (h : InOk x) : (partB x).size ≤ 42 := by
  have h1 := regB_size x.a h.a
  have h2 := decB_size x.n h.n
  unfold partB
  rw [ByteArray.size_append, ByteArray.size_append]
  show _ + 1 + _ ≤ 42
  omega
def argsL (l : List Int) : List UInt8 := Lib.join (l.map fun z => (regB z).data.toList) [44, 32]
def listB (l : List Int) : ByteArray := ⟨#[40]⟩ ++ ⟨(argsL l).toArray⟩ ++ ⟨#[41]⟩
theorem argsL_len : ∀ (l : List Int), (∀ z, z ∈ l → wf64 z) → (argsL l).length ≤ 23 * l.length
  | [], _ => by simp [argsL, Lib.join_nil]
  | x :: r, h => by
    have hx := regB_size x (h x (List.mem_cons_self ..))
    have hxl : (regB x).data.toList.length ≤ 21 := by rw [Array.length_toList]; exact hx
    have hr : (Lib.joinTail [44, 32] (r.map fun z => (regB z).data.toList)).length ≤ 23 * r.length := by
      have h' : ∀ z, z ∈ r → wf64 z := fun z hz => h z (List.mem_cons_of_mem _ hz)
      clear h hx hxl
      induction r with
      | nil => simp [Lib.joinTail]
      | cons y r ih =>
        have hy := regB_size y (h' y (List.mem_cons_self ..))
        have hyl : (regB y).data.toList.length ≤ 21 := by rw [Array.length_toList]; exact hy
        have := ih (fun z hz => h' z (List.mem_cons_of_mem _ hz))
        unfold Lib.joinTail at this ⊢
        simp only [List.map_cons, List.flatten_cons, List.length_append, List.length_cons, List.length_nil] at this ⊢
        omega
    unfold argsL
    rw [List.map_cons, Lib.join_cons, List.length_append, List.length_cons]
    omega
theorem listB_size (l : List Int) (h : ∀ z, z ∈ l → wf64 z) : (listB l).size ≤ 23 * l.length + 2 := by
  have := argsL_len l h
  unfold listB
  rw [ByteArray.size_append, ByteArray.size_append]
  show 1 + (argsL l).toArray.size + 1 ≤ _
  rw [List.size_toArray]
  omega
theorem arm8 {f : Nat} {args : Array Value} {r : Value} {W w' : World} {q : Nat} {x : In8} {ar : Value} (i0 : InW W q x ar) (k : Keeps [] W w') (h : Calls Tryd.prog f args w' fun e w2 => e = .returned r ∧ Keeps [] w' w2) :
    Calls Tryd.prog f args w' fun e w2 => e = .returned r ∧ Keeps [] W w2 ∧ w2.cell? ⟨q, 0, none⟩ = some (.int .i64 x.op) ∧ w2.cell? ⟨q, 1, none⟩ = some (.int .i64 x.dst) ∧ w2.cell? ⟨q, 2, none⟩ = some (.int .i64 x.a) ∧ w2.cell? ⟨q, 3, none⟩ = some (.int .i64 x.b) ∧ w2.cell? ⟨q, 4, none⟩ = some (.int .i64 x.n) ∧ w2.cell? ⟨q, 5, none⟩ = some ar :=
  h.mono fun _ _ h => ⟨h.1, k.quiet h.2, (i0.stays (k.quiet h.2)).c0, (i0.stays (k.quiet h.2)).c1, (i0.stays (k.quiet h.2)).c2, (i0.stays (k.quiet h.2)).c3, (i0.stays (k.quiet h.2)).c4, (i0.stays (k.quiet h.2)).c5⟩
structure ArW (w : World) (a : Option Addr) (x : In8) : Prop where
  ints : IntsAt w a x.args
  len : x.args.length ≤ 1048576
theorem ArW.quiet {w w' : World} {a : Option Addr} {x : In8} (h : ArW w a x) (k : Keeps [] w w') : ArW w' a x := ⟨h.ints.kept k (fun _ _ _ => by simp), h.len⟩
theorem eqb {a b : Int} (h : a = b) : (a == b) = true := by simpa using h
theorem neb {a b : Int} (h : a ≠ b) : (a == b) = false := by simpa using h
def rightB (x : In8) : ByteArray :=
  if x.op = 1 then ⟨#[99, 111, 110, 115, 116, 32]⟩ ++ decB x.n
  else if x.op = 2 then ⟨#[97, 100, 100, 32]⟩ ++ regB x.a ++ ⟨#[32]⟩ ++ regB x.b
  else if x.op = 3 then ⟨#[115, 111, 117, 114, 99, 101]⟩
  else if x.op = 4 then ⟨#[110, 105, 108]⟩
  else if x.op = 5 then ⟨#[110, 101, 119]⟩
  else if x.op = 6 then regB x.a
  else if x.op = 7 then partB x
  else if x.op = 10 then ⟨#[102, 117, 110, 99, 32]⟩ ++ decB x.n
  else if x.op = 11 then ⟨#[105, 102, 97, 99, 101, 32]⟩ ++ regB x.a
  else if x.op = 12 then ⟨#[99, 97, 108, 108, 32]⟩ ++ decB x.n ++ listB x.args
  else if x.op = 13 then ⟨#[99, 97, 108, 108, 32]⟩ ++ regB x.a ++ listB x.args
  else if x.op = 14 then ⟨#[99, 97, 108, 108, 32]⟩ ++ partB x ++ listB x.args
  else ⟨#[63]⟩
theorem rightB_size (x : In8) (h : InOk x) (hl : x.args.length ≤ 1048576) : (rightB x).size ≤ 24117350 := by
  have h1 := regB_size x.a h.a
  have h2 := regB_size x.b h.b
  have h3 := decB_size x.n h.n
  have h4 := partB_size x h
  have h5 := listB_size x.args h.args
  unfold rightB
  by_cases o1 : x.op = 1
  · rw [if_pos o1]
    rw [ByteArray.size_append]
    show 6 + (decB x.n).size ≤ 24117350
    omega
  rw [if_neg o1]
  by_cases o2 : x.op = 2
  · rw [if_pos o2]
    rw [ByteArray.size_append, ByteArray.size_append, ByteArray.size_append]
    show 4 + (regB x.a).size + 1 + (regB x.b).size ≤ 24117350
    omega
  rw [if_neg o2]
  by_cases o3 : x.op = 3
  · rw [if_pos o3]
    show 6 ≤ 24117350
    omega
  rw [if_neg o3]
  by_cases o4 : x.op = 4
  · rw [if_pos o4]
    show 3 ≤ 24117350
    omega
  rw [if_neg o4]
  by_cases o5 : x.op = 5
  · rw [if_pos o5]
    show 3 ≤ 24117350
    omega
  rw [if_neg o5]
  by_cases o6 : x.op = 6
  · rw [if_pos o6]
    show (regB x.a).size ≤ 24117350
    omega
  rw [if_neg o6]
  by_cases o7 : x.op = 7
  · rw [if_pos o7]
    show (partB x).size ≤ 24117350
    omega
  rw [if_neg o7]
  by_cases o10 : x.op = 10
  · rw [if_pos o10]
    rw [ByteArray.size_append]
    show 5 + (decB x.n).size ≤ 24117350
    omega
  rw [if_neg o10]
  by_cases o11 : x.op = 11
  · rw [if_pos o11]
    rw [ByteArray.size_append]
    show 6 + (regB x.a).size ≤ 24117350
    omega
  rw [if_neg o11]
  by_cases o12 : x.op = 12
  · rw [if_pos o12]
    rw [ByteArray.size_append, ByteArray.size_append]
    show 5 + (decB x.n).size + (listB x.args).size ≤ 24117350
    omega
  rw [if_neg o12]
  by_cases o13 : x.op = 13
  · rw [if_pos o13]
    rw [ByteArray.size_append, ByteArray.size_append]
    show 5 + (regB x.a).size + (listB x.args).size ≤ 24117350
    omega
  rw [if_neg o13]
  by_cases o14 : x.op = 14
  · rw [if_pos o14]
    rw [ByteArray.size_append, ByteArray.size_append]
    show 5 + (partB x).size + (listB x.args).size ≤ 24117350
    omega
  rw [if_neg o14]
  show 1 ≤ 24117350
  omega
def isDef (x : In8) : Bool := decide ((1 ≤ x.op ∧ x.op ≤ 7) ∨ (10 ≤ x.op ∧ x.op ≤ 14))
def lineB (x : In8) : ByteArray :=
  if isDef x then regB x.dst ++ ⟨#[32, 61, 32]⟩ ++ rightB x
  else if x.op = 8 then partB x ++ ⟨#[32, 61, 32]⟩ ++ regB x.b
  else if x.op = 9 then ⟨#[102, 114, 101, 101, 32]⟩ ++ regB x.a
  else if x.op = 15 then ⟨#[115, 105, 110, 107, 32]⟩ ++ regB x.a
  else ⟨#[63]⟩
theorem lineB_size (x : In8) (h : InOk x) (hl : x.args.length ≤ 1048576) : (lineB x).size ≤ 24117400 := by
  have h1 := regB_size x.a h.a
  have h2 := regB_size x.b h.b
  have h3 := regB_size x.dst h.dst
  have h4 := partB_size x h
  have h5 := rightB_size x h hl
  unfold lineB
  by_cases od : isDef x = true
  · rw [if_pos od, ByteArray.size_append, ByteArray.size_append]
    show (regB x.dst).size + 3 + (rightB x).size ≤ 24117400
    omega
  rw [if_neg od]
  by_cases o8 : x.op = 8
  · rw [if_pos o8]
    rw [ByteArray.size_append, ByteArray.size_append]
    show (partB x).size + 3 + (regB x.b).size ≤ 24117400
    omega
  rw [if_neg o8]
  by_cases o9 : x.op = 9
  · rw [if_pos o9]
    rw [ByteArray.size_append]
    show 5 + (regB x.a).size ≤ 24117400
    omega
  rw [if_neg o9]
  by_cases o15 : x.op = 15
  · rw [if_pos o15]
    rw [ByteArray.size_append]
    show 5 + (regB x.a).size ≤ 24117400
    omega
  rw [if_neg o15]
  show 1 ≤ 24117400
  omega
def endB (x : Bl8) : ByteArray :=
  if x.fin = 1 then ⟨#[106, 117, 109, 112, 32]⟩ ++ decB x.to
  else if x.fin = 2 then ⟨#[98, 114, 97, 110, 99, 104, 32]⟩ ++ regB x.reg ++ ⟨#[32]⟩ ++ decB x.to ++ ⟨#[32]⟩ ++ decB x.els
  else if x.fin = 3 then ⟨#[114, 101, 116, 117, 114, 110, 32]⟩ ++ regB x.reg
  else ⟨#[63]⟩
theorem endB_size (x : Bl8) (h1 : wf64 x.reg) (h2 : wf64 x.to) (h3 : wf64 x.els) : (endB x).size ≤ 80 := by
  have g1 := regB_size x.reg h1
  have g2 := decB_size x.to h2
  have g3 := decB_size x.els h3
  unfold endB
  by_cases f1 : x.fin = 1
  · rw [if_pos f1, ByteArray.size_append]
    show 5 + (decB x.to).size ≤ 80
    omega
  rw [if_neg f1]
  by_cases f2 : x.fin = 2
  · rw [if_pos f2, ByteArray.size_append, ByteArray.size_append, ByteArray.size_append, ByteArray.size_append, ByteArray.size_append]
    show 7 + (regB x.reg).size + 1 + (decB x.to).size + 1 + (decB x.els).size ≤ 80
    omega
  rw [if_neg f2]
  by_cases f3 : x.fin = 3
  · rw [if_pos f3, ByteArray.size_append]
    show 7 + (regB x.reg).size ≤ 80
    omega
  rw [if_neg f3]
  show 1 ≤ 80
  omega
def lnT (h r : ByteArray) : List UInt8 := h.data.toList ++ r.data.toList ++ [10]
theorem lnT_len (h r : ByteArray) : (lnT h r).length = h.size + r.size + 1 := by
  unfold lnT
  rw [List.length_append, List.length_append, Array.length_toList, Array.length_toList]
  rfl
theorem InC.open {w : World} {b o : Nat} {x : In8} (h : InC w b o x) : InOk x ∧ ∃ ar cp, w.cell? ⟨b, o + 5, none⟩ = some (.slice ar x.args.length cp) ∧ IntsAt w ar x.args ∧ x.args.length ≤ cp := by
  obtain ⟨ar, cp, h1, h2, h3, _⟩ := h.c5
  refine ⟨⟨h.c0.2, h.c1.2, h.c2.2, h.c3.2, h.c4.2, fun z hz => ?_⟩, ar, cp, h1, rows_ints h2, h3⟩
  obtain ⟨i, hi, e⟩ := List.getElem_of_mem hz
  obtain ⟨_, _, _, h9⟩ := h2.at (j := i) (y := z) (by rw [List.getElem?_eq_getElem hi, e])
  exact h9.2
def padB : ByteArray := ⟨#[32, 32, 32, 32]⟩
def blkT (x : Bl8) (n : Nat) : List UInt8 := (List.range n).flatMap fun i => lnT padB (lineB (ins8 x i))
def blkL (x : Bl8) : List UInt8 := blkT x x.code.length ++ lnT padB (endB x)
theorem blkT_succ (x : Bl8) (n : Nat) : blkT x (n + 1) = blkT x n ++ lnT padB (lineB (ins8 x n)) := by
  unfold blkT
  rw [List.range_succ, List.flatMap_append, List.flatMap_singleton]
def Few (x : Bl8) : Prop := ∀ i, i < x.code.length → (ins8 x i).args.length ≤ 1048576
def Okk (x : Bl8) : Prop := ∀ i, i < x.code.length → InOk (ins8 x i)
theorem blkT_len (x : Bl8) (h : Few x) (ho : Okk x) : ∀ n, n ≤ x.code.length → (blkT x n).length ≤ 24117500 * n
  | 0, _ => Nat.zero_le _
  | n + 1, hn => by
    have h1 := blkT_len x h ho n (by omega)
    have h2 := lineB_size _ (ho n (by omega)) (h n (by omega))
    rw [blkT_succ, List.length_append, lnT_len]
    have : padB.size = 4 := rfl
    omega
theorem ins_get {x : Bl8} {i : Nat} (h : i < x.code.length) : x.code[i]? = some (ins8 x i) := by
  unfold ins8
  rw [List.getD_eq_getElem?_getD, List.getElem?_eq_getElem h]
  rfl
theorem BlC.okk {w : World} {b o : Nat} {x : Bl8} (h : BlC w b o x) : Okk x := fun i hi => by
  obtain ⟨ca, cp, h1, h2, _⟩ := h.c0
  obtain ⟨cb, co, _, h3⟩ := h2.at (ins_get hi)
  exact h3.open.1
def funH : ByteArray := ⟨#[102, 117, 110, 99, 32]⟩
def blkH : ByteArray := ⟨#[32, 32, 98, 108, 111, 99, 107, 32]⟩
def funT (x : Fu8) (m : Nat) : List UInt8 := (List.range m).flatMap fun b : Nat => lnT blkH (decB (b : Int)) ++ blkL (blk8 x b)
def prT (P : Pr8) (k : Nat) : List UInt8 := (List.range k).flatMap fun f : Nat => lnT funH (decB (f : Int)) ++ funT (fun8 P f) (fun8 P f).blocks.length
def textL (P : Pr8) : List UInt8 := prT P P.funcs.length
theorem funT_succ (x : Fu8) (m : Nat) : funT x (m + 1) = funT x m ++ (lnT blkH (decB (m : Int)) ++ blkL (blk8 x m)) := by
  unfold funT
  rw [List.range_succ, List.flatMap_append, List.flatMap_singleton]
theorem prT_succ (P : Pr8) (k : Nat) : prT P (k + 1) = prT P k ++ (lnT funH (decB (k : Int)) ++ funT (fun8 P k) (fun8 P k).blocks.length) := by
  unfold prT
  rw [List.range_succ, List.flatMap_append, List.flatMap_singleton]
def Few8 (P : Pr8) : Prop := ∀ f b, f < P.funcs.length → b < (fun8 P f).blocks.length → Few (blk8 (fun8 P f) b)
def Okk8 (P : Pr8) : Prop := ∀ f b, f < P.funcs.length → b < (fun8 P f).blocks.length → Okk (blk8 (fun8 P f) b) ∧ (endB (blk8 (fun8 P f) b)).size ≤ 80
theorem PrC.okk {w : World} {pb po : Nat} {P : Pr8} (h : PrC w pb po P) : Okk8 P := fun f b hf hb => by
  obtain ⟨fa, fcp, H⟩ := h.fns
  obtain ⟨fb, fo, ba, bcp, _, B⟩ := H.at hf
  obtain ⟨bb, bo, _, L⟩ := B.at hb
  exact ⟨L.okk, endB_size _ L.c2.2 L.c3.2 L.c4.2⟩
theorem blkL_len (x : Bl8) (h : Few x) (ho : Okk x) (he : (endB x).size ≤ 80) : (blkL x).length ≤ 24117500 * (x.code.length + 1) := by
  have h1 := blkT_len x h ho x.code.length (Nat.le_refl _)
  unfold blkL
  rw [List.length_append, lnT_len]
  have : padB.size = 4 := rfl
  omega
theorem small_dec {k : Nat} (h : k ≤ 1000) : (decB (k : Int)).size ≤ 20 := decB_size _ ⟨by omega, by omega⟩
theorem funT_len (P : Pr8) (hf : Few8 P) (ho : Okk8 P) {f : Nat} (hl : f < P.funcs.length) (h14 : (fun8 P f).blocks.length ≤ 1000) : ∀ m, m ≤ (fun8 P f).blocks.length → (funT (fun8 P f) m).length ≤ 24117600 * cntF (fun8 P f) m
  | 0, _ => Nat.zero_le _
  | m + 1, hm => by
    have h1 := funT_len P hf ho hl h14 m (by omega)
    have h2 := blkL_len _ (hf f m hl (by omega)) (ho f m hl (by omega)).1 (ho f m hl (by omega)).2
    have h3 := small_dec (k := m) (by omega)
    rw [funT_succ, List.length_append, List.length_append, lnT_len, cntF_succ]
    have : blkH.size = 8 := rfl
    omega
theorem prT_len (P : Pr8) (hf : Few8 P) (ho : Okk8 P) (hs : Sm8 P) : ∀ k, k ≤ P.funcs.length → (prT P k).length ≤ 24117600 * cntP P k + 100 * k
  | 0, _ => Nat.zero_le _
  | k + 1, hk => by
    have h1 := prT_len P hf ho hs k (by omega)
    have h14 := hs.bk k (by omega)
    have h12 := hs.fn
    have h2 := funT_len P hf ho (f := k) (by omega) (by omega) _ (Nat.le_refl _)
    have h3 := small_dec (k := k) (by omega)
    rw [prT_succ, List.length_append, List.length_append, lnT_len, cntP_succ]
    have : funH.size = 5 := rfl
    omega
end Go.Proofs.YtmipbaihlodmdaaDoor
