/-
  What a chain of errors is in memory; the package-level variables that the library reads; what is kept of both.
-/
import Derived.Test.YtjofffhfabmfkaaDoorBase
import Derived.Test.YtjofffhfabmfkaaDoorRItoa
namespace Go.Proofs.YtjofffhfabmfkaaDoor
open Go.RowKit

/-- One of a chain: a refusal (its block, its reason, its place), or another one (its block, its text). -/
abbrev Lk : Type := (Nat × Int × Int × Int × Int) ⊕ (Nat × ByteArray)
abbrev Lk.ref (p : Nat) (why f b i : Int) : Lk := Sum.inl (p, why, f, b, i)
abbrev Lk.oth (p : Nat) (t : ByteArray) : Lk := Sum.inr (p, t)
theorem lk_cases (x : Lk) : (∃ p why f b i, x = .ref p why f b i) ∨ ∃ p t, x = .oth p t := by
  rcases x with ⟨p, why, f, b, i⟩ | ⟨p, t⟩
  · exact Or.inl ⟨p, why, f, b, i, rfl⟩
  · exact Or.inr ⟨p, t, rfl⟩

def Lk.at : Lk → Nat
  | Sum.inl (p, _, _, _, _) => p
  | Sum.inr (p, _) => p

/-- The error that a chain begins with. -/
def headV : List Lk → Value
  | [] => .nilIface
  | Sum.inl (p, _, _, _, _) :: _ => .iface 33 (.pointer (some ⟨p, 0, none⟩))
  | Sum.inr (p, _) :: _ => .iface 48 (.pointer (some ⟨p, 0, none⟩))

/-- The chain lies in memory. -/
def ChainAt (w : World) : List Lk → Prop
  | [] => True
  | Sum.inl (p, why, f, b, i) :: r => w.heap[p]? = some (.cells #[.int .i64 why, .int .i64 f, .int .i64 b, .int .i64 i, headV r] 44 (0, 0)) ∧ ChainAt w r
  | Sum.inr (p, t) :: r => w.heap[p]? = some (.cells #[.string t, headV r] 50 (0, 0)) ∧ ChainAt w r

/-- Each was made behind those that it wraps. -/
def Falls : List Lk → Prop
  | [] => True
  | x :: r => (∀ y, y ∈ r → y.at < x.at) ∧ Falls r

theorem heap_lt {w : World} {p : Nat} {o : Obj} (h : w.heap[p]? = some o) : p < w.heap.size := by
  rw [Array.getElem?_eq_some_iff] at h
  exact h.1

theorem ChainAt.lt {w : World} : ∀ {l : List Lk}, ChainAt w l → ∀ x, x ∈ l → x.at < w.heap.size
  | Sum.inl (p, _, _, _, _) :: r, h, x, hx => by
    rcases List.mem_cons.1 hx with rfl | hx
    · exact heap_lt h.1
    · exact h.2.lt x hx
  | Sum.inr (p, _) :: r, h, x, hx => by
    rcases List.mem_cons.1 hx with rfl | hx
    · exact heap_lt h.1
    · exact h.2.lt x hx

theorem ChainAt.kept {w w' : World} {L : List Nat} (k : Keeps L w w') : ∀ {l : List Lk}, ChainAt w l → (∀ x, x ∈ l → x.at ∉ L) → ChainAt w' l
  | [], _, _ => trivial
  | Sum.inl (p, _, _, _, _) :: r, h, hn => ⟨by rw [k.block p (heap_lt h.1) (hn _ (List.mem_cons_self ..))]; exact h.1, h.2.kept k fun x hx => hn x (List.mem_cons_of_mem _ hx)⟩
  | Sum.inr (p, _) :: r, h, hn => ⟨by rw [k.block p (heap_lt h.1) (hn _ (List.mem_cons_self ..))]; exact h.1, h.2.kept k fun x hx => hn x (List.mem_cons_of_mem _ hx)⟩
theorem ChainAt.quiet {w w' : World} {l : List Lk} (h : ChainAt w l) (k : Keeps [] w w') : ChainAt w' l := h.kept k fun _ _ => by simp
theorem ChainAt.tail {w : World} {x : Lk} {l : List Lk} (h : ChainAt w (x :: l)) : ChainAt w l := by
  rcases lk_cases x with ⟨_, _, _, _, _, rfl⟩ | ⟨_, _, rfl⟩ <;> exact h.2
theorem ChainAt.append {w : World} : ∀ {a l : List Lk}, ChainAt w (a ++ l) → ChainAt w l
  | [], _, h => h
  | _ :: a, _, h => ChainAt.append (a := a) h.tail
theorem Falls.append : ∀ {a l : List Lk}, Falls (a ++ l) → Falls l
  | [], _, h => h
  | _ :: a, _, h => Falls.append (a := a) h.2
theorem Falls.apart : ∀ {a l : List Lk}, Falls (a ++ l) → ∀ x y, x ∈ a → y ∈ l → y.at < x.at
  | z :: a, l, h, x, y, hx, hy => by
    rcases List.mem_cons.1 hx with rfl | hx
    · exact h.1 y (by simp [hy])
    · exact Falls.apart h.2 x y hx hy

/-- The library's variables hold what the program's text lays. -/
structure Glob (w : World) : Prop where
  et : w.cell? ⟨0, 0, none⟩ = some (.iface 81 (.agg #[.pointer (some ⟨4, 25, none⟩)]))
  pow : Lib.TabIs Tryd.prog w "internal/strconv.uint64pow10" .u64 Lib.pow10Tab

theorem gPow : Tryd.prog.globalNamed "internal/strconv.uint64pow10" = some 1 := by kernel_rfl

theorem TabIs.block {w w' : World} (h : w'.heap[1]? = w.heap[1]?) (t : Lib.TabIs Tryd.prog w "internal/strconv.uint64pow10" .u64 Lib.pow10Tab) : Lib.TabIs Tryd.prog w' "internal/strconv.uint64pow10" .u64 Lib.pow10Tab := by
  unfold Lib.TabIs World.var? at *
  rw [gPow] at *
  simpa [h] using t

theorem Glob.lt {w : World} (g : Glob w) : 0 < w.heap.size ∧ 1 < w.heap.size := by
  refine ⟨block_lt_of_cell g.et, ?_⟩
  have h := g.pow
  unfold Lib.TabIs World.var? at h
  rw [gPow] at h
  rcases Nat.lt_or_ge 1 w.heap.size with hl | hl
  · exact hl
  · simp [Array.getElem?_eq_none hl] at h

theorem Glob.kept {w w' : World} {L : List Nat} (g : Glob w) (k : Keeps L w w') (h0 : 0 ∉ L) (h1 : 1 ∉ L) : Glob w' :=
  ⟨by rw [k.cell (p := ⟨0, 0, none⟩) g.lt.1 h0]; exact g.et, TabIs.block (k.block 1 g.lt.2 h1) g.pow⟩
theorem Glob.quiet {w w' : World} (g : Glob w) (k : Keeps [] w w') : Glob w' := g.kept k (by simp) (by simp)

theorem Keeps.grow {L : List Nat} (w : World) (k : Nat) (os : Array Obj) : Keeps L w (Sort.grow (w.drewN k) os) :=
  ⟨rfl, rfl, rfl, by simp [Sort.grow, World.drewN], fun i hi _ => by simp [Sort.grow, World.drewN, Array.getElem?_append, hi]⟩
end Go.Proofs.YtjofffhfabmfkaaDoor
