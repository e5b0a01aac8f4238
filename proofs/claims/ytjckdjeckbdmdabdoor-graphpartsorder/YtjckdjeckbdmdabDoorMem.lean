/-
  What a set is in memory, what a call keeps of it, and two plain laws on rows of cells.
-/
import Derived.Test.YtjckdjeckbdmdabDoorRows
import Derived.Test.YtjckdjeckbdmdabDoorPlain
import Derived.WalkKit
import Derived.WalkSpells
import Derived.WalkLawsBesides
namespace Go.Proofs.YtjckdjeckbdmdabDoor
open Go.RowKit

/-- A fact kept from the walk, which opens 'Hid' where it looks for a contradiction. -/
structure Box (p : Prop) : Prop where
  out : p
theorem hid {p : Prop} (h : p) : Box p := ⟨h⟩

/-- Is a in s? -/
def hasI (s : Nat → Bool) (a : Int) : Bool := decide (0 ≤ a) && s a.toNat

/-- s with a (where a may be in), s without a. -/
def insI (s : Nat → Bool) (a : Int) : Nat → Bool := fun m => s m || (decide (a < 5000) && decide ((m : Int) = a))
def delI (s : Nat → Bool) (a : Int) : Nat → Bool := fun m => s m && !decide ((m : Int) = a)
def Fit (s : Nat → Bool) : Prop := ∀ n, 5000 ≤ n → s n = false

theorem Fit.ins {s : Nat → Bool} (h : Fit s) (a : Int) : Fit (insI s a) := by
  intro n hn
  unfold insI
  rw [h n hn]
  simp
  omega
theorem Fit.del {s : Nat → Bool} (h : Fit s) (a : Int) : Fit (delI s a) := by
  intro n hn
  simp [delI, h n hn]
theorem insI_out (s : Nat → Bool) (a : Int) (h : ¬ (0 ≤ a ∧ a < 5000)) : insI s a = s := by
  funext m
  unfold insI
  by_cases h1 : a < 5000
  · have : ¬ (m : Int) = a := by omega
    simp [this]
  · simp [h1]
theorem insI_in (s : Nat → Bool) (n : Nat) (h : s n = true) : insI s (n : Int) = s := by
  funext m
  unfold insI
  by_cases h1 : (m : Int) = n
  · have : m = n := by omega
    subst this
    simp [h]
  · simp [h1]
theorem insI_nat (s : Nat → Bool) (n : Nat) (h : n < 5000) : insI s (n : Int) = ins s n := by
  funext m
  unfold insI ins
  have : (n : Int) < 5000 := by omega
  by_cases hm : m = n
  · subst hm; simp [this]
  · have : ¬ (m : Int) = n := by omega
    simp [this, hm]
theorem delI_nat (s : Nat → Bool) (n : Nat) : delI s (n : Int) = del s n := by
  funext m
  unfold delI del
  by_cases hm : m = n
  · subst hm; simp
  · have : ¬ (m : Int) = n := by omega
    simp [this, hm]
theorem delI_not (s : Nat → Bool) (a : Int) (h : hasI s a = false) : delI s a = s := by
  funext m
  unfold delI
  by_cases h1 : (m : Int) = a
  · subst h1
    have : s m = false := by simpa [hasI] using h
    simp [this]
  · simp [h1]

/-- The cells of a set. -/
def row (s : Nat → Bool) : Array Value := Array.ofFn (n := 79) fun k => Value.int .u64 (wd s k : Nat)

theorem row_size (s : Nat → Bool) : (row s).size = 79 := by simp [row]
theorem row_get (s : Nat → Bool) (k : Nat) (h : k < 79) : (row s)[k]? = some (.int .u64 (wd s k : Nat)) := by simp [row, h]
theorem row_set (s t : Nat → Bool) (k : Nat) (v : Nat) (h : ∀ j, j ≠ k → wd t j = wd s j) (hv : v = wd t k) : (row s).setIfInBounds k (.int .u64 (v : Nat)) = row t := by
  rw [hv]
  apply Array.ext_getElem?
  intro i
  rw [Array.getElem?_setIfInBounds]
  by_cases hi : i < 79
  · rw [row_get t i hi, row_get s i hi, row_size]
    by_cases hk : k = i
    · subst hk; simp [hi]
    · rw [if_neg hk, h i (fun e => hk e.symm)]
  · have e1 : (row t)[i]? = none := by simp [row_size]; omega
    have e2 : (row s)[i]? = none := by simp [row_size]; omega
    rw [e1, e2, row_size]
    by_cases hk : k = i
    · subst hk; simp [hi]
    · rw [if_neg hk]

/-- Block b holds the set s. -/
structure SetAt (w : World) (b : Nat) (s : Nat → Bool) : Prop where
  heap : w.heap[b]? = some (.cells (row s) 51 (0, 0))

theorem SetAt.cell {w : World} {b : Nat} {s : Nat → Bool} (h : SetAt w b s) {k : Nat} (hk : k < 79) : w.cell? ⟨b, k, none⟩ = some (.int .u64 (wd s k : Nat)) := by
  rw [cell_of_row w b k _ _ _ h.heap, row_get s k hk]
theorem SetAt.frozen {w : World} {b : Nat} {s : Nat → Bool} (h : SetAt w b s) (k : Nat) : w.frozen? ⟨b, k, none⟩ = false := frozen_of_row w b k _ _ h.heap
theorem SetAt.lt {w : World} {b : Nat} {s : Nat → Bool} (h : SetAt w b s) : b < w.heap.size := by
  have := h.heap
  rw [Array.getElem?_eq_some_iff] at this
  exact this.1

theorem SetAt.put {w : World} {b : Nat} {s : Nat → Bool} (h : SetAt w b s) (t : Nat → Bool) (k v : Nat) (ht : ∀ j, j ≠ k → wd t j = wd s j) (hv : v = wd t k) : SetAt (w.setCell ⟨b, k, none⟩ (.int .u64 (v : Nat))) b t :=
  ⟨by rw [heap_setCell_same w b k (row s) _ _ h.heap, row_set s t k v ht hv]⟩

/-- Of what was there nothing has turned but the blocks of L. -/
structure Keeps (L : List Nat) (w w' : World) : Prop where
  os : w'.os = w.os
  tape : w'.tape = w.tape
  output : w'.output = w.output
  size : w.heap.size ≤ w'.heap.size
  block : ∀ k, k < w.heap.size → k ∉ L → w'.heap[k]? = w.heap[k]?

theorem Keeps.refl (L : List Nat) (w : World) : Keeps L w w := ⟨rfl, rfl, rfl, Nat.le_refl _, fun _ _ _ => rfl⟩
theorem Keeps.trans {L L' : List Nat} {a b c : World} (h : Keeps L a b) (k : Keeps L' b c) (hL : ∀ x, x ∈ L' → x < a.heap.size → x ∈ L) : Keeps L a c :=
  ⟨k.os.trans h.os, k.tape.trans h.tape, k.output.trans h.output, Nat.le_trans h.size k.size, fun i hi hn =>
    (k.block i (Nat.lt_of_lt_of_le hi h.size) (fun hx => hn (hL i hx hi))).trans (h.block i hi hn)⟩
theorem Keeps.step {L : List Nat} {a b c : World} (h : Keeps L a b) (k : Keeps L b c) : Keeps L a c := h.trans k fun _ hx _ => hx
theorem Keeps.quiet {L : List Nat} {a b c : World} (h : Keeps L a b) (k : Keeps [] b c) : Keeps L a c := h.trans k fun _ hx => by simp at hx
theorem Keeps.mono {L L' : List Nat} {a b : World} (h : Keeps L a b) (hL : ∀ x, x ∈ L → x ∈ L') : Keeps L' a b :=
  ⟨h.os, h.tape, h.output, h.size, fun i hi hn => h.block i hi fun hx => hn (hL i hx)⟩
theorem Keeps.drewN (L : List Nat) (w : World) (n : Nat) : Keeps L w (w.drewN n) := ⟨rfl, rfl, rfl, Nat.le_refl _, fun _ _ _ => rfl⟩
theorem Keeps.drew (L : List Nat) (w : World) : Keeps L w w.drew := ⟨rfl, rfl, rfl, Nat.le_refl _, fun _ _ _ => rfl⟩
theorem Keeps.alloc (L : List Nat) (w : World) (o : Obj) : Keeps L w (w.alloc o) := ⟨rfl, rfl, rfl, by simp, fun k hk _ => Below.heap_alloc _ _ _ hk⟩
theorem Keeps.setCell (L : List Nat) (w : World) (a : Addr) (u : Value) (h : a.block ∈ L) : Keeps L w (w.setCell a u) :=
  ⟨rfl, rfl, rfl, by simp [World.setCell], fun k _ hn => Below.heap_setCell _ _ _ _ (fun e => hn (e ▸ h))⟩
theorem Keeps.setRow (w : World) (g : Nat) (cs : Array Value) : Keeps [g] w (w.setRow g cs) :=
  ⟨rfl, rfl, rfl, by simp, fun k _ hn => setRow_other w g k cs (by simp at hn; omega)⟩
theorem Keeps.grown {w w' : World} {r : Option Nat} (L : List Nat) (hg : w.grownBy w' r) (hr : ∀ k, r = some k → k ∈ L) : Keeps L w w' :=
  ⟨hg.os, hg.tape, hg.output, hg.size, fun k hk hn => hg.block k hk (fun e => hn (hr k e.symm))⟩
theorem Keeps.appended {L : List Nat} {w wa w3 wo : World} {base : Nat} {e : TypeId} {size : Nat} {v : Value} {n : Nat} {xs : List Value} (hk : Keeps L w wa) (hown : wo.ownsRow base e size v n xs) (hg : wa.grownBy w3 v.ownBlock) (hb : w.heap.size ≤ base) : Keeps L w w3 := by
  refine hk.trans (Keeps.grown (Option.toList v.ownBlock) hg (fun k hk => by rw [hk]; simp)) fun x hx hlt => ?_
  exfalso
  rcases hown.2 with ⟨rfl, _⟩ | ⟨g, cap, cur, rfl, hg, _⟩
  · simp [Value.ownBlock] at hx
  · simp [Value.ownBlock] at hx
    omega
theorem Keeps.below {L : List Nat} {w w' : World} (h : Keeps L w w') {B : Nat} (hB : B ≤ w.heap.size) (hL : ∀ x, x ∈ L → B ≤ x) : Below B w w' :=
  ⟨h.os, h.tape, h.output, h.size, fun k hk => h.block k (by omega) (fun hx => by have := hL k hx; omega)⟩

theorem SetAt.kept {w w' : World} {b : Nat} {s : Nat → Bool} {L : List Nat} (h : SetAt w b s) (k : Keeps L w w') (hb : b ∉ L) : SetAt w' b s :=
  ⟨by rw [k.block b h.lt hb]; exact h.heap⟩
theorem SetAt.drewN {w : World} {b : Nat} {s : Nat → Bool} (h : SetAt w b s) (n : Nat) : SetAt (w.drewN n) b s := ⟨h.heap⟩

theorem Keeps.cell {L : List Nat} {w w' : World} (h : Keeps L w w') {p : Addr} (hp : p.block < w.heap.size) (hn : p.block ∉ L) : w'.cell? p = w.cell? p :=
  World.cell?_of_block (w := w) (h.block p.block hp hn)

/-- The numbers of a slice. -/
def IntsAt (w : World) (a : Option Addr) (zs : List Int) : Prop :=
  zs = [] ∨ ∃ b off, a = some ⟨b, off, none⟩ ∧ ∀ i, i < zs.length → w.cell? ⟨b, off + i, none⟩ = some (.int .i64 (zs.getD i 0))

theorem IntsAt.kept {w w' : World} {a : Option Addr} {zs : List Int} {L : List Nat} (h : IntsAt w a zs) (k : Keeps L w w') (hn : ∀ b off, a = some ⟨b, off, none⟩ → b ∉ L) : IntsAt w' a zs := by
  rcases h with h | ⟨b, off, rfl, h⟩
  · exact Or.inl h
  · refine Or.inr ⟨b, off, rfl, fun i hi => ?_⟩
    have hc := h i hi
    rw [k.cell (p := ⟨b, off + i, none⟩) (block_lt_of_cell hc) (hn b off rfl)]
    exact hc

/-- The library's table of the least bits, in its variable. -/
def TabAt (w : World) : Prop := ∀ j, j < 64 → w.cell? ⟨0, j, none⟩ = some (.int .u8 (Go.Lib.deBruijn64tab.getD j 0))

theorem TabAt.kept {w w' : World} {L : List Nat} (h : TabAt w) (k : Keeps L w w') (hn : 0 ∉ L) : TabAt w' := by
  intro j hj
  have hc := h j hj
  rw [k.cell (p := ⟨0, j, none⟩) (block_lt_of_cell hc) hn]
  exact hc
theorem TabAt.drewN {w : World} (h : TabAt w) (n : Nat) : TabAt (w.drewN n) := h

end Go.Proofs.YtjckdjeckbdmdabDoor
