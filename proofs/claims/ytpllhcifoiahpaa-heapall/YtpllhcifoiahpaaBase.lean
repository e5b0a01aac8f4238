/-
  A facts-box; what a call keeps of memory; numbers in a slice.
-/
import Derived.Test.YtpllhcifoiahpaaRows
import Derived.WalkKit
import Derived.WalkSpells
import Derived.WalkLawsBesides
namespace Go.Proofs.Ytpllhcifoiahpaa
open Go.RowKit

/-- A fact kept from the walk, which opens 'Hid' where it looks for a contradiction. -/
structure Box (p : Prop) : Prop where
  out : p
theorem hid {p : Prop} (h : p) : Box p := ⟨h⟩

/-- Of what was there nothing has turned but the blocks of L. -/
structure Keeps (L : List Nat) (w w' : World) : Prop where
  os : w'.os = w.os
  tape : w'.tape = w.tape
  output : w'.output = w.output
  size : w.heap.size ≤ w'.heap.size
  block : ∀ k, k < w.heap.size → k ∉ L → w'.heap[k]? = w.heap[k]?

theorem Keeps.refl (L : List Nat) (w : World) : Keeps L w w := ⟨rfl, rfl, rfl, Nat.le_refl _, fun _ _ _ => rfl⟩
theorem Keeps.trans {L L' : List Nat} {a b c : World} (h : Keeps L a b) (k : Keeps L' b c) (hL : ∀ x, x ∈ L' → x < a.heap.size → x ∈ L) : Keeps L a c :=
  ⟨k.os.trans h.os, k.tape.trans h.tape, k.output.trans h.output, Nat.le_trans h.size k.size, fun i hi hn =>
    (k.block i (Nat.lt_of_lt_of_le hi h.size) (fun hx => hn (hL i hx hi))).trans (h.block i hi hn)⟩
theorem Keeps.step {L : List Nat} {a b c : World} (h : Keeps L a b) (k : Keeps L b c) : Keeps L a c := h.trans k fun _ hx _ => hx
theorem Keeps.quiet {L : List Nat} {a b c : World} (h : Keeps L a b) (k : Keeps [] b c) : Keeps L a c := h.trans k fun _ hx => by simp at hx
theorem Keeps.mono {L L' : List Nat} {a b : World} (h : Keeps L a b) (hL : ∀ x, x ∈ L → x ∈ L') : Keeps L' a b :=
  ⟨h.os, h.tape, h.output, h.size, fun i hi hn => h.block i hi fun hx => hn (hL i hx)⟩
theorem Keeps.drewN (L : List Nat) (w : World) (n : Nat) : Keeps L w (w.drewN n) := ⟨rfl, rfl, rfl, Nat.le_refl _, fun _ _ _ => rfl⟩
theorem Keeps.drew (L : List Nat) (w : World) : Keeps L w w.drew := ⟨rfl, rfl, rfl, Nat.le_refl _, fun _ _ _ => rfl⟩
theorem Keeps.alloc (L : List Nat) (w : World) (o : Obj) : Keeps L w (w.alloc o) := ⟨rfl, rfl, rfl, by simp, fun k hk _ => Below.heap_alloc _ _ _ hk⟩
theorem Keeps.setCell (L : List Nat) (w : World) (a : Addr) (u : Value) (h : a.block ∈ L) : Keeps L w (w.setCell a u) :=
  ⟨rfl, rfl, rfl, by simp [World.setCell], fun k _ hn => Below.heap_setCell _ _ _ _ (fun e => hn (e ▸ h))⟩
theorem Keeps.setRow (w : World) (g : Nat) (cs : Array Value) : Keeps [g] w (w.setRow g cs) :=
  ⟨rfl, rfl, rfl, by simp, fun k _ hn => setRow_other w g k cs (by simp at hn; omega)⟩
theorem Keeps.grown {w w' : World} {r : Option Nat} (L : List Nat) (hg : w.grownBy w' r) (hr : ∀ k, r = some k → k ∈ L) : Keeps L w w' :=
  ⟨hg.os, hg.tape, hg.output, hg.size, fun k hk hn => hg.block k hk (fun e => hn (hr k e.symm))⟩
theorem Keeps.appended {L : List Nat} {w wa w3 wo : World} {base : Nat} {e : TypeId} {size : Nat} {v : Value} {n : Nat} {xs : List Value} (hk : Keeps L w wa) (hown : wo.ownsRow base e size v n xs) (hg : wa.grownBy w3 v.ownBlock) (hb : w.heap.size ≤ base) : Keeps L w w3 := by
  refine hk.trans (Keeps.grown (Option.toList v.ownBlock) hg (fun k hk => by rw [hk]; simp)) fun x hx hlt => ?_
  exfalso
  rcases hown.2 with ⟨rfl, _⟩ | ⟨g, cap, cur, rfl, hg, _⟩
  · simp [Value.ownBlock] at hx
  · simp [Value.ownBlock] at hx
    omega
theorem Keeps.below {L : List Nat} {w w' : World} (h : Keeps L w w') {B : Nat} (hB : B ≤ w.heap.size) (hL : ∀ x, x ∈ L → B ≤ x) : Below B w w' :=
  ⟨h.os, h.tape, h.output, h.size, fun k hk => h.block k (by omega) (fun hx => by have := hL k hx; omega)⟩

theorem Keeps.cell {L : List Nat} {w w' : World} (h : Keeps L w w') {p : Addr} (hp : p.block < w.heap.size) (hn : p.block ∉ L) : w'.cell? p = w.cell? p :=
  World.cell?_of_block (w := w) (h.block p.block hp hn)

/-- The numbers of a slice. -/
def IntsAt (w : World) (a : Option Addr) (zs : List Int) : Prop :=
  zs = [] ∨ ∃ b off, a = some ⟨b, off, none⟩ ∧ ∀ i, i < zs.length → w.cell? ⟨b, off + i, none⟩ = some (.int .i64 (zs.getD i 0))

theorem IntsAt.kept {w w' : World} {a : Option Addr} {zs : List Int} {L : List Nat} (h : IntsAt w a zs) (k : Keeps L w w') (hn : ∀ b off, a = some ⟨b, off, none⟩ → b ∉ L) : IntsAt w' a zs := by
  rcases h with h | ⟨b, off, rfl, h⟩
  · exact Or.inl h
  · refine Or.inr ⟨b, off, rfl, fun i hi => ?_⟩
    have hc := h i hi
    rw [k.cell (p := ⟨b, off + i, none⟩) (block_lt_of_cell hc) (hn b off rfl)]
    exact hc

end Go.Proofs.Ytpllhcifoiahpaa
