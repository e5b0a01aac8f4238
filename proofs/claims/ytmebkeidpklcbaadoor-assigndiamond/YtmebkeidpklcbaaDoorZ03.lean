/-
  What a set is in memory, and two plain laws on rows of cells.
  Contracts: the library's TrailingZeros64 and OnesCount64 at words; a set's word, read out of the array's value.
  A graph in memory; contracts: graph's has and May.
  Numbers as values; the type int and its slices.
  Contracts: bitset's may, place, Has.
  ir.first, ir.targets, ir.Number: where a block begins; where an end leads; a point's number.
  ir.Next: what may come behind a point.
  What came in, opened: whatever struct or slice, by its cells; a bound on what is read goes down to the parts.
  A program's points, plain: their list, their numbers, what follows them.
  Rows of cells that the call has made.
  types.within, typeNamed, typesNamed, allWithin, regType, sig, field, method.
  What types asks, plain: limits, names.
  ir.Points: the points of a program whose lists are in bounds, in their order (out of IPts).
  types.regType, sig, field, method.
  types.restIsEmpty: what does not count is 0.
-/
import Derived.Test.YtmebkeidpklcbaaDoorRows
import Derived.WalkKit
import Derived.WalkSpells
import Derived.WalkLawsBesides
import Derived.Lib.TrailingZeros
import Derived.Deep.QuietTactic
import Derived.BigQuiet
import Derived.Laws.BitsAllLaws
import Derived.RegionTactic
import Derived.ChangeAlike
import Derived.Laws.Bits64b
import Derived.Laws.Bits128
import Derived.OwnWalk
import Derived.Maps.AppendAt
import Derived.Lib.Builder
import Derived.Deep.OwnRows
import Derived.Deep.DeepCutAuto
import Derived.Deep.RegionHeld3
import Derived.Deep.AppendLies
import Derived.ProofKit
import Derived.OpenShut
import Derived.ChangeOld
import Derived.Deep.DeepHandedRow
import Derived.Deep.Slices
import Derived.Deep.Fields
import Derived.SizedLaws
import Derived.LaidEql
import Derived.Stop.Asserts
import Derived.RowKitTokens
import Derived.Defers
import Derived.Recover
import Derived.Deep.RegionLaw
import Derived.Test.YtmebkeidpklcbaaDoorZ01
import Derived.Test.YtmebkeidpklcbaaDoorZ02

namespace Go.Proofs.YtmebkeidpklcbaaDoor
open Go.RowKit

/-- Is a in s? -/
def hasI (s : Nat → Bool) (a : Int) : Bool := decide (0 ≤ a) && s a.toNat
/-- s with a (where a may be in), s without a. -/
def insI (s : Nat → Bool) (a : Int) : Nat → Bool := fun m => s m || (decide (a < 5000) && decide ((m : Int) = a))
def delI (s : Nat → Bool) (a : Int) : Nat → Bool := fun m => s m && !decide ((m : Int) = a)
def Fit (s : Nat → Bool) : Prop := ∀ n, 5000 ≤ n → s n = false
theorem Fit.ins {s : Nat → Bool} (h : Fit s) (a : Int) : Fit (insI s a) := by
  intro n hn
  unfold insI
  rw [h n hn]
  simp
  omega
theorem insI_out (s : Nat → Bool) (a : Int) (h : ¬ (0 ≤ a ∧ a < 5000)) : insI s a = s := by
  funext m
  unfold insI
  by_cases h1 : a < 5000
  · have : ¬ (m : Int) = a := by omega
    simp [this]
  · simp [h1]
theorem insI_in (s : Nat → Bool) (n : Nat) (h : s n = true) : insI s (n : Int) = s := by
  funext m
  unfold insI
  by_cases h1 : (m : Int) = n
  · have : m = n := by omega
    subst this
    simp [h]
  · simp [h1]
theorem insI_nat (s : Nat → Bool) (n : Nat) (h : n < 5000) : insI s (n : Int) = ins s n := by
  funext m
  unfold insI ins
  have : (n : Int) < 5000 := by omega
  by_cases hm : m = n
  · subst hm; simp [this]
  · have : ¬ (m : Int) = n := by omega
    simp [this, hm]
theorem delI_nat (s : Nat → Bool) (n : Nat) : delI s (n : Int) = del s n := by
  funext m
  unfold delI del
  by_cases hm : m = n
  · subst hm; simp
  · have : ¬ (m : Int) = n := by omega
    simp [this, hm]
theorem delI_not (s : Nat → Bool) (a : Int) (h : hasI s a = false) : delI s a = s := by
  funext m
  unfold delI
  by_cases h1 : (m : Int) = a
  · subst h1
    have : s m = false := by simpa [hasI] using h
    simp [this]
  · simp [h1]
/-- The cells of a set. -/
def row (s : Nat → Bool) : Array Value := Array.ofFn (n := 79) fun k => Value.int .u64 (wd s k : Nat)
theorem row_size (s : Nat → Bool) : (row s).size = 79 := by simp [row]
theorem row_get (s : Nat → Bool) (k : Nat) (h : k < 79) : (row s)[k]? = some (.int .u64 (wd s k : Nat)) := by simp [row, h]
theorem row_set (s t : Nat → Bool) (k : Nat) (v : Nat) (h : ∀ j, j ≠ k → wd t j = wd s j) (hv : v = wd t k) : (row s).setIfInBounds k (.int .u64 (v : Nat)) = row t := by
  rw [hv]
  apply Array.ext_getElem?
  intro i
  rw [Array.getElem?_setIfInBounds]
  by_cases hi : i < 79
  · rw [row_get t i hi, row_get s i hi, row_size]
    by_cases hk : k = i
    · subst hk; simp [hi]
    · rw [if_neg hk, h i (fun e => hk e.symm)]
  · have e1 : (row t)[i]? = none := by simp [row_size]; omega
    have e2 : (row s)[i]? = none := by simp [row_size]; omega
    rw [e1, e2, row_size]
    by_cases hk : k = i
    · subst hk; simp [hi]
    · rw [if_neg hk]
/-- Block b holds the set s. -/
structure SetAt (w : World) (b : Nat) (s : Nat → Bool) : Prop where
  heap : w.heap[b]? = some (.cells (row s) 99 (0, 0))
theorem SetAt.cell {w : World} {b : Nat} {s : Nat → Bool} (h : SetAt w b s) {k : Nat} (hk : k < 79) : w.cell? ⟨b, k, none⟩ = some (.int .u64 (wd s k : Nat)) := by
  rw [cell_of_row w b k _ _ _ h.heap, row_get s k hk]
theorem SetAt.frozen {w : World} {b : Nat} {s : Nat → Bool} (h : SetAt w b s) (k : Nat) : w.frozen? ⟨b, k, none⟩ = false := frozen_of_row w b k _ _ h.heap
theorem SetAt.lt {w : World} {b : Nat} {s : Nat → Bool} (h : SetAt w b s) : b < w.heap.size := by
  have := h.heap
  rw [Array.getElem?_eq_some_iff] at this
  exact this.1
theorem SetAt.put {w : World} {b : Nat} {s : Nat → Bool} (h : SetAt w b s) (t : Nat → Bool) (k v : Nat) (ht : ∀ j, j ≠ k → wd t j = wd s j) (hv : v = wd t k) : SetAt (w.setCell ⟨b, k, none⟩ (.int .u64 (v : Nat))) b t :=
  ⟨by rw [heap_setCell_same w b k (row s) _ _ h.heap, row_set s t k v ht hv]⟩
theorem SetAt.kept {w w' : World} {b : Nat} {s : Nat → Bool} {L : List Nat} (h : SetAt w b s) (k : Keeps L w w') (hb : b ∉ L) : SetAt w' b s :=
  ⟨by rw [k.block b h.lt hb]; exact h.heap⟩
theorem SetAt.drewN {w : World} {b : Nat} {s : Nat → Bool} (h : SetAt w b s) (n : Nat) : SetAt (w.drewN n) b s := ⟨h.heap⟩
/-- The library's table of the least bits, in its variable. -/
def TabAt (w : World) : Prop := ∀ j, j < 64 → w.cell? ⟨0, j, none⟩ = some (.int .u8 (Go.Lib.deBruijn64tab.getD j 0))
theorem TabAt.kept {w w' : World} {L : List Nat} (h : TabAt w) (k : Keeps L w w') (hn : 0 ∉ L) : TabAt w' := by
  intro j hj
  have hc := h j hj
  rw [k.cell (p := ⟨0, j, none⟩) (block_lt_of_cell hc) hn]
  exact hc
theorem TabAt.drewN {w : World} (h : TabAt w) (n : Nat) : TabAt (w.drewN n) := h
end Go.Proofs.YtmebkeidpklcbaaDoor

namespace Go.Proofs.YtmebkeidpklcbaaDoor
open Go.RowKit

set_option maxHeartbeats 400000 in
theorem tz_core (x k idx : Nat) (w : World) (hx0 : ((x : Int) == 0) = false)
    (key : IntKind.u64.wrap (bits BinOp.and IntKind.u64 (x : Int) (IntKind.u64.wrap (-(x : Int))) * 285870213051353865) / 288230376151711744 = (idx : Int))
    (hi : idx < 64) (hk : k < 64) (hcell : w.cell? ⟨0, idx, none⟩ = some (.int .u8 k)) :
    Calls Tryd.prog 61 #[.int .u64 x] w fun e w' => e = .returned (.int .i64 k) ∧ w' = w := by
  go_enter Tryd.func61, Tryd.ntmps61
  go_wp2_with (simp only [key])
  go_ret
  exact ⟨rfl, rfl⟩
theorem tz_key (x a : Nat) (hx : x < 18446744073709551616) (hx0 : x ≠ 0) (hlow : x &&& (18446744073709551616 - x) = a) :
    IntKind.u64.wrap (bits BinOp.and IntKind.u64 (x : Int) (IntKind.u64.wrap (-(x : Int))) * 285870213051353865) / 288230376151711744 = ((a * 285870213051353865 % 18446744073709551616 / 288230376151711744 : Nat) : Int) := by
  have e1 : IntKind.u64.wrap (-(x : Int)) = ((18446744073709551616 - x : Nat) : Int) := by rw [IntKind.wrap_u64]; omega
  rw [e1, u64_and_nat x _ hx (by omega), hlow, IntKind.wrap_u64]
  omega
/-- TrailingZeros64 of a number that is not 0. -/
theorem tz_any (x : Nat) (w : World) (hx : x < 18446744073709551616) (hx0 : x ≠ 0) (hT : TabAt w) :
    Calls Tryd.prog 61 #[.int .u64 (x : Int)] w fun e w' => e = .returned (.int .i64 (Go.Lib.ctz 64 x : Nat)) ∧ w' = w := by
  obtain ⟨hlow, hk⟩ := Go.Lib.lowest_bit 64 x hx0 hx
  obtain ⟨hi, htab⟩ := Go.Lib.deBruijn64_at _ hk
  have hc := hT _ hi
  rw [htab] at hc
  exact tz_core x _ _ w (by simp; omega) (tz_key x _ hx hx0 hlow) hi hk hc
end Go.Proofs.YtmebkeidpklcbaaDoor

namespace Go.Proofs.YtmebkeidpklcbaaDoor
open Go.RowKit

/-- The numbers of a slice, in a block below B. -/
def InAt (w : World) (B : Nat) (a : Option Addr) (zs : List Int) : Prop :=
  zs = [] ∨ ∃ b off, a = some ⟨b, off, none⟩ ∧ b < B ∧ ∀ i, i < zs.length → w.cell? ⟨b, off + i, none⟩ = some (.int .i64 (zs.getD i 0))
/-- The lists of a slice of slices, in blocks below B. -/
def LsAt (w : World) (B : Nat) (a : Option Addr) (xs : List (List Int)) : Prop :=
  xs = [] ∨ ∃ b off, a = some ⟨b, off, none⟩ ∧ b < B ∧ ∀ j, j < xs.length → ∃ ai ci, w.cell? ⟨b, off + j, none⟩ = some (.slice ai (xs.getD j []).length ci) ∧ InAt w B ai (xs.getD j [])
theorem InAt.ints {w : World} {B : Nat} {a : Option Addr} {zs : List Int} (h : InAt w B a zs) : IntsAt w a zs := by
  rcases h with h | ⟨b, off, h1, _, h3⟩
  · exact .inl h
  · exact .inr ⟨b, off, h1, h3⟩
theorem InAt.kept {w w' : World} {B : Nat} {a : Option Addr} {zs : List Int} {L : List Nat} (h : InAt w B a zs) (k : Keeps L w w') (hL : ∀ x, x ∈ L → B ≤ x) : InAt w' B a zs := by
  rcases h with h | ⟨b, off, rfl, hb, h⟩
  · exact Or.inl h
  · refine Or.inr ⟨b, off, rfl, hb, fun i hi => ?_⟩
    have hc := h i hi
    rw [k.cell (p := ⟨b, off + i, none⟩) (block_lt_of_cell hc) (fun hx => Nat.not_lt.2 (hL b hx) hb)]
    exact hc
theorem LsAt.kept {w w' : World} {B : Nat} {a : Option Addr} {xs : List (List Int)} {L : List Nat} (h : LsAt w B a xs) (k : Keeps L w w') (hL : ∀ x, x ∈ L → B ≤ x) : LsAt w' B a xs := by
  rcases h with h | ⟨b, off, rfl, hb, h⟩
  · exact Or.inl h
  · refine Or.inr ⟨b, off, rfl, hb, fun j hj => ?_⟩
    obtain ⟨ai, ci, hc, hi⟩ := h j hj
    refine ⟨ai, ci, ?_, hi.kept k hL⟩
    rw [k.cell (p := ⟨b, off + j, none⟩) (block_lt_of_cell hc) (fun hx => Nat.not_lt.2 (hL b hx) hb)]
    exact hc
theorem LsAt.quiet {w w' : World} {B : Nat} {a : Option Addr} {xs : List (List Int)} (h : LsAt w B a xs) (k : Keeps [] w w') : LsAt w' B a xs := h.kept k (by simp)
set_option maxHeartbeats 400000 in
theorem ghas_yes (N n : Int) (a : Option Addr) (len cap : Nat) (w : World) (h0 : 0 ≤ n) (h1 : n < N) :
    Calls Tryd.prog 55 #[.agg #[.int .i64 N, .slice a len cap], .int .i64 n] w fun e w' => e = .returned (.bool true) ∧ Keeps [] w w' := by
  go_enter Tryd.func55, Tryd.ntmps55
  go_wp2
  go_ret
  exact ⟨rfl, Keeps.alloc _ _ _⟩
set_option maxHeartbeats 400000 in
theorem ghas_no (N n : Int) (a : Option Addr) (len cap : Nat) (w : World) (h : ¬ (0 ≤ n ∧ n < N)) :
    Calls Tryd.prog 55 #[.agg #[.int .i64 N, .slice a len cap], .int .i64 n] w fun e w' => e = .returned (.bool false) ∧ Keeps [] w w' := by
  by_cases h0 : 0 ≤ n
  · have h1 : ¬ n < N := fun h1 => h ⟨h0, h1⟩
    clear h
    go_enter Tryd.func55, Tryd.ntmps55
    go_wp2
    go_ret
    exact ⟨rfl, Keeps.alloc _ _ _⟩
  · clear h
    go_enter Tryd.func55, Tryd.ntmps55
    go_wp2
    go_ret
    exact ⟨rfl, Keeps.alloc _ _ _⟩
/-- Is this a graph? -/
structure MayP (N : Int) (xs : List (List Int)) : Prop where
  low : 0 ≤ N
  high : N ≤ 600
  len : (xs.length : Int) = N
  all : ∀ j, j < xs.length → ∀ i, i < (xs.getD j []).length → 0 ≤ (xs.getD j []).getD i 0 ∧ (xs.getD j []).getD i 0 < N
/-- A new block of two cells. -/
theorem box_two (w : World) (x y : Value) (t : TypeId) : (w.alloc (Obj.cells #[x, y] t)).cell? ⟨w.heap.size, 0, none⟩ = some x ∧ (w.alloc (Obj.cells #[x, y] t)).cell? ⟨w.heap.size, 1, none⟩ = some y :=
  ⟨by rw [cell_of_row _ _ 0 _ _ _ (heap_alloc_new w _)]; rfl, by rw [cell_of_row _ _ 1 _ _ _ (heap_alloc_new w _)]; rfl⟩
/-- A graph's value in its box. -/
structure BoxAt (w : World) (b : Nat) (N : Int) (a : Option Addr) (n cap : Nat) : Prop where
  c0 : w.cell? ⟨b, 0, none⟩ = some (.int .i64 N)
  c1 : w.cell? ⟨b, 1, none⟩ = some (.slice a n cap)
theorem BoxAt.lt {w : World} {b : Nat} {N : Int} {a : Option Addr} {n cap : Nat} (h : BoxAt w b N a n cap) : b < w.heap.size := block_lt_of_cell h.c0
theorem BoxAt.kept {w w' : World} {b : Nat} {N : Int} {a : Option Addr} {n cap : Nat} {L : List Nat} (h : BoxAt w b N a n cap) (k : Keeps L w w') (hb : b ∉ L) : BoxAt w' b N a n cap :=
  ⟨by rw [k.cell (p := ⟨b, 0, none⟩) h.lt hb]; exact h.c0, by rw [k.cell (p := ⟨b, 1, none⟩) h.lt hb]; exact h.c1⟩
theorem BoxAt.new (w : World) (N : Int) (a : Option Addr) (n cap : Nat) : BoxAt (w.alloc (Obj.cells #[.int .i64 N, .slice a n cap] 34)) w.heap.size N a n cap :=
  ⟨(box_two w _ _ _).1, (box_two w _ _ _).2⟩
theorem LsAt.at {w : World} {B : Nat} {a : Option Addr} {xs : List (List Int)} (h : LsAt w B a xs) {k : Nat} (hk : k < xs.length) : ∃ b off ai ci, a = some ⟨b, off, none⟩ ∧ w.cell? ⟨b, off + k, none⟩ = some (.slice ai (xs.getD k []).length ci) ∧ InAt w B ai (xs.getD k []) := by
  rcases h with h | ⟨b, off, h1, _, h3⟩
  · rw [h] at hk; simp at hk
  · obtain ⟨ai, ci, h4, h5⟩ := h3 k hk
    exact ⟨b, off, ai, ci, h1, h4, h5⟩
theorem InAt.at {w : World} {B : Nat} {a : Option Addr} {zs : List Int} (h : InAt w B a zs) {k : Nat} (hk : k < zs.length) : ∃ b off, a = some ⟨b, off, none⟩ ∧ w.cell? ⟨b, off + k, none⟩ = some (.int .i64 (zs.getD k 0)) := by
  rcases h with h | ⟨b, off, h1, _, h3⟩
  · rw [h] at hk; simp at hk
  · exact ⟨b, off, h1, h3 k hk⟩
set_option maxHeartbeats 1000000 in
theorem may_loop (N : Int) (a : Option Addr) (n cap B : Nat) (xs : List (List Int)) (w : World) (hL : LsAt w B a xs) (hnn : xs.length = n) (h0 : 0 ≤ N) (h1 : N ≤ 600) (h2 : (n : Int) = N) (hi : ∀ j, (xs.getD j []).length ≤ 1000000) :
    Calls Tryd.prog 31 #[.agg #[.int .i64 N, .slice a n cap]] w fun e w' => (e = .returned (.bool true) ∧ MayP N xs ∨ e = .returned (.bool false) ∧ ¬ MayP N xs) ∧ Keeps [] w w' := by
  have hn : ¬ N < 0 := by omega
  have hg : ¬ 600 < N := by omega
  have hb : (((n : Nat) : Int) != N) = false := by simp [h2]
  have hl6 : n ≤ 600 := by omega
  have HN := hid hnn
  have H2 := hid h2
  have HI := hid hi
  have hk1 : Keeps [] w (w.alloc (Obj.cells #[.int .i64 N, .slice a n cap] 34)) := Keeps.alloc _ _ _
  have HB1 := hid (BoxAt.new w N a n cap)
  have HL1 := hid (hL.quiet hk1)
  clear hL hi h2 hnn
  go_enter Tryd.func31, Tryd.ntmps31
  go_wp2
  generalize w.alloc (Obj.cells #[.int .i64 N, .slice a n cap] 34) = w1 at hk1 HB1 HL1 ⊢
  generalize w.heap.size = b at HB1 ⊢
  go_loopw [26] (fun i wr => ∃ k : Nat, k ≤ n ∧ i = .int .i64 k ∧ Keeps [] w1 wr ∧ Box (∀ j, j < k → ∀ i, i < (xs.getD j []).length → 0 ≤ (xs.getD j []).getD i 0 ∧ (xs.getD j []).getD i 0 < N)) (fun i _ => n - (intOf i).toNat)
  case atStart => exact ⟨0, by omega, rfl, Keeps.refl _ _, hid (fun j hj => by omega)⟩
  case round =>
    obtain ⟨k, hk, rfl, hkw, HA⟩ := hrel
    by_cases hlt : k < n
    · obtain ⟨bl, off, ai, ci, rfl, hc, hin⟩ := (HL1.out.quiet hkw).at (k := k) (by rw [HN.out]; exact hlt)
      have HI1 := hid hin
      have hlen := HI.out k
      obtain ⟨l, hl⟩ : ∃ l, xs.getD k [] = l := ⟨_, rfl⟩
      rw [hl] at hc HI1 hlen
      have HX := hid hl
      clear hin hl
      go_wp2
      go_loopw [32] (fun i wr2 => ∃ m : Nat, m ≤ l.length ∧ i = .int .i64 m ∧ Keeps [] wr wr2 ∧ Box (∀ i, i < m → 0 ≤ l.getD i 0 ∧ l.getD i 0 < N)) (fun i _ => l.length - (intOf i).toNat)
      case atStart => exact ⟨0, by omega, rfl, Keeps.refl _ _, hid (fun j hj => by omega)⟩
      case round =>
        clear hc
        obtain ⟨m, hm, rfl, hkw2, HA2⟩ := hrel
        have hlt' : (k : Int) < (n : Int) := by omega
        by_cases hml : m < l.length
        · obtain ⟨bm, om, rfl, hcm⟩ := (HI1.out.kept hkw2 (by simp)).at hml
          have hbx := HB1.out.kept (hkw.quiet hkw2) (by simp)
          have hc0 := hbx.c0
          have hc1 := hbx.c1
          clear hbx
          obtain ⟨x, hx⟩ : ∃ x, l.getD m 0 = x := ⟨_, rfl⟩
          rw [hx] at hcm
          have HXX := hid hx
          clear hx
          by_cases hok : 0 ≤ x ∧ x < N
          · have HC : Box (∀ w, Calls Tryd.prog 55 #[.agg #[.int .i64 N, .slice (some ⟨bl, off, none⟩) n cap], .int .i64 x] w fun e w' => e = .returned (.bool true) ∧ Keeps [] w w') := hid (fun w => ghas_yes N x _ n cap w hok.1 hok.2)
            go_wp2_with (go_at_call 55; refine (HC.out _).mono ?_; rintro e w3 ⟨rfl, hk3⟩)
            go_roundw
            case rel => exact ⟨m + 1, by omega, by go_num, hkw2.quiet hk3, hid (fun i hi => by
              by_cases e : i = m
              · subst e; rw [HXX.out]; exact hok
              · exact HA2.out i (by omega))⟩
            case measure => simp [intOf]; omega
          · have HC : Box (∀ w, Calls Tryd.prog 55 #[.agg #[.int .i64 N, .slice (some ⟨bl, off, none⟩) n cap], .int .i64 x] w fun e w' => e = .returned (.bool false) ∧ Keeps [] w w') := hid (fun w => ghas_no N x _ n cap w hok)
            have HOK := hid hok
            clear hok
            go_wp2_with (go_at_call 55; refine (HC.out _).mono ?_; rintro e w3 ⟨rfl, hk3⟩)
            go_ret
            refine ⟨.inr ⟨rfl, fun hmay => HOK.out ?_⟩, ((hk1.quiet hkw).quiet hkw2).quiet hk3⟩
            have := hmay.all k (by rw [HN.out]; exact hlt) m (by rw [HX.out]; exact hml)
            rw [HX.out, HXX.out] at this
            exact this
        · obtain rfl : m = l.length := by omega
          go_wp2
          go_roundw
          case rel => exact ⟨k + 1, by omega, by go_num, hkw.quiet hkw2, hid (fun j hj => by
            by_cases e : j = k
            · subst e; rw [HX.out]; exact HA2.out
            · exact HA.out j (by omega))⟩
          case measure => simp [intOf]; omega
    · obtain rfl : k = n := by omega
      go_wp2
      go_ret
      exact ⟨.inl ⟨rfl, h0, h1, by rw [HN.out]; exact H2.out, by rw [HN.out]; exact HA.out⟩, hk1.quiet hkw⟩
end Go.Proofs.YtmebkeidpklcbaaDoor

namespace Go.Proofs.YtmebkeidpklcbaaDoor
open Go.RowKit

/-- Numbers as values. -/
def ints (l : List Nat) : List Value := l.map fun n : Nat => .int .i64 (n : Int)
theorem zero_int : Tryd.t3.zero = some (.int .i64 0) := by kernel_rfl
theorem size_int : Tryd.t3.size = 1 := by kernel_rfl
theorem bytes_int : Tryd.t3.bytes = 8 := by kernel_rfl
theorem info_int : Tryd.prog.info? 3 = some Tryd.t3 := by kernel_rfl
theorem under_ints : Tryd.prog.underlying 54 = some (.slice 3) := by kernel_rfl
end Go.Proofs.YtmebkeidpklcbaaDoor

namespace Go.Proofs.YtmebkeidpklcbaaDoor
open Go.RowKit

set_option maxHeartbeats 400000 in
theorem may_any (a : Int) (w : World) :
    Calls Tryd.prog 45 #[.int .i64 a] w fun e w' => e = .returned (.bool (decide (0 ≤ a ∧ a < 5000))) ∧ w' = w := by
  by_cases h0 : 0 ≤ a <;> by_cases h1 : a < 5000 <;> (go_enter Tryd.func45, Tryd.ntmps45; go_wp2; go_ret; exact ⟨by simp [h0, h1], rfl⟩)
theorem may_yes (n : Nat) (w : World) (h : n < 5000) :
    Calls Tryd.prog 45 #[.int .i64 (n : Int)] w fun e w' => e = .returned (.bool true) ∧ w' = w :=
  (may_any n w).mono fun e w' ⟨he, hw⟩ => ⟨by rw [he]; simp; omega, hw⟩
theorem may_no (a : Int) (w : World) (h : ¬ (0 ≤ a ∧ a < 5000)) :
    Calls Tryd.prog 45 #[.int .i64 a] w fun e w' => e = .returned (.bool false) ∧ w' = w :=
  (may_any a w).mono fun e w' ⟨he, hw⟩ => ⟨by rw [he]; simp; omega, hw⟩
set_option maxHeartbeats 400000 in
theorem place_raw (n : Nat) (w : World) (h1 : n < 5000) :
    Calls Tryd.prog 46 #[.int .i64 n] w fun e w' => e = .returned (.tuple #[.int .i64 ((n : Int) / 64), .int .u64 (IntKind.u64.wrap (2 ^ ((n : Int) % 64).toNat))]) ∧ ∃ m, w' = w.drewN m := by
  go_enter Tryd.func46, Tryd.ntmps46
  go_wp2
  go_quiet (fail)
  go_wp2
  go_ret2
  exact ⟨rfl, _, rfl⟩
theorem place_any (n : Nat) (w : World) (h1 : n < 5000) :
    Calls Tryd.prog 46 #[.int .i64 n] w fun e w' => ∃ k p : Nat, e = .returned (.tuple #[.int .i64 k, .int .u64 p]) ∧ k < 79 ∧ p < 18446744073709551616 ∧ Box (k = n / 64 ∧ p = 2 ^ (n % 64)) ∧ ∃ m, w' = w.drewN m := by
  refine (place_raw n w h1).mono fun e w' ⟨he, hw⟩ => ?_
  have hp : 2 ^ (n % 64) < 18446744073709551616 := pow_lt64 (Nat.mod_lt _ (by decide))
  refine ⟨n / 64, 2 ^ (n % 64), ?_, by omega, hp, hid ⟨rfl, rfl⟩, hw⟩
  have e1 : ((n : Int) % 64).toNat = n % 64 := by omega
  have e2 : IntKind.u64.wrap (2 ^ (n % 64)) = ((2 ^ (n % 64) : Nat) : Int) := by
    rw [IntKind.wrap_u64]
    have : ((2 ^ (n % 64) : Nat) : Int) = (2 : Int) ^ (n % 64) := by simp
    rw [← this]
    generalize 2 ^ (n % 64) = q at hp
    omega
  rw [he, e1, e2]
  rfl
set_option maxHeartbeats 400000 in
theorem has_out (b : Nat) (a : Int) (w : World) (h : ¬ (0 ≤ a ∧ a < 5000)) :
    Calls Tryd.prog 19 #[.pointer (some ⟨b, 0, none⟩), .int .i64 a] w fun e w' => e = .returned (.bool false) ∧ w' = w := by
  have H := hid h
  clear h
  go_enter Tryd.func19, Tryd.ntmps19
  go_wp2_with (go_at_call 45; refine (may_no _ _ H.out).mono ?_; rintro e w' ⟨rfl, rfl⟩)
  go_ret
  exact ⟨rfl, rfl⟩
set_option maxHeartbeats 400000 in
theorem has_core (b n k p x y : Nat) (w : World) (h : n < 5000) (hk : k < 79) (hy : bits BinOp.and IntKind.u64 (x : Int) (p : Int) = (y : Int)) (hc : w.cell? ⟨b, k, none⟩ = some (.int .u64 x))
    (hpl : ∀ w1, Calls Tryd.prog 46 #[.int .i64 n] w1 fun e w' => e = .returned (.tuple #[.int .i64 k, .int .u64 p]) ∧ ∃ m, w' = w1.drewN m) :
    Calls Tryd.prog 19 #[.pointer (some ⟨b, 0, none⟩), .int .i64 n] w fun e w' => e = .returned (.bool ((y : Int) != 0)) ∧ ∃ m, w' = w.drewN m := by
  have H := hid hpl
  clear hpl
  go_enter Tryd.func19, Tryd.ntmps19
  go_wp2_with fail
  refine (may_yes n _ h).mono ?_
  rintro e w' ⟨rfl, rfl⟩
  go_wp2_with fail
  refine (H.out _).mono ?_
  rintro e w' ⟨rfl, m, rfl⟩
  go_wp2
  go_ret
  exact ⟨rfl, _, rfl⟩
/-- Has of a set: every number. -/
theorem has_any (b : Nat) (s : Nat → Bool) (a : Int) (w : World) (hs : SetAt w b s) (hf : Fit s) :
    Calls Tryd.prog 19 #[.pointer (some ⟨b, 0, none⟩), .int .i64 a] w fun e w' => e = .returned (.bool (hasI s a)) ∧ ∃ m, w' = w.drewN m := by
  by_cases h : 0 ≤ a ∧ a < 5000
  · obtain ⟨n, rfl⟩ := Int.eq_ofNat_of_zero_le h.1
    have hn : n < 5000 := by omega
    have hp : 2 ^ (n % 64) < 18446744073709551616 := pow_lt64 (Nat.mod_lt _ (by decide))
    have hc := hs.cell (k := n / 64) (by omega)
    refine (has_core b n (n / 64) (2 ^ (n % 64)) (wd s (n / 64)) (wd s (n / 64) &&& 2 ^ (n % 64)) w hn (by omega) (u64_and_nat _ _ (wd_lt s _) hp) hc (fun w1 => ?_)).mono fun e w' ⟨he, hw⟩ => ⟨?_, hw⟩
    · refine (place_any n w1 hn).mono ?_
      rintro e w' ⟨k, p, he, _, _, hh, hw⟩
      obtain ⟨rfl, rfl⟩ := hh.out
      exact ⟨he, hw⟩
    · rw [he]
      have hb := bit_has s n
      have e2 : hasI s (n : Int) = s n := by simp [hasI]
      rw [e2]
      generalize wd s (n / 64) &&& 2 ^ (n % 64) = y at hb
      cases hsn : s n
      · rw [hsn] at hb
        have : y = 0 := by simpa using hb
        subst this; rfl
      · rw [hsn] at hb
        have : y ≠ 0 := hb.2 rfl
        simp; omega
  · refine (has_out b a w h).mono fun e w' ⟨he, hw⟩ => ⟨?_, 0, hw⟩
    rw [he]
    have : hasI s a = false := by
      unfold hasI
      by_cases h0 : 0 ≤ a
      · simp [h0, hf a.toNat (by omega)]
      · simp [h0]
    rw [this]
end Go.Proofs.YtmebkeidpklcbaaDoor

namespace Go.Proofs.YtmebkeidpklcbaaDoor
open Go.RowKit

/-- Where an end leads. -/
def tosB (x : Bl8) : List Int := if x.fin = 1 then [x.to] else if x.fin = 2 then (if x.els = x.to then [x.to] else [x.to, x.els]) else []
end Go.Proofs.YtmebkeidpklcbaaDoor

namespace Go.Proofs.YtmebkeidpklcbaaDoor
open Go.RowKit

theorem tosB_len (x : Bl8) : (tosB x).length ≤ 2 := by
  unfold tosB
  split
  · simp
  · split
    · split <;> simp
    · simp
end Go.Proofs.YtmebkeidpklcbaaDoor

namespace Go.Proofs.YtmebkeidpklcbaaDoor
open Go.ChangeShapes Go.WideShapes Go.ChangeAt Go.RowKit

theorem b64_of {n : Int} (h : (Lit.int .i64 n).wf = true) : b64 n := by
  have h1 : (decide (IntKind.i64.min ≤ n) && decide (n ≤ IntKind.i64.max)) = true := h
  have a : IntKind.i64.min = -9223372036854775808 := by decide
  have b : IntKind.i64.max = 9223372036854775807 := by decide
  rw [a, b] at h1
  simpa [b64] using h1
theorem list_of {α : Type} {Q : Nat → α → Prop} : ∀ n, (∀ j, j < n → ∃ y, Q j y) → ∃ l : List α, l.length = n ∧ ∀ j y, l[j]? = some y → Q j y
  | 0, _ => ⟨[], rfl, fun j y h => by simp at h⟩
  | n + 1, h => by
    obtain ⟨l, h1, h2⟩ := list_of n (fun j hj => h j (by omega))
    obtain ⟨y, hy⟩ := h n (by omega)
    refine ⟨l ++ [y], by simp [h1], fun j z hz => ?_⟩
    by_cases e : j < l.length
    · rw [List.getElem?_append_left e] at hz
      exact h2 j z hz
    · rw [List.getElem?_append_right (by omega)] at hz
      have e0 : j - l.length = 0 := by
        apply Classical.byContradiction
        intro hne
        rw [List.getElem?_eq_none (by simp; omega)] at hz
        cases hz
      rw [e0] at hz
      simp at hz
      rw [← hz, show j = n by omega]
      exact hy
section
variable {H : Type} {enc : TypeId × Value → H} {P : Program} {w : World} {spare : Nat → Bool} {held : Bool} {G : TypeId → DataW H → Prop}

/-- A bound goes down to the parts. -/
structure Downs (P : Program) (G : TypeId → DataW H → Prop) : Prop where
  slice : ∀ {t e : TypeId} {elems rest : List (DataW H)} {d : DataW H}, P.underlying t = some (.slice e) → G t (.slice elems rest) → d ∈ elems → G e d
  struct : ∀ {t : TypeId} {fs : Array Field} {parts : List (DataW H)} {i : Nat} {f : Field} {d : DataW H}, P.underlying t = some (.struct fs) → G t (.agg parts) → fs[i]? = some f → parts[i]? = some d → G f.type d
  ptr : ∀ {t e : TypeId} {d : DataW H}, P.underlying t = some (.pointer e) → G t (.ptr d) → G e d
/-- A row of e's cells tells R, and Q of it. -/
def Opens {α : Type} (enc : TypeId × Value → H) (P : Program) (w : World) (spare : Nat → Bool) (held : Bool) (G : TypeId → DataW H → Prop) (e : TypeId) (R : World → Nat → Nat → α → Prop) (Q : α → Prop) : Prop :=
  ∀ (fuel b o : Nat) (cs : List Value) (x : DataW H × List MemPlace), (∀ i, i < P.cellsOf e → w.cell? ⟨b, o + i, none⟩ = cs[i]?) → DataW.trod enc P w 0 spare held fuel e cs = some x → G e x.1 → ∃ y : α, R w b o y ∧ Q y
theorem opens_int {t : TypeId} (ht : P.underlying t = some (.int .i64)) (hc : P.cellsOf t = 1) : Opens enc P w spare held G t IntC (fun _ => True) := by
  intro fuel b o cs x hcell h _
  obtain ⟨n, rfl, _, hw⟩ := DataW.trod_int ht h
  refine ⟨n, ⟨?_, b64_of hw⟩, trivial⟩
  have := hcell 0 (by omega)
  rw [Nat.add_zero] at this
  rw [this]
  rfl
theorem rows_open {α : Type} {t e : TypeId} {R : World → Nat → Nat → α → Prop} {Q : α → Prop} (hG : Downs P G) (ht : P.underlying t = some (.slice e)) (hpos : 0 < P.cellsOf e) (hR : Opens enc P w spare held G e R Q) {fuel : Nat} {cs : List Value} {x : DataW H × List MemPlace} (h : DataW.trod enc P w 0 spare held fuel t cs = some x) (hg : G t x.1) :
    ∃ (a : Option Addr) (cp : Nat) (l : List α), cs = [.slice a l.length cp] ∧ RowsAt w (P.cellsOf e) R a l ∧ l.length ≤ cp ∧ l.length ≤ maxLen ∧ (a = none → cp = 0) ∧ (∀ (j : Nat) (y : α), l[j]? = some y → Q y) ∧ (l = [] ∨ ∃ elems rest, x.1 = .slice elems rest ∧ elems.length = l.length) := by
  rcases Deep.open_slice ht h with ⟨h1, _⟩ | ⟨a, len, cap, m, n, D, Pl, h1, _, h3, h4, h5, hx, h7⟩
  · exact ⟨none, 0, [], h1, .inl rfl, by simp, by simp, (fun _ => rfl), (fun j y hy => by simp at hy), .inl rfl⟩
  · have hm : len ≤ m := by rw [h5]; split <;> omega
    by_cases h0 : len = 0
    · subst h0
      exact ⟨some a, cap, [], h1, .inl rfl, by simp, by simp, (fun e => by cases e), (fun j y hy => by simp at hy), .inl rfl⟩
    · obtain ⟨b, off, spot⟩ := a
      obtain ⟨c0, g0, _⟩ := h7 0 (by omega)
      obtain ⟨_, gl, g1⟩ := World.cells?_some g0
      have g2 := g1 0 hpos
      rw [List.getElem?_eq_getElem (by omega)] at g2
      have hspot : spot = none := by simpa [Addr.add] using World.cell?_spot g2
      subst hspot
      have hx1 : x.1 = .slice ((List.range len).map D) ((List.range (m - len)).map fun j => D (len + j)) := by rw [hx]
      obtain ⟨l, hl, hq⟩ := list_of (Q := fun j y => R w b (off + j * P.cellsOf e) y ∧ Q y) len (fun j hj => by
        obtain ⟨cj, g3, g4⟩ := h7 j (by omega)
        obtain ⟨_, g5, g6⟩ := World.cells?_some g3
        refine hR n b (off + j * P.cellsOf e) cj _ (fun i hi => ?_) g4 ?_
        · have := g6 i hi
          rw [add_plain, add_plain] at this
          exact this
        · rw [hx1] at hg
          exact hG.slice ht hg (List.mem_map.2 ⟨j, List.mem_range.2 hj, rfl⟩))
      exact ⟨some ⟨b, off, none⟩, cap, l, by rw [hl]; exact h1, .inr ⟨b, off, rfl, fun j y hy => (hq j y hy).1⟩, by omega, by omega, (fun e => by cases e), (fun j y hy => (hq j y hy).2), .inr ⟨_, _, hx1, by rw [List.length_map, List.length_range, hl]⟩⟩
theorem opens_slice {α : Type} {t e : TypeId} {R : World → Nat → Nat → α → Prop} {Q : α → Prop} {c : Nat} (hG : Downs P G) (ht : P.underlying t = some (.slice e)) (hc : P.cellsOf e = c) (hpos : 0 < c) (h1 : P.cellsOf t = 1) (hR : Opens enc P w spare held G e R Q) : Opens enc P w spare held G t (SlC c R) (fun l => ∀ (j : Nat) (y : α), l[j]? = some y → Q y) := by
  subst hc
  intro fuel b o cs x hcell h hg
  obtain ⟨a, cp, l, rfl, h2, h3, h4, _, h5, _⟩ := rows_open hG ht hpos hR h hg
  refine ⟨l, ⟨a, cp, ?_, h2, h3, h4⟩, h5⟩
  have := hcell 0 (by omega)
  rw [Nat.add_zero] at this
  rw [this]
  rfl
/-- .. and not too long. -/
theorem opens_few {α : Type} {t e : TypeId} {R : World → Nat → Nat → α → Prop} {Q : α → Prop} {c N : Nat} (hG : Downs P G) (hN : ∀ elems rest, G t (.slice elems rest) → elems.length ≤ N) (ht : P.underlying t = some (.slice e)) (hc : P.cellsOf e = c) (hpos : 0 < c) (h1 : P.cellsOf t = 1) (hR : Opens enc P w spare held G e R Q) : Opens enc P w spare held G t (SlC c R) (fun l => l.length ≤ N) := by
  subst hc
  intro fuel b o cs x hcell h hg
  obtain ⟨a, cp, l, rfl, h2, h3, h4, _, _, h5⟩ := rows_open hG ht hpos hR h hg
  refine ⟨l, ⟨a, cp, ?_, h2, h3, h4⟩, ?_⟩
  · have := hcell 0 (by omega)
    rw [Nat.add_zero] at this
    rw [this]
    rfl
  · rcases h5 with e | ⟨elems, rest, e1, e2⟩
    · rw [e]; exact Nat.zero_le _
    · rw [e1] at hg
      rw [← e2]
      exact hN _ _ hg
/-- A struct's fields, each at its offset. -/
theorem fields_open (hG : Downs P G) {e : TypeId} {fs : Array Field} (hs : P.underlying e = some (.struct fs)) {fuel b o : Nat} {cs : List Value} {x : DataW H × List MemPlace} (hcell : ∀ i, i < P.cellsOf e → w.cell? ⟨b, o + i, none⟩ = cs[i]?) (h : DataW.trod enc P w 0 spare held fuel e cs = some x) (hg : G e x.1) :
    ∀ (i : Nat) (f : Field), fs[i]? = some f → f.offset + P.cellsOf f.type ≤ P.cellsOf e → ∀ {α : Type} {R : World → Nat → Nat → α → Prop} {Q : α → Prop}, Opens enc P w spare held G f.type R Q → ∃ y : α, R w b (o + f.offset) y ∧ Q y := by
  intro i f hf hle α R Q hR
  obtain ⟨xs, n, _, hxx, hl, hxl, hx⟩ := DataW.trod_struct hs h
  have hlt : i < fs.size := (Array.getElem?_eq_some_iff.1 hf).1
  have g := hx i f hf
  rw [List.getElem?_eq_getElem (by omega)] at g
  refine hR n b (o + f.offset) _ _ (fun j hj => ?_) g ?_
  · rw [Nat.add_assoc, hcell (f.offset + j) (by omega), List.getElem?_take, if_pos hj, List.getElem?_drop]
  · have hx1 : x.1 = .agg (xs.map (·.1)) := by rw [hxx]
    rw [hx1] at hg
    refine hG.struct hs hg hf ?_
    rw [List.getElem?_map, List.getElem?_eq_getElem (by omega)]
    rfl
end
end Go.Proofs.YtmebkeidpklcbaaDoor

namespace Go.Proofs.YtmebkeidpklcbaaDoor


def fun8 (p : Pr8) (f : Nat) : Fu8 := p.funcs.getD f ⟨0, [], []⟩
def blk8 (x : Fu8) (b : Nat) : Bl8 := x.blocks.getD b ⟨[], 0, 0, 0, 0⟩
def ins8 (x : Bl8) (i : Nat) : In8 := x.code.getD i ⟨0, 0, 0, 0, 0, []⟩
/-- The first n points of block b of function f; those of its first m blocks; those of the first k functions. -/
def ptB (f b n : Nat) : List (Nat × Nat × Nat) := (List.range n).map fun i => (f, b, i)
def ptF (x : Fu8) (f m : Nat) : List (Nat × Nat × Nat) := (List.range m).flatMap fun b => ptB f b ((blk8 x b).code.length + 1)
def ptP (p : Pr8) (k : Nat) : List (Nat × Nat × Nat) := (List.range k).flatMap fun f => ptF (fun8 p f) f (fun8 p f).blocks.length
def pts (p : Pr8) : List (Nat × Nat × Nat) := ptP p p.funcs.length
theorem ptB_zero (f b : Nat) : ptB f b 0 = [] := rfl
theorem ptB_succ (f b n : Nat) : ptB f b (n + 1) = ptB f b n ++ [(f, b, n)] := by
  unfold ptB
  rw [List.range_succ, List.map_append]
  rfl
theorem ptF_zero (x : Fu8) (f : Nat) : ptF x f 0 = [] := rfl
theorem ptF_succ (x : Fu8) (f m : Nat) : ptF x f (m + 1) = ptF x f m ++ ptB f m ((blk8 x m).code.length + 1) := by
  unfold ptF
  rw [List.range_succ, List.flatMap_append, List.flatMap_singleton]
theorem ptP_succ (p : Pr8) (k : Nat) : ptP p (k + 1) = ptP p k ++ ptF (fun8 p k) k (fun8 p k).blocks.length := by
  unfold ptP
  rw [List.range_succ, List.flatMap_append, List.flatMap_singleton]
theorem ptB_len (f b n : Nat) : (ptB f b n).length = n := by unfold ptB; rw [List.length_map, List.length_range]
/-- Is it a point? -/
def IsPt (p : Pr8) (f b i : Nat) : Prop := f < p.funcs.length ∧ b < (fun8 p f).blocks.length ∧ i ≤ (blk8 (fun8 p f) b).code.length
theorem ptF_split (x : Fu8) (f : Nat) : ∀ {b m : Nat}, b < m → ∃ r, ptF x f m = ptF x f b ++ (ptB f b ((blk8 x b).code.length + 1) ++ r)
  | b, 0, h => absurd h (Nat.not_lt_zero _)
  | b, m + 1, h => by
    by_cases e : b = m
    · subst e
      exact ⟨[], by rw [ptF_succ, List.append_nil]⟩
    · obtain ⟨r, hr⟩ := ptF_split x f (b := b) (m := m) (by omega)
      exact ⟨r ++ ptB f m ((blk8 x m).code.length + 1), by rw [ptF_succ, hr]; simp [List.append_assoc]⟩
end Go.Proofs.YtmebkeidpklcbaaDoor

namespace Go.Proofs.YtmebkeidpklcbaaDoor
open Go.RowKit

theorem ownsRow_keeps {w w' : World} {F : List Nat} {base : Nat} {e : TypeId} {size : Nat} {v : Value} {n : Nat} {xs : List Value} (h : w.ownsRow base e size v n xs) (k : Keeps F w w') (hF : ∀ b, v.ownBlock = some b → b ∉ F) : w'.ownsRow base e size v n xs := by
  refine ⟨h.1, ?_⟩
  rcases h.2 with hn | ⟨g, cap, cur, rfl, hb, hg, rest⟩
  · exact .inl hn
  · refine .inr ⟨g, cap, cur, rfl, hb, ?_, rest⟩
    rw [k.block g (Array.getElem?_eq_some_iff.1 hg).1 (hF g rfl)]
    exact hg
/-- Block p holds the values c 0 .. c (n - 1), of type T, and no more. -/
structure RowAt (w : World) (base p n : Nat) (T : TypeId) (c : Nat → Value) : Prop where
  row : w.ownsRow base T 1 (.slice (some ⟨p, 0, none⟩) n n) n ((List.range n).map c)
theorem RowAt.cell {w : World} {base p n : Nat} {T : TypeId} {c : Nat → Value} (h : RowAt w base p n T c) {k : Nat} (hk : k < n) : w.cell? ⟨p, k, none⟩ = some (c k) := by
  rw [h.row.cellAt k (by omega), List.getElem?_map, List.getElem?_range hk]
  rfl
theorem RowAt.frozen {w : World} {base p n : Nat} {T : TypeId} {c : Nat → Value} (h : RowAt w base p n T c) (k : Nat) : w.frozen? ⟨p, k, none⟩ = false := h.row.frozenAt k
theorem RowAt.lt {w : World} {base p n : Nat} {T : TypeId} {c : Nat → Value} (h : RowAt w base p n T c) : base ≤ p ∧ p < w.heap.size := h.row.lt p rfl
theorem RowAt.heap {w : World} {base p n : Nat} {T : TypeId} {c : Nat → Value} (h : RowAt w base p n T c) : ∃ cur, w.heap[p]? = some (.cells cur T (0, 0)) := by
  rcases h.row.2 with ⟨h', _⟩ | ⟨g', cap', cur, h', _, hg, _⟩
  · simp at h'
  · simp only [Value.slice.injEq, Option.some.injEq, Addr.mk.injEq, and_true, true_and] at h'
    obtain ⟨rfl, rfl⟩ := h'
    exact ⟨cur, hg⟩
theorem RowAt.kept {w w' : World} {base p n : Nat} {T : TypeId} {c : Nat → Value} {L : List Nat} (h : RowAt w base p n T c) (k : Keeps L w w') (hp : p ∉ L) : RowAt w' base p n T c :=
  ⟨ownsRow_keeps h.row k (fun b hb => by simp [Value.ownBlock] at hb; subst hb; exact hp)⟩
theorem RowAt.put {w : World} {base p n : Nat} {T : TypeId} {c : Nat → Value} (h : RowAt w base p n T c) (k : Nat) (v : Value) : RowAt (w.setCell ⟨p, k, none⟩ v) base p n T (fun i => if i = k then v else c i) := by
  refine ⟨?_⟩
  have h1 := (h.row.stored k v).1
  have e : ((List.range n).map c).set k v = (List.range n).map (fun i => if i = k then v else c i) := by
    apply List.ext_getElem?
    intro i
    rw [List.getElem?_set, List.getElem?_map, List.getElem?_map, List.length_map, List.length_range]
    by_cases hi : i < n
    · rw [List.getElem?_range hi]
      by_cases e : k = i
      · subst e; simp [hi]
      · have : ¬ i = k := fun h => e h.symm
        simp [e, this]
    · rw [List.getElem?_eq_none (by simp; omega)]
      by_cases e : k = i
      · subst e; simp [hi]
      · simp [e]
  rw [e] at h1
  exact h1
theorem RowAt.congr {w : World} {base p n : Nat} {T : TypeId} {c d : Nat → Value} (h : RowAt w base p n T c) (e : ∀ i, i < n → c i = d i) : RowAt w base p n T d := by
  refine ⟨?_⟩
  have : (List.range n).map c = (List.range n).map d := List.map_congr_left fun i hi => e i (List.mem_range.1 hi)
  rw [← this]
  exact h.row
theorem made_map (z : Value) (n : Nat) (hz : z.cells = #[z]) : (madeCells z.cells (n * 1)).toList = (List.range n).map fun _ => z := by
  rw [hz, Nat.mul_one]
  apply List.ext_getElem?
  intro i
  rw [List.getElem?_map]
  by_cases hi : i < n
  · rw [List.getElem?_range hi]
    simp [madeCells, hi, Nat.mod_one]
  · rw [List.getElem?_eq_none (by rw [Array.length_toList, size_madeCells]; omega), List.getElem?_eq_none (by rw [List.length_range]; omega)]
    rfl
theorem RowAt.made {w : World} {base p n : Nat} {T : TypeId} {z : Value} (h : w.ownsRow base T 1 (.slice (some ⟨p, 0, none⟩) n n) n (madeCells z.cells (n * 1)).toList) (hz : z.cells = #[z]) : RowAt w base p n T (fun _ => z) := by
  rw [made_map z n hz] at h
  exact ⟨h⟩
theorem Keeps.fresh {L : List Nat} {a b c : World} (h : Keeps [] a b) (k : Keeps L b c) (hL : ∀ x, x ∈ L → a.heap.size ≤ x) : Keeps [] a c :=
  h.trans k fun x hx hl => absurd (hL x hx) (by omega)
end Go.Proofs.YtmebkeidpklcbaaDoor

namespace Go.Proofs.YtmebkeidpklcbaaDoor
open Go.RowKit

abbrev tyV (t : Int × Int) : Value := .agg #[.int .i64 t.1, .int .i64 t.2]
end Go.Proofs.YtmebkeidpklcbaaDoor

namespace Go.Proofs.YtmebkeidpklcbaaDoor


/-- Is it one of n? -/
def inB (k : Int) (n : Nat) : Bool := decide (0 ≤ k) && decide (k < (n : Int))
theorem inB_iff {k : Int} {n : Nat} : inB k n = true ↔ 0 ≤ k ∧ k < (n : Int) := by unfold inB; simp
/-- At most m, and all good. -/
def lenB {α : Type} (l : List α) (m : Nat) (g : α → Bool) : Bool := decide (l.length ≤ m) && l.all g
theorem lenB_long {α : Type} {l : List α} {m : Nat} {g : α → Bool} (h : m < l.length) : lenB l m g = false := by
  unfold lenB
  have : ¬ l.length ≤ m := by omega
  simp [this]
theorem lenB_bad {α : Type} {l : List α} {m : Nat} {g : α → Bool} {k : Nat} {y : α} (hy : l[k]? = some y) (hg : g y = false) : lenB l m g = false := by
  unfold lenB
  have h1 : l.all g = false := by
    rw [List.all_eq_false]
    exact ⟨y, List.mem_of_getElem? hy, by simp [hg]⟩
  rw [h1, Bool.and_false]
theorem lenB_good {α : Type} {l : List α} {m : Nat} {g : α → Bool} (h : l.length ≤ m) (hg : ∀ (k : Nat) (y : α), l[k]? = some y → g y = true) : lenB l m g = true := by
  unfold lenB
  have h1 : l.all g = true := by
    rw [List.all_eq_true]
    intro y hy
    obtain ⟨k, hk⟩ := List.getElem?_of_mem hy
    exact hg k y hk
  simp [h, h1]
theorem lenB_len {α : Type} {l : List α} {m : Nat} {g : α → Bool} (h : lenB l m g = true) : l.length ≤ m := by
  unfold lenB at h
  simp at h
  exact h.1
theorem lenB_all {α : Type} {l : List α} {m : Nat} {g : α → Bool} (h : lenB l m g = true) {k : Nat} {y : α} (hy : l[k]? = some y) : g y = true := by
  unfold lenB at h
  rw [Bool.and_eq_true] at h
  exact List.all_eq_true.1 h.2 y (List.mem_of_getElem? hy)
theorem all_bad {α : Type} {l : List α} {g : α → Bool} {k : Nat} {y : α} (hy : l[k]? = some y) (hg : g y = false) : l.all g = false := by
  rw [List.all_eq_false]
  exact ⟨y, List.mem_of_getElem? hy, by simp [hg]⟩
theorem all_good {α : Type} {l : List α} {g : α → Bool} (hg : ∀ (k : Nat) (y : α), l[k]? = some y → g y = true) : l.all g = true := by
  rw [List.all_eq_true]
  intro y hy
  obtain ⟨k, hk⟩ := List.getElem?_of_mem hy
  exact hg k y hk
theorem all_at {α : Type} {l : List α} {g : α → Bool} (h : l.all g = true) {k : Nat} {y : α} (hy : l[k]? = some y) : g y = true := List.all_eq_true.1 h y (List.mem_of_getElem? hy)
/-- Limits: an instruction, a block, a function, all lists. -/
def argB (i : In8) : Bool := decide (i.args.length ≤ 4)
def blkB (b : Bl8) : Bool := lenB b.code 30 argB
def fnB (f : Fu8) : Bool := decide (f.regs.length ≤ 16) && (decide (0 < f.blocks.length) && lenB f.blocks 12 blkB)
def recB (r : List (Int × Int)) : Bool := decide (r.length ≤ 4)
def sigB (s : List (Int × Int) × Int × Int) : Bool := decide (s.1.length ≤ 4)
def ifB (f : List Int) : Bool := decide (f.length ≤ 3)
def imB (m : Int × Int × List Int) : Bool := decide (m.2.2.length ≤ 3)
def tabB (P : Pr8) : Bool := decide (0 < P.funcs.length) && (lenB P.recs 6 recB && (lenB P.sigs 10 sigB && (lenB P.ifs 4 ifB && (lenB P.ims 12 imB && lenB P.funcs 12 fnB))))
/-- Is there an OAlloc? -/
def isSite (P : Pr8) (q : Nat × Nat × Nat) : Bool := decide (q.2.2 < (blk8 (fun8 P q.1) q.2.1).code.length) && decide ((ins8 (blk8 (fun8 P q.1) q.2.1) q.2.2).op = 5)
def sitesN (P : Pr8) (l : List (Nat × Nat × Nat)) : Nat := l.countP (isSite P)
theorem sitesN_le (P : Pr8) (l : List (Nat × Nat × Nat)) : sitesN P l ≤ l.length := List.countP_le_length
theorem sitesN_snoc (P : Pr8) (l : List (Nat × Nat × Nat)) (q : Nat × Nat × Nat) : sitesN P (l ++ [q]) = sitesN P l + (if isSite P q then 1 else 0) := by
  unfold sitesN
  rw [List.countP_append, List.countP_singleton]
def bndB (P : Pr8) : Bool := tabB P && (decide ((pts P).length ≤ 600) && decide (sitesN P (pts P) ≤ 40))
/-- A type that names something. -/
def tyB (P : Pr8) (t : Int × Int) : Bool :=
  if t.1 = 0 then decide (t.2 = 0) else if t.1 = 1 then inB t.2 P.recs.length else if t.1 = 2 then inB t.2 P.sigs.length else if t.1 = 3 then inB t.2 P.ifs.length else false
def tysB (P : Pr8) (l : List (Int × Int)) : Bool := l.all (tyB P)
def insB (l : List Int) (n : Nat) : Bool := l.all fun k => inB k n
def sgnB (P : Pr8) (s : List (Int × Int) × Int × Int) : Bool := tysB P s.1 && tyB P s.2
def imnB (P : Pr8) (m : Int × Int × List Int) : Bool := inB m.1 P.recs.length && (inB m.2.1 P.ifs.length && insB m.2.2 P.funcs.length)
def tablesB (P : Pr8) : Bool := P.recs.all (tysB P) && (P.sigs.all (sgnB P) && (P.ifs.all (fun l => insB l P.sigs.length) && P.ims.all (imnB P)))
end Go.Proofs.YtmebkeidpklcbaaDoor

namespace Go.Proofs.YtmebkeidpklcbaaDoor
open Go.RowKit

/-- Not too great: what types asks of lists. -/
structure Sm10 (P : Pr8) : Prop where
  fn : P.funcs.length ≤ 12
  bk : ∀ f, f < P.funcs.length → (fun8 P f).blocks.length ≤ 12
  code : ∀ {f b}, f < P.funcs.length → b < (fun8 P f).blocks.length → (blk8 (fun8 P f) b).code.length ≤ 30
end Go.Proofs.YtmebkeidpklcbaaDoor

namespace Go.Proofs.YtmebkeidpklcbaaDoor
open Go.RowKit

/-- A register's type; of what is none no kind. -/
def regT (x : Fu8) (r : Int) : Int × Int := if inB r x.regs.length then x.regs.getD r.toNat (0, 0) else (-1, 0)
theorem regT_in {x : Fu8} {r : Int} (h : inB r x.regs.length = true) : regT x r = x.regs.getD r.toNat (0, 0) := by unfold regT; rw [h]; rfl
def sigO (P : Pr8) (n : Int) : Option (List (Int × Int) × Int × Int) := if inB n P.sigs.length then some (P.sigs.getD n.toNat ([], 0, 0)) else none
theorem sigO_in {P : Pr8} {n : Int} (h : inB n P.sigs.length = true) : sigO P n = some (P.sigs.getD n.toNat ([], 0, 0)) := by unfold sigO; rw [h]; rfl
end Go.Proofs.YtmebkeidpklcbaaDoor

namespace Go.Proofs.YtmebkeidpklcbaaDoor
open Go.RowKit

/-- What counts, by Op. -/
def cntD (o : Int) : Bool := decide ((1 ≤ o ∧ o ≤ 7) ∨ (10 ≤ o ∧ o ≤ 14))
def cntA (o : Int) : Bool := decide (o = 2 ∨ (6 ≤ o ∧ o ≤ 9) ∨ o = 11 ∨ (13 ≤ o ∧ o ≤ 15))
def cntB (o : Int) : Bool := decide (o = 2 ∨ o = 8)
def cntN (o : Int) : Bool := decide (o = 1 ∨ o = 7 ∨ o = 8 ∨ o = 10 ∨ o = 12 ∨ o = 14)
def cntR (o : Int) : Bool := decide (12 ≤ o ∧ o ≤ 14)
/-- What does not count is 0. -/
def restB (x : In8) : Bool := decide (1 ≤ x.op ∧ x.op ≤ 15) && ((cntD x.op || decide (x.dst = 0)) && ((cntA x.op || decide (x.a = 0)) && ((cntB x.op || decide (x.b = 0)) && ((cntN x.op || decide (x.n = 0)) && (cntR x.op || decide (x.args.length = 0))))))
end Go.Proofs.YtmebkeidpklcbaaDoor
