/-
  A graph in memory; contracts: graph's has and May.
-/
import Derived.Test.YtlnimcpmkammfaaDoorGTy
import Derived.Test.YtlnimcpmkammfaaDoorGScc
namespace Go.Proofs.YtlnimcpmkammfaaDoor
open Go.RowKit

/-- The numbers of a slice, in a block below B. -/
def InAt (w : World) (B : Nat) (a : Option Addr) (zs : List Int) : Prop :=
  zs = [] ∨ ∃ b off, a = some ⟨b, off, none⟩ ∧ b < B ∧ ∀ i, i < zs.length → w.cell? ⟨b, off + i, none⟩ = some (.int .i64 (zs.getD i 0))
/-- The lists of a slice of slices, in blocks below B. -/
def LsAt (w : World) (B : Nat) (a : Option Addr) (xs : List (List Int)) : Prop :=
  xs = [] ∨ ∃ b off, a = some ⟨b, off, none⟩ ∧ b < B ∧ ∀ j, j < xs.length → ∃ ai ci, w.cell? ⟨b, off + j, none⟩ = some (.slice ai (xs.getD j []).length ci) ∧ InAt w B ai (xs.getD j [])

theorem InAt.ints {w : World} {B : Nat} {a : Option Addr} {zs : List Int} (h : InAt w B a zs) : IntsAt w a zs := by
  rcases h with h | ⟨b, off, h1, _, h3⟩
  · exact .inl h
  · exact .inr ⟨b, off, h1, h3⟩
theorem InAt.kept {w w' : World} {B : Nat} {a : Option Addr} {zs : List Int} {L : List Nat} (h : InAt w B a zs) (k : Keeps L w w') (hL : ∀ x, x ∈ L → B ≤ x) : InAt w' B a zs := by
  rcases h with h | ⟨b, off, rfl, hb, h⟩
  · exact Or.inl h
  · refine Or.inr ⟨b, off, rfl, hb, fun i hi => ?_⟩
    have hc := h i hi
    rw [k.cell (p := ⟨b, off + i, none⟩) (block_lt_of_cell hc) (fun hx => Nat.not_lt.2 (hL b hx) hb)]
    exact hc
theorem LsAt.kept {w w' : World} {B : Nat} {a : Option Addr} {xs : List (List Int)} {L : List Nat} (h : LsAt w B a xs) (k : Keeps L w w') (hL : ∀ x, x ∈ L → B ≤ x) : LsAt w' B a xs := by
  rcases h with h | ⟨b, off, rfl, hb, h⟩
  · exact Or.inl h
  · refine Or.inr ⟨b, off, rfl, hb, fun j hj => ?_⟩
    obtain ⟨ai, ci, hc, hi⟩ := h j hj
    refine ⟨ai, ci, ?_, hi.kept k hL⟩
    rw [k.cell (p := ⟨b, off + j, none⟩) (block_lt_of_cell hc) (fun hx => Nat.not_lt.2 (hL b hx) hb)]
    exact hc
theorem LsAt.quiet {w w' : World} {B : Nat} {a : Option Addr} {xs : List (List Int)} (h : LsAt w B a xs) (k : Keeps [] w w') : LsAt w' B a xs := h.kept k (by simp)
theorem InAt.up {w : World} {B C : Nat} {a : Option Addr} {zs : List Int} (h : InAt w B a zs) (hB : B ≤ C) : InAt w C a zs := by
  rcases h with h | ⟨b, off, h1, h2, h3⟩
  · exact .inl h
  · exact .inr ⟨b, off, h1, by omega, h3⟩
theorem LsAt.up {w : World} {B C : Nat} {a : Option Addr} {xs : List (List Int)} (h : LsAt w B a xs) (hB : B ≤ C) : LsAt w C a xs := by
  rcases h with h | ⟨b, off, h1, h2, h3⟩
  · exact .inl h
  · refine .inr ⟨b, off, h1, by omega, fun j hj => ?_⟩
    obtain ⟨ai, ci, hc, hi⟩ := h3 j hj
    exact ⟨ai, ci, hc, hi.up hB⟩

/-- A graph's value. -/
def gv (N : Int) (a : Option Addr) (len cap : Nat) : Value := .agg #[.int .i64 N, .slice a len cap]

set_option maxHeartbeats 400000 in
theorem ghas_yes (N n : Int) (a : Option Addr) (len cap : Nat) (w : World) (h0 : 0 ≤ n) (h1 : n < N) :
    Calls Tryd.prog 45 #[.agg #[.int .i64 N, .slice a len cap], .int .i64 n] w fun e w' => e = .returned (.bool true) ∧ Keeps [] w w' := by
  go_enter Tryd.func45, Tryd.ntmps45
  go_wp2
  go_ret
  exact ⟨rfl, Keeps.alloc _ _ _⟩
set_option maxHeartbeats 400000 in
theorem ghas_no (N n : Int) (a : Option Addr) (len cap : Nat) (w : World) (h : ¬ (0 ≤ n ∧ n < N)) :
    Calls Tryd.prog 45 #[.agg #[.int .i64 N, .slice a len cap], .int .i64 n] w fun e w' => e = .returned (.bool false) ∧ Keeps [] w w' := by
  by_cases h0 : 0 ≤ n
  · have h1 : ¬ n < N := fun h1 => h ⟨h0, h1⟩
    clear h
    go_enter Tryd.func45, Tryd.ntmps45
    go_wp2
    go_ret
    exact ⟨rfl, Keeps.alloc _ _ _⟩
  · clear h
    go_enter Tryd.func45, Tryd.ntmps45
    go_wp2
    go_ret
    exact ⟨rfl, Keeps.alloc _ _ _⟩
theorem ghas_any (N n : Int) (a : Option Addr) (len cap : Nat) (w : World) :
    Calls Tryd.prog 45 #[.agg #[.int .i64 N, .slice a len cap], .int .i64 n] w fun e w' => e = .returned (.bool (decide (0 ≤ n ∧ n < N))) ∧ Keeps [] w w' := by
  by_cases h : 0 ≤ n ∧ n < N
  · rw [decide_eq_true h]; exact ghas_yes N n a len cap w h.1 h.2
  · rw [decide_eq_false h]; exact ghas_no N n a len cap w h

/-- Is this a graph? -/
structure MayP (N : Int) (xs : List (List Int)) : Prop where
  low : 0 ≤ N
  high : N ≤ 600
  len : (xs.length : Int) = N
  all : ∀ j, j < xs.length → ∀ i, i < (xs.getD j []).length → 0 ≤ (xs.getD j []).getD i 0 ∧ (xs.getD j []).getD i 0 < N

/-- A new block of two cells. -/
theorem box_two (w : World) (x y : Value) (t : TypeId) : (w.alloc (Obj.cells #[x, y] t)).cell? ⟨w.heap.size, 0, none⟩ = some x ∧ (w.alloc (Obj.cells #[x, y] t)).cell? ⟨w.heap.size, 1, none⟩ = some y :=
  ⟨by rw [cell_of_row _ _ 0 _ _ _ (heap_alloc_new w _)]; rfl, by rw [cell_of_row _ _ 1 _ _ _ (heap_alloc_new w _)]; rfl⟩

/-- A graph's value in its box. -/
structure BoxAt (w : World) (b : Nat) (N : Int) (a : Option Addr) (n cap : Nat) : Prop where
  c0 : w.cell? ⟨b, 0, none⟩ = some (.int .i64 N)
  c1 : w.cell? ⟨b, 1, none⟩ = some (.slice a n cap)
theorem BoxAt.lt {w : World} {b : Nat} {N : Int} {a : Option Addr} {n cap : Nat} (h : BoxAt w b N a n cap) : b < w.heap.size := block_lt_of_cell h.c0
theorem BoxAt.kept {w w' : World} {b : Nat} {N : Int} {a : Option Addr} {n cap : Nat} {L : List Nat} (h : BoxAt w b N a n cap) (k : Keeps L w w') (hb : b ∉ L) : BoxAt w' b N a n cap :=
  ⟨by rw [k.cell (p := ⟨b, 0, none⟩) h.lt hb]; exact h.c0, by rw [k.cell (p := ⟨b, 1, none⟩) h.lt hb]; exact h.c1⟩
theorem BoxAt.new (w : World) (N : Int) (a : Option Addr) (n cap : Nat) : BoxAt (w.alloc (Obj.cells #[.int .i64 N, .slice a n cap] 27)) w.heap.size N a n cap :=
  ⟨(box_two w _ _ _).1, (box_two w _ _ _).2⟩

theorem LsAt.at {w : World} {B : Nat} {a : Option Addr} {xs : List (List Int)} (h : LsAt w B a xs) {k : Nat} (hk : k < xs.length) : ∃ b off ai ci, a = some ⟨b, off, none⟩ ∧ w.cell? ⟨b, off + k, none⟩ = some (.slice ai (xs.getD k []).length ci) ∧ InAt w B ai (xs.getD k []) := by
  rcases h with h | ⟨b, off, h1, _, h3⟩
  · rw [h] at hk; simp at hk
  · obtain ⟨ai, ci, h4, h5⟩ := h3 k hk
    exact ⟨b, off, ai, ci, h1, h4, h5⟩
theorem InAt.at {w : World} {B : Nat} {a : Option Addr} {zs : List Int} (h : InAt w B a zs) {k : Nat} (hk : k < zs.length) : ∃ b off, a = some ⟨b, off, none⟩ ∧ w.cell? ⟨b, off + k, none⟩ = some (.int .i64 (zs.getD k 0)) := by
  rcases h with h | ⟨b, off, h1, _, h3⟩
  · rw [h] at hk; simp at hk
  · exact ⟨b, off, h1, h3 k hk⟩

set_option maxHeartbeats 1000000 in
theorem may_loop (N : Int) (a : Option Addr) (n cap B : Nat) (xs : List (List Int)) (w : World) (hL : LsAt w B a xs) (hnn : xs.length = n) (h0 : 0 ≤ N) (h1 : N ≤ 600) (h2 : (n : Int) = N) (hi : ∀ j, (xs.getD j []).length ≤ 1000000) :
    Calls Tryd.prog 36 #[.agg #[.int .i64 N, .slice a n cap]] w fun e w' => (e = .returned (.bool true) ∧ MayP N xs ∨ e = .returned (.bool false) ∧ ¬ MayP N xs) ∧ Keeps [] w w' := by
  have hn : ¬ N < 0 := by omega
  have hg : ¬ 600 < N := by omega
  have hb : (((n : Nat) : Int) != N) = false := by simp [h2]
  have hl6 : n ≤ 600 := by omega
  have HN := hid hnn
  have H2 := hid h2
  have HI := hid hi
  have hk1 : Keeps [] w (w.alloc (Obj.cells #[.int .i64 N, .slice a n cap] 27)) := Keeps.alloc _ _ _
  have HB1 := hid (BoxAt.new w N a n cap)
  have HL1 := hid (hL.quiet hk1)
  clear hL hi h2 hnn
  go_enter Tryd.func36, Tryd.ntmps36
  go_wp2
  generalize w.alloc (Obj.cells #[.int .i64 N, .slice a n cap] 27) = w1 at hk1 HB1 HL1 ⊢
  generalize w.heap.size = b at HB1 ⊢
  go_loopw [26] (fun i wr => ∃ k : Nat, k ≤ n ∧ i = .int .i64 k ∧ Keeps [] w1 wr ∧ Box (∀ j, j < k → ∀ i, i < (xs.getD j []).length → 0 ≤ (xs.getD j []).getD i 0 ∧ (xs.getD j []).getD i 0 < N)) (fun i _ => n - (intOf i).toNat)
  case atStart => exact ⟨0, by omega, rfl, Keeps.refl _ _, hid (fun j hj => by omega)⟩
  case round =>
    obtain ⟨k, hk, rfl, hkw, HA⟩ := hrel
    by_cases hlt : k < n
    · obtain ⟨bl, off, ai, ci, rfl, hc, hin⟩ := (HL1.out.quiet hkw).at (k := k) (by rw [HN.out]; exact hlt)
      have HI1 := hid hin
      have hlen := HI.out k
      obtain ⟨l, hl⟩ : ∃ l, xs.getD k [] = l := ⟨_, rfl⟩
      rw [hl] at hc HI1 hlen
      have HX := hid hl
      clear hin hl
      go_wp2
      go_loopw [32] (fun i wr2 => ∃ m : Nat, m ≤ l.length ∧ i = .int .i64 m ∧ Keeps [] wr wr2 ∧ Box (∀ i, i < m → 0 ≤ l.getD i 0 ∧ l.getD i 0 < N)) (fun i _ => l.length - (intOf i).toNat)
      case atStart => exact ⟨0, by omega, rfl, Keeps.refl _ _, hid (fun j hj => by omega)⟩
      case round =>
        clear hc
        obtain ⟨m, hm, rfl, hkw2, HA2⟩ := hrel
        have hlt' : (k : Int) < (n : Int) := by omega
        by_cases hml : m < l.length
        · obtain ⟨bm, om, rfl, hcm⟩ := (HI1.out.kept hkw2 (by simp)).at hml
          have hbx := HB1.out.kept (hkw.quiet hkw2) (by simp)
          have hc0 := hbx.c0
          have hc1 := hbx.c1
          clear hbx
          obtain ⟨x, hx⟩ : ∃ x, l.getD m 0 = x := ⟨_, rfl⟩
          rw [hx] at hcm
          have HXX := hid hx
          clear hx
          by_cases hok : 0 ≤ x ∧ x < N
          · have HC : Box (∀ w, Calls Tryd.prog 45 #[.agg #[.int .i64 N, .slice (some ⟨bl, off, none⟩) n cap], .int .i64 x] w fun e w' => e = .returned (.bool true) ∧ Keeps [] w w') := hid (fun w => ghas_yes N x _ n cap w hok.1 hok.2)
            go_wp2_with (go_at_call 45; refine (HC.out _).mono ?_; rintro e w3 ⟨rfl, hk3⟩)
            go_roundw
            case rel => exact ⟨m + 1, by omega, by go_num, hkw2.quiet hk3, hid (fun i hi => by
              by_cases e : i = m
              · subst e; rw [HXX.out]; exact hok
              · exact HA2.out i (by omega))⟩
            case measure => simp [intOf]; omega
          · have HC : Box (∀ w, Calls Tryd.prog 45 #[.agg #[.int .i64 N, .slice (some ⟨bl, off, none⟩) n cap], .int .i64 x] w fun e w' => e = .returned (.bool false) ∧ Keeps [] w w') := hid (fun w => ghas_no N x _ n cap w hok)
            have HOK := hid hok
            clear hok
            go_wp2_with (go_at_call 45; refine (HC.out _).mono ?_; rintro e w3 ⟨rfl, hk3⟩)
            go_ret
            refine ⟨.inr ⟨rfl, fun hmay => HOK.out ?_⟩, ((hk1.quiet hkw).quiet hkw2).quiet hk3⟩
            have := hmay.all k (by rw [HN.out]; exact hlt) m (by rw [HX.out]; exact hml)
            rw [HX.out, HXX.out] at this
            exact this
        · obtain rfl : m = l.length := by omega
          go_wp2
          go_roundw
          case rel => exact ⟨k + 1, by omega, by go_num, hkw.quiet hkw2, hid (fun j hj => by
            by_cases e : j = k
            · subst e; rw [HX.out]; exact HA2.out
            · exact HA.out j (by omega))⟩
          case measure => simp [intOf]; omega
    · obtain rfl : k = n := by omega
      go_wp2
      go_ret
      exact ⟨.inl ⟨rfl, h0, h1, by rw [HN.out]; exact H2.out, by rw [HN.out]; exact HA.out⟩, hk1.quiet hkw⟩

end Go.Proofs.YtlnimcpmkammfaaDoor
