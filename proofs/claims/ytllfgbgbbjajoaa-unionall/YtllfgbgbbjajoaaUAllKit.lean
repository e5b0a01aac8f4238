/-
  What the walk of UnionAll stands on: the union beside the row of names; lists that are told.
-/
import Derived.Test.YtllfgbgbbjajoaaUOne
namespace Go.Proofs.Ytllfgbgbbjajoaa
open Go.RowKit

/-- The union and the statement's own row of names. -/
structure AM (w wr : World) (bl n N : Nat) (r q : Nat → Nat) : Prop where
  one : One w wr bl n r
  name : wr.rowIs N 3 n (fun i => .int .i64 (q i : Nat))
  lo : w.heap.size ≤ N
  ne : N ≠ bl
theorem AM.quiet {w wr w1 : World} {bl n N : Nat} {r q : Nat → Nat} (h : AM w wr bl n N r q) (hk : Keeps [] wr w1) : AM w w1 bl n N r q :=
  ⟨h.one.quiet hk, h.name.of_block (hk.block N h.name.lt (by simp)), h.lo, h.ne⟩
theorem AM.on {w wr w1 : World} {bl n N : Nat} {r r' q : Nat → Nat} (h : AM w wr bl n N r q) (hu : UAt w1 bl n r') (hk : Keeps [bl] wr w1) : AM w w1 bl n N r' q :=
  ⟨h.one.on hu hk, h.name.of_block (hk.block N h.name.lt (by simp; exact h.ne)), h.lo, h.ne⟩
theorem AM.cell {w wr : World} {bl n N : Nat} {r q : Nat → Nat} (h : AM w wr bl n N r q) {i : Nat} (hi : i < n) : wr.cell? ⟨N, i, none⟩ = some (.int .i64 (q i : Nat)) := h.name.cell hi
theorem AM.frozen {w wr : World} {bl n N : Nat} {r q : Nat → Nat} (h : AM w wr bl n N r q) (i : Nat) : wr.frozen? ⟨N, i, none⟩ = false := h.name.frozen i
theorem AM.put {w wr : World} {bl n N : Nat} {r q : Nat → Nat} (h : AM w wr bl n N r q) (i v : Nat) : AM w (wr.setCell ⟨N, i, none⟩ (.int .i64 (v : Nat))) bl n N r (upd q i v) := by
  have hk : Keeps [N] wr (wr.setCell ⟨N, i, none⟩ (.int .i64 (v : Nat))) := Keeps.setCell _ _ _ _ (by simp)
  have h1 := h.lo
  refine ⟨⟨h.one.u.kept hk (by simp; exact fun e => h.ne e.symm), h.one.keep.trans hk (fun x hx hl => by simp at hx; omega), h.one.lo⟩, (h.name.set i _).congr fun j _ => ?_, h.lo, h.ne⟩
  by_cases e : j = i
  · subst e; rw [if_pos rfl, upd_at]
  · rw [if_neg e, upd_off q i v j e]
theorem AM.congr {w wr : World} {bl n N : Nat} {r q q' : Nat → Nat} (h : AM w wr bl n N r q) (e : ∀ i, i < n → q i = q' i) : AM w wr bl n N r q' :=
  ⟨h.one, h.name.congr fun i hi => by rw [e i hi], h.lo, h.ne⟩

def mixF (r r' : Nat → Nat) (k : Nat) : Nat → Nat := fun i => if i < k then r' i else r i
theorem mix_0 (r r' : Nat → Nat) : mixF r r' 0 = r := by funext i; unfold mixF; rw [if_neg (by omega)]
theorem mix_step (r r' : Nat → Nat) (k : Nat) : upd (mixF r r' k) k (r' k) = mixF r r' (k + 1) := by
  funext i
  unfold upd mixF
  by_cases e : i = k
  · subst e; rw [if_pos rfl, if_pos (by omega)]
  · rw [if_neg e]
    by_cases h : i < k
    · rw [if_pos h, if_pos (by omega)]
    · rw [if_neg h, if_neg (by omega)]
theorem mix_same (r r' : Nat → Nat) (k : Nat) (h : r' k = r k) : mixF r r' k = mixF r r' (k + 1) := by
  funext i
  unfold mixF
  by_cases e : i < k
  · rw [if_pos e, if_pos (by omega)]
  · rw [if_neg e]
    by_cases h2 : i = k
    · subst h2; rw [if_pos (by omega), h]
    · rw [if_neg (by omega)]
theorem mix_end {n : Nat} (r r' : Nat → Nat) : ∀ i, i < n → mixF r r' n i = r' i := by
  intro i hi
  unfold mixF
  rw [if_pos hi]
theorem mix_at (r r' : Nat → Nat) (k : Nat) : mixF r r' k k = r k := by unfold mixF; rw [if_neg (by omega)]

theorem name_new (w wc : World) (bl n : Nat) (r : Nat → Nat) (h : One w wc bl n r) : AM w (wc.alloc (.cells (madeCells #[.int .i64 0] n) 3)) bl n wc.heap.size r (mixF (fun _ => 0) (fun k => k) 0) := by
  have hk : Keeps [] wc (wc.alloc (.cells (madeCells #[.int .i64 0] n) 3)) := Keeps.alloc _ _ _
  refine ⟨h.quiet hk, (World.rowIs_made wc (.int .i64 0) n 3).congr fun i _ => ?_, h.keep.size, ?_⟩
  · rw [mix_0]; rfl
  · have := h.u.lt; omega

theorem am_join {w wr : World} {bl n N : Nat} {r q : Nat → Nat} (h : AM w wr bl n N r q) (x y : Int) :
    Calls Try.prog 6 #[.pointer (some ⟨bl, 0, none⟩), .int .i64 x, .int .i64 y] wr fun e w' => e = .returned (.bool (joinB n r x y)) ∧ AM w w' bl n N (joinI n r x y) q :=
  (join_any bl n r x y wr h.one.u).mono fun _ _ ⟨he, h1, h2⟩ => ⟨he, h.on h1 h2⟩
theorem am_find {w wr : World} {bl n N : Nat} {r q : Nat → Nat} (h : AM w wr bl n N r q) (x : Int) :
    Calls Try.prog 8 #[.pointer (some ⟨bl, 0, none⟩), .int .i64 x] wr fun e w' => e = .returned (.int .i64 (findI n r x)) ∧ AM w w' bl n N r q :=
  (find_any bl n r x wr h.one.u).mono fun _ _ ⟨he, h1, h2⟩ => ⟨he, h.on h1 h2⟩
theorem am_same {w wr : World} {bl n N : Nat} {r q : Nat → Nat} (h : AM w wr bl n N r q) (x y : Int) :
    Calls Try.prog 7 #[.pointer (some ⟨bl, 0, none⟩), .int .i64 x, .int .i64 y] wr fun e w' => e = .returned (.bool (sameB n r x y)) ∧ AM w w' bl n N r q :=
  (same_any bl n r x y wr h.one.u).mono fun _ _ ⟨he, h1, h2⟩ => ⟨he, h.on h1 h2⟩
theorem joinB_out (n : Nat) (r : Nat → Nat) (p q : Int) (h : ¬ ((0 ≤ p ∧ p < n) ∧ 0 ≤ q ∧ q < n)) : joinB n r p q = false := decide_eq_false fun hh => h ⟨hh.1, hh.2.1⟩
theorem sameB_out (n : Nat) (r : Nat → Nat) (p q : Int) (h : ¬ ((0 ≤ p ∧ p < n) ∧ 0 ≤ q ∧ q < n)) : sameB n r p q = false := decide_eq_false fun hh => h ⟨hh.1, hh.2.1⟩
theorem joinB_in (n : Nat) (r : Nat → Nat) (p q : Nat) (hp : p < n) (hq : q < n) : joinB n r (p : Int) (q : Int) = (((r p : Nat) : Int) != ((r q : Nat) : Int)) := by
  unfold joinB
  by_cases h : r p = r q
  · have h2 : (((r p : Nat) : Int) != ((r q : Nat) : Int)) = false := by rw [h]; simp
    rw [h2]
    exact decide_eq_false fun hh => hh.2.2 (by simpa using h)
  · have h2 : ¬ ((r p : Nat) : Int) = ((r q : Nat) : Int) := by omega
    rw [bne_iff_ne.2 h2]
    exact decide_eq_true ⟨by omega, by omega, by simpa using h⟩
theorem sameB_joined (n : Nat) (r : Nat → Nat) (p q : Nat) (hp : p < n) (hq : q < n) : sameB n (joinI n r (p : Int) (q : Int)) (p : Int) (q : Int) = true := by
  unfold sameB
  refine decide_eq_true ⟨by omega, by omega, ?_⟩
  rw [joinI_in n r p q hp hq]
  simp only [Int.toNat_natCast]
  rw [joined_left, joined_right]


theorem owns_slice {w : World} {base : Nat} {e : TypeId} {size : Nat} {v : Value} {n : Nat} {xs : List Value} (h : w.ownsRow base e size v n xs) : ∃ a c, v = .slice a n c := by
  rcases h.2 with ⟨rfl, rfl⟩ | ⟨g, cap, cur, rfl, _⟩
  · exact ⟨_, _, rfl⟩
  · exact ⟨_, _, rfl⟩
theorem owns_lower {w : World} {base base' : Nat} {e : TypeId} {size : Nat} {v : Value} {n : Nat} {xs : List Value} (h : w.ownsRow base e size v n xs) (hb : base' ≤ base) : w.ownsRow base' e size v n xs := by
  refine ⟨h.1, ?_⟩
  rcases h.2 with hn | ⟨g, cap, cur, hv, hg, rest⟩
  · exact .inl hn
  · exact .inr ⟨g, cap, cur, hv, by omega, rest⟩

/-- Lists that are told and not turned again. -/
structure Gr (w : World) (base : Nat) (v : Value) (vs : List Value) (L : List (List Nat)) : Prop where
  outer : w.ownsRow base 26 1 v L.length vs
  inner : ∀ j, j < L.length → w.ownsRow base 3 1 (vs.getD j nilS) (L.getD j []).length (ints (L.getD j []))
theorem Gr.len {w : World} {base : Nat} {v : Value} {vs : List Value} {L : List (List Nat)} (h : Gr w base v vs L) : vs.length = L.length := by
  have := h.outer.1
  omega
theorem Gr.kept {w w' : World} {F : List Nat} {base : Nat} {v : Value} {vs : List Value} {L : List (List Nat)} (h : Gr w base v vs L) (k : Keeps F w w') (hF : ∀ x, x ∈ F → x < base) : Gr w' base v vs L := by
  refine ⟨ownsRow_keeps h.outer k ?_, fun j hj => ownsRow_keeps (h.inner j hj) k ?_⟩
  · intro b hb hx
    have h1 := (h.outer.lt b hb).1
    have h2 := hF b hx
    omega
  · intro b hb hx
    have h1 := ((h.inner j hj).lt b hb).1
    have h2 := hF b hx
    omega
theorem Gr.lists {w : World} {base : Nat} {v : Value} {vs : List Value} {L : List (List Nat)} (h : Gr w base v vs L) : ∃ a c, v = .slice a L.length c ∧ ListsAt w base a (listsI L) := by
  have hl := h.len
  rcases h.outer.2 with ⟨rfl, h0⟩ | ⟨g, cap, cur, rfl, hg, hh, hn, hm, hsz, ht⟩
  · refine ⟨_, _, by rw [h0], Or.inl ?_⟩
    rw [List.eq_nil_of_length_eq_zero h0]
    rfl
  · refine ⟨_, _, rfl, Or.inr ⟨g, 0, rfl, hg, fun j hj => ?_⟩⟩
    rw [listsI_len] at hj
    obtain ⟨aj, cj, hv, hi, hb⟩ := ownsRow_ints (h.inner j hj)
    refine ⟨aj, cj, ?_, ?_, hb⟩
    · rw [Nat.zero_add, h.outer.cellAt j (by omega), listsI_get, intsI_len, ← hv, List.getD_eq_getElem?_getD, List.getElem?_eq_getElem (by omega)]
      rfl
    · rw [listsI_get]; exact hi

structure G4 (w wr : World) (bl n N B : Nat) (r : Nat → Nat) (v : Value) (L : List (List Nat)) : Prop where
  am : AM w wr bl n N r r
  gr : ∃ vs, Gr wr B v vs L
  hb : bl < B
  hN : N < B
  hB : B ≤ wr.heap.size
theorem G4.quiet {w wr w1 : World} {bl n N B : Nat} {r : Nat → Nat} {v : Value} {L : List (List Nat)} (h : G4 w wr bl n N B r v L) (hk : Keeps [] wr w1) : G4 w w1 bl n N B r v L := by
  obtain ⟨vs, hg⟩ := h.gr
  exact ⟨h.am.quiet hk, ⟨vs, hg.kept hk (by simp)⟩, h.hb, h.hN, Nat.le_trans h.hB hk.size⟩
theorem g4_find {w wr : World} {bl n N B : Nat} {r : Nat → Nat} {v : Value} {L : List (List Nat)} (h : G4 w wr bl n N B r v L) (x : Int) :
    Calls Try.prog 8 #[.pointer (some ⟨bl, 0, none⟩), .int .i64 x] wr fun e w' => e = .returned (.int .i64 (findI n r x)) ∧ G4 w w' bl n N B r v L :=
  (find_any bl n r x wr h.am.one.u).mono fun _ _ ⟨he, h1, h2⟩ => by
    obtain ⟨vs, hg⟩ := h.gr
    exact ⟨he, h.am.on h1 h2, ⟨vs, hg.kept h2 (fun y hy => by have := h.hb; simp at hy; omega)⟩, h.hb, h.hN, Nat.le_trans h.hB h2.size⟩
theorem g4_new {w wr : World} {bl n N : Nat} {r : Nat → Nat} (h : AM w wr bl n N r r) : G4 w wr bl n N wr.heap.size r (.slice none 0 0) (half 0 n r) :=
  ⟨h, ⟨[], ⟨World.ownsRow_nil wr _ _ _, fun j hj => by simp [half, leads] at hj⟩⟩, h.one.u.lt, h.name.lt, Nat.le_refl _⟩

theorem G4.push {w wr wa w3 : World} {bl n N B B' : Nat} {r : Nat → Nat} {v v' l : Value} {vs : List Value} {L : List (List Nat)} {m : List Nat} (h : G4 w wr bl n N B r v L) (hg : Gr wr B v vs L) (ha : Keeps [] wr wa)
    (hl : wr.ownsRow B' 3 1 l m.length (ints m)) (hB : B ≤ B') (ho : w3.ownsRow B 26 1 v' (L.length + 1) (vs ++ [l])) (hgr : wa.grownBy w3 v.ownBlock) : G4 w w3 bl n N B r v' (L ++ [m]) := by
  have hk : Keeps (Option.toList v.ownBlock) wa w3 := Keeps.grown _ hgr (fun k hk => by rw [hk]; simp)
  have hlo : ∀ x, v.ownBlock = some x → B ≤ x := fun x hx => (hg.outer.lt x hx).1
  have hga := hg.kept ha (by simp)
  have hne : ∀ u c xs, wa.ownsRow B 3 1 u c xs → w3.ownsRow B 3 1 u c xs := by
    intro u c xs hu
    refine ownsRow_keeps hu hk ?_
    intro b hb hx
    simp at hx
    rcases hga.outer.2 with ⟨rfl, _⟩ | ⟨g, cap, cur, rfl, _, hh, _⟩
    · simp [Value.ownBlock] at hx
    · simp [Value.ownBlock] at hx
      subst hx
      exact Lib.ownBlock_ne hu hh (by decide) hb
  have h1 := h.hb
  have h2 := h.hN
  have h3 := h.am.lo
  have h4 := h.am.one.lo
  have hama := h.am.quiet ha
  refine ⟨⟨⟨hama.one.u.kept hk ?_, hama.one.keep.trans hk ?_, hama.one.lo⟩, hama.name.of_block (hk.block N hama.name.lt ?_), h3, h.am.ne⟩, ⟨vs ++ [l], ?_, fun j hj => ?_⟩, h1, h2, Nat.le_trans h.hB (Nat.le_trans ha.size hk.size)⟩
  · intro hx; simp at hx; have := hlo _ hx; omega
  · intro x hx hlt; simp at hx; have := hlo _ hx; omega
  · intro hx; simp at hx; have := hlo _ hx; omega
  · rw [List.length_append]; exact ho
  · rw [List.length_append] at hj
    have hvl := hg.len
    by_cases e : j < L.length
    · rw [getD_snoc_lt vs _ _ j (by omega), getD_snoc_lt L _ _ j e]
      exact hne _ _ _ (hga.inner j e)
    · obtain rfl : j = L.length := by simp at hj; omega
      rw [getD_snoc_at L, ← hvl, getD_snoc_at vs]
      exact hne _ _ _ (owns_lower (ownsRow_keeps hl ha (by simp)) hB)

theorem half_lead {i n : Nat} {r : Nat → Nat} (h : r i = i) : half (i + 1) n r = half i n r ++ [membs n r i] := by
  unfold half
  rw [leads_yes i r h, List.map_append]
  rfl
theorem half_not {i n : Nat} {r : Nat → Nat} (h : r i ≠ i) : half (i + 1) n r = half i n r := by
  unfold half
  rw [leads_no i r h]
end Go.Proofs.Ytllfgbgbbjajoaa
