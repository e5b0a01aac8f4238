/-
  A slice of numbers at any place of its row, with the room behind it; one number is appended.
  Contract: the statements' own EqAll, over a graph's lists.
  A region that draws its order, by what holds whatever has come up: calls, variables that are made, stores into them.
  A region that draws its order, whose operations only read or make new memory: what each gives is named ahead, whatever the order.
-/
import Derived.Test.YtmebkeidpklcbaaDoorRows
import Derived.WalkKit
import Derived.WalkSpells
import Derived.WalkLawsBesides
import Derived.OwnWalk
import Derived.Deep.QuietTactic
import Derived.BigQuiet
import Derived.Lib.TrailingZeros
import Derived.Maps.AppendAt
import Derived.Lib.Builder
import Derived.Deep.OwnRows
import Derived.ArgAppend
import Derived.Laws.IdiomCopy
import Derived.Laws.BitsAllLaws
import Derived.RegionTactic
import Derived.ChangeAlike
import Derived.Laws.Bits64b
import Derived.Laws.Bits128
import Derived.Laws.Tables
import Derived.Sort.OwnSortedInts
import Derived.Deep.RegionLaw
import Derived.Deep.RegionLawGrows
import Derived.Deep.DeepCutAuto
import Derived.Deep.AppendLies
import Derived.Deep.RegionHeld
import Derived.Test.YtmebkeidpklcbaaDoorZ03
import Derived.Test.YtmebkeidpklcbaaDoorZ04

namespace Go.Proofs.YtmebkeidpklcbaaDoor
open Go.RowKit

def nums (l : List Int) : List Value := l.map (Value.int .i64)
theorem nums_len (l : List Int) : (nums l).length = l.length := by unfold nums; rw [List.length_map]
theorem nums_get (l : List Int) (i : Nat) (h : i < l.length) : (nums l)[i]? = some (.int .i64 (l.getD i 0)) := by
  unfold nums
  simp [List.getD, List.getElem?_eq_getElem h]
/-- A slice's numbers, from place off of block g on, and the room behind them. -/
structure LineAt (w : World) (g off cap : Nat) (l : List Int) : Prop where
  cell : ∀ i, i < l.length → w.cell? ⟨g, off + i, none⟩ = some (.int .i64 (l.getD i 0))
  room : ∀ k, k < cap → (w.cell? ⟨g, off + k, none⟩).isSome = true ∧ w.frozen? ⟨g, off + k, none⟩ = false
  len : l.length ≤ cap
  max : cap ≤ 9223372036854775807
  lt : g < w.heap.size
theorem Keeps.frozen {L : List Nat} {w w' : World} (h : Keeps L w w') {p : Addr} (hp : p.block < w.heap.size) (hn : p.block ∉ L) : w'.frozen? p = w.frozen? p :=
  World.frozen?_of_block (w := w) (h.block p.block hp hn)
theorem LineAt.kept {w w' : World} {g off cap : Nat} {l : List Int} {L : List Nat} (h : LineAt w g off cap l) (k : Keeps L w w') (hn : g ∉ L) : LineAt w' g off cap l :=
  ⟨fun i hi => by rw [k.cell (p := ⟨g, off + i, none⟩) h.lt hn]; exact h.cell i hi,
   fun i hi => by rw [k.cell (p := ⟨g, off + i, none⟩) h.lt hn, k.frozen (p := ⟨g, off + i, none⟩) h.lt hn]; exact h.room i hi,
   h.len, h.max, Nat.lt_of_lt_of_le h.lt k.size⟩
theorem LineAt.of_owns {w : World} {base : Nat} {v : Value} {n : Nat} {l : List Int} (h : w.ownsRow base 3 1 v n (nums l)) (hv : v ≠ .slice none 0 0) :
    ∃ g cap, v = .slice (some ⟨g, 0, none⟩) n cap ∧ base ≤ g ∧ l.length = n ∧ LineAt w g 0 cap l := by
  have hl : l.length = n := by have := h.1; rw [nums_len] at this; omega
  rcases h.2 with ⟨e, _⟩ | ⟨g, cap, cur, rfl, hb, hg, hnc, hcm, hcs, ht⟩
  · exact absurd e hv
  · refine ⟨g, cap, rfl, hb, hl, ⟨fun i hi => ?_, fun k hk => ?_, by omega, by unfold maxLen at hcm; omega, (Array.getElem?_eq_some_iff.1 hg).1⟩⟩
    · rw [Nat.zero_add, h.cellAt i (by omega), nums_get l i hi]
    · refine ⟨?_, frozen_of_row w g _ _ _ hg⟩
      rw [cell_of_row w g _ _ _ _ hg, Nat.zero_add, Array.getElem?_eq_getElem (by omega)]
      rfl
theorem cell_setCells (w : World) (b o k : Nat) (vs : List Value) (ht : ∀ j, j < vs.length → (w.cell? ⟨b, o + j, none⟩).isSome = true) :
    (w.setCells b o vs).cell? ⟨b, k, none⟩ = if o ≤ k ∧ k < o + vs.length then vs[k - o]? else w.cell? ⟨b, k, none⟩ := by
  by_cases h : o ≤ k ∧ k < o + vs.length
  · rw [if_pos h]
    have := World.cell?_setCells_in b vs o w ht (k - o) (by omega)
    rw [show o + (k - o) = k by omega] at this
    rw [this, List.getElem?_eq_getElem]
  · rw [if_neg h]
    exact World.cell?_setCells_out b vs o w _ (fun _ _ => by show k < o ∨ o + vs.length ≤ k; omega)
theorem Keeps.setCells (g : Nat) : ∀ (vs : List Value) (o : Nat) (w : World), Keeps [g] w (w.setCells g o vs)
  | [], _, w => Keeps.refl _ _
  | v :: r, o, w => by
    rw [World.setCells]
    exact (Keeps.setCell [g] w ⟨g, o, none⟩ v (by simp)).step (Keeps.setCells g r (o + 1) _)
theorem some_setCells (w : World) (b o k : Nat) (vs : List Value) (ht : ∀ j, j < vs.length → (w.cell? ⟨b, o + j, none⟩).isSome = true) (hk : (w.cell? ⟨b, k, none⟩).isSome = true) : ((w.setCells b o vs).cell? ⟨b, k, none⟩).isSome = true := by
  rw [cell_setCells w b o k vs ht]
  by_cases h : o ≤ k ∧ k < o + vs.length
  · rw [if_pos h, List.getElem?_eq_getElem (by omega)]; rfl
  · rw [if_neg h]; exact hk
/-- Cells of the row are written: what the row then holds. -/
theorem LineAt.set {w : World} {g off cap : Nat} {l : List Int} (h : LineAt w g off cap l) (o : Nat) (vs : List Value) (l' : List Int) (ho : o + vs.length ≤ cap) (hl : l'.length ≤ cap)
    (hc : ∀ i, i < l'.length → (if o ≤ i ∧ i < o + vs.length then vs[i - o]? else w.cell? ⟨g, off + i, none⟩) = some (.int .i64 (l'.getD i 0))) : LineAt (w.setCells g (off + o) vs) g off cap l' := by
  have ht : ∀ j, j < vs.length → (w.cell? ⟨g, off + o + j, none⟩).isSome = true := fun j hj => by rw [Nat.add_assoc]; exact (h.room (o + j) (by omega)).1
  refine ⟨fun i hi => ?_, fun k hk => ⟨some_setCells w g _ _ vs ht (h.room k hk).1, by rw [World.frozen?_setCells]; exact (h.room k hk).2⟩, hl, h.max, Nat.lt_of_lt_of_le h.lt (Keeps.setCells g vs _ w).size⟩
  rw [cell_setCells w g (off + o) (off + i) vs ht, ← hc i hi]
  by_cases c : o ≤ i ∧ i < o + vs.length
  · rw [if_pos c, if_pos (by omega), show off + i - (off + o) = i - o by omega]
  · rw [if_neg c, if_neg (by omega)]
theorem info3_int : (Tryd.prog.info? 3).map (fun i => (i.zero, i.size, i.bytes)) = some (some (.int .i64 0), 1, 8) := by kernel_rfl
theorem getD_snoc (l : List Int) (x : Int) (i : Nat) (h : i < l.length + 1) : (l ++ [x]).getD i 0 = if i < l.length then l.getD i 0 else x := by
  rw [List.getD_eq_getElem?_getD, List.getD_eq_getElem?_getD]
  by_cases c : i < l.length
  · rw [if_pos c, List.getElem?_append_left c]
  · obtain rfl : i = l.length := by omega
    rw [if_neg c]; simp
/-- One number is appended to the line: where there is room, and where there is none. -/
theorem run_append_line (w : World) (ty : TypeId) (l : List Int) (x : Int) (lv : Value)
    (hv : (lv = .slice none 0 0 ∧ l = []) ∨ ∃ g off cap, lv = .slice (some ⟨g, off, none⟩) l.length cap ∧ LineAt w g off cap l) (ad : Addr) (c : Nat)
    (hnew : ∀ j u, [Value.int .i64 x][j]? = some u → w.cell? (ad.add j) = some u) (hb : l.length < 1000000) :
    ∃ g' off' cap' w', (Builtin.append_ #[54, 54] ty #[lv, .slice (some ad) 1 c]).run Tryd.prog w = .ok (.slice (some ⟨g', off', none⟩) (l.length + 1) cap') w' ∧
      LineAt w' g' off' cap' (l ++ [x]) ∧ Keeps lv.ownBlock.toList w w' ∧ (lv.ownBlock = some g' ∨ g' = w.heap.size) := by
  obtain ⟨i0, hi, hz0, hz1, hz2⟩ := info_parts info3_int
  have h1 : ∀ u ∈ [Value.int .i64 x], u.oneCell' = true := by intro u hu; simp at hu; subst hu; rfl
  have fresh : ∀ (v' : Value) (w' : World), w'.ownsRow w.heap.size 3 1 v' (l.length + 1) (nums l ++ [Value.int .i64 x]) → w.grownBy w' none → w'.heap.size = w.heap.size + 1 →
      ∃ g' off' cap', v' = .slice (some ⟨g', off', none⟩) (l.length + 1) cap' ∧ LineAt w' g' off' cap' (l ++ [x]) ∧ Keeps lv.ownBlock.toList w w' ∧ (lv.ownBlock = some g' ∨ g' = w.heap.size) := by
    intro v' w' ho hg hsz
    have e : nums l ++ [Value.int .i64 x] = nums (l ++ [x]) := by unfold nums; rw [List.map_append]; rfl
    rw [e] at ho
    obtain ⟨g', cap', rfl, hbg, hl, hline⟩ := LineAt.of_owns ho (by
      intro ev
      rcases ho.2 with ⟨_, h0⟩ | ⟨_, _, _, h', _⟩
      · omega
      · rw [ev] at h'; simp at h')
    have := hline.lt
    exact ⟨g', 0, cap', rfl, hline, Keeps.grown _ hg (fun k hk => by cases hk), Or.inr (by omega)⟩
  rcases hv with ⟨rfl, rfl⟩ | ⟨g, off, cap, rfl, hline⟩
  · have hr := run_append_nil (P := Tryd.prog) w 54 ty 3 i0 (.int .i64 0) Tryd.underlying54 hi hz0 ad 1 c [Value.int .i64 x] (by rw [hz1]; rfl) hnew (by omega) (by omega) (by rw [hz2]; omega)
    have hge := grownCap_ge w 1 0 3
    have hle := grownCap_le_maxLen w 1 0 3 (by unfold maxLen; omega)
    have ho : (w.drew.alloc (.cells ([Value.int .i64 x].toArray ++ Builtin.zeroCells (Value.int .i64 0).cells (grownCap w 1 0 3 - 1)) 3)).ownsRow w.heap.size 3 1 (.slice (some ⟨w.heap.size, 0, none⟩) 1 (grownCap w 1 0 3)) 1 (nums [] ++ [Value.int .i64 x]) := by
      refine ⟨rfl, .inr ⟨_, _, _, rfl, Nat.le_refl _, heap_alloc_new w.drew _, hge, hle, ?_, ?_⟩⟩
      · simp only [Array.size_append, List.size_toArray, size_zeroCells]
        show 1 + (grownCap w 1 0 3 - 1) * 1 = _
        omega
      · simp [nums]
    obtain ⟨g', off', cap', e, r⟩ := fresh _ _ ho ⟨rfl, rfl, rfl, by simp, fun k hk _ => heap_alloc_old w.drew _ hk⟩ (by simp)
    exact ⟨g', off', cap', _, by rw [hr, ← e], r⟩
  · by_cases hroom : l.length + 1 ≤ cap
    · have hr := run_append_room_cells (P := Tryd.prog) w 54 ty 3 i0 Tryd.underlying54 hi g off l.length cap ad 1 c [Value.int .i64 x] (by rw [hz1]; rfl) hnew h1 hroom
        (fun j hj => by rw [hz1, Nat.mul_one, Nat.add_assoc]; simp at hj; exact (hline.room _ (by omega)).1) (fun j hj => by rw [hz1, Nat.mul_one, Nat.add_assoc]; simp at hj; exact (hline.room _ (by omega)).2)
      rw [hz1, Nat.mul_one] at hr
      refine ⟨g, off, cap, _, hr, hline.set l.length _ (l ++ [x]) (by simpa using hroom) (by simpa using hroom) (fun i hi => ?_), Keeps.setCells g _ _ w, Or.inl rfl⟩
      rw [List.length_append] at hi
      simp at hi
      rw [getD_snoc l x i hi]
      by_cases ci : i < l.length
      · rw [if_pos ci, if_neg (by omega)]; exact hline.cell i ci
      · obtain rfl : i = l.length := by omega
        rw [if_neg ci, if_pos (by simp)]; simp
    · have hr0 : ∃ v' w', (Builtin.append_ #[54, 54] ty #[.slice (some ⟨g, off, none⟩) l.length cap, .slice (some ad) 1 c]).run Tryd.prog w = .ok v' w' ∧ w'.ownsRow w.heap.size 3 1 v' (l.length + 1) (nums l ++ [Value.int .i64 x]) ∧ w.grownBy w' none ∧ w'.heap.size = w.heap.size + 1 := by
        have hlo : (nums l).length = l.length * i0.size := by rw [nums_len, hz1]; omega
        have hol : ∀ j u, (nums l)[j]? = some u → w.cell? ((⟨g, off, none⟩ : Addr).add j) = some u := by
          intro j u hu
          have hj : j < l.length := by
            have := (List.getElem?_eq_some_iff.1 hu).1
            rwa [nums_len] at this
          rw [nums_get l j hj] at hu
          rw [Addr.add_lit, hline.cell j hj]
          exact hu
        have hr := run_append_grow (P := Tryd.prog) w 54 ty 3 i0 (.int .i64 0) Tryd.underlying54 hi hz0 ⟨g, off, none⟩ l.length cap (nums l) hlo hol ad 1 c [Value.int .i64 x] (by rw [hz1]; rfl) hnew (by omega) (by omega) (growslice_fits (by omega) (by rw [hz2]; omega))
        refine ⟨_, _, hr, ?_, ⟨rfl, rfl, rfl, by simp, fun k hk _ => heap_alloc_old w.drew _ hk⟩, by simp⟩
        have hge := grownCap_ge w (l.length + 1) cap 3
        have hle := grownCap_le_maxLen w (l.length + 1) cap 3 (by unfold maxLen; omega)
        have hll : (nums l ++ [Value.int .i64 x]).length = l.length + 1 := by rw [List.length_append, nums_len]; rfl
        refine ⟨by rw [hll]; omega, .inr ⟨_, _, _, rfl, Nat.le_refl _, heap_alloc_new w.drew _, hge, hle, ?_, ?_⟩⟩
        · simp only [Array.size_append, List.size_toArray, size_zeroCells, nums_len]
          show l.length + 1 + (grownCap w (l.length + 1) cap 3 - (l.length + 1)) * 1 = _
          omega
        · simp only [Array.toList_append, List.append_assoc, Nat.mul_one]
          rw [← List.append_assoc]
          exact List.take_left' hll
      obtain ⟨v', w', hr, ho, hg, hsz⟩ := hr0
      obtain ⟨g', off', cap', rfl, r⟩ := fresh v' w' ho hg hsz
      exact ⟨g', off', cap', w', hr, r⟩
/-- The same at the operation. -/
theorem wpList_append_line {ops : Array Oper} {rest : List Oper} {o : Oper} {a : Act} {Q : Exit → Act → World → Prop} (w : World) (hgd : o.guard = none) (s x' : Operand)
    (ho : o.op = .call { callee := .builtin .append, args := #[s, x'], argTypes := #[54, 54] })
    (l : List Int) (x : Int) (lv : Value) (hs : a.eval s = lv) (hv : (lv = .slice none 0 0 ∧ l = []) ∨ ∃ g off cap, lv = .slice (some ⟨g, off, none⟩) l.length cap ∧ LineAt w g off cap l)
    (ad : Addr) (c : Nat) (hx : a.eval x' = .slice (some ad) 1 c) (hnew : ∀ j u, [Value.int .i64 x][j]? = some u → w.cell? (ad.add j) = some u) (hb : l.length < 1000000)
    (h : ∀ g' off' cap' w', LineAt w' g' off' cap' (l ++ [x]) → Keeps lv.ownBlock.toList w w' → (lv.ownBlock = some g' ∨ g' = w.heap.size) → wpList Tryd.prog ops Q rest (a.put o.dst (.slice (some ⟨g', off', none⟩) (l.length + 1) cap')) w') :
    wpList Tryd.prog ops Q (o :: rest) a w := by
  refine wpList_plain hgd fun K hK => ?_
  obtain ⟨g', off', cap', w', hr, h2, h3, h4⟩ := run_append_line w o.type l x lv hv ad c hnew hb
  unfold Oper.wp execOp
  simp only [ho, resolve, invoke, builtin, Sem.run_bind, Sem.run_pure, Result.andThen_ok, List.map_toArray, List.map_cons, List.map_nil, hs, hx, hr]
  exact hK _ _ (h g' off' cap' w' h2 h3 h4)
end Go.Proofs.YtmebkeidpklcbaaDoor

namespace Go.Proofs.YtmebkeidpklcbaaDoor
open Go.RowKit

set_option maxHeartbeats 400000 in
theorem eqall_diff (v1 v2 : Option Addr) (n1 n2 c1 c2 : Nat) (w : World) (h : n1 ≠ n2) :
    Calls Tryd.prog 11 #[.slice v1 n1 c1, .slice v2 n2 c2] w fun e w' => e = .returned (.bool false) ∧ w' = w := by
  have hb : ((n1 : Int) != (n2 : Int)) = true := by rw [bne_iff_ne]; omega
  have H := hid h
  clear h
  go_enter Tryd.func11, Tryd.ntmps11
  go_wp2
  go_ret
  exact ⟨rfl, rfl⟩
set_option maxHeartbeats 400000 in
theorem eqall_empty (v1 v2 : Option Addr) (c1 c2 : Nat) (w : World) :
    Calls Tryd.prog 11 #[.slice v1 0 c1, .slice v2 0 c2] w fun e w' => e = .returned (.bool true) ∧ w' = w := by
  go_enter Tryd.func11, Tryd.ntmps11
  go_wp2
  go_loop [5] (fun i => i = .int .i64 0) (fun _ => 0)
  case atStart => rfl
  case round =>
    subst hrel
    go_wp2
    go_ret
    exact ⟨rfl, rfl⟩
theorem take_same' {α : Type} {xs ys : List (List α)} {k : Nat} (h1 : k < xs.length) (h2 : k < ys.length) (h : xs.take k = ys.take k) (he : xs.getD k [] = ys.getD k []) : xs.take (k + 1) = ys.take (k + 1) := by
  rw [List.take_succ_eq_append_getElem h1, List.take_succ_eq_append_getElem h2, h]
  simp [List.getD, List.getElem?_eq_getElem h1, List.getElem?_eq_getElem h2] at he
  rw [he]
set_option maxHeartbeats 1000000 in
theorem eqall_raw (b1 o1 b2 o2 n c1 c2 : Nat) (xs ys : List (List Int)) (w : World) (hx : xs.length = n) (hy : ys.length = n) (hn : n ≤ 1000000)
    (g1 : ∀ j, j < n → ∃ aj cj, w.cell? ⟨b1, o1 + j, none⟩ = some (.slice aj (xs.getD j []).length cj) ∧ IntsAt w aj (xs.getD j []))
    (g2 : ∀ j, j < n → ∃ aj cj, w.cell? ⟨b2, o2 + j, none⟩ = some (.slice aj (ys.getD j []).length cj) ∧ IntsAt w aj (ys.getD j []) ∧ (ys.getD j []).length ≤ 1000000) :
    Calls Tryd.prog 11 #[.slice (some ⟨b1, o1, none⟩) n c1, .slice (some ⟨b2, o2, none⟩) n c2] w fun e w' => e = .returned (.bool (decide (xs = ys))) ∧ ∃ m, w' = w.drewN m := by
  have HX := hid hx
  have HY := hid hy
  have G1 := hid g1
  have G2 := hid g2
  clear hx hy g1 g2
  have hb : ((n : Int) != (n : Int)) = false := by simp
  go_enter Tryd.func11, Tryd.ntmps11
  go_wp2
  go_loopw [5] (fun i wr => ∃ k m : Nat, k ≤ n ∧ i = .int .i64 k ∧ wr = w.drewN m ∧ Box (xs.take k = ys.take k)) (fun i _ => n - (intOf i).toNat)
  case atStart => exact ⟨0, 0, by omega, rfl, rfl, hid rfl⟩
  case round =>
    obtain ⟨k, m, hk, rfl, hwr, ht⟩ := hrel
    have HW := hid hwr
    by_cases hlt : k < n
    · obtain ⟨a1, d1, e1, i1⟩ := G1.out k hlt
      obtain ⟨a2, d2, e2, i2, l2⟩ := G2.out k hlt
      have hlt' : (k : Int) < (n : Int) := by omega
      have e1' : wr.cell? ⟨b1, o1 + k, none⟩ = some (.slice a1 (xs.getD k []).length d1) := by rw [hwr]; exact e1
      have e2' : wr.cell? ⟨b2, o2 + k, none⟩ = some (.slice a2 (ys.getD k []).length d2) := by rw [hwr]; exact e2
      have j1 : IntsAt wr a1 (xs.getD k []) := by rw [hwr]; exact i1.kept (Keeps.drewN [] w m) (fun _ _ _ => by simp)
      have j2 : IntsAt wr a2 (ys.getD k []) := by rw [hwr]; exact i2.kept (Keeps.drewN [] w m) (fun _ _ _ => by simp)
      have HE := hid fun (w1 : World) (h1 : Keeps [] wr w1) => eq_any a1 a2 d1 d2 (xs.getD k []) (ys.getD k []) w1 (j1.kept h1 (fun _ _ _ => by simp)) (j2.kept h1 (fun _ _ _ => by simp)) l2
      clear i1 i2 l2 j1 j2 e1 e2 hwr
      generalize (xs.getD k []).length = n1 at e1' HE
      generalize (ys.getD k []).length = n2 at e2' HE
      by_cases heq : xs.getD k [] = ys.getD k []
      · have hs := hid (take_same' (by rw [HX.out]; exact hlt) (by rw [HY.out]; exact hlt) ht.out heq)
        rw [decide_eq_true heq] at HE
        clear heq
        go_wp2
        go_quiet (first | (go_at_call 29; exact Calls.quiet_of (HE.out _ (Keeps.drewN _ _ _))))
        go_wp2
        go_roundw
        case rel => exact ⟨k + 1, _, by omega, by go_num, by rw [HW.out, World.drewN_drewN], hs⟩
        case measure => simp [intOf]; omega
      · have hne : Box (xs ≠ ys) := hid fun e => heq (by rw [e])
        rw [decide_eq_false heq] at HE
        clear heq
        go_wp2
        go_quiet (first | (go_at_call 29; exact Calls.quiet_of (HE.out _ (Keeps.drewN _ _ _))))
        go_wp2
        go_ret
        exact ⟨by rw [decide_eq_false hne.out]; rfl, _, by rw [HW.out, World.drewN_drewN]⟩
    · obtain rfl : k = n := by omega
      clear hwr
      have hxy : Box (xs = ys) := hid (by
        have := ht.out
        rw [List.take_of_length_le (by rw [HX.out]; omega), List.take_of_length_le (by rw [HY.out]; omega)] at this
        exact this)
      go_wp2
      go_ret
      exact ⟨by rw [decide_eq_true hxy.out]; rfl, _, HW.out⟩
/-- EqAll of two lists of slices: are the numbers the same? -/
theorem eqall_any (v1 v2 : Option Addr) (B1 B2 c1 c2 : Nat) (xs ys : List (List Int)) (w : World) (h1 : LsAt w B1 v1 xs) (h2 : LsAt w B2 v2 ys) (l2 : ys.length ≤ 1000000) (li : ∀ j, (ys.getD j []).length ≤ 1000000) :
    Calls Tryd.prog 11 #[.slice v1 xs.length c1, .slice v2 ys.length c2] w fun e w' => e = .returned (.bool (decide (xs = ys))) ∧ ∃ m, w' = w.drewN m := by
  by_cases hlen : xs.length = ys.length
  · by_cases h0 : xs.length = 0
    · have ex : xs = [] := List.eq_nil_of_length_eq_zero h0
      have ey : ys = [] := List.eq_nil_of_length_eq_zero (by omega)
      subst ex ey
      exact (eqall_empty v1 v2 c1 c2 w).mono fun e w' ⟨he, hw⟩ => ⟨by rw [he]; rfl, 0, hw⟩
    · rcases h1 with rfl | ⟨b1, o1, rfl, _, g1⟩
      · simp at h0
      · rcases h2 with rfl | ⟨b2, o2, rfl, _, g2⟩
        · simp at hlen; simp [hlen] at h0
        · have h := eqall_raw b1 o1 b2 o2 ys.length c1 c2 xs ys w hlen rfl l2 (fun i hi => by obtain ⟨aj, cj, q1, q2⟩ := g1 i (by omega); exact ⟨aj, cj, q1, q2.ints⟩) (fun i hi => by obtain ⟨aj, cj, q1, q2⟩ := g2 i hi; exact ⟨aj, cj, q1, q2.ints, li i⟩)
          rw [hlen]
          exact h
  · refine (eqall_diff v1 v2 _ _ c1 c2 w hlen).mono fun e w' ⟨he, hw⟩ => ⟨?_, 0, hw⟩
    rw [he, decide_eq_false (fun e => hlen (by rw [e]))]
theorem intsI_inj : ∀ {xs ys : List Nat}, intsI xs = intsI ys → xs = ys
  | [], [], _ => rfl
  | [], _ :: _, h => by cases h
  | _ :: _, [], h => by cases h
  | x :: xs, y :: ys, h => by
    have h' : (x : Int) :: intsI xs = (y : Int) :: intsI ys := h
    injection h' with h1 h2
    rw [intsI_inj h2]
    congr 1
    omega
theorem listsI_inj : ∀ {xs ys : List (List Nat)}, listsI xs = listsI ys → xs = ys
  | [], [], _ => rfl
  | [], _ :: _, h => by cases h
  | _ :: _, [], h => by cases h
  | x :: xs, y :: ys, h => by
    have h' : intsI x :: listsI xs = intsI y :: listsI ys := h
    injection h' with h1 h2
    rw [listsI_inj h2, intsI_inj h1]
/-- EqAll of lists of nodes. -/
theorem geqall_any (v1 v2 : Option Addr) (B1 B2 c1 c2 : Nat) (xs ys : List (List Nat)) (w : World) (h1 : GAt w B1 v1 xs) (h2 : GAt w B2 v2 ys) (l2 : ys.length ≤ 1000000) (li : ∀ j, (nb ys j).length ≤ 1000000) :
    Calls Tryd.prog 11 #[.slice v1 xs.length c1, .slice v2 ys.length c2] w fun e w' => e = .returned (.bool (decide (xs = ys))) ∧ ∃ m, w' = w.drewN m := by
  have h := eqall_any v1 v2 B1 B2 c1 c2 (listsI xs) (listsI ys) w h1 h2 (by rw [listsI_len]; exact l2) (fun j => by rw [listsI_get, intsI_len]; exact li j)
  rw [listsI_len, listsI_len] at h
  have e : decide (listsI xs = listsI ys) = decide (xs = ys) := by
    rw [decide_eq_decide]
    exact ⟨fun h => listsI_inj h, fun h => by rw [h]⟩
  rw [e] at h
  exact h
end Go.Proofs.YtmebkeidpklcbaaDoor

namespace Go.Proofs.YtmebkeidpklcbaaDoor
open Go.RowKit

section
variable {P : Program} {ops : Array Oper} {Q : Exit → Act → World → Prop} {md : Region.Mode} {S : World → Prop}

theorem tk_yield {i d : Nat} {oi : Oper} {v : Value} {fuel : Nat} {listed : Array Bool} {a : Act} {w : World} (hi : ops.toList[i]? = some oi) (hd : oi.dst = some d)
    (hs : Region.noSelect ops = true) (hf : Region.free md ops listed i = true) (hr : (Region.ready md ops listed).contains i = true)
    (hQ : ∀ c a w, Q (.panic c) (a.put (some d) v) w → Q (.panic c) a w) (hw : Region.wanted oi (yielded ops a.tmps) = true) (hS : S w)
    (hy : ∀ w, S w → (execOp a.eval oi).run P w = .ok (.value v) w)
    (h : wpAnyH P md ops Q S fuel (listed.setIfInBounds i true) (a.put (some d) v) w) : wpAnyH P md ops Q S (fuel + 1) listed a w := by
  rw [Array.getElem?_toList] at hi
  rw [← hd] at hQ h
  exact wpAnyH_take hi hs hf hr hQ (Or.inl ⟨hw, hy⟩) hS h
/-- How many have not come up. -/
def left (l : Array Bool) : Nat := l.toList.countP fun b => !b
theorem left_set {l : Array Bool} {i : Nat} (h : l.getD i true = false) : left (l.setIfInBounds i true) + 1 = left l := by
  have hi : i < l.size := by
    rcases Nat.lt_or_ge i l.size with h' | h'
    · exact h'
    · rw [Array.getD_eq_getD_getElem?, Array.getElem?_eq_none h'] at h
      cases h
  have hv : l.toList[i]'(by simpa using hi) = false := by
    rw [Array.getD_eq_getD_getElem?, Array.getElem?_eq_getElem hi] at h
    simpa using h
  unfold left
  rw [Array.toList_setIfInBounds, List.countP_set (by simpa using hi), hv]
  have hp : 0 < l.toList.countP fun b => !b := List.countP_pos_iff.2 ⟨false, by rw [← hv]; exact List.getElem_mem _, rfl⟩
  simp only [Bool.not_false, if_true, Bool.not_true, Bool.false_eq_true, if_false]
  omega
/-- What holds in the beginning and behind each operation holds in the end. -/
theorem wpAnyH_inv (I : Array Bool → Act → World → Prop) (hS : ∀ l a w, I l a w → S w) (hd : ∀ l a w, I l a w → Region.ready md ops l = [] → Q .normal a w)
    (hstep : ∀ l a w i, I l a w → i ∈ Region.ready md ops l → wpOp P ops Q i (I (l.setIfInBounds i true)) a w) :
    ∀ (fuel : Nat) (l : Array Bool) (a : Act) (w : World), I l a w → left l ≤ fuel → wpAnyH P md ops Q S fuel l a w
  | 0, l, a, w, h, hf => by
    have hr : Region.ready md ops l = [] := by
      apply List.eq_nil_iff_forall_not_mem.2
      intro i hi
      have := left_set (mem_ready.1 hi).1
      omega
    exact ⟨hr, hd l a w h hr⟩
  | fuel + 1, l, a, w, h, hf => ⟨hd l a w h, fun i hi => wpOp_mono (fun a' w' h' => ⟨hS _ _ _ h', wpAnyH_inv I hS hd hstep fuel _ a' w' h' (by have := left_set (mem_ready.1 hi).1; omega)⟩) (hstep l a w i h hi)⟩
/-- Who may come up has those behind it that it waits for. -/
theorem ready_after {l : Array Bool} {i : Nat} (h : i ∈ Region.ready md ops l) (k : Nat) (hk : (ops[i]?).map (fun o => o.after.toList.any fun e => Region.binds md e && e.on == k) = some true) : l.getD k false = true := by
  obtain ⟨_, o, ho, hall⟩ := mem_ready.1 h
  rw [ho] at hk
  simp only [Option.map_some, Option.some.injEq, List.any_eq_true, Bool.and_eq_true, beq_iff_eq] at hk
  obtain ⟨e, he, hb, rfl⟩ := hk
  exact hall e (Array.mem_toList_iff.1 he) hb
theorem ready_lt {l : Array Bool} {i : Nat} (h : i ∈ Region.ready md ops l) : i < ops.size := by
  obtain ⟨_, o, ho, _⟩ := mem_ready.1 h
  exact (Array.getElem?_eq_some_iff.1 ho).1
theorem all_listed {l : Array Bool} {n : Nat} (hl : l.size = n) (h : Region.ready md ops l = []) (hc : (List.range n).all (fun i => (ops[i]?).isSome && ((ops[i]?).map (fun o => o.after.all fun e => !Region.binds md e || decide (e.on < i))).getD false) = true) : ∀ i, i < n → l.getD i false = true := by
  intro i
  induction i using Nat.strongRecOn with
  | _ i ih =>
    intro hi
    cases hv : l.getD i false with
    | true => rfl
    | false =>
      exfalso
      have hm : i ∈ Region.ready md ops l := by
        rw [mem_ready]
        have h1 := List.all_eq_true.1 hc i (List.mem_range.2 hi)
        rw [Bool.and_eq_true] at h1
        obtain ⟨o, ho⟩ := Option.isSome_iff_exists.1 h1.1
        refine ⟨?_, o, ho, fun e he hb => ?_⟩
        · rw [Array.getD_eq_getD_getElem?, Array.getElem?_eq_getElem (by omega)] at hv ⊢
          exact hv
        · have h2 := h1.2
          rw [ho] at h2
          have h3 := Array.all_eq_true_iff_forall_mem.1 h2 e he
          rw [hb] at h3
          exact ih e.on (by simpa using h3) (by have : e.on < i := by simpa using h3
                                                omega)
      rw [h] at hm
      cases hm
/-- An operation that is a call. -/
theorem tk_call {i d : Nat} {oi : Oper} {K : Act → World → Prop} {a : Act} {w : World} (hi : ops.toList[i]? = some oi) (hd : oi.dst = some d)
    (hw : Region.wanted oi (yielded ops a.tmps) = true) (f : Nat) (args : Array Value) (he : (execOp a.eval oi).run P w = .ok (.enter f args) w) {R : Value → World → Prop}
    (hc : Calls P f args w fun e w' => ∃ v, e = .returned v ∧ R v w') (h : ∀ v w', R v w' → K (a.put (some d) v) w') : wpOp P ops Q i K a w := by
  rw [Array.getElem?_toList] at hi
  rw [← hd] at h
  refine wpOp_step hi (fun K' hK => ?_)
  rw [if_pos hw]
  unfold Oper.wp
  rw [he]
  simp only [Oper.upon]
  refine Calls.mono hc (fun e w' => ?_)
  rintro ⟨v, rfl, hs⟩
  exact hK _ _ (h v w' hs)
/-- An operation that gives a value. -/
theorem tk_run {i : Nat} {oi : Oper} {K : Act → World → Prop} {a : Act} {w w' : World} {v : Value} (hi : ops.toList[i]? = some oi) (hw : Region.wanted oi (yielded ops a.tmps) = true)
    (he : (execOp a.eval oi).run P w = .ok (.value v) w') (h : K (a.put oi.dst v) w') : wpOp P ops Q i K a w := by
  rw [Array.getElem?_toList] at hi
  refine wpOp_step hi (fun K' hK => ?_)
  rw [if_pos hw]
  unfold Oper.wp
  rw [he]
  exact hK _ _ h
/-- An operation that gives nothing. -/
theorem tk_skip {i : Nat} {oi : Oper} {K : Act → World → Prop} {a : Act} {w w' : World} (hi : ops.toList[i]? = some oi) (hw : Region.wanted oi (yielded ops a.tmps) = true)
    (he : (execOp a.eval oi).run P w = .ok .skip w') (h : K (a.put oi.dst undef) w') : wpOp P ops Q i K a w := by
  rw [Array.getElem?_toList] at hi
  refine wpOp_step hi (fun K' hK => ?_)
  rw [if_pos hw]
  unfold Oper.wp
  rw [he]
  exact hK _ _ h
theorem exec_call2 {ev : Operand → Value} {oi : Oper} {f : Nat} {x y : Operand} {ts : Array TypeId} {v u : Value} {w : World} (ho : oi.op = .call { callee := .value (.func f), args := #[x, y], argTypes := ts }) (hf : ev (.func f) = .func (.func f) #[] #[]) (hx : ev x = v) (hy : ev y = u) (hc : (callFunc f #[v, u]).run P w = .ok (.enter f #[v, u]) w) : (execOp ev oi).run P w = .ok (.enter f #[v, u]) w := by
  subst hx
  subst hy
  simp [execOp, ho, hf, go_sem, hc]
end
end Go.Proofs.YtmebkeidpklcbaaDoor

namespace Go.Proofs.YtmebkeidpklcbaaDoor
open Go.RowKit

section
variable {P : Program} {ops : Array Oper} {Q : Exit → Act → World → Prop}

/-- The values of all operations laid into their slots. -/
def putAll : List Oper → List Value → Act → Act
  | o :: os, v :: vs, a => putAll os vs (a.put o.dst v)
  | _, _, a => a
theorem put_size (a : Act) (d : Option Tmp) (v : Value) : (a.put d v).tmps.size = a.tmps.size := by cases d <;> simp [Act.put]
theorem put_defers (a : Act) (d : Option Tmp) (v : Value) : (a.put d v).defers = a.defers := by cases d <;> rfl
theorem put_other {a : Act} {d : Option Tmp} {v : Value} {s : Nat} (h : d ≠ some s) : (a.put d v).tmps[s]? = a.tmps[s]? := by
  cases d with
  | none => rfl
  | some d =>
    have hne : d ≠ s := fun e => h (e ▸ rfl)
    simp [Act.put, Array.getElem?_setIfInBounds_ne hne]
theorem put_at {a : Act} {s : Nat} {v : Value} (h : s < a.tmps.size) : (a.put (some s) v).tmps[s]? = some v := by
  simp [Act.put, Array.getElem?_setIfInBounds_self_of_lt h]
theorem putAll_size : ∀ (os : List Oper) (vs : List Value) (a : Act), (putAll os vs a).tmps.size = a.tmps.size
  | [], _, _ => rfl
  | _ :: _, [], _ => rfl
  | o :: os, v :: vs, a => by
    show (putAll os vs (a.put o.dst v)).tmps.size = _
    rw [putAll_size os vs, put_size]
theorem putAll_defers : ∀ (os : List Oper) (vs : List Value) (a : Act), (putAll os vs a).defers = a.defers
  | [], _, _ => rfl
  | _ :: _, [], _ => rfl
  | o :: os, v :: vs, a => by
    show (putAll os vs (a.put o.dst v)).defers = _
    rw [putAll_defers os vs, put_defers]
theorem putAll_other {s : Nat} : ∀ (os : List Oper) (vs : List Value) (a : Act), (∀ (k : Nat) (o : Oper), os[k]? = some o → o.dst ≠ some s) → (putAll os vs a).tmps[s]? = a.tmps[s]?
  | [], _, _, _ => rfl
  | _ :: _, [], _, _ => rfl
  | o :: os, v :: vs, a, h => by
    show (putAll os vs (a.put o.dst v)).tmps[s]? = _
    rw [putAll_other os vs _ (fun k x hx => h (k + 1) x (by simpa using hx)), put_other (h 0 o rfl)]
theorem putAll_at {s : Nat} {v0 : Value} {o0 : Oper} : ∀ (os : List Oper) (vs : List Value) (a : Act) (k : Nat), os[k]? = some o0 → vs[k]? = some v0 → o0.dst = some s → s < a.tmps.size → (∀ (j : Nat) (o : Oper), j ≠ k → os[j]? = some o → o.dst ≠ some s) → (putAll os vs a).tmps[s]? = some v0
  | [], _, _, k, h, _, _, _, _ => by simp at h
  | _ :: _, [], _, k, _, h, _, _, _ => by simp at h
  | o :: os, v :: vs, a, 0, ho, hv, hd, hs, hn => by
    simp at ho hv
    subst ho hv
    show (putAll os vs (a.put o.dst v)).tmps[s]? = _
    rw [putAll_other os vs _ (fun k x hx => hn (k + 1) x (by omega) (by simpa using hx)), hd]
    exact put_at hs
  | o :: os, v :: vs, a, k + 1, ho, hv, hd, hs, hn => by
    show (putAll os vs (a.put o.dst v)).tmps[s]? = _
    exact putAll_at os vs _ k (by simpa using ho) (by simpa using hv) hd (by rw [put_size]; exact hs) (fun j x hj hx => hn (j + 1) x (by omega) (by simpa using hx))
/-- What can be seen of the operations alone: each slot is one operation's; who looks at a slot waits for it. -/
def detPair (ops : Array Oper) (n i j : Nat) : Bool :=
  match ops[i]?, ops[j]? with
  | some oi, some oj => (i == j || oi.dst.isNone || oi.dst != oj.dst) && (match oj.dst with
    | some d => decide (d < n) && (!(oi.looksAt ops).contains d || oi.after.any fun e => Region.binds .any e && e.on == j)
    | none => true)
  | _, _ => false
def detOk (ops : Array Oper) (n : Nat) : Bool :=
  Region.noSelect ops && ((List.range ops.size).all (fun i => (List.range ops.size).all fun j => detPair ops n i j) &&
    (List.range ops.size).all (fun i => (ops[i]?).isSome && ((ops[i]?).map (fun o => o.after.all fun e => !Region.binds .any e || decide (e.on < i))).getD false))
/-- What an operation gives. -/
def Give (P : Program) (ops : Array Oper) (A : Act) (W0 : World) (o : Oper) (v : Value) : Prop :=
  (Region.wanted o (yielded ops A.tmps) = true ∧ ∀ w, Keeps [] W0 w →
    ((∃ w', (execOp A.eval o).run P w = .ok (.value v) w' ∧ Keeps [] w w') ∨
     (∃ f args, (execOp A.eval o).run P w = .ok (.enter f args) w ∧ Calls P f args w fun e w' => e = .returned v ∧ Keeps [] w w'))) ∨
  (Region.wanted o (yielded ops A.tmps) = false ∧ v = undef)
theorem give_yield {A : Act} {W0 : World} {o : Oper} {v : Value} (hw : Region.wanted o (yielded ops A.tmps) = true) (h : ∀ w, Keeps [] W0 w → (execOp A.eval o).run P w = .ok (.value v) w) : Give P ops A W0 o v :=
  .inl ⟨hw, fun w k => .inl ⟨w, h w k, Keeps.refl _ _⟩⟩
theorem give_pass {A : Act} {W0 : World} {o : Oper} (hw : Region.wanted o (yielded ops A.tmps) = false) : Give P ops A W0 o undef := .inr ⟨hw, rfl⟩
theorem give_call {A : Act} {W0 : World} {o : Oper} {v : Value} (hw : Region.wanted o (yielded ops A.tmps) = true) (f : Nat) (args : Array Value) (he : ∀ w, (execOp A.eval o).run P w = .ok (.enter f args) w)
    (hc : ∀ w, Keeps [] W0 w → Calls P f args w fun e w' => e = .returned v ∧ Keeps [] w w') : Give P ops A W0 o v :=
  .inl ⟨hw, fun w k => .inr ⟨f, args, he w, hc w k⟩⟩
def AllGive (P : Program) (ops : Array Oper) (A : Act) (W0 : World) : List Oper → List Value → Prop
  | o :: os, v :: vs => Give P ops A W0 o v ∧ AllGive P ops A W0 os vs
  | [], [] => True
  | _, _ => False
theorem AllGive.at {A : Act} {W0 : World} : ∀ {os : List Oper} {vs : List Value}, AllGive P ops A W0 os vs → ∀ {k : Nat} {o : Oper}, os[k]? = some o → ∃ v, vs[k]? = some v ∧ Give P ops A W0 o v
  | [], _, _, k, o, ho => by simp at ho
  | _ :: _, [], h, _, _, _ => by cases h
  | o :: os, v :: vs, h, 0, o', ho => by
    simp at ho
    subst ho
    exact ⟨v, rfl, h.1⟩
  | o :: os, v :: vs, h, k + 1, o', ho => by
    obtain ⟨u, hu, hg⟩ := AllGive.at h.2 (k := k) (by simpa using ho)
    exact ⟨u, by simpa using hu, hg⟩
/-- Whatever has come up. -/
structure DetI (ops : Array Oper) (W0 : World) (a A : Act) (l : Array Bool) (a' : Act) (w : World) : Prop where
  size : l.size = ops.size
  kept : Keeps [] W0 w
  sz : a'.tmps.size = a.tmps.size
  df : a'.defers = a.defers
  on : ∀ (i : Nat) (oi : Oper) (d : Nat), ops[i]? = some oi → oi.dst = some d → l.getD i false = true → a'.tmps[d]? = A.tmps[d]?
  off : ∀ d : Nat, (∀ (i : Nat) (oi : Oper), ops[i]? = some oi → oi.dst = some d → l.getD i false = false) → a'.tmps[d]? = a.tmps[d]?
theorem bit_ne' {l : Array Bool} {i j : Nat} (h : i ≠ j) : (l.setIfInBounds i true).getD j false = l.getD j false := getD_set_ne false h
theorem bit_self' {l : Array Bool} {i : Nat} (h : i < l.size) : (l.setIfInBounds i true).getD i false = true := by
  rw [Array.getD_eq_getD_getElem?, Array.getElem?_setIfInBounds_self_of_lt h]
  rfl
theorem wp_region_det {id : Nat} {a : Act} {w W0 : World} (n : Nat) (vs : List Value) (hm : P.follows .mixedOrders = true) (hn : a.tmps.size = n) (hok : detOk ops n = true) (hk : Keeps [] W0 w)
    (h : ∀ A, putAll ops.toList vs a = A → AllGive P ops A W0 ops.toList vs ∧ ∀ w', Keeps [] W0 w' → Q .normal A w') : (Code.region id ops true).wp P Q a w := by
  obtain ⟨A, hA⟩ : ∃ A, putAll ops.toList vs a = A := ⟨_, rfl⟩
  obtain ⟨hg, hQ⟩ := h A hA
  unfold detOk at hok
  rw [Bool.and_eq_true, Bool.and_eq_true] at hok
  obtain ⟨hsel, hp, hall⟩ := hok
  have pair : ∀ (i j : Nat) (oi oj : Oper), ops[i]? = some oi → ops[j]? = some oj → detPair ops n i j = true := fun i j oi oj hi hj => by
    have h1 := List.all_eq_true.1 hp i (List.mem_range.2 (Array.getElem?_eq_some_iff.1 hi).1)
    exact List.all_eq_true.1 h1 j (List.mem_range.2 (Array.getElem?_eq_some_iff.1 hj).1)
  have dist : ∀ (i j : Nat) (oi oj : Oper) (d : Nat), ops[i]? = some oi → ops[j]? = some oj → i ≠ j → oi.dst = some d → oj.dst ≠ some d := fun i j oi oj d hi hj hij hd he => by
    have := pair i j oi oj hi hj
    unfold detPair at this
    rw [hi, hj] at this
    simp [hij, hd, he] at this
  have lt : ∀ (i : Nat) (oi : Oper) (d : Nat), ops[i]? = some oi → oi.dst = some d → d < n := fun i oi d hi hd => by
    have := pair i i oi oi hi hi
    unfold detPair at this
    rw [hi] at this
    simp only [hd, Bool.and_eq_true, decide_eq_true_eq] at this
    exact this.2.1
  have waits : ∀ (i j : Nat) (oi oj : Oper) (d : Nat), ops[i]? = some oi → ops[j]? = some oj → oj.dst = some d → d ∈ oi.looksAt ops → oi.after.any (fun e => Region.binds .any e && e.on == j) = true := fun i j oi oj d hi hj hd hm => by
    have := pair i j oi oj hi hj
    unfold detPair at this
    rw [hi, hj] at this
    simp only [hd, Bool.and_eq_true, Bool.or_eq_true, Bool.not_eq_true', decide_eq_true_eq] at this
    rcases this.2.2 with h0 | h0
    · rw [List.contains_iff_mem.2 hm] at h0
      cases h0
    · exact h0
  have aOther : ∀ d : Nat, (∀ (i : Nat) (oi : Oper), ops[i]? = some oi → oi.dst ≠ some d) → A.tmps[d]? = a.tmps[d]? := fun d hd => by
    rw [← hA]
    exact putAll_other _ _ _ (fun k o ho => hd k o (by rw [← Array.getElem?_toList]; exact ho))
  have aAt : ∀ (i : Nat) (oi : Oper) (d : Nat) (v : Value), ops[i]? = some oi → oi.dst = some d → vs[i]? = some v → A.tmps[d]? = some v := fun i oi d v hi hd hv => by
    rw [← hA]
    exact putAll_at _ _ _ i (by rw [Array.getElem?_toList]; exact hi) hv hd (by rw [hn]; exact lt i oi d hi hd) (fun j oj hj ho => dist i j oi oj d hi (by rw [← Array.getElem?_toList]; exact ho) (Ne.symm hj) hd)
  refine wp_region_held_drew (S := fun w' => Keeps [] W0 w') hm (hk.quiet (Keeps.drew [] w)) (fun hS => ?_)
  refine wpAnyH_inv (DetI ops W0 a A) (fun _ _ _ h => h.kept) (fun l a' w' hI hr => ?_) (fun l a' w' i hI hr => ?_) _ _ _ _ ?_ ?_
  · have hl := all_listed (md := .any) (ops := ops) hI.size hr hall
    have e : a' = A := by
      have ht : a'.tmps = A.tmps := by
        apply Array.ext_getElem?
        intro d
        by_cases hx : ∃ (i : Nat) (oi : Oper), ops[i]? = some oi ∧ oi.dst = some d
        · obtain ⟨i, oi, hi, hd⟩ := hx
          exact hI.on i oi d hi hd (hl i (Array.getElem?_eq_some_iff.1 hi).1)
        · have hno : ∀ (i : Nat) (oi : Oper), ops[i]? = some oi → oi.dst ≠ some d := fun i oi hi hd => hx ⟨i, oi, hi, hd⟩
          rw [hI.off d (fun i oi hi hd => absurd hd (hno i oi hi)), aOther d hno]
      have hdf : a'.defers = A.defers := by rw [hI.df, ← hA, putAll_defers]
      cases a'
      cases A
      simp only at ht hdf
      rw [ht, hdf]
    rw [e]
    exact hQ w' hI.kept
  · obtain ⟨hun, oi, hi, hw8⟩ := mem_ready.1 hr
    have hil : i < l.size := by rw [hI.size]; exact (Array.getElem?_eq_some_iff.1 hi).1
    obtain ⟨v, hv, hgv⟩ := hg.at (k := i) (by rw [Array.getElem?_toList]; exact hi)
    have agree : ∀ t, t ∈ oi.looksAt ops → a'.tmps[t]? = A.tmps[t]? := fun t ht => by
      by_cases hx : ∃ (j : Nat) (oj : Oper), ops[j]? = some oj ∧ oj.dst = some t
      · obtain ⟨j, oj, hj, hd⟩ := hx
        have := waits i j oi oj t hi hj hd ht
        rw [Array.any_eq_true'] at this
        obtain ⟨e, he, h1⟩ := this
        rw [Bool.and_eq_true, beq_iff_eq] at h1
        have h2 := hw8 e he h1.1
        rw [h1.2] at h2
        exact hI.on j oj t hj hd h2
      · have hno : ∀ (i : Nat) (oi : Oper), ops[i]? = some oi → oi.dst ≠ some t := fun i oi hi hd => hx ⟨i, oi, hi, hd⟩
        rw [hI.off t (fun i oi hi hd => absurd hd (hno i oi hi)), aOther t hno]
    have hex : execOp a'.eval oi = execOp A.eval oi := execOp_congr oi (fun cs b => by
        exact Region.noSelect_spec hsel i oi cs b hi) (fun x hx => by
      cases x with
      | tmp t =>
        have := agree t (List.mem_append_left _ (List.mem_filterMap.2 ⟨.tmp t, by simpa using hx, rfl⟩))
        simp only [Act.eval, Array.getD_eq_getD_getElem?, this]
      | const v => rfl
      | global g => rfl
      | func f => rfl)
    have hwt : Region.wanted oi (yielded ops a'.tmps) = Region.wanted oi (yielded ops A.tmps) := by
      unfold Region.wanted
      cases hgd : oi.guard with
      | none => rfl
      | some gw =>
        obtain ⟨g, want⟩ := gw
        have hy : yielded ops a'.tmps g = yielded ops A.tmps g := by
          unfold yielded
          cases ht : (ops[g]?).bind (·.dst) with
          | none => rfl
          | some t =>
            have := agree t (by simp [Oper.looksAt, hgd, ht])
            simp [this]
        simp only [hy]
    have next : ∀ w2, Keeps [] w' w2 → DetI ops W0 a A (l.setIfInBounds i true) (a'.put oi.dst v) w2 := fun w2 k2 => by
      refine ⟨by simpa using hI.size, hI.kept.quiet k2, by rw [put_size, hI.sz], by rw [put_defers, hI.df], fun j oj d hj hd hl => ?_, fun d hd => ?_⟩
      · by_cases hij : i = j
        · subst hij
          rw [hi] at hj
          cases hj
          rw [hd, put_at (by rw [hI.sz, hn]; exact lt i oi d hi hd), aAt i oi d v hi hd hv]
        · rw [put_other (dist j i oj oi d hj hi (Ne.symm hij) hd)]
          rw [bit_ne' hij] at hl
          exact hI.on j oj d hj hd hl
      · have h1 : oi.dst ≠ some d := fun e => by
          have := hd i oi hi e
          rw [bit_self' hil] at this
          cases this
        rw [put_other h1]
        refine hI.off d (fun j oj hj hdj => ?_)
        have := hd j oj hj hdj
        by_cases hij : i = j
        · subst hij
          rw [hi] at hj
          cases hj
          exact absurd hdj h1
        · rw [bit_ne' hij] at this
          exact this
    refine wpOp_step hi (fun K' hK => ?_)
    rw [hwt]
    rcases hgv with ⟨hw1, hr1⟩ | ⟨hw1, rfl⟩
    · rw [if_pos hw1]
      unfold Oper.wp
      rw [hex]
      rcases hr1 w' hI.kept with ⟨w2, he, k2⟩ | ⟨f, args, he, hc⟩
      · rw [he]
        exact hK _ _ (next w2 k2)
      · rw [he]
        simp only [Oper.upon]
        refine Calls.mono hc (fun e w2 => ?_)
        rintro ⟨rfl, k2⟩
        exact hK _ _ (next w2 k2)
    · rw [if_neg (by rw [hw1]; simp)]
      exact hK _ _ (next w' (Keeps.refl _ _))
  · refine ⟨by simp, hS, rfl, rfl, fun i oi d hi hd hl => ?_, fun d hd => rfl⟩
    exfalso
    rw [Array.getD_eq_getD_getElem?] at hl
    by_cases hlt : i < ops.size
    · rw [Array.getElem?_replicate, if_pos hlt] at hl
      cases hl
    · rw [Array.getElem?_replicate, if_neg hlt] at hl
      cases hl
  · unfold left
    exact Nat.le_trans List.countP_le_length (by simp)
end
end Go.Proofs.YtmebkeidpklcbaaDoor
