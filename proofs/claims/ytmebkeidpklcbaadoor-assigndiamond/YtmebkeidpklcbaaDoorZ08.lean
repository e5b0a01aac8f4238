/-
  ir.Def, ir.Uses, slices.Clone; the document's own Def and Uses (out of the texts of stage 8).
-/
import Derived.Test.YtmebkeidpklcbaaDoorRows
import Derived.WalkKit
import Derived.WalkSpells
import Derived.WalkLawsBesides
import Derived.OwnWalk
import Derived.Deep.QuietTactic
import Derived.BigQuiet
import Derived.Maps.AppendAt
import Derived.Lib.Builder
import Derived.Deep.OwnRows
import Derived.Deep.DeepCutAuto
import Derived.Deep.AppendLies
import Derived.Laws.AppendOwnNone
import Derived.Deep.RegionHeld3
import Derived.Test.YtmebkeidpklcbaaDoorZ03
import Derived.Test.YtmebkeidpklcbaaDoorZ04

namespace Go.Proofs.YtmebkeidpklcbaaDoor
open Go.RowKit

theorem run_append_nil {P : Program} {w : World} (base : Nat) (t ty e : TypeId) (i : TypeInfo) (size : Nat) (ht : P.underlying t = some (.slice e)) (hi : P.info? e = some i)
    (v : Value) (n : Nat) (xs : List Value) (hown : w.ownsRow base e size v n xs) (c : Nat) :
    (Builtin.append_ #[t, t] ty #[v, .slice none 0 c]).run P w = .ok v w := by
  rcases hown.2 with ⟨rfl, rfl⟩ | ⟨g, cap, cur, rfl, _, _, hnc, _⟩
  · simp [Builtin.append_, run_underlying ht, sizeOf, typeInfo, hi, Builtin.lenOf, Builtin.firstCells]
  · simp [Builtin.append_, run_underlying ht, sizeOf, typeInfo, hi, Builtin.lenOf, Builtin.firstCells, hnc, storeCells]
theorem wpList_append_nil {P : Program} {w : World} {ops : Array Oper} {rest : List Oper} {o : Oper} {a : Act} {Q : Exit → Act → World → Prop} (hgd : o.guard = none) (s x : Operand) (t : TypeId)
    (ho : o.op = .call { callee := .builtin .append, args := #[s, x], argTypes := #[t, t] })
    (base : Nat) (e : TypeId) (i : TypeInfo) (size : Nat) (ht : P.underlying t = some (.slice e)) (hi : P.info? e = some i)
    (v : Value) (n : Nat) (xs : List Value) (hs : a.eval s = v) (hown : w.ownsRow base e size v n xs) {c : Nat} (hx : a.eval x = .slice none 0 c)
    (h : wpList P ops Q rest (a.put o.dst v) w) : wpList P ops Q (o :: rest) a w := by
  refine wpList_plain hgd fun K hK => ?_
  have hrun := run_append_nil (P := P) (w := w) base t o.type e i size ht hi v n xs hown c
  unfold Oper.wp
  simp [execOp, ho, resolve, invoke, builtin, hs, hx, hrun, Result.andThen]
  exact hK _ _ h
def isDef (x : In8) : Bool := decide ((1 ≤ x.op ∧ x.op ≤ 7) ∨ (10 ≤ x.op ∧ x.op ≤ 14))
def defV (x : In8) : Value := .tuple #[.int .i64 (if isDef x then x.dst else 0), .bool (isDef x)]
theorem defV_yes {x : In8} (h : isDef x = true) : defV x = .tuple #[.int .i64 x.dst, .bool true] := by unfold defV; rw [h]; rfl
theorem defV_no {x : In8} (h : isDef x = false) : defV x = .tuple #[.int .i64 0, .bool false] := by unfold defV; rw [h]; rfl
theorem def_1 (x : In8) (ar : Value) (w : World) (hop : x.op = 1) : Calls Tryd.prog 60 #[insV x ar] w fun e w' => e = .returned (defV x) ∧ Keeps [] w w' := by
  rw [defV_yes (by unfold isDef; rw [hop]; rfl)]
  unfold insV
  rw [hop]
  go_enter Tryd.func60, Tryd.ntmps60
  go_wp2
  go_ret2
  exact ⟨rfl, Keeps.alloc _ _ _⟩
theorem def_2 (x : In8) (ar : Value) (w : World) (hop : x.op = 2) : Calls Tryd.prog 60 #[insV x ar] w fun e w' => e = .returned (defV x) ∧ Keeps [] w w' := by
  rw [defV_yes (by unfold isDef; rw [hop]; rfl)]
  unfold insV
  rw [hop]
  go_enter Tryd.func60, Tryd.ntmps60
  go_wp2
  go_ret2
  exact ⟨rfl, Keeps.alloc _ _ _⟩
theorem def_3 (x : In8) (ar : Value) (w : World) (hop : x.op = 3) : Calls Tryd.prog 60 #[insV x ar] w fun e w' => e = .returned (defV x) ∧ Keeps [] w w' := by
  rw [defV_yes (by unfold isDef; rw [hop]; rfl)]
  unfold insV
  rw [hop]
  go_enter Tryd.func60, Tryd.ntmps60
  go_wp2
  go_ret2
  exact ⟨rfl, Keeps.alloc _ _ _⟩
theorem def_4 (x : In8) (ar : Value) (w : World) (hop : x.op = 4) : Calls Tryd.prog 60 #[insV x ar] w fun e w' => e = .returned (defV x) ∧ Keeps [] w w' := by
  rw [defV_yes (by unfold isDef; rw [hop]; rfl)]
  unfold insV
  rw [hop]
  go_enter Tryd.func60, Tryd.ntmps60
  go_wp2
  go_ret2
  exact ⟨rfl, Keeps.alloc _ _ _⟩
theorem def_5 (x : In8) (ar : Value) (w : World) (hop : x.op = 5) : Calls Tryd.prog 60 #[insV x ar] w fun e w' => e = .returned (defV x) ∧ Keeps [] w w' := by
  rw [defV_yes (by unfold isDef; rw [hop]; rfl)]
  unfold insV
  rw [hop]
  go_enter Tryd.func60, Tryd.ntmps60
  go_wp2
  go_ret2
  exact ⟨rfl, Keeps.alloc _ _ _⟩
theorem def_6 (x : In8) (ar : Value) (w : World) (hop : x.op = 6) : Calls Tryd.prog 60 #[insV x ar] w fun e w' => e = .returned (defV x) ∧ Keeps [] w w' := by
  rw [defV_yes (by unfold isDef; rw [hop]; rfl)]
  unfold insV
  rw [hop]
  go_enter Tryd.func60, Tryd.ntmps60
  go_wp2
  go_ret2
  exact ⟨rfl, Keeps.alloc _ _ _⟩
theorem def_7 (x : In8) (ar : Value) (w : World) (hop : x.op = 7) : Calls Tryd.prog 60 #[insV x ar] w fun e w' => e = .returned (defV x) ∧ Keeps [] w w' := by
  rw [defV_yes (by unfold isDef; rw [hop]; rfl)]
  unfold insV
  rw [hop]
  go_enter Tryd.func60, Tryd.ntmps60
  go_wp2
  go_ret2
  exact ⟨rfl, Keeps.alloc _ _ _⟩
theorem def_10 (x : In8) (ar : Value) (w : World) (hop : x.op = 10) : Calls Tryd.prog 60 #[insV x ar] w fun e w' => e = .returned (defV x) ∧ Keeps [] w w' := by
  rw [defV_yes (by unfold isDef; rw [hop]; rfl)]
  unfold insV
  rw [hop]
  go_enter Tryd.func60, Tryd.ntmps60
  go_wp2
  go_ret2
  exact ⟨rfl, Keeps.alloc _ _ _⟩
theorem def_11 (x : In8) (ar : Value) (w : World) (hop : x.op = 11) : Calls Tryd.prog 60 #[insV x ar] w fun e w' => e = .returned (defV x) ∧ Keeps [] w w' := by
  rw [defV_yes (by unfold isDef; rw [hop]; rfl)]
  unfold insV
  rw [hop]
  go_enter Tryd.func60, Tryd.ntmps60
  go_wp2
  go_ret2
  exact ⟨rfl, Keeps.alloc _ _ _⟩
theorem def_12 (x : In8) (ar : Value) (w : World) (hop : x.op = 12) : Calls Tryd.prog 60 #[insV x ar] w fun e w' => e = .returned (defV x) ∧ Keeps [] w w' := by
  rw [defV_yes (by unfold isDef; rw [hop]; rfl)]
  unfold insV
  rw [hop]
  go_enter Tryd.func60, Tryd.ntmps60
  go_wp2
  go_ret2
  exact ⟨rfl, Keeps.alloc _ _ _⟩
theorem def_13 (x : In8) (ar : Value) (w : World) (hop : x.op = 13) : Calls Tryd.prog 60 #[insV x ar] w fun e w' => e = .returned (defV x) ∧ Keeps [] w w' := by
  rw [defV_yes (by unfold isDef; rw [hop]; rfl)]
  unfold insV
  rw [hop]
  go_enter Tryd.func60, Tryd.ntmps60
  go_wp2
  go_ret2
  exact ⟨rfl, Keeps.alloc _ _ _⟩
theorem def_14 (x : In8) (ar : Value) (w : World) (hop : x.op = 14) : Calls Tryd.prog 60 #[insV x ar] w fun e w' => e = .returned (defV x) ∧ Keeps [] w w' := by
  rw [defV_yes (by unfold isDef; rw [hop]; rfl)]
  unfold insV
  rw [hop]
  go_enter Tryd.func60, Tryd.ntmps60
  go_wp2
  go_ret2
  exact ⟨rfl, Keeps.alloc _ _ _⟩
theorem def_no (x : In8) (ar : Value) (w : World) (hop : x.op ≠ 1 ∧ x.op ≠ 2 ∧ x.op ≠ 3 ∧ x.op ≠ 4 ∧ x.op ≠ 5 ∧ x.op ≠ 6 ∧ x.op ≠ 7 ∧ x.op ≠ 10 ∧ x.op ≠ 11 ∧ x.op ≠ 12 ∧ x.op ≠ 13 ∧ x.op ≠ 14) : Calls Tryd.prog 60 #[insV x ar] w fun e w' => e = .returned (defV x) ∧ Keeps [] w w' := by
  rw [defV_no (by unfold isDef; simp; omega)]
  unfold insV
  have o1 := neb (show x.op ≠ 1 by omega)
  have o2 := neb (show x.op ≠ 2 by omega)
  have o3 := neb (show x.op ≠ 3 by omega)
  have o4 := neb (show x.op ≠ 4 by omega)
  have o5 := neb (show x.op ≠ 5 by omega)
  have o6 := neb (show x.op ≠ 6 by omega)
  have o7 := neb (show x.op ≠ 7 by omega)
  have o10 := neb (show x.op ≠ 10 by omega)
  have o11 := neb (show x.op ≠ 11 by omega)
  have o12 := neb (show x.op ≠ 12 by omega)
  have o13 := neb (show x.op ≠ 13 by omega)
  have o14 := neb (show x.op ≠ 14 by omega)
  clear hop
  go_enter Tryd.func60, Tryd.ntmps60
  go_wp2
  go_ret2
  exact ⟨rfl, Keeps.alloc _ _ _⟩
theorem def_any (x : In8) (ar : Value) (w : World) : Calls Tryd.prog 60 #[insV x ar] w fun e w' => e = .returned (defV x) ∧ Keeps [] w w' := by
  by_cases o1 : x.op = 1
  · exact def_1 x ar w o1
  by_cases o2 : x.op = 2
  · exact def_2 x ar w o2
  by_cases o3 : x.op = 3
  · exact def_3 x ar w o3
  by_cases o4 : x.op = 4
  · exact def_4 x ar w o4
  by_cases o5 : x.op = 5
  · exact def_5 x ar w o5
  by_cases o6 : x.op = 6
  · exact def_6 x ar w o6
  by_cases o7 : x.op = 7
  · exact def_7 x ar w o7
  by_cases o10 : x.op = 10
  · exact def_10 x ar w o10
  by_cases o11 : x.op = 11
  · exact def_11 x ar w o11
  by_cases o12 : x.op = 12
  · exact def_12 x ar w o12
  by_cases o13 : x.op = 13
  · exact def_13 x ar w o13
  by_cases o14 : x.op = 14
  · exact def_14 x ar w o14
  exact def_no x ar w ⟨o1, o2, o3, o4, o5, o6, o7, o10, o11, o12, o13, o14⟩
theorem clone_nil (n c : Nat) (w : World) : Calls Tryd.prog 68 #[.slice none n c] w fun e w' => e = .returned (.slice none 0 0) ∧ w' = w := by
  have q : ∀ (w : World) (a : Option Addr) (n c n' c' : Nat), (binOp .eql 54 (.slice a n c) (.slice none n' c')).run Tryd.prog w = .ok (.bool a.isNone) w := fun w a n c n' c' => Lib.run_eql_slice_nil w _ _ a n c n' c' Tryd.underlying54
  go_enter Tryd.func68, Tryd.ntmps68
  go_wp2
  go_ret
  exact ⟨rfl, rfl⟩
set_option maxHeartbeats 2000000 in
theorem clone_some (ad : Addr) (n c : Nat) (zs : List Int) (w : World) (hl : zs.length = n) (hz : IntsAt w (some ad) zs) (hb : n ≤ 17592186044416) :
    Calls Tryd.prog 68 #[.slice (some ad) n c] w fun e w' => ∃ v, e = .returned v ∧ w'.ownsRow w.heap.size 3 1 v n (numC zs) ∧ Keeps [] w w' := by
  have q : ∀ (w : World) (a : Option Addr) (n c n' c' : Nat), (binOp .eql 54 (.slice a n c) (.slice none n' c')).run Tryd.prog w = .ok (.bool a.isNone) w := fun w a n c n' c' => Lib.run_eql_slice_nil w _ _ a n c n' c' Tryd.underlying54
  have H : Box (∀ j u, (numC zs)[j]? = some u → w.cell? (ad.add j) = some u) := hid (by
    rcases hz with e | ⟨b, off, e, h⟩
    · intro j u hj; rw [e] at hj; simp [numC] at hj
    · cases e
      exact numC_at h)
  have HL := hid hl
  clear hz hl
  go_enter Tryd.func68, Tryd.ntmps68
  go_wp2_with (at_builtin; go_must (refine wpList_append_own _ rfl _ _ 54 rfl w.heap.size 3 Tryd.t3 (.int .i64 0) 1 8 under_ints info_int zero_int size_int bytes_int rfl (by decide) _ _ _ rfl (World.ownsRow_made w #[] 0 (Nat.le_refl _) (Nat.zero_le _) rfl) ad n c (numC zs) rfl (by rw [numC_len, HL.out]; omega) (fun j u hj => Lib.cell?_alloc_some _ (H.out j u hj)) (numC_one zs) (by unfold maxLen; omega) (by omega) (by simp) ?_; intro v' w1 hown hgrow hnil))
  have HO := hid hown
  have hg2 : (w.alloc (Obj.cells #[] 3)).grownBy w1 (some w.heap.size) := hgrow
  have HK := hid ((Keeps.alloc [] w _).trans (Keeps.grown [w.heap.size] hg2 (fun k hk => by simp at hk; simp [hk])) (fun x hx hlt => by simp at hx; omega) : Keeps [] w w1)
  clear hown hgrow hnil hg2
  go_wp2_with fail
  go_ret
  exact ⟨v', rfl, by simpa using HO.out, HK.out⟩
theorem clone_any (a : Option Addr) (c : Nat) (zs : List Int) (w : World) (hz : IntsAt w a zs) (hb : zs.length ≤ 17592186044416) :
    Calls Tryd.prog 68 #[.slice a zs.length c] w fun e w' => ∃ a' c', e = .returned (.slice a' zs.length c') ∧ IntsAt w' a' zs ∧ Keeps [] w w' ∧ ∀ b off, a' = some ⟨b, off, none⟩ → w.heap.size ≤ b := by
  cases a with
  | none =>
    obtain rfl : zs = [] := by
      rcases hz with e | ⟨b, off, e, _⟩
      · exact e
      · cases e
    refine (clone_nil 0 c w).mono ?_
    rintro e w' ⟨rfl, rfl⟩
    exact ⟨none, 0, rfl, Or.inl rfl, Keeps.refl _ _, fun _ _ e => by cases e⟩
  | some ad =>
    refine (clone_some ad zs.length c zs w rfl hz hb).mono ?_
    rintro e w' ⟨v, rfl, ho, hk⟩
    obtain ⟨a', c', e1, _, h1, _, h2⟩ := nums_open ho
    exact ⟨a', c', by rw [e1], h1, hk, h2⟩
theorem rdef_lo (x : In8) (ar : Value) (w : World) (hop : x.op < 1) : Calls Tryd.prog 43 #[insV x ar] w fun e w' => e = .returned (defV x) ∧ Keeps [] w w' := by
  rw [defV_no (by unfold isDef; simp; omega)]
  unfold insV
  have f1 : x.op < 1 := hop
  clear hop
  go_enter Tryd.func43, Tryd.ntmps43
  go_wp2
  go_ret2
  exact ⟨rfl, Keeps.alloc _ _ _⟩
theorem rdef_hi (x : In8) (ar : Value) (w : World) (hop : 15 < x.op) : Calls Tryd.prog 43 #[insV x ar] w fun e w' => e = .returned (defV x) ∧ Keeps [] w w' := by
  rw [defV_no (by unfold isDef; simp; omega)]
  unfold insV
  have f1 : ¬ x.op < 1 := by omega
  have f2 : 15 < x.op := hop
  clear hop
  go_enter Tryd.func43, Tryd.ntmps43
  go_wp2
  go_ret2
  exact ⟨rfl, Keeps.alloc _ _ _⟩
theorem rdef_8 (x : In8) (ar : Value) (w : World) (hop : x.op = 8) : Calls Tryd.prog 43 #[insV x ar] w fun e w' => e = .returned (defV x) ∧ Keeps [] w w' := by
  rw [defV_no (by unfold isDef; simp; omega)]
  unfold insV
  have f1 : ¬ x.op < 1 := by omega
  have f2 : ¬ 15 < x.op := by omega
  have o8 := eqb hop
  clear hop
  go_enter Tryd.func43, Tryd.ntmps43
  go_wp2
  go_ret2
  exact ⟨rfl, Keeps.alloc _ _ _⟩
theorem rdef_9 (x : In8) (ar : Value) (w : World) (hop : x.op = 9) : Calls Tryd.prog 43 #[insV x ar] w fun e w' => e = .returned (defV x) ∧ Keeps [] w w' := by
  rw [defV_no (by unfold isDef; simp; omega)]
  unfold insV
  have f1 : ¬ x.op < 1 := by omega
  have f2 : ¬ 15 < x.op := by omega
  have o8 := neb (show x.op ≠ 8 by omega)
  have o9 := eqb hop
  clear hop
  go_enter Tryd.func43, Tryd.ntmps43
  go_wp2
  go_ret2
  exact ⟨rfl, Keeps.alloc _ _ _⟩
theorem rdef_15 (x : In8) (ar : Value) (w : World) (hop : x.op = 15) : Calls Tryd.prog 43 #[insV x ar] w fun e w' => e = .returned (defV x) ∧ Keeps [] w w' := by
  rw [defV_no (by unfold isDef; simp; omega)]
  unfold insV
  have f1 : ¬ x.op < 1 := by omega
  have f2 : ¬ 15 < x.op := by omega
  have o8 := neb (show x.op ≠ 8 by omega)
  have o9 := neb (show x.op ≠ 9 by omega)
  have o15 := eqb hop
  clear hop
  go_enter Tryd.func43, Tryd.ntmps43
  go_wp2
  go_ret2
  exact ⟨rfl, Keeps.alloc _ _ _⟩
theorem rdef_yes (x : In8) (ar : Value) (w : World) (hop : 1 ≤ x.op ∧ x.op ≤ 14 ∧ x.op ≠ 8 ∧ x.op ≠ 9) : Calls Tryd.prog 43 #[insV x ar] w fun e w' => e = .returned (defV x) ∧ Keeps [] w w' := by
  rw [defV_yes (by unfold isDef; simp; omega)]
  unfold insV
  have f1 : ¬ x.op < 1 := by omega
  have f2 : ¬ 15 < x.op := by omega
  have o8 := neb (show x.op ≠ 8 by omega)
  have o9 := neb (show x.op ≠ 9 by omega)
  have o15 := neb (show x.op ≠ 15 by omega)
  clear hop
  go_enter Tryd.func43, Tryd.ntmps43
  go_wp2
  go_ret2
  exact ⟨rfl, Keeps.alloc _ _ _⟩
theorem rdef_any (x : In8) (ar : Value) (w : World) : Calls Tryd.prog 43 #[insV x ar] w fun e w' => e = .returned (defV x) ∧ Keeps [] w w' := by
  by_cases h1 : x.op < 1
  · exact rdef_lo x ar w h1
  by_cases h2 : 15 < x.op
  · exact rdef_hi x ar w h2
  by_cases h8 : x.op = 8
  · exact rdef_8 x ar w h8
  by_cases h9 : x.op = 9
  · exact rdef_9 x ar w h9
  by_cases h15 : x.op = 15
  · exact rdef_15 x ar w h15
  exact rdef_yes x ar w ⟨by omega, by omega, h8, h9⟩
def usesL (x : In8) : List Int := if x.op = 2 ∨ x.op = 8 then [x.a, x.b] else if x.op = 6 ∨ x.op = 7 ∨ x.op = 9 ∨ x.op = 11 ∨ x.op = 15 then [x.a] else if x.op = 12 then x.args else if x.op = 13 ∨ x.op = 14 then x.a :: x.args else []
theorem lit1 (w : World) (b : Nat) (hb : b = w.heap.size) (z : Int) : IntsAt (w.alloc (.cells #[.int .i64 z] 3)) (some ⟨b, 0, none⟩) [z] := by
  subst hb
  exact .inr ⟨_, 0, rfl, fun i hi => by
    obtain rfl : i = 0 := by simpa using hi
    rw [World.cell?_alloc_at _ _ _ _ rfl]; rfl⟩
theorem lit2 (w : World) (b : Nat) (hb : b = w.heap.size) (y z : Int) : IntsAt (w.alloc (.cells #[.int .i64 y, .int .i64 z] 3)) (some ⟨b, 0, none⟩) [y, z] := by
  subst hb
  exact .inr ⟨_, 0, rfl, fun i hi => by
    rw [World.cell?_alloc_at _ _ _ _ rfl]
    rcases (show i = 0 ∨ i = 1 by simp at hi; omega) with rfl | rfl <;> rfl⟩
theorem row1 (w : World) (base b : Nat) (hb : b = w.heap.size) (hs : base ≤ w.heap.size) (z : Int) : (w.alloc (.cells #[.int .i64 z] 3)).ownsRow base 3 1 (.slice (some ⟨b, 0, none⟩) 1 1) 1 [.int .i64 z] := by
  subst hb
  exact World.ownsRow_lit (base := base) (e := 3) (size := 1) w #[.int .i64 z] 1 hs (by unfold maxLen; omega) rfl
theorem numC_cells {w : World} {ad : Addr} {l : List Int} (h : IntsAt w (some ad) l) : ∀ j u, (numC l)[j]? = some u → w.cell? (ad.add j) = some u := by
  rcases h with e | ⟨b, off, e, h⟩
  · intro j u hj; rw [e] at hj; simp [numC] at hj
  · cases e
    exact numC_at h
set_option maxHeartbeats 4000000 in
theorem uuse_2 (x : In8) (a : Option Addr) (cp : Nat) (w : World) (hop : x.op = 2) : Calls Tryd.prog 64 #[insV x (.slice a x.args.length cp)] w fun e w' => ∃ a' c', e = .returned (.slice a' ([x.a, x.b]).length c') ∧ IntsAt w' a' ([x.a, x.b]) ∧ Keeps [] w w' := by
  have o2 := eqb hop
  clear hop
  unfold insV
  go_enter Tryd.func64, Tryd.ntmps64
  go_wp2
  go_ret
  exact ⟨_, _, rfl, lit2 _ _ (by simp) _ _, (Keeps.alloc [] _ _).quiet (Keeps.alloc [] _ _)⟩
set_option maxHeartbeats 4000000 in
theorem uuse_8 (x : In8) (a : Option Addr) (cp : Nat) (w : World) (hop : x.op = 8) : Calls Tryd.prog 64 #[insV x (.slice a x.args.length cp)] w fun e w' => ∃ a' c', e = .returned (.slice a' ([x.a, x.b]).length c') ∧ IntsAt w' a' ([x.a, x.b]) ∧ Keeps [] w w' := by
  have o2 := neb (show x.op ≠ 2 by omega)
  have o8 := eqb hop
  clear hop
  unfold insV
  go_enter Tryd.func64, Tryd.ntmps64
  go_wp2
  go_ret
  exact ⟨_, _, rfl, lit2 _ _ (by simp) _ _, (Keeps.alloc [] _ _).quiet (Keeps.alloc [] _ _)⟩
set_option maxHeartbeats 4000000 in
theorem uuse_6 (x : In8) (a : Option Addr) (cp : Nat) (w : World) (hop : x.op = 6) : Calls Tryd.prog 64 #[insV x (.slice a x.args.length cp)] w fun e w' => ∃ a' c', e = .returned (.slice a' ([x.a]).length c') ∧ IntsAt w' a' ([x.a]) ∧ Keeps [] w w' := by
  have o2 := neb (show x.op ≠ 2 by omega)
  have o8 := neb (show x.op ≠ 8 by omega)
  have o6 := eqb hop
  clear hop
  unfold insV
  go_enter Tryd.func64, Tryd.ntmps64
  go_wp2
  go_ret
  exact ⟨_, _, rfl, lit1 _ _ (by simp) _, (Keeps.alloc [] _ _).quiet (Keeps.alloc [] _ _)⟩
set_option maxHeartbeats 4000000 in
theorem uuse_7 (x : In8) (a : Option Addr) (cp : Nat) (w : World) (hop : x.op = 7) : Calls Tryd.prog 64 #[insV x (.slice a x.args.length cp)] w fun e w' => ∃ a' c', e = .returned (.slice a' ([x.a]).length c') ∧ IntsAt w' a' ([x.a]) ∧ Keeps [] w w' := by
  have o2 := neb (show x.op ≠ 2 by omega)
  have o8 := neb (show x.op ≠ 8 by omega)
  have o6 := neb (show x.op ≠ 6 by omega)
  have o7 := eqb hop
  clear hop
  unfold insV
  go_enter Tryd.func64, Tryd.ntmps64
  go_wp2
  go_ret
  exact ⟨_, _, rfl, lit1 _ _ (by simp) _, (Keeps.alloc [] _ _).quiet (Keeps.alloc [] _ _)⟩
set_option maxHeartbeats 4000000 in
theorem uuse_9 (x : In8) (a : Option Addr) (cp : Nat) (w : World) (hop : x.op = 9) : Calls Tryd.prog 64 #[insV x (.slice a x.args.length cp)] w fun e w' => ∃ a' c', e = .returned (.slice a' ([x.a]).length c') ∧ IntsAt w' a' ([x.a]) ∧ Keeps [] w w' := by
  have o2 := neb (show x.op ≠ 2 by omega)
  have o8 := neb (show x.op ≠ 8 by omega)
  have o6 := neb (show x.op ≠ 6 by omega)
  have o7 := neb (show x.op ≠ 7 by omega)
  have o9 := eqb hop
  clear hop
  unfold insV
  go_enter Tryd.func64, Tryd.ntmps64
  go_wp2
  go_ret
  exact ⟨_, _, rfl, lit1 _ _ (by simp) _, (Keeps.alloc [] _ _).quiet (Keeps.alloc [] _ _)⟩
set_option maxHeartbeats 4000000 in
theorem uuse_11 (x : In8) (a : Option Addr) (cp : Nat) (w : World) (hop : x.op = 11) : Calls Tryd.prog 64 #[insV x (.slice a x.args.length cp)] w fun e w' => ∃ a' c', e = .returned (.slice a' ([x.a]).length c') ∧ IntsAt w' a' ([x.a]) ∧ Keeps [] w w' := by
  have o2 := neb (show x.op ≠ 2 by omega)
  have o8 := neb (show x.op ≠ 8 by omega)
  have o6 := neb (show x.op ≠ 6 by omega)
  have o7 := neb (show x.op ≠ 7 by omega)
  have o9 := neb (show x.op ≠ 9 by omega)
  have o11 := eqb hop
  clear hop
  unfold insV
  go_enter Tryd.func64, Tryd.ntmps64
  go_wp2
  go_ret
  exact ⟨_, _, rfl, lit1 _ _ (by simp) _, (Keeps.alloc [] _ _).quiet (Keeps.alloc [] _ _)⟩
set_option maxHeartbeats 4000000 in
theorem uuse_15 (x : In8) (a : Option Addr) (cp : Nat) (w : World) (hop : x.op = 15) : Calls Tryd.prog 64 #[insV x (.slice a x.args.length cp)] w fun e w' => ∃ a' c', e = .returned (.slice a' ([x.a]).length c') ∧ IntsAt w' a' ([x.a]) ∧ Keeps [] w w' := by
  have o2 := neb (show x.op ≠ 2 by omega)
  have o8 := neb (show x.op ≠ 8 by omega)
  have o6 := neb (show x.op ≠ 6 by omega)
  have o7 := neb (show x.op ≠ 7 by omega)
  have o9 := neb (show x.op ≠ 9 by omega)
  have o11 := neb (show x.op ≠ 11 by omega)
  have o15 := eqb hop
  clear hop
  unfold insV
  go_enter Tryd.func64, Tryd.ntmps64
  go_wp2
  go_ret
  exact ⟨_, _, rfl, lit1 _ _ (by simp) _, (Keeps.alloc [] _ _).quiet (Keeps.alloc [] _ _)⟩
set_option maxHeartbeats 4000000 in
theorem uuse_12 (x : In8) (a : Option Addr) (cp : Nat) (w : World) (hz : IntsAt w a x.args) (hl : x.args.length ≤ 1048576) (hop : x.op = 12) : Calls Tryd.prog 64 #[insV x (.slice a x.args.length cp)] w fun e w' => ∃ a' c', e = .returned (.slice a' (x.args).length c') ∧ IntsAt w' a' (x.args) ∧ Keeps [] w w' := by
  have o2 := neb (show x.op ≠ 2 by omega)
  have o8 := neb (show x.op ≠ 8 by omega)
  have o6 := neb (show x.op ≠ 6 by omega)
  have o7 := neb (show x.op ≠ 7 by omega)
  have o9 := neb (show x.op ≠ 9 by omega)
  have o11 := neb (show x.op ≠ 11 by omega)
  have o15 := neb (show x.op ≠ 15 by omega)
  have o12 := eqb hop
  have HC := hid (clone_any a cp x.args (w.alloc (.cells #[.int .i64 x.op, .int .i64 x.dst, .int .i64 x.a, .int .i64 x.b, .int .i64 x.n, .slice a x.args.length cp] 65)) (hz.kept (Keeps.alloc [] _ _) (fun _ _ _ => by simp)) (by omega))
  clear hop hz
  unfold insV
  go_enter Tryd.func64, Tryd.ntmps64
  go_wp2_with (go_at_call 68; refine HC.out.mono ?_; rintro e w1 ⟨a1, c1, rfl, h1, k1, _⟩)
  go_ret
  exact ⟨_, _, rfl, h1, (Keeps.alloc [] _ _).quiet k1⟩
set_option maxHeartbeats 4000000 in
theorem uuse_13 (x : In8) (a : Option Addr) (cp : Nat) (w : World) (hz : IntsAt w a x.args) (hl : x.args.length ≤ 1048576) (hop : x.op = 13) : Calls Tryd.prog 64 #[insV x (.slice a x.args.length cp)] w fun e w' => ∃ a' c', e = .returned (.slice a' (x.a :: x.args).length c') ∧ IntsAt w' a' (x.a :: x.args) ∧ Keeps [] w w' := by
  have o2 := neb (show x.op ≠ 2 by omega)
  have o8 := neb (show x.op ≠ 8 by omega)
  have o6 := neb (show x.op ≠ 6 by omega)
  have o7 := neb (show x.op ≠ 7 by omega)
  have o9 := neb (show x.op ≠ 9 by omega)
  have o11 := neb (show x.op ≠ 11 by omega)
  have o15 := neb (show x.op ≠ 15 by omega)
  have o12 := neb (show x.op ≠ 12 by omega)
  have o13 := eqb hop
  clear hop
  unfold insV
  have HK := hid (Keeps.alloc [] w (.cells #[.int .i64 x.op, .int .i64 x.dst, .int .i64 x.a, .int .i64 x.b, .int .i64 x.n, .slice a x.args.length cp] 65))
  cases a with
  | none =>
    have he : x.args = [] := by
      rcases hz with e | ⟨b, off, e, _⟩
      · exact e
      · cases e
    rw [he]
    rw [he] at HK
    clear hz hl he
    go_enter Tryd.func64, Tryd.ntmps64
    go_wp2_with (at_builtin; go_must (refine wpList_append_nil rfl _ _ 54 rfl w.heap.size 3 Tryd.t3 1 under_ints info_int _ 1 [.int .i64 x.a] rfl (row1 _ w.heap.size _ (by simp) (by simp) x.a) rfl ?_))
    go_ret
    first | exact ⟨_, ⟨_, rfl⟩, lit1 _ _ (by simp) _, HK.out.quiet (Keeps.alloc [] _ _)⟩ | exact ⟨_, _, rfl, lit1 _ _ (by simp) _, HK.out.quiet (Keeps.alloc [] _ _)⟩
  | some ad =>
    have HK2 := hid (HK.out.quiet (Keeps.alloc [] (w.alloc (.cells #[.int .i64 x.op, .int .i64 x.dst, .int .i64 x.a, .int .i64 x.b, .int .i64 x.n, .slice (some ad) x.args.length cp] 65)) (.cells #[.int .i64 x.a] 3)))
    have HZ := hid (hz.kept HK2.out (fun _ _ _ => by simp))
    generalize x.args = ag at *
    clear hz
    go_enter Tryd.func64, Tryd.ntmps64
    go_wp2_with (at_builtin; go_must (refine wpList_append_own _ rfl _ _ 54 rfl w.heap.size 3 Tryd.t3 (.int .i64 0) 1 8 under_ints info_int zero_int size_int bytes_int rfl (by decide) _ 1 [.int .i64 x.a] rfl (row1 _ w.heap.size _ (by simp) (by simp) x.a) ad ag.length cp (numC ag) rfl (by rw [numC_len]; omega) (numC_cells HZ.out) (numC_one ag) (by unfold maxLen; omega) (by omega) (by simp; omega) ?_; intro v' w1 hown hgrow hnil))
    have hg2 : ((w.alloc (.cells #[.int .i64 x.op, .int .i64 x.dst, .int .i64 x.a, .int .i64 x.b, .int .i64 x.n, .slice (some ad) ag.length cp] 65)).alloc (.cells #[.int .i64 x.a] 3)).grownBy w1 (some (w.heap.size + 1)) := hgrow
    have HK1 := hid (HK2.out.fresh (Keeps.grown [w.heap.size + 1] hg2 (fun k hk => by simp at hk; simp [hk])) (fun y hy => by simp at hy; omega))
    have HO : Box (w1.ownsRow w.heap.size 3 1 v' (1 + ag.length) (numC (x.a :: ag))) := hid hown
    clear hgrow hnil hown hg2
    go_wp2_with fail
    go_ret
    obtain ⟨a', c', e1, e2, e3, _, _⟩ := nums_open HO.out
    exact ⟨a', c', by rw [Nat.add_comm] at e1; exact congrArg Ending.returned e1, e3, HK1.out⟩
set_option maxHeartbeats 4000000 in
theorem uuse_14 (x : In8) (a : Option Addr) (cp : Nat) (w : World) (hz : IntsAt w a x.args) (hl : x.args.length ≤ 1048576) (hop : x.op = 14) : Calls Tryd.prog 64 #[insV x (.slice a x.args.length cp)] w fun e w' => ∃ a' c', e = .returned (.slice a' (x.a :: x.args).length c') ∧ IntsAt w' a' (x.a :: x.args) ∧ Keeps [] w w' := by
  have o2 := neb (show x.op ≠ 2 by omega)
  have o8 := neb (show x.op ≠ 8 by omega)
  have o6 := neb (show x.op ≠ 6 by omega)
  have o7 := neb (show x.op ≠ 7 by omega)
  have o9 := neb (show x.op ≠ 9 by omega)
  have o11 := neb (show x.op ≠ 11 by omega)
  have o15 := neb (show x.op ≠ 15 by omega)
  have o12 := neb (show x.op ≠ 12 by omega)
  have o13 := neb (show x.op ≠ 13 by omega)
  have o14 := eqb hop
  clear hop
  unfold insV
  have HK := hid (Keeps.alloc [] w (.cells #[.int .i64 x.op, .int .i64 x.dst, .int .i64 x.a, .int .i64 x.b, .int .i64 x.n, .slice a x.args.length cp] 65))
  cases a with
  | none =>
    have he : x.args = [] := by
      rcases hz with e | ⟨b, off, e, _⟩
      · exact e
      · cases e
    rw [he]
    rw [he] at HK
    clear hz hl he
    go_enter Tryd.func64, Tryd.ntmps64
    go_wp2_with (at_builtin; go_must (refine wpList_append_nil rfl _ _ 54 rfl w.heap.size 3 Tryd.t3 1 under_ints info_int _ 1 [.int .i64 x.a] rfl (row1 _ w.heap.size _ (by simp) (by simp) x.a) rfl ?_))
    go_ret
    first | exact ⟨_, ⟨_, rfl⟩, lit1 _ _ (by simp) _, HK.out.quiet (Keeps.alloc [] _ _)⟩ | exact ⟨_, _, rfl, lit1 _ _ (by simp) _, HK.out.quiet (Keeps.alloc [] _ _)⟩
  | some ad =>
    have HK2 := hid (HK.out.quiet (Keeps.alloc [] (w.alloc (.cells #[.int .i64 x.op, .int .i64 x.dst, .int .i64 x.a, .int .i64 x.b, .int .i64 x.n, .slice (some ad) x.args.length cp] 65)) (.cells #[.int .i64 x.a] 3)))
    have HZ := hid (hz.kept HK2.out (fun _ _ _ => by simp))
    generalize x.args = ag at *
    clear hz
    go_enter Tryd.func64, Tryd.ntmps64
    go_wp2_with (at_builtin; go_must (refine wpList_append_own _ rfl _ _ 54 rfl w.heap.size 3 Tryd.t3 (.int .i64 0) 1 8 under_ints info_int zero_int size_int bytes_int rfl (by decide) _ 1 [.int .i64 x.a] rfl (row1 _ w.heap.size _ (by simp) (by simp) x.a) ad ag.length cp (numC ag) rfl (by rw [numC_len]; omega) (numC_cells HZ.out) (numC_one ag) (by unfold maxLen; omega) (by omega) (by simp; omega) ?_; intro v' w1 hown hgrow hnil))
    have hg2 : ((w.alloc (.cells #[.int .i64 x.op, .int .i64 x.dst, .int .i64 x.a, .int .i64 x.b, .int .i64 x.n, .slice (some ad) ag.length cp] 65)).alloc (.cells #[.int .i64 x.a] 3)).grownBy w1 (some (w.heap.size + 1)) := hgrow
    have HK1 := hid (HK2.out.fresh (Keeps.grown [w.heap.size + 1] hg2 (fun k hk => by simp at hk; simp [hk])) (fun y hy => by simp at hy; omega))
    have HO : Box (w1.ownsRow w.heap.size 3 1 v' (1 + ag.length) (numC (x.a :: ag))) := hid hown
    clear hgrow hnil hown hg2
    go_wp2_with fail
    go_ret
    obtain ⟨a', c', e1, e2, e3, _, _⟩ := nums_open HO.out
    exact ⟨a', c', by rw [Nat.add_comm] at e1; exact congrArg Ending.returned e1, e3, HK1.out⟩
set_option maxHeartbeats 4000000 in
theorem uuse_no (x : In8) (a : Option Addr) (cp : Nat) (w : World) (hop : x.op ≠ 2 ∧ x.op ≠ 8 ∧ x.op ≠ 6 ∧ x.op ≠ 7 ∧ x.op ≠ 9 ∧ x.op ≠ 11 ∧ x.op ≠ 15 ∧ x.op ≠ 12 ∧ x.op ≠ 13 ∧ x.op ≠ 14) : Calls Tryd.prog 64 #[insV x (.slice a x.args.length cp)] w fun e w' => e = .returned (.slice none 0 0) ∧ Keeps [] w w' := by
  have o2 := neb (show x.op ≠ 2 by omega)
  have o8 := neb (show x.op ≠ 8 by omega)
  have o6 := neb (show x.op ≠ 6 by omega)
  have o7 := neb (show x.op ≠ 7 by omega)
  have o9 := neb (show x.op ≠ 9 by omega)
  have o11 := neb (show x.op ≠ 11 by omega)
  have o15 := neb (show x.op ≠ 15 by omega)
  have o12 := neb (show x.op ≠ 12 by omega)
  have o13 := neb (show x.op ≠ 13 by omega)
  have o14 := neb (show x.op ≠ 14 by omega)
  clear hop
  unfold insV
  go_enter Tryd.func64, Tryd.ntmps64
  go_wp2
  go_ret
  exact ⟨rfl, Keeps.alloc _ _ _⟩
theorem uuse_any (x : In8) (a : Option Addr) (cp : Nat) (w : World) (hz : IntsAt w a x.args) (hl : x.args.length ≤ 1048576) : Calls Tryd.prog 64 #[insV x (.slice a x.args.length cp)] w fun e w' => ∃ a' c', e = .returned (.slice a' (usesL x).length c') ∧ IntsAt w' a' (usesL x) ∧ Keeps [] w w' := by
  unfold usesL
  by_cases g1 : x.op = 2 ∨ x.op = 8
  · rw [if_pos g1]
    rcases g1 with h | h
    · exact uuse_2 x a cp w h
    · exact uuse_8 x a cp w h
  rw [if_neg g1]
  by_cases g2 : x.op = 6 ∨ x.op = 7 ∨ x.op = 9 ∨ x.op = 11 ∨ x.op = 15
  · rw [if_pos g2]
    rcases g2 with h | h | h | h | h
    · exact uuse_6 x a cp w h
    · exact uuse_7 x a cp w h
    · exact uuse_9 x a cp w h
    · exact uuse_11 x a cp w h
    · exact uuse_15 x a cp w h
  rw [if_neg g2]
  by_cases g3 : x.op = 12
  · rw [if_pos g3]
    exact uuse_12 x a cp w hz hl g3
  rw [if_neg g3]
  by_cases g4 : x.op = 13 ∨ x.op = 14
  · rw [if_pos g4]
    rcases g4 with h | h
    · exact uuse_13 x a cp w hz hl h
    · exact uuse_14 x a cp w hz hl h
  rw [if_neg g4]
  refine (uuse_no x a cp w (by omega)).mono ?_
  rintro e w' ⟨rfl, k⟩
  exact ⟨none, 0, rfl, .inl rfl, k⟩
set_option maxHeartbeats 4000000 in
theorem vuse_2 (x : In8) (a : Option Addr) (cp : Nat) (w : World) (hop : x.op = 2) : Calls Tryd.prog 62 #[insV x (.slice a x.args.length cp)] w fun e w' => ∃ a' c', e = .returned (.slice a' ([x.a, x.b]).length c') ∧ IntsAt w' a' ([x.a, x.b]) ∧ Keeps [] w w' := by
  have o2 := eqb hop
  clear hop
  unfold insV
  go_enter Tryd.func62, Tryd.ntmps62
  go_wp2
  go_ret
  exact ⟨_, _, rfl, lit2 _ _ (by simp) _ _, (Keeps.alloc [] _ _).quiet (Keeps.alloc [] _ _)⟩
set_option maxHeartbeats 4000000 in
theorem vuse_8 (x : In8) (a : Option Addr) (cp : Nat) (w : World) (hop : x.op = 8) : Calls Tryd.prog 62 #[insV x (.slice a x.args.length cp)] w fun e w' => ∃ a' c', e = .returned (.slice a' ([x.a, x.b]).length c') ∧ IntsAt w' a' ([x.a, x.b]) ∧ Keeps [] w w' := by
  have o2 := neb (show x.op ≠ 2 by omega)
  have o8 := eqb hop
  clear hop
  unfold insV
  go_enter Tryd.func62, Tryd.ntmps62
  go_wp2
  go_ret
  exact ⟨_, _, rfl, lit2 _ _ (by simp) _ _, (Keeps.alloc [] _ _).quiet (Keeps.alloc [] _ _)⟩
set_option maxHeartbeats 4000000 in
theorem vuse_6 (x : In8) (a : Option Addr) (cp : Nat) (w : World) (hop : x.op = 6) : Calls Tryd.prog 62 #[insV x (.slice a x.args.length cp)] w fun e w' => ∃ a' c', e = .returned (.slice a' ([x.a]).length c') ∧ IntsAt w' a' ([x.a]) ∧ Keeps [] w w' := by
  have o2 := neb (show x.op ≠ 2 by omega)
  have o8 := neb (show x.op ≠ 8 by omega)
  have o6 := eqb hop
  clear hop
  unfold insV
  go_enter Tryd.func62, Tryd.ntmps62
  go_wp2
  go_ret
  exact ⟨_, _, rfl, lit1 _ _ (by simp) _, (Keeps.alloc [] _ _).quiet (Keeps.alloc [] _ _)⟩
set_option maxHeartbeats 4000000 in
theorem vuse_7 (x : In8) (a : Option Addr) (cp : Nat) (w : World) (hop : x.op = 7) : Calls Tryd.prog 62 #[insV x (.slice a x.args.length cp)] w fun e w' => ∃ a' c', e = .returned (.slice a' ([x.a]).length c') ∧ IntsAt w' a' ([x.a]) ∧ Keeps [] w w' := by
  have o2 := neb (show x.op ≠ 2 by omega)
  have o8 := neb (show x.op ≠ 8 by omega)
  have o6 := neb (show x.op ≠ 6 by omega)
  have o7 := eqb hop
  clear hop
  unfold insV
  go_enter Tryd.func62, Tryd.ntmps62
  go_wp2
  go_ret
  exact ⟨_, _, rfl, lit1 _ _ (by simp) _, (Keeps.alloc [] _ _).quiet (Keeps.alloc [] _ _)⟩
set_option maxHeartbeats 4000000 in
theorem vuse_9 (x : In8) (a : Option Addr) (cp : Nat) (w : World) (hop : x.op = 9) : Calls Tryd.prog 62 #[insV x (.slice a x.args.length cp)] w fun e w' => ∃ a' c', e = .returned (.slice a' ([x.a]).length c') ∧ IntsAt w' a' ([x.a]) ∧ Keeps [] w w' := by
  have o2 := neb (show x.op ≠ 2 by omega)
  have o8 := neb (show x.op ≠ 8 by omega)
  have o6 := neb (show x.op ≠ 6 by omega)
  have o7 := neb (show x.op ≠ 7 by omega)
  have o9 := eqb hop
  clear hop
  unfold insV
  go_enter Tryd.func62, Tryd.ntmps62
  go_wp2
  go_ret
  exact ⟨_, _, rfl, lit1 _ _ (by simp) _, (Keeps.alloc [] _ _).quiet (Keeps.alloc [] _ _)⟩
set_option maxHeartbeats 4000000 in
theorem vuse_11 (x : In8) (a : Option Addr) (cp : Nat) (w : World) (hop : x.op = 11) : Calls Tryd.prog 62 #[insV x (.slice a x.args.length cp)] w fun e w' => ∃ a' c', e = .returned (.slice a' ([x.a]).length c') ∧ IntsAt w' a' ([x.a]) ∧ Keeps [] w w' := by
  have o2 := neb (show x.op ≠ 2 by omega)
  have o8 := neb (show x.op ≠ 8 by omega)
  have o6 := neb (show x.op ≠ 6 by omega)
  have o7 := neb (show x.op ≠ 7 by omega)
  have o9 := neb (show x.op ≠ 9 by omega)
  have o11 := eqb hop
  clear hop
  unfold insV
  go_enter Tryd.func62, Tryd.ntmps62
  go_wp2
  go_ret
  exact ⟨_, _, rfl, lit1 _ _ (by simp) _, (Keeps.alloc [] _ _).quiet (Keeps.alloc [] _ _)⟩
set_option maxHeartbeats 4000000 in
theorem vuse_15 (x : In8) (a : Option Addr) (cp : Nat) (w : World) (hop : x.op = 15) : Calls Tryd.prog 62 #[insV x (.slice a x.args.length cp)] w fun e w' => ∃ a' c', e = .returned (.slice a' ([x.a]).length c') ∧ IntsAt w' a' ([x.a]) ∧ Keeps [] w w' := by
  have o2 := neb (show x.op ≠ 2 by omega)
  have o8 := neb (show x.op ≠ 8 by omega)
  have o6 := neb (show x.op ≠ 6 by omega)
  have o7 := neb (show x.op ≠ 7 by omega)
  have o9 := neb (show x.op ≠ 9 by omega)
  have o11 := neb (show x.op ≠ 11 by omega)
  have o15 := eqb hop
  clear hop
  unfold insV
  go_enter Tryd.func62, Tryd.ntmps62
  go_wp2
  go_ret
  exact ⟨_, _, rfl, lit1 _ _ (by simp) _, (Keeps.alloc [] _ _).quiet (Keeps.alloc [] _ _)⟩
set_option maxHeartbeats 4000000 in
theorem vuse_12 (x : In8) (a : Option Addr) (cp : Nat) (w : World) (hz : IntsAt w a x.args) (hl : x.args.length ≤ 1048576) (hop : x.op = 12) : Calls Tryd.prog 62 #[insV x (.slice a x.args.length cp)] w fun e w' => ∃ a' c', e = .returned (.slice a' (x.args).length c') ∧ IntsAt w' a' (x.args) ∧ Keeps [] w w' := by
  have o2 := neb (show x.op ≠ 2 by omega)
  have o8 := neb (show x.op ≠ 8 by omega)
  have o6 := neb (show x.op ≠ 6 by omega)
  have o7 := neb (show x.op ≠ 7 by omega)
  have o9 := neb (show x.op ≠ 9 by omega)
  have o11 := neb (show x.op ≠ 11 by omega)
  have o15 := neb (show x.op ≠ 15 by omega)
  have o12 := eqb hop
  clear hop
  unfold insV
  have HK := hid (Keeps.alloc [] w (.cells #[.int .i64 x.op, .int .i64 x.dst, .int .i64 x.a, .int .i64 x.b, .int .i64 x.n, .slice a x.args.length cp] 65))
  cases a with
  | none =>
    have he : x.args = [] := by
      rcases hz with e | ⟨b, off, e, _⟩
      · exact e
      · cases e
    rw [he]
    rw [he] at HK
    clear hz hl he
    go_enter Tryd.func62, Tryd.ntmps62
    go_wp2_with (at_builtin; go_must (refine wpList_append_nil rfl _ _ 54 rfl w.heap.size 3 Tryd.t3 1 under_ints info_int (.slice none 0 0) 0 [] rfl (World.ownsRow_nil _ _ _ _) rfl ?_))
    go_ret
    first | exact ⟨none, ⟨0, rfl⟩, .inl rfl, HK.out⟩ | exact ⟨_, _, rfl, .inl rfl, HK.out⟩
  | some ad =>
    have HZ := hid (hz.kept HK.out (fun _ _ _ => by simp))
    generalize x.args = ag at *
    clear hz
    go_enter Tryd.func62, Tryd.ntmps62
    go_wp2_with (at_builtin; go_must (refine wpList_append_own _ rfl _ _ 54 rfl w.heap.size 3 Tryd.t3 (.int .i64 0) 1 8 under_ints info_int zero_int size_int bytes_int rfl (by decide) (.slice none 0 0) 0 [] rfl (World.ownsRow_nil _ _ _ _) ad ag.length cp (numC ag) rfl (by rw [numC_len]; omega) (numC_cells HZ.out) (numC_one ag) (by unfold maxLen; omega) (by omega) (by simp) ?_; intro v' w1 hown hgrow hnil))
    have hg2 : (w.alloc (.cells #[.int .i64 x.op, .int .i64 x.dst, .int .i64 x.a, .int .i64 x.b, .int .i64 x.n, .slice (some ad) ag.length cp] 65)).grownBy w1 none := hgrow
    have HK1 := hid (HK.out.quiet (Keeps.grown [] hg2 (by simp)))
    have HO := hid hown
    clear hgrow hnil hown hg2
    go_wp2_with fail
    go_ret
    obtain ⟨a', c', e1, e2, e3, _, _⟩ := nums_open (l := ag) (n := 0 + ag.length) (by simpa using HO.out)
    exact ⟨a', ⟨c', by rw [Nat.zero_add] at e1; exact congrArg Ending.returned e1⟩, e3, HK1.out⟩
set_option maxHeartbeats 4000000 in
theorem vuse_13 (x : In8) (a : Option Addr) (cp : Nat) (w : World) (hz : IntsAt w a x.args) (hl : x.args.length ≤ 1048576) (hop : x.op = 13) : Calls Tryd.prog 62 #[insV x (.slice a x.args.length cp)] w fun e w' => ∃ a' c', e = .returned (.slice a' (x.a :: x.args).length c') ∧ IntsAt w' a' (x.a :: x.args) ∧ Keeps [] w w' := by
  have o2 := neb (show x.op ≠ 2 by omega)
  have o8 := neb (show x.op ≠ 8 by omega)
  have o6 := neb (show x.op ≠ 6 by omega)
  have o7 := neb (show x.op ≠ 7 by omega)
  have o9 := neb (show x.op ≠ 9 by omega)
  have o11 := neb (show x.op ≠ 11 by omega)
  have o15 := neb (show x.op ≠ 15 by omega)
  have o12 := neb (show x.op ≠ 12 by omega)
  have o13 := eqb hop
  clear hop
  unfold insV
  have HK := hid (Keeps.alloc [] w (.cells #[.int .i64 x.op, .int .i64 x.dst, .int .i64 x.a, .int .i64 x.b, .int .i64 x.n, .slice a x.args.length cp] 65))
  cases a with
  | none =>
    have he : x.args = [] := by
      rcases hz with e | ⟨b, off, e, _⟩
      · exact e
      · cases e
    rw [he]
    rw [he] at HK
    clear hz hl he
    go_enter Tryd.func62, Tryd.ntmps62
    go_wp2_with (at_builtin; go_must (refine wpList_append_nil rfl _ _ 54 rfl w.heap.size 3 Tryd.t3 1 under_ints info_int _ 1 [.int .i64 x.a] rfl (row1 _ w.heap.size _ (by simp) (by simp) x.a) rfl ?_))
    go_ret
    first | exact ⟨_, ⟨_, rfl⟩, lit1 _ _ (by simp) _, HK.out.quiet (Keeps.alloc [] _ _)⟩ | exact ⟨_, _, rfl, lit1 _ _ (by simp) _, HK.out.quiet (Keeps.alloc [] _ _)⟩
  | some ad =>
    have HK2 := hid (HK.out.quiet (Keeps.alloc [] (w.alloc (.cells #[.int .i64 x.op, .int .i64 x.dst, .int .i64 x.a, .int .i64 x.b, .int .i64 x.n, .slice (some ad) x.args.length cp] 65)) (.cells #[.int .i64 x.a] 3)))
    have HZ := hid (hz.kept HK2.out (fun _ _ _ => by simp))
    generalize x.args = ag at *
    clear hz
    go_enter Tryd.func62, Tryd.ntmps62
    go_wp2_with (at_builtin; go_must (refine wpList_append_own _ rfl _ _ 54 rfl w.heap.size 3 Tryd.t3 (.int .i64 0) 1 8 under_ints info_int zero_int size_int bytes_int rfl (by decide) _ 1 [.int .i64 x.a] rfl (row1 _ w.heap.size _ (by simp) (by simp) x.a) ad ag.length cp (numC ag) rfl (by rw [numC_len]; omega) (numC_cells HZ.out) (numC_one ag) (by unfold maxLen; omega) (by omega) (by simp; omega) ?_; intro v' w1 hown hgrow hnil))
    have hg2 : ((w.alloc (.cells #[.int .i64 x.op, .int .i64 x.dst, .int .i64 x.a, .int .i64 x.b, .int .i64 x.n, .slice (some ad) ag.length cp] 65)).alloc (.cells #[.int .i64 x.a] 3)).grownBy w1 (some (w.heap.size + 1)) := hgrow
    have HK1 := hid (HK2.out.fresh (Keeps.grown [w.heap.size + 1] hg2 (fun k hk => by simp at hk; simp [hk])) (fun y hy => by simp at hy; omega))
    have HO : Box (w1.ownsRow w.heap.size 3 1 v' (1 + ag.length) (numC (x.a :: ag))) := hid hown
    clear hgrow hnil hown hg2
    go_wp2_with fail
    go_ret
    obtain ⟨a', c', e1, e2, e3, _, _⟩ := nums_open HO.out
    exact ⟨a', c', by rw [Nat.add_comm] at e1; exact congrArg Ending.returned e1, e3, HK1.out⟩
set_option maxHeartbeats 4000000 in
theorem vuse_14 (x : In8) (a : Option Addr) (cp : Nat) (w : World) (hz : IntsAt w a x.args) (hl : x.args.length ≤ 1048576) (hop : x.op = 14) : Calls Tryd.prog 62 #[insV x (.slice a x.args.length cp)] w fun e w' => ∃ a' c', e = .returned (.slice a' (x.a :: x.args).length c') ∧ IntsAt w' a' (x.a :: x.args) ∧ Keeps [] w w' := by
  have o2 := neb (show x.op ≠ 2 by omega)
  have o8 := neb (show x.op ≠ 8 by omega)
  have o6 := neb (show x.op ≠ 6 by omega)
  have o7 := neb (show x.op ≠ 7 by omega)
  have o9 := neb (show x.op ≠ 9 by omega)
  have o11 := neb (show x.op ≠ 11 by omega)
  have o15 := neb (show x.op ≠ 15 by omega)
  have o12 := neb (show x.op ≠ 12 by omega)
  have o13 := neb (show x.op ≠ 13 by omega)
  have o14 := eqb hop
  clear hop
  unfold insV
  have HK := hid (Keeps.alloc [] w (.cells #[.int .i64 x.op, .int .i64 x.dst, .int .i64 x.a, .int .i64 x.b, .int .i64 x.n, .slice a x.args.length cp] 65))
  cases a with
  | none =>
    have he : x.args = [] := by
      rcases hz with e | ⟨b, off, e, _⟩
      · exact e
      · cases e
    rw [he]
    rw [he] at HK
    clear hz hl he
    go_enter Tryd.func62, Tryd.ntmps62
    go_wp2_with (at_builtin; go_must (refine wpList_append_nil rfl _ _ 54 rfl w.heap.size 3 Tryd.t3 1 under_ints info_int _ 1 [.int .i64 x.a] rfl (row1 _ w.heap.size _ (by simp) (by simp) x.a) rfl ?_))
    go_ret
    first | exact ⟨_, ⟨_, rfl⟩, lit1 _ _ (by simp) _, HK.out.quiet (Keeps.alloc [] _ _)⟩ | exact ⟨_, _, rfl, lit1 _ _ (by simp) _, HK.out.quiet (Keeps.alloc [] _ _)⟩
  | some ad =>
    have HK2 := hid (HK.out.quiet (Keeps.alloc [] (w.alloc (.cells #[.int .i64 x.op, .int .i64 x.dst, .int .i64 x.a, .int .i64 x.b, .int .i64 x.n, .slice (some ad) x.args.length cp] 65)) (.cells #[.int .i64 x.a] 3)))
    have HZ := hid (hz.kept HK2.out (fun _ _ _ => by simp))
    generalize x.args = ag at *
    clear hz
    go_enter Tryd.func62, Tryd.ntmps62
    go_wp2_with (at_builtin; go_must (refine wpList_append_own _ rfl _ _ 54 rfl w.heap.size 3 Tryd.t3 (.int .i64 0) 1 8 under_ints info_int zero_int size_int bytes_int rfl (by decide) _ 1 [.int .i64 x.a] rfl (row1 _ w.heap.size _ (by simp) (by simp) x.a) ad ag.length cp (numC ag) rfl (by rw [numC_len]; omega) (numC_cells HZ.out) (numC_one ag) (by unfold maxLen; omega) (by omega) (by simp; omega) ?_; intro v' w1 hown hgrow hnil))
    have hg2 : ((w.alloc (.cells #[.int .i64 x.op, .int .i64 x.dst, .int .i64 x.a, .int .i64 x.b, .int .i64 x.n, .slice (some ad) ag.length cp] 65)).alloc (.cells #[.int .i64 x.a] 3)).grownBy w1 (some (w.heap.size + 1)) := hgrow
    have HK1 := hid (HK2.out.fresh (Keeps.grown [w.heap.size + 1] hg2 (fun k hk => by simp at hk; simp [hk])) (fun y hy => by simp at hy; omega))
    have HO : Box (w1.ownsRow w.heap.size 3 1 v' (1 + ag.length) (numC (x.a :: ag))) := hid hown
    clear hgrow hnil hown hg2
    go_wp2_with fail
    go_ret
    obtain ⟨a', c', e1, e2, e3, _, _⟩ := nums_open HO.out
    exact ⟨a', c', by rw [Nat.add_comm] at e1; exact congrArg Ending.returned e1, e3, HK1.out⟩
set_option maxHeartbeats 4000000 in
theorem vuse_no (x : In8) (a : Option Addr) (cp : Nat) (w : World) (hop : x.op ≠ 2 ∧ x.op ≠ 8 ∧ x.op ≠ 6 ∧ x.op ≠ 7 ∧ x.op ≠ 9 ∧ x.op ≠ 11 ∧ x.op ≠ 15 ∧ x.op ≠ 12 ∧ x.op ≠ 13 ∧ x.op ≠ 14) : Calls Tryd.prog 62 #[insV x (.slice a x.args.length cp)] w fun e w' => e = .returned (.slice none 0 0) ∧ Keeps [] w w' := by
  have o2 := neb (show x.op ≠ 2 by omega)
  have o8 := neb (show x.op ≠ 8 by omega)
  have o6 := neb (show x.op ≠ 6 by omega)
  have o7 := neb (show x.op ≠ 7 by omega)
  have o9 := neb (show x.op ≠ 9 by omega)
  have o11 := neb (show x.op ≠ 11 by omega)
  have o15 := neb (show x.op ≠ 15 by omega)
  have o12 := neb (show x.op ≠ 12 by omega)
  have o13 := neb (show x.op ≠ 13 by omega)
  have o14 := neb (show x.op ≠ 14 by omega)
  clear hop
  unfold insV
  go_enter Tryd.func62, Tryd.ntmps62
  go_wp2
  go_ret
  exact ⟨rfl, Keeps.alloc _ _ _⟩
theorem vuse_any (x : In8) (a : Option Addr) (cp : Nat) (w : World) (hz : IntsAt w a x.args) (hl : x.args.length ≤ 1048576) : Calls Tryd.prog 62 #[insV x (.slice a x.args.length cp)] w fun e w' => ∃ a' c', e = .returned (.slice a' (usesL x).length c') ∧ IntsAt w' a' (usesL x) ∧ Keeps [] w w' := by
  unfold usesL
  by_cases g1 : x.op = 2 ∨ x.op = 8
  · rw [if_pos g1]
    rcases g1 with h | h
    · exact vuse_2 x a cp w h
    · exact vuse_8 x a cp w h
  rw [if_neg g1]
  by_cases g2 : x.op = 6 ∨ x.op = 7 ∨ x.op = 9 ∨ x.op = 11 ∨ x.op = 15
  · rw [if_pos g2]
    rcases g2 with h | h | h | h | h
    · exact vuse_6 x a cp w h
    · exact vuse_7 x a cp w h
    · exact vuse_9 x a cp w h
    · exact vuse_11 x a cp w h
    · exact vuse_15 x a cp w h
  rw [if_neg g2]
  by_cases g3 : x.op = 12
  · rw [if_pos g3]
    exact vuse_12 x a cp w hz hl g3
  rw [if_neg g3]
  by_cases g4 : x.op = 13 ∨ x.op = 14
  · rw [if_pos g4]
    rcases g4 with h | h
    · exact vuse_13 x a cp w hz hl h
    · exact vuse_14 x a cp w hz hl h
  rw [if_neg g4]
  refine (vuse_no x a cp w (by omega)).mono ?_
  rintro e w' ⟨rfl, k⟩
  exact ⟨none, 0, rfl, .inl rfl, k⟩
end Go.Proofs.YtmebkeidpklcbaaDoor
