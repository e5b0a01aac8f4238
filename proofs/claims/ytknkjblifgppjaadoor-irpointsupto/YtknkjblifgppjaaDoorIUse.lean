/-
  The document's own Def; Uses, the program's and the document's.
-/
import Derived.Test.YtknkjblifgppjaaDoorILine
import Derived.Test.YtknkjblifgppjaaDoorIAt
import Derived.Laws.AppendOwnNone
namespace Go.Proofs.YtknkjblifgppjaaDoor
open Go.RowKit Go.Shelf

theorem rdef_lo (x : In8) (ar : Value) (w : World) (hop : x.op < 1) : Calls Tryd.prog 17 #[insV x ar] w fun e w' => e = .returned (defV x) ∧ Keeps [] w w' := by
  rw [defV_no (by unfold isDef; simp; omega)]
  unfold insV
  have f1 : x.op < 1 := hop
  clear hop
  go_enter Tryd.func17, Tryd.ntmps17
  go_wp2
  go_ret2
  exact ⟨rfl, Keeps.alloc _ _ _⟩
theorem rdef_hi (x : In8) (ar : Value) (w : World) (hop : 15 < x.op) : Calls Tryd.prog 17 #[insV x ar] w fun e w' => e = .returned (defV x) ∧ Keeps [] w w' := by
  rw [defV_no (by unfold isDef; simp; omega)]
  unfold insV
  have f1 : ¬ x.op < 1 := by omega
  have f2 : 15 < x.op := hop
  clear hop
  go_enter Tryd.func17, Tryd.ntmps17
  go_wp2
  go_ret2
  exact ⟨rfl, Keeps.alloc _ _ _⟩
theorem rdef_8 (x : In8) (ar : Value) (w : World) (hop : x.op = 8) : Calls Tryd.prog 17 #[insV x ar] w fun e w' => e = .returned (defV x) ∧ Keeps [] w w' := by
  rw [defV_no (by unfold isDef; simp; omega)]
  unfold insV
  have f1 : ¬ x.op < 1 := by omega
  have f2 : ¬ 15 < x.op := by omega
  have o8 := eqb hop
  clear hop
  go_enter Tryd.func17, Tryd.ntmps17
  go_wp2
  go_ret2
  exact ⟨rfl, Keeps.alloc _ _ _⟩
theorem rdef_9 (x : In8) (ar : Value) (w : World) (hop : x.op = 9) : Calls Tryd.prog 17 #[insV x ar] w fun e w' => e = .returned (defV x) ∧ Keeps [] w w' := by
  rw [defV_no (by unfold isDef; simp; omega)]
  unfold insV
  have f1 : ¬ x.op < 1 := by omega
  have f2 : ¬ 15 < x.op := by omega
  have o8 := neb (show x.op ≠ 8 by omega)
  have o9 := eqb hop
  clear hop
  go_enter Tryd.func17, Tryd.ntmps17
  go_wp2
  go_ret2
  exact ⟨rfl, Keeps.alloc _ _ _⟩
theorem rdef_15 (x : In8) (ar : Value) (w : World) (hop : x.op = 15) : Calls Tryd.prog 17 #[insV x ar] w fun e w' => e = .returned (defV x) ∧ Keeps [] w w' := by
  rw [defV_no (by unfold isDef; simp; omega)]
  unfold insV
  have f1 : ¬ x.op < 1 := by omega
  have f2 : ¬ 15 < x.op := by omega
  have o8 := neb (show x.op ≠ 8 by omega)
  have o9 := neb (show x.op ≠ 9 by omega)
  have o15 := eqb hop
  clear hop
  go_enter Tryd.func17, Tryd.ntmps17
  go_wp2
  go_ret2
  exact ⟨rfl, Keeps.alloc _ _ _⟩
theorem rdef_yes (x : In8) (ar : Value) (w : World) (hop : 1 ≤ x.op ∧ x.op ≤ 14 ∧ x.op ≠ 8 ∧ x.op ≠ 9) : Calls Tryd.prog 17 #[insV x ar] w fun e w' => e = .returned (defV x) ∧ Keeps [] w w' := by
  rw [defV_yes (by unfold isDef; simp; omega)]
  unfold insV
  have f1 : ¬ x.op < 1 := by omega
  have f2 : ¬ 15 < x.op := by omega
  have o8 := neb (show x.op ≠ 8 by omega)
  have o9 := neb (show x.op ≠ 9 by omega)
  have o15 := neb (show x.op ≠ 15 by omega)
  clear hop
  go_enter Tryd.func17, Tryd.ntmps17
  go_wp2
  go_ret2
  exact ⟨rfl, Keeps.alloc _ _ _⟩
theorem rdef_any (x : In8) (ar : Value) (w : World) : Calls Tryd.prog 17 #[insV x ar] w fun e w' => e = .returned (defV x) ∧ Keeps [] w w' := by
  by_cases h1 : x.op < 1
  · exact rdef_lo x ar w h1
  by_cases h2 : 15 < x.op
  · exact rdef_hi x ar w h2
  by_cases h8 : x.op = 8
  · exact rdef_8 x ar w h8
  by_cases h9 : x.op = 9
  · exact rdef_9 x ar w h9
  by_cases h15 : x.op = 15
  · exact rdef_15 x ar w h15
  exact rdef_yes x ar w ⟨by omega, by omega, h8, h9⟩

/-- The registers that it reads. -/
def usesL (x : In8) : List Int := if x.op = 2 ∨ x.op = 8 then [x.a, x.b] else if x.op = 6 ∨ x.op = 7 ∨ x.op = 9 ∨ x.op = 11 ∨ x.op = 15 then [x.a] else if x.op = 12 then x.args else if x.op = 13 ∨ x.op = 14 then x.a :: x.args else []
theorem lit1 (w : World) (b : Nat) (hb : b = w.heap.size) (z : Int) : IntsAt (w.alloc (.cells #[.int .i64 z] 3)) (some ⟨b, 0, none⟩) [z] := by
  subst hb
  exact .inr ⟨_, 0, rfl, fun i hi => by
    obtain rfl : i = 0 := by simpa using hi
    rw [World.cell?_alloc_at _ _ _ _ rfl]; rfl⟩
theorem lit2 (w : World) (b : Nat) (hb : b = w.heap.size) (y z : Int) : IntsAt (w.alloc (.cells #[.int .i64 y, .int .i64 z] 3)) (some ⟨b, 0, none⟩) [y, z] := by
  subst hb
  exact .inr ⟨_, 0, rfl, fun i hi => by
    rw [World.cell?_alloc_at _ _ _ _ rfl]
    rcases (show i = 0 ∨ i = 1 by simp at hi; omega) with rfl | rfl <;> rfl⟩
theorem row1 (w : World) (base b : Nat) (hb : b = w.heap.size) (hs : base ≤ w.heap.size) (z : Int) : (w.alloc (.cells #[.int .i64 z] 3)).ownsRow base 3 1 (.slice (some ⟨b, 0, none⟩) 1 1) 1 [.int .i64 z] := by
  subst hb
  exact World.ownsRow_lit (base := base) (e := 3) (size := 1) w #[.int .i64 z] 1 hs (by unfold maxLen; omega) rfl
theorem numC_cells {w : World} {ad : Addr} {l : List Int} (h : IntsAt w (some ad) l) : ∀ j u, (numC l)[j]? = some u → w.cell? (ad.add j) = some u := by
  rcases h with e | ⟨b, off, e, h⟩
  · intro j u hj; rw [e] at hj; simp [numC] at hj
  · cases e
    exact numC_at h
set_option maxHeartbeats 4000000 in
theorem uuse_2 (x : In8) (a : Option Addr) (cp : Nat) (w : World) (hop : x.op = 2) : Calls Tryd.prog 19 #[insV x (.slice a x.args.length cp)] w fun e w' => ∃ a' c', e = .returned (.slice a' ([x.a, x.b]).length c') ∧ IntsAt w' a' ([x.a, x.b]) ∧ Keeps [] w w' := by
  have o2 := eqb hop
  clear hop
  unfold insV
  go_enter Tryd.func19, Tryd.ntmps19
  go_wp2
  go_ret
  exact ⟨_, _, rfl, lit2 _ _ (by simp) _ _, (Keeps.alloc [] _ _).quiet (Keeps.alloc [] _ _)⟩
set_option maxHeartbeats 4000000 in
theorem uuse_8 (x : In8) (a : Option Addr) (cp : Nat) (w : World) (hop : x.op = 8) : Calls Tryd.prog 19 #[insV x (.slice a x.args.length cp)] w fun e w' => ∃ a' c', e = .returned (.slice a' ([x.a, x.b]).length c') ∧ IntsAt w' a' ([x.a, x.b]) ∧ Keeps [] w w' := by
  have o2 := neb (show x.op ≠ 2 by omega)
  have o8 := eqb hop
  clear hop
  unfold insV
  go_enter Tryd.func19, Tryd.ntmps19
  go_wp2
  go_ret
  exact ⟨_, _, rfl, lit2 _ _ (by simp) _ _, (Keeps.alloc [] _ _).quiet (Keeps.alloc [] _ _)⟩
set_option maxHeartbeats 4000000 in
theorem uuse_6 (x : In8) (a : Option Addr) (cp : Nat) (w : World) (hop : x.op = 6) : Calls Tryd.prog 19 #[insV x (.slice a x.args.length cp)] w fun e w' => ∃ a' c', e = .returned (.slice a' ([x.a]).length c') ∧ IntsAt w' a' ([x.a]) ∧ Keeps [] w w' := by
  have o2 := neb (show x.op ≠ 2 by omega)
  have o8 := neb (show x.op ≠ 8 by omega)
  have o6 := eqb hop
  clear hop
  unfold insV
  go_enter Tryd.func19, Tryd.ntmps19
  go_wp2
  go_ret
  exact ⟨_, _, rfl, lit1 _ _ (by simp) _, (Keeps.alloc [] _ _).quiet (Keeps.alloc [] _ _)⟩
set_option maxHeartbeats 4000000 in
theorem uuse_7 (x : In8) (a : Option Addr) (cp : Nat) (w : World) (hop : x.op = 7) : Calls Tryd.prog 19 #[insV x (.slice a x.args.length cp)] w fun e w' => ∃ a' c', e = .returned (.slice a' ([x.a]).length c') ∧ IntsAt w' a' ([x.a]) ∧ Keeps [] w w' := by
  have o2 := neb (show x.op ≠ 2 by omega)
  have o8 := neb (show x.op ≠ 8 by omega)
  have o6 := neb (show x.op ≠ 6 by omega)
  have o7 := eqb hop
  clear hop
  unfold insV
  go_enter Tryd.func19, Tryd.ntmps19
  go_wp2
  go_ret
  exact ⟨_, _, rfl, lit1 _ _ (by simp) _, (Keeps.alloc [] _ _).quiet (Keeps.alloc [] _ _)⟩
set_option maxHeartbeats 4000000 in
theorem uuse_9 (x : In8) (a : Option Addr) (cp : Nat) (w : World) (hop : x.op = 9) : Calls Tryd.prog 19 #[insV x (.slice a x.args.length cp)] w fun e w' => ∃ a' c', e = .returned (.slice a' ([x.a]).length c') ∧ IntsAt w' a' ([x.a]) ∧ Keeps [] w w' := by
  have o2 := neb (show x.op ≠ 2 by omega)
  have o8 := neb (show x.op ≠ 8 by omega)
  have o6 := neb (show x.op ≠ 6 by omega)
  have o7 := neb (show x.op ≠ 7 by omega)
  have o9 := eqb hop
  clear hop
  unfold insV
  go_enter Tryd.func19, Tryd.ntmps19
  go_wp2
  go_ret
  exact ⟨_, _, rfl, lit1 _ _ (by simp) _, (Keeps.alloc [] _ _).quiet (Keeps.alloc [] _ _)⟩
set_option maxHeartbeats 4000000 in
theorem uuse_11 (x : In8) (a : Option Addr) (cp : Nat) (w : World) (hop : x.op = 11) : Calls Tryd.prog 19 #[insV x (.slice a x.args.length cp)] w fun e w' => ∃ a' c', e = .returned (.slice a' ([x.a]).length c') ∧ IntsAt w' a' ([x.a]) ∧ Keeps [] w w' := by
  have o2 := neb (show x.op ≠ 2 by omega)
  have o8 := neb (show x.op ≠ 8 by omega)
  have o6 := neb (show x.op ≠ 6 by omega)
  have o7 := neb (show x.op ≠ 7 by omega)
  have o9 := neb (show x.op ≠ 9 by omega)
  have o11 := eqb hop
  clear hop
  unfold insV
  go_enter Tryd.func19, Tryd.ntmps19
  go_wp2
  go_ret
  exact ⟨_, _, rfl, lit1 _ _ (by simp) _, (Keeps.alloc [] _ _).quiet (Keeps.alloc [] _ _)⟩
set_option maxHeartbeats 4000000 in
theorem uuse_15 (x : In8) (a : Option Addr) (cp : Nat) (w : World) (hop : x.op = 15) : Calls Tryd.prog 19 #[insV x (.slice a x.args.length cp)] w fun e w' => ∃ a' c', e = .returned (.slice a' ([x.a]).length c') ∧ IntsAt w' a' ([x.a]) ∧ Keeps [] w w' := by
  have o2 := neb (show x.op ≠ 2 by omega)
  have o8 := neb (show x.op ≠ 8 by omega)
  have o6 := neb (show x.op ≠ 6 by omega)
  have o7 := neb (show x.op ≠ 7 by omega)
  have o9 := neb (show x.op ≠ 9 by omega)
  have o11 := neb (show x.op ≠ 11 by omega)
  have o15 := eqb hop
  clear hop
  unfold insV
  go_enter Tryd.func19, Tryd.ntmps19
  go_wp2
  go_ret
  exact ⟨_, _, rfl, lit1 _ _ (by simp) _, (Keeps.alloc [] _ _).quiet (Keeps.alloc [] _ _)⟩
set_option maxHeartbeats 4000000 in
theorem uuse_12 (x : In8) (a : Option Addr) (cp : Nat) (w : World) (hz : IntsAt w a x.args) (hl : x.args.length ≤ 1048576) (hop : x.op = 12) : Calls Tryd.prog 19 #[insV x (.slice a x.args.length cp)] w fun e w' => ∃ a' c', e = .returned (.slice a' (x.args).length c') ∧ IntsAt w' a' (x.args) ∧ Keeps [] w w' := by
  have o2 := neb (show x.op ≠ 2 by omega)
  have o8 := neb (show x.op ≠ 8 by omega)
  have o6 := neb (show x.op ≠ 6 by omega)
  have o7 := neb (show x.op ≠ 7 by omega)
  have o9 := neb (show x.op ≠ 9 by omega)
  have o11 := neb (show x.op ≠ 11 by omega)
  have o15 := neb (show x.op ≠ 15 by omega)
  have o12 := eqb hop
  have HC := hid (clone_any a cp x.args (w.alloc (.cells #[.int .i64 x.op, .int .i64 x.dst, .int .i64 x.a, .int .i64 x.b, .int .i64 x.n, .slice a x.args.length cp] 34)) (hz.kept (Keeps.alloc [] _ _) (fun _ _ _ => by simp)) (by omega))
  clear hop hz
  unfold insV
  go_enter Tryd.func19, Tryd.ntmps19
  go_wp2_with (go_at_call 32; refine HC.out.mono ?_; rintro e w1 ⟨a1, c1, rfl, h1, k1, _⟩)
  go_ret
  exact ⟨_, _, rfl, h1, (Keeps.alloc [] _ _).quiet k1⟩
set_option maxHeartbeats 4000000 in
theorem uuse_13 (x : In8) (a : Option Addr) (cp : Nat) (w : World) (hz : IntsAt w a x.args) (hl : x.args.length ≤ 1048576) (hc : a = none → cp = 0) (hop : x.op = 13) : Calls Tryd.prog 19 #[insV x (.slice a x.args.length cp)] w fun e w' => ∃ a' c', e = .returned (.slice a' (x.a :: x.args).length c') ∧ IntsAt w' a' (x.a :: x.args) ∧ Keeps [] w w' := by
  have o2 := neb (show x.op ≠ 2 by omega)
  have o8 := neb (show x.op ≠ 8 by omega)
  have o6 := neb (show x.op ≠ 6 by omega)
  have o7 := neb (show x.op ≠ 7 by omega)
  have o9 := neb (show x.op ≠ 9 by omega)
  have o11 := neb (show x.op ≠ 11 by omega)
  have o15 := neb (show x.op ≠ 15 by omega)
  have o12 := neb (show x.op ≠ 12 by omega)
  have o13 := eqb hop
  clear hop
  unfold insV
  have HK := hid (Keeps.alloc [] w (.cells #[.int .i64 x.op, .int .i64 x.dst, .int .i64 x.a, .int .i64 x.b, .int .i64 x.n, .slice a x.args.length cp] 34))
  cases a with
  | none =>
    obtain rfl := hc rfl
    have he : x.args = [] := by
      rcases hz with e | ⟨b, off, e, _⟩
      · exact e
      · cases e
    rw [he]
    rw [he] at HK
    clear hz hl he
    go_enter Tryd.func19, Tryd.ntmps19
    go_wp2_with (at_builtin; go_must (refine wpList_append_own_none rfl _ _ 32 rfl w.heap.size 3 Tryd.t3 1 under_ints info_int _ 1 [.int .i64 x.a] rfl (row1 _ w.heap.size _ (by simp) (by simp) x.a) rfl ?_))
    go_ret
    exact ⟨_, ⟨_, rfl⟩, lit1 _ _ (by simp) _, HK.out.quiet (Keeps.alloc [] _ _)⟩
  | some ad =>
    have HK2 := hid (HK.out.quiet (Keeps.alloc [] (w.alloc (.cells #[.int .i64 x.op, .int .i64 x.dst, .int .i64 x.a, .int .i64 x.b, .int .i64 x.n, .slice (some ad) x.args.length cp] 34)) (.cells #[.int .i64 x.a] 3)))
    have HZ := hid (hz.kept HK2.out (fun _ _ _ => by simp))
    generalize x.args = ag at *
    clear hz hc
    go_enter Tryd.func19, Tryd.ntmps19
    go_wp2_with (at_builtin; go_must (refine wpList_append_own _ rfl _ _ 32 rfl w.heap.size 3 Tryd.t3 (.int .i64 0) 1 8 under_ints info_int zero_int size_int bytes_int rfl (by decide) _ 1 [.int .i64 x.a] rfl (row1 _ w.heap.size _ (by simp) (by simp) x.a) ad ag.length cp (numC ag) rfl (by rw [numC_len]; omega) (numC_cells HZ.out) (numC_one ag) (by unfold maxLen; omega) (by omega) (by simp; omega) ?_; intro v' w1 hown hgrow hnil))
    have hg2 : ((w.alloc (.cells #[.int .i64 x.op, .int .i64 x.dst, .int .i64 x.a, .int .i64 x.b, .int .i64 x.n, .slice (some ad) ag.length cp] 34)).alloc (.cells #[.int .i64 x.a] 3)).grownBy w1 (some (w.heap.size + 1)) := hgrow
    have HK1 := hid (HK2.out.fresh (Keeps.grown [w.heap.size + 1] hg2 (fun k hk => by simp at hk; simp [hk])) (fun y hy => by simp at hy; omega))
    have HO : Box (w1.ownsRow w.heap.size 3 1 v' (1 + ag.length) (numC (x.a :: ag))) := hid hown
    clear hgrow hnil hown hg2
    go_wp2_with fail
    go_ret
    obtain ⟨a', c', e1, e2, e3, _, _⟩ := nums_open HO.out
    exact ⟨a', c', by rw [Nat.add_comm] at e1; exact congrArg Ending.returned e1, e3, HK1.out⟩
set_option maxHeartbeats 4000000 in
theorem uuse_14 (x : In8) (a : Option Addr) (cp : Nat) (w : World) (hz : IntsAt w a x.args) (hl : x.args.length ≤ 1048576) (hc : a = none → cp = 0) (hop : x.op = 14) : Calls Tryd.prog 19 #[insV x (.slice a x.args.length cp)] w fun e w' => ∃ a' c', e = .returned (.slice a' (x.a :: x.args).length c') ∧ IntsAt w' a' (x.a :: x.args) ∧ Keeps [] w w' := by
  have o2 := neb (show x.op ≠ 2 by omega)
  have o8 := neb (show x.op ≠ 8 by omega)
  have o6 := neb (show x.op ≠ 6 by omega)
  have o7 := neb (show x.op ≠ 7 by omega)
  have o9 := neb (show x.op ≠ 9 by omega)
  have o11 := neb (show x.op ≠ 11 by omega)
  have o15 := neb (show x.op ≠ 15 by omega)
  have o12 := neb (show x.op ≠ 12 by omega)
  have o13 := neb (show x.op ≠ 13 by omega)
  have o14 := eqb hop
  clear hop
  unfold insV
  have HK := hid (Keeps.alloc [] w (.cells #[.int .i64 x.op, .int .i64 x.dst, .int .i64 x.a, .int .i64 x.b, .int .i64 x.n, .slice a x.args.length cp] 34))
  cases a with
  | none =>
    obtain rfl := hc rfl
    have he : x.args = [] := by
      rcases hz with e | ⟨b, off, e, _⟩
      · exact e
      · cases e
    rw [he]
    rw [he] at HK
    clear hz hl he
    go_enter Tryd.func19, Tryd.ntmps19
    go_wp2_with (at_builtin; go_must (refine wpList_append_own_none rfl _ _ 32 rfl w.heap.size 3 Tryd.t3 1 under_ints info_int _ 1 [.int .i64 x.a] rfl (row1 _ w.heap.size _ (by simp) (by simp) x.a) rfl ?_))
    go_ret
    exact ⟨_, ⟨_, rfl⟩, lit1 _ _ (by simp) _, HK.out.quiet (Keeps.alloc [] _ _)⟩
  | some ad =>
    have HK2 := hid (HK.out.quiet (Keeps.alloc [] (w.alloc (.cells #[.int .i64 x.op, .int .i64 x.dst, .int .i64 x.a, .int .i64 x.b, .int .i64 x.n, .slice (some ad) x.args.length cp] 34)) (.cells #[.int .i64 x.a] 3)))
    have HZ := hid (hz.kept HK2.out (fun _ _ _ => by simp))
    generalize x.args = ag at *
    clear hz hc
    go_enter Tryd.func19, Tryd.ntmps19
    go_wp2_with (at_builtin; go_must (refine wpList_append_own _ rfl _ _ 32 rfl w.heap.size 3 Tryd.t3 (.int .i64 0) 1 8 under_ints info_int zero_int size_int bytes_int rfl (by decide) _ 1 [.int .i64 x.a] rfl (row1 _ w.heap.size _ (by simp) (by simp) x.a) ad ag.length cp (numC ag) rfl (by rw [numC_len]; omega) (numC_cells HZ.out) (numC_one ag) (by unfold maxLen; omega) (by omega) (by simp; omega) ?_; intro v' w1 hown hgrow hnil))
    have hg2 : ((w.alloc (.cells #[.int .i64 x.op, .int .i64 x.dst, .int .i64 x.a, .int .i64 x.b, .int .i64 x.n, .slice (some ad) ag.length cp] 34)).alloc (.cells #[.int .i64 x.a] 3)).grownBy w1 (some (w.heap.size + 1)) := hgrow
    have HK1 := hid (HK2.out.fresh (Keeps.grown [w.heap.size + 1] hg2 (fun k hk => by simp at hk; simp [hk])) (fun y hy => by simp at hy; omega))
    have HO : Box (w1.ownsRow w.heap.size 3 1 v' (1 + ag.length) (numC (x.a :: ag))) := hid hown
    clear hgrow hnil hown hg2
    go_wp2_with fail
    go_ret
    obtain ⟨a', c', e1, e2, e3, _, _⟩ := nums_open HO.out
    exact ⟨a', c', by rw [Nat.add_comm] at e1; exact congrArg Ending.returned e1, e3, HK1.out⟩
set_option maxHeartbeats 4000000 in
theorem uuse_no (x : In8) (a : Option Addr) (cp : Nat) (w : World) (hop : x.op ≠ 2 ∧ x.op ≠ 8 ∧ x.op ≠ 6 ∧ x.op ≠ 7 ∧ x.op ≠ 9 ∧ x.op ≠ 11 ∧ x.op ≠ 15 ∧ x.op ≠ 12 ∧ x.op ≠ 13 ∧ x.op ≠ 14) : Calls Tryd.prog 19 #[insV x (.slice a x.args.length cp)] w fun e w' => e = .returned (.slice none 0 0) ∧ Keeps [] w w' := by
  have o2 := neb (show x.op ≠ 2 by omega)
  have o8 := neb (show x.op ≠ 8 by omega)
  have o6 := neb (show x.op ≠ 6 by omega)
  have o7 := neb (show x.op ≠ 7 by omega)
  have o9 := neb (show x.op ≠ 9 by omega)
  have o11 := neb (show x.op ≠ 11 by omega)
  have o15 := neb (show x.op ≠ 15 by omega)
  have o12 := neb (show x.op ≠ 12 by omega)
  have o13 := neb (show x.op ≠ 13 by omega)
  have o14 := neb (show x.op ≠ 14 by omega)
  clear hop
  unfold insV
  go_enter Tryd.func19, Tryd.ntmps19
  go_wp2
  go_ret
  exact ⟨rfl, Keeps.alloc _ _ _⟩
theorem uuse_any (x : In8) (a : Option Addr) (cp : Nat) (w : World) (hz : IntsAt w a x.args) (hl : x.args.length ≤ 1048576) (hc : a = none → cp = 0) : Calls Tryd.prog 19 #[insV x (.slice a x.args.length cp)] w fun e w' => ∃ a' c', e = .returned (.slice a' (usesL x).length c') ∧ IntsAt w' a' (usesL x) ∧ Keeps [] w w' := by
  unfold usesL
  by_cases g1 : x.op = 2 ∨ x.op = 8
  · rw [if_pos g1]
    rcases g1 with h | h
    · exact uuse_2 x a cp w h
    · exact uuse_8 x a cp w h
  rw [if_neg g1]
  by_cases g2 : x.op = 6 ∨ x.op = 7 ∨ x.op = 9 ∨ x.op = 11 ∨ x.op = 15
  · rw [if_pos g2]
    rcases g2 with h | h | h | h | h
    · exact uuse_6 x a cp w h
    · exact uuse_7 x a cp w h
    · exact uuse_9 x a cp w h
    · exact uuse_11 x a cp w h
    · exact uuse_15 x a cp w h
  rw [if_neg g2]
  by_cases g3 : x.op = 12
  · rw [if_pos g3]
    exact uuse_12 x a cp w hz hl g3
  rw [if_neg g3]
  by_cases g4 : x.op = 13 ∨ x.op = 14
  · rw [if_pos g4]
    rcases g4 with h | h
    · exact uuse_13 x a cp w hz hl hc h
    · exact uuse_14 x a cp w hz hl hc h
  rw [if_neg g4]
  refine (uuse_no x a cp w (by omega)).mono ?_
  rintro e w' ⟨rfl, k⟩
  exact ⟨none, 0, rfl, .inl rfl, k⟩
set_option maxHeartbeats 4000000 in
theorem vuse_2 (x : In8) (a : Option Addr) (cp : Nat) (w : World) (hop : x.op = 2) : Calls Tryd.prog 20 #[insV x (.slice a x.args.length cp)] w fun e w' => ∃ a' c', e = .returned (.slice a' ([x.a, x.b]).length c') ∧ IntsAt w' a' ([x.a, x.b]) ∧ Keeps [] w w' := by
  have o2 := eqb hop
  clear hop
  unfold insV
  go_enter Tryd.func20, Tryd.ntmps20
  go_wp2
  go_ret
  exact ⟨_, _, rfl, lit2 _ _ (by simp) _ _, (Keeps.alloc [] _ _).quiet (Keeps.alloc [] _ _)⟩
set_option maxHeartbeats 4000000 in
theorem vuse_8 (x : In8) (a : Option Addr) (cp : Nat) (w : World) (hop : x.op = 8) : Calls Tryd.prog 20 #[insV x (.slice a x.args.length cp)] w fun e w' => ∃ a' c', e = .returned (.slice a' ([x.a, x.b]).length c') ∧ IntsAt w' a' ([x.a, x.b]) ∧ Keeps [] w w' := by
  have o2 := neb (show x.op ≠ 2 by omega)
  have o8 := eqb hop
  clear hop
  unfold insV
  go_enter Tryd.func20, Tryd.ntmps20
  go_wp2
  go_ret
  exact ⟨_, _, rfl, lit2 _ _ (by simp) _ _, (Keeps.alloc [] _ _).quiet (Keeps.alloc [] _ _)⟩
set_option maxHeartbeats 4000000 in
theorem vuse_6 (x : In8) (a : Option Addr) (cp : Nat) (w : World) (hop : x.op = 6) : Calls Tryd.prog 20 #[insV x (.slice a x.args.length cp)] w fun e w' => ∃ a' c', e = .returned (.slice a' ([x.a]).length c') ∧ IntsAt w' a' ([x.a]) ∧ Keeps [] w w' := by
  have o2 := neb (show x.op ≠ 2 by omega)
  have o8 := neb (show x.op ≠ 8 by omega)
  have o6 := eqb hop
  clear hop
  unfold insV
  go_enter Tryd.func20, Tryd.ntmps20
  go_wp2
  go_ret
  exact ⟨_, _, rfl, lit1 _ _ (by simp) _, (Keeps.alloc [] _ _).quiet (Keeps.alloc [] _ _)⟩
set_option maxHeartbeats 4000000 in
theorem vuse_7 (x : In8) (a : Option Addr) (cp : Nat) (w : World) (hop : x.op = 7) : Calls Tryd.prog 20 #[insV x (.slice a x.args.length cp)] w fun e w' => ∃ a' c', e = .returned (.slice a' ([x.a]).length c') ∧ IntsAt w' a' ([x.a]) ∧ Keeps [] w w' := by
  have o2 := neb (show x.op ≠ 2 by omega)
  have o8 := neb (show x.op ≠ 8 by omega)
  have o6 := neb (show x.op ≠ 6 by omega)
  have o7 := eqb hop
  clear hop
  unfold insV
  go_enter Tryd.func20, Tryd.ntmps20
  go_wp2
  go_ret
  exact ⟨_, _, rfl, lit1 _ _ (by simp) _, (Keeps.alloc [] _ _).quiet (Keeps.alloc [] _ _)⟩
set_option maxHeartbeats 4000000 in
theorem vuse_9 (x : In8) (a : Option Addr) (cp : Nat) (w : World) (hop : x.op = 9) : Calls Tryd.prog 20 #[insV x (.slice a x.args.length cp)] w fun e w' => ∃ a' c', e = .returned (.slice a' ([x.a]).length c') ∧ IntsAt w' a' ([x.a]) ∧ Keeps [] w w' := by
  have o2 := neb (show x.op ≠ 2 by omega)
  have o8 := neb (show x.op ≠ 8 by omega)
  have o6 := neb (show x.op ≠ 6 by omega)
  have o7 := neb (show x.op ≠ 7 by omega)
  have o9 := eqb hop
  clear hop
  unfold insV
  go_enter Tryd.func20, Tryd.ntmps20
  go_wp2
  go_ret
  exact ⟨_, _, rfl, lit1 _ _ (by simp) _, (Keeps.alloc [] _ _).quiet (Keeps.alloc [] _ _)⟩
set_option maxHeartbeats 4000000 in
theorem vuse_11 (x : In8) (a : Option Addr) (cp : Nat) (w : World) (hop : x.op = 11) : Calls Tryd.prog 20 #[insV x (.slice a x.args.length cp)] w fun e w' => ∃ a' c', e = .returned (.slice a' ([x.a]).length c') ∧ IntsAt w' a' ([x.a]) ∧ Keeps [] w w' := by
  have o2 := neb (show x.op ≠ 2 by omega)
  have o8 := neb (show x.op ≠ 8 by omega)
  have o6 := neb (show x.op ≠ 6 by omega)
  have o7 := neb (show x.op ≠ 7 by omega)
  have o9 := neb (show x.op ≠ 9 by omega)
  have o11 := eqb hop
  clear hop
  unfold insV
  go_enter Tryd.func20, Tryd.ntmps20
  go_wp2
  go_ret
  exact ⟨_, _, rfl, lit1 _ _ (by simp) _, (Keeps.alloc [] _ _).quiet (Keeps.alloc [] _ _)⟩
set_option maxHeartbeats 4000000 in
theorem vuse_15 (x : In8) (a : Option Addr) (cp : Nat) (w : World) (hop : x.op = 15) : Calls Tryd.prog 20 #[insV x (.slice a x.args.length cp)] w fun e w' => ∃ a' c', e = .returned (.slice a' ([x.a]).length c') ∧ IntsAt w' a' ([x.a]) ∧ Keeps [] w w' := by
  have o2 := neb (show x.op ≠ 2 by omega)
  have o8 := neb (show x.op ≠ 8 by omega)
  have o6 := neb (show x.op ≠ 6 by omega)
  have o7 := neb (show x.op ≠ 7 by omega)
  have o9 := neb (show x.op ≠ 9 by omega)
  have o11 := neb (show x.op ≠ 11 by omega)
  have o15 := eqb hop
  clear hop
  unfold insV
  go_enter Tryd.func20, Tryd.ntmps20
  go_wp2
  go_ret
  exact ⟨_, _, rfl, lit1 _ _ (by simp) _, (Keeps.alloc [] _ _).quiet (Keeps.alloc [] _ _)⟩
set_option maxHeartbeats 4000000 in
theorem vuse_12 (x : In8) (a : Option Addr) (cp : Nat) (w : World) (hz : IntsAt w a x.args) (hl : x.args.length ≤ 1048576) (hc : a = none → cp = 0) (hop : x.op = 12) : Calls Tryd.prog 20 #[insV x (.slice a x.args.length cp)] w fun e w' => ∃ a' c', e = .returned (.slice a' (x.args).length c') ∧ IntsAt w' a' (x.args) ∧ Keeps [] w w' := by
  have o2 := neb (show x.op ≠ 2 by omega)
  have o8 := neb (show x.op ≠ 8 by omega)
  have o6 := neb (show x.op ≠ 6 by omega)
  have o7 := neb (show x.op ≠ 7 by omega)
  have o9 := neb (show x.op ≠ 9 by omega)
  have o11 := neb (show x.op ≠ 11 by omega)
  have o15 := neb (show x.op ≠ 15 by omega)
  have o12 := eqb hop
  clear hop
  unfold insV
  have HK := hid (Keeps.alloc [] w (.cells #[.int .i64 x.op, .int .i64 x.dst, .int .i64 x.a, .int .i64 x.b, .int .i64 x.n, .slice a x.args.length cp] 34))
  cases a with
  | none =>
    obtain rfl := hc rfl
    have he : x.args = [] := by
      rcases hz with e | ⟨b, off, e, _⟩
      · exact e
      · cases e
    rw [he]
    rw [he] at HK
    clear hz hl he
    go_enter Tryd.func20, Tryd.ntmps20
    go_wp2_with (at_builtin; go_must (refine wpList_append_own_none rfl _ _ 32 rfl w.heap.size 3 Tryd.t3 1 under_ints info_int (.slice none 0 0) 0 [] rfl (World.ownsRow_nil _ _ _ _) rfl ?_))
    go_ret
    exact ⟨none, ⟨0, rfl⟩, .inl rfl, HK.out⟩
  | some ad =>
    have HZ := hid (hz.kept HK.out (fun _ _ _ => by simp))
    generalize x.args = ag at *
    clear hz hc
    go_enter Tryd.func20, Tryd.ntmps20
    go_wp2_with (at_builtin; go_must (refine wpList_append_own _ rfl _ _ 32 rfl w.heap.size 3 Tryd.t3 (.int .i64 0) 1 8 under_ints info_int zero_int size_int bytes_int rfl (by decide) (.slice none 0 0) 0 [] rfl (World.ownsRow_nil _ _ _ _) ad ag.length cp (numC ag) rfl (by rw [numC_len]; omega) (numC_cells HZ.out) (numC_one ag) (by unfold maxLen; omega) (by omega) (by simp) ?_; intro v' w1 hown hgrow hnil))
    have hg2 : (w.alloc (.cells #[.int .i64 x.op, .int .i64 x.dst, .int .i64 x.a, .int .i64 x.b, .int .i64 x.n, .slice (some ad) ag.length cp] 34)).grownBy w1 none := hgrow
    have HK1 := hid (HK.out.quiet (Keeps.grown [] hg2 (by simp)))
    have HO := hid hown
    clear hgrow hnil hown hg2
    go_wp2_with fail
    go_ret
    obtain ⟨a', c', e1, e2, e3, _, _⟩ := nums_open (l := ag) (n := 0 + ag.length) (by simpa using HO.out)
    exact ⟨a', ⟨c', by rw [Nat.zero_add] at e1; exact congrArg Ending.returned e1⟩, e3, HK1.out⟩
set_option maxHeartbeats 4000000 in
theorem vuse_13 (x : In8) (a : Option Addr) (cp : Nat) (w : World) (hz : IntsAt w a x.args) (hl : x.args.length ≤ 1048576) (hc : a = none → cp = 0) (hop : x.op = 13) : Calls Tryd.prog 20 #[insV x (.slice a x.args.length cp)] w fun e w' => ∃ a' c', e = .returned (.slice a' (x.a :: x.args).length c') ∧ IntsAt w' a' (x.a :: x.args) ∧ Keeps [] w w' := by
  have o2 := neb (show x.op ≠ 2 by omega)
  have o8 := neb (show x.op ≠ 8 by omega)
  have o6 := neb (show x.op ≠ 6 by omega)
  have o7 := neb (show x.op ≠ 7 by omega)
  have o9 := neb (show x.op ≠ 9 by omega)
  have o11 := neb (show x.op ≠ 11 by omega)
  have o15 := neb (show x.op ≠ 15 by omega)
  have o12 := neb (show x.op ≠ 12 by omega)
  have o13 := eqb hop
  clear hop
  unfold insV
  have HK := hid (Keeps.alloc [] w (.cells #[.int .i64 x.op, .int .i64 x.dst, .int .i64 x.a, .int .i64 x.b, .int .i64 x.n, .slice a x.args.length cp] 34))
  cases a with
  | none =>
    obtain rfl := hc rfl
    have he : x.args = [] := by
      rcases hz with e | ⟨b, off, e, _⟩
      · exact e
      · cases e
    rw [he]
    rw [he] at HK
    clear hz hl he
    go_enter Tryd.func20, Tryd.ntmps20
    go_wp2_with (at_builtin; go_must (refine wpList_append_own_none rfl _ _ 32 rfl w.heap.size 3 Tryd.t3 1 under_ints info_int _ 1 [.int .i64 x.a] rfl (row1 _ w.heap.size _ (by simp) (by simp) x.a) rfl ?_))
    go_ret
    exact ⟨_, ⟨_, rfl⟩, lit1 _ _ (by simp) _, HK.out.quiet (Keeps.alloc [] _ _)⟩
  | some ad =>
    have HK2 := hid (HK.out.quiet (Keeps.alloc [] (w.alloc (.cells #[.int .i64 x.op, .int .i64 x.dst, .int .i64 x.a, .int .i64 x.b, .int .i64 x.n, .slice (some ad) x.args.length cp] 34)) (.cells #[.int .i64 x.a] 3)))
    have HZ := hid (hz.kept HK2.out (fun _ _ _ => by simp))
    generalize x.args = ag at *
    clear hz hc
    go_enter Tryd.func20, Tryd.ntmps20
    go_wp2_with (at_builtin; go_must (refine wpList_append_own _ rfl _ _ 32 rfl w.heap.size 3 Tryd.t3 (.int .i64 0) 1 8 under_ints info_int zero_int size_int bytes_int rfl (by decide) _ 1 [.int .i64 x.a] rfl (row1 _ w.heap.size _ (by simp) (by simp) x.a) ad ag.length cp (numC ag) rfl (by rw [numC_len]; omega) (numC_cells HZ.out) (numC_one ag) (by unfold maxLen; omega) (by omega) (by simp; omega) ?_; intro v' w1 hown hgrow hnil))
    have hg2 : ((w.alloc (.cells #[.int .i64 x.op, .int .i64 x.dst, .int .i64 x.a, .int .i64 x.b, .int .i64 x.n, .slice (some ad) ag.length cp] 34)).alloc (.cells #[.int .i64 x.a] 3)).grownBy w1 (some (w.heap.size + 1)) := hgrow
    have HK1 := hid (HK2.out.fresh (Keeps.grown [w.heap.size + 1] hg2 (fun k hk => by simp at hk; simp [hk])) (fun y hy => by simp at hy; omega))
    have HO : Box (w1.ownsRow w.heap.size 3 1 v' (1 + ag.length) (numC (x.a :: ag))) := hid hown
    clear hgrow hnil hown hg2
    go_wp2_with fail
    go_ret
    obtain ⟨a', c', e1, e2, e3, _, _⟩ := nums_open HO.out
    exact ⟨a', c', by rw [Nat.add_comm] at e1; exact congrArg Ending.returned e1, e3, HK1.out⟩
set_option maxHeartbeats 4000000 in
theorem vuse_14 (x : In8) (a : Option Addr) (cp : Nat) (w : World) (hz : IntsAt w a x.args) (hl : x.args.length ≤ 1048576) (hc : a = none → cp = 0) (hop : x.op = 14) : Calls Tryd.prog 20 #[insV x (.slice a x.args.length cp)] w fun e w' => ∃ a' c', e = .returned (.slice a' (x.a :: x.args).length c') ∧ IntsAt w' a' (x.a :: x.args) ∧ Keeps [] w w' := by
  have o2 := neb (show x.op ≠ 2 by omega)
  have o8 := neb (show x.op ≠ 8 by omega)
  have o6 := neb (show x.op ≠ 6 by omega)
  have o7 := neb (show x.op ≠ 7 by omega)
  have o9 := neb (show x.op ≠ 9 by omega)
  have o11 := neb (show x.op ≠ 11 by omega)
  have o15 := neb (show x.op ≠ 15 by omega)
  have o12 := neb (show x.op ≠ 12 by omega)
  have o13 := neb (show x.op ≠ 13 by omega)
  have o14 := eqb hop
  clear hop
  unfold insV
  have HK := hid (Keeps.alloc [] w (.cells #[.int .i64 x.op, .int .i64 x.dst, .int .i64 x.a, .int .i64 x.b, .int .i64 x.n, .slice a x.args.length cp] 34))
  cases a with
  | none =>
    obtain rfl := hc rfl
    have he : x.args = [] := by
      rcases hz with e | ⟨b, off, e, _⟩
      · exact e
      · cases e
    rw [he]
    rw [he] at HK
    clear hz hl he
    go_enter Tryd.func20, Tryd.ntmps20
    go_wp2_with (at_builtin; go_must (refine wpList_append_own_none rfl _ _ 32 rfl w.heap.size 3 Tryd.t3 1 under_ints info_int _ 1 [.int .i64 x.a] rfl (row1 _ w.heap.size _ (by simp) (by simp) x.a) rfl ?_))
    go_ret
    exact ⟨_, ⟨_, rfl⟩, lit1 _ _ (by simp) _, HK.out.quiet (Keeps.alloc [] _ _)⟩
  | some ad =>
    have HK2 := hid (HK.out.quiet (Keeps.alloc [] (w.alloc (.cells #[.int .i64 x.op, .int .i64 x.dst, .int .i64 x.a, .int .i64 x.b, .int .i64 x.n, .slice (some ad) x.args.length cp] 34)) (.cells #[.int .i64 x.a] 3)))
    have HZ := hid (hz.kept HK2.out (fun _ _ _ => by simp))
    generalize x.args = ag at *
    clear hz hc
    go_enter Tryd.func20, Tryd.ntmps20
    go_wp2_with (at_builtin; go_must (refine wpList_append_own _ rfl _ _ 32 rfl w.heap.size 3 Tryd.t3 (.int .i64 0) 1 8 under_ints info_int zero_int size_int bytes_int rfl (by decide) _ 1 [.int .i64 x.a] rfl (row1 _ w.heap.size _ (by simp) (by simp) x.a) ad ag.length cp (numC ag) rfl (by rw [numC_len]; omega) (numC_cells HZ.out) (numC_one ag) (by unfold maxLen; omega) (by omega) (by simp; omega) ?_; intro v' w1 hown hgrow hnil))
    have hg2 : ((w.alloc (.cells #[.int .i64 x.op, .int .i64 x.dst, .int .i64 x.a, .int .i64 x.b, .int .i64 x.n, .slice (some ad) ag.length cp] 34)).alloc (.cells #[.int .i64 x.a] 3)).grownBy w1 (some (w.heap.size + 1)) := hgrow
    have HK1 := hid (HK2.out.fresh (Keeps.grown [w.heap.size + 1] hg2 (fun k hk => by simp at hk; simp [hk])) (fun y hy => by simp at hy; omega))
    have HO : Box (w1.ownsRow w.heap.size 3 1 v' (1 + ag.length) (numC (x.a :: ag))) := hid hown
    clear hgrow hnil hown hg2
    go_wp2_with fail
    go_ret
    obtain ⟨a', c', e1, e2, e3, _, _⟩ := nums_open HO.out
    exact ⟨a', c', by rw [Nat.add_comm] at e1; exact congrArg Ending.returned e1, e3, HK1.out⟩
set_option maxHeartbeats 4000000 in
theorem vuse_no (x : In8) (a : Option Addr) (cp : Nat) (w : World) (hop : x.op ≠ 2 ∧ x.op ≠ 8 ∧ x.op ≠ 6 ∧ x.op ≠ 7 ∧ x.op ≠ 9 ∧ x.op ≠ 11 ∧ x.op ≠ 15 ∧ x.op ≠ 12 ∧ x.op ≠ 13 ∧ x.op ≠ 14) : Calls Tryd.prog 20 #[insV x (.slice a x.args.length cp)] w fun e w' => e = .returned (.slice none 0 0) ∧ Keeps [] w w' := by
  have o2 := neb (show x.op ≠ 2 by omega)
  have o8 := neb (show x.op ≠ 8 by omega)
  have o6 := neb (show x.op ≠ 6 by omega)
  have o7 := neb (show x.op ≠ 7 by omega)
  have o9 := neb (show x.op ≠ 9 by omega)
  have o11 := neb (show x.op ≠ 11 by omega)
  have o15 := neb (show x.op ≠ 15 by omega)
  have o12 := neb (show x.op ≠ 12 by omega)
  have o13 := neb (show x.op ≠ 13 by omega)
  have o14 := neb (show x.op ≠ 14 by omega)
  clear hop
  unfold insV
  go_enter Tryd.func20, Tryd.ntmps20
  go_wp2
  go_ret
  exact ⟨rfl, Keeps.alloc _ _ _⟩
theorem vuse_any (x : In8) (a : Option Addr) (cp : Nat) (w : World) (hz : IntsAt w a x.args) (hl : x.args.length ≤ 1048576) (hc : a = none → cp = 0) : Calls Tryd.prog 20 #[insV x (.slice a x.args.length cp)] w fun e w' => ∃ a' c', e = .returned (.slice a' (usesL x).length c') ∧ IntsAt w' a' (usesL x) ∧ Keeps [] w w' := by
  unfold usesL
  by_cases g1 : x.op = 2 ∨ x.op = 8
  · rw [if_pos g1]
    rcases g1 with h | h
    · exact vuse_2 x a cp w h
    · exact vuse_8 x a cp w h
  rw [if_neg g1]
  by_cases g2 : x.op = 6 ∨ x.op = 7 ∨ x.op = 9 ∨ x.op = 11 ∨ x.op = 15
  · rw [if_pos g2]
    rcases g2 with h | h | h | h | h
    · exact vuse_6 x a cp w h
    · exact vuse_7 x a cp w h
    · exact vuse_9 x a cp w h
    · exact vuse_11 x a cp w h
    · exact vuse_15 x a cp w h
  rw [if_neg g2]
  by_cases g3 : x.op = 12
  · rw [if_pos g3]
    exact vuse_12 x a cp w hz hl hc g3
  rw [if_neg g3]
  by_cases g4 : x.op = 13 ∨ x.op = 14
  · rw [if_pos g4]
    rcases g4 with h | h
    · exact vuse_13 x a cp w hz hl hc h
    · exact vuse_14 x a cp w hz hl hc h
  rw [if_neg g4]
  refine (vuse_no x a cp w (by omega)).mono ?_
  rintro e w' ⟨rfl, k⟩
  exact ⟨none, 0, rfl, .inl rfl, k⟩
end Go.Proofs.YtknkjblifgppjaaDoor
