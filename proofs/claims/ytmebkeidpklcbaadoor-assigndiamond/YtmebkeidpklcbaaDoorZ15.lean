/-
  Contracts: assign's within, targets.
-/
import Derived.Deep.RegionHeld3
import Derived.BigQuiet
import Derived.Laws.AppendOwnNone
import Derived.Test.YtmebkeidpklcbaaDoorZ04

namespace Go.Proofs.YtmebkeidpklcbaaDoor
open Go.RowKit

theorem within_any (k : Int) (n : Nat) (w : World) : Calls Tryd.prog 27 #[.int .i64 k, .int .i64 (n : Int)] w fun e w' => e = .returned (.bool (inB k n)) ∧ w' = w := by
  unfold inB
  by_cases h0 : 0 ≤ k
  · by_cases h1 : k < (n : Int)
    · go_enter Tryd.func27, Tryd.ntmps27
      go_wp2
      go_ret
      simp [h0, h1]
    · go_enter Tryd.func27, Tryd.ntmps27
      go_wp2
      go_ret
      simp [h1]
  · have e := hid (show (decide (0 ≤ k) && decide (k < (n : Int))) = false by rw [decide_eq_false h0]; rfl)
    go_enter Tryd.func27, Tryd.ntmps27
    go_wp2
    go_ret
    exact ⟨by rw [e.out]; rfl, rfl⟩
/-- A number in a new block of its own. -/
theorem app_one (w wa : World) (k : Keeps [] w wa) (v : Value) (l : List Nat) (x : Nat) (hv : wa.ownsRow w.heap.size 3 1 v l.length (ints l)) (ty : TypeId) (b c : Nat) (hb : wa.cell? ⟨b, 0, none⟩ = some (.int .i64 (x : Int))) (hl : l.length < 1000) :
    ∃ v' w', (Builtin.append_ #[54, 54] ty #[v, .slice (some ⟨b, 0, none⟩) 1 c]).run Tryd.prog wa = .ok v' w' ∧ w'.ownsRow w.heap.size 3 1 v' (l ++ [x]).length (ints (l ++ [x])) ∧ Keeps [] w w' := by
  obtain ⟨v', w', hr, ho, hg, _⟩ := run_append_own (P := Tryd.prog) wa w.heap.size 54 ty 3 Tryd.t3 (.int .i64 0) 1 8 under_ints info_int zero_int size_int bytes_int rfl (by decide) v l.length (ints l) hv ⟨b, 0, none⟩ 1 c [.int .i64 (x : Int)] rfl (fun j u e => by
    cases j with
    | zero => simp at e; subst e; exact hb
    | succ j => simp at e) (fun u hu => by simp at hu; subst hu; rfl) (by unfold maxLen; omega) (by omega) k.size
  refine ⟨v', w', hr, ?_, k.appended hv hg (Nat.le_refl _)⟩
  have e : ints (l ++ [x]) = ints l ++ [.int .i64 (x : Int)] := by unfold ints; rw [List.map_append]; rfl
  rw [e, List.length_append]
  exact ho
/-- The same at the operation. -/
theorem wpList_app1 {ops : Array Oper} {rest : List Oper} {o : Oper} {a : Act} {Q : Exit → Act → World → Prop} (w0 w : World) (hgd : o.guard = none) (s x' : Operand)
    (ho : o.op = .call { callee := .builtin .append, args := #[s, x'], argTypes := #[54, 54] })
    (l : List Nat) (x : Nat) (v : Value) (hs : a.eval s = v) (hv : w.ownsRow w0.heap.size 3 1 v l.length (ints l)) (k : Keeps [] w0 w) (z : Int) (hz : z = (x : Int))
    (b c : Nat) (hx : a.eval x' = .slice (some ⟨b, 0, none⟩) 1 c) (hb : w.cell? ⟨b, 0, none⟩ = some (.int .i64 z)) (hl : l.length < 1000)
    (h : ∀ v' w', w'.ownsRow w0.heap.size 3 1 v' (l ++ [x]).length (ints (l ++ [x])) → Keeps [] w0 w' → wpList Tryd.prog ops Q rest (a.put o.dst v') w') :
    wpList Tryd.prog ops Q (o :: rest) a w := by
  refine wpList_plain hgd fun K hK => ?_
  obtain ⟨v', w', hr, h2, h3⟩ := app_one w0 w k v l x hv o.type b c (hz ▸ hb) hl
  unfold Oper.wp execOp
  simp only [ho, resolve, invoke, builtin, Sem.run_bind, Sem.run_pure, Result.andThen_ok, List.map_toArray, List.map_cons, List.map_nil, hs, hx, hr]
  exact hK _ _ (h v' w' h2 h3)
/-- Numbers in new memory. -/
def NewL (w w' : World) (v : Value) (l : List Nat) : Prop := w'.ownsRow w.heap.size 3 1 v l.length (ints l)
set_option maxRecDepth 20000 in
set_option maxHeartbeats 2000000 in
theorem targets_any {w : World} {q o : Nat} {x : Bl8} (h : BlC w q o x) (n : Nat) :
    Calls Tryd.prog 28 #[.pointer (some ⟨q, o, none⟩), .int .i64 (n : Int)] w fun e w' => ∃ v, e = .returned v ∧ NewL w w' v (tgB n x) ∧ Keeps [] w w' := by
  have c1 := h.c1.1
  have c3 := h.c3.1
  have c4 := h.c4.1
  clear h
  have HW : Box (∀ k w, Calls Tryd.prog 27 #[.int .i64 k, .int .i64 (n : Int)] w fun e w' => e = .returned (.bool (inB k n)) ∧ w' = w) := hid fun k w => within_any k n w
  have HA := hid (app_one w)
  have HNIL : Box (w.ownsRow w.heap.size 3 1 (.slice none 0 0) 0 (ints [])) := hid (World.ownsRow_nil w _ _ _)
  have ct : Box (∀ v, (w.alloc (.cells #[v] 3)).cell? ⟨w.heap.size, 0, none⟩ = some v) := hid fun v => by rw [World.cell?_alloc_at _ _ _ _ rfl]; rfl
  unfold NewL tgB
  by_cases f1 : x.fin = 1
  · rw [f1] at c1
    by_cases t1 : inB x.to n = true
    · have e := hid (show (if (x.fin = 1 ∨ x.fin = 2) ∧ inB x.to n = true then [x.to.toNat] else []) ++ (if x.fin = 2 ∧ x.els ≠ x.to ∧ inB x.els n = true then [x.els.toNat] else []) = [] ++ [x.to.toNat] by simp [f1, t1])
      have ht := hid (show x.to = (x.to.toNat : Int) by have := inB_iff.1 t1; omega)
      rw [e.out]
      clear e f1
      go_enter Tryd.func28, Tryd.ntmps28
      go_upto_region 4 with (go_at_call 27; refine (HW.out _ _).mono ?_; rintro e w3 ⟨rfl, rfl⟩; rw [t1])
      generalize Value.slice none 0 0 = v0 at HNIL ⊢
      go_wp2_with (at_builtin; go_must (refine wpList_app1 w3 _ rfl _ _ rfl [] x.to.toNat v0 rfl (HNIL.out.alloc _) (Keeps.alloc [] _ _) x.to ht.out _ _ rfl (ct.out _) (by simp) ?_; intro v1 w4 ho4 hk4))
      have d1 := cell_stays hk4 c1
      have d3 := cell_stays hk4 c3
      have d4 := cell_stays hk4 c4
      clear c1 c3 c4
      have HO4 := hid ho4
      have HK4 := hid hk4
      clear ho4 hk4
      go_quiet (fail)
      go_wp2
      go_ret
      exact ⟨_, rfl, HO4.out, HK4.out.quiet (Keeps.drewN [] _ _)⟩
    · rw [Bool.not_eq_true] at t1
      have e := hid (show (if (x.fin = 1 ∨ x.fin = 2) ∧ inB x.to n = true then [x.to.toNat] else []) ++ (if x.fin = 2 ∧ x.els ≠ x.to ∧ inB x.els n = true then [x.els.toNat] else []) = [] by simp [f1, t1])
      rw [e.out]
      clear e f1
      go_enter Tryd.func28, Tryd.ntmps28
      go_upto_region 5 with (go_at_call 27; refine (HW.out _ _).mono ?_; rintro e w3 ⟨rfl, rfl⟩; rw [t1])
      go_quiet (fail)
      go_wp2
      go_ret
      exact ⟨_, rfl, HNIL.out, (Keeps.refl [] w3).quiet (Keeps.drewN [] _ _)⟩
  by_cases f2 : x.fin = 2
  · rw [f2] at c1
    by_cases t1 : inB x.to n = true
    · by_cases e1 : x.els = x.to
      · have e := hid (show (if (x.fin = 1 ∨ x.fin = 2) ∧ inB x.to n = true then [x.to.toNat] else []) ++ (if x.fin = 2 ∧ x.els ≠ x.to ∧ inB x.els n = true then [x.els.toNat] else []) = [] ++ [x.to.toNat] by simp [f2, t1, e1])
        have ht := hid (show x.to = (x.to.toNat : Int) by have := inB_iff.1 t1; omega)
        rw [e.out]
        have o3 : (x.els != x.to) = false := by simpa using e1
        clear e f1 f2 e1
        go_enter Tryd.func28, Tryd.ntmps28
        go_upto_region 4 with (go_at_call 27; refine (HW.out _ _).mono ?_; rintro e w3 ⟨rfl, rfl⟩; rw [t1])
        generalize Value.slice none 0 0 = v0 at HNIL ⊢
        go_wp2_with (at_builtin; go_must (refine wpList_app1 w3 _ rfl _ _ rfl [] x.to.toNat v0 rfl (HNIL.out.alloc _) (Keeps.alloc [] _ _) x.to ht.out _ _ rfl (ct.out _) (by simp) ?_; intro v1 w4 ho4 hk4))
        have d1 := cell_stays hk4 c1
        have d3 := cell_stays hk4 c3
        have d4 := cell_stays hk4 c4
        clear c1 c3 c4
        have HO4 := hid ho4
        have HK4 := hid hk4
        clear ho4 hk4
        go_quiet (fail)
        go_wp2
        go_ret
        exact ⟨_, rfl, HO4.out, HK4.out.quiet (Keeps.drewN [] _ _)⟩
      by_cases u1 : inB x.els n = true
      · have e := hid (show (if (x.fin = 1 ∨ x.fin = 2) ∧ inB x.to n = true then [x.to.toNat] else []) ++ (if x.fin = 2 ∧ x.els ≠ x.to ∧ inB x.els n = true then [x.els.toNat] else []) = ([] ++ [x.to.toNat]) ++ [x.els.toNat] by simp [f2, t1, e1, u1])
        have ht := hid (show x.to = (x.to.toNat : Int) by have := inB_iff.1 t1; omega)
        have hu := hid (show x.els = (x.els.toNat : Int) by have := inB_iff.1 u1; omega)
        rw [e.out]
        have o3 : (x.els != x.to) = true := by simpa using e1
        clear e f1 f2 e1
        have HWU : Box (∀ w, Calls Tryd.prog 27 #[.int .i64 x.els, .int .i64 (n : Int)] w fun e w' => e = .returned (.bool true) ∧ w' = w) := hid fun w => by have := within_any x.els n w; rw [u1] at this; exact this
        go_enter Tryd.func28, Tryd.ntmps28
        go_upto_region 4 with (go_at_call 27; refine (HW.out _ _).mono ?_; rintro e w3 ⟨rfl, rfl⟩; rw [t1])
        generalize Value.slice none 0 0 = v0 at HNIL ⊢
        go_wp2_with (at_builtin; go_must (refine wpList_app1 w3 _ rfl _ _ rfl [] x.to.toNat v0 rfl (HNIL.out.alloc _) (Keeps.alloc [] _ _) x.to ht.out _ _ rfl (ct.out _) (by simp) ?_; intro v1 w4 ho4 hk4))
        have d1 := cell_stays hk4 c1
        have d3 := cell_stays hk4 c3
        have d4 := cell_stays hk4 c4
        clear c1 c3 c4
        have HO4 := hid ho4
        have HK4 := hid hk4
        clear ho4 hk4
        go_quiet ((go_at_call 27; exact Calls.quiet_of_same (HWU.out _)))
        have ct2 : Box (∀ v, ((w4.drewN nq).alloc (.cells #[v] 3)).cell? ⟨(w4.drewN nq).heap.size, 0, none⟩ = some v) := hid fun v => by rw [World.cell?_alloc_at _ _ _ _ rfl]; rfl
        have HO5 : Box ((w4.drewN nq).ownsRow w3.heap.size 3 1 v1 ([] ++ [x.to.toNat]).length (ints ([] ++ [x.to.toNat]))) := hid HO4.out
        have HK5 : Box (Keeps [] w3 (w4.drewN nq)) := hid (HK4.out.quiet (Keeps.drewN [] _ _))
        go_wp2_with (at_builtin; go_must (refine wpList_app1 w3 _ rfl _ _ rfl ([] ++ [x.to.toNat]) x.els.toNat v1 rfl (HO5.out.alloc _) (HK5.out.quiet (Keeps.alloc [] _ _)) x.els hu.out _ _ rfl (ct2.out _) (by simp) ?_; intro v2 w5 ho5 hk5))
        go_ret
        exact ⟨_, rfl, ho5, hk5⟩
      · rw [Bool.not_eq_true] at u1
        have e := hid (show (if (x.fin = 1 ∨ x.fin = 2) ∧ inB x.to n = true then [x.to.toNat] else []) ++ (if x.fin = 2 ∧ x.els ≠ x.to ∧ inB x.els n = true then [x.els.toNat] else []) = [] ++ [x.to.toNat] by simp [f2, t1, e1, u1])
        have ht := hid (show x.to = (x.to.toNat : Int) by have := inB_iff.1 t1; omega)
        rw [e.out]
        have o3 : (x.els != x.to) = true := by simpa using e1
        clear e f1 f2 e1
        have HWU : Box (∀ w, Calls Tryd.prog 27 #[.int .i64 x.els, .int .i64 (n : Int)] w fun e w' => e = .returned (.bool false) ∧ w' = w) := hid fun w => by have := within_any x.els n w; rw [u1] at this; exact this
        go_enter Tryd.func28, Tryd.ntmps28
        go_upto_region 4 with (go_at_call 27; refine (HW.out _ _).mono ?_; rintro e w3 ⟨rfl, rfl⟩; rw [t1])
        generalize Value.slice none 0 0 = v0 at HNIL ⊢
        go_wp2_with (at_builtin; go_must (refine wpList_app1 w3 _ rfl _ _ rfl [] x.to.toNat v0 rfl (HNIL.out.alloc _) (Keeps.alloc [] _ _) x.to ht.out _ _ rfl (ct.out _) (by simp) ?_; intro v1 w4 ho4 hk4))
        have d1 := cell_stays hk4 c1
        have d3 := cell_stays hk4 c3
        have d4 := cell_stays hk4 c4
        clear c1 c3 c4
        have HO4 := hid ho4
        have HK4 := hid hk4
        clear ho4 hk4
        go_quiet ((go_at_call 27; exact Calls.quiet_of_same (HWU.out _)))
        go_wp2
        go_ret
        exact ⟨_, rfl, HO4.out, HK4.out.quiet (Keeps.drewN [] _ _)⟩
    · rw [Bool.not_eq_true] at t1
      by_cases e1 : x.els = x.to
      · have e := hid (show (if (x.fin = 1 ∨ x.fin = 2) ∧ inB x.to n = true then [x.to.toNat] else []) ++ (if x.fin = 2 ∧ x.els ≠ x.to ∧ inB x.els n = true then [x.els.toNat] else []) = [] by simp [f2, t1, e1])
        rw [e.out]
        have o3 : (x.els != x.to) = false := by simpa using e1
        clear e f1 f2 e1
        go_enter Tryd.func28, Tryd.ntmps28
        go_upto_region 5 with (go_at_call 27; refine (HW.out _ _).mono ?_; rintro e w3 ⟨rfl, rfl⟩; rw [t1])
        go_quiet (fail)
        go_wp2
        go_ret
        exact ⟨_, rfl, HNIL.out, (Keeps.refl [] w3).quiet (Keeps.drewN [] _ _)⟩
      by_cases u1 : inB x.els n = true
      · have e := hid (show (if (x.fin = 1 ∨ x.fin = 2) ∧ inB x.to n = true then [x.to.toNat] else []) ++ (if x.fin = 2 ∧ x.els ≠ x.to ∧ inB x.els n = true then [x.els.toNat] else []) = [] ++ [x.els.toNat] by simp [f2, t1, e1, u1])
        have hu := hid (show x.els = (x.els.toNat : Int) by have := inB_iff.1 u1; omega)
        rw [e.out]
        have o3 : (x.els != x.to) = true := by simpa using e1
        clear e f1 f2 e1
        have HWU : Box (∀ w, Calls Tryd.prog 27 #[.int .i64 x.els, .int .i64 (n : Int)] w fun e w' => e = .returned (.bool true) ∧ w' = w) := hid fun w => by have := within_any x.els n w; rw [u1] at this; exact this
        go_enter Tryd.func28, Tryd.ntmps28
        go_upto_region 5 with (go_at_call 27; refine (HW.out _ _).mono ?_; rintro e w3 ⟨rfl, rfl⟩; rw [t1])
        go_quiet ((go_at_call 27; exact Calls.quiet_of_same (HWU.out _)))
        generalize Value.slice none 0 0 = v0 at HNIL ⊢
        have ct2 : Box (∀ v, ((w3.drewN nq).alloc (.cells #[v] 3)).cell? ⟨(w3.drewN nq).heap.size, 0, none⟩ = some v) := hid fun v => by rw [World.cell?_alloc_at _ _ _ _ rfl]; rfl
        have HO5 : Box ((w3.drewN nq).ownsRow w3.heap.size 3 1 v0 ([] : List Nat).length (ints ([] : List Nat))) := hid HNIL.out
        have HK5 : Box (Keeps [] w3 (w3.drewN nq)) := hid ((Keeps.refl [] w3).quiet (Keeps.drewN [] _ _))
        go_wp2_with (at_builtin; go_must (refine wpList_app1 w3 _ rfl _ _ rfl ([] : List Nat) x.els.toNat v0 rfl (HO5.out.alloc _) (HK5.out.quiet (Keeps.alloc [] _ _)) x.els hu.out _ _ rfl (ct2.out _) (by simp) ?_; intro v2 w5 ho5 hk5))
        go_ret
        exact ⟨_, rfl, ho5, hk5⟩
      · rw [Bool.not_eq_true] at u1
        have e := hid (show (if (x.fin = 1 ∨ x.fin = 2) ∧ inB x.to n = true then [x.to.toNat] else []) ++ (if x.fin = 2 ∧ x.els ≠ x.to ∧ inB x.els n = true then [x.els.toNat] else []) = [] by simp [f2, t1, e1, u1])
        rw [e.out]
        have o3 : (x.els != x.to) = true := by simpa using e1
        clear e f1 f2 e1
        have HWU : Box (∀ w, Calls Tryd.prog 27 #[.int .i64 x.els, .int .i64 (n : Int)] w fun e w' => e = .returned (.bool false) ∧ w' = w) := hid fun w => by have := within_any x.els n w; rw [u1] at this; exact this
        go_enter Tryd.func28, Tryd.ntmps28
        go_upto_region 5 with (go_at_call 27; refine (HW.out _ _).mono ?_; rintro e w3 ⟨rfl, rfl⟩; rw [t1])
        go_quiet ((go_at_call 27; exact Calls.quiet_of_same (HWU.out _)))
        go_wp2
        go_ret
        exact ⟨_, rfl, HNIL.out, (Keeps.refl [] w3).quiet (Keeps.drewN [] _ _)⟩
  have e := hid (show (if (x.fin = 1 ∨ x.fin = 2) ∧ inB x.to n = true then [x.to.toNat] else []) ++ (if x.fin = 2 ∧ x.els ≠ x.to ∧ inB x.els n = true then [x.els.toNat] else []) = [] by simp [f1, f2])
  rw [e.out]
  have o1 := (show (x.fin == 1) = false by simpa using f1)
  have o2 := (show (x.fin == 2) = false by simpa using f2)
  clear e f1 f2
  go_enter Tryd.func28, Tryd.ntmps28
  go_upto_region 5 with fail
  go_quiet (fail)
  go_wp2
  go_ret
  exact ⟨_, rfl, HNIL.out, (Keeps.refl [] w).quiet (Keeps.drewN [] _ _)⟩
end Go.Proofs.YtmebkeidpklcbaaDoor
