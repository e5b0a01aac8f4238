/-
  Contracts: work's cut.
-/
import Derived.Test.YtjfemabgbmadfaaWCut
import Derived.BigQuiet
namespace Go.Proofs.Ytjfemabgbmadfaa
open Go.RowKit

set_option maxHeartbeats 2000000 in
theorem cut_delete (p g off cap place n pops : Nat) (pv mv : Value) (l : List Int) (w : World) (hh : Head w p pv pops (.slice (some ⟨g, off, none⟩) n cap) mv) (hl : LineAt w g off cap l) (hn : l.length = n) (hgp : g ≠ p) (hi : place < n) (hm : n ≤ 1000000) (hge : n / 2 ≤ place) :
    Calls Try.prog 15 #[.pointer (some ⟨p, 0, none⟩), .int .i64 place] w fun e w' => e = .returned (.tuple #[]) ∧ ∃ off' cap', Head w' p pv pops (.slice (some ⟨g, off', none⟩) (n - 1) cap') mv ∧ LineAt w' g off' cap' (l.eraseIdx place) ∧ Keeps [p, g] w w' := by
  have c2 := hh.c2
  have HD := hid (delete_any g off n cap place l w hl hn hi)
  have HH := hid hh
  have hq2 : ((n : Int) / 2) ≤ (place : Int) := by omega
  clear hl hn hge
  clear hh
  go_enter Try.func15, Try.ntmps15
  go_wp2_with fail
  refine HD.out.mono ?_
  rintro e w1 ⟨rfl, hline, hk⟩
  have hh1 : Head w1 p pv pops (.slice (some ⟨g, off, none⟩) n cap) mv := HH.out.kept hk (by simp; omega)
  have HL := hid hline
  have HK := hid hk
  have H1 := hid hh1
  have d2 := hh1.c2
  have f2 := hh1.frozen 2
  clear hline hk hh1 HD c2
  go_wp2
  first | go_end0 | ((try simp only [Exit.inBlock, Exit.then]); refine bodyPost_ret (results_none rfl _ _ _) rfl ?_)
  refine ⟨rfl, off, cap, H1.out.put2 _, HL.out.kept (Keeps.setCell [p] w1 ⟨p, 2, none⟩ _ (by simp)) (by simp; omega), ?_⟩
  exact (HK.out.mono (by simp)).step (Keeps.setCell _ _ _ _ (by simp))

theorem step_copy_line {ops : Array Oper} {o : Oper} {a : Act} {w : World} {K : Act → World → Prop} {Q : Exit → Act → World → Prop} {E : Prop}
    (hg : o.guard = none) (d x : Operand) (hop : o.op = Op.call { callee := Callee.builtin Builtin.copy, args := #[d, x], argTypes := #[22, 22] })
    (v u : Value) (hd : a.eval d = v) (hx : a.eval x = u) {v' : Value} {w' : World} (hr : ∀ ty, (Builtin.copy_ #[22, 22] ty #[v, u]).run Try.prog w = .ok v' w') (hK : K (a.put o.dst v') w') :
    if Region.wanted o (yielded ops a.tmps) = true then Oper.wp Try.prog o a w K Q else E := by
  have hw : Region.wanted o (yielded ops a.tmps) = true := by simp [Region.wanted, hg]
  rw [if_pos hw]
  unfold Oper.wp
  simp [execOp, hop, resolve, invoke, builtin, hd, hx, hr, Result.andThen]
  exact hK

theorem getD_take (l : List Int) (j k : Nat) (h : k < j) : (l.take j).getD k 0 = l.getD k 0 := by
  rw [List.getD_eq_getElem?_getD, List.getElem?_take, if_pos h, List.getD_eq_getElem?_getD]

/-- The row behind the copy: those ahead of the place one on. -/
theorem LineAt.moved {w : World} {g off cap : Nat} {l : List Int} (h : LineAt w g off cap l) {i : Nat} (hi : i < l.length) : LineAt (w.setCells g (off + 1) (nums (l.take i))) g (off + 1) (cap - 1) (l.eraseIdx i) := by
  have hl := h.len
  have hm := h.max
  have e : (nums (l.take i)).length = i := by rw [nums_len, List.length_take]; omega
  have ht : ∀ j, j < (nums (l.take i)).length → (w.cell? ⟨g, off + 1 + j, none⟩).isSome = true := fun j hj => by rw [e] at hj; rw [Nat.add_assoc]; exact (h.room (1 + j) (by omega)).1
  refine ⟨fun k hk => ?_, fun k hk => ?_, by rw [erase_len l i hi]; omega, by omega, Nat.lt_of_lt_of_le h.lt (Keeps.setCells g _ _ w).size⟩
  · rw [erase_len l i hi] at hk
    rw [cell_setCells w g (off + 1) (off + 1 + k) _ ht, e, getD_erase]
    by_cases c : k < i
    · rw [if_pos c, if_pos (by omega), show off + 1 + k - (off + 1) = k by omega, nums_get _ _ (by rw [List.length_take]; omega), getD_take l i k c]
    · rw [if_neg c, if_neg (by omega), show off + 1 + k = off + (k + 1) by omega]
      exact h.cell (k + 1) (by omega)
  · refine ⟨some_setCells w g _ _ _ ht ?_, ?_⟩
    · rw [Nat.add_assoc]; exact (h.room (1 + k) (by omega)).1
    · rw [World.frozen?_setCells, Nat.add_assoc]; exact (h.room (1 + k) (by omega)).2

set_option maxHeartbeats 4000000 in
set_option maxRecDepth 100000 in
theorem cut_copy (p g off cap place n pops : Nat) (pv mv : Value) (l : List Int) (w : World) (hh : Head w p pv pops (.slice (some ⟨g, off, none⟩) n cap) mv) (hl : LineAt w g off cap l) (hn : l.length = n) (hgp : g ≠ p) (hm : n ≤ 1000000) (hge : place < n / 2) :
    Calls Try.prog 15 #[.pointer (some ⟨p, 0, none⟩), .int .i64 place] w fun e w' => e = .returned (.tuple #[]) ∧ ∃ off' cap', Head w' p pv pops (.slice (some ⟨g, off', none⟩) (n - 1) cap') mv ∧ LineAt w' g off' cap' (l.eraseIdx place) ∧ Keeps [p, g] w w' := by
  have hlen := hl.len
  have hmax := hl.max
  have HM := hid (LineAt.moved (w := w.drew) (i := place) ⟨hl.cell, hl.room, hl.len, hl.max, hl.lt⟩ (by omega))
  have e : (nums (l.take place)).length = place := by rw [nums_len, List.length_take]; omega
  have hr0 := fun ty => run_copy_cells (P := Try.prog) w.drew 22 22 ty 3 g (off + 1) place (cap - 1) ⟨g, off, none⟩ place cap (nums (l.take place)) Try.underlying22 (by kernel_rfl) (by rw [e]; simp)
    (fun j u hu => by
      have hj : j < place := by have := (List.getElem?_eq_some_iff.1 hu).1; rwa [e] at this
      rw [nums_get _ _ (by rw [List.length_take]; omega), getD_take l place j hj] at hu
      rw [Addr.add_lit]
      exact (hl.cell j (by omega)).trans hu)
    (fun j hj => by rw [e] at hj; rw [Nat.add_assoc]; exact (hl.room (1 + j) (by omega)).1) (fun j hj => by rw [e] at hj; rw [Nat.add_assoc]; exact (hl.room (1 + j) (by omega)).2) (nums_one _)
  have HK := hid ((Keeps.drew [g] w).step (Keeps.setCells g (nums (l.take place)) (off + 1) w.drew))
  rw [e] at hr0
  generalize w.drew.setCells g (off + 1) (nums (l.take place)) = W1 at hr0 HM HK
  have HR := hid hr0
  have c2 := hh.c2
  have hh1 : Head W1 p pv pops (.slice (some ⟨g, off, none⟩) n cap) mv := hh.kept HK.out (by simp; omega)
  have H1 := hid hh1
  have d2 := hh1.c2
  have f2 := hh1.frozen 2
  have hq1 : ¬ ((n : Int) / 2) ≤ (place : Int) := by omega
  have hwr : IntKind.i64.wrap ((place : Int) + 1) = (place : Int) + 1 := by rw [IntKind.wrap_i64]; omega
  have hq0 : (0 : Int) ≤ (place : Int) + 1 := by omega
  have hqm : (1 : Int) ≤ max ((place : Int) + 1) 0 := by omega
  have hq2 : (place : Int) + 1 ≤ (cap : Int) := by omega
  have hq3 : (place : Int) ≤ (cap : Int) := by omega
  have hq4 : (1 : Int) ≤ (place : Int) + 1 := by omega
  have hq5 : ¬ cap = 1 := by omega
  have hq6 : 1 ≤ n := by omega
  have hq7 : (1 : Int) ≤ (n : Int) := by omega
  have hq8 : ((place : Int) + 1).toNat = place + 1 := by omega
  have hq9 : place + 1 ≤ cap := by omega
  have hq10 : place ≤ cap := by omega
  clear hl hn hge hh hh1 hr0 e
  go_enter Try.func15, Try.ntmps15
  go_wp2_with fail
  go_region_law (refine step_copy_line rfl (.tmp 29) (.tmp 35) rfl (.slice (some ⟨g, off + 1, none⟩) place (cap - 1)) (.slice (some ⟨g, off, none⟩) place cap) (by simp [Act.eval, Act.put]) (by simp [Act.eval, Act.put]) HR.out ?_)
  all_goals
    go_wp2
    first | go_end0 | ((try simp only [Exit.inBlock, Exit.then]); refine bodyPost_ret (results_none rfl _ _ _) rfl ?_)
    refine ⟨rfl, off + 1, cap - 1, H1.out.put2 _, HM.out.kept (Keeps.setCell [p] W1 ⟨p, 2, none⟩ _ (by simp)) (by simp; omega), ?_⟩
    exact (HK.out.mono (by simp)).step (Keeps.setCell _ _ _ _ (by simp))

theorem cut_any (p g off cap place n pops : Nat) (pv mv : Value) (l : List Int) (w : World) (hh : Head w p pv pops (.slice (some ⟨g, off, none⟩) n cap) mv) (hl : LineAt w g off cap l) (hn : l.length = n) (hgp : g ≠ p) (hi : place < n) (hm : n ≤ 1000000) :
    Calls Try.prog 15 #[.pointer (some ⟨p, 0, none⟩), .int .i64 place] w fun e w' => e = .returned (.tuple #[]) ∧ ∃ off' cap', Head w' p pv pops (.slice (some ⟨g, off', none⟩) (n - 1) cap') mv ∧ LineAt w' g off' cap' (l.eraseIdx place) ∧ Keeps [p, g] w w' := by
  by_cases c : n / 2 ≤ place
  · exact cut_delete p g off cap place n pops pv mv l w hh hl hn hgp hi hm c
  · exact cut_copy p g off cap place n pops pv mv l w hh hl hn hgp hm (by omega)
end Go.Proofs.Ytjfemabgbmadfaa
