/-
  For the statement WorkAll: append as one step of a region that draws; what the slice of those that wait becomes.
-/
import Derived.Test.YtjfemabgbmadfaaWSt
import Derived.Test.YtjfemabgbmadfaaWOps
import Derived.Deep.RegionLaw
import Derived.Deep.RegionWith
namespace Go.Proofs.Ytjfemabgbmadfaa
open Go.RowKit

theorem step_append_at {ops : Array Oper} {o : Oper} {a : Act} {w : World} {K : Act → World → Prop} {Q : Exit → Act → World → Prop} {E : Prop} (hgd : o.guard = none) (s x : Operand)
    (ho : o.op = .call { callee := .builtin .append, args := #[s, x], argTypes := #[22, 22] })
    (base : Nat) (v : Value) (n : Nat) (l : List Int) (hs : a.eval s = v) (hown : w.ownsRow base 3 1 v n (nums l))
    (ad : Addr) (m c : Nat) (l2 : List Int) (hx : a.eval x = .slice (some ad) m c) (hl : l2.length = m) (hnews : ∀ j u, (nums l2)[j]? = some u → w.cell? (ad.add j) = some u) (hb : n + m ≤ 1000000) (hbase : base ≤ w.heap.size)
    (h : ∀ v' w', w'.ownsRow base 3 1 v' (n + m) (nums (l ++ l2)) → w.grownBy w' v.ownBlock → (v'.ownBlock = v.ownBlock ∨ v'.ownBlock = some w.heap.size) → K (a.put o.dst v') w') :
    if Region.wanted o (yielded ops a.tmps) = true then Oper.wp Try.prog o a w K Q else E := by
  have hw : Region.wanted o (yielded ops a.tmps) = true := by simp [Region.wanted, hgd]
  rw [if_pos hw]
  obtain ⟨i0, hi, hz0, hz1, hz2⟩ := info_parts info_int
  obtain ⟨v', w', hr, h2, h3, _, h5⟩ := run_append_own_at (P := Try.prog) w base 22 o.type 3 i0 (.int .i64 0) 1 8 Try.underlying22 hi hz0 hz1 hz2 rfl (by decide) v n (nums l) hown ad m c (nums l2) (by rw [nums_len, hl]; omega) hnews (nums_one l2) (by unfold maxLen; omega) (by omega) hbase
  have e : nums l ++ nums l2 = nums (l ++ l2) := by unfold nums; rw [List.map_append]
  rw [e] at h2
  unfold Oper.wp execOp
  simp only [ho, resolve, invoke, builtin, Sem.run_bind, Sem.run_pure, Result.andThen_ok, List.map_toArray, List.map_cons, List.map_nil, hs, hx, hr]
  exact h v' w' h2 h3 h5

theorem mem_take_succ (l : List Int) (z : Int) (j : Nat) (h : j < l.length) : decide (z ∈ l.take (j + 1)) = (decide (z ∈ l.take j) || (l.getD j 0 == z)) := by
  have hm : z ∈ l.take (j + 1) ↔ z ∈ l.take j ∨ l.getD j 0 = z := by
    rw [List.take_add_one, List.mem_append, List.getElem?_eq_getElem h, List.getD_eq_getElem?_getD, List.getElem?_eq_getElem h]
    simp only [Option.toList_some, List.mem_singleton, Option.getD_some]
    exact ⟨fun x => x.imp id Eq.symm, fun x => x.imp id Eq.symm⟩
  by_cases c : z ∈ l.take (j + 1)
  · rw [decide_eq_true c]
    rcases hm.1 c with e | e
    · rw [decide_eq_true e]; rfl
    · rw [e]; simp
  · rw [decide_eq_false c, decide_eq_false (fun e => c (hm.2 (Or.inl e)))]
    have : ¬ l.getD j 0 = z := fun e => c (hm.2 (Or.inr e))
    rw [beq_eq_false_iff_ne.2 this]
    rfl

theorem erase_eq (l : List Int) (k : Nat) : l.take k ++ l.drop (k + 1) = l.eraseIdx k := (List.eraseIdx_eq_take_drop_succ l k).symm

/-- What the two appends leave. -/
theorem all_done {w w5 w6 w7 : World} {p : Nat} {F : List Nat} {picks line' : List Int} {pops : Nat} {v6 v7 : Value} {n7 : Nat} {ml : List Int} {H6 : Nat} (T : Lone w w5 p F picks line' pops)
    (hg6 : w5.grownBy w6 none) (ha6 : v6.ownBlock = none ∨ v6.ownBlock = some w5.heap.size) (hg7 : w6.grownBy w7 v6.ownBlock) (ha7 : v7.ownBlock = v6.ownBlock ∨ v7.ownBlock = some H6) (hH6 : w6.heap.size = H6) (ho7 : w7.ownsRow w.heap.size 3 1 v7 n7 (nums ml)) (hn : ml.length = n7) :
    Two w w7 p F picks line' pops v7 ml := by
  have k6 : Keeps [] w5 w6 := Keeps.grown [] hg6 (fun k hk => by cases hk)
  have k7 : Keeps v6.ownBlock.toList w6 w7 := Keeps.grown _ hg7 (fun b hb => by rw [hb]; simp)
  have hs := k6.size
  have h6 : ∀ b, v6.ownBlock = some b → b ∉ F ∧ w.heap.size ≤ b := by
    intro b hb
    rcases ha6 with e | e
    · rw [e] at hb; cases hb
    · rw [e] at hb
      have hlt := T.has.lt b
      have := T.keep.size
      cases hb
      exact ⟨fun hx => by have := hlt hx; omega, this⟩
  refine ⟨(T.quiet k6).far k7 (fun b hb => h6 b ?_), by rw [hn]; exact ho7, fun b hb hx => ?_⟩
  · cases hm : v6.ownBlock with
    | none => rw [hm] at hb; simp at hb
    | some q => rw [hm] at hb; simp at hb; rw [hb]
  · rcases ha7 with e | e
    · exact (h6 b (e ▸ hb)).1 hx
    · rw [e] at hb
      cases hb
      have := T.has.lt _ hx
      omega
theorem pick_place (picks : List Int) (pops N : Nat) (h : pops < picks.length) (h0 : 0 ≤ picks.getD pops 0) (hN : 0 < N) : Int.tmod (picks.getD pops 0) (N : Int) = (placeOf picks pops N : Int) := by
  unfold placeOf pickI
  rw [if_pos h, show max (picks.getD pops 0) 0 = picks.getD pops 0 by omega, Int.tmod_eq_emod_of_nonneg h0]
  have := Int.emod_nonneg (picks.getD pops 0) (show (N : Int) ≠ 0 by omega)
  omega
theorem pick_first (picks : List Int) (pops N : Nat) (h : ¬ (pops < picks.length ∧ 0 ≤ picks.getD pops 0)) : placeOf picks pops N = 0 := by
  unfold placeOf pickI
  by_cases c : pops < picks.length
  · rw [if_pos c, show max (picks.getD pops 0) 0 = 0 by omega]; simp
  · rw [if_neg c]; simp
theorem place_lt' (picks : List Int) (pops n : Nat) (h : 0 < n) : placeOf picks pops n < n := by
  unfold placeOf
  have := Int.emod_lt_of_pos (pickI picks pops) (show (0 : Int) < (n : Int) by omega)
  omega
theorem line_cells {w : World} {g cap : Nat} {l : List Int} (h : LineAt w g 0 cap l) (o k : Nat) (l2 : List Int) (ad : Addr) (hk : k + o ≤ l.length) (hl : l2.length = k) (hg : ∀ j, j < k → l2.getD j 0 = l.getD (o + j) 0) (ha : 0 < k → ad = ⟨g, o, none⟩) : ∀ j u, (nums l2)[j]? = some u → w.cell? (ad.add j) = some u := by
  intro j u hu
  have hj : j < l2.length := by
    have := (List.getElem?_eq_some_iff.1 hu).1
    rwa [nums_len] at this
  rw [nums_get l2 j hj, hg j (by omega)] at hu
  rw [ha (by omega), Addr.add_lit]
  have := h.cell (o + j) (by omega)
  rw [Nat.zero_add] at this
  exact this.trans hu
end Go.Proofs.Ytjfemabgbmadfaa
