/-
  Contracts: slices.Sort of a list that the call has made; slices.SortFunc of lists by their first numbers.
-/
import Derived.Test.YtngdnjlohmkbiaaDoorGTurn
import Derived.Test.YtngdnjlohmkbiaaDoorGPerm
import Derived.Test.YtngdnjlohmkbiaaDoorGLayB
namespace Go.Proofs.YtngdnjlohmkbiaaDoor
open Go.RowKit

theorem Keeps.grownRow {w w' : World} {g : Nat} (h : w.grownBy w' (some g)) : Keeps [g] w w' := Keeps.grown _ h (fun k hk => by simp at hk ⊢; exact hk.symm)

/-- slices.Sort of a list that the call has made. -/
theorem sort_any (v : Value) (l : List Nat) (base n : Nat) (w : World) (hr : w.ownsRow base 3 1 v l.length (ints l)) (hn : l.Nodup) (hlt : ∀ x, x ∈ l → x < n) (h0 : l ≠ []) (hl : l.length ≤ 1000000) :
    Calls Tryd.prog 54 #[v] w fun e w' => e = .returned (.tuple #[]) ∧ w'.ownsRow base 3 1 v (asc n l).length (ints (asc n l)) ∧ Keeps v.ownBlock.toList w w' := by
  rcases hr.2 with ⟨rfl, h0'⟩ | ⟨g, cap, cur, rfl, hbase, hb, h1, h2, h3, h4⟩
  · exact absurd (List.length_eq_zero_iff.1 h0') h0
  · have hlen : (intsI l).length = l.length := intsI_len l
    have hH : Sort.Holds (Value.int .i64) w g 0 (intsI l).toArray := holds_of_blockI hb (by rw [hlen, ← ints_intsI]; simpa using h4)
    have hc := Any.slices_Sort_int srtLays g 0 cap (intsI l) w hH (Array.getElem?_eq_some_iff.1 hb).1 (by omega)
    change Calls Tryd.prog 54 _ _ _ at hc
    rw [hlen] at hc
    refine hc.mono ?_
    rintro e w' ⟨rfl, m, os, rfl⟩
    have hsrt : (intsI l).mergeSort (fun x y => decide (x ≤ y)) = intsI (asc n l) := sort_asc n l hn hlt
    have hal : (asc n l).length = l.length := by
      have := (List.mergeSort_perm (intsI l) (fun x y => decide (x ≤ y))).length_eq
      rw [hsrt, intsI_len, intsI_len] at this
      exact this
    have h5 := ownsRow_sortedI (w := w) (n := m) (os := os) (base := base) (g := g) (cap := cap) (e := 3) (cur := cur) (ss := intsI l) (ts := intsI (asc n l)) (by rw [intsI_len, intsI_len, hal]) hbase hb (by omega) h2 h3
    have h6 := grownBy_sortedI (w := w) (g := g) (n := m) (os := os) (intsI (asc n l)).toArray
    rw [hsrt]
    refine ⟨rfl, ?_, Keeps.grownRow h6⟩
    rw [hlen, ← ints_intsI] at h5
    rw [hal]
    exact h5

/-- cmp.Compare at int. -/
def cmpI (x y : Int) : Int := if x < y then -1 else if y < x then 1 else 0
theorem compare_any (x y : Int) (w : World) :
    Calls Tryd.prog 57 #[.int .i64 x, .int .i64 y] w fun e w' => e = .returned (.int .i64 (cmpI x y)) ∧ w' = w := by
  unfold cmpI
  by_cases h1 : x < y
  · rw [if_pos h1]
    go_enter Tryd.func57, Tryd.ntmps57
    go_wp2
    go_ret
    exact ⟨rfl, rfl⟩
  · rw [if_neg h1]
    by_cases h2 : y < x
    · rw [if_pos h2]
      go_enter Tryd.func57, Tryd.ntmps57
      go_wp2
      go_ret
      exact ⟨rfl, rfl⟩
    · rw [if_neg h2]
      go_enter Tryd.func57, Tryd.ntmps57
      go_wp2
      go_ret
      exact ⟨rfl, rfl⟩

set_option maxHeartbeats 1000000 in
/-- The comparison of two lists by their first numbers. -/
theorem closure_any (g1 n1 c1 g2 n2 c2 : Nat) (a b : Int) (w : World) (h1 : w.cell? ⟨g1, 0, none⟩ = some (.int .i64 a)) (h2 : w.cell? ⟨g2, 0, none⟩ = some (.int .i64 b)) (hn1 : 0 < n1) (hn2 : 0 < n2) :
    Calls Tryd.prog 56 #[.slice (some ⟨g1, 0, none⟩) n1 c1, .slice (some ⟨g2, 0, none⟩) n2 c2] w fun e w' => e = .returned (.int .i64 (cmpI a b)) ∧ ∃ q, w' = w.drewN q := by
  have HC := hid (fun w => compare_any a b w)
  obtain ⟨r, hr⟩ : ∃ r, cmpI a b = r := ⟨_, rfl⟩
  rw [hr] at HC ⊢
  clear hr
  have hb1 : (0 : Int) < (n1 : Int) := by omega
  have hb2 : (0 : Int) < (n2 : Int) := by omega
  go_enter Tryd.func56, Tryd.ntmps56
  go_wp2
  go_quiet ((go_at_call 57; exact Calls.quiet_of_same (HC.out _)))
  go_wp2
  go_ret
  exact ⟨rfl, _, rfl⟩

/-- Lists in a row that grows. -/
structure LsOwn (w : World) (base : Nat) (v : Value) (vs : List Value) (ps : List (List Nat)) : Prop where
  outer : w.ownsRow base 23 1 v ps.length vs
  inner : ∀ i, i < ps.length → w.ownsRow base 3 1 (vs.getD i nilS) (nb ps i).length (ints (nb ps i))

section
variable {α : Type} [Inhabited α]
theorem heap_put {w : World} {g n : Nat} {os : Array Obj} {cur : Array Value} {e : TypeId} {fr : Nat × Nat} (enc : α → Value) (d : Array α) (hb : w.heap[g]? = some (.cells cur e fr)) :
    (sortWorld enc w g 0 n d os).heap[g]? = some (.cells (Sort.putCells enc 0 d cur) e fr) := by
  have hg : g < w.heap.size := (Array.getElem?_eq_some_iff.1 hb).1
  unfold sortWorld
  rw [Sort.heap_grow_old _ _ (by simpa using hg)]
  simp [Sort.putRow, Sort.mapBlock, Sort.ahead, Array.getElem?_modify, hb, Sort.onCells]
theorem keeps_put {w : World} {g n : Nat} {os : Array Obj} (enc : α → Value) (d : Array α) : Keeps [g] w (sortWorld enc w g 0 n d os) := by
  refine ⟨rfl, rfl, rfl, by simp [sortWorld], fun k hk hne => ?_⟩
  unfold sortWorld
  rw [Sort.heap_grow_old _ _ (by simpa using hk)]
  have : g ≠ k := fun e => hne (by rw [e]; simp)
  simp [Sort.putRow, Sort.mapBlock, Sort.ahead, Array.getElem?_modify, this]
theorem take_put (enc : α → Value) (cur : Array Value) (d : Array α) (h : d.size ≤ cur.size) : (Sort.putCells enc 0 d cur).toList.take d.size = d.toList.map enc := by
  apply List.ext_getElem?
  intro j
  by_cases hj : j < d.size
  · rw [List.getElem?_take_of_lt hj, Array.getElem?_toList]
    simp [Sort.putCells, hj, show j < cur.size by omega]
  · rw [List.getElem?_take_eq_none (by omega), List.getElem?_eq_none (by simp; omega)]
end

theorem cmpI_lt (x y : Int) : decide (cmpI x y < 0) = decide (x < y) := by
  unfold cmpI
  by_cases h1 : x < y
  · simp [h1]
  · by_cases h2 : y < x <;> simp [h1, h2]

theorem cell0 {w : World} {base : Nat} {v : Value} {l : List Nat} (h : w.ownsRow base 3 1 v l.length (ints l)) (h0 : l ≠ []) : ∃ g cap, v = .slice (some ⟨g, 0, none⟩) l.length cap ∧ w.cell? ⟨g, 0, none⟩ = some (.int .i64 ((key0 l : Nat) : Int)) ∧ 0 < l.length := by
  have hpos : 0 < l.length := by
    cases l with
    | nil => exact absurd rfl h0
    | cons => simp
  rcases h.2 with ⟨_, h'⟩ | ⟨g, cap, cur, rfl, _⟩
  · omega
  · refine ⟨g, cap, rfl, ?_, hpos⟩
    rw [h.cellAt 0 (by omega)]
    unfold ints key0
    rw [List.getElem?_map, List.getElem?_eq_getElem hpos, List.getD_eq_getElem?_getD, List.getElem?_eq_getElem hpos]
    rfl

theorem sortf_any (v : Value) (vs : List Value) (ps qs : List (List Nat)) (base : Nat) (w : World) (h : LsOwn w base v vs ps) (hne : ∀ p, p ∈ ps → p ≠ []) (hp : qs.Perm ps) (hq : qs.Pairwise (fun a b => key0 a < key0 b)) (hl : ps.length ≤ 1000000) :
    Calls Tryd.prog 55 #[v, .func (.func 56) #[] #[]] w fun e w' => e = .returned (.tuple #[]) ∧ (∃ vs', LsOwn w' base v vs' qs) ∧ Keeps v.ownBlock.toList w w' := by
  by_cases hz : ps.length = 0
  · obtain rfl : ps = [] := List.length_eq_zero_iff.1 hz
    obtain rfl : qs = [] := List.perm_nil.1 hp
    have hv : ∃ a cap, v = .slice a 0 cap := by
      rcases h.outer.2 with ⟨rfl, _⟩ | ⟨g, cap, cur, rfl, _⟩
      · exact ⟨none, 0, rfl⟩
      · exact ⟨_, cap, rfl⟩
    obtain ⟨a, cap, rfl⟩ := hv
    have hc := AnyF.slices_SortFunc_none { srfLays with } a cap (.func (.func 56) #[] #[]) w
    change Calls Tryd.prog 55 _ _ _ at hc
    refine hc.mono ?_
    rintro e w' ⟨rfl, rfl⟩
    exact ⟨rfl, ⟨vs, h⟩, Keeps.refl _ _⟩
  · rcases h.outer.2 with ⟨_, h0⟩ | ⟨g, cap, cur, rfl, hbase, hb, h1, h2, h3, h4⟩
    · exact absurd h0 hz
    · have hgn : ∀ x : { x : Value × List Nat // w.ownsRow base 3 1 x.1 x.2.length (ints x.2) ∧ x.2 ≠ [] }, x.1.1.ownBlock ≠ some g := fun x => Lib.ownBlock_ne x.2.1 hb (by decide)
      have hpi : ∀ i, i < ps.length → nb ps i ∈ ps := fun i hi => getD_mem ps i [] hi
      have inst : Inhabited { x : Value × List Nat // w.ownsRow base 3 1 x.1 x.2.length (ints x.2) ∧ x.2 ≠ [] } := ⟨⟨(vs.getD 0 nilS, nb ps 0), h.inner 0 (by omega), hne _ (hpi 0 (by omega))⟩⟩
      obtain ⟨d, hd⟩ : ∃ d : Array { x : Value × List Nat // w.ownsRow base 3 1 x.1 x.2.length (ints x.2) ∧ x.2 ≠ [] }, d = Array.ofFn (n := ps.length) (fun i => ⟨(vs.getD i nilS, nb ps i), h.inner i i.2, hne _ (hpi i i.2)⟩) := ⟨_, rfl⟩
      have hds : d.size = ps.length := by rw [hd, Array.size_ofFn]
      have hdi : ∀ i, i < ps.length → (d[i]!).1 = (vs.getD i nilS, nb ps i) := by
        intro i hi
        rw [getElem!_pos d i (by omega)]
        simp [hd]
      have hvl : vs.length = ps.length := by have := h.outer.1; omega
      obtain ⟨enc, henc⟩ : ∃ enc : { x : Value × List Nat // w.ownsRow base 3 1 x.1 x.2.length (ints x.2) ∧ x.2 ≠ [] } → Value, enc = fun x => x.1.1 := ⟨_, rfl⟩
      obtain ⟨cf, hcf⟩ : ∃ cf : { x : Value × List Nat // w.ownsRow base 3 1 x.1 x.2.length (ints x.2) ∧ x.2 ≠ [] } → { x : Value × List Nat // w.ownsRow base 3 1 x.1 x.2.length (ints x.2) ∧ x.2 ≠ [] } → Int, cf = fun x y => cmpI (key0 x.1.2 : Nat) (key0 y.1.2 : Nat) := ⟨_, rfl⟩
      have hlt : ∀ x y, ltOf cf x y = decide (key0 x.1.2 < key0 y.1.2) := by
        intro x y
        unfold ltOf
        rw [hcf, cmpI_lt]
        simp
      have hone : OneCell enc := by
        intro x
        obtain ⟨gx, cx, hv, _, _⟩ := cell0 x.2.1 x.2.2
        rw [henc]
        show x.1.1.oneCell' = true
        rw [hv]
        rfl
      have hswo : Sort.SWO (ltOf cf) := by
        refine ⟨fun x => ?_, fun x y z h1 h2 => ?_, fun x y z h1 h2 => ?_⟩
        · rw [hlt]; simp
        · rw [hlt] at h1 h2 ⊢; simp at h1 h2 ⊢; omega
        · rw [hlt] at h1 h2 ⊢; simp at h1 h2 ⊢; omega
      have hcmp : CmpLays1 Tryd.prog 56 #[] enc cf g 0 d.size w := by
        intro m os dk _ x y
        have hk : Keeps [g] w (sortWorld enc w g 0 m dk os) := keeps_put enc dk
        have ox := ownsRow_keeps x.2.1 hk (fun b hb => by simp; exact fun e => hgn x (e ▸ hb))
        have oy := ownsRow_keeps y.2.1 hk (fun b hb => by simp; exact fun e => hgn y (e ▸ hb))
        obtain ⟨gx, cx, hvx, hcx, hnx⟩ := cell0 ox x.2.2
        obtain ⟨gy, cy, hvy, hcy, hny⟩ := cell0 oy y.2.2
        have e1 : (#[enc x, enc y] ++ #[] : Array Value) = #[.slice (some ⟨gx, 0, none⟩) x.1.2.length cx, .slice (some ⟨gy, 0, none⟩) y.1.2.length cy] := by
          rw [henc, Array.append_empty]
          show #[x.1.1, y.1.1] = _
          rw [hvx, hvy]
        rw [e1]
        refine (closure_any gx _ cx gy _ cy _ _ _ hcx hcy hnx hny).mono ?_
        rintro e w' ⟨he, q, hw⟩
        refine ⟨by rw [he, hcf], q, #[], by rw [hw, grow_none]⟩
      have hH : Sort.Holds enc w g 0 d := by
        intro j hj
        rw [hds] at hj
        refine ⟨?_, frozen_of_row w g _ _ _ hb⟩
        rw [Nat.zero_add, h.outer.cellAt j (by omega), henc]
        show _ = some (d[j]!).1.1
        rw [hdi j hj, List.getElem?_eq_getElem (by omega), List.getD_eq_getElem?_getD, List.getElem?_eq_getElem (by omega)]
        rfl
      have hc := Any.slices_SortFunc srfLays enc hone cf hswo 56 #[] g 0 cap d w (enters_of Tryd.func56 (by kernel_rfl) rfl) hcmp hH (Array.getElem?_eq_some_iff.1 hb).1 (by omega)
      change Calls Tryd.prog 55 _ _ _ at hc
      rw [hds] at hc
      refine hc.mono ?_
      rintro e w' ⟨rfl, d', m, os, hperm, hsort, rfl⟩
      have hk : Keeps [g] w (sortWorld enc w g 0 m d' os) := keeps_put enc d'
      have hd's : d'.size = ps.length := by have := hperm.1; omega
      have hpl : d'.toList.Perm d.toList := by
        have := hperm.2.2
        rw [Array.extract_eq_self_of_le (by omega), Array.extract_eq_self_of_le (by omega)] at this
        exact this
      have hdl : d.toList.map (fun x => x.1.2) = ps := by
        apply List.ext_getElem?
        intro i
        rw [List.getElem?_map]
        by_cases hi : i < ps.length
        · have := hdi i hi
          rw [getElem!_pos d i (by omega)] at this
          rw [Array.getElem?_toList, Array.getElem?_eq_getElem (by omega), List.getElem?_eq_getElem hi]
          show some (d[i]).1.2 = _
          rw [this]
          show some (nb ps i) = _
          unfold nb
          rw [List.getD_eq_getElem?_getD, List.getElem?_eq_getElem hi]
          rfl
        · rw [Array.getElem?_toList, Array.getElem?_eq_none (by omega), List.getElem?_eq_none (by omega)]
          rfl
      have hqs : qs = d'.toList.map (fun x => x.1.2) := by
        refine sorted_one key0 (hp.trans (by rw [← hdl]; exact (hpl.map _).symm)) hq ?_
        rw [List.pairwise_map, List.pairwise_iff_getElem]
        intro i j hi hj hij
        rw [Array.length_toList] at hi hj
        have hs := hsort i j (Nat.zero_le _) hij (by omega)
        rw [hlt, getElem!_pos d' i hi, getElem!_pos d' j hj] at hs
        simp at hs
        simpa using hs
      have hql : qs.length = ps.length := by rw [hqs, List.length_map, Array.length_toList, hd's]
      have hnq : ∀ i (hi : i < ps.length), nb qs i = (d'[i]'(by omega)).1.2 := by
        intro i hi
        have hi' : i < d'.size := by omega
        have e3 : nb (d'.toList.map (fun x => x.1.2)) i = (d'[i]'hi').1.2 := by
          unfold nb
          rw [List.getD_eq_getElem?_getD, List.getElem?_map, Array.getElem?_toList, Array.getElem?_eq_getElem hi']
          rfl
        rw [← e3, ← hqs]
      refine ⟨rfl, ⟨d'.toList.map enc, ?_, ?_⟩, by simpa [Value.ownBlock] using hk⟩
      · rw [hql]
        refine ⟨by rw [List.length_map, Array.length_toList]; omega, .inr ⟨g, cap, _, rfl, hbase, heap_put enc d' hb, h1, h2, by simp [Sort.putCells, h3], ?_⟩⟩
        have := take_put enc cur d' (by omega)
        rw [hd's] at this
        rw [Nat.mul_one]
        exact this
      · intro i hi
        rw [hql] at hi
        have e2 : (d'.toList.map enc).getD i nilS = (d'[i]'(by omega)).1.1 := by
          rw [List.getD_eq_getElem?_getD, List.getElem?_map, Array.getElem?_toList, Array.getElem?_eq_getElem (by omega), henc]
          rfl
        rw [e2, hnq i hi]
        exact ownsRow_keeps (d'[i]'(by omega)).2.1 hk (fun b hb' => by simp; exact fun e => hgn _ (e ▸ hb'))
end Go.Proofs.YtngdnjlohmkbiaaDoor
