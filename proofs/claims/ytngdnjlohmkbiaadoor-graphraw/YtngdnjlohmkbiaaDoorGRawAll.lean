/-
  Contracts: what graph's functions give of what is no graph.
  Contract: what Turn gives of what is no graph.
  Contracts: the statements' own May; May of any lists.
  Lists that came in, cut short; the same as a graph.
  A slice of slices of numbers that came in, opened.
  A slice of numbers at any place of its row, with the room behind it; one number is appended.
  Plain: a search by a queue that keeps off some nodes finds who is reached without them.
  Contract: the statements' own Reach.
  Plain: the way that the walk by breadth finds is a way of edges, a shortest one, and of these the least.
  Plain: Path's way is the least of the shortest ones; the reckoning of how far each node is from a goal.
  Contract: the statements' own Far.
  Contract: graph's Path, where an end is no node.
  Contracts: the statements' own Walk and Path.
  Contract: the statements' own Path.
  The statement GraphRaw.
-/
import Derived.Test.YtngdnjlohmkbiaaDoorGLaw
import Derived.Deep.Matrix
import Derived.Test.YtngdnjlohmkbiaaDoorGLst
import Derived.ArgAppend
import Derived.Laws.IdiomCopy
import Derived.Test.YtngdnjlohmkbiaaDoorGScc
import Derived.Test.YtngdnjlohmkbiaaDoorGInto
import Derived.Deep.LoopGhost
import Derived.Deep.DeepCutAuto
import Derived.Test.YtngdnjlohmkbiaaDoorGPath

namespace Go.Proofs.YtngdnjlohmkbiaaDoor
open Go.RowKit

set_option maxHeartbeats 1000000 in
theorem gmay_early (N : Int) (a : Option Addr) (len cap : Nat) (w : World) (h : N < 0 ∨ 600 < N ∨ (len : Int) ≠ N) :
    Calls Tryd.prog 24 #[.agg #[.int .i64 N, .slice a len cap]] w fun e w' => e = .returned (.bool false) ∧ Keeps [] w w' := by
  have hk1 : Keeps [] w (w.alloc (Obj.cells #[.int .i64 N, .slice a len cap] 27)) := Keeps.alloc _ _ _
  by_cases h1 : N < 0
  · clear h
    have hd : decide (N < 0) = true := decide_eq_true h1
    go_enter Tryd.func24, Tryd.ntmps24
    go_wp2
    go_ret
    exact ⟨rfl, hk1⟩
  · have hd : decide (N < 0) = false := decide_eq_false h1
    by_cases h2 : 600 < N
    · clear h
      have hd2 : decide ((600 : Int) < N) = true := decide_eq_true h2
      go_enter Tryd.func24, Tryd.ntmps24
      go_wp2
      go_ret
      exact ⟨rfl, hk1⟩
    · have hd2 : decide ((600 : Int) < N) = false := decide_eq_false h2
      have h3 : (len : Int) ≠ N := by rcases h with h | h | h <;> first | exact absurd h h1 | exact absurd h h2 | exact h
      have hd3 : ((len : Int) != N) = true := by rw [bne_iff_ne]; exact h3
      clear h
      go_enter Tryd.func24, Tryd.ntmps24
      go_wp2
      go_ret
      exact ⟨rfl, hk1⟩

/-- No graph. -/
def NoMay (w : World) (N : Int) (a : Option Addr) (len cap : Nat) : Prop := ∀ w9, Keeps [] w w9 → Calls Tryd.prog 24 #[.agg #[.int .i64 N, .slice a len cap]] w9 fun e w' => e = .returned (.bool false) ∧ Keeps [] w9 w'
theorem NoMay.quiet {w wz : World} {N : Int} {a : Option Addr} {len cap : Nat} (h : NoMay w N a len cap) (k : Keeps [] w wz) : NoMay wz N a len cap := fun w9 k9 => h w9 (k.quiet k9)
theorem noMay_early {w : World} {N : Int} {a : Option Addr} {len cap : Nat} (h : N < 0 ∨ 600 < N ∨ (len : Int) ≠ N) : NoMay w N a len cap := fun w9 _ => gmay_early N a len cap w9 h
theorem noMay_bad {w : World} {N : Int} {a : Option Addr} {n cap B : Nat} {xs : List (List Int)} (hL : LsAt w B a xs) (hnn : xs.length = n) (h0 : 0 ≤ N) (h1 : N ≤ 600) (h2 : (n : Int) = N) (hi : ∀ j, (xs.getD j []).length ≤ 1000000) (hb : ¬ MayP N xs) : NoMay w N a n cap := by
  intro w9 k9
  refine (may_loop N a n cap B xs w9 (hL.quiet k9) hnn h0 h1 h2 hi).mono ?_
  rintro e w' ⟨h | h, k⟩
  · exact absurd h.2 hb
  · exact ⟨h.1, k⟩

set_option maxHeartbeats 1000000 in
theorem parts_nomay (N : Int) (a : Option Addr) (len cap : Nat) (w : World) (h : NoMay w N a len cap) :
    Calls Tryd.prog 19 #[.agg #[.int .i64 N, .slice a len cap]] w fun e w' => e = .returned (.slice none 0 0) ∧ Keeps [] w w' := by
  have hk1 : Keeps [] w (w.alloc (Obj.cells #[.int .i64 N, .slice a len cap] 27)) := Keeps.alloc _ _ _
  have HM := hid (h _ hk1)
  clear h
  go_enter Tryd.func19, Tryd.ntmps19
  go_wp2_with fail
  refine HM.out.mono ?_
  rintro e w2 ⟨rfl, k2⟩
  go_wp2
  go_ret
  exact ⟨rfl, hk1.quiet k2⟩
set_option maxHeartbeats 1000000 in
theorem order_nomay (N : Int) (a : Option Addr) (len cap : Nat) (t : Int) (w : World) (h : NoMay w N a len cap) :
    Calls Tryd.prog 27 #[.agg #[.int .i64 N, .slice a len cap], .int .i64 t] w fun e w' => e = .returned (.slice none 0 0) ∧ Keeps [] w w' := by
  have hk1 : Keeps [] w (w.alloc (Obj.cells #[.int .i64 N, .slice a len cap] 27)) := Keeps.alloc _ _ _
  have HM := hid (h _ hk1)
  clear h
  go_enter Tryd.func27, Tryd.ntmps27
  go_wp2_with fail
  refine HM.out.mono ?_
  rintro e w2 ⟨rfl, k2⟩
  go_wp2
  go_ret
  exact ⟨rfl, hk1.quiet k2⟩
set_option maxHeartbeats 1000000 in
theorem path_nomay (N : Int) (a : Option Addr) (len cap : Nat) (s t : Int) (w : World) (h : NoMay w N a len cap) :
    Calls Tryd.prog 21 #[.agg #[.int .i64 N, .slice a len cap], .int .i64 s, .int .i64 t] w fun e w' => e = .returned (.slice none 0 0) ∧ Keeps [] w w' := by
  have hk1 : Keeps [] w (w.alloc (Obj.cells #[.int .i64 N, .slice a len cap] 27)) := Keeps.alloc _ _ _
  have HM := hid (h _ hk1)
  clear h
  go_enter Tryd.func21, Tryd.ntmps21
  go_wp2_with fail
  refine HM.out.mono ?_
  rintro e w2 ⟨rfl, k2⟩
  go_wp2
  go_ret
  exact ⟨rfl, hk1.quiet k2⟩
theorem two_raw (w : World) (N : Int) (a : Option Addr) (len cap : Nat) : Keeps [] w ((w.alloc (Obj.cells #[.int .i64 N, .slice a len cap] 27)).alloc (Obj.cells (row none_) 60)) ∧ SetAt ((w.alloc (Obj.cells #[.int .i64 N, .slice a len cap] 27)).alloc (Obj.cells (row none_) 60)) (w.heap.size + 1) none_ := by
  refine ⟨(Keeps.alloc [] _ _).quiet (Keeps.alloc [] _ _), ?_⟩
  have := setAt_new (w.alloc (Obj.cells #[.int .i64 N, .slice a len cap] 27)) none_
  rw [World.size_alloc] at this
  exact this
set_option maxHeartbeats 1000000 in
theorem loops_nomay (N : Int) (a : Option Addr) (len cap : Nat) (w : World) (h : NoMay w N a len cap) :
    Calls Tryd.prog 16 #[.agg #[.int .i64 N, .slice a len cap]] w fun e w' => ∃ b, e = .returned (.pointer (some ⟨b, 0, none⟩)) ∧ SetAt w' b none_ ∧ Keeps [] w w' := by
  have hzero := zero_set
  have H2 := hid (two_raw w N a len cap)
  have HM := hid (h _ H2.out.1)
  clear h
  go_enter Tryd.func16, Tryd.ntmps16
  go_wp2_with fail
  generalize (w.alloc (Obj.cells #[.int .i64 N, .slice a len cap] 27)).alloc (Obj.cells (row none_) 60) = w1 at H2 HM ⊢
  generalize row none_ = R
  refine HM.out.mono ?_
  rintro e w2 ⟨rfl, k2⟩
  go_wp2
  go_ret
  exact ⟨_, rfl, H2.out.2.kept k2 (by simp), H2.out.1.quiet k2⟩
set_option maxHeartbeats 1000000 in
theorem reach_nomay (N : Int) (a : Option Addr) (len cap : Nat) (v : Value) (w : World) (h : NoMay w N a len cap) :
    Calls Tryd.prog 12 #[.agg #[.int .i64 N, .slice a len cap], v] w fun e w' => ∃ b, e = .returned (.pointer (some ⟨b, 0, none⟩)) ∧ SetAt w' b none_ ∧ Keeps [] w w' := by
  have hzero := zero_set
  have H2 := hid (two_raw w N a len cap)
  have HM := hid (h _ H2.out.1)
  clear h
  go_enter Tryd.func12, Tryd.ntmps12
  go_wp2_with fail
  generalize (w.alloc (Obj.cells #[.int .i64 N, .slice a len cap] 27)).alloc (Obj.cells (row none_) 60) = w1 at H2 HM ⊢
  generalize row none_ = R
  refine HM.out.mono ?_
  rintro e w2 ⟨rfl, k2⟩
  go_wp2
  go_ret
  exact ⟨_, rfl, H2.out.2.kept k2 (by simp), H2.out.1.quiet k2⟩
end Go.Proofs.YtngdnjlohmkbiaaDoor

namespace Go.Proofs.YtngdnjlohmkbiaaDoor
open Go.RowKit

set_option maxHeartbeats 1000000 in
theorem turn_nomay (N : Int) (a : Option Addr) (len cap : Nat) (w : World) (h : NoMay w N a len cap) :
    Calls Tryd.prog 25 #[.agg #[.int .i64 N, .slice a len cap]] w fun e w' => e = .returned (.agg #[.int .i64 0, .slice none 0 0]) ∧ Keeps [] w w' := by
  have kA : Keeps [] w (w.alloc (.cells #[.int .i64 N, .slice a len cap] 27)) := Keeps.alloc _ _ _
  have kB : Keeps [] (w.alloc (.cells #[.int .i64 N, .slice a len cap] 27)) ((w.alloc (.cells #[.int .i64 N, .slice a len cap] 27)).alloc (.cells #[.int .i64 0, .slice none 0 0] 27)) := Keeps.alloc _ _ _
  have hT : TwoAt ((w.alloc (.cells #[.int .i64 N, .slice a len cap] 27)).alloc (.cells #[.int .i64 0, .slice none 0 0] 27)) (w.heap.size + 1) (.int .i64 0) (.slice none 0 0) := by
    have := TwoAt.new (w.alloc (.cells #[.int .i64 N, .slice a len cap] 27)) (.int .i64 0) (.slice none 0 0)
    rw [World.size_alloc] at this
    exact this
  have HT := hid hT
  have HM := hid (h _ (kA.quiet kB))
  have kk := hid (kA.quiet kB)
  clear h hT kA kB
  go_enter Tryd.func25, Tryd.ntmps25
  go_wp2_with fail
  generalize (w.alloc (.cells #[.int .i64 N, .slice a len cap] 27)).alloc (.cells #[.int .i64 0, .slice none 0 0] 27) = w1 at HT HM kk ⊢
  refine HM.out.mono ?_
  rintro e w2 ⟨rfl, k2⟩
  have T2 := hid (HT.out.kept k2 (by simp))
  have hr0 := T2.out.c0
  have hr1 := T2.out.c1
  have hf0 := T2.out.frozen 0
  have hf1 := T2.out.frozen 1
  have kw := hid (kk.out.quiet k2)
  clear HT HM kk k2
  go_wp2
  have k1 : Keeps [w.heap.size + 1] w2 (w2.setCell ⟨w.heap.size + 1, 0, none⟩ (.int .i64 0)) := Keeps.setCell _ _ _ _ (by simp)
  have k3 := k1.step (Keeps.setCell [w.heap.size + 1] (w2.setCell ⟨w.heap.size + 1, 0, none⟩ (.int .i64 0)) ⟨w.heap.size + 1, 1, none⟩ (.slice none 0 0) (by simp))
  have hb2 : TwoAt ((w2.setCell ⟨w.heap.size + 1, 0, none⟩ (.int .i64 0)).setCell ⟨w.heap.size + 1, 1, none⟩ (.slice none 0 0)) (w.heap.size + 1) (.int .i64 0) (.slice none 0 0) := by
    have h1 := heap_setCell_same w2 (w.heap.size + 1) 0 _ _ (.int .i64 0) T2.out.heap
    have h2 := heap_setCell_same _ (w.heap.size + 1) 1 _ _ (.slice none 0 0) h1
    exact ⟨h2⟩
  have hd0 := hb2.c0
  have hd1 := hb2.c1
  have hkeep := kw.out.fresh k3 (fun x hx => by simp at hx; omega)
  generalize (w2.setCell ⟨w.heap.size + 1, 0, none⟩ (.int .i64 0)).setCell ⟨w.heap.size + 1, 1, none⟩ (.slice none 0 0) = w9 at hd0 hd1 hkeep ⊢
  exact bodyPost_ret (v := .agg #[.int .i64 0, .slice none 0 0]) (by simp [results, Tryd.results25, go_sem, hd0, hd1]) rfl ⟨rfl, hkeep⟩
end Go.Proofs.YtngdnjlohmkbiaaDoor

namespace Go.Proofs.YtngdnjlohmkbiaaDoor
open Go.RowKit

set_option maxHeartbeats 1000000 in
theorem rmay_early (N : Int) (a : Option Addr) (len cap : Nat) (w : World) (h : N < 0 ∨ 600 < N ∨ (len : Int) ≠ N) :
    Calls Tryd.prog 23 #[.int .i64 N, .slice a len cap] w fun e w' => e = .returned (.bool false) ∧ w' = w := by
  by_cases h1 : N < 0
  · clear h
    go_enter Tryd.func23, Tryd.ntmps23
    go_wp2
    go_ret
    exact ⟨rfl, rfl⟩
  · by_cases h2 : 600 < N
    · clear h
      go_enter Tryd.func23, Tryd.ntmps23
      go_wp2
      go_ret
      exact ⟨rfl, rfl⟩
    · have h3 : (len : Int) ≠ N := by rcases h with h | h | h <;> first | exact absurd h h1 | exact absurd h h2 | exact h
      have hd3 : ((len : Int) != N) = true := by rw [bne_iff_ne]; exact h3
      clear h h3
      go_enter Tryd.func23, Tryd.ntmps23
      go_wp2
      go_ret
      exact ⟨rfl, rfl⟩

set_option maxRecDepth 20000 in
set_option maxHeartbeats 2000000 in
theorem rmay_loop (N : Int) (a : Option Addr) (n cap B : Nat) (xs : List (List Int)) (w : World) (hL : LsAt w B a xs) (hnn : xs.length = n) (h0 : 0 ≤ N) (h1 : N ≤ 600) (h2 : (n : Int) = N) (hi : ∀ j, (xs.getD j []).length ≤ 1000000) :
    Calls Tryd.prog 23 #[.int .i64 N, .slice a n cap] w fun e w' => (e = .returned (.bool true) ∧ MayP N xs ∨ e = .returned (.bool false) ∧ ¬ MayP N xs) ∧ w' = w := by
  have hn : ¬ N < 0 := by omega
  have hg : ¬ 600 < N := by omega
  have hb : (((n : Nat) : Int) != N) = false := by simp [h2]
  have hl6 : n ≤ 600 := by omega
  have HN := hid hnn
  have H2 := hid h2
  have HI := hid hi
  have HL := hid hL
  clear hL hi hnn
  subst h2
  go_enter Tryd.func23, Tryd.ntmps23
  go_wp2
  clear hn hg hb
  go_loopw [5] (fun i wr => ∃ k : Nat, k ≤ n ∧ i = .int .i64 k ∧ wr = w ∧ Box (∀ j, j < k → ∀ i, i < (xs.getD j []).length → 0 ≤ (xs.getD j []).getD i 0 ∧ (xs.getD j []).getD i 0 < (n : Int))) (fun i _ => n - (intOf i).toNat)
  case atStart => exact ⟨0, by omega, rfl, rfl, hid (fun j hj => by omega)⟩
  case round =>
    obtain ⟨k, hk, rfl, hw, HA⟩ := hrel
    subst wr
    by_cases hlt : k < n
    · have hlt' : (k : Int) < (n : Int) := by omega
      obtain ⟨bl, off, ai, ci, rfl, hc, hin⟩ := HL.out.at (k := k) (by rw [HN.out]; exact hlt)
      have HI1 := hid hin
      have hlen := HI.out k
      obtain ⟨l, hl⟩ : ∃ l, xs.getD k [] = l := ⟨_, rfl⟩
      rw [hl] at hc HI1 hlen
      have HX := hid hl
      clear hin hl
      go_wp2_with fail
      go_loopw [6] (fun i wr2 => ∃ m : Nat, m ≤ l.length ∧ i = .int .i64 m ∧ wr2 = w ∧ Box (∀ i, i < m → 0 ≤ l.getD i 0 ∧ l.getD i 0 < (n : Int))) (fun i _ => l.length - (intOf i).toNat)
      case atStart => exact ⟨0, by omega, rfl, rfl, hid (fun j hj => by omega)⟩
      case round =>
        obtain ⟨m, hm, rfl, hw2, HA2⟩ := hrel
        subst wr
        by_cases hml : m < l.length
        · have hml' : (m : Int) < (l.length : Int) := by omega
          obtain ⟨bm, om, rfl, hcm⟩ := HI1.out.at hml
          obtain ⟨x, hx⟩ : ∃ x, l.getD m 0 = x := ⟨_, rfl⟩
          rw [hx] at hcm
          have HXX := hid hx
          clear hx
          by_cases hx0 : x < 0
          · have HBAD : Box (¬ MayP (n : Int) xs) := hid (fun hmay => by
              have := hmay.all k (by rw [HN.out]; exact hlt) m (by rw [HX.out]; exact hml)
              rw [HX.out, HXX.out] at this
              omega)
            go_wp2
            go_ret
            exact ⟨.inr ⟨rfl, HBAD.out⟩, rfl⟩
          · by_cases hxn : (n : Int) ≤ x
            · have HBAD : Box (¬ MayP (n : Int) xs) := hid (fun hmay => by
                have := hmay.all k (by rw [HN.out]; exact hlt) m (by rw [HX.out]; exact hml)
                rw [HX.out, HXX.out] at this
                omega)
              go_wp2
              go_ret
              exact ⟨.inr ⟨rfl, HBAD.out⟩, rfl⟩
            · have HB2 : Box (∀ i, i < m + 1 → 0 ≤ l.getD i 0 ∧ l.getD i 0 < (n : Int)) := hid (fun i hi => by
                by_cases e : i = m
                · subst e; rw [HXX.out]; omega
                · exact HA2.out i (by omega))
              clear HA2
              go_wp2
              go_roundw
              case rel => exact ⟨m + 1, by omega, by go_num, (by first | trivial | rfl), HB2⟩
              case measure => simp [intOf]; omega
        · obtain rfl : l.length = m := by omega
          have HB1 : Box (∀ j, j < k + 1 → ∀ i, i < (xs.getD j []).length → 0 ≤ (xs.getD j []).getD i 0 ∧ (xs.getD j []).getD i 0 < (n : Int)) := hid (fun j hj => by
            by_cases e : j = k
            · subst e; rw [HX.out]; exact HA2.out
            · exact HA.out j (by omega))
          clear HA HA2
          go_wp2
          go_roundw
          case rel => exact ⟨k + 1, by omega, by go_num, (by first | trivial | rfl), HB1⟩
          case measure => simp [intOf]; omega
    · obtain rfl : n = k := by omega
      have HMAY : Box (MayP (n : Int) xs) := hid ⟨h0, h1, by rw [HN.out], by rw [HN.out]; exact HA.out⟩
      go_wp2
      go_ret
      exact ⟨.inl ⟨rfl, HMAY.out⟩, rfl⟩

theorem rmay_any (N : Int) (a : Option Addr) (n cap B : Nat) (xs : List (List Int)) (w : World) (hL : LsAt w B a xs) (hnn : xs.length = n) (hi : ∀ j, (xs.getD j []).length ≤ 1000000) (d : Bool) (hd : d = true ↔ MayP N xs) :
    Calls Tryd.prog 23 #[.int .i64 N, .slice a n cap] w fun e w' => e = .returned (.bool d) ∧ w' = w := by
  by_cases h : N < 0 ∨ 600 < N ∨ (n : Int) ≠ N
  · refine (rmay_early N a n cap w h).mono ?_
    rintro e w' ⟨rfl, rfl⟩
    refine ⟨?_, rfl⟩
    cases d with
    | false => rfl
    | true =>
      have := hd.1 rfl
      have h1 := this.low
      have h2 := this.high
      have h3 := this.len
      rw [hnn] at h3
      omega
  · refine (rmay_loop N a n cap B xs w hL hnn (by omega) (by omega) (by omega) hi).mono ?_
    rintro e w' ⟨⟨rfl, hm⟩ | ⟨rfl, hm⟩, rfl⟩
    · rw [hd.2 hm]; exact ⟨rfl, rfl⟩
    · cases d with
      | false => exact ⟨rfl, rfl⟩
      | true => exact absurd (hd.1 rfl) hm
theorem noMay_any {w : World} {N : Int} {a : Option Addr} {n cap B : Nat} {xs : List (List Int)} (hL : LsAt w B a xs) (hnn : xs.length = n) (hi : ∀ j, (xs.getD j []).length ≤ 1000000) (hb : ¬ MayP N xs) : NoMay w N a n cap := by
  by_cases h : N < 0 ∨ 600 < N ∨ (n : Int) ≠ N
  · exact noMay_early h
  · exact noMay_bad hL hnn (by omega) (by omega) (by omega) hi hb
end Go.Proofs.YtngdnjlohmkbiaaDoor

namespace Go.Proofs.YtngdnjlohmkbiaaDoor
open Go.RowKit

/-- The lists of a slice that came in: A, C the place and the room of each. -/
structure LsR (w : World) (a : Option Addr) (xs : List (List Int)) (A : Nat → Option Addr) (C : Nat → Nat) : Prop where
  outer : xs = [] ∨ ∃ b off, a = some ⟨b, off, none⟩ ∧ ∀ j, j < xs.length → w.cell? ⟨b, off + j, none⟩ = some (.slice (A j) (xs.getD j []).length (C j))
  inner : ∀ j, j < xs.length → IntsAt w (A j) (xs.getD j []) ∧ (xs.getD j []).length ≤ C j ∧ (xs.getD j []).length ≤ maxLen
theorem take_getR {α : Type} (xs : List (List α)) (n j : Nat) (h : j < n) : (xs.take n).getD j [] = xs.getD j [] := by
  rw [List.getD_eq_getElem?_getD, List.getD_eq_getElem?_getD, List.getElem?_take, if_pos h]
theorem LsR.take {w : World} {a : Option Addr} {xs : List (List Int)} {A : Nat → Option Addr} {C : Nat → Nat} (h : LsR w a xs A C) (n : Nat) : LsR w a (xs.take n) A C := by
  refine ⟨?_, fun j hj => ?_⟩
  · rcases h.outer with h1 | ⟨b, off, h1, h2⟩
    · exact .inl (by rw [h1]; simp)
    · refine .inr ⟨b, off, h1, fun j hj => ?_⟩
      rw [List.length_take] at hj
      rw [take_getR _ _ _ (by omega)]
      exact h2 j (by omega)
  · rw [List.length_take] at hj
    rw [take_getR _ _ _ (by omega)]
    exact h.inner j (by omega)
theorem LsR.quiet {w w' : World} {a : Option Addr} {xs : List (List Int)} {A : Nat → Option Addr} {C : Nat → Nat} (h : LsR w a xs A C) (k : Keeps [] w w') : LsR w' a xs A C := by
  refine ⟨?_, fun j hj => ⟨(h.inner j hj).1.kept k (fun _ _ _ => by simp), (h.inner j hj).2⟩⟩
  rcases h.outer with h1 | ⟨b, off, h1, h2⟩
  · exact .inl h1
  · refine .inr ⟨b, off, h1, fun j hj => ?_⟩
    have := h2 j hj
    rw [k.cell (block_lt_of_cell this) (by simp)]
    exact this
theorem rints_in {w : World} {a : Option Addr} {zs : List Int} (h : IntsAt w a zs) : InAt w w.heap.size a zs := by
  rcases h with h | ⟨b, off, h1, h2⟩
  · exact .inl h
  · by_cases e : zs.length = 0
    · exact .inl (List.eq_nil_of_length_eq_zero e)
    · exact .inr ⟨b, off, h1, block_lt_of_cell (h2 0 (by omega)), h2⟩
theorem rints_take {w : World} {a : Option Addr} {zs : List Int} (h : IntsAt w a zs) (n : Nat) : IntsAt w a (zs.take n) := by
  rcases h with h | ⟨b, off, h1, h2⟩
  · exact .inl (by rw [h]; simp)
  · refine .inr ⟨b, off, h1, fun i hi => ?_⟩
    rw [List.length_take] at hi
    rw [h2 i (by omega), List.getD_eq_getElem?_getD, List.getD_eq_getElem?_getD, List.getElem?_take, if_pos (by omega)]
/-- The lists as they are put in a row. -/
def rvs (A : Nat → Option Addr) (C : Nat → Nat) (xs : List (List Int)) (i : Nat) : List Value := (List.range i).map fun j => Value.slice (A j) (min (xs.getD j []).length 20) (C j)
theorem rvs_snoc (A : Nat → Option Addr) (C : Nat → Nat) (xs : List (List Int)) (i : Nat) : rvs A C xs (i + 1) = rvs A C xs i ++ [Value.slice (A i) (min (xs.getD i []).length 20) (C i)] := by
  unfold rvs
  rw [List.range_succ, List.map_append]
  rfl
def cutL (xs : List (List Int)) : List (List Int) := xs.map fun l => l.take 20
theorem cutL_get (xs : List (List Int)) (j : Nat) : (cutL xs).getD j [] = (xs.getD j []).take 20 := by
  unfold cutL
  rw [List.getD_eq_getElem?_getD, List.getD_eq_getElem?_getD, List.getElem?_map]
  cases xs[j]? <;> simp
theorem cutL_short (xs : List (List Int)) (j : Nat) : ((cutL xs).getD j []).length ≤ 20 := by
  rw [cutL_get, List.length_take]; omega
theorem raw_ls {w : World} {base : Nat} {v : Value} {a : Option Addr} {xs : List (List Int)} {A : Nat → Option Addr} {C : Nat → Nat} (hr : LsR w a xs A C) (h : w.ownsRow base 23 1 v xs.length (rvs A C xs xs.length)) : ∃ va vc, v = .slice va xs.length vc ∧ LsAt w w.heap.size va (cutL xs) := by
  rcases h.2 with ⟨h1, h2⟩ | ⟨g, cap, cur, h1, hb, hg, _⟩
  · refine ⟨none, 0, by rw [h1, h2], .inl ?_⟩
    have : xs = [] := List.eq_nil_of_length_eq_zero h2
    rw [this]; rfl
  · subst h1
    refine ⟨_, cap, rfl, .inr ⟨g, 0, rfl, (Array.getElem?_eq_some_iff.1 hg).1, fun j hj => ?_⟩⟩
    have hj' : j < xs.length := by unfold cutL at hj; rwa [List.length_map] at hj
    refine ⟨A j, C j, ?_, ?_⟩
    · rw [Nat.zero_add, h.cellAt j (by omega)]
      unfold rvs
      rw [List.getElem?_map, List.getElem?_range hj', cutL_get, List.length_take, Nat.min_comm]
      rfl
    · rw [cutL_get]
      exact rints_in (rints_take (hr.inner j hj').1 20)
/-- Numbers as nodes. -/
def natL (ys : List (List Int)) : List (List Nat) := ys.map fun l => l.map Int.toNat
theorem natL_get (ys : List (List Int)) (j : Nat) : nb (natL ys) j = (ys.getD j []).map Int.toNat := by
  unfold natL nb
  rw [List.getD_eq_getElem?_getD, List.getD_eq_getElem?_getD, List.getElem?_map]
  cases ys[j]? <;> rfl
theorem natL_len (ys : List (List Int)) : (natL ys).length = ys.length := by unfold natL; rw [List.length_map]
theorem may_mem {n : Int} {ys : List (List Int)} (h : MayP n ys) {l : List Int} (hl : l ∈ ys) {z : Int} (hz : z ∈ l) : 0 ≤ z ∧ z < n := by
  obtain ⟨j, hj, rfl⟩ := List.getElem_of_mem hl
  obtain ⟨i, hi, rfl⟩ := List.getElem_of_mem hz
  have := h.all j hj i (by rw [List.getD_eq_getElem?_getD, List.getElem?_eq_getElem hj]; exact hi)
  rw [List.getD_eq_getElem?_getD (l := ys), List.getElem?_eq_getElem hj, Option.getD_some, List.getD_eq_getElem?_getD, List.getElem?_eq_getElem hi] at this
  exact this
theorem natL_lists {n : Int} {ys : List (List Int)} (h : MayP n ys) : listsI (natL ys) = ys := by
  unfold listsI natL
  rw [List.map_map]
  have key : ∀ l, l ∈ ys → (intsI ∘ fun l => l.map Int.toNat) l = l := by
    intro l hl
    show (l.map Int.toNat).map (fun n : Nat => (n : Int)) = l
    rw [List.map_map]
    have k2 : ∀ z, z ∈ l → ((fun n : Nat => (n : Int)) ∘ Int.toNat) z = z := by
      intro z hz
      have := (may_mem h hl hz).1
      show ((z.toNat : Nat) : Int) = z
      omega
    rw [List.map_congr_left (g := id) (fun z hz => k2 z hz), List.map_id]
  rw [List.map_congr_left (g := id) key, List.map_id]
theorem natL_sm {n : Int} {ys : List (List Int)} (h : MayP n ys) (hs : ∀ j, (ys.getD j []).length ≤ 20) : Sm (natL ys) := by
  have hl := h.len
  have hh := h.high
  refine ⟨fun a b hb => ?_, by rw [natL_len]; omega, fun j => by rw [natL_get, List.length_map]; exact Nat.le_trans (hs j) (by decide)⟩
  rw [natL_get] at hb
  obtain ⟨z, hz, rfl⟩ := List.mem_map.1 hb
  by_cases ha : a < ys.length
  · have hm : ys.getD a [] ∈ ys := getD_mem ys a [] ha
    have := may_mem h hm hz
    rw [natL_len]
    omega
  · rw [List.getD_eq_getElem?_getD, List.getElem?_eq_none (by omega)] at hz
    cases hz
end Go.Proofs.YtngdnjlohmkbiaaDoor

namespace Go.Proofs.YtngdnjlohmkbiaaDoor
open Go.RowKit Go.ChangeShapes Go.WideShapes

theorem lists_open {H : Type} {enc : TypeId × Value → H} {W : World} {held : Bool} {fuel : Nat} {a : Option Addr} {len cap : Nat} {x : DataW H × List MemPlace}
    (h : DataW.trod enc Tryd.prog W 0 (fun _ => true) held fuel 25 (Value.slice a len cap).cells.toList = some x) :
    ∃ xs : List (List Int), xs.length = len ∧ (∃ A C, LsR W a xs A C) ∧ xs.length ≤ maxLen ∧ xs.length ≤ cap := by
  rcases Deep.open_int_rows Tryd.underlying25 Tryd.underlying23 Tryd.underlying3 (by kernel_rfl) (by kernel_rfl) h with ⟨hcs, _⟩ | ⟨ad, l, c, A, L, C, Z, hcs, _, hl, hm, _, hx⟩
  · simp [Value.cells] at hcs
    obtain ⟨rfl, rfl, rfl⟩ := hcs
    exact ⟨[], rfl, ⟨fun _ => none, fun _ => 0, .inl rfl, fun j hj => by simp at hj⟩, by simp, by simp⟩
  · simp [Value.cells] at hcs
    obtain ⟨rfl, rfl, rfl⟩ := hcs
    have hg : ∀ j, j < len → ((List.range len).map fun r => (Z r).take (L r)).getD j [] = (Z j).take (L j) := fun j hj => by
      rw [List.getD_eq_getElem?_getD, List.getElem?_map, List.getElem?_range hj]; rfl
    have hlz : ∀ j, j < len → ((Z j).take (L j)).length = L j := fun j hj => by
      obtain ⟨_, h2, _, h4, _⟩ := hx j (by omega)
      rw [List.length_take]; omega
    refine ⟨(List.range len).map fun r => (Z r).take (L r), by simp, ⟨A, C, ?_, fun j hj => ?_⟩, by simp; omega, by simp; omega⟩
    · by_cases h0 : len = 0
      · subst h0; exact .inl rfl
      · right
        obtain ⟨b, off, spot⟩ := ad
        have h00 := (hx 0 (by omega)).1
        have hspot : spot = none := by simpa [Addr.add] using World.cell?_spot h00
        subst hspot
        refine ⟨b, off, rfl, fun j hj => ?_⟩
        have hj' : j < len := by simpa using hj
        have h1 := (hx j (by omega)).1
        rw [Go.WideShapes.add_plain] at h1
        rw [hg j hj', hlz j hj']
        exact h1
    · have hj' : j < len := by simpa using hj
      obtain ⟨_, h2, h3, h4, _, h6, h7⟩ := hx j (by omega)
      rw [hg j hj', hlz j hj']
      refine ⟨?_, h2, by omega⟩
      by_cases h0 : L j = 0
      · exact .inl (List.eq_nil_of_length_eq_zero (by rw [hlz j hj', h0]))
      · right
        cases hA : A j with
        | none => have := h6 hA; omega
        | some a' =>
          obtain ⟨_, h8⟩ := h7 a' hA
          obtain ⟨b, off, spot⟩ := a'
          have h00 := h8 0 (by omega)
          have hspot : spot = none := by simpa [Addr.add] using World.cell?_spot h00
          subst hspot
          refine ⟨b, off, rfl, fun i hi => ?_⟩
          rw [hlz j hj'] at hi
          have h9 := h8 i (by omega)
          rw [Go.WideShapes.add_plain] at h9
          rw [h9, List.getD_eq_getElem?_getD, List.getD_eq_getElem?_getD, List.getElem?_take, if_pos hi]
end Go.Proofs.YtngdnjlohmkbiaaDoor

namespace Go.Proofs.YtngdnjlohmkbiaaDoor
open Go.RowKit

def nums (l : List Int) : List Value := l.map (Value.int .i64)
theorem nums_len (l : List Int) : (nums l).length = l.length := by unfold nums; rw [List.length_map]
theorem nums_get (l : List Int) (i : Nat) (h : i < l.length) : (nums l)[i]? = some (.int .i64 (l.getD i 0)) := by
  unfold nums
  simp [List.getD, List.getElem?_eq_getElem h]
theorem nums_one (l : List Int) : ∀ u ∈ nums l, u.oneCell' = true := ints_oneCell .i64 l

/-- A slice's numbers, from place off of block g on, and the room behind them. -/
structure LineAt (w : World) (g off cap : Nat) (l : List Int) : Prop where
  cell : ∀ i, i < l.length → w.cell? ⟨g, off + i, none⟩ = some (.int .i64 (l.getD i 0))
  room : ∀ k, k < cap → (w.cell? ⟨g, off + k, none⟩).isSome = true ∧ w.frozen? ⟨g, off + k, none⟩ = false
  len : l.length ≤ cap
  max : cap ≤ 9223372036854775807
  lt : g < w.heap.size

theorem Keeps.frozen {L : List Nat} {w w' : World} (h : Keeps L w w') {p : Addr} (hp : p.block < w.heap.size) (hn : p.block ∉ L) : w'.frozen? p = w.frozen? p :=
  World.frozen?_of_block (w := w) (h.block p.block hp hn)

theorem LineAt.kept {w w' : World} {g off cap : Nat} {l : List Int} {L : List Nat} (h : LineAt w g off cap l) (k : Keeps L w w') (hn : g ∉ L) : LineAt w' g off cap l :=
  ⟨fun i hi => by rw [k.cell (p := ⟨g, off + i, none⟩) h.lt hn]; exact h.cell i hi,
   fun i hi => by rw [k.cell (p := ⟨g, off + i, none⟩) h.lt hn, k.frozen (p := ⟨g, off + i, none⟩) h.lt hn]; exact h.room i hi,
   h.len, h.max, Nat.lt_of_lt_of_le h.lt k.size⟩

theorem LineAt.of_owns {w : World} {base : Nat} {v : Value} {n : Nat} {l : List Int} (h : w.ownsRow base 3 1 v n (nums l)) (hv : v ≠ .slice none 0 0) :
    ∃ g cap, v = .slice (some ⟨g, 0, none⟩) n cap ∧ base ≤ g ∧ l.length = n ∧ LineAt w g 0 cap l := by
  have hl : l.length = n := by have := h.1; rw [nums_len] at this; omega
  rcases h.2 with ⟨e, _⟩ | ⟨g, cap, cur, rfl, hb, hg, hnc, hcm, hcs, ht⟩
  · exact absurd e hv
  · refine ⟨g, cap, rfl, hb, hl, ⟨fun i hi => ?_, fun k hk => ?_, by omega, by unfold maxLen at hcm; omega, (Array.getElem?_eq_some_iff.1 hg).1⟩⟩
    · rw [Nat.zero_add, h.cellAt i (by omega), nums_get l i hi]
    · refine ⟨?_, frozen_of_row w g _ _ _ hg⟩
      rw [cell_of_row w g _ _ _ _ hg, Nat.zero_add, Array.getElem?_eq_getElem (by omega)]
      rfl

theorem cell_setCells (w : World) (b o k : Nat) (vs : List Value) (ht : ∀ j, j < vs.length → (w.cell? ⟨b, o + j, none⟩).isSome = true) :
    (w.setCells b o vs).cell? ⟨b, k, none⟩ = if o ≤ k ∧ k < o + vs.length then vs[k - o]? else w.cell? ⟨b, k, none⟩ := by
  by_cases h : o ≤ k ∧ k < o + vs.length
  · rw [if_pos h]
    have := World.cell?_setCells_in b vs o w ht (k - o) (by omega)
    rw [show o + (k - o) = k by omega] at this
    rw [this, List.getElem?_eq_getElem]
  · rw [if_neg h]
    exact World.cell?_setCells_out b vs o w _ (fun _ _ => by show k < o ∨ o + vs.length ≤ k; omega)

theorem Keeps.setCells (g : Nat) : ∀ (vs : List Value) (o : Nat) (w : World), Keeps [g] w (w.setCells g o vs)
  | [], _, w => Keeps.refl _ _
  | v :: r, o, w => by
    rw [World.setCells]
    exact (Keeps.setCell [g] w ⟨g, o, none⟩ v (by simp)).step (Keeps.setCells g r (o + 1) _)

theorem some_setCells (w : World) (b o k : Nat) (vs : List Value) (ht : ∀ j, j < vs.length → (w.cell? ⟨b, o + j, none⟩).isSome = true) (hk : (w.cell? ⟨b, k, none⟩).isSome = true) : ((w.setCells b o vs).cell? ⟨b, k, none⟩).isSome = true := by
  rw [cell_setCells w b o k vs ht]
  by_cases h : o ≤ k ∧ k < o + vs.length
  · rw [if_pos h, List.getElem?_eq_getElem (by omega)]; rfl
  · rw [if_neg h]; exact hk

/-- Cells of the row are written: what the row then holds. -/
theorem LineAt.set {w : World} {g off cap : Nat} {l : List Int} (h : LineAt w g off cap l) (o : Nat) (vs : List Value) (l' : List Int) (ho : o + vs.length ≤ cap) (hl : l'.length ≤ cap)
    (hc : ∀ i, i < l'.length → (if o ≤ i ∧ i < o + vs.length then vs[i - o]? else w.cell? ⟨g, off + i, none⟩) = some (.int .i64 (l'.getD i 0))) : LineAt (w.setCells g (off + o) vs) g off cap l' := by
  have ht : ∀ j, j < vs.length → (w.cell? ⟨g, off + o + j, none⟩).isSome = true := fun j hj => by rw [Nat.add_assoc]; exact (h.room (o + j) (by omega)).1
  refine ⟨fun i hi => ?_, fun k hk => ⟨some_setCells w g _ _ vs ht (h.room k hk).1, by rw [World.frozen?_setCells]; exact (h.room k hk).2⟩, hl, h.max, Nat.lt_of_lt_of_le h.lt (Keeps.setCells g vs _ w).size⟩
  rw [cell_setCells w g (off + o) (off + i) vs ht, ← hc i hi]
  by_cases c : o ≤ i ∧ i < o + vs.length
  · rw [if_pos c, if_pos (by omega), show off + i - (off + o) = i - o by omega]
  · rw [if_neg c, if_neg (by omega)]

theorem info3_int : (Tryd.prog.info? 3).map (fun i => (i.zero, i.size, i.bytes)) = some (some (.int .i64 0), 1, 8) := by kernel_rfl

theorem getD_snoc (l : List Int) (x : Int) (i : Nat) (h : i < l.length + 1) : (l ++ [x]).getD i 0 = if i < l.length then l.getD i 0 else x := by
  rw [List.getD_eq_getElem?_getD, List.getD_eq_getElem?_getD]
  by_cases c : i < l.length
  · rw [if_pos c, List.getElem?_append_left c]
  · obtain rfl : i = l.length := by omega
    rw [if_neg c]; simp

/-- One number is appended to the line: where there is room, and where there is none. -/
theorem run_append_line (w : World) (ty : TypeId) (l : List Int) (x : Int) (lv : Value)
    (hv : (lv = .slice none 0 0 ∧ l = []) ∨ ∃ g off cap, lv = .slice (some ⟨g, off, none⟩) l.length cap ∧ LineAt w g off cap l) (ad : Addr) (c : Nat)
    (hnew : ∀ j u, [Value.int .i64 x][j]? = some u → w.cell? (ad.add j) = some u) (hb : l.length < 1000000) :
    ∃ g' off' cap' w', (Builtin.append_ #[23, 23] ty #[lv, .slice (some ad) 1 c]).run Tryd.prog w = .ok (.slice (some ⟨g', off', none⟩) (l.length + 1) cap') w' ∧
      LineAt w' g' off' cap' (l ++ [x]) ∧ Keeps lv.ownBlock.toList w w' ∧ (lv.ownBlock = some g' ∨ g' = w.heap.size) := by
  obtain ⟨i0, hi, hz0, hz1, hz2⟩ := info_parts info3_int
  have h1 : ∀ u ∈ [Value.int .i64 x], u.oneCell' = true := by intro u hu; simp at hu; subst hu; rfl
  have fresh : ∀ (v' : Value) (w' : World), w'.ownsRow w.heap.size 3 1 v' (l.length + 1) (nums l ++ [Value.int .i64 x]) → w.grownBy w' none → w'.heap.size = w.heap.size + 1 →
      ∃ g' off' cap', v' = .slice (some ⟨g', off', none⟩) (l.length + 1) cap' ∧ LineAt w' g' off' cap' (l ++ [x]) ∧ Keeps lv.ownBlock.toList w w' ∧ (lv.ownBlock = some g' ∨ g' = w.heap.size) := by
    intro v' w' ho hg hsz
    have e : nums l ++ [Value.int .i64 x] = nums (l ++ [x]) := by unfold nums; rw [List.map_append]; rfl
    rw [e] at ho
    obtain ⟨g', cap', rfl, hbg, hl, hline⟩ := LineAt.of_owns ho (by
      intro ev
      rcases ho.2 with ⟨_, h0⟩ | ⟨_, _, _, h', _⟩
      · omega
      · rw [ev] at h'; simp at h')
    have := hline.lt
    exact ⟨g', 0, cap', rfl, hline, Keeps.grown _ hg (fun k hk => by cases hk), Or.inr (by omega)⟩
  rcases hv with ⟨rfl, rfl⟩ | ⟨g, off, cap, rfl, hline⟩
  · have hr := run_append_nil (P := Tryd.prog) w 23 ty 3 i0 (.int .i64 0) Tryd.underlying23 hi hz0 ad 1 c [Value.int .i64 x] (by rw [hz1]; rfl) hnew (by omega) (by omega) (by rw [hz2]; omega)
    have hge := grownCap_ge w 1 0 3
    have hle := grownCap_le_maxLen w 1 0 3 (by unfold maxLen; omega)
    have ho : (w.drew.alloc (.cells ([Value.int .i64 x].toArray ++ Builtin.zeroCells (Value.int .i64 0).cells (grownCap w 1 0 3 - 1)) 3)).ownsRow w.heap.size 3 1 (.slice (some ⟨w.heap.size, 0, none⟩) 1 (grownCap w 1 0 3)) 1 (nums [] ++ [Value.int .i64 x]) := by
      refine ⟨rfl, .inr ⟨_, _, _, rfl, Nat.le_refl _, heap_alloc_new w.drew _, hge, hle, ?_, ?_⟩⟩
      · simp only [Array.size_append, List.size_toArray, size_zeroCells]
        show 1 + (grownCap w 1 0 3 - 1) * 1 = _
        omega
      · simp [nums]
    obtain ⟨g', off', cap', e, r⟩ := fresh _ _ ho ⟨rfl, rfl, rfl, by simp, fun k hk _ => heap_alloc_old w.drew _ hk⟩ (by simp)
    exact ⟨g', off', cap', _, by rw [hr, ← e], r⟩
  · by_cases hroom : l.length + 1 ≤ cap
    · have hr := run_append_room_cells (P := Tryd.prog) w 23 ty 3 i0 Tryd.underlying23 hi g off l.length cap ad 1 c [Value.int .i64 x] (by rw [hz1]; rfl) hnew h1 hroom
        (fun j hj => by rw [hz1, Nat.mul_one, Nat.add_assoc]; simp at hj; exact (hline.room _ (by omega)).1) (fun j hj => by rw [hz1, Nat.mul_one, Nat.add_assoc]; simp at hj; exact (hline.room _ (by omega)).2)
      rw [hz1, Nat.mul_one] at hr
      refine ⟨g, off, cap, _, hr, hline.set l.length _ (l ++ [x]) (by simpa using hroom) (by simpa using hroom) (fun i hi => ?_), Keeps.setCells g _ _ w, Or.inl rfl⟩
      rw [List.length_append] at hi
      simp at hi
      rw [getD_snoc l x i hi]
      by_cases ci : i < l.length
      · rw [if_pos ci, if_neg (by omega)]; exact hline.cell i ci
      · obtain rfl : i = l.length := by omega
        rw [if_neg ci, if_pos (by simp)]; simp
    · have hr0 : ∃ v' w', (Builtin.append_ #[23, 23] ty #[.slice (some ⟨g, off, none⟩) l.length cap, .slice (some ad) 1 c]).run Tryd.prog w = .ok v' w' ∧ w'.ownsRow w.heap.size 3 1 v' (l.length + 1) (nums l ++ [Value.int .i64 x]) ∧ w.grownBy w' none ∧ w'.heap.size = w.heap.size + 1 := by
        have hlo : (nums l).length = l.length * i0.size := by rw [nums_len, hz1]; omega
        have hol : ∀ j u, (nums l)[j]? = some u → w.cell? ((⟨g, off, none⟩ : Addr).add j) = some u := by
          intro j u hu
          have hj : j < l.length := by
            have := (List.getElem?_eq_some_iff.1 hu).1
            rwa [nums_len] at this
          rw [nums_get l j hj] at hu
          rw [Addr.add_lit, hline.cell j hj]
          exact hu
        have hr := run_append_grow (P := Tryd.prog) w 23 ty 3 i0 (.int .i64 0) Tryd.underlying23 hi hz0 ⟨g, off, none⟩ l.length cap (nums l) hlo hol ad 1 c [Value.int .i64 x] (by rw [hz1]; rfl) hnew (by omega) (by omega) (growslice_fits (by omega) (by rw [hz2]; omega))
        refine ⟨_, _, hr, ?_, ⟨rfl, rfl, rfl, by simp, fun k hk _ => heap_alloc_old w.drew _ hk⟩, by simp⟩
        have hge := grownCap_ge w (l.length + 1) cap 3
        have hle := grownCap_le_maxLen w (l.length + 1) cap 3 (by unfold maxLen; omega)
        have hll : (nums l ++ [Value.int .i64 x]).length = l.length + 1 := by rw [List.length_append, nums_len]; rfl
        refine ⟨by rw [hll]; omega, .inr ⟨_, _, _, rfl, Nat.le_refl _, heap_alloc_new w.drew _, hge, hle, ?_, ?_⟩⟩
        · simp only [Array.size_append, List.size_toArray, size_zeroCells, nums_len]
          show l.length + 1 + (grownCap w (l.length + 1) cap 3 - (l.length + 1)) * 1 = _
          omega
        · simp only [Array.toList_append, List.append_assoc, Nat.mul_one]
          rw [← List.append_assoc]
          exact List.take_left' hll
      obtain ⟨v', w', hr, ho, hg, hsz⟩ := hr0
      obtain ⟨g', off', cap', rfl, r⟩ := fresh v' w' ho hg hsz
      exact ⟨g', off', cap', w', hr, r⟩

/-- The same at the operation. -/
theorem wpList_append_line {ops : Array Oper} {rest : List Oper} {o : Oper} {a : Act} {Q : Exit → Act → World → Prop} (w : World) (hgd : o.guard = none) (s x' : Operand)
    (ho : o.op = .call { callee := .builtin .append, args := #[s, x'], argTypes := #[23, 23] })
    (l : List Int) (x : Int) (lv : Value) (hs : a.eval s = lv) (hv : (lv = .slice none 0 0 ∧ l = []) ∨ ∃ g off cap, lv = .slice (some ⟨g, off, none⟩) l.length cap ∧ LineAt w g off cap l)
    (ad : Addr) (c : Nat) (hx : a.eval x' = .slice (some ad) 1 c) (hnew : ∀ j u, [Value.int .i64 x][j]? = some u → w.cell? (ad.add j) = some u) (hb : l.length < 1000000)
    (h : ∀ g' off' cap' w', LineAt w' g' off' cap' (l ++ [x]) → Keeps lv.ownBlock.toList w w' → (lv.ownBlock = some g' ∨ g' = w.heap.size) → wpList Tryd.prog ops Q rest (a.put o.dst (.slice (some ⟨g', off', none⟩) (l.length + 1) cap')) w') :
    wpList Tryd.prog ops Q (o :: rest) a w := by
  refine wpList_plain hgd fun K hK => ?_
  obtain ⟨g', off', cap', w', hr, h2, h3, h4⟩ := run_append_line w o.type l x lv hv ad c hnew hb
  unfold Oper.wp execOp
  simp only [ho, resolve, invoke, builtin, Sem.run_bind, Sem.run_pure, Result.andThen_ok, List.map_toArray, List.map_cons, List.map_nil, hs, hx, hr]
  exact hK _ _ (h g' off' cap' w' h2 h3 h4)

end Go.Proofs.YtngdnjlohmkbiaaDoor

namespace Go.Proofs.YtngdnjlohmkbiaaDoor

/-- One more into the queue, if it is new and not barred. -/
def push1 (av : Nat → Bool) (st : (Nat → Bool) × List Nat) (b : Nat) : (Nat → Bool) × List Nat := if st.1 b = true ∨ av b = true then st else (ins st.1 b, st.2 ++ [b])
def pushes (av : Nat → Bool) (st : (Nat → Bool) × List Nat) (l : List Nat) : (Nat → Bool) × List Nat := l.foldl (push1 av) st
theorem pushes_cons (av : Nat → Bool) (st : (Nat → Bool) × List Nat) (b : Nat) (l : List Nat) : pushes av st (b :: l) = pushes av (push1 av st b) l := rfl
theorem pushes_snoc (av : Nat → Bool) (st : (Nat → Bool) × List Nat) (b : Nat) (l : List Nat) : pushes av st (l ++ [b]) = push1 av (pushes av st l) b := by
  unfold pushes
  rw [List.foldl_append]
  rfl
theorem ins_true {s : Nat → Bool} {b u : Nat} : ins s b u = true ↔ s u = true ∨ u = b := by
  show (s u || (u == b)) = true ↔ _
  rw [Bool.or_eq_true, beq_iff_eq]
theorem push1_set (av : Nat → Bool) (st : (Nat → Bool) × List Nat) (b u : Nat) : (push1 av st b).1 u = true ↔ st.1 u = true ∨ (u = b ∧ av b = false) := by
  unfold push1
  by_cases h : st.1 b = true ∨ av b = true
  · rw [if_pos h]
    constructor
    · exact .inl
    · rintro (h1 | ⟨rfl, h1⟩)
      · exact h1
      · rcases h with h | h
        · exact h
        · rw [h1] at h; cases h
  · rw [if_neg h, ins_true]
    have h2 : av b = false := by
      cases e : av b with
      | false => rfl
      | true => exact absurd (.inr e) h
    exact ⟨fun q => q.imp id fun e => ⟨e, h2⟩, fun q => q.imp id fun e => e.1⟩
theorem push1_line (av : Nat → Bool) (st : (Nat → Bool) × List Nat) (b u : Nat) : u ∈ (push1 av st b).2 ↔ u ∈ st.2 ∨ (u = b ∧ st.1 u = false ∧ av u = false) := by
  unfold push1
  by_cases h : st.1 b = true ∨ av b = true
  · rw [if_pos h]
    constructor
    · exact .inl
    · rintro (h1 | ⟨rfl, h2, h3⟩)
      · exact h1
      · rcases h with h | h
        · rw [h] at h2; cases h2
        · rw [h] at h3; cases h3
  · rw [if_neg h]
    have h1 : st.1 b = false := by
      cases e : st.1 b with
      | false => rfl
      | true => exact absurd (.inl e) h
    have h2 : av b = false := by
      cases e : av b with
      | false => rfl
      | true => exact absurd (.inr e) h
    simp only [List.mem_append, List.mem_singleton]
    constructor
    · rintro (h3 | rfl)
      · exact .inl h3
      · exact .inr ⟨rfl, h1, h2⟩
    · rintro (h3 | ⟨rfl, _⟩)
      · exact .inl h3
      · exact .inr rfl
theorem pushes_set (av : Nat → Bool) (l : List Nat) : ∀ (st : (Nat → Bool) × List Nat) (u : Nat), (pushes av st l).1 u = true ↔ st.1 u = true ∨ (u ∈ l ∧ av u = false) := by
  induction l with
  | nil => intro st u; simp [pushes]
  | cons b l ih =>
    intro st u
    rw [pushes_cons, ih, push1_set, List.mem_cons, or_assoc]
    refine or_congr Iff.rfl ?_
    constructor
    · rintro (⟨rfl, h⟩ | ⟨h1, h2⟩)
      · exact ⟨.inl rfl, h⟩
      · exact ⟨.inr h1, h2⟩
    · rintro ⟨rfl | h1, h2⟩
      · exact .inl ⟨rfl, h2⟩
      · exact .inr ⟨h1, h2⟩
theorem pushes_keep (av : Nat → Bool) (l : List Nat) : ∀ (st : (Nat → Bool) × List Nat) (u : Nat), u ∈ st.2 → u ∈ (pushes av st l).2 := by
  induction l with
  | nil => intro st u h; exact h
  | cons b l ih => intro st u h; rw [pushes_cons]; exact ih _ u ((push1_line av st b u).2 (.inl h))
theorem pushes_new (av : Nat → Bool) (l : List Nat) : ∀ (st : (Nat → Bool) × List Nat) (u : Nat), (pushes av st l).1 u = true → st.1 u = false → u ∈ (pushes av st l).2 := by
  induction l with
  | nil => intro st u h1 h2; rw [show (pushes av st []).1 u = st.1 u from rfl, h2] at h1; cases h1
  | cons b l ih =>
    intro st u h1 h2
    rw [pushes_cons] at h1 ⊢
    cases h3 : (push1 av st b).1 u with
    | false => exact ih _ u h1 h3
    | true =>
      rcases (push1_set av st b u).1 h3 with h4 | ⟨rfl, h4⟩
      · rw [h2] at h4; cases h4
      · exact pushes_keep av l _ u ((push1_line av st u u).2 (.inr ⟨rfl, h2, h4⟩))
theorem pushes_in (av : Nat → Bool) (l : List Nat) : ∀ (st : (Nat → Bool) × List Nat), (∀ u, u ∈ st.2 → st.1 u = true) → ∀ u, u ∈ (pushes av st l).2 → (pushes av st l).1 u = true := by
  induction l with
  | nil => intro st h u hu; exact h u hu
  | cons b l ih =>
    intro st h u hu
    rw [pushes_cons] at hu ⊢
    refine ih _ (fun v hv => ?_) u hu
    rcases (push1_line av st b v).1 hv with h1 | ⟨rfl, _, h2⟩
    · exact (push1_set av st b v).2 (.inl (h v h1))
    · exact (push1_set av st v v).2 (.inr ⟨rfl, h2⟩)
theorem pushes_un (av : Nat → Bool) (g : List (List Nat)) (l : List Nat) : ∀ (st : (Nat → Bool) × List Nat), (∀ b, b ∈ l → b < g.length) → un g (pushes av st l).1 + (pushes av st l).2.length ≤ un g st.1 + st.2.length := by
  induction l with
  | nil => intro st _; exact Nat.le_refl _
  | cons b l ih =>
    intro st hl
    rw [pushes_cons]
    refine Nat.le_trans (ih _ (fun x hx => hl x (by simp [hx]))) ?_
    unfold push1
    by_cases h : st.1 b = true ∨ av b = true
    · rw [if_pos h]; exact Nat.le_refl _
    · rw [if_neg h]
      have h1 : st.1 b = false := by
        cases e : st.1 b with
        | false => rfl
        | true => exact absurd (.inl e) h
      have := un_ins g st.1 b h1 (hl b (by simp))
      simp only [List.length_append, List.length_singleton]
      omega
theorem pushes_lt (av : Nat → Bool) {N : Nat} (l : List Nat) : ∀ (st : (Nat → Bool) × List Nat), (∀ b, b ∈ l → b < N) → (∀ u, u ∈ st.2 → u < N) → ∀ u, u ∈ (pushes av st l).2 → u < N := by
  induction l with
  | nil => intro st _ h u hu; exact h u hu
  | cons b l ih =>
    intro st hl h u hu
    rw [pushes_cons] at hu
    refine ih _ (fun x hx => hl x (by simp [hx])) (fun v hv => ?_) u hu
    rcases (push1_line av st b v).1 hv with h1 | ⟨rfl, _⟩
    · exact h v h1
    · exact hl v (by simp)
structure Qu (g : List (List Nat)) (av : Nat → Bool) (ns : List Nat) (st : (Nat → Bool) × List Nat) : Prop where
  from_ : ∀ u, st.1 u = true → ∃ z, z ∈ ns ∧ Pth g av z u
  line : ∀ u, u ∈ st.2 → st.1 u = true
  closed : ∀ u, st.1 u = true → u ∉ st.2 → ∀ v, v ∈ nb g u → av v = false → st.1 v = true
  start : ∀ z, z ∈ ns → av z = false → st.1 z = true
theorem Qu.begin (g : List (List Nat)) (av : Nat → Bool) (ns : List Nat) : Qu g av ns (pushes av (noS, []) ns) := by
  have h0 : ∀ u, noS u = false := fun _ => rfl
  refine ⟨fun u hu => ?_, pushes_in av ns _ (by simp), fun u hu hn => absurd (pushes_new av ns (noS, []) u hu (h0 u)) hn, fun z hz ha => (pushes_set av ns _ z).2 (.inr ⟨hz, ha⟩)⟩
  rcases (pushes_set av ns _ u).1 hu with h | ⟨h, ha⟩
  · cases h
  · exact ⟨u, h, Pth.refl ha⟩
theorem Qu.step {g : List (List Nat)} {av : Nat → Bool} {ns : List Nat} {s : Nat → Bool} {a : Nat} {q : List Nat} (h : Qu g av ns (s, a :: q)) : Qu g av ns (pushes av (s, q) (nb g a)) := by
  have ha : s a = true := h.line a (by simp)
  refine ⟨fun u hu => ?_, pushes_in av _ _ (fun u hu => h.line u (List.mem_cons_of_mem _ hu)), fun u hu hn v hv hav => ?_, fun z hz hav => (pushes_set av _ _ z).2 (.inl (h.start z hz hav))⟩
  · rcases (pushes_set av _ _ u).1 hu with h1 | ⟨h1, h2⟩
    · exact h.from_ u h1
    · obtain ⟨z, hz, p⟩ := h.from_ a ha
      exact ⟨z, hz, p.snoc h1 h2⟩
  · by_cases hs : s u = true
    · by_cases e : u = a
      · subst e; exact (pushes_set av _ _ v).2 (.inr ⟨hv, hav⟩)
      · have hnq : u ∉ a :: q := by
          intro hm
          rcases List.mem_cons.1 hm with h1 | h1
          · exact e h1
          · exact hn (pushes_keep av _ _ u h1)
        exact (pushes_set av _ _ v).2 (.inl (h.closed u hs hnq v hv hav))
    · exact absurd (pushes_new av _ (s, q) u hu (by simpa using hs)) hn
theorem Qu.done {g : List (List Nat)} {av : Nat → Bool} {ns : List Nat} {st : (Nat → Bool) × List Nat} (h : Qu g av ns st) (he : st.2 = []) (u : Nat) : st.1 u = true ↔ ∃ z, z ∈ ns ∧ Pth g av z u := by
  refine ⟨h.from_ u, ?_⟩
  rintro ⟨z, hz, p⟩
  exact p.carry (C := fun u => st.1 u = true) (fun x hx _ v hv hs => h.closed x hx (by rw [he]; simp) v hv hs) (h.start z hz p.start)
end Go.Proofs.YtngdnjlohmkbiaaDoor

namespace Go.Proofs.YtngdnjlohmkbiaaDoor
open Go.RowKit

/-- Marks. -/
def bw (s : Nat → Bool) (i : Nat) : Value := .bool (s i)
theorem bw_put {w : World} {B0 b gn : Nat} {s : Nat → Bool} (h : RowAt w B0 b gn 4 (bw s)) (n : Nat) : RowAt (w.setCell ⟨b, n, none⟩ (.bool true)) B0 b gn 4 (bw (ins s n)) := by
  refine (h.put n (.bool true)).congr (fun i _ => ?_)
  unfold bw ins
  by_cases e : i = n
  · subst e; simp
  · simp [e]
theorem bzero : Tryd.t4.zero = some (.bool false) := by kernel_rfl
theorem bsize : Tryd.t4.size = 1 := by kernel_rfl
theorem bbytes : Tryd.t4.bytes = 1 := by kernel_rfl
theorem binfo : Tryd.prog.info? 4 = some Tryd.t4 := by kernel_rfl
theorem bunder : Tryd.prog.underlying 34 = some (.slice 4) := by kernel_rfl

/-- Whom to keep off. -/
def avI (wo : Int) : Nat → Bool := fun m => decide ((m : Int) = wo)
/-- The queue in memory. -/
def WLine (w : World) (base ps : Nat) (lv : Value) (l : List Nat) : Prop :=
  (lv = .slice none 0 0 ∧ l = []) ∨ ∃ g off cap, lv = .slice (some ⟨g, off, none⟩) l.length cap ∧ LineAt w g off cap (intsI l) ∧ base ≤ g ∧ g ≠ ps
structure RQ (w wr : World) (ps N : Nat) (lv : Value) (st : (Nat → Bool) × List Nat) : Prop where
  row : RowAt wr w.heap.size ps N 4 (bw st.1)
  line : WLine wr w.heap.size ps lv st.2
  keep : Keeps [] w wr
theorem WLine.arm {w : World} {base ps : Nat} {lv : Value} {l : List Nat} (h : WLine w base ps lv l) : (lv = .slice none 0 0 ∧ intsI l = []) ∨ ∃ g off cap, lv = .slice (some ⟨g, off, none⟩) (intsI l).length cap ∧ LineAt w g off cap (intsI l) := by
  rcases h with ⟨h1, h2⟩ | ⟨g, off, cap, h1, h2, _, _⟩
  · exact .inl ⟨h1, by rw [h2]; rfl⟩
  · exact .inr ⟨g, off, cap, by rw [intsI_len]; exact h1, h2⟩
theorem WLine.len {w : World} {base ps : Nat} {lv : Value} {l : List Nat} (h : WLine w base ps lv l) : ∃ a c, lv = .slice a l.length c := by
  rcases h with ⟨rfl, rfl⟩ | ⟨g, off, cap, rfl, _⟩
  · exact ⟨none, 0, rfl⟩
  · exact ⟨_, _, rfl⟩
theorem WLine.kept {w w' : World} {base ps : Nat} {lv : Value} {l L : List Nat} (h : WLine w base ps lv l) (k : Keeps L w w') (hL : ∀ x, x ∈ L → lv.ownBlock ≠ some x) : WLine w' base ps lv l := by
  rcases h with h | ⟨g, off, cap, rfl, h2, h3, h4⟩
  · exact .inl h
  · exact .inr ⟨g, off, cap, rfl, h2.kept k (fun hx => hL g hx rfl), h3, h4⟩
theorem WLine.own {w : World} {base ps : Nat} {lv : Value} {l : List Nat} (h : WLine w base ps lv l) : ∀ x, lv.ownBlock = some x → base ≤ x ∧ x ≠ ps ∧ x < w.heap.size := by
  intro x hx
  rcases h with ⟨rfl, _⟩ | ⟨g, off, cap, rfl, h2, h3, h4⟩
  · cases hx
  · have : g = x := Option.some.inj hx
    subst this
    exact ⟨h3, h4, h2.lt⟩
theorem intsI_snoc (l : List Nat) (x : Nat) : intsI (l ++ [x]) = intsI l ++ [(x : Int)] := by unfold intsI; rw [List.map_append]; rfl
/-- A mark is set. -/
theorem RQ.mark {w wr : World} {ps N : Nat} {lv : Value} {st : (Nat → Bool) × List Nat} (h : RQ w wr ps N lv st) (b : Nat) : RQ w (wr.setCell ⟨ps, b, none⟩ (.bool true)) ps N lv (ins st.1 b, st.2) := by
  have k : Keeps [ps] wr (wr.setCell ⟨ps, b, none⟩ (.bool true)) := Keeps.setCell _ _ _ _ (by simp)
  exact ⟨bw_put h.row b, h.line.kept k (fun x hx e => by simp at hx; exact (h.line.own x e).2.1 hx), h.keep.fresh k (fun x hx => by have := h.row.lt.1; simp at hx; omega)⟩
theorem RQ.quiet {w wr wy : World} {ps N : Nat} {lv : Value} {st : (Nat → Bool) × List Nat} (h : RQ w wr ps N lv st) (k : Keeps [] wr wy) : RQ w wy ps N lv st :=
  ⟨h.row.kept k (by simp), h.line.kept k (by simp), h.keep.quiet k⟩
/-- One more stands at the end. -/
theorem RQ.push {w wr wa w5 : World} {ps N : Nat} {lv : Value} {st : (Nat → Bool) × List Nat} {b g5 off5 cap5 : Nat} (h : RQ w wr ps N lv st) (ka : Keeps [] wr wa) (hl : LineAt w5 g5 off5 cap5 (intsI st.2 ++ [(b : Int)])) (k5 : Keeps lv.ownBlock.toList wa w5) (hat : lv.ownBlock = some g5 ∨ g5 = wa.heap.size) :
    RQ w w5 ps N (.slice (some ⟨g5, off5, none⟩) ((intsI st.2).length + 1) cap5) (st.1, st.2 ++ [b]) := by
  have h2 := h.quiet ka
  have hps := h2.row.lt
  refine ⟨h2.row.kept k5 (fun hx => (h2.line.own ps (by simpa using hx)).2.1 rfl), .inr ⟨g5, off5, cap5, ?_, ?_, ?_, ?_⟩, h2.keep.fresh k5 (fun x hx => (h2.line.own x (by simpa using hx)).1)⟩
  · rw [intsI_len, List.length_append]; rfl
  · show LineAt w5 g5 off5 cap5 (intsI (st.2 ++ [b]))
    rw [intsI_snoc]; exact hl
  · rcases hat with e | e
    · exact (h2.line.own g5 e).1
    · have := h2.keep.size; omega
  · rcases hat with e | e
    · exact (h2.line.own g5 e).2.1
    · omega

/-- The first one goes. -/
theorem LineAt.tail {w : World} {g off cap : Nat} {x : Int} {l : List Int} (h : LineAt w g off cap (x :: l)) : LineAt w g (off + 1) (cap - 1) l := by
  have hl := h.len
  have hm := h.max
  have hlen : (x :: l).length = l.length + 1 := rfl
  refine ⟨fun i hi => ?_, fun k hk => ?_, by omega, by omega, h.lt⟩
  · have := h.cell (i + 1) (by omega)
    rw [Nat.add_assoc, Nat.add_comm 1 i]
    exact this
  · have := h.room (k + 1) (by omega)
    rw [Nat.add_assoc, Nat.add_comm 1 k]
    exact this
theorem WLine.pop {w : World} {base ps g off cap x : Nat} {l : List Nat} (h : LineAt w g off cap (intsI (x :: l))) (h1 : base ≤ g) (h2 : g ≠ ps) : WLine w base ps (.slice (some ⟨g, off + 1, none⟩) l.length (cap - 1)) l :=
  .inr ⟨g, off + 1, cap - 1, rfl, LineAt.tail (l := intsI l) h, h1, h2⟩
theorem WLine.pop1 {w : World} {base ps g off x : Nat} {l : List Nat} (h : LineAt w g off 1 (intsI (x :: l))) (h1 : base ≤ g) (h2 : g ≠ ps) : l = [] ∧ WLine w base ps (.slice (some ⟨g, off, none⟩) 0 0) [] := by
  have hl := h.len
  rw [intsI_len] at hl
  have hlen : (x :: l).length = l.length + 1 := rfl
  refine ⟨List.eq_nil_of_length_eq_zero (by omega), .inr ⟨g, off, 0, rfl, ⟨fun i hi => by simp [intsI] at hi, fun k hk => by omega, by simp [intsI], by omega, h.lt⟩, h1, h2⟩⟩

/-- Those that are nodes. -/
def nodI (N : Nat) (zs : List Int) : List Nat := (zs.filter fun z => decide (0 ≤ z ∧ z < (N : Int))).map Int.toNat
theorem nodI_snoc_in {N : Nat} {zs : List Int} {z : Int} (h : 0 ≤ z ∧ z < (N : Int)) : nodI N (zs ++ [z]) = nodI N zs ++ [z.toNat] := by
  unfold nodI
  rw [List.filter_append, List.map_append]
  simp [h]
theorem nodI_snoc_out {N : Nat} {zs : List Int} {z : Int} (h : ¬ (0 ≤ z ∧ z < (N : Int))) : nodI N (zs ++ [z]) = nodI N zs := by
  unfold nodI
  rw [List.filter_append, List.map_append, List.filter_cons, if_neg (by simpa using h)]
  simp
theorem mem_nodI {N : Nat} {zs : List Int} {u : Nat} : u ∈ nodI N zs ↔ (u : Int) ∈ zs ∧ u < N := by
  unfold nodI
  constructor
  · intro h
    obtain ⟨z, hz, rfl⟩ := List.mem_map.1 h
    obtain ⟨h1, h2⟩ := List.mem_filter.1 hz
    have h3 := of_decide_eq_true h2
    rw [Int.toNat_of_nonneg h3.1]
    exact ⟨h1, by omega⟩
  · rintro ⟨h1, h2⟩
    exact List.mem_map.2 ⟨(u : Int), List.mem_filter.2 ⟨h1, by simp; omega⟩, by simp⟩
theorem nodI_lt {N : Nat} {zs : List Int} : ∀ u, u ∈ nodI N zs → u < N := fun _ hu => (mem_nodI.1 hu).2

set_option maxRecDepth 20000 in
set_option maxHeartbeats 8000000 in
theorem rreach_any (g : List (List Nat)) (hs : Sm g) (a : Option Addr) (cap B : Nat) (w : World) (hG : GAt w B a g) (af : Option Addr) (fc Bf : Nat) (zs : List Int) (hz : InAt w Bf af zs) (hl : zs.length ≤ 1000) (wo : Int) :
    Calls Tryd.prog 15 #[.slice a g.length cap, .slice af zs.length fc, .int .i64 wo] w fun e w' => ∃ ps, e = .returned (.slice (some ⟨ps, 0, none⟩) g.length g.length) ∧ ∃ s, RowAt w' w.heap.size ps g.length 4 (bw s) ∧ Keeps [] w w' ∧ ∀ u, s u = true ↔ ∃ z, z ∈ nodI g.length zs ∧ Pth g (avI wo) z u := by
  have HS := hid hs
  have HG := hid hG
  have HZ := hid hz
  have hg6 := hs.len
  have HUN := hid (fun st : (Nat → Bool) × List Nat => un_le g st.1)
  obtain ⟨N, hN⟩ : ∃ N, g.length = N := ⟨_, rfl⟩
  have HN := hid hN
  rw [hN] at hg6 HUN ⊢
  obtain ⟨zl, hzl⟩ : ∃ zl, zs.length = zl := ⟨_, rfl⟩
  have HZL := hid hzl
  rw [hzl] at hl ⊢
  clear hs hG hz hN hzl
  have hww : w.heap.size ≤ w.heap.size := Nat.le_refl _
  go_enter Tryd.func15, Tryd.ntmps15
  go_wp2_with (at_make; go_must (refine wpList_make_full _ rfl _ _ 34 rfl w.heap.size 4 Tryd.t4 (.bool false) 1 bunder binfo bzero bsize .i64 .i64 _ _ N rfl rfl rfl rfl (by rw [bbytes]; omega) (by unfold maxLen; omega) hww ?_; intro w2 hown2 hgrow2))
  have k2 : Keeps [] w w2 := Keeps.grown [] hgrow2 (by simp)
  obtain ⟨ps, hps⟩ : ∃ ps, w.heap.size = ps := ⟨_, rfl⟩
  have HPS := hid hps
  have R2 : Box (RQ w w2 ps N (.slice none 0 0) (pushes (avI wo) (noS, []) (nodI N (zs.take 0)))) := hid ⟨by
    rw [← hps]
    exact (RowAt.made hown2 rfl).congr (fun i _ => rfl), .inl ⟨rfl, rfl⟩, k2⟩
  rw [hps]
  clear hown2 hgrow2 k2 hww hps
  have wsz : w.heap.size = ps := HPS.out
  clear wsz
  go_loopw [8, 9] (fun lv iv wr => ∃ (i : Nat) (v : Value), v = lv ∧ iv = .int .i64 (i : Int) ∧ i ≤ zl ∧ Box (RQ w wr ps N v (pushes (avI wo) (noS, []) (nodI N (zs.take i))))) (fun _ iv _ => zl - (intOf iv).toNat)
  case atStart => exact ⟨0, _, rfl, rfl, by omega, R2⟩
  case round =>
    clear R2
    obtain ⟨i, v, rfl, rfl, hi, HR⟩ := hrel
    by_cases hlt : i < zl
    · have hlt' : (i : Int) < (zl : Int) := by omega
      obtain ⟨bz, oz, rfl, hcz⟩ := (HZ.out.kept HR.out.keep (by simp)).at (k := i) (by rw [HZL.out]; exact hlt)
      have htk := hid (take_snoc zs i 0 (by rw [HZL.out]; exact hlt))
      obtain ⟨z, hzz⟩ : ∃ z, zs.getD i 0 = z := ⟨_, rfl⟩
      rw [hzz] at hcz htk
      clear hzz
      by_cases hin : 0 ≤ z ∧ z < (N : Int)
      · obtain ⟨b, rfl⟩ := Int.eq_ofNat_of_zero_le hin.1
        have hbN : b < N := by omega
        have hbN' := hin.2
        have hb0 := hin.1
        have hst : Box (pushes (avI wo) (noS, []) (nodI N (zs.take (i + 1))) = push1 (avI wo) (pushes (avI wo) (noS, []) (nodI N (zs.take i))) b) := hid (by rw [htk.out, nodI_snoc_in hin, pushes_snoc, Int.toNat_natCast])
        have hun := pushes_un (avI wo) g (nodI N (zs.take i)) (noS, []) (fun x hx => by rw [HN.out]; exact nodI_lt x hx)
        have hu0 := un_le g noS
        obtain ⟨st, hste⟩ : ∃ st, pushes (avI wo) (noS, []) (nodI N (zs.take i)) = st := ⟨_, rfl⟩
        rw [hste] at HR hst hun
        have hlen : st.2.length ≤ 600 := by
          have : (([] : List Nat)).length = 0 := rfl
          have h9 : un g st.1 + st.2.length ≤ un g noS + 0 := hun
          have := HN.out
          omega
        have cs := HR.out.row.cell hbN
        unfold bw at cs
        have fs := HR.out.row.frozen b
        clear hun hu0 hste hin htk
        cases hsb : st.1 b with
        | true =>
          rw [hsb] at cs
          have hst2 : Box (push1 (avI wo) st b = st) := hid (by unfold push1; rw [if_pos (.inl hsb)])
          clear hsb
          go_wp2
          go_roundw
          case rel => exact ⟨i + 1, v, rfl, by go_num, by omega, hid (by rw [hst.out, hst2.out]; exact HR.out)⟩
          case measure => simp [intOf]; omega
        | false =>
          rw [hsb] at cs
          by_cases hwo : (b : Int) = wo
          · have hb1 : ((b : Int) != wo) = false := by rw [hwo]; simp
            have hst2 : Box (push1 (avI wo) st b = st) := hid (by unfold push1 avI; rw [if_pos (.inr (decide_eq_true hwo))])
            clear hsb hwo
            go_wp2
            go_roundw
            case rel => exact ⟨i + 1, v, rfl, by go_num, by omega, hid (by rw [hst.out, hst2.out]; exact HR.out)⟩
            case measure => simp [intOf]; omega
          · have hb1 : ((b : Int) != wo) = true := by rw [bne_iff_ne]; exact hwo
            have hst2 : Box (push1 (avI wo) st b = (ins st.1 b, st.2 ++ [b])) := hid (by
              unfold push1
              rw [if_neg]
              rintro (h | h)
              · rw [hsb] at h; cases h
              · exact hwo (of_decide_eq_true h))
            have HM := hid (HR.out.mark b)
            clear hsb hwo HR
            obtain ⟨av, cv, rfl⟩ := HM.out.line.len
            go_upto_region 9 with fail
            clear cs fs
            generalize wr.setCell ⟨ps, b, none⟩ (.bool true) = wm at HM ⊢
            go_wp2_with (at_builtin; go_must (refine wpList_append_line _ rfl _ _ rfl (intsI st.2) (b : Int) (.slice av st.2.length cv) rfl (HM.out.quiet (Keeps.alloc [] _ _)).line.arm ⟨_, 0, none⟩ 1 rfl (cell_one_new _ _ _) (by rw [intsI_len]; omega) ?_; intro g5 off5 cap5 w5 hl5 k5 hat5))
            have HR5 := hid (HM.out.push (Keeps.alloc [] _ _) hl5 k5 hat5)
            clear hl5 k5 hat5 HM
            go_roundw
            case rel => exact ⟨i + 1, _, rfl, by go_num, by omega, hid (by rw [hst.out, hst2.out]; exact HR5.out)⟩
            case measure => simp [intOf]; omega
      · have hst : Box (pushes (avI wo) (noS, []) (nodI N (zs.take (i + 1))) = pushes (avI wo) (noS, []) (nodI N (zs.take i))) := hid (by rw [htk.out, nodI_snoc_out hin])
        clear htk
        by_cases h0 : 0 ≤ z
        · have h1 : ¬ z < (N : Int) := fun h => hin ⟨h0, h⟩
          clear hin
          go_wp2
          go_roundw
          case rel => exact ⟨i + 1, v, rfl, by go_num, by omega, hid (by rw [hst.out]; exact HR.out)⟩
          case measure => simp [intOf]; omega
        · clear hin
          go_wp2
          go_roundw
          case rel => exact ⟨i + 1, v, rfl, by go_num, by omega, hid (by rw [hst.out]; exact HR.out)⟩
          case measure => simp [intOf]; omega
    · obtain rfl : i = zl := by omega
      have hall : zs.take i = zs := by rw [← HZL.out]; exact List.take_length
      rw [hall] at HR
      have HQ := hid (Qu.begin g (avI wo) (nodI N zs))
      have HLT : Box (∀ u, u ∈ (pushes (avI wo) (noS, []) (nodI N zs)).2 → u < N) := hid (pushes_lt (avI wo) (nodI N zs) (noS, []) nodI_lt (by simp))
      have hun : un g (pushes (avI wo) (noS, []) (nodI N zs)).1 + (pushes (avI wo) (noS, []) (nodI N zs)).2.length ≤ N := by
        have h1 := pushes_un (avI wo) g (nodI N zs) (noS, []) (fun x hx => by rw [HN.out]; exact nodI_lt x hx)
        have h2 : un g (noS, ([] : List Nat)).1 + (noS, ([] : List Nat)).2.length ≤ N := by
          have := un_le g noS
          have := HN.out
          show un g noS + 0 ≤ N
          omega
        omega
      clear hall HZ
      go_wp2_with fail
      go_loopg [8] N (fun q lv wr => ∃ (v : Value) (st : (Nat → Bool) × List Nat), v = lv ∧ un g st.1 + st.2.length ≤ q ∧ q ≤ N ∧ Box (RQ w wr ps N v st) ∧ Box (Qu g (avI wo) (nodI N zs) st) ∧ Box (∀ u, u ∈ st.2 → u < N))
      case atStart => exact ⟨v, _, rfl, hun, Nat.le_refl _, HR, HQ, HLT⟩
      case round =>
        clear HR HQ HLT hun
        obtain ⟨v, ⟨s, l⟩, rfl, hq, hqN, HR, HQ, HLT⟩ := hrel
        cases l with
        | nil =>
          obtain ⟨av, cv, rfl⟩ := HR.out.line.len
          have hdone := hid (HQ.out.done rfl)
          go_wp2
          go_ret
          exact ⟨ps, rfl, s, HR.out.row, HR.out.keep, hdone.out⟩
        | cons x l =>
          have hx : x < N := HLT.out x (by simp)
          obtain ⟨g5, off5, cap5, rfl, hline, hb5, hne5⟩ := HR.out.line.resolve_left (fun h => by simp at h)
          have hcell := hline.cell 0 (by rw [intsI_len]; simp)
          rw [Nat.add_zero] at hcell
          have hcell' : wr.cell? ⟨g5, off5, none⟩ = some (.int .i64 (x : Int)) := hcell
          have hlc := hline.len
          have hmx := hline.max
          rw [intsI_len] at hlc
          have hlen : (x :: l).length = l.length + 1 := rfl
          rw [hlen] at hlc
          have hl1 : (1 : Int) ≤ ((l.length + 1 : Nat) : Int) := by omega
          have hrow := hid HR.out.row
          have HK := hid HR.out.keep
          have HQ2 := hid HQ.out.step
          have HLT2 : Box (∀ u, u ∈ l → u < N) := hid (fun u hu => HLT.out u (List.mem_cons_of_mem _ hu))
          have hun2 := pushes_un (avI wo) g (nb g x) (s, l) (fun y hy => HS.out.ok x y hy)
          have hq' : un g s + (l.length + 1) ≤ gk := hq
          have HPO : Box (WLine wr w.heap.size ps (.slice (some ⟨g5, off5 + 1, none⟩) l.length (cap5 - 1)) l) := hid (WLine.pop hline hb5 hne5)
          have HP1 : Box (∀ hc : cap5 = 1, l = [] ∧ WLine wr w.heap.size ps (.slice (some ⟨g5, off5, none⟩) 0 0) []) := hid (fun hc => by subst hc; exact WLine.pop1 hline hb5 hne5)
          obtain ⟨bl, ol, ai, ci, rfl, hcl, hnl⟩ := HG.out.at (k := x) (by rw [HN.out]; exact hx)
          have HCL : Box (∀ w9, Keeps [] w w9 → w9.cell? ⟨bl, ol + x, none⟩ = some (.slice ai (nb g x).length ci)) := hid (fun w9 k9 => by rw [k9.cell (p := ⟨bl, ol + x, none⟩) (block_lt_of_cell hcl) (by simp)]; exact hcl)
          have HNL := hid hnl
          have hnb := HS.out.short x
          have Hnb : Box (∀ y, y ∈ nb g x → y < N) := hid (fun y hy => by rw [← HN.out]; exact HS.out.ok x y hy)
          have hx' : (x : Int) < (N : Int) := by omega
          have hx6 : x < 600 := by omega
          clear hcell hline HR HQ HLT hq hnl hlen hcl
          have hMid : Box (∃ v2, WLine wr w.heap.size ps v2 l ∧ (cap5 = 1 → v2 = .slice (some ⟨g5, off5, none⟩) 0 0) ∧ (cap5 ≠ 1 → v2 = .slice (some ⟨g5, off5 + 1, none⟩) l.length (cap5 - 1))) := hid (by
            by_cases hc : cap5 = 1
            · obtain ⟨rfl, h9⟩ := HP1.out hc
              exact ⟨_, h9, fun _ => rfl, fun h => absurd hc h⟩
            · exact ⟨_, HPO.out, fun h => absurd h hc, fun _ => rfl⟩)
          clear HP1 HPO
          have hlen1 : ((x :: l).length : Nat) = l.length + 1 := rfl
          rw [hlen1]
          clear hlen1
          generalize hNB : nb g x = NB at HCL HNL hnb Hnb hun2 HQ2
          clear hNB
          obtain ⟨ll, hll⟩ : ∃ ll, l.length = ll := ⟨_, rfl⟩
          have HLL := hid hll
          rw [hll] at hlc hl1 hq' ⊢
          have hMid2 := hMid.out
          rw [hll] at hMid2
          obtain ⟨v2, hw2, hv1, hv2⟩ := hMid2
          have R0 : Box (RQ w wr ps N v2 (pushes (avI wo) (s, l) (NB.take 0))) := hid ⟨hrow.out, hw2, HK.out⟩
          clear hll hMid hw2 hrow
          have hcc : (1 : Int) ≤ (cap5 : Int) := by omega
          by_cases hc1 : cap5 = 1
          all_goals
            first
              | (subst hc1
                 obtain rfl : ll = 0 := by omega
                 obtain rfl := hv1 rfl
                 clear hv1 hv2
                 go_upto_region 13 with fail
                 generalize (Value.slice (some ⟨g5, off5, none⟩) 0 0) = v2 at R0 ⊢)
              | (obtain rfl := hv2 hc1
                 clear hv1 hv2
                 go_upto_region 13 with fail
                 generalize (Value.slice (some ⟨g5, off5 + 1, none⟩) ll (cap5 - 1)) = v2 at R0 ⊢)
            clear hcell' hlc hl1 hmx hcc
            go_wp2_with fail
            go_loopw [8, 12] (fun lv kv wr2 => ∃ (k : Nat) (v : Value), v = lv ∧ kv = .int .i64 (k : Int) ∧ k ≤ NB.length ∧ Box (RQ w wr2 ps N v (pushes (avI wo) (s, l) (NB.take k)))) (fun _ kv _ => NB.length - (intOf kv).toNat)
            case atStart => exact ⟨0, v2, rfl, rfl, by omega, R0⟩
            case round =>
              clear R0 HK
              obtain ⟨k, v, rfl, rfl, hk, HR⟩ := hrel
              have cto := HCL.out wr HR.out.keep
              by_cases hlt : k < NB.length
              · have hlt' : (k : Int) < (NB.length : Int) := by omega
                obtain ⟨bm, om, rfl, hcm⟩ := (HNL.out.kept HR.out.keep (by simp)).at hlt
                obtain ⟨b, hb⟩ : ∃ b, NB.getD k 0 = b := ⟨_, rfl⟩
                have hbN : b < N := by rw [← hb]; exact Hnb.out _ (getD_mem NB k 0 hlt)
                have htk := hid (take_snoc NB k 0 hlt)
                rw [hb] at hcm htk
                clear hb
                have hbN' : (b : Int) < (N : Int) := by omega
                have hb6 : b < 600 := by omega
                have hst : Box (pushes (avI wo) (s, l) (NB.take (k + 1)) = push1 (avI wo) (pushes (avI wo) (s, l) (NB.take k)) b) := hid (by rw [htk.out, pushes_snoc])
                have hun := pushes_un (avI wo) g (NB.take k) (s, l) (fun y hy => by rw [HN.out]; exact Hnb.out y (List.mem_of_mem_take hy))
                obtain ⟨st, hste⟩ : ∃ st, pushes (avI wo) (s, l) (NB.take k) = st := ⟨_, rfl⟩
                rw [hste] at HR hst hun
                have hlen : st.2.length ≤ 600 := by
                  have h9 : un g st.1 + st.2.length ≤ un g s + l.length := hun
                  have := HLL.out
                  omega
                have cs := HR.out.row.cell hbN
                unfold bw at cs
                have fs := HR.out.row.frozen b
                clear hun hste htk
                cases hsb : st.1 b with
                | true =>
                  rw [hsb] at cs
                  have hst2 : Box (push1 (avI wo) st b = st) := hid (by unfold push1; rw [if_pos (.inl hsb)])
                  clear hsb
                  go_wp2
                  go_roundw
                  case rel => exact ⟨k + 1, v, rfl, by go_num, by omega, hid (by rw [hst.out, hst2.out]; exact HR.out)⟩
                  case measure => simp [intOf]; omega
                | false =>
                  rw [hsb] at cs
                  by_cases hwo : (b : Int) = wo
                  · have hb1 : ((b : Int) != wo) = false := by rw [hwo]; simp
                    have hst2 : Box (push1 (avI wo) st b = st) := hid (by unfold push1 avI; rw [if_pos (.inr (decide_eq_true hwo))])
                    clear hsb hwo
                    go_wp2
                    go_roundw
                    case rel => exact ⟨k + 1, v, rfl, by go_num, by omega, hid (by rw [hst.out, hst2.out]; exact HR.out)⟩
                    case measure => simp [intOf]; omega
                  · have hb1 : ((b : Int) != wo) = true := by rw [bne_iff_ne]; exact hwo
                    have hst2 : Box (push1 (avI wo) st b = (ins st.1 b, st.2 ++ [b])) := hid (by
                      unfold push1
                      rw [if_neg]
                      rintro (h | h)
                      · rw [hsb] at h; cases h
                      · exact hwo (of_decide_eq_true h))
                    have HM := hid (HR.out.mark b)
                    clear hsb hwo HR
                    obtain ⟨av, cv, rfl⟩ := HM.out.line.len
                    go_upto_region 19 with fail
                    clear cs fs cto hcm
                    generalize wr.setCell ⟨ps, b, none⟩ (.bool true) = wm at HM ⊢
                    go_wp2_with (at_builtin; go_must (refine wpList_append_line _ rfl _ _ rfl (intsI st.2) (b : Int) (.slice av st.2.length cv) rfl (HM.out.quiet (Keeps.alloc [] _ _)).line.arm ⟨_, 0, none⟩ 1 rfl (cell_one_new _ _ _) (by rw [intsI_len]; omega) ?_; intro g6 off6 cap6 w6 hl6 k6 hat6))
                    have HR6 := hid (HM.out.push (Keeps.alloc [] _ _) hl6 k6 hat6)
                    clear hl6 k6 hat6 HM
                    go_roundw
                    case rel => exact ⟨k + 1, _, rfl, by go_num, by omega, hid (by rw [hst.out, hst2.out]; exact HR6.out)⟩
                    case measure => simp [intOf]; omega
              · obtain rfl : k = NB.length := by omega
                rw [List.take_length] at HR
                have HLT3 : Box (∀ u, u ∈ (pushes (avI wo) (s, l) NB).2 → u < N) := hid (pushes_lt (avI wo) NB (s, l) Hnb.out HLT2.out)
                have hq2 : un g (pushes (avI wo) (s, l) NB).1 + (pushes (avI wo) (s, l) NB).2.length ≤ gk - 1 := by
                  have h9 : un g (pushes (avI wo) (s, l) NB).1 + (pushes (avI wo) (s, l) NB).2.length ≤ un g s + l.length := hun2
                  have := HLL.out
                  omega
                go_wp2_with fail
                go_roundg (gk - 1)
                case measure => omega
                case rel => exact ⟨v, _, rfl, hq2, by omega, HR, HQ2, HLT3⟩
end Go.Proofs.YtngdnjlohmkbiaaDoor

namespace Go.Proofs.YtngdnjlohmkbiaaDoor
open Go.RowKit

theorem idx_app {l r : List Nat} {y : Nat} (h : y ∈ l) : (l ++ r).idxOf y = l.idxOf y := by rw [List.idxOf_append, if_pos h]
theorem idx_app_new {l r : List Nat} {y : Nat} (h : y ∉ l) : (l ++ r).idxOf y = r.idxOf y + l.length := by rw [List.idxOf_append, if_neg h]
theorem idx_lt {l : List Nat} {y : Nat} (h : y ∈ l) : l.idxOf y < l.length := List.idxOf_lt_length_of_mem h
theorem idx_getD {l : List Nat} {y : Nat} (h : y ∈ l) : l.getD (l.idxOf y) 0 = y := by
  rw [List.getD_eq_getElem?_getD, List.getElem?_eq_getElem (idx_lt h), Option.getD_some]
  exact List.getElem_idxOf (idx_lt h)
theorem idx_inj {l : List Nat} {x y : Nat} (hx : x ∈ l) (hy : y ∈ l) (e : l.idxOf x = l.idxOf y) : x = y := by
  rw [← idx_getD hx, ← idx_getD hy, e]
theorem getD_idx {l : List Nat} (hn : l.Nodup) {k : Nat} (hk : k < l.length) : l.idxOf (l.getD k 0) = k := by
  rw [List.getD_eq_getElem?_getD, List.getElem?_eq_getElem hk, Option.getD_some]
  exact List.Nodup.idxOf_getElem hn k hk
theorem idx_sorted {l : List Nat} (hs : l.Pairwise (· < ·)) {x y : Nat} (hx : x ∈ l) (hy : y ∈ l) (h : l.idxOf x ≤ l.idxOf y) : x ≤ y := by
  by_cases e : l.idxOf x = l.idxOf y
  · rw [idx_inj hx hy e]; exact Nat.le_refl _
  · have h1 := List.pairwise_iff_getElem.1 hs (l.idxOf x) (l.idxOf y) (idx_lt hx) (idx_lt hy) (by omega)
    rw [List.getElem_idxOf, List.getElem_idxOf] at h1
    omega

structure Bq (g : List (List Nat)) (fr : Nat) (line : List Nat) (bf : Nat → Nat) (k : Nat) : Prop where
  bs : Bf g fr line bf
  le : k ≤ line.length
  edge : ∀ y, y ∈ line → y ≠ fr → y ∈ nb g (bf y) ∧ bf y ∈ line ∧ line.idxOf (bf y) < k
  first : ∀ y, y ∈ line → y ≠ fr → ∀ x, y ∈ nb g x → line.idxOf (bf y) ≤ line.idxOf x
  mono : ∀ y z, y ∈ line → z ∈ line → y ≠ fr → z ≠ fr → line.idxOf y ≤ line.idxOf z → line.idxOf (bf y) ≤ line.idxOf (bf z) ∧ (bf y = bf z → y ≤ z)
  seen : ∀ x, x ∈ line → line.idxOf x < k → ∀ y, y ∈ nb g x → y ∈ line
theorem Bf.fr_mem {g : List (List Nat)} {fr : Nat} {line : List Nat} {bf : Nat → Nat} (h : Bf g fr line bf) : fr ∈ line := h.head.2 ▸ getD_mem line 0 0 h.head.1
theorem Bf.fr_idx {g : List (List Nat)} {fr : Nat} {line : List Nat} {bf : Nat → Nat} (h : Bf g fr line bf) : line.idxOf fr = 0 := by
  have := getD_idx h.nodup h.head.1
  rw [h.head.2] at this
  exact this
theorem Bq.start {g : List (List Nat)} {fr : Nat} (h : fr < g.length) (bf : Nat → Nat) : Bq g fr [fr] bf 0 := by
  have key : ∀ y, y ∈ [fr] → y ≠ fr → False := fun y hy hne => hne (List.mem_singleton.1 hy)
  exact ⟨Bf.start h bf, Nat.zero_le _, fun y hy hn => (key y hy hn).elim, fun y hy hn => (key y hy hn).elim, fun y z hy _ hn => (key y hy hn).elim, fun _ _ h => absurd h (Nat.not_lt_zero _)⟩
theorem Bq.step {g : List (List Nat)} {fr : Nat} {line : List Nat} {bf : Nat → Nat} {k : Nat} (h : Bq g fr line bf k) (hg : Ok g) (hk : k < line.length) : Bq g fr (line ++ nxs g line (line.getD k 0) g.length) (bfJ g line (line.getD k 0) bf g.length) (k + 1) := by
  have hB := h.bs.step hg hk
  have hxi := getD_idx h.bs.nodup hk
  have hxl : line.getD k 0 ∈ line := getD_mem line k 0 hk
  generalize line.getD k 0 = x at hB hxi hxl ⊢
  have hnew : ∀ y, y ∈ line ++ nxs g line x g.length → y ∉ line → y ∈ nb g x ∧ bfJ g line x bf g.length y = x ∧ y ∈ nxs g line x g.length := by
    intro y hy hn
    have hm := (List.mem_append.1 hy).resolve_left hn
    obtain ⟨h1, h2, h3⟩ := nxs_mem.1 hm
    refine ⟨h2, ?_, hm⟩
    unfold bfJ
    rw [if_pos (by rw [nxt_iff.2 ⟨h2, h3⟩]; simp [h1])]
  have hold : ∀ y, y ∈ line → bfJ g line x bf g.length y = bf y := fun y hy => bfJ_old y hy
  have hfr := h.bs.fr_mem
  have hge : ∀ y, y ∉ line → line.length ≤ (line ++ nxs g line x g.length).idxOf y := fun y hy => by rw [idx_app_new hy]; omega
  refine ⟨hB, by rw [List.length_append]; omega, fun y hy hne => ?_, fun y hy hne x0 hx0 => ?_, fun y z hy hz hny hnz hle => ?_, fun x0 hx0 hi y hy => ?_⟩
  · by_cases ho : y ∈ line
    · obtain ⟨h1, h2, h3⟩ := h.edge y ho hne
      rw [hold y ho, idx_app h2]
      exact ⟨h1, List.mem_append_left _ h2, by omega⟩
    · obtain ⟨h1, h2, _⟩ := hnew y hy ho
      rw [h2, idx_app hxl, hxi]
      exact ⟨h1, List.mem_append_left _ hxl, by omega⟩
  · by_cases ho : y ∈ line
    · obtain ⟨_, h2, h3⟩ := h.edge y ho hne
      have h4 := h.first y ho hne x0 hx0
      rw [hold y ho, idx_app h2]
      by_cases hx : x0 ∈ line
      · rw [idx_app hx]; exact h4
      · have := hge x0 hx; omega
    · obtain ⟨_, h2, _⟩ := hnew y hy ho
      rw [h2, idx_app hxl, hxi]
      by_cases hx : x0 ∈ line
      · rw [idx_app hx]
        apply Classical.byContradiction
        intro hlt
        exact ho (h.seen x0 hx (by omega) y hx0)
      · have := hge x0 hx; omega
  · by_cases ho : y ∈ line
    · by_cases ho2 : z ∈ line
      · rw [hold y ho, hold z ho2, idx_app (h.edge y ho hny).2.1, idx_app (h.edge z ho2 hnz).2.1]
        rw [idx_app ho, idx_app ho2] at hle
        exact h.mono y z ho ho2 hny hnz hle
      · obtain ⟨_, h2, _⟩ := hnew z hz ho2
        obtain ⟨_, h3, h4⟩ := h.edge y ho hny
        rw [hold y ho, h2, idx_app h3, idx_app hxl, hxi]
        exact ⟨by omega, fun e => by rw [e, hxi] at h4; omega⟩
    · have h1 := hge y ho
      by_cases ho2 : z ∈ line
      · rw [idx_app ho2] at hle
        have := idx_lt ho2
        omega
      · obtain ⟨_, h2, h3⟩ := hnew y hy ho
        obtain ⟨_, h4, h5⟩ := hnew z hz ho2
        rw [h2, h4]
        refine ⟨Nat.le_refl _, fun _ => ?_⟩
        rw [idx_app_new ho, idx_app_new ho2] at hle
        have hso : (nxs g line x g.length).Pairwise (· < ·) := List.Pairwise.sublist List.filter_sublist List.pairwise_lt_range
        exact idx_sorted hso h3 h5 (by omega)
  · by_cases ho : x0 ∈ line
    · rw [idx_app ho] at hi
      by_cases e : line.idxOf x0 < k
      · exact List.mem_append_left _ (h.seen x0 ho e y hy)
      · have : x0 = x := idx_inj ho hxl (by omega)
        subst this
        by_cases hyl : y ∈ line
        · exact List.mem_append_left _ hyl
        · exact List.mem_append_right _ (nxs_mem.2 ⟨hg x0 y hy, hy, hyl⟩)
    · have := hge x0 ho; omega
theorem Bf.short {g : List (List Nat)} {fr : Nat} {line : List Nat} {bf : Nat → Nat} (h : Bf g fr line bf) : line.length ≤ g.length := by
  have := List.Nodup.length_le_of_subset h.nodup (l₂ := List.range g.length) (fun m hm => List.mem_range.2 (h.lt m hm))
  rw [List.length_range] at this
  exact this
theorem pthS_spec {g : List (List Nat)} (hg : Ok g) {fr t : Nat} : ∀ (f k : Nat) (line : List Nat) (bf : Nat → Nat), Bq g fr line bf k → g.length + 1 ≤ f + k → ∃ k', Bq g fr (pthS g t f k line bf).1 (pthS g t f k line bf).2 k' ∧ (t ∈ (pthS g t f k line bf).1 ∨ k' = (pthS g t f k line bf).1.length)
  | 0, k, line, bf, h, hf => by have := h.le; have := h.bs.short; omega
  | f + 1, k, line, bf, h, hf => by
    by_cases hc : k < line.length ∧ t ∉ line
    · rw [pthS_step hc]
      exact pthS_spec hg f (k + 1) _ _ (h.step hg hc.1) (by omega)
    · rw [pthS_end hc]
      refine ⟨k, h, ?_⟩
      by_cases ht : t ∈ line
      · exact .inl ht
      · exact .inr (by have := h.le; have : ¬ k < line.length := fun q => hc ⟨q, ht⟩; show k = line.length; omega)

/-- Ways, the last edge last. -/
def Wz (g : List (List Nat)) : Nat → Nat → Nat → Prop
  | 0, a, z => z = a
  | m + 1, a, z => ∃ y, Wz g m a y ∧ z ∈ nb g y
theorem Bq.back {g : List (List Nat)} {fr : Nat} {line : List Nat} {bf : Nat → Nat} {k : Nat} (h : Bq g fr line bf k) {y z u : Nat} (hy : y ∈ line) (hn : y ≠ fr) (hz : z ∈ nb g u) (hle : line.idxOf y ≤ line.idxOf z) : line.idxOf (bf y) ≤ line.idxOf u := by
  have hy0 : line.idxOf y ≠ 0 := fun e => hn (idx_inj hy h.bs.fr_mem (by rw [e, h.bs.fr_idx]))
  have hzf : z ≠ fr := fun e => by rw [e, h.bs.fr_idx] at hle; omega
  by_cases hzl : z ∈ line
  · exact Nat.le_trans (h.mono y z hy hzl hn hzf hle).1 (h.first z hzl hzf u hz)
  · have h1 := (h.edge y hy hn).2.2
    by_cases hu : u ∈ line
    · apply Classical.byContradiction
      intro hlt
      exact hzl (h.seen u hu (by omega) z hz)
    · have := List.idxOf_eq_length hu
      have := h.le
      omega
theorem Bq.short {g : List (List Nat)} {fr : Nat} {line : List Nat} {bf : Nat → Nat} {k : Nat} (h : Bq g fr line bf k) : ∀ (m z : Nat), Wz g m fr z → ∀ d y, Back line bf fr d y → line.idxOf y ≤ line.idxOf z → d ≤ m
  | 0, z, hw, d, y, hb, hle => by
    have hw' : z = fr := hw
    rw [hw', h.bs.fr_idx] at hle
    have : y = fr := idx_inj hb.mem h.bs.fr_mem (by rw [h.bs.fr_idx]; omega)
    cases d with
    | zero => exact Nat.le_refl _
    | succ d => exact absurd this hb.1
  | m + 1, z, hw, d, y, hb, hle => by
    cases d with
    | zero => omega
    | succ d =>
      obtain ⟨u, hu, hz⟩ := hw
      have := h.short m u hu d (bf y) hb.2.2 (h.back hb.2.1 hb.1 hz hle)
      omega
/-- What pathM is. -/
theorem path_spec {g : List (List Nat)} (hg : Ok g) {a b : Nat} (ha : a < g.length) :
    (pathM g a b = [] ∧ ∀ m, ¬ Wz g m a b) ∨ ∃ line bf k d, Bq g a line bf k ∧ Back line bf a d b ∧ d ≤ g.length ∧ pathM g a b = (wb bf d b).reverse := by
  obtain ⟨k, hq, hend⟩ := pthS_spec hg (t := b) (g.length + 1) 0 [a] (fun _ => 0) (Bq.start ha _) (by omega)
  unfold pathM
  generalize pthS g b (g.length + 1) 0 [a] (fun _ => 0) = s at hq hend
  by_cases hb : b ∈ s.1
  · right
    have hi := idx_lt hb
    obtain ⟨d, hd, hbk⟩ := hq.bs.back _ hi
    rw [idx_getD hb] at hbk
    have := hq.bs.short
    refine ⟨s.1, s.2, k, d, hq, hbk, by omega, ?_⟩
    show (if b ∈ s.1 then (wbk s.2 a g.length b).reverse else []) = _
    rw [if_pos hb, wbk_wb d g.length b (by omega) hbk]
  · left
    refine ⟨by show (if b ∈ s.1 then (wbk s.2 a g.length b).reverse else []) = _; rw [if_neg hb], ?_⟩
    have hk := hend.resolve_left hb
    have key : ∀ m z, Wz g m a z → z ∈ s.1 := by
      intro m
      induction m with
      | zero => intro z hz; have : z = a := hz; rw [this]; exact hq.bs.fr_mem
      | succ m ih =>
        rintro z ⟨u, hu, hz⟩
        exact hq.seen u (ih u hu) (by rw [hk]; exact idx_lt (ih u hu)) z hz
    exact fun m hm => hb (key m b hm)
/-- A way, written out. -/
structure Way (g : List (List Nat)) (a b d : Nat) (P : List Nat) : Prop where
  len : P.length = d + 1
  head : P.getD 0 0 = a
  last : P.getD d 0 = b
  edge : ∀ i, i < d → P.getD (i + 1) 0 ∈ nb g (P.getD i 0)
theorem snoc_old {P : List Nat} {y i : Nat} (h : i < P.length) : (P ++ [y]).getD i 0 = P.getD i 0 := by
  rw [List.getD_eq_getElem?_getD, List.getElem?_append_left h, List.getD_eq_getElem?_getD]
theorem snoc_new (P : List Nat) (y : Nat) : (P ++ [y]).getD P.length 0 = y := by
  rw [List.getD_eq_getElem?_getD, List.getElem?_append_right (Nat.le_refl _)]
  simp
theorem Bq.way {g : List (List Nat)} {fr : Nat} {line : List Nat} {bf : Nat → Nat} {k : Nat} (h : Bq g fr line bf k) : ∀ (d y : Nat), Back line bf fr d y → Way g fr y d (wb bf d y).reverse
  | 0, y, hb => by
    refine ⟨rfl, ?_, rfl, fun i hi => by omega⟩
    exact hb.1
  | d + 1, y, hb => by
    have ih := h.way d (bf y) hb.2.2
    have e : (wb bf (d + 1) y).reverse = (wb bf d (bf y)).reverse ++ [y] := by
      show (y :: wb bf d (bf y)).reverse = _
      rw [List.reverse_cons]
    rw [e]
    generalize (wb bf d (bf y)).reverse = P at ih
    have hl := ih.len
    refine ⟨by rw [List.length_append, hl]; rfl, ?_, ?_, fun i hi => ?_⟩
    · rw [snoc_old (by omega)]; exact ih.head
    · rw [← hl]; exact snoc_new P y
    · by_cases h1 : i < d
      · rw [snoc_old (by omega), snoc_old (by omega)]
        exact ih.edge i h1
      · obtain rfl : i = d := by omega
        rw [snoc_old (by omega), ih.last, ← hl, snoc_new]
        exact (h.edge y hb.2.1 hb.1).1
theorem Way.to {g : List (List Nat)} {a b d : Nat} {P : List Nat} (h : Way g a b d P) : ∀ i, i ≤ d → Wz g i a (P.getD i 0)
  | 0, _ => h.head
  | i + 1, hi => ⟨P.getD i 0, h.to i (by omega), h.edge i (by omega)⟩
theorem Wz.lt {g : List (List Nat)} (hg : Ok g) {a : Nat} (ha : a < g.length) : ∀ {m z : Nat}, Wz g m a z → z < g.length
  | 0, z, h => by have : z = a := h; omega
  | m + 1, z, ⟨y, _, hz⟩ => hg y z hz
/-- Path's answer between nodes. -/
theorem path_way {g : List (List Nat)} (hg : Ok g) {a b : Nat} (ha : a < g.length) :
    (pathM g a b = [] ∧ ∀ m, ¬ Wz g m a b) ∨ ∃ d, d ≤ g.length ∧ Way g a b d (pathM g a b) ∧ ∀ m, Wz g m a b → d ≤ m := by
  rcases path_spec hg (b := b) ha with h | ⟨line, bf, k, d, hq, hb, hd, e⟩
  · exact .inl h
  · refine .inr ⟨d, hd, by rw [e]; exact hq.way d b hb, fun m hm => hq.short m b hm d b hb (Nat.le_refl _)⟩
theorem Wk.snoc {g : List (List Nat)} {s : Nat → Bool} : ∀ {k a b c : Nat}, Wk g s k a b → c ∈ nb g b → s c = false → Wk g s (k + 1) a c
  | 0, a, b, c, h, hc, hs => by
    obtain ⟨h1, rfl⟩ := h
    exact ⟨h1, c, hc, hs, rfl⟩
  | k + 1, a, b, c, h, hc, hs => by
    obtain ⟨h1, x, hx, hw⟩ := h
    exact ⟨h1, x, hx, hw.snoc hc hs⟩
theorem wz_pth {g : List (List Nat)} {a : Nat} : ∀ {m z : Nat}, Wz g m a z → Pth g noS a z
  | 0, z, h => by have : z = a := h; rw [this]; exact Pth.refl rfl
  | m + 1, z, ⟨y, hy, hz⟩ => by
    obtain ⟨k, hk⟩ := wz_pth hy
    exact ⟨k + 1, hk.snoc hz rfl⟩
theorem wk_wz {g : List (List Nat)} {s : Nat → Bool} {a : Nat} : ∀ {k m x z : Nat}, Wz g m a x → Wk g s k x z → Wz g (m + k) a z
  | 0, m, x, z, h, hw => by obtain ⟨_, rfl⟩ := hw; exact h
  | k + 1, m, x, z, h, hw => by
    obtain ⟨_, y, hy, hw⟩ := hw
    have := wk_wz (m := m + 1) ⟨x, h, hy⟩ hw
    rw [show m + 1 + k = m + (k + 1) by omega] at this
    exact this
theorem pth_wz {g : List (List Nat)} {s : Nat → Bool} {a z : Nat} (h : Pth g s a z) : ∃ m, Wz g m a z := by
  obtain ⟨k, hk⟩ := h
  exact ⟨0 + k, wk_wz (m := 0) rfl hk⟩
end Go.Proofs.YtngdnjlohmkbiaaDoor

namespace Go.Proofs.YtngdnjlohmkbiaaDoor
open Go.RowKit

/-- Ways to a goal, the first edge first. -/
def Wg (g : List (List Nat)) (G : Nat → Bool) : Nat → Nat → Prop
  | 0, y => G y = true
  | m + 1, y => ∃ z, z ∈ nb g y ∧ Wg g G m z
def itr (bf : Nat → Nat) : Nat → Nat → Nat
  | 0, y => y
  | r + 1, y => bf (itr bf r y)
theorem itr_front (bf : Nat → Nat) : ∀ r y, itr bf (r + 1) y = itr bf r (bf y)
  | 0, _ => rfl
  | r + 1, y => by show bf (itr bf (r + 1) y) = bf (itr bf r (bf y)); rw [itr_front bf r y]
theorem back_itr {line : List Nat} {bf : Nat → Nat} {fr : Nat} : ∀ {d y : Nat} (r : Nat), Back line bf fr d y → r ≤ d → Back line bf fr (d - r) (itr bf r y)
  | d, y, 0, h, _ => h
  | 0, y, r + 1, h, hr => by omega
  | d + 1, y, r + 1, h, hr => by
    rw [itr_front, show d + 1 - (r + 1) = d - r by omega]
    exact back_itr r h.2.2 (by omega)
theorem wb_itr (bf : Nat → Nat) : ∀ (d y r : Nat), r ≤ d → (wb bf d y).getD r 0 = itr bf r y
  | 0, y, r, h => by
    obtain rfl : r = 0 := by omega
    rfl
  | d + 1, y, 0, _ => rfl
  | d + 1, y, r + 1, h => by
    rw [itr_front]
    exact wb_itr bf d (bf y) r (by omega)
theorem rev_getD (l : List Nat) {i : Nat} (h : i < l.length) : l.reverse.getD i 0 = l.getD (l.length - 1 - i) 0 := by
  rw [List.getD_eq_getElem?_getD, List.getD_eq_getElem?_getD, List.getElem?_reverse h]
/-- Who has r edges to the end stands in line not before the r-th from the end. -/
theorem Bq.anc {g : List (List Nat)} {fr : Nat} {line : List Nat} {bf : Nat → Nat} {k : Nat} (h : Bq g fr line bf k) {t d : Nat} (hb : Back line bf fr d t) : ∀ (r z : Nat), r ≤ d → Wg g (fun y => y == t) r z → line.idxOf (itr bf r t) ≤ line.idxOf z
  | 0, z, _, hz => by
    have e : z = t := by simpa [Wg] using hz
    rw [e]
    exact Nat.le_refl _
  | r + 1, z, hr, ⟨u, hu, hw⟩ => by
    have ih := h.anc hb r u (by omega) hw
    have hbk := back_itr r hb (by omega)
    rw [show d - r = (d - (r + 1)) + 1 by omega] at hbk
    exact h.back hbk.2.1 hbk.1 hu ih
/-- Of the followers from which the end is as near as can be, the way takes the least. -/
theorem Bq.least {g : List (List Nat)} {fr : Nat} {line : List Nat} {bf : Nat → Nat} {k : Nat} (h : Bq g fr line bf k) {t d : Nat} (hb : Back line bf fr d t) {r b : Nat} (hr : r + 1 ≤ d) (he : b ∈ nb g (itr bf (r + 1) t)) (hw : Wg g (fun y => y == t) r b) : itr bf r t ≤ b := by
  have hle := h.anc hb r b (by omega) hw
  have hbk := back_itr r hb (by omega)
  rw [show d - r = (d - (r + 1)) + 1 by omega] at hbk
  obtain ⟨hn, hm, _⟩ := hbk
  have hpa : itr bf (r + 1) t = bf (itr bf r t) := rfl
  obtain ⟨_, h2, h3⟩ := h.edge _ hm hn
  rw [hpa] at he
  have hbl : b ∈ line := h.seen _ h2 h3 b he
  have hbf : b ≠ fr := fun e => by
    rw [e, h.bs.fr_idx] at hle
    exact hn (idx_inj hm h.bs.fr_mem (by rw [h.bs.fr_idx]; omega))
  have h4 := h.mono _ b hm hbl hn hbf hle
  have h5 := h.first b hbl hbf _ he
  exact h4.2 (idx_inj h2 (h.edge b hbl hbf).2.1 (by omega))
theorem wg_wz {g : List (List Nat)} {t : Nat} : ∀ {m y : Nat}, Wg g (fun y => y == t) m y → Wz g m y t
  | 0, y, h => by have : y = t := by simpa [Wg] using h
                  exact this.symm
  | m + 1, y, ⟨z, hz, hw⟩ => by
    have h1 := wg_wz hw
    have key : ∀ {m x : Nat}, Wz g m z x → Wz g (m + 1) y x := by
      intro m
      induction m with
      | zero => intro x hx; have e : x = z := hx; exact ⟨y, rfl, e ▸ hz⟩
      | succ m ih => rintro x ⟨u, hu, hx⟩; exact ⟨u, ih hu, hx⟩
    exact key h1
theorem wz_wg {g : List (List Nat)} {t a : Nat} : ∀ {m j x : Nat}, Wz g m a x → Wg g (fun y => y == t) j x → Wg g (fun y => y == t) (m + j) a
  | 0, j, x, h, hw => by have e : x = a := h; rw [Nat.zero_add, ← e]; exact hw
  | m + 1, j, x, ⟨y, hy, hx⟩, hw => by
    have := wz_wg (j := j + 1) hy ⟨x, hx, hw⟩
    rw [show m + (j + 1) = m + 1 + j by omega] at this
    exact this
/-- Path's answer. -/
theorem path_least {g : List (List Nat)} (hg : Ok g) {a t : Nat} (ha : a < g.length) :
    (pathM g a t = [] ∧ ∀ m, ¬ Wg g (fun y => y == t) m a) ∨ ∃ d, d ≤ g.length ∧ Way g a t d (pathM g a t) ∧ (∀ m, Wg g (fun y => y == t) m a → d ≤ m) ∧ ∀ i, i < d → ∀ b, b ∈ nb g ((pathM g a t).getD i 0) → Wg g (fun y => y == t) (d - (i + 1)) b → (pathM g a t).getD (i + 1) 0 ≤ b := by
  rcases path_spec hg (b := t) ha with ⟨h1, h2⟩ | ⟨line, bf, k, d, hq, hb, hd, e⟩
  · exact .inl ⟨h1, fun m hm => h2 m (wg_wz hm)⟩
  · refine .inr ⟨d, hd, by rw [e]; exact hq.way d t hb, fun m hm => hq.short m t (wg_wz hm) d t hb (Nat.le_refl _), fun i hi b hbn hw => ?_⟩
    have hP : ∀ s, s ≤ d → (pathM g a t).getD s 0 = itr bf (d - s) t := fun s hs => by
      rw [e, rev_getD _ (by rw [wb_len]; omega), wb_len, show d + 1 - 1 - s = d - s by omega, wb_itr bf d t _ (by omega)]
    rw [hP (i + 1) (by omega)]
    rw [hP i (by omega), show d - i = d - (i + 1) + 1 by omega] at hbn
    exact hq.least hb (by omega) hbn hw

/-- In the midst of the reckoning. -/
structure FarI (g : List (List Nat)) (G : Nat → Bool) (D : Nat → Int) : Prop where
  neg : ∀ y, y < g.length → D y = -1 ∨ 0 ≤ D y
  way : ∀ y, y < g.length → 0 ≤ D y → Wg g G (D y).toNat y
  goal : ∀ y, y < g.length → G y = true → D y = 0
  small : ∀ y, y < g.length → 0 ≤ D y → D y + (un g (fun m => decide (0 ≤ D m)) : Int) < (g.length : Int)
def sumF (f : Nat → Nat) : Nat → Nat
  | 0 => 0
  | n + 1 => sumF f n + f n
theorem sumF_same {f f' : Nat → Nat} {i : Nat} (h : ∀ j, j ≠ i → f' j = f j) : ∀ n, n ≤ i → sumF f' n = sumF f n
  | 0, _ => rfl
  | n + 1, hn => by
    show sumF f' n + f' n = sumF f n + f n
    rw [sumF_same h n (by omega), h n (by omega)]
theorem sumF_less {f f' : Nat → Nat} {i : Nat} (h : ∀ j, j ≠ i → f' j = f j) (hi : f' i < f i) : ∀ n, i < n → sumF f' n < sumF f n
  | 0, hn => by omega
  | n + 1, hn => by
    show sumF f' n + f' n < sumF f n + f n
    by_cases e : n = i
    · subst e; rw [sumF_same h n (Nat.le_refl _)]; omega
    · have := sumF_less h hi n (by omega)
      rw [h n e]; omega
def mu (N : Nat) (D : Nat → Int) : Nat := sumF (fun y => if D y < 0 then N + 1 else (D y).toNat) N
def setD (D : Nat → Int) (i : Nat) (x : Int) : Nat → Int := fun y => if y = i then x else D y
theorem FarI.step {g : List (List Nat)} {G : Nat → Bool} {D : Nat → Int} (h : FarI g G D) {i z : Nat} (hi : i < g.length) (hz : z ∈ nb g i) (hzl : z < g.length) (h0 : 0 ≤ D z) (hc : D i < 0 ∨ D z + 1 < D i) : FarI g G (setD D i (D z + 1)) ∧ mu g.length (setD D i (D z + 1)) < mu g.length D := by
  have hzs := h.small z hzl h0
  have hGi : ¬ G i = true := fun e => by
    have := h.goal i hi e
    omega
  have hun : (un g (fun m => decide (0 ≤ setD D i (D z + 1) m)) : Int) ≤ (un g (fun m => decide (0 ≤ D m)) : Int) ∧ (D i < 0 → (un g (fun m => decide (0 ≤ setD D i (D z + 1) m)) : Int) + 1 = (un g (fun m => decide (0 ≤ D m)) : Int)) := by
    have e : (fun m => decide (0 ≤ setD D i (D z + 1) m)) = ins (fun m => decide (0 ≤ D m)) i := by
      funext m
      unfold setD ins
      by_cases e : m = i
      · subst e
        have : (0 : Int) ≤ D z + 1 := by omega
        simp [this]
      · simp [e]
    rw [e]
    refine ⟨?_, fun hn => ?_⟩
    · have := un_mono g (fun m => decide (0 ≤ D m)) (ins (fun m => decide (0 ≤ D m)) i) (fun m hm => by unfold ins; have hm' : decide (0 ≤ D m) = true := hm; simp only [hm', Bool.true_or])
      omega
    · have := un_ins g (fun m => decide (0 ≤ D m)) i (decide_eq_false (by omega)) hi
      omega
  refine ⟨⟨fun y hy => ?_, fun y hy hp => ?_, fun y hy hG => ?_, fun y hy hp => ?_⟩, ?_⟩
  · unfold setD
    by_cases e : y = i
    · rw [if_pos e]; right; omega
    · rw [if_neg e]; exact h.neg y hy
  · unfold setD at hp ⊢
    by_cases e : y = i
    · rw [if_pos e, e, show (D z + 1).toNat = (D z).toNat + 1 by omega]
      exact ⟨z, hz, h.way z hzl h0⟩
    · rw [if_neg e] at hp ⊢
      exact h.way y hy hp
  · have e : y ≠ i := fun e => hGi (e ▸ hG)
    unfold setD
    rw [if_neg e]
    exact h.goal y hy hG
  · by_cases e : y = i
    · have e2 : setD D i (D z + 1) y = D z + 1 := by unfold setD; rw [if_pos e]
      rw [e2]
      rcases h.neg i hi with h1 | h1
      · have := hun.2 (by omega); omega
      · have := h.small i hi h1
        have := hun.1
        omega
    · have e2 : setD D i (D z + 1) y = D y := by unfold setD; rw [if_neg e]
      rw [e2] at hp ⊢
      have := h.small y hy hp
      have := hun.1
      omega
  · unfold mu
    refine sumF_less (i := i) (fun j hj => ?_) ?_ _ hi
    · show (if setD D i (D z + 1) j < 0 then g.length + 1 else (setD D i (D z + 1) j).toNat) = _
      unfold setD
      simp only [hj, if_false]
    · show (if setD D i (D z + 1) i < 0 then g.length + 1 else (setD D i (D z + 1) i).toNat) < (if D i < 0 then g.length + 1 else (D i).toNat)
      unfold setD
      simp only [if_true]
      rw [if_neg (by omega)]
      by_cases e : D i < 0
      · rw [if_pos e]; omega
      · rw [if_neg e]; omega
/-- Nothing to be done at an edge. -/
def Stil (D : Nat → Int) (i z : Nat) : Prop := 0 ≤ D z → 0 ≤ D i ∧ D i ≤ D z + 1
/-- How far each node is. -/
structure Dist (g : List (List Nat)) (G : Nat → Bool) (D : Nat → Int) : Prop where
  far : FarI g G D
  still : ∀ i, i < g.length → ∀ z, z ∈ nb g i → Stil D i z
theorem Dist.le {g : List (List Nat)} (hg : Ok g) {G : Nat → Bool} {D : Nat → Int} (h : Dist g G D) : ∀ (m y : Nat), y < g.length → Wg g G m y → 0 ≤ D y ∧ D y ≤ (m : Int)
  | 0, y, hy, hw => by have := h.far.goal y hy hw; omega
  | m + 1, y, hy, ⟨z, hz, hw⟩ => by
    have h1 := h.le hg m z (hg y z hz) hw
    have h2 := h.still y hy z hz h1.1
    omega
theorem Dist.eq {g : List (List Nat)} (hg : Ok g) {G : Nat → Bool} {D : Nat → Int} (h : Dist g G D) {y d : Nat} (hy : y < g.length) (hw : Wg g G d y) (hm : ∀ m, Wg g G m y → d ≤ m) : D y = (d : Int) := by
  have h1 := h.le hg d y hy hw
  have h2 := hm _ (h.far.way y hy h1.1)
  omega
/-- What Walk walks by: at each step of the way the least follower that is one nearer is the way's next. -/
theorem walk_step {g : List (List Nat)} (hg : Ok g) {a t d : Nat} (ha : a < g.length) {P : List Nat} {D : Nat → Int} (hD : Dist g (fun y => y == t) D) (hw : Way g a t d P) (hs : ∀ m, Wg g (fun y => y == t) m a → d ≤ m) : ∀ i, i ≤ d → P.getD i 0 < g.length ∧ D (P.getD i 0) = ((d - i : Nat) : Int) := by
  intro i hi
  have h1 := hw.to i hi
  have hl := h1.lt hg ha
  refine ⟨hl, ?_⟩
  have key : ∀ j, j ≤ d → Wg g (fun y => y == t) j (P.getD (d - j) 0) := by
    intro j
    induction j with
    | zero => intro _; rw [Nat.sub_zero, hw.last]; show (t == t) = true; simp
    | succ j ih =>
      intro hj
      have h2 := hw.edge (d - (j + 1)) (by omega)
      rw [show d - (j + 1) + 1 = d - j by omega] at h2
      exact ⟨_, h2, ih (by omega)⟩
  have h3 := key (d - i) (by omega)
  rw [show d - (d - i) = i by omega] at h3
  refine hD.eq hg hl h3 (fun m hm => ?_)
  have := hs _ (wz_wg h1 hm)
  omega
end Go.Proofs.YtngdnjlohmkbiaaDoor

namespace Go.Proofs.YtngdnjlohmkbiaaDoor
open Go.RowKit

/-- Whole numbers in a row. -/
def nuI (D : Nat → Int) (i : Nat) : Value := .int .i64 (D i)
theorem nuI_put {w : World} {base p n : Nat} {D : Nat → Int} (h : RowAt w base p n 3 (nuI D)) (i : Nat) (x : Int) : RowAt (w.setCell ⟨p, i, none⟩ (.int .i64 x)) base p n 3 (nuI (setD D i x)) :=
  (h.put i (.int .i64 x)).congr (fun j _ => by unfold nuI setD; by_cases e : j = i <;> simp [e])
theorem cell_kept3 {w w' : World} {p : Addr} {v : Value} (k : Keeps [] w w') (h : w.cell? p = some v) : w'.cell? p = some v := by
  rw [k.cell (block_lt_of_cell h) (by simp)]
  exact h
theorem un_less {g : List (List Nat)} {s : Nat → Bool} {y : Nat} (hy : y < g.length) (h : s y = true) : un g s < g.length := by
  have e : s = ins (fun m => s m && !(m == y)) y := by
    funext m
    unfold ins
    by_cases e : m = y
    · subst e; simp [h]
    · have e2 : (m == y) = false := by simp [e]
      simp only [e2, Bool.not_false, Bool.and_true, Bool.or_false]
  have h1 := un_ins g (fun m => s m && !(m == y)) y (by simp) hy
  rw [← e] at h1
  have := un_le g (fun m => s m && !(m == y))
  omega
/-- The beginning. -/
def far0 (G : Nat → Bool) (i : Nat) : Int := if G i = true then 0 else -1
theorem far0_far (g : List (List Nat)) (G : Nat → Bool) : FarI g G (far0 G) := by
  refine ⟨fun y _ => ?_, fun y _ h => ?_, fun y _ h => by unfold far0; rw [if_pos h], fun y hy h => ?_⟩
  · unfold far0
    by_cases e : G y = true
    · rw [if_pos e]; right; omega
    · rw [if_neg e]; exact .inl rfl
  · unfold far0 at h ⊢
    by_cases e : G y = true
    · rw [if_pos e]; exact e
    · rw [if_neg e] at h; omega
  · have e : far0 G y = 0 := by
      unfold far0 at h ⊢
      by_cases e : G y = true
      · rw [if_pos e]
      · rw [if_neg e] at h; omega
    have := un_less (g := g) (s := fun m => decide (0 ≤ far0 G m)) hy (decide_eq_true h)
    omega

set_option maxRecDepth 20000 in
set_option maxHeartbeats 8000000 in
theorem rfar_any (g : List (List Nat)) (hs : Sm g) (a : Option Addr) (cap B : Nat) (w : World) (hG : GAt w B a g) (pg : Nat) (G : Nat → Bool) (hg : ∀ i, i < g.length → w.cell? ⟨pg, i, none⟩ = some (.bool (G i))) :
    Calls Tryd.prog 45 #[.slice a g.length cap, .slice (some ⟨pg, 0, none⟩) g.length g.length] w fun e w' => ∃ pd, e = .returned (.slice (some ⟨pd, 0, none⟩) g.length g.length) ∧ ∃ D, RowAt w' w.heap.size pd g.length 3 (nuI D) ∧ Dist g G D ∧ Keeps [] w w' := by
  have HS := hid hs
  have HG := hid hG
  have HGL := hid hg
  have hg6 := hs.len
  obtain ⟨N, hN⟩ : ∃ N, g.length = N := ⟨_, rfl⟩
  have HN := hid hN
  rw [hN] at HGL hg6 ⊢
  clear hs hG hg hN
  have hww : w.heap.size ≤ w.heap.size := Nat.le_refl _
  go_enter Tryd.func45, Tryd.ntmps45
  go_wp2_with (at_make; go_must (refine wpList_make_full _ rfl _ _ 23 rfl w.heap.size 3 Tryd.t3 (.int .i64 0) 1 under_ints info_int zero_int size_int .i64 .i64 _ _ N rfl rfl rfl rfl (by rw [bytes_int]; omega) (by unfold maxLen; omega) hww ?_; intro w2 hown2 hgrow2))
  have K2 : Box (Keeps [] w w2) := hid (Keeps.grown [] hgrow2 (by simp))
  have R2 : Box (RowAt w2 w.heap.size w.heap.size N 3 (nuI fun i => if i < 0 then far0 G i else 0)) := hid ((RowAt.made hown2 rfl).congr (fun i _ => by unfold nuI; simp))
  clear hown2 hgrow2 hww
  obtain ⟨pd, hpd⟩ : ∃ pd, w.heap.size = pd := ⟨_, rfl⟩
  have HPD := hid hpd
  rw [hpd] at R2 ⊢
  clear hpd
  have HKS : Box (∀ (wz : World) (i : Nat) (x : Int), Keeps [] w wz → Keeps [] w (wz.setCell ⟨pd, i, none⟩ (.int .i64 x))) := hid (fun wz i x kz => kz.fresh (Keeps.setCell [pd] wz ⟨pd, i, none⟩ (.int .i64 x) (by simp)) (fun y hy => by simp at hy; have := HPD.out; omega))
  go_loopw [6] (fun iv wr => ∃ k : Nat, iv = .int .i64 (k : Int) ∧ k ≤ N ∧ Box (RowAt wr pd pd N 3 (nuI fun i => if i < k then far0 G i else 0)) ∧ Box (Keeps [] w wr)) (fun iv _ => N - (intOf iv).toNat)
  case atStart => exact ⟨0, rfl, by omega, R2, K2⟩
  case round =>
    clear R2 K2
    obtain ⟨k, rfl, hk, HR, HK⟩ := hrel
    by_cases hlt : k < N
    · have hlt' : (k : Int) < (N : Int) := by omega
      have cr := HR.out.cell hlt
      have fr := HR.out.frozen k
      have HR1 := hid (nuI_put HR.out k (-1))
      have HK1 := hid (HKS.out wr k (-1) HK.out)
      have cg := cell_kept3 HK1.out (HGL.out k hlt)
      have cr1 := HR1.out.cell hlt
      have fr1 := HR1.out.frozen k
      clear HR HK
      cases hGk : G k with
      | false =>
        rw [hGk] at cg
        have HR2 : Box (RowAt (wr.setCell ⟨pd, k, none⟩ (.int .i64 (-1))) pd pd N 3 (nuI fun i => if i < k + 1 then far0 G i else 0)) := hid (HR1.out.congr (fun i _ => by
          unfold nuI setD
          by_cases e : i = k
          · subst e; simp [far0, hGk]
          · have : i < k + 1 ↔ i < k := by omega
            simp only [e, if_false, this]))
        clear hGk HR1 cr1 fr1
        go_wp2
        go_roundw
        case rel => exact ⟨k + 1, by go_num, by omega, HR2, HK1⟩
        case measure => simp [intOf]; omega
      | true =>
        rw [hGk] at cg
        have HR2 : Box (RowAt ((wr.setCell ⟨pd, k, none⟩ (.int .i64 (-1))).setCell ⟨pd, k, none⟩ (.int .i64 0)) pd pd N 3 (nuI fun i => if i < k + 1 then far0 G i else 0)) := hid ((nuI_put HR1.out k 0).congr (fun i _ => by
          unfold nuI setD
          by_cases e : i = k
          · subst e; simp [far0, hGk]
          · have : i < k + 1 ↔ i < k := by omega
            simp only [e, if_false, this]))
        have HK2 := hid (HKS.out _ k 0 HK1.out)
        go_upto_region 6 with fail
        clear cr fr hGk HR1 HK1
        generalize wr.setCell ⟨pd, k, none⟩ (.int .i64 (-1)) = w3 at cg cr1 fr1 HR2 HK2 ⊢
        go_wp2
        go_roundw
        case rel => exact ⟨k + 1, by go_num, by omega, HR2, HK2⟩
        case measure => simp [intOf]; omega
    · obtain rfl : k = N := by omega
      have R3 : Box (RowAt wr pd pd k 3 (nuI (far0 G))) := hid (HR.out.congr (fun i hi => by unfold nuI; simp only [hi, if_true]))
      have F3 := hid (far0_far g G)
      clear HR HGL
      go_wp2_with fail
      go_loopg [7] (2 * mu k (far0 G) + 1) (fun q tv wr => ∃ (t : Bool) (D : Nat → Int), tv = .bool t ∧ 2 * mu k D + t.toNat ≤ q ∧ Box (RowAt wr pd pd k 3 (nuI D)) ∧ Box (FarI g G D) ∧ Box (t = false → ∀ i, i < k → ∀ z, z ∈ nb g i → Stil D i z) ∧ Box (Keeps [] w wr))
      case atStart => exact ⟨true, far0 G, rfl, by simp, R3, F3, hid (fun h => by cases h), HK⟩
      case round =>
        clear R3 F3 HK
        obtain ⟨t, D, rfl, hq, HR, HF, HST, HK⟩ := hrel
        cases t with
        | false =>
          go_wp2
          go_ret
          exact ⟨pd, rfl, D, HR.out.base (Nat.le_of_eq HPD.out), ⟨HF.out, fun j hj => HST.out trivial j (by rw [← HN.out]; exact hj)⟩, HK.out⟩
        | true =>
          clear HST
          have hq2 : 2 * mu k D + 1 ≤ gk := hq
          clear hq
          have M0 : Box (mu k D ≤ mu k D ∧ (false = true → mu k D < mu k D)) := hid ⟨Nat.le_refl _, fun h => by cases h⟩
          have HD := hid hq2
          clear hq2
          go_wp2_with fail
          go_loopw [7, 8] (fun tv iv wr => ∃ (i : Nat) (t : Bool) (D' : Nat → Int), tv = .bool t ∧ iv = .int .i64 (i : Int) ∧ i ≤ k ∧ Box (RowAt wr pd pd k 3 (nuI D')) ∧ Box (FarI g G D') ∧ Box (mu k D' ≤ mu k D ∧ (t = true → mu k D' < mu k D)) ∧ Box (t = false → ∀ j, j < i → ∀ z, z ∈ nb g j → Stil D' j z) ∧ Box (Keeps [] w wr)) (fun _ iv _ => k - (intOf iv).toNat)
          case atStart => exact ⟨0, false, D, rfl, rfl, by omega, HR, HF, M0, hid (fun _ j hj => by omega), HK⟩
          case round =>
            clear HR HF M0 HK
            obtain ⟨i, t, D1, rfl, rfl, hi, HR, HF, HM, HST, HK⟩ := hrel
            by_cases hlt : i < k
            · have hlt' : (i : Int) < (k : Int) := by omega
              have hsh := HS.out.short i
              obtain ⟨nl, hnl⟩ : ∃ nl, (nb g i).length = nl := ⟨_, rfl⟩
              have HNL := hid hnl
              rw [hnl] at hsh
              clear hnl
              have S0 : Box (t = false → (∀ j, j < i → ∀ z, z ∈ nb g j → Stil D1 j z) ∧ ∀ m, m < 0 → Stil D1 i ((nb g i).getD m 0)) := hid (fun h => ⟨HST.out h, fun m hm => by omega⟩)
              clear HST
              go_wp2_with fail
              go_loopw [7, 9] (fun tv mv wr => ∃ (m : Nat) (t : Bool) (D' : Nat → Int), tv = .bool t ∧ mv = .int .i64 (m : Int) ∧ m ≤ nl ∧ Box (RowAt wr pd pd k 3 (nuI D')) ∧ Box (FarI g G D') ∧ Box (mu k D' ≤ mu k D ∧ (t = true → mu k D' < mu k D)) ∧ Box (t = false → (∀ j, j < i → ∀ z, z ∈ nb g j → Stil D' j z) ∧ ∀ c, c < m → Stil D' i ((nb g i).getD c 0)) ∧ Box (Keeps [] w wr)) (fun _ mv _ => nl - (intOf mv).toNat)
              case atStart => exact ⟨0, t, D1, rfl, rfl, by omega, HR, HF, HM, S0, HK⟩
              case round =>
                clear HR HF HM S0 HK
                obtain ⟨m, t, D2, rfl, rfl, hm, HR, HF, HM, HST, HK⟩ := hrel
                obtain ⟨bl, ol, al, cp, hal, hcl, hnl⟩ := (HG.out.quiet HK.out).at (k := i) (by rw [HN.out]; exact hlt)
                subst hal
                rw [HNL.out] at hcl
                by_cases hlm : m < nl
                · have hlm' : (m : Int) < (nl : Int) := by omega
                  obtain ⟨bn, on, rfl, hcn⟩ := hnl.at (k := m) (by rw [HNL.out]; exact hlm)
                  have hmem : (nb g i).getD m 0 ∈ nb g i := getD_mem _ _ _ (by rw [HNL.out]; exact hlm)
                  have hzk : (nb g i).getD m 0 < k := by rw [← HN.out]; exact HS.out.ok i _ hmem
                  have HNX : Box (∀ D', (∀ c, c < m → Stil D' i ((nb g i).getD c 0)) → Stil D' i ((nb g i).getD m 0) → ∀ c, c < m + 1 → Stil D' i ((nb g i).getD c 0)) := hid (fun D' h1 h2 c hc => by
                    by_cases e : c = m
                    · rw [e]; exact h2
                    · exact h1 c (by omega))
                  generalize (nb g i).getD m 0 = z at hcn hmem hzk HNX
                  have hzk' : (z : Int) < (k : Int) := by omega
                  have cz := HR.out.cell hzk
                  have ci := HR.out.cell hlt
                  have fi := HR.out.frozen i
                  unfold nuI at cz ci
                  have hzs : 0 ≤ D2 z → D2 z < 600 := fun h => by
                    have := HF.out.small z (by rw [HN.out]; exact hzk) h
                    have := HN.out
                    omega
                  have HPUT : Box ((D2 i < 0 ∨ D2 z + 1 < D2 i) → 0 ≤ D2 z → FarI g G (setD D2 i (D2 z + 1)) ∧ mu k (setD D2 i (D2 z + 1)) < mu k D2) := hid (fun hc h0 => by
                    have := HF.out.step (i := i) (z := z) (by rw [HN.out]; exact hlt) hmem (by rw [HN.out]; exact hzk) h0 hc
                    rw [HN.out] at this
                    exact this)
                  have HR2 := hid (nuI_put HR.out i (D2 z + 1))
                  have HK2 := hid (HKS.out wr i (D2 z + 1) HK.out)
                  have HSK : Box (Stil D2 i z → t = false → (∀ j, j < i → ∀ z, z ∈ nb g j → Stil D2 j z) ∧ ∀ c, c < m + 1 → Stil D2 i ((nb g i).getD c 0)) := hid (fun h1 h2 => ⟨(HST.out h2).1, HNX.out D2 (HST.out h2).2 h1⟩)
                  unfold Stil at HSK
                  clear hmem hnl HNX HST
                  by_cases h0 : 0 ≤ D2 z
                  · have hz6 := hzs h0
                    by_cases h1 : D2 i < 0
                    · have hP := HPUT.out (.inl h1) h0
                      have F2 := hid hP.1
                      have M2 : Box (mu k (setD D2 i (D2 z + 1)) ≤ mu k D ∧ (true = true → mu k (setD D2 i (D2 z + 1)) < mu k D)) := hid (by have := HM.out.1; have := hP.2; exact ⟨by omega, fun _ => by omega⟩)
                      clear hP HPUT HSK hzs HR HK HF HM
                      generalize D2 z = bz at cz h0 hz6 HR2 HK2 F2 M2
                      generalize D2 i = bi at ci h1
                      go_wp2
                      go_roundw
                      case rel => exact ⟨m + 1, true, _, rfl, by go_num, by omega, HR2, F2, M2, hid (fun h => by cases h), HK2⟩
                      case measure => simp [intOf]; omega
                    · by_cases h2 : D2 z + 1 < D2 i
                      · have hP := HPUT.out (.inr h2) h0
                        have F2 := hid hP.1
                        have M2 : Box (mu k (setD D2 i (D2 z + 1)) ≤ mu k D ∧ (true = true → mu k (setD D2 i (D2 z + 1)) < mu k D)) := hid (by have := HM.out.1; have := hP.2; exact ⟨by omega, fun _ => by omega⟩)
                        clear hP HPUT HSK hzs HR HK HF HM
                        generalize D2 z = bz at cz h0 hz6 HR2 HK2 F2 M2 h2
                        generalize D2 i = bi at ci h1 h2
                        go_wp2
                        go_roundw
                        case rel => exact ⟨m + 1, true, _, rfl, by go_num, by omega, HR2, F2, M2, hid (fun h => by cases h), HK2⟩
                        case measure => simp [intOf]; omega
                      · have S2 := hid (HSK.out (fun _ => ⟨by omega, by omega⟩))
                        clear HPUT HSK hzs HR2 HK2
                        obtain ⟨bz, hbz⟩ : ∃ bz, D2 z = bz := ⟨_, rfl⟩
                        obtain ⟨bi, hbi⟩ : ∃ bi, D2 i = bi := ⟨_, rfl⟩
                        rw [hbz] at cz h0 hz6 h2
                        rw [hbi] at ci h1 h2
                        clear hbz hbi
                        go_wp2
                        go_roundw
                        case rel => exact ⟨m + 1, t, D2, rfl, by go_num, by omega, HR, HF, HM, S2, HK⟩
                        case measure => simp [intOf]; omega
                  · have S2 := hid (HSK.out (fun h => absurd h h0))
                    clear HPUT HSK hzs HR2 HK2
                    obtain ⟨bz, hbz⟩ : ∃ bz, D2 z = bz := ⟨_, rfl⟩
                    rw [hbz] at cz h0
                    clear hbz
                    go_wp2
                    go_roundw
                    case rel => exact ⟨m + 1, t, D2, rfl, by go_num, by omega, HR, HF, HM, S2, HK⟩
                    case measure => simp [intOf]; omega
                · obtain rfl : m = nl := by omega
                  have S2 : Box (t = false → ∀ j, j < i + 1 → ∀ z, z ∈ nb g j → Stil D2 j z) := hid (fun h j hj z hz => by
                    by_cases e : j = i
                    · subst e
                      obtain ⟨c, hc, e4⟩ := List.getElem_of_mem hz
                      have h5 := (HST.out h).2 c (by rw [← HNL.out]; exact hc)
                      rw [List.getD_eq_getElem?_getD, List.getElem?_eq_getElem hc, Option.getD_some, e4] at h5
                      exact h5
                    · exact (HST.out h).1 j (by omega) z hz)
                  clear HST hnl
                  go_wp2
                  go_roundw
                  case rel => exact ⟨i + 1, t, D2, rfl, by go_num, by omega, HR, HF, HM, S2, HK⟩
                  case measure => simp [intOf]; omega
            · obtain rfl : i = k := by omega
              have hM := HM.out
              have hD := HD.out
              have hlt2 : 2 * mu i D1 + t.toNat < gk := by
                cases t with
                | false => show 2 * mu i D1 + 0 < gk; omega
                | true => have := hM.2 rfl; show 2 * mu i D1 + 1 < gk; omega
              have HLT := hid hlt2
              clear hM hD hlt2
              go_wp2_with fail
              go_roundg (2 * mu i D1 + t.toNat)
              case measure => exact HLT.out
              case rel => exact ⟨t, D1, rfl, Nat.le_refl _, HR, HF, HST, HK⟩
end Go.Proofs.YtngdnjlohmkbiaaDoor

namespace Go.Proofs.YtngdnjlohmkbiaaDoor
open Go.RowKit

set_option maxHeartbeats 2000000 in
theorem path_out1 (g : List (List Nat)) (hs : Sm g) (a : Option Addr) (cap B : Nat) (fr t : Int) (w : World) (hG : GAt w B a g) (hn : ¬ (0 ≤ fr ∧ fr < (g.length : Int))) :
    Calls Tryd.prog 21 #[.agg #[.int .i64 (g.length : Int), .slice a g.length cap], .int .i64 fr, .int .i64 t] w fun e w' => e = .returned (.slice none 0 0) ∧ Keeps [] w w' := by
  have hk1 : Keeps [] w (w.alloc (Obj.cells #[.int .i64 (g.length : Int), .slice a g.length cap] 27)) := Keeps.alloc _ _ _
  have HB1 := hid (BoxAt.new w (g.length : Int) a g.length cap)
  have HG1 := hid (hG.quiet hk1)
  have HC : Box (∀ w, GAt w B a g → Calls Tryd.prog 24 #[.agg #[.int .i64 (g.length : Int), .slice a g.length cap]] w fun e w' => e = .returned (.bool true) ∧ Keeps [] w w') := hid (fun w => gmay_yes g hs a cap B w)
  have H1 := hid (fun w1 => ghas_no (g.length : Int) fr a g.length cap w1 hn)
  clear hG hs hn
  go_enter Tryd.func21, Tryd.ntmps21
  go_wp2_with fail
  generalize w.alloc (Obj.cells #[.int .i64 (g.length : Int), .slice a g.length cap] 27) = w1 at hk1 HB1 HG1 ⊢
  refine (HC.out w1 HG1.out).mono ?_
  rintro e w2 ⟨rfl, hk2⟩
  have HB2 := HB1.out.kept hk2 (by simp)
  have hc0 := HB2.c0
  have hc1 := HB2.c1
  clear HB2 HB1 HG1 HC
  go_wp2_with fail
  refine (H1.out w2).mono ?_
  rintro e w3 ⟨rfl, hk3⟩
  go_wp2
  go_ret
  exact ⟨rfl, (hk1.quiet hk2).quiet hk3⟩

set_option maxHeartbeats 2000000 in
theorem path_out2 (g : List (List Nat)) (hs : Sm g) (a : Option Addr) (cap B : Nat) (fr t : Int) (w : World) (hG : GAt w B a g) (hf : 0 ≤ fr ∧ fr < (g.length : Int)) (hn : ¬ (0 ≤ t ∧ t < (g.length : Int))) :
    Calls Tryd.prog 21 #[.agg #[.int .i64 (g.length : Int), .slice a g.length cap], .int .i64 fr, .int .i64 t] w fun e w' => e = .returned (.slice none 0 0) ∧ Keeps [] w w' := by
  have hk1 : Keeps [] w (w.alloc (Obj.cells #[.int .i64 (g.length : Int), .slice a g.length cap] 27)) := Keeps.alloc _ _ _
  have HB1 := hid (BoxAt.new w (g.length : Int) a g.length cap)
  have HG1 := hid (hG.quiet hk1)
  have HC : Box (∀ w, GAt w B a g → Calls Tryd.prog 24 #[.agg #[.int .i64 (g.length : Int), .slice a g.length cap]] w fun e w' => e = .returned (.bool true) ∧ Keeps [] w w') := hid (fun w => gmay_yes g hs a cap B w)
  have H1 := hid (fun w1 => ghas_yes (g.length : Int) fr a g.length cap w1 hf.1 hf.2)
  have H2 := hid (fun w1 => ghas_no (g.length : Int) t a g.length cap w1 hn)
  clear hG hs hn hf
  go_enter Tryd.func21, Tryd.ntmps21
  go_wp2_with fail
  generalize w.alloc (Obj.cells #[.int .i64 (g.length : Int), .slice a g.length cap] 27) = w1 at hk1 HB1 HG1 ⊢
  refine (HC.out w1 HG1.out).mono ?_
  rintro e w2 ⟨rfl, hk2⟩
  have HB2 := hid (HB1.out.kept hk2 (by simp))
  have hc0 := HB2.out.c0
  have hc1 := HB2.out.c1
  clear HB1 HG1 HC
  go_wp2_with fail
  refine (H1.out w2).mono ?_
  rintro e w3 ⟨rfl, hk3⟩
  have HB3 := HB2.out.kept hk3 (by simp)
  clear hc0 hc1 HB2
  have hc0 := HB3.c0
  have hc1 := HB3.c1
  clear HB3
  go_wp2_with fail
  refine (H2.out w3).mono ?_
  rintro e w4 ⟨rfl, hk4⟩
  go_wp2
  go_ret
  exact ⟨rfl, ((hk1.quiet hk2).quiet hk3).quiet hk4⟩

/-- Path from a node to any number: what it leaves. -/
theorem path_quiet (g : List (List Nat)) (hs : Sm g) (a : Option Addr) (cap B fr : Nat) (t : Int) (w : World) (hG : GAt w B a g) (hT : TabAt w) (hf : fr < g.length) :
    Calls Tryd.prog 21 #[.agg #[.int .i64 (g.length : Int), .slice a g.length cap], .int .i64 (fr : Int), .int .i64 t] w fun e w' => (∃ v, e = .returned v) ∧ Keeps [] w w' := by
  by_cases h : 0 ≤ t ∧ t < (g.length : Int)
  · obtain ⟨m, rfl⟩ := Int.eq_ofNat_of_zero_le h.1
    refine (path_in g hs a cap B fr m w hG hT hf (by omega)).mono ?_
    rintro e w' ⟨v, rfl, _, k⟩
    exact ⟨⟨v, rfl⟩, k⟩
  · refine (path_out2 g hs a cap B fr t w hG (by omega) h).mono ?_
    rintro e w' ⟨rfl, k⟩
    exact ⟨⟨_, rfl⟩, k⟩
theorem order_quiet (g : List (List Nat)) (hs : Sm g) (a : Option Addr) (cap B : Nat) (t : Int) (w : World) (hG : GAt w B a g) (hB : B ≤ w.heap.size) :
    Calls Tryd.prog 27 #[.agg #[.int .i64 (g.length : Int), .slice a g.length cap], .int .i64 t] w fun e w' => (∃ v, e = .returned v) ∧ Keeps [] w w' := by
  by_cases h : 0 ≤ t ∧ t < (g.length : Int)
  · obtain ⟨m, rfl⟩ := Int.eq_ofNat_of_zero_le h.1
    refine (order_in g hs a cap B m w hG hB (by omega)).mono ?_
    rintro e w' ⟨v, rfl, _, k⟩
    exact ⟨⟨v, rfl⟩, k⟩
  · refine (order_out g hs a cap B t w hG h).mono ?_
    rintro e w' ⟨rfl, k⟩
    exact ⟨⟨_, rfl⟩, k⟩
end Go.Proofs.YtngdnjlohmkbiaaDoor

namespace Go.Proofs.YtngdnjlohmkbiaaDoor
open Go.RowKit

/-- The least follower so far. -/
def Nx (g : List (List Nat)) (D : Nat → Int) (x e k : Nat) (nx : Int) : Prop :=
  (nx = -1 ∧ ∀ c, c < k → D ((nb g x).getD c 0) ≠ (e : Int)) ∨ ∃ b : Nat, nx = (b : Int) ∧ b ∈ nb g x ∧ D b = (e : Int) ∧ ∀ c, c < k → D ((nb g x).getD c 0) = (e : Int) → b ≤ (nb g x).getD c 0
theorem Nx.done {g : List (List Nat)} {D : Nat → Int} {x e : Nat} {nx : Int} (h : Nx g D x e (nb g x).length nx) {y : Nat} (hy : y ∈ nb g x) (hD : D y = (e : Int)) (hl : ∀ b, b ∈ nb g x → D b = (e : Int) → y ≤ b) : nx = (y : Int) := by
  obtain ⟨c, hc, e4⟩ := List.getElem_of_mem hy
  have e5 : (nb g x).getD c 0 = y := by rw [List.getD_eq_getElem?_getD, List.getElem?_eq_getElem hc]; exact e4
  rcases h with ⟨_, h2⟩ | ⟨b, h1, h2, h3, h4⟩
  · exact absurd (by rw [e5]; exact hD) (h2 c hc)
  · have h5 := h4 c hc (by rw [e5]; exact hD)
    have h6 := hl b h2 h3
    rw [e5] at h5
    rw [h1]; omega

set_option maxRecDepth 20000 in
set_option maxHeartbeats 8000000 in
theorem rwalk_yes (g : List (List Nat)) (hs : Sm g) (a : Option Addr) (cap B : Nat) (w : World) (hG : GAt w B a g) (pd : Nat) (D : Nat → Int) (hd : ∀ i, i < g.length → w.cell? ⟨pd, i, none⟩ = some (.int .i64 (D i))) (fr t d : Nat) (P : List Nat) (hW : Way g fr t d P) (hd6 : d ≤ 600)
    (hV : ∀ i, i ≤ d → P.getD i 0 < g.length ∧ D (P.getD i 0) = ((d - i : Nat) : Int))
    (hL : ∀ i, i < d → ∀ b, b ∈ nb g (P.getD i 0) → D b = ((d - (i + 1) : Nat) : Int) → P.getD (i + 1) 0 ≤ b) :
    Calls Tryd.prog 44 #[.slice a g.length cap, .int .i64 (fr : Int), .slice (some ⟨pd, 0, none⟩) g.length g.length] w fun e w' => ∃ v, e = .returned v ∧ w'.ownsRow w.heap.size 3 1 v P.length (ints P) ∧ Keeps [] w w' := by
  have HS := hid hs
  have HG := hid hG
  have HDC := hid hd
  have HW := hid hW
  have HV := hid hV
  have HL := hid hL
  have hg6 := hs.len
  obtain ⟨N, hN⟩ : ∃ N, g.length = N := ⟨_, rfl⟩
  have HN := hid hN
  have hv0 := hV 0 (by omega)
  rw [hW.head] at hv0
  rw [hN] at HDC HV hg6 hv0 ⊢
  have hfN := hv0.1
  have hfN' : (fr : Int) < (N : Int) := by omega
  have cf := HDC.out fr hfN
  have hD0 := hv0.2
  rw [hD0] at cf
  have H1 : Box ((w.alloc (.cells #[.int .i64 (fr : Int)] 3)).ownsRow w.heap.size 3 1 (.slice (some ⟨w.heap.size, 0, none⟩) 1 1) 1 (ints (P.take 1))) := hid (by
    have e : P.take 1 = [fr] := by
      have h1 := hW.len
      have h2 := hW.head
      cases P with
      | nil => simp at h1
      | cons x l => simp at h2; simp [h2]
    rw [e]
    exact one_row (w := w) (base := w.heap.size) fr (Nat.le_refl _))
  have K1 : Box (Keeps [] w (w.alloc (Obj.cells #[.int .i64 (fr : Int)] 3))) := hid (Keeps.alloc _ _ _)
  have HPH := hid hW.head
  have hdn : ¬ ((d - 0 : Nat) : Int) < 0 := by omega
  clear hs hG hd hW hV hL hN hv0 hD0
  generalize hdd : d - 0 = dd at cf hdn
  clear hdd
  go_enter Tryd.func44, Tryd.ntmps44
  go_wp2_with fail
  clear cf hdn
  generalize w.alloc (Obj.cells #[.int .i64 (fr : Int)] 3) = w1 at H1 K1 ⊢
  go_loopg [1, 7] d (fun q fv ov wr => ∃ (s x : Nat) (v : Value), v = ov ∧ fv = .int .i64 (x : Int) ∧ s ≤ d ∧ Box (P.getD s 0 = x) ∧ Box (s + q = d) ∧ Box (wr.ownsRow w.heap.size 3 1 v (s + 1) (ints (P.take (s + 1)))) ∧ Box (Keeps [] w wr))
  case atStart => exact ⟨0, fr, _, rfl, rfl, by omega, HPH, hid (by omega), H1, K1⟩
  case round =>
    clear H1 K1 HPH hfN hfN'
    obtain ⟨s, x, v, rfl, rfl, hs, HX, HQ, HO, HK⟩ := hrel
    have hv := HV.out s hs
    rw [HX.out] at hv
    obtain ⟨hxN, hDx⟩ := hv
    have hxN' : (x : Int) < (N : Int) := by omega
    have cx := cell_kept3 HK.out (HDC.out x hxN)
    rw [hDx] at cx
    by_cases hsd : s = d
    · subst hsd
      have HO2 : Box (wr.ownsRow w.heap.size 3 1 v P.length (ints P)) := hid (by
        have h := HO.out
        rw [← HW.out.len, List.take_length] at h
        exact h)
      have e0 : s - s = 0 := by omega
      rw [e0] at cx
      clear HO hDx e0
      obtain ⟨av, cv, hvv, _, _, _⟩ := ownsRow_nat HO2.out
      subst hvv
      go_wp2
      go_ret
      exact ⟨_, rfl, HO2.out, HK.out⟩
    · obtain ⟨e, he⟩ : ∃ e, d - s = e := ⟨_, rfl⟩
      obtain ⟨e1, he1⟩ : ∃ e1, d - (s + 1) = e1 := ⟨_, rfl⟩
      rw [he] at cx hDx
      have hee : e = e1 + 1 := by omega
      have hj1 : (e : Int) - 1 = (e1 : Int) := by omega
      have hjw : wrap64 ((e : Int) - 1) = (e1 : Int) := by rw [hj1, IntWalk.wrap64_in _ (by omega)]
      have hpos : decide ((0 : Int) < (e : Int)) = true := decide_eq_true (by omega)
      have hposn : decide (0 < e) = true := decide_eq_true (by omega)
      have HE := hid he1
      have he6 : e1 ≤ 600 := by omega
      have HJ1 := hid hj1
      have HJW := hid hjw
      have hsh := HS.out.short x
      obtain ⟨nl, hnl⟩ : ∃ nl, (nb g x).length = nl := ⟨_, rfl⟩
      have HNL := hid hnl
      rw [hnl] at hsh
      have N0 : Box (Nx g D x e1 0 (-1)) := hid (.inl ⟨rfl, fun c hc => by omega⟩)
      have CX := hid hDx
      have hsd' : s < d := by omega
      clear hnl he he1 hee hDx hj1 hjw
      go_wp2_with fail
      clear cx hpos hposn
      have K0 := hid (Keeps.refl [] wr)
      generalize wr = w5 at HO HK K0 ⊢
      go_loopw [8, 9] (fun nv kv wr => ∃ (k : Nat) (nx : Int), nv = .int .i64 nx ∧ kv = .int .i64 (k : Int) ∧ k ≤ nl ∧ Box (Nx g D x e1 k nx) ∧ Box (Keeps [] w5 wr)) (fun _ kv _ => nl - (intOf kv).toNat)
      case atStart => exact ⟨0, -1, rfl, rfl, by omega, N0, K0⟩
      case round =>
        clear N0 K0
        obtain ⟨k, nx, rfl, rfl, hk, HNX, HK5⟩ := hrel
        have kw := HK.out.quiet HK5.out
        obtain ⟨bl, ol, al, cp, hal, hcl, hnl⟩ := (HG.out.quiet kw).at (k := x) (by rw [HN.out]; exact hxN)
        subst hal
        rw [HNL.out] at hcl
        by_cases hlk : k < nl
        · have hlk' : (k : Int) < (nl : Int) := by omega
          obtain ⟨bn, on, rfl, hcn⟩ := hnl.at (k := k) (by rw [HNL.out]; exact hlk)
          have hmem : (nb g x).getD k 0 ∈ nb g x := getD_mem _ _ _ (by rw [HNL.out]; exact hlk)
          have hbN : (nb g x).getD k 0 < N := by rw [← HN.out]; exact HS.out.ok x _ hmem
          have cx := cell_kept3 kw (HDC.out x hxN)
          rw [CX.out] at cx
          have cb := cell_kept3 kw (HDC.out _ hbN)
          have HKP : Box (D ((nb g x).getD k 0) ≠ (e1 : Int) → Nx g D x e1 (k + 1) nx) := hid (fun hne => by
            rcases HNX.out with ⟨h1, h2⟩ | ⟨b, h1, h2, h3, h4⟩
            · exact .inl ⟨h1, fun c hc => by
                by_cases ec : c = k
                · rw [ec]; exact hne
                · exact h2 c (by omega)⟩
            · exact .inr ⟨b, h1, h2, h3, fun c hc hD => by
                by_cases ec : c = k
                · rw [ec] at hD; exact absurd hD hne
                · exact h4 c (by omega) hD⟩)
          have HKL : Box (∀ y : Nat, nx = (y : Int) → D ((nb g x).getD k 0) = (e1 : Int) → y ≤ (nb g x).getD k 0 → Nx g D x e1 (k + 1) nx) := hid (fun y hy hD hle => by
            rcases HNX.out with ⟨h1, h2⟩ | ⟨b, h1, h2, h3, h4⟩
            · omega
            · exact .inr ⟨b, h1, h2, h3, fun c hc hD => by
                by_cases ec : c = k
                · rw [ec]; omega
                · exact h4 c (by omega) hD⟩)
          have HKN : Box (D ((nb g x).getD k 0) = (e1 : Int) → (∀ y : Nat, nx = (y : Int) → (nb g x).getD k 0 < y) → Nx g D x e1 (k + 1) (((nb g x).getD k 0 : Nat) : Int)) := hid (fun hD hlt => by
            refine .inr ⟨(nb g x).getD k 0, rfl, hmem, hD, fun c hc hDc => ?_⟩
            by_cases ec : c = k
            · rw [ec]; exact Nat.le_refl _
            · rcases HNX.out with ⟨h1, h2⟩ | ⟨b, h1, h2, h3, h4⟩
              · exact absurd hDc (h2 c (by omega))
              · have := hlt b h1
                have := h4 c (by omega) hDc
                omega)
          have hnx := HNX.out
          have hj1 := HJ1.out
          have hjw := HJW.out
          have KW := hid kw
          clear hmem hnl HNX kw
          generalize (nb g x).getD k 0 = b at hcn hbN cb HKP HKL HKN
          have hbN' : (b : Int) < (N : Int) := by omega
          by_cases hE : D b = (e1 : Int)
          · rw [hE] at cb
            have hwq : ((e1 : Int) == IntKind.i64.wrap (e1 : Int)) = true := by
              rw [show IntKind.i64.wrap (e1 : Int) = (e1 : Int) from IntWalk.i64_in _ (by omega)]
              simp
            rcases hnx with ⟨hnx, _⟩ | ⟨y, hnx, _⟩
            · have N9 := hid (HKN.out hE (fun y hy => by omega))
              subst hnx
              clear hE HKP HKL HKN
              go_wp2_with fail
              go_quiet (fail)
              have K9 := hid (HK5.out.quiet (Keeps.drewN [] wr nq))
              clear cx cb hcl hcn HK5 KW
              generalize wr.drewN nq = w9 at K9 ⊢
              go_wp2_with fail
              go_roundw
              case rel => exact ⟨k + 1, (b : Int), rfl, by go_num, by omega, N9, K9⟩
              case measure => simp [intOf]; omega
            · by_cases hby : b < y
              · have N9 := hid (HKN.out hE (fun z hz => by omega))
                have hq1 : decide ((y : Int) < 0) = false := decide_eq_false (by omega)
                have hq2 : decide ((b : Int) < (y : Int)) = true := decide_eq_true (by omega)
                have hq3 : decide (b < y) = true := decide_eq_true hby
                subst hnx
                clear hE HKP HKL HKN hby
                go_wp2_with fail
                go_quiet (fail)
                have K9 := hid (HK5.out.quiet (Keeps.drewN [] wr nq))
                clear cx cb hcl hcn HK5 KW
                generalize wr.drewN nq = w9 at K9 ⊢
                go_wp2_with fail
                go_roundw
                case rel => exact ⟨k + 1, (b : Int), rfl, by go_num, by omega, N9, K9⟩
                case measure => simp [intOf]; omega
              · have N9 := hid (HKL.out y hnx hE (by omega))
                have hq1 : decide ((y : Int) < 0) = false := decide_eq_false (by omega)
                have hq2 : decide ((b : Int) < (y : Int)) = false := decide_eq_false (by omega)
                have hq3 : decide (b < y) = false := decide_eq_false hby
                subst hnx
                clear hE HKP HKL HKN hby
                go_wp2_with fail
                go_quiet (fail)
                have K9 := hid (HK5.out.quiet (Keeps.drewN [] wr nq))
                clear cx cb hcl hcn HK5 KW
                generalize wr.drewN nq = w9 at K9 ⊢
                go_wp2_with fail
                go_roundw
                case rel => exact ⟨k + 1, (y : Int), rfl, by go_num, by omega, N9, K9⟩
                case measure => simp [intOf]; omega
          · have N9 := hid (HKP.out hE)
            obtain ⟨bD, hbD⟩ : ∃ bD, D b = bD := ⟨_, rfl⟩
            rw [hbD] at cb hE
            have hq1 : (bD == IntKind.i64.wrap (e1 : Int)) = false := by
              rw [show IntKind.i64.wrap (e1 : Int) = (e1 : Int) from IntWalk.i64_in _ (by omega), beq_eq_false_iff_ne]
              exact hE
            clear hE HKP HKL HKN hnx hbD
            go_wp2_with fail
            go_quiet (fail)
            have K9 := hid (HK5.out.quiet (Keeps.drewN [] wr nq))
            clear cx cb hcl hcn HK5 KW
            generalize wr.drewN nq = w9 at K9 ⊢
            go_wp2_with fail
            go_roundw
            case rel => exact ⟨k + 1, nx, rfl, by go_num, by omega, N9, K9⟩
            case measure => simp [intOf]; omega
        · obtain rfl : k = nl := by omega
          have hend : nx = ((P.getD (s + 1) 0 : Nat) : Int) := by
            have h1 := HNX.out
            rw [← HNL.out] at h1
            have h2 := HW.out.edge s hsd'
            have h3 := HL.out s hsd'
            have h4 := (HV.out (s + 1) (by omega)).2
            rw [HX.out] at h2 h3
            rw [HE.out] at h3 h4
            exact h1.done h2 h4 h3
          have HO5 := hid (ownsRow_keeps HO.out HK5.out (fun _ _ => by simp))
          have KW := hid kw
          have hsz := kw.size
          have htk : Box (P.take (s + 1 + 1) = P.take (s + 1) ++ [P.getD (s + 1) 0]) := hid (take_snoc P (s + 1) 0 (by rw [HW.out.len]; omega))
          obtain ⟨y, hy⟩ : ∃ y, P.getD (s + 1) 0 = y := ⟨_, rfl⟩
          rw [hy] at hend htk
          have HY := hid hy
          subst hend
          clear hy hnl kw HNX HO HK
          have hgk : 0 < gk := by have := HQ.out; omega
          have HX2 : Box (s + 1 + (gk - 1) = d) := hid (by have := HQ.out; omega)
          go_wp2_with (at_builtin; go_must (refine wpList_append_own _ rfl _ _ 23 rfl w.heap.size 3 Tryd.t3 (.int .i64 0) 1 8 under_ints info_int zero_int size_int bytes_int rfl (by decide) v _ _ rfl (HO5.out.alloc _) _ 1 1 [.int .i64 (y : Int)] rfl rfl (cell_one_new _ _ _) (fun x hx => by simp at hx; subst hx; rfl) (by unfold maxLen; omega) (by omega) (by simp; omega) ?_; intro v8 w8 hown8 hgrow8 hnil8))
          have O8 : Box (w8.ownsRow w.heap.size 3 1 v8 (s + 1 + 1) (ints (P.take (s + 1 + 1)))) := hid (by
            rw [htk.out, show ints (P.take (s + 1) ++ [y]) = ints (P.take (s + 1)) ++ [.int .i64 (y : Int)] from by simp [ints]]
            exact hown8)
          have K8 := hid ((KW.out.quiet (Keeps.alloc [] _ _)).fresh (Keeps.grown v.ownBlock.toList hgrow8 (fun y hy => by rw [hy]; simp)) (own_new HO5.out))
          clear hown8 hgrow8 hnil8 HO5 HK5 KW hcl
          go_roundg (gk - 1)
          case measure => omega
          case rel => exact ⟨s + 1, y, v8, rfl, rfl, by omega, HY, HX2, O8, K8⟩

set_option maxRecDepth 20000 in
set_option maxHeartbeats 4000000 in
theorem rwalk_no (a : Option Addr) (cap N : Nat) (w : World) (pd : Nat) (fr : Nat) (hf : fr < N) (x : Int) (hx : x < 0) (hc : w.cell? ⟨pd, fr, none⟩ = some (.int .i64 x)) :
    Calls Tryd.prog 44 #[.slice a N cap, .int .i64 (fr : Int), .slice (some ⟨pd, 0, none⟩) N N] w fun e w' => e = .returned (.slice none 0 0) ∧ w' = w := by
  have hf' : (fr : Int) < (N : Int) := by omega
  go_enter Tryd.func44, Tryd.ntmps44
  go_wp2
  go_ret
  exact ⟨rfl, rfl⟩
end Go.Proofs.YtngdnjlohmkbiaaDoor

namespace Go.Proofs.YtngdnjlohmkbiaaDoor
open Go.RowKit

theorem rwalk_any (g : List (List Nat)) (hs : Sm g) (a : Option Addr) (cap B : Nat) (w : World) (hG : GAt w B a g) (pd : Nat) (D : Nat → Int) (fr t : Nat) (hD : Dist g (fun y => y == t) D) (hd : ∀ i, i < g.length → w.cell? ⟨pd, i, none⟩ = some (.int .i64 (D i))) (hf : fr < g.length) :
    Calls Tryd.prog 44 #[.slice a g.length cap, .int .i64 (fr : Int), .slice (some ⟨pd, 0, none⟩) g.length g.length] w fun e w' => ∃ v, e = .returned v ∧ w'.ownsRow w.heap.size 3 1 v (pathM g fr t).length (ints (pathM g fr t)) ∧ Keeps [] w w' := by
  rcases path_least hs.ok (t := t) hf with ⟨h1, h2⟩ | ⟨d, hd6, hW, hm, hl⟩
  · have hneg : D fr < 0 := by
      rcases hD.far.neg fr hf with h | h
      · omega
      · exact absurd (hD.far.way fr hf h) (h2 _)
    refine (rwalk_no a cap g.length w pd fr hf (D fr) hneg (hd fr hf)).mono ?_
    rintro e w' ⟨rfl, rfl⟩
    rw [h1]
    exact ⟨_, rfl, nil_row _ _, Keeps.refl _ _⟩
  · refine rwalk_yes g hs a cap B w hG pd D hd fr t d (pathM g fr t) hW (by have := hs.len; omega) (walk_step hs.ok hf hD hW hm) (fun i hi b hb hDb => hl i hi b hb ?_)
    have h0 := hD.far.way b (hs.ok _ b hb) (by omega)
    rw [hDb] at h0
    exact h0

set_option maxRecDepth 20000 in
set_option maxHeartbeats 4000000 in
theorem rpath_in (g : List (List Nat)) (hs : Sm g) (a : Option Addr) (cap B : Nat) (w : World) (hG : GAt w B a g) (fr t : Nat) (hf : fr < g.length) (ht : t < g.length) :
    Calls Tryd.prog 22 #[.slice a g.length cap, .int .i64 (fr : Int), .int .i64 (t : Int)] w fun e w' => ∃ v, e = .returned v ∧ w'.ownsRow w.heap.size 3 1 v (pathM g fr t).length (ints (pathM g fr t)) ∧ Keeps [] w w' := by
  have hg6 := hs.len
  have HFAR := hid (fun wz (k : Keeps [] w wz) pg (h : ∀ i, i < g.length → wz.cell? ⟨pg, i, none⟩ = some (.bool (i == t))) => rfar_any g hs a cap B wz (hG.quiet k) pg (fun y => y == t) h)
  have HWK := hid (fun wz (k : Keeps [] w wz) pd D (hD : Dist g (fun y => y == t) D) (hc : ∀ i, i < g.length → wz.cell? ⟨pd, i, none⟩ = some (.int .i64 (D i))) => rwalk_any g hs a cap B wz (hG.quiet k) pd D fr t hD hc hf)
  clear hs hG
  obtain ⟨N, hN⟩ : ∃ N, g.length = N := ⟨_, rfl⟩
  rw [hN] at HFAR HWK hg6 hf ht ⊢
  clear hN
  have hf' : (fr : Int) < (N : Int) := by omega
  have ht' : (t : Int) < (N : Int) := by omega
  have q1 : ¬ (fr : Int) < 0 := by omega
  have q2 : ¬ (N : Int) ≤ (fr : Int) := by omega
  have q3 : ¬ (t : Int) < 0 := by omega
  have q4 : ¬ (N : Int) ≤ (t : Int) := by omega
  have hww : w.heap.size ≤ w.heap.size := Nat.le_refl _
  go_enter Tryd.func22, Tryd.ntmps22
  go_wp2_with (at_make; go_must (refine wpList_make_full _ rfl _ _ 34 rfl w.heap.size 4 Tryd.t4 (.bool false) 1 bunder binfo bzero bsize .i64 .i64 _ _ N rfl rfl rfl rfl (by rw [bbytes]; omega) (by unfold maxLen; omega) hww ?_; intro w2 hown2 hgrow2; have ct : w2.cell? ⟨w.heap.size, t, none⟩ = some (.bool false) := (RowAt.made hown2 rfl).cell ht; have ft : w2.frozen? ⟨w.heap.size, t, none⟩ = false := (RowAt.made hown2 rfl).frozen t))
  clear ct ft
  have K2 : Box (Keeps [] w w2) := hid (Keeps.grown [] hgrow2 (by simp))
  have R2 : Box (RowAt w2 w.heap.size w.heap.size N 4 (bw none_)) := hid ((RowAt.made hown2 rfl).congr (fun i _ => rfl))
  clear hown2 hgrow2 hww
  obtain ⟨pd, hpd⟩ : ∃ pd, w.heap.size = pd := ⟨_, rfl⟩
  rw [hpd] at R2
  have R3 := hid (bw_put R2.out t)
  have K3 : Box (Keeps [] w (w2.setCell ⟨pd, t, none⟩ (.bool true))) := hid (K2.out.fresh (Keeps.setCell [pd] w2 ⟨pd, t, none⟩ (.bool true) (by simp)) (fun y hy => by simp at hy; omega))
  have C3 : Box (∀ i, i < N → (w2.setCell ⟨pd, t, none⟩ (.bool true)).cell? ⟨pd, i, none⟩ = some (.bool (i == t))) := hid (fun i hi => by
    have h := R3.out.cell hi
    unfold bw ins none_ at h
    simpa using h)
  rw [hpd]
  clear hpd R2 K2 R3
  refine (HFAR.out _ K3.out pd C3.out).mono ?_
  rintro e w4 ⟨pq, rfl, D, r4, d4, k4⟩
  have K4 := hid (K3.out.quiet k4)
  have HW := hid (HWK.out w4 K4.out pq D d4 (fun i hi => r4.cell hi))
  clear r4 d4 k4 HWK HFAR C3 K3
  go_wp2_with fail
  refine HW.out.mono ?_
  rintro e w5 ⟨v5, rfl, h5, k5⟩
  have H5 := hid (ownsRow_base h5 K4.out.size)
  have K5 := hid (K4.out.quiet k5)
  obtain ⟨a5, c5, hv5, _, _, _⟩ := ownsRow_nat h5
  subst hv5
  clear h5 k5 HW K4
  go_wp2
  go_ret
  exact ⟨_, rfl, H5.out, K5.out⟩
set_option maxHeartbeats 1000000 in
theorem rpath_out (a : Option Addr) (cap N : Nat) (w : World) (fr t : Int) (h : ¬ ((0 ≤ fr ∧ fr < (N : Int)) ∧ (0 ≤ t ∧ t < (N : Int)))) :
    Calls Tryd.prog 22 #[.slice a N cap, .int .i64 fr, .int .i64 t] w fun e w' => e = .returned (.slice none 0 0) ∧ w' = w := by
  by_cases h1 : fr < 0
  · clear h
    go_enter Tryd.func22, Tryd.ntmps22
    go_wp2
    go_ret
    exact ⟨rfl, rfl⟩
  · by_cases h2 : (N : Int) ≤ fr
    · clear h
      go_enter Tryd.func22, Tryd.ntmps22
      go_wp2
      go_ret
      exact ⟨rfl, rfl⟩
    · by_cases h3 : t < 0
      · clear h
        go_enter Tryd.func22, Tryd.ntmps22
        go_wp2
        go_ret
        exact ⟨rfl, rfl⟩
      · have h4 : (N : Int) ≤ t := by omega
        clear h
        go_enter Tryd.func22, Tryd.ntmps22
        go_wp2
        go_ret
        exact ⟨rfl, rfl⟩
/-- Path's answers and the document's are one. -/
theorem path_two (g : List (List Nat)) (hs : Sm g) (a : Option Addr) (cap B : Nat) (w : World) (hG : GAt w B a g) (hT : TabAt w) (fr t : Int) : ∃ P : List Nat, P.length ≤ 1000000 ∧
    (∀ wz, Keeps [] w wz → Calls Tryd.prog 21 #[.agg #[.int .i64 (g.length : Int), .slice a g.length cap], .int .i64 fr, .int .i64 t] wz fun e w' => ∃ v, e = .returned v ∧ w'.ownsRow wz.heap.size 3 1 v P.length (ints P) ∧ Keeps [] wz w') ∧
    ∀ wz, Keeps [] w wz → Calls Tryd.prog 22 #[.slice a g.length cap, .int .i64 fr, .int .i64 t] wz fun e w' => ∃ v, e = .returned v ∧ w'.ownsRow wz.heap.size 3 1 v P.length (ints P) ∧ Keeps [] wz w' := by
  by_cases h : (0 ≤ fr ∧ fr < (g.length : Int)) ∧ (0 ≤ t ∧ t < (g.length : Int))
  · obtain ⟨x, rfl⟩ := Int.eq_ofNat_of_zero_le h.1.1
    obtain ⟨y, rfl⟩ := Int.eq_ofNat_of_zero_le h.2.1
    refine ⟨pathM g x y, ?_, fun wz k => path_in g hs a cap B x y wz (hG.quiet k) (tab_of hT k) (by omega) (by omega), fun wz k => rpath_in g hs a cap B wz (hG.quiet k) x y (by omega) (by omega)⟩
    rcases path_way hs.ok (a := x) (b := y) (by omega) with ⟨e, _⟩ | ⟨d, hd, hway, _⟩
    · rw [e]; simp
    · rw [hway.len]; have := hs.len; omega
  · refine ⟨[], by simp, fun wz k => ?_, fun wz k => ?_⟩
    · by_cases h1 : 0 ≤ fr ∧ fr < (g.length : Int)
      · refine (path_out2 g hs a cap B fr t wz (hG.quiet k) h1 (fun h2 => h ⟨h1, h2⟩)).mono ?_
        rintro e w' ⟨rfl, k'⟩
        exact ⟨_, rfl, nil_row _ _, k'⟩
      · refine (path_out1 g hs a cap B fr t wz (hG.quiet k) h1).mono ?_
        rintro e w' ⟨rfl, k'⟩
        exact ⟨_, rfl, nil_row _ _, k'⟩
    · refine (rpath_out a cap g.length wz fr t h).mono ?_
      rintro e w' ⟨rfl, rfl⟩
      exact ⟨_, rfl, nil_row _ _, Keeps.refl _ _⟩
end Go.Proofs.YtngdnjlohmkbiaaDoor

namespace Go.Proofs.YtngdnjlohmkbiaaDoor
open Go.RowKit

set_option maxRecDepth 20000 in
set_option maxHeartbeats 8000000 in
theorem raw_law (n : Int) (ta : Option Addr) (tc : Nat) (xs : List (List Int)) (fr tt : Int) (w : World) (hT : TabAt w) (hx : ∃ A C, LsR w ta xs A C) (hl : xs.length ≤ maxLen) (hc : xs.length ≤ tc) :
    Calls Tryd.prog 6 #[.int .i64 n, .slice ta xs.length tc, .int .i64 fr, .int .i64 tt] w fun e w' => e = .returned (.bool true) ∧ Keeps [] w w' := by
  obtain ⟨A, C, hx⟩ := hx
  have HBG := hid (begun5_any w hT)
  have HTT := hid (fun wz (k : Keeps [] w wz) => tab_of hT k)
  have HX := hid (hx.take 20)
  have hq : (xs.take 20).length = min xs.length 20 := by rw [List.length_take, Nat.min_comm]
  clear hT hx
  generalize xs.take 20 = x0 at HX hq
  obtain ⟨tl, htl⟩ : ∃ tl, xs.length = tl := ⟨_, rfl⟩
  rw [htl] at hq hl hc ⊢
  unfold maxLen at hl
  have HQ := hid hq
  clear htl hq
  go_enter Tryd.func6, Tryd.ntmps6
  go_wp2_with fail
  refine HBG.out.mono ?_
  rintro e w1 ⟨rfl, k1⟩
  clear HBG
  have X1 := hid (HX.out.quiet k1)
  have K1 := hid k1
  clear k1 HX
  go_upto_if 21 with fail
  go_cut [1] (fun v0 wx => v0 = .slice ta (min tl 20) tc ∧ wx = w1)
  case first =>
    by_cases h : 20 < tl
    · have hb : decide ((20 : Int) < (tl : Int)) = true := decide_eq_true (by omega)
      have hc2 : (20 : Int) ≤ (tc : Int) := by omega
      go_wp2
      go_meet
      exact ⟨by rw [show min tl 20 = 20 by omega], rfl⟩
    · have hb : decide ((20 : Int) < (tl : Int)) = false := decide_eq_false (by omega)
      go_wp2
      go_meet
      exact ⟨by rw [show min tl 20 = tl by omega], rfl⟩
  case rest =>
    obtain ⟨rfl, rfl⟩ := hcut
    have hq20 : min tl 20 ≤ 20 := by omega
    generalize min tl 20 = q at hq20 HQ ⊢
    clear hl hc
    have R0 : Box (wc.ownsRow wc.heap.size 23 1 (.slice none 0 0) 0 (rvs A C x0 0)) := hid (World.ownsRow_nil _ _ _ _)
    go_wp2_with fail
    generalize wc = w1 at X1 K1 R0 ⊢
    go_loopw [10, 11] (fun lv iv wr => ∃ (i : Nat) (v : Value), v = lv ∧ iv = .int .i64 (i : Int) ∧ i ≤ q ∧ Box (wr.ownsRow w1.heap.size 23 1 v i (rvs A C x0 i)) ∧ Box (Keeps [] w1 wr)) (fun _ iv _ => q - (intOf iv).toNat)
    case atStart => exact ⟨0, _, rfl, rfl, by omega, R0, hid (Keeps.refl _ _)⟩
    case round =>
      clear R0
      obtain ⟨i, v, rfl, rfl, hi, HR, HK⟩ := hrel
      by_cases hlt : i < q
      · have hlt' : (i : Int) < (q : Int) := by omega
        have xr := X1.out.quiet HK.out
        obtain ⟨hin, hLC, hLm⟩ := xr.inner i (by rw [HQ.out]; exact hlt)
        have hcell : ∃ b off, ta = some ⟨b, off, none⟩ ∧ wr.cell? ⟨b, off + i, none⟩ = some (.slice (A i) (x0.getD i []).length (C i)) := by
          rcases xr.outer with h0 | ⟨b, off, h1, h2⟩
          · rw [h0] at HQ
            have := HQ.out
            simp at this
            omega
          · exact ⟨b, off, h1, h2 i (by rw [HQ.out]; exact hlt)⟩
        obtain ⟨b, off, rfl, cc⟩ := hcell
        have HSN := hid (rvs_snoc A C x0 i)
        have hsz := HK.out.size
        obtain ⟨L, hL⟩ : ∃ L, (x0.getD i []).length = L := ⟨_, rfl⟩
        rw [hL] at cc hLC hLm HSN
        unfold maxLen at hLm
        have hAI : 20 < L → ∃ b' o', A i = some ⟨b', o', none⟩ := fun h => by
          rcases hin with h0 | ⟨b', o', h1, _⟩
          · rw [h0] at hL
            simp at hL
            omega
          · exact ⟨b', o', h1⟩
        clear xr hin hL
        obtain ⟨ai, hai⟩ : ∃ ai, A i = ai := ⟨_, rfl⟩
        rw [hai] at cc HSN hAI
        clear hai
        generalize C i = ci at cc HSN hLC
        by_cases h20 : 20 < L
        · obtain ⟨b', o', rfl⟩ := hAI h20
          have hb : decide ((20 : Int) < (L : Int)) = true := decide_eq_true (by omega)
          have hc2 : (20 : Int) ≤ (ci : Int) := by omega
          rw [show min L 20 = 20 by omega] at HSN
          clear hAI h20
          go_wp2_with (at_builtin; go_must (refine wpList_append_own _ rfl _ _ 25 rfl w1.heap.size 23 Tryd.t23 (.slice none 0 0) 1 24 under_lists info_ints zero_ints size_ints bytes_ints rfl (by decide) v _ _ rfl (HR.out.alloc _) _ 1 1 [.slice (some ⟨b', o', none⟩) 20 ci] rfl rfl (cell_one_new _ _ _) (fun x hx => by simp at hx; subst hx; rfl) (by unfold maxLen; omega) (by omega) (by simp; omega) ?_; intro v6 w6 hown6 hgrow6 hnil6))
          have k6 : Keeps v.ownBlock.toList _ w6 := Keeps.grown v.ownBlock.toList hgrow6 (fun y hy => by rw [hy]; simp)
          have K6 := hid ((HK.out.quiet (Keeps.alloc [] _ _)).fresh k6 (own_new HR.out))
          have R6 : Box (w6.ownsRow w1.heap.size 23 1 v6 (i + 1) (rvs A C x0 (i + 1))) := hid (by rw [HSN.out]; exact hown6)
          clear hown6 hgrow6 hnil6 k6 HR HK HSN cc
          go_roundw
          case rel => exact ⟨i + 1, v6, rfl, by go_num, by omega, R6, K6⟩
          case measure => simp [intOf]; omega
        · have hb : decide ((20 : Int) < (L : Int)) = false := decide_eq_false (by omega)
          rw [show min L 20 = L by omega] at HSN
          clear hAI h20
          go_wp2_with (at_builtin; go_must (refine wpList_append_own _ rfl _ _ 25 rfl w1.heap.size 23 Tryd.t23 (.slice none 0 0) 1 24 under_lists info_ints zero_ints size_ints bytes_ints rfl (by decide) v _ _ rfl (HR.out.alloc _) _ 1 1 [.slice ai L ci] rfl rfl (cell_one_new _ _ _) (fun x hx => by simp at hx; subst hx; rfl) (by unfold maxLen; omega) (by omega) (by simp; omega) ?_; intro v6 w6 hown6 hgrow6 hnil6))
          have k6 : Keeps v.ownBlock.toList _ w6 := Keeps.grown v.ownBlock.toList hgrow6 (fun y hy => by rw [hy]; simp)
          have K6 := hid ((HK.out.quiet (Keeps.alloc [] _ _)).fresh k6 (own_new HR.out))
          have R6 : Box (w6.ownsRow w1.heap.size 23 1 v6 (i + 1) (rvs A C x0 (i + 1))) := hid (by rw [HSN.out]; exact hown6)
          clear hown6 hgrow6 hnil6 k6 HR HK HSN cc
          go_roundw
          case rel => exact ⟨i + 1, v6, rfl, by go_num, by omega, R6, K6⟩
          case measure => simp [intOf]; omega
      · obtain rfl : q = i := by omega
        obtain ⟨va, vc, hv, hls⟩ := raw_ls (X1.out.quiet HK.out) (by rw [HQ.out]; exact HR.out)
        rw [HQ.out] at hv
        subst hv
        have ka : Keeps [] wr (wr.alloc (.cells #[.int .i64 n, .slice va q vc] 27)) := Keeps.alloc _ _ _
        have T3 := hid (TwoAt.new wr (.int .i64 n) (.slice va q vc))
        have LS3 := hid (hls.quiet ka)
        have K3 := hid ((K1.out.quiet HK.out).quiet ka)
        have hyl : (cutL x0).length = q := by unfold cutL; rw [List.length_map]; exact HQ.out
        have HYL := hid hyl
        have HYS := hid (cutL_short x0)
        clear hls ka HR HK X1 K1 hyl HQ
        generalize cutL x0 = ys at LS3 HYL HYS
        generalize wr.heap.size = B at LS3
        go_upto_region 15 with fail
        generalize wr.alloc (.cells #[.int .i64 n, .slice va q vc] 27) = w3 at T3 LS3 K3 ⊢
        generalize wr.heap.size = bx at T3 ⊢
        have c0 := T3.out.c0
        have c1 := T3.out.c1
        by_cases hM : MayP n ys
        · have hlen := hM.len
          rw [HYL.out] at hlen
          have HRM := hid (rmay_any n va q vc B ys w3 LS3.out HYL.out (fun j => Nat.le_trans (HYS.out j) (by decide)) true ⟨fun _ => hM, fun _ => rfl⟩)
          have HS := hid (natL_sm hM HYS.out)
          have hg : GAt w3 B va (natL ys) := by
            show LsAt w3 B va (listsI (natL ys))
            rw [natL_lists hM]
            exact LS3.out
          have hgl : (natL ys).length = q := by rw [natL_len]; exact HYL.out
          obtain ⟨P, hP6, hp1, hp2⟩ := path_two (natL ys) HS.out va vc B w3 hg (HTT.out w3 K3.out) fr tt
          have HGM := hid (gmay_yes (natL ys) HS.out va vc B w3 hg)
          have HP1 := hid hp1
          have HP2 := hid hp2
          rw [hgl] at HP1 HP2 HGM
          have HQQ := hid (fun a1 a2 c1 c2 wz (h1 : NAt wz wz.heap.size a1 P) (h2 : NAt wz wz.heap.size a2 P) => geq_any a1 a2 _ _ c1 c2 P P wz h1 h2 hP6)
          rw [decide_eq_true rfl] at HQQ
          clear hM hp1 hp2 hgl hg HS hP6 LS3 HYS
          subst hlen
          go_wp2_with fail
          refine HRM.out.mono ?_
          rintro e w4 ⟨rfl, hw4⟩
          subst w4
          clear HRM
          go_wp2_with fail
          refine HGM.out.mono ?_
          rintro e w5 ⟨rfl, k5⟩
          have T5 := hid (T3.out.kept k5 (by simp))
          clear c0 c1 HGM T3
          have c0 := T5.out.c0
          have c1 := T5.out.c1
          go_wp2_with fail
          refine (HP1.out w5 k5).mono ?_
          rintro e w6 ⟨v6, rfl, h6, k6⟩
          obtain ⟨a6, c6, hv6, n6, _, _⟩ := ownsRow_nat h6
          subst hv6
          have N6 := hid n6
          have K6 := hid (k5.quiet k6)
          clear c0 c1 h6 n6 k6 k5 T5 HP1
          go_wp2_with fail
          refine (HP2.out w6 K6.out).mono ?_
          rintro e w7 ⟨v7, rfl, h7, k7⟩
          obtain ⟨a7, c7, hv7, n7, _, _⟩ := ownsRow_nat h7
          subst hv7
          have HE := hid (HQQ.out a6 a7 c6 c7 w7 (InAt.up (N6.out.kept k7 (by simp)) k7.size) n7)
          have K7 := hid (K6.out.quiet k7)
          clear h7 n7 k7 N6 K6 HP2 HQQ
          go_wp2_with fail
          refine HE.out.mono ?_
          rintro e w8 ⟨rfl, m8, rfl⟩
          have K8 := hid (K7.out.quiet (Keeps.drewN [] w7 m8))
          clear HE
          go_wp2
          go_ret
          exact ⟨rfl, K3.out.quiet K8.out⟩
        · have HRM := hid (rmay_any n va q vc B ys w3 LS3.out HYL.out (fun j => Nat.le_trans (HYS.out j) (by decide)) false ⟨fun h => (by cases h), fun h => absurd h hM⟩)
          have HNM := hid (noMay_any (cap := vc) LS3.out HYL.out (fun j => Nat.le_trans (HYS.out j) (by decide)) hM)
          have HGM := hid (HNM.out w3 (Keeps.refl _ _))
          have HL0 : Box ((elems none_).length = 0) := hid (by rw [show elems none_ = [] from elems_none]; rfl)
          have HLEN := hid (fun b wz (hs : SetAt wz b none_) => len_any b none_ wz hs fit_none)
          rw [HL0.out, show ((0 : Nat) : Int) = (0 : Int) from rfl] at HLEN
          clear hM LS3 HYS HL0
          go_wp2_with fail
          refine HRM.out.mono ?_
          rintro e w4 ⟨rfl, hw4⟩
          subst w4
          clear HRM
          go_wp2_with fail
          refine HGM.out.mono ?_
          rintro e w5 ⟨rfl, k5⟩
          have T5 := hid (T3.out.kept k5 (by simp))
          have HTU := hid (turn_nomay n va q vc w5 (HNM.out.quiet k5))
          clear c0 c1 HGM T3
          have c0 := T5.out.c0
          have c1 := T5.out.c1
          go_wp2_with fail
          refine HTU.out.mono ?_
          rintro e w6 ⟨rfl, k6⟩
          have ka : Keeps [] w6 (w6.alloc (.cells #[.int .i64 0, .slice none 0 0] 27)) := Keeps.alloc _ _ _
          have T7 := hid ((T5.out.kept k6 (by simp)).kept ka (by simp))
          have D7 := hid (TwoAt.new w6 (.int .i64 0) (.slice none 0 0))
          have K7 := hid ((k5.quiet k6).quiet ka)
          clear c0 c1 HTU T5 k5 k6 ka
          go_upto_region 21 with fail
          generalize w6.alloc (.cells #[.int .i64 0, .slice none 0 0] 27) = w7 at T7 D7 K7 ⊢
          generalize w6.heap.size = bt at D7 ⊢
          have c0 := T7.out.c0
          have c1 := T7.out.c1
          have d0 := D7.out.c0
          have d1 := D7.out.c1
          have ka : Keeps [] w7 (w7.alloc (.cells #[.int .i64 fr] 3)) := Keeps.alloc _ _ _
          have HRE := hid (reach_nomay n va q vc (.slice (some ⟨w7.heap.size, 0, none⟩) 1 1) _ (HNM.out.quiet (K7.out.quiet ka)))
          have T8 := hid (T7.out.kept ka (by simp))
          have K8 := hid (K7.out.quiet ka)
          clear ka
          go_wp2_with fail
          generalize w7.alloc (.cells #[.int .i64 fr] 3) = w8 at HRE T8 K8 ⊢
          refine HRE.out.mono ?_
          rintro e w9 ⟨b9, rfl, h9, k9⟩
          have HC := hid (HLEN.out b9 w9 h9)
          have T9 := hid (T8.out.kept k9 (by simp))
          have K9 := hid (K8.out.quiet k9)
          clear c0 c1 d0 d1 h9 k9 T7 D7 T8 K8 K7 HRE
          go_wp2_with fail
          refine HC.out.mono ?_
          rintro e wa ⟨rfl, hwa⟩
          subst wa
          have c0 := T9.out.c0
          have c1 := T9.out.c1
          have HPA := hid (parts_nomay n va q vc w9 (HNM.out.quiet K9.out))
          clear HC
          go_wp2_with fail
          refine HPA.out.mono ?_
          rintro e wb ⟨rfl, kb⟩
          have Tb := hid (T9.out.kept kb (by simp))
          have Kb := hid (K9.out.quiet kb)
          have HOR := hid (order_nomay n va q vc fr wb (HNM.out.quiet Kb.out))
          clear c0 c1 T9 K9 kb HPA
          have c0 := Tb.out.c0
          have c1 := Tb.out.c1
          go_wp2_with fail
          refine HOR.out.mono ?_
          rintro e wd ⟨rfl, kd⟩
          have Td := hid (Tb.out.kept kd (by simp))
          have Kd := hid (Kb.out.quiet kd)
          have HPT := hid (path_nomay n va q vc fr tt wd (HNM.out.quiet Kd.out))
          clear c0 c1 Tb Kb kd HOR
          have c0 := Td.out.c0
          have c1 := Td.out.c1
          go_wp2_with fail
          refine HPT.out.mono ?_
          rintro e we ⟨rfl, ke⟩
          have Te := hid (Td.out.kept ke (by simp))
          have Ke := hid (Kd.out.quiet ke)
          have HLO := hid (loops_nomay n va q vc we (HNM.out.quiet Ke.out))
          clear c0 c1 Td Kd ke HPT
          have c0 := Te.out.c0
          have c1 := Te.out.c1
          go_wp2_with fail
          refine HLO.out.mono ?_
          rintro e wf ⟨bf, rfl, hf, kf⟩
          have HC := hid (HLEN.out bf wf hf)
          have Kf := hid (Ke.out.quiet kf)
          clear c0 c1 Te Ke hf kf HLO
          go_wp2_with fail
          refine HC.out.mono ?_
          rintro e wg ⟨rfl, hwg⟩
          subst wg
          go_wp2
          go_ret
          exact ⟨rfl, K3.out.quiet Kf.out⟩
end Go.Proofs.YtngdnjlohmkbiaaDoor
