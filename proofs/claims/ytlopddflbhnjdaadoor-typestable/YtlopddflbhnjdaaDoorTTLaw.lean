/-
  TypesTable: the walk.
-/
import Derived.Test.YtlopddflbhnjdaaDoorTMade
import Derived.Test.YtlopddflbhnjdaaDoorTBegun
import Derived.Test.YtlopddflbhnjdaaDoorTFPl
import Derived.Deep.RegionLaw
import Derived.Deep.AppendLies
namespace Go.Proofs.YtlopddflbhnjdaaDoor
open Go.RowKit

theorem info_sg : Tryd.prog.info? 41 = some Tryd.t41 := by kernel_rfl
theorem under_sgs : Tryd.prog.underlying 31 = some (.slice 41) := by kernel_rfl
theorem zero_sg : Tryd.t41.zero = some (.agg #[.slice none 0 0, .int .i64 0, .int .i64 0]) := by kernel_rfl
theorem size_sg : Tryd.t41.size = 3 := by kernel_rfl
theorem bytes_sg : Tryd.t41.bytes = 40 := by kernel_rfl
theorem info_fn : Tryd.prog.info? 29 = some Tryd.t29 := by kernel_rfl
theorem under_fns : Tryd.prog.underlying 34 = some (.slice 29) := by kernel_rfl
theorem zero_fn : Tryd.t29.zero = some (.agg #[.int .i64 0, .slice none 0 0, .slice none 0 0]) := by kernel_rfl
theorem size_fn : Tryd.t29.size = 3 := by kernel_rfl
theorem bytes_fn : Tryd.t29.bytes = 56 := by kernel_rfl
theorem ownsRow_drew {w : World} {base : Nat} {e : TypeId} {size : Nat} {v : Value} {n : Nat} {xs : List Value} (h : w.ownsRow base e size v n xs) : w.drew.ownsRow base e size v n xs := h
/-- A row that is known whole, as one's own. -/
theorem own_lit {w : World} {g base : Nat} {cs : Array Value} {e : TypeId} {size n : Nat} (h : w.heap[g]? = some (.cells cs e (0, 0))) (hb : base ≤ g) (hs : cs.size = n * size) (hm : n ≤ maxLen) : w.ownsRow base e size (.slice (some ⟨g, 0, none⟩) n n) n cs.toList :=
  ⟨by rw [Array.length_toList, hs], .inr ⟨g, n, cs, rfl, hb, h, Nat.le_refl _, hm, hs, by rw [← hs, ← Array.length_toList, List.take_length]⟩⟩
theorem own_cell {w : World} {g base : Nat} {xs : List Value} {e : TypeId} {size n cap : Nat} (h : w.ownsRow base e size (.slice (some ⟨g, 0, none⟩) n cap) n xs) {i : Nat} (hi : i < n * size) : w.cell? ⟨g, i, none⟩ = xs[i]? := by
  rcases h.2 with ⟨hv, _⟩ | ⟨g', cap', cur, hv, _, hg, _, _, _, ht⟩
  · cases hv
  · cases hv
    rw [cell_of_row w g i cur _ _ hg, ← ht, List.getElem?_take, if_pos hi]
    simp
theorem own_cap {w : World} {g base : Nat} {xs : List Value} {e : TypeId} {size n cap : Nat} (h : w.ownsRow base e size (.slice (some ⟨g, 0, none⟩) n cap) n xs) : n ≤ cap := by
  rcases h.2 with ⟨hv, _⟩ | ⟨g', cap', cur, hv, _, _, hl, _⟩
  · cases hv
  · cases hv
    exact hl
theorem slc_two {α : Type} {w : World} {c : Nat} {R : World → Nat → Nat → α → Prop} {b o g cp : Nat} {x y : α} (hc : w.cell? ⟨b, o, none⟩ = some (.slice (some ⟨g, 0, none⟩) 2 cp)) (h0 : R w g 0 x) (h1 : R w g (1 * c) y) (hcp : 2 ≤ cp) : SlC c R w b o [x, y] :=
  ⟨_, cp, hc, .inr ⟨g, 0, rfl, fun j z hz => by
    match j, hz with
    | 0, hz => simp at hz; subst hz; simpa using h0
    | 1, hz => simp at hz; subst hz; rw [Nat.zero_add]; exact h1
    | j + 2, hz => simp at hz⟩, hcp, by unfold maxLen; simp⟩
/-- The law's program. -/
def ptab : Pr8 := ⟨[[(0, 0), (1, 1)], [(0, 0), (0, 0)]], [([], 0, 0), ([(1, 0)], 0, 0)], [[0, 0]], [(0, 0, [1, 1])], [⟨0, [(0, 0), (1, 0), (1, 1), (2, 0), (3, 0)], [⟨[⟨1, 0, 0, 0, 7, []⟩], 3, 0, 0, 0⟩]⟩, ⟨1, [(1, 0), (0, 0)], [⟨[⟨1, 1, 0, 0, 0, []⟩], 3, 1, 0, 0⟩]⟩], 0⟩
theorem ptab_nm : namesO ptab = none := by decide +kernel
theorem slc_lit {α : Type} {w : World} {c : Nat} {R : World → Nat → Nat → α → Prop} {b o g n : Nat} {l : List α} (hc : w.cell? ⟨b, o, none⟩ = some (.slice (some ⟨g, 0, none⟩) n n)) (hl : l.length = n) (hn : n ≤ 100) (h : ∀ (j : Nat) (y : α), l[j]? = some y → R w g (j * c) y) : SlC c R w b o l :=
  ⟨_, n, by rw [hl]; exact hc, .inr ⟨g, 0, rfl, fun j z hz => by rw [Nat.zero_add]; exact h j z hz⟩, by omega, by unfold maxLen; omega⟩
theorem grown_heap {w w' : World} {r : Option Nat} {b : Nat} {cs : Array Value} {T : TypeId} (hg : w.grownBy w' r) (h : w.heap[b]? = some (.cells cs T (0, 0))) (hn : r ≠ some b) : w'.heap[b]? = some (.cells cs T (0, 0)) := by
  rw [hg.block b (heap_lt h) (fun e => hn e.symm)]
  exact h
theorem put_heap {w : World} {a : Addr} {v : Value} {b : Nat} {cs : Array Value} {T : TypeId} (h : w.heap[b]? = some (.cells cs T (0, 0))) (hn : b ≠ a.block) : (w.setCell a v).heap[b]? = some (.cells cs T (0, 0)) := (heap_setCell_other _ _ _ _ hn).trans h
theorem ty_c {w : World} {b o : Nat} {cs : Array Value} {k n : Int} (h : w.heap[b]? = some (.cells cs 39 (0, 0))) (h0 : cs[o]? = some (.int .i64 k)) (h1 : cs[o + 1]? = some (.int .i64 n)) (hk : -100 ≤ k ∧ k ≤ 100) (hn : -100 ≤ n ∧ n ≤ 100) : TyC w b o (k, n) := ⟨IntC.of ((hcell h _).trans h0) hk, IntC.of ((hcell h _).trans h1) hn⟩
set_option maxRecDepth 20000 in
theorem oneC (u : Value) (l : List Value) (hl : l.all (fun u => u.oneCell') = true) (hu : u ∈ l) : u.oneCell' = true := List.all_eq_true.1 hl u hu
theorem row_ne {w : World} {base n : Nat} {v : Value} {xs : List Value} {T : TypeId} {c b : Nat} {cs : Array Value} {U : TypeId} (h : w.ownsRow base T c v n xs) (hb : w.heap[b]? = some (.cells cs U (0, 0))) (hne : T ≠ U) : v.ownBlock ≠ some b := by
  intro e
  rcases h.2 with ⟨rfl, _⟩ | ⟨g, cap, cur, rfl, _, hg, _⟩
  · simp [Value.ownBlock] at e
  · simp [Value.ownBlock] at e
    subst e
    rw [hg] at hb
    simp at hb
    exact hne hb.2
/-- The table's blocks: records, interfaces, signatures, the first function's. -/
structure TB (w : World) (q n0 g5 cap5 : Nat) : Prop where
  r0 : w.heap[n0]? = some (.cells #[.int .i64 0, .int .i64 0, .int .i64 1, .int .i64 1] 39 (0, 0))
  r1 : w.heap[n0 + 1]? = some (.cells #[.int .i64 0, .int .i64 0, .int .i64 0, .int .i64 0] 39 (0, 0))
  r2 : w.heap[n0 + 2]? = some (.cells #[.slice (some ⟨n0, 0, none⟩) 2 2, .slice (some ⟨n0 + 1, 0, none⟩) 2 2] 26 (0, 0))
  i3 : w.heap[n0 + 3]? = some (.cells #[.int .i64 0, .int .i64 0] 3 (0, 0))
  i4 : w.heap[n0 + 4]? = some (.cells #[.slice (some ⟨n0 + 3, 0, none⟩) 2 2] 61 (0, 0))
  t5 : w.heap[n0 + 5]? = some (.cells #[.int .i64 1, .int .i64 0] 39 (0, 0))
  o1 : w.heap[q + 1]? = some (.cells #[.int .i64 0, .int .i64 0] 39 (0, 0))
  o2 : w.heap[q + 2]? = some (.cells #[.int .i64 1, .int .i64 0, .int .i64 0, .int .i64 0, .int .i64 7, .slice none 0 0] 54 (0, 0))
  o3 : w.heap[q + 3]? = some (.cells #[.slice (some ⟨q + 2, 0, none⟩) 1 1, .int .i64 3, .int .i64 0, .int .i64 0, .int .i64 0] 44 (0, 0))
  sg : w.ownsRow q 41 3 (.slice (some ⟨g5, 0, none⟩) 2 cap5) 2 [.slice none 0 0, .int .i64 0, .int .i64 0, .slice (some ⟨n0 + 5, 0, none⟩) 1 1, .int .i64 0, .int .i64 0]
theorem TB.keeps {w w' : World} {q n0 g5 cap5 : Nat} {L : List Nat} (h : TB w q n0 g5 cap5) (k : Keeps L w w') (hL : ∀ x, x ∈ L → x ≠ n0 ∧ x ≠ n0 + 1 ∧ x ≠ n0 + 2 ∧ x ≠ n0 + 3 ∧ x ≠ n0 + 4 ∧ x ≠ n0 + 5 ∧ x ≠ q + 1 ∧ x ≠ q + 2 ∧ x ≠ q + 3 ∧ x ≠ g5) : TB w' q n0 g5 cap5 := by
  have hk : ∀ (b : Nat) (cs : Array Value) (T : TypeId), w.heap[b]? = some (.cells cs T (0, 0)) → b ∉ L → w'.heap[b]? = some (.cells cs T (0, 0)) := fun b cs T hb hn => (k.block b (heap_lt hb) hn).trans hb
  exact ⟨hk _ _ _ h.r0 (fun hx => (hL _ hx).1 rfl), hk _ _ _ h.r1 (fun hx => (hL _ hx).2.1 rfl), hk _ _ _ h.r2 (fun hx => (hL _ hx).2.2.1 rfl), hk _ _ _ h.i3 (fun hx => (hL _ hx).2.2.2.1 rfl), hk _ _ _ h.i4 (fun hx => (hL _ hx).2.2.2.2.1 rfl), hk _ _ _ h.t5 (fun hx => (hL _ hx).2.2.2.2.2.1 rfl), hk _ _ _ h.o1 (fun hx => (hL _ hx).2.2.2.2.2.2.1 rfl), hk _ _ _ h.o2 (fun hx => (hL _ hx).2.2.2.2.2.2.2.1 rfl), hk _ _ _ h.o3 (fun hx => (hL _ hx).2.2.2.2.2.2.2.2.1 rfl), ownsRow_keeps h.sg k (fun b hb hx => by simp [Value.ownBlock] at hb; subst hb; exact (hL _ hx).2.2.2.2.2.2.2.2.2 rfl)⟩
theorem TB.quiet {w w' : World} {q n0 g5 cap5 : Nat} (h : TB w q n0 g5 cap5) (k : Keeps [] w w') : TB w' q n0 g5 cap5 := h.keeps k (fun x hx => by cases hx)
/-- A block of another type than all of the table's. -/
theorem TB.ne {w : World} {q n0 g5 cap5 b : Nat} {cs : Array Value} {T : TypeId} (h : TB w q n0 g5 cap5) (hb : w.heap[b]? = some (.cells cs T (0, 0))) (hT : T ≠ 39 ∧ T ≠ 26 ∧ T ≠ 3 ∧ T ≠ 61 ∧ T ≠ 54 ∧ T ≠ 44 ∧ 41 ≠ T) : b ≠ n0 ∧ b ≠ n0 + 1 ∧ b ≠ n0 + 2 ∧ b ≠ n0 + 3 ∧ b ≠ n0 + 4 ∧ b ≠ n0 + 5 ∧ b ≠ q + 1 ∧ b ≠ q + 2 ∧ b ≠ q + 3 ∧ b ≠ g5 := by
  have hk : ∀ (c : Nat) (ds : Array Value) (U : TypeId), w.heap[c]? = some (.cells ds U (0, 0)) → T ≠ U → b ≠ c := fun c ds U hc hne e => by
    subst e
    rw [hc] at hb
    simp at hb
    exact hne hb.2.symm
  exact ⟨hk _ _ _ h.r0 hT.1, hk _ _ _ h.r1 hT.1, hk _ _ _ h.r2 hT.2.1, hk _ _ _ h.i3 hT.2.2.1, hk _ _ _ h.i4 hT.2.2.2.1, hk _ _ _ h.t5 hT.1, hk _ _ _ h.o1 hT.1, hk _ _ _ h.o2 hT.2.2.2.2.1, hk _ _ _ h.o3 hT.2.2.2.2.2.1, fun e => row_ne h.sg hb hT.2.2.2.2.2.2 (by rw [e]; rfl)⟩
set_option maxRecDepth 20000 in
set_option maxHeartbeats 40000000 in
theorem tt_in (op d a b n : Int) (w : World) (hg : Glob w) (h1 : ¬ op < 1) (h2 : ¬ 15 < op) (h3 : ¬ d < 0) (h4 : ¬ 4 < d) (h5 : ¬ a < 0) (h6 : ¬ 4 < a) (h7 : ¬ b < 0) (h8 : ¬ 4 < b) (h9 : ¬ n < 0) (h10 : ¬ 1 < n) : Calls Tryd.prog 7 #[.int .i64 op, .int .i64 d, .int .i64 a, .int .i64 b, .int .i64 n] w fun e w' => e = .returned (.bool true) ∧ Keeps [] w w' := by
  have HG := hid hg
  have HB := hid (begun_any w hg)
  have HO := hid fun (w' : World) => one_any w'
  clear hg
  go_enter Tryd.func7, Tryd.ntmps7
  go_wp2_with fail
  refine HB.out.mono ?_
  rintro e w1 ⟨rfl, k1⟩
  have K1 := hid k1
  clear HB k1
  go_wp2_with fail
  refine (HO.out _).mono ?_
  rintro e w2 ⟨rfl, o2, k2⟩
  obtain ⟨q, hq⟩ : ∃ q, q = w1.heap.size := ⟨_, rfl⟩
  rw [← hq] at o2 ⊢
  have hqw : Box (w.heap.size ≤ q) := hid (by have := K1.out.size; omega)
  have O2 := hid o2
  have K2 := hid (K1.out.quiet k2)
  have hq2 : Box (q + 5 < w2.heap.size) := hid (heap_lt o2.h5)
  have ka7 : Keeps [] w2 (((w2.alloc (.cells #[.int .i64 0, .int .i64 0, .int .i64 1, .int .i64 1] 39)).alloc (.cells #[.int .i64 0, .int .i64 0, .int .i64 0, .int .i64 0] 39)).alloc (.cells #[.slice (some ⟨w2.heap.size, 0, none⟩) 2 2, .slice (some ⟨w2.heap.size + 1, 0, none⟩) 2 2] 26)) := ((Keeps.alloc [] _ _).quiet (Keeps.alloc [] _ _)).quiet (Keeps.alloc [] _ _)
  have j7 := keep_heap o2.h5 ka7
  have p0 := hcell j7 0
  have z0 := hfrozen j7 0
  have J7 := hid j7
  have B7 : Box (((((w2.alloc (.cells #[.int .i64 0, .int .i64 0, .int .i64 1, .int .i64 1] 39)).alloc (.cells #[.int .i64 0, .int .i64 0, .int .i64 0, .int .i64 0] 39)).alloc (.cells #[.slice (some ⟨w2.heap.size, 0, none⟩) 2 2, .slice (some ⟨w2.heap.size + 1, 0, none⟩) 2 2] 26))).heap[w2.heap.size]? = some (.cells #[.int .i64 0, .int .i64 0, .int .i64 1, .int .i64 1] 39 (0, 0)) ∧ ((((w2.alloc (.cells #[.int .i64 0, .int .i64 0, .int .i64 1, .int .i64 1] 39)).alloc (.cells #[.int .i64 0, .int .i64 0, .int .i64 0, .int .i64 0] 39)).alloc (.cells #[.slice (some ⟨w2.heap.size, 0, none⟩) 2 2, .slice (some ⟨w2.heap.size + 1, 0, none⟩) 2 2] 26))).heap[w2.heap.size + 1]? = some (.cells #[.int .i64 0, .int .i64 0, .int .i64 0, .int .i64 0] 39 (0, 0)) ∧ ((((w2.alloc (.cells #[.int .i64 0, .int .i64 0, .int .i64 1, .int .i64 1] 39)).alloc (.cells #[.int .i64 0, .int .i64 0, .int .i64 0, .int .i64 0] 39)).alloc (.cells #[.slice (some ⟨w2.heap.size, 0, none⟩) 2 2, .slice (some ⟨w2.heap.size + 1, 0, none⟩) 2 2] 26))).heap[w2.heap.size + 1 + 1]? = some (.cells #[.slice (some ⟨w2.heap.size, 0, none⟩) 2 2, .slice (some ⟨w2.heap.size + 1, 0, none⟩) 2 2] 26 (0, 0)) ∧ ((((w2.alloc (.cells #[.int .i64 0, .int .i64 0, .int .i64 1, .int .i64 1] 39)).alloc (.cells #[.int .i64 0, .int .i64 0, .int .i64 0, .int .i64 0] 39)).alloc (.cells #[.slice (some ⟨w2.heap.size, 0, none⟩) 2 2, .slice (some ⟨w2.heap.size + 1, 0, none⟩) 2 2] 26))).heap.size = w2.heap.size + 3 ∧ Keeps [] w2 (((w2.alloc (.cells #[.int .i64 0, .int .i64 0, .int .i64 1, .int .i64 1] 39)).alloc (.cells #[.int .i64 0, .int .i64 0, .int .i64 0, .int .i64 0] 39)).alloc (.cells #[.slice (some ⟨w2.heap.size, 0, none⟩) 2 2, .slice (some ⟨w2.heap.size + 1, 0, none⟩) 2 2] 26))) := hid
    ⟨keep_heap (heap_new w2 _) ((Keeps.alloc [] _ _).quiet (Keeps.alloc [] _ _)), keep_heap (heap_at (by simp)) (Keeps.alloc [] _ _), heap_at (by simp), by simp, ka7⟩
  clear o2 k2 hq ka7 j7
  go_upto_region 8 with fail
  clear p0 z0
  generalize (((w2.alloc (.cells #[.int .i64 0, .int .i64 0, .int .i64 1, .int .i64 1] 39)).alloc (.cells #[.int .i64 0, .int .i64 0, .int .i64 0, .int .i64 0] 39)).alloc (.cells #[.slice (some ⟨w2.heap.size, 0, none⟩) 2 2, .slice (some ⟨w2.heap.size + 1, 0, none⟩) 2 2] 26)) = W7 at *
  have E3 : Box ((W7.setCell ⟨q + 5, 0, none⟩ (.slice (some ⟨w2.heap.size + 1 + 1, 0, none⟩) 2 2)).heap[q + 5]? = some (.cells #[.slice (some ⟨w2.heap.size + 1 + 1, 0, none⟩) 2 2, .slice (some ⟨q, 0, none⟩) 1 1, .slice none 0 0, .slice none 0 0, .slice (some ⟨q + 4, 0, none⟩) 1 1, .int .i64 0] 36 (0, 0)) ∧ Keeps [q + 5] W7 (W7.setCell ⟨q + 5, 0, none⟩ (.slice (some ⟨w2.heap.size + 1 + 1, 0, none⟩) 2 2)) ∧ (W7.setCell ⟨q + 5, 0, none⟩ (.slice (some ⟨w2.heap.size + 1 + 1, 0, none⟩) 2 2)).heap.size = W7.heap.size) := hid ⟨heap_setCell_same _ _ 0 _ _ _ J7.out, Keeps.setCell _ _ _ _ (List.mem_singleton.2 rfl), by simp [World.setCell]⟩
  generalize W7.setCell ⟨q + 5, 0, none⟩ (.slice (some ⟨w2.heap.size + 1 + 1, 0, none⟩) 2 2) = w3 at *
  have k3 : Keeps [q + 5] w2 w3 := (B7.out.2.2.2.2.mono (fun x hx => by cases hx)).step E3.out.2.1
  have s3 : w3.heap.size = w2.heap.size + 3 := by rw [E3.out.2.2, B7.out.2.2.2.1]
  have ff : ∀ x, x ≠ q + 5 → x < W7.heap.size → w3.heap[x]? = W7.heap[x]? := fun x hx hl => E3.out.2.1.block x hl (by simpa using hx)
  have hqs := hq2.out
  have sz7 := B7.out.2.2.2.1
  have F3 : Box (w3.heap[w2.heap.size]? = some (.cells #[.int .i64 0, .int .i64 0, .int .i64 1, .int .i64 1] 39 (0, 0)) ∧ w3.heap[w2.heap.size + 1]? = some (.cells #[.int .i64 0, .int .i64 0, .int .i64 0, .int .i64 0] 39 (0, 0)) ∧ w3.heap[w2.heap.size + 1 + 1]? = some (.cells #[.slice (some ⟨w2.heap.size, 0, none⟩) 2 2, .slice (some ⟨w2.heap.size + 1, 0, none⟩) 2 2] 26 (0, 0))) := hid
    ⟨(ff _ (by omega) (by omega)).trans B7.out.1, (ff _ (by omega) (by omega)).trans B7.out.2.1, (ff _ (by omega) (by omega)).trans B7.out.2.2.1⟩
  have hp3 := E3.out.1
  have KK3 := hid k3
  have S3 := hid s3
  clear k3 s3 ff sz7 E3 B7 J7
  obtain ⟨n0, hn0⟩ : ∃ n0, n0 = w2.heap.size := ⟨_, rfl⟩
  rw [← hn0] at S3 F3 hp3 hqs
  have ka8 : Keeps [] w3 ((w3.alloc (.cells #[.int .i64 0, .int .i64 0] 3)).alloc (.cells #[.slice (some ⟨w3.heap.size, 0, none⟩) 2 2] 61)) := (Keeps.alloc [] _ _).quiet (Keeps.alloc [] _ _)
  have j8 := keep_heap hp3 ka8
  have p2 := hcell j8 2
  have z2 := hfrozen j8 2
  have J8 := hid j8
  have B8 : Box ((((w3.alloc (.cells #[.int .i64 0, .int .i64 0] 3)).alloc (.cells #[.slice (some ⟨w3.heap.size, 0, none⟩) 2 2] 61))).heap[w3.heap.size]? = some (.cells #[.int .i64 0, .int .i64 0] 3 (0, 0)) ∧ (((w3.alloc (.cells #[.int .i64 0, .int .i64 0] 3)).alloc (.cells #[.slice (some ⟨w3.heap.size, 0, none⟩) 2 2] 61))).heap[w3.heap.size + 1]? = some (.cells #[.slice (some ⟨w3.heap.size, 0, none⟩) 2 2] 61 (0, 0)) ∧ (((w3.alloc (.cells #[.int .i64 0, .int .i64 0] 3)).alloc (.cells #[.slice (some ⟨w3.heap.size, 0, none⟩) 2 2] 61))).heap.size = w3.heap.size + 2 ∧ Keeps [] w3 ((w3.alloc (.cells #[.int .i64 0, .int .i64 0] 3)).alloc (.cells #[.slice (some ⟨w3.heap.size, 0, none⟩) 2 2] 61))) := hid
    ⟨keep_heap (heap_new w3 _) (Keeps.alloc [] _ _), heap_at (by simp), by simp, ka8⟩
  have hqs3 : Box (q + 5 < n0) := hid hqs
  have HN0 := hid hn0
  clear ka8 j8 hp3 hqs hn0
  go_upto_region 9 with fail
  clear p2 z2
  generalize ((w3.alloc (.cells #[.int .i64 0, .int .i64 0] 3)).alloc (.cells #[.slice (some ⟨w3.heap.size, 0, none⟩) 2 2] 61)) = W8 at *
  have E4 : Box ((W8.setCell ⟨q + 5, 2, none⟩ (.slice (some ⟨w3.heap.size + 1, 0, none⟩) 1 1)).heap[q + 5]? = some (.cells #[.slice (some ⟨n0 + 1 + 1, 0, none⟩) 2 2, .slice (some ⟨q, 0, none⟩) 1 1, .slice (some ⟨w3.heap.size + 1, 0, none⟩) 1 1, .slice none 0 0, .slice (some ⟨q + 4, 0, none⟩) 1 1, .int .i64 0] 36 (0, 0)) ∧ Keeps [q + 5] W8 (W8.setCell ⟨q + 5, 2, none⟩ (.slice (some ⟨w3.heap.size + 1, 0, none⟩) 1 1)) ∧ (W8.setCell ⟨q + 5, 2, none⟩ (.slice (some ⟨w3.heap.size + 1, 0, none⟩) 1 1)).heap.size = W8.heap.size) := hid ⟨heap_setCell_same _ _ 2 _ _ _ J8.out, Keeps.setCell _ _ _ _ (List.mem_singleton.2 rfl), by simp [World.setCell]⟩
  generalize W8.setCell ⟨q + 5, 2, none⟩ (.slice (some ⟨w3.heap.size + 1, 0, none⟩) 1 1) = w4 at *
  have k4 : Keeps [q + 5] w3 w4 := (B8.out.2.2.2.mono (fun x hx => by cases hx)).step E4.out.2.1
  have s4 : w4.heap.size = n0 + 5 := by rw [E4.out.2.2, B8.out.2.2.1, S3.out]
  have ff : ∀ x, x ≠ q + 5 → x < W8.heap.size → w4.heap[x]? = W8.heap[x]? := fun x hx hl => E4.out.2.1.block x hl (by simpa using hx)
  have hqs := hqs3.out
  have sz8 := B8.out.2.2.1
  have s3' := S3.out
  have F4 : Box (w4.heap[n0 + 3]? = some (.cells #[.int .i64 0, .int .i64 0] 3 (0, 0)) ∧ w4.heap[n0 + 4]? = some (.cells #[.slice (some ⟨n0 + 3, 0, none⟩) 2 2] 61 (0, 0))) := hid (by
    have b1 := B8.out.1
    have b2 := B8.out.2.1
    rw [s3'] at b1 b2
    exact ⟨(ff _ (by omega) (by omega)).trans b1, (ff _ (by omega) (by omega)).trans b2⟩)
  have F4r : Box (w4.heap[n0]? = some (.cells #[.int .i64 0, .int .i64 0, .int .i64 1, .int .i64 1] 39 (0, 0)) ∧ w4.heap[n0 + 1]? = some (.cells #[.int .i64 0, .int .i64 0, .int .i64 0, .int .i64 0] 39 (0, 0)) ∧ w4.heap[n0 + 1 + 1]? = some (.cells #[.slice (some ⟨n0, 0, none⟩) 2 2, .slice (some ⟨n0 + 1, 0, none⟩) 2 2] 26 (0, 0))) := hid
    ⟨(k4.block _ (by omega) (by simp; omega)).trans F3.out.1, (k4.block _ (by omega) (by simp; omega)).trans F3.out.2.1, (k4.block _ (by omega) (by simp; omega)).trans F3.out.2.2⟩
  have hp4 := E4.out.1
  rw [s3'] at hp4
  have KK4 := hid (KK3.out.step k4)
  have hn0' := HN0.out
  have O4 : Box (w4.heap[q]? = some (.cells #[.slice none 0 0, .int .i64 0, .int .i64 0] 41 (0, 0)) ∧ w4.heap[q + 1]? = some (.cells #[.int .i64 0, .int .i64 0] 39 (0, 0)) ∧ w4.heap[q + 2]? = some (.cells #[.int .i64 1, .int .i64 0, .int .i64 0, .int .i64 0, .int .i64 7, .slice none 0 0] 54 (0, 0)) ∧ w4.heap[q + 3]? = some (.cells #[.slice (some ⟨q + 2, 0, none⟩) 1 1, .int .i64 3, .int .i64 0, .int .i64 0, .int .i64 0] 44 (0, 0)) ∧ w4.heap[q + 4]? = some (.cells #[.int .i64 0, .slice (some ⟨q + 1, 0, none⟩) 1 1, .slice (some ⟨q + 3, 0, none⟩) 1 1] 29 (0, 0))) := hid
    ⟨(KK4.out.block _ (by omega) (by simp)).trans O2.out.h0, (KK4.out.block _ (by omega) (by simp)).trans O2.out.h1, (KK4.out.block _ (by omega) (by simp)).trans O2.out.h2, (KK4.out.block _ (by omega) (by simp)).trans O2.out.h3, (KK4.out.block _ (by omega) (by simp)).trans O2.out.h4⟩
  have S4 := hid s4
  clear k4 s4 ff sz8 E4 B8 J8 F3 S3 KK3 s3' O2
  have ka9 : Keeps [] w4 ((w4.alloc (.cells #[.int .i64 1, .int .i64 0] 39)).alloc (.cells #[.slice (some ⟨w4.heap.size, 0, none⟩) 1 1, .int .i64 0, .int .i64 0] 41)) := (Keeps.alloc [] _ _).quiet (Keeps.alloc [] _ _)
  have p1 := hcell hp4 1
  have p1' := hcell (keep_heap hp4 (Keeps.alloc [] w4 (.cells #[.int .i64 1, .int .i64 0] 39))) 1
  have p1'' := hcell (keep_heap hp4 ka9) 1
  have OW9 : Box ((((w4.alloc (.cells #[.int .i64 1, .int .i64 0] 39)).alloc (.cells #[.slice (some ⟨w4.heap.size, 0, none⟩) 1 1, .int .i64 0, .int .i64 0] 41))).ownsRow q 41 3 (.slice (some ⟨q, 0, none⟩) 1 1) 1 [.slice none 0 0, .int .i64 0, .int .i64 0]) := hid (own_lit (keep_heap O4.out.1 ka9) (Nat.le_refl _) rfl (by unfold maxLen; omega))
  have NW9 : Box ((((w4.alloc (.cells #[.int .i64 1, .int .i64 0] 39)).alloc (.cells #[.slice (some ⟨w4.heap.size, 0, none⟩) 1 1, .int .i64 0, .int .i64 0] 41))).heap[w4.heap.size + 1]? = some (.cells #[.slice (some ⟨w4.heap.size, 0, none⟩) 1 1, .int .i64 0, .int .i64 0] 41 (0, 0)) ∧ (((w4.alloc (.cells #[.int .i64 1, .int .i64 0] 39)).alloc (.cells #[.slice (some ⟨w4.heap.size, 0, none⟩) 1 1, .int .i64 0, .int .i64 0] 41))).heap[w4.heap.size]? = some (.cells #[.int .i64 1, .int .i64 0] 39 (0, 0)) ∧ (((w4.alloc (.cells #[.int .i64 1, .int .i64 0] 39)).alloc (.cells #[.slice (some ⟨w4.heap.size, 0, none⟩) 1 1, .int .i64 0, .int .i64 0] 41))).heap.size = w4.heap.size + 2) := hid ⟨heap_at (by simp), keep_heap (heap_new w4 _) (Keeps.alloc [] _ _), by simp⟩
  have HP4 := hid hp4
  have KA9 := hid ka9
  have s4n : q ≤ w4.heap.size := by have := S4.out; omega
  clear ka9 hp4
  go_upto_region 10 with (at_builtin; go_must (refine wpList_append_lies _ rfl _ _ _ rfl q 41 Tryd.t41 (.agg #[.slice none 0 0, .int .i64 0, .int .i64 0]) 3 40 under_sgs info_sg zero_sg size_sg bytes_sg rfl (by decide) (.slice (some ⟨q, 0, none⟩) 1 1) 1 [.slice none 0 0, .int .i64 0, .int .i64 0] rfl OW9.out ⟨w4.heap.size + 1, 0, none⟩ 1 1 [.slice (some ⟨w4.heap.size, 0, none⟩) 1 1, .int .i64 0, .int .i64 0] rfl rfl (World.news_of_block NW9.out.1) (fun u hu => oneC u _ rfl hu) (by decide) (by unfold maxLen; omega) (by omega) (by simp; omega) (w4.heap.size + 2) (by simp) ?_; intro g5 cap5 w5a hown5 hgrow5 hat5 hlt5; have hb5 := grown_heap hgrow5 (keep_heap HP4.out KA9.out) (by simp [Value.ownBlock]); have y1 := hcell hb5 1; have x1 := hfrozen hb5 1; have HB5 := hid hb5; have HOW5 := hid hown5; have HGR5 := hid hgrow5; have HAT5 := hid hat5; clear hb5 hown5 hgrow5 hat5))
  clear p1 p1' p1'' y1 x1
  have E5 : Box ((w5a.setCell ⟨q + 5, 1, none⟩ (.slice (some ⟨g5, 0, none⟩) 2 cap5)).heap[q + 5]? = some (.cells #[.slice (some ⟨n0 + 1 + 1, 0, none⟩) 2 2, .slice (some ⟨g5, 0, none⟩) 2 cap5, .slice (some ⟨n0 + 3 + 1, 0, none⟩) 1 1, .slice none 0 0, .slice (some ⟨q + 4, 0, none⟩) 1 1, .int .i64 0] 36 (0, 0)) ∧ Keeps [q + 5] w5a (w5a.setCell ⟨q + 5, 1, none⟩ (.slice (some ⟨g5, 0, none⟩) 2 cap5))) := hid ⟨heap_setCell_same _ _ 1 _ _ _ HB5.out, Keeps.setCell _ _ _ _ (List.mem_singleton.2 rfl)⟩
  generalize w5a.setCell ⟨q + 5, 1, none⟩ (.slice (some ⟨g5, 0, none⟩) 2 cap5) = w5 at *
  have hs4 := S4.out
  have T9 : ∀ (b : Nat) (cs : Array Value) (T : TypeId), w4.heap[b]? = some (.cells cs T (0, 0)) → b ≠ q → b ≠ q + 5 → w5.heap[b]? = some (.cells cs T (0, 0)) := fun b cs T hb h1 h2 => by
    have h3 := grown_heap HGR5.out (keep_heap hb KA9.out) (by simp [Value.ownBlock]; omega)
    exact (E5.out.2.block b (heap_lt h3) (by simpa using h2)).trans h3
  have TB5 : Box (TB w5 q n0 g5 cap5) := hid
    ⟨T9 _ _ _ F4r.out.1 (by omega) (by omega), T9 _ _ _ F4r.out.2.1 (by omega) (by omega), T9 _ _ _ F4r.out.2.2 (by omega) (by omega), T9 _ _ _ F4.out.1 (by omega) (by omega), T9 _ _ _ F4.out.2 (by omega) (by omega), by
      have h3 := grown_heap HGR5.out NW9.out.2.1 (by simp [Value.ownBlock]; omega)
      rw [hs4] at h3
      exact (E5.out.2.block _ (heap_lt h3) (by simp; omega)).trans h3, T9 _ _ _ O4.out.2.1 (by omega) (by omega), T9 _ _ _ O4.out.2.2.1 (by omega) (by omega), T9 _ _ _ O4.out.2.2.2.1 (by omega) (by omega), by
      have h3 := HOW5.out
      rw [hs4] at h3
      exact ownsRow_keeps h3 E5.out.2 (fun b hb hx => row_ne HOW5.out HB5.out (by decide) (by rw [hb]; simp at hx; rw [hx]))⟩
  have O45 : Box (w5.heap[q + 4]? = some (.cells #[.int .i64 0, .slice (some ⟨q + 1, 0, none⟩) 1 1, .slice (some ⟨q + 3, 0, none⟩) 1 1] 29 (0, 0))) := hid (T9 _ _ _ O4.out.2.2.2.2 (by omega) (by omega))
  have K5 : Box (Keeps [] w w5) := hid (by
    have k1 : Keeps [q] w4 w5a := (KA9.out.mono (fun x hx => by cases hx)).step (Keeps.grown [q] HGR5.out (fun k hk => by simp [Value.ownBlock] at hk; simp [hk]))
    have hw := hqw.out
    exact ((K2.out.trans KK4.out (fun x hx hl => by simp at hx; omega)).trans k1 (fun x hx hl => by simp at hx; omega)).trans E5.out.2 (fun x hx hl => by simp at hx; omega))
  have hp5 := E5.out.1
  clear E5 T9 F4 F4r O4 HB5 HOW5 HGR5 NW9 OW9 HAT5 KK4 K2 HP4 KA9 hlt5 hn0' hs4 s4n
  have ka10 : Keeps [] w5 ((((w5.alloc (.cells #[.int .i64 1, .int .i64 0, .int .i64 0, .int .i64 0] 39)).alloc (.cells #[.int .i64 1, .int .i64 1, .int .i64 0, .int .i64 0, .int .i64 0, .slice none 0 0] 54)).alloc (.cells #[.slice (some ⟨w5.heap.size + 1, 0, none⟩) 1 1, .int .i64 3, .int .i64 1, .int .i64 0, .int .i64 0] 44)).alloc (.cells #[.int .i64 1, .slice (some ⟨w5.heap.size, 0, none⟩) 2 2, .slice (some ⟨w5.heap.size + 1 + 1, 0, none⟩) 1 1] 29)) := (((Keeps.alloc [] _ _).quiet (Keeps.alloc [] _ _)).quiet (Keeps.alloc [] _ _)).quiet (Keeps.alloc [] _ _)
  have B10 : Box ((((((w5.alloc (.cells #[.int .i64 1, .int .i64 0, .int .i64 0, .int .i64 0] 39)).alloc (.cells #[.int .i64 1, .int .i64 1, .int .i64 0, .int .i64 0, .int .i64 0, .slice none 0 0] 54)).alloc (.cells #[.slice (some ⟨w5.heap.size + 1, 0, none⟩) 1 1, .int .i64 3, .int .i64 1, .int .i64 0, .int .i64 0] 44)).alloc (.cells #[.int .i64 1, .slice (some ⟨w5.heap.size, 0, none⟩) 2 2, .slice (some ⟨w5.heap.size + 1 + 1, 0, none⟩) 1 1] 29))).heap[w5.heap.size]? = some (.cells #[.int .i64 1, .int .i64 0, .int .i64 0, .int .i64 0] 39 (0, 0)) ∧ (((((w5.alloc (.cells #[.int .i64 1, .int .i64 0, .int .i64 0, .int .i64 0] 39)).alloc (.cells #[.int .i64 1, .int .i64 1, .int .i64 0, .int .i64 0, .int .i64 0, .slice none 0 0] 54)).alloc (.cells #[.slice (some ⟨w5.heap.size + 1, 0, none⟩) 1 1, .int .i64 3, .int .i64 1, .int .i64 0, .int .i64 0] 44)).alloc (.cells #[.int .i64 1, .slice (some ⟨w5.heap.size, 0, none⟩) 2 2, .slice (some ⟨w5.heap.size + 1 + 1, 0, none⟩) 1 1] 29))).heap[w5.heap.size + 1]? = some (.cells #[.int .i64 1, .int .i64 1, .int .i64 0, .int .i64 0, .int .i64 0, .slice none 0 0] 54 (0, 0)) ∧ (((((w5.alloc (.cells #[.int .i64 1, .int .i64 0, .int .i64 0, .int .i64 0] 39)).alloc (.cells #[.int .i64 1, .int .i64 1, .int .i64 0, .int .i64 0, .int .i64 0, .slice none 0 0] 54)).alloc (.cells #[.slice (some ⟨w5.heap.size + 1, 0, none⟩) 1 1, .int .i64 3, .int .i64 1, .int .i64 0, .int .i64 0] 44)).alloc (.cells #[.int .i64 1, .slice (some ⟨w5.heap.size, 0, none⟩) 2 2, .slice (some ⟨w5.heap.size + 1 + 1, 0, none⟩) 1 1] 29))).heap[w5.heap.size + 1 + 1]? = some (.cells #[.slice (some ⟨w5.heap.size + 1, 0, none⟩) 1 1, .int .i64 3, .int .i64 1, .int .i64 0, .int .i64 0] 44 (0, 0)) ∧ (((((w5.alloc (.cells #[.int .i64 1, .int .i64 0, .int .i64 0, .int .i64 0] 39)).alloc (.cells #[.int .i64 1, .int .i64 1, .int .i64 0, .int .i64 0, .int .i64 0, .slice none 0 0] 54)).alloc (.cells #[.slice (some ⟨w5.heap.size + 1, 0, none⟩) 1 1, .int .i64 3, .int .i64 1, .int .i64 0, .int .i64 0] 44)).alloc (.cells #[.int .i64 1, .slice (some ⟨w5.heap.size, 0, none⟩) 2 2, .slice (some ⟨w5.heap.size + 1 + 1, 0, none⟩) 1 1] 29))).heap[w5.heap.size + 1 + 1 + 1]? = some (.cells #[.int .i64 1, .slice (some ⟨w5.heap.size, 0, none⟩) 2 2, .slice (some ⟨w5.heap.size + 1 + 1, 0, none⟩) 1 1] 29 (0, 0))) := hid
    ⟨keep_heap (heap_new w5 _) (((Keeps.alloc [] _ _).quiet (Keeps.alloc [] _ _)).quiet (Keeps.alloc [] _ _)), keep_heap (heap_at (by simp)) ((Keeps.alloc [] _ _).quiet (Keeps.alloc [] _ _)), keep_heap (heap_at (by simp)) (Keeps.alloc [] _ _), heap_at (by simp)⟩
  have HP6 := hid (keep_heap hp5 ka10)
  have TB6 := hid (TB5.out.quiet ka10)
  have O46 := hid (keep_heap O45.out ka10)
  have K6 := hid (K5.out.quiet ka10)
  clear ka10 hp5 TB5 O45 K5
  go_upto_region 11 with fail
  generalize ((((w5.alloc (.cells #[.int .i64 1, .int .i64 0, .int .i64 0, .int .i64 0] 39)).alloc (.cells #[.int .i64 1, .int .i64 1, .int .i64 0, .int .i64 0, .int .i64 0, .slice none 0 0] 54)).alloc (.cells #[.slice (some ⟨w5.heap.size + 1, 0, none⟩) 1 1, .int .i64 3, .int .i64 1, .int .i64 0, .int .i64 0] 44)).alloc (.cells #[.int .i64 1, .slice (some ⟨w5.heap.size, 0, none⟩) 2 2, .slice (some ⟨w5.heap.size + 1 + 1, 0, none⟩) 1 1] 29)) = w6 at *
  generalize w5.heap.size = rg at *
  have b0 := hcell HP6.out 4
  have f0 := hcell B10.out.2.2.2 0
  have f1 := hcell B10.out.2.2.2 1
  have f2 := hcell B10.out.2.2.2 2
  have OW6 : Box (w6.ownsRow q 29 3 (.slice (some ⟨q + 4, 0, none⟩) 1 1) 1 [.int .i64 0, .slice (some ⟨q + 1, 0, none⟩) 1 1, .slice (some ⟨q + 3, 0, none⟩) 1 1]) := hid (own_lit O46.out (by omega) rfl (by unfold maxLen; omega))
  have hq6 : q ≤ w6.heap.size := by have := heap_lt O46.out; omega
  have b0' := hcell (keep_heap HP6.out (Keeps.alloc [] w6 (.cells #[.int .i64 1, .slice (some ⟨rg, 0, none⟩) 2 2, .slice (some ⟨rg + 1 + 1, 0, none⟩) 1 1] 29))) 4
  have NWF : Box ((w6.alloc (.cells #[.int .i64 1, .slice (some ⟨rg, 0, none⟩) 2 2, .slice (some ⟨rg + 1 + 1, 0, none⟩) 1 1] 29)).heap[w6.heap.size]? = some (.cells #[.int .i64 1, .slice (some ⟨rg, 0, none⟩) 2 2, .slice (some ⟨rg + 1 + 1, 0, none⟩) 1 1] 29 (0, 0))) := hid (heap_new w6 _)
  go_cut [95] (fun v95 wz => v95 = .pointer (some ⟨q + 5, 0, none⟩) ∧ ∃ (g7 cap7 : Nat) (cur : Array Value), Box (wz.heap[q + 5]? = some (.cells #[.slice (some ⟨n0 + 1 + 1, 0, none⟩) 2 2, .slice (some ⟨g5, 0, none⟩) 2 cap5, .slice (some ⟨n0 + 3 + 1, 0, none⟩) 1 1, .slice none 0 0, .slice (some ⟨g7, 0, none⟩) 2 cap7, .int .i64 0] 36 (0, 0))) ∧ Box (wz.heap[g7]? = some (.cells cur 29 (0, 0)) ∧ cur[0]? = some (.int .i64 0) ∧ cur[1]? = some (.slice (some ⟨q + 1, 0, none⟩) 1 1) ∧ cur[2]? = some (.slice (some ⟨q + 3, 0, none⟩) 1 1) ∧ cur[3]? = some (.int .i64 1) ∧ cur[4]? = some (.slice (some ⟨rg, 0, none⟩) 2 2) ∧ cur[5]? = some (.slice (some ⟨rg + 1 + 1, 0, none⟩) 1 1)) ∧ Box (2 ≤ cap7 ∧ q ≤ g7) ∧ Box (TB wz q n0 g5 cap5) ∧ Box (wz.heap[rg]? = some (.cells #[.int .i64 1, .int .i64 0, .int .i64 0, .int .i64 0] 39 (0, 0)) ∧ wz.heap[rg + 1]? = some (.cells #[.int .i64 1, .int .i64 1, .int .i64 0, .int .i64 0, .int .i64 0, .slice none 0 0] 54 (0, 0)) ∧ wz.heap[rg + 1 + 1]? = some (.cells #[.slice (some ⟨rg + 1, 0, none⟩) 1 1, .int .i64 3, .int .i64 1, .int .i64 0, .int .i64 0] 44 (0, 0))) ∧ Box (Keeps [] w wz))
  case first =>
    go_region_law (go_loud (refine step_append_lies _ (by rfl) _ _ _ (by rfl) q 29 Tryd.t29 (.agg #[.int .i64 0, .slice none 0 0, .slice none 0 0]) 3 56 under_fns info_fn zero_fn size_fn bytes_fn rfl (by decide) (.slice (some ⟨q + 4, 0, none⟩) 1 1) 1 [.int .i64 0, .slice (some ⟨q + 1, 0, none⟩) 1 1, .slice (some ⟨q + 3, 0, none⟩) 1 1] (by rfl) (ownsRow_drew (OW6.out.alloc _)) ⟨w6.heap.size, 0, none⟩ 1 1 [.int .i64 1, .slice (some ⟨rg, 0, none⟩) 2 2, .slice (some ⟨rg + 1 + 1, 0, none⟩) 1 1] (by rfl) (by rfl) (World.news_of_block NWF.out) (fun u hu => oneC u _ rfl hu) (by omega) (by unfold maxLen; omega) (by omega) (by simp; omega) (w6.heap.size + 1) (by simp) ?_; intro g7 cap7 w7a hown7 hgrow7 hat7 hlt7; have hgr : (w6.alloc (.cells #[.int .i64 1, .slice (some ⟨rg, 0, none⟩) 2 2, .slice (some ⟨rg + 1 + 1, 0, none⟩) 1 1] 29)).grownBy w7a (some (q + 4)) := ⟨hgrow7.os, hgrow7.tape, hgrow7.output, hgrow7.size, hgrow7.block⟩; have hb7 := grown_heap hgr (keep_heap HP6.out (Keeps.alloc [] _ _)) (by simp); have y4 := hcell hb7 4; have x4 := hfrozen hb7 4; have HB7 := hid hb7; have HOW7 := hid hown7; have HGR7 := hid hgr; clear hb7 hown7 hgrow7 hgr hat7))
    all_goals (
      go_wp2_with fail
      go_meet
      have e1 := heap_setCell_same w7a (q + 5) 4 _ _ (.slice (some ⟨g7, 0, none⟩) 2 cap7) HB7.out
      have k1 : Keeps [q + 5] w7a (w7a.setCell ⟨q + 5, 4, none⟩ (.slice (some ⟨g7, 0, none⟩) 2 cap7)) := Keeps.setCell _ _ _ _ (List.mem_singleton.2 rfl)
      have k0 : Keeps [q + 4] w6 w7a := ((Keeps.alloc [q + 4] w6 _)).step (Keeps.grown [q + 4] HGR7.out (fun k hk => by simp at hk; simp [hk]))
      have hne := row_ne HOW7.out HB7.out (by decide)
      have hg7 : g7 ≠ q + 5 := fun e => hne (by rw [e]; rfl)
      have ow := ownsRow_keeps HOW7.out k1 (fun b hb hx => by simp [Value.ownBlock] at hb; simp at hx; omega)
      obtain ⟨cur, hcur, hbase, hcell6⟩ : ∃ cur, (w7a.setCell ⟨q + 5, 4, none⟩ (.slice (some ⟨g7, 0, none⟩) 2 cap7)).heap[g7]? = some (.cells cur 29 (0, 0)) ∧ q ≤ g7 ∧ ∀ i, i < 6 → cur[i]? = ([.int .i64 0, .slice (some ⟨q + 1, 0, none⟩) 1 1, .slice (some ⟨q + 3, 0, none⟩) 1 1, .int .i64 1, .slice (some ⟨rg, 0, none⟩) 2 2, .slice (some ⟨rg + 1 + 1, 0, none⟩) 1 1] : List Value)[i]? := by
        rcases ow.2 with ⟨hv, _⟩ | ⟨g', cap', cur, hv, hbs, hg, _, _, _, ht⟩
        · cases hv
        · cases hv
          refine ⟨cur, hg, hbs, fun i hi => ?_⟩
          have h2 : cur.toList[i]? = (cur.toList.take (2 * 3))[i]? := by rw [List.getElem?_take, if_pos hi]
          rw [← Array.getElem?_toList, h2, ht]
          rfl
      have hq4 : ∀ x, x ∈ [q + 4] → x ≠ n0 ∧ x ≠ n0 + 1 ∧ x ≠ n0 + 2 ∧ x ≠ n0 + 3 ∧ x ≠ n0 + 4 ∧ x ≠ n0 + 5 ∧ x ≠ q + 1 ∧ x ≠ q + 2 ∧ x ≠ q + 3 ∧ x ≠ g5 := fun x hx => by rw [List.mem_singleton.1 hx]; exact TB6.out.ne O46.out (by decide)
      have hq5 : ∀ x, x ∈ [q + 5] → x ≠ n0 ∧ x ≠ n0 + 1 ∧ x ≠ n0 + 2 ∧ x ≠ n0 + 3 ∧ x ≠ n0 + 4 ∧ x ≠ n0 + 5 ∧ x ≠ q + 1 ∧ x ≠ q + 2 ∧ x ≠ q + 3 ∧ x ≠ g5 := fun x hx => by rw [List.mem_singleton.1 hx]; exact TB6.out.ne HP6.out (by decide)
      have far : ∀ (b : Nat) (cs : Array Value) (T : TypeId), w6.heap[b]? = some (.cells cs T (0, 0)) → T ≠ 29 → T ≠ 36 → (w7a.setCell ⟨q + 5, 4, none⟩ (.slice (some ⟨g7, 0, none⟩) 2 cap7)).heap[b]? = some (.cells cs T (0, 0)) := fun b cs T hb h1 h2 => by
        have h3 : b ≠ q + 4 := fun e => by rw [e, O46.out] at hb; simp at hb; exact h1 hb.2.symm
        have h4 : b ≠ q + 5 := fun e => by rw [e, HP6.out] at hb; simp at hb; exact h2 hb.2.symm
        have h5 := (k0.block b (heap_lt hb) (by simpa using h3)).trans hb
        exact (k1.block b (heap_lt h5) (by simpa using h4)).trans h5
      have hw := hqw.out
      exact ⟨rfl, g7, cap7, cur, hid e1, hid ⟨hcur, hcell6 0 (by decide), hcell6 1 (by decide), hcell6 2 (by decide), hcell6 3 (by decide), hcell6 4 (by decide), hcell6 5 (by decide)⟩, hid ⟨own_cap ow, hbase⟩, hid ((TB6.out.keeps k0 hq4).keeps k1 hq5), hid ⟨far _ _ _ B10.out.1 (by decide) (by decide), far _ _ _ B10.out.2.1 (by decide) (by decide), far _ _ _ B10.out.2.2.1 (by decide) (by decide)⟩, hid ((K6.out.trans k0 (fun x hx hl => by simp at hx; omega)).trans k1 (fun x hx hl => by simp at hx; omega))⟩)
  case rest =>
  obtain ⟨rfl, g7, cap7, cur, HP7, HCUR, HC2, TB7, B7f, K7⟩ := hcut
  clear b0 b0' f0 f1 f2 OW6 hq6 NWF TB6 O46 K6 HP6 B10
  have ka12 : Keeps [] wc ((wc.alloc (.cells #[.int .i64 1, .int .i64 1] 3)).alloc (.cells #[.int .i64 0, .int .i64 0, .slice (some ⟨wc.heap.size, 0, none⟩) 2 2] 63)) := (Keeps.alloc [] _ _).quiet (Keeps.alloc [] _ _)
  have j12 := keep_heap HP7.out ka12
  have p3 := hcell j12 3
  have z3 := hfrozen j12 3
  have J12 := hid j12
  have B12 : Box ((((wc.alloc (.cells #[.int .i64 1, .int .i64 1] 3)).alloc (.cells #[.int .i64 0, .int .i64 0, .slice (some ⟨wc.heap.size, 0, none⟩) 2 2] 63))).heap[wc.heap.size]? = some (.cells #[.int .i64 1, .int .i64 1] 3 (0, 0)) ∧ (((wc.alloc (.cells #[.int .i64 1, .int .i64 1] 3)).alloc (.cells #[.int .i64 0, .int .i64 0, .slice (some ⟨wc.heap.size, 0, none⟩) 2 2] 63))).heap[wc.heap.size + 1]? = some (.cells #[.int .i64 0, .int .i64 0, .slice (some ⟨wc.heap.size, 0, none⟩) 2 2] 63 (0, 0)) ∧ Keeps [] wc ((wc.alloc (.cells #[.int .i64 1, .int .i64 1] 3)).alloc (.cells #[.int .i64 0, .int .i64 0, .slice (some ⟨wc.heap.size, 0, none⟩) 2 2] 63))) := hid
    ⟨keep_heap (heap_new wc _) (Keeps.alloc [] _ _), heap_at (by simp), ka12⟩
  clear ka12 j12
  go_upto_region 13 with fail
  clear p3 z3
  generalize ((wc.alloc (.cells #[.int .i64 1, .int .i64 1] 3)).alloc (.cells #[.int .i64 0, .int .i64 0, .slice (some ⟨wc.heap.size, 0, none⟩) 2 2] 63)) = W12 at *
  generalize wc.heap.size = m0 at *
  have E8 : Box ((W12.setCell ⟨q + 5, 3, none⟩ (.slice (some ⟨m0 + 1, 0, none⟩) 1 1)).heap[q + 5]? = some (.cells #[.slice (some ⟨n0 + 1 + 1, 0, none⟩) 2 2, .slice (some ⟨g5, 0, none⟩) 2 cap5, .slice (some ⟨n0 + 3 + 1, 0, none⟩) 1 1, .slice (some ⟨m0 + 1, 0, none⟩) 1 1, .slice (some ⟨g7, 0, none⟩) 2 cap7, .int .i64 0] 36 (0, 0)) ∧ Keeps [q + 5] W12 (W12.setCell ⟨q + 5, 3, none⟩ (.slice (some ⟨m0 + 1, 0, none⟩) 1 1))) := hid ⟨heap_setCell_same _ _ 3 _ _ _ J12.out, Keeps.setCell _ _ _ _ (List.mem_singleton.2 rfl)⟩
  generalize W12.setCell ⟨q + 5, 3, none⟩ (.slice (some ⟨m0 + 1, 0, none⟩) 1 1) = w8 at *
  have far8 : ∀ (b : Nat) (cs : Array Value) (T : TypeId), W12.heap[b]? = some (.cells cs T (0, 0)) → T ≠ 36 → w8.heap[b]? = some (.cells cs T (0, 0)) := fun b cs T hb h2 => by
    have h4 : b ≠ q + 5 := fun e => by rw [e, J12.out] at hb; simp at hb; exact h2 hb.2.symm
    exact (E8.out.2.block b (heap_lt hb) (by simpa using h4)).trans hb
  have kq := B12.out.2.2
  have TB8 : Box (TB w8 q n0 g5 cap5) := hid ((TB7.out.quiet kq).keeps E8.out.2 (fun x hx => by rw [List.mem_singleton.1 hx]; exact (TB7.out.quiet kq).ne J12.out (by decide)))
  have C8 := hid (far8 _ _ _ (keep_heap HCUR.out.1 kq) (by decide))
  have F8 : Box (w8.heap[rg]? = some (.cells #[.int .i64 1, .int .i64 0, .int .i64 0, .int .i64 0] 39 (0, 0)) ∧ w8.heap[rg + 1]? = some (.cells #[.int .i64 1, .int .i64 1, .int .i64 0, .int .i64 0, .int .i64 0, .slice none 0 0] 54 (0, 0)) ∧ w8.heap[rg + 1 + 1]? = some (.cells #[.slice (some ⟨rg + 1, 0, none⟩) 1 1, .int .i64 3, .int .i64 1, .int .i64 0, .int .i64 0] 44 (0, 0)) ∧ w8.heap[m0]? = some (.cells #[.int .i64 1, .int .i64 1] 3 (0, 0)) ∧ w8.heap[m0 + 1]? = some (.cells #[.int .i64 0, .int .i64 0, .slice (some ⟨m0, 0, none⟩) 2 2] 63 (0, 0))) := hid
    ⟨far8 _ _ _ (keep_heap B7f.out.1 kq) (by decide), far8 _ _ _ (keep_heap B7f.out.2.1 kq) (by decide), far8 _ _ _ (keep_heap B7f.out.2.2 kq) (by decide), far8 _ _ _ B12.out.1 (by decide), far8 _ _ _ B12.out.2.1 (by decide)⟩
  have K8 : Box (Keeps [] w w8) := hid (by
    have hw := hqw.out
    exact (K7.out.quiet kq).trans E8.out.2 (fun x hx hl => by simp at hx; omega))
  have hp8 := E8.out.1
  clear kq far8 E8 J12 B12 TB7 B7f K7 HP7
  have ka13 : Keeps [] w8 (w8.alloc (.cells #[.int .i64 0, .int .i64 0, .int .i64 1, .int .i64 0, .int .i64 1, .int .i64 1, .int .i64 2, .int .i64 0, .int .i64 3, .int .i64 0] 39)) := Keeps.alloc [] _ _
  have p4 := hcell hp8 4
  have p4' := hcell (keep_heap hp8 ka13) 4
  have j13 := keep_heap C8.out ka13
  have c1 := (hcell j13 1).trans HCUR.out.2.2.1
  have z1 := hfrozen j13 1
  have HP8 := hid hp8
  have J13 := hid j13
  have NW13 : Box (((w8.alloc (.cells #[.int .i64 0, .int .i64 0, .int .i64 1, .int .i64 0, .int .i64 1, .int .i64 1, .int .i64 2, .int .i64 0, .int .i64 3, .int .i64 0] 39))).heap[w8.heap.size]? = some (.cells #[.int .i64 0, .int .i64 0, .int .i64 1, .int .i64 0, .int .i64 1, .int .i64 1, .int .i64 2, .int .i64 0, .int .i64 3, .int .i64 0] 39 (0, 0)) ∧ Keeps [] w8 (w8.alloc (.cells #[.int .i64 0, .int .i64 0, .int .i64 1, .int .i64 0, .int .i64 1, .int .i64 1, .int .i64 2, .int .i64 0, .int .i64 3, .int .i64 0] 39))) := hid ⟨heap_new w8 _, ka13⟩
  clear ka13 hp8 j13
  go_upto_region 14 with fail
  clear p4 p4' c1 z1
  generalize (w8.alloc (.cells #[.int .i64 0, .int .i64 0, .int .i64 1, .int .i64 0, .int .i64 1, .int .i64 1, .int .i64 2, .int .i64 0, .int .i64 3, .int .i64 0] 39)) = W13 at *
  generalize w8.heap.size = rz at *
  have E9 : Box ((W13.setCell ⟨g7, 1, none⟩ (.slice (some ⟨rz, 0, none⟩) 5 5)).heap[g7]? = some (.cells (cur.setIfInBounds 1 (.slice (some ⟨rz, 0, none⟩) 5 5)) 29 (0, 0)) ∧ Keeps [g7] W13 (W13.setCell ⟨g7, 1, none⟩ (.slice (some ⟨rz, 0, none⟩) 5 5))) := hid ⟨heap_setCell_same _ _ 1 _ _ _ J13.out, Keeps.setCell _ _ _ _ (List.mem_singleton.2 rfl)⟩
  generalize W13.setCell ⟨g7, 1, none⟩ (.slice (some ⟨rz, 0, none⟩) 5 5) = w9 at *
  have K9 : Box (Keeps [] w w9) := hid (by
    have hw := hqw.out
    have hw2 := HC2.out.2
    exact (K8.out.quiet NW13.out.2).trans E9.out.2 (fun x hx hl => by simp at hx; omega))
  have PR : Box (PrC w9 (q + 5) 0 ptab) := hid (by
    have far9 : ∀ (b : Nat) (cs : Array Value) (T : TypeId), W13.heap[b]? = some (.cells cs T (0, 0)) → T ≠ 29 → w9.heap[b]? = some (.cells cs T (0, 0)) := fun b cs T hb h2 => by
      have h4 : b ≠ g7 := fun e => by rw [e, J13.out] at hb; simp at hb; exact h2 hb.2.symm
      exact (E9.out.2.block b (heap_lt hb) (by simpa using h4)).trans hb
    have kq := NW13.out.2
    have T9 : TB w9 q n0 g5 cap5 := (TB8.out.quiet kq).keeps E9.out.2 (fun x hx => by rw [List.mem_singleton.1 hx]; exact (TB8.out.quiet kq).ne J13.out (by decide))
    have hp := far9 _ _ _ (keep_heap HP8.out kq) (by decide)
    have f0 := far9 _ _ _ (keep_heap F8.out.1 kq) (by decide)
    have f1 := far9 _ _ _ (keep_heap F8.out.2.1 kq) (by decide)
    have f2 := far9 _ _ _ (keep_heap F8.out.2.2.1 kq) (by decide)
    have f3 := far9 _ _ _ (keep_heap F8.out.2.2.2.1 kq) (by decide)
    have f4 := far9 _ _ _ (keep_heap F8.out.2.2.2.2 kq) (by decide)
    have f5 := far9 _ _ _ NW13.out.1 (by decide)
    have hr := E9.out.1
    obtain ⟨_, u0, u1, u2, u3, u4, u5⟩ := HCUR.out
    have hsz : 1 < cur.size := (Array.getElem?_eq_some_iff.1 u1).1
    have v : ∀ i, i ≠ 1 → w9.cell? ⟨g7, i, none⟩ = cur[i]? := fun i hi => by rw [hcell hr i, Array.getElem?_setIfInBounds_ne (Ne.symm hi)]
    have v1 : w9.cell? ⟨g7, 1, none⟩ = some (.slice (some ⟨rz, 0, none⟩) 5 5) := by rw [hcell hr 1, Array.getElem?_setIfInBounds_self_of_lt hsz]
    have sm : ∀ {z : Int}, -100 ≤ z → z ≤ 100 → -100 ≤ z ∧ z ≤ 100 := fun h1 h2 => ⟨h1, h2⟩
    have rec0 : SlC 2 TyC w9 (n0 + 2) 0 [(0, 0), (1, 1)] := slc_two (hcell T9.r2 0) (ty_c T9.r0 rfl rfl (by decide) (by decide)) (ty_c T9.r0 rfl rfl (by decide) (by decide)) (by decide)
    have rec1 : SlC 2 TyC w9 (n0 + 2) (1 * 1) [(0, 0), (0, 0)] := slc_two (hcell T9.r2 1) (ty_c T9.r1 rfl rfl (by decide) (by decide)) (ty_c T9.r1 rfl rfl (by decide) (by decide)) (by decide)
    have sc : ∀ i, i < 6 → w9.cell? ⟨g5, i, none⟩ = ([.slice none 0 0, .int .i64 0, .int .i64 0, .slice (some ⟨n0 + 5, 0, none⟩) 1 1, .int .i64 0, .int .i64 0] : List Value)[i]? := fun i hi => own_cell T9.sg hi
    have sg0 : SgC w9 g5 0 ([], 0, 0) := ⟨SlC.none (sc 0 (by decide)), IntC.of (sc 1 (by decide)) (by decide), IntC.of (sc 2 (by decide)) (by decide)⟩
    have sg1 : SgC w9 g5 (1 * 3) ([(1, 0)], 0, 0) := ⟨SlC.one (sc 3 (by decide)) (ty_c T9.t5 rfl rfl (by decide) (by decide)), IntC.of (sc 4 (by decide)) (by decide), IntC.of (sc 5 (by decide)) (by decide)⟩
    have if0 : IntsC w9 (n0 + 4) 0 [0, 0] := slc_two (hcell T9.i4 0) (IntC.of (hcell T9.i3 0) (by decide)) (IntC.of (hcell T9.i3 1) (by decide)) (by decide)
    have im0 : ImC w9 (m0 + 1) 0 (0, 0, [1, 1]) := ⟨IntC.of (hcell f4 0) (by decide), IntC.of (hcell f4 1) (by decide), slc_two (hcell f4 2) (IntC.of (hcell f3 0) (by decide)) (IntC.of (hcell f3 1) (by decide)) (by decide)⟩
    have in0 : InC w9 (q + 2) 0 ⟨1, 0, 0, 0, 7, []⟩ := ⟨IntC.of (hcell T9.o2 0) (by decide), IntC.of (hcell T9.o2 1) (by decide), IntC.of (hcell T9.o2 2) (by decide), IntC.of (hcell T9.o2 3) (by decide), IntC.of (hcell T9.o2 4) (by decide), SlC.none (hcell T9.o2 5)⟩
    have bl0 : BlC w9 (q + 3) 0 ⟨[⟨1, 0, 0, 0, 7, []⟩], 3, 0, 0, 0⟩ := ⟨SlC.one (hcell T9.o3 0) in0, IntC.of (hcell T9.o3 1) (by decide), IntC.of (hcell T9.o3 2) (by decide), IntC.of (hcell T9.o3 3) (by decide), IntC.of (hcell T9.o3 4) (by decide)⟩
    have rg0 : SlC 2 TyC w9 g7 1 [(0, 0), (1, 0), (1, 1), (2, 0), (3, 0)] := slc_lit v1 rfl (by decide) (fun j y hy => by
      match j, hy with
      | 0, hy => simp at hy; subst hy; exact ty_c f5 rfl rfl (by decide) (by decide)
      | 1, hy => simp at hy; subst hy; exact ty_c f5 rfl rfl (by decide) (by decide)
      | 2, hy => simp at hy; subst hy; exact ty_c f5 rfl rfl (by decide) (by decide)
      | 3, hy => simp at hy; subst hy; exact ty_c f5 rfl rfl (by decide) (by decide)
      | 4, hy => simp at hy; subst hy; exact ty_c f5 rfl rfl (by decide) (by decide)
      | j + 5, hy => simp at hy)
    have fu0 : FuC w9 g7 0 ⟨0, [(0, 0), (1, 0), (1, 1), (2, 0), (3, 0)], [⟨[⟨1, 0, 0, 0, 7, []⟩], 3, 0, 0, 0⟩]⟩ := ⟨IntC.of ((v 0 (by decide)).trans u0) (by decide), rg0, SlC.one ((v 2 (by decide)).trans u2) bl0⟩
    have in1 : InC w9 (rg + 1) 0 ⟨1, 1, 0, 0, 0, []⟩ := ⟨IntC.of (hcell f1 0) (by decide), IntC.of (hcell f1 1) (by decide), IntC.of (hcell f1 2) (by decide), IntC.of (hcell f1 3) (by decide), IntC.of (hcell f1 4) (by decide), SlC.none (hcell f1 5)⟩
    have bl1 : BlC w9 (rg + 1 + 1) 0 ⟨[⟨1, 1, 0, 0, 0, []⟩], 3, 1, 0, 0⟩ := ⟨SlC.one (hcell f2 0) in1, IntC.of (hcell f2 1) (by decide), IntC.of (hcell f2 2) (by decide), IntC.of (hcell f2 3) (by decide), IntC.of (hcell f2 4) (by decide)⟩
    have fu1 : FuC w9 g7 (1 * 3) ⟨1, [(1, 0), (0, 0)], [⟨[⟨1, 1, 0, 0, 0, []⟩], 3, 1, 0, 0⟩]⟩ := ⟨IntC.of ((v 3 (by decide)).trans u3) (by decide), slc_two ((v 4 (by decide)).trans u4) (ty_c f0 rfl rfl (by decide) (by decide)) (ty_c f0 rfl rfl (by decide) (by decide)) (by decide), SlC.one ((v 5 (by decide)).trans u5) bl1⟩
    exact ⟨slc_two (hcell hp 0) rec0 rec1 (by decide), slc_two (hcell hp 1) sg0 sg1 (own_cap T9.sg), SlC.one (hcell hp 2) if0, SlC.one (hcell hp 3) im0, slc_two (hcell hp 4) fu0 fu1 HC2.out.1, IntC.of (hcell hp 5) (by decide)⟩)
  clear E9 J13 NW13 HP8 F8 TB8 C8 HCUR HC2 K8
  have hcs : op = 1 ∨ op = 2 ∨ op = 3 ∨ op = 4 ∨ op = 5 ∨ op = 6 ∨ op = 7 ∨ op = 8 ∨ op = 9 ∨ op = 10 ∨ op = 11 ∨ op = 12 ∨ op = 13 ∨ op = 14 ∨ op = 15 := by omega
  have hns : n = 0 ∨ n = 1 := by omega
  clear h3 h4 h5 h6 h7 h8 h9 h10 h1 h2
  rcases hcs with rfl | rfl | rfl | rfl | rfl | rfl | rfl | rfl | rfl | rfl | rfl | rfl | rfl | rfl | rfl
  · as_aux_lemma =>
    have ka := Keeps.alloc [] w9 (.cells #[.int .i64 1, .int .i64 0, .int .i64 0, .int .i64 0, .int .i64 0, .slice none 0 0] 54)
    have hx0 := heap_new w9 (.cells #[.int .i64 1, .int .i64 0, .int .i64 0, .int .i64 0, .int .i64 0, .slice none 0 0] 54)
    have HD := hid (rdef_any ⟨1, 0, 0, 0, 0, []⟩ (.slice none 0 0) (w9.alloc (.cells #[.int .i64 1, .int .i64 0, .int .i64 0, .int .i64 0, .int .i64 0, .slice none 0 0] 54)))
    rw [defV_yes (by rfl)] at HD
    unfold insV at HD
    simp only at HD
    have KA := hid ka
    have HX0 := hid hx0
    clear ka hx0
    go_wp2_with fail
    refine HD.out.mono ?_
    rintro e w10 ⟨rfl, k10⟩
    have K10 := hid (KA.out.quiet k10)
    have hx := keep_heap HX0.out k10
    have HX := hid hx
    obtain ⟨ib, hib⟩ : ∃ ib, ib = w9.heap.size := ⟨_, rfl⟩
    rw [← hib] at hx HX
    rw [← hib]
    have HIB := hid hib
    have i0 := hcell hx 0
    have i1 := hcell hx 1
    have i2 := hcell hx 2
    have i3 := hcell hx 3
    have i4 := hcell hx 4
    have i5 := hcell hx 5
    have z1 := hfrozen hx 1
    have z2 := hfrozen hx 2
    have z3 := hfrozen hx 3
    have z4 := hfrozen hx 4
    have z5 := hfrozen hx 5
    clear k10 hx hib HD HX0 KA
    go_upto_region 38 with fail
    have NEW : ∀ x, x ∈ [ib] → x < w9.heap.size → x ∈ [] := fun x hx hl => by simp at hx; have := HIB.out; omega
    have EX : Box ((((w10.setCell ⟨ib, 1, none⟩ (.int .i64 d)).setCell ⟨ib, 4, none⟩ (.int .i64 n))).heap[ib]? = some (.cells #[.int .i64 1, .int .i64 d, .int .i64 0, .int .i64 0, .int .i64 n, .slice none 0 0] 54 (0, 0)) ∧ Keeps [] w9 ((w10.setCell ⟨ib, 1, none⟩ (.int .i64 d)).setCell ⟨ib, 4, none⟩ (.int .i64 n))) := hid ⟨(heap_setCell_same _ _ 4 _ _ (.int .i64 n) (heap_setCell_same _ _ 1 _ _ (.int .i64 d) HX.out)), ((K10.out.trans (Keeps.setCell [ib] _ ⟨ib, 1, none⟩ (.int .i64 d) (List.mem_singleton.2 rfl)) NEW).trans (Keeps.setCell [ib] _ ⟨ib, 4, none⟩ (.int .i64 n) (List.mem_singleton.2 rfl)) NEW)⟩
    clear i0 i1 i2 i3 i4 i5 z1 z2 z3 z4 z5 NEW
    generalize ((w10.setCell ⟨ib, 1, none⟩ (.int .i64 d)).setCell ⟨ib, 4, none⟩ (.int .i64 n)) = w11 at *
    have PR1 := hid (PrC.stays _ _ _ _ _ EX.out.2 PR.out)
    obtain ⟨fa, fp, c4, r4, _⟩ := PR1.out.c4
    obtain ⟨gb, go, rfl, hgc0⟩ := r4.at (getD_get (l := ptab.funcs) (k := 0) (d := ⟨0, [], []⟩) (by decide))
    have hgc : FuC w11 gb (go + 0 * 3) (fun8 ptab 0) := hgc0
    obtain ⟨ra, rp, y1, rrr, _, rl⟩ := hgc.c1
    obtain ⟨ba, bp, y2, brr, _, bl⟩ := hgc.c2
    have y0 := hgc.c0.1
    have d0 := hcell EX.out.1 0
    have d1 := hcell EX.out.1 1
    have d2 := hcell EX.out.1 2
    have d3 := hcell EX.out.1 3
    have d4 := hcell EX.out.1 4
    have d5 := hcell EX.out.1 5
    have RES : ∃ res, res = (insOk ptab (fun8 ptab 0) ⟨1, d, 0, 0, n, []⟩ && fitB ptab (fun8 ptab 0) ⟨1, d, 0, 0, n, []⟩) := ⟨_, rfl⟩
    obtain ⟨res, hres⟩ := RES
    have HFT : Box (∀ w', Keeps [] w11 w' → Calls Tryd.prog 16 #[.pointer (some ⟨q + 5, 0, none⟩), .int .i64 0, .agg #[.int .i64 1, .int .i64 d, .int .i64 0, .int .i64 0, .int .i64 n, .slice none 0 0]] w' fun e w2 => e = .returned (.bool res) ∧ Keeps [] w' w2) := hid fun w' k => by
      have e := fits_any (cp := 0) (PrC.stays _ _ _ _ _ k PR1.out) (f := 0) (by decide) ⟨1, d, 0, 0, n, []⟩ (a := none) (.inl rfl) (by simp)
      rw [fit_same (names_ty ptab_nm (by decide)), ← hres] at e
      exact e
    have HFR : Box (∀ w', Keeps [] w11 w' → Calls Tryd.prog 17 #[.pointer (some ⟨q + 5, 0, none⟩), .agg #[.int .i64 (fun8 ptab 0).sig, .slice ra (fun8 ptab 0).regs.length rp, .slice ba (fun8 ptab 0).blocks.length bp], .agg #[.int .i64 1, .int .i64 d, .int .i64 0, .int .i64 0, .int .i64 n, .slice none 0 0]] w' fun e w2 => e = .returned (.bool res) ∧ Keeps [] w' w2) := hid fun w' k => by
      have e := rfits_any (cp := 0) (PrC.stays _ _ _ _ _ k PR1.out) (f := fun8 ptab 0) (RowsAt.quiet rrr TyC.stays k) rfl rp (.slice ba (fun8 ptab 0).blocks.length bp) (names_ty ptab_nm (by decide)) (names_if ptab_nm) (names_sg ptab_nm) ⟨1, d, 0, 0, n, []⟩ (a := none) (.inl rfl) (by simp)
      rw [← hres] at e
      exact e
    clear hres rrr brr rl bl hgc hgc0 r4
    refine wp_region_det (W0 := w11) 191 [(.pointer (some ⟨q + 5, 0, none⟩) : Value), (.agg #[.int .i64 1, .int .i64 d, .int .i64 0, .int .i64 0, .int .i64 n, .slice none 0 0] : Value), (.bool res : Value), (.pointer (some ⟨q + 5, 0, none⟩) : Value), (.pointer (some ⟨q + 5, 0, none⟩) : Value), (.pointer (some ⟨q + 5, 0, none⟩) : Value), (.pointer (some ⟨q + 5, 4, none⟩) : Value), (.slice (some ⟨gb, go, none⟩) ptab.funcs.length fp : Value), (.pointer (some ⟨gb, go + 0 * 3, none⟩) : Value), (.agg #[.int .i64 (fun8 ptab 0).sig, .slice ra (fun8 ptab 0).regs.length rp, .slice ba (fun8 ptab 0).blocks.length bp] : Value), (.agg #[.int .i64 1, .int .i64 d, .int .i64 0, .int .i64 0, .int .i64 n, .slice none 0 0] : Value), (.bool res : Value), (.bool true : Value), (.bool true : Value)] (by kernel_rfl) (by rfl) (by kernel_rfl) (Keeps.refl _ _) (fun A hA => ?_)
    simp only [putAll, Act.put, List.setIfInBounds_toArray, List.set_cons_zero, List.set_cons_succ] at hA
    subst hA
    refine ⟨AllGive.cons (give_yield (by rfl) (fun _ _ => rfl)) (AllGive.cons (give_yield (by rfl) (fun _ k9 => ld_in (cell_stays k9 d0) (cell_stays k9 d1) (cell_stays k9 d2) (cell_stays k9 d3) (cell_stays k9 d4) (cell_stays k9 d5) rfl rfl)) (AllGive.cons (give_call (by rfl) 16 #[.pointer (some ⟨q + 5, 0, none⟩), .int .i64 0, .agg #[.int .i64 1, .int .i64 d, .int .i64 0, .int .i64 0, .int .i64 n, .slice none 0 0]] (fun w => exec_call3 rfl rfl rfl rfl rfl (enter_fits _ _ _ w)) (fun w9 k9 => HFT.out w9 k9)) (AllGive.cons (give_yield (by rfl) (fun _ _ => rfl)) (AllGive.cons (give_yield (by rfl) (fun _ _ => rfl)) (AllGive.cons (give_yield (by rfl) (fun _ _ => rfl)) (AllGive.cons (give_yield (by rfl) (fun _ _ => rfl)) (AllGive.cons (give_yield (by rfl) (fun _ k9 => ld_fns (cell_stays k9 c4) rfl rfl)) (AllGive.cons (give_yield (by rfl) (fun _ _ => ix_fns (j := 0) rfl rfl rfl (by decide))) (AllGive.cons (give_yield (by rfl) (fun _ k9 => ld_fn (cell_stays k9 y0) (cell_stays k9 y1) (cell_stays k9 y2) rfl rfl)) (AllGive.cons (give_yield (by rfl) (fun _ k9 => ld_in (cell_stays k9 d0) (cell_stays k9 d1) (cell_stays k9 d2) (cell_stays k9 d3) (cell_stays k9 d4) (cell_stays k9 d5) rfl rfl)) (AllGive.cons (give_call (by rfl) 17 #[.pointer (some ⟨q + 5, 0, none⟩), .agg #[.int .i64 (fun8 ptab 0).sig, .slice ra (fun8 ptab 0).regs.length rp, .slice ba (fun8 ptab 0).blocks.length bp], .agg #[.int .i64 1, .int .i64 d, .int .i64 0, .int .i64 0, .int .i64 n, .slice none 0 0]] (fun w => exec_call3 rfl rfl rfl rfl rfl (enter_rfits _ _ _ w)) (fun w9 k9 => HFR.out w9 k9)) (AllGive.cons (give_yield (by rfl) (fun _ _ => bin_eqlB rfl rfl rfl (by cases res <;> rfl))) (AllGive.cons (give_yield (by rfl) (fun _ _ => rfl)) (AllGive.nil)))))))))))))), fun w8 k8 => ?_⟩
    go_wp2_with fail
    go_ret
    exact ⟨rfl, (K9.out.quiet EX.out.2).quiet k8⟩
  · as_aux_lemma =>
    have ka := Keeps.alloc [] w9 (.cells #[.int .i64 2, .int .i64 0, .int .i64 0, .int .i64 0, .int .i64 0, .slice none 0 0] 54)
    have hx0 := heap_new w9 (.cells #[.int .i64 2, .int .i64 0, .int .i64 0, .int .i64 0, .int .i64 0, .slice none 0 0] 54)
    have HD := hid (rdef_any ⟨2, 0, 0, 0, 0, []⟩ (.slice none 0 0) (w9.alloc (.cells #[.int .i64 2, .int .i64 0, .int .i64 0, .int .i64 0, .int .i64 0, .slice none 0 0] 54)))
    rw [defV_yes (by rfl)] at HD
    unfold insV at HD
    simp only at HD
    have KA := hid ka
    have HX0 := hid hx0
    clear ka hx0
    go_wp2_with fail
    refine HD.out.mono ?_
    rintro e w10 ⟨rfl, k10⟩
    have K10 := hid (KA.out.quiet k10)
    have hx := keep_heap HX0.out k10
    have HX := hid hx
    obtain ⟨ib, hib⟩ : ∃ ib, ib = w9.heap.size := ⟨_, rfl⟩
    rw [← hib] at hx HX
    rw [← hib]
    have HIB := hid hib
    have i0 := hcell hx 0
    have i1 := hcell hx 1
    have i2 := hcell hx 2
    have i3 := hcell hx 3
    have i4 := hcell hx 4
    have i5 := hcell hx 5
    have z1 := hfrozen hx 1
    have z2 := hfrozen hx 2
    have z3 := hfrozen hx 3
    have z4 := hfrozen hx 4
    have z5 := hfrozen hx 5
    clear k10 hx hib HD HX0 KA
    go_upto_region 38 with fail
    have NEW : ∀ x, x ∈ [ib] → x < w9.heap.size → x ∈ [] := fun x hx hl => by simp at hx; have := HIB.out; omega
    have EX : Box (((((w10.setCell ⟨ib, 1, none⟩ (.int .i64 d)).setCell ⟨ib, 2, none⟩ (.int .i64 a)).setCell ⟨ib, 3, none⟩ (.int .i64 b))).heap[ib]? = some (.cells #[.int .i64 2, .int .i64 d, .int .i64 a, .int .i64 b, .int .i64 0, .slice none 0 0] 54 (0, 0)) ∧ Keeps [] w9 (((w10.setCell ⟨ib, 1, none⟩ (.int .i64 d)).setCell ⟨ib, 2, none⟩ (.int .i64 a)).setCell ⟨ib, 3, none⟩ (.int .i64 b))) := hid ⟨(heap_setCell_same _ _ 3 _ _ (.int .i64 b) (heap_setCell_same _ _ 2 _ _ (.int .i64 a) (heap_setCell_same _ _ 1 _ _ (.int .i64 d) HX.out))), (((K10.out.trans (Keeps.setCell [ib] _ ⟨ib, 1, none⟩ (.int .i64 d) (List.mem_singleton.2 rfl)) NEW).trans (Keeps.setCell [ib] _ ⟨ib, 2, none⟩ (.int .i64 a) (List.mem_singleton.2 rfl)) NEW).trans (Keeps.setCell [ib] _ ⟨ib, 3, none⟩ (.int .i64 b) (List.mem_singleton.2 rfl)) NEW)⟩
    clear i0 i1 i2 i3 i4 i5 z1 z2 z3 z4 z5 NEW
    generalize (((w10.setCell ⟨ib, 1, none⟩ (.int .i64 d)).setCell ⟨ib, 2, none⟩ (.int .i64 a)).setCell ⟨ib, 3, none⟩ (.int .i64 b)) = w11 at *
    have PR1 := hid (PrC.stays _ _ _ _ _ EX.out.2 PR.out)
    obtain ⟨fa, fp, c4, r4, _⟩ := PR1.out.c4
    obtain ⟨gb, go, rfl, hgc0⟩ := r4.at (getD_get (l := ptab.funcs) (k := 0) (d := ⟨0, [], []⟩) (by decide))
    have hgc : FuC w11 gb (go + 0 * 3) (fun8 ptab 0) := hgc0
    obtain ⟨ra, rp, y1, rrr, _, rl⟩ := hgc.c1
    obtain ⟨ba, bp, y2, brr, _, bl⟩ := hgc.c2
    have y0 := hgc.c0.1
    have d0 := hcell EX.out.1 0
    have d1 := hcell EX.out.1 1
    have d2 := hcell EX.out.1 2
    have d3 := hcell EX.out.1 3
    have d4 := hcell EX.out.1 4
    have d5 := hcell EX.out.1 5
    have RES : ∃ res, res = (insOk ptab (fun8 ptab 0) ⟨2, d, a, b, 0, []⟩ && fitB ptab (fun8 ptab 0) ⟨2, d, a, b, 0, []⟩) := ⟨_, rfl⟩
    obtain ⟨res, hres⟩ := RES
    have HFT : Box (∀ w', Keeps [] w11 w' → Calls Tryd.prog 16 #[.pointer (some ⟨q + 5, 0, none⟩), .int .i64 0, .agg #[.int .i64 2, .int .i64 d, .int .i64 a, .int .i64 b, .int .i64 0, .slice none 0 0]] w' fun e w2 => e = .returned (.bool res) ∧ Keeps [] w' w2) := hid fun w' k => by
      have e := fits_any (cp := 0) (PrC.stays _ _ _ _ _ k PR1.out) (f := 0) (by decide) ⟨2, d, a, b, 0, []⟩ (a := none) (.inl rfl) (by simp)
      rw [fit_same (names_ty ptab_nm (by decide)), ← hres] at e
      exact e
    have HFR : Box (∀ w', Keeps [] w11 w' → Calls Tryd.prog 17 #[.pointer (some ⟨q + 5, 0, none⟩), .agg #[.int .i64 (fun8 ptab 0).sig, .slice ra (fun8 ptab 0).regs.length rp, .slice ba (fun8 ptab 0).blocks.length bp], .agg #[.int .i64 2, .int .i64 d, .int .i64 a, .int .i64 b, .int .i64 0, .slice none 0 0]] w' fun e w2 => e = .returned (.bool res) ∧ Keeps [] w' w2) := hid fun w' k => by
      have e := rfits_any (cp := 0) (PrC.stays _ _ _ _ _ k PR1.out) (f := fun8 ptab 0) (RowsAt.quiet rrr TyC.stays k) rfl rp (.slice ba (fun8 ptab 0).blocks.length bp) (names_ty ptab_nm (by decide)) (names_if ptab_nm) (names_sg ptab_nm) ⟨2, d, a, b, 0, []⟩ (a := none) (.inl rfl) (by simp)
      rw [← hres] at e
      exact e
    clear hres rrr brr rl bl hgc hgc0 r4
    refine wp_region_det (W0 := w11) 191 [(.pointer (some ⟨q + 5, 0, none⟩) : Value), (.agg #[.int .i64 2, .int .i64 d, .int .i64 a, .int .i64 b, .int .i64 0, .slice none 0 0] : Value), (.bool res : Value), (.pointer (some ⟨q + 5, 0, none⟩) : Value), (.pointer (some ⟨q + 5, 0, none⟩) : Value), (.pointer (some ⟨q + 5, 0, none⟩) : Value), (.pointer (some ⟨q + 5, 4, none⟩) : Value), (.slice (some ⟨gb, go, none⟩) ptab.funcs.length fp : Value), (.pointer (some ⟨gb, go + 0 * 3, none⟩) : Value), (.agg #[.int .i64 (fun8 ptab 0).sig, .slice ra (fun8 ptab 0).regs.length rp, .slice ba (fun8 ptab 0).blocks.length bp] : Value), (.agg #[.int .i64 2, .int .i64 d, .int .i64 a, .int .i64 b, .int .i64 0, .slice none 0 0] : Value), (.bool res : Value), (.bool true : Value), (.bool true : Value)] (by kernel_rfl) (by rfl) (by kernel_rfl) (Keeps.refl _ _) (fun A hA => ?_)
    simp only [putAll, Act.put, List.setIfInBounds_toArray, List.set_cons_zero, List.set_cons_succ] at hA
    subst hA
    refine ⟨AllGive.cons (give_yield (by rfl) (fun _ _ => rfl)) (AllGive.cons (give_yield (by rfl) (fun _ k9 => ld_in (cell_stays k9 d0) (cell_stays k9 d1) (cell_stays k9 d2) (cell_stays k9 d3) (cell_stays k9 d4) (cell_stays k9 d5) rfl rfl)) (AllGive.cons (give_call (by rfl) 16 #[.pointer (some ⟨q + 5, 0, none⟩), .int .i64 0, .agg #[.int .i64 2, .int .i64 d, .int .i64 a, .int .i64 b, .int .i64 0, .slice none 0 0]] (fun w => exec_call3 rfl rfl rfl rfl rfl (enter_fits _ _ _ w)) (fun w9 k9 => HFT.out w9 k9)) (AllGive.cons (give_yield (by rfl) (fun _ _ => rfl)) (AllGive.cons (give_yield (by rfl) (fun _ _ => rfl)) (AllGive.cons (give_yield (by rfl) (fun _ _ => rfl)) (AllGive.cons (give_yield (by rfl) (fun _ _ => rfl)) (AllGive.cons (give_yield (by rfl) (fun _ k9 => ld_fns (cell_stays k9 c4) rfl rfl)) (AllGive.cons (give_yield (by rfl) (fun _ _ => ix_fns (j := 0) rfl rfl rfl (by decide))) (AllGive.cons (give_yield (by rfl) (fun _ k9 => ld_fn (cell_stays k9 y0) (cell_stays k9 y1) (cell_stays k9 y2) rfl rfl)) (AllGive.cons (give_yield (by rfl) (fun _ k9 => ld_in (cell_stays k9 d0) (cell_stays k9 d1) (cell_stays k9 d2) (cell_stays k9 d3) (cell_stays k9 d4) (cell_stays k9 d5) rfl rfl)) (AllGive.cons (give_call (by rfl) 17 #[.pointer (some ⟨q + 5, 0, none⟩), .agg #[.int .i64 (fun8 ptab 0).sig, .slice ra (fun8 ptab 0).regs.length rp, .slice ba (fun8 ptab 0).blocks.length bp], .agg #[.int .i64 2, .int .i64 d, .int .i64 a, .int .i64 b, .int .i64 0, .slice none 0 0]] (fun w => exec_call3 rfl rfl rfl rfl rfl (enter_rfits _ _ _ w)) (fun w9 k9 => HFR.out w9 k9)) (AllGive.cons (give_yield (by rfl) (fun _ _ => bin_eqlB rfl rfl rfl (by cases res <;> rfl))) (AllGive.cons (give_yield (by rfl) (fun _ _ => rfl)) (AllGive.nil)))))))))))))), fun w8 k8 => ?_⟩
    go_wp2_with fail
    go_ret
    exact ⟨rfl, (K9.out.quiet EX.out.2).quiet k8⟩
  · as_aux_lemma =>
    have ka := Keeps.alloc [] w9 (.cells #[.int .i64 3, .int .i64 0, .int .i64 0, .int .i64 0, .int .i64 0, .slice none 0 0] 54)
    have hx0 := heap_new w9 (.cells #[.int .i64 3, .int .i64 0, .int .i64 0, .int .i64 0, .int .i64 0, .slice none 0 0] 54)
    have HD := hid (rdef_any ⟨3, 0, 0, 0, 0, []⟩ (.slice none 0 0) (w9.alloc (.cells #[.int .i64 3, .int .i64 0, .int .i64 0, .int .i64 0, .int .i64 0, .slice none 0 0] 54)))
    rw [defV_yes (by rfl)] at HD
    unfold insV at HD
    simp only at HD
    have KA := hid ka
    have HX0 := hid hx0
    clear ka hx0
    go_wp2_with fail
    refine HD.out.mono ?_
    rintro e w10 ⟨rfl, k10⟩
    have K10 := hid (KA.out.quiet k10)
    have hx := keep_heap HX0.out k10
    have HX := hid hx
    obtain ⟨ib, hib⟩ : ∃ ib, ib = w9.heap.size := ⟨_, rfl⟩
    rw [← hib] at hx HX
    rw [← hib]
    have HIB := hid hib
    have i0 := hcell hx 0
    have i1 := hcell hx 1
    have i2 := hcell hx 2
    have i3 := hcell hx 3
    have i4 := hcell hx 4
    have i5 := hcell hx 5
    have z1 := hfrozen hx 1
    have z2 := hfrozen hx 2
    have z3 := hfrozen hx 3
    have z4 := hfrozen hx 4
    have z5 := hfrozen hx 5
    clear k10 hx hib HD HX0 KA
    go_upto_region 38 with fail
    have NEW : ∀ x, x ∈ [ib] → x < w9.heap.size → x ∈ [] := fun x hx hl => by simp at hx; have := HIB.out; omega
    have EX : Box (((w10.setCell ⟨ib, 1, none⟩ (.int .i64 d))).heap[ib]? = some (.cells #[.int .i64 3, .int .i64 d, .int .i64 0, .int .i64 0, .int .i64 0, .slice none 0 0] 54 (0, 0)) ∧ Keeps [] w9 (w10.setCell ⟨ib, 1, none⟩ (.int .i64 d))) := hid ⟨(heap_setCell_same _ _ 1 _ _ (.int .i64 d) HX.out), (K10.out.trans (Keeps.setCell [ib] _ ⟨ib, 1, none⟩ (.int .i64 d) (List.mem_singleton.2 rfl)) NEW)⟩
    clear i0 i1 i2 i3 i4 i5 z1 z2 z3 z4 z5 NEW
    generalize (w10.setCell ⟨ib, 1, none⟩ (.int .i64 d)) = w11 at *
    have PR1 := hid (PrC.stays _ _ _ _ _ EX.out.2 PR.out)
    obtain ⟨fa, fp, c4, r4, _⟩ := PR1.out.c4
    obtain ⟨gb, go, rfl, hgc0⟩ := r4.at (getD_get (l := ptab.funcs) (k := 0) (d := ⟨0, [], []⟩) (by decide))
    have hgc : FuC w11 gb (go + 0 * 3) (fun8 ptab 0) := hgc0
    obtain ⟨ra, rp, y1, rrr, _, rl⟩ := hgc.c1
    obtain ⟨ba, bp, y2, brr, _, bl⟩ := hgc.c2
    have y0 := hgc.c0.1
    have d0 := hcell EX.out.1 0
    have d1 := hcell EX.out.1 1
    have d2 := hcell EX.out.1 2
    have d3 := hcell EX.out.1 3
    have d4 := hcell EX.out.1 4
    have d5 := hcell EX.out.1 5
    have RES : ∃ res, res = (insOk ptab (fun8 ptab 0) ⟨3, d, 0, 0, 0, []⟩ && fitB ptab (fun8 ptab 0) ⟨3, d, 0, 0, 0, []⟩) := ⟨_, rfl⟩
    obtain ⟨res, hres⟩ := RES
    have HFT : Box (∀ w', Keeps [] w11 w' → Calls Tryd.prog 16 #[.pointer (some ⟨q + 5, 0, none⟩), .int .i64 0, .agg #[.int .i64 3, .int .i64 d, .int .i64 0, .int .i64 0, .int .i64 0, .slice none 0 0]] w' fun e w2 => e = .returned (.bool res) ∧ Keeps [] w' w2) := hid fun w' k => by
      have e := fits_any (cp := 0) (PrC.stays _ _ _ _ _ k PR1.out) (f := 0) (by decide) ⟨3, d, 0, 0, 0, []⟩ (a := none) (.inl rfl) (by simp)
      rw [fit_same (names_ty ptab_nm (by decide)), ← hres] at e
      exact e
    have HFR : Box (∀ w', Keeps [] w11 w' → Calls Tryd.prog 17 #[.pointer (some ⟨q + 5, 0, none⟩), .agg #[.int .i64 (fun8 ptab 0).sig, .slice ra (fun8 ptab 0).regs.length rp, .slice ba (fun8 ptab 0).blocks.length bp], .agg #[.int .i64 3, .int .i64 d, .int .i64 0, .int .i64 0, .int .i64 0, .slice none 0 0]] w' fun e w2 => e = .returned (.bool res) ∧ Keeps [] w' w2) := hid fun w' k => by
      have e := rfits_any (cp := 0) (PrC.stays _ _ _ _ _ k PR1.out) (f := fun8 ptab 0) (RowsAt.quiet rrr TyC.stays k) rfl rp (.slice ba (fun8 ptab 0).blocks.length bp) (names_ty ptab_nm (by decide)) (names_if ptab_nm) (names_sg ptab_nm) ⟨3, d, 0, 0, 0, []⟩ (a := none) (.inl rfl) (by simp)
      rw [← hres] at e
      exact e
    clear hres rrr brr rl bl hgc hgc0 r4
    refine wp_region_det (W0 := w11) 191 [(.pointer (some ⟨q + 5, 0, none⟩) : Value), (.agg #[.int .i64 3, .int .i64 d, .int .i64 0, .int .i64 0, .int .i64 0, .slice none 0 0] : Value), (.bool res : Value), (.pointer (some ⟨q + 5, 0, none⟩) : Value), (.pointer (some ⟨q + 5, 0, none⟩) : Value), (.pointer (some ⟨q + 5, 0, none⟩) : Value), (.pointer (some ⟨q + 5, 4, none⟩) : Value), (.slice (some ⟨gb, go, none⟩) ptab.funcs.length fp : Value), (.pointer (some ⟨gb, go + 0 * 3, none⟩) : Value), (.agg #[.int .i64 (fun8 ptab 0).sig, .slice ra (fun8 ptab 0).regs.length rp, .slice ba (fun8 ptab 0).blocks.length bp] : Value), (.agg #[.int .i64 3, .int .i64 d, .int .i64 0, .int .i64 0, .int .i64 0, .slice none 0 0] : Value), (.bool res : Value), (.bool true : Value), (.bool true : Value)] (by kernel_rfl) (by rfl) (by kernel_rfl) (Keeps.refl _ _) (fun A hA => ?_)
    simp only [putAll, Act.put, List.setIfInBounds_toArray, List.set_cons_zero, List.set_cons_succ] at hA
    subst hA
    refine ⟨AllGive.cons (give_yield (by rfl) (fun _ _ => rfl)) (AllGive.cons (give_yield (by rfl) (fun _ k9 => ld_in (cell_stays k9 d0) (cell_stays k9 d1) (cell_stays k9 d2) (cell_stays k9 d3) (cell_stays k9 d4) (cell_stays k9 d5) rfl rfl)) (AllGive.cons (give_call (by rfl) 16 #[.pointer (some ⟨q + 5, 0, none⟩), .int .i64 0, .agg #[.int .i64 3, .int .i64 d, .int .i64 0, .int .i64 0, .int .i64 0, .slice none 0 0]] (fun w => exec_call3 rfl rfl rfl rfl rfl (enter_fits _ _ _ w)) (fun w9 k9 => HFT.out w9 k9)) (AllGive.cons (give_yield (by rfl) (fun _ _ => rfl)) (AllGive.cons (give_yield (by rfl) (fun _ _ => rfl)) (AllGive.cons (give_yield (by rfl) (fun _ _ => rfl)) (AllGive.cons (give_yield (by rfl) (fun _ _ => rfl)) (AllGive.cons (give_yield (by rfl) (fun _ k9 => ld_fns (cell_stays k9 c4) rfl rfl)) (AllGive.cons (give_yield (by rfl) (fun _ _ => ix_fns (j := 0) rfl rfl rfl (by decide))) (AllGive.cons (give_yield (by rfl) (fun _ k9 => ld_fn (cell_stays k9 y0) (cell_stays k9 y1) (cell_stays k9 y2) rfl rfl)) (AllGive.cons (give_yield (by rfl) (fun _ k9 => ld_in (cell_stays k9 d0) (cell_stays k9 d1) (cell_stays k9 d2) (cell_stays k9 d3) (cell_stays k9 d4) (cell_stays k9 d5) rfl rfl)) (AllGive.cons (give_call (by rfl) 17 #[.pointer (some ⟨q + 5, 0, none⟩), .agg #[.int .i64 (fun8 ptab 0).sig, .slice ra (fun8 ptab 0).regs.length rp, .slice ba (fun8 ptab 0).blocks.length bp], .agg #[.int .i64 3, .int .i64 d, .int .i64 0, .int .i64 0, .int .i64 0, .slice none 0 0]] (fun w => exec_call3 rfl rfl rfl rfl rfl (enter_rfits _ _ _ w)) (fun w9 k9 => HFR.out w9 k9)) (AllGive.cons (give_yield (by rfl) (fun _ _ => bin_eqlB rfl rfl rfl (by cases res <;> rfl))) (AllGive.cons (give_yield (by rfl) (fun _ _ => rfl)) (AllGive.nil)))))))))))))), fun w8 k8 => ?_⟩
    go_wp2_with fail
    go_ret
    exact ⟨rfl, (K9.out.quiet EX.out.2).quiet k8⟩
  · as_aux_lemma =>
    have ka := Keeps.alloc [] w9 (.cells #[.int .i64 4, .int .i64 0, .int .i64 0, .int .i64 0, .int .i64 0, .slice none 0 0] 54)
    have hx0 := heap_new w9 (.cells #[.int .i64 4, .int .i64 0, .int .i64 0, .int .i64 0, .int .i64 0, .slice none 0 0] 54)
    have HD := hid (rdef_any ⟨4, 0, 0, 0, 0, []⟩ (.slice none 0 0) (w9.alloc (.cells #[.int .i64 4, .int .i64 0, .int .i64 0, .int .i64 0, .int .i64 0, .slice none 0 0] 54)))
    rw [defV_yes (by rfl)] at HD
    unfold insV at HD
    simp only at HD
    have KA := hid ka
    have HX0 := hid hx0
    clear ka hx0
    go_wp2_with fail
    refine HD.out.mono ?_
    rintro e w10 ⟨rfl, k10⟩
    have K10 := hid (KA.out.quiet k10)
    have hx := keep_heap HX0.out k10
    have HX := hid hx
    obtain ⟨ib, hib⟩ : ∃ ib, ib = w9.heap.size := ⟨_, rfl⟩
    rw [← hib] at hx HX
    rw [← hib]
    have HIB := hid hib
    have i0 := hcell hx 0
    have i1 := hcell hx 1
    have i2 := hcell hx 2
    have i3 := hcell hx 3
    have i4 := hcell hx 4
    have i5 := hcell hx 5
    have z1 := hfrozen hx 1
    have z2 := hfrozen hx 2
    have z3 := hfrozen hx 3
    have z4 := hfrozen hx 4
    have z5 := hfrozen hx 5
    clear k10 hx hib HD HX0 KA
    go_upto_region 38 with fail
    have NEW : ∀ x, x ∈ [ib] → x < w9.heap.size → x ∈ [] := fun x hx hl => by simp at hx; have := HIB.out; omega
    have EX : Box (((w10.setCell ⟨ib, 1, none⟩ (.int .i64 d))).heap[ib]? = some (.cells #[.int .i64 4, .int .i64 d, .int .i64 0, .int .i64 0, .int .i64 0, .slice none 0 0] 54 (0, 0)) ∧ Keeps [] w9 (w10.setCell ⟨ib, 1, none⟩ (.int .i64 d))) := hid ⟨(heap_setCell_same _ _ 1 _ _ (.int .i64 d) HX.out), (K10.out.trans (Keeps.setCell [ib] _ ⟨ib, 1, none⟩ (.int .i64 d) (List.mem_singleton.2 rfl)) NEW)⟩
    clear i0 i1 i2 i3 i4 i5 z1 z2 z3 z4 z5 NEW
    generalize (w10.setCell ⟨ib, 1, none⟩ (.int .i64 d)) = w11 at *
    have PR1 := hid (PrC.stays _ _ _ _ _ EX.out.2 PR.out)
    obtain ⟨fa, fp, c4, r4, _⟩ := PR1.out.c4
    obtain ⟨gb, go, rfl, hgc0⟩ := r4.at (getD_get (l := ptab.funcs) (k := 0) (d := ⟨0, [], []⟩) (by decide))
    have hgc : FuC w11 gb (go + 0 * 3) (fun8 ptab 0) := hgc0
    obtain ⟨ra, rp, y1, rrr, _, rl⟩ := hgc.c1
    obtain ⟨ba, bp, y2, brr, _, bl⟩ := hgc.c2
    have y0 := hgc.c0.1
    have d0 := hcell EX.out.1 0
    have d1 := hcell EX.out.1 1
    have d2 := hcell EX.out.1 2
    have d3 := hcell EX.out.1 3
    have d4 := hcell EX.out.1 4
    have d5 := hcell EX.out.1 5
    have RES : ∃ res, res = (insOk ptab (fun8 ptab 0) ⟨4, d, 0, 0, 0, []⟩ && fitB ptab (fun8 ptab 0) ⟨4, d, 0, 0, 0, []⟩) := ⟨_, rfl⟩
    obtain ⟨res, hres⟩ := RES
    have HFT : Box (∀ w', Keeps [] w11 w' → Calls Tryd.prog 16 #[.pointer (some ⟨q + 5, 0, none⟩), .int .i64 0, .agg #[.int .i64 4, .int .i64 d, .int .i64 0, .int .i64 0, .int .i64 0, .slice none 0 0]] w' fun e w2 => e = .returned (.bool res) ∧ Keeps [] w' w2) := hid fun w' k => by
      have e := fits_any (cp := 0) (PrC.stays _ _ _ _ _ k PR1.out) (f := 0) (by decide) ⟨4, d, 0, 0, 0, []⟩ (a := none) (.inl rfl) (by simp)
      rw [fit_same (names_ty ptab_nm (by decide)), ← hres] at e
      exact e
    have HFR : Box (∀ w', Keeps [] w11 w' → Calls Tryd.prog 17 #[.pointer (some ⟨q + 5, 0, none⟩), .agg #[.int .i64 (fun8 ptab 0).sig, .slice ra (fun8 ptab 0).regs.length rp, .slice ba (fun8 ptab 0).blocks.length bp], .agg #[.int .i64 4, .int .i64 d, .int .i64 0, .int .i64 0, .int .i64 0, .slice none 0 0]] w' fun e w2 => e = .returned (.bool res) ∧ Keeps [] w' w2) := hid fun w' k => by
      have e := rfits_any (cp := 0) (PrC.stays _ _ _ _ _ k PR1.out) (f := fun8 ptab 0) (RowsAt.quiet rrr TyC.stays k) rfl rp (.slice ba (fun8 ptab 0).blocks.length bp) (names_ty ptab_nm (by decide)) (names_if ptab_nm) (names_sg ptab_nm) ⟨4, d, 0, 0, 0, []⟩ (a := none) (.inl rfl) (by simp)
      rw [← hres] at e
      exact e
    clear hres rrr brr rl bl hgc hgc0 r4
    refine wp_region_det (W0 := w11) 191 [(.pointer (some ⟨q + 5, 0, none⟩) : Value), (.agg #[.int .i64 4, .int .i64 d, .int .i64 0, .int .i64 0, .int .i64 0, .slice none 0 0] : Value), (.bool res : Value), (.pointer (some ⟨q + 5, 0, none⟩) : Value), (.pointer (some ⟨q + 5, 0, none⟩) : Value), (.pointer (some ⟨q + 5, 0, none⟩) : Value), (.pointer (some ⟨q + 5, 4, none⟩) : Value), (.slice (some ⟨gb, go, none⟩) ptab.funcs.length fp : Value), (.pointer (some ⟨gb, go + 0 * 3, none⟩) : Value), (.agg #[.int .i64 (fun8 ptab 0).sig, .slice ra (fun8 ptab 0).regs.length rp, .slice ba (fun8 ptab 0).blocks.length bp] : Value), (.agg #[.int .i64 4, .int .i64 d, .int .i64 0, .int .i64 0, .int .i64 0, .slice none 0 0] : Value), (.bool res : Value), (.bool true : Value), (.bool true : Value)] (by kernel_rfl) (by rfl) (by kernel_rfl) (Keeps.refl _ _) (fun A hA => ?_)
    simp only [putAll, Act.put, List.setIfInBounds_toArray, List.set_cons_zero, List.set_cons_succ] at hA
    subst hA
    refine ⟨AllGive.cons (give_yield (by rfl) (fun _ _ => rfl)) (AllGive.cons (give_yield (by rfl) (fun _ k9 => ld_in (cell_stays k9 d0) (cell_stays k9 d1) (cell_stays k9 d2) (cell_stays k9 d3) (cell_stays k9 d4) (cell_stays k9 d5) rfl rfl)) (AllGive.cons (give_call (by rfl) 16 #[.pointer (some ⟨q + 5, 0, none⟩), .int .i64 0, .agg #[.int .i64 4, .int .i64 d, .int .i64 0, .int .i64 0, .int .i64 0, .slice none 0 0]] (fun w => exec_call3 rfl rfl rfl rfl rfl (enter_fits _ _ _ w)) (fun w9 k9 => HFT.out w9 k9)) (AllGive.cons (give_yield (by rfl) (fun _ _ => rfl)) (AllGive.cons (give_yield (by rfl) (fun _ _ => rfl)) (AllGive.cons (give_yield (by rfl) (fun _ _ => rfl)) (AllGive.cons (give_yield (by rfl) (fun _ _ => rfl)) (AllGive.cons (give_yield (by rfl) (fun _ k9 => ld_fns (cell_stays k9 c4) rfl rfl)) (AllGive.cons (give_yield (by rfl) (fun _ _ => ix_fns (j := 0) rfl rfl rfl (by decide))) (AllGive.cons (give_yield (by rfl) (fun _ k9 => ld_fn (cell_stays k9 y0) (cell_stays k9 y1) (cell_stays k9 y2) rfl rfl)) (AllGive.cons (give_yield (by rfl) (fun _ k9 => ld_in (cell_stays k9 d0) (cell_stays k9 d1) (cell_stays k9 d2) (cell_stays k9 d3) (cell_stays k9 d4) (cell_stays k9 d5) rfl rfl)) (AllGive.cons (give_call (by rfl) 17 #[.pointer (some ⟨q + 5, 0, none⟩), .agg #[.int .i64 (fun8 ptab 0).sig, .slice ra (fun8 ptab 0).regs.length rp, .slice ba (fun8 ptab 0).blocks.length bp], .agg #[.int .i64 4, .int .i64 d, .int .i64 0, .int .i64 0, .int .i64 0, .slice none 0 0]] (fun w => exec_call3 rfl rfl rfl rfl rfl (enter_rfits _ _ _ w)) (fun w9 k9 => HFR.out w9 k9)) (AllGive.cons (give_yield (by rfl) (fun _ _ => bin_eqlB rfl rfl rfl (by cases res <;> rfl))) (AllGive.cons (give_yield (by rfl) (fun _ _ => rfl)) (AllGive.nil)))))))))))))), fun w8 k8 => ?_⟩
    go_wp2_with fail
    go_ret
    exact ⟨rfl, (K9.out.quiet EX.out.2).quiet k8⟩
  · as_aux_lemma =>
    have ka := Keeps.alloc [] w9 (.cells #[.int .i64 5, .int .i64 0, .int .i64 0, .int .i64 0, .int .i64 0, .slice none 0 0] 54)
    have hx0 := heap_new w9 (.cells #[.int .i64 5, .int .i64 0, .int .i64 0, .int .i64 0, .int .i64 0, .slice none 0 0] 54)
    have HD := hid (rdef_any ⟨5, 0, 0, 0, 0, []⟩ (.slice none 0 0) (w9.alloc (.cells #[.int .i64 5, .int .i64 0, .int .i64 0, .int .i64 0, .int .i64 0, .slice none 0 0] 54)))
    rw [defV_yes (by rfl)] at HD
    unfold insV at HD
    simp only at HD
    have KA := hid ka
    have HX0 := hid hx0
    clear ka hx0
    go_wp2_with fail
    refine HD.out.mono ?_
    rintro e w10 ⟨rfl, k10⟩
    have K10 := hid (KA.out.quiet k10)
    have hx := keep_heap HX0.out k10
    have HX := hid hx
    obtain ⟨ib, hib⟩ : ∃ ib, ib = w9.heap.size := ⟨_, rfl⟩
    rw [← hib] at hx HX
    rw [← hib]
    have HIB := hid hib
    have i0 := hcell hx 0
    have i1 := hcell hx 1
    have i2 := hcell hx 2
    have i3 := hcell hx 3
    have i4 := hcell hx 4
    have i5 := hcell hx 5
    have z1 := hfrozen hx 1
    have z2 := hfrozen hx 2
    have z3 := hfrozen hx 3
    have z4 := hfrozen hx 4
    have z5 := hfrozen hx 5
    clear k10 hx hib HD HX0 KA
    go_upto_region 38 with fail
    have NEW : ∀ x, x ∈ [ib] → x < w9.heap.size → x ∈ [] := fun x hx hl => by simp at hx; have := HIB.out; omega
    have EX : Box (((w10.setCell ⟨ib, 1, none⟩ (.int .i64 d))).heap[ib]? = some (.cells #[.int .i64 5, .int .i64 d, .int .i64 0, .int .i64 0, .int .i64 0, .slice none 0 0] 54 (0, 0)) ∧ Keeps [] w9 (w10.setCell ⟨ib, 1, none⟩ (.int .i64 d))) := hid ⟨(heap_setCell_same _ _ 1 _ _ (.int .i64 d) HX.out), (K10.out.trans (Keeps.setCell [ib] _ ⟨ib, 1, none⟩ (.int .i64 d) (List.mem_singleton.2 rfl)) NEW)⟩
    clear i0 i1 i2 i3 i4 i5 z1 z2 z3 z4 z5 NEW
    generalize (w10.setCell ⟨ib, 1, none⟩ (.int .i64 d)) = w11 at *
    have PR1 := hid (PrC.stays _ _ _ _ _ EX.out.2 PR.out)
    obtain ⟨fa, fp, c4, r4, _⟩ := PR1.out.c4
    obtain ⟨gb, go, rfl, hgc0⟩ := r4.at (getD_get (l := ptab.funcs) (k := 0) (d := ⟨0, [], []⟩) (by decide))
    have hgc : FuC w11 gb (go + 0 * 3) (fun8 ptab 0) := hgc0
    obtain ⟨ra, rp, y1, rrr, _, rl⟩ := hgc.c1
    obtain ⟨ba, bp, y2, brr, _, bl⟩ := hgc.c2
    have y0 := hgc.c0.1
    have d0 := hcell EX.out.1 0
    have d1 := hcell EX.out.1 1
    have d2 := hcell EX.out.1 2
    have d3 := hcell EX.out.1 3
    have d4 := hcell EX.out.1 4
    have d5 := hcell EX.out.1 5
    have RES : ∃ res, res = (insOk ptab (fun8 ptab 0) ⟨5, d, 0, 0, 0, []⟩ && fitB ptab (fun8 ptab 0) ⟨5, d, 0, 0, 0, []⟩) := ⟨_, rfl⟩
    obtain ⟨res, hres⟩ := RES
    have HFT : Box (∀ w', Keeps [] w11 w' → Calls Tryd.prog 16 #[.pointer (some ⟨q + 5, 0, none⟩), .int .i64 0, .agg #[.int .i64 5, .int .i64 d, .int .i64 0, .int .i64 0, .int .i64 0, .slice none 0 0]] w' fun e w2 => e = .returned (.bool res) ∧ Keeps [] w' w2) := hid fun w' k => by
      have e := fits_any (cp := 0) (PrC.stays _ _ _ _ _ k PR1.out) (f := 0) (by decide) ⟨5, d, 0, 0, 0, []⟩ (a := none) (.inl rfl) (by simp)
      rw [fit_same (names_ty ptab_nm (by decide)), ← hres] at e
      exact e
    have HFR : Box (∀ w', Keeps [] w11 w' → Calls Tryd.prog 17 #[.pointer (some ⟨q + 5, 0, none⟩), .agg #[.int .i64 (fun8 ptab 0).sig, .slice ra (fun8 ptab 0).regs.length rp, .slice ba (fun8 ptab 0).blocks.length bp], .agg #[.int .i64 5, .int .i64 d, .int .i64 0, .int .i64 0, .int .i64 0, .slice none 0 0]] w' fun e w2 => e = .returned (.bool res) ∧ Keeps [] w' w2) := hid fun w' k => by
      have e := rfits_any (cp := 0) (PrC.stays _ _ _ _ _ k PR1.out) (f := fun8 ptab 0) (RowsAt.quiet rrr TyC.stays k) rfl rp (.slice ba (fun8 ptab 0).blocks.length bp) (names_ty ptab_nm (by decide)) (names_if ptab_nm) (names_sg ptab_nm) ⟨5, d, 0, 0, 0, []⟩ (a := none) (.inl rfl) (by simp)
      rw [← hres] at e
      exact e
    clear hres rrr brr rl bl hgc hgc0 r4
    refine wp_region_det (W0 := w11) 191 [(.pointer (some ⟨q + 5, 0, none⟩) : Value), (.agg #[.int .i64 5, .int .i64 d, .int .i64 0, .int .i64 0, .int .i64 0, .slice none 0 0] : Value), (.bool res : Value), (.pointer (some ⟨q + 5, 0, none⟩) : Value), (.pointer (some ⟨q + 5, 0, none⟩) : Value), (.pointer (some ⟨q + 5, 0, none⟩) : Value), (.pointer (some ⟨q + 5, 4, none⟩) : Value), (.slice (some ⟨gb, go, none⟩) ptab.funcs.length fp : Value), (.pointer (some ⟨gb, go + 0 * 3, none⟩) : Value), (.agg #[.int .i64 (fun8 ptab 0).sig, .slice ra (fun8 ptab 0).regs.length rp, .slice ba (fun8 ptab 0).blocks.length bp] : Value), (.agg #[.int .i64 5, .int .i64 d, .int .i64 0, .int .i64 0, .int .i64 0, .slice none 0 0] : Value), (.bool res : Value), (.bool true : Value), (.bool true : Value)] (by kernel_rfl) (by rfl) (by kernel_rfl) (Keeps.refl _ _) (fun A hA => ?_)
    simp only [putAll, Act.put, List.setIfInBounds_toArray, List.set_cons_zero, List.set_cons_succ] at hA
    subst hA
    refine ⟨AllGive.cons (give_yield (by rfl) (fun _ _ => rfl)) (AllGive.cons (give_yield (by rfl) (fun _ k9 => ld_in (cell_stays k9 d0) (cell_stays k9 d1) (cell_stays k9 d2) (cell_stays k9 d3) (cell_stays k9 d4) (cell_stays k9 d5) rfl rfl)) (AllGive.cons (give_call (by rfl) 16 #[.pointer (some ⟨q + 5, 0, none⟩), .int .i64 0, .agg #[.int .i64 5, .int .i64 d, .int .i64 0, .int .i64 0, .int .i64 0, .slice none 0 0]] (fun w => exec_call3 rfl rfl rfl rfl rfl (enter_fits _ _ _ w)) (fun w9 k9 => HFT.out w9 k9)) (AllGive.cons (give_yield (by rfl) (fun _ _ => rfl)) (AllGive.cons (give_yield (by rfl) (fun _ _ => rfl)) (AllGive.cons (give_yield (by rfl) (fun _ _ => rfl)) (AllGive.cons (give_yield (by rfl) (fun _ _ => rfl)) (AllGive.cons (give_yield (by rfl) (fun _ k9 => ld_fns (cell_stays k9 c4) rfl rfl)) (AllGive.cons (give_yield (by rfl) (fun _ _ => ix_fns (j := 0) rfl rfl rfl (by decide))) (AllGive.cons (give_yield (by rfl) (fun _ k9 => ld_fn (cell_stays k9 y0) (cell_stays k9 y1) (cell_stays k9 y2) rfl rfl)) (AllGive.cons (give_yield (by rfl) (fun _ k9 => ld_in (cell_stays k9 d0) (cell_stays k9 d1) (cell_stays k9 d2) (cell_stays k9 d3) (cell_stays k9 d4) (cell_stays k9 d5) rfl rfl)) (AllGive.cons (give_call (by rfl) 17 #[.pointer (some ⟨q + 5, 0, none⟩), .agg #[.int .i64 (fun8 ptab 0).sig, .slice ra (fun8 ptab 0).regs.length rp, .slice ba (fun8 ptab 0).blocks.length bp], .agg #[.int .i64 5, .int .i64 d, .int .i64 0, .int .i64 0, .int .i64 0, .slice none 0 0]] (fun w => exec_call3 rfl rfl rfl rfl rfl (enter_rfits _ _ _ w)) (fun w9 k9 => HFR.out w9 k9)) (AllGive.cons (give_yield (by rfl) (fun _ _ => bin_eqlB rfl rfl rfl (by cases res <;> rfl))) (AllGive.cons (give_yield (by rfl) (fun _ _ => rfl)) (AllGive.nil)))))))))))))), fun w8 k8 => ?_⟩
    go_wp2_with fail
    go_ret
    exact ⟨rfl, (K9.out.quiet EX.out.2).quiet k8⟩
  · as_aux_lemma =>
    have ka := Keeps.alloc [] w9 (.cells #[.int .i64 6, .int .i64 0, .int .i64 0, .int .i64 0, .int .i64 0, .slice none 0 0] 54)
    have hx0 := heap_new w9 (.cells #[.int .i64 6, .int .i64 0, .int .i64 0, .int .i64 0, .int .i64 0, .slice none 0 0] 54)
    have HD := hid (rdef_any ⟨6, 0, 0, 0, 0, []⟩ (.slice none 0 0) (w9.alloc (.cells #[.int .i64 6, .int .i64 0, .int .i64 0, .int .i64 0, .int .i64 0, .slice none 0 0] 54)))
    rw [defV_yes (by rfl)] at HD
    unfold insV at HD
    simp only at HD
    have KA := hid ka
    have HX0 := hid hx0
    clear ka hx0
    go_wp2_with fail
    refine HD.out.mono ?_
    rintro e w10 ⟨rfl, k10⟩
    have K10 := hid (KA.out.quiet k10)
    have hx := keep_heap HX0.out k10
    have HX := hid hx
    obtain ⟨ib, hib⟩ : ∃ ib, ib = w9.heap.size := ⟨_, rfl⟩
    rw [← hib] at hx HX
    rw [← hib]
    have HIB := hid hib
    have i0 := hcell hx 0
    have i1 := hcell hx 1
    have i2 := hcell hx 2
    have i3 := hcell hx 3
    have i4 := hcell hx 4
    have i5 := hcell hx 5
    have z1 := hfrozen hx 1
    have z2 := hfrozen hx 2
    have z3 := hfrozen hx 3
    have z4 := hfrozen hx 4
    have z5 := hfrozen hx 5
    clear k10 hx hib HD HX0 KA
    go_upto_region 38 with fail
    have NEW : ∀ x, x ∈ [ib] → x < w9.heap.size → x ∈ [] := fun x hx hl => by simp at hx; have := HIB.out; omega
    have EX : Box ((((w10.setCell ⟨ib, 1, none⟩ (.int .i64 d)).setCell ⟨ib, 2, none⟩ (.int .i64 a))).heap[ib]? = some (.cells #[.int .i64 6, .int .i64 d, .int .i64 a, .int .i64 0, .int .i64 0, .slice none 0 0] 54 (0, 0)) ∧ Keeps [] w9 ((w10.setCell ⟨ib, 1, none⟩ (.int .i64 d)).setCell ⟨ib, 2, none⟩ (.int .i64 a))) := hid ⟨(heap_setCell_same _ _ 2 _ _ (.int .i64 a) (heap_setCell_same _ _ 1 _ _ (.int .i64 d) HX.out)), ((K10.out.trans (Keeps.setCell [ib] _ ⟨ib, 1, none⟩ (.int .i64 d) (List.mem_singleton.2 rfl)) NEW).trans (Keeps.setCell [ib] _ ⟨ib, 2, none⟩ (.int .i64 a) (List.mem_singleton.2 rfl)) NEW)⟩
    clear i0 i1 i2 i3 i4 i5 z1 z2 z3 z4 z5 NEW
    generalize ((w10.setCell ⟨ib, 1, none⟩ (.int .i64 d)).setCell ⟨ib, 2, none⟩ (.int .i64 a)) = w11 at *
    have PR1 := hid (PrC.stays _ _ _ _ _ EX.out.2 PR.out)
    obtain ⟨fa, fp, c4, r4, _⟩ := PR1.out.c4
    obtain ⟨gb, go, rfl, hgc0⟩ := r4.at (getD_get (l := ptab.funcs) (k := 0) (d := ⟨0, [], []⟩) (by decide))
    have hgc : FuC w11 gb (go + 0 * 3) (fun8 ptab 0) := hgc0
    obtain ⟨ra, rp, y1, rrr, _, rl⟩ := hgc.c1
    obtain ⟨ba, bp, y2, brr, _, bl⟩ := hgc.c2
    have y0 := hgc.c0.1
    have d0 := hcell EX.out.1 0
    have d1 := hcell EX.out.1 1
    have d2 := hcell EX.out.1 2
    have d3 := hcell EX.out.1 3
    have d4 := hcell EX.out.1 4
    have d5 := hcell EX.out.1 5
    have RES : ∃ res, res = (insOk ptab (fun8 ptab 0) ⟨6, d, a, 0, 0, []⟩ && fitB ptab (fun8 ptab 0) ⟨6, d, a, 0, 0, []⟩) := ⟨_, rfl⟩
    obtain ⟨res, hres⟩ := RES
    have HFT : Box (∀ w', Keeps [] w11 w' → Calls Tryd.prog 16 #[.pointer (some ⟨q + 5, 0, none⟩), .int .i64 0, .agg #[.int .i64 6, .int .i64 d, .int .i64 a, .int .i64 0, .int .i64 0, .slice none 0 0]] w' fun e w2 => e = .returned (.bool res) ∧ Keeps [] w' w2) := hid fun w' k => by
      have e := fits_any (cp := 0) (PrC.stays _ _ _ _ _ k PR1.out) (f := 0) (by decide) ⟨6, d, a, 0, 0, []⟩ (a := none) (.inl rfl) (by simp)
      rw [fit_same (names_ty ptab_nm (by decide)), ← hres] at e
      exact e
    have HFR : Box (∀ w', Keeps [] w11 w' → Calls Tryd.prog 17 #[.pointer (some ⟨q + 5, 0, none⟩), .agg #[.int .i64 (fun8 ptab 0).sig, .slice ra (fun8 ptab 0).regs.length rp, .slice ba (fun8 ptab 0).blocks.length bp], .agg #[.int .i64 6, .int .i64 d, .int .i64 a, .int .i64 0, .int .i64 0, .slice none 0 0]] w' fun e w2 => e = .returned (.bool res) ∧ Keeps [] w' w2) := hid fun w' k => by
      have e := rfits_any (cp := 0) (PrC.stays _ _ _ _ _ k PR1.out) (f := fun8 ptab 0) (RowsAt.quiet rrr TyC.stays k) rfl rp (.slice ba (fun8 ptab 0).blocks.length bp) (names_ty ptab_nm (by decide)) (names_if ptab_nm) (names_sg ptab_nm) ⟨6, d, a, 0, 0, []⟩ (a := none) (.inl rfl) (by simp)
      rw [← hres] at e
      exact e
    clear hres rrr brr rl bl hgc hgc0 r4
    refine wp_region_det (W0 := w11) 191 [(.pointer (some ⟨q + 5, 0, none⟩) : Value), (.agg #[.int .i64 6, .int .i64 d, .int .i64 a, .int .i64 0, .int .i64 0, .slice none 0 0] : Value), (.bool res : Value), (.pointer (some ⟨q + 5, 0, none⟩) : Value), (.pointer (some ⟨q + 5, 0, none⟩) : Value), (.pointer (some ⟨q + 5, 0, none⟩) : Value), (.pointer (some ⟨q + 5, 4, none⟩) : Value), (.slice (some ⟨gb, go, none⟩) ptab.funcs.length fp : Value), (.pointer (some ⟨gb, go + 0 * 3, none⟩) : Value), (.agg #[.int .i64 (fun8 ptab 0).sig, .slice ra (fun8 ptab 0).regs.length rp, .slice ba (fun8 ptab 0).blocks.length bp] : Value), (.agg #[.int .i64 6, .int .i64 d, .int .i64 a, .int .i64 0, .int .i64 0, .slice none 0 0] : Value), (.bool res : Value), (.bool true : Value), (.bool true : Value)] (by kernel_rfl) (by rfl) (by kernel_rfl) (Keeps.refl _ _) (fun A hA => ?_)
    simp only [putAll, Act.put, List.setIfInBounds_toArray, List.set_cons_zero, List.set_cons_succ] at hA
    subst hA
    refine ⟨AllGive.cons (give_yield (by rfl) (fun _ _ => rfl)) (AllGive.cons (give_yield (by rfl) (fun _ k9 => ld_in (cell_stays k9 d0) (cell_stays k9 d1) (cell_stays k9 d2) (cell_stays k9 d3) (cell_stays k9 d4) (cell_stays k9 d5) rfl rfl)) (AllGive.cons (give_call (by rfl) 16 #[.pointer (some ⟨q + 5, 0, none⟩), .int .i64 0, .agg #[.int .i64 6, .int .i64 d, .int .i64 a, .int .i64 0, .int .i64 0, .slice none 0 0]] (fun w => exec_call3 rfl rfl rfl rfl rfl (enter_fits _ _ _ w)) (fun w9 k9 => HFT.out w9 k9)) (AllGive.cons (give_yield (by rfl) (fun _ _ => rfl)) (AllGive.cons (give_yield (by rfl) (fun _ _ => rfl)) (AllGive.cons (give_yield (by rfl) (fun _ _ => rfl)) (AllGive.cons (give_yield (by rfl) (fun _ _ => rfl)) (AllGive.cons (give_yield (by rfl) (fun _ k9 => ld_fns (cell_stays k9 c4) rfl rfl)) (AllGive.cons (give_yield (by rfl) (fun _ _ => ix_fns (j := 0) rfl rfl rfl (by decide))) (AllGive.cons (give_yield (by rfl) (fun _ k9 => ld_fn (cell_stays k9 y0) (cell_stays k9 y1) (cell_stays k9 y2) rfl rfl)) (AllGive.cons (give_yield (by rfl) (fun _ k9 => ld_in (cell_stays k9 d0) (cell_stays k9 d1) (cell_stays k9 d2) (cell_stays k9 d3) (cell_stays k9 d4) (cell_stays k9 d5) rfl rfl)) (AllGive.cons (give_call (by rfl) 17 #[.pointer (some ⟨q + 5, 0, none⟩), .agg #[.int .i64 (fun8 ptab 0).sig, .slice ra (fun8 ptab 0).regs.length rp, .slice ba (fun8 ptab 0).blocks.length bp], .agg #[.int .i64 6, .int .i64 d, .int .i64 a, .int .i64 0, .int .i64 0, .slice none 0 0]] (fun w => exec_call3 rfl rfl rfl rfl rfl (enter_rfits _ _ _ w)) (fun w9 k9 => HFR.out w9 k9)) (AllGive.cons (give_yield (by rfl) (fun _ _ => bin_eqlB rfl rfl rfl (by cases res <;> rfl))) (AllGive.cons (give_yield (by rfl) (fun _ _ => rfl)) (AllGive.nil)))))))))))))), fun w8 k8 => ?_⟩
    go_wp2_with fail
    go_ret
    exact ⟨rfl, (K9.out.quiet EX.out.2).quiet k8⟩
  · as_aux_lemma =>
    have ka := Keeps.alloc [] w9 (.cells #[.int .i64 7, .int .i64 0, .int .i64 0, .int .i64 0, .int .i64 0, .slice none 0 0] 54)
    have hx0 := heap_new w9 (.cells #[.int .i64 7, .int .i64 0, .int .i64 0, .int .i64 0, .int .i64 0, .slice none 0 0] 54)
    have HD := hid (rdef_any ⟨7, 0, 0, 0, 0, []⟩ (.slice none 0 0) (w9.alloc (.cells #[.int .i64 7, .int .i64 0, .int .i64 0, .int .i64 0, .int .i64 0, .slice none 0 0] 54)))
    rw [defV_yes (by rfl)] at HD
    unfold insV at HD
    simp only at HD
    have KA := hid ka
    have HX0 := hid hx0
    clear ka hx0
    go_wp2_with fail
    refine HD.out.mono ?_
    rintro e w10 ⟨rfl, k10⟩
    have K10 := hid (KA.out.quiet k10)
    have hx := keep_heap HX0.out k10
    have HX := hid hx
    obtain ⟨ib, hib⟩ : ∃ ib, ib = w9.heap.size := ⟨_, rfl⟩
    rw [← hib] at hx HX
    rw [← hib]
    have HIB := hid hib
    have i0 := hcell hx 0
    have i1 := hcell hx 1
    have i2 := hcell hx 2
    have i3 := hcell hx 3
    have i4 := hcell hx 4
    have i5 := hcell hx 5
    have z1 := hfrozen hx 1
    have z2 := hfrozen hx 2
    have z3 := hfrozen hx 3
    have z4 := hfrozen hx 4
    have z5 := hfrozen hx 5
    clear k10 hx hib HD HX0 KA
    go_upto_region 38 with fail
    have NEW : ∀ x, x ∈ [ib] → x < w9.heap.size → x ∈ [] := fun x hx hl => by simp at hx; have := HIB.out; omega
    have EX : Box (((((w10.setCell ⟨ib, 1, none⟩ (.int .i64 d)).setCell ⟨ib, 2, none⟩ (.int .i64 a)).setCell ⟨ib, 4, none⟩ (.int .i64 n))).heap[ib]? = some (.cells #[.int .i64 7, .int .i64 d, .int .i64 a, .int .i64 0, .int .i64 n, .slice none 0 0] 54 (0, 0)) ∧ Keeps [] w9 (((w10.setCell ⟨ib, 1, none⟩ (.int .i64 d)).setCell ⟨ib, 2, none⟩ (.int .i64 a)).setCell ⟨ib, 4, none⟩ (.int .i64 n))) := hid ⟨(heap_setCell_same _ _ 4 _ _ (.int .i64 n) (heap_setCell_same _ _ 2 _ _ (.int .i64 a) (heap_setCell_same _ _ 1 _ _ (.int .i64 d) HX.out))), (((K10.out.trans (Keeps.setCell [ib] _ ⟨ib, 1, none⟩ (.int .i64 d) (List.mem_singleton.2 rfl)) NEW).trans (Keeps.setCell [ib] _ ⟨ib, 2, none⟩ (.int .i64 a) (List.mem_singleton.2 rfl)) NEW).trans (Keeps.setCell [ib] _ ⟨ib, 4, none⟩ (.int .i64 n) (List.mem_singleton.2 rfl)) NEW)⟩
    clear i0 i1 i2 i3 i4 i5 z1 z2 z3 z4 z5 NEW
    generalize (((w10.setCell ⟨ib, 1, none⟩ (.int .i64 d)).setCell ⟨ib, 2, none⟩ (.int .i64 a)).setCell ⟨ib, 4, none⟩ (.int .i64 n)) = w11 at *
    have PR1 := hid (PrC.stays _ _ _ _ _ EX.out.2 PR.out)
    obtain ⟨fa, fp, c4, r4, _⟩ := PR1.out.c4
    obtain ⟨gb, go, rfl, hgc0⟩ := r4.at (getD_get (l := ptab.funcs) (k := 0) (d := ⟨0, [], []⟩) (by decide))
    have hgc : FuC w11 gb (go + 0 * 3) (fun8 ptab 0) := hgc0
    obtain ⟨ra, rp, y1, rrr, _, rl⟩ := hgc.c1
    obtain ⟨ba, bp, y2, brr, _, bl⟩ := hgc.c2
    have y0 := hgc.c0.1
    have d0 := hcell EX.out.1 0
    have d1 := hcell EX.out.1 1
    have d2 := hcell EX.out.1 2
    have d3 := hcell EX.out.1 3
    have d4 := hcell EX.out.1 4
    have d5 := hcell EX.out.1 5
    have RES : ∃ res, res = (insOk ptab (fun8 ptab 0) ⟨7, d, a, 0, n, []⟩ && fitB ptab (fun8 ptab 0) ⟨7, d, a, 0, n, []⟩) := ⟨_, rfl⟩
    obtain ⟨res, hres⟩ := RES
    have HFT : Box (∀ w', Keeps [] w11 w' → Calls Tryd.prog 16 #[.pointer (some ⟨q + 5, 0, none⟩), .int .i64 0, .agg #[.int .i64 7, .int .i64 d, .int .i64 a, .int .i64 0, .int .i64 n, .slice none 0 0]] w' fun e w2 => e = .returned (.bool res) ∧ Keeps [] w' w2) := hid fun w' k => by
      have e := fits_any (cp := 0) (PrC.stays _ _ _ _ _ k PR1.out) (f := 0) (by decide) ⟨7, d, a, 0, n, []⟩ (a := none) (.inl rfl) (by simp)
      rw [fit_same (names_ty ptab_nm (by decide)), ← hres] at e
      exact e
    have HFR : Box (∀ w', Keeps [] w11 w' → Calls Tryd.prog 17 #[.pointer (some ⟨q + 5, 0, none⟩), .agg #[.int .i64 (fun8 ptab 0).sig, .slice ra (fun8 ptab 0).regs.length rp, .slice ba (fun8 ptab 0).blocks.length bp], .agg #[.int .i64 7, .int .i64 d, .int .i64 a, .int .i64 0, .int .i64 n, .slice none 0 0]] w' fun e w2 => e = .returned (.bool res) ∧ Keeps [] w' w2) := hid fun w' k => by
      have e := rfits_any (cp := 0) (PrC.stays _ _ _ _ _ k PR1.out) (f := fun8 ptab 0) (RowsAt.quiet rrr TyC.stays k) rfl rp (.slice ba (fun8 ptab 0).blocks.length bp) (names_ty ptab_nm (by decide)) (names_if ptab_nm) (names_sg ptab_nm) ⟨7, d, a, 0, n, []⟩ (a := none) (.inl rfl) (by simp)
      rw [← hres] at e
      exact e
    clear hres rrr brr rl bl hgc hgc0 r4
    refine wp_region_det (W0 := w11) 191 [(.pointer (some ⟨q + 5, 0, none⟩) : Value), (.agg #[.int .i64 7, .int .i64 d, .int .i64 a, .int .i64 0, .int .i64 n, .slice none 0 0] : Value), (.bool res : Value), (.pointer (some ⟨q + 5, 0, none⟩) : Value), (.pointer (some ⟨q + 5, 0, none⟩) : Value), (.pointer (some ⟨q + 5, 0, none⟩) : Value), (.pointer (some ⟨q + 5, 4, none⟩) : Value), (.slice (some ⟨gb, go, none⟩) ptab.funcs.length fp : Value), (.pointer (some ⟨gb, go + 0 * 3, none⟩) : Value), (.agg #[.int .i64 (fun8 ptab 0).sig, .slice ra (fun8 ptab 0).regs.length rp, .slice ba (fun8 ptab 0).blocks.length bp] : Value), (.agg #[.int .i64 7, .int .i64 d, .int .i64 a, .int .i64 0, .int .i64 n, .slice none 0 0] : Value), (.bool res : Value), (.bool true : Value), (.bool true : Value)] (by kernel_rfl) (by rfl) (by kernel_rfl) (Keeps.refl _ _) (fun A hA => ?_)
    simp only [putAll, Act.put, List.setIfInBounds_toArray, List.set_cons_zero, List.set_cons_succ] at hA
    subst hA
    refine ⟨AllGive.cons (give_yield (by rfl) (fun _ _ => rfl)) (AllGive.cons (give_yield (by rfl) (fun _ k9 => ld_in (cell_stays k9 d0) (cell_stays k9 d1) (cell_stays k9 d2) (cell_stays k9 d3) (cell_stays k9 d4) (cell_stays k9 d5) rfl rfl)) (AllGive.cons (give_call (by rfl) 16 #[.pointer (some ⟨q + 5, 0, none⟩), .int .i64 0, .agg #[.int .i64 7, .int .i64 d, .int .i64 a, .int .i64 0, .int .i64 n, .slice none 0 0]] (fun w => exec_call3 rfl rfl rfl rfl rfl (enter_fits _ _ _ w)) (fun w9 k9 => HFT.out w9 k9)) (AllGive.cons (give_yield (by rfl) (fun _ _ => rfl)) (AllGive.cons (give_yield (by rfl) (fun _ _ => rfl)) (AllGive.cons (give_yield (by rfl) (fun _ _ => rfl)) (AllGive.cons (give_yield (by rfl) (fun _ _ => rfl)) (AllGive.cons (give_yield (by rfl) (fun _ k9 => ld_fns (cell_stays k9 c4) rfl rfl)) (AllGive.cons (give_yield (by rfl) (fun _ _ => ix_fns (j := 0) rfl rfl rfl (by decide))) (AllGive.cons (give_yield (by rfl) (fun _ k9 => ld_fn (cell_stays k9 y0) (cell_stays k9 y1) (cell_stays k9 y2) rfl rfl)) (AllGive.cons (give_yield (by rfl) (fun _ k9 => ld_in (cell_stays k9 d0) (cell_stays k9 d1) (cell_stays k9 d2) (cell_stays k9 d3) (cell_stays k9 d4) (cell_stays k9 d5) rfl rfl)) (AllGive.cons (give_call (by rfl) 17 #[.pointer (some ⟨q + 5, 0, none⟩), .agg #[.int .i64 (fun8 ptab 0).sig, .slice ra (fun8 ptab 0).regs.length rp, .slice ba (fun8 ptab 0).blocks.length bp], .agg #[.int .i64 7, .int .i64 d, .int .i64 a, .int .i64 0, .int .i64 n, .slice none 0 0]] (fun w => exec_call3 rfl rfl rfl rfl rfl (enter_rfits _ _ _ w)) (fun w9 k9 => HFR.out w9 k9)) (AllGive.cons (give_yield (by rfl) (fun _ _ => bin_eqlB rfl rfl rfl (by cases res <;> rfl))) (AllGive.cons (give_yield (by rfl) (fun _ _ => rfl)) (AllGive.nil)))))))))))))), fun w8 k8 => ?_⟩
    go_wp2_with fail
    go_ret
    exact ⟨rfl, (K9.out.quiet EX.out.2).quiet k8⟩
  · as_aux_lemma =>
    have ka := Keeps.alloc [] w9 (.cells #[.int .i64 8, .int .i64 0, .int .i64 0, .int .i64 0, .int .i64 0, .slice none 0 0] 54)
    have hx0 := heap_new w9 (.cells #[.int .i64 8, .int .i64 0, .int .i64 0, .int .i64 0, .int .i64 0, .slice none 0 0] 54)
    have HD := hid (rdef_any ⟨8, 0, 0, 0, 0, []⟩ (.slice none 0 0) (w9.alloc (.cells #[.int .i64 8, .int .i64 0, .int .i64 0, .int .i64 0, .int .i64 0, .slice none 0 0] 54)))
    rw [defV_no (by rfl)] at HD
    unfold insV at HD
    simp only at HD
    have KA := hid ka
    have HX0 := hid hx0
    clear ka hx0
    go_wp2_with fail
    refine HD.out.mono ?_
    rintro e w10 ⟨rfl, k10⟩
    have K10 := hid (KA.out.quiet k10)
    have hx := keep_heap HX0.out k10
    have HX := hid hx
    obtain ⟨ib, hib⟩ : ∃ ib, ib = w9.heap.size := ⟨_, rfl⟩
    rw [← hib] at hx HX
    rw [← hib]
    have HIB := hid hib
    have i0 := hcell hx 0
    have i1 := hcell hx 1
    have i2 := hcell hx 2
    have i3 := hcell hx 3
    have i4 := hcell hx 4
    have i5 := hcell hx 5
    have z1 := hfrozen hx 1
    have z2 := hfrozen hx 2
    have z3 := hfrozen hx 3
    have z4 := hfrozen hx 4
    have z5 := hfrozen hx 5
    clear k10 hx hib HD HX0 KA
    go_upto_region 38 with fail
    have NEW : ∀ x, x ∈ [ib] → x < w9.heap.size → x ∈ [] := fun x hx hl => by simp at hx; have := HIB.out; omega
    have EX : Box (((((w10.setCell ⟨ib, 2, none⟩ (.int .i64 a)).setCell ⟨ib, 3, none⟩ (.int .i64 b)).setCell ⟨ib, 4, none⟩ (.int .i64 n))).heap[ib]? = some (.cells #[.int .i64 8, .int .i64 0, .int .i64 a, .int .i64 b, .int .i64 n, .slice none 0 0] 54 (0, 0)) ∧ Keeps [] w9 (((w10.setCell ⟨ib, 2, none⟩ (.int .i64 a)).setCell ⟨ib, 3, none⟩ (.int .i64 b)).setCell ⟨ib, 4, none⟩ (.int .i64 n))) := hid ⟨(heap_setCell_same _ _ 4 _ _ (.int .i64 n) (heap_setCell_same _ _ 3 _ _ (.int .i64 b) (heap_setCell_same _ _ 2 _ _ (.int .i64 a) HX.out))), (((K10.out.trans (Keeps.setCell [ib] _ ⟨ib, 2, none⟩ (.int .i64 a) (List.mem_singleton.2 rfl)) NEW).trans (Keeps.setCell [ib] _ ⟨ib, 3, none⟩ (.int .i64 b) (List.mem_singleton.2 rfl)) NEW).trans (Keeps.setCell [ib] _ ⟨ib, 4, none⟩ (.int .i64 n) (List.mem_singleton.2 rfl)) NEW)⟩
    clear i0 i1 i2 i3 i4 i5 z1 z2 z3 z4 z5 NEW
    generalize (((w10.setCell ⟨ib, 2, none⟩ (.int .i64 a)).setCell ⟨ib, 3, none⟩ (.int .i64 b)).setCell ⟨ib, 4, none⟩ (.int .i64 n)) = w11 at *
    have PR1 := hid (PrC.stays _ _ _ _ _ EX.out.2 PR.out)
    obtain ⟨fa, fp, c4, r4, _⟩ := PR1.out.c4
    obtain ⟨gb, go, rfl, hgc0⟩ := r4.at (getD_get (l := ptab.funcs) (k := 0) (d := ⟨0, [], []⟩) (by decide))
    have hgc : FuC w11 gb (go + 0 * 3) (fun8 ptab 0) := hgc0
    obtain ⟨ra, rp, y1, rrr, _, rl⟩ := hgc.c1
    obtain ⟨ba, bp, y2, brr, _, bl⟩ := hgc.c2
    have y0 := hgc.c0.1
    have d0 := hcell EX.out.1 0
    have d1 := hcell EX.out.1 1
    have d2 := hcell EX.out.1 2
    have d3 := hcell EX.out.1 3
    have d4 := hcell EX.out.1 4
    have d5 := hcell EX.out.1 5
    have RES : ∃ res, res = (insOk ptab (fun8 ptab 0) ⟨8, 0, a, b, n, []⟩ && fitB ptab (fun8 ptab 0) ⟨8, 0, a, b, n, []⟩) := ⟨_, rfl⟩
    obtain ⟨res, hres⟩ := RES
    have HFT : Box (∀ w', Keeps [] w11 w' → Calls Tryd.prog 16 #[.pointer (some ⟨q + 5, 0, none⟩), .int .i64 0, .agg #[.int .i64 8, .int .i64 0, .int .i64 a, .int .i64 b, .int .i64 n, .slice none 0 0]] w' fun e w2 => e = .returned (.bool res) ∧ Keeps [] w' w2) := hid fun w' k => by
      have e := fits_any (cp := 0) (PrC.stays _ _ _ _ _ k PR1.out) (f := 0) (by decide) ⟨8, 0, a, b, n, []⟩ (a := none) (.inl rfl) (by simp)
      rw [fit_same (names_ty ptab_nm (by decide)), ← hres] at e
      exact e
    have HFR : Box (∀ w', Keeps [] w11 w' → Calls Tryd.prog 17 #[.pointer (some ⟨q + 5, 0, none⟩), .agg #[.int .i64 (fun8 ptab 0).sig, .slice ra (fun8 ptab 0).regs.length rp, .slice ba (fun8 ptab 0).blocks.length bp], .agg #[.int .i64 8, .int .i64 0, .int .i64 a, .int .i64 b, .int .i64 n, .slice none 0 0]] w' fun e w2 => e = .returned (.bool res) ∧ Keeps [] w' w2) := hid fun w' k => by
      have e := rfits_any (cp := 0) (PrC.stays _ _ _ _ _ k PR1.out) (f := fun8 ptab 0) (RowsAt.quiet rrr TyC.stays k) rfl rp (.slice ba (fun8 ptab 0).blocks.length bp) (names_ty ptab_nm (by decide)) (names_if ptab_nm) (names_sg ptab_nm) ⟨8, 0, a, b, n, []⟩ (a := none) (.inl rfl) (by simp)
      rw [← hres] at e
      exact e
    clear hres rrr brr rl bl hgc hgc0 r4
    refine wp_region_det (W0 := w11) 191 [(.pointer (some ⟨q + 5, 0, none⟩) : Value), (.agg #[.int .i64 8, .int .i64 0, .int .i64 a, .int .i64 b, .int .i64 n, .slice none 0 0] : Value), (.bool res : Value), (.pointer (some ⟨q + 5, 0, none⟩) : Value), (.pointer (some ⟨q + 5, 0, none⟩) : Value), (.pointer (some ⟨q + 5, 0, none⟩) : Value), (.pointer (some ⟨q + 5, 4, none⟩) : Value), (.slice (some ⟨gb, go, none⟩) ptab.funcs.length fp : Value), (.pointer (some ⟨gb, go + 0 * 3, none⟩) : Value), (.agg #[.int .i64 (fun8 ptab 0).sig, .slice ra (fun8 ptab 0).regs.length rp, .slice ba (fun8 ptab 0).blocks.length bp] : Value), (.agg #[.int .i64 8, .int .i64 0, .int .i64 a, .int .i64 b, .int .i64 n, .slice none 0 0] : Value), (.bool res : Value), (.bool true : Value), (.bool true : Value)] (by kernel_rfl) (by rfl) (by kernel_rfl) (Keeps.refl _ _) (fun A hA => ?_)
    simp only [putAll, Act.put, List.setIfInBounds_toArray, List.set_cons_zero, List.set_cons_succ] at hA
    subst hA
    refine ⟨AllGive.cons (give_yield (by rfl) (fun _ _ => rfl)) (AllGive.cons (give_yield (by rfl) (fun _ k9 => ld_in (cell_stays k9 d0) (cell_stays k9 d1) (cell_stays k9 d2) (cell_stays k9 d3) (cell_stays k9 d4) (cell_stays k9 d5) rfl rfl)) (AllGive.cons (give_call (by rfl) 16 #[.pointer (some ⟨q + 5, 0, none⟩), .int .i64 0, .agg #[.int .i64 8, .int .i64 0, .int .i64 a, .int .i64 b, .int .i64 n, .slice none 0 0]] (fun w => exec_call3 rfl rfl rfl rfl rfl (enter_fits _ _ _ w)) (fun w9 k9 => HFT.out w9 k9)) (AllGive.cons (give_yield (by rfl) (fun _ _ => rfl)) (AllGive.cons (give_yield (by rfl) (fun _ _ => rfl)) (AllGive.cons (give_yield (by rfl) (fun _ _ => rfl)) (AllGive.cons (give_yield (by rfl) (fun _ _ => rfl)) (AllGive.cons (give_yield (by rfl) (fun _ k9 => ld_fns (cell_stays k9 c4) rfl rfl)) (AllGive.cons (give_yield (by rfl) (fun _ _ => ix_fns (j := 0) rfl rfl rfl (by decide))) (AllGive.cons (give_yield (by rfl) (fun _ k9 => ld_fn (cell_stays k9 y0) (cell_stays k9 y1) (cell_stays k9 y2) rfl rfl)) (AllGive.cons (give_yield (by rfl) (fun _ k9 => ld_in (cell_stays k9 d0) (cell_stays k9 d1) (cell_stays k9 d2) (cell_stays k9 d3) (cell_stays k9 d4) (cell_stays k9 d5) rfl rfl)) (AllGive.cons (give_call (by rfl) 17 #[.pointer (some ⟨q + 5, 0, none⟩), .agg #[.int .i64 (fun8 ptab 0).sig, .slice ra (fun8 ptab 0).regs.length rp, .slice ba (fun8 ptab 0).blocks.length bp], .agg #[.int .i64 8, .int .i64 0, .int .i64 a, .int .i64 b, .int .i64 n, .slice none 0 0]] (fun w => exec_call3 rfl rfl rfl rfl rfl (enter_rfits _ _ _ w)) (fun w9 k9 => HFR.out w9 k9)) (AllGive.cons (give_yield (by rfl) (fun _ _ => bin_eqlB rfl rfl rfl (by cases res <;> rfl))) (AllGive.cons (give_yield (by rfl) (fun _ _ => rfl)) (AllGive.nil)))))))))))))), fun w8 k8 => ?_⟩
    go_wp2_with fail
    go_ret
    exact ⟨rfl, (K9.out.quiet EX.out.2).quiet k8⟩
  · as_aux_lemma =>
    have ka := Keeps.alloc [] w9 (.cells #[.int .i64 9, .int .i64 0, .int .i64 0, .int .i64 0, .int .i64 0, .slice none 0 0] 54)
    have hx0 := heap_new w9 (.cells #[.int .i64 9, .int .i64 0, .int .i64 0, .int .i64 0, .int .i64 0, .slice none 0 0] 54)
    have HD := hid (rdef_any ⟨9, 0, 0, 0, 0, []⟩ (.slice none 0 0) (w9.alloc (.cells #[.int .i64 9, .int .i64 0, .int .i64 0, .int .i64 0, .int .i64 0, .slice none 0 0] 54)))
    rw [defV_no (by rfl)] at HD
    unfold insV at HD
    simp only at HD
    have KA := hid ka
    have HX0 := hid hx0
    clear ka hx0
    go_wp2_with fail
    refine HD.out.mono ?_
    rintro e w10 ⟨rfl, k10⟩
    have K10 := hid (KA.out.quiet k10)
    have hx := keep_heap HX0.out k10
    have HX := hid hx
    obtain ⟨ib, hib⟩ : ∃ ib, ib = w9.heap.size := ⟨_, rfl⟩
    rw [← hib] at hx HX
    rw [← hib]
    have HIB := hid hib
    have i0 := hcell hx 0
    have i1 := hcell hx 1
    have i2 := hcell hx 2
    have i3 := hcell hx 3
    have i4 := hcell hx 4
    have i5 := hcell hx 5
    have z1 := hfrozen hx 1
    have z2 := hfrozen hx 2
    have z3 := hfrozen hx 3
    have z4 := hfrozen hx 4
    have z5 := hfrozen hx 5
    clear k10 hx hib HD HX0 KA
    go_upto_region 38 with fail
    have NEW : ∀ x, x ∈ [ib] → x < w9.heap.size → x ∈ [] := fun x hx hl => by simp at hx; have := HIB.out; omega
    have EX : Box (((w10.setCell ⟨ib, 2, none⟩ (.int .i64 a))).heap[ib]? = some (.cells #[.int .i64 9, .int .i64 0, .int .i64 a, .int .i64 0, .int .i64 0, .slice none 0 0] 54 (0, 0)) ∧ Keeps [] w9 (w10.setCell ⟨ib, 2, none⟩ (.int .i64 a))) := hid ⟨(heap_setCell_same _ _ 2 _ _ (.int .i64 a) HX.out), (K10.out.trans (Keeps.setCell [ib] _ ⟨ib, 2, none⟩ (.int .i64 a) (List.mem_singleton.2 rfl)) NEW)⟩
    clear i0 i1 i2 i3 i4 i5 z1 z2 z3 z4 z5 NEW
    generalize (w10.setCell ⟨ib, 2, none⟩ (.int .i64 a)) = w11 at *
    have PR1 := hid (PrC.stays _ _ _ _ _ EX.out.2 PR.out)
    obtain ⟨fa, fp, c4, r4, _⟩ := PR1.out.c4
    obtain ⟨gb, go, rfl, hgc0⟩ := r4.at (getD_get (l := ptab.funcs) (k := 0) (d := ⟨0, [], []⟩) (by decide))
    have hgc : FuC w11 gb (go + 0 * 3) (fun8 ptab 0) := hgc0
    obtain ⟨ra, rp, y1, rrr, _, rl⟩ := hgc.c1
    obtain ⟨ba, bp, y2, brr, _, bl⟩ := hgc.c2
    have y0 := hgc.c0.1
    have d0 := hcell EX.out.1 0
    have d1 := hcell EX.out.1 1
    have d2 := hcell EX.out.1 2
    have d3 := hcell EX.out.1 3
    have d4 := hcell EX.out.1 4
    have d5 := hcell EX.out.1 5
    have RES : ∃ res, res = (insOk ptab (fun8 ptab 0) ⟨9, 0, a, 0, 0, []⟩ && fitB ptab (fun8 ptab 0) ⟨9, 0, a, 0, 0, []⟩) := ⟨_, rfl⟩
    obtain ⟨res, hres⟩ := RES
    have HFT : Box (∀ w', Keeps [] w11 w' → Calls Tryd.prog 16 #[.pointer (some ⟨q + 5, 0, none⟩), .int .i64 0, .agg #[.int .i64 9, .int .i64 0, .int .i64 a, .int .i64 0, .int .i64 0, .slice none 0 0]] w' fun e w2 => e = .returned (.bool res) ∧ Keeps [] w' w2) := hid fun w' k => by
      have e := fits_any (cp := 0) (PrC.stays _ _ _ _ _ k PR1.out) (f := 0) (by decide) ⟨9, 0, a, 0, 0, []⟩ (a := none) (.inl rfl) (by simp)
      rw [fit_same (names_ty ptab_nm (by decide)), ← hres] at e
      exact e
    have HFR : Box (∀ w', Keeps [] w11 w' → Calls Tryd.prog 17 #[.pointer (some ⟨q + 5, 0, none⟩), .agg #[.int .i64 (fun8 ptab 0).sig, .slice ra (fun8 ptab 0).regs.length rp, .slice ba (fun8 ptab 0).blocks.length bp], .agg #[.int .i64 9, .int .i64 0, .int .i64 a, .int .i64 0, .int .i64 0, .slice none 0 0]] w' fun e w2 => e = .returned (.bool res) ∧ Keeps [] w' w2) := hid fun w' k => by
      have e := rfits_any (cp := 0) (PrC.stays _ _ _ _ _ k PR1.out) (f := fun8 ptab 0) (RowsAt.quiet rrr TyC.stays k) rfl rp (.slice ba (fun8 ptab 0).blocks.length bp) (names_ty ptab_nm (by decide)) (names_if ptab_nm) (names_sg ptab_nm) ⟨9, 0, a, 0, 0, []⟩ (a := none) (.inl rfl) (by simp)
      rw [← hres] at e
      exact e
    clear hres rrr brr rl bl hgc hgc0 r4
    refine wp_region_det (W0 := w11) 191 [(.pointer (some ⟨q + 5, 0, none⟩) : Value), (.agg #[.int .i64 9, .int .i64 0, .int .i64 a, .int .i64 0, .int .i64 0, .slice none 0 0] : Value), (.bool res : Value), (.pointer (some ⟨q + 5, 0, none⟩) : Value), (.pointer (some ⟨q + 5, 0, none⟩) : Value), (.pointer (some ⟨q + 5, 0, none⟩) : Value), (.pointer (some ⟨q + 5, 4, none⟩) : Value), (.slice (some ⟨gb, go, none⟩) ptab.funcs.length fp : Value), (.pointer (some ⟨gb, go + 0 * 3, none⟩) : Value), (.agg #[.int .i64 (fun8 ptab 0).sig, .slice ra (fun8 ptab 0).regs.length rp, .slice ba (fun8 ptab 0).blocks.length bp] : Value), (.agg #[.int .i64 9, .int .i64 0, .int .i64 a, .int .i64 0, .int .i64 0, .slice none 0 0] : Value), (.bool res : Value), (.bool true : Value), (.bool true : Value)] (by kernel_rfl) (by rfl) (by kernel_rfl) (Keeps.refl _ _) (fun A hA => ?_)
    simp only [putAll, Act.put, List.setIfInBounds_toArray, List.set_cons_zero, List.set_cons_succ] at hA
    subst hA
    refine ⟨AllGive.cons (give_yield (by rfl) (fun _ _ => rfl)) (AllGive.cons (give_yield (by rfl) (fun _ k9 => ld_in (cell_stays k9 d0) (cell_stays k9 d1) (cell_stays k9 d2) (cell_stays k9 d3) (cell_stays k9 d4) (cell_stays k9 d5) rfl rfl)) (AllGive.cons (give_call (by rfl) 16 #[.pointer (some ⟨q + 5, 0, none⟩), .int .i64 0, .agg #[.int .i64 9, .int .i64 0, .int .i64 a, .int .i64 0, .int .i64 0, .slice none 0 0]] (fun w => exec_call3 rfl rfl rfl rfl rfl (enter_fits _ _ _ w)) (fun w9 k9 => HFT.out w9 k9)) (AllGive.cons (give_yield (by rfl) (fun _ _ => rfl)) (AllGive.cons (give_yield (by rfl) (fun _ _ => rfl)) (AllGive.cons (give_yield (by rfl) (fun _ _ => rfl)) (AllGive.cons (give_yield (by rfl) (fun _ _ => rfl)) (AllGive.cons (give_yield (by rfl) (fun _ k9 => ld_fns (cell_stays k9 c4) rfl rfl)) (AllGive.cons (give_yield (by rfl) (fun _ _ => ix_fns (j := 0) rfl rfl rfl (by decide))) (AllGive.cons (give_yield (by rfl) (fun _ k9 => ld_fn (cell_stays k9 y0) (cell_stays k9 y1) (cell_stays k9 y2) rfl rfl)) (AllGive.cons (give_yield (by rfl) (fun _ k9 => ld_in (cell_stays k9 d0) (cell_stays k9 d1) (cell_stays k9 d2) (cell_stays k9 d3) (cell_stays k9 d4) (cell_stays k9 d5) rfl rfl)) (AllGive.cons (give_call (by rfl) 17 #[.pointer (some ⟨q + 5, 0, none⟩), .agg #[.int .i64 (fun8 ptab 0).sig, .slice ra (fun8 ptab 0).regs.length rp, .slice ba (fun8 ptab 0).blocks.length bp], .agg #[.int .i64 9, .int .i64 0, .int .i64 a, .int .i64 0, .int .i64 0, .slice none 0 0]] (fun w => exec_call3 rfl rfl rfl rfl rfl (enter_rfits _ _ _ w)) (fun w9 k9 => HFR.out w9 k9)) (AllGive.cons (give_yield (by rfl) (fun _ _ => bin_eqlB rfl rfl rfl (by cases res <;> rfl))) (AllGive.cons (give_yield (by rfl) (fun _ _ => rfl)) (AllGive.nil)))))))))))))), fun w8 k8 => ?_⟩
    go_wp2_with fail
    go_ret
    exact ⟨rfl, (K9.out.quiet EX.out.2).quiet k8⟩
  · as_aux_lemma =>
    have ka := Keeps.alloc [] w9 (.cells #[.int .i64 10, .int .i64 0, .int .i64 0, .int .i64 0, .int .i64 0, .slice none 0 0] 54)
    have hx0 := heap_new w9 (.cells #[.int .i64 10, .int .i64 0, .int .i64 0, .int .i64 0, .int .i64 0, .slice none 0 0] 54)
    have HD := hid (rdef_any ⟨10, 0, 0, 0, 0, []⟩ (.slice none 0 0) (w9.alloc (.cells #[.int .i64 10, .int .i64 0, .int .i64 0, .int .i64 0, .int .i64 0, .slice none 0 0] 54)))
    rw [defV_yes (by rfl)] at HD
    unfold insV at HD
    simp only at HD
    have KA := hid ka
    have HX0 := hid hx0
    clear ka hx0
    go_wp2_with fail
    refine HD.out.mono ?_
    rintro e w10 ⟨rfl, k10⟩
    have K10 := hid (KA.out.quiet k10)
    have hx := keep_heap HX0.out k10
    have HX := hid hx
    obtain ⟨ib, hib⟩ : ∃ ib, ib = w9.heap.size := ⟨_, rfl⟩
    rw [← hib] at hx HX
    rw [← hib]
    have HIB := hid hib
    have i0 := hcell hx 0
    have i1 := hcell hx 1
    have i2 := hcell hx 2
    have i3 := hcell hx 3
    have i4 := hcell hx 4
    have i5 := hcell hx 5
    have z1 := hfrozen hx 1
    have z2 := hfrozen hx 2
    have z3 := hfrozen hx 3
    have z4 := hfrozen hx 4
    have z5 := hfrozen hx 5
    clear k10 hx hib HD HX0 KA
    go_upto_region 38 with fail
    have NEW : ∀ x, x ∈ [ib] → x < w9.heap.size → x ∈ [] := fun x hx hl => by simp at hx; have := HIB.out; omega
    have EX : Box ((((w10.setCell ⟨ib, 1, none⟩ (.int .i64 d)).setCell ⟨ib, 4, none⟩ (.int .i64 n))).heap[ib]? = some (.cells #[.int .i64 10, .int .i64 d, .int .i64 0, .int .i64 0, .int .i64 n, .slice none 0 0] 54 (0, 0)) ∧ Keeps [] w9 ((w10.setCell ⟨ib, 1, none⟩ (.int .i64 d)).setCell ⟨ib, 4, none⟩ (.int .i64 n))) := hid ⟨(heap_setCell_same _ _ 4 _ _ (.int .i64 n) (heap_setCell_same _ _ 1 _ _ (.int .i64 d) HX.out)), ((K10.out.trans (Keeps.setCell [ib] _ ⟨ib, 1, none⟩ (.int .i64 d) (List.mem_singleton.2 rfl)) NEW).trans (Keeps.setCell [ib] _ ⟨ib, 4, none⟩ (.int .i64 n) (List.mem_singleton.2 rfl)) NEW)⟩
    clear i0 i1 i2 i3 i4 i5 z1 z2 z3 z4 z5 NEW
    generalize ((w10.setCell ⟨ib, 1, none⟩ (.int .i64 d)).setCell ⟨ib, 4, none⟩ (.int .i64 n)) = w11 at *
    have PR1 := hid (PrC.stays _ _ _ _ _ EX.out.2 PR.out)
    obtain ⟨fa, fp, c4, r4, _⟩ := PR1.out.c4
    obtain ⟨gb, go, rfl, hgc0⟩ := r4.at (getD_get (l := ptab.funcs) (k := 0) (d := ⟨0, [], []⟩) (by decide))
    have hgc : FuC w11 gb (go + 0 * 3) (fun8 ptab 0) := hgc0
    obtain ⟨ra, rp, y1, rrr, _, rl⟩ := hgc.c1
    obtain ⟨ba, bp, y2, brr, _, bl⟩ := hgc.c2
    have y0 := hgc.c0.1
    have d0 := hcell EX.out.1 0
    have d1 := hcell EX.out.1 1
    have d2 := hcell EX.out.1 2
    have d3 := hcell EX.out.1 3
    have d4 := hcell EX.out.1 4
    have d5 := hcell EX.out.1 5
    have RES : ∃ res, res = (insOk ptab (fun8 ptab 0) ⟨10, d, 0, 0, n, []⟩ && fitB ptab (fun8 ptab 0) ⟨10, d, 0, 0, n, []⟩) := ⟨_, rfl⟩
    obtain ⟨res, hres⟩ := RES
    have HFT : Box (∀ w', Keeps [] w11 w' → Calls Tryd.prog 16 #[.pointer (some ⟨q + 5, 0, none⟩), .int .i64 0, .agg #[.int .i64 10, .int .i64 d, .int .i64 0, .int .i64 0, .int .i64 n, .slice none 0 0]] w' fun e w2 => e = .returned (.bool res) ∧ Keeps [] w' w2) := hid fun w' k => by
      have e := fits_any (cp := 0) (PrC.stays _ _ _ _ _ k PR1.out) (f := 0) (by decide) ⟨10, d, 0, 0, n, []⟩ (a := none) (.inl rfl) (by simp)
      rw [fit_same (names_ty ptab_nm (by decide)), ← hres] at e
      exact e
    have HFR : Box (∀ w', Keeps [] w11 w' → Calls Tryd.prog 17 #[.pointer (some ⟨q + 5, 0, none⟩), .agg #[.int .i64 (fun8 ptab 0).sig, .slice ra (fun8 ptab 0).regs.length rp, .slice ba (fun8 ptab 0).blocks.length bp], .agg #[.int .i64 10, .int .i64 d, .int .i64 0, .int .i64 0, .int .i64 n, .slice none 0 0]] w' fun e w2 => e = .returned (.bool res) ∧ Keeps [] w' w2) := hid fun w' k => by
      have e := rfits_any (cp := 0) (PrC.stays _ _ _ _ _ k PR1.out) (f := fun8 ptab 0) (RowsAt.quiet rrr TyC.stays k) rfl rp (.slice ba (fun8 ptab 0).blocks.length bp) (names_ty ptab_nm (by decide)) (names_if ptab_nm) (names_sg ptab_nm) ⟨10, d, 0, 0, n, []⟩ (a := none) (.inl rfl) (by simp)
      rw [← hres] at e
      exact e
    clear hres rrr brr rl bl hgc hgc0 r4
    refine wp_region_det (W0 := w11) 191 [(.pointer (some ⟨q + 5, 0, none⟩) : Value), (.agg #[.int .i64 10, .int .i64 d, .int .i64 0, .int .i64 0, .int .i64 n, .slice none 0 0] : Value), (.bool res : Value), (.pointer (some ⟨q + 5, 0, none⟩) : Value), (.pointer (some ⟨q + 5, 0, none⟩) : Value), (.pointer (some ⟨q + 5, 0, none⟩) : Value), (.pointer (some ⟨q + 5, 4, none⟩) : Value), (.slice (some ⟨gb, go, none⟩) ptab.funcs.length fp : Value), (.pointer (some ⟨gb, go + 0 * 3, none⟩) : Value), (.agg #[.int .i64 (fun8 ptab 0).sig, .slice ra (fun8 ptab 0).regs.length rp, .slice ba (fun8 ptab 0).blocks.length bp] : Value), (.agg #[.int .i64 10, .int .i64 d, .int .i64 0, .int .i64 0, .int .i64 n, .slice none 0 0] : Value), (.bool res : Value), (.bool true : Value), (.bool true : Value)] (by kernel_rfl) (by rfl) (by kernel_rfl) (Keeps.refl _ _) (fun A hA => ?_)
    simp only [putAll, Act.put, List.setIfInBounds_toArray, List.set_cons_zero, List.set_cons_succ] at hA
    subst hA
    refine ⟨AllGive.cons (give_yield (by rfl) (fun _ _ => rfl)) (AllGive.cons (give_yield (by rfl) (fun _ k9 => ld_in (cell_stays k9 d0) (cell_stays k9 d1) (cell_stays k9 d2) (cell_stays k9 d3) (cell_stays k9 d4) (cell_stays k9 d5) rfl rfl)) (AllGive.cons (give_call (by rfl) 16 #[.pointer (some ⟨q + 5, 0, none⟩), .int .i64 0, .agg #[.int .i64 10, .int .i64 d, .int .i64 0, .int .i64 0, .int .i64 n, .slice none 0 0]] (fun w => exec_call3 rfl rfl rfl rfl rfl (enter_fits _ _ _ w)) (fun w9 k9 => HFT.out w9 k9)) (AllGive.cons (give_yield (by rfl) (fun _ _ => rfl)) (AllGive.cons (give_yield (by rfl) (fun _ _ => rfl)) (AllGive.cons (give_yield (by rfl) (fun _ _ => rfl)) (AllGive.cons (give_yield (by rfl) (fun _ _ => rfl)) (AllGive.cons (give_yield (by rfl) (fun _ k9 => ld_fns (cell_stays k9 c4) rfl rfl)) (AllGive.cons (give_yield (by rfl) (fun _ _ => ix_fns (j := 0) rfl rfl rfl (by decide))) (AllGive.cons (give_yield (by rfl) (fun _ k9 => ld_fn (cell_stays k9 y0) (cell_stays k9 y1) (cell_stays k9 y2) rfl rfl)) (AllGive.cons (give_yield (by rfl) (fun _ k9 => ld_in (cell_stays k9 d0) (cell_stays k9 d1) (cell_stays k9 d2) (cell_stays k9 d3) (cell_stays k9 d4) (cell_stays k9 d5) rfl rfl)) (AllGive.cons (give_call (by rfl) 17 #[.pointer (some ⟨q + 5, 0, none⟩), .agg #[.int .i64 (fun8 ptab 0).sig, .slice ra (fun8 ptab 0).regs.length rp, .slice ba (fun8 ptab 0).blocks.length bp], .agg #[.int .i64 10, .int .i64 d, .int .i64 0, .int .i64 0, .int .i64 n, .slice none 0 0]] (fun w => exec_call3 rfl rfl rfl rfl rfl (enter_rfits _ _ _ w)) (fun w9 k9 => HFR.out w9 k9)) (AllGive.cons (give_yield (by rfl) (fun _ _ => bin_eqlB rfl rfl rfl (by cases res <;> rfl))) (AllGive.cons (give_yield (by rfl) (fun _ _ => rfl)) (AllGive.nil)))))))))))))), fun w8 k8 => ?_⟩
    go_wp2_with fail
    go_ret
    exact ⟨rfl, (K9.out.quiet EX.out.2).quiet k8⟩
  · as_aux_lemma =>
    have ka := Keeps.alloc [] w9 (.cells #[.int .i64 11, .int .i64 0, .int .i64 0, .int .i64 0, .int .i64 0, .slice none 0 0] 54)
    have hx0 := heap_new w9 (.cells #[.int .i64 11, .int .i64 0, .int .i64 0, .int .i64 0, .int .i64 0, .slice none 0 0] 54)
    have HD := hid (rdef_any ⟨11, 0, 0, 0, 0, []⟩ (.slice none 0 0) (w9.alloc (.cells #[.int .i64 11, .int .i64 0, .int .i64 0, .int .i64 0, .int .i64 0, .slice none 0 0] 54)))
    rw [defV_yes (by rfl)] at HD
    unfold insV at HD
    simp only at HD
    have KA := hid ka
    have HX0 := hid hx0
    clear ka hx0
    go_wp2_with fail
    refine HD.out.mono ?_
    rintro e w10 ⟨rfl, k10⟩
    have K10 := hid (KA.out.quiet k10)
    have hx := keep_heap HX0.out k10
    have HX := hid hx
    obtain ⟨ib, hib⟩ : ∃ ib, ib = w9.heap.size := ⟨_, rfl⟩
    rw [← hib] at hx HX
    rw [← hib]
    have HIB := hid hib
    have i0 := hcell hx 0
    have i1 := hcell hx 1
    have i2 := hcell hx 2
    have i3 := hcell hx 3
    have i4 := hcell hx 4
    have i5 := hcell hx 5
    have z1 := hfrozen hx 1
    have z2 := hfrozen hx 2
    have z3 := hfrozen hx 3
    have z4 := hfrozen hx 4
    have z5 := hfrozen hx 5
    clear k10 hx hib HD HX0 KA
    go_upto_region 38 with fail
    have NEW : ∀ x, x ∈ [ib] → x < w9.heap.size → x ∈ [] := fun x hx hl => by simp at hx; have := HIB.out; omega
    have EX : Box ((((w10.setCell ⟨ib, 1, none⟩ (.int .i64 d)).setCell ⟨ib, 2, none⟩ (.int .i64 a))).heap[ib]? = some (.cells #[.int .i64 11, .int .i64 d, .int .i64 a, .int .i64 0, .int .i64 0, .slice none 0 0] 54 (0, 0)) ∧ Keeps [] w9 ((w10.setCell ⟨ib, 1, none⟩ (.int .i64 d)).setCell ⟨ib, 2, none⟩ (.int .i64 a))) := hid ⟨(heap_setCell_same _ _ 2 _ _ (.int .i64 a) (heap_setCell_same _ _ 1 _ _ (.int .i64 d) HX.out)), ((K10.out.trans (Keeps.setCell [ib] _ ⟨ib, 1, none⟩ (.int .i64 d) (List.mem_singleton.2 rfl)) NEW).trans (Keeps.setCell [ib] _ ⟨ib, 2, none⟩ (.int .i64 a) (List.mem_singleton.2 rfl)) NEW)⟩
    clear i0 i1 i2 i3 i4 i5 z1 z2 z3 z4 z5 NEW
    generalize ((w10.setCell ⟨ib, 1, none⟩ (.int .i64 d)).setCell ⟨ib, 2, none⟩ (.int .i64 a)) = w11 at *
    have PR1 := hid (PrC.stays _ _ _ _ _ EX.out.2 PR.out)
    obtain ⟨fa, fp, c4, r4, _⟩ := PR1.out.c4
    obtain ⟨gb, go, rfl, hgc0⟩ := r4.at (getD_get (l := ptab.funcs) (k := 0) (d := ⟨0, [], []⟩) (by decide))
    have hgc : FuC w11 gb (go + 0 * 3) (fun8 ptab 0) := hgc0
    obtain ⟨ra, rp, y1, rrr, _, rl⟩ := hgc.c1
    obtain ⟨ba, bp, y2, brr, _, bl⟩ := hgc.c2
    have y0 := hgc.c0.1
    have d0 := hcell EX.out.1 0
    have d1 := hcell EX.out.1 1
    have d2 := hcell EX.out.1 2
    have d3 := hcell EX.out.1 3
    have d4 := hcell EX.out.1 4
    have d5 := hcell EX.out.1 5
    have RES : ∃ res, res = (insOk ptab (fun8 ptab 0) ⟨11, d, a, 0, 0, []⟩ && fitB ptab (fun8 ptab 0) ⟨11, d, a, 0, 0, []⟩) := ⟨_, rfl⟩
    obtain ⟨res, hres⟩ := RES
    have HFT : Box (∀ w', Keeps [] w11 w' → Calls Tryd.prog 16 #[.pointer (some ⟨q + 5, 0, none⟩), .int .i64 0, .agg #[.int .i64 11, .int .i64 d, .int .i64 a, .int .i64 0, .int .i64 0, .slice none 0 0]] w' fun e w2 => e = .returned (.bool res) ∧ Keeps [] w' w2) := hid fun w' k => by
      have e := fits_any (cp := 0) (PrC.stays _ _ _ _ _ k PR1.out) (f := 0) (by decide) ⟨11, d, a, 0, 0, []⟩ (a := none) (.inl rfl) (by simp)
      rw [fit_same (names_ty ptab_nm (by decide)), ← hres] at e
      exact e
    have HFR : Box (∀ w', Keeps [] w11 w' → Calls Tryd.prog 17 #[.pointer (some ⟨q + 5, 0, none⟩), .agg #[.int .i64 (fun8 ptab 0).sig, .slice ra (fun8 ptab 0).regs.length rp, .slice ba (fun8 ptab 0).blocks.length bp], .agg #[.int .i64 11, .int .i64 d, .int .i64 a, .int .i64 0, .int .i64 0, .slice none 0 0]] w' fun e w2 => e = .returned (.bool res) ∧ Keeps [] w' w2) := hid fun w' k => by
      have e := rfits_any (cp := 0) (PrC.stays _ _ _ _ _ k PR1.out) (f := fun8 ptab 0) (RowsAt.quiet rrr TyC.stays k) rfl rp (.slice ba (fun8 ptab 0).blocks.length bp) (names_ty ptab_nm (by decide)) (names_if ptab_nm) (names_sg ptab_nm) ⟨11, d, a, 0, 0, []⟩ (a := none) (.inl rfl) (by simp)
      rw [← hres] at e
      exact e
    clear hres rrr brr rl bl hgc hgc0 r4
    refine wp_region_det (W0 := w11) 191 [(.pointer (some ⟨q + 5, 0, none⟩) : Value), (.agg #[.int .i64 11, .int .i64 d, .int .i64 a, .int .i64 0, .int .i64 0, .slice none 0 0] : Value), (.bool res : Value), (.pointer (some ⟨q + 5, 0, none⟩) : Value), (.pointer (some ⟨q + 5, 0, none⟩) : Value), (.pointer (some ⟨q + 5, 0, none⟩) : Value), (.pointer (some ⟨q + 5, 4, none⟩) : Value), (.slice (some ⟨gb, go, none⟩) ptab.funcs.length fp : Value), (.pointer (some ⟨gb, go + 0 * 3, none⟩) : Value), (.agg #[.int .i64 (fun8 ptab 0).sig, .slice ra (fun8 ptab 0).regs.length rp, .slice ba (fun8 ptab 0).blocks.length bp] : Value), (.agg #[.int .i64 11, .int .i64 d, .int .i64 a, .int .i64 0, .int .i64 0, .slice none 0 0] : Value), (.bool res : Value), (.bool true : Value), (.bool true : Value)] (by kernel_rfl) (by rfl) (by kernel_rfl) (Keeps.refl _ _) (fun A hA => ?_)
    simp only [putAll, Act.put, List.setIfInBounds_toArray, List.set_cons_zero, List.set_cons_succ] at hA
    subst hA
    refine ⟨AllGive.cons (give_yield (by rfl) (fun _ _ => rfl)) (AllGive.cons (give_yield (by rfl) (fun _ k9 => ld_in (cell_stays k9 d0) (cell_stays k9 d1) (cell_stays k9 d2) (cell_stays k9 d3) (cell_stays k9 d4) (cell_stays k9 d5) rfl rfl)) (AllGive.cons (give_call (by rfl) 16 #[.pointer (some ⟨q + 5, 0, none⟩), .int .i64 0, .agg #[.int .i64 11, .int .i64 d, .int .i64 a, .int .i64 0, .int .i64 0, .slice none 0 0]] (fun w => exec_call3 rfl rfl rfl rfl rfl (enter_fits _ _ _ w)) (fun w9 k9 => HFT.out w9 k9)) (AllGive.cons (give_yield (by rfl) (fun _ _ => rfl)) (AllGive.cons (give_yield (by rfl) (fun _ _ => rfl)) (AllGive.cons (give_yield (by rfl) (fun _ _ => rfl)) (AllGive.cons (give_yield (by rfl) (fun _ _ => rfl)) (AllGive.cons (give_yield (by rfl) (fun _ k9 => ld_fns (cell_stays k9 c4) rfl rfl)) (AllGive.cons (give_yield (by rfl) (fun _ _ => ix_fns (j := 0) rfl rfl rfl (by decide))) (AllGive.cons (give_yield (by rfl) (fun _ k9 => ld_fn (cell_stays k9 y0) (cell_stays k9 y1) (cell_stays k9 y2) rfl rfl)) (AllGive.cons (give_yield (by rfl) (fun _ k9 => ld_in (cell_stays k9 d0) (cell_stays k9 d1) (cell_stays k9 d2) (cell_stays k9 d3) (cell_stays k9 d4) (cell_stays k9 d5) rfl rfl)) (AllGive.cons (give_call (by rfl) 17 #[.pointer (some ⟨q + 5, 0, none⟩), .agg #[.int .i64 (fun8 ptab 0).sig, .slice ra (fun8 ptab 0).regs.length rp, .slice ba (fun8 ptab 0).blocks.length bp], .agg #[.int .i64 11, .int .i64 d, .int .i64 a, .int .i64 0, .int .i64 0, .slice none 0 0]] (fun w => exec_call3 rfl rfl rfl rfl rfl (enter_rfits _ _ _ w)) (fun w9 k9 => HFR.out w9 k9)) (AllGive.cons (give_yield (by rfl) (fun _ _ => bin_eqlB rfl rfl rfl (by cases res <;> rfl))) (AllGive.cons (give_yield (by rfl) (fun _ _ => rfl)) (AllGive.nil)))))))))))))), fun w8 k8 => ?_⟩
    go_wp2_with fail
    go_ret
    exact ⟨rfl, (K9.out.quiet EX.out.2).quiet k8⟩
  · as_aux_lemma =>
    rcases hns with rfl | rfl
    · have ka := Keeps.alloc [] w9 (.cells #[.int .i64 12, .int .i64 0, .int .i64 0, .int .i64 0, .int .i64 0, .slice none 0 0] 54)
      have hx0 := heap_new w9 (.cells #[.int .i64 12, .int .i64 0, .int .i64 0, .int .i64 0, .int .i64 0, .slice none 0 0] 54)
      have HD := hid (rdef_any ⟨12, 0, 0, 0, 0, []⟩ (.slice none 0 0) (w9.alloc (.cells #[.int .i64 12, .int .i64 0, .int .i64 0, .int .i64 0, .int .i64 0, .slice none 0 0] 54)))
      rw [defV_yes (by rfl)] at HD
      unfold insV at HD
      simp only at HD
      have KA := hid ka
      have HX0 := hid hx0
      clear ka hx0
      go_wp2_with fail
      refine HD.out.mono ?_
      rintro e w10 ⟨rfl, k10⟩
      have K10 := hid (KA.out.quiet k10)
      have hx := keep_heap HX0.out k10
      have HX := hid hx
      obtain ⟨ib, hib⟩ : ∃ ib, ib = w9.heap.size := ⟨_, rfl⟩
      rw [← hib] at hx HX
      rw [← hib]
      have HIB := hid hib
      have i0 := hcell hx 0
      have i1 := hcell hx 1
      have i2 := hcell hx 2
      have i3 := hcell hx 3
      have i4 := hcell hx 4
      have i5 := hcell hx 5
      have z1 := hfrozen hx 1
      have z2 := hfrozen hx 2
      have z3 := hfrozen hx 3
      have z4 := hfrozen hx 4
      have z5 := hfrozen hx 5
      clear k10 hx hib HD HX0 KA
      go_upto_region 38 with fail
      have NEW : ∀ x, x ∈ [ib] → x < w9.heap.size → x ∈ [] := fun x hx hl => by simp at hx; have := HIB.out; omega
      have EX : Box ((((w10.setCell ⟨ib, 1, none⟩ (.int .i64 d)).setCell ⟨ib, 4, none⟩ (.int .i64 0))).heap[ib]? = some (.cells #[.int .i64 12, .int .i64 d, .int .i64 0, .int .i64 0, .int .i64 0, .slice none 0 0] 54 (0, 0)) ∧ Keeps [] w9 ((w10.setCell ⟨ib, 1, none⟩ (.int .i64 d)).setCell ⟨ib, 4, none⟩ (.int .i64 0))) := hid ⟨(heap_setCell_same _ _ 4 _ _ (.int .i64 0) (heap_setCell_same _ _ 1 _ _ (.int .i64 d) HX.out)), ((K10.out.trans (Keeps.setCell [ib] _ ⟨ib, 1, none⟩ (.int .i64 d) (List.mem_singleton.2 rfl)) NEW).trans (Keeps.setCell [ib] _ ⟨ib, 4, none⟩ (.int .i64 0) (List.mem_singleton.2 rfl)) NEW)⟩
      clear i0 i1 i2 i3 i4 i5 z1 z2 z3 z4 z5 NEW
      generalize ((w10.setCell ⟨ib, 1, none⟩ (.int .i64 d)).setCell ⟨ib, 4, none⟩ (.int .i64 0)) = w11 at *
      have PR1 := hid (PrC.stays _ _ _ _ _ EX.out.2 PR.out)
      obtain ⟨fa, fp, c4, r4, _⟩ := PR1.out.c4
      obtain ⟨gb, go, rfl, hgc0⟩ := r4.at (getD_get (l := ptab.funcs) (k := 0) (d := ⟨0, [], []⟩) (by decide))
      have hgc : FuC w11 gb (go + 0 * 3) (fun8 ptab 0) := hgc0
      obtain ⟨ra, rp, y1, rrr, _, rl⟩ := hgc.c1
      obtain ⟨ba, bp, y2, brr, _, bl⟩ := hgc.c2
      have y0 := hgc.c0.1
      have d0 := hcell EX.out.1 0
      have d1 := hcell EX.out.1 1
      have d2 := hcell EX.out.1 2
      have d3 := hcell EX.out.1 3
      have d4 := hcell EX.out.1 4
      have d5 := hcell EX.out.1 5
      have RES : ∃ res, res = (insOk ptab (fun8 ptab 0) ⟨12, d, 0, 0, 0, []⟩ && fitB ptab (fun8 ptab 0) ⟨12, d, 0, 0, 0, []⟩) := ⟨_, rfl⟩
      obtain ⟨res, hres⟩ := RES
      have HFT : Box (∀ w', Keeps [] w11 w' → Calls Tryd.prog 16 #[.pointer (some ⟨q + 5, 0, none⟩), .int .i64 0, .agg #[.int .i64 12, .int .i64 d, .int .i64 0, .int .i64 0, .int .i64 0, .slice none 0 0]] w' fun e w2 => e = .returned (.bool res) ∧ Keeps [] w' w2) := hid fun w' k => by
        have e := fits_any (cp := 0) (PrC.stays _ _ _ _ _ k PR1.out) (f := 0) (by decide) ⟨12, d, 0, 0, 0, []⟩ (a := none) (.inl rfl) (by simp)
        rw [fit_same (names_ty ptab_nm (by decide)), ← hres] at e
        exact e
      have HFR : Box (∀ w', Keeps [] w11 w' → Calls Tryd.prog 17 #[.pointer (some ⟨q + 5, 0, none⟩), .agg #[.int .i64 (fun8 ptab 0).sig, .slice ra (fun8 ptab 0).regs.length rp, .slice ba (fun8 ptab 0).blocks.length bp], .agg #[.int .i64 12, .int .i64 d, .int .i64 0, .int .i64 0, .int .i64 0, .slice none 0 0]] w' fun e w2 => e = .returned (.bool res) ∧ Keeps [] w' w2) := hid fun w' k => by
        have e := rfits_any (cp := 0) (PrC.stays _ _ _ _ _ k PR1.out) (f := fun8 ptab 0) (RowsAt.quiet rrr TyC.stays k) rfl rp (.slice ba (fun8 ptab 0).blocks.length bp) (names_ty ptab_nm (by decide)) (names_if ptab_nm) (names_sg ptab_nm) ⟨12, d, 0, 0, 0, []⟩ (a := none) (.inl rfl) (by simp)
        rw [← hres] at e
        exact e
      clear hres rrr brr rl bl hgc hgc0 r4
      refine wp_region_det (W0 := w11) 191 [(.pointer (some ⟨q + 5, 0, none⟩) : Value), (.agg #[.int .i64 12, .int .i64 d, .int .i64 0, .int .i64 0, .int .i64 0, .slice none 0 0] : Value), (.bool res : Value), (.pointer (some ⟨q + 5, 0, none⟩) : Value), (.pointer (some ⟨q + 5, 0, none⟩) : Value), (.pointer (some ⟨q + 5, 0, none⟩) : Value), (.pointer (some ⟨q + 5, 4, none⟩) : Value), (.slice (some ⟨gb, go, none⟩) ptab.funcs.length fp : Value), (.pointer (some ⟨gb, go + 0 * 3, none⟩) : Value), (.agg #[.int .i64 (fun8 ptab 0).sig, .slice ra (fun8 ptab 0).regs.length rp, .slice ba (fun8 ptab 0).blocks.length bp] : Value), (.agg #[.int .i64 12, .int .i64 d, .int .i64 0, .int .i64 0, .int .i64 0, .slice none 0 0] : Value), (.bool res : Value), (.bool true : Value), (.bool true : Value)] (by kernel_rfl) (by rfl) (by kernel_rfl) (Keeps.refl _ _) (fun A hA => ?_)
      simp only [putAll, Act.put, List.setIfInBounds_toArray, List.set_cons_zero, List.set_cons_succ] at hA
      subst hA
      refine ⟨AllGive.cons (give_yield (by rfl) (fun _ _ => rfl)) (AllGive.cons (give_yield (by rfl) (fun _ k9 => ld_in (cell_stays k9 d0) (cell_stays k9 d1) (cell_stays k9 d2) (cell_stays k9 d3) (cell_stays k9 d4) (cell_stays k9 d5) rfl rfl)) (AllGive.cons (give_call (by rfl) 16 #[.pointer (some ⟨q + 5, 0, none⟩), .int .i64 0, .agg #[.int .i64 12, .int .i64 d, .int .i64 0, .int .i64 0, .int .i64 0, .slice none 0 0]] (fun w => exec_call3 rfl rfl rfl rfl rfl (enter_fits _ _ _ w)) (fun w9 k9 => HFT.out w9 k9)) (AllGive.cons (give_yield (by rfl) (fun _ _ => rfl)) (AllGive.cons (give_yield (by rfl) (fun _ _ => rfl)) (AllGive.cons (give_yield (by rfl) (fun _ _ => rfl)) (AllGive.cons (give_yield (by rfl) (fun _ _ => rfl)) (AllGive.cons (give_yield (by rfl) (fun _ k9 => ld_fns (cell_stays k9 c4) rfl rfl)) (AllGive.cons (give_yield (by rfl) (fun _ _ => ix_fns (j := 0) rfl rfl rfl (by decide))) (AllGive.cons (give_yield (by rfl) (fun _ k9 => ld_fn (cell_stays k9 y0) (cell_stays k9 y1) (cell_stays k9 y2) rfl rfl)) (AllGive.cons (give_yield (by rfl) (fun _ k9 => ld_in (cell_stays k9 d0) (cell_stays k9 d1) (cell_stays k9 d2) (cell_stays k9 d3) (cell_stays k9 d4) (cell_stays k9 d5) rfl rfl)) (AllGive.cons (give_call (by rfl) 17 #[.pointer (some ⟨q + 5, 0, none⟩), .agg #[.int .i64 (fun8 ptab 0).sig, .slice ra (fun8 ptab 0).regs.length rp, .slice ba (fun8 ptab 0).blocks.length bp], .agg #[.int .i64 12, .int .i64 d, .int .i64 0, .int .i64 0, .int .i64 0, .slice none 0 0]] (fun w => exec_call3 rfl rfl rfl rfl rfl (enter_rfits _ _ _ w)) (fun w9 k9 => HFR.out w9 k9)) (AllGive.cons (give_yield (by rfl) (fun _ _ => bin_eqlB rfl rfl rfl (by cases res <;> rfl))) (AllGive.cons (give_yield (by rfl) (fun _ _ => rfl)) (AllGive.nil)))))))))))))), fun w8 k8 => ?_⟩
      go_wp2_with fail
      go_ret
      exact ⟨rfl, (K9.out.quiet EX.out.2).quiet k8⟩
    · have ka := Keeps.alloc [] w9 (.cells #[.int .i64 12, .int .i64 0, .int .i64 0, .int .i64 0, .int .i64 0, .slice none 0 0] 54)
      have hx0 := heap_new w9 (.cells #[.int .i64 12, .int .i64 0, .int .i64 0, .int .i64 0, .int .i64 0, .slice none 0 0] 54)
      have HD := hid (rdef_any ⟨12, 0, 0, 0, 0, []⟩ (.slice none 0 0) (w9.alloc (.cells #[.int .i64 12, .int .i64 0, .int .i64 0, .int .i64 0, .int .i64 0, .slice none 0 0] 54)))
      rw [defV_yes (by rfl)] at HD
      unfold insV at HD
      simp only at HD
      have KA := hid ka
      have HX0 := hid hx0
      clear ka hx0
      go_wp2_with fail
      refine HD.out.mono ?_
      rintro e w10 ⟨rfl, k10⟩
      have K10 := hid (KA.out.quiet k10)
      have hx := keep_heap HX0.out k10
      have HX := hid hx
      obtain ⟨ib, hib⟩ : ∃ ib, ib = w9.heap.size := ⟨_, rfl⟩
      rw [← hib] at hx HX
      rw [← hib]
      have HIB := hid hib
      have i0 := hcell hx 0
      have i1 := hcell hx 1
      have i2 := hcell hx 2
      have i3 := hcell hx 3
      have i4 := hcell hx 4
      have i5 := hcell hx 5
      have z1 := hfrozen hx 1
      have z2 := hfrozen hx 2
      have z3 := hfrozen hx 3
      have z4 := hfrozen hx 4
      have z5 := hfrozen hx 5
      clear k10 hx hib HD HX0 KA
      have ixb := heap_lt HX.out
      go_upto_region 38 with fail
      have NEW : ∀ x, x ∈ [ib] → x < w9.heap.size → x ∈ [] := fun x hx hl => by simp at hx; have := HIB.out; omega
      have EX : Box ((((((w10.setCell ⟨ib, 1, none⟩ (.int .i64 d)).setCell ⟨ib, 4, none⟩ (.int .i64 1)).setCell ⟨ib, 5, none⟩ (.slice (some ⟨w10.heap.size, 0, none⟩) 1 1)).alloc (.cells #[.int .i64 a] 3))).heap[ib]? = some (.cells #[.int .i64 12, .int .i64 d, .int .i64 0, .int .i64 0, .int .i64 1, .slice (some ⟨w10.heap.size, 0, none⟩) 1 1] 54 (0, 0)) ∧ Keeps [] w9 ((((w10.setCell ⟨ib, 1, none⟩ (.int .i64 d)).setCell ⟨ib, 4, none⟩ (.int .i64 1)).setCell ⟨ib, 5, none⟩ (.slice (some ⟨w10.heap.size, 0, none⟩) 1 1)).alloc (.cells #[.int .i64 a] 3))) := hid ⟨(keep_heap (heap_setCell_same _ _ 5 _ _ (.slice (some ⟨w10.heap.size, 0, none⟩) 1 1) (heap_setCell_same _ _ 4 _ _ (.int .i64 1) (heap_setCell_same _ _ 1 _ _ (.int .i64 d) HX.out))) (Keeps.alloc [] _ _)), ((((K10.out.trans (Keeps.setCell [ib] _ ⟨ib, 1, none⟩ (.int .i64 d) (List.mem_singleton.2 rfl)) NEW).trans (Keeps.setCell [ib] _ ⟨ib, 4, none⟩ (.int .i64 1) (List.mem_singleton.2 rfl)) NEW).trans (Keeps.setCell [ib] _ ⟨ib, 5, none⟩ (.slice (some ⟨w10.heap.size, 0, none⟩) 1 1) (List.mem_singleton.2 rfl)) NEW).quiet (Keeps.alloc [] _ (.cells #[.int .i64 a] 3)))⟩
      have EA : Box ((((((w10.setCell ⟨ib, 1, none⟩ (.int .i64 d)).setCell ⟨ib, 4, none⟩ (.int .i64 1)).setCell ⟨ib, 5, none⟩ (.slice (some ⟨w10.heap.size, 0, none⟩) 1 1)).alloc (.cells #[.int .i64 a] 3))).heap[w10.heap.size]? = some (.cells #[.int .i64 a] 3 (0, 0))) := hid (heap_at (by simp [World.setCell]))
      clear i0 i1 i2 i3 i4 i5 z1 z2 z3 z4 z5 NEW
      generalize ((((w10.setCell ⟨ib, 1, none⟩ (.int .i64 d)).setCell ⟨ib, 4, none⟩ (.int .i64 1)).setCell ⟨ib, 5, none⟩ (.slice (some ⟨w10.heap.size, 0, none⟩) 1 1)).alloc (.cells #[.int .i64 a] 3)) = w11 at *
      generalize w10.heap.size = az at *
      have PR1 := hid (PrC.stays _ _ _ _ _ EX.out.2 PR.out)
      obtain ⟨fa, fp, c4, r4, _⟩ := PR1.out.c4
      obtain ⟨gb, go, rfl, hgc0⟩ := r4.at (getD_get (l := ptab.funcs) (k := 0) (d := ⟨0, [], []⟩) (by decide))
      have hgc : FuC w11 gb (go + 0 * 3) (fun8 ptab 0) := hgc0
      obtain ⟨ra, rp, y1, rrr, _, rl⟩ := hgc.c1
      obtain ⟨ba, bp, y2, brr, _, bl⟩ := hgc.c2
      have y0 := hgc.c0.1
      have d0 := hcell EX.out.1 0
      have d1 := hcell EX.out.1 1
      have d2 := hcell EX.out.1 2
      have d3 := hcell EX.out.1 3
      have d4 := hcell EX.out.1 4
      have d5 := hcell EX.out.1 5
      have RES : ∃ res, res = (insOk ptab (fun8 ptab 0) ⟨12, d, 0, 0, 1, [a]⟩ && fitB ptab (fun8 ptab 0) ⟨12, d, 0, 0, 1, [a]⟩) := ⟨_, rfl⟩
      obtain ⟨res, hres⟩ := RES
      have HFT : Box (∀ w', Keeps [] w11 w' → Calls Tryd.prog 16 #[.pointer (some ⟨q + 5, 0, none⟩), .int .i64 0, .agg #[.int .i64 12, .int .i64 d, .int .i64 0, .int .i64 0, .int .i64 1, .slice (some ⟨az, 0, none⟩) 1 1]] w' fun e w2 => e = .returned (.bool res) ∧ Keeps [] w' w2) := hid fun w' k => by
        have e := fits_any (cp := 1) (PrC.stays _ _ _ _ _ k PR1.out) (f := 0) (by decide) ⟨12, d, 0, 0, 1, [a]⟩ (a := some ⟨az, 0, none⟩) (.inr ⟨az, 0, rfl, fun i hi => by
          obtain rfl : i = 0 := by simpa using hi
          rw [hcell (keep_heap EA.out k) 0]; rfl⟩) (by simp)
        rw [fit_same (names_ty ptab_nm (by decide)), ← hres] at e
        exact e
      have HFR : Box (∀ w', Keeps [] w11 w' → Calls Tryd.prog 17 #[.pointer (some ⟨q + 5, 0, none⟩), .agg #[.int .i64 (fun8 ptab 0).sig, .slice ra (fun8 ptab 0).regs.length rp, .slice ba (fun8 ptab 0).blocks.length bp], .agg #[.int .i64 12, .int .i64 d, .int .i64 0, .int .i64 0, .int .i64 1, .slice (some ⟨az, 0, none⟩) 1 1]] w' fun e w2 => e = .returned (.bool res) ∧ Keeps [] w' w2) := hid fun w' k => by
        have e := rfits_any (cp := 1) (PrC.stays _ _ _ _ _ k PR1.out) (f := fun8 ptab 0) (RowsAt.quiet rrr TyC.stays k) rfl rp (.slice ba (fun8 ptab 0).blocks.length bp) (names_ty ptab_nm (by decide)) (names_if ptab_nm) (names_sg ptab_nm) ⟨12, d, 0, 0, 1, [a]⟩ (a := some ⟨az, 0, none⟩) (.inr ⟨az, 0, rfl, fun i hi => by
          obtain rfl : i = 0 := by simpa using hi
          rw [hcell (keep_heap EA.out k) 0]; rfl⟩) (by simp)
        rw [← hres] at e
        exact e
      clear hres rrr brr rl bl hgc hgc0 r4
      refine wp_region_det (W0 := w11) 191 [(.pointer (some ⟨q + 5, 0, none⟩) : Value), (.agg #[.int .i64 12, .int .i64 d, .int .i64 0, .int .i64 0, .int .i64 1, .slice (some ⟨az, 0, none⟩) 1 1] : Value), (.bool res : Value), (.pointer (some ⟨q + 5, 0, none⟩) : Value), (.pointer (some ⟨q + 5, 0, none⟩) : Value), (.pointer (some ⟨q + 5, 0, none⟩) : Value), (.pointer (some ⟨q + 5, 4, none⟩) : Value), (.slice (some ⟨gb, go, none⟩) ptab.funcs.length fp : Value), (.pointer (some ⟨gb, go + 0 * 3, none⟩) : Value), (.agg #[.int .i64 (fun8 ptab 0).sig, .slice ra (fun8 ptab 0).regs.length rp, .slice ba (fun8 ptab 0).blocks.length bp] : Value), (.agg #[.int .i64 12, .int .i64 d, .int .i64 0, .int .i64 0, .int .i64 1, .slice (some ⟨az, 0, none⟩) 1 1] : Value), (.bool res : Value), (.bool true : Value), (.bool true : Value)] (by kernel_rfl) (by rfl) (by kernel_rfl) (Keeps.refl _ _) (fun A hA => ?_)
      simp only [putAll, Act.put, List.setIfInBounds_toArray, List.set_cons_zero, List.set_cons_succ] at hA
      subst hA
      refine ⟨AllGive.cons (give_yield (by rfl) (fun _ _ => rfl)) (AllGive.cons (give_yield (by rfl) (fun _ k9 => ld_in (cell_stays k9 d0) (cell_stays k9 d1) (cell_stays k9 d2) (cell_stays k9 d3) (cell_stays k9 d4) (cell_stays k9 d5) rfl rfl)) (AllGive.cons (give_call (by rfl) 16 #[.pointer (some ⟨q + 5, 0, none⟩), .int .i64 0, .agg #[.int .i64 12, .int .i64 d, .int .i64 0, .int .i64 0, .int .i64 1, .slice (some ⟨az, 0, none⟩) 1 1]] (fun w => exec_call3 rfl rfl rfl rfl rfl (enter_fits _ _ _ w)) (fun w9 k9 => HFT.out w9 k9)) (AllGive.cons (give_yield (by rfl) (fun _ _ => rfl)) (AllGive.cons (give_yield (by rfl) (fun _ _ => rfl)) (AllGive.cons (give_yield (by rfl) (fun _ _ => rfl)) (AllGive.cons (give_yield (by rfl) (fun _ _ => rfl)) (AllGive.cons (give_yield (by rfl) (fun _ k9 => ld_fns (cell_stays k9 c4) rfl rfl)) (AllGive.cons (give_yield (by rfl) (fun _ _ => ix_fns (j := 0) rfl rfl rfl (by decide))) (AllGive.cons (give_yield (by rfl) (fun _ k9 => ld_fn (cell_stays k9 y0) (cell_stays k9 y1) (cell_stays k9 y2) rfl rfl)) (AllGive.cons (give_yield (by rfl) (fun _ k9 => ld_in (cell_stays k9 d0) (cell_stays k9 d1) (cell_stays k9 d2) (cell_stays k9 d3) (cell_stays k9 d4) (cell_stays k9 d5) rfl rfl)) (AllGive.cons (give_call (by rfl) 17 #[.pointer (some ⟨q + 5, 0, none⟩), .agg #[.int .i64 (fun8 ptab 0).sig, .slice ra (fun8 ptab 0).regs.length rp, .slice ba (fun8 ptab 0).blocks.length bp], .agg #[.int .i64 12, .int .i64 d, .int .i64 0, .int .i64 0, .int .i64 1, .slice (some ⟨az, 0, none⟩) 1 1]] (fun w => exec_call3 rfl rfl rfl rfl rfl (enter_rfits _ _ _ w)) (fun w9 k9 => HFR.out w9 k9)) (AllGive.cons (give_yield (by rfl) (fun _ _ => bin_eqlB rfl rfl rfl (by cases res <;> rfl))) (AllGive.cons (give_yield (by rfl) (fun _ _ => rfl)) (AllGive.nil)))))))))))))), fun w8 k8 => ?_⟩
      go_wp2_with fail
      go_ret
      exact ⟨rfl, (K9.out.quiet EX.out.2).quiet k8⟩
  · as_aux_lemma =>
    have ka := Keeps.alloc [] w9 (.cells #[.int .i64 13, .int .i64 0, .int .i64 0, .int .i64 0, .int .i64 0, .slice none 0 0] 54)
    have hx0 := heap_new w9 (.cells #[.int .i64 13, .int .i64 0, .int .i64 0, .int .i64 0, .int .i64 0, .slice none 0 0] 54)
    have HD := hid (rdef_any ⟨13, 0, 0, 0, 0, []⟩ (.slice none 0 0) (w9.alloc (.cells #[.int .i64 13, .int .i64 0, .int .i64 0, .int .i64 0, .int .i64 0, .slice none 0 0] 54)))
    rw [defV_yes (by rfl)] at HD
    unfold insV at HD
    simp only at HD
    have KA := hid ka
    have HX0 := hid hx0
    clear ka hx0
    go_wp2_with fail
    refine HD.out.mono ?_
    rintro e w10 ⟨rfl, k10⟩
    have K10 := hid (KA.out.quiet k10)
    have hx := keep_heap HX0.out k10
    have HX := hid hx
    obtain ⟨ib, hib⟩ : ∃ ib, ib = w9.heap.size := ⟨_, rfl⟩
    rw [← hib] at hx HX
    rw [← hib]
    have HIB := hid hib
    have i0 := hcell hx 0
    have i1 := hcell hx 1
    have i2 := hcell hx 2
    have i3 := hcell hx 3
    have i4 := hcell hx 4
    have i5 := hcell hx 5
    have z1 := hfrozen hx 1
    have z2 := hfrozen hx 2
    have z3 := hfrozen hx 3
    have z4 := hfrozen hx 4
    have z5 := hfrozen hx 5
    clear k10 hx hib HD HX0 KA
    go_upto_region 38 with fail
    have NEW : ∀ x, x ∈ [ib] → x < w9.heap.size → x ∈ [] := fun x hx hl => by simp at hx; have := HIB.out; omega
    have EX : Box ((((w10.setCell ⟨ib, 1, none⟩ (.int .i64 d)).setCell ⟨ib, 2, none⟩ (.int .i64 a))).heap[ib]? = some (.cells #[.int .i64 13, .int .i64 d, .int .i64 a, .int .i64 0, .int .i64 0, .slice none 0 0] 54 (0, 0)) ∧ Keeps [] w9 ((w10.setCell ⟨ib, 1, none⟩ (.int .i64 d)).setCell ⟨ib, 2, none⟩ (.int .i64 a))) := hid ⟨(heap_setCell_same _ _ 2 _ _ (.int .i64 a) (heap_setCell_same _ _ 1 _ _ (.int .i64 d) HX.out)), ((K10.out.trans (Keeps.setCell [ib] _ ⟨ib, 1, none⟩ (.int .i64 d) (List.mem_singleton.2 rfl)) NEW).trans (Keeps.setCell [ib] _ ⟨ib, 2, none⟩ (.int .i64 a) (List.mem_singleton.2 rfl)) NEW)⟩
    clear i0 i1 i2 i3 i4 i5 z1 z2 z3 z4 z5 NEW
    generalize ((w10.setCell ⟨ib, 1, none⟩ (.int .i64 d)).setCell ⟨ib, 2, none⟩ (.int .i64 a)) = w11 at *
    have PR1 := hid (PrC.stays _ _ _ _ _ EX.out.2 PR.out)
    obtain ⟨fa, fp, c4, r4, _⟩ := PR1.out.c4
    obtain ⟨gb, go, rfl, hgc0⟩ := r4.at (getD_get (l := ptab.funcs) (k := 0) (d := ⟨0, [], []⟩) (by decide))
    have hgc : FuC w11 gb (go + 0 * 3) (fun8 ptab 0) := hgc0
    obtain ⟨ra, rp, y1, rrr, _, rl⟩ := hgc.c1
    obtain ⟨ba, bp, y2, brr, _, bl⟩ := hgc.c2
    have y0 := hgc.c0.1
    have d0 := hcell EX.out.1 0
    have d1 := hcell EX.out.1 1
    have d2 := hcell EX.out.1 2
    have d3 := hcell EX.out.1 3
    have d4 := hcell EX.out.1 4
    have d5 := hcell EX.out.1 5
    have RES : ∃ res, res = (insOk ptab (fun8 ptab 0) ⟨13, d, a, 0, 0, []⟩ && fitB ptab (fun8 ptab 0) ⟨13, d, a, 0, 0, []⟩) := ⟨_, rfl⟩
    obtain ⟨res, hres⟩ := RES
    have HFT : Box (∀ w', Keeps [] w11 w' → Calls Tryd.prog 16 #[.pointer (some ⟨q + 5, 0, none⟩), .int .i64 0, .agg #[.int .i64 13, .int .i64 d, .int .i64 a, .int .i64 0, .int .i64 0, .slice none 0 0]] w' fun e w2 => e = .returned (.bool res) ∧ Keeps [] w' w2) := hid fun w' k => by
      have e := fits_any (cp := 0) (PrC.stays _ _ _ _ _ k PR1.out) (f := 0) (by decide) ⟨13, d, a, 0, 0, []⟩ (a := none) (.inl rfl) (by simp)
      rw [fit_same (names_ty ptab_nm (by decide)), ← hres] at e
      exact e
    have HFR : Box (∀ w', Keeps [] w11 w' → Calls Tryd.prog 17 #[.pointer (some ⟨q + 5, 0, none⟩), .agg #[.int .i64 (fun8 ptab 0).sig, .slice ra (fun8 ptab 0).regs.length rp, .slice ba (fun8 ptab 0).blocks.length bp], .agg #[.int .i64 13, .int .i64 d, .int .i64 a, .int .i64 0, .int .i64 0, .slice none 0 0]] w' fun e w2 => e = .returned (.bool res) ∧ Keeps [] w' w2) := hid fun w' k => by
      have e := rfits_any (cp := 0) (PrC.stays _ _ _ _ _ k PR1.out) (f := fun8 ptab 0) (RowsAt.quiet rrr TyC.stays k) rfl rp (.slice ba (fun8 ptab 0).blocks.length bp) (names_ty ptab_nm (by decide)) (names_if ptab_nm) (names_sg ptab_nm) ⟨13, d, a, 0, 0, []⟩ (a := none) (.inl rfl) (by simp)
      rw [← hres] at e
      exact e
    clear hres rrr brr rl bl hgc hgc0 r4
    refine wp_region_det (W0 := w11) 191 [(.pointer (some ⟨q + 5, 0, none⟩) : Value), (.agg #[.int .i64 13, .int .i64 d, .int .i64 a, .int .i64 0, .int .i64 0, .slice none 0 0] : Value), (.bool res : Value), (.pointer (some ⟨q + 5, 0, none⟩) : Value), (.pointer (some ⟨q + 5, 0, none⟩) : Value), (.pointer (some ⟨q + 5, 0, none⟩) : Value), (.pointer (some ⟨q + 5, 4, none⟩) : Value), (.slice (some ⟨gb, go, none⟩) ptab.funcs.length fp : Value), (.pointer (some ⟨gb, go + 0 * 3, none⟩) : Value), (.agg #[.int .i64 (fun8 ptab 0).sig, .slice ra (fun8 ptab 0).regs.length rp, .slice ba (fun8 ptab 0).blocks.length bp] : Value), (.agg #[.int .i64 13, .int .i64 d, .int .i64 a, .int .i64 0, .int .i64 0, .slice none 0 0] : Value), (.bool res : Value), (.bool true : Value), (.bool true : Value)] (by kernel_rfl) (by rfl) (by kernel_rfl) (Keeps.refl _ _) (fun A hA => ?_)
    simp only [putAll, Act.put, List.setIfInBounds_toArray, List.set_cons_zero, List.set_cons_succ] at hA
    subst hA
    refine ⟨AllGive.cons (give_yield (by rfl) (fun _ _ => rfl)) (AllGive.cons (give_yield (by rfl) (fun _ k9 => ld_in (cell_stays k9 d0) (cell_stays k9 d1) (cell_stays k9 d2) (cell_stays k9 d3) (cell_stays k9 d4) (cell_stays k9 d5) rfl rfl)) (AllGive.cons (give_call (by rfl) 16 #[.pointer (some ⟨q + 5, 0, none⟩), .int .i64 0, .agg #[.int .i64 13, .int .i64 d, .int .i64 a, .int .i64 0, .int .i64 0, .slice none 0 0]] (fun w => exec_call3 rfl rfl rfl rfl rfl (enter_fits _ _ _ w)) (fun w9 k9 => HFT.out w9 k9)) (AllGive.cons (give_yield (by rfl) (fun _ _ => rfl)) (AllGive.cons (give_yield (by rfl) (fun _ _ => rfl)) (AllGive.cons (give_yield (by rfl) (fun _ _ => rfl)) (AllGive.cons (give_yield (by rfl) (fun _ _ => rfl)) (AllGive.cons (give_yield (by rfl) (fun _ k9 => ld_fns (cell_stays k9 c4) rfl rfl)) (AllGive.cons (give_yield (by rfl) (fun _ _ => ix_fns (j := 0) rfl rfl rfl (by decide))) (AllGive.cons (give_yield (by rfl) (fun _ k9 => ld_fn (cell_stays k9 y0) (cell_stays k9 y1) (cell_stays k9 y2) rfl rfl)) (AllGive.cons (give_yield (by rfl) (fun _ k9 => ld_in (cell_stays k9 d0) (cell_stays k9 d1) (cell_stays k9 d2) (cell_stays k9 d3) (cell_stays k9 d4) (cell_stays k9 d5) rfl rfl)) (AllGive.cons (give_call (by rfl) 17 #[.pointer (some ⟨q + 5, 0, none⟩), .agg #[.int .i64 (fun8 ptab 0).sig, .slice ra (fun8 ptab 0).regs.length rp, .slice ba (fun8 ptab 0).blocks.length bp], .agg #[.int .i64 13, .int .i64 d, .int .i64 a, .int .i64 0, .int .i64 0, .slice none 0 0]] (fun w => exec_call3 rfl rfl rfl rfl rfl (enter_rfits _ _ _ w)) (fun w9 k9 => HFR.out w9 k9)) (AllGive.cons (give_yield (by rfl) (fun _ _ => bin_eqlB rfl rfl rfl (by cases res <;> rfl))) (AllGive.cons (give_yield (by rfl) (fun _ _ => rfl)) (AllGive.nil)))))))))))))), fun w8 k8 => ?_⟩
    go_wp2_with fail
    go_ret
    exact ⟨rfl, (K9.out.quiet EX.out.2).quiet k8⟩
  · as_aux_lemma =>
    have ka := Keeps.alloc [] w9 (.cells #[.int .i64 14, .int .i64 0, .int .i64 0, .int .i64 0, .int .i64 0, .slice none 0 0] 54)
    have hx0 := heap_new w9 (.cells #[.int .i64 14, .int .i64 0, .int .i64 0, .int .i64 0, .int .i64 0, .slice none 0 0] 54)
    have HD := hid (rdef_any ⟨14, 0, 0, 0, 0, []⟩ (.slice none 0 0) (w9.alloc (.cells #[.int .i64 14, .int .i64 0, .int .i64 0, .int .i64 0, .int .i64 0, .slice none 0 0] 54)))
    rw [defV_yes (by rfl)] at HD
    unfold insV at HD
    simp only at HD
    have KA := hid ka
    have HX0 := hid hx0
    clear ka hx0
    go_wp2_with fail
    refine HD.out.mono ?_
    rintro e w10 ⟨rfl, k10⟩
    have K10 := hid (KA.out.quiet k10)
    have hx := keep_heap HX0.out k10
    have HX := hid hx
    obtain ⟨ib, hib⟩ : ∃ ib, ib = w9.heap.size := ⟨_, rfl⟩
    rw [← hib] at hx HX
    rw [← hib]
    have HIB := hid hib
    have i0 := hcell hx 0
    have i1 := hcell hx 1
    have i2 := hcell hx 2
    have i3 := hcell hx 3
    have i4 := hcell hx 4
    have i5 := hcell hx 5
    have z1 := hfrozen hx 1
    have z2 := hfrozen hx 2
    have z3 := hfrozen hx 3
    have z4 := hfrozen hx 4
    have z5 := hfrozen hx 5
    clear k10 hx hib HD HX0 KA
    go_upto_region 38 with fail
    have NEW : ∀ x, x ∈ [ib] → x < w9.heap.size → x ∈ [] := fun x hx hl => by simp at hx; have := HIB.out; omega
    have EX : Box (((((w10.setCell ⟨ib, 1, none⟩ (.int .i64 d)).setCell ⟨ib, 2, none⟩ (.int .i64 a)).setCell ⟨ib, 4, none⟩ (.int .i64 n))).heap[ib]? = some (.cells #[.int .i64 14, .int .i64 d, .int .i64 a, .int .i64 0, .int .i64 n, .slice none 0 0] 54 (0, 0)) ∧ Keeps [] w9 (((w10.setCell ⟨ib, 1, none⟩ (.int .i64 d)).setCell ⟨ib, 2, none⟩ (.int .i64 a)).setCell ⟨ib, 4, none⟩ (.int .i64 n))) := hid ⟨(heap_setCell_same _ _ 4 _ _ (.int .i64 n) (heap_setCell_same _ _ 2 _ _ (.int .i64 a) (heap_setCell_same _ _ 1 _ _ (.int .i64 d) HX.out))), (((K10.out.trans (Keeps.setCell [ib] _ ⟨ib, 1, none⟩ (.int .i64 d) (List.mem_singleton.2 rfl)) NEW).trans (Keeps.setCell [ib] _ ⟨ib, 2, none⟩ (.int .i64 a) (List.mem_singleton.2 rfl)) NEW).trans (Keeps.setCell [ib] _ ⟨ib, 4, none⟩ (.int .i64 n) (List.mem_singleton.2 rfl)) NEW)⟩
    clear i0 i1 i2 i3 i4 i5 z1 z2 z3 z4 z5 NEW
    generalize (((w10.setCell ⟨ib, 1, none⟩ (.int .i64 d)).setCell ⟨ib, 2, none⟩ (.int .i64 a)).setCell ⟨ib, 4, none⟩ (.int .i64 n)) = w11 at *
    have PR1 := hid (PrC.stays _ _ _ _ _ EX.out.2 PR.out)
    obtain ⟨fa, fp, c4, r4, _⟩ := PR1.out.c4
    obtain ⟨gb, go, rfl, hgc0⟩ := r4.at (getD_get (l := ptab.funcs) (k := 0) (d := ⟨0, [], []⟩) (by decide))
    have hgc : FuC w11 gb (go + 0 * 3) (fun8 ptab 0) := hgc0
    obtain ⟨ra, rp, y1, rrr, _, rl⟩ := hgc.c1
    obtain ⟨ba, bp, y2, brr, _, bl⟩ := hgc.c2
    have y0 := hgc.c0.1
    have d0 := hcell EX.out.1 0
    have d1 := hcell EX.out.1 1
    have d2 := hcell EX.out.1 2
    have d3 := hcell EX.out.1 3
    have d4 := hcell EX.out.1 4
    have d5 := hcell EX.out.1 5
    have RES : ∃ res, res = (insOk ptab (fun8 ptab 0) ⟨14, d, a, 0, n, []⟩ && fitB ptab (fun8 ptab 0) ⟨14, d, a, 0, n, []⟩) := ⟨_, rfl⟩
    obtain ⟨res, hres⟩ := RES
    have HFT : Box (∀ w', Keeps [] w11 w' → Calls Tryd.prog 16 #[.pointer (some ⟨q + 5, 0, none⟩), .int .i64 0, .agg #[.int .i64 14, .int .i64 d, .int .i64 a, .int .i64 0, .int .i64 n, .slice none 0 0]] w' fun e w2 => e = .returned (.bool res) ∧ Keeps [] w' w2) := hid fun w' k => by
      have e := fits_any (cp := 0) (PrC.stays _ _ _ _ _ k PR1.out) (f := 0) (by decide) ⟨14, d, a, 0, n, []⟩ (a := none) (.inl rfl) (by simp)
      rw [fit_same (names_ty ptab_nm (by decide)), ← hres] at e
      exact e
    have HFR : Box (∀ w', Keeps [] w11 w' → Calls Tryd.prog 17 #[.pointer (some ⟨q + 5, 0, none⟩), .agg #[.int .i64 (fun8 ptab 0).sig, .slice ra (fun8 ptab 0).regs.length rp, .slice ba (fun8 ptab 0).blocks.length bp], .agg #[.int .i64 14, .int .i64 d, .int .i64 a, .int .i64 0, .int .i64 n, .slice none 0 0]] w' fun e w2 => e = .returned (.bool res) ∧ Keeps [] w' w2) := hid fun w' k => by
      have e := rfits_any (cp := 0) (PrC.stays _ _ _ _ _ k PR1.out) (f := fun8 ptab 0) (RowsAt.quiet rrr TyC.stays k) rfl rp (.slice ba (fun8 ptab 0).blocks.length bp) (names_ty ptab_nm (by decide)) (names_if ptab_nm) (names_sg ptab_nm) ⟨14, d, a, 0, n, []⟩ (a := none) (.inl rfl) (by simp)
      rw [← hres] at e
      exact e
    clear hres rrr brr rl bl hgc hgc0 r4
    refine wp_region_det (W0 := w11) 191 [(.pointer (some ⟨q + 5, 0, none⟩) : Value), (.agg #[.int .i64 14, .int .i64 d, .int .i64 a, .int .i64 0, .int .i64 n, .slice none 0 0] : Value), (.bool res : Value), (.pointer (some ⟨q + 5, 0, none⟩) : Value), (.pointer (some ⟨q + 5, 0, none⟩) : Value), (.pointer (some ⟨q + 5, 0, none⟩) : Value), (.pointer (some ⟨q + 5, 4, none⟩) : Value), (.slice (some ⟨gb, go, none⟩) ptab.funcs.length fp : Value), (.pointer (some ⟨gb, go + 0 * 3, none⟩) : Value), (.agg #[.int .i64 (fun8 ptab 0).sig, .slice ra (fun8 ptab 0).regs.length rp, .slice ba (fun8 ptab 0).blocks.length bp] : Value), (.agg #[.int .i64 14, .int .i64 d, .int .i64 a, .int .i64 0, .int .i64 n, .slice none 0 0] : Value), (.bool res : Value), (.bool true : Value), (.bool true : Value)] (by kernel_rfl) (by rfl) (by kernel_rfl) (Keeps.refl _ _) (fun A hA => ?_)
    simp only [putAll, Act.put, List.setIfInBounds_toArray, List.set_cons_zero, List.set_cons_succ] at hA
    subst hA
    refine ⟨AllGive.cons (give_yield (by rfl) (fun _ _ => rfl)) (AllGive.cons (give_yield (by rfl) (fun _ k9 => ld_in (cell_stays k9 d0) (cell_stays k9 d1) (cell_stays k9 d2) (cell_stays k9 d3) (cell_stays k9 d4) (cell_stays k9 d5) rfl rfl)) (AllGive.cons (give_call (by rfl) 16 #[.pointer (some ⟨q + 5, 0, none⟩), .int .i64 0, .agg #[.int .i64 14, .int .i64 d, .int .i64 a, .int .i64 0, .int .i64 n, .slice none 0 0]] (fun w => exec_call3 rfl rfl rfl rfl rfl (enter_fits _ _ _ w)) (fun w9 k9 => HFT.out w9 k9)) (AllGive.cons (give_yield (by rfl) (fun _ _ => rfl)) (AllGive.cons (give_yield (by rfl) (fun _ _ => rfl)) (AllGive.cons (give_yield (by rfl) (fun _ _ => rfl)) (AllGive.cons (give_yield (by rfl) (fun _ _ => rfl)) (AllGive.cons (give_yield (by rfl) (fun _ k9 => ld_fns (cell_stays k9 c4) rfl rfl)) (AllGive.cons (give_yield (by rfl) (fun _ _ => ix_fns (j := 0) rfl rfl rfl (by decide))) (AllGive.cons (give_yield (by rfl) (fun _ k9 => ld_fn (cell_stays k9 y0) (cell_stays k9 y1) (cell_stays k9 y2) rfl rfl)) (AllGive.cons (give_yield (by rfl) (fun _ k9 => ld_in (cell_stays k9 d0) (cell_stays k9 d1) (cell_stays k9 d2) (cell_stays k9 d3) (cell_stays k9 d4) (cell_stays k9 d5) rfl rfl)) (AllGive.cons (give_call (by rfl) 17 #[.pointer (some ⟨q + 5, 0, none⟩), .agg #[.int .i64 (fun8 ptab 0).sig, .slice ra (fun8 ptab 0).regs.length rp, .slice ba (fun8 ptab 0).blocks.length bp], .agg #[.int .i64 14, .int .i64 d, .int .i64 a, .int .i64 0, .int .i64 n, .slice none 0 0]] (fun w => exec_call3 rfl rfl rfl rfl rfl (enter_rfits _ _ _ w)) (fun w9 k9 => HFR.out w9 k9)) (AllGive.cons (give_yield (by rfl) (fun _ _ => bin_eqlB rfl rfl rfl (by cases res <;> rfl))) (AllGive.cons (give_yield (by rfl) (fun _ _ => rfl)) (AllGive.nil)))))))))))))), fun w8 k8 => ?_⟩
    go_wp2_with fail
    go_ret
    exact ⟨rfl, (K9.out.quiet EX.out.2).quiet k8⟩
  · as_aux_lemma =>
    have ka := Keeps.alloc [] w9 (.cells #[.int .i64 15, .int .i64 0, .int .i64 0, .int .i64 0, .int .i64 0, .slice none 0 0] 54)
    have hx0 := heap_new w9 (.cells #[.int .i64 15, .int .i64 0, .int .i64 0, .int .i64 0, .int .i64 0, .slice none 0 0] 54)
    have HD := hid (rdef_any ⟨15, 0, 0, 0, 0, []⟩ (.slice none 0 0) (w9.alloc (.cells #[.int .i64 15, .int .i64 0, .int .i64 0, .int .i64 0, .int .i64 0, .slice none 0 0] 54)))
    rw [defV_no (by rfl)] at HD
    unfold insV at HD
    simp only at HD
    have KA := hid ka
    have HX0 := hid hx0
    clear ka hx0
    go_wp2_with fail
    refine HD.out.mono ?_
    rintro e w10 ⟨rfl, k10⟩
    have K10 := hid (KA.out.quiet k10)
    have hx := keep_heap HX0.out k10
    have HX := hid hx
    obtain ⟨ib, hib⟩ : ∃ ib, ib = w9.heap.size := ⟨_, rfl⟩
    rw [← hib] at hx HX
    rw [← hib]
    have HIB := hid hib
    have i0 := hcell hx 0
    have i1 := hcell hx 1
    have i2 := hcell hx 2
    have i3 := hcell hx 3
    have i4 := hcell hx 4
    have i5 := hcell hx 5
    have z1 := hfrozen hx 1
    have z2 := hfrozen hx 2
    have z3 := hfrozen hx 3
    have z4 := hfrozen hx 4
    have z5 := hfrozen hx 5
    clear k10 hx hib HD HX0 KA
    go_upto_region 38 with fail
    have NEW : ∀ x, x ∈ [ib] → x < w9.heap.size → x ∈ [] := fun x hx hl => by simp at hx; have := HIB.out; omega
    have EX : Box (((w10.setCell ⟨ib, 2, none⟩ (.int .i64 a))).heap[ib]? = some (.cells #[.int .i64 15, .int .i64 0, .int .i64 a, .int .i64 0, .int .i64 0, .slice none 0 0] 54 (0, 0)) ∧ Keeps [] w9 (w10.setCell ⟨ib, 2, none⟩ (.int .i64 a))) := hid ⟨(heap_setCell_same _ _ 2 _ _ (.int .i64 a) HX.out), (K10.out.trans (Keeps.setCell [ib] _ ⟨ib, 2, none⟩ (.int .i64 a) (List.mem_singleton.2 rfl)) NEW)⟩
    clear i0 i1 i2 i3 i4 i5 z1 z2 z3 z4 z5 NEW
    generalize (w10.setCell ⟨ib, 2, none⟩ (.int .i64 a)) = w11 at *
    have PR1 := hid (PrC.stays _ _ _ _ _ EX.out.2 PR.out)
    obtain ⟨fa, fp, c4, r4, _⟩ := PR1.out.c4
    obtain ⟨gb, go, rfl, hgc0⟩ := r4.at (getD_get (l := ptab.funcs) (k := 0) (d := ⟨0, [], []⟩) (by decide))
    have hgc : FuC w11 gb (go + 0 * 3) (fun8 ptab 0) := hgc0
    obtain ⟨ra, rp, y1, rrr, _, rl⟩ := hgc.c1
    obtain ⟨ba, bp, y2, brr, _, bl⟩ := hgc.c2
    have y0 := hgc.c0.1
    have d0 := hcell EX.out.1 0
    have d1 := hcell EX.out.1 1
    have d2 := hcell EX.out.1 2
    have d3 := hcell EX.out.1 3
    have d4 := hcell EX.out.1 4
    have d5 := hcell EX.out.1 5
    have RES : ∃ res, res = (insOk ptab (fun8 ptab 0) ⟨15, 0, a, 0, 0, []⟩ && fitB ptab (fun8 ptab 0) ⟨15, 0, a, 0, 0, []⟩) := ⟨_, rfl⟩
    obtain ⟨res, hres⟩ := RES
    have HFT : Box (∀ w', Keeps [] w11 w' → Calls Tryd.prog 16 #[.pointer (some ⟨q + 5, 0, none⟩), .int .i64 0, .agg #[.int .i64 15, .int .i64 0, .int .i64 a, .int .i64 0, .int .i64 0, .slice none 0 0]] w' fun e w2 => e = .returned (.bool res) ∧ Keeps [] w' w2) := hid fun w' k => by
      have e := fits_any (cp := 0) (PrC.stays _ _ _ _ _ k PR1.out) (f := 0) (by decide) ⟨15, 0, a, 0, 0, []⟩ (a := none) (.inl rfl) (by simp)
      rw [fit_same (names_ty ptab_nm (by decide)), ← hres] at e
      exact e
    have HFR : Box (∀ w', Keeps [] w11 w' → Calls Tryd.prog 17 #[.pointer (some ⟨q + 5, 0, none⟩), .agg #[.int .i64 (fun8 ptab 0).sig, .slice ra (fun8 ptab 0).regs.length rp, .slice ba (fun8 ptab 0).blocks.length bp], .agg #[.int .i64 15, .int .i64 0, .int .i64 a, .int .i64 0, .int .i64 0, .slice none 0 0]] w' fun e w2 => e = .returned (.bool res) ∧ Keeps [] w' w2) := hid fun w' k => by
      have e := rfits_any (cp := 0) (PrC.stays _ _ _ _ _ k PR1.out) (f := fun8 ptab 0) (RowsAt.quiet rrr TyC.stays k) rfl rp (.slice ba (fun8 ptab 0).blocks.length bp) (names_ty ptab_nm (by decide)) (names_if ptab_nm) (names_sg ptab_nm) ⟨15, 0, a, 0, 0, []⟩ (a := none) (.inl rfl) (by simp)
      rw [← hres] at e
      exact e
    clear hres rrr brr rl bl hgc hgc0 r4
    refine wp_region_det (W0 := w11) 191 [(.pointer (some ⟨q + 5, 0, none⟩) : Value), (.agg #[.int .i64 15, .int .i64 0, .int .i64 a, .int .i64 0, .int .i64 0, .slice none 0 0] : Value), (.bool res : Value), (.pointer (some ⟨q + 5, 0, none⟩) : Value), (.pointer (some ⟨q + 5, 0, none⟩) : Value), (.pointer (some ⟨q + 5, 0, none⟩) : Value), (.pointer (some ⟨q + 5, 4, none⟩) : Value), (.slice (some ⟨gb, go, none⟩) ptab.funcs.length fp : Value), (.pointer (some ⟨gb, go + 0 * 3, none⟩) : Value), (.agg #[.int .i64 (fun8 ptab 0).sig, .slice ra (fun8 ptab 0).regs.length rp, .slice ba (fun8 ptab 0).blocks.length bp] : Value), (.agg #[.int .i64 15, .int .i64 0, .int .i64 a, .int .i64 0, .int .i64 0, .slice none 0 0] : Value), (.bool res : Value), (.bool true : Value), (.bool true : Value)] (by kernel_rfl) (by rfl) (by kernel_rfl) (Keeps.refl _ _) (fun A hA => ?_)
    simp only [putAll, Act.put, List.setIfInBounds_toArray, List.set_cons_zero, List.set_cons_succ] at hA
    subst hA
    refine ⟨AllGive.cons (give_yield (by rfl) (fun _ _ => rfl)) (AllGive.cons (give_yield (by rfl) (fun _ k9 => ld_in (cell_stays k9 d0) (cell_stays k9 d1) (cell_stays k9 d2) (cell_stays k9 d3) (cell_stays k9 d4) (cell_stays k9 d5) rfl rfl)) (AllGive.cons (give_call (by rfl) 16 #[.pointer (some ⟨q + 5, 0, none⟩), .int .i64 0, .agg #[.int .i64 15, .int .i64 0, .int .i64 a, .int .i64 0, .int .i64 0, .slice none 0 0]] (fun w => exec_call3 rfl rfl rfl rfl rfl (enter_fits _ _ _ w)) (fun w9 k9 => HFT.out w9 k9)) (AllGive.cons (give_yield (by rfl) (fun _ _ => rfl)) (AllGive.cons (give_yield (by rfl) (fun _ _ => rfl)) (AllGive.cons (give_yield (by rfl) (fun _ _ => rfl)) (AllGive.cons (give_yield (by rfl) (fun _ _ => rfl)) (AllGive.cons (give_yield (by rfl) (fun _ k9 => ld_fns (cell_stays k9 c4) rfl rfl)) (AllGive.cons (give_yield (by rfl) (fun _ _ => ix_fns (j := 0) rfl rfl rfl (by decide))) (AllGive.cons (give_yield (by rfl) (fun _ k9 => ld_fn (cell_stays k9 y0) (cell_stays k9 y1) (cell_stays k9 y2) rfl rfl)) (AllGive.cons (give_yield (by rfl) (fun _ k9 => ld_in (cell_stays k9 d0) (cell_stays k9 d1) (cell_stays k9 d2) (cell_stays k9 d3) (cell_stays k9 d4) (cell_stays k9 d5) rfl rfl)) (AllGive.cons (give_call (by rfl) 17 #[.pointer (some ⟨q + 5, 0, none⟩), .agg #[.int .i64 (fun8 ptab 0).sig, .slice ra (fun8 ptab 0).regs.length rp, .slice ba (fun8 ptab 0).blocks.length bp], .agg #[.int .i64 15, .int .i64 0, .int .i64 a, .int .i64 0, .int .i64 0, .slice none 0 0]] (fun w => exec_call3 rfl rfl rfl rfl rfl (enter_rfits _ _ _ w)) (fun w9 k9 => HFR.out w9 k9)) (AllGive.cons (give_yield (by rfl) (fun _ _ => bin_eqlB rfl rfl rfl (by cases res <;> rfl))) (AllGive.cons (give_yield (by rfl) (fun _ _ => rfl)) (AllGive.nil)))))))))))))), fun w8 k8 => ?_⟩
    go_wp2_with fail
    go_ret
    exact ⟨rfl, (K9.out.quiet EX.out.2).quiet k8⟩
set_option maxRecDepth 20000 in
set_option maxHeartbeats 2000000 in
theorem tt_out (op d a b n : Int) (w : World) (hg : Glob w) (ho : op < 1 ∨ (¬ op < 1 ∧ 15 < op) ∨ (¬ op < 1 ∧ ¬ 15 < op ∧ d < 0) ∨ (¬ op < 1 ∧ ¬ 15 < op ∧ ¬ d < 0 ∧ 4 < d) ∨ (¬ op < 1 ∧ ¬ 15 < op ∧ ¬ d < 0 ∧ ¬ 4 < d ∧ a < 0) ∨ (¬ op < 1 ∧ ¬ 15 < op ∧ ¬ d < 0 ∧ ¬ 4 < d ∧ ¬ a < 0 ∧ 4 < a) ∨ (¬ op < 1 ∧ ¬ 15 < op ∧ ¬ d < 0 ∧ ¬ 4 < d ∧ ¬ a < 0 ∧ ¬ 4 < a ∧ b < 0) ∨ (¬ op < 1 ∧ ¬ 15 < op ∧ ¬ d < 0 ∧ ¬ 4 < d ∧ ¬ a < 0 ∧ ¬ 4 < a ∧ ¬ b < 0 ∧ 4 < b) ∨ (¬ op < 1 ∧ ¬ 15 < op ∧ ¬ d < 0 ∧ ¬ 4 < d ∧ ¬ a < 0 ∧ ¬ 4 < a ∧ ¬ b < 0 ∧ ¬ 4 < b ∧ n < 0) ∨ (¬ op < 1 ∧ ¬ 15 < op ∧ ¬ d < 0 ∧ ¬ 4 < d ∧ ¬ a < 0 ∧ ¬ 4 < a ∧ ¬ b < 0 ∧ ¬ 4 < b ∧ ¬ n < 0 ∧ 1 < n)) : Calls Tryd.prog 7 #[.int .i64 op, .int .i64 d, .int .i64 a, .int .i64 b, .int .i64 n] w fun e w' => e = .returned (.bool true) ∧ Keeps [] w w' := by
  have HB := hid (begun_any w hg)
  clear hg
  rcases ho with h1 | ⟨h1, h2⟩ | ⟨h1, h2, h3⟩ | ⟨h1, h2, h3, h4⟩ | ⟨h1, h2, h3, h4, h5⟩ | ⟨h1, h2, h3, h4, h5, h6⟩ | ⟨h1, h2, h3, h4, h5, h6, h7⟩ | ⟨h1, h2, h3, h4, h5, h6, h7, h8⟩ | ⟨h1, h2, h3, h4, h5, h6, h7, h8, h9⟩ | ⟨h1, h2, h3, h4, h5, h6, h7, h8, h9, h10⟩
  all_goals (
    go_enter Tryd.func7, Tryd.ntmps7
    go_wp2_with fail
    refine HB.out.mono ?_
    rintro e w1 ⟨rfl, k1⟩
    have K1 := hid k1
    clear HB k1
    go_wp2_with fail
    go_ret
    exact ⟨rfl, K1.out⟩)
theorem tt_walk (op d a b n : Int) (w : World) (hg : Glob w) (_ : b64 op) (_ : b64 d) (_ : b64 a) (_ : b64 b) (_ : b64 n) : Calls Tryd.prog 7 #[.int .i64 op, .int .i64 d, .int .i64 a, .int .i64 b, .int .i64 n] w fun e w' => e = .returned (.bool true) ∧ Keeps [] w w' := by
  by_cases h1 : op < 1
  · exact tt_out op d a b n w hg (.inl h1)
  by_cases h2 : 15 < op
  · exact tt_out op d a b n w hg (.inr (.inl ⟨h1, h2⟩))
  by_cases h3 : d < 0
  · exact tt_out op d a b n w hg (.inr (.inr (.inl ⟨h1, h2, h3⟩)))
  by_cases h4 : 4 < d
  · exact tt_out op d a b n w hg (.inr (.inr (.inr (.inl ⟨h1, h2, h3, h4⟩))))
  by_cases h5 : a < 0
  · exact tt_out op d a b n w hg (.inr (.inr (.inr (.inr (.inl ⟨h1, h2, h3, h4, h5⟩)))))
  by_cases h6 : 4 < a
  · exact tt_out op d a b n w hg (.inr (.inr (.inr (.inr (.inr (.inl ⟨h1, h2, h3, h4, h5, h6⟩))))))
  by_cases h7 : b < 0
  · exact tt_out op d a b n w hg (.inr (.inr (.inr (.inr (.inr (.inr (.inl ⟨h1, h2, h3, h4, h5, h6, h7⟩)))))))
  by_cases h8 : 4 < b
  · exact tt_out op d a b n w hg (.inr (.inr (.inr (.inr (.inr (.inr (.inr (.inl ⟨h1, h2, h3, h4, h5, h6, h7, h8⟩))))))))
  by_cases h9 : n < 0
  · exact tt_out op d a b n w hg (.inr (.inr (.inr (.inr (.inr (.inr (.inr (.inr (.inl ⟨h1, h2, h3, h4, h5, h6, h7, h8, h9⟩)))))))))
  by_cases h10 : 1 < n
  · exact tt_out op d a b n w hg (.inr (.inr (.inr (.inr (.inr (.inr (.inr (.inr (.inr (⟨h1, h2, h3, h4, h5, h6, h7, h8, h9, h10⟩))))))))))
  exact tt_in op d a b n w hg h1 h2 h3 h4 h5 h6 h7 h8 h9 h10
end Go.Proofs.YtlopddflbhnjdaaDoor
