/-
  A row of cells that the call has made; contract: graph's into.
-/
import Derived.Test.YtlnimcpmkammfaaDoorGSm
namespace Go.Proofs.YtlnimcpmkammfaaDoor
open Go.RowKit

/-- Block p holds the values c 0 .. c (n - 1), of type T, and no more. -/
structure RowAt (w : World) (base p n : Nat) (T : TypeId) (c : Nat → Value) : Prop where
  row : w.ownsRow base T 1 (.slice (some ⟨p, 0, none⟩) n n) n ((List.range n).map c)

theorem RowAt.cell {w : World} {base p n : Nat} {T : TypeId} {c : Nat → Value} (h : RowAt w base p n T c) {k : Nat} (hk : k < n) : w.cell? ⟨p, k, none⟩ = some (c k) := by
  rw [h.row.cellAt k (by omega), List.getElem?_map, List.getElem?_range hk]
  rfl
theorem RowAt.frozen {w : World} {base p n : Nat} {T : TypeId} {c : Nat → Value} (h : RowAt w base p n T c) (k : Nat) : w.frozen? ⟨p, k, none⟩ = false := h.row.frozenAt k
theorem RowAt.lt {w : World} {base p n : Nat} {T : TypeId} {c : Nat → Value} (h : RowAt w base p n T c) : base ≤ p ∧ p < w.heap.size := h.row.lt p rfl
theorem RowAt.heap {w : World} {base p n : Nat} {T : TypeId} {c : Nat → Value} (h : RowAt w base p n T c) : ∃ cur, w.heap[p]? = some (.cells cur T (0, 0)) := by
  rcases h.row.2 with ⟨h', _⟩ | ⟨g', cap', cur, h', _, hg, _⟩
  · simp at h'
  · simp only [Value.slice.injEq, Option.some.injEq, Addr.mk.injEq, and_true, true_and] at h'
    obtain ⟨rfl, rfl⟩ := h'
    exact ⟨cur, hg⟩
theorem RowAt.kept {w w' : World} {base p n : Nat} {T : TypeId} {c : Nat → Value} {L : List Nat} (h : RowAt w base p n T c) (k : Keeps L w w') (hp : p ∉ L) : RowAt w' base p n T c :=
  ⟨ownsRow_keeps h.row k (fun b hb => by simp [Value.ownBlock] at hb; subst hb; exact hp)⟩
theorem RowAt.put {w : World} {base p n : Nat} {T : TypeId} {c : Nat → Value} (h : RowAt w base p n T c) (k : Nat) (v : Value) : RowAt (w.setCell ⟨p, k, none⟩ v) base p n T (fun i => if i = k then v else c i) := by
  refine ⟨?_⟩
  have h1 := (h.row.stored k v).1
  have e : ((List.range n).map c).set k v = (List.range n).map (fun i => if i = k then v else c i) := by
    apply List.ext_getElem?
    intro i
    rw [List.getElem?_set, List.getElem?_map, List.getElem?_map, List.length_map, List.length_range]
    by_cases hi : i < n
    · rw [List.getElem?_range hi]
      by_cases e : k = i
      · subst e; simp [hi]
      · have : ¬ i = k := fun h => e h.symm
        simp [e, this]
    · rw [List.getElem?_eq_none (by simp; omega)]
      by_cases e : k = i
      · subst e; simp [hi]
      · simp [e]
  rw [e] at h1
  exact h1
theorem RowAt.congr {w : World} {base p n : Nat} {T : TypeId} {c d : Nat → Value} (h : RowAt w base p n T c) (e : ∀ i, i < n → c i = d i) : RowAt w base p n T d := by
  refine ⟨?_⟩
  have : (List.range n).map c = (List.range n).map d := List.map_congr_left fun i hi => e i (List.mem_range.1 hi)
  rw [← this]
  exact h.row
theorem made_map (z : Value) (n : Nat) (hz : z.cells = #[z]) : (madeCells z.cells (n * 1)).toList = (List.range n).map fun _ => z := by
  rw [hz, Nat.mul_one]
  apply List.ext_getElem?
  intro i
  rw [List.getElem?_map]
  by_cases hi : i < n
  · rw [List.getElem?_range hi]
    simp [madeCells, hi, Nat.mod_one]
  · rw [List.getElem?_eq_none (by rw [Array.length_toList, size_madeCells]; omega), List.getElem?_eq_none (by rw [List.length_range]; omega)]
    rfl
theorem RowAt.made {w : World} {base p n : Nat} {T : TypeId} {z : Value} (h : w.ownsRow base T 1 (.slice (some ⟨p, 0, none⟩) n n) n (madeCells z.cells (n * 1)).toList) (hz : z.cells = #[z]) : RowAt w base p n T (fun _ => z) := by
  rw [made_map z n hz] at h
  exact ⟨h⟩
theorem RowAt.base {w : World} {base base' p n : Nat} {T : TypeId} {c : Nat → Value} (h : RowAt w base p n T c) (hb : base' ≤ base) : RowAt w base' p n T c := ⟨ownsRow_base h.row hb⟩

/-- How often b is in l; how many edges go to b, from nodes below k. -/
def occ (l : List Nat) (b : Nat) : Nat := (l.filter fun x => x == b).length
def deg (g : List (List Nat)) (k b : Nat) : Nat := (inTo g k b).length
theorem occ_snoc (l : List Nat) (x b : Nat) : occ (l ++ [x]) b = occ l b + if b = x then 1 else 0 := by
  unfold occ
  rw [List.filter_append, List.length_append]
  by_cases h : b = x
  · subst h; simp
  · have : (x == b) = false := by simp; exact fun e => h e.symm
    simp [this, h]
theorem occ_le (l : List Nat) (b : Nat) : occ l b ≤ l.length := List.length_filter_le _ _
theorem deg_zero (g : List (List Nat)) (b : Nat) : deg g 0 b = 0 := rfl
theorem deg_succ (g : List (List Nat)) (k b : Nat) : deg g (k + 1) b = deg g k b + occ (nb g k) b := by
  unfold deg inTo occ
  rw [List.range_succ, List.flatMap_append, List.length_append]
  simp
theorem deg_le {g : List (List Nat)} (hs : Sm g) (b : Nat) : ∀ k, deg g k b ≤ k * 1000000
  | 0 => by simp [deg_zero]
  | k + 1 => by
    have h1 := deg_le hs b k
    have h2 := occ_le (nb g k) b
    have h3 := hs.inner k
    rw [deg_succ]
    omega

theorem deg_short {g : List (List Nat)} (hs : Sm g) (b : Nat) : ∀ k, deg g k b ≤ k * 1000
  | 0 => by simp [deg_zero]
  | k + 1 => by
    have h1 := deg_short hs b k
    have h2 := occ_le (nb g k) b
    have h3 := hs.short k
    rw [deg_succ]
    omega

def num (c : Nat → Nat) : Nat → Value := fun i => .int .i64 ((c i : Nat) : Int)
theorem num_of {c : Nat → Nat} {i y : Nat} (h : c i = y) : num c i = .int .i64 ((y : Nat) : Int) := by unfold num; rw [h]

set_option maxHeartbeats 2000000 in
theorem into_any (g : List (List Nat)) (hs : Sm g) (a : Option Addr) (cap B : Nat) (w : World) (hG : GAt w B a g) (hB : B ≤ w.heap.size) :
    Calls Tryd.prog 41 #[.agg #[.int .i64 (g.length : Int), .slice a g.length cap]] w fun e w' => ∃ p, e = .returned (.slice (some ⟨p, 0, none⟩) g.length g.length) ∧ RowAt w' w.heap.size p g.length 3 (num (deg g g.length)) ∧ Keeps [] w w' := by
  have hk1 : Keeps [] w (w.alloc (Obj.cells #[.int .i64 (g.length : Int), .slice a g.length cap] 27)) := Keeps.alloc _ _ _
  have HB1 := hid (BoxAt.new w (g.length : Int) a g.length cap)
  have HG1 := hid (hG.quiet hk1)
  have HS := hid hs
  have hg6 := hs.len
  obtain ⟨n, hn⟩ : ∃ n, g.length = n := ⟨_, rfl⟩
  rw [hn] at HB1 hk1 hg6 HG1 ⊢
  have HN := hid hn
  clear hG hs hn
  have hw1 := hk1.size
  have hsz1 : (w.alloc (Obj.cells #[.int .i64 (n : Int), .slice a n cap] 27)).heap.size = w.heap.size + 1 := by simp
  have Hsz := hid hsz1
  clear hsz1
  go_enter Tryd.func41, Tryd.ntmps41
  go_wp2_with (at_make; refine wpList_make_full _ rfl _ _ 23 rfl w.heap.size 3 Tryd.t3 (.int .i64 0) 1 under_ints info_int zero_int size_int .i64 .i64 _ _ n rfl rfl rfl rfl (by rw [bytes_int]; omega) (by unfold maxLen; omega) hw1 ?_; intro w2 hown2 hgrow2; rw [Hsz.out] at hown2; have hk2 : Keeps [] _ w2 := Keeps.grown [] hgrow2 (by simp); have hbx := HB1.out.kept hk2 (by simp); have hc1 := hbx.c1; have HR2 := hid (RowAt.made hown2 rfl); have HG2 := hid (HG1.out.quiet hk2); have hw2 := hk1.quiet hk2; clear hown2 hgrow2 hk2 hk1 HB1 HG1 hw1 Hsz hbx)
  have HR3 : Box (RowAt w2 w.heap.size (w.heap.size + 1) n 3 (num (fun b => deg g 0 b))) := hid (HR2.out.congr (fun i _ => by simp [num, deg_zero]))
  clear HR2 hc1
  generalize w.heap.size + 1 = p at HR3 ⊢
  go_loopw [14] (fun i wr => ∃ k : Nat, k ≤ n ∧ i = .int .i64 k ∧ Keeps [p] w2 wr ∧ Box (RowAt wr w.heap.size p n 3 (num (fun b => deg g k b)))) (fun i _ => n - (intOf i).toNat)
  case atStart => exact ⟨0, by omega, rfl, Keeps.refl _ _, HR3⟩
  case round =>
    clear HR3
    obtain ⟨k, hk, rfl, hkw, HR⟩ := hrel
    by_cases hlt : k < n
    · have hpB : ∀ x, x ∈ [p] → B ≤ x := fun x hx => by have := HR.out.lt; simp at hx; omega
      obtain ⟨bl, off, ai, ci, rfl, hc, hin⟩ := (HG2.out.kept hkw hpB).at (k := k) (by rw [HN.out]; exact hlt)
      have HI1 := hid hin
      have hlen := HS.out.inner k
      have hdg := hid (fun b => deg_succ g k b)
      have hdl := hid (fun b => deg_le HS.out b k)
      have hok := hid (fun m (h : m ∈ nb g k) => HS.out.ok k m h)
      rw [HN.out] at hok
      obtain ⟨l, hl⟩ : ∃ l, nb g k = l := ⟨_, rfl⟩
      rw [hl] at hc HI1 hlen hdg hok
      clear hin hl
      go_wp2
      have HR0 : Box (RowAt wr w.heap.size p n 3 (num (fun b => deg g k b + occ (l.take 0) b))) := hid (HR.out.congr (fun i _ => by simp [num, occ]))
      go_loopw [20] (fun i wr2 => ∃ m : Nat, m ≤ l.length ∧ i = .int .i64 m ∧ Keeps [p] wr wr2 ∧ Box (RowAt wr2 w.heap.size p n 3 (num (fun b => deg g k b + occ (l.take m) b)))) (fun i _ => l.length - (intOf i).toNat)
      case atStart => exact ⟨0, by omega, rfl, Keeps.refl _ _, HR0⟩
      case round =>
        clear hc HR0
        obtain ⟨m, hm, rfl, hkw2, HR2⟩ := hrel
        have hlt' : (k : Int) < (n : Int) := by omega
        by_cases hml : m < l.length
        · obtain ⟨bm, om, rfl, hcm⟩ := (HI1.out.kept hkw2 hpB).at hml
          have htk := hid (take_snoc l m 0 hml)
          have hxn := hok.out _ (getD_mem l m 0 hml)
          obtain ⟨x, hx⟩ : ∃ x, l.getD m 0 = x := ⟨_, rfl⟩
          rw [hx] at hcm htk hxn
          clear hx
          have hcell := HR2.out.cell hxn
          have hfz := HR2.out.frozen x
          have hput := hid (HR2.out.put x (.int .i64 (((deg g k x + occ (l.take m) x + 1 : Nat)) : Int)))
          have hd1 := hdl.out x
          have hd2 := occ_le (l.take m) x
          have hd3 : (l.take m).length ≤ m := List.length_take_le _ _
          have hcv : num (fun b => deg g k b + occ (l.take m) b) x = .int .i64 ((deg g k x + occ (l.take m) x : Nat) : Int) := rfl
          rw [hcv] at hcell
          have hnew : Box (∀ i, (if i = x then Value.int .i64 ((deg g k x + occ (l.take m) x + 1 : Nat) : Int) else num (fun b => deg g k b + occ (l.take m) b) i) = num (fun b => deg g k b + occ (l.take (m + 1)) b) i) := hid (by
            intro i
            have e0 : occ (l.take (m + 1)) i = occ (l.take m) i + if i = x then 1 else 0 := by rw [htk.out, occ_snoc]
            by_cases e : i = x
            · subst e; rw [if_pos rfl] at e0 ⊢; exact (num_of (c := fun b => deg g k b + occ (l.take (m + 1)) b) (by rw [e0]; rfl)).symm
            · rw [if_neg e] at e0 ⊢; exact (num_of (c := fun b => deg g k b + occ (l.take (m + 1)) b) (by rw [e0]; rfl)).symm)
          have hbd : deg g k x + occ (l.take m) x < 1000000000 := by omega
          generalize deg g k x + occ (l.take m) x = y at hcell hput hnew hbd
          have hxn' : (x : Int) < (n : Int) := by omega
          clear hcv hd1 hd2 hd3
          go_wp2
          go_roundw
          case rel => exact ⟨m + 1, by omega, by go_num, hkw2.step (Keeps.setCell [p] _ _ _ (by simp)), hid (hput.out.congr (fun i _ => hnew.out i))⟩
          case measure => simp [intOf]; omega
        · obtain rfl : m = l.length := by omega
          go_wp2
          go_roundw
          case rel => exact ⟨k + 1, by omega, by go_num, hkw.step hkw2, hid (HR2.out.congr (fun i _ => (num_of (c := fun b => deg g (k + 1) b) (by rw [hdg.out i, List.take_length])).symm))⟩
          case measure => simp [intOf]; omega
    · obtain rfl : k = n := by omega
      go_wp2
      go_ret
      exact ⟨p, rfl, HR.out, hw2.fresh hkw (fun x hx => by have := HR.out.lt; simp at hx; omega)⟩
end Go.Proofs.YtlnimcpmkammfaaDoor
