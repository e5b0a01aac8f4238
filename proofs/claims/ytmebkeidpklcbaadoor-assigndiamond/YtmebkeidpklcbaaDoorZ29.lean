/-
  Contract: assign's stopped.
  Two rows of pointers to sets, each set of its own, while they are made and turned.
  Contract: assign's In.
-/
import Derived.Deep.DeepCutAuto
import Derived.Test.YtmebkeidpklcbaaDoorZ03
import Derived.Test.YtmebkeidpklcbaaDoorZ04
import Derived.Test.YtmebkeidpklcbaaDoorZ24
import Derived.Test.YtmebkeidpklcbaaDoorZ25
import Derived.Test.YtmebkeidpklcbaaDoorZ28

namespace Go.Proofs.YtmebkeidpklcbaaDoor
open Go.RowKit

/-- Ways end at blocks that assign r. -/
def stopG (g : List (List Nat)) (D : Nat → Nat → Bool) (r : Nat) : List (List Nat) := (List.range g.length).map fun b => if D b r then [] else nb g b
theorem stopG_len (g : List (List Nat)) (D : Nat → Nat → Bool) (r : Nat) : (stopG g D r).length = g.length := by unfold stopG; rw [List.length_map, List.length_range]
theorem stopG_nb {g : List (List Nat)} {D : Nat → Nat → Bool} {r b : Nat} (h : b < g.length) : nb (stopG g D r) b = if D b r then [] else nb g b := by
  show (stopG g D r).getD b [] = _
  unfold stopG
  rw [List.getD_eq_getElem?_getD, List.getElem?_map, List.getElem?_range h]
  rfl
theorem stopG_sm {g : List (List Nat)} (h : Sm g) (D : Nat → Nat → Bool) (r : Nat) : Sm (stopG g D r) := by
  have key : ∀ j y, y ∈ nb (stopG g D r) j → y ∈ nb g j := fun j y hy => by
    by_cases hj : j < g.length
    · rw [stopG_nb hj] at hy
      split at hy
      · cases hy
      · exact hy
    · rw [nb_out (by rw [stopG_len]; exact hj)] at hy
      cases hy
  refine ⟨fun j y hy => by rw [stopG_len]; exact h.ok j y (key j y hy), by rw [stopG_len]; exact h.len, fun j => ?_⟩
  by_cases hj : j < g.length
  · rw [stopG_nb hj]
    split
    · simp
    · exact h.short j
  · rw [nb_out (by rw [stopG_len]; exact hj)]
    simp
theorem InAt.mono {w : World} {B B' : Nat} {a : Option Addr} {zs : List Int} (h : InAt w B a zs) (hb : B ≤ B') : InAt w B' a zs := by
  rcases h with h | ⟨b, off, h1, h2, h3⟩
  · exact .inl h
  · exact .inr ⟨b, off, h1, Nat.lt_of_lt_of_le h2 hb, h3⟩
/-- A row of pointers to sets. -/
structure PS (w : World) (base p n : Nat) (d : Nat → Nat) (D : Nat → Nat → Bool) : Prop where
  row : RowAt w base p n 56 (fun i => .pointer (some ⟨d i, 0, none⟩))
  set : ∀ i, i < n → SetAt w (d i) (D i)
theorem PS.quiet {w wy : World} {base p n : Nat} {d : Nat → Nat} {D : Nat → Nat → Bool} (h : PS w base p n d D) (k : Keeps [] w wy) : PS wy base p n d D :=
  ⟨h.row.kept k (by simp), fun i hi => (h.set i hi).kept k (by simp)⟩
set_option maxRecDepth 20000 in
set_option maxHeartbeats 4000000 in
theorem stopped_any (g : List (List Nat)) (hs : Sm g) (a : Option Addr) (cap B : Nat) (w : World) (hG : GAt w B a g) (hB : B ≤ w.heap.size) {base p : Nat} {d : Nat → Nat} {D : Nat → Nat → Bool} (hd : PS w base p g.length d D) (hf : ∀ i, Fit (D i)) (r : Nat) :
    Calls Tryd.prog 39 #[.agg #[.int .i64 (g.length : Int), .slice a g.length cap], .slice (some ⟨p, 0, none⟩) g.length g.length, .int .i64 (r : Int)] w fun e w' => ∃ a', e = .returned (.agg #[.int .i64 ((stopG g D r).length : Int), .slice a' (stopG g D r).length (stopG g D r).length]) ∧ GAt w' w'.heap.size a' (stopG g D r) ∧ Keeps [] w w' := by
  have hn6 := hs.len
  have HG := hid hG
  have HD := hid hd
  have HF := hid hf
  have SN : Box (∀ b, b < g.length → nb (stopG g D r) b = if D b r then [] else nb g b) := hid fun b hb => stopG_nb hb
  have SL := hid (stopG_len g D r)
  rw [stopG_len]
  obtain ⟨n, hn⟩ : ∃ n, g.length = n := ⟨_, rfl⟩
  have GL := hid hn
  rw [hn] at HD SN SL hn6 ⊢
  clear hs hG hd hf hn
  have hmk := run_mkl n (by omega)
  have k1 := Keeps.alloc [] w (.cells #[.int .i64 (n : Int), .slice a n cap] 34)
  have k2 := Keeps.alloc [] (w.alloc (.cells #[.int .i64 (n : Int), .slice a n cap] 34)) (.cells #[.int .i64 0, .slice none 0 0] 34)
  have T1 : Box (TwoAt ((w.alloc (.cells #[.int .i64 (n : Int), .slice a n cap] 34)).alloc (.cells #[.int .i64 0, .slice none 0 0] 34)) w.heap.size (.int .i64 (n : Int)) (.slice a n cap)) := hid ((TwoAt.new w _ _).kept k2 (by simp))
  have T2 : Box (TwoAt ((w.alloc (.cells #[.int .i64 (n : Int), .slice a n cap] 34)).alloc (.cells #[.int .i64 0, .slice none 0 0] 34)) (w.heap.size + 1) (.int .i64 0) (.slice none 0 0)) := hid (by have := TwoAt.new (w.alloc (.cells #[.int .i64 (n : Int), .slice a n cap] 34)) (.int .i64 0) (.slice none 0 0); rw [World.size_alloc] at this; exact this)
  have K2 := hid (k1.quiet k2)
  have SZ : Box (((w.alloc (.cells #[.int .i64 (n : Int), .slice a n cap] 34)).alloc (.cells #[.int .i64 0, .slice none 0 0] 34)).heap.size = w.heap.size + 2) := hid (by simp)
  clear k1 k2
  go_enter Tryd.func39, Tryd.ntmps39
  go_upto_region 1 with fail
  generalize (w.alloc (.cells #[.int .i64 (n : Int), .slice a n cap] 34)).alloc (.cells #[.int .i64 0, .slice none 0 0] 34) = W at *
  have c0 := T1.out.c0
  go_upto_region 2 with fail
  clear c0
  have ka : Keeps [] W (W.alloc (.cells (madeCells #[nilL] n) 54)) := Keeps.alloc _ _ _
  have HR := hid (mkl_new W n w.heap.size K2.out.size (by unfold maxLen; omega))
  have T1' := hid (T1.out.kept ka (by simp))
  have T2' := hid (T2.out.kept ka (by simp))
  have K3 := hid (K2.out.quiet ka)
  clear T1 T2 K2 ka
  rw [SZ.out] at HR ⊢
  clear SZ
  generalize W.alloc (.cells (madeCells #[nilL] n) 54) = W3 at *
  go_wp2_with fail
  go_loopw [14] (fun i wr => ∃ (k : Nat) (c : Nat → Value), k ≤ n ∧ i = .int .i64 (k : Int) ∧ Box (RowAt wr w.heap.size (w.heap.size + 2) n 54 c) ∧ Box (TwoAt wr w.heap.size (.int .i64 (n : Int)) (.slice a n cap)) ∧ Box (TwoAt wr (w.heap.size + 1) (.int .i64 0) (.slice none 0 0)) ∧ Box (Keeps [] w wr) ∧ Box (∀ j, j < n → (j < k → ∃ ai ci, c j = .slice ai (nb (stopG g D r) j).length ci ∧ InAt w B ai (intsI (nb (stopG g D r) j))) ∧ (k ≤ j → c j = nilL))) (fun i _ => n - (intOf i).toNat)
  case atStart => exact ⟨0, _, by omega, rfl, HR, T1', T2', K3, hid fun j hj => ⟨fun h => by omega, fun _ => rfl⟩⟩
  case round =>
    clear HR T1' T2' K3
    obtain ⟨k, c, hk, rfl, HR, T1, T2, HK, HC⟩ := hrel
    by_cases hlt : k < n
    · have hlt' : (k : Int) < (n : Int) := by omega
      have ps := HD.out.quiet HK.out
      have cd := ps.row.cell hlt
      have HH : Box (∀ w', Keeps [] w w' → Calls Tryd.prog 19 #[.pointer (some ⟨d k, 0, none⟩), .int .i64 (r : Int)] w' fun e w'' => e = .returned (.bool (D k r)) ∧ ∃ m, w'' = w'.drewN m) := hid fun w' k' => by
        have := has_any (d k) (D k) (r : Int) w' ((HD.out.quiet k').set k hlt) (HF.out k)
        unfold hasI at this
        rw [Int.toNat_natCast, decide_eq_true (by omega : (0 : Int) ≤ (r : Int)), Bool.true_and] at this
        exact this
      have sn := SN.out k hlt
      obtain ⟨gb, go, ai, ci, rfl, hcl, hnl⟩ := HG.out.at (k := k) (by rw [GL.out]; exact hlt)
      have HNL := hid hnl
      have hcl2 := cell_stays HK.out hcl
      clear ps hnl hcl
      cases hD : D k r with
      | true =>
        rw [hD] at HH sn
        rw [if_pos rfl] at sn
        have SN2 := hid sn
        clear sn hD
        go_wp2_with (go_at_call 19; refine (HH.out _ HK.out).mono ?_; rintro e w5 ⟨rfl, m5, rfl⟩)
        have kd := Keeps.drewN [] wr m5
        go_roundw
        case rel => exact ⟨k + 1, c, by omega, by go_num, hid (HR.out.kept kd (by simp)), hid (T1.out.kept kd (by simp)), hid (T2.out.kept kd (by simp)), hid (HK.out.quiet kd), hid fun j hj => ⟨fun h => by
            by_cases e : j = k
            · subst e
              rw [(HC.out j hj).2 (Nat.le_refl _), SN2.out]
              exact ⟨none, 0, rfl, .inl rfl⟩
            · exact (HC.out j hj).1 (by omega), fun h => (HC.out j hj).2 (by omega)⟩⟩
        case measure => simp [intOf]; omega
      | false =>
        rw [hD] at HH sn
        rw [if_neg (by decide)] at sn
        have SN2 := hid sn
        clear sn hD
        have c1 := T1.out.c1
        have cz := HR.out.cell hlt
        have fz := HR.out.frozen k
        go_wp2_with (go_at_call 19; refine (HH.out _ HK.out).mono ?_; rintro e w5 ⟨rfl, m5, rfl⟩)
        have kd := Keeps.drewN [] wr m5
        have ks : Keeps [w.heap.size + 2] (wr.drewN m5) ((wr.drewN m5).setCell ⟨w.heap.size + 2, k, none⟩ (.slice ai (nb g k).length ci)) := Keeps.setCell _ _ _ _ (by simp)
        go_roundw
        case rel => exact ⟨k + 1, _, by omega, by go_num, hid ((HR.out.kept kd (by simp)).put k (.slice ai (nb g k).length ci)), hid ((T1.out.kept kd (by simp)).kept ks (by simp)), hid ((T2.out.kept kd (by simp)).kept ks (by simp)), hid ((HK.out.quiet kd).fresh ks (fun x hx => by simp at hx; omega)), hid fun j hj => by
            by_cases e : j = k
            · subst e
              exact ⟨fun _ => ⟨ai, ci, by rw [if_pos rfl, SN2.out], by rw [SN2.out]; exact HNL.out⟩, fun h => by omega⟩
            · rw [if_neg e]
              exact ⟨fun h => (HC.out j hj).1 (by omega), fun h => (HC.out j hj).2 (by omega)⟩⟩
        case measure => simp [intOf]; omega
    · obtain rfl : k = n := by omega
      have c0 := T1.out.c0
      have r0 := T2.out.c0
      have r1 := T2.out.c1
      have z0 := T2.out.frozen 0
      have z1 := T2.out.frozen 1
      go_wp2_with fail
      have k1 : Keeps [w.heap.size + 1] wr (wr.setCell ⟨w.heap.size + 1, 0, none⟩ (.int .i64 (k : Int))) := Keeps.setCell _ _ _ _ (by simp)
      have k2 : Keeps [w.heap.size + 1] (wr.setCell ⟨w.heap.size + 1, 0, none⟩ (.int .i64 (k : Int))) ((wr.setCell ⟨w.heap.size + 1, 0, none⟩ (.int .i64 (k : Int))).setCell ⟨w.heap.size + 1, 1, none⟩ (.slice (some ⟨w.heap.size + 2, 0, none⟩) k k)) := Keeps.setCell _ _ _ _ (by simp)
      have k3 := k1.step k2
      have hb2 : TwoAt ((wr.setCell ⟨w.heap.size + 1, 0, none⟩ (.int .i64 (k : Int))).setCell ⟨w.heap.size + 1, 1, none⟩ (.slice (some ⟨w.heap.size + 2, 0, none⟩) k k)) (w.heap.size + 1) (.int .i64 (k : Int)) (.slice (some ⟨w.heap.size + 2, 0, none⟩) k k) := by
        have h1 := heap_setCell_same wr (w.heap.size + 1) 0 _ _ (.int .i64 (k : Int)) T2.out.heap
        have h2 := heap_setCell_same _ (w.heap.size + 1) 1 _ _ (.slice (some ⟨w.heap.size + 2, 0, none⟩) k k) h1
        exact ⟨h2⟩
      have hd0 := hb2.c0
      have hd1 := hb2.c1
      have HR2 := HR.out.kept k3 (by simp)
      have HK2 := HK.out.fresh k3 (fun x hx => by simp at hx; omega)
      generalize (wr.setCell ⟨w.heap.size + 1, 0, none⟩ (.int .i64 (k : Int))).setCell ⟨w.heap.size + 1, 1, none⟩ (.slice (some ⟨w.heap.size + 2, 0, none⟩) k k) = w9 at hd0 hd1 HR2 HK2 ⊢
      refine bodyPost_ret (v := .agg #[.int .i64 (k : Int), .slice (some ⟨w.heap.size + 2, 0, none⟩) k k]) (by simp [results, Tryd.results39, go_sem, hd0, hd1]) rfl ⟨_, rfl, ?_, HK2⟩
      refine .inr ⟨_, 0, rfl, HR2.lt.2, fun j hj => ?_⟩
      rw [listsI_len, SL.out] at hj
      obtain ⟨ai, ci, e1, e2⟩ := (HC.out j hj).1 hj
      rw [listsI_get, intsI_len, Nat.zero_add, HR2.cell hj, e1]
      exact ⟨ai, ci, rfl, (e2.kept HK2 (by simp)).mono (Nat.le_trans hB HK2.size)⟩
end Go.Proofs.YtmebkeidpklcbaaDoor

namespace Go.Proofs.YtmebkeidpklcbaaDoor
open Go.RowKit

def nilP : Value := .pointer none
theorem run_mkp (n : Nat) (hn : n ≤ 1000000) (w : World) : (Instr.makeSlice 50 (.int .i64 (n : Int)) (.int .i64 (n : Int))).run Tryd.prog w = .ok (.slice (some ⟨w.heap.size, 0, none⟩) n n) (w.alloc (.cells (madeCells #[nilP] n) 56)) :=
  run_make_row' (P := Tryd.prog) 50 56 nilP 8 Tryd.underlying50 (by kernel_rfl) rfl .i64 .i64 n (by omega) (by omega) w
theorem mkp_new (w : World) (n base : Nat) (hb : base ≤ w.heap.size) (hn : n ≤ maxLen) : RowAt (w.alloc (.cells (madeCells #[nilP] n) 56)) base w.heap.size n 56 (fun _ => nilP) := by
  refine RowAt.made (z := nilP) ⟨?_, .inr ⟨w.heap.size, n, _, rfl, hb, heap_alloc_new w _, Nat.le_refl _, hn, ?_, ?_⟩⟩ rfl
  · rw [Array.length_toList, size_madeCells]
  · rw [size_madeCells, Nat.mul_one]
  · rw [Nat.mul_one]
    exact List.take_of_length_le (by rw [Array.length_toList, size_madeCells]; exact Nat.le_refl _)
def pv (k : Nat) (d : Nat → Nat) (i : Nat) : Value := if i < k then .pointer (some ⟨d i, 0, none⟩) else .pointer none
/-- One row: the first k are there. Sets lie from block q on. -/
structure HS (wr : World) (base q p n k : Nat) (d : Nat → Nat) (D : Nat → Nat → Bool) : Prop where
  row : RowAt wr base p n 56 (pv k d)
  set : ∀ i, i < k → SetAt wr (d i) (D i)
  new : ∀ i, i < k → q ≤ d i
  inj : ∀ i j, i < k → j < k → i ≠ j → d i ≠ d j
theorem SetAt.lt' {w : World} {b : Nat} {s : Nat → Bool} (h : SetAt w b s) : b < w.heap.size := (Array.getElem?_eq_some_iff.1 h.heap).1
theorem HS.kept {wr wy : World} {base q p n k : Nat} {d : Nat → Nat} {D : Nat → Nat → Bool} {L : List Nat} (h : HS wr base q p n k d D) (kk : Keeps L wr wy) (hp : p ∉ L) (hd : ∀ i, i < k → d i ∉ L) : HS wy base q p n k d D :=
  ⟨h.row.kept kk hp, fun i hi => (h.set i hi).kept kk (hd i hi), h.new, h.inj⟩
theorem HS.quiet {wr wy : World} {base q p n k : Nat} {d : Nat → Nat} {D : Nat → Nat → Bool} (h : HS wr base q p n k d D) (kk : Keeps [] wr wy) : HS wy base q p n k d D := h.kept kk (by simp) (by simp)
theorem HS.put {wr : World} {base q p n k : Nat} {d : Nat → Nat} {D : Nat → Nat → Bool} (h : HS wr base q p n k d D) (hpq : p < q) {b : Nat} {s : Nat → Bool} (hb : SetAt wr b s) (hq : q ≤ b) (hn : ∀ i, i < k → d i ≠ b) :
    HS (wr.setCell ⟨p, k, none⟩ (.pointer (some ⟨b, 0, none⟩))) base q p n (k + 1) (fun i => if i = k then b else d i) (fun i => if i = k then s else D i) := by
  have kk : Keeps [p] wr (wr.setCell ⟨p, k, none⟩ (.pointer (some ⟨b, 0, none⟩))) := Keeps.setCell _ _ _ _ (by simp)
  refine ⟨(h.row.put k _).congr (fun i _ => ?_), fun i hi => ?_, fun i hi => ?_, fun i j hi hj e => ?_⟩
  · unfold pv
    by_cases e : i = k
    · subst e; simp
    · rw [if_neg e]
      by_cases c : i < k
      · rw [if_pos c, if_pos (by omega)]; show _ = Value.pointer (some ⟨if i = k then b else d i, 0, none⟩); rw [if_neg e]
      · rw [if_neg c, if_neg (by omega)]
  · by_cases e : i = k
    · rw [if_pos e, if_pos e]; exact hb.kept kk (by simp; omega)
    · rw [if_neg e, if_neg e]; exact (h.set i (by omega)).kept kk (by have := h.new i (by omega); simp; omega)
  · by_cases e : i = k
    · rw [if_pos e]; exact hq
    · rw [if_neg e]; exact h.new i (by omega)
  · by_cases e1 : i = k
    · rw [if_pos e1, if_neg (by omega)]; exact fun e2 => hn j (by omega) e2.symm
    · by_cases e2 : j = k
      · rw [if_neg e1, if_pos e2]; exact hn i (by omega)
      · rw [if_neg e1, if_neg e2]; exact h.inj i j (by omega) (by omega) e
/-- One of the sets is turned. -/
theorem HS.turn {wr wy : World} {base q p n k : Nat} {d : Nat → Nat} {D : Nat → Nat → Bool} (h : HS wr base q p n k d D) (hpq : p < q) {j : Nat} (hj : j < k) {s : Nat → Bool} (kk : Keeps [d j] wr wy) (hs : SetAt wy (d j) s) : HS wy base q p n k d (fun i => if i = j then s else D i) := by
  refine ⟨h.row.kept kk (by have := h.new j hj; simp; omega), fun i hi => ?_, h.new, h.inj⟩
  by_cases e : i = j
  · subst e; rw [if_pos rfl]; exact hs
  · rw [if_neg e]; exact (h.set i hi).kept kk (by have := h.inj i j hi hj e; simpa using this)
theorem HS.congr {wr : World} {base q p n k : Nat} {d : Nat → Nat} {D E : Nat → Nat → Bool} (h : HS wr base q p n k d D) (e : ∀ i, i < k → D i = E i) : HS wr base q p n k d E :=
  ⟨h.row, fun i hi => by rw [← e i hi]; exact h.set i hi, h.new, h.inj⟩
theorem HS.ps {wr : World} {base q p n : Nat} {d : Nat → Nat} {D : Nat → Nat → Bool} (h : HS wr base q p n n d D) : PS wr base p n d D :=
  ⟨h.row.congr (fun i hi => by unfold pv; rw [if_pos hi]), h.set⟩
end Go.Proofs.YtmebkeidpklcbaaDoor

namespace Go.Proofs.YtmebkeidpklcbaaDoor
open Go.RowKit

/-- The blocks that are reached with r bare. -/
def bareS (F : Fu8) (r : Nat) : Nat → Bool := rch (stopG (flowF F) (fun b => dfS (blk8 F b).code none_) r) [0]
/-- Of block b: the registers that are left when those from par to r have been looked at. -/
def inK (F : Fu8) (par r b : Nat) : Nat → Bool := fun m => decide (m < F.regs.length) && !(decide (par ≤ m) && (decide (m < r) && bareS F m b))
def inS (P : Pr8) (F : Fu8) (b : Nat) : Nat → Bool := fun m => decide (m < F.regs.length) && !(decide (parN P F ≤ m) && bareS F m b)
theorem inK_fit {F : Fu8} (h : F.regs.length ≤ 5000) (par r b : Nat) : Fit (inK F par r b) := fun n hn => by
  unfold inK
  rw [decide_eq_false (by omega)]
  rfl
theorem inK_start (F : Fu8) (par b : Nat) : inK F par par b = allS F.regs.length := by
  funext m
  unfold inK allS
  by_cases h : m < F.regs.length
  · by_cases h2 : par ≤ m
    · have h3 : ¬ m < par := by omega
      simp [h, h3]
    · simp [h, h2]
  · simp [h]
theorem inK_end {P : Pr8} {F : Fu8} {r : Nat} (h : F.regs.length ≤ r) (b : Nat) : inK F (parN P F) r b = inS P F b := by
  funext m
  unfold inK inS
  by_cases h1 : m < F.regs.length
  · have h2 : m < r := by omega
    simp [h2]
  · simp [h1]
/-- The blocks below c have been looked at for r. -/
def inC (F : Fu8) (par r c b : Nat) : Nat → Bool := if b < c ∧ bareS F r b = true then delI (inK F par r b) (r : Int) else inK F par r b
theorem inC_fit {F : Fu8} (h : F.regs.length ≤ 5000) (par r c b : Nat) : Fit (inC F par r c b) := by
  unfold inC
  split
  · intro n hn
    unfold delI
    rw [inK_fit h par r b n hn]
    rfl
  · exact inK_fit h par r b
theorem inC_zero (F : Fu8) (par r b : Nat) : inC F par r 0 b = inK F par r b := by unfold inC; rw [if_neg (by omega)]
theorem inC_skip {F : Fu8} {par r c c' b : Nat} (hc : c ≤ c') (h : ∀ j, c ≤ j → j < c' → bareS F r j = false) : inC F par r c b = inC F par r c' b := by
  unfold inC
  by_cases h1 : b < c ∧ bareS F r b = true
  · rw [if_pos h1, if_pos ⟨by omega, h1.2⟩]
  · rw [if_neg h1]
    by_cases h2 : b < c' ∧ bareS F r b = true
    · exfalso
      have := h b (by
        rcases Nat.lt_or_ge b c with h3 | h3
        · exact absurd ⟨h3, h2.2⟩ h1
        · exact h3) h2.1
      rw [this] at h2
      exact absurd h2.2 (by decide)
    · rw [if_neg h2]
theorem inC_done {F : Fu8} {par r c b : Nat} (hr : par ≤ r) (h : b < c) : inC F par r c b = inK F par (r + 1) b := by
  funext m
  unfold inC
  by_cases h1 : bareS F r b = true
  · rw [if_pos ⟨h, h1⟩]
    unfold delI inK
    by_cases e : m = r
    · subst e
      simp [h1, hr]
    · have e1 : ¬ ((m : Int) = (r : Int)) := by omega
      have e2 : decide (m < r + 1) = decide (m < r) := by rw [decide_eq_decide]; omega
      simp [e1, e2]
  · rw [if_neg (fun h => h1 h.2)]
    unfold inK
    by_cases e : m = r
    · subst e
      rw [Bool.not_eq_true] at h1
      simp [h1]
    · have e2 : decide (m < r + 1) = decide (m < r) := by rw [decide_eq_decide]; omega
      rw [e2]
theorem inC_at {F : Fu8} {par r b : Nat} (h : bareS F r b = true) (j : Nat) : (if j = b then delI (inC F par r b b) (r : Int) else inC F par r b j) = inC F par r (b + 1) j := by
  by_cases e : j = b
  · subst e
    rw [if_pos rfl]
    unfold inC
    rw [if_neg (by omega), if_pos ⟨by omega, h⟩]
  · rw [if_neg e]
    unfold inC
    by_cases c : j < b ∧ bareS F r j = true
    · rw [if_pos c, if_pos ⟨by omega, c.2⟩]
    · rw [if_neg c, if_neg (fun h => c ⟨by omega, h.2⟩)]
/-- In the midst of In. -/
structure IM (w wr : World) (q p1 p2 n k1 k2 : Nat) (d1 d2 : Nat → Nat) (D1 D2 : Nat → Nat → Bool) (gb : Nat) (a : Option Addr) (g : List (List Nat)) (B : Nat) : Prop where
  h1 : HS wr w.heap.size q p1 n k1 d1 D1
  h2 : HS wr w.heap.size q p2 n k2 d2 D2
  cross : ∀ i j, i < k1 → j < k2 → d1 i ≠ d2 j
  keep : Keeps [] w wr
  box : TwoAt wr gb (.int .i64 (n : Int)) (.slice a n n)
  gr : GAt wr B a g
theorem IM.quiet {w wr wy : World} {q p1 p2 n k1 k2 : Nat} {d1 d2 : Nat → Nat} {D1 D2 : Nat → Nat → Bool} {gb : Nat} {a : Option Addr} {g : List (List Nat)} {B : Nat} (h : IM w wr q p1 p2 n k1 k2 d1 d2 D1 D2 gb a g B) (k : Keeps [] wr wy) : IM w wy q p1 p2 n k1 k2 d1 d2 D1 D2 gb a g B :=
  ⟨h.h1.quiet k, h.h2.quiet k, h.cross, h.keep.quiet k, h.box.kept k (by simp), h.gr.quiet k⟩
/-- Where things lie. -/
structure IL (w : World) (q p1 p2 gb B : Nat) : Prop where
  l1 : w.heap.size ≤ p1
  l2 : w.heap.size ≤ p2
  q1 : p1 < q
  q2 : p2 < q
  ne : p1 ≠ p2
  g1 : gb ≠ p1
  g2 : gb ≠ p2
  gq : gb < q
  b1 : B ≤ p1
  b2 : B ≤ p2
  bq : B ≤ q
theorem IM.put1 {w wr wy : World} {q p1 p2 n k1 k2 : Nat} {d1 d2 : Nat → Nat} {D1 D2 : Nat → Nat → Bool} {gb : Nat} {a : Option Addr} {g : List (List Nat)} {B : Nat} (h : IM w wr q p1 p2 n k1 k2 d1 d2 D1 D2 gb a g B) (L : IL w q p1 p2 gb B) (k : Keeps [] wr wy) {b : Nat} {s : Nat → Bool} (hb : SetAt wy b s) (hq : q ≤ wr.heap.size) (hn : wr.heap.size ≤ b) :
    IM w (wy.setCell ⟨p1, k1, none⟩ (.pointer (some ⟨b, 0, none⟩))) q p1 p2 n (k1 + 1) k2 (fun i => if i = k1 then b else d1 i) d2 (fun i => if i = k1 then s else D1 i) D2 gb a g B := by
  have h' := h.quiet k
  have kk : Keeps [p1] wy (wy.setCell ⟨p1, k1, none⟩ (.pointer (some ⟨b, 0, none⟩))) := Keeps.setCell _ _ _ _ (by simp)
  have o1 : ∀ i, i < k1 → d1 i ≠ b := fun i hi e => by have := (h.h1.set i hi).lt'; omega
  have o2 : ∀ i, i < k2 → d2 i ≠ b := fun i hi e => by have := (h.h2.set i hi).lt'; omega
  refine ⟨h'.h1.put L.q1 hb (by omega) o1, h'.h2.kept kk (by have := L.ne; simp; omega) (fun i hi => by have := h.h2.new i hi; have := L.q1; simp; omega), fun i j hi hj => ?_, h'.keep.fresh kk (fun x hx => by have := L.l1; simp at hx; omega), h'.box.kept kk (by have := L.g1; simp; omega), h'.gr.kept kk (fun x hx => by have := L.b1; simp at hx; omega)⟩
  by_cases e : i = k1
  · rw [if_pos e]; exact fun e2 => o2 j hj e2.symm
  · rw [if_neg e]; exact h.cross i j (by omega) hj
theorem IM.put2 {w wr wy : World} {q p1 p2 n k1 k2 : Nat} {d1 d2 : Nat → Nat} {D1 D2 : Nat → Nat → Bool} {gb : Nat} {a : Option Addr} {g : List (List Nat)} {B : Nat} (h : IM w wr q p1 p2 n k1 k2 d1 d2 D1 D2 gb a g B) (L : IL w q p1 p2 gb B) (k : Keeps [] wr wy) {b : Nat} {s : Nat → Bool} (hb : SetAt wy b s) (hq : q ≤ wr.heap.size) (hn : wr.heap.size ≤ b) :
    IM w (wy.setCell ⟨p2, k2, none⟩ (.pointer (some ⟨b, 0, none⟩))) q p1 p2 n k1 (k2 + 1) d1 (fun i => if i = k2 then b else d2 i) D1 (fun i => if i = k2 then s else D2 i) gb a g B := by
  have h' := h.quiet k
  have kk : Keeps [p2] wy (wy.setCell ⟨p2, k2, none⟩ (.pointer (some ⟨b, 0, none⟩))) := Keeps.setCell _ _ _ _ (by simp)
  have o1 : ∀ i, i < k1 → d1 i ≠ b := fun i hi e => by have := (h.h1.set i hi).lt'; omega
  have o2 : ∀ i, i < k2 → d2 i ≠ b := fun i hi e => by have := (h.h2.set i hi).lt'; omega
  refine ⟨h'.h1.kept kk (by have := L.ne; simp; omega) (fun i hi => by have := h.h1.new i hi; have := L.q2; simp; omega), h'.h2.put L.q2 hb (by omega) o2, fun i j hi hj => ?_, h'.keep.fresh kk (fun x hx => by have := L.l2; simp at hx; omega), h'.box.kept kk (by have := L.g2; simp; omega), h'.gr.kept kk (fun x hx => by have := L.b2; simp at hx; omega)⟩
  by_cases e : j = k2
  · rw [if_pos e]; exact o1 i hi
  · rw [if_neg e]; exact h.cross i j hi (by omega)
theorem IM.turn {w wr wy : World} {q p1 p2 n k1 k2 : Nat} {d1 d2 : Nat → Nat} {D1 D2 : Nat → Nat → Bool} {gb : Nat} {a : Option Addr} {g : List (List Nat)} {B : Nat} (h : IM w wr q p1 p2 n k1 k2 d1 d2 D1 D2 gb a g B) (L : IL w q p1 p2 gb B) {j : Nat} (hj : j < k1) {s : Nat → Bool} (kk : Keeps [d1 j] wr wy) (hs : SetAt wy (d1 j) s) :
    IM w wy q p1 p2 n k1 k2 d1 d2 (fun i => if i = j then s else D1 i) D2 gb a g B := by
  have hn := h.h1.new j hj
  refine ⟨h.h1.turn L.q1 hj kk hs, h.h2.kept kk (by have := L.q2; simp; omega) (fun i hi => by have := h.cross j i hj hi; simp; omega), h.cross, h.keep.fresh kk (fun x hx => by have := L.l1; have := L.q1; simp at hx; omega), h.box.kept kk (by have := L.gq; simp; omega), h.gr.kept kk (fun x hx => by have := L.bq; simp at hx; omega)⟩
end Go.Proofs.YtmebkeidpklcbaaDoor
