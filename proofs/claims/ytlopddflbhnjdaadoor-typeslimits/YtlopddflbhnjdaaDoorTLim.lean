/-
  TypesLimits: of each thing as many as the limit there may be, one more not.
-/
import Derived.Test.YtlopddflbhnjdaaDoorTMade
import Derived.Test.YtlopddflbhnjdaaDoorTBegun
import Derived.Test.YtlopddflbhnjdaaDoorTSays
namespace Go.Proofs.YtlopddflbhnjdaaDoor
open Go.RowKit

def lim0 (n : Nat) : Pr8 := ⟨List.replicate n [], [([], 0, 0)], [], [], [⟨0, [(0, 0)], [⟨[⟨1, 0, 0, 0, 7, []⟩], 3, 0, 0, 0⟩]⟩], 0⟩
theorem lb0 (n : Nat) (hn : n ≤ 40) : bndB (lim0 n) = decide (0 ≤ n ∧ n ≤ 6) := (by decide +kernel : ∀ n, n < 41 → bndB (lim0 n) = decide (0 ≤ n ∧ n ≤ 6)) n (by omega)
def lim1 (n : Nat) : Pr8 := ⟨[], List.replicate n ([], 0, 0), [], [], [⟨0, [(0, 0)], [⟨[⟨1, 0, 0, 0, 7, []⟩], 3, 0, 0, 0⟩]⟩], 0⟩
theorem lb1 (n : Nat) (hn : n ≤ 40) : bndB (lim1 n) = decide (0 ≤ n ∧ n ≤ 10) := (by decide +kernel : ∀ n, n < 41 → bndB (lim1 n) = decide (0 ≤ n ∧ n ≤ 10)) n (by omega)
def lim2 (n : Nat) : Pr8 := ⟨[], [([], 0, 0)], List.replicate n [], [], [⟨0, [(0, 0)], [⟨[⟨1, 0, 0, 0, 7, []⟩], 3, 0, 0, 0⟩]⟩], 0⟩
theorem lb2 (n : Nat) (hn : n ≤ 40) : bndB (lim2 n) = decide (0 ≤ n ∧ n ≤ 4) := (by decide +kernel : ∀ n, n < 41 → bndB (lim2 n) = decide (0 ≤ n ∧ n ≤ 4)) n (by omega)
def lim3 (n : Nat) : Pr8 := ⟨[], [([], 0, 0)], [], List.replicate n (0, 0, []), [⟨0, [(0, 0)], [⟨[⟨1, 0, 0, 0, 7, []⟩], 3, 0, 0, 0⟩]⟩], 0⟩
theorem lb3 (n : Nat) (hn : n ≤ 40) : bndB (lim3 n) = decide (0 ≤ n ∧ n ≤ 12) := (by decide +kernel : ∀ n, n < 41 → bndB (lim3 n) = decide (0 ≤ n ∧ n ≤ 12)) n (by omega)
def lim4 (n : Nat) : Pr8 := ⟨[], [([], 0, 0)], [], [], List.replicate n ⟨0, [], [⟨[], 0, 0, 0, 0⟩]⟩, 0⟩
theorem lb4 (n : Nat) (hn : n ≤ 40) : bndB (lim4 n) = decide (1 ≤ n ∧ n ≤ 12) := (by decide +kernel : ∀ n, n < 41 → bndB (lim4 n) = decide (1 ≤ n ∧ n ≤ 12)) n (by omega)
def lim5 (n : Nat) : Pr8 := ⟨[List.replicate n (0, 0)], [([], 0, 0)], [], [], [⟨0, [(0, 0)], [⟨[⟨1, 0, 0, 0, 7, []⟩], 3, 0, 0, 0⟩]⟩], 0⟩
theorem lb5 (n : Nat) (hn : n ≤ 40) : bndB (lim5 n) = decide (0 ≤ n ∧ n ≤ 4) := (by decide +kernel : ∀ n, n < 41 → bndB (lim5 n) = decide (0 ≤ n ∧ n ≤ 4)) n (by omega)
def lim6 (n : Nat) : Pr8 := ⟨[], [(List.replicate n (0, 0), 0, 0)], [], [], [⟨0, [(0, 0)], [⟨[⟨1, 0, 0, 0, 7, []⟩], 3, 0, 0, 0⟩]⟩], 0⟩
theorem lb6 (n : Nat) (hn : n ≤ 40) : bndB (lim6 n) = decide (0 ≤ n ∧ n ≤ 4) := (by decide +kernel : ∀ n, n < 41 → bndB (lim6 n) = decide (0 ≤ n ∧ n ≤ 4)) n (by omega)
def lim7 (n : Nat) : Pr8 := ⟨[], [([], 0, 0)], [], [], [⟨0, [(0, 0)], List.replicate n ⟨[], 0, 0, 0, 0⟩⟩], 0⟩
theorem lb7 (n : Nat) (hn : n ≤ 40) : bndB (lim7 n) = decide (1 ≤ n ∧ n ≤ 12) := (by decide +kernel : ∀ n, n < 41 → bndB (lim7 n) = decide (1 ≤ n ∧ n ≤ 12)) n (by omega)
def lim8 (n : Nat) : Pr8 := ⟨[], [([], 0, 0)], [], [], [⟨0, [(0, 0)], [⟨List.replicate n ⟨0, 0, 0, 0, 0, []⟩, 3, 0, 0, 0⟩]⟩], 0⟩
theorem lb8 (n : Nat) (hn : n ≤ 40) : bndB (lim8 n) = decide (0 ≤ n ∧ n ≤ 30) := (by decide +kernel : ∀ n, n < 41 → bndB (lim8 n) = decide (0 ≤ n ∧ n ≤ 30)) n (by omega)
def lim9 (n : Nat) : Pr8 := ⟨[], [([], 0, 0)], [], [], [⟨0, List.replicate n (0, 0), [⟨[⟨1, 0, 0, 0, 7, []⟩], 3, 0, 0, 0⟩]⟩], 0⟩
theorem lb9 (n : Nat) (hn : n ≤ 40) : bndB (lim9 n) = decide (0 ≤ n ∧ n ≤ 16) := (by decide +kernel : ∀ n, n < 41 → bndB (lim9 n) = decide (0 ≤ n ∧ n ≤ 16)) n (by omega)
set_option maxRecDepth 20000 in
set_option maxHeartbeats 2000000 in
theorem lim_0 (n : Nat) (hn : n ≤ 40) (w : World) (hg : Glob w) : Calls Tryd.prog 3 #[.int .i64 0, .int .i64 (n : Int)] w fun e w' => e = .returned (.bool true) ∧ Keeps [] w w' := by
  have HG := hid hg
  have HB := hid (begun_any w hg)
  have HO := hid fun (w' : World) => one_any w'
  have mk := fun w' => mk_recs n (by omega) w'
  have h1 : ¬ (n : Int) < 0 := by omega
  have h2 : ¬ (40 : Int) < (n : Int) := by omega
  have HLB := hid (lb0 n hn)
  obtain ⟨mc, hmc⟩ : ∃ mc, mc = madeCells z_recs (n * z_recs.size) := ⟨_, rfl⟩
  rw [← hmc] at mk
  have HMC := hid hmc
  clear hg hmc
  go_enter Tryd.func3, Tryd.ntmps3
  go_wp2_with fail
  refine HB.out.mono ?_
  rintro e w1 ⟨rfl, k1⟩
  have K1 := hid k1
  clear HB k1
  go_wp2_with fail
  refine (HO.out _).mono ?_
  rintro e w2 ⟨rfl, o2, k2⟩
  obtain ⟨q, hq⟩ : ∃ q, q = w1.heap.size := ⟨_, rfl⟩
  rw [← hq] at o2 ⊢
  have HQ := hid hq
  have p4 := hcell o2.h5 4
  have pc := hcell o2.h5 0
  have zc := hfrozen o2.h5 0
  have hlt := heap_lt o2.h5
  have hlt2 := heap_lt o2.h5
  have O2 := hid o2
  have K2 := hid (K1.out.quiet k2)
  clear o2 k2 hq
  go_upto_region 33 with fail
  have hw3 : (w2.setCell ⟨q + 5, 0, none⟩ (.slice (some ⟨w2.heap.size + 1, 0, none⟩) n n)).heap.size = w2.heap.size := by simp [World.setCell]
  obtain ⟨w3, e3⟩ : ∃ w3, w3 = w2.setCell ⟨q + 5, 0, none⟩ (.slice (some ⟨w2.heap.size + 1, 0, none⟩) n n) := ⟨_, rfl⟩
  have k3 : Keeps [q + 5] w2 w3 := by rw [e3]; exact Keeps.setCell _ _ _ _ (List.mem_singleton.2 rfl)
  have hf : ∀ j, j ≠ 5 → w3.heap[q + j]? = w2.heap[q + j]? := fun j hj => by rw [e3]; exact heap_setCell_other _ _ _ _ (by show q + j ≠ q + 5; omega)
  have hb := heap_setCell_same w2 (q + 5) 0 _ _ (.slice (some ⟨w2.heap.size + 1, 0, none⟩) n n) O2.out.h5
  rw [← e3] at hb
  rw [← e3] at hw3 ⊢
  have kz := (Keeps.alloc [] w3 (.cells #[.int .i64 6, .int .i64 10, .int .i64 4, .int .i64 12, .int .i64 12, .int .i64 4, .int .i64 4, .int .i64 12, .int .i64 30, .int .i64 16] 3)).quiet (Keeps.alloc [] _ (.cells mc 26))
  have hm0 := heap_at (w := w3.alloc (.cells #[.int .i64 6, .int .i64 10, .int .i64 4, .int .i64 12, .int .i64 12, .int .i64 4, .int .i64 4, .int .i64 12, .int .i64 30, .int .i64 16] 3)) (o := .cells mc 26) (n := w2.heap.size + 1) (by rw [World.size_alloc, hw3])
  have HK : Box (Keeps [] w ((w3.alloc (.cells #[.int .i64 6, .int .i64 10, .int .i64 4, .int .i64 12, .int .i64 12, .int .i64 4, .int .i64 4, .int .i64 12, .int .i64 30, .int .i64 16] 3)).alloc (.cells mc 26))) := hid ((K2.out.trans k3 (fun x hx hl => by
    have := HQ.out
    have := K1.out.size
    rw [List.mem_singleton] at hx
    omega)).quiet kz)
  generalize (w3.alloc (.cells #[.int .i64 6, .int .i64 10, .int .i64 4, .int .i64 12, .int .i64 12, .int .i64 4, .int .i64 4, .int .i64 12, .int .i64 30, .int .i64 16] 3)).alloc (.cells mc 26) = wz at *
  have HP : Box (PrC wz (q + 5) 0 (lim0 n)) := hid (by
    have hm := hm0
    rw [HMC.out] at hm
    generalize w2.heap.size + 1 = m at *
    have g0 := keep_heap ((hf 0 (by decide)).trans O2.out.h0) kz
    have g1 := keep_heap ((hf 1 (by decide)).trans O2.out.h1) kz
    have g2 := keep_heap ((hf 2 (by decide)).trans O2.out.h2) kz
    have g3 := keep_heap ((hf 3 (by decide)).trans O2.out.h3) kz
    have g4 := keep_heap ((hf 4 (by decide)).trans O2.out.h4) kz
    have g5 := keep_heap hb kz
    have i : InC wz (q + 2) 0 ⟨1, 0, 0, 0, 7, []⟩ := ⟨IntC.of (hcell g2 0) (by simp), IntC.of (hcell g2 1) (by simp), IntC.of (hcell g2 2) (by simp), IntC.of (hcell g2 3) (by simp), IntC.of (hcell g2 4) (by simp), SlC.none (hcell g2 5)⟩
    have b : BlC wz (q + 3) 0 ⟨[⟨1, 0, 0, 0, 7, []⟩], 3, 0, 0, 0⟩ := ⟨SlC.one (hcell g3 0) i, IntC.of (hcell g3 1) (by simp), IntC.of (hcell g3 2) (by simp), IntC.of (hcell g3 3) (by simp), IntC.of (hcell g3 4) (by simp)⟩
    have t : TyC wz (q + 1) 0 (0, 0) := ⟨IntC.of (hcell g1 0) (by simp), IntC.of (hcell g1 1) (by simp)⟩
    have f : FuC wz (q + 4) 0 ⟨0, [(0, 0)], [⟨[⟨1, 0, 0, 0, 7, []⟩], 3, 0, 0, 0⟩]⟩ := ⟨IntC.of (z := 0) (hcell g4 0) (by simp), SlC.one (hcell g4 1) t, SlC.one (hcell g4 2) b⟩
    have s : SgC wz q 0 ([], 0, 0) := ⟨SlC.none (hcell g0 0), IntC.of (hcell g0 1) (by simp), IntC.of (hcell g0 2) (by simp)⟩
    exact ⟨slc_rep (hcell g5 0) (rc_z hm) (by omega), SlC.one (hcell g5 1) s, SlC.none (hcell g5 2), SlC.none (hcell g5 3), SlC.one (hcell g5 4) f, IntC.of (hcell g5 5) (by simp [lim0])⟩)
  clear hw3 e3 k3 hf hb kz hm0 p4 pc zc hlt hlt2 mk h2 HMC
  by_cases hok : 0 ≤ n ∧ n ≤ 6
  · have hm : ¬ (6 : Int) < (n : Int) := by omega
    have hl : ¬ (n : Int) < 0 := by omega
    rw [decide_eq_true hok] at HLB
    go_wp2_with fail
    refine (bounds_any HP.out).mono ?_
    intro e w6 h6
    rw [HLB.out] at h6
    obtain ⟨rfl, k6⟩ := h6.yes
    have K6 := hid (HK.out.quiet k6)
    clear k6 h6
    go_wp2_with fail
    refine (nowhere_any _).mono ?_
    rintro e w7 ⟨rfl, k7⟩
    have K7 := hid (K6.out.quiet k7)
    clear k7
    go_wp2_with fail
    refine (says_none _ _ _ _).mono ?_
    rintro e w8 ⟨rfl, k8⟩
    have K8 := hid (K7.out.quiet k8)
    clear k8
    go_wp2_with fail
    go_ret
    exact ⟨rfl, K8.out⟩
  · have hor : (6 : Int) < (n : Int) ∨ (¬ (6 : Int) < (n : Int) ∧ (n : Int) < 0) := by omega
    rw [decide_eq_false hok] at HLB
    clear hok
    rcases hor with hm | ⟨hm, hl⟩
    all_goals (
      go_wp2_with fail
      refine (bounds_any HP.out).mono ?_
      intro e w6 h6
      rw [HLB.out] at h6
      obtain ⟨p, rfl, r6, k6⟩ := h6.no
      have K6 := hid (HK.out.quiet k6)
      have R6 := hid r6
      clear k6 h6 r6
      go_wp2_with fail
      refine (nowhere_any _).mono ?_
      rintro e w7 ⟨rfl, k7⟩
      have K7 := hid (K6.out.quiet k7)
      have R7 := hid (R6.out.quiet k7)
      clear k7
      go_wp2_with fail
      refine (says_now (HG.out.quiet K7.out) R7.out (by decide)).mono ?_
      rintro e w8 ⟨rfl, k8⟩
      have K8 := hid (K7.out.quiet k8)
      clear k8
      go_wp2_with fail
      go_ret
      exact ⟨rfl, K8.out⟩)
set_option maxRecDepth 20000 in
set_option maxHeartbeats 2000000 in
theorem lim_1 (n : Nat) (hn : n ≤ 40) (w : World) (hg : Glob w) : Calls Tryd.prog 3 #[.int .i64 1, .int .i64 (n : Int)] w fun e w' => e = .returned (.bool true) ∧ Keeps [] w w' := by
  have HG := hid hg
  have HB := hid (begun_any w hg)
  have HO := hid fun (w' : World) => one_any w'
  have mk := fun w' => mk_sigs n (by omega) w'
  have h1 : ¬ (n : Int) < 0 := by omega
  have h2 : ¬ (40 : Int) < (n : Int) := by omega
  have HLB := hid (lb1 n hn)
  obtain ⟨mc, hmc⟩ : ∃ mc, mc = madeCells z_sigs (n * z_sigs.size) := ⟨_, rfl⟩
  rw [← hmc] at mk
  have HMC := hid hmc
  clear hg hmc
  go_enter Tryd.func3, Tryd.ntmps3
  go_wp2_with fail
  refine HB.out.mono ?_
  rintro e w1 ⟨rfl, k1⟩
  have K1 := hid k1
  clear HB k1
  go_wp2_with fail
  refine (HO.out _).mono ?_
  rintro e w2 ⟨rfl, o2, k2⟩
  obtain ⟨q, hq⟩ : ∃ q, q = w1.heap.size := ⟨_, rfl⟩
  rw [← hq] at o2 ⊢
  have HQ := hid hq
  have p4 := hcell o2.h5 4
  have pc := hcell o2.h5 1
  have zc := hfrozen o2.h5 1
  have hlt := heap_lt o2.h5
  have hlt2 := heap_lt o2.h5
  have O2 := hid o2
  have K2 := hid (K1.out.quiet k2)
  clear o2 k2 hq
  go_upto_region 33 with fail
  have hw3 : (w2.setCell ⟨q + 5, 1, none⟩ (.slice (some ⟨w2.heap.size + 1, 0, none⟩) n n)).heap.size = w2.heap.size := by simp [World.setCell]
  obtain ⟨w3, e3⟩ : ∃ w3, w3 = w2.setCell ⟨q + 5, 1, none⟩ (.slice (some ⟨w2.heap.size + 1, 0, none⟩) n n) := ⟨_, rfl⟩
  have k3 : Keeps [q + 5] w2 w3 := by rw [e3]; exact Keeps.setCell _ _ _ _ (List.mem_singleton.2 rfl)
  have hf : ∀ j, j ≠ 5 → w3.heap[q + j]? = w2.heap[q + j]? := fun j hj => by rw [e3]; exact heap_setCell_other _ _ _ _ (by show q + j ≠ q + 5; omega)
  have hb := heap_setCell_same w2 (q + 5) 1 _ _ (.slice (some ⟨w2.heap.size + 1, 0, none⟩) n n) O2.out.h5
  rw [← e3] at hb
  rw [← e3] at hw3 ⊢
  have kz := (Keeps.alloc [] w3 (.cells #[.int .i64 6, .int .i64 10, .int .i64 4, .int .i64 12, .int .i64 12, .int .i64 4, .int .i64 4, .int .i64 12, .int .i64 30, .int .i64 16] 3)).quiet (Keeps.alloc [] _ (.cells mc 41))
  have hm0 := heap_at (w := w3.alloc (.cells #[.int .i64 6, .int .i64 10, .int .i64 4, .int .i64 12, .int .i64 12, .int .i64 4, .int .i64 4, .int .i64 12, .int .i64 30, .int .i64 16] 3)) (o := .cells mc 41) (n := w2.heap.size + 1) (by rw [World.size_alloc, hw3])
  have HK : Box (Keeps [] w ((w3.alloc (.cells #[.int .i64 6, .int .i64 10, .int .i64 4, .int .i64 12, .int .i64 12, .int .i64 4, .int .i64 4, .int .i64 12, .int .i64 30, .int .i64 16] 3)).alloc (.cells mc 41))) := hid ((K2.out.trans k3 (fun x hx hl => by
    have := HQ.out
    have := K1.out.size
    rw [List.mem_singleton] at hx
    omega)).quiet kz)
  generalize (w3.alloc (.cells #[.int .i64 6, .int .i64 10, .int .i64 4, .int .i64 12, .int .i64 12, .int .i64 4, .int .i64 4, .int .i64 12, .int .i64 30, .int .i64 16] 3)).alloc (.cells mc 41) = wz at *
  have HP : Box (PrC wz (q + 5) 0 (lim1 n)) := hid (by
    have hm := hm0
    rw [HMC.out] at hm
    generalize w2.heap.size + 1 = m at *
    have g0 := keep_heap ((hf 0 (by decide)).trans O2.out.h0) kz
    have g1 := keep_heap ((hf 1 (by decide)).trans O2.out.h1) kz
    have g2 := keep_heap ((hf 2 (by decide)).trans O2.out.h2) kz
    have g3 := keep_heap ((hf 3 (by decide)).trans O2.out.h3) kz
    have g4 := keep_heap ((hf 4 (by decide)).trans O2.out.h4) kz
    have g5 := keep_heap hb kz
    have i : InC wz (q + 2) 0 ⟨1, 0, 0, 0, 7, []⟩ := ⟨IntC.of (hcell g2 0) (by simp), IntC.of (hcell g2 1) (by simp), IntC.of (hcell g2 2) (by simp), IntC.of (hcell g2 3) (by simp), IntC.of (hcell g2 4) (by simp), SlC.none (hcell g2 5)⟩
    have b : BlC wz (q + 3) 0 ⟨[⟨1, 0, 0, 0, 7, []⟩], 3, 0, 0, 0⟩ := ⟨SlC.one (hcell g3 0) i, IntC.of (hcell g3 1) (by simp), IntC.of (hcell g3 2) (by simp), IntC.of (hcell g3 3) (by simp), IntC.of (hcell g3 4) (by simp)⟩
    have t : TyC wz (q + 1) 0 (0, 0) := ⟨IntC.of (hcell g1 0) (by simp), IntC.of (hcell g1 1) (by simp)⟩
    have f : FuC wz (q + 4) 0 ⟨0, [(0, 0)], [⟨[⟨1, 0, 0, 0, 7, []⟩], 3, 0, 0, 0⟩]⟩ := ⟨IntC.of (z := 0) (hcell g4 0) (by simp), SlC.one (hcell g4 1) t, SlC.one (hcell g4 2) b⟩
    exact ⟨SlC.none (hcell g5 0), slc_rep (hcell g5 1) (sg_z hm) (by omega), SlC.none (hcell g5 2), SlC.none (hcell g5 3), SlC.one (hcell g5 4) f, IntC.of (hcell g5 5) (by simp [lim1])⟩)
  clear hw3 e3 k3 hf hb kz hm0 p4 pc zc hlt hlt2 mk h2 HMC
  by_cases hok : 0 ≤ n ∧ n ≤ 10
  · have hm : ¬ (10 : Int) < (n : Int) := by omega
    have hl : ¬ (n : Int) < 0 := by omega
    rw [decide_eq_true hok] at HLB
    go_wp2_with fail
    refine (bounds_any HP.out).mono ?_
    intro e w6 h6
    rw [HLB.out] at h6
    obtain ⟨rfl, k6⟩ := h6.yes
    have K6 := hid (HK.out.quiet k6)
    clear k6 h6
    go_wp2_with fail
    refine (nowhere_any _).mono ?_
    rintro e w7 ⟨rfl, k7⟩
    have K7 := hid (K6.out.quiet k7)
    clear k7
    go_wp2_with fail
    refine (says_none _ _ _ _).mono ?_
    rintro e w8 ⟨rfl, k8⟩
    have K8 := hid (K7.out.quiet k8)
    clear k8
    go_wp2_with fail
    go_ret
    exact ⟨rfl, K8.out⟩
  · have hor : (10 : Int) < (n : Int) ∨ (¬ (10 : Int) < (n : Int) ∧ (n : Int) < 0) := by omega
    rw [decide_eq_false hok] at HLB
    clear hok
    rcases hor with hm | ⟨hm, hl⟩
    all_goals (
      go_wp2_with fail
      refine (bounds_any HP.out).mono ?_
      intro e w6 h6
      rw [HLB.out] at h6
      obtain ⟨p, rfl, r6, k6⟩ := h6.no
      have K6 := hid (HK.out.quiet k6)
      have R6 := hid r6
      clear k6 h6 r6
      go_wp2_with fail
      refine (nowhere_any _).mono ?_
      rintro e w7 ⟨rfl, k7⟩
      have K7 := hid (K6.out.quiet k7)
      have R7 := hid (R6.out.quiet k7)
      clear k7
      go_wp2_with fail
      refine (says_now (HG.out.quiet K7.out) R7.out (by decide)).mono ?_
      rintro e w8 ⟨rfl, k8⟩
      have K8 := hid (K7.out.quiet k8)
      clear k8
      go_wp2_with fail
      go_ret
      exact ⟨rfl, K8.out⟩)
set_option maxRecDepth 20000 in
set_option maxHeartbeats 2000000 in
theorem lim_2 (n : Nat) (hn : n ≤ 40) (w : World) (hg : Glob w) : Calls Tryd.prog 3 #[.int .i64 2, .int .i64 (n : Int)] w fun e w' => e = .returned (.bool true) ∧ Keeps [] w w' := by
  have HG := hid hg
  have HB := hid (begun_any w hg)
  have HO := hid fun (w' : World) => one_any w'
  have mk := fun w' => mk_ifs n (by omega) w'
  have h1 : ¬ (n : Int) < 0 := by omega
  have h2 : ¬ (40 : Int) < (n : Int) := by omega
  have HLB := hid (lb2 n hn)
  obtain ⟨mc, hmc⟩ : ∃ mc, mc = madeCells z_ifs (n * z_ifs.size) := ⟨_, rfl⟩
  rw [← hmc] at mk
  have HMC := hid hmc
  clear hg hmc
  go_enter Tryd.func3, Tryd.ntmps3
  go_wp2_with fail
  refine HB.out.mono ?_
  rintro e w1 ⟨rfl, k1⟩
  have K1 := hid k1
  clear HB k1
  go_wp2_with fail
  refine (HO.out _).mono ?_
  rintro e w2 ⟨rfl, o2, k2⟩
  obtain ⟨q, hq⟩ : ∃ q, q = w1.heap.size := ⟨_, rfl⟩
  rw [← hq] at o2 ⊢
  have HQ := hid hq
  have p4 := hcell o2.h5 4
  have pc := hcell o2.h5 2
  have zc := hfrozen o2.h5 2
  have hlt := heap_lt o2.h5
  have hlt2 := heap_lt o2.h5
  have O2 := hid o2
  have K2 := hid (K1.out.quiet k2)
  clear o2 k2 hq
  go_upto_region 33 with fail
  have hw3 : (w2.setCell ⟨q + 5, 2, none⟩ (.slice (some ⟨w2.heap.size + 1, 0, none⟩) n n)).heap.size = w2.heap.size := by simp [World.setCell]
  obtain ⟨w3, e3⟩ : ∃ w3, w3 = w2.setCell ⟨q + 5, 2, none⟩ (.slice (some ⟨w2.heap.size + 1, 0, none⟩) n n) := ⟨_, rfl⟩
  have k3 : Keeps [q + 5] w2 w3 := by rw [e3]; exact Keeps.setCell _ _ _ _ (List.mem_singleton.2 rfl)
  have hf : ∀ j, j ≠ 5 → w3.heap[q + j]? = w2.heap[q + j]? := fun j hj => by rw [e3]; exact heap_setCell_other _ _ _ _ (by show q + j ≠ q + 5; omega)
  have hb := heap_setCell_same w2 (q + 5) 2 _ _ (.slice (some ⟨w2.heap.size + 1, 0, none⟩) n n) O2.out.h5
  rw [← e3] at hb
  rw [← e3] at hw3 ⊢
  have kz := (Keeps.alloc [] w3 (.cells #[.int .i64 6, .int .i64 10, .int .i64 4, .int .i64 12, .int .i64 12, .int .i64 4, .int .i64 4, .int .i64 12, .int .i64 30, .int .i64 16] 3)).quiet (Keeps.alloc [] _ (.cells mc 61))
  have hm0 := heap_at (w := w3.alloc (.cells #[.int .i64 6, .int .i64 10, .int .i64 4, .int .i64 12, .int .i64 12, .int .i64 4, .int .i64 4, .int .i64 12, .int .i64 30, .int .i64 16] 3)) (o := .cells mc 61) (n := w2.heap.size + 1) (by rw [World.size_alloc, hw3])
  have HK : Box (Keeps [] w ((w3.alloc (.cells #[.int .i64 6, .int .i64 10, .int .i64 4, .int .i64 12, .int .i64 12, .int .i64 4, .int .i64 4, .int .i64 12, .int .i64 30, .int .i64 16] 3)).alloc (.cells mc 61))) := hid ((K2.out.trans k3 (fun x hx hl => by
    have := HQ.out
    have := K1.out.size
    rw [List.mem_singleton] at hx
    omega)).quiet kz)
  generalize (w3.alloc (.cells #[.int .i64 6, .int .i64 10, .int .i64 4, .int .i64 12, .int .i64 12, .int .i64 4, .int .i64 4, .int .i64 12, .int .i64 30, .int .i64 16] 3)).alloc (.cells mc 61) = wz at *
  have HP : Box (PrC wz (q + 5) 0 (lim2 n)) := hid (by
    have hm := hm0
    rw [HMC.out] at hm
    generalize w2.heap.size + 1 = m at *
    have g0 := keep_heap ((hf 0 (by decide)).trans O2.out.h0) kz
    have g1 := keep_heap ((hf 1 (by decide)).trans O2.out.h1) kz
    have g2 := keep_heap ((hf 2 (by decide)).trans O2.out.h2) kz
    have g3 := keep_heap ((hf 3 (by decide)).trans O2.out.h3) kz
    have g4 := keep_heap ((hf 4 (by decide)).trans O2.out.h4) kz
    have g5 := keep_heap hb kz
    have i : InC wz (q + 2) 0 ⟨1, 0, 0, 0, 7, []⟩ := ⟨IntC.of (hcell g2 0) (by simp), IntC.of (hcell g2 1) (by simp), IntC.of (hcell g2 2) (by simp), IntC.of (hcell g2 3) (by simp), IntC.of (hcell g2 4) (by simp), SlC.none (hcell g2 5)⟩
    have b : BlC wz (q + 3) 0 ⟨[⟨1, 0, 0, 0, 7, []⟩], 3, 0, 0, 0⟩ := ⟨SlC.one (hcell g3 0) i, IntC.of (hcell g3 1) (by simp), IntC.of (hcell g3 2) (by simp), IntC.of (hcell g3 3) (by simp), IntC.of (hcell g3 4) (by simp)⟩
    have t : TyC wz (q + 1) 0 (0, 0) := ⟨IntC.of (hcell g1 0) (by simp), IntC.of (hcell g1 1) (by simp)⟩
    have f : FuC wz (q + 4) 0 ⟨0, [(0, 0)], [⟨[⟨1, 0, 0, 0, 7, []⟩], 3, 0, 0, 0⟩]⟩ := ⟨IntC.of (z := 0) (hcell g4 0) (by simp), SlC.one (hcell g4 1) t, SlC.one (hcell g4 2) b⟩
    have s : SgC wz q 0 ([], 0, 0) := ⟨SlC.none (hcell g0 0), IntC.of (hcell g0 1) (by simp), IntC.of (hcell g0 2) (by simp)⟩
    exact ⟨SlC.none (hcell g5 0), SlC.one (hcell g5 1) s, slc_rep (hcell g5 2) (if_z hm) (by omega), SlC.none (hcell g5 3), SlC.one (hcell g5 4) f, IntC.of (hcell g5 5) (by simp [lim2])⟩)
  clear hw3 e3 k3 hf hb kz hm0 p4 pc zc hlt hlt2 mk h2 HMC
  by_cases hok : 0 ≤ n ∧ n ≤ 4
  · have hm : ¬ (4 : Int) < (n : Int) := by omega
    have hl : ¬ (n : Int) < 0 := by omega
    rw [decide_eq_true hok] at HLB
    go_wp2_with fail
    refine (bounds_any HP.out).mono ?_
    intro e w6 h6
    rw [HLB.out] at h6
    obtain ⟨rfl, k6⟩ := h6.yes
    have K6 := hid (HK.out.quiet k6)
    clear k6 h6
    go_wp2_with fail
    refine (nowhere_any _).mono ?_
    rintro e w7 ⟨rfl, k7⟩
    have K7 := hid (K6.out.quiet k7)
    clear k7
    go_wp2_with fail
    refine (says_none _ _ _ _).mono ?_
    rintro e w8 ⟨rfl, k8⟩
    have K8 := hid (K7.out.quiet k8)
    clear k8
    go_wp2_with fail
    go_ret
    exact ⟨rfl, K8.out⟩
  · have hor : (4 : Int) < (n : Int) ∨ (¬ (4 : Int) < (n : Int) ∧ (n : Int) < 0) := by omega
    rw [decide_eq_false hok] at HLB
    clear hok
    rcases hor with hm | ⟨hm, hl⟩
    all_goals (
      go_wp2_with fail
      refine (bounds_any HP.out).mono ?_
      intro e w6 h6
      rw [HLB.out] at h6
      obtain ⟨p, rfl, r6, k6⟩ := h6.no
      have K6 := hid (HK.out.quiet k6)
      have R6 := hid r6
      clear k6 h6 r6
      go_wp2_with fail
      refine (nowhere_any _).mono ?_
      rintro e w7 ⟨rfl, k7⟩
      have K7 := hid (K6.out.quiet k7)
      have R7 := hid (R6.out.quiet k7)
      clear k7
      go_wp2_with fail
      refine (says_now (HG.out.quiet K7.out) R7.out (by decide)).mono ?_
      rintro e w8 ⟨rfl, k8⟩
      have K8 := hid (K7.out.quiet k8)
      clear k8
      go_wp2_with fail
      go_ret
      exact ⟨rfl, K8.out⟩)
set_option maxRecDepth 20000 in
set_option maxHeartbeats 2000000 in
theorem lim_3 (n : Nat) (hn : n ≤ 40) (w : World) (hg : Glob w) : Calls Tryd.prog 3 #[.int .i64 3, .int .i64 (n : Int)] w fun e w' => e = .returned (.bool true) ∧ Keeps [] w w' := by
  have HG := hid hg
  have HB := hid (begun_any w hg)
  have HO := hid fun (w' : World) => one_any w'
  have mk := fun w' => mk_ims n (by omega) w'
  have h1 : ¬ (n : Int) < 0 := by omega
  have h2 : ¬ (40 : Int) < (n : Int) := by omega
  have HLB := hid (lb3 n hn)
  obtain ⟨mc, hmc⟩ : ∃ mc, mc = madeCells z_ims (n * z_ims.size) := ⟨_, rfl⟩
  rw [← hmc] at mk
  have HMC := hid hmc
  clear hg hmc
  go_enter Tryd.func3, Tryd.ntmps3
  go_wp2_with fail
  refine HB.out.mono ?_
  rintro e w1 ⟨rfl, k1⟩
  have K1 := hid k1
  clear HB k1
  go_wp2_with fail
  refine (HO.out _).mono ?_
  rintro e w2 ⟨rfl, o2, k2⟩
  obtain ⟨q, hq⟩ : ∃ q, q = w1.heap.size := ⟨_, rfl⟩
  rw [← hq] at o2 ⊢
  have HQ := hid hq
  have p4 := hcell o2.h5 4
  have pc := hcell o2.h5 3
  have zc := hfrozen o2.h5 3
  have hlt := heap_lt o2.h5
  have hlt2 := heap_lt o2.h5
  have O2 := hid o2
  have K2 := hid (K1.out.quiet k2)
  clear o2 k2 hq
  go_upto_region 33 with fail
  have hw3 : (w2.setCell ⟨q + 5, 3, none⟩ (.slice (some ⟨w2.heap.size + 1, 0, none⟩) n n)).heap.size = w2.heap.size := by simp [World.setCell]
  obtain ⟨w3, e3⟩ : ∃ w3, w3 = w2.setCell ⟨q + 5, 3, none⟩ (.slice (some ⟨w2.heap.size + 1, 0, none⟩) n n) := ⟨_, rfl⟩
  have k3 : Keeps [q + 5] w2 w3 := by rw [e3]; exact Keeps.setCell _ _ _ _ (List.mem_singleton.2 rfl)
  have hf : ∀ j, j ≠ 5 → w3.heap[q + j]? = w2.heap[q + j]? := fun j hj => by rw [e3]; exact heap_setCell_other _ _ _ _ (by show q + j ≠ q + 5; omega)
  have hb := heap_setCell_same w2 (q + 5) 3 _ _ (.slice (some ⟨w2.heap.size + 1, 0, none⟩) n n) O2.out.h5
  rw [← e3] at hb
  rw [← e3] at hw3 ⊢
  have kz := (Keeps.alloc [] w3 (.cells #[.int .i64 6, .int .i64 10, .int .i64 4, .int .i64 12, .int .i64 12, .int .i64 4, .int .i64 4, .int .i64 12, .int .i64 30, .int .i64 16] 3)).quiet (Keeps.alloc [] _ (.cells mc 63))
  have hm0 := heap_at (w := w3.alloc (.cells #[.int .i64 6, .int .i64 10, .int .i64 4, .int .i64 12, .int .i64 12, .int .i64 4, .int .i64 4, .int .i64 12, .int .i64 30, .int .i64 16] 3)) (o := .cells mc 63) (n := w2.heap.size + 1) (by rw [World.size_alloc, hw3])
  have HK : Box (Keeps [] w ((w3.alloc (.cells #[.int .i64 6, .int .i64 10, .int .i64 4, .int .i64 12, .int .i64 12, .int .i64 4, .int .i64 4, .int .i64 12, .int .i64 30, .int .i64 16] 3)).alloc (.cells mc 63))) := hid ((K2.out.trans k3 (fun x hx hl => by
    have := HQ.out
    have := K1.out.size
    rw [List.mem_singleton] at hx
    omega)).quiet kz)
  generalize (w3.alloc (.cells #[.int .i64 6, .int .i64 10, .int .i64 4, .int .i64 12, .int .i64 12, .int .i64 4, .int .i64 4, .int .i64 12, .int .i64 30, .int .i64 16] 3)).alloc (.cells mc 63) = wz at *
  have HP : Box (PrC wz (q + 5) 0 (lim3 n)) := hid (by
    have hm := hm0
    rw [HMC.out] at hm
    generalize w2.heap.size + 1 = m at *
    have g0 := keep_heap ((hf 0 (by decide)).trans O2.out.h0) kz
    have g1 := keep_heap ((hf 1 (by decide)).trans O2.out.h1) kz
    have g2 := keep_heap ((hf 2 (by decide)).trans O2.out.h2) kz
    have g3 := keep_heap ((hf 3 (by decide)).trans O2.out.h3) kz
    have g4 := keep_heap ((hf 4 (by decide)).trans O2.out.h4) kz
    have g5 := keep_heap hb kz
    have i : InC wz (q + 2) 0 ⟨1, 0, 0, 0, 7, []⟩ := ⟨IntC.of (hcell g2 0) (by simp), IntC.of (hcell g2 1) (by simp), IntC.of (hcell g2 2) (by simp), IntC.of (hcell g2 3) (by simp), IntC.of (hcell g2 4) (by simp), SlC.none (hcell g2 5)⟩
    have b : BlC wz (q + 3) 0 ⟨[⟨1, 0, 0, 0, 7, []⟩], 3, 0, 0, 0⟩ := ⟨SlC.one (hcell g3 0) i, IntC.of (hcell g3 1) (by simp), IntC.of (hcell g3 2) (by simp), IntC.of (hcell g3 3) (by simp), IntC.of (hcell g3 4) (by simp)⟩
    have t : TyC wz (q + 1) 0 (0, 0) := ⟨IntC.of (hcell g1 0) (by simp), IntC.of (hcell g1 1) (by simp)⟩
    have f : FuC wz (q + 4) 0 ⟨0, [(0, 0)], [⟨[⟨1, 0, 0, 0, 7, []⟩], 3, 0, 0, 0⟩]⟩ := ⟨IntC.of (z := 0) (hcell g4 0) (by simp), SlC.one (hcell g4 1) t, SlC.one (hcell g4 2) b⟩
    have s : SgC wz q 0 ([], 0, 0) := ⟨SlC.none (hcell g0 0), IntC.of (hcell g0 1) (by simp), IntC.of (hcell g0 2) (by simp)⟩
    exact ⟨SlC.none (hcell g5 0), SlC.one (hcell g5 1) s, SlC.none (hcell g5 2), slc_rep (hcell g5 3) (im_z hm) (by omega), SlC.one (hcell g5 4) f, IntC.of (hcell g5 5) (by simp [lim3])⟩)
  clear hw3 e3 k3 hf hb kz hm0 p4 pc zc hlt hlt2 mk h2 HMC
  by_cases hok : 0 ≤ n ∧ n ≤ 12
  · have hm : ¬ (12 : Int) < (n : Int) := by omega
    have hl : ¬ (n : Int) < 0 := by omega
    rw [decide_eq_true hok] at HLB
    go_wp2_with fail
    refine (bounds_any HP.out).mono ?_
    intro e w6 h6
    rw [HLB.out] at h6
    obtain ⟨rfl, k6⟩ := h6.yes
    have K6 := hid (HK.out.quiet k6)
    clear k6 h6
    go_wp2_with fail
    refine (nowhere_any _).mono ?_
    rintro e w7 ⟨rfl, k7⟩
    have K7 := hid (K6.out.quiet k7)
    clear k7
    go_wp2_with fail
    refine (says_none _ _ _ _).mono ?_
    rintro e w8 ⟨rfl, k8⟩
    have K8 := hid (K7.out.quiet k8)
    clear k8
    go_wp2_with fail
    go_ret
    exact ⟨rfl, K8.out⟩
  · have hor : (12 : Int) < (n : Int) ∨ (¬ (12 : Int) < (n : Int) ∧ (n : Int) < 0) := by omega
    rw [decide_eq_false hok] at HLB
    clear hok
    rcases hor with hm | ⟨hm, hl⟩
    all_goals (
      go_wp2_with fail
      refine (bounds_any HP.out).mono ?_
      intro e w6 h6
      rw [HLB.out] at h6
      obtain ⟨p, rfl, r6, k6⟩ := h6.no
      have K6 := hid (HK.out.quiet k6)
      have R6 := hid r6
      clear k6 h6 r6
      go_wp2_with fail
      refine (nowhere_any _).mono ?_
      rintro e w7 ⟨rfl, k7⟩
      have K7 := hid (K6.out.quiet k7)
      have R7 := hid (R6.out.quiet k7)
      clear k7
      go_wp2_with fail
      refine (says_now (HG.out.quiet K7.out) R7.out (by decide)).mono ?_
      rintro e w8 ⟨rfl, k8⟩
      have K8 := hid (K7.out.quiet k8)
      clear k8
      go_wp2_with fail
      go_ret
      exact ⟨rfl, K8.out⟩)
set_option maxRecDepth 20000 in
set_option maxHeartbeats 2000000 in
theorem lim_7 (n : Nat) (hn : n ≤ 40) (w : World) (hg : Glob w) : Calls Tryd.prog 3 #[.int .i64 7, .int .i64 (n : Int)] w fun e w' => e = .returned (.bool true) ∧ Keeps [] w w' := by
  have HG := hid hg
  have HB := hid (begun_any w hg)
  have HO := hid fun (w' : World) => one_any w'
  have mk := fun w' => mk_bls n (by omega) w'
  have h1 : ¬ (n : Int) < 0 := by omega
  have h2 : ¬ (40 : Int) < (n : Int) := by omega
  have HLB := hid (lb7 n hn)
  obtain ⟨mc, hmc⟩ : ∃ mc, mc = madeCells z_bls (n * z_bls.size) := ⟨_, rfl⟩
  rw [← hmc] at mk
  have HMC := hid hmc
  clear hg hmc
  go_enter Tryd.func3, Tryd.ntmps3
  go_wp2_with fail
  refine HB.out.mono ?_
  rintro e w1 ⟨rfl, k1⟩
  have K1 := hid k1
  clear HB k1
  go_wp2_with fail
  refine (HO.out _).mono ?_
  rintro e w2 ⟨rfl, o2, k2⟩
  obtain ⟨q, hq⟩ : ∃ q, q = w1.heap.size := ⟨_, rfl⟩
  rw [← hq] at o2 ⊢
  have HQ := hid hq
  have p4 := hcell o2.h5 4
  have pc := hcell o2.h4 2
  have zc := hfrozen o2.h4 2
  have hlt := heap_lt o2.h5
  have hlt2 := heap_lt o2.h4
  have O2 := hid o2
  have K2 := hid (K1.out.quiet k2)
  clear o2 k2 hq
  go_upto_region 33 with fail
  have hw3 : (w2.setCell ⟨q + 4, 2, none⟩ (.slice (some ⟨w2.heap.size + 1, 0, none⟩) n n)).heap.size = w2.heap.size := by simp [World.setCell]
  obtain ⟨w3, e3⟩ : ∃ w3, w3 = w2.setCell ⟨q + 4, 2, none⟩ (.slice (some ⟨w2.heap.size + 1, 0, none⟩) n n) := ⟨_, rfl⟩
  have k3 : Keeps [q + 4] w2 w3 := by rw [e3]; exact Keeps.setCell _ _ _ _ (List.mem_singleton.2 rfl)
  have hf : ∀ j, j ≠ 4 → w3.heap[q + j]? = w2.heap[q + j]? := fun j hj => by rw [e3]; exact heap_setCell_other _ _ _ _ (by show q + j ≠ q + 4; omega)
  have hb := heap_setCell_same w2 (q + 4) 2 _ _ (.slice (some ⟨w2.heap.size + 1, 0, none⟩) n n) O2.out.h4
  rw [← e3] at hb
  rw [← e3] at hw3 ⊢
  have kz := (Keeps.alloc [] w3 (.cells #[.int .i64 6, .int .i64 10, .int .i64 4, .int .i64 12, .int .i64 12, .int .i64 4, .int .i64 4, .int .i64 12, .int .i64 30, .int .i64 16] 3)).quiet (Keeps.alloc [] _ (.cells mc 44))
  have hm0 := heap_at (w := w3.alloc (.cells #[.int .i64 6, .int .i64 10, .int .i64 4, .int .i64 12, .int .i64 12, .int .i64 4, .int .i64 4, .int .i64 12, .int .i64 30, .int .i64 16] 3)) (o := .cells mc 44) (n := w2.heap.size + 1) (by rw [World.size_alloc, hw3])
  have HK : Box (Keeps [] w ((w3.alloc (.cells #[.int .i64 6, .int .i64 10, .int .i64 4, .int .i64 12, .int .i64 12, .int .i64 4, .int .i64 4, .int .i64 12, .int .i64 30, .int .i64 16] 3)).alloc (.cells mc 44))) := hid ((K2.out.trans k3 (fun x hx hl => by
    have := HQ.out
    have := K1.out.size
    rw [List.mem_singleton] at hx
    omega)).quiet kz)
  generalize (w3.alloc (.cells #[.int .i64 6, .int .i64 10, .int .i64 4, .int .i64 12, .int .i64 12, .int .i64 4, .int .i64 4, .int .i64 12, .int .i64 30, .int .i64 16] 3)).alloc (.cells mc 44) = wz at *
  have HP : Box (PrC wz (q + 5) 0 (lim7 n)) := hid (by
    have hm := hm0
    rw [HMC.out] at hm
    generalize w2.heap.size + 1 = m at *
    have g0 := keep_heap ((hf 0 (by decide)).trans O2.out.h0) kz
    have g1 := keep_heap ((hf 1 (by decide)).trans O2.out.h1) kz
    have g2 := keep_heap ((hf 2 (by decide)).trans O2.out.h2) kz
    have g3 := keep_heap ((hf 3 (by decide)).trans O2.out.h3) kz
    have g4 := keep_heap hb kz
    have g5 := keep_heap ((hf 5 (by decide)).trans O2.out.h5) kz
    have t : TyC wz (q + 1) 0 (0, 0) := ⟨IntC.of (hcell g1 0) (by simp), IntC.of (hcell g1 1) (by simp)⟩
    have f : FuC wz (q + 4) 0 ⟨0, [(0, 0)], List.replicate n ⟨[], 0, 0, 0, 0⟩⟩ := ⟨IntC.of (z := 0) (hcell g4 0) (by simp), SlC.one (hcell g4 1) t, slc_rep (hcell g4 2) (bl_z hm) (by omega)⟩
    have s : SgC wz q 0 ([], 0, 0) := ⟨SlC.none (hcell g0 0), IntC.of (hcell g0 1) (by simp), IntC.of (hcell g0 2) (by simp)⟩
    exact ⟨SlC.none (hcell g5 0), SlC.one (hcell g5 1) s, SlC.none (hcell g5 2), SlC.none (hcell g5 3), SlC.one (hcell g5 4) f, IntC.of (hcell g5 5) (by simp [lim7])⟩)
  clear hw3 e3 k3 hf hb kz hm0 p4 pc zc hlt hlt2 mk h2 HMC
  by_cases hok : 1 ≤ n ∧ n ≤ 12
  · have hm : ¬ (12 : Int) < (n : Int) := by omega
    have hl : ¬ (n : Int) < 1 := by omega
    rw [decide_eq_true hok] at HLB
    go_wp2_with fail
    refine (bounds_any HP.out).mono ?_
    intro e w6 h6
    rw [HLB.out] at h6
    obtain ⟨rfl, k6⟩ := h6.yes
    have K6 := hid (HK.out.quiet k6)
    clear k6 h6
    go_wp2_with fail
    refine (nowhere_any _).mono ?_
    rintro e w7 ⟨rfl, k7⟩
    have K7 := hid (K6.out.quiet k7)
    clear k7
    go_wp2_with fail
    refine (says_none _ _ _ _).mono ?_
    rintro e w8 ⟨rfl, k8⟩
    have K8 := hid (K7.out.quiet k8)
    clear k8
    go_wp2_with fail
    go_ret
    exact ⟨rfl, K8.out⟩
  · have hor : (12 : Int) < (n : Int) ∨ (¬ (12 : Int) < (n : Int) ∧ (n : Int) < 1) := by omega
    rw [decide_eq_false hok] at HLB
    clear hok
    rcases hor with hm | ⟨hm, hl⟩
    all_goals (
      go_wp2_with fail
      refine (bounds_any HP.out).mono ?_
      intro e w6 h6
      rw [HLB.out] at h6
      obtain ⟨p, rfl, r6, k6⟩ := h6.no
      have K6 := hid (HK.out.quiet k6)
      have R6 := hid r6
      clear k6 h6 r6
      go_wp2_with fail
      refine (nowhere_any _).mono ?_
      rintro e w7 ⟨rfl, k7⟩
      have K7 := hid (K6.out.quiet k7)
      have R7 := hid (R6.out.quiet k7)
      clear k7
      go_wp2_with fail
      refine (says_now (HG.out.quiet K7.out) R7.out (by decide)).mono ?_
      rintro e w8 ⟨rfl, k8⟩
      have K8 := hid (K7.out.quiet k8)
      clear k8
      go_wp2_with fail
      go_ret
      exact ⟨rfl, K8.out⟩)
set_option maxRecDepth 20000 in
set_option maxHeartbeats 2000000 in
theorem lim_9 (n : Nat) (hn : n ≤ 40) (w : World) (hg : Glob w) : Calls Tryd.prog 3 #[.int .i64 9, .int .i64 (n : Int)] w fun e w' => e = .returned (.bool true) ∧ Keeps [] w w' := by
  have HG := hid hg
  have HB := hid (begun_any w hg)
  have HO := hid fun (w' : World) => one_any w'
  have mk := fun w' => mk_tys n (by omega) w'
  have h1 : ¬ (n : Int) < 0 := by omega
  have h2 : ¬ (40 : Int) < (n : Int) := by omega
  have HLB := hid (lb9 n hn)
  obtain ⟨mc, hmc⟩ : ∃ mc, mc = madeCells z_tys (n * z_tys.size) := ⟨_, rfl⟩
  rw [← hmc] at mk
  have HMC := hid hmc
  clear hg hmc
  go_enter Tryd.func3, Tryd.ntmps3
  go_wp2_with fail
  refine HB.out.mono ?_
  rintro e w1 ⟨rfl, k1⟩
  have K1 := hid k1
  clear HB k1
  go_wp2_with fail
  refine (HO.out _).mono ?_
  rintro e w2 ⟨rfl, o2, k2⟩
  obtain ⟨q, hq⟩ : ∃ q, q = w1.heap.size := ⟨_, rfl⟩
  rw [← hq] at o2 ⊢
  have HQ := hid hq
  have p4 := hcell o2.h5 4
  have pc := hcell o2.h4 1
  have zc := hfrozen o2.h4 1
  have hlt := heap_lt o2.h5
  have hlt2 := heap_lt o2.h4
  have O2 := hid o2
  have K2 := hid (K1.out.quiet k2)
  clear o2 k2 hq
  go_upto_region 33 with fail
  have hw3 : (w2.setCell ⟨q + 4, 1, none⟩ (.slice (some ⟨w2.heap.size + 1, 0, none⟩) n n)).heap.size = w2.heap.size := by simp [World.setCell]
  obtain ⟨w3, e3⟩ : ∃ w3, w3 = w2.setCell ⟨q + 4, 1, none⟩ (.slice (some ⟨w2.heap.size + 1, 0, none⟩) n n) := ⟨_, rfl⟩
  have k3 : Keeps [q + 4] w2 w3 := by rw [e3]; exact Keeps.setCell _ _ _ _ (List.mem_singleton.2 rfl)
  have hf : ∀ j, j ≠ 4 → w3.heap[q + j]? = w2.heap[q + j]? := fun j hj => by rw [e3]; exact heap_setCell_other _ _ _ _ (by show q + j ≠ q + 4; omega)
  have hb := heap_setCell_same w2 (q + 4) 1 _ _ (.slice (some ⟨w2.heap.size + 1, 0, none⟩) n n) O2.out.h4
  rw [← e3] at hb
  rw [← e3] at hw3 ⊢
  have kz := (Keeps.alloc [] w3 (.cells #[.int .i64 6, .int .i64 10, .int .i64 4, .int .i64 12, .int .i64 12, .int .i64 4, .int .i64 4, .int .i64 12, .int .i64 30, .int .i64 16] 3)).quiet (Keeps.alloc [] _ (.cells mc 39))
  have hm0 := heap_at (w := w3.alloc (.cells #[.int .i64 6, .int .i64 10, .int .i64 4, .int .i64 12, .int .i64 12, .int .i64 4, .int .i64 4, .int .i64 12, .int .i64 30, .int .i64 16] 3)) (o := .cells mc 39) (n := w2.heap.size + 1) (by rw [World.size_alloc, hw3])
  have HK : Box (Keeps [] w ((w3.alloc (.cells #[.int .i64 6, .int .i64 10, .int .i64 4, .int .i64 12, .int .i64 12, .int .i64 4, .int .i64 4, .int .i64 12, .int .i64 30, .int .i64 16] 3)).alloc (.cells mc 39))) := hid ((K2.out.trans k3 (fun x hx hl => by
    have := HQ.out
    have := K1.out.size
    rw [List.mem_singleton] at hx
    omega)).quiet kz)
  generalize (w3.alloc (.cells #[.int .i64 6, .int .i64 10, .int .i64 4, .int .i64 12, .int .i64 12, .int .i64 4, .int .i64 4, .int .i64 12, .int .i64 30, .int .i64 16] 3)).alloc (.cells mc 39) = wz at *
  have HP : Box (PrC wz (q + 5) 0 (lim9 n)) := hid (by
    have hm := hm0
    rw [HMC.out] at hm
    generalize w2.heap.size + 1 = m at *
    have g0 := keep_heap ((hf 0 (by decide)).trans O2.out.h0) kz
    have g1 := keep_heap ((hf 1 (by decide)).trans O2.out.h1) kz
    have g2 := keep_heap ((hf 2 (by decide)).trans O2.out.h2) kz
    have g3 := keep_heap ((hf 3 (by decide)).trans O2.out.h3) kz
    have g4 := keep_heap hb kz
    have g5 := keep_heap ((hf 5 (by decide)).trans O2.out.h5) kz
    have i : InC wz (q + 2) 0 ⟨1, 0, 0, 0, 7, []⟩ := ⟨IntC.of (hcell g2 0) (by simp), IntC.of (hcell g2 1) (by simp), IntC.of (hcell g2 2) (by simp), IntC.of (hcell g2 3) (by simp), IntC.of (hcell g2 4) (by simp), SlC.none (hcell g2 5)⟩
    have b : BlC wz (q + 3) 0 ⟨[⟨1, 0, 0, 0, 7, []⟩], 3, 0, 0, 0⟩ := ⟨SlC.one (hcell g3 0) i, IntC.of (hcell g3 1) (by simp), IntC.of (hcell g3 2) (by simp), IntC.of (hcell g3 3) (by simp), IntC.of (hcell g3 4) (by simp)⟩
    have f : FuC wz (q + 4) 0 ⟨0, List.replicate n (0, 0), [⟨[⟨1, 0, 0, 0, 7, []⟩], 3, 0, 0, 0⟩]⟩ := ⟨IntC.of (z := 0) (hcell g4 0) (by simp), slc_rep (hcell g4 1) (ty_z hm) (by omega), SlC.one (hcell g4 2) b⟩
    have s : SgC wz q 0 ([], 0, 0) := ⟨SlC.none (hcell g0 0), IntC.of (hcell g0 1) (by simp), IntC.of (hcell g0 2) (by simp)⟩
    exact ⟨SlC.none (hcell g5 0), SlC.one (hcell g5 1) s, SlC.none (hcell g5 2), SlC.none (hcell g5 3), SlC.one (hcell g5 4) f, IntC.of (hcell g5 5) (by simp [lim9])⟩)
  clear hw3 e3 k3 hf hb kz hm0 p4 pc zc hlt hlt2 mk h2 HMC
  by_cases hok : 0 ≤ n ∧ n ≤ 16
  · have hm : ¬ (16 : Int) < (n : Int) := by omega
    have hl : ¬ (n : Int) < 0 := by omega
    rw [decide_eq_true hok] at HLB
    go_wp2_with fail
    refine (bounds_any HP.out).mono ?_
    intro e w6 h6
    rw [HLB.out] at h6
    obtain ⟨rfl, k6⟩ := h6.yes
    have K6 := hid (HK.out.quiet k6)
    clear k6 h6
    go_wp2_with fail
    refine (nowhere_any _).mono ?_
    rintro e w7 ⟨rfl, k7⟩
    have K7 := hid (K6.out.quiet k7)
    clear k7
    go_wp2_with fail
    refine (says_none _ _ _ _).mono ?_
    rintro e w8 ⟨rfl, k8⟩
    have K8 := hid (K7.out.quiet k8)
    clear k8
    go_wp2_with fail
    go_ret
    exact ⟨rfl, K8.out⟩
  · have hor : (16 : Int) < (n : Int) ∨ (¬ (16 : Int) < (n : Int) ∧ (n : Int) < 0) := by omega
    rw [decide_eq_false hok] at HLB
    clear hok
    rcases hor with hm | ⟨hm, hl⟩
    all_goals (
      go_wp2_with fail
      refine (bounds_any HP.out).mono ?_
      intro e w6 h6
      rw [HLB.out] at h6
      obtain ⟨p, rfl, r6, k6⟩ := h6.no
      have K6 := hid (HK.out.quiet k6)
      have R6 := hid r6
      clear k6 h6 r6
      go_wp2_with fail
      refine (nowhere_any _).mono ?_
      rintro e w7 ⟨rfl, k7⟩
      have K7 := hid (K6.out.quiet k7)
      have R7 := hid (R6.out.quiet k7)
      clear k7
      go_wp2_with fail
      refine (says_now (HG.out.quiet K7.out) R7.out (by decide)).mono ?_
      rintro e w8 ⟨rfl, k8⟩
      have K8 := hid (K7.out.quiet k8)
      clear k8
      go_wp2_with fail
      go_ret
      exact ⟨rfl, K8.out⟩)
set_option maxRecDepth 20000 in
set_option maxHeartbeats 2000000 in
theorem lim_6 (n : Nat) (hn : n ≤ 40) (w : World) (hg : Glob w) : Calls Tryd.prog 3 #[.int .i64 6, .int .i64 (n : Int)] w fun e w' => e = .returned (.bool true) ∧ Keeps [] w w' := by
  have HG := hid hg
  have HB := hid (begun_any w hg)
  have HO := hid fun (w' : World) => one_any w'
  have mk := fun w' => mk_tys n (by omega) w'
  have h1 : ¬ (n : Int) < 0 := by omega
  have h2 : ¬ (40 : Int) < (n : Int) := by omega
  have HLB := hid (lb6 n hn)
  obtain ⟨mc, hmc⟩ : ∃ mc, mc = madeCells z_tys (n * z_tys.size) := ⟨_, rfl⟩
  rw [← hmc] at mk
  have HMC := hid hmc
  clear hg hmc
  go_enter Tryd.func3, Tryd.ntmps3
  go_wp2_with fail
  refine HB.out.mono ?_
  rintro e w1 ⟨rfl, k1⟩
  have K1 := hid k1
  clear HB k1
  go_wp2_with fail
  refine (HO.out _).mono ?_
  rintro e w2 ⟨rfl, o2, k2⟩
  obtain ⟨q, hq⟩ : ∃ q, q = w1.heap.size := ⟨_, rfl⟩
  rw [← hq] at o2 ⊢
  have HQ := hid hq
  have p4 := hcell o2.h5 4
  have pc := hcell o2.h0 0
  have zc := hfrozen o2.h0 0
  have hlt := heap_lt o2.h5
  have hlt2 := heap_lt o2.h0
  have O2 := hid o2
  have K2 := hid (K1.out.quiet k2)
  clear o2 k2 hq
  go_upto_region 28 with fail
  have ka := Keeps.alloc [] w2 (.cells #[.int .i64 6, .int .i64 10, .int .i64 4, .int .i64 12, .int .i64 12, .int .i64 4, .int .i64 4, .int .i64 12, .int .i64 30, .int .i64 16] 3)
  generalize w2.alloc (.cells #[.int .i64 6, .int .i64 10, .int .i64 4, .int .i64 12, .int .i64 12, .int .i64 4, .int .i64 4, .int .i64 12, .int .i64 30, .int .i64 16] 3) = wa at *
  have OA := O2.out.quiet ka
  have p1 := hcell OA.h5 1
  have pc' := hcell OA.h0 0
  have zc' := hfrozen OA.h0 0
  have hlt' := heap_lt OA.h5
  have hlt2' := heap_lt OA.h0
  have hlt3' := heap_lt OA.h4
  have HOA := hid OA
  have KA2 := hid ka
  clear OA ka
  go_region
  go_upto_region 33 with fail
  obtain ⟨w3, e3⟩ : ∃ w3, w3 = wa.setCell ⟨q + 0, 0, none⟩ (.slice (some ⟨wa.heap.size, 0, none⟩) n n) := ⟨_, rfl⟩
  have hw3 : w3.heap.size = wa.heap.size := by rw [e3]; simp [World.setCell]
  have k3 : Keeps [q + 0] wa w3 := by rw [e3]; exact Keeps.setCell _ _ _ _ (List.mem_singleton.2 rfl)
  have hf : ∀ j, j ≠ 0 → w3.heap[q + j]? = wa.heap[q + j]? := fun j hj => by rw [e3]; exact heap_setCell_other _ _ _ _ (by show q + j ≠ q + 0; omega)
  have hb := heap_setCell_same wa (q + 0) 0 _ _ (.slice (some ⟨wa.heap.size, 0, none⟩) n n) HOA.out.h0
  rw [← e3] at hb
  have eW : ((wa.setCell ⟨q, 0, none⟩ (.slice (some ⟨wa.heap.size, 0, none⟩) n n)).alloc (.cells mc 39)).drew = (w3.alloc (.cells mc 39)).drew := by subst e3; rfl
  rw [eW]
  have kz := (Keeps.alloc [] w3 (.cells mc 39)).quiet (Keeps.drew [] _)
  have hm0 : (w3.alloc (.cells mc 39)).drew.heap[wa.heap.size]? = some (.cells mc 39 (0, 0)) := heap_at (w := w3) (o := .cells mc 39) hw3
  have HK : Box (Keeps [] w (w3.alloc (.cells mc 39)).drew) := hid (((K2.out.quiet KA2.out).trans k3 (fun x hx hl => by
    have := HQ.out
    have := K1.out.size
    rw [List.mem_singleton] at hx
    omega)).quiet kz)
  generalize (w3.alloc (.cells mc 39)).drew = wz at *
  have HP : Box (PrC wz (q + 5) 0 (lim6 n)) := hid (by
    have hm := hm0
    rw [HMC.out] at hm
    generalize wa.heap.size = m at *
    have g0 := keep_heap hb kz
    have g1 := keep_heap ((hf 1 (by decide)).trans HOA.out.h1) kz
    have g2 := keep_heap ((hf 2 (by decide)).trans HOA.out.h2) kz
    have g3 := keep_heap ((hf 3 (by decide)).trans HOA.out.h3) kz
    have g4 := keep_heap ((hf 4 (by decide)).trans HOA.out.h4) kz
    have g5 := keep_heap ((hf 5 (by decide)).trans HOA.out.h5) kz
    have i : InC wz (q + 2) 0 ⟨1, 0, 0, 0, 7, []⟩ := ⟨IntC.of (hcell g2 0) (by simp), IntC.of (hcell g2 1) (by simp), IntC.of (hcell g2 2) (by simp), IntC.of (hcell g2 3) (by simp), IntC.of (hcell g2 4) (by simp), SlC.none (hcell g2 5)⟩
    have b : BlC wz (q + 3) 0 ⟨[⟨1, 0, 0, 0, 7, []⟩], 3, 0, 0, 0⟩ := ⟨SlC.one (hcell g3 0) i, IntC.of (hcell g3 1) (by simp), IntC.of (hcell g3 2) (by simp), IntC.of (hcell g3 3) (by simp), IntC.of (hcell g3 4) (by simp)⟩
    have t : TyC wz (q + 1) 0 (0, 0) := ⟨IntC.of (hcell g1 0) (by simp), IntC.of (hcell g1 1) (by simp)⟩
    have f : FuC wz (q + 4) 0 ⟨0, [(0, 0)], [⟨[⟨1, 0, 0, 0, 7, []⟩], 3, 0, 0, 0⟩]⟩ := ⟨IntC.of (z := 0) (hcell g4 0) (by simp), SlC.one (hcell g4 1) t, SlC.one (hcell g4 2) b⟩
    have s : SgC wz q 0 (List.replicate n (0, 0), 0, 0) := ⟨slc_rep (hcell g0 0) (ty_z hm) (by omega), IntC.of (hcell g0 1) (by simp), IntC.of (hcell g0 2) (by simp)⟩
    exact ⟨SlC.none (hcell g5 0), SlC.one (hcell g5 1) s, SlC.none (hcell g5 2), SlC.none (hcell g5 3), SlC.one (hcell g5 4) f, IntC.of (hcell g5 5) (by simp [lim6])⟩)
  clear hw3 e3 k3 hf hb kz hm0 eW p4 pc zc hlt hlt2 p1 pc' zc' hlt' hlt2' hlt3' mk h2 HMC
  by_cases hok : 0 ≤ n ∧ n ≤ 4
  · have hm : ¬ (4 : Int) < (n : Int) := by omega
    have hl : ¬ (n : Int) < 0 := by omega
    rw [decide_eq_true hok] at HLB
    go_wp2_with fail
    refine (bounds_any HP.out).mono ?_
    intro e w6 h6
    rw [HLB.out] at h6
    obtain ⟨rfl, k6⟩ := h6.yes
    have K6 := hid (HK.out.quiet k6)
    clear k6 h6
    go_wp2_with fail
    refine (nowhere_any _).mono ?_
    rintro e w7 ⟨rfl, k7⟩
    have K7 := hid (K6.out.quiet k7)
    clear k7
    go_wp2_with fail
    refine (says_none _ _ _ _).mono ?_
    rintro e w8 ⟨rfl, k8⟩
    have K8 := hid (K7.out.quiet k8)
    clear k8
    go_wp2_with fail
    go_ret
    exact ⟨rfl, K8.out⟩
  · have hor : (4 : Int) < (n : Int) ∨ (¬ (4 : Int) < (n : Int) ∧ (n : Int) < 0) := by omega
    rw [decide_eq_false hok] at HLB
    clear hok
    rcases hor with hm | ⟨hm, hl⟩
    all_goals (
      go_wp2_with fail
      refine (bounds_any HP.out).mono ?_
      intro e w6 h6
      rw [HLB.out] at h6
      obtain ⟨p, rfl, r6, k6⟩ := h6.no
      have K6 := hid (HK.out.quiet k6)
      have R6 := hid r6
      clear k6 h6 r6
      go_wp2_with fail
      refine (nowhere_any _).mono ?_
      rintro e w7 ⟨rfl, k7⟩
      have K7 := hid (K6.out.quiet k7)
      have R7 := hid (R6.out.quiet k7)
      clear k7
      go_wp2_with fail
      refine (says_now (HG.out.quiet K7.out) R7.out (by decide)).mono ?_
      rintro e w8 ⟨rfl, k8⟩
      have K8 := hid (K7.out.quiet k8)
      clear k8
      go_wp2_with fail
      go_ret
      exact ⟨rfl, K8.out⟩)
set_option maxRecDepth 20000 in
set_option maxHeartbeats 2000000 in
theorem lim_8 (n : Nat) (hn : n ≤ 40) (w : World) (hg : Glob w) : Calls Tryd.prog 3 #[.int .i64 8, .int .i64 (n : Int)] w fun e w' => e = .returned (.bool true) ∧ Keeps [] w w' := by
  have HG := hid hg
  have HB := hid (begun_any w hg)
  have HO := hid fun (w' : World) => one_any w'
  have mk := fun w' => mk_ins n (by omega) w'
  have h1 : ¬ (n : Int) < 0 := by omega
  have h2 : ¬ (40 : Int) < (n : Int) := by omega
  have HLB := hid (lb8 n hn)
  obtain ⟨mc, hmc⟩ : ∃ mc, mc = madeCells z_ins (n * z_ins.size) := ⟨_, rfl⟩
  rw [← hmc] at mk
  have HMC := hid hmc
  clear hg hmc
  go_enter Tryd.func3, Tryd.ntmps3
  go_wp2_with fail
  refine HB.out.mono ?_
  rintro e w1 ⟨rfl, k1⟩
  have K1 := hid k1
  clear HB k1
  go_wp2_with fail
  refine (HO.out _).mono ?_
  rintro e w2 ⟨rfl, o2, k2⟩
  obtain ⟨q, hq⟩ : ∃ q, q = w1.heap.size := ⟨_, rfl⟩
  rw [← hq] at o2 ⊢
  have HQ := hid hq
  have p4 := hcell o2.h5 4
  have pc := hcell o2.h3 0
  have zc := hfrozen o2.h3 0
  have hlt := heap_lt o2.h5
  have hlt2 := heap_lt o2.h3
  have O2 := hid o2
  have K2 := hid (K1.out.quiet k2)
  clear o2 k2 hq
  go_upto_region 32 with fail
  have ka := Keeps.alloc [] w2 (.cells #[.int .i64 6, .int .i64 10, .int .i64 4, .int .i64 12, .int .i64 12, .int .i64 4, .int .i64 4, .int .i64 12, .int .i64 30, .int .i64 16] 3)
  generalize w2.alloc (.cells #[.int .i64 6, .int .i64 10, .int .i64 4, .int .i64 12, .int .i64 12, .int .i64 4, .int .i64 4, .int .i64 12, .int .i64 30, .int .i64 16] 3) = wa at *
  have OA := O2.out.quiet ka
  have p1 := hcell OA.h4 2
  have pc' := hcell OA.h3 0
  have zc' := hfrozen OA.h3 0
  have hlt' := heap_lt OA.h5
  have hlt2' := heap_lt OA.h3
  have hlt3' := heap_lt OA.h4
  have HOA := hid OA
  have KA2 := hid ka
  clear OA ka
  go_region
  go_upto_region 33 with fail
  obtain ⟨w3, e3⟩ : ∃ w3, w3 = wa.setCell ⟨q + 3, 0, none⟩ (.slice (some ⟨wa.heap.size, 0, none⟩) n n) := ⟨_, rfl⟩
  have hw3 : w3.heap.size = wa.heap.size := by rw [e3]; simp [World.setCell]
  have k3 : Keeps [q + 3] wa w3 := by rw [e3]; exact Keeps.setCell _ _ _ _ (List.mem_singleton.2 rfl)
  have hf : ∀ j, j ≠ 3 → w3.heap[q + j]? = wa.heap[q + j]? := fun j hj => by rw [e3]; exact heap_setCell_other _ _ _ _ (by show q + j ≠ q + 3; omega)
  have hb := heap_setCell_same wa (q + 3) 0 _ _ (.slice (some ⟨wa.heap.size, 0, none⟩) n n) HOA.out.h3
  rw [← e3] at hb
  have eW : ((wa.setCell ⟨q + 3, 0, none⟩ (.slice (some ⟨wa.heap.size, 0, none⟩) n n)).alloc (.cells mc 54)).drew = (w3.alloc (.cells mc 54)).drew := by subst e3; rfl
  rw [eW]
  have kz := (Keeps.alloc [] w3 (.cells mc 54)).quiet (Keeps.drew [] _)
  have hm0 : (w3.alloc (.cells mc 54)).drew.heap[wa.heap.size]? = some (.cells mc 54 (0, 0)) := heap_at (w := w3) (o := .cells mc 54) hw3
  have HK : Box (Keeps [] w (w3.alloc (.cells mc 54)).drew) := hid (((K2.out.quiet KA2.out).trans k3 (fun x hx hl => by
    have := HQ.out
    have := K1.out.size
    rw [List.mem_singleton] at hx
    omega)).quiet kz)
  generalize (w3.alloc (.cells mc 54)).drew = wz at *
  have HP : Box (PrC wz (q + 5) 0 (lim8 n)) := hid (by
    have hm := hm0
    rw [HMC.out] at hm
    generalize wa.heap.size = m at *
    have g0 := keep_heap ((hf 0 (by decide)).trans HOA.out.h0) kz
    have g1 := keep_heap ((hf 1 (by decide)).trans HOA.out.h1) kz
    have g2 := keep_heap ((hf 2 (by decide)).trans HOA.out.h2) kz
    have g3 := keep_heap hb kz
    have g4 := keep_heap ((hf 4 (by decide)).trans HOA.out.h4) kz
    have g5 := keep_heap ((hf 5 (by decide)).trans HOA.out.h5) kz
    have b : BlC wz (q + 3) 0 ⟨List.replicate n ⟨0, 0, 0, 0, 0, []⟩, 3, 0, 0, 0⟩ := ⟨slc_rep (hcell g3 0) (in_z hm) (by omega), IntC.of (hcell g3 1) (by simp), IntC.of (hcell g3 2) (by simp), IntC.of (hcell g3 3) (by simp), IntC.of (hcell g3 4) (by simp)⟩
    have t : TyC wz (q + 1) 0 (0, 0) := ⟨IntC.of (hcell g1 0) (by simp), IntC.of (hcell g1 1) (by simp)⟩
    have f : FuC wz (q + 4) 0 ⟨0, [(0, 0)], [⟨List.replicate n ⟨0, 0, 0, 0, 0, []⟩, 3, 0, 0, 0⟩]⟩ := ⟨IntC.of (z := 0) (hcell g4 0) (by simp), SlC.one (hcell g4 1) t, SlC.one (hcell g4 2) b⟩
    have s : SgC wz q 0 ([], 0, 0) := ⟨SlC.none (hcell g0 0), IntC.of (hcell g0 1) (by simp), IntC.of (hcell g0 2) (by simp)⟩
    exact ⟨SlC.none (hcell g5 0), SlC.one (hcell g5 1) s, SlC.none (hcell g5 2), SlC.none (hcell g5 3), SlC.one (hcell g5 4) f, IntC.of (hcell g5 5) (by simp [lim8])⟩)
  clear hw3 e3 k3 hf hb kz hm0 eW p4 pc zc hlt hlt2 p1 pc' zc' hlt' hlt2' hlt3' mk h2 HMC
  by_cases hok : 0 ≤ n ∧ n ≤ 30
  · have hm : ¬ (30 : Int) < (n : Int) := by omega
    have hl : ¬ (n : Int) < 0 := by omega
    rw [decide_eq_true hok] at HLB
    go_wp2_with fail
    refine (bounds_any HP.out).mono ?_
    intro e w6 h6
    rw [HLB.out] at h6
    obtain ⟨rfl, k6⟩ := h6.yes
    have K6 := hid (HK.out.quiet k6)
    clear k6 h6
    go_wp2_with fail
    refine (nowhere_any _).mono ?_
    rintro e w7 ⟨rfl, k7⟩
    have K7 := hid (K6.out.quiet k7)
    clear k7
    go_wp2_with fail
    refine (says_none _ _ _ _).mono ?_
    rintro e w8 ⟨rfl, k8⟩
    have K8 := hid (K7.out.quiet k8)
    clear k8
    go_wp2_with fail
    go_ret
    exact ⟨rfl, K8.out⟩
  · have hor : (30 : Int) < (n : Int) ∨ (¬ (30 : Int) < (n : Int) ∧ (n : Int) < 0) := by omega
    rw [decide_eq_false hok] at HLB
    clear hok
    rcases hor with hm | ⟨hm, hl⟩
    all_goals (
      go_wp2_with fail
      refine (bounds_any HP.out).mono ?_
      intro e w6 h6
      rw [HLB.out] at h6
      obtain ⟨p, rfl, r6, k6⟩ := h6.no
      have K6 := hid (HK.out.quiet k6)
      have R6 := hid r6
      clear k6 h6 r6
      go_wp2_with fail
      refine (nowhere_any _).mono ?_
      rintro e w7 ⟨rfl, k7⟩
      have K7 := hid (K6.out.quiet k7)
      have R7 := hid (R6.out.quiet k7)
      clear k7
      go_wp2_with fail
      refine (says_now (HG.out.quiet K7.out) R7.out (by decide)).mono ?_
      rintro e w8 ⟨rfl, k8⟩
      have K8 := hid (K7.out.quiet k8)
      clear k8
      go_wp2_with fail
      go_ret
      exact ⟨rfl, K8.out⟩)
set_option maxRecDepth 20000 in
set_option maxHeartbeats 2000000 in
theorem lim_5 (n : Nat) (hn : n ≤ 40) (w : World) (hg : Glob w) : Calls Tryd.prog 3 #[.int .i64 5, .int .i64 (n : Int)] w fun e w' => e = .returned (.bool true) ∧ Keeps [] w w' := by
  have HG := hid hg
  have HB := hid (begun_any w hg)
  have HO := hid fun (w' : World) => one_any w'
  have mk := fun w' => mk_tys n (by omega) w'
  have h1 : ¬ (n : Int) < 0 := by omega
  have h2 : ¬ (40 : Int) < (n : Int) := by omega
  have HLB := hid (lb5 n hn)
  obtain ⟨mc, hmc⟩ : ∃ mc, mc = madeCells z_tys (n * z_tys.size) := ⟨_, rfl⟩
  rw [← hmc] at mk
  have HMC := hid hmc
  clear hg hmc
  go_enter Tryd.func3, Tryd.ntmps3
  go_wp2_with fail
  refine HB.out.mono ?_
  rintro e w1 ⟨rfl, k1⟩
  have K1 := hid k1
  clear HB k1
  go_wp2_with fail
  refine (HO.out _).mono ?_
  rintro e w2 ⟨rfl, o2, k2⟩
  obtain ⟨q, hq⟩ : ∃ q, q = w1.heap.size := ⟨_, rfl⟩
  rw [← hq] at o2 ⊢
  have HQ := hid hq
  have p4 := hcell o2.h5 4
  have pc := hcell o2.h5 0
  have zc := hfrozen o2.h5 0
  have hlt := heap_lt o2.h5
  have hlt2 := heap_lt o2.h5
  have O2 := hid o2
  have K2 := hid (K1.out.quiet k2)
  clear o2 k2 hq
  go_upto_region 26 with fail
  have ka := Keeps.alloc [] w2 (.cells #[.int .i64 6, .int .i64 10, .int .i64 4, .int .i64 12, .int .i64 12, .int .i64 4, .int .i64 4, .int .i64 12, .int .i64 30, .int .i64 16] 3)
  generalize w2.alloc (.cells #[.int .i64 6, .int .i64 10, .int .i64 4, .int .i64 12, .int .i64 12, .int .i64 4, .int .i64 4, .int .i64 12, .int .i64 30, .int .i64 16] 3) = wa at *
  have OA := O2.out.quiet ka
  have p1 := hcell OA.h5 1
  have pc' := hcell OA.h5 0
  have zc' := hfrozen OA.h5 0
  have hlt' := heap_lt OA.h5
  have hlt2' := heap_lt OA.h5
  have hlt3' := heap_lt OA.h4
  have HOA := hid OA
  have KA2 := hid ka
  clear OA ka
  go_upto_region 33 with fail
  obtain ⟨w3, e3⟩ : ∃ w3, w3 = wa.setCell ⟨q + 5, 0, none⟩ (.slice (some ⟨wa.heap.size + 1, 0, none⟩) 1 1) := ⟨_, rfl⟩
  have hw3 : w3.heap.size = wa.heap.size := by rw [e3]; simp [World.setCell]
  have k3 : Keeps [q + 5] wa w3 := by rw [e3]; exact Keeps.setCell _ _ _ _ (List.mem_singleton.2 rfl)
  have hf : ∀ j, j ≠ 5 → w3.heap[q + j]? = wa.heap[q + j]? := fun j hj => by rw [e3]; exact heap_setCell_other _ _ _ _ (by show q + j ≠ q + 5; omega)
  have hb := heap_setCell_same wa (q + 5) 0 _ _ (.slice (some ⟨wa.heap.size + 1, 0, none⟩) 1 1) HOA.out.h5
  rw [← e3] at hb
  have eW : ((wa.setCell ⟨q + 5, 0, none⟩ (.slice (some ⟨wa.heap.size + 1, 0, none⟩) 1 1)).alloc (.cells mc 39)).alloc (.cells #[.slice (some ⟨wa.heap.size, 0, none⟩) n n] 26) = (w3.alloc (.cells mc 39)).alloc (.cells #[.slice (some ⟨wa.heap.size, 0, none⟩) n n] 26) := by subst e3; rfl
  rw [eW]
  have kz := (Keeps.alloc [] w3 (.cells mc 39)).quiet (Keeps.alloc [] _ (.cells #[.slice (some ⟨wa.heap.size, 0, none⟩) n n] 26))
  have hm0 := keep_heap (heap_at (w := w3) (o := .cells mc 39) hw3) (Keeps.alloc [] _ (.cells #[.slice (some ⟨wa.heap.size, 0, none⟩) n n] 26))
  have hr0 := heap_at (w := w3.alloc (.cells mc 39)) (o := .cells #[.slice (some ⟨wa.heap.size, 0, none⟩) n n] 26) (n := wa.heap.size + 1) (by rw [World.size_alloc, hw3])
  have HK : Box (Keeps [] w ((w3.alloc (.cells mc 39)).alloc (.cells #[.slice (some ⟨wa.heap.size, 0, none⟩) n n] 26))) := hid (((K2.out.quiet KA2.out).trans k3 (fun x hx hl => by
    have := HQ.out
    have := K1.out.size
    rw [List.mem_singleton] at hx
    omega)).quiet kz)
  generalize (w3.alloc (.cells mc 39)).alloc (.cells #[.slice (some ⟨wa.heap.size, 0, none⟩) n n] 26) = wz at *
  have HP : Box (PrC wz (q + 5) 0 (lim5 n)) := hid (by
    have hm := hm0
    rw [HMC.out] at hm
    generalize wa.heap.size + 1 = m2 at *
    generalize wa.heap.size = m at *
    have hr := hr0
    have g0 := keep_heap ((hf 0 (by decide)).trans HOA.out.h0) kz
    have g1 := keep_heap ((hf 1 (by decide)).trans HOA.out.h1) kz
    have g2 := keep_heap ((hf 2 (by decide)).trans HOA.out.h2) kz
    have g3 := keep_heap ((hf 3 (by decide)).trans HOA.out.h3) kz
    have g4 := keep_heap ((hf 4 (by decide)).trans HOA.out.h4) kz
    have g5 := keep_heap hb kz
    have i : InC wz (q + 2) 0 ⟨1, 0, 0, 0, 7, []⟩ := ⟨IntC.of (hcell g2 0) (by simp), IntC.of (hcell g2 1) (by simp), IntC.of (hcell g2 2) (by simp), IntC.of (hcell g2 3) (by simp), IntC.of (hcell g2 4) (by simp), SlC.none (hcell g2 5)⟩
    have b : BlC wz (q + 3) 0 ⟨[⟨1, 0, 0, 0, 7, []⟩], 3, 0, 0, 0⟩ := ⟨SlC.one (hcell g3 0) i, IntC.of (hcell g3 1) (by simp), IntC.of (hcell g3 2) (by simp), IntC.of (hcell g3 3) (by simp), IntC.of (hcell g3 4) (by simp)⟩
    have t : TyC wz (q + 1) 0 (0, 0) := ⟨IntC.of (hcell g1 0) (by simp), IntC.of (hcell g1 1) (by simp)⟩
    have f : FuC wz (q + 4) 0 ⟨0, [(0, 0)], [⟨[⟨1, 0, 0, 0, 7, []⟩], 3, 0, 0, 0⟩]⟩ := ⟨IntC.of (z := 0) (hcell g4 0) (by simp), SlC.one (hcell g4 1) t, SlC.one (hcell g4 2) b⟩
    have s : SgC wz q 0 ([], 0, 0) := ⟨SlC.none (hcell g0 0), IntC.of (hcell g0 1) (by simp), IntC.of (hcell g0 2) (by simp)⟩
    exact ⟨SlC.one (hcell g5 0) (slc_rep (hcell hr 0) (ty_z hm) (by omega)), SlC.one (hcell g5 1) s, SlC.none (hcell g5 2), SlC.none (hcell g5 3), SlC.one (hcell g5 4) f, IntC.of (hcell g5 5) (by simp [lim5])⟩)
  clear hw3 e3 k3 hf hb kz hm0 hr0 eW p4 pc zc hlt hlt2 p1 pc' zc' hlt' hlt2' hlt3' mk h2 HMC
  by_cases hok : 0 ≤ n ∧ n ≤ 4
  · have hm : ¬ (4 : Int) < (n : Int) := by omega
    have hl : ¬ (n : Int) < 0 := by omega
    rw [decide_eq_true hok] at HLB
    go_wp2_with fail
    refine (bounds_any HP.out).mono ?_
    intro e w6 h6
    rw [HLB.out] at h6
    obtain ⟨rfl, k6⟩ := h6.yes
    have K6 := hid (HK.out.quiet k6)
    clear k6 h6
    go_wp2_with fail
    refine (nowhere_any _).mono ?_
    rintro e w7 ⟨rfl, k7⟩
    have K7 := hid (K6.out.quiet k7)
    clear k7
    go_wp2_with fail
    refine (says_none _ _ _ _).mono ?_
    rintro e w8 ⟨rfl, k8⟩
    have K8 := hid (K7.out.quiet k8)
    clear k8
    go_wp2_with fail
    go_ret
    exact ⟨rfl, K8.out⟩
  · have hor : (4 : Int) < (n : Int) ∨ (¬ (4 : Int) < (n : Int) ∧ (n : Int) < 0) := by omega
    rw [decide_eq_false hok] at HLB
    clear hok
    rcases hor with hm | ⟨hm, hl⟩
    all_goals (
      go_wp2_with fail
      refine (bounds_any HP.out).mono ?_
      intro e w6 h6
      rw [HLB.out] at h6
      obtain ⟨p, rfl, r6, k6⟩ := h6.no
      have K6 := hid (HK.out.quiet k6)
      have R6 := hid r6
      clear k6 h6 r6
      go_wp2_with fail
      refine (nowhere_any _).mono ?_
      rintro e w7 ⟨rfl, k7⟩
      have K7 := hid (K6.out.quiet k7)
      have R7 := hid (R6.out.quiet k7)
      clear k7
      go_wp2_with fail
      refine (says_now (HG.out.quiet K7.out) R7.out (by decide)).mono ?_
      rintro e w8 ⟨rfl, k8⟩
      have K8 := hid (K7.out.quiet k8)
      clear k8
      go_wp2_with fail
      go_ret
      exact ⟨rfl, K8.out⟩)
end Go.Proofs.YtlopddflbhnjdaaDoor
