/-
  Contract: begun of front's statements.
-/
import Derived.Test.YtlnimcpmkammfaaDoorFClo
import Derived.Test.YtlnimcpmkammfaaDoorBNew
import Derived.Test.YtlnimcpmkammfaaDoorGLaw
namespace Go.Proofs.YtlnimcpmkammfaaDoor
open Go.RowKit

theorem tabq {w wz : World} (hT : TabAt w) (k : Keeps [] w wz) : TabAt wz := hT.kept k (by simp)
theorem elems_to (s : Nat → Bool) (n : Nat) (hn : n ≤ 5000) (h : ∀ i, n ≤ i → s i = false) : elems s = (List.range n).filter s := by
  have := pre_skip s n (5000 - n) (fun m h1 _ => h m h1)
  rw [show n + (5000 - n) = 5000 by omega] at this
  exact this
/-- Frontiers, decided. -/
def frB (g : List (List Nat)) (r a b : Nat) : Bool := ((List.range g.length).any fun c => domB g r a c && (nb g c).contains b) && !(domB g r a b && !(a == b))
theorem frB_iff {g : List (List Nat)} (hg : Ok g) {r : Nat} (hr : r < g.length) (a b : Nat) : frB g r a b = true ↔ Fr g r a b := by
  unfold frB Fr SDom
  rw [Bool.and_eq_true, List.any_eq_true, Bool.not_eq_true', Bool.and_eq_false_iff, ← Bool.not_eq_true, domB_iff hg hr]
  constructor
  · rintro ⟨⟨c, hc, h1⟩, h2⟩
    rw [Bool.and_eq_true, domB_iff hg hr, List.contains_iff_mem] at h1
    refine ⟨c, h1.1, fun h => ?_, h1.2⟩
    rcases h2 with h2 | h2
    · exact h2 h.1
    · exact h.2 (by simpa using h2)
  · rintro ⟨c, h1, h2, h3⟩
    refine ⟨⟨c, List.mem_range.2 (h1.1.lt hg hr), ?_⟩, ?_⟩
    · rw [Bool.and_eq_true, domB_iff hg hr, List.contains_iff_mem]
      exact ⟨h1, h3⟩
    · by_cases hd : Dom g r a b
      · refine .inr ?_
        by_cases e : a = b
        · simp [e]
        · exact absurd ⟨hd, e⟩ h2
      · exact .inl hd
theorem fr_eq {g : List (List Nat)} (hg : Ok g) {r : Nat} (hr : r < g.length) {F : Nat → Nat → Bool} (h : ∀ x y, F x y = true ↔ Fr g r x y) (x y : Nat) : F x y = frB g r x y := by
  rw [Bool.eq_iff_iff, h x y, frB_iff hg hr]

def g4f : List (List Nat) := [[1, 2], [3], [3], [0]]
theorem sm4f : Sm g4f := by
  refine ⟨fun a b hb => ?_, by decide, fun j => ?_⟩
  · have h : ∀ a, a < 4 → ∀ b, b ∈ nb g4f a → b < 4 := by decide
    by_cases ha : a < 4
    · exact h a ha b hb
    · rw [nb_out (show g4f.length ≤ a from Nat.le_of_not_lt ha)] at hb; cases hb
  · have h : ∀ j, j < 4 → (nb g4f j).length ≤ 1000 := by decide
    by_cases hj : j < 4
    · exact h j hj
    · rw [nb_out (show g4f.length ≤ j from Nat.le_of_not_lt hj)]; simp
theorem val4_out {F : Nat → Nat → Bool} (h : ∀ x y, F x y = true ↔ Fr g4f 0 x y) (x y : Nat) (hy : 4 ≤ y) : F x y = false := by
  cases e : F x y with
  | false => rfl
  | true =>
    have h1 : y < 4 := ((h x y).1 e).lt sm4f.ok
    omega
theorem val4_at {F : Nat → Nat → Bool} (h : ∀ x y, F x y = true ↔ Fr g4f 0 x y) (x : Nat) : elems (F x) = (List.range 4).filter (frB g4f 0 x) := by
  rw [elems_to (F x) 4 (by omega) (fun i hi => val4_out h x i hi)]
  congr 1
  funext y
  exact fr_eq sm4f.ok (by decide) h x y
theorem val4_1 {F : Nat → Nat → Bool} (h : ∀ x y, F x y = true ↔ Fr g4f 0 x y) : elems (F 1) = [3] := by
  rw [val4_at h]
  decide +kernel
theorem val4_3 {F : Nat → Nat → Bool} (h : ∀ x y, F x y = true ↔ Fr g4f 0 x y) : elems (F 3) = [0] := by
  rw [val4_at h]
  decide +kernel
theorem val4_clo {F : Nat → Nat → Bool} (h : ∀ x y, F x y = true ↔ Fr g4f 0 x y) {L : Nat → Bool} (hL : ∀ n, L n = true ↔ Clo F 4 (ofI [1]) n) : elems L = [0, 3] := by
  have hF : ∀ x y, F x y = frB g4f 0 x y := fr_eq sm4f.ok (by decide) h
  have t : ∀ x, x < 4 → ∀ y, y < 4 → frB g4f 0 x y = true → y = 0 ∨ y = 3 := by decide +kernel
  have hl : ∀ n, L n = true ↔ n = 0 ∨ n = 3 := by
    intro n
    rw [hL n]
    constructor
    · intro hc
      have : ∃ a, a < 4 ∧ F a n = true := hc.ind (T := fun n => ∃ a, a < 4 ∧ F a n = true) (fun a _ _ h2 h3 => ⟨a, h2, h3⟩) (fun a _ _ h2 h3 => ⟨a, h2, h3⟩)
      obtain ⟨a, h2, h3⟩ := this
      have hn : n < 4 := ((h a n).1 h3).lt sm4f.ok
      rw [hF] at h3
      exact t a h2 n hn h3
    · have c3 : Clo F 4 (ofI [1]) 3 := .base (a := 1) (by rw [ofI_mem]; decide) (by decide) (by rw [hF]; decide +kernel)
      rintro (rfl | rfl)
      · exact .step c3 (by decide) (by rw [hF]; decide +kernel)
      · exact c3
  rw [elems_to L 4 (by omega) (fun i hi => by
    cases e : L i with
    | false => rfl
    | true => have := (hl i).1 e; omega)]
  have hf : L = fun n => decide (n = 0 ∨ n = 3) := by
    funext n
    rw [Bool.eq_iff_iff, hl n, decide_eq_true_iff]
  rw [hf]
  decide

/-- begun's graph in memory. -/
structure H4f (w wz : World) : Prop where
  gr : GAt wz (w.heap.size + 5) (some ⟨w.heap.size + 1 + 1 + 1 + 1, 0, none⟩) g4f
  keep : Keeps [] w wz
  le : w.heap.size + 5 < wz.heap.size
theorem h4f_new (w : World) : H4f w ((((((w.alloc (Obj.cells #[.int .i64 1, .int .i64 2] 3)).alloc (Obj.cells #[.int .i64 3] 3)).alloc (Obj.cells #[.int .i64 3] 3)).alloc (Obj.cells #[.int .i64 0] 3)).alloc (Obj.cells #[.slice (some ⟨w.heap.size, 0, none⟩) 2 2, .slice (some ⟨w.heap.size + 1, 0, none⟩) 1 1, .slice (some ⟨w.heap.size + 1 + 1, 0, none⟩) 1 1, .slice (some ⟨w.heap.size + 1 + 1 + 1, 0, none⟩) 1 1] 23)).alloc (Obj.cells #[.int .i64 4, .slice (some ⟨w.heap.size + 1 + 1 + 1 + 1, 0, none⟩) 4 4] 27)) := by
  have n1 := lit_nat w [1, 2] #[.int .i64 1, .int .i64 2] rfl
  have k1 : Keeps [] w (w.alloc (Obj.cells #[.int .i64 1, .int .i64 2] 3)) := Keeps.alloc _ _ _
  have s1 : (w.alloc (Obj.cells #[.int .i64 1, .int .i64 2] 3)).heap.size = w.heap.size + 1 := by simp
  generalize w.alloc (Obj.cells #[.int .i64 1, .int .i64 2] 3) = w1 at *
  have n2 := lit_nat w1 [3] #[.int .i64 3] rfl
  have k2 : Keeps [] w1 (w1.alloc (Obj.cells #[.int .i64 3] 3)) := Keeps.alloc _ _ _
  have s2 : (w1.alloc (Obj.cells #[.int .i64 3] 3)).heap.size = w.heap.size + 1 + 1 := by simp [s1]
  have n1' := n1.kept k2 (by simp)
  rw [s1] at n2
  generalize w1.alloc (Obj.cells #[.int .i64 3] 3) = w2 at *
  have n3 := lit_nat w2 [3] #[.int .i64 3] rfl
  have k3 : Keeps [] w2 (w2.alloc (Obj.cells #[.int .i64 3] 3)) := Keeps.alloc _ _ _
  have s3 : (w2.alloc (Obj.cells #[.int .i64 3] 3)).heap.size = w.heap.size + 1 + 1 + 1 := by simp [s2]
  have n1'' := n1'.kept k3 (by simp)
  have n2'' := n2.kept k3 (by simp)
  rw [s2] at n3
  generalize w2.alloc (Obj.cells #[.int .i64 3] 3) = w3 at *
  have n4 := lit_nat w3 [0] #[.int .i64 0] rfl
  have k4 : Keeps [] w3 (w3.alloc (Obj.cells #[.int .i64 0] 3)) := Keeps.alloc _ _ _
  have s4 : (w3.alloc (Obj.cells #[.int .i64 0] 3)).heap.size = w.heap.size + 1 + 1 + 1 + 1 := by simp [s3]
  have m1 := n1''.kept k4 (by simp)
  have m2 := n2''.kept k4 (by simp)
  have m3 := n3.kept k4 (by simp)
  rw [s3] at n4
  generalize w3.alloc (Obj.cells #[.int .i64 0] 3) = w4 at *
  have n5 := gat_lit w4 #[.slice (some ⟨w.heap.size, 0, none⟩) 2 2, .slice (some ⟨w.heap.size + 1, 0, none⟩) 1 1, .slice (some ⟨w.heap.size + 1 + 1, 0, none⟩) 1 1, .slice (some ⟨w.heap.size + 1 + 1 + 1, 0, none⟩) 1 1] g4f (w.heap.size + 5) (by omega) (fun j hj => by
    match j, hj with
    | 0, _ => exact ⟨_, 2, rfl, InAt.up m1 (by omega)⟩
    | 1, _ => exact ⟨_, 1, rfl, InAt.up m2 (by omega)⟩
    | 2, _ => exact ⟨_, 1, rfl, InAt.up m3 (by omega)⟩
    | 3, _ => exact ⟨_, 1, rfl, InAt.up n4 (by omega)⟩
    | j + 4, h => exact absurd h (by simp [g4f]))
  have k5 : Keeps [] w4 (w4.alloc (Obj.cells #[.slice (some ⟨w.heap.size, 0, none⟩) 2 2, .slice (some ⟨w.heap.size + 1, 0, none⟩) 1 1, .slice (some ⟨w.heap.size + 1 + 1, 0, none⟩) 1 1, .slice (some ⟨w.heap.size + 1 + 1 + 1, 0, none⟩) 1 1] 23)) := Keeps.alloc _ _ _
  have s5 : (w4.alloc (Obj.cells #[.slice (some ⟨w.heap.size, 0, none⟩) 2 2, .slice (some ⟨w.heap.size + 1, 0, none⟩) 1 1, .slice (some ⟨w.heap.size + 1 + 1, 0, none⟩) 1 1, .slice (some ⟨w.heap.size + 1 + 1 + 1, 0, none⟩) 1 1] 23)).heap.size = w.heap.size + 1 + 1 + 1 + 1 + 1 := by simp [s4]
  rw [s4] at n5
  generalize w4.alloc (Obj.cells #[.slice (some ⟨w.heap.size, 0, none⟩) 2 2, .slice (some ⟨w.heap.size + 1, 0, none⟩) 1 1, .slice (some ⟨w.heap.size + 1 + 1, 0, none⟩) 1 1, .slice (some ⟨w.heap.size + 1 + 1 + 1, 0, none⟩) 1 1] 23) = w5 at *
  have k6 : Keeps [] w5 (w5.alloc (Obj.cells #[.int .i64 4, .slice (some ⟨w.heap.size + 1 + 1 + 1 + 1, 0, none⟩) 4 4] 27)) := Keeps.alloc _ _ _
  exact ⟨n5.quiet k6, ((((k1.quiet k2).quiet k3).quiet k4).quiet k5).quiet k6, by simp [s5]⟩

set_option maxRecDepth 20000 in
set_option maxHeartbeats 4000000 in
theorem begun7_any (w : World) (hT : TabAt w) :
    Calls Tryd.prog 8 #[] w fun e w' => e = .returned (.bool true) ∧ Keeps [] w w' := by
  have H := hid (h4f_new w)
  have HTT := hid (fun wz (k : Keeps [] w wz) => tabq hT k)
  have HOF := hid (fun wz (h : H4f w wz) => fof_in g4f sm4f (some ⟨w.heap.size + 1 + 1 + 1 + 1, 0, none⟩) 4 (w.heap.size + 5) 0 wz h.gr (by have := h.le; omega) (by decide))
  have h4 : g4f.length = 4 := rfl
  rw [h4] at HOF
  clear hT h4
  go_enter Tryd.func8, Tryd.ntmps8
  go_wp2_with fail
  generalize (((((w.alloc (Obj.cells #[.int .i64 1, .int .i64 2] 3)).alloc (Obj.cells #[.int .i64 3] 3)).alloc (Obj.cells #[.int .i64 3] 3)).alloc (Obj.cells #[.int .i64 0] 3)).alloc (Obj.cells #[.slice (some ⟨w.heap.size, 0, none⟩) 2 2, .slice (some ⟨w.heap.size + 1, 0, none⟩) 1 1, .slice (some ⟨w.heap.size + 1 + 1, 0, none⟩) 1 1, .slice (some ⟨w.heap.size + 1 + 1 + 1, 0, none⟩) 1 1] 23)).alloc (Obj.cells #[.int .i64 4, .slice (some ⟨w.heap.size + 1 + 1 + 1 + 1, 0, none⟩) 4 4] 27) = w1 at H ⊢
  refine (HOF.out w1 H.out).mono ?_
  rintro e w2 ⟨p, q, F, rfl, hM, hF, k2⟩
  have HM2 := hid hM
  have HF := hid hF
  have K2 := hid (H.out.keep.quiet k2)
  have c1 := hM.cell (k := 1) (by decide)
  have HA1 := hid (all_any (q 1) (F 1) w2 (hM.set 1 (by decide)) (hM.fit 1 (by decide)) (HTT.out w2 K2.out))
  rw [val4_1 hF] at HA1
  clear HOF H hM hF k2
  go_wp2_with fail
  refine HA1.out.mono ?_
  rintro e w3 ⟨v, rfl, own3, k3⟩
  obtain ⟨a3, cap3, rfl, hi3, _⟩ := ownsRow_ints own3
  have ka : Keeps [] w3 (w3.alloc (Obj.cells #[.int .i64 3] 3)) := Keeps.alloc _ _ _
  have HM3 := hid ((HM2.out.quiet k3).quiet ka)
  have K3 := hid ((K2.out.quiet k3).quiet ka)
  have HE := hid (eq_any a3 _ cap3 1 [3] [3] _ (hi3.kept ka (by simp)) (lit_ints w3 [3] #[.int .i64 3] rfl) (by decide))
  rw [decide_eq_true rfl] at HE
  clear own3 k3 HA1 HM2 K2 hi3 c1 ka
  go_wp2_with fail
  generalize w3.alloc (Obj.cells #[.int .i64 3] 3) = w4 at HM3 K3 HE ⊢
  refine HE.out.mono ?_
  rintro e w5 ⟨rfl, m5, hw5⟩
  have k5 : Keeps [] w4 w5 := by rw [hw5]; exact Keeps.drewN _ _ _
  have hM5 := HM3.out.quiet k5
  have K5 := hid (K3.out.quiet k5)
  have HM5 := hid hM5
  have c3 := hM5.cell (k := 3) (by decide)
  have HA3 := hid (all_any (q 3) (F 3) w5 (hM5.set 3 (by decide)) (hM5.fit 3 (by decide)) (HTT.out w5 K5.out))
  rw [val4_3 HF.out] at HA3
  clear hw5 k5 hM5 HM3 K3 HE
  go_wp2_with fail
  refine HA3.out.mono ?_
  rintro e w6 ⟨v, rfl, own6, k6⟩
  obtain ⟨a6, cap6, rfl, hi6, _⟩ := ownsRow_ints own6
  have ka : Keeps [] w6 (w6.alloc (Obj.cells #[.int .i64 0] 3)) := Keeps.alloc _ _ _
  have HM6 := hid ((HM5.out.quiet k6).quiet ka)
  have K6 := hid ((K5.out.quiet k6).quiet ka)
  have HE := hid (eq_any a6 _ cap6 1 [0] [0] _ (hi6.kept ka (by simp)) (lit_ints w6 [0] #[.int .i64 0] rfl) (by decide))
  rw [decide_eq_true rfl] at HE
  clear own6 k6 HA3 HM5 K5 hi6 c3 ka
  go_wp2_with fail
  generalize w6.alloc (Obj.cells #[.int .i64 0] 3) = w7 at HM6 K6 HE ⊢
  refine HE.out.mono ?_
  rintro e w8 ⟨rfl, m8, hw8⟩
  have k8 : Keeps [] w7 w8 := by rw [hw8]; exact Keeps.drewN _ _ _
  have ka : Keeps [] w8 (w8.alloc (Obj.cells #[.int .i64 1] 3)) := Keeps.alloc _ _ _
  have HM8 := hid ((HM6.out.quiet k8).quiet ka)
  have K8 := hid ((K6.out.quiet k8).quiet ka)
  have HO := hid (of_any _ 1 [1] _ (lit_ints w8 [1] #[.int .i64 1] rfl) (by decide))
  have h11 : ([1] : List Int).length = 1 := rfl
  rw [h11] at HO
  clear hw8 k8 HM6 K6 HE h11 ka
  go_wp2_with fail
  generalize w8.alloc (Obj.cells #[.int .i64 1] 3) = w9 at HM8 K8 HO ⊢
  refine HO.out.mono ?_
  rintro e w10 ⟨rfl, hs10, k10⟩
  have hM10 := HM8.out.quiet k10
  have K10 := hid (K8.out.quiet k10)
  have HC := hid (closure_any _ p 4 q F _ _ w10 hM10 hs10 (fit_ofI [1]) (HTT.out w10 K10.out))
  clear k10 hM10 HM8 K8 HO hs10
  go_wp2_with fail
  refine HC.out.mono ?_
  rintro e w11 ⟨L, rfl, hs11, hf11, hL, k11⟩
  have K11 := hid (K10.out.quiet k11)
  have HA := hid (all_any _ L w11 hs11 hf11 (HTT.out w11 K11.out))
  rw [val4_clo HF.out hL] at HA
  clear hs11 hf11 hL k11 K10 HC
  go_wp2_with fail
  refine HA.out.mono ?_
  rintro e w12 ⟨v, rfl, own12, k12⟩
  obtain ⟨a12, cap12, rfl, hi12, _⟩ := ownsRow_ints own12
  have ka : Keeps [] w12 (w12.alloc (Obj.cells #[.int .i64 0, .int .i64 3] 3)) := Keeps.alloc _ _ _
  have K12 := hid ((K11.out.quiet k12).quiet ka)
  have HE := hid (eq_any a12 _ cap12 2 [0, 3] [0, 3] _ (hi12.kept ka (by simp)) (lit_ints w12 [0, 3] #[.int .i64 0, .int .i64 3] rfl) (by decide))
  rw [decide_eq_true rfl] at HE
  clear own12 k12 HA K11 hi12 ka
  go_wp2_with fail
  generalize w12.alloc (Obj.cells #[.int .i64 0, .int .i64 3] 3) = w13 at K12 HE ⊢
  refine HE.out.mono ?_
  rintro e w14 ⟨rfl, m14, hw14⟩
  have K14 := hid (K12.out.quiet (c := w14) (by rw [hw14]; exact Keeps.drewN _ _ _))
  clear hw14 K12 HE
  go_wp2
  go_ret
  exact ⟨rfl, K14.out⟩
end Go.Proofs.YtlnimcpmkammfaaDoor
