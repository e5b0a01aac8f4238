/-
  Contract: the statements' own Above.
-/
import Derived.Test.YtlnimcpmkammfaaDoorDDomB
import Derived.Test.YtlnimcpmkammfaaDoorGRch
namespace Go.Proofs.YtlnimcpmkammfaaDoor
open Go.RowKit

theorem rav_none : avI (-1) = noS := by
  funext m
  unfold avI noS
  exact decide_eq_false (by omega)
theorem rav_nat (x : Nat) : avI (x : Int) = eqB x := by
  funext m
  unfold avI eqB
  by_cases e : m = x
  · subst e; simp
  · have h1 : ¬ (m : Int) = (x : Int) := by omega
    simp [e, h1]
theorem rnod_one {N r : Nat} (h : r < N) : nodI N [(r : Int)] = [r] := by
  have := nodI_snoc_in (N := N) (zs := []) (z := (r : Int)) (by omega)
  rw [List.nil_append] at this
  rw [this, Int.toNat_natCast]
  rfl
theorem rone_at (w : World) (x : Int) : InAt (w.alloc (Obj.cells #[.int .i64 x] 3)) (w.alloc (Obj.cells #[.int .i64 x] 3)).heap.size (some ⟨w.heap.size, 0, none⟩) [x] :=
  .inr ⟨w.heap.size, 0, rfl, block_lt_of_cell (one_cell w (.int .i64 x) 3), fun i hi => by
    have : i = 0 := by simp at hi; exact hi
    subst this
    exact one_cell w (.int .i64 x) 3⟩
/-- All that is reached; all that is reached without one. -/
theorem rone_all {g : List (List Nat)} (hg : Ok g) {r : Nat} (hr : r < g.length) {s : Nat → Bool} (h : ∀ u, s u = true ↔ ∃ z, z ∈ nodI g.length [(r : Int)] ∧ Pth g (avI (-1)) z u) (u : Nat) : s u = rB g r u := by
  rw [Bool.eq_iff_iff, h u, rB_iff hg u hr, rnod_one hr, rav_none]
  simp
theorem rone_without {g : List (List Nat)} (hg : Ok g) {r : Nat} (hr : r < g.length) {s : Nat → Bool} {x : Nat} (h : ∀ u, s u = true ↔ ∃ z, z ∈ nodI g.length [(r : Int)] ∧ Pth g (avI (x : Int)) z u) (u : Nat) : s u = avB g r x u := by
  rw [Bool.eq_iff_iff, h u, avB_iff hg hr, rnod_one hr, rav_nat]
  simp
theorem domB_self {g : List (List Nat)} (hg : Ok g) {r : Nat} (hr : r < g.length) (a : Nat) : domB g r a a = rB g r a := by
  rw [Bool.eq_iff_iff, domB_iff hg hr, rB_iff hg a hr]
  exact ⟨fun h => h.1, fun h => Dom.refl h⟩
theorem domB_off {g : List (List Nat)} (hg : Ok g) {r : Nat} (hr : r < g.length) {a b : Nat} (h : rB g r a = false) : domB g r a b = false := by
  cases e : domB g r a b with
  | false => rfl
  | true =>
    have h1 := (rB_iff hg a hr).2 ((domB_iff hg hr a b).1 e).on
    rw [h] at h1
    cases h1
/-- What the statements' Above asks. -/
theorem domB_cases {g : List (List Nat)} (hg : Ok g) {r : Nat} (hr : r < g.length) (a b : Nat) : domB g r a b = (rB g r a && rB g r b && ((a == b) || !avB g r a b)) := by
  cases h1 : rB g r a with
  | false => rw [domB_off hg hr h1]; simp
  | true =>
    by_cases e : a = b
    · subst e; rw [domB_self hg hr]; simp [h1]
    · have : (a == b) = false := by simp [e]
      unfold domB
      rw [this]
      simp

set_option maxRecDepth 20000 in
set_option maxHeartbeats 4000000 in
theorem rabove_any (g : List (List Nat)) (hs : Sm g) (a : Option Addr) (cap B : Nat) (w : World) (hG : GAt w B a g) (r x y : Nat) (hr : r < g.length) (hx : x < g.length) (hy : y < g.length) :
    Calls Tryd.prog 19 #[.slice a g.length cap, .int .i64 (r : Int), .int .i64 (x : Int), .int .i64 (y : Int)] w fun e w' => e = .returned (.bool (domB g r x y)) ∧ Keeps [] w w' := by
  have HDC := hid (domB_cases hs.ok hr x y)
  have HRE := hid (fun wz (k : Keeps [] w wz) z => rreach_any g hs a cap B (wz.alloc (Obj.cells #[.int .i64 (r : Int)] 3)) (hG.quiet (k.quiet (Keeps.alloc _ _ _))) (some ⟨wz.heap.size, 0, none⟩) 1 _ [(r : Int)] (rone_at wz (r : Int)) (by simp) z)
  have HRA := hid (fun s h => rone_all hs.ok hr (s := s) h)
  have HRW := hid (fun s h => rone_without hs.ok hr (s := s) (x := x) h)
  have hg6 := hs.len
  obtain ⟨N, hN⟩ : ∃ N, g.length = N := ⟨_, rfl⟩
  rw [hN] at HRE HRA HRW hx hy hg6 ⊢
  clear hs hG hN hr
  have hxN : (x : Int) < (N : Int) := by omega
  have hyN : (y : Int) < (N : Int) := by omega
  go_enter Tryd.func19, Tryd.ntmps19
  go_wp2_with fail
  refine (HRE.out w (Keeps.refl _ _) (-1)).mono ?_
  rintro e w2 ⟨ps, rfl, s, r2, k2, h2⟩
  have K2 := hid ((Keeps.alloc [] w (Obj.cells #[.int .i64 (r : Int)] 3)).quiet k2)
  have cx := r2.cell hx
  have cy := r2.cell hy
  unfold bw at cx cy
  rw [HRA.out s h2] at cx cy
  clear r2 k2 h2 HRA
  cases h1 : rB g r x with
  | false =>
    rw [h1] at cx
    have hd : domB g r x y = false := by rw [HDC.out, h1]; rfl
    have HD := hid hd
    clear hd h1 HRE HRW cy
    go_wp2
    go_ret
    exact ⟨by rw [HD.out]; rfl, K2.out⟩
  | true =>
    rw [h1] at cx
    cases h3 : rB g r y with
    | false =>
      rw [h3] at cy
      have hd : domB g r x y = false := by rw [HDC.out, h3]; simp
      have HD := hid hd
      clear hd h1 h3 HRE HRW
      go_wp2
      go_ret
      exact ⟨by rw [HD.out]; rfl, K2.out⟩
    | true =>
      rw [h3] at cy
      by_cases e : x = y
      · have hd : domB g r x y = true := by rw [HDC.out, h1, h3, e]; simp
        have hb : ((x : Int) == (y : Int)) = true := by rw [e]; simp
        have HD := hid hd
        clear hd h1 h3 HRE HRW e HDC
        go_wp2
        go_ret
        exact ⟨by rw [HD.out]; rfl, K2.out⟩
      · have hd : domB g r x y = !avB g r x y := by
          have : (x == y) = false := by simp [e]
          rw [HDC.out, h1, h3, this]; simp
        have hb : ((x : Int) == (y : Int)) = false := by rw [beq_eq_false_iff_ne]; omega
        have HD := hid hd
        clear hd h1 h3 e HDC
        go_wp2_with fail
        refine (HRE.out w2 K2.out (x : Int)).mono ?_
        rintro e w3 ⟨pt, rfl, t, r3, k3, h4⟩
        have K3 := hid (K2.out.quiet ((Keeps.alloc [] w2 (Obj.cells #[.int .i64 (r : Int)] 3)).quiet k3))
        have ct := r3.cell hy
        unfold bw at ct
        rw [HRW.out t h4] at ct
        clear r3 k3 h4 HRE HRW cx cy K2
        go_wp2
        go_ret
        exact ⟨by rw [HD.out]; rfl, K3.out⟩
end Go.Proofs.YtlnimcpmkammfaaDoor
