/-
  ir.first, ir.targets, ir.Number: where a block begins; where an end leads; a point's number.
-/
import Derived.Test.YtknkjblifgppjaaDoorIFun
import Derived.Deep.RegionHeld3
import Derived.BigQuiet
namespace Go.Proofs.YtknkjblifgppjaaDoor
open Go.RowKit

set_option maxHeartbeats 4000000 in
theorem first_any {w : World} {pb po : Nat} {P : Pr8} (h : PrC w pb po P) (hs : Sm8 P) (f b : Nat) (hf : f < P.funcs.length) (hb : b < (fun8 P f).blocks.length) :
    Calls Tryd.prog 30 #[.pointer (some ⟨pb, po, none⟩), .int .i64 (f : Int), .int .i64 (b : Int)] w fun e w' => e = .returned (.int .i64 (pos8 P f b 0 : Int)) ∧ w' = w := by
  obtain ⟨fa, fcp, H⟩ := h.fns
  obtain ⟨fb, fo, ba, bcp, rfl, B⟩ := H.at hf
  obtain ⟨bb, bo, rfl, L⟩ := B.at hb
  have h4 := H.cell
  have h2 := B.cell
  have hN := hs.fn
  have hM := hs.bk f hf
  have hsum := hs.cntF hf (show b ≤ _ by omega)
  have hlast := hid (total_any (fun8 P f) (some ⟨bb, bo, none⟩) b bcp w B.rows (by omega) (by omega))
  have hpos : pos8 P f b 0 = cntP P f + cntF (fun8 P f) b := by rw [pos8_cnt]; rfl
  have hcap := B.cap
  have hmid : Box (∀ k, k < f → ∃ ka kcp, w.cell? ⟨fb, fo + k * 3 + 2, none⟩ = some (.slice ka (fun8 P k).blocks.length kcp) ∧ Calls Tryd.prog 45 #[.slice ka (fun8 P k).blocks.length kcp] w fun e w' => e = .returned (.int .i64 (cntF (fun8 P k) (fun8 P k).blocks.length : Int)) ∧ w' = w) := hid fun k hk => by
    obtain ⟨fb', fo', ka, kcp, e, K⟩ := H.at (f := k) (by omega)
    simp only [Option.some.injEq, Addr.mk.injEq, and_true] at e
    obtain ⟨rfl, rfl⟩ := e
    exact ⟨ka, kcp, K.cell, total_any (fun8 P k) ka _ kcp w K.rows (Nat.le_refl _) (by have := hs.cntF (f := k) (by omega) (Nat.le_refl _); omega)⟩
  have hall : Box (∀ k, k < f → cntP P (k + 1) ≤ 150) := hid fun k hk => by
    have h1 := hs.pt
    rw [pts_cnt] at h1
    exact Nat.le_trans (cntP_mono P (by omega)) h1
  rw [hpos]
  clear hpos h H B L hs
  generalize hfn : P.funcs.length = N at *
  generalize hbn : (fun8 P f).blocks.length = M at *
  clear hfn hbn
  have gf : (f : Int) < (N : Int) := by omega
  have gf0 : (0 : Int) ≤ (f : Int) := by omega
  have gN : (f : Int) ≤ 12 := by omega
  have gb : (b : Int) ≤ (M : Int) := by omega
  have gb0 : (0 : Int) ≤ (b : Int) := by omega
  have gM : (b : Int) ≤ 14 := by omega
  have gc : (b : Int) ≤ (bcp : Int) := by omega
  go_enter Tryd.func30, Tryd.ntmps30
  go_wp2
  go_loop [7, 10] (fun s i => ∃ k : Nat, k ≤ f ∧ i = .int .i64 (k : Int) ∧ s = .int .i64 (cntP P k : Int)) (fun _ i => f - (intOf i).toNat)
  case atStart => exact ⟨0, by omega, rfl, rfl⟩
  case round =>
    obtain ⟨k, hk, rfl, rfl⟩ := hrel
    by_cases hlt : k < f
    · have hlt' : (k : Int) < (f : Int) := by omega
      have hlN : k < N := by omega
      have hlN' : (k : Int) < (N : Int) := by omega
      obtain ⟨ka, kcp, hc, hcl⟩ := hmid.out k hlt
      have hcall := hid hcl
      have hs := cntP_succ P k
      have hle := hall.out k hlt
      clear hcl
      generalize (fun8 P k).blocks.length = m at *
      generalize cntF (fun8 P k) m = c at hs hcall
      generalize hA : cntP P k = A at *
      generalize hB : cntP P (k + 1) = B at *
      have HB := hid hB
      have w1 : ((A : Nat) : Int) + ((c : Nat) : Int) = ((B : Nat) : Int) := by omega
      have w2 : (B : Int) ≤ 150 := by omega
      have w3 : (0 : Int) ≤ (B : Int) := by omega
      have w4 : IntKind.i64.wrap ((A : Int) + (c : Int)) = (B : Int) := by rw [w1]; exact IntWalk.i64_in _ (by omega)
      clear hB hs hA hle
      go_wp2_with (go_at_call 45; refine hcall.out.mono ?_; rintro e w' ⟨rfl, rfl⟩)
      go_round
      case rel => exact ⟨k + 1, by omega, by go_num, by rw [HB.out]⟩
      case measure => simp [intOf]; omega
    · obtain rfl : k = f := by omega
      generalize hC : cntF (fun8 P k) b = c at *
      generalize hA : cntP P k = A at *
      have HC := hid hC
      have HA := hid hA
      clear hC hA
      have w2 : ((A + c : Nat) : Int) ≤ 150 := by omega
      have w3 : (0 : Int) ≤ ((A + c : Nat) : Int) := by omega
      have w4 : IntKind.i64.wrap ((A : Int) + (c : Int)) = ((A + c : Nat) : Int) := by rw [show (A : Int) + (c : Int) = ((A + c : Nat) : Int) by omega]; exact IntWalk.i64_in _ (by omega)
      go_wp2_with (go_at_call 45; refine hlast.out.mono ?_; rintro e w' ⟨rfl, rfl⟩)
      go_ret
      exact ⟨by rw [HC.out, HA.out, Int.natCast_add]; rfl, rfl⟩

/-- Where an end leads. -/
def tosB (x : Bl8) : List Int := if x.fin = 1 then [x.to] else if x.fin = 2 then (if x.els = x.to then [x.to] else [x.to, x.els]) else []
set_option maxHeartbeats 2000000 in
theorem targets_any {w : World} {q o : Nat} {x : Bl8} (h : BlC w q o x) :
    Calls Tryd.prog 44 #[.pointer (some ⟨q, o, none⟩)] w fun e w' => ∃ a cp, e = .returned (.slice a (tosB x).length cp) ∧ IntsAt w' a (tosB x) ∧ Keeps [] w w' := by
  have c1 := h.c1.1
  have c3 := h.c3.1
  have c4 := h.c4.1
  clear h
  unfold tosB
  by_cases f1 : x.fin = 1
  · rw [if_pos f1]
    rw [f1] at c1
    go_enter Tryd.func44, Tryd.ntmps44
    go_wp2
    go_ret
    exact ⟨_, _, rfl, .inr ⟨_, 0, rfl, fun i hi => by obtain rfl : i = 0 := by simpa using hi
                                                      rw [World.cell?_alloc_at _ _ _ _ rfl]; rfl⟩, Keeps.alloc _ _ _⟩
  · rw [if_neg f1]
    have o1 := (show (x.fin == 1) = false by simpa using f1)
    by_cases f2 : x.fin = 2
    · rw [if_pos f2]
      rw [f2] at c1
      by_cases e : x.els = x.to
      · rw [if_pos e]
        rw [e] at c4
        go_enter Tryd.func44, Tryd.ntmps44
        go_wp2_with fail
        go_region
        go_wp2_with fail
        go_ret
        exact ⟨_, _, rfl, .inr ⟨_, 0, rfl, fun i hi => by obtain rfl : i = 0 := by simpa using hi
                                                          show (w.alloc _).cell? _ = _
                                                          rw [World.cell?_alloc_at _ _ _ _ rfl]; rfl⟩, (Keeps.alloc [] _ _).quiet (Keeps.drew [] _)⟩
      · rw [if_neg e]
        have o3 := (show (x.to == x.els) = false by simpa using fun h => e h.symm)
        go_enter Tryd.func44, Tryd.ntmps44
        go_wp2_with fail
        go_region
        go_wp2_with fail
        go_region
        go_wp2_with fail
        go_ret
        exact ⟨_, _, rfl, .inr ⟨_, 0, rfl, fun i hi => by
          show (w.alloc _).cell? _ = _
          rw [World.cell?_alloc_at _ _ _ _ rfl]
          rcases (show i = 0 ∨ i = 1 by simp at hi; omega) with rfl | rfl <;> rfl⟩, ((Keeps.alloc [] _ _).quiet (Keeps.drew [] _)).quiet (Keeps.drew [] _)⟩
    · rw [if_neg f2]
      have o2 := (show (x.fin == 2) = false by simpa using f2)
      go_enter Tryd.func44, Tryd.ntmps44
      go_wp2_with fail
      go_region
      go_wp2_with fail
      go_ret
      exact ⟨_, _, rfl, .inl rfl, Keeps.drew _ _⟩
end Go.Proofs.YtknkjblifgppjaaDoor
