/-
  types.Bounds: limits.
-/
import Derived.Test.YtlopddflbhnjdaaDoorTEach
import Derived.Test.YtlopddflbhnjdaaDoorTPts
import Derived.Test.YtlopddflbhnjdaaDoorTAs
namespace Go.Proofs.YtlopddflbhnjdaaDoor
open Go.RowKit

theorem good_instr {w w' : World} {v : Value} {y : In8} (h : InV w v y) : Calls Tryd.prog 87 #[v] w' fun e w2 => e = .returned (.bool (argB y)) ∧ Keeps [] w' w2 := by
  obtain ⟨a, cp, rfl, _⟩ := h
  have hd : (decide ((y.args.length : Int) ≤ 4)) = argB y := by
    show _ = decide _
    congr 1
    exact propext ⟨fun h => by omega, fun h => by omega⟩
  have HD := hid hd
  clear hd
  generalize argB y = res at *
  generalize y.args.length = n at *
  go_enter Tryd.func87, Tryd.ntmps87
  go_wp2
  go_ret
  exact ⟨by first | (rw [← HD.out]; rfl) | (rw [← HD.out]; simp), by first | exact Keeps.refl _ _ | exact Keeps.alloc _ _ _⟩
theorem good_rec {w w' : World} {v : Value} {y : List (Int × Int)} (h : TysV w v y) : Calls Tryd.prog 47 #[v] w' fun e w2 => e = .returned (.bool (recB y)) ∧ Keeps [] w' w2 := by
  obtain ⟨a, cp, rfl, _⟩ := h
  have hd : (decide ((y.length : Int) ≤ 4)) = recB y := by
    show _ = decide _
    congr 1
    exact propext ⟨fun h => by omega, fun h => by omega⟩
  have HD := hid hd
  clear hd
  generalize recB y = res at *
  generalize y.length = n at *
  go_enter Tryd.func47, Tryd.ntmps47
  go_wp2
  go_ret
  exact ⟨by first | (rw [← HD.out]; rfl) | (rw [← HD.out]; simp), by first | exact Keeps.refl _ _ | exact Keeps.alloc _ _ _⟩
theorem good_sig {w w' : World} {v : Value} {y : (List (Int × Int) × Int × Int)} (h : SgV w v y) : Calls Tryd.prog 49 #[v] w' fun e w2 => e = .returned (.bool (sigB y)) ∧ Keeps [] w' w2 := by
  obtain ⟨a, cp, rfl, _⟩ := h
  have hd : (decide ((y.1.length : Int) ≤ 4)) = sigB y := by
    show _ = decide _
    congr 1
    exact propext ⟨fun h => by omega, fun h => by omega⟩
  have HD := hid hd
  clear hd
  generalize sigB y = res at *
  generalize y.1.length = n at *
  go_enter Tryd.func49, Tryd.ntmps49
  go_wp2
  go_ret
  exact ⟨by first | (rw [← HD.out]; rfl) | (rw [← HD.out]; simp), by first | exact Keeps.refl _ _ | exact Keeps.alloc _ _ _⟩
theorem good_iface {w w' : World} {v : Value} {y : List Int} (h : IfV w v y) : Calls Tryd.prog 51 #[v] w' fun e w2 => e = .returned (.bool (ifB y)) ∧ Keeps [] w' w2 := by
  obtain ⟨a, cp, rfl, _⟩ := h
  have hd : (decide ((y.length : Int) ≤ 3)) = ifB y := by
    show _ = decide _
    congr 1
    exact propext ⟨fun h => by omega, fun h => by omega⟩
  have HD := hid hd
  clear hd
  generalize ifB y = res at *
  generalize y.length = n at *
  go_enter Tryd.func51, Tryd.ntmps51
  go_wp2
  go_ret
  exact ⟨by first | (rw [← HD.out]; rfl) | (rw [← HD.out]; simp), by first | exact Keeps.refl _ _ | exact Keeps.alloc _ _ _⟩
theorem good_impl {w w' : World} {v : Value} {y : (Int × Int × List Int)} (h : ImV w v y) : Calls Tryd.prog 53 #[v] w' fun e w2 => e = .returned (.bool (imB y)) ∧ Keeps [] w' w2 := by
  obtain ⟨a, cp, rfl, _⟩ := h
  have hd : (decide ((y.2.2.length : Int) ≤ 3)) = imB y := by
    show _ = decide _
    congr 1
    exact propext ⟨fun h => by omega, fun h => by omega⟩
  have HD := hid hd
  clear hd
  generalize imB y = res at *
  generalize y.2.2.length = n at *
  go_enter Tryd.func53, Tryd.ntmps53
  go_wp2
  go_ret
  exact ⟨by first | (rw [← HD.out]; rfl) | (rw [← HD.out]; simp), by first | exact Keeps.refl _ _ | exact Keeps.alloc _ _ _⟩
theorem SlV.keeps {α : Type} {c : Nat} {R : World → Nat → Nat → α → Prop} {w w' : World} {v : Value} {l : List α} (hR : Stays R) (h : SlV c R w v l) (k : Keeps [] w w') : SlV c R w' v l := by
  obtain ⟨a, cp, h1, h2, h3⟩ := h
  exact ⟨a, cp, h1, h2.quiet hR k, h3⟩
theorem good_block {w w' : World} {v : Value} {y : Bl8} (hk : Keeps [] w w') (h : BlV w v y) : Calls Tryd.prog 79 #[v] w' fun e w2 => e = .returned (.bool (blkB y)) ∧ Keeps [] w' w2 := by
  obtain ⟨a, cp, rfl, hc, h1, h2, h3, h4⟩ := h
  have ka := Keeps.alloc [] w' (.cells #[.slice a y.code.length cp, .int .i64 y.fin, .int .i64 y.reg, .int .i64 y.to, .int .i64 y.els] 44)
  have HC := hid (each_instr (hc.keeps InC.stays (hk.quiet ka)) 30 argB (by omega) fun w3 v z _ hv => good_instr hv)
  have HK := hid ka
  clear hc ka hk
  go_enter Tryd.func79, Tryd.ntmps79
  go_wp2_with fail
  refine HC.out.mono ?_
  rintro e w3 ⟨rfl, k3⟩
  have K3 := hid (HK.out.quiet k3)
  clear k3
  have HB : Box (lenB y.code 30 argB = blkB y) := hid rfl
  rw [HB.out]
  go_wp2_with fail
  go_ret
  exact ⟨rfl, K3.out⟩
set_option maxHeartbeats 2000000 in
theorem good_func {w w' : World} {v : Value} {y : Fu8} (hk : Keeps [] w w') (h : FuV w v y) : Calls Tryd.prog 55 #[v] w' fun e w2 => e = .returned (.bool (fnB y)) ∧ Keeps [] w' w2 := by
  obtain ⟨a, cp, a', cp', rfl, h1, h2, h3⟩ := h
  have ka := Keeps.alloc [] w' (.cells #[.int .i64 y.sig, .slice a y.regs.length cp, .slice a' y.blocks.length cp'] 29)
  have HC := hid (each_block (h3.keeps BlC.stays (hk.quiet ka)) 12 blkB (by omega) fun w3 v z k hv => good_block k hv)
  have HK := hid ka
  have HE : Box (fnB y = (decide (y.regs.length ≤ 16) && (decide (0 < y.blocks.length) && lenB y.blocks 12 blkB))) := hid rfl
  clear h2 h3 ka hk h1
  generalize fnB y = res at *
  generalize lenB y.blocks 12 blkB = r2 at *
  generalize y.regs.length = n at *
  generalize y.blocks.length = m at *
  by_cases g1 : n ≤ 16
  · have g1' : (n : Int) ≤ 16 := by omega
    by_cases g2 : 0 < m
    · have g2' : (0 : Int) < (m : Int) := by omega
      have HR : Box (res = r2) := hid (by rw [HE.out]; simp [g1, g2])
      clear HE
      go_enter Tryd.func55, Tryd.ntmps55
      go_wp2_with fail
      refine HC.out.mono ?_
      rintro e w3 ⟨rfl, k3⟩
      have K3 := hid (HK.out.quiet k3)
      clear k3
      go_wp2_with fail
      go_ret
      exact ⟨by rw [HR.out]; rfl, K3.out⟩
    · have g2' : ¬ (0 : Int) < (m : Int) := by omega
      have HR : Box (res = false) := hid (by rw [HE.out]; simp [g2])
      clear HE
      go_enter Tryd.func55, Tryd.ntmps55
      go_wp2_with fail
      go_ret
      exact ⟨by rw [HR.out]; rfl, HK.out⟩
  · have g1' : ¬ (n : Int) ≤ 16 := by omega
    have HR : Box (res = false) := hid (by rw [HE.out]; simp [g1])
    clear HE
    go_enter Tryd.func55, Tryd.ntmps55
    go_wp2_with fail
    go_ret
    exact ⟨by rw [HR.out]; rfl, HK.out⟩
theorem tabB_sm {P : Pr8} (h : lenB P.funcs 12 fnB = true) : Sm10 P := by
  have hf : ∀ f, f < P.funcs.length → fnB (fun8 P f) = true := fun f hf => lenB_all h (getD_get hf)
  have hb : ∀ f, f < P.funcs.length → lenB (fun8 P f).blocks 12 blkB = true := fun f h1 => by
    have := hf f h1
    unfold fnB at this
    simp only [Bool.and_eq_true] at this
    exact this.2.2
  refine ⟨lenB_len h, fun f h1 => lenB_len (hb f h1), fun {f b} h1 h2 => ?_⟩
  have h3 := lenB_all (hb f h1) (show (fun8 P f).blocks[b]? = some (blk8 (fun8 P f) b) from getD_get h2)
  unfold blkB at h3
  exact lenB_len h3
end Go.Proofs.YtlopddflbhnjdaaDoor
