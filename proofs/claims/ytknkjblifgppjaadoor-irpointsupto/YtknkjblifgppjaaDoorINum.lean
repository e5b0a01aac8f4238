/-
  ir.Number: a point's number.
-/
import Derived.Test.YtknkjblifgppjaaDoorIFst
namespace Go.Proofs.YtknkjblifgppjaaDoor
open Go.RowKit

/-- A point's number; -1 of what is none. -/
def num8 (P : Pr8) (f b i : Int) : Int := if IsBk P f b then (if 0 ≤ i ∧ i ≤ ((blk8 (fun8 P f.toNat) b.toNat).code.length : Int) then (pos8 P f.toNat b.toNat i.toNat : Int) else -1) else -1
def ptV (f b i : Int) : Value := .agg #[.int .i64 f, .int .i64 b, .int .i64 i]
theorem keeps_prc {w : World} {pb po : Nat} {P : Pr8} (h : PrC w pb po P) (o : Obj) : PrC (w.alloc o) pb po P := PrC.stays _ _ _ _ _ (Keeps.alloc [] w o) h

set_option maxHeartbeats 4000000 in
theorem number_nil (f b i : Int) (w : World) : Calls Tryd.prog 13 #[.pointer none, ptV f b i] w fun e w' => e = .returned (.int .i64 (-1)) ∧ Keeps [] w w' := by
  have hb := hid fun w => block_nil f b w
  unfold ptV
  go_enter Tryd.func13, Tryd.ntmps13
  go_wp2_with (go_at_call 29; refine (hb.out _).mono ?_; rintro e w' ⟨rfl, rfl⟩)
  go_quiet (fail)
  go_wp2_with fail
  go_ret
  exact ⟨rfl, (Keeps.alloc [] _ _).quiet (Keeps.drewN [] _ _)⟩
set_option maxHeartbeats 4000000 in
theorem number_no {w : World} {pb po : Nat} {P : Pr8} (h : PrC w pb po P) (f b i : Int) (hn : ¬ IsBk P f b) : Calls Tryd.prog 13 #[.pointer (some ⟨pb, po, none⟩), ptV f b i] w fun e w' => e = .returned (.int .i64 (-1)) ∧ Keeps [] w w' := by
  have hb := hid fun o => block_no (keeps_prc h o) hn
  unfold ptV
  clear h hn
  go_enter Tryd.func13, Tryd.ntmps13
  go_wp2_with (go_at_call 29; refine (hb.out _).mono ?_; rintro e w' ⟨rfl, rfl⟩)
  go_quiet (fail)
  go_wp2_with fail
  go_ret
  exact ⟨rfl, (Keeps.alloc [] _ _).quiet (Keeps.drewN [] _ _)⟩
set_option maxHeartbeats 4000000 in
theorem number_off {w : World} {pb po : Nat} {P : Pr8} (h : PrC w pb po P) (hs : Sm8 P) (f b i : Int) (hb : IsBk P f b) (hi : ¬ (0 ≤ i ∧ i ≤ ((blk8 (fun8 P f.toNat) b.toNat).code.length : Int))) : Calls Tryd.prog 13 #[.pointer (some ⟨pb, po, none⟩), ptV f b i] w fun e w' => e = .returned (.int .i64 (-1)) ∧ Keeps [] w w' := by
  unfold ptV
  obtain ⟨W, hW⟩ : ∃ W, W = w.alloc (.cells #[.int .i64 f, .int .i64 b, .int .i64 i] 24) := ⟨_, rfl⟩
  have K0 := hid (show Keeps [] w W by rw [hW]; exact Keeps.alloc _ _ _)
  have hP : PrC W pb po P := PrC.stays _ _ _ _ _ K0.out h
  have c0 : W.cell? ⟨w.heap.size, 0, none⟩ = some (.int .i64 f) := by rw [hW, World.cell?_alloc_at _ _ _ _ rfl]; rfl
  have c1 : W.cell? ⟨w.heap.size, 1, none⟩ = some (.int .i64 b) := by rw [hW, World.cell?_alloc_at _ _ _ _ rfl]; rfl
  have c2 : W.cell? ⟨w.heap.size, 2, none⟩ = some (.int .i64 i) := by rw [hW, World.cell?_alloc_at _ _ _ _ rfl]; rfl
  obtain ⟨q, o, L, hc⟩ := block_yes hP hb
  have hblk := hid hc
  obtain ⟨ca, ccp, hcc, _⟩ := L.c0
  have hcode := hs.code (f := f.toNat) (b := b.toNat) (by have := hb.1; have := hb.2.1; omega) (by have := hb.2.2; omega)
  generalize (blk8 (fun8 P f.toNat) b.toNat).code.length = n at *
  have hsz := hid fun (w' : World) (e : w'.cell? ⟨q, o, none⟩ = some (.slice ca n ccp)) => size_any q o n ccp ca w' e (by omega)
  have HW := hid hW
  clear h hs hb hP L hc hW
  have g3 : ((n + 1 : Nat) : Int) ≤ 150 := by omega
  by_cases g : i < 0
  · clear hi
    go_enter Tryd.func13, Tryd.ntmps13
    go_wp2_with fail
    rw [← HW.out]
    clear HW
    generalize w.heap.size = z at *
    go_wp2_with (go_at_call 29; refine hblk.out.mono ?_; rintro e w' ⟨rfl, rfl⟩)
    go_quiet (fail)
    go_wp2_with fail
    go_ret
    exact ⟨rfl, K0.out.quiet (Keeps.drewN [] _ _)⟩
  · have g2 : ((n + 1 : Nat) : Int) ≤ i := by omega
    have g4 : (n : Int) + 1 ≤ i := by omega
    clear hi
    go_enter Tryd.func13, Tryd.ntmps13
    go_wp2_with fail
    rw [← HW.out]
    clear HW
    generalize w.heap.size = z at *
    go_wp2_with (go_at_call 29; refine hblk.out.mono ?_; rintro e w' ⟨rfl, rfl⟩)
    go_quiet ((go_at_call 28; exact Calls.quiet_of_same (hsz.out _ hcc)))
    go_wp2_with fail
    go_ret
    exact ⟨rfl, K0.out.quiet (Keeps.drewN [] _ _)⟩
set_option maxHeartbeats 4000000 in
theorem number_in {w : World} {pb po : Nat} {P : Pr8} (h : PrC w pb po P) (hs : Sm8 P) (f b i : Nat) (hp : IsPt P f b i) : Calls Tryd.prog 13 #[.pointer (some ⟨pb, po, none⟩), ptV f b i] w fun e w' => e = .returned (.int .i64 (pos8 P f b i : Int)) ∧ Keeps [] w w' := by
  unfold ptV
  obtain ⟨W, hW⟩ : ∃ W, W = w.alloc (.cells #[.int .i64 (f : Int), .int .i64 (b : Int), .int .i64 (i : Int)] 24) := ⟨_, rfl⟩
  have K0 := hid (show Keeps [] w W by rw [hW]; exact Keeps.alloc _ _ _)
  have hP : PrC W pb po P := PrC.stays _ _ _ _ _ K0.out h
  have c0 : W.cell? ⟨w.heap.size, 0, none⟩ = some (.int .i64 (f : Int)) := by rw [hW, World.cell?_alloc_at _ _ _ _ rfl]; rfl
  have c1 : W.cell? ⟨w.heap.size, 1, none⟩ = some (.int .i64 (b : Int)) := by rw [hW, World.cell?_alloc_at _ _ _ _ rfl]; rfl
  have c2 : W.cell? ⟨w.heap.size, 2, none⟩ = some (.int .i64 (i : Int)) := by rw [hW, World.cell?_alloc_at _ _ _ _ rfl]; rfl
  obtain ⟨p1, p2, p3⟩ := hp
  obtain ⟨q, o, L, hc⟩ := block_yes hP (f := (f : Int)) (b := (b : Int)) ⟨by omega, by omega, by omega, by simpa using p2⟩
  rw [Int.toNat_natCast, Int.toNat_natCast] at L
  have hblk := hid hc
  have hfst := hid fun (w' : World) (k : PrC w' pb po P) => first_any k hs f b p1 p2
  have HP := hid hP
  obtain ⟨ca, ccp, hcc, _⟩ := L.c0
  have hcode := hs.code p1 p2
  have hle : pos8 P f b i ≤ 150 := by have := hs.pt; have := pos8_lt (p := P) ⟨p1, p2, p3⟩; omega
  have hpos : pos8 P f b i = pos8 P f b 0 + i := rfl
  generalize (blk8 (fun8 P f) b).code.length = n at *
  have hsz := hid fun (w' : World) (e : w'.cell? ⟨q, o, none⟩ = some (.slice ca n ccp)) => size_any q o n ccp ca w' e (by omega)
  generalize pos8 P f b 0 = A at *
  rw [hpos]
  rw [hpos] at hle
  have HW := hid hW
  clear h hs hP L hc hW hpos p1 p2
  have g1 : ¬ (i : Int) < 0 := by omega
  have g2 : (i : Int) < (n : Int) + 1 := by omega
  have g4 : (A : Int) + (i : Int) ≤ 150 := by omega
  have w4 : IntKind.i64.wrap ((A : Int) + (i : Int)) = (A : Int) + (i : Int) := IntWalk.i64_in _ (by omega)
  go_enter Tryd.func13, Tryd.ntmps13
  go_wp2_with fail
  rw [← HW.out]
  clear HW
  generalize w.heap.size = z at *
  go_wp2_with (go_at_call 29; refine hblk.out.mono ?_; rintro e w' ⟨rfl, rfl⟩)
  go_quiet ((go_at_call 28; exact Calls.quiet_of_same (hsz.out _ hcc)))
  go_wp2_with fail
  have K2 := hid (K0.out.quiet (Keeps.drewN [] w' nq))
  have HP2 := hid (PrC.stays _ _ _ _ _ (Keeps.drewN [] w' nq) HP.out)
  have d0 : (w'.drewN nq).cell? ⟨z, 0, none⟩ = some (.int .i64 (f : Int)) := c0
  have d1 : (w'.drewN nq).cell? ⟨z, 1, none⟩ = some (.int .i64 (b : Int)) := c1
  have d2 : (w'.drewN nq).cell? ⟨z, 2, none⟩ = some (.int .i64 (i : Int)) := c2
  generalize w'.drewN nq = w2 at *
  clear c0 c1 c2 hcc
  go_quiet ((go_at_call 30; exact Calls.quiet_of_same (hfst.out _ (PrC.stays _ _ _ _ _ (Keeps.drewN [] _ _) HP2.out))))
  go_wp2_with fail
  go_ret
  exact ⟨by rw [Int.natCast_add]; rfl, K2.out.quiet (Keeps.drewN [] _ _)⟩
theorem number_any {w : World} {pb po : Nat} {P : Pr8} (h : PrC w pb po P) (hs : Sm8 P) (f b i : Int) : Calls Tryd.prog 13 #[.pointer (some ⟨pb, po, none⟩), ptV f b i] w fun e w' => e = .returned (.int .i64 (num8 P f b i)) ∧ Keeps [] w w' := by
  unfold num8
  by_cases hb : IsBk P f b
  · rw [if_pos hb]
    by_cases hi : 0 ≤ i ∧ i ≤ ((blk8 (fun8 P f.toNat) b.toNat).code.length : Int)
    · rw [if_pos hi]
      have := number_in h hs f.toNat b.toNat i.toNat ⟨by have := hb.1; have := hb.2.1; omega, by have := hb.2.2; omega, by omega⟩
      rw [show ((f.toNat : Nat) : Int) = f by have := hb.1; omega, show ((b.toNat : Nat) : Int) = b by have := hb.2.2; omega, show ((i.toNat : Nat) : Int) = i by omega] at this
      exact this
    · rw [if_neg hi]
      exact number_off h hs f b i hb hi
  · rw [if_neg hb]
    exact number_no h f b i hb
end Go.Proofs.YtknkjblifgppjaaDoor
