/-
  (*refuse.Error).Error: a refusal's text.
-/
import Derived.Test.YtjofffhfabmfkaaDoorRText
import Derived.Deep.RegionHeld3
namespace Go.Proofs.YtjofffhfabmfkaaDoor
open Go.RowKit

theorem error_nil (w : World) : Calls Tryd.prog 15 #[.pointer none] w fun e w' => e = .returned (.string ⟨#[]⟩) ∧ w' = w := by
  go_enter Tryd.func15, Tryd.ntmps15
  go_wp2
  go_ret
  exact ⟨rfl, rfl⟩

theorem error_bare (p : Nat) (y f b i : Int) (v : Value) (w : World) (h : w.heap[p]? = some (.cells #[.int .i64 y, .int .i64 f, .int .i64 b, .int .i64 i, v] 44 (0, 0))) (hf : ¬ 0 ≤ f) :
    Calls Tryd.prog 15 #[.pointer (some ⟨p, 0, none⟩)] w fun e w' => e = .returned (.string (textB y f b i)) ∧ Keeps [] w w' := by
  have hp := placed_any p y f b i v w h
  have c0 := pcell h 0
  have hd : decide (0 ≤ f) = false := by simpa using hf
  have ht : textB y f b i = nameB y := by unfold textB; rw [if_neg hf]
  rw [ht]
  rw [hd] at hp
  clear ht hd hf h
  go_enter Tryd.func15, Tryd.ntmps15
  go_wp2_with (first
    | (go_at_call 30; refine hp.mono ?_; rintro e w' ⟨rfl, rfl⟩)
    | (go_at_call 12; refine (name12_any y _).mono ?_; rintro e w' ⟨rfl, rfl⟩))
  go_ret
  exact ⟨rfl, Keeps.refl _ _⟩

set_option maxHeartbeats 4000000 in
theorem error_placed (p : Nat) (y f b i : Int) (v : Value) (w : World) (h : w.heap[p]? = some (.cells #[.int .i64 y, .int .i64 f, .int .i64 b, .int .i64 i, v] 44 (0, 0))) (hg : Glob w) (hf : 0 ≤ f) (w1 : wf64 f) (w2 : wf64 b) (w3 : wf64 i) :
    Calls Tryd.prog 15 #[.pointer (some ⟨p, 0, none⟩)] w fun e w' => e = .returned (.string (textB y f b i)) ∧ Keeps [] w w' := by
  have hp := placed_any p y f b i v w h
  have hd : decide (0 ≤ f) = true := by simpa using hf
  have ht : textB y f b i = nameB y ++ atB ++ decB f ++ dotB ++ decB b ++ dotB ++ decB i := by unfold textB; rw [if_pos hf]
  rw [ht]
  rw [hd] at hp
  have hnew : Box (∀ w', Keeps [] w w' → Box (Keeps [] w w') ∧ w'.cell? ⟨p, 0, none⟩ = some (.int .i64 y) ∧ w'.cell? ⟨p, 1, none⟩ = some (.int .i64 f) ∧ w'.cell? ⟨p, 2, none⟩ = some (.int .i64 b) ∧ w'.cell? ⟨p, 3, none⟩ = some (.int .i64 i)) := hid fun w' k => by
    have hh := (k.block p (heap_lt h) (by simp)).trans h
    exact ⟨hid k, pcell hh 0, pcell hh 1, pcell hh 2, pcell hh 3⟩
  have z0 := nameB_size y
  have z1 := decB_size f w1.1 w1.2
  have z2 := decB_size b w2.1 w2.2
  have z3 := decB_size i w3.1 w3.2
  have HN := hid fun w' (s : Box (Keeps [] w w') ∧ w'.cell? ⟨p, 0, none⟩ = some (.int .i64 y) ∧ w'.cell? ⟨p, 1, none⟩ = some (.int .i64 f) ∧ w'.cell? ⟨p, 2, none⟩ = some (.int .i64 b) ∧ w'.cell? ⟨p, 3, none⟩ = some (.int .i64 i)) => (name12_any y w').mono fun e w2 (hh : e = _ ∧ w2 = _) => (⟨hh.1, hnew.out w2 (by rw [hh.2]; exact s.1.out)⟩ : _ ∧ _)
  have HF := hid fun w' (s : Box (Keeps [] w w') ∧ w'.cell? ⟨p, 0, none⟩ = some (.int .i64 y) ∧ w'.cell? ⟨p, 1, none⟩ = some (.int .i64 f) ∧ w'.cell? ⟨p, 2, none⟩ = some (.int .i64 b) ∧ w'.cell? ⟨p, 3, none⟩ = some (.int .i64 i)) => (itoa_keep f w1 w' (hg.quiet s.1.out)).mono fun e w2 (hh : e = _ ∧ Keeps [] w' w2) => (⟨hh.1, hnew.out w2 (s.1.out.step hh.2)⟩ : _ ∧ _)
  have HB := hid fun w' (s : Box (Keeps [] w w') ∧ w'.cell? ⟨p, 0, none⟩ = some (.int .i64 y) ∧ w'.cell? ⟨p, 1, none⟩ = some (.int .i64 f) ∧ w'.cell? ⟨p, 2, none⟩ = some (.int .i64 b) ∧ w'.cell? ⟨p, 3, none⟩ = some (.int .i64 i)) => (itoa_keep b w2 w' (hg.quiet s.1.out)).mono fun e w2 (hh : e = _ ∧ Keeps [] w' w2) => (⟨hh.1, hnew.out w2 (s.1.out.step hh.2)⟩ : _ ∧ _)
  have HI := hid fun w' (s : Box (Keeps [] w w') ∧ w'.cell? ⟨p, 0, none⟩ = some (.int .i64 y) ∧ w'.cell? ⟨p, 1, none⟩ = some (.int .i64 f) ∧ w'.cell? ⟨p, 2, none⟩ = some (.int .i64 b) ∧ w'.cell? ⟨p, 3, none⟩ = some (.int .i64 i)) => (itoa_keep i w3 w' (hg.quiet s.1.out)).mono fun e w2 (hh : e = _ ∧ Keeps [] w' w2) => (⟨hh.1, hnew.out w2 (s.1.out.step hh.2)⟩ : _ ∧ _)
  clear ht hd hg
  generalize nameB y = N at *
  generalize decB f = F at *
  generalize decB b = B at *
  generalize decB i = I at *
  obtain ⟨S1, E1⟩ : ∃ S, S = N ++ atB := ⟨_, rfl⟩
  obtain ⟨S2, E2⟩ : ∃ S, S = S1 ++ F := ⟨_, rfl⟩
  obtain ⟨S3, E3⟩ : ∃ S, S = S2 ++ dotB := ⟨_, rfl⟩
  obtain ⟨S4, E4⟩ : ∃ S, S = S3 ++ B := ⟨_, rfl⟩
  obtain ⟨S5, E5⟩ : ∃ S, S = S4 ++ dotB := ⟨_, rfl⟩
  obtain ⟨S6, E6⟩ : ∃ S, S = S5 ++ I := ⟨_, rfl⟩
  have a0 : atB.size = 4 := rfl
  have a1 : dotB.size = 1 := rfl
  have t1 : S1.size = N.size + 4 := by rw [E1, ByteArray.size_append, a0]
  have t2 : S2.size = S1.size + F.size := by rw [E2, ByteArray.size_append]
  have t3 : S3.size = S2.size + 1 := by rw [E3, ByteArray.size_append, a1]
  have t4 : S4.size = S3.size + B.size := by rw [E4, ByteArray.size_append]
  have t5 : S5.size = S4.size + 1 := by rw [E5, ByteArray.size_append, a1]
  have U1 : Box (N.size + 4 ≤ 1000 ∧ S1 = N ++ atB) := hid ⟨by omega, E1⟩
  have U2 : Box (S1.size + F.size ≤ 1000 ∧ S2 = S1 ++ F) := hid ⟨by omega, E2⟩
  have U3 : Box (S2.size + 1 ≤ 1000 ∧ S3 = S2 ++ dotB) := hid ⟨by omega, E3⟩
  have U4 : Box (S3.size + B.size ≤ 1000 ∧ S4 = S3 ++ B) := hid ⟨by omega, E4⟩
  have U5 : Box (S4.size + 1 ≤ 1000 ∧ S5 = S4 ++ dotB) := hid ⟨by omega, E5⟩
  have U6 : Box (S5.size + I.size ≤ 1000 ∧ S6 = S5 ++ I) := hid ⟨by omega, E6⟩
  rw [← E1, ← E2, ← E3, ← E4, ← E5, ← E6]
  clear E1 E2 E3 E4 E5 E6 t1 t2 t3 t4 t5 a0 a1 z0 z1 z2 z3 w1 w2 w3 hf
  have hs0 := hnew.out w.drew (Keeps.drew _ _)
  clear hnew h
  go_enter Tryd.func15, Tryd.ntmps15
  go_wp2_with (go_at_call 30; refine hp.mono ?_; rintro e w' ⟨rfl, rfl⟩)
  refine wp_region_held_drew (S := fun w' => Box (Keeps [] _ w') ∧ w'.cell? ⟨p, 0, none⟩ = some (.int .i64 y) ∧ w'.cell? ⟨p, 1, none⟩ = some (.int .i64 f) ∧ w'.cell? ⟨p, 2, none⟩ = some (.int .i64 b) ∧ w'.cell? ⟨p, 3, none⟩ = some (.int .i64 i)) (by kernel_rfl) hs0 (fun _ => ?_)
  refine take_yield (i := 0) (d := 13) (v := .pointer (some ⟨p, 0, none⟩)) rfl rfl (by as_aux_lemma => kernel_rfl) (by as_aux_lemma => kernel_rfl) (by as_aux_lemma => kernel_rfl) (fun _ _ _ h => h) (by rfl) hs0 (fun w9 hw9 => by (try dsimp only at hw9); go_simp) ?_
  simp only [Act.put, List.setIfInBounds_toArray, List.set_cons_zero, List.set_cons_succ]
  refine take_yield (i := 1) (d := 14) (v := .pointer (some ⟨p, 0, none⟩)) rfl rfl (by as_aux_lemma => kernel_rfl) (by as_aux_lemma => kernel_rfl) (by as_aux_lemma => kernel_rfl) (fun _ _ _ h => h) (by rfl) hs0 (fun w9 hw9 => by (try dsimp only at hw9); go_simp) ?_
  simp only [Act.put, List.setIfInBounds_toArray, List.set_cons_zero, List.set_cons_succ]
  refine take_yield (i := 2) (d := 15) (v := .pointer (some ⟨p, 0, none⟩)) rfl rfl (by as_aux_lemma => kernel_rfl) (by as_aux_lemma => kernel_rfl) (by as_aux_lemma => kernel_rfl) (fun _ _ _ h => h) (by rfl) hs0 (fun w9 hw9 => by (try dsimp only at hw9); go_simp) ?_
  simp only [Act.put, List.setIfInBounds_toArray, List.set_cons_zero, List.set_cons_succ]
  refine take_yield (i := 3) (d := 16) (v := .int .i64 y) rfl rfl (by as_aux_lemma => kernel_rfl) (by as_aux_lemma => kernel_rfl) (by as_aux_lemma => kernel_rfl) (fun _ _ _ h => h) (by rfl) hs0 (fun w9 hw9 => by (try dsimp only at hw9); go_simp) ?_
  simp only [Act.put, List.setIfInBounds_toArray, List.set_cons_zero, List.set_cons_succ]
  refine take_yield (i := 6) (d := 19) (v := .pointer (some ⟨p, 0, none⟩)) rfl rfl (by as_aux_lemma => kernel_rfl) (by as_aux_lemma => kernel_rfl) (by as_aux_lemma => kernel_rfl) (fun _ _ _ h => h) (by rfl) hs0 (fun w9 hw9 => by (try dsimp only at hw9); go_simp) ?_
  simp only [Act.put, List.setIfInBounds_toArray, List.set_cons_zero, List.set_cons_succ]
  refine take_yield (i := 7) (d := 20) (v := .pointer (some ⟨p, 0, none⟩)) rfl rfl (by as_aux_lemma => kernel_rfl) (by as_aux_lemma => kernel_rfl) (by as_aux_lemma => kernel_rfl) (fun _ _ _ h => h) (by rfl) hs0 (fun w9 hw9 => by (try dsimp only at hw9); go_simp) ?_
  simp only [Act.put, List.setIfInBounds_toArray, List.set_cons_zero, List.set_cons_succ]
  refine take_yield (i := 8) (d := 21) (v := .pointer (some ⟨p, 1, none⟩)) rfl rfl (by as_aux_lemma => kernel_rfl) (by as_aux_lemma => kernel_rfl) (by as_aux_lemma => kernel_rfl) (fun _ _ _ h => h) (by rfl) hs0 (fun w9 hw9 => by (try dsimp only at hw9); go_simp) ?_
  simp only [Act.put, List.setIfInBounds_toArray, List.set_cons_zero, List.set_cons_succ]
  refine take_yield (i := 9) (d := 22) (v := .pointer (some ⟨p, 1, none⟩)) rfl rfl (by as_aux_lemma => kernel_rfl) (by as_aux_lemma => kernel_rfl) (by as_aux_lemma => kernel_rfl) (fun _ _ _ h => h) (by rfl) hs0 (fun w9 hw9 => by (try dsimp only at hw9); go_simp) ?_
  simp only [Act.put, List.setIfInBounds_toArray, List.set_cons_zero, List.set_cons_succ]
  refine take_yield (i := 10) (d := 23) (v := .int .i64 f) rfl rfl (by as_aux_lemma => kernel_rfl) (by as_aux_lemma => kernel_rfl) (by as_aux_lemma => kernel_rfl) (fun _ _ _ h => h) (by rfl) hs0 (fun w9 hw9 => by (try dsimp only at hw9); go_simp) ?_
  simp only [Act.put, List.setIfInBounds_toArray, List.set_cons_zero, List.set_cons_succ]
  refine take_yield (i := 14) (d := 27) (v := .pointer (some ⟨p, 0, none⟩)) rfl rfl (by as_aux_lemma => kernel_rfl) (by as_aux_lemma => kernel_rfl) (by as_aux_lemma => kernel_rfl) (fun _ _ _ h => h) (by rfl) hs0 (fun w9 hw9 => by (try dsimp only at hw9); go_simp) ?_
  simp only [Act.put, List.setIfInBounds_toArray, List.set_cons_zero, List.set_cons_succ]
  refine take_yield (i := 15) (d := 28) (v := .pointer (some ⟨p, 0, none⟩)) rfl rfl (by as_aux_lemma => kernel_rfl) (by as_aux_lemma => kernel_rfl) (by as_aux_lemma => kernel_rfl) (fun _ _ _ h => h) (by rfl) hs0 (fun w9 hw9 => by (try dsimp only at hw9); go_simp) ?_
  simp only [Act.put, List.setIfInBounds_toArray, List.set_cons_zero, List.set_cons_succ]
  refine take_yield (i := 16) (d := 29) (v := .pointer (some ⟨p, 1, none⟩)) rfl rfl (by as_aux_lemma => kernel_rfl) (by as_aux_lemma => kernel_rfl) (by as_aux_lemma => kernel_rfl) (fun _ _ _ h => h) (by rfl) hs0 (fun w9 hw9 => by (try dsimp only at hw9); go_simp) ?_
  simp only [Act.put, List.setIfInBounds_toArray, List.set_cons_zero, List.set_cons_succ]
  refine take_yield (i := 17) (d := 30) (v := .pointer (some ⟨p, 2, none⟩)) rfl rfl (by as_aux_lemma => kernel_rfl) (by as_aux_lemma => kernel_rfl) (by as_aux_lemma => kernel_rfl) (fun _ _ _ h => h) (by rfl) hs0 (fun w9 hw9 => by (try dsimp only at hw9); go_simp) ?_
  simp only [Act.put, List.setIfInBounds_toArray, List.set_cons_zero, List.set_cons_succ]
  refine take_yield (i := 18) (d := 31) (v := .int .i64 b) rfl rfl (by as_aux_lemma => kernel_rfl) (by as_aux_lemma => kernel_rfl) (by as_aux_lemma => kernel_rfl) (fun _ _ _ h => h) (by rfl) hs0 (fun w9 hw9 => by (try dsimp only at hw9); go_simp) ?_
  simp only [Act.put, List.setIfInBounds_toArray, List.set_cons_zero, List.set_cons_succ]
  refine take_yield (i := 22) (d := 35) (v := .pointer (some ⟨p, 0, none⟩)) rfl rfl (by as_aux_lemma => kernel_rfl) (by as_aux_lemma => kernel_rfl) (by as_aux_lemma => kernel_rfl) (fun _ _ _ h => h) (by rfl) hs0 (fun w9 hw9 => by (try dsimp only at hw9); go_simp) ?_
  simp only [Act.put, List.setIfInBounds_toArray, List.set_cons_zero, List.set_cons_succ]
  refine take_yield (i := 23) (d := 36) (v := .pointer (some ⟨p, 0, none⟩)) rfl rfl (by as_aux_lemma => kernel_rfl) (by as_aux_lemma => kernel_rfl) (by as_aux_lemma => kernel_rfl) (fun _ _ _ h => h) (by rfl) hs0 (fun w9 hw9 => by (try dsimp only at hw9); go_simp) ?_
  simp only [Act.put, List.setIfInBounds_toArray, List.set_cons_zero, List.set_cons_succ]
  refine take_yield (i := 24) (d := 37) (v := .pointer (some ⟨p, 1, none⟩)) rfl rfl (by as_aux_lemma => kernel_rfl) (by as_aux_lemma => kernel_rfl) (by as_aux_lemma => kernel_rfl) (fun _ _ _ h => h) (by rfl) hs0 (fun w9 hw9 => by (try dsimp only at hw9); go_simp) ?_
  simp only [Act.put, List.setIfInBounds_toArray, List.set_cons_zero, List.set_cons_succ]
  refine take_yield (i := 25) (d := 38) (v := .pointer (some ⟨p, 3, none⟩)) rfl rfl (by as_aux_lemma => kernel_rfl) (by as_aux_lemma => kernel_rfl) (by as_aux_lemma => kernel_rfl) (fun _ _ _ h => h) (by rfl) hs0 (fun w9 hw9 => by (try dsimp only at hw9); go_simp) ?_
  simp only [Act.put, List.setIfInBounds_toArray, List.set_cons_zero, List.set_cons_succ]
  refine take_yield (i := 26) (d := 39) (v := .int .i64 i) rfl rfl (by as_aux_lemma => kernel_rfl) (by as_aux_lemma => kernel_rfl) (by as_aux_lemma => kernel_rfl) (fun _ _ _ h => h) (by rfl) hs0 (fun w9 hw9 => by (try dsimp only at hw9); go_simp) ?_
  simp only [Act.put, List.setIfInBounds_toArray, List.set_cons_zero, List.set_cons_succ]
  refine take_call (i := 4) (d := 17) rfl rfl (by as_aux_lemma => kernel_rfl) (by rfl) 12 #[.int .i64 y] (by first | rfl | (go_simp; done)) (.string N) (HN.out _ hs0) ?_
  intro w71 hs71
  simp only [Act.put, List.setIfInBounds_toArray, List.set_cons_zero, List.set_cons_succ]
  refine take_yield (i := 5) (d := 18) (v := .string S1) rfl rfl (by as_aux_lemma => kernel_rfl) (by as_aux_lemma => kernel_rfl) (by as_aux_lemma => kernel_rfl) (fun _ _ _ h => h) (by rfl) hs71 (fun w9 hw9 => by (try dsimp only at hw9); go_simp; rw [if_neg (by have := U1.out.1; omega), U1.out.2]; rfl) ?_
  simp only [Act.put, List.setIfInBounds_toArray, List.set_cons_zero, List.set_cons_succ]
  refine take_call (i := 11) (d := 24) rfl rfl (by as_aux_lemma => kernel_rfl) (by rfl) 31 #[.int .i64 f] (by first | rfl | (go_simp; done)) (.string F) (HF.out _ hs71) ?_
  intro w72 hs72
  simp only [Act.put, List.setIfInBounds_toArray, List.set_cons_zero, List.set_cons_succ]
  refine take_yield (i := 12) (d := 25) (v := .string S2) rfl rfl (by as_aux_lemma => kernel_rfl) (by as_aux_lemma => kernel_rfl) (by as_aux_lemma => kernel_rfl) (fun _ _ _ h => h) (by rfl) hs72 (fun w9 hw9 => by (try dsimp only at hw9); go_simp; rw [if_neg (by have := U2.out.1; omega), U2.out.2]) ?_
  simp only [Act.put, List.setIfInBounds_toArray, List.set_cons_zero, List.set_cons_succ]
  refine take_yield (i := 13) (d := 26) (v := .string S3) rfl rfl (by as_aux_lemma => kernel_rfl) (by as_aux_lemma => kernel_rfl) (by as_aux_lemma => kernel_rfl) (fun _ _ _ h => h) (by rfl) hs72 (fun w9 hw9 => by (try dsimp only at hw9); go_simp; rw [if_neg (by have := U3.out.1; omega), U3.out.2]; rfl) ?_
  simp only [Act.put, List.setIfInBounds_toArray, List.set_cons_zero, List.set_cons_succ]
  refine take_call (i := 19) (d := 32) rfl rfl (by as_aux_lemma => kernel_rfl) (by rfl) 31 #[.int .i64 b] (by first | rfl | (go_simp; done)) (.string B) (HB.out _ hs72) ?_
  intro w73 hs73
  simp only [Act.put, List.setIfInBounds_toArray, List.set_cons_zero, List.set_cons_succ]
  refine take_yield (i := 20) (d := 33) (v := .string S4) rfl rfl (by as_aux_lemma => kernel_rfl) (by as_aux_lemma => kernel_rfl) (by as_aux_lemma => kernel_rfl) (fun _ _ _ h => h) (by rfl) hs73 (fun w9 hw9 => by (try dsimp only at hw9); go_simp; rw [if_neg (by have := U4.out.1; omega), U4.out.2]) ?_
  simp only [Act.put, List.setIfInBounds_toArray, List.set_cons_zero, List.set_cons_succ]
  refine take_yield (i := 21) (d := 34) (v := .string S5) rfl rfl (by as_aux_lemma => kernel_rfl) (by as_aux_lemma => kernel_rfl) (by as_aux_lemma => kernel_rfl) (fun _ _ _ h => h) (by rfl) hs73 (fun w9 hw9 => by (try dsimp only at hw9); go_simp; rw [if_neg (by have := U5.out.1; omega), U5.out.2]; rfl) ?_
  simp only [Act.put, List.setIfInBounds_toArray, List.set_cons_zero, List.set_cons_succ]
  refine take_call (i := 27) (d := 40) rfl rfl (by as_aux_lemma => kernel_rfl) (by rfl) 31 #[.int .i64 i] (by first | rfl | (go_simp; done)) (.string I) (HI.out _ hs73) ?_
  intro w74 hs74
  simp only [Act.put, List.setIfInBounds_toArray, List.set_cons_zero, List.set_cons_succ]
  refine take_yield (i := 28) (d := 41) (v := .string S6) rfl rfl (by as_aux_lemma => kernel_rfl) (by as_aux_lemma => kernel_rfl) (by as_aux_lemma => kernel_rfl) (fun _ _ _ h => h) (by rfl) hs74 (fun w9 hw9 => by (try dsimp only at hw9); go_simp; rw [if_neg (by have := U6.out.1; omega), U6.out.2]) ?_
  simp only [Act.put, List.setIfInBounds_toArray, List.set_cons_zero, List.set_cons_succ]
  refine take_yield (i := 29) (d := 2) (v := .string S6) rfl rfl (by as_aux_lemma => kernel_rfl) (by as_aux_lemma => kernel_rfl) (by as_aux_lemma => kernel_rfl) (fun _ _ _ h => h) (by rfl) hs74 (fun w9 hw9 => by (try dsimp only at hw9); go_simp) ?_
  simp only [Act.put, List.setIfInBounds_toArray, List.set_cons_zero, List.set_cons_succ]
  refine wpAnyH_done (by as_aux_lemma => kernel_rfl) ?_ _
  go_wp2
  go_ret
  exact ⟨rfl, hs74.1.out⟩
end Go.Proofs.YtjofffhfabmfkaaDoor
