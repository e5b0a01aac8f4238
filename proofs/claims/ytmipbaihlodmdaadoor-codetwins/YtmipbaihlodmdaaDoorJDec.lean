/-
  haruspexref8.Dec: the decimal numeral (of small numbers, of the next digit).
-/
import Derived.Test.YtmipbaihlodmdaaDoorJTxt
import Derived.Test.YtmipbaihlodmdaaDoorRHand
import Derived.Deep.RegionHeld3
import Derived.Deep.DrawnRows
namespace Go.Proofs.YtmipbaihlodmdaaDoor
open Go.RowKit

def digB (u : Nat) : ByteArray := ⟨(Lib.decDigits u).toArray⟩
theorem digB_small (u : Nat) (h : u < 10) : digB u = ⟨#[UInt8.ofNat (48 + u)]⟩ := by
  unfold digB
  rw [Lib.decDigits, dif_pos h]
theorem digB_step (u : Nat) (h : ¬ u < 10) : digB u = digB (u / 10) ++ ⟨#[UInt8.ofNat (48 + u % 10)]⟩ := by
  unfold digB
  rw [Lib.decDigits, dif_neg h]
  apply ByteArray.ext
  simp
theorem digB_size (u : Nat) (h : u ≤ 9223372036854775807) : (digB u).size ≤ 19 := by
  show (Lib.decDigits u).toArray.size ≤ 19
  rw [List.size_toArray]
  exact digits_len 18 u (by omega)

/-- A byte of a slice of one, as a string. -/
theorem conv_byte (w : World) (b : Nat) (c : Nat) (hc : c < 256) (h : w.cell? ⟨b, 0, none⟩ = some (.int .u8 (c : Int))) :
    (convert 25 9 (.slice (some ⟨b, 0, none⟩) 1 1)).run Tryd.prog w = .ok (.string ⟨#[UInt8.ofNat c]⟩) w := by
  refine run_convert_bytes_back (P := Tryd.prog) w 25 9 5 ⟨b, 0, none⟩ 1 [UInt8.ofNat c] Tryd.underlying25 Tryd.underlying5 Tryd.underlying9 ?_
  intro j hj
  obtain rfl : j = 0 := by simpa using hj
  have e : (UInt8.ofNat c).toNat = c := by simp; omega
  show w.cell? ⟨b, 0, none⟩ = some (.int .u8 ((UInt8.ofNat c).toNat : Int))
  rw [e]
  exact h
theorem conv_int (n : Int) (h0 : 0 ≤ n) (h1 : n < 256) (w : World) : (convert 3 5 (.int .i64 n)).run Tryd.prog w = .ok (.int .u8 n) w := by
  have e : IntKind.u8.wrap n = n := by
    simp [IntKind.wrap, IntKind.bits, IntKind.signed]
    omega
  have h : (convert 3 5 (.int .i64 n)).run Tryd.prog w = .ok (.int .u8 (IntKind.u8.wrap n)) w := by kernel_rfl
  rw [h, e]

set_option maxHeartbeats 2000000 in
theorem decF_small (u : Nat) (h : u < 10) (w : World) : Calls Tryd.prog 28 #[.int .i64 (u : Int)] w fun e w' => e = .returned (.string (digB u)) ∧ Keeps [] w w' := by
  have h0 : ¬ (u : Int) < 0 := by omega
  have h1 : (u : Int) < 10 := by omega
  have c1 := fun w => conv_int (48 + (u : Int)) (by omega) (by omega) w
  have c2 := conv_byte (w.alloc (.cells #[.int .u8 (48 + (u : Int))] 5)) w.heap.size (48 + u) (by omega) (by rw [World.cell?_alloc_at _ _ _ _ rfl]; rfl)
  rw [digB_small u h]
  go_enter Tryd.func28, Tryd.ntmps28
  go_wp2
  go_ret
  exact ⟨rfl, Keeps.alloc _ _ _⟩

theorem wrap_in {n : Int} (h0 : -9223372036854775808 ≤ n) (h1 : n ≤ 9223372036854775807) : IntKind.i64.wrap n = n := by
  rw [IntKind.wrap_i64]
  omega

set_option maxHeartbeats 2000000 in
theorem decF_step (u : Nat) (h : ¬ u < 10) (hu : u ≤ 9223372036854775807) (w : World) (hr : ∀ w', Calls Tryd.prog 28 #[.int .i64 ((u / 10 : Nat) : Int)] w' fun e w2 => e = .returned (.string (digB (u / 10))) ∧ Keeps [] w' w2) :
    Calls Tryd.prog 28 #[.int .i64 (u : Int)] w fun e w' => e = .returned (.string (digB u)) ∧ Keeps [] w w' := by
  have h0 : ¬ (u : Int) < 0 := by omega
  have h1 : ¬ (u : Int) < 10 := by omega
  have z0 : (0 : Int) ≤ (u : Int) := by omega
  have z1 : (u : Int) ≤ 9223372036854775807 := by omega
  have c1 := fun w => conv_int (48 + (u : Int) % 10) (by omega) (by omega) w
  have HR : Box (∀ w', Calls Tryd.prog 28 #[.int .i64 ((u : Int) / 10)] w' fun e w2 => e = .returned (.string (digB (u / 10))) ∧ Keeps [] w' w2) := hid (by simpa using hr)
  have hz := digB_size (u / 10) (by omega)
  have hd := digB_step u h
  have hv : ∀ (W : World) (B : Nat), W.cell? ⟨B, 0, none⟩ = some (.int .u8 (48 + (u : Int) % 10)) → (convert 25 9 (.slice (some ⟨B, 0, none⟩) 1 1)).run Tryd.prog W = .ok (.string ⟨#[UInt8.ofNat (48 + u % 10)]⟩) W :=
    fun W B hB => conv_byte W B (48 + u % 10) (by omega) (by rw [hB]; congr 2)
  have HN : Box ((w.alloc (.cells #[.int .u8 (48 + (u : Int) % 10)] 5)).drew.cell? ⟨w.heap.size, 0, none⟩ = some (.int .u8 (48 + (u : Int) % 10))) := hid (by
    show (w.alloc (.cells #[.int .u8 (48 + (u : Int) % 10)] 5)).cell? ⟨w.heap.size, 0, none⟩ = _
    rw [World.cell?_alloc_at _ _ _ _ rfl]; rfl)
  have hs : (⟨#[UInt8.ofNat (48 + u % 10)]⟩ : ByteArray).size = 1 := rfl
  rw [hd]
  generalize digB (u / 10) = D at *
  generalize (⟨#[UInt8.ofNat (48 + u % 10)]⟩ : ByteArray) = C at *
  have HV := hid hv
  obtain ⟨E, e1⟩ : ∃ E, E = D ++ C := ⟨_, rfl⟩
  have U : Box (D.size + C.size ≤ 1000 ∧ E = D ++ C) := hid ⟨by omega, e1⟩
  rw [← e1]
  clear hr hu h hd e1 hz hs hv
  go_enter Tryd.func28, Tryd.ntmps28
  go_wp2
  refine wp_region_held_drew (S := fun _ => True) (by kernel_rfl) trivial (fun _ => ?_)
  refine take_yield (i := 0) (d := 28) (v := .int .i64 (u : Int)) rfl rfl (by as_aux_lemma => kernel_rfl) (by as_aux_lemma => kernel_rfl) (by as_aux_lemma => kernel_rfl) (fun _ _ _ h => h) (by rfl) trivial (fun w9 hw9 => by go_simp) ?_
  simp only [Act.put, List.setIfInBounds_toArray, List.set_cons_zero, List.set_cons_succ]
  refine take_yield (i := 1) (d := 29) (v := .int .i64 ((u : Int) / 10)) rfl rfl (by as_aux_lemma => kernel_rfl) (by as_aux_lemma => kernel_rfl) (by as_aux_lemma => kernel_rfl) (fun _ _ _ h => h) (by rfl) trivial (fun w9 hw9 => by go_simp; exact wrap_in (by omega) (by omega)) ?_
  simp only [Act.put, List.setIfInBounds_toArray, List.set_cons_zero, List.set_cons_succ]
  refine take_yield (i := 3) (d := 31) (v := .int .i64 (u : Int)) rfl rfl (by as_aux_lemma => kernel_rfl) (by as_aux_lemma => kernel_rfl) (by as_aux_lemma => kernel_rfl) (fun _ _ _ h => h) (by rfl) trivial (fun w9 hw9 => by go_simp) ?_
  simp only [Act.put, List.setIfInBounds_toArray, List.set_cons_zero, List.set_cons_succ]
  refine take_yield (i := 4) (d := 32) (v := .int .i64 ((u : Int) % 10)) rfl rfl (by as_aux_lemma => kernel_rfl) (by as_aux_lemma => kernel_rfl) (by as_aux_lemma => kernel_rfl) (fun _ _ _ h => h) (by rfl) trivial (fun w9 hw9 => by go_simp; exact Int.tmod_eq_emod_of_nonneg z0) ?_
  simp only [Act.put, List.setIfInBounds_toArray, List.set_cons_zero, List.set_cons_succ]
  refine take_yield (i := 5) (d := 33) (v := .int .i64 (48 + (u : Int) % 10)) rfl rfl (by as_aux_lemma => kernel_rfl) (by as_aux_lemma => kernel_rfl) (by as_aux_lemma => kernel_rfl) (fun _ _ _ h => h) (by rfl) trivial (fun w9 hw9 => by go_simp; exact wrap_in (by omega) (by omega)) ?_
  simp only [Act.put, List.setIfInBounds_toArray, List.set_cons_zero, List.set_cons_succ]
  refine take_yield (i := 6) (d := 34) (v := .int .u8 (48 + (u : Int) % 10)) rfl rfl (by as_aux_lemma => kernel_rfl) (by as_aux_lemma => kernel_rfl) (by as_aux_lemma => kernel_rfl) (fun _ _ _ h => h) (by rfl) trivial (fun w9 hw9 => by go_simp) ?_
  simp only [Act.put, List.setIfInBounds_toArray, List.set_cons_zero, List.set_cons_succ]
  refine take_two (i := 2) (j := 7) (by as_aux_lemma => kernel_rfl) ?_ ?_
  · refine op_call (i := 2) (d := 30) rfl rfl (by rfl) 28 #[.int .i64 ((u : Int) / 10)] (by first | (go_simp; done) | rfl) (.string D) (fun w8 => Keeps [] w.drew w8) (HR.out _) ?_
    intro w1 hk_w1
    refine ⟨trivial, ?_⟩
    simp only [Act.put, List.setIfInBounds_toArray, List.set_cons_zero, List.set_cons_succ]
    refine take_one (i := 7) (by as_aux_lemma => kernel_rfl) ?_
    refine op_run (i := 7) (d := 35) (w' := (w1.alloc (.cells #[.int .u8 (48 + (u : Int) % 10)] 5))) (.slice (some ⟨w1.heap.size, 0, none⟩) 1 1) rfl rfl (by rfl) (by go_simp) ?_
    refine ⟨trivial, ?_⟩
    simp only [Act.put, List.setIfInBounds_toArray, List.set_cons_zero, List.set_cons_succ]
    refine take_one (i := 8) (by as_aux_lemma => kernel_rfl) ?_
    have cv := HV.out (w1.alloc (.cells #[.int .u8 (48 + (u : Int) % 10)] 5)) w1.heap.size (by rw [World.cell?_alloc_at _ _ _ _ rfl]; rfl)
    refine op_run (i := 8) (d := 36) (w' := (w1.alloc (.cells #[.int .u8 (48 + (u : Int) % 10)] 5))) (.string C) rfl rfl (by rfl) (by go_simp) ?_
    refine ⟨trivial, ?_⟩
    simp only [Act.put, List.setIfInBounds_toArray, List.set_cons_zero, List.set_cons_succ]
    refine take_yield (i := 9) (d := 37) (v := .string E) rfl rfl (by as_aux_lemma => kernel_rfl) (by as_aux_lemma => kernel_rfl) (by as_aux_lemma => kernel_rfl) (fun _ _ _ h => h) (by rfl) trivial (fun w9 hw9 => by go_simp; rw [if_neg (by have := U.out.1; omega), U.out.2]) ?_
    simp only [Act.put, List.setIfInBounds_toArray, List.set_cons_zero, List.set_cons_succ]
    refine take_yield (i := 10) (d := 2) (v := .string E) rfl rfl (by as_aux_lemma => kernel_rfl) (by as_aux_lemma => kernel_rfl) (by as_aux_lemma => kernel_rfl) (fun _ _ _ h => h) (by rfl) trivial (fun w9 hw9 => by go_simp) ?_
    simp only [Act.put, List.setIfInBounds_toArray, List.set_cons_zero, List.set_cons_succ]
    refine wpAnyH_done (by as_aux_lemma => kernel_rfl) ?_ _
    go_wp2
    go_ret
    exact ⟨rfl, ((Keeps.drew [] w).step hk_w1).step (Keeps.alloc _ _ _)⟩
  · refine op_run (i := 7) (d := 35) (w' := (w.alloc (.cells #[.int .u8 (48 + (u : Int) % 10)] 5)).drew) (.slice (some ⟨w.heap.size, 0, none⟩) 1 1) rfl rfl (by rfl) (by go_simp) ?_
    refine ⟨trivial, ?_⟩
    simp only [Act.put, List.setIfInBounds_toArray, List.set_cons_zero, List.set_cons_succ]
    refine take_two (i := 2) (j := 8) (by as_aux_lemma => kernel_rfl) ?_ ?_
    · refine op_call (i := 2) (d := 30) rfl rfl (by rfl) 28 #[.int .i64 ((u : Int) / 10)] (by first | (go_simp; done) | rfl) (.string D) (fun w8 => Keeps [] (w.alloc (.cells #[.int .u8 (48 + (u : Int) % 10)] 5)).drew w8) (HR.out _) ?_
      intro w1 hk_w1
      refine ⟨trivial, ?_⟩
      simp only [Act.put, List.setIfInBounds_toArray, List.set_cons_zero, List.set_cons_succ]
      refine take_one (i := 8) (by as_aux_lemma => kernel_rfl) ?_
      have cv := HV.out w1 w.heap.size (by rw [hk_w1.cell (p := ⟨w.heap.size, 0, none⟩) (by simp) (by simp)]; exact HN.out)
      refine op_run (i := 8) (d := 36) (w' := w1) (.string C) rfl rfl (by rfl) (by go_simp) ?_
      refine ⟨trivial, ?_⟩
      simp only [Act.put, List.setIfInBounds_toArray, List.set_cons_zero, List.set_cons_succ]
      refine take_yield (i := 9) (d := 37) (v := .string E) rfl rfl (by as_aux_lemma => kernel_rfl) (by as_aux_lemma => kernel_rfl) (by as_aux_lemma => kernel_rfl) (fun _ _ _ h => h) (by rfl) trivial (fun w9 hw9 => by go_simp; rw [if_neg (by have := U.out.1; omega), U.out.2]) ?_
      simp only [Act.put, List.setIfInBounds_toArray, List.set_cons_zero, List.set_cons_succ]
      refine take_yield (i := 10) (d := 2) (v := .string E) rfl rfl (by as_aux_lemma => kernel_rfl) (by as_aux_lemma => kernel_rfl) (by as_aux_lemma => kernel_rfl) (fun _ _ _ h => h) (by rfl) trivial (fun w9 hw9 => by go_simp) ?_
      simp only [Act.put, List.setIfInBounds_toArray, List.set_cons_zero, List.set_cons_succ]
      refine wpAnyH_done (by as_aux_lemma => kernel_rfl) ?_ _
      go_wp2
      go_ret
      exact ⟨rfl, (((Keeps.alloc [] w _).step (Keeps.drew _ _)).step hk_w1)⟩
    · have cv := HV.out (w.alloc (.cells #[.int .u8 (48 + (u : Int) % 10)] 5)).drew w.heap.size HN.out
      refine op_run (i := 8) (d := 36) (w' := (w.alloc (.cells #[.int .u8 (48 + (u : Int) % 10)] 5)).drew) (.string C) rfl rfl (by rfl) (by go_simp) ?_
      refine ⟨trivial, ?_⟩
      simp only [Act.put, List.setIfInBounds_toArray, List.set_cons_zero, List.set_cons_succ]
      refine take_one (i := 2) (by as_aux_lemma => kernel_rfl) ?_
      refine op_call (i := 2) (d := 30) rfl rfl (by rfl) 28 #[.int .i64 ((u : Int) / 10)] (by first | (go_simp; done) | rfl) (.string D) (fun w8 => Keeps [] (w.alloc (.cells #[.int .u8 (48 + (u : Int) % 10)] 5)).drew w8) (HR.out _) ?_
      intro w1 hk_w1
      refine ⟨trivial, ?_⟩
      simp only [Act.put, List.setIfInBounds_toArray, List.set_cons_zero, List.set_cons_succ]
      refine take_yield (i := 9) (d := 37) (v := .string E) rfl rfl (by as_aux_lemma => kernel_rfl) (by as_aux_lemma => kernel_rfl) (by as_aux_lemma => kernel_rfl) (fun _ _ _ h => h) (by rfl) trivial (fun w9 hw9 => by go_simp; rw [if_neg (by have := U.out.1; omega), U.out.2]) ?_
      simp only [Act.put, List.setIfInBounds_toArray, List.set_cons_zero, List.set_cons_succ]
      refine take_yield (i := 10) (d := 2) (v := .string E) rfl rfl (by as_aux_lemma => kernel_rfl) (by as_aux_lemma => kernel_rfl) (by as_aux_lemma => kernel_rfl) (fun _ _ _ h => h) (by rfl) trivial (fun w9 hw9 => by go_simp) ?_
      simp only [Act.put, List.setIfInBounds_toArray, List.set_cons_zero, List.set_cons_succ]
      refine wpAnyH_done (by as_aux_lemma => kernel_rfl) ?_ _
      go_wp2
      go_ret
      exact ⟨rfl, (((Keeps.alloc [] w _).step (Keeps.drew _ _)).step hk_w1)⟩
end Go.Proofs.YtmipbaihlodmdaaDoor
