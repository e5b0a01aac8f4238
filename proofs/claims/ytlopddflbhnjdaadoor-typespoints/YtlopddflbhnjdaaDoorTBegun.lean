/-
  begun: one program is right, one has a register too many, no program is out of bounds.
-/
import Derived.Test.YtlopddflbhnjdaaDoorTOne
import Derived.Test.YtlopddflbhnjdaaDoorTCheck
import Derived.Test.YtlopddflbhnjdaaDoorTNames
namespace Go.Proofs.YtlopddflbhnjdaaDoor
open Go.RowKit

theorem one_bnd : bndB (pr1 0) = true := by decide +kernel
theorem one_nm : namesO (pr1 0) = none := by decide +kernel
theorem three_nm : namesO (pr1 3) = some (0, 0, 1) := by decide +kernel
def g1 (P : Pr8) (f : Fu8) (x : In8) : Bool := insOk P f x && (rtB P f x && ((regT f x.dst).1 == 0))
theorem one_chk : chkO (pr1 0) (g1 (pr1 0)) = none := by decide +kernel
theorem one_sm : Sm10 (pr1 0) := tabB_sm (by decide +kernel)
theorem one_few (r : Int) : FewA (pr1 r) := by
  intro f b i hf hb hi
  obtain rfl : f = 0 := by simpa [pr1] using hf
  obtain rfl : b = 0 := by simpa [fun8, pr1, fu1] using hb
  obtain rfl : i = 0 := by simpa [fun8, blk8, pr1, fu1, bl1] using hi
  simp [fun8, blk8, ins8, pr1, fu1, bl1, in1]
theorem one_fits {w : World} {pb po : Nat} (h : PrC w pb po (pr1 0)) : FitsG w pb po (pr1 0) (g1 (pr1 0)) := by
  intro w' f b i a cp k hf hb hi hz
  have hf' := hf
  obtain rfl : f = 0 := by simpa [pr1] using hf'
  obtain rfl : b = 0 := by simpa [fun8, pr1, fu1] using hb
  obtain rfl : i = 0 := by simpa [fun8, blk8, pr1, fu1, bl1] using hi
  exact fits_1 (PrC.stays _ _ _ _ _ k h) hf _ rfl hz (by simp [fun8, blk8, ins8, pr1, fu1, bl1, in1])
theorem one_fit {w : World} {pb po : Nat} (h : PrC w pb po (pr1 0)) : Calls Tryd.prog 16 #[.pointer (some ⟨pb, po, none⟩), .int .i64 0, .agg #[.int .i64 1, .int .i64 0, .int .i64 0, .int .i64 0, .int .i64 7, .slice none 0 0]] w fun e w' => e = .returned (.bool true) ∧ Keeps [] w w' := by
  have := fits_1 (f := 0) (a := none) (cp := 0) h (by decide) in1 rfl (.inl rfl) (by decide)
  rw [show (insOk (pr1 0) (fun8 (pr1 0) 0) in1 && (rtB (pr1 0) (fun8 (pr1 0) 0) in1 && ((regT (fun8 (pr1 0) 0) in1.dst).1 == 0))) = true by decide +kernel] at this
  exact this
theorem OneB.far {w : World} {n m : Nat} {r : Int} {o : Nat} {v : Value} (h : OneB w n r) (hm : n + 5 < m) : OneB (w.setCell ⟨m, o, none⟩ v) n r := by
  have k : ∀ j, j ≤ 5 → (w.setCell ⟨m, o, none⟩ v).heap[n + j]? = w.heap[n + j]? := fun j hj => heap_setCell_other _ _ _ _ (by simp; omega)
  exact ⟨(k 0 (by omega)).trans h.h0, (k 1 (by omega)).trans h.h1, (k 2 (by omega)).trans h.h2, (k 3 (by omega)).trans h.h3, (k 4 (by omega)).trans h.h4, (k 5 (by omega)).trans h.h5⟩
theorem OneB.reg {w : World} {n : Nat} {r : Int} (h : OneB w n r) (r' : Int) : OneB (w.setCell ⟨n + 3, 2, none⟩ (.int .i64 r')) n r' := by
  have k : ∀ j, j ≠ 3 → (w.setCell ⟨n + 3, 2, none⟩ (.int .i64 r')).heap[n + j]? = w.heap[n + j]? := fun j hj => heap_setCell_other _ _ _ _ (by simp; omega)
  exact ⟨(k 0 (by omega)).trans h.h0, (k 1 (by omega)).trans h.h1, (k 2 (by omega)).trans h.h2, heap_setCell_same _ _ _ _ _ _ h.h3, (k 4 (by omega)).trans h.h4, (k 5 (by omega)).trans h.h5⟩
set_option maxRecDepth 20000 in
set_option maxHeartbeats 4000000 in
theorem begun_any (w : World) (hg : Glob w) : Calls Tryd.prog 9 #[] w fun e w' => e = .returned (.bool true) ∧ Keeps [] w w' := by
  have HG := hid hg
  have H1 := hid fun (w' : World) => one_any w'
  clear hg
  go_enter Tryd.func9, Tryd.ntmps9
  go_wp2_with fail
  refine (H1.out _).mono ?_
  rintro e w1 ⟨rfl, o1, k1⟩
  have O1 := hid o1
  have K1 := hid k1
  have hlt := heap_lt o1.h5
  clear o1 k1
  obtain ⟨n1, hn1⟩ : ∃ n, n = w.heap.size := ⟨_, rfl⟩
  rw [← hn1] at O1 hlt ⊢
  have HN1 := hid hn1
  clear hn1
  go_wp2_with fail
  refine (H1.out _).mono ?_
  rintro e w2 ⟨rfl, o2, k2⟩
  obtain ⟨n2, hn2⟩ : ∃ n, n = w1.heap.size := ⟨_, rfl⟩
  rw [← hn2] at o2 hlt ⊢
  have HN2 := hid hn2
  have O12 := hid (O1.out.quiet k2)
  have O2 := hid o2
  have K2 := hid (K1.out.quiet k2)
  have p4 := hcell o2.h5 4
  have f2 := hcell o2.h4 2
  have b2 := hcell o2.h3 2
  have z2 := hfrozen o2.h3 2
  clear o2 k2 hn2 O1 K1
  go_wp2_with fail
  have OA := hid (O12.out.far (m := n2 + 3) (o := 2) (v := .int .i64 3) (by omega))
  have OB := hid (O2.out.reg 3)
  have KZ : Box (Keeps [] w (w2.setCell ⟨n2 + 3, 2, none⟩ (.int .i64 3))) := hid (K2.out.trans (Keeps.setCell [n2 + 3] _ _ _ (List.mem_singleton.2 rfl)) (fun x hx hl => by
    have h8 := HN2.out
    have h9 := HN1.out
    simp at hx
    omega))
  clear p4 f2 b2 z2
  generalize w2.setCell ⟨n2 + 3, 2, none⟩ (.int .i64 3) = w3 at *
  refine (bounds_any (OA.out.prc (by decide))).mono ?_
  intro e w4 h4
  rw [one_bnd] at h4
  obtain ⟨rfl, k4⟩ := h4
  have K4 := hid k4
  clear k4
  go_wp2_with fail
  refine (names_any ((OA.out.quiet K4.out).prc (by decide)) (one_few 0)).mono ?_
  intro e w5 h5
  rw [one_nm] at h5
  obtain ⟨rfl, k5⟩ := h5
  have K5 := hid (K4.out.quiet k5)
  clear k5
  go_wp2_with fail
  refine (check_any ((OA.out.quiet K5.out).prc (by decide)) one_sm (one_fits ((OA.out.quiet K5.out).prc (by decide)))).mono ?_
  intro e w6 h6
  rw [one_chk] at h6
  obtain ⟨rfl, k6⟩ := h6
  have K6 := hid (K5.out.quiet k6)
  clear k6
  have o6 := OA.out.quiet K6.out
  have p4 := hcell o6.h5 4
  have f2 := hcell o6.h4 2
  have b0 := hcell o6.h3 0
  have c0 := hcell o6.h2 0
  have c1 := hcell o6.h2 1
  have c2 := hcell o6.h2 2
  have c3 := hcell o6.h2 3
  have c4 := hcell o6.h2 4
  have c5 := hcell o6.h2 5
  clear o6
  go_wp2_with fail
  refine (one_fit ((OA.out.quiet K6.out).prc (by decide))).mono ?_
  rintro e w7 ⟨rfl, k7⟩
  have K7 := hid (K6.out.quiet k7)
  clear k7 p4 f2 b0 c0 c1 c2 c3 c4 c5
  go_wp2_with fail
  refine (names_any ((OB.out.quiet K7.out).prc (by decide)) (one_few 3)).mono ?_
  intro e w8 h8
  rw [three_nm] at h8
  obtain ⟨p8, rfl, r8, k8⟩ := h8
  have K8 := hid (K7.out.quiet k8)
  have R8 := hid r8
  clear k8 r8
  go_wp2_with fail
  refine (why_ref (HG.out.quiet (KZ.out.quiet K8.out)) R8.out).mono ?_
  rintro e w9 ⟨rfl, k9⟩
  have K9 := hid (K8.out.quiet k9)
  clear k9
  go_wp2_with fail
  refine (bounds_nil _).mono ?_
  rintro e w10 ⟨p10, rfl, r10, k10⟩
  have K10 := hid (K9.out.quiet k10)
  have R10 := hid r10
  clear k10 r10
  go_wp2_with fail
  refine (why_ref (HG.out.quiet (KZ.out.quiet K10.out)) R10.out).mono ?_
  rintro e w11 ⟨rfl, k11⟩
  have K11 := hid (K10.out.quiet k11)
  clear k11
  go_wp2_with fail
  go_ret
  exact ⟨rfl, KZ.out.quiet K11.out⟩
end Go.Proofs.YtlopddflbhnjdaaDoor
