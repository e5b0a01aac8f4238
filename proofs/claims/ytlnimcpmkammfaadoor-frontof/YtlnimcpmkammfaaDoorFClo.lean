/-
  Contract: front's Closure.
-/
import Derived.Test.YtlnimcpmkammfaaDoorFOf
namespace Go.Proofs.YtlnimcpmkammfaaDoor
open Go.RowKit

/-- What Closure holds: all at b, asked behind it, waits behind that. -/
structure CM (w wr : World) (b : Nat) (W A L : Nat → Bool) : Prop where
  sl : SetAt wr b L
  sa : SetAt wr (b + 1) A
  sw : SetAt wr (b + 2) W
  fl : Fit L
  fa : Fit A
  fw : Fit W
  keep : Keeps [] w wr
  lo : w.heap.size ≤ b
theorem CM.quiet {w wr wy : World} {b : Nat} {W A L : Nat → Bool} (h : CM w wr b W A L) (k : Keeps [] wr wy) : CM w wy b W A L :=
  ⟨h.sl.kept k (by simp), h.sa.kept k (by simp), h.sw.kept k (by simp), h.fl, h.fa, h.fw, h.keep.quiet k, h.lo⟩
theorem CM.setW {w wr wy : World} {b : Nat} {W A L W' : Nat → Bool} (h : CM w wr b W A L) (hs : SetAt wy (b + 2) W') (hf : Fit W') (k : Keeps [b + 2] wr wy) : CM w wy b W' A L :=
  ⟨h.sl.kept k (by simp), h.sa.kept k (by simp), hs, h.fl, h.fa, hf, h.keep.fresh k (fun x hx => by have := h.lo; simp at hx; omega), h.lo⟩
theorem CM.setA {w wr wy : World} {b : Nat} {W A L A' : Nat → Bool} (h : CM w wr b W A L) (hs : SetAt wy (b + 1) A') (hf : Fit A') (k : Keeps [b + 1] wr wy) : CM w wy b W A' L :=
  ⟨h.sl.kept k (by simp), hs, h.sw.kept k (by simp), h.fl, hf, h.fw, h.keep.fresh k (fun x hx => by have := h.lo; simp at hx; omega), h.lo⟩
theorem CM.setL {w wr wy : World} {b : Nat} {W A L L' : Nat → Bool} (h : CM w wr b W A L) (hs : SetAt wy b L') (hf : Fit L') (k : Keeps [b] wr wy) : CM w wy b W A L' :=
  ⟨hs, h.sa.kept k (by simp), h.sw.kept k (by simp), hf, h.fa, h.fw, h.keep.fresh k (fun x hx => by have := h.lo; simp at hx; omega), h.lo⟩
theorem fit_del {s : Nat → Bool} (h : Fit s) (n : Nat) : Fit (del s n) := by rw [← delI_nat]; exact h.del _
theorem fit_ins {s : Nat → Bool} (h : Fit s) {n : Nat} (hn : n < 5000) : Fit (ins s n) := by rw [← insI_nat s n hn]; exact h.ins _

set_option maxRecDepth 20000 in
set_option maxHeartbeats 8000000 in
theorem closure_any (base p N : Nat) (q : Nat → Nat) (F : Nat → Nat → Bool) (bs : Nat) (S : Nat → Bool) (w : World) (hM : FrM w base p N q F) (hS : SetAt w bs S) (hf : Fit S) (hT : TabAt w) :
    Calls Tryd.prog 16 #[.slice (some ⟨p, 0, none⟩) N N, .pointer (some ⟨bs, 0, none⟩)] w fun e w' => ∃ L, e = .returned (.pointer (some ⟨w.heap.size, 0, none⟩)) ∧ SetAt w' w.heap.size L ∧ Fit L ∧ (∀ n, L n = true ↔ Clo F N S n) ∧ Keeps [] w w' := by
  have HM := hid hM
  have HT := hid hT
  have hzero := zero_set
  have ka : Keeps [] w (w.alloc (Obj.cells (row none_) 56)) := Keeps.alloc _ _ _
  have na := setAt_new w none_
  have kb : Keeps [] (w.alloc (Obj.cells (row none_) 56)) ((w.alloc (Obj.cells (row none_) 56)).alloc (Obj.cells (row none_) 56)) := Keeps.alloc _ _ _
  have nb' := setAt_new (w.alloc (Obj.cells (row none_) 56)) none_
  have na' := hid (na.kept kb (by simp))
  have e1 : (w.alloc (Obj.cells (row none_) 56)).heap.size = w.heap.size + 1 := by simp
  have e2 : ((w.alloc (Obj.cells (row none_) 56)).alloc (Obj.cells (row none_) 56)).heap.size = w.heap.size + 2 := by simp
  rw [e1] at nb'
  have NB := hid nb'
  have K2 := hid (ka.quiet kb)
  have HCP := hid (copy_any bs S _ (hS.kept (ka.quiet kb) (by simp)))
  rw [e2] at HCP
  have HF := hid hf
  clear na nb' ka kb hM hS hT hf e1 e2
  go_enter Tryd.func16, Tryd.ntmps16
  go_wp2_with fail
  generalize (w.alloc (Obj.cells (row none_) 56)).alloc (Obj.cells (row none_) 56) = w2 at na' NB K2 HCP ⊢
  refine HCP.out.mono ?_
  rintro e w3 ⟨rfl, hs3, k3⟩
  have C3 : Box (CM w w3 w.heap.size S none_ none_) := hid ⟨na'.out.kept k3 (by simp), NB.out.kept k3 (by simp), hs3, fit_none, fit_none, HF.out, K2.out.quiet k3, Nat.le_refl _⟩
  clear hs3 k3 na' NB K2 HCP hzero
  obtain ⟨b, hb⟩ : ∃ b, w.heap.size = b := ⟨_, rfl⟩
  have HB := hid hb
  rw [hb] at C3 ⊢
  clear hb
  have HF1 := hid (first_any (b + 2) S 0 w3 C3.out.sw HF.out (HT.out.kept C3.out.keep (by simp)))
  go_wp2_with fail
  refine HF1.out.mono ?_
  rintro e w4 ⟨rfl, m, hw4⟩
  have C4 : Box (CM w w4 b S none_ none_) := hid (by rw [hw4]; exact C3.out.quiet (Keeps.drewN _ _ m))
  have HX4 := hid (rfl : firstI S 0 = firstI S 0)
  have HCS := hid (ClSt.start F N S)
  clear hw4 C3 HF1
  generalize hr0 : firstI S 0 = r0 at HX4 ⊢
  have HR0 : Box (r0 = firstI S 0) := hid hr0.symm
  clear hr0 HX4
  go_wp2_with fail
  go_loopg [8] (leftN none_) (fun gq nv wr => ∃ (W A L : Nat → Bool) (x : Int), nv = .int .i64 x ∧ Box (x = firstI W 0) ∧ leftN A ≤ gq ∧ Box (ClSt F N S W A L) ∧ Box (CM w wr b W A L))
  case atStart => exact ⟨S, none_, none_, r0, rfl, HR0, Nat.le_refl _, HCS, C4⟩
  case round =>
    clear HR0 HCS C4
    obtain ⟨W, A, L, x, rfl, HX, hq, HC, HCM⟩ := hrel
    rcases firstI_spec W 0 with ⟨h1, h2⟩ | ⟨j, h1, hj, _, hWj, _⟩
    · have hx : x = -1 := HX.out.trans h1
      subst hx
      have HD := hid (HC.out.done fun n => by
        by_cases hn : n < 5000
        · exact h2 n hn (by omega)
        · exact HCM.out.fw n (by omega))
      clear h1 h2 HX hq
      go_wp2
      go_ret
      exact ⟨L, by rw [HB.out]; rfl, by rw [HB.out]; exact HCM.out.sl, HCM.out.fl, HD.out, HCM.out.keep⟩
    · have hx : x = (j : Int) := HX.out.trans h1
      subst hx
      have hA := HC.out.one j hWj
      have HL := hid (Nat.lt_of_lt_of_le (leftN_ins hj hA) hq)
      have HW := hid hWj
      have hj0 : (0 : Int) ≤ (j : Int) := by omega
      have HRM := hid (rem_any (b + 2) W (j : Int) wr HCM.out.sw HCM.out.fw)
      rw [delI_nat] at HRM
      clear h1 HX hq hA hWj
      go_wp2_with fail
      refine HRM.out.mono ?_
      rintro e w5 ⟨rfl, hs5, k5⟩
      have C5 := hid (HCM.out.setW hs5 (fit_del HCM.out.fw j) k5)
      clear hs5 k5 HRM HCM
      have HAD := hid (add_any (b + 1) A (j : Int) w5 C5.out.sa C5.out.fa)
      rw [insI_nat _ _ hj] at HAD
      go_wp2_with fail
      refine HAD.out.mono ?_
      rintro e w6 ⟨rfl, hs6, k6⟩
      have C6 := hid (C5.out.setA hs6 (fit_ins C5.out.fa hj) k6)
      clear hs6 k6 HAD C5
      by_cases hjN : j < N
      · have hjN' : (j : Int) < (N : Int) := by omega
        have hM6 := HM.out.quiet C6.out.keep
        have cj := hM6.cell hjN
        have HJN : Calls Tryd.prog 22 #[.pointer (some ⟨b, 0, none⟩), .pointer (some ⟨q j, 0, none⟩)] w6 _ := join_any b (some (q j)) L (F j) w6 C6.out.sl (hM6.set j hjN) C6.out.fl (hM6.fit j hjN)
        have HJ := hid HJN
        clear HJN hM6
        go_wp2_with fail
        refine HJ.out.mono ?_
        rintro e w7 ⟨rfl, hs7, k7⟩
        have C7 := hid (C6.out.setL hs7 (fit_both or L (F j) C6.out.fl (HM.out.fit j hjN) rfl) k7)
        clear hs7 k7 HJ C6 cj
        have hM7 := HM.out.quiet C7.out.keep
        have cj := hM7.cell hjN
        have HLS0 : Calls Tryd.prog 32 #[.pointer (some ⟨q j, 0, none⟩), .pointer (some ⟨b + 1, 0, none⟩)] w7 _ := less_or (some (q j)) (some (b + 1)) (F j) (ins A j) w7 (hM7.set j hjN) C7.out.sa (hM7.fit j hjN) C7.out.fa
        have HLS := hid HLS0
        clear HLS0 hM7
        go_wp2_with fail
        refine HLS.out.mono ?_
        rintro e w8 ⟨rfl, hs8, k8⟩
        have C8 := hid (C7.out.quiet k8)
        have HJ20 : Calls Tryd.prog 22 #[.pointer (some ⟨b + 2, 0, none⟩), .pointer (some ⟨w7.heap.size, 0, none⟩)] w8 _ := join_any (b + 2) (some w7.heap.size) (del W j) (both lessB (F j) (ins A j)) w8 C8.out.sw hs8 C8.out.fw (fit_both lessB _ _ (HM.out.fit j hjN) C8.out.fa rfl)
        have HJ2 := hid HJ20
        clear HJ20 hs8 k8 HLS cj C7
        go_wp2_with fail
        refine HJ2.out.mono ?_
        rintro e w9 ⟨rfl, hs9, k9⟩
        have C9 := hid (C8.out.setW hs9 (fit_both or _ _ C8.out.fw (fit_both lessB _ _ (HM.out.fit j hjN) C8.out.fa rfl) rfl) k9)
        have HC2 := hid (HC.out.take HW.out hjN (W' := both or (del W j) (both lessB (F j) (ins A j))) (L' := both or L (F j)) (fun m => by
          show (del W j m || (F j m && !ins A j m)) = true ↔ _
          rw [Bool.or_eq_true, Bool.and_eq_true, Bool.not_eq_true']) (fun m => by
          show (L m || F j m) = true ↔ _
          rw [Bool.or_eq_true]))
        clear hs9 k9 HJ2 C8 HC
        generalize both or (del W j) (both lessB (F j) (ins A j)) = W' at C9 HC2
        generalize both or L (F j) = L' at C9 HC2
        generalize ins A j = A' at C9 HC2 HL
        have HFI := hid (first_any (b + 2) W' 0 w9 C9.out.sw C9.out.fw (HT.out.kept C9.out.keep (by simp)))
        go_wp2_with fail
        refine HFI.out.mono ?_
        rintro e w10 ⟨rfl, m, hw10⟩
        have C10 : Box (CM w w10 b W' A' L') := hid (by rw [hw10]; exact C9.out.quiet (Keeps.drewN _ _ m))
        clear hw10 HFI C9
        generalize hx : firstI W' 0 = x
        have HX2 : Box (x = firstI W' 0) := hid hx.symm
        clear hx
        go_wp2
        go_roundg (leftN A')
        case measure => exact HL.out
        case rel => exact ⟨W', A', L', x, rfl, HX2, Nat.le_refl _, HC2, C10⟩
      · have hjN' : ¬ (j : Int) < (N : Int) := by omega
        have HC2 := hid (HC.out.pass HW.out (by omega))
        have HFI := hid (first_any (b + 2) (del W j) 0 w6 C6.out.sw C6.out.fw (HT.out.kept C6.out.keep (by simp)))
        clear HC
        generalize del W j = W' at C6 HC2 HFI
        generalize ins A j = A' at C6 HC2 HL
        go_wp2_with fail
        refine HFI.out.mono ?_
        rintro e w10 ⟨rfl, m, hw10⟩
        have C10 : Box (CM w w10 b W' A' L) := hid (by rw [hw10]; exact C6.out.quiet (Keeps.drewN _ _ m))
        clear hw10 HFI C6
        generalize hx : firstI W' 0 = x
        have HX2 : Box (x = firstI W' 0) := hid hx.symm
        clear hx
        go_wp2
        go_roundg (leftN A')
        case measure => exact HL.out
        case rel => exact ⟨W', A', L, x, rfl, HX2, Nat.le_refl _, HC2, C10⟩
end Go.Proofs.YtlnimcpmkammfaaDoor
