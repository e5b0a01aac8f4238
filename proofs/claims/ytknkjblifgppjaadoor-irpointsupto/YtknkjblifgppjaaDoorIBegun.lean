/-
  begun: the program of one function.
-/
import Derived.Test.YtknkjblifgppjaaDoorIPrt
import Derived.Test.YtknkjblifgppjaaDoorIPts
import Derived.Test.YtknkjblifgppjaaDoorINxt
import Derived.Test.YtknkjblifgppjaaDoorRef
namespace Go.Proofs.YtknkjblifgppjaaDoor
open Go.RowKit Go.Shelf

def pr0 : Pr8 := ⟨[], [], [], [], [⟨0, [], [⟨[⟨1, 1, 0, 0, 5, []⟩], 3, 1, 0, 0⟩]⟩], 0⟩
theorem dec_dig (k : Nat) (h : k < 10) : decB (k : Int) = ⟨#[UInt8.ofNat (48 + k)]⟩ := by
  unfold decB Lib.itoa
  rw [if_neg (by omega), Int.toNat_natCast, Lib.decDigits, dif_pos h]
theorem dec0 : decB 0 = ⟨#[48]⟩ := dec_dig 0 (by omega)
theorem dec1 : decB 1 = ⟨#[49]⟩ := dec_dig 1 (by omega)
theorem dec5 : decB 5 = ⟨#[53]⟩ := dec_dig 5 (by omega)
theorem text0 : textL pr0 = [102, 117, 110, 99, 32, 48, 10, 32, 32, 98, 108, 111, 99, 107, 32, 48, 10, 32, 32, 32, 32, 114, 49, 32, 61, 32, 99, 111, 110, 115, 116, 32, 53, 10, 32, 32, 32, 32, 114, 101, 116, 117, 114, 110, 32, 114, 49, 10] := by
  have e1 : lineB ⟨1, 1, 0, 0, 5, []⟩ = regB 1 ++ ⟨#[32, 61, 32]⟩ ++ (⟨#[99, 111, 110, 115, 116, 32]⟩ ++ decB 5) := rfl
  have e2 : endB ⟨[⟨1, 1, 0, 0, 5, []⟩], 3, 1, 0, 0⟩ = ⟨#[114, 101, 116, 117, 114, 110, 32]⟩ ++ regB 1 := rfl
  have e3 : blkL ⟨[⟨1, 1, 0, 0, 5, []⟩], 3, 1, 0, 0⟩ = lnT padB (lineB ⟨1, 1, 0, 0, 5, []⟩) ++ [] ++ lnT padB (endB ⟨[⟨1, 1, 0, 0, 5, []⟩], 3, 1, 0, 0⟩) := rfl
  have e4 : textL pr0 = lnT funH (decB 0) ++ (lnT blkH (decB 0) ++ blkL ⟨[⟨1, 1, 0, 0, 5, []⟩], 3, 1, 0, 0⟩ ++ []) ++ [] := rfl
  rw [e4, e3, e1, e2]
  unfold regB
  rw [dec0, dec1, dec5]
  rfl
theorem sm0 : Sm8 pr0 := ⟨by decide, fun f hf => by
  obtain rfl : f = 0 := by simpa [pr0] using hf
  decide, by decide⟩
theorem few0 : Few8 pr0 := fun f b hf hb => by
  obtain rfl : f = 0 := by simpa [pr0] using hf
  obtain rfl : b = 0 := by simpa [pr0, fun8] using hb
  intro i hi
  obtain rfl : i = 0 := by simpa [pr0, fun8, blk8] using hi
  decide
theorem pts0 : (pts pr0).length = 2 := by decide
theorem nx0 : nx8 pr0 0 = [1] := by decide
theorem num0 : num8 pr0 0 0 1 = 1 := by decide
/-- The literal in memory. -/
theorem prc0 {w : World} {s : Nat} (h0 : w.heap[s]? = some (.cells #[.int .i64 1, .int .i64 1, .int .i64 0, .int .i64 0, .int .i64 5, .slice none 0 0] 34 (0, 0)))
    (h1 : w.heap[s + 1]? = some (.cells #[.slice (some ⟨s, 0, none⟩) 1 1, .int .i64 3, .int .i64 1, .int .i64 0, .int .i64 0] 55 (0, 0)))
    (h2 : w.heap[s + 1 + 1]? = some (.cells #[.int .i64 0, .slice none 0 0, .slice (some ⟨s + 1, 0, none⟩) 1 1] 59 (0, 0)))
    (h3 : w.heap[s + 1 + 1 + 1]? = some (.cells #[.slice none 0 0, .slice none 0 0, .slice none 0 0, .slice none 0 0, .slice (some ⟨s + 1 + 1, 0, none⟩) 1 1, .int .i64 0] 52 (0, 0))) : PrC w (s + 1 + 1 + 1) 0 pr0 := by
  have b0 : b64 0 := by unfold b64; omega
  have b1 : b64 1 := by unfold b64; omega
  have b3 : b64 3 := by unfold b64; omega
  have b5 : b64 5 := by unfold b64; omega
  have nil : ∀ {α : Type} {c b o : Nat} {R : World → Nat → Nat → α → Prop}, w.cell? ⟨b, o, none⟩ = some (.slice none 0 0) → SlC c R w b o ([] : List α) := fun h => ⟨none, 0, h, .inl rfl, Nat.le_refl _, Nat.zero_le _⟩
  have one : ∀ {α : Type} {c b o g : Nat} {R : World → Nat → Nat → α → Prop} {y : α}, w.cell? ⟨b, o, none⟩ = some (.slice (some ⟨g, 0, none⟩) 1 1) → R w g 0 y → SlC c R w b o [y] := fun {α c b o g R y} h hy => ⟨some ⟨g, 0, none⟩, 1, h, .inr ⟨g, 0, rfl, fun j z hz => by
    have hj : j = 0 := by
      rcases Nat.lt_or_ge j 1 with h | h
      · omega
      · rw [List.getElem?_eq_none (by simpa using h)] at hz; cases hz
    subst hj
    simp at hz
    rw [← hz, Nat.zero_mul]
    exact hy⟩, Nat.le_refl _, by unfold maxLen; simp⟩
  have hi : InC w s 0 ⟨1, 1, 0, 0, 5, []⟩ := ⟨⟨hcell h0 0, b1⟩, ⟨hcell h0 1, b1⟩, ⟨hcell h0 2, b0⟩, ⟨hcell h0 3, b0⟩, ⟨hcell h0 4, b5⟩, nil (hcell h0 5)⟩
  have hb : BlC w (s + 1) 0 ⟨[⟨1, 1, 0, 0, 5, []⟩], 3, 1, 0, 0⟩ := ⟨one (hcell h1 0) hi, ⟨hcell h1 1, b3⟩, ⟨hcell h1 2, b1⟩, ⟨hcell h1 3, b0⟩, ⟨hcell h1 4, b0⟩⟩
  have hf : FuC w (s + 1 + 1) 0 ⟨0, [], [⟨[⟨1, 1, 0, 0, 5, []⟩], 3, 1, 0, 0⟩]⟩ := ⟨⟨hcell h2 0, b0⟩, nil (hcell h2 1), one (hcell h2 2) hb⟩
  exact ⟨nil (hcell h3 0), nil (hcell h3 1), nil (hcell h3 2), nil (hcell h3 3), one (hcell h3 4) hf, ⟨hcell h3 5, b0⟩⟩


set_option maxRecDepth 20000 in
set_option maxHeartbeats 8000000 in
theorem begun_any (w : World) (hg : Glob w) : Calls Tryd.prog 9 #[] w fun e w' => e = .returned (.bool true) ∧ Keeps [] w w' := by
  obtain ⟨w1, e1⟩ : ∃ w1, w1 = w.alloc (.cells #[.int .i64 1, .int .i64 1, .int .i64 0, .int .i64 0, .int .i64 5, .slice none 0 0] 34) := ⟨_, rfl⟩
  obtain ⟨w2, e2⟩ : ∃ w2, w2 = w1.alloc (.cells #[.slice (some ⟨w.heap.size, 0, none⟩) 1 1, .int .i64 3, .int .i64 1, .int .i64 0, .int .i64 0] 55) := ⟨_, rfl⟩
  obtain ⟨w3, e3⟩ : ∃ w3, w3 = w2.alloc (.cells #[.int .i64 0, .slice none 0 0, .slice (some ⟨w.heap.size + 1, 0, none⟩) 1 1] 59) := ⟨_, rfl⟩
  obtain ⟨w4, e4⟩ : ∃ w4, w4 = w3.alloc (.cells #[.slice none 0 0, .slice none 0 0, .slice none 0 0, .slice none 0 0, .slice (some ⟨w.heap.size + 1 + 1, 0, none⟩) 1 1, .int .i64 0] 52) := ⟨_, rfl⟩
  have s1 : w1.heap.size = w.heap.size + 1 := by rw [e1, World.size_alloc]
  have s2 : w2.heap.size = w.heap.size + 1 + 1 := by rw [e2, World.size_alloc, s1]
  have s3 : w3.heap.size = w.heap.size + 1 + 1 + 1 := by rw [e3, World.size_alloc, s2]
  have k1 : Keeps [] w w1 := by rw [e1]; exact Keeps.alloc _ _ _
  have k2 : Keeps [] w1 w2 := by rw [e2]; exact Keeps.alloc _ _ _
  have k3 : Keeps [] w2 w3 := by rw [e3]; exact Keeps.alloc _ _ _
  have k4 : Keeps [] w3 w4 := by rw [e4]; exact Keeps.alloc _ _ _
  have h0 := keep_heap (show w1.heap[w.heap.size]? = some _ by rw [e1]; exact heap_new _ _) ((k2.quiet k3).quiet k4)
  have h1 := keep_heap (show w2.heap[w.heap.size + 1]? = some _ by rw [e2, ← s1]; exact heap_new _ _) (k3.quiet k4)
  have h2 := keep_heap (show w3.heap[w.heap.size + 1 + 1]? = some _ by rw [e3, ← s2]; exact heap_new _ _) k4
  have h3 := (show w4.heap[w.heap.size + 1 + 1 + 1]? = some _ by rw [e4, ← s3]; exact heap_new _ _)
  have HP := hid (prc0 h0 h1 h2 h3)
  have K4 := hid (((k1.quiet k2).quiet k3).quiet k4)
  have HG := hid hg
  have HE : Box (w4 = (((w.alloc (.cells #[.int .i64 1, .int .i64 1, .int .i64 0, .int .i64 0, .int .i64 5, .slice none 0 0] 34)).alloc (.cells #[.slice (some ⟨w.heap.size, 0, none⟩) 1 1, .int .i64 3, .int .i64 1, .int .i64 0, .int .i64 0] 55)).alloc (.cells #[.int .i64 0, .slice none 0 0, .slice (some ⟨w.heap.size + 1, 0, none⟩) 1 1] 59)).alloc (.cells #[.slice none 0 0, .slice none 0 0, .slice none 0 0, .slice none 0 0, .slice (some ⟨w.heap.size + 1 + 1, 0, none⟩) 1 1, .int .i64 0] 52)) := hid (by rw [e4, e3, e2, e1])
  clear h0 h1 h2 h3 k1 k2 k3 k4 s1 s2 s3 e1 e2 e3 e4 hg
  have HD := hid fun (w' : World) => def_any ⟨8, 0, 0, 0, 0, []⟩ (.slice none 0 0) w'
  have edv : defV ⟨8, 0, 0, 0, 0, []⟩ = .tuple #[.int .i64 0, .bool false] := defV_no rfl
  rw [edv] at HD
  unfold insV at HD
  have HPT := hid fun (w' : World) (k : Keeps [] w4 w') => points_any (PrC.stays _ _ _ _ _ k HP.out) sm0
  have HPR := hid fun (w' : World) (k : Keeps [] w4 w') => print_any (PrC.stays _ _ _ _ _ k HP.out) sm0 few0 (HG.out.quiet (K4.out.quiet k))
  have HNX := hid fun (w' : World) (k : Keeps [] w4 w') => next_any (PrC.stays _ _ _ _ _ k HP.out) sm0 0 (by unfold b64; omega)
  have HNU := hid fun (w' : World) (k : Keeps [] w4 w') => number_any (PrC.stays _ _ _ _ _ k HP.out) sm0 0 0 1
  rw [pts0] at HPT
  rw [text0] at HPR
  rw [nx0] at HNX
  rw [num0] at HNU
  unfold ptV at HNU
  go_enter Tryd.func9, Tryd.ntmps9
  go_wp2_with fail
  rw [← HE.out]
  clear HE
  generalize w.heap.size + 1 + 1 + 1 = q at *
  refine (HD.out _).mono ?_
  rintro e w5 ⟨rfl, k5⟩
  have HQ : Box (∀ (w' : World) (a : Option Addr) (cp : Nat) (b : Nat) (h1 : IntsAt w' a [1]) (h2 : w'.heap[b]? = some (.cells #[.int .i64 1] 3 (0, 0))), Calls Tryd.prog 18 #[.slice a 1 cp, .slice (some ⟨b, 0, none⟩) 1 1] w' fun e w2 => e = .returned (.bool true) ∧ Keeps [] w' w2) := hid fun w' a cp b h1 h2 => by
    have := eq_any a (some ⟨b, 0, none⟩) cp 1 [1] [1] w' h1 (.inr ⟨b, 0, rfl, fun i hi => by
      obtain rfl : i = 0 := by simpa using hi
      exact hcell h2 0⟩) (by simp)
    refine this.mono ?_
    rintro e w2 ⟨rfl, m, rfl⟩
    exact ⟨rfl, Keeps.drewN _ _ _⟩
  go_wp2_with fail
  refine (HPT.out _ k5).mono ?_
  rintro e w6 ⟨pa, pcp, rfl, _, k6⟩
  have K6 := k5.quiet k6
  clear k6
  go_wp2_with fail
  refine (HPR.out _ K6).mono ?_
  rintro e w7 ⟨rfl, k7⟩
  have K7 := K6.quiet k7
  clear k7
  go_wp2_with fail
  refine (HNX.out _ K7).mono ?_
  rintro e w8 ⟨na, ncp, rfl, hna, k8⟩
  have K8 := K7.quiet k8
  clear k8
  go_wp2_with fail
  have ka := Keeps.alloc [] w8 (.cells #[.int .i64 1] 3)
  refine (HQ.out _ na ncp _ (hna.kept ka (fun _ _ _ => by simp)) (heap_new _ _)).mono ?_
  rintro e w9 ⟨rfl, k9⟩
  have K9 := (K8.quiet ka).quiet k9
  clear k9
  go_wp2_with fail
  refine (HNU.out _ K9).mono ?_
  rintro e w10 ⟨rfl, k10⟩
  have K10 := K9.quiet k10
  clear k10
  go_wp2_with fail
  go_ret
  exact ⟨rfl, K4.out.quiet K10⟩
end Go.Proofs.YtknkjblifgppjaaDoor
