/-
  begun: the program of one record.
-/
import Derived.Test.YtmipbaihlodmdaaDoorCEq
namespace Go.Proofs.YtmipbaihlodmdaaDoor
open Go.RowKit

/-- Decode of a program's bytes. -/
theorem dec_good {w w' : World} {P : Pr8} {e : Ending} (hP : prOk P) (hl : (prE P).length ≤ 20000) (h : DecPost w (prE P) e w') : ∃ b, e = .returned (.tuple #[.pointer (some ⟨b, 0, none⟩), .nilIface]) ∧ PrC w' b 0 P ∧ Keeps [] w w' := by
  obtain ⟨hk, ⟨_, b, Q, h1, h2, h3⟩ | ⟨h1, _⟩⟩ := h
  · have : Q = P := prE_inj h2.ok hP h3
    subst this
    exact ⟨b, h1, h2, hk⟩
  · exfalso
    rcases h1 with h1 | h1
    · omega
    · exact h1 P hP rfl
theorem dec_bad {w w' : World} {L : List UInt8} {e : Ending} (hL : ∀ P, prOk P → prE P ≠ L) (h : DecPost w L e w') : ∃ p, e = .returned (.tuple #[.pointer none, errV p]) ∧ RefAt w' p ∧ Keeps [] w w' := by
  obtain ⟨hk, ⟨_, b, Q, h1, h2, h3⟩ | ⟨_, p, h1, h2⟩⟩ := h
  · exact absurd h3 (hL Q h2.ok)
  · exact ⟨p, h1, h2, hk⟩
theorem dec_long {w w' : World} {L : List UInt8} {e : Ending} (hL : 20000 < L.length) (h : DecPost w L e w') : ∃ p, e = .returned (.tuple #[.pointer none, errV p]) ∧ RefAt w' p ∧ Keeps [] w w' := by
  obtain ⟨hk, ⟨h0, _⟩ | ⟨_, p, h1, h2⟩⟩ := h
  · omega
  · exact ⟨p, h1, h2, hk⟩
theorem enc_good {w w' : World} {P : Pr8} {e : Ending} (hl : (prE P).length ≤ 20000) (h : EncPost w P e w') : ∃ a cp, e = .returned (.tuple #[.slice a (prE P).length cp, .nilIface]) ∧ BytesAt w' a (prE P) ∧ (prE P).length ≤ cp ∧ Keeps [] w w' := by
  obtain ⟨hk, ⟨_, a, cp, h1, h2, h3⟩ | ⟨h1, _⟩⟩ := h
  · exact ⟨a, cp, h1, h2, h3, hk⟩
  · omega
theorem enc_bad {w w' : World} {P : Pr8} {e : Ending} (hl : 20000 < (prE P).length) (h : EncPost w P e w') : ∃ p, e = .returned (.tuple #[.slice none 0 0, errV p]) ∧ RefAt w' p ∧ Keeps [] w w' := by
  obtain ⟨hk, ⟨h1, _⟩ | ⟨_, p, h1, h2⟩⟩ := h
  · omega
  · exact ⟨p, h1, h2, hk⟩
def pr9 : Pr8 := ⟨[[(1, 0)]], [], [], [], [], -3⟩
theorem pr9_len : (prE pr9).length ≤ 20000 := by
  have e : prE pr9 = numE 1 ++ (numE 1 ++ (numE 1 ++ numE 0)) ++ numE 0 ++ numE 0 ++ numE 0 ++ numE 0 ++ numE (-3) := by
    simp [prE, pairE, tyssE, tysE, listE, tyE, sgsE, ifsE, imsE, fusE, pr9]
  rw [e]
  simp only [List.length_append]
  have h0 := numE_len (n := 0) (by unfold b64; omega)
  have h1 := numE_len (n := 1) (by unfold b64; omega)
  have h3 := numE_len (n := -3) (by unfold b64; omega)
  omega
theorem sl_nil {α : Type} {w : World} {c b o : Nat} {R : World → Nat → Nat → α → Prop} (h : w.cell? ⟨b, o, none⟩ = some (.slice none 0 0)) : SlC c R w b o ([] : List α) := ⟨none, 0, h, .inl rfl, Nat.le_refl _, Nat.zero_le _⟩
theorem sl_one {α : Type} {w : World} {c b o g n : Nat} {R : World → Nat → Nat → α → Prop} {y : α} (h : w.cell? ⟨b, o, none⟩ = some (.slice (some ⟨g, 0, none⟩) 1 n)) (hn : 1 ≤ n) (hy : R w g 0 y) : SlC c R w b o [y] := ⟨some ⟨g, 0, none⟩, n, h, .inr ⟨g, 0, rfl, fun j z hz => by
  have hj : j = 0 := by
    rcases Nat.lt_or_ge j 1 with h | h
    · omega
    · rw [List.getElem?_eq_none (by simpa using h)] at hz; cases hz
  subst hj
  simp at hz
  rw [← hz, Nat.zero_mul]
  exact hy⟩, hn, by unfold maxLen; simp⟩
theorem prc9 {w : World} {s : Nat} (h0 : w.heap[s]? = some (.cells #[.int .i64 1, .int .i64 0] 51 (0, 0)))
    (h1 : w.heap[s + 1]? = some (.cells #[.slice (some ⟨s, 0, none⟩) 1 1] 52 (0, 0)))
    (h2 : w.heap[s + 1 + 1]? = some (.cells #[.slice (some ⟨s + 1, 0, none⟩) 1 1, .slice none 0 0, .slice none 0 0, .slice none 0 0, .slice none 0 0, .int .i64 (-3)] 46 (0, 0))) : PrC w (s + 1 + 1) 0 pr9 := by
  have b0 : b64 0 := by unfold b64; omega
  have b1 : b64 1 := by unfold b64; omega
  have b3 : b64 (-3) := by unfold b64; omega
  have ht : TyC w s 0 (1, 0) := ⟨⟨hcell h0 0, b1⟩, ⟨hcell h0 1, b0⟩⟩
  have hs : SlC 2 TyC w (s + 1) 0 [(1, 0)] := sl_one (hcell h1 0) (Nat.le_refl _) ht
  exact ⟨sl_one (hcell h2 0) (Nat.le_refl _) hs, sl_nil (hcell h2 1), sl_nil (hcell h2 2), sl_nil (hcell h2 3), sl_nil (hcell h2 4), ⟨hcell h2 5, b3⟩⟩
theorem one_bytes {w : World} {b : Nat} {c : UInt8} {t : TypeId} {x : Int} (h : w.heap[b]? = some (.cells #[.int .u8 x] t (0, 0))) (hx : x = (c.toNat : Int)) : BytesAt w (some ⟨b, 0, none⟩) [c] := .inr ⟨b, 0, rfl, one_news h hx⟩

set_option maxRecDepth 20000 in
set_option maxHeartbeats 4000000 in
theorem begun_any (w : World) (hg : Glob w) : Calls Tryd.prog 9 #[] w fun e w' => e = .returned (.bool true) ∧ Keeps [] w w' := by
  obtain ⟨w1, e1⟩ : ∃ w1, w1 = w.alloc (.cells #[.int .i64 1, .int .i64 0] 51) := ⟨_, rfl⟩
  obtain ⟨w2, e2⟩ : ∃ w2, w2 = w1.alloc (.cells #[.slice (some ⟨w.heap.size, 0, none⟩) 1 1] 52) := ⟨_, rfl⟩
  obtain ⟨w3, e3⟩ : ∃ w3, w3 = w2.alloc (.cells #[.slice (some ⟨w.heap.size + 1, 0, none⟩) 1 1, .slice none 0 0, .slice none 0 0, .slice none 0 0, .slice none 0 0, .int .i64 (-3)] 46) := ⟨_, rfl⟩
  have s1 : w1.heap.size = w.heap.size + 1 := by rw [e1, World.size_alloc]
  have s2 : w2.heap.size = w.heap.size + 1 + 1 := by rw [e2, World.size_alloc, s1]
  have k1 : Keeps [] w w1 := by rw [e1]; exact Keeps.alloc _ _ _
  have k2 : Keeps [] w1 w2 := by rw [e2]; exact Keeps.alloc _ _ _
  have k3 : Keeps [] w2 w3 := by rw [e3]; exact Keeps.alloc _ _ _
  have h0 := keep_heap (show w1.heap[w.heap.size]? = some _ by rw [e1]; exact heap_new _ _) (k2.quiet k3)
  have h1 := keep_heap (show w2.heap[w.heap.size + 1]? = some _ by rw [e2, ← s1]; exact heap_new _ _) k3
  have h2 := (show w3.heap[w.heap.size + 1 + 1]? = some _ by rw [e3, ← s2]; exact heap_new _ _)
  have HP := hid (prc9 h0 h1 h2)
  have K3 := hid ((k1.quiet k2).quiet k3)
  have HG := hid hg
  have HE : Box (w3 = ((w.alloc (.cells #[.int .i64 1, .int .i64 0] 51)).alloc (.cells #[.slice (some ⟨w.heap.size, 0, none⟩) 1 1] 52)).alloc (.cells #[.slice (some ⟨w.heap.size + 1, 0, none⟩) 1 1, .slice none 0 0, .slice none 0 0, .slice none 0 0, .slice none 0 0, .int .i64 (-3)] 46)) := hid (by rw [e3, e2, e1])
  have HC := hid (encode_any HP.out)
  have HZ := hid pr9_len
  clear h0 h1 h2 k1 k2 k3 s1 s2 e1 e2 e3 hg
  go_enter Tryd.func9, Tryd.ntmps9
  go_wp2_with fail
  rw [← HE.out]
  clear HE
  generalize w.heap.size + 1 + 1 = q at *
  refine HC.out.mono ?_
  intro e w4 h4
  obtain ⟨a, cp, rfl, hb, hcp, k4⟩ := enc_good HZ.out h4
  have HD := hid (decode_any hb hcp (by have := HZ.out; omega))
  have HP4 := hid (PrC.stays _ _ _ _ _ k4 HP.out)
  have K4 := hid (K3.out.quiet k4)
  clear HC h4 hb hcp k4
  generalize (prE pr9).length = n9 at *
  go_wp2_with fail
  refine HD.out.mono ?_
  intro e w5 h5
  obtain ⟨qb, rfl, hq, k5⟩ := dec_good HP.out.ok pr9_len h5
  have HP5 := hid (PrC.stays _ _ _ _ _ k5 HP4.out)
  have HQ5 := hid hq
  have K5 := hid (K4.out.quiet k5)
  clear HD h5 hq k5 HP4
  have ka := Keeps.alloc [] w5 (.cells #[.int .u8 1] 5)
  have HD1 := hid (decode_any (one_bytes (c := 1) (heap_new w5 (.cells #[.int .u8 1] 5)) rfl) (cp := 1) (Nat.le_refl _) (by decide))
  have HKA := hid ka
  rw [show ([1] : List UInt8).length = 1 from rfl] at HD1
  clear ka
  go_wp2_with fail
  refine HD1.out.mono ?_
  intro e w6 h6
  obtain ⟨p, rfl, hr, k6⟩ := dec_bad (fun P _ e => by have := prE_len P; rw [e] at this; simp at this) h6
  have K56 := HKA.out.quiet k6
  have HEQ := hid (eqp_any (PrC.stays _ _ _ _ _ K56 HP5.out) (PrC.stays _ _ _ _ _ K56 HQ5.out) (by have := pr9_len; omega) (by have := pr9_len; omega))
  rw [decide_eq_true rfl] at HEQ
  have K6 := hid (K5.out.quiet K56)
  have HRF := hid hr
  clear HD1 h6 hr k6 HP5 HQ5 K56 HKA
  go_wp2_with fail
  refine HEQ.out.mono ?_
  rintro e w7 ⟨rfl, k7⟩
  have HWY := hid (why_ref p w7 (HG.out.quiet (K6.out.quiet k7)) (keep_heap HRF.out k7))
  have K7 := hid (K6.out.quiet k7)
  clear HEQ k7
  go_wp2_with fail
  refine HWY.out.mono ?_
  rintro e w8 ⟨rfl, k8⟩
  go_wp2_with fail
  go_ret
  exact ⟨rfl, K7.out.quiet k8⟩
end Go.Proofs.YtmipbaihlodmdaaDoor
