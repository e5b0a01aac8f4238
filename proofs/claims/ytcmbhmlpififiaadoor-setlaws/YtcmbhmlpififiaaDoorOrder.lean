/-
  The statement SetOrder: its walk.
-/
import Derived.Test.YtcmbhmlpififiaaDoorCut
namespace Go.Proofs.YtcmbhmlpififiaaDoor
open Go.RowKit

/-- What the loop has put in: all of it is of zs, and the last k of zs are in. -/
structure Half (zs : List Int) (k : Nat) (s : Nat → Bool) : Prop where
  fit : Fit s
  sub : ∀ n, s n = true → ofI zs n = true
  has : ∀ j : Nat, j < k → ∀ n : Nat, n < 5000 → zs.getD (zs.length - 1 - j) 0 = (n : Int) → s n = true

theorem half_zero (zs : List Int) : Half zs 0 none_ := ⟨fit_none, (fun n h => by simp [none_] at h), (fun j hj => by omega)⟩

theorem insI_true {s : Nat → Bool} {z : Int} {n : Nat} (h : insI s z n = true) : s n = true ∨ (z = (n : Int) ∧ n < 5000) := by
  unfold insI at h
  simp at h
  rcases h with h | h
  · exact Or.inl h
  · exact Or.inr ⟨h.2.symm, by omega⟩
theorem insI_old {s : Nat → Bool} {n : Nat} (z : Int) (h : s n = true) : insI s z n = true := by simp [insI, h]
theorem insI_new {s : Nat → Bool} {n : Nat} {z : Int} (h : z = (n : Int)) (hn : n < 5000) : insI s z n = true := by
  have : z < 5000 := by omega
  subst h
  simp [insI, this]

theorem ofI_of_mem {zs : List Int} {n : Nat} (h : (n : Int) ∈ zs) (hn : n < 5000) : ofI zs n = true := by rw [ofI_mem]; simp [h, hn]
theorem getD_mem (zs : List Int) (j : Nat) (h : j < zs.length) : zs.getD j 0 ∈ zs := by
  simp [List.getD, List.getElem?_eq_getElem h]

theorem half_step (zs : List Int) (k j : Nat) (s : Nat → Bool) (h : Half zs k s) (hj : j < zs.length) (hk : k < zs.length) : Half zs (k + 1) (insI (insI s (zs.getD j 0)) (zs.getD (zs.length - 1 - k) 0)) := by
  refine ⟨(h.fit.ins _).ins _, fun n hn => ?_, fun i hi n hn he => ?_⟩
  · rcases insI_true hn with hn | ⟨he, hl⟩
    · rcases insI_true hn with hn | ⟨he, hl⟩
      · exact h.sub n hn
      · exact ofI_of_mem (by rw [← he]; exact getD_mem zs j hj) hl
    · exact ofI_of_mem (by rw [← he]; exact getD_mem zs _ (by omega)) hl
  · by_cases hik : i < k
    · exact insI_old _ (insI_old _ (h.has i hik n hn he))
    · have : i = k := by omega
      subst this
      exact insI_new he hn

theorem half_end (zs : List Int) (s : Nat → Bool) (h : Half zs zs.length s) : s = ofI zs := by
  funext n
  rw [Bool.eq_iff_iff]
  refine ⟨h.sub n, fun hn => ?_⟩
  rw [ofI_mem] at hn
  simp at hn
  obtain ⟨hl, hm⟩ := hn
  obtain ⟨i, hi, he⟩ := List.getElem_of_mem hm
  refine h.has (zs.length - 1 - i) (by omega) n hl ?_
  have e : zs.length - 1 - (zs.length - 1 - i) = i := by omega
  rw [e]
  simp [List.getD, List.getElem?_eq_getElem hi, he]

theorem idx_mod (k kk len : Nat) : ((k : Int) * 7 + (kk : Int)) % (len : Int) = (((k * 7 + kk) % len : Nat) : Int) := by
  have e : (k : Int) * 7 + (kk : Int) = ((k * 7 + kk : Nat) : Int) := by omega
  rw [e]
  exact (Int.natCast_emod _ _).symm

theorem eqI_self (s : Nat → Bool) (hf : Fit s) : eqI s s = true := (eqI_iff s s hf hf).2 rfl

set_option maxHeartbeats 2000000 in
theorem order_core (b off cap len : Nat) (zs : List Int) (turn : Int) (w : World) (hT : TabAt w) (hlen : zs.length = len) (hpos : 0 < len) (h40 : len ≤ 40) (ht : 0 ≤ turn)
    (hc : ∀ i, i < len → w.cell? ⟨b, off + i, none⟩ = some (.int .i64 (zs.getD i 0))) (v0 : Value)
    (hcut : ∀ w1, Keeps [] w w1 → Calls Tryd.prog 19 #[v0, .int .i64 40] w1 fun e w' => e = .returned (.slice (some ⟨b, off, none⟩) len cap) ∧ w' = w1) :
    Calls Tryd.prog 7 #[v0, .int .i64 turn] w fun e w' => e = .returned (.bool true) ∧ Keeps [] w w' := by
  have HBe := hid (begun_any w hT)
  have HC := hid hc
  have HCut := hid hcut
  have HL := hid hlen
  have hzero := zero_set
  have HO := hid fun (w1 : World) (hk : Keeps [] w w1) => of_raw b off cap zs w1 (fun i hi => (hk.cell (p := ⟨b, off + i, none⟩) (block_lt_of_cell (hc i (by omega))) (by simp)).trans (hc i (by omega))) (by omega)
  rw [hlen] at HO
  have hd : decide (turn < 0) = false := by simp; omega
  obtain ⟨kk, hkk, hkl⟩ : ∃ kk : Nat, turn % (len : Int) = (kk : Int) ∧ kk < len := by
    have h1 := Int.emod_nonneg turn (show (len : Int) ≠ 0 by omega)
    have h2 := Int.emod_lt_of_pos turn (show (0 : Int) < len by omega)
    exact ⟨(turn % (len : Int)).toNat, by omega, by omega⟩
  clear hT hc hcut hlen
  go_enter Tryd.func7, Tryd.ntmps7
  go_wp2_with fail
  refine HBe.out.mono ?_
  rintro e w1 ⟨rfl, hk1⟩
  clear HBe
  go_wp2_with fail
  refine (HCut.out _ hk1).mono ?_
  rintro e w2 ⟨rfl, hw2⟩
  obtain rfl := hw2.symm
  clear hw2 HCut
  have hl0 : ((len : Int) == 0) = false := by rw [beq_eq_false_iff_ne]; omega
  go_wp2_with fail
  refine (HO.out _ hk1).mono ?_
  rintro e w3 ⟨rfl, hs3, hk3⟩
  have hb1 : w.heap.size ≤ w1.heap.size := hk1.size
  have hk3' := hk1.quiet hk3
  clear HO hk1 hk3
  generalize w1.heap.size = b1 at hs3 hb1 ⊢
  have hlt3 := hs3.lt
  have hnew := setAt_new w3 none_
  have hkn : Keeps [] w3 (w3.alloc (Obj.cells (row none_) 28)) := Keeps.alloc _ _ _
  have hs4 := hid (hs3.kept hkn (by simp))
  have hk4 := hk3'.quiet hkn
  have hN := hid hnew
  clear hnew hs3 hkn hk3'
  go_wp2_with fail
  generalize w3.alloc (Obj.cells (row none_) 28) = w4 at hs4 hk4 hN ⊢
  generalize row none_ = R
  generalize w3.heap.size = c at hlt3 hN ⊢
  clear hl0 hd hkk
  go_loopw [9] (fun i wr => ∃ (k : Nat) (S : Nat → Bool), k ≤ len ∧ i = .int .i64 k ∧ Box (Half zs k S) ∧ Box (SetAt wr c S) ∧ Box (SetAt wr b1 (ofI zs)) ∧ Keeps [] w wr) (fun i _ => len - (intOf i).toNat)
  case atStart => exact ⟨0, none_, by omega, rfl, hid (half_zero zs), hN, hs4, hk4⟩
  case round =>
    clear hN hs4 hk4 hzero
    obtain ⟨k, S, hk, rfl, hh, hS, hO, hkw⟩ := hrel
    by_cases hlt : k < len
    · obtain ⟨j, hj, hjl⟩ : ∃ j : Nat, ((k : Int) * 7 + (kk : Int)) % (len : Int) = (j : Int) ∧ j < len := ⟨(k * 7 + kk) % len, idx_mod k kk len, Nat.mod_lt _ hpos⟩
      obtain ⟨j2, hj2, hj2l, hj3⟩ : ∃ j2 : Nat, (len : Int) - 1 - (k : Int) = (j2 : Int) ∧ j2 < len ∧ Box (j2 = zs.length - 1 - k) := ⟨len - 1 - k, by omega, by omega, hid (by rw [HL.out])⟩
      have g1 := HC.out j hjl
      have g2 := HC.out j2 hj2l
      have hst := hid (half_step zs k j S hh.out (by rw [HL.out]; exact hjl) (by rw [HL.out]; exact hlt))
      rw [← hj3.out] at hst
      have q1 : wr.cell? ⟨b, off + j, none⟩ = some (.int .i64 (zs.getD j 0)) := (hkw.cell (p := ⟨b, off + j, none⟩) (block_lt_of_cell g1) (by simp)).trans g1
      have hbl : b < w.heap.size := block_lt_of_cell g1
      have HG := hid g2
      have HA := hid fun z => add_any c S z wr hS.out hh.out.fit
      have HF := hid fun z => hh.out.fit.ins z
      clear g1 g2 hS hh
      generalize zs.getD j 0 = z1 at q1 hst
      generalize zs.getD j2 0 = z2 at hst HG
      go_wp2_with fail
      refine (HA.out z1).mono ?_
      rintro e w5 ⟨rfl, hs5, hk5⟩
      have hO5 := hid (hO.out.kept hk5 (by simp; omega))
      have hk5' : Keeps [] w w5 := hkw.trans hk5 fun x hx hl => by simp at hx; omega
      have q2 : w5.cell? ⟨b, off + j2, none⟩ = some (.int .i64 z2) := (hk5'.cell (p := ⟨b, off + j2, none⟩) hbl (by simp)).trans HG.out
      have HA2 := hid (add_any c (insI S z1) z2 w5 hs5 (HF.out z1))
      clear q1 HA hO hkw hk5 hs5 HF HG
      go_wp2_with fail
      refine HA2.out.mono ?_
      rintro e w6 ⟨rfl, hs6, hk6⟩
      have hO6 := hid (hO5.out.kept hk6 (by simp; omega))
      have hS6 := hid hs6
      have hk6' : Keeps [] w w6 := hk5'.trans hk6 fun x hx hl => by simp at hx; omega
      clear q2 HA2 hO5 hk5' hk6 hs6
      go_wp2
      go_roundw
      case rel => exact ⟨k + 1, _, by omega, by go_num, hst, hS6, hO6, hk6'⟩
      case measure => simp [intOf]; omega
    · obtain rfl : k = len := by omega
      have hSe : Box (S = ofI zs) := hid (half_end zs S (by rw [HL.out]; exact hh.out))
      rw [hSe.out] at hS
      have e1 := seq_or (some b1) (some c) (ofI zs) (ofI zs) wr hO.out hS.out (fit_ofI zs) (fit_ofI zs)
      have e2 := seq_or (some c) (some b1) (ofI zs) (ofI zs) wr hS.out hO.out (fit_ofI zs) (fit_ofI zs)
      rw [eqI_self _ (fit_ofI zs)] at e1 e2
      have E1 := hid e1
      have E2 := hid e2
      clear e1 e2 hS hO hSe hh
      go_wp2_with fail
      refine E1.out.mono ?_
      rintro e w7 ⟨rfl, hw7⟩
      obtain rfl := hw7.symm
      clear hw7 E1
      go_wp2_with fail
      refine E2.out.mono ?_
      rintro e w7 ⟨rfl, hw7⟩
      obtain rfl := hw7.symm
      clear hw7 E2
      go_wp2
      go_ret
      exact ⟨rfl, hkw⟩

set_option maxHeartbeats 1000000 in
theorem order_zero (v0 : Value) (a : Option Addr) (cap : Nat) (turn : Int) (w : World) (hT : TabAt w)
    (hcut : ∀ w1, Keeps [] w w1 → Calls Tryd.prog 19 #[v0, .int .i64 40] w1 fun e w' => e = .returned (.slice a 0 cap) ∧ w' = w1) :
    Calls Tryd.prog 7 #[v0, .int .i64 turn] w fun e w' => e = .returned (.bool true) ∧ Keeps [] w w' := by
  have HBe := hid (begun_any w hT)
  have HCut := hid hcut
  clear hT hcut
  go_enter Tryd.func7, Tryd.ntmps7
  go_wp2_with fail
  refine HBe.out.mono ?_
  rintro e w1 ⟨rfl, hk1⟩
  clear HBe
  go_wp2_with fail
  refine (HCut.out _ hk1).mono ?_
  rintro e w2 ⟨rfl, hw2⟩
  obtain rfl := hw2.symm
  clear hw2 HCut
  go_wp2
  go_ret
  exact ⟨rfl, hk1⟩

set_option maxHeartbeats 1000000 in
theorem order_neg (v0 : Value) (a : Option Addr) (len cap : Nat) (turn : Int) (w : World) (hT : TabAt w) (hpos : 0 < len) (hn : turn < 0)
    (hcut : ∀ w1, Keeps [] w w1 → Calls Tryd.prog 19 #[v0, .int .i64 40] w1 fun e w' => e = .returned (.slice a len cap) ∧ w' = w1) :
    Calls Tryd.prog 7 #[v0, .int .i64 turn] w fun e w' => e = .returned (.bool true) ∧ Keeps [] w w' := by
  have HBe := hid (begun_any w hT)
  have HCut := hid hcut
  clear hT hcut
  have hl0 : ((len : Int) == 0) = false := by rw [beq_eq_false_iff_ne]; omega
  have hd : decide (turn < 0) = true := by simpa using hn
  go_enter Tryd.func7, Tryd.ntmps7
  go_wp2_with fail
  refine HBe.out.mono ?_
  rintro e w1 ⟨rfl, hk1⟩
  clear HBe
  go_wp2_with fail
  refine (HCut.out _ hk1).mono ?_
  rintro e w2 ⟨rfl, hw2⟩
  obtain rfl := hw2.symm
  clear hw2 HCut
  go_wp2
  go_ret
  exact ⟨rfl, hk1⟩

/-- SetOrder: every list, every turn. -/
theorem order_any (a : Option Addr) (cap : Nat) (zs : List Int) (turn : Int) (w : World) (hT : TabAt w) (hz : IntsAt w a zs) (_hl : zs.length ≤ maxLen) (hc : zs.length ≤ cap) :
    Calls Tryd.prog 7 #[.slice a zs.length cap, .int .i64 turn] w fun e w' => e = .returned (.bool true) ∧ Keeps [] w w' := by
  have hcut : ∀ w1, Keeps [] w w1 → Calls Tryd.prog 19 #[.slice a zs.length cap, .int .i64 40] w1 fun e w' => e = .returned (.slice a (zs.take 40).length cap) ∧ w' = w1 :=
    fun w1 hk => cut_any a cap zs 40 w1 (hz.kept hk (fun _ _ _ => by simp)) hc
  have hz' := hz.take 40
  have hl40 : (zs.take 40).length ≤ 40 := List.length_take_le _ _
  generalize zs.take 40 = ys at hcut hz' hl40
  by_cases h0 : ys.length = 0
  · rw [h0] at hcut
    exact order_zero _ a cap turn w hT hcut
  · by_cases hn : turn < 0
    · exact order_neg _ a ys.length cap turn w hT (by omega) hn hcut
    · rcases hz' with rfl | ⟨b, off, rfl, hcell⟩
      · simp at h0
      · exact order_core b off cap ys.length ys turn w hT rfl (by omega) hl40 (by omega) hcell _ hcut
end Go.Proofs.YtcmbhmlpififiaaDoor
