/-
  The statement SetMany: its walk.
-/
import Derived.Test.YtcmbhmlpififiabDoorCount
namespace Go.Proofs.YtcmbhmlpififiabDoor
open Go.RowKit

/-- The first i numbers of the span. -/
def span (f st i : Nat) : List Int := (List.range i).map fun j => ((f + j * st : Nat) : Int)

theorem span_succ (f st i : Nat) : span f st (i + 1) = span f st i ++ [((f + i * st : Nat) : Int)] := by
  unfold span; rw [List.range_succ, List.map_append]; rfl
theorem span_mem (f st i : Nat) (x : Int) : x ∈ span f st i ↔ ∃ j, j < i ∧ ((f + j * st : Nat) : Int) = x := by
  unfold span; rw [List.mem_map]; simp
theorem mul_lt' {i j st : Nat} (h : j < i) (hs : 1 ≤ st) : j * st < i * st := Nat.mul_lt_mul_of_pos_right h (by omega)

theorem span_new (f st i : Nat) (hs : 1 ≤ st) : hasI (ofI (span f st i)) ((f + i * st : Nat) : Int) = false := by
  have e : hasI (ofI (span f st i)) ((f + i * st : Nat) : Int) = ofI (span f st i) (f + i * st) := hasI_nat _ _
  rw [e, ofI_mem]
  simp only [decide_eq_false_iff_not, not_and]
  intro _ hm
  rw [span_mem] at hm
  obtain ⟨j, hj, hx⟩ := hm
  have := mul_lt' hj hs
  omega
theorem span_has (f st i n : Nat) (h : i < n) : hasI (ofI (span f st n)) ((f + i * st : Nat) : Int) = decide (f + i * st < 5000) := by
  have e : hasI (ofI (span f st n)) ((f + i * st : Nat) : Int) = ofI (span f st n) (f + i * st) := hasI_nat _ _
  rw [e, ofI_mem]
  have hm : ((f + i * st : Nat) : Int) ∈ span f st n := (span_mem f st n _).2 ⟨i, h, rfl⟩
  rw [Bool.eq_iff_iff]
  simp only [decide_eq_true_eq]
  exact ⟨fun h => h.1, fun h => ⟨h, hm⟩⟩
theorem span_gap (f st i n : Nat) (hs : 1 < st) : hasI (ofI (span f st n)) (((f + i * st : Nat) : Int) + 1) = false := by
  have e0 : ((f + i * st : Nat) : Int) + 1 = ((f + i * st + 1 : Nat) : Int) := by omega
  have e : hasI (ofI (span f st n)) ((f + i * st + 1 : Nat) : Int) = ofI (span f st n) (f + i * st + 1) := hasI_nat _ _
  rw [e0, e, ofI_mem]
  simp only [decide_eq_false_iff_not, not_and]
  intro _ hm
  rw [span_mem] at hm
  obtain ⟨j, _, hx⟩ := hm
  have hx' : j * st = i * st + 1 := by omega
  by_cases hji : j ≤ i
  · have := Nat.mul_le_mul_right st hji
    omega
  · have h1 : (i + 1) * st ≤ j * st := Nat.mul_le_mul_right st (by omega)
    rw [Nat.add_mul] at h1
    omega
theorem span_add (f st i : Nat) (hs : 1 ≤ st) : (decide ((0 : Int) ≤ ((f + i * st : Nat) : Int) ∧ ((f + i * st : Nat) : Int) < 5000) && !hasI (ofI (span f st i)) ((f + i * st : Nat) : Int)) = decide (f + i * st < 5000) := by
  rw [span_new f st i hs]
  rw [Bool.eq_iff_iff]
  simp
  omega
theorem span_count (f st i : Nat) (hs : 1 ≤ st) : (elems (ofI (span f st (i + 1)))).length = (elems (ofI (span f st i))).length + (if f + i * st < 5000 then 1 else 0) := by
  rw [span_succ, ofI_snoc]
  by_cases h : f + i * st < 5000
  · rw [if_pos h]
    have hn := span_new f st i hs
    have e : hasI (ofI (span f st i)) ((f + i * st : Nat) : Int) = ofI (span f st i) (f + i * st) := hasI_nat _ _
    rw [e] at hn
    exact elems_ins _ _ h hn
  · rw [if_neg h, insI_out _ _ (by omega), Nat.add_zero]

set_option maxHeartbeats 1000000 in
theorem many_out (f n st : Int) (w : World) (hT : TabAt w) (h : f < 0 ∨ (0 ≤ f ∧ 4000 < f) ∨ (0 ≤ f ∧ f ≤ 4000 ∧ n < 0) ∨ (0 ≤ f ∧ f ≤ 4000 ∧ 0 ≤ n ∧ 300 < n) ∨ (0 ≤ f ∧ f ≤ 4000 ∧ 0 ≤ n ∧ n ≤ 300 ∧ st < 1) ∨ (0 ≤ f ∧ f ≤ 4000 ∧ 0 ≤ n ∧ n ≤ 300 ∧ 1 ≤ st ∧ 20 < st)) :
    Calls Tryd.prog 4 #[.int .i64 f, .int .i64 n, .int .i64 st] w fun e w' => e = .returned (.bool true) ∧ Keeps [] w w' := by
  have HBe := hid (begun_any w hT)
  clear hT
  rcases h with h | ⟨_, _⟩ | ⟨_, _, _⟩ | ⟨_, _, _, _⟩ | ⟨_, _, _, _, _⟩ | ⟨_, _, _, _, _, _⟩
  all_goals
    go_enter Tryd.func4, Tryd.ntmps4
    go_wp2_with fail
    refine HBe.out.mono ?_
    rintro e w1 ⟨rfl, hk1⟩
    clear HBe
    go_wp2
    go_ret
    exact ⟨rfl, hk1⟩

set_option maxHeartbeats 2000000 in
theorem many_in (f n st : Nat) (w : World) (hT : TabAt w) (hf : f ≤ 4000) (hn : n ≤ 300) (hs1 : 1 ≤ st) (hs2 : st ≤ 20) :
    Calls Tryd.prog 4 #[.int .i64 (f : Int), .int .i64 (n : Int), .int .i64 (st : Int)] w fun e w' => e = .returned (.bool true) ∧ Keeps [] w w' := by
  have HBe := hid (begun_any w hT)
  have hzero := zero_set
  clear hT
  go_enter Tryd.func4, Tryd.ntmps4
  go_wp2_with fail
  refine HBe.out.mono ?_
  rintro e w1 ⟨rfl, hk1⟩
  clear HBe
  have hnew := hid (setAt_new w1 none_)
  have hkn : Keeps [] w (w1.alloc (Obj.cells (row none_) 35)) := hk1.quiet (Keeps.alloc _ _ _)
  have hle : w.heap.size ≤ w1.heap.size := hk1.size
  clear hk1
  go_wp2_with fail
  generalize w1.alloc (Obj.cells (row none_) 35) = w2 at hnew hkn ⊢
  generalize row none_ = R
  generalize w1.heap.size = b at hnew hle ⊢
  go_loopw [9, 10] (fun kv iv wr => ∃ i : Nat, i ≤ n ∧ iv = .int .i64 i ∧ kv = .int .i64 ((elems (ofI (span f st i))).length : Nat) ∧ Box (SetAt wr b (ofI (span f st i))) ∧ Keeps [] w wr) (fun _ iv _ => n - (intOf iv).toNat)
  case atStart => exact ⟨0, by omega, rfl, by rw [show elems (ofI (span f st 0)) = [] from elems_none]; rfl, hnew, hkn⟩
  case round =>
    clear hnew hkn
    obtain ⟨i, hi, rfl, rfl, hset, hkw⟩ := hrel
    have hel : (elems (ofI (span f st i))).length ≤ 5000 := pre_len _ 5000
    by_cases hlt : i < n
    · have hp6 : i * st ≤ 6000 := Nat.le_trans (Nat.mul_le_mul (by omega : i ≤ 300) hs2) (by omega)
      obtain ⟨p, hp, hp7⟩ : ∃ p : Nat, (i : Int) * (st : Int) = (p : Int) ∧ Box (i * st = p) := ⟨i * st, by simp, hid rfl⟩
      have hp8 : p ≤ 6000 := by rw [← hp7.out]; exact hp6
      have HA := hid (add_any b _ ((f + i * st : Nat) : Int) wr hset.out (fit_ofI _))
      rw [span_add f st i hs1, ← ofI_snoc, ← span_succ, hp7.out] at HA
      have hcx : ((f + p : Nat) : Int) = (f : Int) + (p : Int) := by omega
      rw [hcx] at HA
      have hct := hid (span_count f st i hs1)
      rw [hp7.out] at hct
      clear hcx hset hp6
      generalize (elems (ofI (span f st i))).length = c at hel hct
      by_cases h5 : f + p < 5000
      · have hd : decide (f + p < 5000) = true := by simpa using h5
        rw [hd] at HA
        clear hd
        have hct' : Box ((elems (ofI (span f st (i + 1)))).length = c + 1) := hid (by rw [hct.out, if_pos h5])
        clear hct h5
        go_wp2_with fail
        refine HA.out.mono ?_
        rintro e w4 ⟨rfl, hs4, hk4⟩
        have hk5 : Keeps [] w w4 := hkw.trans hk4 fun x hx hl => by simp at hx; omega
        have hs5 := hid hs4
        clear hk4 hs4 HA
        go_wp2
        go_roundw
        case rel => exact ⟨i + 1, by omega, by go_num, by rw [hct'.out]; go_num, hs5, hk5⟩
        case measure => simp [intOf]; omega
      · have hd : decide (f + p < 5000) = false := by simpa using h5
        rw [hd] at HA
        clear hd
        have hct' : Box ((elems (ofI (span f st (i + 1)))).length = c) := hid (by rw [hct.out, if_neg h5]; omega)
        clear hct h5
        go_wp2_with fail
        refine HA.out.mono ?_
        rintro e w4 ⟨rfl, hs4, hk4⟩
        have hk5 : Keeps [] w w4 := hkw.trans hk4 fun x hx hl => by simp at hx; omega
        have hs5 := hid hs4
        clear hk4 hs4 HA
        go_wp2
        go_roundw
        case rel => exact ⟨i + 1, by omega, by go_num, by rw [hct'.out], hs5, hk5⟩
        case measure => simp [intOf]; omega
    · obtain rfl : i = n := by omega
      have HLn := hid fun (w9 : World) (h9 : SetAt w9 b (ofI (span f st i))) => len_any b _ w9 h9 (fit_ofI _)
      generalize (elems (ofI (span f st i))).length = c at hel HLn ⊢
      have hcc : ((c : Int) == (c : Int)) = true := by simp
      have hin : Box (∀ j : Nat, j < i → hasI (ofI (span f st i)) ((f + j * st : Nat) : Int) = decide (f + j * st < 5000)) := hid fun j hj => span_has f st j i hj
      have hgap : Box (∀ j : Nat, 1 < st → hasI (ofI (span f st i)) (((f + j * st : Nat) : Int) + 1) = false) := hid fun j hs => span_gap f st j i hs
      have HH := hid fun (x : Int) (w9 : World) (h9 : SetAt w9 b (ofI (span f st i))) => has_any b (ofI (span f st i)) x w9 h9 (fit_ofI _)
      generalize ofI (span f st i) = S at hset HLn hin hgap HH
      go_wp2_with fail
      obtain ⟨wo, rfl⟩ : ∃ wo : World, wo = wr := ⟨_, rfl⟩
      go_loopw [11] (fun jv wr => ∃ j : Nat, j ≤ i ∧ jv = .int .i64 j ∧ Box (SetAt wr b S) ∧ Keeps [] w wr) (fun jv _ => i - (intOf jv).toNat)
      case atStart => exact ⟨0, by omega, rfl, hset, hkw⟩
      case round =>
        clear hset hkw
        obtain ⟨j, hj, rfl, hset, hkw⟩ := hrel
        by_cases hlt : j < i
        · have hp6 : j * st ≤ 6000 := Nat.le_trans (Nat.mul_le_mul (by omega : j ≤ 300) hs2) (by omega)
          obtain ⟨p, hp, hp7⟩ : ∃ p : Nat, (j : Int) * (st : Int) = (p : Int) ∧ Box (j * st = p) := ⟨j * st, by simp, hid rfl⟩
          have hp8 : p ≤ 6000 := by rw [← hp7.out]; exact hp6
          have e1 := hin.out j hlt
          have e2 := hid (hgap.out j)
          rw [hp7.out] at e1 e2
          have hcx : ((f + p : Nat) : Int) = (f : Int) + (p : Int) := by omega
          rw [hcx] at e1 e2
          have HA := hid (HH.out ((f : Int) + (p : Int)) wr hset.out)
          rw [e1] at HA
          clear hcx hp6 e1
          have hS1 := hset
          by_cases hst : 1 < st
          · have HA2 := hid fun (w9 : World) (h9 : SetAt w9 b S) => HH.out ((f : Int) + (p : Int) + 1) w9 h9
            rw [e2.out hst] at HA2
            have hst1 : decide ((1 : Int) < (st : Int)) = true := by simp; omega
            by_cases h5 : f + p < 5000
            · have hd : decide (f + p < 5000) = true := decide_eq_true h5
              rw [hd] at HA
              have h5' : (f : Int) + (p : Int) < 5000 := by omega
              have h5d : decide ((f : Int) + (p : Int) < 5000) = true := decide_eq_true h5'
              clear hd e2 h5
              go_wp2_with fail
              refine HA.out.mono ?_
              rintro e w4 ⟨rfl, m4, rfl⟩
              have hs5 := hid (hset.out.drewN m4)
              have hk5 : Keeps [] w (wr.drewN m4) := hkw.quiet (Keeps.drewN _ _ _)
              clear hset hS1 hkw HA
              generalize wr.drewN m4 = w4 at hs5 hk5 ⊢
              go_wp2_with fail
              refine (HA2.out _ hs5.out).mono ?_
              rintro e w6 ⟨rfl, m6, rfl⟩
              have hs7 := hid (hs5.out.drewN m6)
              have hk7 : Keeps [] w (w4.drewN m6) := hk5.quiet (Keeps.drewN _ _ _)
              clear hs5 hk5 HA2
              generalize w4.drewN m6 = w6 at hs7 hk7 ⊢
              go_wp2
              go_roundw
              case rel => exact ⟨j + 1, by omega, by go_num, hs7, hk7⟩
              case measure => simp [intOf]; omega
            · have hd : decide (f + p < 5000) = false := decide_eq_false h5
              rw [hd] at HA
              have h5' : ¬ (f : Int) + (p : Int) < 5000 := by omega
              have h5d : decide ((f : Int) + (p : Int) < 5000) = false := decide_eq_false h5'
              clear hd e2 h5 h5'
              go_wp2_with fail
              refine HA.out.mono ?_
              rintro e w4 ⟨rfl, m4, rfl⟩
              have hs5 := hid (hset.out.drewN m4)
              have hk5 : Keeps [] w (wr.drewN m4) := hkw.quiet (Keeps.drewN _ _ _)
              clear hset hS1 hkw HA
              generalize wr.drewN m4 = w4 at hs5 hk5 ⊢
              go_wp2_with fail
              refine (HA2.out _ hs5.out).mono ?_
              rintro e w6 ⟨rfl, m6, rfl⟩
              have hs7 := hid (hs5.out.drewN m6)
              have hk7 : Keeps [] w (w4.drewN m6) := hk5.quiet (Keeps.drewN _ _ _)
              clear hs5 hk5 HA2
              generalize w4.drewN m6 = w6 at hs7 hk7 ⊢
              go_wp2
              go_roundw
              case rel => exact ⟨j + 1, by omega, by go_num, hs7, hk7⟩
              case measure => simp [intOf]; omega
          · have hst1 : decide ((1 : Int) < (st : Int)) = false := by simp; omega
            by_cases h5 : f + p < 5000
            · have hd : decide (f + p < 5000) = true := decide_eq_true h5
              rw [hd] at HA
              have h5' : (f : Int) + (p : Int) < 5000 := by omega
              have h5d : decide ((f : Int) + (p : Int) < 5000) = true := decide_eq_true h5'
              clear hd e2 h5
              go_wp2_with fail
              refine HA.out.mono ?_
              rintro e w4 ⟨rfl, m4, rfl⟩
              have hs5 := hid (hset.out.drewN m4)
              have hk5 : Keeps [] w (wr.drewN m4) := hkw.quiet (Keeps.drewN _ _ _)
              clear hset hS1 hkw HA
              generalize wr.drewN m4 = w4 at hs5 hk5 ⊢
              go_wp2
              go_roundw
              case rel => exact ⟨j + 1, by omega, by go_num, hs5, hk5⟩
              case measure => simp [intOf]; omega
            · have hd : decide (f + p < 5000) = false := decide_eq_false h5
              rw [hd] at HA
              have h5' : ¬ (f : Int) + (p : Int) < 5000 := by omega
              have h5d : decide ((f : Int) + (p : Int) < 5000) = false := decide_eq_false h5'
              clear hd e2 h5 h5'
              go_wp2_with fail
              refine HA.out.mono ?_
              rintro e w4 ⟨rfl, m4, rfl⟩
              have hs5 := hid (hset.out.drewN m4)
              have hk5 : Keeps [] w (wr.drewN m4) := hkw.quiet (Keeps.drewN _ _ _)
              clear hset hS1 hkw HA
              generalize wr.drewN m4 = w4 at hs5 hk5 ⊢
              go_wp2
              go_roundw
              case rel => exact ⟨j + 1, by omega, by go_num, hs5, hk5⟩
              case measure => simp [intOf]; omega
        · obtain rfl : j = i := by omega
          have HA := hid (HLn.out wr hset.out)
          go_wp2_with fail
          refine HA.out.mono ?_
          rintro e w7 ⟨rfl, hw7⟩
          obtain rfl := hw7.symm
          clear hw7 HA
          go_wp2
          go_ret
          exact ⟨rfl, hkw⟩

/-- SetMany: all numbers. -/
theorem many_any (f n st : Int) (w : World) (hT : TabAt w) :
    Calls Tryd.prog 4 #[.int .i64 f, .int .i64 n, .int .i64 st] w fun e w' => e = .returned (.bool true) ∧ Keeps [] w w' := by
  by_cases h : 0 ≤ f ∧ f ≤ 4000 ∧ 0 ≤ n ∧ n ≤ 300 ∧ 1 ≤ st ∧ st ≤ 20
  · obtain ⟨F, rfl⟩ := Int.eq_ofNat_of_zero_le h.1
    obtain ⟨N, rfl⟩ := Int.eq_ofNat_of_zero_le h.2.2.1
    obtain ⟨S, rfl⟩ := Int.eq_ofNat_of_zero_le (show 0 ≤ st by omega)
    exact many_in F N S w hT (by omega) (by omega) (by omega) (by omega)
  · exact many_out f n st w hT (by omega)
end Go.Proofs.YtcmbhmlpififiabDoor
