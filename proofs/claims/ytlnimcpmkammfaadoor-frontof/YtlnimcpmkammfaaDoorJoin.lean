/-
  Contracts: bitset's Join, Less and Meet.
-/
import Derived.Test.YtlnimcpmkammfaaDoorIn
namespace Go.Proofs.YtlnimcpmkammfaaDoor
open Go.RowKit

/-- s, with f s t in the first k words. -/
def mix (f : Bool → Bool → Bool) (s t : Nat → Bool) (k : Nat) : Nat → Bool := fun n => if n < 64 * k then f (s n) (t n) else s n
def both (f : Bool → Bool → Bool) (s t : Nat → Bool) : Nat → Bool := fun n => f (s n) (t n)

theorem mix_zero (f : Bool → Bool → Bool) (s t : Nat → Bool) : mix f s t 0 = s := by funext n; simp [mix]
theorem mix_here (f : Bool → Bool → Bool) (s t : Nat → Bool) (k : Nat) : wd (mix f s t k) k = wd s k := by
  apply wd_congr
  intro i hi
  have : ¬ 64 * k + i < 64 * k := by omega
  simp [mix, this]
theorem mix_at (f : Bool → Bool → Bool) (s t : Nat → Bool) (k : Nat) : wd (both f s t) k = wd (mix f s t (k + 1)) k := by
  apply wd_congr
  intro i hi
  have : 64 * k + i < 64 * (k + 1) := by omega
  simp [mix, both, this]
theorem mix_off (f : Bool → Bool → Bool) (s t : Nat → Bool) (k j : Nat) (h : j ≠ k) : wd (mix f s t (k + 1)) j = wd (mix f s t k) j := by
  apply wd_congr
  intro i hi
  unfold mix
  by_cases hl : 64 * j + i < 64 * k
  · have : 64 * j + i < 64 * (k + 1) := by omega
    rw [if_pos hl, if_pos this]
  · have : ¬ 64 * j + i < 64 * (k + 1) := by omega
    rw [if_neg hl, if_neg this]
theorem mix_end (f : Bool → Bool → Bool) (s t : Nat → Bool) (hf : Fit s) (hg : Fit t) (h0 : f false false = false) : mix f s t 79 = both f s t := by
  funext n
  unfold mix both
  by_cases hn : n < 64 * 79
  · rw [if_pos hn]
  · rw [if_neg hn, hf n (by omega), hg n (by omega), h0]
theorem fit_both (f : Bool → Bool → Bool) (s t : Nat → Bool) (hf : Fit s) (hg : Fit t) (h0 : f false false = false) : Fit (both f s t) := by
  intro n hn
  unfold both
  rw [hf n hn, hg n hn, h0]

set_option maxHeartbeats 400000 in
theorem join_nil (v : Value) (w : World) :
    Calls Tryd.prog 22 #[.pointer none, v] w fun e w' => e = .returned (.bool false) ∧ w' = w := by
  go_enter Tryd.func22, Tryd.ntmps22
  go_wp2
  go_ret
  exact ⟨rfl, rfl⟩

set_option maxHeartbeats 400000 in
theorem join_in (b : Nat) (v : Value) (w : World) (h : Calls Tryd.prog 21 #[v, .pointer (some ⟨b, 0, none⟩)] w fun e w' => e = .returned (.bool true) ∧ w' = w) :
    Calls Tryd.prog 22 #[.pointer (some ⟨b, 0, none⟩), v] w fun e w' => e = .returned (.bool false) ∧ w' = w := by
  have H := hid h
  clear h
  go_enter Tryd.func22, Tryd.ntmps22
  go_wp2_with fail
  refine H.out.mono ?_
  rintro e w1 ⟨rfl, rfl⟩
  go_wp2
  go_ret
  exact ⟨rfl, rfl⟩

set_option maxHeartbeats 1000000 in
theorem join_raw (b c : Nat) (s t : Nat → Bool) (w : World) (hs : SetAt w b s) (ht : SetAt w c t)
    (h : Calls Tryd.prog 21 #[.pointer (some ⟨c, 0, none⟩), .pointer (some ⟨b, 0, none⟩)] w fun e w' => e = .returned (.bool false) ∧ w' = w) :
    Calls Tryd.prog 22 #[.pointer (some ⟨b, 0, none⟩), .pointer (some ⟨c, 0, none⟩)] w fun e w' => e = .returned (.bool true) ∧ SetAt w' b (mix or s t 79) ∧ Keeps [b] w w' := by
  have H := hid h
  have HS := hid hs
  have HTt := hid ht
  clear hs ht h
  go_enter Tryd.func22, Tryd.ntmps22
  go_wp2_with fail
  refine H.out.mono ?_
  rintro e w1 ⟨rfl, hw⟩
  obtain rfl := hw.symm
  clear hw H
  go_wp2_with (refine wpList_load_row rfl 54 _ rfl c rfl 56 (row t) (0, 0) (.array 79 53) HTt.out.heap under_arr rfl (info_arr t) ?_)
  have hidx0 : Box (∀ k : Nat, k < 79 → ∀ w, (Instr.index 54 (.agg (row t)) (.int .i64 (k : Int))).run Tryd.prog w = .ok (.int .u64 (wd t k : Nat)) w) := hid (idx_row t)
  clear HTt
  generalize row t = R at hidx0 ⊢
  go_loopw [18] (fun i wr => ∃ k : Nat, k ≤ 79 ∧ i = .int .i64 k ∧ Box (SetAt wr b (mix or s t k)) ∧ Keeps [b] w wr) (fun i _ => 79 - (intOf i).toNat)
  case atStart => exact ⟨0, by omega, rfl, hid (by rw [mix_zero]; exact HS.out), Keeps.refl _ _⟩
  case round =>
    clear HS
    obtain ⟨k, hk, rfl, hset, hkw⟩ := hrel
    by_cases hlt : k < 79
    · have hidx := hidx0.out k hlt
      have hc : wr.cell? ⟨b, k, none⟩ = some (.int .u64 (wd s k : Nat)) := by rw [hset.out.cell hlt, mix_here]
      have hfz : wr.frozen? ⟨b, k, none⟩ = false := hset.out.frozen k
      have hb : bits BinOp.or IntKind.u64 (wd s k : Nat) (wd t k : Nat) = (wd (both or s t) k : Nat) := by
        rw [u64_or_nat _ _ (wd_lt s k) (wd_lt t k), wd_or]; rfl
      have hput := hid (hset.out.put (mix or s t (k + 1)) k (wd (both or s t) k) (fun j hj => mix_off or s t k j hj) (mix_at or s t k))
      generalize wd (both or s t) k = z at hb hput
      generalize wd s k = x at hc hb
      generalize wd t k = y at hidx hb
      clear hset
      go_wp2
      go_region
      go_wp2
      go_roundw
      case rel =>
        refine ⟨k + 1, by omega, by go_num, ?_, ?_⟩
        · exact hid ⟨hput.out.heap⟩
        · exact (hkw.step (Keeps.setCell [b] wr ⟨b, k, none⟩ (.int .u64 (z : Int)) (by simp))).quiet (Keeps.drew [] _)
      case measure => simp [intOf]; omega
    · obtain rfl : k = 79 := by omega
      go_wp2
      go_ret
      exact ⟨rfl, hset.out, hkw⟩

theorem joined_in (s t : Nat → Bool) (hg : Fit t) (h : subI t s = true) : both or s t = s := by
  funext n
  have := (subI_iff t s hg).1 h n
  unfold both
  cases ht : t n
  · simp
  · simp [this ht]

/-- Join: of no set, too. -/
theorem join_any (b : Nat) (o : Option Nat) (s t : Nat → Bool) (w : World) (hs : SetAt w b s) (ht : SetOr w o t) (hf : Fit s) (hg : Fit t) :
    Calls Tryd.prog 22 #[.pointer (some ⟨b, 0, none⟩), pt o] w fun e w' => e = .returned (.bool (!subI t s)) ∧ SetAt w' b (both or s t) ∧ Keeps [b] w w' := by
  have h1 := in_or o (some b) t s w ht hs hg
  cases hq : subI t s
  · rw [hq] at h1
    cases o with
    | none =>
      have e : t = none_ := ht
      rw [e, subI_none] at hq
      cases hq
    | some c =>
      refine (join_raw b c s t w hs ht h1).mono ?_
      rintro e w' ⟨he, h2, h3⟩
      rw [mix_end or s t hf hg rfl] at h2
      exact ⟨he, h2, h3⟩
  · rw [hq] at h1
    refine (join_in b (pt o) w h1).mono ?_
    rintro e w' ⟨he, hw⟩
    subst hw
    exact ⟨he, by rw [joined_in s t hg hq]; exact hs, Keeps.refl _ _⟩

theorem copy_or (o : Option Nat) (s : Nat → Bool) (w : World) (hs : SetOr w o s) :
    Calls Tryd.prog 29 #[pt o] w fun e w' => e = .returned (.pointer (some ⟨w.heap.size, 0, none⟩)) ∧ SetAt w' w.heap.size s ∧ Keeps [] w w' := by
  cases o with
  | none =>
    have e : s = none_ := hs
    rw [e]
    exact copy_nil w
  | some b => exact copy_any b s w hs

def lessB (x y : Bool) : Bool := x && !y

set_option maxHeartbeats 400000 in
theorem less_of_nil (v : Value) (s : Nat → Bool) (w : World)
    (h : Calls Tryd.prog 29 #[v] w fun e w' => e = .returned (.pointer (some ⟨w.heap.size, 0, none⟩)) ∧ SetAt w' w.heap.size s ∧ Keeps [] w w') :
    Calls Tryd.prog 32 #[v, .pointer none] w fun e w' => e = .returned (.pointer (some ⟨w.heap.size, 0, none⟩)) ∧ SetAt w' w.heap.size s ∧ Keeps [] w w' := by
  have H := hid h
  clear h
  go_enter Tryd.func32, Tryd.ntmps32
  go_wp2_with fail
  refine H.out.mono ?_
  rintro e w1 ⟨rfl, hs1, hk1⟩
  have HS := hid hs1
  clear hs1 H
  go_wp2
  go_ret
  exact ⟨rfl, HS.out, hk1⟩


set_option maxHeartbeats 1000000 in
theorem less_raw (c : Nat) (v : Value) (s t : Nat → Bool) (w : World) (ht : SetAt w c t)
    (h : Calls Tryd.prog 29 #[v] w fun e w' => e = .returned (.pointer (some ⟨w.heap.size, 0, none⟩)) ∧ SetAt w' w.heap.size s ∧ Keeps [] w w') :
    Calls Tryd.prog 32 #[v, .pointer (some ⟨c, 0, none⟩)] w fun e w' => e = .returned (.pointer (some ⟨w.heap.size, 0, none⟩)) ∧ SetAt w' w.heap.size (mix lessB s t 79) ∧ Keeps [] w w' := by
  have H := hid h
  have HTt := hid ht
  clear ht h
  go_enter Tryd.func32, Tryd.ntmps32
  go_wp2_with fail
  refine H.out.mono ?_
  rintro e w1 ⟨rfl, hs1, hk1⟩
  have HT1 := hid (HTt.out.kept hk1 (by simp))
  have HS := hid hs1
  clear HTt H hs1
  generalize hbb : w.heap.size = b at HS ⊢
  have hB := hid hbb
  clear hbb
  go_wp2_with (refine wpList_load_row rfl 54 _ rfl c rfl 56 (row t) (0, 0) (.array 79 53) HT1.out.heap under_arr rfl (info_arr t) ?_)
  have hidx0 : Box (∀ k : Nat, k < 79 → ∀ w, (Instr.index 54 (.agg (row t)) (.int .i64 (k : Int))).run Tryd.prog w = .ok (.int .u64 (wd t k : Nat)) w) := hid (idx_row t)
  clear HT1
  generalize row t = R at hidx0 ⊢
  go_loopw [17] (fun i wr => ∃ k : Nat, k ≤ 79 ∧ i = .int .i64 k ∧ Box (SetAt wr b (mix lessB s t k)) ∧ Keeps [] w wr) (fun i _ => 79 - (intOf i).toNat)
  case atStart => exact ⟨0, by omega, rfl, hid (by rw [mix_zero]; exact HS.out), hk1⟩
  case round =>
    clear HS hk1
    obtain ⟨k, hk, rfl, hset, hkw⟩ := hrel
    by_cases hlt : k < 79
    · have hidx := hidx0.out k hlt
      have hc : wr.cell? ⟨b, k, none⟩ = some (.int .u64 (wd s k : Nat)) := by rw [hset.out.cell hlt, mix_here]
      have hfz : wr.frozen? ⟨b, k, none⟩ = false := hset.out.frozen k
      have hb : bits BinOp.andNot IntKind.u64 (wd s k : Nat) (wd t k : Nat) = (wd (both lessB s t) k : Nat) := by
        rw [u64_andNot_nat _ _ (wd_lt s k) (wd_lt t k), wd_less]; rfl
      have hput := hid (hset.out.put (mix lessB s t (k + 1)) k (wd (both lessB s t) k) (fun j hj => mix_off lessB s t k j hj) (mix_at lessB s t k))
      generalize wd (both lessB s t) k = z at hb hput
      generalize wd s k = x at hc hb
      generalize wd t k = y at hidx hb
      clear hset
      go_wp2
      go_region
      go_wp2
      go_roundw
      case rel =>
        refine ⟨k + 1, by omega, by go_num, ?_, ?_⟩
        · exact hid ⟨hput.out.heap⟩
        · refine (hkw.trans (Keeps.setCell [b] wr ⟨b, k, none⟩ (.int .u64 (z : Int)) (by simp)) fun x hx hl => ?_).quiet (Keeps.drew [] _)
          have := hB.out
          simp at hx
          omega
      case measure => simp [intOf]; omega
    · obtain rfl : k = 79 := by omega
      go_wp2
      go_ret
      exact ⟨by rw [hB.out]; rfl, by rw [hB.out]; exact hset.out, hkw⟩


/-- Less: of no set, too. -/
theorem less_or (o1 o2 : Option Nat) (s t : Nat → Bool) (w : World) (hs : SetOr w o1 s) (ht : SetOr w o2 t) (hf : Fit s) (hg : Fit t) :
    Calls Tryd.prog 32 #[pt o1, pt o2] w fun e w' => e = .returned (.pointer (some ⟨w.heap.size, 0, none⟩)) ∧ SetAt w' w.heap.size (both lessB s t) ∧ Keeps [] w w' := by
  have h := copy_or o1 s w hs
  cases o2 with
  | none =>
    have e : t = none_ := ht
    have e2 : both lessB s t = s := by funext n; simp [both, lessB, e, none_]
    rw [e2]
    exact less_of_nil _ s w h
  | some c =>
    have := less_raw c (pt o1) s t w ht h
    rw [mix_end lessB s t hf hg rfl] at this
    exact this

end Go.Proofs.YtlnimcpmkammfaaDoor
