/-
  Contracts: bitset's In and Eq.
-/
import Derived.Test.YtlnimcpmkammfaaDoorCopy
namespace Go.Proofs.YtlnimcpmkammfaaDoor
open Go.RowKit

def lessI (s t : Nat → Bool) : Nat → Bool := fun n => s n && !t n
def meetI (s t : Nat → Bool) : Nat → Bool := fun n => s n && t n
def joinI (s t : Nat → Bool) : Nat → Bool := fun n => s n || t n

/-- Is each of s in t? -/
def subI (s t : Nat → Bool) : Bool := (List.range 5000).all fun n => !s n || t n

theorem subI_iff (s t : Nat → Bool) (hf : Fit s) : subI s t = true ↔ ∀ n, s n = true → t n = true := by
  unfold subI
  rw [List.all_eq_true]
  constructor
  · intro h n hs
    have hn : n < 5000 := by
      apply Nat.lt_of_not_le
      intro hle
      rw [hf n hle] at hs
      cases hs
    have := h n (by simpa using hn)
    simpa [hs] using this
  · intro h n _
    cases hs : s n
    · rfl
    · simp [h n hs]

theorem sub_words (s t : Nat → Bool) (hf : Fit s) (h : ∀ k, k < 79 → wd (lessI s t) k = 0) : subI s t = true := by
  rw [subI_iff s t hf]
  intro n hs
  have hn : n < 5000 := by
    apply Nat.lt_of_not_le
    intro hle
    rw [hf n hle] at hs
    cases hs
  have h1 := (wd_eq_zero (lessI s t) (n / 64)).1 (h (n / 64) (by omega)) (n % 64) (Nat.mod_lt _ (by decide))
  have e : 64 * (n / 64) + n % 64 = n := by omega
  rw [e] at h1
  simpa [lessI, hs] using h1

theorem sub_not (s t : Nat → Bool) (hf : Fit s) (k : Nat) (h : wd (lessI s t) k ≠ 0) : subI s t = false := by
  cases hs : subI s t
  · rfl
  · exfalso
    apply h
    rw [wd_eq_zero]
    intro i _
    have := (subI_iff s t hf).1 hs (64 * k + i)
    unfold lessI
    cases hn : s (64 * k + i)
    · rfl
    · simp [this hn]

set_option maxHeartbeats 400000 in
theorem in_nil (v : Value) (w : World) :
    Calls Tryd.prog 21 #[.pointer none, v] w fun e w' => e = .returned (.bool true) ∧ w' = w := by
  go_enter Tryd.func21, Tryd.ntmps21
  go_wp2
  go_ret
  exact ⟨rfl, rfl⟩

set_option maxHeartbeats 400000 in
theorem in_of_nil_raw (b n : Nat) (w : World) (hl : Calls Tryd.prog 23 #[.pointer (some ⟨b, 0, none⟩)] w fun e w' => e = .returned (.int .i64 (n : Int)) ∧ w' = w) :
    Calls Tryd.prog 21 #[.pointer (some ⟨b, 0, none⟩), .pointer none] w fun e w' => e = .returned (.bool ((n : Int) == 0)) ∧ w' = w := by
  have H := hid hl
  clear hl
  go_enter Tryd.func21, Tryd.ntmps21
  go_wp2_with fail
  refine H.out.mono ?_
  rintro e w1 ⟨rfl, rfl⟩
  go_wp2
  go_ret
  exact ⟨rfl, rfl⟩

theorem elems_length_zero (s : Nat → Bool) (hf : Fit s) : (((elems s).length : Int) == 0) = subI s none_ := by
  rw [Bool.eq_iff_iff, subI_iff s none_ hf]
  simp [elems, none_]
  constructor
  · intro h n
    by_cases hn : n < 5000
    · exact h n hn
    · exact hf n (by omega)
  · intro h n _
    exact h n

theorem in_of_nil (b : Nat) (s : Nat → Bool) (w : World) (hs : SetAt w b s) (hf : Fit s) :
    Calls Tryd.prog 21 #[.pointer (some ⟨b, 0, none⟩), .pointer none] w fun e w' => e = .returned (.bool (subI s none_)) ∧ w' = w := by
  rw [← elems_length_zero s hf]
  exact in_of_nil_raw b _ w (len_any b s w hs hf)

set_option maxHeartbeats 1000000 in
theorem in_any (b c : Nat) (s t : Nat → Bool) (w : World) (hs : SetAt w b s) (ht : SetAt w c t) (hf : Fit s) :
    Calls Tryd.prog 21 #[.pointer (some ⟨b, 0, none⟩), .pointer (some ⟨c, 0, none⟩)] w fun e w' => e = .returned (.bool (subI s t)) ∧ w' = w := by
  have HS := hid hs
  have HTt := hid ht
  have HF := hid hf
  clear hs ht hf
  go_enter Tryd.func21, Tryd.ntmps21
  go_wp2_with (refine wpList_load_row rfl 54 _ rfl b rfl 56 (row s) (0, 0) (.array 79 53) HS.out.heap under_arr rfl (info_arr s) ?_)
  have hidx0 : Box (∀ k : Nat, k < 79 → ∀ w, (Instr.index 54 (.agg (row s)) (.int .i64 (k : Int))).run Tryd.prog w = .ok (.int .u64 (wd s k : Nat)) w) := hid (idx_row s)
  clear HS
  generalize row s = R at hidx0 ⊢
  go_loop [18] (fun i => ∃ k : Nat, k ≤ 79 ∧ i = .int .i64 k ∧ Box (∀ j, j < k → wd (lessI s t) j = 0)) (fun i => 79 - (intOf i).toNat)
  case atStart => exact ⟨0, by omega, rfl, hid fun j hj => by omega⟩
  case round =>
    obtain ⟨k, hk, rfl, hz⟩ := hrel
    by_cases hlt : k < 79
    · have hidx := hidx0.out k hlt
      have hc := HTt.out.cell hlt
      have hb : bits BinOp.andNot IntKind.u64 (wd s k : Nat) (wd t k : Nat) = (wd (lessI s t) k : Nat) := by
        rw [u64_andNot_nat _ _ (wd_lt s k) (wd_lt t k), wd_less]; rfl
      have hno := hid fun h : wd (lessI s t) k ≠ 0 => sub_not s t HF.out k h
      have hnx : Box (wd (lessI s t) k = 0 → ∀ j, j < k + 1 → wd (lessI s t) j = 0) := hid fun h j hj => by
        by_cases hjk : j < k
        · exact hz.out j hjk
        · have : j = k := by omega
          rw [this]; exact h
      generalize wd (lessI s t) k = z at hb hno hnx
      generalize wd s k = x at hidx hb
      generalize wd t k = y at hc hb
      by_cases hz0 : z = 0
      · subst hz0
        go_wp2
        go_round
        case rel => exact ⟨k + 1, by omega, by go_num, hid (hnx.out rfl)⟩
        case measure => simp [intOf]; omega
      · have hbz : ((z : Int) != 0) = true := by rw [bne_iff_ne]; omega
        have hres := hid (hno.out hz0)
        clear hz0
        go_wp2
        go_ret
        exact ⟨by rw [hres.out]; rfl, rfl⟩
    · obtain rfl : k = 79 := by omega
      have hres := hid (sub_words s t HF.out hz.out)
      go_wp2
      go_ret
      exact ⟨by rw [hres.out]; rfl, rfl⟩

theorem subI_none (t : Nat → Bool) : subI none_ t = true := (subI_iff none_ t fit_none).2 fun n h => by cases h

/-- In: of no set, too. -/
theorem in_or (o1 o2 : Option Nat) (s t : Nat → Bool) (w : World) (hs : SetOr w o1 s) (ht : SetOr w o2 t) (hf : Fit s) :
    Calls Tryd.prog 21 #[pt o1, pt o2] w fun e w' => e = .returned (.bool (subI s t)) ∧ w' = w := by
  cases o1 with
  | none =>
    have e : s = none_ := hs
    subst e
    rw [subI_none]
    exact in_nil _ w
  | some b =>
    cases o2 with
    | none =>
      have e : t = none_ := ht
      subst e
      exact in_of_nil b s w hs hf
    | some c => exact in_any b c s t w hs ht hf

/-- Are s and t the same? -/
def eqI (s t : Nat → Bool) : Bool := subI s t && subI t s

theorem eqI_iff (s t : Nat → Bool) (hf : Fit s) (hg : Fit t) : eqI s t = true ↔ s = t := by
  unfold eqI
  rw [Bool.and_eq_true, subI_iff s t hf, subI_iff t s hg]
  constructor
  · rintro ⟨h1, h2⟩
    funext n
    rw [Bool.eq_iff_iff]
    exact ⟨h1 n, h2 n⟩
  · rintro rfl
    exact ⟨fun _ h => h, fun _ h => h⟩



end Go.Proofs.YtlnimcpmkammfaaDoor
