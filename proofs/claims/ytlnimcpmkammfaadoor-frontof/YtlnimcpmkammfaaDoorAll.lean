/-
  Contracts: bitset's All; numbers in a slice that the call has made.
-/
import Derived.Test.YtlnimcpmkammfaaDoorFirst
import Derived.Test.YtlnimcpmkammfaaDoorGTy
namespace Go.Proofs.YtlnimcpmkammfaaDoor
open Go.RowKit


/-- Those of s below c, rising. -/
def pre (s : Nat → Bool) (c : Nat) : List Nat := (List.range c).filter s

theorem pre_skip (s : Nat → Bool) (c : Nat) : ∀ d, (∀ m, c ≤ m → m < c + d → s m = false) → pre s (c + d) = pre s c
  | 0, _ => rfl
  | d + 1, h => by
    have ih := pre_skip s c d fun m h1 h2 => h m h1 (by omega)
    have hs := h (c + d) (by omega) (by omega)
    unfold pre at ih ⊢
    rw [show c + (d + 1) = (c + d) + 1 from rfl, List.range_succ, List.filter_append, ih]
    simp [List.filter, hs]

theorem pre_step (s : Nat → Bool) (c j : Nat) (h : firstI s c = j) : c ≤ j ∧ j < 5000 ∧ pre s (j + 1) = pre s c ++ [j] := by
  rcases firstI_spec s c with ⟨e, _⟩ | ⟨i, e, h1, h2, h3, h4⟩
  · omega
  · have : i = j := by omega
    subst this
    have hc : c ≤ i := by omega
    refine ⟨hc, h1, ?_⟩
    have hk := pre_skip s c (i - c) fun m a b => h4 m (by omega) (by omega)
    have e2 : c + (i - c) = i := by omega
    rw [e2] at hk
    rw [← hk]
    unfold pre
    rw [List.range_succ, List.filter_append]
    simp [List.filter, h3]

theorem pre_end (s : Nat → Bool) (c : Nat) (hc : c ≤ 5000) (h : firstI s c = -1) : pre s c = elems s := by
  rcases firstI_spec s c with ⟨_, h1⟩ | ⟨i, e, _⟩
  · have hk := pre_skip s c (5000 - c) fun m a b => h1 m (by omega) (by omega)
    have e2 : c + (5000 - c) = 5000 := by omega
    rw [e2] at hk
    rw [← hk]; rfl
  · omega

theorem pre_len (s : Nat → Bool) (c : Nat) : (pre s c).length ≤ c := by
  have h := List.length_filter_le s (List.range c)
  rw [List.length_range] at h
  exact h

def mAll (v : Value) : Nat := if intOf v < 0 then 0 else 5001 - (intOf v).toNat

theorem mAll_of {a b : Int} (h : b < 0 ∨ a < b ∧ a < 5001) (ha : 0 ≤ a) (ha2 : a < 5000) : mAll (.int .i64 b) < mAll (.int .i64 a) := by
  show (if b < 0 then 0 else 5001 - b.toNat) < (if a < 0 then 0 else 5001 - a.toNat)
  by_cases hb : b < 0
  · rw [if_pos hb, if_neg (by omega)]; omega
  · rw [if_neg hb, if_neg (by omega)]; omega

theorem mAll_step (s : Nat → Bool) (j : Nat) (hj : j < 5000) : mAll (.int .i64 (firstI s ((j : Int) + 1))) < mAll (.int .i64 (j : Int)) := by
  refine mAll_of ?_ (by omega) (by omega)
  rcases firstI_spec s ((j : Int) + 1) with ⟨e1, _⟩ | ⟨i, e1, _, h2, _, _⟩
  · rw [e1]; omega
  · rw [e1]; omega


set_option maxHeartbeats 1000000 in
theorem all_raw (pv : Value) (s : Nat → Bool) (L : Nat) (w : World) (hL : L ≤ 5000)
    (hlen : Calls Tryd.prog 23 #[pv] w fun e w' => e = .returned (.int .i64 (L : Int)) ∧ w' = w)
    (hfst : ∀ (a : Int) (w1 : World), Keeps [] w w1 → Calls Tryd.prog 28 #[pv, .int .i64 a] w1 fun e w' => e = .returned (.int .i64 (firstI s a)) ∧ ∃ m, w' = w1.drewN m) :
    Calls Tryd.prog 13 #[pv] w fun e w' => ∃ v, e = .returned v ∧ w'.ownsRow w.heap.size 3 1 v (elems s).length (ints (elems s)) ∧ Keeps [] w w' := by
  have HL := hid hlen
  have HF := hid hfst
  clear hlen hfst
  go_enter Tryd.func13, Tryd.ntmps13
  go_wp2_with fail
  refine HL.out.mono ?_
  rintro e w' ⟨rfl, hw'⟩
  obtain rfl := hw'.symm
  clear hw'
  go_wp2_with (at_make; refine wpList_make_own _ rfl _ _ 23 rfl w.heap.size 3 Tryd.t3 (.int .i64 0) 1 under_ints info_int zero_int size_int .i64 .i64 _ L rfl rfl rfl (by rw [bytes_int]; omega) (by unfold maxLen; omega) (Nat.le_refl _) ?_; intro w0 hown0 hgrow0)
  have hk0 : Keeps [] w w0 := Keeps.grown [] hgrow0 (by simp)
  refine (HF.out _ _ hk0).mono ?_
  rintro e w1 ⟨rfl, m, rfl⟩
  have hk1 : Keeps [] w (w0.drewN m) := hk0.quiet (Keeps.drewN _ _ m)
  have hown1 : (w0.drewN m).ownsRow w.heap.size 3 1 (Value.slice (some ⟨w.heap.size, 0, none⟩) 0 L) 0 [] := hown0
  clear hgrow0 hk0 hown0
  generalize w0.drewN m = w1 at hk1 hown1 ⊢
  obtain ⟨r0, hr0⟩ : ∃ r0, firstI s 0 = r0 := ⟨_, rfl⟩
  rw [hr0]
  have hs0 : Box (r0 = firstI s ((0 : Nat) : Int)) := hid hr0.symm
  clear hr0
  go_wp2_with fail
  go_loopw [3, 4] (fun l n wr => ∃ (c : Nat) (r : Int), n = .int .i64 r ∧ c ≤ 5000 ∧ Box (r = firstI s c) ∧ wr.ownsRow w.heap.size 3 1 l (pre s c).length (ints (pre s c)) ∧ Keeps [] w wr) (fun _ n _ => mAll n)
  case atStart => exact ⟨0, r0, rfl, by omega, hs0, hown1, hk1⟩
  case round =>
    clear hown1 hk1 hs0
    obtain ⟨c, r, rfl, hc, hr, hown, hk⟩ := hrel
    rcases firstI_spec s c with ⟨e1, _⟩ | ⟨j, e1, hj, _, _, _⟩
    · have hr1 : r = -1 := hr.out.trans e1
      have hend := hid (pre_end s c hc e1)
      subst hr1
      clear e1 hr
      go_wp2
      go_ret
      refine ⟨_, rfl, ?_, hk⟩
      rw [hend.out] at hown
      exact hown
    · have hr1 : r = (j : Int) := hr.out.trans e1
      obtain ⟨hcj, _, hst⟩ := pre_step s c j e1
      have hst' := hid hst
      have hpl := pre_len s c
      subst hr1
      clear e1 hr hst
      have hn : Box ((pre s (j + 1)).length = (pre s c).length + 1 ∧ ints (pre s (j + 1)) = ints (pre s c) ++ [.int .i64 (j : Int)]) := hid (by rw [hst'.out]; simp [ints])
      generalize (pre s c).length = nn at hown hpl hn
      generalize ints (pre s c) = xs at hown hn
      have hown' := hid hown
      clear hown
      go_wp2_with (at_builtin; refine wpList_append_own _ rfl _ _ 23 rfl w.heap.size 3 Tryd.t3 (.int .i64 0) 1 8 under_ints info_int zero_int size_int bytes_int rfl (by decide) _ _ _ rfl (hown'.out.alloc _) ⟨wr.heap.size, 0, none⟩ 1 1 [.int .i64 (j : Int)] rfl rfl (cell_one_new _ _ _) (fun x hx => by simp at hx; subst hx; rfl) (by unfold maxLen; omega) (by omega) (by have := hk.size; simp; omega) ?_; intro v' w3 hown3 hgrow3 hnil3)
      have hk2 : Keeps [] wr (wr.alloc (Obj.cells #[.int .i64 (j : Int)] 3)) := Keeps.alloc _ _ _
      have hk3 : Keeps [] w w3 := (hk.quiet hk2).appended hown'.out hgrow3 (Nat.le_refl _)
      clear hk2 hgrow3 hnil3 hown'
      refine (HF.out _ _ hk3).mono ?_
      rintro e w4 ⟨rfl, m4, rfl⟩
      have hk4 : Keeps [] w (w3.drewN m4) := hk3.quiet (Keeps.drewN _ _ m4)
      have hown4 : (w3.drewN m4).ownsRow w.heap.size 3 1 v' (nn + 1) (xs ++ [.int .i64 (j : Int)]) := hown3
      clear hk3 hown3 hk
      generalize w3.drewN m4 = w4 at hk4 hown4 ⊢
      have hmeas := hid (mAll_step s j hj)
      obtain ⟨r1, hr1⟩ : ∃ r1, firstI s ((j : Int) + 1) = r1 := ⟨_, rfl⟩
      rw [hr1] at hmeas ⊢
      have hb1 : Box (r1 = firstI s ((j + 1 : Nat) : Int)) := hid (by rw [← hr1]; exact congrArg (firstI s) (by omega))
      clear hr1
      go_wp2
      go_roundw
      case rel => exact ⟨j + 1, r1, rfl, by omega, hb1, by rw [hn.out.1, hn.out.2]; exact hown4, hk4⟩
      case measure => exact hmeas.out

/-- All of a set. -/
theorem all_any (b : Nat) (s : Nat → Bool) (w : World) (hs : SetAt w b s) (hf : Fit s) (hT : TabAt w) :
    Calls Tryd.prog 13 #[.pointer (some ⟨b, 0, none⟩)] w fun e w' => ∃ v, e = .returned v ∧ w'.ownsRow w.heap.size 3 1 v (elems s).length (ints (elems s)) ∧ Keeps [] w w' :=
  all_raw _ s (elems s).length w (pre_len s 5000) (len_any b s w hs hf) fun a w1 hk => first_any b s a w1 (hs.kept hk (by simp)) hf (hT.kept hk (by simp))

theorem firstI_none (a : Int) : firstI (fun _ => false) a = -1 := by
  rcases firstI_spec (fun _ => false) a with ⟨e, _⟩ | ⟨j, _, _, _, h, _⟩
  · exact e
  · cases h

theorem elems_none : elems (fun _ => false) = [] := by simp [elems]

/-- All of no set: none. -/
theorem all_nil (w : World) :
    Calls Tryd.prog 13 #[.pointer none] w fun e w' => ∃ v, e = .returned v ∧ w'.ownsRow w.heap.size 3 1 v 0 [] ∧ Keeps [] w w' := by
  have h := all_raw (.pointer none) (fun _ => false) 0 w (by omega) (len_nil w) fun a w1 _ => (first_nil a w1).mono fun e w' ⟨he, hw⟩ => ⟨by rw [he, firstI_none], 0, hw⟩
  rw [elems_none] at h
  exact h
end Go.Proofs.YtlnimcpmkammfaaDoor
