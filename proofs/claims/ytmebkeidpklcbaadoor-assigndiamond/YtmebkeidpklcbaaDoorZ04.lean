/-
  Contracts: bitset's Add and Remove.
  Lists of nodes in memory; plain facts on the search in depth.
  Small graphs; contract: graph's May of one.
  Contracts: bitset's Of; the documents' own Eq of two slices.
  Contracts: the documents' own Eq of two slices.
  types.endNamed: an end's names.
  types.field, method.
  A program in memory, looked at; rows of points and of numbers that a call has made; ir.size (out of the texts of stage 8).
  types.numberNamed: what an instruction's N names.
  A program that came in, opened (out of COpen).
  Values of a program's types, as they are handed on (out of CVal).
  A function's flow, plain.
  A block of two cells (out of GTurn).
  slices.Clone of numbers; ir.At: the instruction at a point.
  A program in memory, looked at; ir.size, ir.block, ir.total, ir.first.
  The points behind a point, plain.
  types.Bounds: limits.
  What the document's Next answers, told besides that it lies in new memory.
-/
import Derived.Test.YtmebkeidpklcbaaDoorRows
import Derived.WalkKit
import Derived.WalkSpells
import Derived.WalkLawsBesides
import Derived.Lib.TrailingZeros
import Derived.Deep.QuietTactic
import Derived.BigQuiet
import Derived.Laws.BitsAllLaws
import Derived.RegionTactic
import Derived.ChangeAlike
import Derived.OwnWalk
import Derived.Maps.AppendAt
import Derived.Lib.Builder
import Derived.Deep.OwnRows
import Derived.Laws.Bits64b
import Derived.Laws.Bits128
import Derived.Deep.DeepCutAuto
import Derived.Deep.AppendLies
import Derived.LaidEql
import Derived.Stop.Asserts
import Derived.RowKitTokens
import Derived.Defers
import Derived.Recover
import Derived.Deep.RegionLaw
import Derived.ProofKit
import Derived.OpenShut
import Derived.ChangeOld
import Derived.Deep.DeepHandedRow
import Derived.Deep.Slices
import Derived.Deep.Fields
import Derived.SizedLaws
import Derived.Deep.RegionHeld3
import Derived.Shelf.Strconv.Itoa3
import Derived.Laws.AppendOwnNone
import Derived.Test.YtmebkeidpklcbaaDoorZ01
import Derived.Test.YtmebkeidpklcbaaDoorZ03

namespace Go.Proofs.YtmebkeidpklcbaaDoor
open Go.RowKit

set_option maxHeartbeats 400000 in
theorem add_out (b : Nat) (a : Int) (w : World) (h : ¬ (0 ≤ a ∧ a < 5000)) :
    Calls Tryd.prog 59 #[.pointer (some ⟨b, 0, none⟩), .int .i64 a] w fun e w' => e = .returned (.bool false) ∧ w' = w := by
  have H := hid h
  clear h
  go_enter Tryd.func59, Tryd.ntmps59
  go_wp2_with (go_at_call 45; refine (may_no _ _ H.out).mono ?_; rintro e w' ⟨rfl, rfl⟩)
  go_ret
  exact ⟨rfl, rfl⟩
set_option maxHeartbeats 400000 in
theorem add_in (b n : Nat) (w : World) (h : n < 5000)
    (hh : ∀ w1, w1 = w → Calls Tryd.prog 19 #[.pointer (some ⟨b, 0, none⟩), .int .i64 n] w1 fun e w' => e = .returned (.bool true) ∧ ∃ m, w' = w1.drewN m) :
    Calls Tryd.prog 59 #[.pointer (some ⟨b, 0, none⟩), .int .i64 n] w fun e w' => e = .returned (.bool false) ∧ ∃ m, w' = w.drewN m := by
  have H := hid hh
  clear hh
  go_enter Tryd.func59, Tryd.ntmps59
  go_wp2_with fail
  refine (may_yes n _ h).mono ?_
  rintro e w' ⟨rfl, rfl⟩
  go_wp2_with fail
  refine (H.out _ rfl).mono ?_
  rintro e w' ⟨rfl, m, rfl⟩
  go_wp2
  go_ret
  exact ⟨rfl, _, rfl⟩
set_option maxHeartbeats 400000 in
theorem add_core (b n k p x z : Nat) (w : World) (h : n < 5000) (hk : k < 79) (hz : bits BinOp.or IntKind.u64 (x : Int) (p : Int) = (z : Int)) (hc : w.cell? ⟨b, k, none⟩ = some (.int .u64 x)) (hfz : w.frozen? ⟨b, k, none⟩ = false)
    (hh : ∀ w1, w1 = w → Calls Tryd.prog 19 #[.pointer (some ⟨b, 0, none⟩), .int .i64 n] w1 fun e w' => e = .returned (.bool false) ∧ ∃ m, w' = w1.drewN m)
    (hpl : ∀ w1, Calls Tryd.prog 46 #[.int .i64 n] w1 fun e w' => e = .returned (.tuple #[.int .i64 k, .int .u64 p]) ∧ ∃ m, w' = w1.drewN m) :
    Calls Tryd.prog 59 #[.pointer (some ⟨b, 0, none⟩), .int .i64 n] w fun e w' => e = .returned (.bool true) ∧ ∃ m, w' = (w.setCell ⟨b, k, none⟩ (.int .u64 z)).drewN m := by
  have H := hid hh
  have H2 := hid hpl
  clear hh hpl
  go_enter Tryd.func59, Tryd.ntmps59
  go_wp2_with fail
  refine (may_yes n _ h).mono ?_
  rintro e w' ⟨rfl, rfl⟩
  go_wp2_with fail
  refine (H.out _ rfl).mono ?_
  rintro e w' ⟨rfl, m, rfl⟩
  go_wp2_with fail
  refine (H2.out _).mono ?_
  rintro e w' ⟨rfl, m2, rfl⟩
  go_wp2
  go_region
  go_wp2
  go_ret
  exact ⟨rfl, _, rfl⟩
theorem place_at (n : Nat) (hn : n < 5000) (w1 : World) : Calls Tryd.prog 46 #[.int .i64 (n : Int)] w1 fun e w' => e = .returned (.tuple #[.int .i64 ((n / 64 : Nat) : Int), .int .u64 ((2 ^ (n % 64) : Nat) : Int)]) ∧ ∃ m, w' = w1.drewN m := by
  refine (place_any n w1 hn).mono ?_
  rintro e w' ⟨k, p, he, _, _, hh, hw⟩
  obtain ⟨rfl, rfl⟩ := hh.out
  exact ⟨he, hw⟩
/-- Add: every number. -/
theorem add_any (b : Nat) (s : Nat → Bool) (a : Int) (w : World) (hs : SetAt w b s) (hf : Fit s) :
    Calls Tryd.prog 59 #[.pointer (some ⟨b, 0, none⟩), .int .i64 a] w fun e w' => e = .returned (.bool (decide (0 ≤ a ∧ a < 5000) && !hasI s a)) ∧ SetAt w' b (insI s a) ∧ Keeps [b] w w' := by
  by_cases h : 0 ≤ a ∧ a < 5000
  · have hd : decide (0 ≤ a ∧ a < 5000) = true := by simpa using h
    rw [hd]
    obtain ⟨n, rfl⟩ := Int.eq_ofNat_of_zero_le h.1
    have hn : n < 5000 := by omega
    have e2 : hasI s (n : Int) = s n := by simp [hasI]
    rw [e2]
    have hh : ∀ w1, w1 = w → Calls Tryd.prog 19 #[.pointer (some ⟨b, 0, none⟩), .int .i64 (n : Int)] w1 fun e w' => e = .returned (.bool (s n)) ∧ ∃ m, w' = w1.drewN m := by
      intro w1 hw
      subst hw
      have := has_any b s n w1 hs hf
      rw [e2] at this
      exact this
    cases hsn : s n
    · have hp : 2 ^ (n % 64) < 18446744073709551616 := pow_lt64 (Nat.mod_lt _ (by decide))
      have hc := hs.cell (k := n / 64) (by omega)
      rw [hsn] at hh
      refine (add_core b n (n / 64) (2 ^ (n % 64)) (wd s (n / 64)) (wd s (n / 64) ||| 2 ^ (n % 64)) w hn (by omega) (u64_or_nat _ _ (wd_lt s _) hp) hc (hs.frozen _) hh (place_at n hn)).mono ?_
      rintro e w' ⟨he, m, hw⟩
      subst hw
      refine ⟨by rw [he]; rfl, ?_, ?_⟩
      · rw [insI_nat s n hn]
        exact (hs.put (ins s n) (n / 64) _ (fun j hj => wd_ins_off s n j hj) (wd_ins_at s n)).drewN m
      · exact (Keeps.setCell [b] w ⟨b, n / 64, none⟩ _ (by simp)).quiet (Keeps.drewN _ _ m)
    · rw [hsn] at hh
      refine (add_in b n w hn hh).mono ?_
      rintro e w' ⟨he, m, hw⟩
      subst hw
      exact ⟨by rw [he]; rfl, by rw [insI_in s n hsn]; exact hs.drewN m, Keeps.drewN _ _ m⟩
  · have hd : decide (0 ≤ a ∧ a < 5000) = false := by simpa using h
    rw [hd]
    refine (add_out b a w h).mono ?_
    rintro e w' ⟨he, hw⟩
    subst hw
    exact ⟨by rw [he]; rfl, by rw [insI_out s a h]; exact hs, Keeps.refl _ _⟩
set_option maxHeartbeats 400000 in
theorem rem_not (pv : Value) (a : Int) (w : World)
    (hh : Calls Tryd.prog 19 #[pv, .int .i64 a] w fun e w' => e = .returned (.bool false) ∧ ∃ m, w' = w.drewN m) :
    Calls Tryd.prog 41 #[pv, .int .i64 a] w fun e w' => e = .returned (.bool false) ∧ ∃ m, w' = w.drewN m := by
  have H := hid hh
  clear hh
  go_enter Tryd.func41, Tryd.ntmps41
  go_wp2_with fail
  refine H.out.mono ?_
  rintro e w' ⟨rfl, m, rfl⟩
  go_wp2
  go_ret
  exact ⟨rfl, _, rfl⟩
set_option maxHeartbeats 400000 in
theorem rem_core (b n k p x z : Nat) (w : World) (hk : k < 79) (hz : bits BinOp.andNot IntKind.u64 (x : Int) (p : Int) = (z : Int)) (hc : w.cell? ⟨b, k, none⟩ = some (.int .u64 x)) (hfz : w.frozen? ⟨b, k, none⟩ = false)
    (hh : Calls Tryd.prog 19 #[.pointer (some ⟨b, 0, none⟩), .int .i64 n] w fun e w' => e = .returned (.bool true) ∧ ∃ m, w' = w.drewN m)
    (hpl : ∀ w1, Calls Tryd.prog 46 #[.int .i64 n] w1 fun e w' => e = .returned (.tuple #[.int .i64 k, .int .u64 p]) ∧ ∃ m, w' = w1.drewN m) :
    Calls Tryd.prog 41 #[.pointer (some ⟨b, 0, none⟩), .int .i64 n] w fun e w' => e = .returned (.bool true) ∧ ∃ m, w' = (w.setCell ⟨b, k, none⟩ (.int .u64 z)).drewN m := by
  have H := hid hh
  have H2 := hid hpl
  clear hh hpl
  go_enter Tryd.func41, Tryd.ntmps41
  go_wp2_with fail
  refine H.out.mono ?_
  rintro e w' ⟨rfl, m, rfl⟩
  go_wp2_with fail
  refine (H2.out _).mono ?_
  rintro e w' ⟨rfl, m2, rfl⟩
  go_wp2
  go_region
  go_wp2
  go_ret
  exact ⟨rfl, _, rfl⟩
/-- Remove: every number. -/
theorem rem_any (b : Nat) (s : Nat → Bool) (a : Int) (w : World) (hs : SetAt w b s) (hf : Fit s) :
    Calls Tryd.prog 41 #[.pointer (some ⟨b, 0, none⟩), .int .i64 a] w fun e w' => e = .returned (.bool (hasI s a)) ∧ SetAt w' b (delI s a) ∧ Keeps [b] w w' := by
  have hh := has_any b s a w hs hf
  cases hsn : hasI s a
  · rw [hsn] at hh
    refine (rem_not _ a w hh).mono ?_
    rintro e w' ⟨he, m, hw⟩
    subst hw
    exact ⟨by rw [he], by rw [delI_not s a hsn]; exact hs.drewN m, Keeps.drewN _ _ m⟩
  · rw [hsn] at hh
    have h0 : 0 ≤ a := by
      by_cases h0 : 0 ≤ a
      · exact h0
      · simp [hasI, h0] at hsn
    obtain ⟨n, rfl⟩ := Int.eq_ofNat_of_zero_le h0
    have hsn' : s n = true := by simpa [hasI] using hsn
    have hn : n < 5000 := by
      apply Nat.lt_of_not_le
      intro hle
      rw [hf n hle] at hsn'
      cases hsn'
    have hp : 2 ^ (n % 64) < 18446744073709551616 := pow_lt64 (Nat.mod_lt _ (by decide))
    have hc := hs.cell (k := n / 64) (by omega)
    refine (rem_core b n (n / 64) (2 ^ (n % 64)) (wd s (n / 64)) (wd s (n / 64) &&& (18446744073709551615 - 2 ^ (n % 64))) w (by omega) (u64_andNot_nat _ _ (wd_lt s _) hp) hc (hs.frozen _) hh (place_at n hn)).mono ?_
    rintro e w' ⟨he, m, hw⟩
    subst hw
    refine ⟨by rw [he], ?_, ?_⟩
    · rw [delI_nat s n]
      exact (hs.put (del s n) (n / 64) _ (fun j hj => wd_del_off s n j hj) (wd_del_at s n)).drewN m
    · exact (Keeps.setCell [b] w ⟨b, n / 64, none⟩ _ (by simp)).quiet (Keeps.drewN _ _ m)
end Go.Proofs.YtmebkeidpklcbaaDoor

namespace Go.Proofs.YtmebkeidpklcbaaDoor
open Go.RowKit

def intsI (l : List Nat) : List Int := l.map fun n : Nat => (n : Int)
def listsI (L : List (List Nat)) : List (List Int) := L.map intsI
theorem intsI_len (l : List Nat) : (intsI l).length = l.length := by unfold intsI; rw [List.length_map]
theorem listsI_len (L : List (List Nat)) : (listsI L).length = L.length := by unfold listsI; rw [List.length_map]
theorem listsI_get (L : List (List Nat)) (j : Nat) : (listsI L).getD j [] = intsI (nb L j) := by
  unfold listsI nb
  rw [List.getD_eq_getElem?_getD, List.getD_eq_getElem?_getD, List.getElem?_map]
  cases L[j]? <;> rfl
theorem intsI_get (l : List Nat) (j : Nat) : (intsI l).getD j 0 = ((l.getD j 0 : Nat) : Int) := by
  unfold intsI
  rw [List.getD_eq_getElem?_getD, List.getD_eq_getElem?_getD, List.getElem?_map]
  cases l[j]? <;> rfl
/-- The lists of a graph, in blocks below B. -/
def GAt (w : World) (B : Nat) (a : Option Addr) (g : List (List Nat)) : Prop := LsAt w B a (listsI g)
theorem GAt.kept {w w' : World} {B : Nat} {a : Option Addr} {g : List (List Nat)} {L : List Nat} (h : GAt w B a g) (k : Keeps L w w') (hL : ∀ x, x ∈ L → B ≤ x) : GAt w' B a g := LsAt.kept h k hL
theorem GAt.quiet {w w' : World} {B : Nat} {a : Option Addr} {g : List (List Nat)} (h : GAt w B a g) (k : Keeps [] w w') : GAt w' B a g := LsAt.quiet h k
/-- The list of node k. -/
def NAt (w : World) (B : Nat) (a : Option Addr) (l : List Nat) : Prop := InAt w B a (intsI l)
theorem NAt.kept {w w' : World} {B : Nat} {a : Option Addr} {l : List Nat} {L : List Nat} (h : NAt w B a l) (k : Keeps L w w') (hL : ∀ x, x ∈ L → B ≤ x) : NAt w' B a l := InAt.kept h k hL
theorem GAt.at {w : World} {B : Nat} {a : Option Addr} {g : List (List Nat)} (h : GAt w B a g) {k : Nat} (hk : k < g.length) : ∃ b off ai ci, a = some ⟨b, off, none⟩ ∧ w.cell? ⟨b, off + k, none⟩ = some (.slice ai (nb g k).length ci) ∧ NAt w B ai (nb g k) := by
  obtain ⟨b, off, ai, ci, h1, h2, h3⟩ := LsAt.at h (k := k) (by rw [listsI_len]; exact hk)
  rw [listsI_get, intsI_len] at h2
  rw [listsI_get] at h3
  exact ⟨b, off, ai, ci, h1, h2, h3⟩
theorem NAt.at {w : World} {B : Nat} {a : Option Addr} {l : List Nat} (h : NAt w B a l) {k : Nat} (hk : k < l.length) : ∃ b off, a = some ⟨b, off, none⟩ ∧ w.cell? ⟨b, off + k, none⟩ = some (.int .i64 ((l.getD k 0 : Nat) : Int)) := by
  obtain ⟨b, off, h1, h2⟩ := InAt.at h (k := k) (by rw [intsI_len]; exact hk)
  rw [intsI_get] at h2
  exact ⟨b, off, h1, h2⟩
theorem take_snoc {α : Type} (l : List α) (k : Nat) (d : α) (h : k < l.length) : l.take (k + 1) = l.take k ++ [l.getD k d] := by
  rw [List.take_succ_eq_append_getElem h, List.getD_eq_getElem?_getD, List.getElem?_eq_getElem h]; rfl
theorem getD_mem {α : Type} (l : List α) (k : Nat) (d : α) (h : k < l.length) : l.getD k d ∈ l := by
  rw [List.getD_eq_getElem?_getD, List.getElem?_eq_getElem h]; exact List.getElem_mem h
/-- Who is seen stays seen; who is new is a node. -/
theorem vis_mono (g : List (List Nat)) : ∀ (f n : Nat) (st : (Nat → Bool) × List Nat) (m : Nat), st.1 m = true → (vis g f n st).1 m = true
  | 0, _, _, _, h => h
  | f + 1, n, st, m, h => by
    cases hs : st.1 n with
    | true => rw [vis_in g (f + 1) n st hs]; exact h
    | false =>
      rw [vis_out g f n st hs]
      have go : ∀ (ns : List Nat) (t : (Nat → Bool) × List Nat), t.1 m = true → (visL g f ns t).1 m = true := by
        intro ns
        induction ns with
        | nil => intro t ht; exact ht
        | cons a ns ih => intro t ht; rw [visL_cons]; exact ih _ (vis_mono g f a t m ht)
      exact go _ _ (by show (st.1 m || (m == n)) = true; rw [h]; rfl)
theorem visL_mono (g : List (List Nat)) (f : Nat) : ∀ (ns : List Nat) (st : (Nat → Bool) × List Nat) (m : Nat), st.1 m = true → (visL g f ns st).1 m = true
  | [], _, _, h => h
  | a :: ns, st, m, h => by rw [visL_cons]; exact visL_mono g f ns _ m (vis_mono g f a st m h)
theorem vis_node (g : List (List Nat)) (hg : Ok g) : ∀ (f n : Nat) (st : (Nat → Bool) × List Nat) (m : Nat), n < g.length → (vis g f n st).1 m = true → st.1 m = true ∨ m < g.length
  | 0, _, _, _, _, h => .inl h
  | f + 1, n, st, m, hn, h => by
    cases hs : st.1 n with
    | true => rw [vis_in g (f + 1) n st hs] at h; exact .inl h
    | false =>
      rw [vis_out g f n st hs] at h
      have go : ∀ (ns : List Nat) (t : (Nat → Bool) × List Nat), (∀ a, a ∈ ns → a < g.length) → (visL g f ns t).1 m = true → t.1 m = true ∨ m < g.length := by
        intro ns
        induction ns with
        | nil => intro t _ ht; exact .inl ht
        | cons a ns ih =>
          intro t hns ht
          rw [visL_cons] at ht
          rcases ih _ (fun x hx => hns x (by simp [hx])) ht with h1 | h1
          · exact vis_node g hg f a t m (hns a (by simp)) h1
          · exact .inr h1
      rcases go _ _ (fun a ha => hg n a ha) h with h1 | h1
      · have h2 : (st.1 m || (m == n)) = true := h1
        rw [Bool.or_eq_true, beq_iff_eq] at h2
        rcases h2 with h2 | h2
        · exact .inl h2
        · exact .inr (h2 ▸ hn)
      · exact .inr h1
theorem visL_node (g : List (List Nat)) (hg : Ok g) (f : Nat) : ∀ (ns : List Nat) (st : (Nat → Bool) × List Nat) (m : Nat), (∀ a, a ∈ ns → a < g.length) → (visL g f ns st).1 m = true → st.1 m = true ∨ m < g.length
  | [], _, _, _, h => .inl h
  | a :: ns, st, m, hns, h => by
    rw [visL_cons] at h
    rcases visL_node g hg f ns _ m (fun x hx => hns x (by simp [hx])) h with h1 | h1
    · exact vis_node g hg f a st m (hns a (by simp)) h1
    · exact .inr h1
theorem vis_len (g : List (List Nat)) (hg : Ok g) : ∀ (f n : Nat) (st : (Nat → Bool) × List Nat), n < g.length → (vis g f n st).2.length + un g (vis g f n st).1 ≤ st.2.length + un g st.1
  | 0, _, _, _ => Nat.le_refl _
  | f + 1, n, st, hn => by
    cases hs : st.1 n with
    | true => rw [vis_in g (f + 1) n st hs]; exact Nat.le_refl _
    | false =>
      rw [vis_out g f n st hs]
      have hu := un_ins g st.1 n hs hn
      have go : ∀ (ns : List Nat) (t : (Nat → Bool) × List Nat), (∀ a, a ∈ ns → a < g.length) → (visL g f ns t).2.length + un g (visL g f ns t).1 ≤ t.2.length + un g t.1 := by
        intro ns
        induction ns with
        | nil => intro t _; exact Nat.le_refl _
        | cons a ns ih =>
          intro t hns
          rw [visL_cons]
          exact Nat.le_trans (ih _ (fun x hx => hns x (by simp [hx]))) (vis_len g hg f a t (hns a (by simp)))
      have := go (nb g n) (ins st.1 n, st.2) (fun a ha => hg n a ha)
      generalize visL g f (nb g n) (ins st.1 n, st.2) = A at this ⊢
      have e : A.2.length + un g A.1 ≤ st.2.length + un g (ins st.1 n) := this
      show (A.2 ++ [n]).length + un g A.1 ≤ _
      rw [List.length_append]
      have e1 : [n].length = 1 := rfl
      omega
theorem visL_len (g : List (List Nat)) (hg : Ok g) (f : Nat) : ∀ (ns : List Nat) (st : (Nat → Bool) × List Nat), (∀ a, a ∈ ns → a < g.length) → (visL g f ns st).2.length + un g (visL g f ns st).1 ≤ st.2.length + un g st.1
  | [], _, _ => Nat.le_refl _
  | a :: ns, st, hns => by
    rw [visL_cons]
    exact Nat.le_trans (visL_len g hg f ns _ (fun x hx => hns x (by simp [hx]))) (vis_len g hg f a st (hns a (by simp)))
end Go.Proofs.YtmebkeidpklcbaaDoor

namespace Go.Proofs.YtmebkeidpklcbaaDoor
open Go.RowKit

/-- A small graph. -/
structure Sm (g : List (List Nat)) : Prop where
  ok : Ok g
  len : g.length ≤ 600
  short : ∀ j, (nb g j).length ≤ 1000
theorem Sm.inner {g : List (List Nat)} (h : Sm g) (j : Nat) : (nb g j).length ≤ 1000000 := Nat.le_trans (h.short j) (by decide)
theorem Sm.may {g : List (List Nat)} (h : Sm g) : MayP (g.length : Int) (listsI g) := by
  refine ⟨by omega, by have := h.len; omega, by rw [listsI_len], fun j _ i hi => ?_⟩
  rw [listsI_get] at hi ⊢
  rw [intsI_len] at hi
  rw [intsI_get]
  have := h.ok j _ (getD_mem (nb g j) i 0 hi)
  omega
/-- May of a graph. -/
theorem gmay_yes (g : List (List Nat)) (hs : Sm g) (a : Option Addr) (cap B : Nat) (w : World) (hG : GAt w B a g) :
    Calls Tryd.prog 31 #[.agg #[.int .i64 (g.length : Int), .slice a g.length cap]] w fun e w' => e = .returned (.bool true) ∧ Keeps [] w w' := by
  refine (may_loop (g.length : Int) a g.length cap B (listsI g) w hG (listsI_len g) (by omega) (by have := hs.len; omega) rfl (fun j => by rw [listsI_get, intsI_len]; exact hs.inner j)).mono ?_
  rintro e w' ⟨h | h, hk⟩
  · exact ⟨h.1, hk⟩
  · exact absurd hs.may h.2
theorem nil_row (w : World) (base : Nat) : w.ownsRow base 3 1 (.slice none 0 0) ([] : List Nat).length (ints []) := World.ownsRow_nil w _ _ _
end Go.Proofs.YtmebkeidpklcbaaDoor

namespace Go.Proofs.YtmebkeidpklcbaaDoor
open Go.RowKit

/-- No numbers. -/
def none_ : Nat → Bool := fun _ => false
/-- The set of those of zs that may be in one. -/
def ofI (zs : List Int) : Nat → Bool := zs.foldl insI none_
theorem row_none : row none_ = Array.replicate 79 (.int .u64 0) := by
  apply Array.ext_getElem?
  intro i
  by_cases hi : i < 79
  · rw [row_get none_ i hi]
    have : wd none_ i = 0 := wd_zero i
    rw [this]
    simp [hi]
  · rw [Array.getElem?_eq_none (by rw [row_size]; omega), Array.getElem?_eq_none (by simp; omega)]
theorem zero_set_raw (w : World) : (zeroValue 99).run Tryd.prog w = .ok (.agg (Array.replicate 79 (.int .u64 0))) w := by kernel_rfl
theorem zero_set (w : World) : (zeroValue 99).run Tryd.prog w = .ok (.agg (row none_)) w := by rw [row_none]; exact zero_set_raw w
theorem setAt_new (w : World) (s : Nat → Bool) : SetAt (w.alloc (.cells (row s) 99)) w.heap.size s := ⟨heap_alloc_new w _⟩
theorem fit_none : Fit none_ := fun _ _ => rfl
theorem fit_of (zs : List Int) : ∀ s, Fit s → Fit (zs.foldl insI s) := by
  induction zs with
  | nil => exact fun s h => h
  | cons z zs ih => exact fun s h => ih _ (h.ins z)
theorem take_fold (zs : List Int) (k : Nat) (h : k < zs.length) (s : Nat → Bool) : (zs.take (k + 1)).foldl insI s = insI ((zs.take k).foldl insI s) (zs.getD k 0) := by
  rw [List.take_succ_eq_append_getElem h, List.foldl_append]
  simp [List.getD, List.getElem?_eq_getElem h]
set_option maxHeartbeats 1000000 in
theorem of_raw (b off cap : Nat) (zs : List Int) (w : World) (hc : ∀ i, i < zs.length → w.cell? ⟨b, off + i, none⟩ = some (.int .i64 (zs.getD i 0))) (hl : zs.length ≤ 1000000) :
    Calls Tryd.prog 58 #[.slice (some ⟨b, off, none⟩) zs.length cap] w fun e w' => e = .returned (.pointer (some ⟨w.heap.size, 0, none⟩)) ∧ SetAt w' w.heap.size (ofI zs) ∧ Keeps [] w w' := by
  have HZ := hid hc
  clear hc
  have hzero := zero_set
  have hnew := hid (setAt_new w none_)
  have hkn : Keeps [] w (w.alloc (Obj.cells (row none_) 99)) := Keeps.alloc _ _ _
  go_enter Tryd.func58, Tryd.ntmps58
  go_wp2_with fail
  generalize w.alloc (Obj.cells (row none_) 99) = w1 at hnew hkn ⊢
  generalize row none_ = R
  go_loopw [10] (fun i wr => ∃ k : Nat, k ≤ zs.length ∧ i = .int .i64 k ∧ Box (SetAt wr w.heap.size ((zs.take k).foldl insI none_)) ∧ Keeps [] w wr) (fun i _ => zs.length - (intOf i).toNat)
  case atStart => exact ⟨0, by omega, rfl, hnew, hkn⟩
  case round =>
    clear hnew hkn hzero
    obtain ⟨k, hk, rfl, hset, hkw⟩ := hrel
    by_cases hlt : k < zs.length
    · have hc0 := HZ.out k hlt
      have hck : wr.cell? ⟨b, off + k, none⟩ = some (.int .i64 (zs.getD k 0)) := by
        rw [hkw.cell (p := ⟨b, off + k, none⟩) (block_lt_of_cell hc0) (by simp)]
        exact hc0
      clear hc0
      have HA := hid fun a => add_any w.heap.size _ a wr hset.out (fit_of _ _ fit_none)
      have hst := hid (take_fold zs k hlt none_)
      generalize (zs.take k).foldl insI none_ = s at HA hst
      generalize zs.getD k 0 = z at hck hst
      clear hset
      go_wp2_with fail
      refine (HA.out z).mono ?_
      rintro e w4 ⟨rfl, hs4, hk4⟩
      have hk5 : Keeps [] w w4 := hkw.trans hk4 fun x hx hl => by simp at hx; omega
      have hs5 := hid hs4
      clear hk4 hs4
      go_wp2
      go_roundw
      case rel => exact ⟨k + 1, by omega, by go_num, hid (by rw [hst.out]; exact hs5.out), hk5⟩
      case measure => simp [intOf]; omega
    · obtain rfl : k = zs.length := by omega
      go_wp2
      go_ret
      refine ⟨rfl, ?_, hkw⟩
      have := hset.out
      rw [List.take_length] at this
      exact this
set_option maxHeartbeats 400000 in
theorem of_empty (a : Option Addr) (cap : Nat) (w : World) :
    Calls Tryd.prog 58 #[.slice a 0 cap] w fun e w' => e = .returned (.pointer (some ⟨w.heap.size, 0, none⟩)) ∧ SetAt w' w.heap.size none_ ∧ Keeps [] w w' := by
  have hzero := zero_set
  have hnew := hid (setAt_new w none_)
  have hkn : Keeps [] w (w.alloc (Obj.cells (row none_) 99)) := Keeps.alloc _ _ _
  go_enter Tryd.func58, Tryd.ntmps58
  go_wp2_with fail
  generalize w.alloc (Obj.cells (row none_) 99) = w1 at hnew hkn ⊢
  generalize row none_ = R
  go_loop [10] (fun i => i = .int .i64 0) (fun _ => 0)
  case atStart => rfl
  case round =>
    subst hrel
    go_wp2
    go_ret
    exact ⟨rfl, hnew.out, hkn⟩
/-- Of: every list of numbers. -/
theorem of_any (a : Option Addr) (cap : Nat) (zs : List Int) (w : World) (hz : IntsAt w a zs) (hl : zs.length ≤ 1000000) :
    Calls Tryd.prog 58 #[.slice a zs.length cap] w fun e w' => e = .returned (.pointer (some ⟨w.heap.size, 0, none⟩)) ∧ SetAt w' w.heap.size (ofI zs) ∧ Keeps [] w w' := by
  rcases hz with rfl | ⟨b, off, rfl, hc⟩
  · exact of_empty a cap w
  · exact of_raw b off cap zs w hc hl
end Go.Proofs.YtmebkeidpklcbaaDoor

namespace Go.Proofs.YtmebkeidpklcbaaDoor
open Go.RowKit

set_option maxHeartbeats 400000 in
theorem eq_diff (v1 v2 : Option Addr) (n1 n2 c1 c2 : Nat) (w : World) (h : n1 ≠ n2) :
    Calls Tryd.prog 29 #[.slice v1 n1 c1, .slice v2 n2 c2] w fun e w' => e = .returned (.bool false) ∧ w' = w := by
  have hb : ((n1 : Int) != (n2 : Int)) = true := by rw [bne_iff_ne]; omega
  have H := hid h
  clear h
  go_enter Tryd.func29, Tryd.ntmps29
  go_wp2
  go_ret
  exact ⟨rfl, rfl⟩
set_option maxHeartbeats 400000 in
theorem eq_empty (v1 v2 : Option Addr) (c1 c2 : Nat) (w : World) :
    Calls Tryd.prog 29 #[.slice v1 0 c1, .slice v2 0 c2] w fun e w' => e = .returned (.bool true) ∧ w' = w := by
  go_enter Tryd.func29, Tryd.ntmps29
  go_wp2
  go_loop [5] (fun i => i = .int .i64 0) (fun _ => 0)
  case atStart => rfl
  case round =>
    subst hrel
    go_wp2
    go_ret
    exact ⟨rfl, rfl⟩
theorem take_same {xs ys : List Int} {k : Nat} (h1 : k < xs.length) (h2 : k < ys.length) (h : xs.take k = ys.take k) (he : xs.getD k 0 = ys.getD k 0) : xs.take (k + 1) = ys.take (k + 1) := by
  rw [List.take_succ_eq_append_getElem h1, List.take_succ_eq_append_getElem h2, h]
  simp [List.getD, List.getElem?_eq_getElem h1, List.getElem?_eq_getElem h2] at he
  rw [he]
set_option maxHeartbeats 1000000 in
theorem eq_raw (b1 o1 b2 o2 n c1 c2 : Nat) (xs ys : List Int) (w : World) (hx : xs.length = n) (hy : ys.length = n) (hn : n ≤ 1000000)
    (g1 : ∀ i, i < n → w.cell? ⟨b1, o1 + i, none⟩ = some (.int .i64 (xs.getD i 0))) (g2 : ∀ i, i < n → w.cell? ⟨b2, o2 + i, none⟩ = some (.int .i64 (ys.getD i 0))) :
    Calls Tryd.prog 29 #[.slice (some ⟨b1, o1, none⟩) n c1, .slice (some ⟨b2, o2, none⟩) n c2] w fun e w' => e = .returned (.bool (decide (xs = ys))) ∧ ∃ m, w' = w.drewN m := by
  have HX := hid hx
  have HY := hid hy
  have G1 := hid g1
  have G2 := hid g2
  clear hx hy g1 g2
  have hb : ((n : Int) != (n : Int)) = false := by simp
  go_enter Tryd.func29, Tryd.ntmps29
  go_wp2
  go_loopw [5] (fun i wr => ∃ k m : Nat, k ≤ n ∧ i = .int .i64 k ∧ wr = w.drewN m ∧ Box (xs.take k = ys.take k)) (fun i _ => n - (intOf i).toNat)
  case atStart => exact ⟨0, 0, by omega, rfl, rfl, hid rfl⟩
  case round =>
    obtain ⟨k, m, hk, rfl, rfl, ht⟩ := hrel
    by_cases hlt : k < n
    · have e1 := G1.out k hlt
      have e2 := G2.out k hlt
      have hlt' : (k : Int) < (n : Int) := by omega
      by_cases heq : xs.getD k 0 = ys.getD k 0
      · have hs := hid (take_same (by rw [HX.out]; exact hlt) (by rw [HY.out]; exact hlt) ht.out heq)
        rw [heq] at e1
        clear heq
        generalize ys.getD k 0 = y at e1 e2
        have hbe : (y != y) = false := by simp
        go_wp2
        go_quiet (fail)
        go_wp2
        go_roundw
        case rel => exact ⟨k + 1, _, by omega, by go_num, rfl, hs⟩
        case measure => simp [intOf]; omega
      · have hne : Box (xs ≠ ys) := hid fun e => heq (by rw [e])
        generalize ys.getD k 0 = y at e2 heq
        generalize xs.getD k 0 = x at e1 heq
        have hbe : (x != y) = true := by rw [bne_iff_ne]; exact heq
        clear heq
        go_wp2
        go_quiet (fail)
        go_wp2
        go_ret
        exact ⟨by rw [decide_eq_false hne.out]; rfl, _, World.drewN_drewN _ _ _⟩
    · obtain rfl : k = n := by omega
      have hxy : Box (xs = ys) := hid (by
        have := ht.out
        rw [List.take_of_length_le (by rw [HX.out]; omega), List.take_of_length_le (by rw [HY.out]; omega)] at this
        exact this)
      go_wp2
      go_ret
      exact ⟨by rw [decide_eq_true hxy.out]; rfl, _, rfl⟩
/-- Eq of two slices: are the numbers the same? -/
theorem eq_any (v1 v2 : Option Addr) (c1 c2 : Nat) (xs ys : List Int) (w : World) (h1 : IntsAt w v1 xs) (h2 : IntsAt w v2 ys) (l2 : ys.length ≤ 1000000) :
    Calls Tryd.prog 29 #[.slice v1 xs.length c1, .slice v2 ys.length c2] w fun e w' => e = .returned (.bool (decide (xs = ys))) ∧ ∃ m, w' = w.drewN m := by
  by_cases hlen : xs.length = ys.length
  · by_cases h0 : xs.length = 0
    · have ex : xs = [] := List.eq_nil_of_length_eq_zero h0
      have ey : ys = [] := List.eq_nil_of_length_eq_zero (by omega)
      subst ex ey
      exact (eq_empty v1 v2 c1 c2 w).mono fun e w' ⟨he, hw⟩ => ⟨by rw [he]; rfl, 0, hw⟩
    · rcases h1 with rfl | ⟨b1, o1, rfl, g1⟩
      · simp at h0
      · rcases h2 with rfl | ⟨b2, o2, rfl, g2⟩
        · simp at hlen; simp [hlen] at h0
        · have h := eq_raw b1 o1 b2 o2 ys.length c1 c2 xs ys w hlen rfl l2 (fun i hi => g1 i (by omega)) g2
          rw [hlen]
          exact h
  · refine (eq_diff v1 v2 _ _ c1 c2 w hlen).mono fun e w' ⟨he, hw⟩ => ⟨?_, 0, hw⟩
    rw [he, decide_eq_false (fun e => hlen (by rw [e]))]
end Go.Proofs.YtmebkeidpklcbaaDoor

namespace Go.Proofs.YtmebkeidpklcbaaDoor
open Go.RowKit

def endB (R B : Nat) (fin reg tt els : Int) : Bool :=
  if fin = 1 then decide (reg = 0) && (inB tt B && decide (els = 0)) else if fin = 2 then inB reg R && (inB tt B && inB els B) else if fin = 3 then inB reg R && (decide (tt = 0) && decide (els = 0)) else false
end Go.Proofs.YtmebkeidpklcbaaDoor

namespace Go.Proofs.YtmebkeidpklcbaaDoor
open Go.RowKit

def recOf (P : Pr8) (k : Int) : List (Int × Int) := P.recs.getD k.toNat []
def ifOf (P : Pr8) (k : Int) : List Int := P.ifs.getD k.toNat []
/-- A field's type. -/
def fieldO (P : Pr8) (t : Int × Int) (n : Int) : Option (Int × Int) := if t.1 = 1 ∧ inB t.2 P.recs.length = true ∧ inB n (recOf P t.2).length = true then some ((recOf P t.2).getD n.toNat (0, 0)) else none
theorem neqb {a b : Int} (h : a = b) : (a != b) = false := by simpa using h
theorem nneb {a b : Int} (h : a ≠ b) : (a != b) = true := by simpa using h
/-- A method's signature. -/
def methO (P : Pr8) (t : Int × Int) (n : Int) : Option (List (Int × Int) × Int × Int) := if t.1 = 3 ∧ inB t.2 P.ifs.length = true ∧ inB n (ifOf P t.2).length = true then sigO P ((ifOf P t.2).getD n.toNat 0) else none
end Go.Proofs.YtmebkeidpklcbaaDoor

namespace Go.Proofs.YtmebkeidpklcbaaDoor
open Go.RowKit

structure FnAt (w : World) (pb po : Nat) (P : Pr8) (fa : Option Addr) (fcp : Nat) : Prop where
  cell : w.cell? ⟨pb, po + 4, none⟩ = some (.slice fa P.funcs.length fcp)
  rows : RowsAt w 3 FuC fa P.funcs
  cap : P.funcs.length ≤ fcp
  len : P.funcs.length ≤ maxLen
theorem PrC.fns {w : World} {pb po : Nat} {P : Pr8} (h : PrC w pb po P) : ∃ fa fcp, FnAt w pb po P fa fcp := by
  obtain ⟨fa, fcp, h1, h2, h3, h4⟩ := h.c4
  exact ⟨fa, fcp, h1, h2, h3, h4⟩
structure BksAt (w : World) (fb fo : Nat) (P : Pr8) (f : Nat) (ba : Option Addr) (bcp : Nat) : Prop where
  cell : w.cell? ⟨fb, fo + f * 3 + 2, none⟩ = some (.slice ba (fun8 P f).blocks.length bcp)
  rows : RowsAt w 5 BlC ba (fun8 P f).blocks
  cap : (fun8 P f).blocks.length ≤ bcp
  len : (fun8 P f).blocks.length ≤ maxLen
theorem getD_get {α : Type} {l : List α} {k : Nat} {d : α} (h : k < l.length) : l[k]? = some (l.getD k d) := by
  rw [List.getD_eq_getElem?_getD, List.getElem?_eq_getElem h]
  rfl
theorem FnAt.at {w : World} {pb po : Nat} {P : Pr8} {fa : Option Addr} {fcp : Nat} (h : FnAt w pb po P fa fcp) {f : Nat} (hf : f < P.funcs.length) : ∃ fb fo ba bcp, fa = some ⟨fb, fo, none⟩ ∧ BksAt w fb fo P f ba bcp := by
  obtain ⟨fb, fo, h1, h2⟩ := h.rows.at (getD_get (d := ⟨0, [], []⟩) hf)
  obtain ⟨ba, bcp, g1, g2, g3, g4⟩ := h2.c2
  exact ⟨fb, fo, ba, bcp, h1, g1, g2, g3, g4⟩
theorem BksAt.at {w : World} {fb fo : Nat} {P : Pr8} {f : Nat} {ba : Option Addr} {bcp : Nat} (h : BksAt w fb fo P f ba bcp) {b : Nat} (hb : b < (fun8 P f).blocks.length) : ∃ bb bo, ba = some ⟨bb, bo, none⟩ ∧ BlC w bb (bo + b * 5) (blk8 (fun8 P f) b) := by
  have e : (fun8 P f).blocks[b]? = some (blk8 (fun8 P f) b) := getD_get hb
  exact h.rows.at e
def cntF (x : Fu8) (m : Nat) : Nat := (ptF x 0 m).length
theorem ptF_len (x : Fu8) (f m : Nat) : (ptF x f m).length = cntF x m := by
  unfold cntF
  induction m with
  | zero => rfl
  | succ m ih => rw [ptF_succ, ptF_succ, List.length_append, List.length_append, ptB_len, ptB_len, ih]
theorem cntF_succ (x : Fu8) (m : Nat) : cntF x (m + 1) = cntF x m + ((blk8 x m).code.length + 1) := by
  unfold cntF
  rw [ptF_succ, List.length_append, ptB_len]
theorem cntF_mono (x : Fu8) {m n : Nat} (h : m ≤ n) : cntF x m ≤ cntF x n := by
  induction n with
  | zero => rw [show m = 0 by omega]; exact Nat.le_refl _
  | succ n ih =>
    by_cases e : m = n + 1
    · rw [e]; exact Nat.le_refl _
    · have := ih (by omega)
      rw [cntF_succ]
      omega
def cntP (P : Pr8) (k : Nat) : Nat := (ptP P k).length
theorem cntP_succ (P : Pr8) (k : Nat) : cntP P (k + 1) = cntP P k + cntF (fun8 P k) (fun8 P k).blocks.length := by
  unfold cntP
  rw [ptP_succ, List.length_append, ptF_len]
theorem cntP_mono (P : Pr8) {m n : Nat} (h : m ≤ n) : cntP P m ≤ cntP P n := by
  induction n with
  | zero => rw [show m = 0 by omega]; exact Nat.le_refl _
  | succ n ih =>
    by_cases e : m = n + 1
    · rw [e]; exact Nat.le_refl _
    · have := ih (by omega)
      rw [cntP_succ]
      omega
theorem pts_cnt (P : Pr8) : (pts P).length = cntP P P.funcs.length := rfl
theorem SlC.len {α : Type} {c : Nat} {R : World → Nat → Nat → α → Prop} {w : World} {b o : Nat} {l : List α} (h : SlC c R w b o l) : ∃ a cp, w.cell? ⟨b, o, none⟩ = some (.slice a l.length cp) := by
  obtain ⟨a, cp, h1, _⟩ := h
  exact ⟨a, cp, h1⟩
theorem heap_lt {w : World} {p : Nat} {o : Obj} (h : w.heap[p]? = some o) : p < w.heap.size := by
  rw [Array.getElem?_eq_some_iff] at h
  exact h.1
theorem heap_new (w : World) (o : Obj) : (w.alloc o).heap[w.heap.size]? = some o := heap_alloc_new w o
theorem keep_heap {w w' : World} {s : Nat} {o : Obj} (h : w.heap[s]? = some o) (k : Keeps [] w w') : w'.heap[s]? = some o := (k.block s (heap_lt h) (by simp)).trans h
theorem hcell {w : World} {b : Nat} {cs : Array Value} {T : TypeId} (h : w.heap[b]? = some (.cells cs T (0, 0))) (j : Nat) : w.cell? ⟨b, j, none⟩ = cs[j]? := Lib.cell_of_heap h j
theorem hfrozen {w : World} {b : Nat} {cs : Array Value} {T : TypeId} (h : w.heap[b]? = some (.cells cs T (0, 0))) (j : Nat) : w.frozen? ⟨b, j, none⟩ = false := Lib.frozen_of_heap h j
theorem set3 {w : World} {b : Nat} {x y z : Value} {T : TypeId} (h : w.heap[b]? = some (.cells #[x, y, z] T (0, 0))) (u0 u1 u2 : Value) :
    (((w.setCell ⟨b, 0, none⟩ u0).setCell ⟨b, 1, none⟩ u1).setCell ⟨b, 2, none⟩ u2).heap[b]? = some (.cells #[u0, u1, u2] T (0, 0)) :=
  heap_setCell_same _ b 2 _ _ u2 (heap_setCell_same _ b 1 _ _ u1 (heap_setCell_same w b 0 _ _ u0 h))
theorem keeps3 (w : World) (b : Nat) (u0 u1 u2 : Value) : Keeps [b] w (((w.setCell ⟨b, 0, none⟩ u0).setCell ⟨b, 1, none⟩ u1).setCell ⟨b, 2, none⟩ u2) :=
  ((Keeps.setCell [b] _ _ _ (List.mem_singleton.2 rfl)).step (Keeps.setCell [b] _ _ _ (List.mem_singleton.2 rfl))).step (Keeps.setCell [b] _ _ _ (List.mem_singleton.2 rfl))
structure PtC (w : World) (b o : Nat) (q : Nat × Nat × Nat) : Prop where
  c0 : w.cell? ⟨b, o, none⟩ = some (.int .i64 (q.1 : Int))
  c1 : w.cell? ⟨b, o + 1, none⟩ = some (.int .i64 (q.2.1 : Int))
  c2 : w.cell? ⟨b, o + 2, none⟩ = some (.int .i64 (q.2.2 : Int))
theorem PtC.stays : Stays PtC := fun _ _ _ _ _ k h => ⟨cell_stays k h.c0, cell_stays k h.c1, cell_stays k h.c2⟩
def ptCs (l : List (Nat × Nat × Nat)) : List Value := l.flatMap fun q => [.int .i64 (q.1 : Int), .int .i64 (q.2.1 : Int), .int .i64 (q.2.2 : Int)]
theorem ptCs_snoc (l : List (Nat × Nat × Nat)) (f b i : Nat) : ptCs (l ++ [(f, b, i)]) = ptCs l ++ [.int .i64 (f : Int), .int .i64 (b : Int), .int .i64 (i : Int)] := by
  unfold ptCs
  rw [List.flatMap_append]
  rfl
theorem ptCs_len (l : List (Nat × Nat × Nat)) : (ptCs l).length = l.length * 3 := by
  induction l with
  | nil => rfl
  | cons q l ih =>
    have : ptCs (q :: l) = [.int .i64 (q.1 : Int), .int .i64 (q.2.1 : Int), .int .i64 (q.2.2 : Int)] ++ ptCs l := rfl
    rw [this, List.length_append, ih, List.length_cons]
    show 3 + l.length * 3 = (l.length + 1) * 3
    omega
theorem ptCs_get (l : List (Nat × Nat × Nat)) : ∀ (j : Nat) (q : Nat × Nat × Nat), l[j]? = some q → (ptCs l)[j * 3]? = some (.int .i64 (q.1 : Int)) ∧ (ptCs l)[j * 3 + 1]? = some (.int .i64 (q.2.1 : Int)) ∧ (ptCs l)[j * 3 + 2]? = some (.int .i64 (q.2.2 : Int)) := by
  induction l with
  | nil => intro j q h; simp at h
  | cons p l ih =>
    intro j q h
    have e : ptCs (p :: l) = [.int .i64 (p.1 : Int), .int .i64 (p.2.1 : Int), .int .i64 (p.2.2 : Int)] ++ ptCs l := rfl
    cases j with
    | zero =>
      simp at h
      subst h
      rw [e]
      exact ⟨rfl, rfl, rfl⟩
    | succ j =>
      have h' := ih j q (by simpa using h)
      rw [e, show (j + 1) * 3 = j * 3 + 3 by omega]
      refine ⟨?_, ?_, ?_⟩ <;> rw [List.getElem?_append_right (by simp)]
      · exact h'.1
      · rw [show j * 3 + 3 + 1 - [Value.int .i64 (p.1 : Int), .int .i64 (p.2.1 : Int), .int .i64 (p.2.2 : Int)].length = j * 3 + 1 by simp]
        exact h'.2.1
      · rw [show j * 3 + 3 + 2 - [Value.int .i64 (p.1 : Int), .int .i64 (p.2.1 : Int), .int .i64 (p.2.2 : Int)].length = j * 3 + 2 by simp]
        exact h'.2.2
theorem pts_open {w : World} {base n : Nat} {v : Value} {l : List (Nat × Nat × Nat)} (h : w.ownsRow base 43 3 v n (ptCs l)) : ∃ a cp, v = .slice a n cp ∧ n = l.length ∧ RowsAt w 3 PtC a l ∧ l.length ≤ cp := by
  have hl : n = l.length := by have := h.1; rw [ptCs_len] at this; omega
  rcases h.2 with ⟨rfl, h0⟩ | ⟨g, cap, cur, rfl, _, hg, hle, _, hs, ht⟩
  · subst h0
    exact ⟨none, 0, rfl, hl, .inl (List.eq_nil_of_length_eq_zero hl.symm), by omega⟩
  · refine ⟨_, cap, rfl, hl, .inr ⟨g, 0, rfl, fun j q hq => ?_⟩, by omega⟩
    have hj : j < l.length := by
      rcases Nat.lt_or_ge j l.length with h | h
      · exact h
      · rw [List.getElem?_eq_none h] at hq; cases hq
    have key : ∀ i, i < n * 3 → w.cell? ⟨g, i, none⟩ = (ptCs l)[i]? := fun i hi => by
      rw [cell_of_row w g i cur _ _ hg, ← ht, List.getElem?_take, if_pos hi]
      simp
    obtain ⟨g0, g1, g2⟩ := ptCs_get l j q hq
    rw [Nat.zero_add]
    exact ⟨(key _ (by omega)).trans g0, (key _ (by omega)).trans g1, (key _ (by omega)).trans g2⟩
theorem zero_pt : Tryd.t43.zero = some (.agg #[.int .i64 0, .int .i64 0, .int .i64 0]) := by kernel_rfl
theorem size_pt : Tryd.t43.size = 3 := by kernel_rfl
theorem bytes_pt : Tryd.t43.bytes = 24 := by kernel_rfl
theorem info_pt : Tryd.prog.info? 43 = some Tryd.t43 := by kernel_rfl
theorem under_pts : Tryd.prog.underlying 88 = some (.slice 43) := by kernel_rfl
theorem three_one (x y z : Int) : ∀ u ∈ [Value.int .i64 x, .int .i64 y, .int .i64 z], u.oneCell' = true := by
  intro u hu
  simp at hu
  rcases hu with rfl | rfl | rfl <;> rfl
def numC (l : List Int) : List Value := l.map fun z => .int .i64 z
theorem numC_len (l : List Int) : (numC l).length = l.length := by unfold numC; rw [List.length_map]
theorem numC_one (l : List Int) : ∀ u ∈ numC l, u.oneCell' = true := by
  intro u hu
  unfold numC at hu
  rw [List.mem_map] at hu
  obtain ⟨z, _, rfl⟩ := hu
  rfl
theorem nums_open {w : World} {base n : Nat} {v : Value} {l : List Int} (h : w.ownsRow base 3 1 v n (numC l)) : ∃ a cp, v = .slice a n cp ∧ n = l.length ∧ IntsAt w a l ∧ n ≤ cp ∧ ∀ b off, a = some ⟨b, off, none⟩ → base ≤ b := by
  have hl : n = l.length := by have := h.1; rw [numC_len] at this; omega
  rcases h.2 with ⟨rfl, h0⟩ | ⟨g, cap, cur, rfl, hbs, hg, hle, _, hs, ht⟩
  · subst h0
    exact ⟨none, 0, rfl, hl, .inl (List.eq_nil_of_length_eq_zero hl.symm), by omega, fun _ _ e => by cases e⟩
  · refine ⟨_, cap, rfl, hl, .inr ⟨g, 0, rfl, fun i hi => ?_⟩, hle, fun b off e => by cases e; assumption⟩
    rw [Nat.zero_add, cell_of_row w g i cur _ _ hg]
    have e2 : (cur.toList.take (n * 1))[i]? = cur.toList[i]? := by rw [List.getElem?_take, if_pos (by omega)]
    have e1 : cur[i]? = cur.toList[i]? := by simp
    rw [e1, ← e2, ht]
    unfold numC
    rw [List.getElem?_map, List.getElem?_eq_getElem hi, List.getD_eq_getElem?_getD, List.getElem?_eq_getElem hi]
    rfl
theorem numC_at {w : World} {b off : Nat} {l : List Int} (h : ∀ i, i < l.length → w.cell? ⟨b, off + i, none⟩ = some (.int .i64 (l.getD i 0))) : ∀ j u, (numC l)[j]? = some u → w.cell? ((⟨b, off, none⟩ : Addr).add j) = some u := by
  intro j u hu
  have hadd : (⟨b, off, none⟩ : Addr).add j = ⟨b, off + j, none⟩ := by unfold Addr.add; by_cases e : j = 0 <;> simp [e]
  unfold numC at hu
  rw [List.getElem?_map] at hu
  by_cases hj : j < l.length
  · rw [hadd, h j hj]
    rw [List.getElem?_eq_getElem hj] at hu
    simp at hu
    rw [List.getD_eq_getElem?_getD, List.getElem?_eq_getElem hj, ← hu]
    rfl
  · rw [List.getElem?_eq_none (by omega)] at hu
    cases hu
def ptV (f b i : Int) : Value := .agg #[.int .i64 f, .int .i64 b, .int .i64 i]
abbrev wf64 (n : Int) : Prop := b64 n
def insV (x : In8) (ar : Value) : Value := .agg #[.int .i64 x.op, .int .i64 x.dst, .int .i64 x.a, .int .i64 x.b, .int .i64 x.n, ar]
structure InOk (x : In8) : Prop where
  op : wf64 x.op
  dst : wf64 x.dst
  a : wf64 x.a
  b : wf64 x.b
  n : wf64 x.n
  args : ∀ z, z ∈ x.args → wf64 z
theorem eqb {a b : Int} (h : a = b) : (a == b) = true := by simpa using h
theorem neb {a b : Int} (h : a ≠ b) : (a == b) = false := by simpa using h
theorem InC.open {w : World} {b o : Nat} {x : In8} (h : InC w b o x) : InOk x ∧ ∃ ar cp, w.cell? ⟨b, o + 5, none⟩ = some (.slice ar x.args.length cp) ∧ IntsAt w ar x.args ∧ x.args.length ≤ cp := by
  obtain ⟨ar, cp, h1, h2, h3, _⟩ := h.c5
  refine ⟨⟨h.c0.2, h.c1.2, h.c2.2, h.c3.2, h.c4.2, fun z hz => ?_⟩, ar, cp, h1, rows_ints h2, h3⟩
  obtain ⟨i, hi, e⟩ := List.getElem_of_mem hz
  obtain ⟨_, _, _, h9⟩ := h2.at (j := i) (y := z) (by rw [List.getElem?_eq_getElem hi, e])
  exact h9.2
theorem ins_get {x : Bl8} {i : Nat} (h : i < x.code.length) : x.code[i]? = some (ins8 x i) := by
  unfold ins8
  rw [List.getD_eq_getElem?_getD, List.getElem?_eq_getElem h]
  rfl
end Go.Proofs.YtmebkeidpklcbaaDoor

namespace Go.Proofs.YtmebkeidpklcbaaDoor
open Go.RowKit

def numB (P : Pr8) (f : Fu8) (x : In8) : Bool :=
  if x.op = 10 ∨ x.op = 12 then inB x.n P.funcs.length
  else if x.op = 7 ∨ x.op = 8 then (fieldO P (regT f x.a) x.n).isSome || decide ((regT f x.a).1 ≠ 1)
  else if x.op = 14 then (methO P (regT f x.a) x.n).isSome || decide ((regT f x.a).1 ≠ 3) else true
end Go.Proofs.YtmebkeidpklcbaaDoor

namespace Go.Proofs.YtmebkeidpklcbaaDoor
open Go.ChangeShapes Go.WideShapes Go.ChangeAt Go.RowKit

section
variable {H : Type} {enc : TypeId × Value → H} {w : World} {spare : Nat → Bool} {held : Bool} {G : TypeId → DataW H → Prop} {N : Nat}
/-- Each instruction's arguments are at most N. -/
def FewI (N : Nat) (x : In8) : Prop := x.args.length ≤ N
def FewB (N : Nat) (x : Bl8) : Prop := ∀ (j : Nat) (y : In8), x.code[j]? = some y → FewI N y
def FewF (N : Nat) (x : Fu8) : Prop := ∀ (j : Nat) (y : Bl8), x.blocks[j]? = some y → FewB N y
def FewP (N : Nat) (x : Pr8) : Prop := (∀ (j : Nat) (y : List (Int × Int)), x.recs[j]? = some y → y.length ≤ N) ∧ (∀ (j : Nat) (y : List (Int × Int) × Int × Int), x.sigs[j]? = some y → y.1.length ≤ N) ∧ (∀ (j : Nat) (y : List Int), x.ifs[j]? = some y → y.length ≤ N) ∧ (∀ (j : Nat) (y : Int × Int × List Int), x.ims[j]? = some y → y.2.2.length ≤ N) ∧ ∀ (j : Nat) (y : Fu8), x.funcs[j]? = some y → FewF N y

theorem o_int : Opens enc Tryd.prog w spare held G 3 IntC (fun _ => True) := opens_int Tryd.underlying3 (by kernel_rfl)
theorem o_ints (hG : Downs Tryd.prog G) (hN : ∀ elems rest, G 54 (.slice elems rest) → elems.length ≤ N) : Opens enc Tryd.prog w spare held G 54 IntsC (fun l => l.length ≤ N) := opens_few hG hN Tryd.underlying54 (by kernel_rfl) (by decide) (by kernel_rfl) o_int
theorem o_type (hG : Downs Tryd.prog G) : Opens enc Tryd.prog w spare held G 70 TyC (fun _ => True) := by
  intro fuel b o cs x hc h hg
  have F := fields_open hG Tryd.underlying70 hc h hg
  obtain ⟨y0, h0, q0⟩ := F 0 _ rfl (of_decide_eq_true (by kernel_rfl)) o_int
  obtain ⟨y1, h1, q1⟩ := F 1 _ rfl (of_decide_eq_true (by kernel_rfl)) o_int
  exact ⟨(y0, y1), ⟨h0, h1⟩, trivial⟩
theorem o_types (hG : Downs Tryd.prog G) (hT : ∀ elems rest, G 36 (.slice elems rest) → elems.length ≤ N) : Opens enc Tryd.prog w spare held G 36 (SlC 2 TyC) (fun l => l.length ≤ N) := opens_few hG hT Tryd.underlying36 (by kernel_rfl) (by decide) (by kernel_rfl) (o_type hG)
theorem o_instr (hG : Downs Tryd.prog G) (hN : ∀ elems rest, G 54 (.slice elems rest) → elems.length ≤ N) : Opens enc Tryd.prog w spare held G 65 InC (FewI N) := by
  intro fuel b o cs x hc h hg
  have F := fields_open hG Tryd.underlying65 hc h hg
  obtain ⟨y0, h0, q0⟩ := F 0 _ rfl (of_decide_eq_true (by kernel_rfl)) o_int
  obtain ⟨y1, h1, q1⟩ := F 1 _ rfl (of_decide_eq_true (by kernel_rfl)) o_int
  obtain ⟨y2, h2, q2⟩ := F 2 _ rfl (of_decide_eq_true (by kernel_rfl)) o_int
  obtain ⟨y3, h3, q3⟩ := F 3 _ rfl (of_decide_eq_true (by kernel_rfl)) o_int
  obtain ⟨y4, h4, q4⟩ := F 4 _ rfl (of_decide_eq_true (by kernel_rfl)) o_int
  obtain ⟨y5, h5, q5⟩ := F 5 _ rfl (of_decide_eq_true (by kernel_rfl)) (o_ints hG hN)
  exact ⟨⟨y0, y1, y2, y3, y4, y5⟩, ⟨h0, h1, h2, h3, h4, h5⟩, q5⟩
theorem o_instrs (hG : Downs Tryd.prog G) (hN : ∀ elems rest, G 54 (.slice elems rest) → elems.length ≤ N) : Opens enc Tryd.prog w spare held G 61 (SlC 6 InC) (fun l => ∀ (j : Nat) (y : In8), l[j]? = some y → FewI N y) := opens_slice hG Tryd.underlying61 (by kernel_rfl) (by decide) (by kernel_rfl) (o_instr hG hN)
theorem o_block (hG : Downs Tryd.prog G) (hN : ∀ elems rest, G 54 (.slice elems rest) → elems.length ≤ N) : Opens enc Tryd.prog w spare held G 63 BlC (FewB N) := by
  intro fuel b o cs x hc h hg
  have F := fields_open hG Tryd.underlying63 hc h hg
  obtain ⟨y0, h0, q0⟩ := F 0 _ rfl (of_decide_eq_true (by kernel_rfl)) (o_instrs hG hN)
  obtain ⟨y1, h1, q1⟩ := F 1 _ rfl (of_decide_eq_true (by kernel_rfl)) o_int
  obtain ⟨y2, h2, q2⟩ := F 2 _ rfl (of_decide_eq_true (by kernel_rfl)) o_int
  obtain ⟨y3, h3, q3⟩ := F 3 _ rfl (of_decide_eq_true (by kernel_rfl)) o_int
  obtain ⟨y4, h4, q4⟩ := F 4 _ rfl (of_decide_eq_true (by kernel_rfl)) o_int
  exact ⟨⟨y0, y1, y2, y3, y4⟩, ⟨h0, h1, h2, h3, h4⟩, q0⟩
theorem o_blocks (hG : Downs Tryd.prog G) (hN : ∀ elems rest, G 54 (.slice elems rest) → elems.length ≤ N) : Opens enc Tryd.prog w spare held G 37 (SlC 5 BlC) (fun l => ∀ (j : Nat) (y : Bl8), l[j]? = some y → FewB N y) := opens_slice hG Tryd.underlying37 (by kernel_rfl) (by decide) (by kernel_rfl) (o_block hG hN)
theorem o_func (hG : Downs Tryd.prog G) (hN : ∀ elems rest, G 54 (.slice elems rest) → elems.length ≤ N) (hT : ∀ elems rest, G 36 (.slice elems rest) → elems.length ≤ N) : Opens enc Tryd.prog w spare held G 39 FuC (FewF N) := by
  intro fuel b o cs x hc h hg
  have F := fields_open hG Tryd.underlying39 hc h hg
  obtain ⟨y0, h0, q0⟩ := F 0 _ rfl (of_decide_eq_true (by kernel_rfl)) o_int
  obtain ⟨y1, h1, q1⟩ := F 1 _ rfl (of_decide_eq_true (by kernel_rfl)) (o_types hG hT)
  obtain ⟨y2, h2, q2⟩ := F 2 _ rfl (of_decide_eq_true (by kernel_rfl)) (o_blocks hG hN)
  exact ⟨⟨y0, y1, y2⟩, ⟨h0, h1, h2⟩, q2⟩
theorem o_funcs (hG : Downs Tryd.prog G) (hN : ∀ elems rest, G 54 (.slice elems rest) → elems.length ≤ N) (hT : ∀ elems rest, G 36 (.slice elems rest) → elems.length ≤ N) : Opens enc Tryd.prog w spare held G 29 (SlC 3 FuC) (fun l => ∀ (j : Nat) (y : Fu8), l[j]? = some y → FewF N y) := opens_slice hG Tryd.underlying29 (by kernel_rfl) (by decide) (by kernel_rfl) (o_func hG hN hT)
theorem o_sig (hG : Downs Tryd.prog G) (hT : ∀ elems rest, G 36 (.slice elems rest) → elems.length ≤ N) : Opens enc Tryd.prog w spare held G 72 SgC (fun x => x.1.length ≤ N) := by
  intro fuel b o cs x hc h hg
  have F := fields_open hG Tryd.underlying72 hc h hg
  obtain ⟨y0, h0, q0⟩ := F 0 _ rfl (of_decide_eq_true (by kernel_rfl)) (o_types hG hT)
  obtain ⟨y1, h1, _⟩ := F 1 _ rfl (of_decide_eq_true (by kernel_rfl)) (o_type hG)
  exact ⟨(y0, y1.1, y1.2), ⟨h0, h1.c0, h1.c1⟩, q0⟩
theorem o_iface (hG : Downs Tryd.prog G) (hN : ∀ elems rest, G 54 (.slice elems rest) → elems.length ≤ N) : Opens enc Tryd.prog w spare held G 109 IntsC (fun x => x.length ≤ N) := by
  intro fuel b o cs x hc h hg
  have F := fields_open hG Tryd.underlying109 hc h hg
  obtain ⟨y0, h0, q0⟩ := F 0 _ rfl (of_decide_eq_true (by kernel_rfl)) (o_ints hG hN)
  exact ⟨y0, h0, q0⟩
theorem o_impl (hG : Downs Tryd.prog G) (hN : ∀ elems rest, G 54 (.slice elems rest) → elems.length ≤ N) : Opens enc Tryd.prog w spare held G 111 ImC (fun x => x.2.2.length ≤ N) := by
  intro fuel b o cs x hc h hg
  have F := fields_open hG Tryd.underlying111 hc h hg
  obtain ⟨y0, h0, _⟩ := F 0 _ rfl (of_decide_eq_true (by kernel_rfl)) o_int
  obtain ⟨y1, h1, _⟩ := F 1 _ rfl (of_decide_eq_true (by kernel_rfl)) o_int
  obtain ⟨y2, h2, q2⟩ := F 2 _ rfl (of_decide_eq_true (by kernel_rfl)) (o_ints hG hN)
  exact ⟨(y0, y1, y2), ⟨h0, h1, h2⟩, q2⟩
theorem o_prog (hG : Downs Tryd.prog G) (hN : ∀ elems rest, G 54 (.slice elems rest) → elems.length ≤ N) (hT : ∀ elems rest, G 36 (.slice elems rest) → elems.length ≤ N) : Opens enc Tryd.prog w spare held G 31 PrC (FewP N) := by
  intro fuel b o cs x hc h hg
  have F := fields_open hG Tryd.underlying31 hc h hg
  obtain ⟨y0, h0, q0⟩ := F 0 _ rfl (of_decide_eq_true (by kernel_rfl)) (opens_slice (c := 1) hG Tryd.underlying25 (by kernel_rfl) (by decide) (by kernel_rfl) (o_types hG hT))
  obtain ⟨y1, h1, q1⟩ := F 1 _ rfl (of_decide_eq_true (by kernel_rfl)) (opens_slice (c := 3) hG Tryd.underlying26 (by kernel_rfl) (by decide) (by kernel_rfl) (o_sig hG hT))
  obtain ⟨y2, h2, q2⟩ := F 2 _ rfl (of_decide_eq_true (by kernel_rfl)) (opens_slice (c := 1) hG Tryd.underlying27 (by kernel_rfl) (by decide) (by kernel_rfl) (o_iface hG hN))
  obtain ⟨y3, h3, q3⟩ := F 3 _ rfl (of_decide_eq_true (by kernel_rfl)) (opens_slice (c := 3) hG Tryd.underlying28 (by kernel_rfl) (by decide) (by kernel_rfl) (o_impl hG hN))
  obtain ⟨y4, h4, q4⟩ := F 4 _ rfl (of_decide_eq_true (by kernel_rfl)) (o_funcs hG hN hT)
  obtain ⟨y5, h5, _⟩ := F 5 _ rfl (of_decide_eq_true (by kernel_rfl)) o_int
  exact ⟨⟨y0, y1, y2, y3, y4, y5⟩, ⟨h0, h1, h2, h3, h4, h5⟩, q0, q1, q2, q3, q4⟩

/-- A pointer to a program, or none. -/
def ProgAt (N : Nat) (W : World) (v : Value) : Prop := v = .pointer none ∨ ∃ b o P, v = .pointer (some ⟨b, o, none⟩) ∧ PrC W b o P ∧ FewP N P
set_option maxRecDepth 100000 in
theorem prog_at (hG : Downs Tryd.prog G) (hN : ∀ elems rest, G 54 (.slice elems rest) → elems.length ≤ N) (hT : ∀ elems rest, G 36 (.slice elems rest) → elems.length ≤ N) {r : Reach} {b0 : Nat} {v : Value} {d : DataW H} {p : List MemPlace} (hval : Value.okWide Tryd.prog w r b0 22 v)
    (h : ∃ fuel, DataW.trod enc Tryd.prog w 0 spare held fuel 22 v.cells.toList = some (d, p)) (hg : G 22 d) : ProgAt N w v := by
  obtain ⟨a, rfl⟩ := okWide_pointer Tryd.underlying22 hval
  obtain ⟨fuel, hf⟩ := h
  rcases DataW.trod_pointer Tryd.underlying22 hf with ⟨h1, _⟩ | ⟨a', cs', y, n, _, h1, h2, h3, h4⟩
  · simp [Value.cells] at h1
    exact .inl (by rw [h1])
  · simp [Value.cells] at h1
    subst h1
    obtain ⟨_, g5, g6⟩ := World.cells?_some h3
    have hc6 : Tryd.prog.cellsOf 31 = 6 := by kernel_rfl
    obtain ⟨b, o, spot⟩ := a'
    have g2 := g6 0 (by rw [hc6]; omega)
    rw [List.getElem?_eq_getElem (by rw [g5, hc6]; omega)] at g2
    have hspot : spot = none := by simpa [Addr.add] using World.cell?_spot g2
    subst hspot
    have hd : d = .ptr y.1 := congrArg Prod.fst h2
    rw [hd] at hg
    obtain ⟨P, q1, q2⟩ := o_prog hG hN hT n b o cs' y (fun i hi => by
      have := g6 i hi
      rw [add_plain] at this
      exact this) h4 (hG.ptr Tryd.underlying22 hg)
    exact .inr ⟨b, o, P, rfl, q1, q2⟩
end
theorem weights_all {H : Type} {P : Program} {e : TypeId} {d : DataW H} : ∀ {l : List (DataW H)}, d ∈ l → ∀ n, n ∈ d.weights P e → n ∈ DataW.weightsAll P e l
  | x :: r, h, n, hn => by
    rw [DataW.weightsAll]
    rcases List.mem_cons.1 h with rfl | h
    · exact List.mem_append_left _ hn
    · exact List.mem_append_right _ (weights_all h n hn)
/-- Nothing that is read takes more than the form's reach. -/
theorem downs_sized {H : Type} {P : Program} : Downs P (fun (t : TypeId) (d : DataW H) => ∀ n, n ∈ d.weights P t → n ≤ reachBytes) := by
  constructor
  · intro t e elems rest d ht h hd n hn
    refine h n ?_
    rw [DataW.weights]
    simp only [ht]
    exact List.mem_cons_of_mem _ (List.mem_append_left _ (weights_all hd n hn))
  · intro t fs parts i f d ht h hf hd n hn
    refine h n ?_
    rw [DataW.weights]
    simp only [ht]
    refine DataW.weights_mem_each (j := i) (t := f.type) (d := d) ?_ hd n hn
    rw [List.getElem?_map, Array.getElem?_toList, hf]
    rfl
  · intro t e d ht h n hn
    refine h n ?_
    rw [DataW.weights]
    simp only [ht]
    exact hn
set_option maxRecDepth 100000 in
theorem prog_open {H : Type} {enc : TypeId × Value → H} {w : World} {spare : Nat → Bool} {held : Bool} {r : Reach} {b0 : Nat} {v : Value} {d : DataW H} {p : List MemPlace} (hval : Value.okWide Tryd.prog w r b0 22 v)
    (h : ∃ fuel, DataW.trod enc Tryd.prog w 0 spare held fuel 22 v.cells.toList = some (d, p)) (hb : ∀ n, n ∈ d.weights Tryd.prog 22 → n ≤ reachBytes) : ProgAt 17592186044416 w v :=
  prog_at (G := fun (t : TypeId) (d : DataW H) => ∀ n, n ∈ d.weights Tryd.prog t → n ≤ reachBytes) (N := 17592186044416) downs_sized (fun elems rest hh => by
    have h1 := hh ((elems.length + rest.length) * Tryd.prog.bytesOf 3) (by
      rw [DataW.weights]
      simp only [Tryd.underlying54]
      exact List.mem_cons_self ..)
    have h8 : Tryd.prog.bytesOf 3 = 8 := by kernel_rfl
    rw [h8] at h1
    have hr : reachBytes = 140737488351232 := by decide
    rw [hr] at h1
    omega) (fun elems rest hh => by
    have h1 := hh ((elems.length + rest.length) * Tryd.prog.bytesOf 70) (by
      rw [DataW.weights]
      simp only [Tryd.underlying36]
      exact List.mem_cons_self ..)
    have h8 : Tryd.prog.bytesOf 70 = 16 := by kernel_rfl
    rw [h8] at h1
    have hr : reachBytes = 140737488351232 := by decide
    rw [hr] at h1
    omega) hval h hb
end Go.Proofs.YtmebkeidpklcbaaDoor

namespace Go.Proofs.YtmebkeidpklcbaaDoor
open Go.RowKit

def SlV {α : Type} (c : Nat) (R : World → Nat → Nat → α → Prop) (w : World) (v : Value) (l : List α) : Prop :=
  ∃ a cp, v = .slice a l.length cp ∧ RowsAt w c R a l ∧ l.length ≤ cp ∧ l.length ≤ maxLen
theorem SlC.val {α : Type} {c : Nat} {R : World → Nat → Nat → α → Prop} {w : World} {b o : Nat} {l : List α} (h : SlC c R w b o l) : ∃ a cp, w.cell? ⟨b, o, none⟩ = some (.slice a l.length cp) ∧ SlV c R w (.slice a l.length cp) l := by
  obtain ⟨a, cp, h1, h2⟩ := h
  exact ⟨a, cp, h1, a, cp, rfl, h2⟩
theorem SlV.slice {α : Type} {c : Nat} {R : World → Nat → Nat → α → Prop} {w : World} {a : Option Addr} {n cp : Nat} {l : List α} (h : SlV c R w (.slice a n cp) l) : n = l.length ∧ RowsAt w c R a l ∧ l.length ≤ cp ∧ l.length ≤ maxLen := by
  obtain ⟨a', cp', e, h1, h2⟩ := h
  simp only [Value.slice.injEq] at e
  obtain ⟨rfl, rfl, rfl⟩ := e
  exact ⟨rfl, h1, h2⟩
end Go.Proofs.YtmebkeidpklcbaaDoor

namespace Go.Proofs.YtmebkeidpklcbaaDoor
open Go.RowKit

/-- The blocks that may come behind a block, of n. -/
def tgB (n : Nat) (x : Bl8) : List Nat :=
  (if (x.fin = 1 ∨ x.fin = 2) ∧ inB x.to n = true then [x.to.toNat] else []) ++ (if x.fin = 2 ∧ x.els ≠ x.to ∧ inB x.els n = true then [x.els.toNat] else [])
theorem tgB_lt {n : Nat} {x : Bl8} : ∀ u, u ∈ tgB n x → u < n := by
  intro u hu
  unfold tgB at hu
  rcases List.mem_append.1 hu with h | h
  · split at h
    · next c => rw [List.mem_singleton] at h; have := inB_iff.1 c.2; omega
    · cases h
  · split at h
    · next c => rw [List.mem_singleton] at h; have := inB_iff.1 c.2.2; omega
    · cases h
theorem tgB_len {n : Nat} {x : Bl8} : (tgB n x).length ≤ 2 := by
  unfold tgB
  rw [List.length_append]
  split <;> split <;> simp
def flowF (F : Fu8) : List (List Nat) := F.blocks.map (tgB F.blocks.length)
theorem flowF_len (F : Fu8) : (flowF F).length = F.blocks.length := by unfold flowF; rw [List.length_map]
theorem nb_out {g : List (List Nat)} {b : Nat} (h : ¬ b < g.length) : nb g b = [] := by
  unfold nb
  rw [List.getD_eq_getElem?_getD, List.getElem?_eq_none (by omega)]
  rfl
theorem flowF_nb {F : Fu8} {b : Nat} (h : b < F.blocks.length) : nb (flowF F) b = tgB F.blocks.length (blk8 F b) := by
  unfold nb flowF blk8
  rw [List.getD_eq_getElem?_getD, List.getD_eq_getElem?_getD, List.getElem?_map, List.getElem?_eq_getElem h]
  rfl
theorem flowF_sm {F : Fu8} (h : F.blocks.length ≤ 600) : Sm (flowF F) := by
  refine ⟨fun j y hy => ?_, by rw [flowF_len]; exact h, fun j => ?_⟩
  · rw [flowF_len]
    by_cases hj : j < F.blocks.length
    · rw [flowF_nb hj] at hy
      exact tgB_lt y hy
    · rw [nb_out (by rw [flowF_len]; exact hj)] at hy
      cases hy
  · by_cases hj : j < F.blocks.length
    · rw [flowF_nb hj]
      exact Nat.le_trans tgB_len (by decide)
    · rw [nb_out (by rw [flowF_len]; exact hj)]
      simp
end Go.Proofs.YtmebkeidpklcbaaDoor

namespace Go.Proofs.YtmebkeidpklcbaaDoor
open Go.RowKit

/-- A block of two cells. -/
structure TwoAt (w : World) (b : Nat) (x y : Value) : Prop where
  heap : w.heap[b]? = some (.cells #[x, y] 34 (0, 0))
theorem TwoAt.c0 {w : World} {b : Nat} {x y : Value} (h : TwoAt w b x y) : w.cell? ⟨b, 0, none⟩ = some x := by rw [cell_of_row w b 0 _ _ _ h.heap]; rfl
theorem TwoAt.c1 {w : World} {b : Nat} {x y : Value} (h : TwoAt w b x y) : w.cell? ⟨b, 1, none⟩ = some y := by rw [cell_of_row w b 1 _ _ _ h.heap]; rfl
theorem TwoAt.frozen {w : World} {b : Nat} {x y : Value} (h : TwoAt w b x y) (k : Nat) : w.frozen? ⟨b, k, none⟩ = false := frozen_of_row w b k _ _ h.heap
theorem TwoAt.lt {w : World} {b : Nat} {x y : Value} (h : TwoAt w b x y) : b < w.heap.size := (Array.getElem?_eq_some_iff.1 h.heap).1
theorem TwoAt.kept {w w' : World} {b : Nat} {x y : Value} {L : List Nat} (h : TwoAt w b x y) (k : Keeps L w w') (hb : b ∉ L) : TwoAt w' b x y := ⟨by rw [k.block b h.lt hb]; exact h.heap⟩
theorem TwoAt.new (w : World) (x y : Value) : TwoAt (w.alloc (.cells #[x, y] 34)) w.heap.size x y := ⟨heap_alloc_new w _⟩

end Go.Proofs.YtmebkeidpklcbaaDoor

namespace Go.Proofs.YtmebkeidpklcbaaDoor
open Go.RowKit Go.Shelf

def zero8 : In8 := ⟨0, 0, 0, 0, 0, []⟩
def noAt : Value := .tuple #[insV zero8 (.slice none 0 0), .bool false]
theorem set6 {w : World} {b : Nat} {x0 x1 x2 x3 x4 x5 : Value} {T : TypeId} (h : w.heap[b]? = some (.cells #[x0, x1, x2, x3, x4, x5] T (0, 0))) (u0 u1 u2 u3 u4 u5 : Value) :
    ((((((w.setCell ⟨b, 0, none⟩ u0).setCell ⟨b, 1, none⟩ u1).setCell ⟨b, 2, none⟩ u2).setCell ⟨b, 3, none⟩ u3).setCell ⟨b, 4, none⟩ u4).setCell ⟨b, 5, none⟩ u5).heap[b]? = some (.cells #[u0, u1, u2, u3, u4, u5] T (0, 0)) :=
  heap_setCell_same _ b 5 _ _ u5 (heap_setCell_same _ b 4 _ _ u4 (heap_setCell_same _ b 3 _ _ u3 (heap_setCell_same _ b 2 _ _ u2 (heap_setCell_same _ b 1 _ _ u1 (heap_setCell_same w b 0 _ _ u0 h)))))
theorem keeps6 (w : World) (b : Nat) (u0 u1 u2 u3 u4 u5 : Value) : Keeps [b] w ((((((w.setCell ⟨b, 0, none⟩ u0).setCell ⟨b, 1, none⟩ u1).setCell ⟨b, 2, none⟩ u2).setCell ⟨b, 3, none⟩ u3).setCell ⟨b, 4, none⟩ u4).setCell ⟨b, 5, none⟩ u5) :=
  (((((Keeps.setCell [b] _ _ _ (List.mem_singleton.2 rfl)).step (Keeps.setCell [b] _ _ _ (List.mem_singleton.2 rfl))).step (Keeps.setCell [b] _ _ _ (List.mem_singleton.2 rfl))).step (Keeps.setCell [b] _ _ _ (List.mem_singleton.2 rfl))).step (Keeps.setCell [b] _ _ _ (List.mem_singleton.2 rfl))).step (Keeps.setCell [b] _ _ _ (List.mem_singleton.2 rfl))
/-- What At tells of an instruction. -/
def atV (x : In8) (ar : Value) : Value := .tuple #[insV x ar, .bool true]
end Go.Proofs.YtmebkeidpklcbaaDoor

namespace Go.Proofs.YtmebkeidpklcbaaDoor
open Go.RowKit

/-- Not too great. -/
structure Sm8 (P : Pr8) : Prop where
  fn : P.funcs.length ≤ 12
  bk : ∀ f, f < P.funcs.length → (fun8 P f).blocks.length ≤ 14
  pt : (pts P).length ≤ 150
theorem Sm8.cntF {P : Pr8} (h : Sm8 P) {f b : Nat} (hf : f < P.funcs.length) (hb : b ≤ (fun8 P f).blocks.length) : cntP P f + Go.Proofs.YtmebkeidpklcbaaDoor.cntF (fun8 P f) b ≤ 150 := by
  have h1 := h.pt
  rw [pts_cnt] at h1
  have h2 := cntP_mono P (show f + 1 ≤ P.funcs.length by omega)
  rw [cntP_succ] at h2
  have h3 := cntF_mono (fun8 P f) hb
  omega
theorem Sm8.code {P : Pr8} (h : Sm8 P) {f b : Nat} (hf : f < P.funcs.length) (hb : b < (fun8 P f).blocks.length) : (blk8 (fun8 P f) b).code.length ≤ 149 := by
  have := h.cntF hf (show b + 1 ≤ _ by omega)
  rw [cntF_succ] at this
  omega
end Go.Proofs.YtmebkeidpklcbaaDoor

namespace Go.Proofs.YtmebkeidpklcbaaDoor
open Go.RowKit

/-- Of blocks' numbers, the first points of those that are blocks. -/
def sel3 (P : Pr8) (f : Nat) (zs : List Int) : List (Nat × Nat × Nat) := (zs.filter fun z => decide (0 ≤ z ∧ z < ((fun8 P f).blocks.length : Int))).map fun z => (f, z.toNat, 0)
def nex8 (P : Pr8) (f b i : Nat) : List (Nat × Nat × Nat) := if i < (blk8 (fun8 P f) b).code.length then [(f, b, i + 1)] else sel3 P f (tosB (blk8 (fun8 P f) b))
theorem sel3_len (P : Pr8) (f : Nat) (zs : List Int) : (sel3 P f zs).length ≤ zs.length := by
  unfold sel3
  rw [List.length_map]
  exact List.length_filter_le _ _
theorem sel3_in (P : Pr8) (f : Nat) (zs : List Int) (z : Int) (h : 0 ≤ z ∧ z < ((fun8 P f).blocks.length : Int)) : sel3 P f (zs ++ [z]) = sel3 P f zs ++ [(f, z.toNat, 0)] := by
  unfold sel3
  rw [List.filter_append, List.map_append, List.filter_cons, if_pos (by simpa using h)]
  rfl
theorem sel3_out (P : Pr8) (f : Nat) (zs : List Int) (z : Int) (h : ¬ (0 ≤ z ∧ z < ((fun8 P f).blocks.length : Int))) : sel3 P f (zs ++ [z]) = sel3 P f zs := by
  unfold sel3
  rw [List.filter_append, List.map_append, List.filter_cons, if_neg (by simpa using h)]
  simp
theorem pt_lit (w : World) (u : Nat) (hu : u = w.heap.size) (f b i : Nat) (z : Int) (hz : z = (i : Int)) : RowsAt (w.alloc (.cells #[.int .i64 (f : Int), .int .i64 (b : Int), .int .i64 z] 43)) 3 PtC (some ⟨u, 0, none⟩) [(f, b, i)] := by
  subst hu
  subst hz
  have hn := heap_new w (.cells #[.int .i64 (f : Int), .int .i64 (b : Int), .int .i64 (i : Int)] 43)
  refine .inr ⟨_, 0, rfl, fun j q hq => ?_⟩
  have hj : j = 0 := by
    rcases Nat.lt_or_ge j 1 with h | h
    · omega
    · rw [List.getElem?_eq_none (by simpa using h)] at hq; cases hq
  subst hj
  simp at hq
  subst hq
  rw [Nat.zero_mul]
  exact ⟨hcell hn 0, hcell hn 1, hcell hn 2⟩
/-- What Next tells at (f, b, i). -/
def NexPost (w : World) (P : Pr8) (f b i : Nat) (e : Ending) (w' : World) : Prop := ∃ a cp, e = .returned (.slice a (nex8 P f b i).length cp) ∧ RowsAt w' 3 PtC a (nex8 P f b i) ∧ Keeps [] w w'
end Go.Proofs.YtmebkeidpklcbaaDoor

namespace Go.Proofs.YtmebkeidpklcbaaDoor
open Go.RowKit

theorem tabB_sm {P : Pr8} (h : lenB P.funcs 12 fnB = true) : Sm10 P := by
  have hf : ∀ f, f < P.funcs.length → fnB (fun8 P f) = true := fun f hf => lenB_all h (getD_get hf)
  have hb : ∀ f, f < P.funcs.length → lenB (fun8 P f).blocks 12 blkB = true := fun f h1 => by
    have := hf f h1
    unfold fnB at this
    simp only [Bool.and_eq_true] at this
    exact this.2.2
  refine ⟨lenB_len h, fun f h1 => lenB_len (hb f h1), fun {f b} h1 h2 => ?_⟩
  have h3 := lenB_all (hb f h1) (show (fun8 P f).blocks[b]? = some (blk8 (fun8 P f) b) from getD_get h2)
  unfold blkB at h3
  exact lenB_len h3
end Go.Proofs.YtmebkeidpklcbaaDoor

namespace Go.Proofs.YtmebkeidpklcbaaDoor
open Go.RowKit

/-- What Next answers, in new memory. -/
def NexNew (w : World) (P : Pr8) (f b i : Nat) (e : Ending) (w' : World) : Prop := ∃ a cp, e = .returned (.slice a (nex8 P f b i).length cp) ∧ RowsAt w' 3 PtC a (nex8 P f b i) ∧ Keeps [] w w' ∧ ∀ g o, a = some ⟨g, o, none⟩ → w.heap.size ≤ g
theorem row_new {w : World} {base n : Nat} {T : TypeId} {c : Nat} {v : Value} {xs : List Value} (h : w.ownsRow base T c v n xs) {a : Option Addr} {m cp : Nat} (hv : v = .slice a m cp) : ∀ g o, a = some ⟨g, o, none⟩ → base ≤ g := by
  intro g o e
  subst e
  rcases h.2 with ⟨e1, _⟩ | ⟨g', cap, cur, e1, hb, _⟩
  · rw [e1] at hv
    cases hv
  · rw [e1] at hv
    cases hv
    exact hb
end Go.Proofs.YtmebkeidpklcbaaDoor
