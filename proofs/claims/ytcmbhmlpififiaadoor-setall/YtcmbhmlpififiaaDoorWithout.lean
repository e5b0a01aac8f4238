/-
  Contract: the statements' own without.
-/
import Derived.Test.YtcmbhmlpififiaaDoorLists
import Derived.Test.YtcmbhmlpififiaaDoorJoin
namespace Go.Proofs.YtcmbhmlpififiaaDoor
open Go.RowKit

/-- l but those of m. -/
def wo (l m : List Int) : List Int := l.filter fun z => !decide (z ∈ m)

theorem wo_snoc (l m : List Int) (k : Nat) (h : k < l.length) : wo (l.take (k + 1)) m = wo (l.take k) m ++ (if l.getD k 0 ∈ m then [] else [l.getD k 0]) := by
  unfold wo
  rw [List.take_succ_eq_append_getElem h, List.filter_append]
  have hg : l.getD k 0 = l[k] := by simp [List.getD, List.getElem?_eq_getElem h]
  rw [hg]
  by_cases hm : l[k] ∈ m <;> simp [List.filter, hm]

theorem Lst.owns {w : World} {base : Nat} {v : Value} {l : List Int} (h : Lst w base v l) : w.ownsRow base 3 1 v l.length (vals l) := by
  rcases h with ⟨rfl, rfl⟩ | ⟨_, h⟩
  · exact World.ownsRow_nil w _ _ _
  · exact h

theorem wo_len (l m : List Int) : (wo l m).length ≤ l.length := List.length_filter_le _ _

set_option maxHeartbeats 400000 in
theorem wout_empty (a : Option Addr) (cap : Nat) (v : Value) (w : World) :
    Calls Tryd.prog 15 #[.slice a 0 cap, v] w fun e w' => e = .returned (.slice none 0 0) ∧ w' = w := by
  go_enter Tryd.func15, Tryd.ntmps15
  go_wp2
  go_loop [5, 6] (fun v i => v = .slice none 0 0 ∧ i = .int .i64 0) (fun _ _ => 0)
  case atStart => exact ⟨rfl, rfl⟩
  case round =>
    obtain ⟨rfl, rfl⟩ := hrel
    go_wp2
    go_ret
    exact ⟨rfl, rfl⟩

set_option maxHeartbeats 2000000 in
theorem wout_raw (b off len cap : Nat) (ls ms : List Int) (v2 : Value) (w : World) (hl : ls.length = len) (hm : len ≤ 10000) (hc : ∀ i, i < len → w.cell? ⟨b, off + i, none⟩ = some (.int .i64 (ls.getD i 0)))
    (hin : ∀ (z : Int) (w1 : World), Keeps [] w w1 → Calls Tryd.prog 11 #[v2, .int .i64 z] w1 fun e w' => e = .returned (.bool (decide (z ∈ ms))) ∧ w' = w1) :
    Calls Tryd.prog 15 #[.slice (some ⟨b, off, none⟩) len cap, v2] w fun e w' => ∃ v, e = .returned v ∧ Lst w' w.heap.size v (wo ls ms) ∧ Keeps [] w w' := by
  have HL := hid hl
  have HC := hid hc
  have HI := hid hin
  clear hl hc hin
  go_enter Tryd.func15, Tryd.ntmps15
  go_wp2
  go_loopw [5, 6] (fun v i wr => ∃ k : Nat, k ≤ len ∧ i = .int .i64 k ∧ Box (Lst wr w.heap.size v (wo (ls.take k) ms)) ∧ Keeps [] w wr) (fun _ i _ => len - (intOf i).toNat)
  case atStart => exact ⟨0, by omega, rfl, hid (Or.inl ⟨rfl, rfl⟩), Keeps.refl _ _⟩
  case round =>
    obtain ⟨k, hk, rfl, hlst, hkw⟩ := hrel
    by_cases hlt : k < len
    · have c0 := HC.out k hlt
      have hbw := block_lt_of_cell c0
      have c1 : wr.cell? ⟨b, off + k, none⟩ = some (.int .i64 (ls.getD k 0)) := (hkw.cell (p := ⟨b, off + k, none⟩) hbw (by simp)).trans c0
      have hstep := hid (wo_snoc ls ms k (by rw [HL.out]; exact hlt))
      have HM := hid (HI.out (ls.getD k 0) wr hkw)
      have hwl : (wo (ls.take k) ms).length ≤ 10000 := by
        have h1 := wo_len (ls.take k) ms
        have h2 := List.length_take_le k ls
        omega
      clear c0
      generalize wo (ls.take k) ms = xs at hlst hstep hwl
      generalize ls.getD k 0 = z at c1 hstep HM
      have hsz : w.heap.size ≤ wr.heap.size := hkw.size
      by_cases hz : z ∈ ms
      · rw [decide_eq_true hz] at HM
        have hL2 : Box (Lst wr w.heap.size u5 (wo (ls.take (k + 1)) ms)) := hid (by rw [hstep.out, if_pos hz, List.append_nil]; exact hlst.out)
        clear hz hlst hstep
        go_wp2_with fail
        refine HM.out.mono ?_
        rintro e w1 ⟨rfl, hw⟩
        obtain rfl := hw.symm
        clear hw HM
        go_wp2
        go_roundw
        case rel => exact ⟨k + 1, by omega, by go_num, hL2, hkw⟩
        case measure => simp [intOf]; omega
      · rw [decide_eq_false hz] at HM
        have hfin : Box (wo (ls.take (k + 1)) ms = xs ++ [z]) := hid (by rw [hstep.out, if_neg hz])
        have hown := hid hlst.out.owns
        clear hz hlst hstep
        generalize hnn : xs.length = nn at hown hwl
        have hNN := hid hnn
        clear hnn
        go_wp2_with fail
        refine HM.out.mono ?_
        rintro e w1 ⟨rfl, hw⟩
        obtain rfl := hw.symm
        clear hw HM
        go_wp2_with (at_builtin; refine wpList_append_own _ rfl _ _ 29 rfl w.heap.size 3 Tryd.t3 (.int .i64 0) 1 8 under_ints info_int zero_int size_int bytes_int rfl (by decide) _ _ _ rfl (hown.out.alloc _) ⟨wr.heap.size, 0, none⟩ 1 1 [.int .i64 z] rfl rfl (cell_one_new _ _ _) (fun x hx => by simp at hx; subst hx; rfl) (by unfold maxLen; omega) (by omega) (by simp; omega) ?_; intro v' w3 hown3 hgrow3 hnil3)
        have hk2 : Keeps [] wr (wr.alloc (Obj.cells #[.int .i64 z] 3)) := Keeps.alloc _ _ _
        have hk3 : Keeps [] w w3 := (hkw.quiet hk2).appended hown.out hgrow3 (Nat.le_refl _)
        have hL3 : Box (Lst w3 w.heap.size v' (wo (ls.take (k + 1)) ms)) := hid (by
          rw [hfin.out]
          refine Or.inr ⟨by simp, ?_⟩
          rw [List.length_append, List.length_singleton, hNN.out]
          have e1 : vals (xs ++ [z]) = vals xs ++ [.int .i64 z] := by simp [vals]
          rw [e1]
          exact hown3)
        clear hk2 hgrow3 hnil3 hown3 hown hkw c1
        go_roundw
        case rel => exact ⟨k + 1, by omega, by go_num, hL3, hk3⟩
        case measure => simp [intOf]; omega
    · obtain rfl : k = len := by omega
      have hend : Box (ls.take k = ls) := hid (List.take_of_length_le (by rw [HL.out]; omega))
      go_wp2
      go_ret
      refine ⟨_, rfl, ?_, hkw⟩
      have := hlst.out
      rw [hend.out] at this
      exact this

/-- without: the numbers of l that are not in m. -/
theorem wout_any (a : Option Addr) (cap : Nat) (ls : List Int) (a2 : Option Addr) (cap2 : Nat) (ms : List Int) (w : World) (hl : IntsAt w a ls) (hm : IntsAt w a2 ms) (hll : ls.length ≤ 10000) (hml : ms.length ≤ 10000) :
    Calls Tryd.prog 15 #[.slice a ls.length cap, .slice a2 ms.length cap2] w fun e w' => ∃ v, e = .returned v ∧ Lst w' w.heap.size v (wo ls ms) ∧ Keeps [] w w' := by
  rcases hl with rfl | ⟨b, off, rfl, hc⟩
  · refine (wout_empty a cap _ w).mono ?_
    rintro e w' ⟨he, hw⟩
    subst hw
    exact ⟨_, he, Or.inl ⟨rfl, rfl⟩, Keeps.refl _ _⟩
  · exact wout_raw b off _ cap ls ms _ w rfl hll hc fun z w1 hk => rin_any a2 cap2 ms z w1 (hm.kept hk (fun _ _ _ => by simp)) (by omega)

theorem hasI_both (f : Bool → Bool → Bool) (h0 : f false false = false) (s t : Nat → Bool) (x : Int) : hasI (both f s t) x = f (hasI s x) (hasI t x) := by
  unfold hasI both
  by_cases hx : 0 ≤ x <;> simp [hx, h0]

theorem wo_less (s t : Nat → Bool) (hf : Fit s) (hg : Fit t) : wo (elI s) (elI t) = elI (both lessB s t) := by
  have hs := elI_is s hf
  have ht := elI_is t hg
  refine IsL.uniq (s := both lessB s t) ⟨hs.rise.filter _, fun x => ?_⟩ (elI_is _ (fit_both lessB s t hf hg rfl))
  rw [hasI_both lessB rfl]
  unfold wo lessB
  rw [List.mem_filter, hs.mem x]
  by_cases hm : x ∈ elI t
  · have := (ht.mem x).1 hm
    simp [hm, this]
  · have : hasI t x = false := by
      cases hh : hasI t x
      · rfl
      · exact absurd ((ht.mem x).2 hh) hm
    simp [hm, this]

theorem less_less (s t : Nat → Bool) : both lessB s (both lessB s t) = both and s t := by
  funext n; simp only [both, lessB]; cases s n <;> cases t n <;> rfl

theorem elI_inj (s t : Nat → Bool) (hf : Fit s) (hg : Fit t) : decide (elI s = elI t) = eqI s t := by
  rw [Bool.eq_iff_iff, decide_eq_true_eq, eqI_iff s t hf hg]
  constructor
  · intro h
    have hs := elI_is s hf
    have ht := elI_is t hg
    funext n
    have h1 := hs.mem (n : Int)
    have h2 := ht.mem (n : Int)
    rw [hasI_nat] at h1 h2
    rw [Bool.eq_iff_iff, ← h1, ← h2, h]
  · rintro rfl; rfl

theorem Lst.open2 {w : World} {base : Nat} {v : Value} {l : List Int} (h : Lst w base v l) : ∃ a cap, v = .slice a l.length cap ∧ IntsAt w a l ∧ (∀ b off, a = some ⟨b, off, none⟩ → b < w.heap.size) := by
  rcases h with ⟨rfl, rfl⟩ | ⟨hne, h⟩
  · exact ⟨none, 0, rfl, Or.inl rfl, fun b off h => by cases h⟩
  · have hp := List.length_pos_iff.2 hne
    obtain ⟨g, cap, rfl, hg, hle, _, hc⟩ := ownsRow_open h hp
    exact ⟨_, cap, rfl, Or.inr ⟨g, 0, rfl, hc⟩, fun b off h => by cases h; exact block_lt_of_cell (hc 0 hp)⟩

theorem wo_filter (l m : List Int) : wo l m = l.filter fun z => !decide (z ∈ m) := rfl

theorem sub_len (s t : Nat → Bool) (hf : Fit s) (hg : Fit t) : subI s t = (((elI (both and s t)).length : Int) == ((elI s).length : Int)) := by
  have hs := elI_is s hf
  have hm := elI_is (both and s t) (fit_both and s t hf hg rfl)
  have hfl : elI (both and s t) = (elI s).filter fun z => hasI t z := by
    refine IsL.uniq hm ⟨hs.rise.filter _, fun x => ?_⟩
    rw [List.mem_filter, hs.mem x, hasI_both and rfl, Bool.and_eq_true]
  rw [Bool.eq_iff_iff, subI_iff s t hf, beq_iff_eq, hfl]
  constructor
  · intro h
    have : (elI s).filter (fun z => hasI t z) = elI s := by
      rw [List.filter_eq_self]
      intro x hx
      have h1 := (hs.mem x).1 hx
      unfold hasI at h1 ⊢
      simp at h1 ⊢
      exact ⟨h1.1, h _ h1.2⟩
    rw [this]
  · intro h n hn
    have hl : ((elI s).filter (fun z => hasI t z)).length = (elI s).length := by omega
    have hall := List.length_filter_eq_length_iff.1 hl
    have hx : (n : Int) ∈ elI s := (hs.mem _).2 (by rw [hasI_nat]; exact hn)
    have := hall _ hx
    rw [hasI_nat] at this
    exact this

/-- Numbers in a slice whose block is there. -/
def IntsIn (w : World) (a : Option Addr) (l : List Int) : Prop := IntsAt w a l ∧ ∀ b off, a = some ⟨b, off, none⟩ → b < w.heap.size

theorem IntsIn.kept {w w' : World} {a : Option Addr} {zs : List Int} {L : List Nat} (h : IntsIn w a zs) (k : Keeps L w w') (hn : ∀ b off, a = some ⟨b, off, none⟩ → b ∉ L) : IntsIn w' a zs :=
  ⟨h.1.kept k hn, fun b off e => Nat.lt_of_lt_of_le (h.2 b off e) k.size⟩

theorem Lst.open3 {w : World} {base : Nat} {v : Value} {l : List Int} (h : Lst w base v l) : ∃ a cap, v = .slice a l.length cap ∧ IntsIn w a l := by
  obtain ⟨a, cap, h1, h2, h3⟩ := h.open2
  exact ⟨a, cap, h1, h2, h3⟩

theorem owns_open3 {w : World} {base : Nat} {v : Value} {s : Nat → Bool} (h : w.ownsRow base 3 1 v (elems s).length (ints (elems s))) : ∃ a cap, v = .slice a (elI s).length cap ∧ IntsIn w a (elI s) := by
  obtain ⟨h1, h2⟩ := h
  rcases h2 with ⟨rfl, h0⟩ | ⟨g, cap, cur, rfl, hg, hh, hn, hm, hsz, ht⟩
  · have : elems s = [] := List.eq_nil_of_length_eq_zero h0
    have e : elI s = [] := by unfold elI; rw [this]; rfl
    rw [e]
    exact ⟨none, 0, rfl, Or.inl rfl, fun b off h => by cases h⟩
  · obtain ⟨a, cap', hv, hi, _⟩ := ownsRow_ints (l := elems s) (w := w) (base := base) ⟨h1, Or.inr ⟨g, cap, cur, rfl, hg, hh, hn, hm, hsz, ht⟩⟩
    rw [hv, elI_len]
    cases hv
    exact ⟨_, _, rfl, hi, fun b off h => by cases h; exact (Array.getElem?_eq_some_iff.1 hh).1⟩
end Go.Proofs.YtcmbhmlpififiaaDoor
