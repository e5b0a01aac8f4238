/-
  Plain facts: a set's numbers as one rising list; the statements' own of.
-/
import Derived.Test.YtcmbhmlpififiaaDoorPut
namespace Go.Proofs.YtcmbhmlpififiaaDoor
open Go.RowKit

theorem sorted_ext : ∀ l1 l2 : List Int, l1.Pairwise (· < ·) → l2.Pairwise (· < ·) → (∀ x, x ∈ l1 ↔ x ∈ l2) → l1 = l2
  | [], [], _, _, _ => rfl
  | [], y :: ys, _, _, h => by have := (h y).2 (by simp); simp at this
  | x :: xs, [], _, _, h => by have := (h x).1 (by simp); simp at this
  | x :: xs, y :: ys, h1, h2, h => by
    rw [List.pairwise_cons] at h1 h2
    have hxy : x = y := by
      rcases List.mem_cons.1 ((h x).1 (by simp)) with e | hx
      · exact e
      · rcases List.mem_cons.1 ((h y).2 (by simp)) with e | hy
        · exact e.symm
        · have a := h2.1 x hx
          have b := h1.1 y hy
          omega
    subst hxy
    congr 1
    refine sorted_ext xs ys h1.2 h2.2 fun z => ?_
    constructor
    · intro hz
      rcases List.mem_cons.1 ((h z).1 (List.mem_cons_of_mem _ hz)) with e | hz'
      · have := h1.1 z hz; omega
      · exact hz'
    · intro hz
      rcases List.mem_cons.1 ((h z).2 (List.mem_cons_of_mem _ hz)) with e | hz'
      · have := h2.1 z hz; omega
      · exact hz'

/-- l is the rising list of s. -/
structure IsL (s : Nat → Bool) (l : List Int) : Prop where
  rise : l.Pairwise (· < ·)
  mem : ∀ x : Int, x ∈ l ↔ hasI s x = true

theorem IsL.uniq {s : Nat → Bool} {l1 l2 : List Int} (h1 : IsL s l1) (h2 : IsL s l2) : l1 = l2 :=
  sorted_ext l1 l2 h1.rise h2.rise fun x => (h1.mem x).trans (h2.mem x).symm

def elI (s : Nat → Bool) : List Int := (elems s).map fun n : Nat => (n : Int)

theorem elI_len (s : Nat → Bool) : (elI s).length = (elems s).length := by simp [elI]
theorem elI_le (s : Nat → Bool) : (elI s).length ≤ 5000 := by rw [elI_len]; exact pre_len s 5000

theorem elI_is (s : Nat → Bool) (hf : Fit s) : IsL s (elI s) := by
  refine ⟨?_, fun x => ?_⟩
  · unfold elI elems
    rw [List.pairwise_map]
    refine List.Pairwise.filter _ ?_
    exact (List.pairwise_lt_range).imp fun h => by omega
  · unfold elI elems hasI
    rw [List.mem_map]
    constructor
    · rintro ⟨n, hn, rfl⟩
      rw [List.mem_filter] at hn
      simp [hn.2]
    · intro h
      simp at h
      refine ⟨x.toNat, ?_, by omega⟩
      rw [List.mem_filter]
      refine ⟨?_, h.2⟩
      rw [List.mem_range]
      apply Nat.lt_of_not_le
      intro hle
      rw [hf _ hle] at h
      simp at h

theorem hasI_insI (s : Nat → Bool) (n x : Int) (h : 0 ≤ n ∧ n < 5000) : hasI (insI s n) x = (hasI s x || decide (x = n)) := by
  unfold hasI insI
  by_cases hx : 0 ≤ x
  · have e : ((x.toNat : Nat) : Int) = x := by omega
    have h5 : decide (n < 5000) = true := decide_eq_true h.2
    rw [e, h5]
    simp [hx]
  · have : ¬ x = n := by omega
    simp [hx, this]

theorem put_is (s : Nat → Bool) (l l' : List Int) (n : Int) (h : 0 ≤ n ∧ n < 5000) (hl : IsL s l) (hp : PutIs l n l') : IsL (insI s n) l' := by
  rcases hp with ⟨hm, rfl⟩ | ⟨hm, k, hk, h1, h2, rfl⟩
  · refine ⟨hl.rise, fun x => ?_⟩
    rw [hasI_insI s n x h, hl.mem x]
    by_cases hx : x = n
    · subst hx
      rw [(hl.mem x).1 hm]; simp
    · simp [hx]
  · have hbig : ∀ y, y ∈ l.drop k → n < y := by
      intro y hy
      have hkl : k < l.length := by
        apply Nat.lt_of_not_le
        intro hle
        rw [List.drop_eq_nil_of_le hle] at hy
        simp at hy
      have hge := h2 hkl
      have hne : l.getD k 0 ≠ n := fun e => hm (by rw [← e]; exact getD_mem' l k hkl)
      have hdr : l.drop k = l[k] :: l.drop (k + 1) := List.drop_eq_getElem_cons hkl
      have hgk : l.getD k 0 = l[k] := by simp [List.getD, List.getElem?_eq_getElem hkl]
      have hr := hl.rise.drop (i := k)
      rw [hdr] at hr hy
      rw [List.pairwise_cons] at hr
      rcases List.mem_cons.1 hy with e | hy'
      · rw [e]; omega
      · have := hr.1 y hy'; omega
    have hsmall : ∀ y, y ∈ l.take k → y < n := by
      intro y hy
      obtain ⟨i, hi, he⟩ := List.getElem_of_mem hy
      rw [List.length_take] at hi
      have := h1 i (by omega)
      rw [List.getElem_take] at he
      have hg : l.getD i 0 = l[i] := by simp [List.getD, List.getElem?_eq_getElem (show i < l.length by omega)]
      omega
    refine ⟨?_, fun x => ?_⟩
    · rw [List.pairwise_append]
      refine ⟨hl.rise.take, ?_, ?_⟩
      · rw [List.pairwise_cons]
        exact ⟨hbig, hl.rise.drop⟩
      · intro y hy z hz
        have a := hsmall y hy
        rcases List.mem_cons.1 hz with e | hz'
        · omega
        · have := hbig z hz'; omega
    · rw [hasI_insI s n x h, Bool.or_eq_true, ← hl.mem x, decide_eq_true_eq]
      have hsplit : x ∈ l ↔ x ∈ l.take k ∨ x ∈ l.drop k := by rw [← List.mem_append, List.take_append_drop]
      rw [hsplit, List.mem_append, List.mem_cons]
      constructor
      · rintro (a | a | a)
        · exact Or.inl (Or.inl a)
        · exact Or.inr a
        · exact Or.inl (Or.inr a)
      · rintro ((a | a) | a)
        · exact Or.inl a
        · exact Or.inr (Or.inr a)
        · exact Or.inr (Or.inl a)

theorem put_el (s : Nat → Bool) (hf : Fit s) (l' : List Int) (n : Int) (h : 0 ≤ n ∧ n < 5000) (hp : PutIs (elI s) n l') : l' = elI (insI s n) :=
  (put_is s _ l' n h (elI_is s hf) hp).uniq (elI_is _ (hf.ins n))

set_option maxHeartbeats 400000 in
theorem lmay_x (a : Int) (w : World) :
    Calls Tryd.prog 10 #[.int .i64 a] w fun e w' => e = .returned (.bool (decide (0 ≤ a ∧ a < 5000))) ∧ w' = w := by
  by_cases h0 : 0 ≤ a <;> by_cases h1 : a < 5000 <;> (go_enter Tryd.func10, Tryd.ntmps10; go_wp2; go_ret; exact ⟨by simp [h0, h1], rfl⟩)

theorem elI_none : elI none_ = [] := by unfold elI; rw [show elems none_ = [] from elems_none]; rfl

set_option maxHeartbeats 400000 in
theorem lof_empty (a : Option Addr) (cap : Nat) (w : World) :
    Calls Tryd.prog 16 #[.slice a 0 cap] w fun e w' => e = .returned (.slice none 0 0) ∧ w' = w := by
  go_enter Tryd.func16, Tryd.ntmps16
  go_wp2
  go_loop [3, 4] (fun v i => v = .slice none 0 0 ∧ i = .int .i64 0) (fun _ _ => 0)
  case atStart => exact ⟨rfl, rfl⟩
  case round =>
    obtain ⟨rfl, rfl⟩ := hrel
    go_wp2
    go_ret
    exact ⟨rfl, rfl⟩

set_option maxHeartbeats 2000000 in
theorem lof_raw (b off len cap : Nat) (zs : List Int) (w : World) (hl : zs.length = len) (hm : len ≤ maxLen) (hc : ∀ i, i < len → w.cell? ⟨b, off + i, none⟩ = some (.int .i64 (zs.getD i 0))) :
    Calls Tryd.prog 16 #[.slice (some ⟨b, off, none⟩) len cap] w fun e w' => ∃ v, e = .returned v ∧ Lst w' w.heap.size v (elI (ofI (zs.take 40))) ∧ Keeps [] w w' := by
  have HL := hid hl
  have HC := hid hc
  clear hl hc
  unfold maxLen at hm
  go_enter Tryd.func16, Tryd.ntmps16
  go_wp2
  go_loopw [3, 4] (fun v i wr => ∃ k : Nat, k ≤ len ∧ k ≤ 40 ∧ i = .int .i64 k ∧ Box (Lst wr w.heap.size v (elI (ofI (zs.take k)))) ∧ Keeps [] w wr) (fun _ i _ => len - (intOf i).toNat)
  case atStart => exact ⟨0, by omega, by omega, rfl, hid (Or.inl ⟨elI_none, rfl⟩), Keeps.refl _ _⟩
  case round =>
    obtain ⟨k, hk, hk40, rfl, hlst, hkw⟩ := hrel
    by_cases hgo : k < len ∧ k < 40
    · obtain ⟨hlt, hlt40⟩ := hgo
      have c0 := HC.out k hlt
      have hbw := block_lt_of_cell c0
      have c1 : wr.cell? ⟨b, off + k, none⟩ = some (.int .i64 (zs.getD k 0)) := (hkw.cell (p := ⟨b, off + k, none⟩) hbw (by simp)).trans c0
      have hstep := hid (take_fold zs k (by rw [HL.out]; exact hlt) none_)
      have hstep' : Box (ofI (zs.take (k + 1)) = insI (ofI (zs.take k)) (zs.getD k 0)) := hstep
      have HM := hid (lmay_x (zs.getD k 0) wr)
      clear c0 hstep
      have hf := hid (fit_ofI (zs.take k))
      generalize ofI (zs.take k) = S at hlst hstep' hf
      generalize zs.getD k 0 = z at c1 hstep' HM
      have hsz : w.heap.size ≤ wr.heap.size := hkw.size
      by_cases hz : 0 ≤ z ∧ z < 5000
      · rw [decide_eq_true hz] at HM
        have HP := hid (put_any w.heap.size u3 (elI S) z wr hlst.out hsz (by have := elI_le S; omega))
        have hel := hid fun l' hp => put_el S hf.out l' z hz hp
        clear hz
        go_wp2_with fail
        refine HM.out.mono ?_
        rintro e w1 ⟨rfl, hw⟩
        obtain rfl := hw.symm
        clear hw HM
        go_wp2_with fail
        refine HP.out.mono ?_
        rintro e w2 ⟨v', l', rfl, hp, hl2, hk2⟩
        have hL2 : Box (Lst w2 w.heap.size v' (elI (ofI (zs.take (k + 1))))) := hid (by rw [hstep'.out, ← hel.out l' hp]; exact hl2)
        have hK2 := hkw.quiet hk2
        clear hp hl2 hk2 HP hel hlst hkw
        go_wp2
        go_roundw
        case rel => exact ⟨k + 1, by omega, by omega, by go_num, hL2, hK2⟩
        case measure => simp [intOf]; omega
      · rw [decide_eq_false hz] at HM
        have hL2 : Box (Lst wr w.heap.size u3 (elI (ofI (zs.take (k + 1))))) := hid (by rw [hstep'.out, insI_out S z hz]; exact hlst.out)
        clear hz hlst
        go_wp2_with fail
        refine HM.out.mono ?_
        rintro e w1 ⟨rfl, hw⟩
        obtain rfl := hw.symm
        clear hw HM
        go_wp2
        go_roundw
        case rel => exact ⟨k + 1, by omega, by omega, by go_num, hL2, hkw⟩
        case measure => simp [intOf]; omega
    · have hend : Box (zs.take k = zs.take 40) := hid (by
        by_cases h40 : k = 40
        · rw [h40]
        · rw [List.take_of_length_le (by rw [HL.out]; omega), List.take_of_length_le (by rw [HL.out]; omega)])
      by_cases h40 : k < len
      all_goals
        go_wp2
        go_ret
        refine ⟨_, rfl, ?_, hkw⟩
        rw [← hend.out]
        exact hlst.out

/-- of: the rising list of those of the first forty that may be. -/
theorem lof_any (a : Option Addr) (cap : Nat) (zs : List Int) (w : World) (hz : IntsAt w a zs) (hm : zs.length ≤ maxLen) :
    Calls Tryd.prog 16 #[.slice a zs.length cap] w fun e w' => ∃ v, e = .returned v ∧ Lst w' w.heap.size v (elI (ofI (zs.take 40))) ∧ Keeps [] w w' := by
  rcases hz with rfl | ⟨b, off, rfl, hc⟩
  · refine (lof_empty a cap w).mono ?_
    rintro e w' ⟨he, hw⟩
    subst hw
    exact ⟨_, he, Or.inl ⟨elI_none, rfl⟩, Keeps.refl _ _⟩
  · exact lof_raw b off _ cap zs w rfl hm hc
end Go.Proofs.YtcmbhmlpififiaaDoor
