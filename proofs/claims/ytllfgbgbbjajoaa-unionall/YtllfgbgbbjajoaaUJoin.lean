/-
  Contracts: union's Join, Same, New.
-/
import Derived.Test.YtllfgbgbbjajoaaUCall
namespace Go.Proofs.Ytllfgbgbbjajoaa
open Go.RowKit

set_option maxHeartbeats 400000 in
theorem join_nil (a b : Int) (w : World) :
    Calls Try.prog 6 #[.pointer none, .int .i64 a, .int .i64 b] w fun e w' => e = .returned (.bool false) ∧ w' = w := by
  go_enter Try.func6, Try.ntmps6
  go_wp2_with (go_at_call 8; refine (find_nil _ _).mono ?_; rintro e w' ⟨rfl, rfl⟩)
  go_ret
  exact ⟨rfl, rfl⟩

/-- Nothing is joined: one number is not there, or both answers are the same. -/
theorem join_not (p : Value) (a b x y : Int) (w : World) (h : x < 0 ∨ y < 0 ∨ x = y) (I : World → World → Prop)
    (h1 : Calls Try.prog 8 #[p, .int .i64 a] w fun e w' => e = .returned (.int .i64 x) ∧ I w w')
    (h2 : ∀ w1, I w w1 → Calls Try.prog 8 #[p, .int .i64 b] w1 fun e w' => e = .returned (.int .i64 y) ∧ I w w') :
    Calls Try.prog 6 #[p, .int .i64 a, .int .i64 b] w fun e w' => e = .returned (.bool false) ∧ I w w' := by
  have H1 := hid h1
  have H2 := hid h2
  clear h1 h2
  go_enter Try.func6, Try.ntmps6
  go_wp2_with fail
  refine H1.out.mono ?_
  rintro e w1 ⟨rfl, hw1⟩
  go_wp2_with fail
  refine (H2.out w1 hw1).mono ?_
  rintro e w2 ⟨rfl, hw2⟩
  clear hw1 H1 H2
  by_cases hx : x < 0
  · have hbx : decide (x < 0) = true := decide_eq_true hx
    clear h
    go_wp2
    go_ret
    exact ⟨rfl, hw2⟩
  · by_cases hy : y < 0
    · have hbx : decide (x < 0) = false := decide_eq_false hx
      have hby : decide (y < 0) = true := decide_eq_true hy
      clear h
      go_wp2
      go_ret
      exact ⟨rfl, hw2⟩
    · obtain rfl : x = y := by omega
      have hbx : decide (x < 0) = false := decide_eq_false hx
      have hbe : (x == x) = true := by simp
      clear h
      go_wp2
      go_ret
      exact ⟨rfl, hw2⟩

set_option maxHeartbeats 1000000 in
/-- Two are joined: lo and hi, each the least of its group. -/
theorem join_yes (bl n g x y lo hi : Nat) (a b : Int) (w : World) (hxy : (x = lo ∧ y = hi) ∨ (x = hi ∧ y = lo)) (hlt : lo < hi) (hhi : hi < 5000) (hg5 : g < 5000) (J : World → Prop)
    (hJ : ∀ w1, J w1 → ∃ f, URow w1 bl n (g + 1) f)
    (h1 : Calls Try.prog 8 #[.pointer (some ⟨bl, 0, none⟩), .int .i64 a] w fun e w' => e = .returned (.int .i64 (x : Nat)) ∧ J w')
    (h2 : ∀ w1, J w1 → Calls Try.prog 8 #[.pointer (some ⟨bl, 0, none⟩), .int .i64 b] w1 fun e w' => e = .returned (.int .i64 (y : Nat)) ∧ J w') :
    Calls Try.prog 6 #[.pointer (some ⟨bl, 0, none⟩), .int .i64 a, .int .i64 b] w fun e w' => e = .returned (.bool true) ∧ ∃ w2, J w2 ∧ w' = (w2.setCell ⟨bl, 2 + hi, none⟩ (.int .i64 (lo : Nat))).setCell ⟨bl, 1, none⟩ (.int .i64 (g : Nat)) := by
  have H1 := hid h1
  have H2 := hid h2
  have HJ := hid hJ
  clear h1 h2 hJ
  rcases hxy with ⟨rfl, rfl⟩ | ⟨rfl, rfl⟩
  all_goals
    go_enter Try.func6, Try.ntmps6
    go_wp2_with fail
    refine H1.out.mono ?_
    rintro e w1 ⟨rfl, hw1⟩
    go_wp2_with fail
    refine (H2.out w1 hw1).mono ?_
    rintro e w2 ⟨rfl, hw2⟩
    clear hw1 H1 H2
    obtain ⟨f, hu⟩ := HJ.out w2 hw2
    have hJ2 := hid hw2
    clear HJ hw2
  · have hu2 := hu.put y x
    have hfz := hu.frozen (2 + y)
    have hc0 := hu.above hhi
    have hc1 := hu2.groups
    have hfz1 := hu2.frozen 1
    have hbe : (((x : Nat) : Int) == ((y : Nat) : Int)) = false := by rw [beq_eq_false_iff_ne]; omega
    generalize f y = z at hc0
    clear hu hu2
    go_wp2
    go_ret
    exact ⟨rfl, w2, hJ2.out, by go_num⟩
  · have hu2 := hu.put x y
    have hfz := hu.frozen (2 + x)
    have hc0 := hu.above hhi
    have hc1 := hu2.groups
    have hfz1 := hu2.frozen 1
    have hbe : (((x : Nat) : Int) == ((y : Nat) : Int)) = false := by rw [beq_eq_false_iff_ne]; omega
    generalize f x = z at hc0
    clear hu hu2
    go_wp2
    go_ret
    exact ⟨rfl, w2, hJ2.out, by go_num⟩

/-- Join: every two numbers. -/
theorem join_any (bl n : Nat) (r : Nat → Nat) (a b : Int) (w : World) (hu : UAt w bl n r) :
    Calls Try.prog 6 #[.pointer (some ⟨bl, 0, none⟩), .int .i64 a, .int .i64 b] w fun e w' => e = .returned (.bool (joinB n r a b)) ∧ UAt w' bl n (joinI n r a b) ∧ Keeps [bl] w w' := by
  have hl := hu.least
  have h1 := find_any bl n r a w hu
  have h2 : ∀ w1, (UAt w1 bl n r ∧ Keeps [bl] w w1) → Calls Try.prog 8 #[.pointer (some ⟨bl, 0, none⟩), .int .i64 b] w1 fun e w' => e = .returned (.int .i64 (findI n r b)) ∧ UAt w' bl n r ∧ Keeps [bl] w w' := fun w1 hw => (find_any bl n r b w1 hw.1).mono fun e w' ⟨he, h3, h4⟩ => ⟨he, h3, hw.2.step h4⟩
  by_cases hin : (0 ≤ a ∧ a < n) ∧ (0 ≤ b ∧ b < n)
  · obtain ⟨x, rfl⟩ := Int.eq_ofNat_of_zero_le hin.1.1
    obtain ⟨y, rfl⟩ := Int.eq_ofNat_of_zero_le hin.2.1
    have hx : x < n := by omega
    have hy : y < n := by omega
    rw [findI_in n r x hx] at h1
    rw [findI_in n r y hy] at h2
    rw [joinI_in n r x y hx hy]
    by_cases hs : r x = r y
    · have hB : joinB n r (x : Int) (y : Int) = false := by simp [joinB, hs]
      rw [hB, hs, joined_same]
      exact join_not _ _ _ _ _ w (Or.inr (Or.inr (by rw [hs]))) (fun w w' => UAt w' bl n r ∧ Keeps [bl] w w') h1 h2
    · have hB : joinB n r (x : Int) (y : Int) = true := by simp [joinB, hs]; omega
      rw [hB]
      have hrx := hl.lt hx
      have hry := hl.lt hy
      have ix := hl.idem x hx
      have iy := hl.idem y hy
      have hcnt := leads_join (r := r) hrx hry ix iy hs
      have hle := leads_le n r
      have h5 := hu.le
      refine (join_yes bl n (leads n (joined r (r x) (r y))).length (r x) (r y) (min (r x) (r y)) (max (r x) (r y)) x y w (by omega) (by omega) (by omega) (by omega) (fun w1 => UAt w1 bl n r ∧ Keeps [bl] w w1) ?_ h1 h2).mono ?_
      · intro w1 hw
        obtain ⟨f, hf, _⟩ := hw.1.has
        rw [hcnt] at hf
        exact ⟨f, hf⟩
      · rintro e w' ⟨he, w2, ⟨hu2, hk2⟩, hw⟩
        subst hw
        obtain ⟨f, hf, ht⟩ := hu2.has
        refine ⟨he, ⟨⟨_, ((hf.put (max (r x) (r y)) (min (r x) (r y))).putGroups _), ht.join hrx hry ix iy hs⟩, hu.le⟩, ?_⟩
        exact keeps_put (keeps_put hk2 _ _) _ _
  · have hB : joinB n r a b = false := by
      unfold joinB
      apply decide_eq_false
      intro h
      exact hin ⟨h.1, h.2.1⟩
    rw [hB, joinI_out n r a b hin]
    refine join_not _ _ _ _ _ w ?_ (fun w w' => UAt w' bl n r ∧ Keeps [bl] w w') h1 h2
    by_cases ha : 0 ≤ a ∧ a < n
    · right; left
      rw [findI_out n r b (fun h => hin ⟨ha, h⟩)]
      omega
    · left
      rw [findI_out n r a ha]
      omega

/-- Same: the first number is not there. -/
theorem same_not (p : Value) (a b x : Int) (w : World) (h : x < 0) (I : World → Prop)
    (h1 : Calls Try.prog 8 #[p, .int .i64 a] w fun e w' => e = .returned (.int .i64 x) ∧ I w') :
    Calls Try.prog 7 #[p, .int .i64 a, .int .i64 b] w fun e w' => e = .returned (.bool false) ∧ I w' := by
  have H1 := hid h1
  clear h1
  have hb : decide (x ≥ 0) = false := decide_eq_false (by omega)
  go_enter Try.func7, Try.ntmps7
  go_wp2_with fail
  refine H1.out.mono ?_
  rintro e w1 ⟨rfl, hw1⟩
  go_wp2
  go_ret
  exact ⟨rfl, hw1⟩

theorem same_yes (p : Value) (a b x y : Int) (w : World) (h : 0 ≤ x) (I : World → Prop)
    (h1 : Calls Try.prog 8 #[p, .int .i64 a] w fun e w' => e = .returned (.int .i64 x) ∧ I w')
    (h2 : ∀ w1, I w1 → Calls Try.prog 8 #[p, .int .i64 b] w1 fun e w' => e = .returned (.int .i64 y) ∧ I w') :
    Calls Try.prog 7 #[p, .int .i64 a, .int .i64 b] w fun e w' => e = .returned (.bool (x == y)) ∧ I w' := by
  have H1 := hid h1
  have H2 := hid h2
  clear h1 h2
  have hb : decide (x ≥ 0) = true := decide_eq_true (by omega)
  go_enter Try.func7, Try.ntmps7
  go_wp2_with fail
  refine H1.out.mono ?_
  rintro e w1 ⟨rfl, hw1⟩
  go_wp2_with fail
  refine (H2.out w1 hw1).mono ?_
  rintro e w2 ⟨rfl, hw2⟩
  go_wp2
  go_ret
  exact ⟨rfl, hw2⟩

theorem same_nil (a b : Int) (w : World) :
    Calls Try.prog 7 #[.pointer none, .int .i64 a, .int .i64 b] w fun e w' => e = .returned (.bool false) ∧ w' = w :=
  same_not _ a b (-1) w (by omega) (fun w' => w' = w) (find_nil a w)

/-- Same: every two numbers. -/
theorem same_any (bl n : Nat) (r : Nat → Nat) (a b : Int) (w : World) (hu : UAt w bl n r) :
    Calls Try.prog 7 #[.pointer (some ⟨bl, 0, none⟩), .int .i64 a, .int .i64 b] w fun e w' => e = .returned (.bool (sameB n r a b)) ∧ UAt w' bl n r ∧ Keeps [bl] w w' := by
  have h1 := find_any bl n r a w hu
  have h2 : ∀ w1, (UAt w1 bl n r ∧ Keeps [bl] w w1) → Calls Try.prog 8 #[.pointer (some ⟨bl, 0, none⟩), .int .i64 b] w1 fun e w' => e = .returned (.int .i64 (findI n r b)) ∧ UAt w' bl n r ∧ Keeps [bl] w w' := fun w1 hw => (find_any bl n r b w1 hw.1).mono fun e w' ⟨he, h3, h4⟩ => ⟨he, h3, hw.2.step h4⟩
  by_cases ha : 0 ≤ a ∧ a < n
  · obtain ⟨x, rfl⟩ := Int.eq_ofNat_of_zero_le ha.1
    rw [findI_in n r x (by omega)] at h1
    refine (same_yes _ _ _ _ _ w (by omega) (fun w' => UAt w' bl n r ∧ Keeps [bl] w w') h1 h2).mono ?_
    rintro e w' ⟨he, h3⟩
    refine ⟨?_, h3⟩
    rw [he]
    congr 2
    unfold sameB
    by_cases hb : 0 ≤ b ∧ b < n
    · obtain ⟨y, rfl⟩ := Int.eq_ofNat_of_zero_le hb.1
      rw [findI_in n r y (by omega)]
      by_cases hs : r x = r y
      · rw [hs]
        simp
        omega
      · have : ¬ ((r x : Nat) : Int) = ((r y : Nat) : Int) := by omega
        simp [this, hs]
    · rw [findI_out n r b hb, decide_eq_false (fun h => hb h.2.1), beq_eq_false_iff_ne]
      omega
  · rw [findI_out n r a ha] at h1
    have hB : sameB n r a b = false := decide_eq_false (fun h => ha h.1)
    rw [hB]
    exact same_not _ _ _ _ w (by omega) (fun w' => UAt w' bl n r ∧ Keeps [bl] w w') h1

def newF (k : Nat) : Nat → Nat := fun j => if j < k then j else 0
theorem newF_step (k : Nat) : upd (newF k) k k = newF (k + 1) := by
  funext j
  unfold upd newF
  by_cases h : j = k
  · subst h
    rw [if_pos rfl, if_pos (by omega)]
  · rw [if_neg h]
    by_cases h2 : j < k
    · rw [if_pos h2, if_pos (by omega)]
    · rw [if_neg h2, if_neg (by omega)]
theorem newF_tree (n : Nat) : Tree n (newF n) (fun k => k) :=
  ⟨fun a h => by unfold newF; rw [if_pos h]; exact Nat.le_refl _, fun a h => by unfold newF; rw [if_pos h], fun a _ _ => rfl⟩

theorem urow_at (w : World) (n g : Nat) (f : Nat → Nat) : URow (w.alloc (.cells (urow n g f) 37)) w.heap.size n g f := ⟨heap_alloc_new w _⟩
theorem new_0 (m : Nat) : (urow 0 0 fun _ => 0).setIfInBounds 0 (.int .i64 (m : Nat)) = urow m 0 (newF 0) :=
  urow_set 0 0 m 0 _ _ 0 m (fun j hj => by unfold ucell; rw [if_neg hj, if_neg hj]; rfl) rfl
theorem new_1 (m : Nat) : (urow m 0 (newF 0)).setIfInBounds 1 (.int .i64 (m : Nat)) = urow m m (newF 0) :=
  urow_set m 0 m m _ _ 1 m (fun j hj => by unfold ucell; rw [if_neg hj, if_neg hj]) rfl

set_option maxHeartbeats 1000000 in
theorem new_raw (a : Int) (m : Nat) (w : World) (h : (a < 0 ∧ m = 0) ∨ (a = m ∧ m ≤ 5000) ∨ (5000 < a ∧ m = 5000)) :
    Calls Try.prog 5 #[.int .i64 a] w fun e w' => e = .returned (.pointer (some ⟨w.heap.size, 0, none⟩)) ∧ UAt w' w.heap.size m (fun k => k) ∧ Keeps [] w w' := by
  have hm : m ≤ 5000 := by omega
  have hzero := zero_union
  have h0 := urow_at w 0 0 (fun _ => 0)
  have h1 := urow_at w m 0 (newF 0)
  have h2 := urow_at w m m (newF 0)
  have hk2 : Keeps [] w (w.alloc (Obj.cells (urow m m (newF 0)) 37)) := Keeps.alloc _ _ _
  have e0 := new_0 m
  have e1 := new_1 m
  have hfz0 := h0.frozen 0
  have c0 := h0.size
  have hfz1 := h1.frozen 1
  have c1 := h1.size
  have d1 := h1.groups
  have c2 := h2.size
  have H2 := hid h2
  clear h0 h1 h2
  generalize urow 0 0 (fun _ => 0) = R0 at *
  generalize urow m 0 (newF 0) = R1 at *
  generalize urow m m (newF 0) = R2 at *
  have d1' : (w.alloc (Obj.cells R1 37)).cell? { block := w.heap.size, off := 1 } = some (Value.int IntKind.i64 0) := d1
  clear d1
  have c0' : (w.alloc (Obj.cells R0 37)).cell? { block := w.heap.size, off := 0 } = some (Value.int IntKind.i64 0) := c0
  clear c0
  obtain ⟨z, hz⟩ : ∃ z : Int, (m : Int) = z := ⟨_, rfl⟩
  rw [hz] at e0 e1 c1 c2
  have h' : (a < 0 ∧ z = 0) ∨ (a = z ∧ 0 ≤ z ∧ z ≤ 5000) ∨ (5000 < a ∧ z = 5000) := by omega
  clear h
  have HZ := hid hz
  have hM := hid hm
  clear hz hm
  rcases h' with ⟨ha, rfl⟩ | ⟨rfl, ha, ha2⟩ | ⟨ha, rfl⟩
  · go_enter Try.func5, Try.ntmps5
    go_wp2_with fail
    clear hzero e0 e1 c0' c1 c2 d1' hfz0 hfz1
    generalize w.alloc (Obj.cells R2 37) = w2 at H2 hk2 ⊢
    go_loopw [24] (fun i wr => ∃ k : Nat, k ≤ m ∧ i = .int .i64 k ∧ Box (URow wr w.heap.size m m (newF k)) ∧ Keeps [] w wr) (fun i _ => m - (intOf i).toNat)
    case atStart => exact ⟨0, by omega, rfl, H2, hk2⟩
    case round =>
      clear hk2 H2
      obtain ⟨k, hk, rfl, hu, hkw⟩ := hrel
      have hz := HZ.out
      have hm := hM.out
      by_cases hlt : k < m
      · omega
      · obtain rfl : k = m := by omega
        have hlt' : ¬ (k : Int) < 0 := by omega
        have hd : decide ((k : Int) < 0) = false := decide_eq_false hlt'
        clear hz hlt'
        go_wp2
        go_ret
        refine ⟨rfl, ⟨⟨newF k, ?_, newF_tree k⟩, hm⟩, hkw⟩
        rw [leads_alone, List.length_range]
        exact hu.out
  · go_enter Try.func5, Try.ntmps5
    go_wp2_with fail
    clear hzero e0 e1 c0' c1 c2 d1' hfz0 hfz1
    generalize w.alloc (Obj.cells R2 37) = w2 at H2 hk2 ⊢
    go_loopw [24] (fun i wr => ∃ k : Nat, k ≤ m ∧ i = .int .i64 k ∧ Box (URow wr w.heap.size m m (newF k)) ∧ Keeps [] w wr) (fun i _ => m - (intOf i).toNat)
    case atStart => exact ⟨0, by omega, rfl, H2, hk2⟩
    case round =>
      clear hk2 H2
      obtain ⟨k, hk, rfl, hu, hkw⟩ := hrel
      have hz := HZ.out
      have hm := hM.out
      by_cases hlt : k < m
      · have hk5 : k < 5000 := by omega
        have hlt' : (k : Int) < a := by omega
        have hc := hu.out.above hk5
        have hfz := hu.out.frozen (2 + k)
        have hu2 := hid (hu.out.put k k)
        rw [newF_step] at hu2
        have hk2 : Keeps [] w (wr.setCell ⟨w.heap.size, 2 + k, none⟩ (.int .i64 (k : Nat))) := by
          refine hkw.trans (Keeps.setCell [w.heap.size] _ ⟨w.heap.size, 2 + k, none⟩ _ (by simp)) ?_
          intro x hx hl; simp at hx; omega
        generalize newF k k = q at hc
        clear hu hkw hz
        go_wp2
        go_roundw
        case rel => exact ⟨k + 1, by omega, by go_num, hu2, hk2⟩
        case measure => simp [intOf]; omega
      · obtain rfl : k = m := by omega
        have hlt' : ¬ (k : Int) < a := by omega
        have hd : decide ((k : Int) < a) = false := decide_eq_false hlt'
        clear hz hlt'
        go_wp2
        go_ret
        refine ⟨rfl, ⟨⟨newF k, ?_, newF_tree k⟩, hm⟩, hkw⟩
        rw [leads_alone, List.length_range]
        exact hu.out
  · go_enter Try.func5, Try.ntmps5
    go_wp2_with fail
    clear hzero e0 e1 c0' c1 c2 d1' hfz0 hfz1
    generalize w.alloc (Obj.cells R2 37) = w2 at H2 hk2 ⊢
    go_loopw [24] (fun i wr => ∃ k : Nat, k ≤ m ∧ i = .int .i64 k ∧ Box (URow wr w.heap.size m m (newF k)) ∧ Keeps [] w wr) (fun i _ => m - (intOf i).toNat)
    case atStart => exact ⟨0, by omega, rfl, H2, hk2⟩
    case round =>
      clear hk2 H2
      obtain ⟨k, hk, rfl, hu, hkw⟩ := hrel
      have hz := HZ.out
      have hm := hM.out
      by_cases hlt : k < m
      · have hk5 : k < 5000 := by omega
        have hlt' : (k : Int) < 5000 := by omega
        have hc := hu.out.above hk5
        have hfz := hu.out.frozen (2 + k)
        have hu2 := hid (hu.out.put k k)
        rw [newF_step] at hu2
        have hk2 : Keeps [] w (wr.setCell ⟨w.heap.size, 2 + k, none⟩ (.int .i64 (k : Nat))) := by
          refine hkw.trans (Keeps.setCell [w.heap.size] _ ⟨w.heap.size, 2 + k, none⟩ _ (by simp)) ?_
          intro x hx hl; simp at hx; omega
        generalize newF k k = q at hc
        clear hu hkw hz
        go_wp2
        go_roundw
        case rel => exact ⟨k + 1, by omega, by go_num, hu2, hk2⟩
        case measure => simp [intOf]; omega
      · obtain rfl : k = m := by omega
        have hlt' : ¬ (k : Int) < 5000 := by omega
        have hd : decide ((k : Int) < 5000) = false := decide_eq_false hlt'
        clear hz hlt'
        go_wp2
        go_ret
        refine ⟨rfl, ⟨⟨newF k, ?_, newF_tree k⟩, hm⟩, hkw⟩
        rw [leads_alone, List.length_range]
        exact hu.out

/-- New: every number. -/
theorem new_any (a : Int) (w : World) :
    Calls Try.prog 5 #[.int .i64 a] w fun e w' => e = .returned (.pointer (some ⟨w.heap.size, 0, none⟩)) ∧ UAt w' w.heap.size (min (max a 0) 5000).toNat (fun k => k) ∧ Keeps [] w w' :=
  new_raw a _ w (by omega)
theorem new_nat (n : Nat) (w : World) (h : n ≤ 5000) :
    Calls Try.prog 5 #[.int .i64 (n : Int)] w fun e w' => e = .returned (.pointer (some ⟨w.heap.size, 0, none⟩)) ∧ UAt w' w.heap.size n (fun k => k) ∧ Keeps [] w w' :=
  new_raw n n w (by omega)
end Go.Proofs.Ytllfgbgbbjajoaa
