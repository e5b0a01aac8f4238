/-
  The statement SetAll: its walk.
-/
import Derived.Test.YtcmbhmlpififiaaDoorWithout
import Derived.Test.YtcmbhmlpififiaaDoorCut
namespace Go.Proofs.YtcmbhmlpififiaaDoor
open Go.RowKit

/-- What the operations hold. -/
structure Ops (w : World) (b off len : Nat) (K N : Nat → Int) (A : Nat → Option Addr) (Z : Nat → List Int) (C : Nat → Nat) : Prop where
  kind : ∀ i, i < len → w.cell? ⟨b, off + i * 3, none⟩ = some (.int .i64 (K i))
  num : ∀ i, i < len → w.cell? ⟨b, off + i * 3 + 1, none⟩ = some (.int .i64 (N i))
  list : ∀ i, i < len → w.cell? ⟨b, off + i * 3 + 2, none⟩ = some (.slice (A i) (Z i).length (C i))
  ints : ∀ i, i < len → IntsAt w (A i) (Z i) ∧ (Z i).length ≤ maxLen ∧ (Z i).length ≤ C i

/-- The operation in its variable. -/
structure Var (w : World) (P : Nat) (kk nn : Int) (v : Value) : Prop where
  k : w.cell? ⟨P, 0, none⟩ = some (.int .i64 kk)
  n : w.cell? ⟨P, 1, none⟩ = some (.int .i64 nn)
  l : w.cell? ⟨P, 2, none⟩ = some v
theorem Var.kept {w w' : World} {P : Nat} {kk nn : Int} {v : Value} {L : List Nat} (h : Var w P kk nn v) (k : Keeps L w w') (hn : P ∉ L) : Var w' P kk nn v :=
  ⟨(k.cell (p := ⟨P, 0, none⟩) (block_lt_of_cell h.k) hn).trans h.k, (k.cell (p := ⟨P, 1, none⟩) (block_lt_of_cell h.n) hn).trans h.n, (k.cell (p := ⟨P, 2, none⟩) (block_lt_of_cell h.l) hn).trans h.l⟩
theorem var_new (w : World) (kk nn : Int) (v : Value) : Var (w.alloc (Obj.cells #[.int .i64 kk, .int .i64 nn, v] 31)) w.heap.size kk nn v :=
  ⟨cell_of_row _ _ _ _ _ _ (heap_alloc_new w _), cell_of_row _ _ _ _ _ _ (heap_alloc_new w _), cell_of_row _ _ _ _ _ _ (heap_alloc_new w _)⟩

theorem in_el (S : Nat → Bool) (hf : Fit S) (n : Int) : decide (n ∈ elI S) = hasI S n := by
  rw [Bool.eq_iff_iff, decide_eq_true_eq]
  exact (elI_is S hf).mem n

theorem ints_cell {w : World} {a : Option Addr} {l : List Int} {j : Nat} (h : IntsAt w a l) (hj : j < l.length) : ∃ gb go, a = some ⟨gb, go, none⟩ ∧ w.cell? ⟨gb, go + j, none⟩ = some (.int .i64 (l.getD j 0)) := by
  rcases h with rfl | ⟨b, off, rfl, hc⟩
  · simp at hj
  · exact ⟨b, off, rfl, hc j hj⟩

theorem insI_has (S : Nat → Bool) (n : Int) (h : hasI S n = true) : insI S n = S := by
  have h0 : 0 ≤ n := by
    by_cases h0 : 0 ≤ n
    · exact h0
    · simp [hasI, h0] at h
  obtain ⟨k, rfl⟩ := Int.eq_ofNat_of_zero_le h0
  exact insI_in S k (by rw [hasI_nat] at h; exact h)

theorem IntsIn.of_lst {w : World} {base : Nat} {a : Option Addr} {n c : Nat} {l : List Int} (h : Lst w base (.slice a n c) l) : IntsIn w a l := by
  obtain ⟨a', c', e, hi⟩ := h.open3
  cases e
  exact hi

/-- What the search has found among the first k. -/
def WantIs (l : List Int) (nn : Int) (k : Nat) (want : Int) : Prop :=
  (want = -1 ∧ ∀ j, j < k → l.getD j 0 < nn) ∨ (0 ≤ want ∧ nn ≤ want ∧ ∃ j, j < k ∧ j < l.length ∧ l.getD j 0 = want ∧ ∀ i, i < j → l.getD i 0 < nn)

theorem elI_nonneg (S : Nat → Bool) (j : Nat) (h : j < (elI S).length) : 0 ≤ (elI S).getD j 0 := by
  have hm := getD_mem' (elI S) j h
  unfold elI at hm
  rw [List.mem_map] at hm
  obtain ⟨n, _, he⟩ := hm
  unfold elI
  omega

theorem first_want (S : Nat → Bool) (hf : Fit S) (nn : Int) (k : Nat) (want : Int) (h : WantIs (elI S) nn k want) (hend : (elI S).length ≤ k ∨ 0 ≤ want) : firstI S nn = want := by
  have hl := elI_is S hf
  rcases h with ⟨rfl, h⟩ | ⟨_, hge, j, hjk, hjl, hj, hbef⟩
  · rcases firstI_spec S nn with ⟨e, _⟩ | ⟨i, e, hi, hni, hs, _⟩
    · exact e
    · exfalso
      have hm : (i : Int) ∈ elI S := (hl.mem _).2 (by rw [hasI_nat]; exact hs)
      obtain ⟨p, hp, hpe⟩ := mem_getD hm
      have := h p (by omega)
      omega
  · have hm : want ∈ elI S := by rw [← hj]; exact getD_mem' _ _ hjl
    have hh := (hl.mem want).1 hm
    have h0 : 0 ≤ want := by rw [← hj]; exact elI_nonneg S j hjl
    obtain ⟨x, rfl⟩ := Int.eq_ofNat_of_zero_le h0
    rw [hasI_nat] at hh
    have hx5 : x < 5000 := by
      apply Nat.lt_of_not_le
      intro hle
      rw [hf x hle] at hh
      cases hh
    rcases firstI_spec S nn with ⟨_, h2⟩ | ⟨i, e, hi, hni, hs, hmin⟩
    · rw [h2 x hx5 hge] at hh; cases hh
    · rw [e]
      by_cases hix : x < i
      · rw [hmin x hix hge] at hh; cases hh
      · by_cases hxi : i < x
        · exfalso
          have hmi : (i : Int) ∈ elI S := (hl.mem _).2 (by rw [hasI_nat]; exact hs)
          obtain ⟨p, hp, hpe⟩ := mem_getD hmi
          have hpj : p < j := by
            apply Nat.lt_of_not_le
            intro hle
            have hg1 : (elI S).getD p 0 = (elI S)[p] := by simp [List.getD, List.getElem?_eq_getElem hp]
            have hg2 : (elI S).getD j 0 = (elI S)[j] := by simp [List.getD, List.getElem?_eq_getElem hjl]
            by_cases hpe2 : p = j
            · subst hpe2
              omega
            · have := List.pairwise_iff_getElem.1 hl.rise j p hjl hp (by omega)
              omega
          have := hbef p hpj
          omega
        · have : i = x := by omega
          rw [this]

theorem hasI_delI (S : Nat → Bool) (n x : Int) : hasI (delI S n) x = (hasI S x && !decide (x = n)) := by
  unfold hasI delI
  by_cases hx : 0 ≤ x
  · have e : ((x.toNat : Nat) : Int) = x := by omega
    rw [e]
    simp [hx]
  · simp [hx]
theorem wo_one (S : Nat → Bool) (hf : Fit S) (n : Int) : wo (elI S) [n] = elI (delI S n) := by
  have hs := elI_is S hf
  refine IsL.uniq (s := delI S n) ⟨hs.rise.filter _, fun x => ?_⟩ (elI_is _ (hf.del n))
  rw [hasI_delI]
  unfold wo
  rw [List.mem_filter, hs.mem x]
  by_cases hx : x = n <;> simp [hx]

theorem Lst.base {w : World} {base base' : Nat} {v : Value} {l : List Int} (h : Lst w base v l) (hb : base' ≤ base) : Lst w base' v l := by
  rcases h with h | ⟨hne, h⟩
  · exact Or.inl h
  · exact Or.inr ⟨hne, ownsRow_base h hb⟩

/-- Behind the removal. -/
structure Aft (w wa : World) (b B2 P : Nat) (S T : Nat → Bool) (mv : Value) (kk nn : Int) (v : Value) : Prop where
  keeps : Keeps [] w wa
  set : SetAt wa b T
  lst : Lst wa B2 mv (elI S)
  var : Var wa P kk nn v
  top : P < wa.heap.size
theorem Aft.quiet {w wr w' : World} {b B2 P : Nat} {S T : Nat → Bool} {mv v : Value} {kk nn : Int} (h : Aft w wr b B2 P S T mv kk nn v) (k : Keeps [] wr w') : Aft w w' b B2 P S T mv kk nn v :=
  ⟨h.keeps.quiet k, h.set.kept k (by simp), h.lst.kept k (by simp), h.var.kept k (by simp), Nat.lt_of_lt_of_le h.top k.size⟩

theorem fold_join (S T : Nat → Bool) (hg : Fit T) : (elI T).foldl insI S = both or S T := by
  funext n
  rw [mem_fold]
  unfold both
  have hm := (elI_is T hg).mem (n : Int)
  rw [hasI_nat] at hm
  congr 1
  rw [Bool.eq_iff_iff, decide_eq_true_eq, hm]
  constructor
  · exact fun h => h.2
  · intro h
    refine ⟨?_, h⟩
    apply Nat.lt_of_not_le
    intro hle
    rw [hg n hle] at h
    cases h

theorem join_grow (S T : Nat → Bool) (hf : Fit S) (hg : Fit T) : (!subI T S) = decide (((elI S).length : Int) < ((elI (both or S T)).length : Int)) := by
  have hs := elI_is S hf
  have hfb := fit_both or S T hf hg rfl
  have hb := elI_is (both or S T) hfb
  cases hq : subI T S
  · have hfl : elI S = (elI (both or S T)).filter fun z => hasI S z := by
      refine IsL.uniq hs ⟨hb.rise.filter _, fun x => ?_⟩
      rw [List.mem_filter, hb.mem x, hasI_both or rfl]
      cases hasI S x <;> simp
    have hex : ∃ x, x ∈ elI (both or S T) ∧ ¬ hasI S x = true := by
      apply Classical.byContradiction
      intro hno
      have hall : ∀ n, T n = true → S n = true := by
        intro n hn
        apply Classical.byContradiction
        intro hsn
        refine hno ⟨(n : Int), (hb.mem _).2 ?_, by rw [hasI_nat]; exact hsn⟩
        rw [hasI_nat]
        simp [both, hn]
      rw [(subI_iff T S hg).2 hall] at hq
      cases hq
    have hlt : ((elI (both or S T)).filter fun z => hasI S z).length < (elI (both or S T)).length := by
      obtain ⟨x, hx, hnx⟩ := hex
      exact List.length_filter_lt_length_iff_exists.2 ⟨x, hx, hnx⟩
    rw [← hfl] at hlt
    symm
    simp
    omega
  · rw [joined_in S T hg hq]
    symm
    simp

theorem take_fold2 (zs : List Int) (k : Nat) (h : k < zs.length) (s : Nat → Bool) : (zs.take (k + 1)).foldl insI s = insI ((zs.take k).foldl insI s) (zs.getD k 0) := take_fold zs k h s

theorem elI_may (S : Nat → Bool) (hf : Fit S) (j : Nat) (h : j < (elI S).length) : 0 ≤ (elI S).getD j 0 ∧ (elI S).getD j 0 < 5000 := by
  have hm := ((elI_is S hf).mem _).1 (getD_mem' (elI S) j h)
  unfold hasI at hm
  simp at hm
  refine ⟨hm.1, ?_⟩
  apply Classical.byContradiction
  intro hc
  have := hf ((elI S).getD j 0).toNat (by omega)
  rw [List.getD_eq_getElem?_getD] at this
  rw [this] at hm
  simp at hm

/-- All that is known in the middle of a round. -/
structure Mid (w wr : World) (b B2 P : Nat) (S : Nat → Bool) (mv : Value) (kk nn : Int) (v : Value) : Prop where
  fit : Fit S
  set : SetAt wr b S
  lst : Lst wr B2 mv (elI S)
  keeps : Keeps [] w wr
  var : Var wr P kk nn v
  lo : w.heap.size ≤ b
  bB : b < B2
  BP : B2 ≤ P
  top : P < wr.heap.size

theorem Mid.quiet {w wr w' : World} {b B2 P : Nat} {S : Nat → Bool} {mv v : Value} {kk nn : Int} (h : Mid w wr b B2 P S mv kk nn v) (k : Keeps [] wr w') : Mid w w' b B2 P S mv kk nn v :=
  ⟨h.fit, h.set.kept k (by simp), h.lst.kept k (by simp), h.keeps.quiet k, h.var.kept k (by simp), h.lo, h.bB, h.BP, Nat.lt_of_lt_of_le h.top k.size⟩
theorem Mid.mut {w wr w' : World} {b B2 P : Nat} {S : Nat → Bool} {mv v : Value} {kk nn : Int} (h : Mid w wr b B2 P S mv kk nn v) (k : Keeps [b] wr w') :
    Keeps [] w w' ∧ Lst w' B2 mv (elI S) ∧ Var w' P kk nn v ∧ P < w'.heap.size := by
  have h1 := h.lo
  have h2 := h.bB
  have h3 := h.BP
  exact ⟨h.keeps.trans k (fun x hx hl => by simp at hx; omega), h.lst.kept k (fun x hx => by simp at hx; omega), h.var.kept k (by simp; omega), Nat.lt_of_lt_of_le h.top k.size⟩

set_option maxRecDepth 100000 in
set_option maxHeartbeats 16000000 in
theorem alls_core (bo off len cap : Nat) (K N : Nat → Int) (A : Nat → Option Addr) (Z : Nat → List Int) (C : Nat → Nat) (w : World) (hT : TabAt w) (ho : Ops w bo off len K N A Z C) (hm : len ≤ maxLen) :
    Calls Tryd.prog 3 #[.slice (some ⟨bo, off, none⟩) len cap] w fun e w' => e = .returned (.bool true) ∧ Keeps [] w w' := by
  have HB := hid (begun_any w hT)
  have HT := hid hT
  have HO := hid ho
  have hzero := zero_set
  clear hT ho
  unfold maxLen at hm
  go_enter Tryd.func3, Tryd.ntmps3
  go_wp2_with fail
  refine HB.out.mono ?_
  rintro e w1 ⟨rfl, hk1⟩
  clear HB
  have hnew := hid (setAt_new w1 none_)
  have hkn : Keeps [] w (w1.alloc (Obj.cells (row none_) 28)) := hk1.quiet (Keeps.alloc _ _ _)
  have hle : w.heap.size ≤ w1.heap.size := hk1.size
  clear hk1
  go_wp2_with fail
  generalize w1.alloc (Obj.cells (row none_) 28) = w2 at hnew hkn ⊢
  generalize row none_ = R
  generalize w1.heap.size = b at hnew hle ⊢
  have hblt := hnew.out.lt
  obtain ⟨B2, hB2⟩ : ∃ B2, w2.heap.size = B2 := ⟨_, rfl⟩
  rw [hB2] at hblt
  clear hzero
  go_loopw [5, 6] (fun mv iv wr => ∃ (i : Nat) (S : Nat → Bool), i ≤ len ∧ i ≤ 50 ∧ iv = .int .i64 i ∧ Box (Fit S) ∧ Box (SetAt wr b S) ∧ Box (Lst wr B2 mv (elI S)) ∧ Box (Keeps [] w wr) ∧ B2 ≤ wr.heap.size) (fun _ iv _ => len - (intOf iv).toNat)
  case atStart => exact ⟨0, none_, by omega, by omega, rfl, hid fit_none, hnew, hid (Or.inl ⟨elI_none, rfl⟩), hid hkn, by omega⟩
  case round =>
    clear hnew hkn hB2
    obtain ⟨i, S, hi, hi50, rfl, hF, hS, hL, hK, hsz⟩ := hrel
    by_cases hgo : i < len ∧ i < 50
    · obtain ⟨hlt, hlt50⟩ := hgo
      have hd50 : decide ((i : Int) < 50) = true := decide_eq_true (by omega)
      have g0 := HO.out.kind i hlt
      have g1 := HO.out.num i hlt
      have g2 := HO.out.list i hlt
      have hbow : bo < w.heap.size := block_lt_of_cell g0
      have q0 : wr.cell? ⟨bo, off + i * 3, none⟩ = some (.int .i64 (K i)) := (hK.out.cell (p := ⟨bo, off + i * 3, none⟩) hbow (by simp)).trans g0
      have q1 : wr.cell? ⟨bo, off + i * 3 + 1, none⟩ = some (.int .i64 (N i)) := (hK.out.cell (p := ⟨bo, off + i * 3 + 1, none⟩) hbow (by simp)).trans g1
      have q2 : wr.cell? ⟨bo, off + i * 3 + 2, none⟩ = some (.slice (A i) (Z i).length (C i)) := (hK.out.cell (p := ⟨bo, off + i * 3 + 2, none⟩) hbow (by simp)).trans g2
      have hZ := hid (HO.out.ints i hlt)
      clear g0 g1 g2 hbow
      generalize K i = kk at q0
      generalize N i = nn at q1
      generalize A i = aa at q2 hZ
      generalize Z i = zz at q2 hZ
      generalize hzl : zz.length = zl at q2
      have hZl := hid hzl
      clear hzl
      generalize C i = cc at q2 hZ
      have hmid : Box (Mid w (wr.alloc (Obj.cells #[.int .i64 kk, .int .i64 nn, .slice aa zl cc] 31)) b B2 wr.heap.size S u5 kk nn (.slice aa zl cc)) := hid
        ⟨hF.out, hS.out.kept (Keeps.alloc [] _ _) (by simp), hL.out.kept (Keeps.alloc [] _ _) (by simp), hK.out.quiet (Keeps.alloc [] _ _), var_new _ _ _ _, hle, hblt, hsz, by simp⟩
      clear hS hL hK hF
      by_cases k0 : kk = 0
      · subst k0
        by_cases hz : 0 ≤ nn ∧ nn < 5000
        · cases hQ : hasI S nn
          · go_wp2_with fail
            generalize wr.alloc (Obj.cells #[.int .i64 0, .int .i64 nn, .slice aa zl cc] 31) = wv at hmid ⊢
            generalize wr.heap.size = P at hmid ⊢
            obtain ⟨am, cm, hmv, him⟩ := hmid.out.lst.open3
            subst hmv
            have hI := hid him
            generalize hnl : (elI S).length = nl at hmid ⊢
            have HNl := hid hnl
            clear hnl him
            have HM := hid (lmay_x nn wv)
            have HI := hid (rin_any am cm (elI S) nn wv hI.out.1 (Nat.le_trans (elI_le _) (by omega)))
            rw [in_el S hmid.out.fit nn, HNl.out] at HI
            have HA := hid (add_any b S nn wv hmid.out.set hmid.out.fit)
            have hc1 := hmid.out.var.n
            rw [hQ] at HI HA
            rw [decide_eq_true hz] at HM HA
            have hel := hid fun l' hp => put_el S hmid.out.fit l' nn hz hp
            have hfi := hid (hmid.out.fit.ins nn)
            refine HM.out.mono ?_
            rintro e ws ⟨rfl, hws⟩
            obtain rfl := hws.symm
            clear hws
            go_wp2_with fail
            refine HI.out.mono ?_
            rintro e ws ⟨rfl, hws⟩
            obtain rfl := hws.symm
            clear hws
            go_wp2_with fail
            refine HA.out.mono ?_
            rintro e wa ⟨rfl, hsA, hkA⟩
            obtain ⟨hkp, hlp, hvp, htp⟩ := hmid.out.mut hkA
            have hBle : B2 ≤ wa.heap.size := by have h1 := hmid.out.BP; omega
            have HP := hid (put_any B2 (.slice am nl cm) (elI S) nn wa hlp hBle (Nat.le_trans (elI_le _) (by omega)))
            have hc2 := hvp.n
            have hmx := hid (show Keeps [] w wa ∧ SetAt wa b (insI S nn) ∧ Var wa P 0 nn (.slice aa zl cc) ∧ P < wa.heap.size from ⟨hkp, hsA, hvp, htp⟩)
            have hlo := hid (show w.heap.size ≤ b ∧ b < B2 ∧ B2 ≤ P from ⟨hmid.out.lo, hmid.out.bB, hmid.out.BP⟩)
            clear hsA hkA hkp hlp hvp htp hmid hI HA HM HI hc1 hz hQ
            go_wp2_with fail
            refine HP.out.mono ?_
            rintro e wb ⟨v', l', rfl, hp, hl2, hk2⟩
            rw [hel.out l' hp] at hl2
            have hm1 : Box (Mid w wb b B2 P (insI S nn) v' 0 nn (.slice aa zl cc)) := hid ⟨hfi.out, hmx.out.2.1.kept hk2 (by simp), hl2, hmx.out.1.quiet hk2, hmx.out.2.2.1.kept hk2 (by simp), hlo.out.1, hlo.out.2.1, hlo.out.2.2, Nat.lt_of_lt_of_le hmx.out.2.2.2 hk2.size⟩
            obtain ⟨a2, c2, hv2, hi2⟩ := hl2.open3
            clear hp hl2 hk2 HP hel hfi hmx hlo hc2 hBle HNl
            subst hv2
            have hI1 := hid hi2
            obtain ⟨n2, hn2⟩ : ∃ n, (elI (insI S nn)).length = n := ⟨_, rfl⟩
            rw [hn2] at hm1 ⊢
            have HN2 := hid hn2
            clear hi2 hn2

            have HLn := hid (len_any b (insI S nn) wb hm1.out.set hm1.out.fit)
            rw [← elI_len, HN2.out] at HLn
            have HAl := hid (all_any b (insI S nn) wb hm1.out.set hm1.out.fit (HT.out.kept hm1.out.keeps (by simp)))
            have hnn : ((n2 : Int) != (n2 : Int)) = false := by simp
            go_wp2_with fail
            refine HLn.out.mono ?_
            rintro e wt1 ⟨rfl, hwt1⟩
            obtain rfl := hwt1.symm
            clear hwt1 HLn
            go_wp2_with fail
            refine HAl.out.mono ?_
            rintro e wt2 ⟨vt, rfl, hlt2, hkt2⟩
            obtain ⟨at2, ct2, rfl, hit2⟩ := owns_open3 hlt2
            rw [HN2.out]
            have hM2 := hid (hm1.out.quiet hkt2)
            have hIm2 := hid (hI1.out.kept hkt2 (fun _ _ _ => by simp))
            have HEq := hid (eq_any at2 a2 ct2 c2 (elI (insI S nn)) (elI (insI S nn)) wt2 hit2.1 hIm2.out.1 (Nat.le_trans (elI_le _) (by omega)))
            rw [decide_eq_true rfl, HN2.out] at HEq
            clear hlt2 hkt2 hit2 hI1 hIm2 HAl hm1
            go_wp2_with fail
            refine HEq.out.mono ?_
            rintro e wt3 ⟨rfl, mt3, rfl⟩
            have hM3 := hid (hM2.out.quiet (Keeps.drewN [] _ mt3))
            clear HEq hM2
            generalize wt2.drewN mt3 = wt3 at hM3 ⊢
            go_wp2
            go_roundw
            case rel =>
              have hB : B2 ≤ wt3.heap.size := by have h1 := hM3.out.BP; have h2 := hM3.out.top; omega
              exact ⟨i + 1, (insI S nn), by omega, by omega, by go_num, hid hM3.out.fit, hid hM3.out.set, hid hM3.out.lst, hid hM3.out.keeps, hB⟩
            case measure => simp [intOf]; omega
          · go_wp2_with fail
            generalize wr.alloc (Obj.cells #[.int .i64 0, .int .i64 nn, .slice aa zl cc] 31) = wv at hmid ⊢
            generalize wr.heap.size = P at hmid ⊢
            obtain ⟨am, cm, hmv, him⟩ := hmid.out.lst.open3
            subst hmv
            have hI := hid him
            generalize hnl : (elI S).length = nl at hmid ⊢
            have HNl := hid hnl
            clear hnl him
            have HM := hid (lmay_x nn wv)
            have HI := hid (rin_any am cm (elI S) nn wv hI.out.1 (Nat.le_trans (elI_le _) (by omega)))
            rw [in_el S hmid.out.fit nn, HNl.out] at HI
            have HA := hid (add_any b S nn wv hmid.out.set hmid.out.fit)
            have hc1 := hmid.out.var.n
            rw [hQ] at HI HA
            rw [decide_eq_true hz] at HM HA
            have hsame := hid (insI_has S nn hQ)
            clear hQ hz
            refine HM.out.mono ?_
            rintro e ws ⟨rfl, hws⟩
            obtain rfl := hws.symm
            clear hws
            go_wp2_with fail
            refine HI.out.mono ?_
            rintro e ws ⟨rfl, hws⟩
            obtain rfl := hws.symm
            clear hws
            clear HM HI

            go_wp2_with fail
            refine HA.out.mono ?_
            rintro e wa ⟨rfl, hsA, hkA⟩
            obtain ⟨hkp, hlp, hvp, htp⟩ := hmid.out.mut hkA
            rw [hsame.out] at hsA
            have hm1 : Box (Mid w wa b B2 P S (.slice am nl cm) 0 nn (.slice aa zl cc)) := hid ⟨hmid.out.fit, hsA, hlp, hkp, hvp, hmid.out.lo, hmid.out.bB, hmid.out.BP, htp⟩
            have hbm := hmid.out.bB
            have hI1 := hid (IntsIn.of_lst hlp)
            clear hsA hkA hkp hlp hvp htp hmid hI HA hc1 hbm

            have HLn := hid (len_any b S wa hm1.out.set hm1.out.fit)
            rw [← elI_len, HNl.out] at HLn
            have HAl := hid (all_any b S wa hm1.out.set hm1.out.fit (HT.out.kept hm1.out.keeps (by simp)))
            have hnn : ((nl : Int) != (nl : Int)) = false := by simp
            go_wp2_with fail
            refine HLn.out.mono ?_
            rintro e wt1 ⟨rfl, hwt1⟩
            obtain rfl := hwt1.symm
            clear hwt1 HLn
            go_wp2_with fail
            refine HAl.out.mono ?_
            rintro e wt2 ⟨vt, rfl, hlt2, hkt2⟩
            obtain ⟨at2, ct2, rfl, hit2⟩ := owns_open3 hlt2
            rw [HNl.out]
            have hM2 := hid (hm1.out.quiet hkt2)
            have hIm2 := hid (hI1.out.kept hkt2 (fun _ _ _ => by simp))
            have HEq := hid (eq_any at2 am ct2 cm (elI S) (elI S) wt2 hit2.1 hIm2.out.1 (Nat.le_trans (elI_le _) (by omega)))
            rw [decide_eq_true rfl, HNl.out] at HEq
            clear hlt2 hkt2 hit2 hI1 hIm2 HAl hm1
            go_wp2_with fail
            refine HEq.out.mono ?_
            rintro e wt3 ⟨rfl, mt3, rfl⟩
            have hM3 := hid (hM2.out.quiet (Keeps.drewN [] _ mt3))
            clear HEq hM2
            generalize wt2.drewN mt3 = wt3 at hM3 ⊢
            go_wp2
            go_roundw
            case rel =>
              have hB : B2 ≤ wt3.heap.size := by have h1 := hM3.out.BP; have h2 := hM3.out.top; omega
              exact ⟨i + 1, S, by omega, by omega, by go_num, hid hM3.out.fit, hid hM3.out.set, hid hM3.out.lst, hid hM3.out.keeps, hB⟩
            case measure => simp [intOf]; omega
        · go_wp2_with fail
          generalize wr.alloc (Obj.cells #[.int .i64 0, .int .i64 nn, .slice aa zl cc] 31) = wv at hmid ⊢
          generalize wr.heap.size = P at hmid ⊢
          obtain ⟨am, cm, hmv, him⟩ := hmid.out.lst.open3
          subst hmv
          have hI := hid him
          generalize hnl : (elI S).length = nl at hmid ⊢
          have HNl := hid hnl
          clear hnl him
          have HM := hid (lmay_x nn wv)
          have HI := hid (rin_any am cm (elI S) nn wv hI.out.1 (Nat.le_trans (elI_le _) (by omega)))
          rw [in_el S hmid.out.fit nn, HNl.out] at HI
          have HA := hid (add_any b S nn wv hmid.out.set hmid.out.fit)
          have hc1 := hmid.out.var.n
          rw [decide_eq_false hz] at HM HA
          have hsame := hid (insI_out S nn hz)
          rw [Bool.false_and] at HA
          clear hz HI
          refine HM.out.mono ?_
          rintro e ws ⟨rfl, hws⟩
          obtain rfl := hws.symm
          clear hws
          clear HM

          go_wp2_with fail
          refine HA.out.mono ?_
          rintro e wa ⟨rfl, hsA, hkA⟩
          obtain ⟨hkp, hlp, hvp, htp⟩ := hmid.out.mut hkA
          rw [hsame.out] at hsA
          have hm1 : Box (Mid w wa b B2 P S (.slice am nl cm) 0 nn (.slice aa zl cc)) := hid ⟨hmid.out.fit, hsA, hlp, hkp, hvp, hmid.out.lo, hmid.out.bB, hmid.out.BP, htp⟩
          have hbm := hmid.out.bB
          have hI1 := hid (IntsIn.of_lst hlp)
          clear hsA hkA hkp hlp hvp htp hmid hI HA hc1 hbm

          have HLn := hid (len_any b S wa hm1.out.set hm1.out.fit)
          rw [← elI_len, HNl.out] at HLn
          have HAl := hid (all_any b S wa hm1.out.set hm1.out.fit (HT.out.kept hm1.out.keeps (by simp)))
          have hnn : ((nl : Int) != (nl : Int)) = false := by simp
          go_wp2_with fail
          refine HLn.out.mono ?_
          rintro e wt1 ⟨rfl, hwt1⟩
          obtain rfl := hwt1.symm
          clear hwt1 HLn
          go_wp2_with fail
          refine HAl.out.mono ?_
          rintro e wt2 ⟨vt, rfl, hlt2, hkt2⟩
          obtain ⟨at2, ct2, rfl, hit2⟩ := owns_open3 hlt2
          rw [HNl.out]
          have hM2 := hid (hm1.out.quiet hkt2)
          have hIm2 := hid (hI1.out.kept hkt2 (fun _ _ _ => by simp))
          have HEq := hid (eq_any at2 am ct2 cm (elI S) (elI S) wt2 hit2.1 hIm2.out.1 (Nat.le_trans (elI_le _) (by omega)))
          rw [decide_eq_true rfl, HNl.out] at HEq
          clear hlt2 hkt2 hit2 hI1 hIm2 HAl hm1
          go_wp2_with fail
          refine HEq.out.mono ?_
          rintro e wt3 ⟨rfl, mt3, rfl⟩
          have hM3 := hid (hM2.out.quiet (Keeps.drewN [] _ mt3))
          clear HEq hM2
          generalize wt2.drewN mt3 = wt3 at hM3 ⊢
          go_wp2
          go_roundw
          case rel =>
            have hB : B2 ≤ wt3.heap.size := by have h1 := hM3.out.BP; have h2 := hM3.out.top; omega
            exact ⟨i + 1, S, by omega, by omega, by go_num, hid hM3.out.fit, hid hM3.out.set, hid hM3.out.lst, hid hM3.out.keeps, hB⟩
          case measure => simp [intOf]; omega
      · by_cases k1 : kk = 1
        · subst k1
          go_wp2
          generalize wr.alloc (Obj.cells #[.int .i64 1, .int .i64 nn, .slice aa zl cc] 31) = wv at hmid ⊢
          generalize wr.heap.size = P at hmid ⊢
          obtain ⟨am, cm, hmv, him⟩ := hmid.out.lst.open3
          subst hmv
          have hI := hid him
          generalize hnl : (elI S).length = nl at hmid ⊢
          have HNl := hid hnl
          clear hnl him
          clear q0 q1 q2
          obtain ⟨Q, hQ⟩ : ∃ Q, hasI S nn = Q := ⟨_, rfl⟩
          have HR : Box (∀ w9 : World, Keeps [] wv w9 → Calls Tryd.prog 14 #[.pointer (some ⟨b, 0, none⟩), .int .i64 nn] w9 fun e w' => e = .returned (.bool Q) ∧ Box (Aft w w' b B2 P S (delI S nn) (.slice am nl cm) 1 nn (.slice aa zl cc)) ∧ w'.cell? ⟨P, 1, none⟩ = some (.int .i64 nn)) := hid fun w9 h9 => by
            have hm9 := hmid.out.quiet h9
            refine (rem_any b S nn w9 hm9.set hm9.fit).mono ?_
            rintro e w' ⟨he, hs, hk⟩
            obtain ⟨x1, x2, x3, x4⟩ := hm9.mut hk
            exact ⟨by rw [he, hQ], hid ⟨x1, hs, x2, x3, x4⟩, x3.n⟩
          have HI := hid fun (w9 : World) (h9 : IntsAt w9 am (elI S)) => rin_any am cm (elI S) nn w9 h9 (Nat.le_trans (elI_le _) (by omega))
          rw [in_el S hmid.out.fit nn, hQ, HNl.out] at HI
          have hqq : (Q != Q) = false := by simp
          have hc1 := hmid.out.var.n
          have hkd : Keeps [] wv wv.drew := Keeps.drew _ _
          clear hQ
          go_region_with (first
            | (go_at_call 14; refine (HR.out _ hkd).mono ?_; rintro e wa ⟨rfl, haf, hca⟩)
            | (go_at_call 11; refine (HI.out _ (by first | exact hI.out.1.kept hkd (fun _ _ _ => by simp) | exact (IntsIn.of_lst haf.out.lst).1)).mono ?_; rintro e wi ⟨rfl, hwi⟩; obtain rfl := hwi.symm; clear hwi))
          all_goals
            have hlo := hid (show w.heap.size ≤ b ∧ b < B2 ∧ B2 ≤ P from ⟨hmid.out.lo, hmid.out.bB, hmid.out.BP⟩)
            have hfd := hid (hmid.out.fit.del nn)
            have hwo := hid (wo_one S hmid.out.fit nn)
            have hi6 := hid (ints_new wa [nn])
            have hk6 : Keeps [] wa (wa.alloc (.cells (([nn] : List Int).map fun z => Value.int .i64 z).toArray 3)) := Keeps.alloc _ _ _
            have haf2 := hid (haf.out.quiet hk6)
            have HW := hid (wout_any am cm (elI S) (some ⟨wa.heap.size, 0, none⟩) 1 [nn] _ (IntsIn.of_lst haf2.out.lst).1 hi6.out (Nat.le_trans (elI_le _) (by omega)) (by simp))
            rw [hwo.out, HNl.out] at HW
            have hBle : Box (B2 ≤ (wa.alloc (.cells (([nn] : List Int).map fun z => Value.int .i64 z).toArray 3)).heap.size) := hid (by have h1 := haf2.out.top; have h2 := hlo.out.2.2; omega)
            clear hmid hI HR HI hc1 hkd haf hwo hi6 hk6
            go_wp2_with fail
            refine HW.out.mono ?_
            rintro e wb ⟨v', rfl, hl2, hk2⟩
            have hl3 := hl2.base hBle.out
            have hm1 : Box (Mid w wb b B2 P (delI S nn) v' 1 nn (.slice aa zl cc)) := hid ⟨hfd.out, haf2.out.set.kept hk2 (by simp), hl3, haf2.out.keeps.quiet hk2, haf2.out.var.kept hk2 (by simp), hlo.out.1, hlo.out.2.1, hlo.out.2.2, Nat.lt_of_lt_of_le haf2.out.top hk2.size⟩
            obtain ⟨a2, c2, hv2, hi2⟩ := hl3.open3
            clear hl2 hl3 hk2 HW hfd hlo haf2 hBle HNl hca
            subst hv2
            have hI1 := hid hi2
            obtain ⟨n2, hn2⟩ : ∃ n, (elI (delI S nn)).length = n := ⟨_, rfl⟩
            rw [hn2] at hm1 ⊢
            have HN2 := hid hn2
            clear hi2 hn2
            have HLn := hid (len_any b (delI S nn) wb hm1.out.set hm1.out.fit)
            rw [← elI_len, HN2.out] at HLn
            have HAl := hid (all_any b (delI S nn) wb hm1.out.set hm1.out.fit (HT.out.kept hm1.out.keeps (by simp)))
            have hnn : ((n2 : Int) != (n2 : Int)) = false := by simp
            go_wp2_with fail
            refine HLn.out.mono ?_
            rintro e wt1 ⟨rfl, hwt1⟩
            obtain rfl := hwt1.symm
            clear hwt1 HLn
            go_wp2_with fail
            refine HAl.out.mono ?_
            rintro e wt2 ⟨vt, rfl, hlt2, hkt2⟩
            obtain ⟨at2, ct2, rfl, hit2⟩ := owns_open3 hlt2
            rw [HN2.out]
            have hM2 := hid (hm1.out.quiet hkt2)
            have hIm2 := hid (hI1.out.kept hkt2 (fun _ _ _ => by simp))
            have HEq := hid (eq_any at2 a2 ct2 c2 (elI (delI S nn)) (elI (delI S nn)) wt2 hit2.1 hIm2.out.1 (Nat.le_trans (elI_le _) (by omega)))
            rw [decide_eq_true rfl, HN2.out] at HEq
            clear hlt2 hkt2 hit2 hI1 hIm2 HAl hm1
            go_wp2_with fail
            refine HEq.out.mono ?_
            rintro e wt3 ⟨rfl, mt3, rfl⟩
            have hM3 := hid (hM2.out.quiet (Keeps.drewN [] _ mt3))
            clear HEq hM2
            generalize wt2.drewN mt3 = wt3 at hM3 ⊢
            go_wp2
            go_roundw
            case rel =>
              have hB : B2 ≤ wt3.heap.size := by have h1 := hM3.out.BP; have h2 := hM3.out.top; omega
              exact ⟨i + 1, (delI S nn), by omega, by omega, by go_num, hid hM3.out.fit, hid hM3.out.set, hid hM3.out.lst, hid hM3.out.keeps, hB⟩
            case measure => simp [intOf]; omega
        · by_cases k2 : kk = 2
          · subst k2
            go_wp2_with fail
            generalize wr.alloc (Obj.cells #[.int .i64 2, .int .i64 nn, .slice aa zl cc] 31) = wv at hmid ⊢
            generalize wr.heap.size = P at hmid ⊢
            obtain ⟨am, cm, hmv, him⟩ := hmid.out.lst.open3
            subst hmv
            have hI := hid him
            generalize hnl : (elI S).length = nl at hmid ⊢
            have HNl := hid hnl
            clear hnl him
            clear q0 q1 q2
            have hcl := hmid.out.var.l
            have hZw : Box (∀ w9 : World, Keeps [] w w9 → IntsAt w9 aa zz) := hid fun w9 h9 => hZ.out.1.kept h9 (fun _ _ _ => by simp)
            have HOf := hid (lof_any aa cc zz wv (hZw.out wv hmid.out.keeps) hZ.out.2.1)
            rw [hZl.out] at HOf
            have HCu : Box (∀ w9 : World, Keeps [] w w9 → Calls Tryd.prog 19 #[.slice aa zl cc, .int .i64 40] w9 fun e w' => e = .returned (.slice aa (zz.take 40).length cc) ∧ w' = w9) := hid fun w9 h9 => by
              have := cut_any aa cc zz 40 w9 (hZw.out w9 h9) hZ.out.2.2
              rw [hZl.out] at this
              exact this
            have HSo : Box (∀ w9 : World, Keeps [] w w9 → Calls Tryd.prog 18 #[.slice aa (zz.take 40).length cc] w9 fun e w' => e = .returned (.pointer (some ⟨w9.heap.size, 0, none⟩)) ∧ SetAt w' w9.heap.size (ofI (zz.take 40)) ∧ Keeps [] w9 w') := hid fun w9 h9 => of_any aa cc (zz.take 40) w9 ((hZw.out w9 h9).take 40) (by have := List.length_take_le 40 zz; omega)
            have hFT := hid (fit_ofI (zz.take 40))
            generalize ofI (zz.take 40) = T at HOf HSo hFT
            generalize (zz.take 40).length = z4 at HCu HSo
            have hfold := hid (fold_join S T hFT.out)
            have hgrow := hid (join_grow S T hmid.out.fit hFT.out)
            go_wp2_with fail
            refine HOf.out.mono ?_
            rintro e w3 ⟨vl, rfl, hl3, hk3⟩
            obtain ⟨al, cl, hvl, hil⟩ := hl3.open3
            have hm3 := hid (hmid.out.quiet hk3)
            have hI3 := hid (hI.out.kept hk3 (fun _ _ _ => by simp))
            have hIl := hid hil
            clear hmid hI HOf hl3 hk3 hil hZw hZ hZl hcl
            subst hvl
            obtain ⟨nT, hnT⟩ : ∃ n, (elI T).length = n := ⟨_, rfl⟩
            rw [hnT]
            have HNT := hid hnT
            have hnT5 : nT ≤ 5000 := by rw [← hnT]; exact elI_le T
            clear hnT
            have hlo := hid (show w.heap.size ≤ b ∧ b < B2 ∧ B2 ≤ P from ⟨hm3.out.lo, hm3.out.bB, hm3.out.BP⟩)
            have hfS := hid hm3.out.fit
            have haf : Box (Aft w w3 b B2 P S S (.slice am nl cm) 2 nn (.slice aa zl cc)) := hid ⟨hm3.out.keeps, hm3.out.set, hm3.out.lst, hm3.out.var, hm3.out.top⟩
            clear hm3 hI3
            go_wp2_with fail
            go_loopw [5, 11] (fun mv kv wx => ∃ k : Nat, k ≤ nT ∧ kv = .int .i64 k ∧ Box (Fit (((elI T).take k).foldl insI S)) ∧ Box (Aft w wx b B2 P (((elI T).take k).foldl insI S) S mv 2 nn (.slice aa zl cc)) ∧ Box (IntsIn wx al (elI T))) (fun _ kv _ => nT - (intOf kv).toNat)
            case atStart => exact ⟨0, by omega, rfl, hfS, haf, hIl⟩
            case round =>
              clear haf hIl
              obtain ⟨k, hk, rfl, hfk, haf, hIl⟩ := hrel
              by_cases hlt : k < nT
              · obtain ⟨gb, go, hal, hcell⟩ := ints_cell hIl.out.1 (show k < (elI T).length by rw [HNT.out]; exact hlt)
                have hz := hid (elI_may T hFT.out k (by rw [HNT.out]; exact hlt))
                have hst := hid (take_fold2 (elI T) k (by rw [HNT.out]; exact hlt) S)
                have hBle : Box (B2 ≤ wr.heap.size) := hid (by have h1 := haf.out.top; have h2 := hlo.out.2.2; omega)
                generalize ((elI T).take k).foldl insI S = U at hfk haf hst
                generalize (elI T).getD k 0 = z at hcell hz hst
                have HP := hid (put_any B2 u5 (elI U) z wr haf.out.lst hBle.out (Nat.le_trans (elI_le _) (by omega)))
                have hel := hid fun l' hp => put_el U hfk.out l' z hz.out hp
                have hfk2 : Box (Fit (((elI T).take (k + 1)).foldl insI S)) := hid (by rw [hst.out]; exact hfk.out.ins z)
                subst hal
                go_wp2_with fail
                refine HP.out.mono ?_
                rintro e wb ⟨v', l', rfl, hp, hl2, hk2⟩
                have haf2 : Box (Aft w wb b B2 P (((elI T).take (k + 1)).foldl insI S) S v' 2 nn (.slice aa zl cc)) := hid ⟨haf.out.keeps.quiet hk2, haf.out.set.kept hk2 (by simp), by rw [hst.out, ← hel.out l' hp]; exact hl2, haf.out.var.kept hk2 (by simp), Nat.lt_of_lt_of_le haf.out.top hk2.size⟩
                have hIl2 := hid (hIl.out.kept hk2 (fun _ _ _ => by simp))
                clear hp hl2 hk2 HP hel haf hIl hst hz hfk hcell
                go_wp2
                go_roundw
                case rel => exact ⟨k + 1, by omega, by go_num, hfk2, haf2, hIl2⟩
                case measure => simp [intOf]; omega
              · obtain rfl : k = nT := by omega
                have hend : ((elI T).take k).foldl insI S = both or S T := by rw [List.take_of_length_le (by rw [HNT.out]; omega), hfold.out]
                rw [hend] at haf hfk
                clear hend hIl hlt hk
                obtain ⟨a2, c2, hv2, hi2⟩ := haf.out.lst.open3
                clear hi2
                subst hv2
                obtain ⟨n2, hn2⟩ : ∃ n, (elI (both or S T)).length = n := ⟨_, rfl⟩
                rw [hn2] at haf ⊢
                have HN2 := hid hn2
                have hg2 := hid hgrow.out
                rw [hn2, HNl.out] at hg2
                clear hn2
                obtain ⟨Q, hQ⟩ : ∃ Q, (!subI T S) = Q := ⟨_, rfl⟩
                have hdq : decide ((nl : Int) < (n2 : Int)) = Q := hg2.out.symm.trans hQ
                have hdn : decide (nl < n2) = Q := by rw [← hdq]; exact decide_eq_decide.2 (by omega)
                have hcl := haf.out.var.l
                cases Q
                all_goals
                  go_wp2_with fail
                  refine (HCu.out _ haf.out.keeps).mono ?_
                  rintro e wc ⟨rfl, hwc⟩
                  obtain rfl := hwc.symm
                  clear hwc HCu
                  go_wp2_with fail
                  refine (HSo.out _ haf.out.keeps).mono ?_
                  rintro e wd ⟨rfl, hsd, hkd⟩
                  have haf2 := hid (haf.out.quiet hkd)
                  have HJ := hid (join_any b (some wr.heap.size) S T wd haf2.out.set hsd hfS.out hFT.out)
                  rw [hQ] at HJ
                  generalize wr.heap.size = pj at HJ ⊢
                  clear haf hcl HSo hsd hkd hg2 hQ hgrow hfold
                  go_wp2_with fail
                  refine HJ.out.mono ?_
                  rintro e wj ⟨rfl, hsj, hkj⟩
                  have hm1 : Box (Mid w wj b B2 P (both or S T) (.slice a2 n2 c2) 2 nn (.slice aa zl cc)) := hid ⟨hfk.out, hsj, haf2.out.lst.kept hkj (fun x hx => by have := hlo.out; simp at hx; omega), haf2.out.keeps.trans hkj (fun x hx hl => by have := hlo.out; simp at hx; omega), haf2.out.var.kept hkj (by have := hlo.out; simp; omega), hlo.out.1, hlo.out.2.1, hlo.out.2.2, Nat.lt_of_lt_of_le haf2.out.top hkj.size⟩
                  have hI1 := hid (IntsIn.of_lst hm1.out.lst)
                  clear HJ hsj hkj haf2 hlo hfk hfS hFT HNT
                  have HLn := hid (len_any b (both or S T) wj hm1.out.set hm1.out.fit)
                  rw [← elI_len, HN2.out] at HLn
                  have HAl := hid (all_any b (both or S T) wj hm1.out.set hm1.out.fit (HT.out.kept hm1.out.keeps (by simp)))
                  have hnn : ((n2 : Int) != (n2 : Int)) = false := by simp
                  go_wp2_with fail
                  refine HLn.out.mono ?_
                  rintro e wt1 ⟨rfl, hwt1⟩
                  obtain rfl := hwt1.symm
                  clear hwt1 HLn
                  go_wp2_with fail
                  refine HAl.out.mono ?_
                  rintro e wt2 ⟨vt, rfl, hlt2, hkt2⟩
                  obtain ⟨at2, ct2, rfl, hit2⟩ := owns_open3 hlt2
                  rw [HN2.out]
                  have hM2 := hid (hm1.out.quiet hkt2)
                  have hIm2 := hid (hI1.out.kept hkt2 (fun _ _ _ => by simp))
                  have HEq := hid (eq_any at2 a2 ct2 c2 (elI (both or S T)) (elI (both or S T)) wt2 hit2.1 hIm2.out.1 (Nat.le_trans (elI_le _) (by omega)))
                  rw [decide_eq_true rfl, HN2.out] at HEq
                  clear hlt2 hkt2 hit2 hI1 hIm2 HAl hm1
                  go_wp2_with fail
                  refine HEq.out.mono ?_
                  rintro e wt3 ⟨rfl, mt3, rfl⟩
                  have hM3 := hid (hM2.out.quiet (Keeps.drewN [] _ mt3))
                  clear HEq hM2
                  generalize wt2.drewN mt3 = wt3 at hM3 ⊢
                  go_wp2
                  go_roundw
                  case rel =>
                    have hB : B2 ≤ wt3.heap.size := by have h1 := hM3.out.BP; have h2 := hM3.out.top; omega
                    exact ⟨i + 1, (both or S T), by omega, by omega, by go_num, hid hM3.out.fit, hid hM3.out.set, hid hM3.out.lst, hid hM3.out.keeps, hB⟩
                  case measure => simp [intOf]; omega
          · by_cases k3 : kk = 3
            · subst k3
              go_wp2
              generalize wr.alloc (Obj.cells #[.int .i64 3, .int .i64 nn, .slice aa zl cc] 31) = wv at hmid ⊢
              generalize wr.heap.size = P at hmid ⊢
              obtain ⟨am, cm, hmv, him⟩ := hmid.out.lst.open3
              subst hmv
              have hI := hid him
              generalize hnl : (elI S).length = nl at hmid ⊢
              have HNl := hid hnl
              clear hnl him
              obtain ⟨Q, hQ⟩ : ∃ Q, hasI S nn = Q := ⟨_, rfl⟩
              have HH := hid fun (w9 : World) (h9 : Keeps [] wv w9) => has_any b S nn w9 (hmid.out.quiet h9).set hmid.out.fit
              have HI := hid fun (w9 : World) (h9 : Keeps [] wv w9) => rin_any am cm (elI S) nn w9 (hI.out.1.kept h9 (fun _ _ _ => by simp)) (Nat.le_trans (elI_le _) (by omega))
              rw [in_el S hmid.out.fit nn, hQ, HNl.out] at HI
              rw [hQ] at HH
              have hqq : (Q != Q) = false := by simp
              have hc1 := hmid.out.var.n
              clear hQ
              go_quiet (first | (go_at_call 20; exact Calls.quiet_of (HH.out _ (Keeps.drewN _ _ _))) | (go_at_call 11; exact Calls.quiet_of_same (HI.out _ (Keeps.drewN _ _ _))))
              have hm1 := hid (hmid.out.quiet (Keeps.drewN [] _ nq))
              have hI1 := hid (hI.out.kept (Keeps.drewN [] _ nq) (fun _ _ _ => by simp))
              clear HH HI hc1 hmid hI
              generalize wv.drewN nq = wx at hm1 hI1 ⊢
              have HLn := hid (len_any b S wx hm1.out.set hm1.out.fit)
              rw [← elI_len, HNl.out] at HLn
              have HAl := hid (all_any b S wx hm1.out.set hm1.out.fit (HT.out.kept hm1.out.keeps (by simp)))
              have hnn : ((nl : Int) != (nl : Int)) = false := by simp
              go_wp2_with fail
              refine HLn.out.mono ?_
              rintro e wt1 ⟨rfl, hwt1⟩
              obtain rfl := hwt1.symm
              clear hwt1 HLn
              go_wp2_with fail
              refine HAl.out.mono ?_
              rintro e wt2 ⟨vt, rfl, hlt2, hkt2⟩
              obtain ⟨at2, ct2, rfl, hit2⟩ := owns_open3 hlt2
              rw [HNl.out]
              have hM2 := hid (hm1.out.quiet hkt2)
              have hIm2 := hid (hI1.out.kept hkt2 (fun _ _ _ => by simp))
              have HEq := hid (eq_any at2 am ct2 cm (elI S) (elI S) wt2 hit2.1 hIm2.out.1 (Nat.le_trans (elI_le _) (by omega)))
              rw [decide_eq_true rfl, HNl.out] at HEq
              clear hlt2 hkt2 hit2 hI1 hIm2 HAl hm1
              go_wp2_with fail
              refine HEq.out.mono ?_
              rintro e wt3 ⟨rfl, mt3, rfl⟩
              have hM3 := hid (hM2.out.quiet (Keeps.drewN [] _ mt3))
              clear HEq hM2
              generalize wt2.drewN mt3 = wt3 at hM3 ⊢
              go_wp2
              go_roundw
              case rel =>
                have hB : B2 ≤ wt3.heap.size := by have h1 := hM3.out.BP; have h2 := hM3.out.top; omega
                exact ⟨i + 1, S, by omega, by omega, by go_num, hid hM3.out.fit, hid hM3.out.set, hid hM3.out.lst, hid hM3.out.keeps, hB⟩
              case measure => simp [intOf]; omega
            · have hb0 : (kk == 0) = false := by simpa using k0
              have hb1 : (kk == 1) = false := by simpa using k1
              have hb2 : (kk == 2) = false := by simpa using k2
              have hb3 : (kk == 3) = false := by simpa using k3
              clear k0 k1 k2 k3
              go_wp2_with fail
              generalize wr.alloc (Obj.cells #[.int .i64 kk, .int .i64 nn, .slice aa zl cc] 31) = wv at hmid ⊢
              generalize wr.heap.size = P at hmid ⊢
              obtain ⟨am, cm, hmv, him⟩ := hmid.out.lst.open3
              subst hmv
              have hI := hid him
              generalize hnl : (elI S).length = nl at hmid ⊢
              have HNl := hid hnl
              clear hnl him
              clear q0 q1 q2
              have hnl5 : nl ≤ 5000 := by rw [← HNl.out]; exact elI_le S
              obtain ⟨bI, hbI⟩ : ∃ g : Box (∀ w9 : World, Keeps [] wv w9 → ∀ j, j < nl → ∃ gb go, am = some ⟨gb, go, none⟩ ∧ w9.cell? ⟨gb, go + j, none⟩ = some (.int .i64 ((elI S).getD j 0))), True := ⟨hid fun w9 h9 j hj => ints_cell (hI.out.1.kept h9 (fun _ _ _ => by simp)) (by rw [HNl.out]; exact hj), trivial⟩
              clear hbI
              go_loopw [12, 13] (fun wantv kv wx => ∃ (k m : Nat) (want : Int), k ≤ nl ∧ kv = .int .i64 k ∧ wantv = .int .i64 want ∧ wx = wv.drewN m ∧ Box (WantIs (elI S) nn k want) ∧ -1 ≤ want) (fun _ kv _ => nl - (intOf kv).toNat)
              case atStart => exact ⟨0, 0, -1, by omega, rfl, rfl, rfl, hid (Or.inl ⟨rfl, fun j hj => by omega⟩), by omega⟩
              case round =>
                obtain ⟨k, m, want, hk, rfl, rfl, rfl, hw, hw1⟩ := hrel
                by_cases hgo : k < nl ∧ want < 0
                · obtain ⟨hlt, hneg⟩ := hgo
                  obtain ⟨gb, go, ham, hcell⟩ := bI.out wv (Keeps.refl _ _) k hlt
                  have hz0 := elI_nonneg S k (by rw [HNl.out]; exact hlt)
                  have hnx1 : Box ((elI S).getD k 0 < nn → WantIs (elI S) nn (k + 1) want) := hid fun h => by
                    rcases hw.out with ⟨e, h1⟩ | ⟨h1, _⟩
                    · refine Or.inl ⟨e, fun j hj => ?_⟩
                      by_cases hjk : j < k
                      · exact h1 j hjk
                      · have : j = k := by omega
                        rw [this]; exact h
                    · omega
                  have hnx2 : Box (nn ≤ (elI S).getD k 0 → WantIs (elI S) nn (k + 1) ((elI S).getD k 0)) := hid fun h => by
                    rcases hw.out with ⟨_, h1⟩ | ⟨h1, _⟩
                    · exact Or.inr ⟨hz0, h, k, by omega, by rw [HNl.out]; exact hlt, rfl, h1⟩
                    · omega
                  have hc1 := hmid.out.var.n
                  generalize (elI S).getD k 0 = z at hcell hz0 hnx1 hnx2
                  subst ham
                  have hltI : (k : Int) < (nl : Int) := by omega
                  by_cases hzn : nn ≤ z
                  · have hn := hid (hnx2.out hzn)
                    have hzd : decide (nn ≤ z) = true := decide_eq_true hzn
                    clear hw hnx1 hnx2
                    go_wp2
                    go_quiet (fail)
                    go_wp2
                    go_roundw
                    case rel => exact ⟨k + 1, _, z, by omega, by go_num, rfl, rfl, hn, by omega⟩
                    case measure => simp [intOf]; omega
                  · have hn := hid (hnx1.out (by omega))
                    have hzd : decide (nn ≤ z) = false := decide_eq_false hzn
                    clear hw hnx1 hnx2
                    go_wp2
                    go_quiet (fail)
                    go_wp2
                    go_roundw
                    case rel => exact ⟨k + 1, _, want, by omega, by go_num, rfl, rfl, hn, by omega⟩
                    case measure => simp [intOf]; omega
                · have hfw := hid (first_want S hmid.out.fit nn k want hw.out (by rw [HNl.out]; omega))
                  have hm1 := hid (hmid.out.quiet (Keeps.drewN [] _ m))
                  have hI1 := hid (hI.out.kept (Keeps.drewN [] _ m) (fun _ _ _ => by simp))
                  clear hw bI hmid hI
                  generalize wv.drewN m = wx at hm1 hI1 ⊢
                  have HFi := hid (first_any b S nn wx hm1.out.set hm1.out.fit (HT.out.kept hm1.out.keeps (by simp)))
                  rw [hfw.out] at HFi
                  have hc1 := hm1.out.var.n
                  have hww : (want != want) = false := by simp
                  by_cases hlt : k < nl
                  all_goals
                    go_wp2_with fail
                    refine HFi.out.mono ?_
                    rintro e wf ⟨rfl, mf, rfl⟩
                    have hm2 := hid (hm1.out.quiet (Keeps.drewN [] _ mf))
                    have hI2 := hid (hI1.out.kept (Keeps.drewN [] _ mf) (fun _ _ _ => by simp))
                    clear HFi hc1 hm1 hI1 hfw hlt hgo hw1 hk
                    generalize wx.drewN mf = wy at hm2 hI2 ⊢
                    have HLn := hid (len_any b S wy hm2.out.set hm2.out.fit)
                    rw [← elI_len, HNl.out] at HLn
                    have HAl := hid (all_any b S wy hm2.out.set hm2.out.fit (HT.out.kept hm2.out.keeps (by simp)))
                    have hnn : ((nl : Int) != (nl : Int)) = false := by simp
                    go_wp2_with fail
                    refine HLn.out.mono ?_
                    rintro e wt1 ⟨rfl, hwt1⟩
                    obtain rfl := hwt1.symm
                    clear hwt1 HLn
                    go_wp2_with fail
                    refine HAl.out.mono ?_
                    rintro e wt2 ⟨vt, rfl, hlt2, hkt2⟩
                    obtain ⟨at2, ct2, rfl, hit2⟩ := owns_open3 hlt2
                    rw [HNl.out]
                    have hM2 := hid (hm2.out.quiet hkt2)
                    have hIm2 := hid (hI2.out.kept hkt2 (fun _ _ _ => by simp))
                    have HEq := hid (eq_any at2 am ct2 cm (elI S) (elI S) wt2 hit2.1 hIm2.out.1 (Nat.le_trans (elI_le _) (by omega)))
                    rw [decide_eq_true rfl, HNl.out] at HEq
                    clear hlt2 hkt2 hit2 hI2 hIm2 HAl hm2
                    go_wp2_with fail
                    refine HEq.out.mono ?_
                    rintro e wt3 ⟨rfl, mt3, rfl⟩
                    have hM3 := hid (hM2.out.quiet (Keeps.drewN [] _ mt3))
                    clear HEq hM2
                    generalize wt2.drewN mt3 = wt3 at hM3 ⊢
                    go_wp2
                    go_roundw
                    case rel =>
                      have hB : B2 ≤ wt3.heap.size := by have h1 := hM3.out.BP; have h2 := hM3.out.top; omega
                      exact ⟨i + 1, S, by omega, by omega, by go_num, hid hM3.out.fit, hid hM3.out.set, hid hM3.out.lst, hid hM3.out.keeps, hB⟩
                    case measure => simp [intOf]; omega
    · have h50d : Box True := hid trivial
      by_cases hlt : i < len
      all_goals
        go_wp2
        go_ret
        exact ⟨rfl, hK.out⟩

set_option maxHeartbeats 1000000 in
theorem alls_zero (a : Option Addr) (cap : Nat) (w : World) (hT : TabAt w) :
    Calls Tryd.prog 3 #[.slice a 0 cap] w fun e w' => e = .returned (.bool true) ∧ Keeps [] w w' := by
  have HB := hid (begun_any w hT)
  have hzero := zero_set
  clear hT
  go_enter Tryd.func3, Tryd.ntmps3
  go_wp2_with fail
  refine HB.out.mono ?_
  rintro e w1 ⟨rfl, hk1⟩
  clear HB
  have hkn : Keeps [] w (w1.alloc (Obj.cells (row none_) 28)) := hk1.quiet (Keeps.alloc _ _ _)
  clear hk1
  go_wp2_with fail
  generalize w1.alloc (Obj.cells (row none_) 28) = w2 at hkn ⊢
  generalize row none_ = R
  clear hzero
  go_loop [6] (fun i => i = .int .i64 0) (fun _ => 0)
  case atStart => rfl
  case round =>
    subst hrel
    go_wp2
    go_ret
    exact ⟨rfl, hkn⟩
end Go.Proofs.YtcmbhmlpififiaaDoor
