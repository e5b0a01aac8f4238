/-
  A row with room behind it; contracts: slices.Clone of numbers, dom's nearest.
-/
import Derived.Test.YtlnimcpmkammfaaDoorDSemi
import Derived.Deep.LoopGhost
namespace Go.Proofs.YtlnimcpmkammfaaDoor
open Go.RowKit

/-- Block p holds the values c 0 .. c (n - 1), of type T, with room up to cap. -/
structure RowC (w : World) (base p n cap : Nat) (T : TypeId) (c : Nat → Value) : Prop where
  row : w.ownsRow base T 1 (.slice (some ⟨p, 0, none⟩) n cap) n ((List.range n).map c)
theorem RowC.cell {w : World} {base p n cap : Nat} {T : TypeId} {c : Nat → Value} (h : RowC w base p n cap T c) {k : Nat} (hk : k < n) : w.cell? ⟨p, k, none⟩ = some (c k) := by
  rw [h.row.cellAt k (by omega), List.getElem?_map, List.getElem?_range hk]
  rfl
theorem RowC.frozen {w : World} {base p n cap : Nat} {T : TypeId} {c : Nat → Value} (h : RowC w base p n cap T c) (k : Nat) : w.frozen? ⟨p, k, none⟩ = false := h.row.frozenAt k
theorem RowC.lt {w : World} {base p n cap : Nat} {T : TypeId} {c : Nat → Value} (h : RowC w base p n cap T c) : base ≤ p ∧ p < w.heap.size := h.row.lt p rfl
theorem RowC.kept {w w' : World} {base p n cap : Nat} {T : TypeId} {c : Nat → Value} {L : List Nat} (h : RowC w base p n cap T c) (k : Keeps L w w') (hp : p ∉ L) : RowC w' base p n cap T c :=
  ⟨ownsRow_keeps h.row k (fun b hb => by simp [Value.ownBlock] at hb; subst hb; exact hp)⟩
theorem RowC.put {w : World} {base p n cap : Nat} {T : TypeId} {c : Nat → Value} (h : RowC w base p n cap T c) (k : Nat) (v : Value) : RowC (w.setCell ⟨p, k, none⟩ v) base p n cap T (fun i => if i = k then v else c i) := by
  refine ⟨?_⟩
  have h1 := (h.row.stored k v).1
  have e : ((List.range n).map c).set k v = (List.range n).map (fun i => if i = k then v else c i) := by
    apply List.ext_getElem?
    intro i
    rw [List.getElem?_set, List.getElem?_map, List.getElem?_map, List.length_map, List.length_range]
    by_cases hi : i < n
    · rw [List.getElem?_range hi]
      by_cases e : k = i
      · subst e; simp [hi]
      · have : ¬ i = k := fun h => e h.symm
        simp [e, this]
    · rw [List.getElem?_eq_none (by simp; omega)]
      by_cases e : k = i
      · subst e; simp [hi]
      · simp [e]
  rw [e] at h1
  exact h1
theorem RowC.congr {w : World} {base p n cap : Nat} {T : TypeId} {c d : Nat → Value} (h : RowC w base p n cap T c) (e : ∀ i, i < n → c i = d i) : RowC w base p n cap T d := by
  refine ⟨?_⟩
  have : (List.range n).map c = (List.range n).map d := List.map_congr_left fun i hi => e i (List.mem_range.1 hi)
  rw [← this]
  exact h.row
theorem numC_put {w : World} {base p n cap : Nat} {A : Nat → Nat} (h : RowC w base p n cap 3 (num A)) (x v : Nat) : RowC (w.setCell ⟨p, x, none⟩ (.int .i64 ((v : Nat) : Int))) base p n cap 3 (num (fun i => if i = x then v else A i)) := by
  refine (h.put x (.int .i64 ((v : Nat) : Int))).congr (fun i _ => ?_)
  unfold num
  by_cases e : i = x
  · simp [e]
  · simp [e]

set_option maxHeartbeats 2000000 in
theorem clone_row (bp op c : Nat) (l : List Nat) (w : World) (hl1 : 1 ≤ l.length) (hl : l.length ≤ 1000) (hc : ∀ k, k < l.length → w.cell? ⟨bp, op + k, none⟩ = some (.int .i64 ((l.getD k 0 : Nat) : Int))) :
    Calls Tryd.prog 47 #[.slice (some ⟨bp, op, none⟩) l.length c] w fun e w' => ∃ p cap, e = .returned (.slice (some ⟨p, 0, none⟩) l.length cap) ∧ RowC w' w.heap.size p l.length cap 3 (num fun i => l.getD i 0) ∧ Keeps [] w w' := by
  have q : ∀ (w : World) (a : Option Addr) (n c n' c' : Nat), (binOp .eql 23 (.slice a n c) (.slice none n' c')).run Tryd.prog w = .ok (.bool a.isNone) w := fun w a n c n' c' => Lib.run_eql_slice_nil w _ _ a n c n' c' Tryd.underlying23
  have HC : Box (∀ j u, (ints l)[j]? = some u → (w.alloc (.cells #[] 3)).cell? ((⟨bp, op, none⟩ : Addr).add j) = some u) := hid (fun j u hj => by
    have hj' : j < l.length := by
      have := (List.getElem?_eq_some_iff.1 hj).1
      simpa [ints] using this
    have h1 := hc j hj'
    have e : (⟨bp, op, none⟩ : Addr).add j = ⟨bp, op + j, none⟩ := by unfold Addr.add; by_cases hj0 : j = 0 <;> simp [hj0]
    rw [e]
    refine Lib.cell?_alloc_some _ ?_
    rw [h1, ← hj]
    unfold ints
    rw [List.getElem?_map, List.getElem?_eq_getElem hj', List.getD_eq_getElem?_getD, List.getElem?_eq_getElem hj']
    rfl)
  have HL : Box ((ints l).length = l.length * 1) := hid (by simp [ints])
  have HO : Box (∀ u, u ∈ ints l → u.oneCell' = true) := hid (fun u hu => by
    unfold ints at hu
    obtain ⟨n, _, rfl⟩ := List.mem_map.1 hu
    rfl)
  have HI : Box (ints l = (List.range l.length).map (num fun i => l.getD i 0)) := hid (by
    apply List.ext_getElem?
    intro i
    unfold ints num
    rw [List.getElem?_map, List.getElem?_map]
    by_cases hi : i < l.length
    · rw [List.getElem?_range hi]
      show _ = some (Value.int .i64 ((l.getD i 0 : Nat) : Int))
      rw [List.getD_eq_getElem?_getD, List.getElem?_eq_getElem hi]
      rfl
    · rw [List.getElem?_eq_none (by omega), List.getElem?_eq_none (by simp; omega)]
      rfl)
  obtain ⟨n, hn⟩ : ∃ n, l.length = n := ⟨_, rfl⟩
  rw [hn] at HL HI hl1 hl ⊢
  clear hc hn
  go_enter Tryd.func47, Tryd.ntmps47
  go_wp2_with (at_builtin; go_must (refine wpList_append_lies _ rfl _ _ 23 rfl w.heap.size 3 Tryd.t3 (.int .i64 0) 1 8 under_ints info_int zero_int size_int bytes_int rfl (by decide) _ _ _ rfl (World.ownsRow_made w #[] 0 (Nat.le_refl _) (Nat.zero_le _) rfl) ⟨bp, op, none⟩ n c (ints l) rfl HL.out HC.out HO.out (by omega) (by unfold maxLen; omega) (by omega) (by simp) (w.heap.size + 1) (by simp) ?_; intro g5 cap5 w5 hown5 hgrow5 hat5 hlt5))
  have k5 : Keeps [] w w5 := (Keeps.alloc [] w (Obj.cells #[] 3)).fresh (Keeps.grown [w.heap.size] hgrow5 (fun k hk => by rw [show k = w.heap.size from (Option.some.inj hk).symm]; simp)) (fun x hx => by simp at hx; omega)
  have hrow : w5.ownsRow w.heap.size 3 1 (.slice (some ⟨g5, 0, none⟩) n cap5) n (ints l) := by simpa using hown5
  rw [HI.out] at hrow
  have R5 : Box (RowC w5 w.heap.size g5 n cap5 3 (num fun i => l.getD i 0)) := hid ⟨hrow⟩
  clear hown5 hgrow5 hat5 hlt5 hrow
  go_wp2
  go_ret
  exact ⟨g5, cap5, rfl, R5.out, k5⟩

/-- Those ahead of k have who stands next above them; the others still their parents. -/
structure NK (g : List (List Nat)) (r k : Nat) (U : Nat → Nat) : Prop where
  zero : U 0 = 0
  done : ∀ z, 0 < z → z < k → z < (dsr g r).1.length → Next (dsr g r).1.length (Eg g r) (U z) z
  left : ∀ z, k ≤ z → z < (dsr g r).1.length → U z = prr g r z

set_option maxRecDepth 20000 in
set_option maxHeartbeats 4000000 in
theorem nearest_any (g : List (List Nat)) (hs : Sm g) (r : Nat) (ht : Srd g r) (base b pp ps : Nat) (a : Option Addr) (cap : Nat) (vn vp : Value) (S : Nat → Nat) (base2 : Nat) (w : World) (h : VSt w base b pp g.length a cap vn vp (dsr g r)) (hS : RowAt w base2 ps (dsr g r).1.length 3 (num S)) (hSK : SK g r 0 S) :
    Calls Tryd.prog 39 #[.pointer (some ⟨b, 0, none⟩), .slice (some ⟨ps, 0, none⟩) (dsr g r).1.length (dsr g r).1.length] w fun e w' => ∃ p cap U, e = .returned (.slice (some ⟨p, 0, none⟩) (dsr g r).1.length cap) ∧ RowC w' w.heap.size p (dsr g r).1.length cap 3 (num U) ∧ NK g r (dsr g r).1.length U ∧ Keeps [] w w' := by
  have HT := hid ht
  have hK6 := ht.len6 hs.len
  have hK1 := ht.tr.pos
  obtain ⟨ap, cp, hvp, hnp, hcp, _⟩ := ownsRow_nat h.pa
  have c4 := h.st.cell 4
  subst hvp
  have hpl2 : (dsr g r).2.length = (dsr g r).1.length := ht.len.symm
  obtain ⟨bp, op, rfl, _⟩ := hnp.at (k := 0) (by rw [hpl2]; exact hK1)
  have HCL := hid (clone_row bp op cp (dsr g r).2 w (by omega) (by omega) (fun k hk => by
    obtain ⟨b1, o1, e1, h1⟩ := hnp.at hk
    simp only [Option.some.injEq, Addr.mk.injEq, and_true] at e1
    obtain ⟨rfl, rfl⟩ := e1
    exact h1))
  rw [hpl2] at HCL c4
  have HS := hid hS
  have HSK := hid hSK
  obtain ⟨K, hKe⟩ : ∃ K, (dsr g r).1.length = K := ⟨_, rfl⟩
  have HK := hid hKe
  rw [hKe] at c4 hK6 hK1 HCL HS ⊢
  clear h ht hs hnp hcp hKe hpl2 hS hSK
  go_enter Tryd.func39, Tryd.ntmps39
  go_wp2_with fail
  refine HCL.out.mono ?_
  rintro e w1 ⟨pu, cu, rfl, hr1, k1⟩
  have R1 := hid hr1
  have K1 := hid k1
  have N1 : Box (NK g r 0 (fun i => (dsr g r).2.getD i 0)) := hid ⟨HT.out.tr.p0, fun z h1 h2 => by omega, fun z _ _ => rfl⟩
  have hpu := hr1.lt
  have hps := HS.out.lt
  clear hr1 k1 HCL c4
  have hne : ps ≠ pu := by omega
  go_wp2_with fail
  go_loopw [14] (fun i wr => ∃ (k : Nat) (U : Nat → Nat), i = .int .i64 (k : Int) ∧ k ≤ K ∧ Box (RowC wr w.heap.size pu K cu 3 (num U)) ∧ Box (NK g r k U) ∧ Box (Keeps [] w wr)) (fun i _ => K - (intOf i).toNat)
  case atStart => exact ⟨0, _, rfl, by omega, R1, N1, K1⟩
  case round =>
    clear R1 N1 K1
    obtain ⟨k, U, rfl, hk, HR, HN, HW⟩ := hrel
    by_cases hlt : k < K
    · have hlt' : (k : Int) < (K : Int) := by omega
      have HTR : Box (Tr K (Eg g r) (prr g r)) := hid (by have := HT.out.tr; rw [HK.out] at this; exact this)
      have HQ : Box (∀ x, 0 < k → x < k → Climb K (Eg g r) (prr g r) k (S k) x → S k < x → Climb K (Eg g r) (prr g r) k (S k) (U x) ∧ U x < x) := hid (fun x h0 hx hc hlt => by
        have h1 := HN.out.done x (by omega) hx (by rw [HK.out]; omega)
        rw [HK.out] at h1
        have h2 := HTR.out.dm_le h1.dm
        have h3 := h1.ne
        exact ⟨hc.step hlt h1, by omega⟩)
      go_wp2_with fail
      go_loopg [] k (fun q wr => ∃ x : Nat, x ≤ q ∧ (x = 0 ∨ x < k) ∧ Box (RowC wr w.heap.size pu K cu 3 (num fun i => if i = k then x else U i)) ∧ Box (0 < k → Climb K (Eg g r) (prr g r) k (S k) x) ∧ Box (Keeps [] w wr))
      case atStart =>
        have hU : U k = prr g r k := HN.out.left k (Nat.le_refl _) (by rw [HK.out]; exact hlt)
        refine ⟨U k, ?_, ?_, hid (HR.out.congr (fun i _ => ?_)), hid (fun h0 => ?_), HW⟩
        · by_cases h0 : k = 0
          · rw [h0, HN.out.zero]; omega
          · have := HTR.out.lt k (by omega) hlt
            omega
        · by_cases h0 : k = 0
          · rw [h0, HN.out.zero]; exact .inl rfl
          · have := HTR.out.lt k (by omega) hlt
            omega
        · unfold num
          by_cases e : i = k
          · subst e; simp
          · simp [e]
        · rw [hU]
          exact Climb.begin HTR.out h0 hlt
      case round =>
        clear HR HW
        obtain ⟨x, hxq, hxk, HR, HC, HW⟩ := hrel
        have hxK : x < K := by omega
        have cu1 := HR.out.cell hlt
        have cs1 := (HS.out.kept HW.out (by simp)).cell hlt
        unfold num at cu1 cs1
        simp only [if_true] at cu1
        have hx6 : x < 600 := by omega
        by_cases hgt : S k < x
        · have hk0 : 0 < k := by omega
          have hxk' : x < k := by omega
          obtain ⟨hc2, hux⟩ := HQ.out x hk0 hxk' (HC.out hk0) hgt
          have HC2 := hid (fun _ : 0 < k => hc2)
          have hgd : decide (((S k : Nat) : Int) < ((x : Nat) : Int)) = true := decide_eq_true (by omega)
          have hxK' : (x : Int) < (K : Int) := by omega
          clear hc2 HC
          go_wp2_with fail
          go_quiet (fail)
          have HR1 := hid (HR.out.kept (Keeps.drewN [] wr nq) (by simp))
          have HW1 := hid (HW.out.quiet (Keeps.drewN [] wr nq))
          clear HR HW cu1 cs1
          generalize wr.drewN nq = w2 at HR1 HW1 ⊢
          have cu2 := HR1.out.cell hlt
          have cx := HR1.out.cell hxK
          unfold num at cx cu2
          simp only [show x ≠ k by omega, if_false] at cx
          simp only [if_true] at cu2
          have fk := HR1.out.frozen k
          have HR2 := hid ((numC_put HR1.out k (U x)).congr (d := num fun i => if i = k then U x else U i) (fun i _ => by unfold num; by_cases e : i = k <;> simp [e]))
          have HW2 := hid (HW1.out.fresh (Keeps.setCell [pu] w2 ⟨pu, k, none⟩ (.int .i64 ((U x : Nat) : Int)) (by simp)) (fun y hy => by simp at hy; omega))
          clear HR1 HW1
          go_wp2_with fail
          go_roundg (U x)
          case measure => omega
          case rel => exact ⟨U x, Nat.le_refl _, by omega, HR2, HC2, HW2⟩
        · have hgd : decide (((S k : Nat) : Int) < ((x : Nat) : Int)) = false := decide_eq_false (by omega)
          have HN2 : Box (NK g r (k + 1) (fun i => if i = k then x else U i)) := hid (by
            refine ⟨?_, fun z h1 h2 h3 => ?_, fun z h1 h2 => ?_⟩
            · by_cases e : 0 = k
              · simp only [e, if_true]; omega
              · simp only [e, if_false]; exact HN.out.zero
            · by_cases e : z = k
              · subst e
                simp only [if_true]
                have hd := (HC.out h1).done HTR.out h1 hlt (by omega) (fun y hy1 hy2 => HSK.out.ok y hy1 (by rw [HK.out]; exact hy2))
                rw [← HK.out] at hd
                exact hd
              · simp only [e, if_false]; exact HN.out.done z h1 (by omega) h3
            · simp only [show z ≠ k by omega, if_false]; exact HN.out.left z (by omega) h2)
          clear HN HQ
          go_wp2_with fail
          go_quiet (fail)
          have HR1 := hid (HR.out.kept (Keeps.drewN [] wr nq) (by simp))
          have HW1 := hid (HW.out.quiet (Keeps.drewN [] wr nq))
          clear HR HW cu1 cs1
          generalize wr.drewN nq = w2 at HR1 HW1 ⊢
          go_wp2_with fail
          go_roundw
          case rel => exact ⟨k + 1, _, by go_num, by omega, HR1, HN2, HW1⟩
          case measure => simp [intOf]; omega
    · obtain rfl : k = K := by omega
      go_wp2
      go_ret
      exact ⟨pu, cu, U, rfl, HR.out, HN.out, HW.out⟩
end Go.Proofs.YtlnimcpmkammfaaDoor
