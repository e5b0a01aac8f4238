/-
  Contract: graph's Parts.
-/
import Derived.Test.YtngdnjlohmkbiaaDoorGAhead
namespace Go.Proofs.YtngdnjlohmkbiaaDoor
open Go.RowKit

/-- The graph of the parts. -/
def smallG (g ps : List (List Nat)) : List (List Nat) := (List.range ps.length).map (smallL g ps)
theorem smallG_len (g ps : List (List Nat)) : (smallG g ps).length = ps.length := by simp [smallG]
theorem nb_smallG (g ps : List (List Nat)) (k : Nat) (hk : k < ps.length) : nb (smallG g ps) k = smallL g ps k := nb_map _ _ _ hk
/-- The parts in their order. -/
def partsM (g : List (List Nat)) : List (List Nat) := (ahd (smallG g (sccs g))).map fun k => nb (sccs g) k

theorem mem_elems {s : Nat → Bool} {x : Nat} : x ∈ elems s ↔ x < 5000 ∧ s x = true := by
  unfold elems
  rw [List.mem_filter, List.mem_range]
theorem plcK_lt (ps : List (List Nat)) (x k : Nat) (h : 0 < k) : plcK ps k x < k := by
  cases k with
  | zero => omega
  | succ k =>
    have := plcK_le ps x k
    unfold plcK
    by_cases e : x ∈ nb ps k
    · rw [if_pos e]; omega
    · rw [if_neg e]; omega
theorem mem_smallL {g ps : List (List Nat)} (h6 : ps.length ≤ 600) {k y : Nat} (hk : k < ps.length) : y ∈ smallL g ps k ↔ y ≠ k ∧ y ∈ plcs g ps (nb ps k) := by
  unfold smallL
  rw [mem_elems]
  show y < 5000 ∧ (orL none_ (plcs g ps (nb ps k)) y && !decide ((y : Int) = (k : Int))) = true ↔ _
  rw [Bool.and_eq_true, orL_true]
  constructor
  · rintro ⟨_, h1 | h1, h2⟩
    · cases h1
    · simp at h2
      exact ⟨by omega, h1⟩
  · rintro ⟨h1, h2⟩
    refine ⟨?_, .inr h2, by simp; omega⟩
    unfold plcs at h2
    rw [List.mem_map] at h2
    obtain ⟨x, _, rfl⟩ := h2
    have := plcK_lt ps x ps.length (by omega)
    omega
theorem smallL_lt {g ps : List (List Nat)} (h6 : ps.length ≤ 600) {k y : Nat} (hk : k < ps.length) (hy : y ∈ smallL g ps k) : y < ps.length := by
  have h2 := ((mem_smallL h6 hk).1 hy).2
  unfold plcs at h2
  rw [List.mem_map] at h2
  obtain ⟨x, _, rfl⟩ := h2
  exact plcK_lt ps x ps.length (by omega)
theorem elems_nodup (s : Nat → Bool) : (elems s).Nodup := List.nodup_range.filter _
theorem smallG_sm (g ps : List (List Nat)) (h6 : ps.length ≤ 600) : Sm (smallG g ps) := by
  have hx : ∀ k y, y ∈ nb (smallG g ps) k → y < ps.length := by
    intro k y hy
    by_cases hk : k < ps.length
    · rw [nb_smallG g ps k hk] at hy
      exact smallL_lt h6 hk hy
    · rw [nb_out (by rw [smallG_len]; omega)] at hy; cases hy
  refine ⟨fun k y hy => by rw [smallG_len]; exact hx k y hy, by rw [smallG_len]; exact h6, fun k => ?_⟩
  have hn : (nb (smallG g ps) k).Nodup := by
    by_cases hk : k < ps.length
    · rw [nb_smallG g ps k hk]; exact elems_nodup _
    · rw [nb_out (by rw [smallG_len]; omega)]; exact List.nodup_nil
  have := nodup_len_le hn (hx k)
  omega

theorem sccs_len (g : List (List Nat)) : (sccs g).length ≤ g.length := by
  unfold sccs
  rw [List.length_map]
  have := List.length_filter_le (leastB g) (List.range g.length)
  rwa [List.length_range] at this
theorem part_len (g : List (List Nat)) (a : Nat) : (part g a).length ≤ g.length := by
  unfold part
  have := List.length_filter_le (mutB g a) (List.range g.length)
  rwa [List.length_range] at this
theorem nb_sccs {g : List (List Nat)} {k : Nat} (hk : k < (sccs g).length) : ∃ a, a < g.length ∧ nb (sccs g) k = part g a := by
  have hm : nb (sccs g) k ∈ sccs g := getD_mem (sccs g) k [] hk
  generalize nb (sccs g) k = q at hm ⊢
  unfold sccs at hm
  rw [List.mem_map] at hm
  obtain ⟨a, ha, e⟩ := hm
  rw [List.mem_filter, List.mem_range] at ha
  exact ⟨a, ha.1, e.symm⟩
theorem sccs_lt {g : List (List Nat)} (k x : Nat) (hx : x ∈ nb (sccs g) k) : x < g.length := by
  by_cases hk : k < (sccs g).length
  · obtain ⟨a, _, e⟩ := nb_sccs hk
    rw [e] at hx
    unfold part at hx
    rw [List.mem_filter, List.mem_range] at hx
    exact hx.1
  · rw [nb_out (by omega)] at hx; cases hx
theorem sccs_inner {g : List (List Nat)} (hs : Sm g) (k : Nat) : (nb (sccs g) k).length ≤ 600 := by
  by_cases hk : k < (sccs g).length
  · obtain ⟨a, _, e⟩ := nb_sccs hk
    rw [e]
    exact Nat.le_trans (part_len g a) hs.len
  · rw [nb_out (by omega)]; simp
theorem ahd_lt (g : List (List Nat)) : ∀ (f : Nat) (line : List Nat), (∀ x, x ∈ line → x < g.length) → ∀ x, x ∈ ahdL g f line → x < g.length
  | 0, _, h => h
  | f + 1, line, h => by
    intro x hx
    rcases firstI_spec (rdy g line) 0 with ⟨e, _⟩ | ⟨j, e, _, _, hj, _⟩
    · rw [ahdL_end g line e] at hx; exact h x hx
    · rw [ahdL_step g line j e] at hx
      refine ahd_lt g f (line ++ [j]) (fun y hy => ?_) x hx
      rcases List.mem_append.1 hy with h1 | h1
      · exact h y h1
      · simp at h1; subst h1; exact (rdy_iff.1 hj).1

theorem ahd_ahd (g : List (List Nat)) : ∀ (f : Nat) (line : List Nat), Ahd g line → Ahd g (ahdL g f line)
  | 0, _, h => h
  | f + 1, line, h => by
    rcases firstI_spec (rdy g line) 0 with ⟨e, _⟩ | ⟨j, e, _, _, hj, _⟩
    · rw [ahdL_end g line e]; exact h
    · rw [ahdL_step g line j e]; exact ahd_ahd g f _ (h.snoc hj)
theorem ahd_len (g : List (List Nat)) : (ahd g).length ≤ g.length := by
  have h := ahd_ahd g (g.length + 1) [] (Ahd.nil g)
  exact nodup_len_le h.nodup h.lt

theorem LsOwn.graph {w : World} {base : Nat} {v : Value} {vs : List Value} {ps : List (List Nat)} (h : LsOwn w base v vs ps) : ∃ a cap, v = .slice a ps.length cap ∧ GAt w w.heap.size a ps ∧ (∀ j, j < ps.length → ∃ p, a = some ⟨p, 0, none⟩ ∧ w.cell? ⟨p, j, none⟩ = some (vs.getD j nilS)) := by
  have hvl : vs.length = ps.length := by have := h.outer.1; omega
  rcases h.outer.2 with ⟨rfl, h0⟩ | ⟨p, cap, cur, rfl, _, hg, _⟩
  · have : ps = [] := List.length_eq_zero_iff.1 h0
    subst this
    exact ⟨none, 0, rfl, .inl rfl, fun j hj => absurd hj (Nat.not_lt_zero _)⟩
  · have hcell : ∀ j, j < ps.length → w.cell? ⟨p, j, none⟩ = some (vs.getD j nilS) := by
      intro j hj
      rw [h.outer.cellAt j (by omega), List.getD_eq_getElem?_getD, List.getElem?_eq_getElem (by omega)]
      rfl
    refine ⟨_, cap, rfl, .inr ⟨p, 0, rfl, (Array.getElem?_eq_some_iff.1 hg).1, fun j hj => ?_⟩, fun j hj => ⟨p, rfl, hcell j hj⟩⟩
    rw [listsI_len] at hj
    obtain ⟨a, c, hv, hn, _, _⟩ := ownsRow_nat (h.inner j hj)
    refine ⟨a, c, ?_, ?_⟩
    · rw [Nat.zero_add, hcell j hj, hv, listsI_get, intsI_len]
    · rw [listsI_get]; exact hn

theorem LsOwn.old {w w' : World} {base : Nat} {v : Value} {vs : List Value} {ps : List (List Nat)} {F : List Nat} (h : LsOwn w base v vs ps) (k : Keeps F w w') (hF : ∀ x, x ∈ F → w.heap.size ≤ x) : LsOwn w' base v vs ps :=
  h.kept k (fun b hb hx => by have := (h.outer.lt b hb).2; have := hF b hx; omega) (fun i hi b hb hx => by have := ((h.inner i hi).lt b hb).2; have := hF b hx; omega)

theorem LsOwn.base {w : World} {base base' : Nat} {v : Value} {vs : List Value} {ps : List (List Nat)} (h : LsOwn w base v vs ps) (hb : base' ≤ base) : LsOwn w base' v vs ps := ⟨ownsRow_base h.outer hb, fun i hi => ownsRow_base (h.inner i hi) hb⟩

/-- Lists in a row, one more. -/
theorem LsOwn.snoc {w wa w' : World} {base : Nat} {v v' x : Value} {vs : List Value} {ps : List (List Nat)} {l : List Nat} (h : LsOwn w base v vs ps) (ka : Keeps [] w wa) (hx : w.ownsRow base 3 1 x l.length (ints l)) (ho : w'.ownsRow base 23 1 v' (ps.length + 1) (vs ++ [x])) (hg : wa.grownBy w' v.ownBlock) :
    LsOwn w' base v' (vs ++ [x]) (ps ++ [l]) := by
  have hvl : vs.length = ps.length := by have := h.outer.1; omega
  have k : Keeps v.ownBlock.toList wa w' := Keeps.grown _ hg (fun y hy => by rw [hy]; simp)
  have ow := ownsRow_keeps h.outer ka (by simp)
  have stay : ∀ (u : Value) (m : List Nat), w.ownsRow base 3 1 u m.length (ints m) → w'.ownsRow base 3 1 u m.length (ints m) := by
    intro u m hu
    have hu2 := ownsRow_keeps hu ka (by simp)
    refine ownsRow_keeps hu2 k (fun b hb hx => ?_)
    obtain ⟨cur, hc⟩ := own_cells hu2 hb
    exact Lib.ownBlock_ne ow hc (by decide) (by simpa using hx)
  refine ⟨by rw [List.length_append]; exact ho, fun i hi => ?_⟩
  rw [List.length_append] at hi
  by_cases e : i < ps.length
  · have e1 : (vs ++ [x]).getD i nilS = vs.getD i nilS := by rw [List.getD_eq_getElem?_getD, List.getD_eq_getElem?_getD, List.getElem?_append_left (by omega)]
    have e2 : nb (ps ++ [l]) i = nb ps i := by unfold nb; rw [List.getD_eq_getElem?_getD, List.getD_eq_getElem?_getD, List.getElem?_append_left e]
    rw [e1, e2]
    exact stay _ _ (h.inner i e)
  · obtain rfl : i = ps.length := by simp at hi; omega
    have e1 : (vs ++ [x]).getD ps.length nilS = x := by rw [List.getD_eq_getElem?_getD, ← hvl]; simp
    have e2 : nb (ps ++ [l]) ps.length = l := by unfold nb; rw [List.getD_eq_getElem?_getD]; simp
    rw [e1, e2]
    exact stay _ _ hx

set_option maxHeartbeats 4000000 in
theorem parts_any (g : List (List Nat)) (hs : Sm g) (a : Option Addr) (cap B : Nat) (w : World) (hG : GAt w B a g) (hB : B ≤ w.heap.size) (hT : TabAt w) :
    Calls Tryd.prog 19 #[.agg #[.int .i64 (g.length : Int), .slice a g.length cap]] w fun e w' => ∃ v vs, e = .returned v ∧ LsOwn w' w.heap.size v vs (partsM g) ∧ Keeps [] w w' := by
  have HG := hid hG
  have HS := hid hs
  have HT := hid hT
  have hg6 := hs.len
  have hscl := sccs_len g
  have HC : Box (∀ w, GAt w B a g → Calls Tryd.prog 24 #[.agg #[.int .i64 (g.length : Int), .slice a g.length cap]] w fun e w' => e = .returned (.bool true) ∧ Keeps [] w w') := hid (fun w => gmay_yes g hs a cap B w)
  have HST := hid (fun w h1 h2 => strong_any g hs a cap B w h1 h2)
  have HSH := hid (fun w ap pcap Bp (h1 : GAt w B a g) (h2 : GAt w Bp ap (sccs g)) h3 => shrink_any g hs a cap B w h1 (sccs g) ap pcap Bp h2 (by omega) sccs_lt (sccs_inner hs) h3)
  have HAH := hid (fun w a1 c1 B1 h1 h2 h3 => ahead_any (smallG g (sccs g)) (smallG_sm g (sccs g) (by omega)) a1 c1 B1 w h1 h2 h3)
  rw [smallG_len] at HAH
  have k1 : Keeps [] w (w.alloc (Obj.cells #[.int .i64 (g.length : Int), .slice a g.length cap] 27)) := Keeps.alloc _ _ _
  have H1 := hid (TwoAt.new w (.int .i64 (g.length : Int)) (.slice a g.length cap))
  obtain ⟨n, hn⟩ : ∃ n, g.length = n := ⟨_, rfl⟩
  obtain ⟨m, hm⟩ : ∃ m, (sccs g).length = m := ⟨_, rfl⟩
  rw [hn] at HC HST HSH hg6 k1 H1 hscl ⊢
  rw [hm] at hscl HSH HAH
  have HM := hid hm
  clear hG hs hT hn hm
  go_enter Tryd.func19, Tryd.ntmps19
  go_wp2_with fail
  generalize w.alloc (Obj.cells #[.int .i64 (n : Int), .slice a n cap] 27) = w1 at k1 H1 ⊢
  refine (HC.out w1 (HG.out.quiet k1)).mono ?_
  rintro e w2 ⟨rfl, k2⟩
  have H2 := H1.out.kept k2 (by simp)
  have hw2 := k1.quiet k2
  have hc0 := H2.c0
  have hc1 := H2.c1
  have H2' := hid H2
  clear HC H1 k1 k2 H2
  go_wp2_with fail
  refine (HST.out w2 (HG.out.quiet hw2) (by have := hw2.size; omega)).mono ?_
  rintro e w3 ⟨v3, vs3, rfl, hl3, k3⟩
  have hw3 := hw2.quiet k3
  have HL3 := hid hl3
  obtain ⟨av, cv, rfl, hgr3, hcell3⟩ := hl3.graph
  have H3 := H2'.out.kept k3 (by simp)
  have hd0 := H3.c0
  have hd1 := H3.c1
  have H3' := hid H3
  have HGR := hid hgr3
  rw [HM.out]
  clear HST H2' H3 hl3 hc0 hc1 hgr3 hcell3
  go_wp2_with (at_make; refine wpList_make_own _ rfl _ _ 25 rfl w.heap.size 23 Tryd.t23 (.slice none 0 0) 1 under_lists info_ints zero_ints size_ints .i64 .i64 _ m rfl rfl rfl (by rw [bytes_ints]; omega) (by unfold maxLen; omega) hw3.size ?_; intro w4 hown4 hgrow4; have k4 : Keeps [] w3 w4 := Keeps.grown [] hgrow4 (by simp); have hw4 := hw3.quiet k4; have H4 := H3'.out.kept k4 (by simp); have he0 := H4.c0; have he1 := H4.c1; have HO4 := hid hown4; clear hown4 hgrow4)
  refine (HSH.out w4 av cv w3.heap.size (HG.out.quiet hw4) (HGR.out.quiet k4) (HT.out.kept hw4 (by simp))).mono ?_
  rintro e w5 ⟨q5, vs5, rfl, ho5, k5⟩
  have hw5 := hw4.quiet k5
  have HG5 : Box (GAt w5 w5.heap.size (some ⟨q5, 0, none⟩) (smallG g (sccs g))) := hid (by
    have := ho5.graph
    unfold smallG
    rw [HM.out]
    exact this)
  go_wp2_with fail
  refine (HAH.out w5 _ m w5.heap.size HG5.out (Nat.le_refl _) (HT.out.kept hw5 (by simp))).mono ?_
  rintro e w6 ⟨v6, rfl, hr6, k6⟩
  obtain ⟨a6, c6, rfl, hn6, _, _⟩ := ownsRow_nat hr6
  have hw6 := hw5.quiet k6
  have HN6 := hid hn6
  have hlin : Box (∀ x, x ∈ ahd (smallG g (sccs g)) → x < m) := hid (fun x hx => by
    have := ahd_lt (smallG g (sccs g)) _ [] (fun _ h => absurd h List.not_mem_nil) x hx
    rwa [smallG_len, HM.out] at this)
  have hll : (ahd (smallG g (sccs g))).length ≤ m := by have := ahd_len (smallG g (sccs g)); rwa [smallG_len, HM.out] at this
  have hp1 : Box (∀ b, (Value.slice av (sccs g).length cv).ownBlock = some b → b < w3.heap.size) := hid (fun b hb => (HL3.out.outer.lt b hb).2)
  have hp2 : Box (∀ i, i < (sccs g).length → ∀ b, (vs3.getD i nilS).ownBlock = some b → b < w3.heap.size) := hid (fun i hi b hb => ((HL3.out.inner i hi).lt b hb).2)
  have hz5 : w3.heap.size < w5.heap.size := by
    have h1 := (HO4.out.lt w3.heap.size rfl).2
    have h2 := k5.size
    omega
  have HL6 := hid ((((HL3.out.old k4 (by simp)).old k5 (by simp)).old k6 (by simp)).base hw2.size)
  have hP0 : w.heap.size ≤ w3.heap.size := hw3.size
  have HQ6 : Box (LsOwn w6 w.heap.size (.slice (some ⟨w3.heap.size, 0, none⟩) 0 m) [] (((ahd (smallG g (sccs g))).take 0).map fun k => nb (sccs g) k)) := hid ⟨ownsRow_keeps (ownsRow_keeps HO4.out k5 (by simp)) k6 (by simp), fun i hi => absurd hi (Nat.not_lt_zero _)⟩
  have ha6 : Box (∀ b off, a6 = some ⟨b, off, none⟩ → 0 < (ahd (smallG g (sccs g))).length → b ≠ w3.heap.size) := hid (fun b off e h0 => by
    have := (hr6.lt b (by rw [e]; rfl)).1
    omega)
  obtain ⟨A, hA⟩ : ∃ A, ahd (smallG g (sccs g)) = A := ⟨_, rfl⟩
  have hres : Box (partsM g = A.map fun k => nb (sccs g) k) := hid (by unfold partsM; rw [hA])
  rw [hA] at hlin hll HN6 HQ6 ha6 ⊢
  generalize w3.heap.size = P at HQ6 ha6 hp1 hp2 hP0 ⊢
  clear HSH HAH HG5 ho5 hr6 hn6 k4 k5 k6 hw4 hw5 HL3 H4 he0 he1 HO4 HGR hd0 hd1 H3' hz5 hA hw3 hw2
  go_wp2_with fail
  go_loopw [4, 20] (fun v4 i wr => ∃ (j : Nat) (vsl : List Value), j ≤ A.length ∧ i = .int .i64 j ∧ v4 = .slice (some ⟨P, 0, none⟩) j m ∧ Box (LsOwn wr w.heap.size (.slice (some ⟨P, 0, none⟩) j m) vsl ((A.take j).map fun k => nb (sccs g) k)) ∧ Keeps [P] w6 wr) (fun _ i _ => A.length - (intOf i).toNat)
  case atStart => exact ⟨0, [], by omega, rfl, rfl, HQ6, Keeps.refl _ _⟩
  case round =>
    clear HQ6
    obtain ⟨j, vsl, hj, rfl, rfl, HR, hkw⟩ := hrel
    by_cases hlt : j < A.length
    · have hcA : ∃ b off, a6 = some ⟨b, off, none⟩ ∧ wr.cell? ⟨b, off + j, none⟩ = some (.int .i64 ((A.getD j 0 : Nat) : Int)) := by
        obtain ⟨b, off, e, hc⟩ := HN6.out.at hlt
        exact ⟨b, off, e, by rw [hkw.cell (p := ⟨b, off + j, none⟩) (block_lt_of_cell hc) (by simp; exact ha6.out b off e (by omega))]; exact hc⟩
      obtain ⟨b6, o6, rfl, hc6⟩ := hcA
      have hxm := hlin.out _ (getD_mem A j 0 hlt)
      have htk := hid (take_snoc A j 0 hlt)
      obtain ⟨x, hx⟩ : ∃ x, A.getD j 0 = x := ⟨_, rfl⟩
      rw [hx] at hc6 hxm htk
      clear hx
      have HLw : Box (LsOwn wr w.heap.size (.slice av (sccs g).length cv) vs3 (sccs g)) := hid (HL6.out.kept hkw (fun b hb hx => by simp at hx; have := hp1.out b hb; omega) (fun i hi b hb hx => by simp at hx; have := hp2.out i hi b hb; omega))
      obtain ⟨av2, cv2, e2, _, hcell⟩ := HLw.out.graph
      simp only [Value.slice.injEq] at e2
      obtain ⟨rfl, _, rfl⟩ := e2
      obtain ⟨pv, rfl, hcp⟩ := hcell x (by rw [HM.out]; exact hxm)
      have hinr := HLw.out.inner x (by rw [HM.out]; exact hxm)
      obtain ⟨ax, cx, hvx, _, _, _⟩ := ownsRow_nat hinr
      rw [hvx] at hcp hinr
      have HIN := hid hinr
      have hxm' : (x : Int) < (m : Int) := by omega
      have hjl : j + 1 ≤ m := by omega
      have hlen1 : ((A.take j).map fun k => nb (sccs g) k).length = j := by rw [List.length_map, List.length_take]; omega
      have HOU := hid HR.out.outer
      rw [hlen1] at HOU
      clear hinr hcell hvx
      go_wp2_with (at_builtin; refine wpList_append_fits _ rfl _ _ 25 rfl w.heap.size 23 Tryd.t23 1 under_lists info_ints size_ints P j m vsl rfl (HOU.out.alloc _) _ 1 1 [.slice ax (nb (sccs g) x).length cx] rfl rfl (cell_one_new _ _ _) (fun u hu => by simp at hu; subst hu; rfl) hjl ?_; intro w7 hown7 hgrow7)
      have HQ7 : Box (LsOwn w7 w.heap.size (.slice (some ⟨P, 0, none⟩) (j + 1) m) (vsl ++ [.slice ax (nb (sccs g) x).length cx]) ((A.take (j + 1)).map fun k => nb (sccs g) k)) := hid (by
        have := HR.out.snoc (Keeps.alloc [] _ _) HIN.out (by rw [hlen1]; exact hown7) hgrow7
        rw [htk.out, List.map_append]
        exact this)
      have hk7 : Keeps [P] w6 w7 := (hkw.quiet (Keeps.alloc [] _ _)).step (Keeps.grownRow hgrow7)
      clear hown7 hgrow7 HR HOU
      go_roundw
      case rel => exact ⟨j + 1, _, by omega, by go_num, rfl, HQ7, hk7⟩
      case measure => simp [intOf]; omega
    · obtain rfl : j = A.length := by omega
      go_wp2
      go_ret
      have hQ := HR.out
      rw [List.take_length, ← hres.out] at hQ
      exact ⟨_, vsl, rfl, hQ, hw6.fresh hkw (fun x hx => by simp at hx; omega)⟩
end Go.Proofs.YtngdnjlohmkbiaaDoor
