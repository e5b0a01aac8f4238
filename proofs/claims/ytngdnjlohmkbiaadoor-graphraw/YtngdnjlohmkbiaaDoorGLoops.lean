/-
  Contract: graph's Loops.
-/
import Derived.Test.YtngdnjlohmkbiaaDoorGParts
namespace Go.Proofs.YtngdnjlohmkbiaaDoor
open Go.RowKit

/-- Do the nodes of this part reach themselves? -/
def loopB (g : List (List Nat)) (p : List Nat) : Bool := decide (1 < p.length) || decide (key0 p ∈ nb g (key0 p))
/-- The nodes that reach themselves, of some parts. -/
def loopS (g : List (List Nat)) (ps : List (List Nat)) : Nat → Bool := orL none_ (ps.filter (loopB g)).flatten

theorem ofI_orL (l : List Nat) (h : ∀ x, x ∈ l → x < 5000) : ∀ s, (intsI l).foldl insI s = orL s l := by
  induction l with
  | nil => intro s; rw [orL_nil]; rfl
  | cons a l ih =>
    intro s
    show (intsI l).foldl insI (insI s (a : Int)) = _
    rw [ih (fun x hx => h x (by simp [hx])), insI_nat s a (h a (by simp)), orL_ins, ← orL_append]
    rfl
theorem both_or (s : Nat → Bool) (l : List Nat) : both or s (orL none_ l) = orL s l := by
  funext m
  simp [both, orL, none_]

set_option maxHeartbeats 4000000 in
theorem loops_any (g : List (List Nat)) (hs : Sm g) (a : Option Addr) (cap B : Nat) (w : World) (hG : GAt w B a g) (hB : B ≤ w.heap.size) :
    Calls Tryd.prog 16 #[.agg #[.int .i64 (g.length : Int), .slice a g.length cap]] w fun e w' => ∃ b, e = .returned (.pointer (some ⟨b, 0, none⟩)) ∧ SetAt w' b (loopS g (sccs g)) ∧ Keeps [] w w' ∧ w.heap.size ≤ b := by
  have hzero := zero_set
  have HG := hid hG
  have HS := hid hs
  have hg6 := hs.len
  have hscl := sccs_len g
  have H2 := hid (two_new w B a cap g hG)
  have HC : Box (∀ w, GAt w B a g → Calls Tryd.prog 24 #[.agg #[.int .i64 (g.length : Int), .slice a g.length cap]] w fun e w' => e = .returned (.bool true) ∧ Keeps [] w w') := hid (fun w => gmay_yes g hs a cap B w)
  have HST := hid (fun w h1 h2 => strong_any g hs a cap B w h1 h2)
  clear hG hs
  go_enter Tryd.func16, Tryd.ntmps16
  go_wp2_with fail
  generalize (w.alloc (Obj.cells #[.int .i64 (g.length : Int), .slice a g.length cap] 27)).alloc (Obj.cells (row none_) 60) = w2 at H2 ⊢
  refine (HC.out w2 H2.out.gr).mono ?_
  rintro e w3 ⟨rfl, k3⟩
  have H3 : Box (Two0 w w3 B a cap g none_) := hid ⟨H2.out.box.kept k3 (by simp), H2.out.set.kept k3 (by simp), H2.out.gr.quiet k3, H2.out.keep.quiet k3⟩
  have hc0 := H3.out.box.c0
  have hc1 := H3.out.box.c1
  clear H2 k3 HC hzero
  generalize row none_ = R
  go_wp2_with fail
  refine (HST.out w3 H3.out.gr (by have := H3.out.keep.size; omega)).mono ?_
  rintro e w4 ⟨v4, vs4, rfl, hl4, k4⟩
  have H4 : Box (Two0 w w4 B a cap g (loopS g ((sccs g).take 0))) := hid ⟨H3.out.box.kept k4 (by simp), by rw [show loopS g ((sccs g).take 0) = none_ from orL_nil _]; exact H3.out.set.kept k4 (by simp), H3.out.gr.quiet k4, H3.out.keep.quiet k4⟩
  have hb4 : w.heap.size + 1 < w3.heap.size := H3.out.set.lt
  obtain ⟨av, cv, rfl, hgr4, _⟩ := hl4.graph
  have HGR := hid hgr4
  have hin := hid (fun i (hi : i < (sccs g).length) => hl4.inner i hi)
  have hout4 := hid (fun b (hb : (Value.slice av (sccs g).length cv).ownBlock = some b) => (hl4.outer.lt b hb).1)
  have HL4 := hid hl4
  clear HST H3 hl4 hgr4 k4 hc0 hc1
  obtain ⟨m, hm⟩ : ∃ m, (sccs g).length = m := ⟨_, rfl⟩
  have HM := hid hm
  have hscl' : m ≤ g.length := by omega
  rw [hm] at hout4 ⊢
  clear hm hscl
  go_wp2_with fail
  go_loopw [15] (fun i wr => ∃ j : Nat, j ≤ m ∧ i = .int .i64 j ∧ Box (Two0 w wr B a cap g (loopS g ((sccs g).take j))) ∧ Keeps [w.heap.size + 1] w4 wr) (fun i _ => m - (intOf i).toNat)
  case atStart => exact ⟨0, by omega, rfl, H4, Keeps.refl _ _⟩
  case round =>
    clear H4
    obtain ⟨j, hj, rfl, HR, hkw⟩ := hrel
    by_cases hlt : j < m
    · have HLw : Box (LsOwn wr w3.heap.size (.slice av (sccs g).length cv) vs4 (sccs g)) := hid (HL4.out.kept hkw (fun b hb hx => by simp at hx; have := (HL4.out.outer.lt b hb).1; omega) (fun i hi b hb hx => by simp at hx; have := ((HL4.out.inner i hi).lt b hb).1; omega))
      obtain ⟨av2, cv2, e2, hgrw, hcell⟩ := HLw.out.graph
      simp only [Value.slice.injEq] at e2
      obtain ⟨rfl, _, rfl⟩ := e2
      obtain ⟨pv, rfl, hcp⟩ := hcell j (by rw [HM.out]; exact hlt)
      have hinr := HLw.out.inner j (by rw [HM.out]; exact hlt)
      obtain ⟨ax, cx, hvx, hnx, _, _⟩ := ownsRow_nat hinr
      rw [hvx] at hcp
      have HNX := hid hnx
      have htk := hid (take_snoc (sccs g) j [] (by rw [HM.out]; exact hlt))
      obtain ⟨a0, ha0, hpart⟩ := nb_sccs (g := g) (k := j) (by rw [HM.out]; exact hlt)
      have hself := part_self HS.out.ok ha0
      have hplt := hid (fun x (hx : x ∈ nb (sccs g) j) => sccs_lt j x hx)
      have hplen := sccs_inner HS.out j
      rw [← hpart] at hself
      clear hcell hgrw hinr hvx hnx hpart
      have e3 : (sccs g).getD j [] = nb (sccs g) j := rfl
      rw [e3] at htk
      obtain ⟨p, hp⟩ : ∃ p, nb (sccs g) j = p := ⟨_, rfl⟩
      rw [hp] at hcp HNX htk hself hplt hplen
      clear hp e3
      have hpos : 0 < p.length := by
        cases p with
        | nil => cases hself
        | cons => simp
      have hk0 : key0 p < g.length := hplt.out _ (getD_mem p 0 0 hpos)
      obtain ⟨bp, op, rfl, hc0⟩ := HNX.out.at hpos
      have hc0' : wr.cell? ⟨bp, op, none⟩ = some (.int .i64 ((key0 p : Nat) : Int)) := hc0
      obtain ⟨bg, og, ag, cg, rfl, hcg, hng⟩ := HR.out.gr.at hk0
      have hgb0 := HR.out.box.c0
      have hgb1 := HR.out.box.c1
      have HNg := hid hng
      have HCON : Box (∀ n, Calls Tryd.prog 38 #[.slice ag (nb g (key0 p)).length cg, .int .i64 ((key0 p : Nat) : Int)] (wr.drewN n) fun e w' => e = .returned (.bool (decide (((key0 p : Nat) : Int) ∈ intsI (nb g (key0 p))))) ∧ w' = wr.drewN n) :=
        hid fun n => con_any ag cg B (nb g (key0 p)) ((key0 p : Nat) : Int) (wr.drewN n) (HNg.out.kept (Keeps.drewN [] _ _) (by simp)) (Nat.le_trans (HS.out.short _) (by omega))
      have hfit : Box (Fit (loopS g ((sccs g).take j))) := hid (fit_orL fit_none (fun x hx => by
        obtain ⟨l, hl, hxl⟩ := List.mem_flatten.1 hx
        have h2 := (List.mem_filter.1 hl).1
        obtain ⟨i, hi, rfl⟩ := List.getElem_of_mem (List.mem_of_mem_take h2)
        have := sccs_lt (g := g) i x (by rw [nb, List.getD_eq_getElem?_getD, List.getElem?_eq_getElem hi]; exact hxl)
        omega))
      have HYES : Box (loopB g p = true → both or (loopS g ((sccs g).take j)) (orL none_ p) = loopS g ((sccs g).take (j + 1))) := hid (fun h => by
        rw [both_or, htk.out]
        unfold loopS
        rw [List.filter_append, List.filter_cons_of_pos h, List.filter_nil, List.flatten_append, orL_append]
        simp)
      have HNO : Box (loopB g p = false → loopS g ((sccs g).take j) = loopS g ((sccs g).take (j + 1))) := hid (fun h => by
        rw [htk.out]
        unfold loopS
        rw [List.filter_append, List.filter_cons_of_neg (by simp [h]), List.filter_nil]
        simp)
      obtain ⟨s, hs⟩ : ∃ s, loopS g ((sccs g).take j) = s := ⟨_, rfl⟩
      rw [hs] at HR hfit HYES HNO
      clear hs htk hng HNg
      have hk0' : ((key0 p : Nat) : Int) < (g.length : Int) := by omega
      have hpl0 : (0 : Int) < (p.length : Int) := by omega
      have HOF : Box (∀ w9, Keeps [] wr w9 → Calls Tryd.prog 39 #[.slice (some ⟨bp, op, none⟩) p.length cx] w9 fun e w' => e = .returned (.pointer (some ⟨w9.heap.size, 0, none⟩)) ∧ SetAt w' w9.heap.size (orL none_ p) ∧ Keeps [] w9 w') := hid (fun w9 k9 => by
        have h := of_any (some ⟨bp, op, none⟩) cx (intsI p) w9 (HNX.out.kept k9 (by simp)).ints (by rw [intsI_len]; omega)
        rw [intsI_len] at h
        have e : ofI (intsI p) = orL none_ p := ofI_orL p (fun x hx => by have := hplt.out x hx; omega) none_
        rw [e] at h
        exact h)
      have hpf : Box (Fit (orL none_ p)) := hid (fit_orL fit_none (fun x hx => by have := hplt.out x hx; omega))
      clear HNX hplt hself hc0 HLw
      obtain ⟨pl, hpl⟩ : ∃ pl, p.length = pl := ⟨_, rfl⟩
      have HPL := hid hpl
      rw [hpl] at hcp hpl0 HOF hpos hplen
      clear hpl
      obtain ⟨q, hq⟩ : ∃ q, decide (((key0 p : Nat) : Int) ∈ intsI (nb g (key0 p))) = q := ⟨_, rfl⟩
      have HQ := hid hq
      rw [hq] at HCON
      clear hq
      have HYN : Box (loopB g p = (decide (1 < pl) || q)) := hid (by
        rw [← HQ.out, ← HPL.out]
        unfold loopB
        congr 1
        simp only [intsI, List.mem_map, decide_eq_decide]
        constructor
        · exact fun h => ⟨_, h, rfl⟩
        · rintro ⟨y, hy, he⟩
          have e : y = key0 p := by omega
          rwa [e] at hy)
      generalize key0 p = k0 at hc0' hk0 hcg HCON hk0' HQ
      go_wp2_with fail
      by_cases h1 : 1 < pl
      · have hd : decide ((1 : Int) < (pl : Int)) = true := decide_eq_true (by omega)
        have hyes : loopB g p = true := by rw [HYN.out]; simp [h1]
        go_quiet ((go_at_call 38; exact Calls.quiet_of_same (HCON.out _)))
        have hR9 : Box (Two0 w (wr.drewN nq) B (some ⟨bg, og, none⟩) cap g s) := hid ⟨HR.out.box.kept (Keeps.drewN [] _ nq) (by simp), HR.out.set.kept (Keeps.drewN [] _ nq) (by simp), HR.out.gr.quiet (Keeps.drewN [] _ nq), HR.out.keep.quiet (Keeps.drewN [] _ nq)⟩
        have HOF9 := HOF.out _ (Keeps.drewN [] _ nq)
        have hkw9 : Keeps [w.heap.size + 1] w4 (wr.drewN nq) := hkw.quiet (Keeps.drewN [] _ nq)
        clear HOF HCON HR hkw hcp hcg hc0' hgb0 hgb1
        generalize wr.drewN nq = wx at hR9 HOF9 hkw9 ⊢
        go_wp2_with fail
        refine HOF9.mono ?_
        rintro e w6 ⟨rfl, hs6, hk6⟩
        have HJ := hid (join_any (w.heap.size + 1) (some wx.heap.size) s (orL none_ p) w6 (hR9.out.set.kept hk6 (by simp)) hs6 hfit.out hpf.out)
        rw [HYES.out hyes] at HJ
        have hR6 : Box (Two0 w w6 B (some ⟨bg, og, none⟩) cap g s) := hid ⟨hR9.out.box.kept hk6 (by simp), hR9.out.set.kept hk6 (by simp), hR9.out.gr.quiet hk6, hR9.out.keep.quiet hk6⟩
        have hkw6 := hkw9.quiet hk6
        clear hs6 hk6 hkw9 hR9 HOF9
        go_wp2_with fail
        refine HJ.out.mono ?_
        rintro e w7 ⟨rfl, hs7, hk7⟩
        have hR7 : Box (Two0 w w7 B (some ⟨bg, og, none⟩) cap g (loopS g ((sccs g).take (j + 1)))) := hid ⟨hR6.out.box.kept hk7 (by simp), hs7, hR6.out.gr.kept hk7 (by simp; omega), hR6.out.keep.fresh hk7 (by simp)⟩
        have hkw7 : Keeps [w.heap.size + 1] w4 w7 := hkw6.trans hk7 (fun x hx _ => hx)
        clear hs7 hk7 hkw6 hR6 HJ
        go_wp2
        go_roundw
        case rel => exact ⟨j + 1, by omega, by go_num, hR7, hkw7⟩
        case measure => simp [intOf]; omega
      · have hd : decide ((1 : Int) < (pl : Int)) = false := decide_eq_false (by omega)
        cases q
        · have hno : loopB g p = false := by rw [HYN.out]; simp [h1]
          go_quiet ((go_at_call 38; exact Calls.quiet_of_same (HCON.out _)))
          have hR9 : Box (Two0 w (wr.drewN nq) B (some ⟨bg, og, none⟩) cap g (loopS g ((sccs g).take (j + 1)))) := hid (by rw [← HNO.out hno]; exact ⟨HR.out.box.kept (Keeps.drewN [] _ nq) (by simp), HR.out.set.kept (Keeps.drewN [] _ nq) (by simp), HR.out.gr.quiet (Keeps.drewN [] _ nq), HR.out.keep.quiet (Keeps.drewN [] _ nq)⟩)
          have hkw9 : Keeps [w.heap.size + 1] w4 (wr.drewN nq) := hkw.quiet (Keeps.drewN [] _ nq)
          clear HOF HCON HR hkw
          go_wp2
          go_roundw
          case rel => exact ⟨j + 1, by omega, by go_num, hR9, hkw9⟩
          case measure => simp [intOf]; omega
        · have hyes : loopB g p = true := by rw [HYN.out]; simp
          go_quiet ((go_at_call 38; exact Calls.quiet_of_same (HCON.out _)))
          have hR9 : Box (Two0 w (wr.drewN nq) B (some ⟨bg, og, none⟩) cap g s) := hid ⟨HR.out.box.kept (Keeps.drewN [] _ nq) (by simp), HR.out.set.kept (Keeps.drewN [] _ nq) (by simp), HR.out.gr.quiet (Keeps.drewN [] _ nq), HR.out.keep.quiet (Keeps.drewN [] _ nq)⟩
          have HOF9 := HOF.out _ (Keeps.drewN [] _ nq)
          have hkw9 : Keeps [w.heap.size + 1] w4 (wr.drewN nq) := hkw.quiet (Keeps.drewN [] _ nq)
          clear HOF HCON HR hkw hcp hcg hc0' hgb0 hgb1
          generalize wr.drewN nq = wx at hR9 HOF9 hkw9 ⊢
          go_wp2_with fail
          refine HOF9.mono ?_
          rintro e w6 ⟨rfl, hs6, hk6⟩
          have HJ := hid (join_any (w.heap.size + 1) (some wx.heap.size) s (orL none_ p) w6 (hR9.out.set.kept hk6 (by simp)) hs6 hfit.out hpf.out)
          rw [HYES.out hyes] at HJ
          have hR6 : Box (Two0 w w6 B (some ⟨bg, og, none⟩) cap g s) := hid ⟨hR9.out.box.kept hk6 (by simp), hR9.out.set.kept hk6 (by simp), hR9.out.gr.quiet hk6, hR9.out.keep.quiet hk6⟩
          have hkw6 := hkw9.quiet hk6
          clear hs6 hk6 hkw9 hR9 HOF9
          go_wp2_with fail
          refine HJ.out.mono ?_
          rintro e w7 ⟨rfl, hs7, hk7⟩
          have hR7 : Box (Two0 w w7 B (some ⟨bg, og, none⟩) cap g (loopS g ((sccs g).take (j + 1)))) := hid ⟨hR6.out.box.kept hk7 (by simp), hs7, hR6.out.gr.kept hk7 (by simp; omega), hR6.out.keep.fresh hk7 (by simp)⟩
          have hkw7 : Keeps [w.heap.size + 1] w4 w7 := hkw6.trans hk7 (fun x hx _ => hx)
          clear hs7 hk7 hkw6 hR6 HJ
          go_wp2
          go_roundw
          case rel => exact ⟨j + 1, by omega, by go_num, hR7, hkw7⟩
          case measure => simp [intOf]; omega
    · obtain rfl : j = m := by omega
      go_wp2
      go_ret
      have hall : (sccs g).take j = sccs g := by rw [← HM.out]; exact List.take_length
      have H5 := HR.out
      rw [hall] at H5
      exact ⟨_, rfl, H5.set, H5.keep, by omega⟩
end Go.Proofs.YtngdnjlohmkbiaaDoor
