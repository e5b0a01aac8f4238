/-
  ir.Next: what may come behind a point.
-/
import Derived.Test.YtknkjblifgppjaaDoorIOwn
namespace Go.Proofs.YtknkjblifgppjaaDoor
open Go.RowKit

/-- The numbers of the first points of those of zs that are blocks of function f. -/
def selB (P : Pr8) (f : Nat) (zs : List Int) : List Int := (zs.filter fun z => decide (0 ≤ z ∧ z < ((fun8 P f).blocks.length : Int))).map fun z => (pos8 P f z.toNat 0 : Int)
def nxt8 (P : Pr8) (f b i : Nat) : List Int := if i < (blk8 (fun8 P f) b).code.length then [((pos8 P f b i + 1 : Nat) : Int)] else selB P f (tosB (blk8 (fun8 P f) b))
def nx8 (P : Pr8) (n : Int) : List Int := if 0 ≤ n then (match (pts P)[n.toNat]? with
  | some q => nxt8 P q.1 q.2.1 q.2.2
  | none => []) else []
theorem tosB_len (x : Bl8) : (tosB x).length ≤ 2 := by
  unfold tosB
  split
  · simp
  · split
    · split <;> simp
    · simp
theorem selB_len (P : Pr8) (f : Nat) (zs : List Int) : (selB P f zs).length ≤ zs.length := by
  unfold selB
  rw [List.length_map]
  exact List.length_filter_le _ _
theorem selB_snoc_in (P : Pr8) (f : Nat) (zs : List Int) (z : Int) (h : 0 ≤ z ∧ z < ((fun8 P f).blocks.length : Int)) : selB P f (zs ++ [z]) = selB P f zs ++ [(pos8 P f z.toNat 0 : Int)] := by
  unfold selB
  rw [List.filter_append, List.map_append, List.filter_cons, if_pos (by simpa using h)]
  rfl
theorem selB_snoc_out (P : Pr8) (f : Nat) (zs : List Int) (z : Int) (h : ¬ (0 ≤ z ∧ z < ((fun8 P f).blocks.length : Int))) : selB P f (zs ++ [z]) = selB P f zs := by
  unfold selB
  rw [List.filter_append, List.map_append, List.filter_cons, if_neg (by simpa using h)]
  simp
theorem plc_cases (P : Pr8) (n : Int) : (∃ f b i : Nat, IsPt P f b i ∧ n = (pos8 P f b i : Int) ∧ plcV P n = .tuple #[ptV f b i, .bool true] ∧ nx8 P n = nxt8 P f b i) ∨ (¬ (0 ≤ n ∧ n < ((pts P).length : Int)) ∧ plcV P n = .tuple #[ptV 0 0 0, .bool false] ∧ nx8 P n = []) := by
  by_cases h : 0 ≤ n ∧ n < ((pts P).length : Int)
  · obtain ⟨f, b, i, hp, e⟩ := pts_back (p := P) (n := n.toNat) (by omega)
    obtain ⟨_, e2⟩ := pts_pos e
    have e3 : n = (pos8 P f b i : Int) := by omega
    refine .inl ⟨f, b, i, hp, e3, plcV_in hp e3, ?_⟩
    unfold nx8
    rw [if_pos h.1, e]
  · refine .inr ⟨h, ?_, ?_⟩
    · by_cases h0 : n < 0
      · exact plcV_neg P h0
      · exact plcV_out (by omega)
    · unfold nx8
      by_cases h0 : 0 ≤ n
      · rw [if_pos h0, List.getElem?_eq_none (by omega)]
      · rw [if_neg h0]

set_option maxHeartbeats 4000000 in
theorem next_nil (n : Int) (w : World) : Calls Tryd.prog 26 #[.pointer none, .int .i64 n] w fun e w' => e = .returned (.slice none 0 0) ∧ Keeps [] w w' := by
  have hp := hid (place_nil n w)
  unfold ptV at hp
  go_enter Tryd.func26, Tryd.ntmps26
  go_wp2_with (go_at_call 43; refine hp.out.mono ?_; rintro e w' ⟨rfl, hk⟩; have HK := hid hk; clear hk)
  go_ret
  exact ⟨rfl, HK.out.quiet (Keeps.alloc [] _ _)⟩
set_option maxHeartbeats 4000000 in
theorem next_none {w : World} {pb po : Nat} {P : Pr8} (h : PrC w pb po P) (hs : Sm8 P) (n : Int) (hn : b64 n) (hv : plcV P n = .tuple #[ptV 0 0 0, .bool false]) : Calls Tryd.prog 26 #[.pointer (some ⟨pb, po, none⟩), .int .i64 n] w fun e w' => e = .returned (.slice none 0 0) ∧ Keeps [] w w' := by
  have hp := hid (place_any h hs n hn)
  rw [hv] at hp
  unfold ptV at hp
  clear h hs hv hn
  go_enter Tryd.func26, Tryd.ntmps26
  go_wp2_with (go_at_call 43; refine hp.out.mono ?_; rintro e w' ⟨rfl, hk⟩; have HK := hid hk; clear hk)
  go_ret
  exact ⟨rfl, HK.out.quiet (Keeps.alloc [] _ _)⟩

set_option maxRecDepth 20000 in
set_option maxHeartbeats 8000000 in
theorem next_in {w : World} {pb po : Nat} {P : Pr8} (h : PrC w pb po P) (hs : Sm8 P) (f b i : Nat) (hp : IsPt P f b i) : Calls Tryd.prog 26 #[.pointer (some ⟨pb, po, none⟩), .int .i64 (pos8 P f b i : Int)] w fun e w' => ∃ a cp, e = .returned (.slice a (nxt8 P f b i).length cp) ∧ IntsAt w' a (nxt8 P f b i) ∧ Keeps [] w w' := by
  have hle : pos8 P f b i < 150 := by have := hs.pt; have := pos8_lt hp; omega
  have hpl := hid (place_any h hs (pos8 P f b i : Int) ⟨by omega, by omega⟩)
  rw [plcV_in hp rfl] at hpl
  have HP := hid h
  have HS := hid hs
  have HI := hid hp
  have hbk : Box (∀ w', PrC w' pb po P → ∃ q o, BlC w' q o (blk8 (fun8 P f) b) ∧ Calls Tryd.prog 29 #[.pointer (some ⟨pb, po, none⟩), .int .i64 (f : Int), .int .i64 (b : Int)] w' fun e w2 => e = .returned (.pointer (some ⟨q, o, none⟩)) ∧ w2 = w') := hid fun w' hP => by
    have h1 := hp.1
    have h2 := hp.2.1
    obtain ⟨q, o, L, hc⟩ := block_yes hP (f := (f : Int)) (b := (b : Int)) ⟨by omega, by omega, by omega, by simpa using h2⟩
    rw [Int.toNat_natCast, Int.toNat_natCast] at L
    exact ⟨q, o, L, hc⟩
  unfold ptV at hpl
  generalize hNP : pos8 P f b i = np at *
  have HNP := hid hNP
  clear h hs hp hNP
  go_enter Tryd.func26, Tryd.ntmps26
  go_wp2_with fail
  refine hpl.out.mono ?_
  rintro e w1 ⟨rfl, hk1⟩
  go_wp2_with fail
  have K2 := hid (hk1.quiet (Keeps.alloc [] w1 (.cells #[.int .i64 (f : Int), .int .i64 (b : Int), .int .i64 (i : Int)] 24)))
  have hh := heap_new w1 (.cells #[.int .i64 (f : Int), .int .i64 (b : Int), .int .i64 (i : Int)] 24)
  generalize w1.alloc (.cells #[.int .i64 (f : Int), .int .i64 (b : Int), .int .i64 (i : Int)] 24) = w2 at *
  generalize w1.heap.size = z at *
  have c0 : w2.cell? ⟨z, 0, none⟩ = some (.int .i64 (f : Int)) := hcell hh 0
  have c1 : w2.cell? ⟨z, 1, none⟩ = some (.int .i64 (b : Int)) := hcell hh 1
  have c2 : w2.cell? ⟨z, 2, none⟩ = some (.int .i64 (i : Int)) := hcell hh 2
  have hP2 := PrC.stays _ _ _ _ _ K2.out HP.out
  obtain ⟨q, o, L, hcl⟩ := hbk.out _ hP2
  have hcall := hid hcl
  have HL := hid L
  obtain ⟨ca, ccp, hcc, _⟩ := L.c0
  have hcode := HS.out.code HI.out.1 HI.out.2.1
  have hi := HI.out.2.2
  have HX : Box (nxt8 P f b i = if i < (blk8 (fun8 P f) b).code.length then [((np + 1 : Nat) : Int)] else selB P f (tosB (blk8 (fun8 P f) b))) := hid (by unfold nxt8; rw [HNP.out])
  have HP2 := hid hP2
  clear hk1 hh hpl hbk L hcl hP2
  by_cases hin : i < (blk8 (fun8 P f) b).code.length
  · rw [if_pos hin] at HX
    generalize (blk8 (fun8 P f) b).code.length = n at *
    have hin' : (i : Int) < (n : Int) := by omega
    have w4 : IntKind.i64.wrap ((np : Int) + 1) = ((np + 1 : Nat) : Int) := by rw [show (np : Int) + 1 = ((np + 1 : Nat) : Int) by omega]; exact IntWalk.i64_in _ (by omega)
    go_wp2_with (go_at_call 29; refine hcall.out.mono ?_; rintro e w' ⟨rfl, rfl⟩)
    go_quiet (fail)
    go_wp2_with fail
    go_ret
    rw [HX.out]
    refine ⟨_, _, rfl, .inr ⟨_, 0, rfl, fun j hj => ?_⟩, (K2.out.quiet (Keeps.drewN [] _ _)).quiet (Keeps.alloc [] _ _)⟩
    obtain rfl : j = 0 := by simpa using hj
    show ((w'.drewN nq).alloc _).cell? ⟨(w'.drewN nq).heap.size, _, none⟩ = _
    rw [World.cell?_alloc_at _ _ _ _ rfl, Int.natCast_add]
    rfl
  · rw [if_neg hin] at HX
    have hne : i = (blk8 (fun8 P f) b).code.length := by omega
    generalize (blk8 (fun8 P f) b).code.length = n at *
    subst hne
    have htg := hid fun (w' : World) (L : BlC w' q o (blk8 (fun8 P f) b)) => targets_any L
    have hn9 : ¬ (i : Int) < (i : Int) := by omega
    go_wp2_with (go_at_call 29; refine hcall.out.mono ?_; rintro e w' ⟨rfl, rfl⟩)
    go_quiet (fail)
    go_wp2_with fail
    have K3 := hid (K2.out.quiet (Keeps.drewN [] w' nq))
    have HP3 := hid (PrC.stays _ _ _ _ _ (Keeps.drewN [] w' nq) HP2.out)
    have HL3 := hid (BlC.stays _ _ _ _ _ (Keeps.drewN [] w' nq) HL.out)
    have d0 : (w'.drewN nq).cell? ⟨z, 0, none⟩ = some (.int .i64 (f : Int)) := c0
    generalize w'.drewN nq = w3 at *
    clear c0 c1 c2 hcc hcall K2 HP2 HL
    refine (htg.out _ HL3.out).mono ?_
    rintro e w4 ⟨ta, tcp, rfl, hta, hk4⟩
    have D0 : Box (∀ w', Keeps [] w4 w' → w'.cell? ⟨z, 0, none⟩ = some (.int .i64 (f : Int))) := hid (by
      have := cell_stays hk4 d0
      exact fun w' k => cell_stays k this)
    have HP4 := hid (PrC.stays _ _ _ _ _ hk4 HP3.out)
    have K4 := hid (K3.out.quiet hk4)
    have HTA := hid hta
    clear d0 hk4 hta K3 HP3 HL3 htg
    generalize blk8 (fun8 P f) b = x at *
    have hm2 := tosB_len x
    generalize tosB x = ts at *
    obtain ⟨m, hm⟩ : ∃ m, m = ts.length := ⟨_, rfl⟩
    have HM := hid hm
    rw [← hm] at hm2 ⊢
    clear hm
    have HR0 : Box (w4.ownsRow w4.heap.size 3 1 (.slice none 0 0) (selB P f (ts.take 0)).length (numC (selB P f (ts.take 0)))) := hid (World.ownsRow_nil _ _ _ _)
    go_wp2_with fail
    go_loopw [8, 39] (fun lv kv wr => ∃ k : Nat, k ≤ m ∧ kv = .int .i64 (k : Int) ∧ Box (wr.ownsRow w4.heap.size 3 1 lv (selB P f (ts.take k)).length (numC (selB P f (ts.take k)))) ∧ Box (Keeps [] w4 wr)) (fun _ kv _ => m - (intOf kv).toNat)
    case atStart => exact ⟨0, by omega, rfl, HR0, hid (Keeps.refl _ _)⟩
    case round =>
      obtain ⟨k, hk, rfl, HR, HK⟩ := hrel
      clear HR0
      by_cases hlt : k < m
      · have hlt' : (k : Int) < (m : Int) := by omega
        have d0 := D0.out _ HK.out
        obtain ⟨tb, tf, rfl, ht⟩ : ∃ tb tf, ta = some ⟨tb, tf, none⟩ ∧ wr.cell? ⟨tb, tf + k, none⟩ = some (.int .i64 (ts.getD k 0)) := by
          rcases HTA.out with e | ⟨tb, tf, e1, e2⟩
          · exfalso; have := HM.out; rw [e] at this; simp at this; omega
          · exact ⟨tb, tf, e1, cell_stays HK.out (e2 k (by rw [← HM.out]; exact hlt))⟩
        have hsn : Box (ts.take (k + 1) = ts.take k ++ [ts.getD k 0]) := hid (by
          rw [List.take_succ_eq_append_getElem (by rw [← HM.out]; exact hlt), List.getD_eq_getElem?_getD, List.getElem?_eq_getElem (by rw [← HM.out]; exact hlt)]
          rfl)
        have hPr := PrC.stays _ _ _ _ _ HK.out HP4.out
        generalize ts.getD k 0 = t at *
        have hll : (selB P f (ts.take k)).length ≤ k := Nat.le_trans (selB_len P f _) (by rw [List.length_take]; omega)
        have hks := HK.out.size
        by_cases hbk : 0 ≤ t ∧ t < ((fun8 P f).blocks.length : Int)
        · have hI : IsBk P (f : Int) t := ⟨by omega, by have := HI.out.1; omega, hbk.1, by simpa using hbk.2⟩
          obtain ⟨q2, o2, _, hb2⟩ := block_yes hPr hI
          have hcb := hid hb2
          have hfs := first_any hPr HS.out f t.toNat HI.out.1 (by have := hbk.2; omega)
          rw [show ((t.toNat : Nat) : Int) = t by omega] at hfs
          have hcf := hid hfs
          have hn : Box (selB P f (ts.take (k + 1)) = selB P f (ts.take k) ++ [(pos8 P f t.toNat 0 : Int)]) := hid (by rw [hsn.out]; exact selB_snoc_in P f _ t hbk)
          clear hfs hb2 hI hbk hPr
          generalize (pos8 P f t.toNat 0 : Int) = pv at *
          generalize hS : selB P f (ts.take k) = sl at *
          have hN2 : Box ((selB P f (ts.take (k + 1))).length = sl.length + 1 ∧ numC (selB P f (ts.take (k + 1))) = numC sl ++ [.int .i64 pv]) := hid (by rw [hn.out, numC_snoc]; simp)
          generalize numC sl = xs at *
          generalize sl.length = nn at *
          clear hS hn
          go_wp2_with (first | (go_at_call 29; refine hcb.out.mono ?_; rintro e w' ⟨rfl, hw⟩; rw [hw]; clear hw) | (go_at_call 30; refine hcf.out.mono ?_; rintro e w' ⟨rfl, hw⟩; rw [hw]; clear hw) | (at_builtin; go_must (refine wpList_append_own _ rfl _ _ 32 rfl w4.heap.size 3 Tryd.t3 (.int .i64 0) 1 8 under_ints info_int zero_int size_int bytes_int rfl (by decide) _ nn xs rfl (HR.out.alloc _) ⟨wr.heap.size, 0, none⟩ 1 1 [.int .i64 pv] rfl rfl (cell_one_new _ _ _) (fun x hx => by simp at hx; subst hx; rfl) (by unfold maxLen; omega) (by omega) (by simp; omega) ?_; intro v' w3 hown3 hgrow3 hnil3)))
          have HK5 := hid ((HK.out.quiet (Keeps.alloc [] wr _)).appended HR.out hgrow3 (Nat.le_refl _))
          have HO5 := hid hown3
          clear hgrow3 hnil3 hown3 HR HK
          go_wp2_with fail
          go_roundw
          case rel => exact ⟨k + 1, by omega, by go_num, hid (by rw [hN2.out.1, hN2.out.2]; exact HO5.out), HK5⟩
          case measure => simp [intOf]; omega
        · have hcb := hid (block_no hPr (f := (f : Int)) (b := t) (fun hI => hbk ⟨hI.2.2.1, by simpa using hI.2.2.2⟩))
          have hn : Box (selB P f (ts.take (k + 1)) = selB P f (ts.take k)) := hid (by rw [hsn.out]; exact selB_snoc_out P f _ t hbk)
          clear hbk hPr
          go_wp2_with (go_at_call 29; refine hcb.out.mono ?_; rintro e w' ⟨rfl, hw⟩; rw [hw]; clear hw)
          go_roundw
          case rel => exact ⟨k + 1, by omega, by go_num, hid (by rw [hn.out]; exact HR.out), HK⟩
          case measure => simp [intOf]; omega
      · obtain rfl : k = m := by omega
        have he : Box (ts.take k = ts) := hid (by rw [HM.out, List.take_length])
        go_wp2_with fail
        go_ret
        obtain ⟨a, cp, e1, e2, e3, _, _⟩ := nums_open HR.out
        rw [he.out] at e1 e3
        exact ⟨a, cp, by rw [HX.out]; exact congrArg Ending.returned e1, by rw [HX.out]; exact e3, K4.out.quiet HK.out⟩
/-- Next. -/
theorem next_any {w : World} {pb po : Nat} {P : Pr8} (h : PrC w pb po P) (hs : Sm8 P) (n : Int) (hn : b64 n) : Calls Tryd.prog 26 #[.pointer (some ⟨pb, po, none⟩), .int .i64 n] w fun e w' => ∃ a cp, e = .returned (.slice a (nx8 P n).length cp) ∧ IntsAt w' a (nx8 P n) ∧ Keeps [] w w' := by
  rcases plc_cases P n with ⟨f, b, i, h1, h2, h3, h4⟩ | ⟨h1, h2, h3⟩
  · rw [h4, h2]
    exact next_in h hs f b i h1
  · rw [h3]
    refine (next_none h hs n hn h2).mono ?_
    rintro e w' ⟨rfl, hk⟩
    exact ⟨none, 0, rfl, .inl rfl, hk⟩
end Go.Proofs.YtknkjblifgppjaaDoor
