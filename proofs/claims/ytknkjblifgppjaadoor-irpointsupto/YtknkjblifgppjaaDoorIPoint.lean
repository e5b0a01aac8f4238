/-
  haruspexlaw8.point: a point's instruction, and what follows it.
-/
import Derived.Test.YtknkjblifgppjaaDoorIRnxP
import Derived.Test.YtknkjblifgppjaaDoorIRoundLaw
import Derived.Test.YtknkjblifgppjaaDoorIRln
import Derived.Deep.RegionHeld3
namespace Go.Proofs.YtknkjblifgppjaaDoor
open Go.RowKit Go.Shelf

/-- What stands at a point: its instruction; of an end, none. -/
def here8 (P : Pr8) (f b i : Nat) : In8 := if i < (blk8 (fun8 P f) b).code.length then ins8 (blk8 (fun8 P f) b) i else zero8
/-- An instruction is told, and whether there is one. -/
def InsPost (w : World) (y : In8) (t : Bool) (e : Ending) (w' : World) : Prop := Keeps [] w w' ∧ ∃ a cp, e = .returned (.tuple #[insV y (.slice a y.args.length cp), .bool t]) ∧ IntsAt w' a y.args
def PtsPost (w : World) (X : List (Nat × Nat × Nat)) (e : Ending) (w' : World) : Prop := ∃ a cp, e = .returned (.slice a X.length cp) ∧ RowsAt w' 3 PtC a X ∧ Keeps [] w w'
theorem at_here {w : World} {P : Pr8} {f b i : Nat} {e : Ending} {w' : World} (h : AtPost w P f b i e w') : InsPost w (here8 P f b i) (decide (i < (blk8 (fun8 P f) b).code.length)) e w' := by
  rcases h with ⟨k, ⟨hi, a, cp, rfl, hz⟩ | ⟨hi, rfl⟩⟩
  · refine ⟨k, a, cp, ?_, ?_⟩
    · unfold here8 atV; rw [if_pos hi, decide_eq_true hi]
    · unfold here8; rw [if_pos hi]; exact hz
  · refine ⟨k, none, 0, ?_, ?_⟩
    · unfold here8 noAt; rw [if_neg hi, decide_eq_false hi]; rfl
    · unfold here8; rw [if_neg hi]; exact .inl rfl
theorem zero_ok : InOk zero8 := by
  have z : wf64 0 := ⟨by omega, by omega⟩
  exact ⟨z, z, z, z, z, fun z hz => by cases hz⟩
theorem code_here {w : World} {P : Pr8} {f b i : Nat} {e : Ending} {w' : World} (h : CodePost w P f b i e w') : InsPost w (here8 P f b i) (decide (i < (blk8 (fun8 P f) b).code.length)) e w' ∧ InOk (here8 P f b i) := by
  rcases h with ⟨k, ⟨hi, a, cp, rfl, hz, ho⟩ | ⟨hi, rfl⟩⟩
  · refine ⟨⟨k, a, cp, ?_, ?_⟩, ?_⟩
    · unfold here8 atV; rw [if_pos hi, decide_eq_true hi]
    · unfold here8; rw [if_pos hi]; exact hz
    · unfold here8; rw [if_pos hi]; exact ho
  · refine ⟨⟨k, none, 0, ?_, ?_⟩, ?_⟩
    · unfold here8 noAt; rw [if_neg hi, decide_eq_false hi]; rfl
    · unfold here8; rw [if_neg hi]; exact .inl rfl
    · unfold here8; rw [if_neg hi]; exact zero_ok
theorem here_few {P : Pr8} (hf : FewP 1048576 P) {f b i : Nat} (hp : IsPt P f b i) : (here8 P f b i).args.length ≤ 1048576 := by
  unfold here8
  by_cases h : i < (blk8 (fun8 P f) b).code.length
  · rw [if_pos h]; exact hf.at hp.1 hp.2.1 h
  · rw [if_neg h]; exact Nat.zero_le _
/-- The numbers of points. -/
def numW (P : Pr8) (l : List (Nat × Nat × Nat)) : List Int := l.map fun q => num8 P q.1 q.2.1 q.2.2
theorem numW_len (P : Pr8) (l : List (Nat × Nat × Nat)) : (numW P l).length = l.length := by unfold numW; rw [List.length_map]
theorem numW_snoc (P : Pr8) (l : List (Nat × Nat × Nat)) (q : Nat × Nat × Nat) : numW P (l ++ [q]) = numW P l ++ [num8 P q.1 q.2.1 q.2.2] := by unfold numW; rw [List.map_append]; rfl
theorem nx_numW {P : Pr8} {f b i : Nat} (hp : IsPt P f b i) : nx8 P (pos8 P f b i : Int) = numW P (nex8 P f b i) := by
  unfold nx8
  rw [if_pos (by omega), Int.toNat_natCast, pts_at hp]
  show nxt8 P f b i = _
  rw [nex_nxt]
  unfold numW
  exact List.map_congr_left fun q hq => (num8_in (nex_pt hp q hq)).symm

set_option maxRecDepth 20000 in
set_option maxHeartbeats 8000000 in
theorem point_in {w : World} {pb po : Nat} {P : Pr8} (hg : Glob w) (h : PrC w pb po P) (hs : Sm8 P) (hf : FewP 1048576 P) (f b i : Nat) (hp : IsPt P f b i)
    (hnx : ∀ w', PrC w' pb po P → Calls Tryd.prog 31 #[.pointer (some ⟨pb, po, none⟩), ptV f b i] w' (NexPost w' P f b i)) :
    Calls Tryd.prog 15 #[.pointer (some ⟨pb, po, none⟩), .int .i64 (pos8 P f b i : Int)] w fun e w' => e = .returned (.bool true) ∧ Keeps [] w w' := by
  have hnl := pos8_lt hp
  have hL := hs.pt
  have hget := pts_at hp
  have hle : pos8 P f b i < 150 := by omega
  have HPr := hid fun (w' : World) (k : Keeps [] w w') => PrC.stays _ _ _ _ _ k h
  have HRP := hid (show Calls Tryd.prog 12 #[.pointer (some ⟨pb, po, none⟩)] w (PtsPost w (pts P)) from rpoints_any h hs)
  have HAT := hid fun (w' : World) (k : Keeps [] w w') => (at_pt (HPr.out w' k) hs f b i hp (fun h => by have := hf.at hp.1 hp.2.1 h; omega)).mono fun _ _ h => at_here h
  have HCO := hid fun (w' : World) (k : Keeps [] w w') => (code_any (HPr.out w' k) hs f b i hp).mono fun _ _ h => code_here h
  have HNX := hid fun (w' : World) (k : Keeps [] w w') => (show Calls Tryd.prog 31 #[.pointer (some ⟨pb, po, none⟩), ptV f b i] w' (PtsPost w' (nex8 P f b i)) from hnx w' (HPr.out w' k))
  have HNU := hid fun (w' : World) (k : Keeps [] w w') (F B I : Int) => rnumber_any (HPr.out w' k) hs F B I
  have HN2 := hid fun (w' : World) (k : Keeps [] w w') => next_any (HPr.out w' k) hs (pos8 P f b i : Int) ⟨by omega, by omega⟩
  rw [nx_numW hp] at HN2
  have hX2 := nex_len P f b i
  have hfew := here_few hf hp
  have HG := hid hg
  unfold ptV at HCO HNX HNU
  generalize decide (i < (blk8 (fun8 P f) b).code.length) = t at *
  generalize here8 P f b i = y at *
  generalize nex8 P f b i = X at *
  generalize pos8 P f b i = n at *
  generalize pts P = PL at *
  clear hg h hs hf hp hnx HPr
  have g0 : ¬ (n : Int) < 0 := by omega
  have g1 : ¬ (PL.length : Int) ≤ (n : Int) := by omega
  have g2 : (n : Int) < (PL.length : Int) := by omega
  have hty : (t != t) = false := by simp
  have HFW := hid hfew
  clear hfew
  go_enter Tryd.func15, Tryd.ntmps15
  go_wp2_with fail
  refine HRP.out.mono ?_
  rintro e w1 ⟨pa, pcp, rfl, hrows, k1⟩
  obtain ⟨qb, qo, hpa, r1⟩ := hrows.at hget
  subst hpa
  have PC : Box (∀ w', Keeps [] w1 w' → w'.cell? ⟨qb, qo + n * 3, none⟩ = some (.int .i64 (f : Int)) ∧ w'.cell? ⟨qb, qo + n * 3 + 1, none⟩ = some (.int .i64 (b : Int)) ∧ w'.cell? ⟨qb, qo + n * 3 + 2, none⟩ = some (.int .i64 (i : Int))) := hid fun w' k =>
    have s := PtC.stays _ _ _ _ _ k r1
    ⟨s.c0, s.c1, s.c2⟩
  clear hrows r1 hget HRP
  generalize PL.length = L at *
  go_wp2_with fail
  refine (HAT.out _ k1).mono ?_
  rintro e w2 ⟨k2, ya, yc, rfl, hz2⟩
  have HZ2 := hid hz2
  have K2 := hid (k1.quiet k2)
  have K12 := hid k2
  have K1 := hid k1
  clear hz2 k1 k2 HAT
  obtain ⟨y0, e0⟩ : ∃ z, z = y.op := ⟨_, rfl⟩
  obtain ⟨y1, e1⟩ : ∃ z, z = y.dst := ⟨_, rfl⟩
  obtain ⟨y2, e2⟩ : ∃ z, z = y.a := ⟨_, rfl⟩
  obtain ⟨y3, e3⟩ : ∃ z, z = y.b := ⟨_, rfl⟩
  obtain ⟨y4, e4⟩ : ∃ z, z = y.n := ⟨_, rfl⟩
  obtain ⟨yn, e5⟩ : ∃ z, z = y.args.length := ⟨_, rfl⟩
  have HLN := hid fun (w' : World) (k : Keeps [] w w') (a : Option Addr) (cp : Nat) (ho : InOk y) (ha : IntsAt w' a y.args) => line_any y a cp ho w' (HG.out.quiet k) ⟨ha, HFW.out⟩
  have HRL := hid fun (w' : World) (a : Option Addr) (cp : Nat) (ho : InOk y) (ha : IntsAt w' a y.args) => rline_any y a cp ho w' ⟨ha, HFW.out⟩
  unfold InsPost at HCO
  unfold insV at HLN HRL HCO
  unfold insV
  rw [← e0, ← e1, ← e2, ← e3, ← e4, ← e5] at HCO HLN HRL ⊢
  clear e0 e1 e2 e3 e4 e5 HFW HG
  have h6 := heap_new w2 (.cells #[.int .i64 y0, .int .i64 y1, .int .i64 y2, .int .i64 y3, .int .i64 y4, .slice ya yn yc] 34)
  have K3 := hid (K2.out.quiet (Keeps.alloc [] w2 (.cells #[.int .i64 y0, .int .i64 y1, .int .i64 y2, .int .i64 y3, .int .i64 y4, .slice ya yn yc] 34)))
  have K13 := hid (K12.out.quiet (Keeps.alloc [] w2 (.cells #[.int .i64 y0, .int .i64 y1, .int .i64 y2, .int .i64 y3, .int .i64 y4, .slice ya yn yc] 34)))
  have HZ3 := hid (HZ2.out.kept (Keeps.alloc [] w2 (.cells #[.int .i64 y0, .int .i64 y1, .int .i64 y2, .int .i64 y3, .int .i64 y4, .slice ya yn yc] 34)) (fun _ _ _ => by simp))
  go_upto_region 3 with fail
  generalize w2.alloc (.cells #[.int .i64 y0, .int .i64 y1, .int .i64 y2, .int .i64 y3, .int .i64 y4, .slice ya yn yc] 34) = w3 at *
  generalize w2.heap.size = u at *
  clear K2 K12 HZ2
  obtain ⟨c0, c1, c2⟩ := PC.out _ K13.out
  go_wp2_with fail
  refine (HCO.out _ K3.out).mono ?_
  rintro e w4 ⟨⟨k4, ca, cc, rfl, hz4⟩, hok⟩
  clear c0 c1 c2
  have HOK := hid hok
  have h7 := keep_heap h6 k4
  have h8 := keep_heap h7 (Keeps.alloc [] w4 (.cells #[.int .i64 y0, .int .i64 y1, .int .i64 y2, .int .i64 y3, .int .i64 y4, .slice ca yn cc] 34))
  have h9 := heap_new w4 (.cells #[.int .i64 y0, .int .i64 y1, .int .i64 y2, .int .i64 y3, .int .i64 y4, .slice ca yn cc] 34)
  have k5 := k4.quiet (Keeps.alloc [] w4 (.cells #[.int .i64 y0, .int .i64 y1, .int .i64 y2, .int .i64 y3, .int .i64 y4, .slice ca yn cc] 34))
  have K5 := hid (K3.out.quiet k5)
  have K15 := hid (K13.out.quiet k5)
  have HZ5 := hid (HZ3.out.kept k5 (fun _ _ _ => by simp))
  have HY5 := hid (hz4.kept (Keeps.alloc [] w4 (.cells #[.int .i64 y0, .int .i64 y1, .int .i64 y2, .int .i64 y3, .int .i64 y4, .slice ca yn cc] 34)) (fun _ _ _ => by simp))
  clear h6 h7 k4 k5 hz4 hok K3 K13 HZ3 HCO
  go_upto_region 6 with fail
  generalize w4.alloc (.cells #[.int .i64 y0, .int .i64 y1, .int .i64 y2, .int .i64 y3, .int .i64 y4, .slice ca yn cc] 34) = w5 at *
  generalize w4.heap.size = v at *
  have IC : Box (∀ w', Keeps [] w5 w' → (w'.cell? ⟨u, 0, none⟩ = some (.int .i64 y0) ∧ w'.cell? ⟨u, 1, none⟩ = some (.int .i64 y1) ∧ w'.cell? ⟨u, 2, none⟩ = some (.int .i64 y2) ∧ w'.cell? ⟨u, 3, none⟩ = some (.int .i64 y3) ∧ w'.cell? ⟨u, 4, none⟩ = some (.int .i64 y4) ∧ w'.cell? ⟨u, 5, none⟩ = some (.slice ya yn yc)) ∧ w'.cell? ⟨v, 0, none⟩ = some (.int .i64 y0) ∧ w'.cell? ⟨v, 1, none⟩ = some (.int .i64 y1) ∧ w'.cell? ⟨v, 2, none⟩ = some (.int .i64 y2) ∧ w'.cell? ⟨v, 3, none⟩ = some (.int .i64 y3) ∧ w'.cell? ⟨v, 4, none⟩ = some (.int .i64 y4) ∧ w'.cell? ⟨v, 5, none⟩ = some (.slice ca yn cc)) := hid fun w' k =>
    ⟨⟨cell_stays k (hcell h8 0), cell_stays k (hcell h8 1), cell_stays k (hcell h8 2), cell_stays k (hcell h8 3), cell_stays k (hcell h8 4), cell_stays k (hcell h8 5)⟩, cell_stays k (hcell h9 0), cell_stays k (hcell h9 1), cell_stays k (hcell h9 2), cell_stays k (hcell h9 3), cell_stays k (hcell h9 4), cell_stays k (hcell h9 5)⟩
  have HLA := hid fun (w' : World) (k : Keeps [] w5 w') => HLN.out w' (K5.out.quiet k) ya yc HOK.out (HZ5.out.kept k (fun _ _ _ => by simp))
  have HLB := hid fun (w' : World) (k : Keeps [] w5 w') => HRL.out w' ca cc HOK.out (HY5.out.kept k (fun _ _ _ => by simp))
  clear HLN HRL h8 h9 HZ5 HY5
  generalize lineB y = LB at *
  clear HOK
  obtain ⟨⟨c0, c1, c2, c3, c4, c5⟩, d0, d1, d2, d3, d4, d5⟩ := IC.out _ (Keeps.refl _ _)
  go_region_held3 (fun w' => (w'.cell? ⟨u, 0, none⟩ = some (.int .i64 y0) ∧ w'.cell? ⟨u, 1, none⟩ = some (.int .i64 y1) ∧ w'.cell? ⟨u, 2, none⟩ = some (.int .i64 y2) ∧ w'.cell? ⟨u, 3, none⟩ = some (.int .i64 y3) ∧ w'.cell? ⟨u, 4, none⟩ = some (.int .i64 y4) ∧ w'.cell? ⟨u, 5, none⟩ = some (.slice ya yn yc)) ∧ w'.cell? ⟨v, 0, none⟩ = some (.int .i64 y0) ∧ w'.cell? ⟨v, 1, none⟩ = some (.int .i64 y1) ∧ w'.cell? ⟨v, 2, none⟩ = some (.int .i64 y2) ∧ w'.cell? ⟨v, 3, none⟩ = some (.int .i64 y3) ∧ w'.cell? ⟨v, 4, none⟩ = some (.int .i64 y4) ∧ w'.cell? ⟨v, 5, none⟩ = some (.slice ca yn cc)) (go_keep) (first
    | (go_at_call 21; refine (HLA.out _ (Keeps.drew [] _)).mono ?_; rintro e w6 ⟨rfl, k6⟩; have K6 := (Keeps.drew [] w5).quiet k6; obtain ⟨⟨f60, f61, f62, f63, f64, f65⟩, f66, f67, f68, f69, f6a, f6b⟩ := IC.out _ K6; clear k6)
    | (go_at_call 22; refine (HLB.out _ K6).mono ?_; rintro e w7 ⟨rfl, k7⟩; have K7 := K6.quiet k7; obtain ⟨⟨f70, f71, f72, f73, f74, f75⟩, f76, f77, f78, f79, f7a, f7b⟩ := IC.out _ K7; clear k7))
  have K07 := hid (K5.out.quiet K7)
  obtain ⟨c0, c1, c2⟩ := PC.out _ (K15.out.quiet K7)
  clear K5 K15 K6 K7 IC HLA HLB
  go_wp2_with fail
  refine (HNX.out _ K07.out).mono ?_
  rintro e w8 ⟨xa, xc, rfl, hrx, k8⟩
  have HRX := hid hrx
  have K8 := hid (K07.out.quiet k8)
  clear hrx k8 K07 c0 c1 c2 HNX PC K1
  obtain ⟨m, hm⟩ : ∃ m, m = X.length := ⟨_, rfl⟩
  have HM := hid hm
  have hm2 : m ≤ 2 := by omega
  rw [← hm]
  clear hm hX2
  have HR0 : Box (w8.ownsRow w8.heap.size 3 1 (.slice none 0 0) (numW P (X.take 0)).length (numC (numW P (X.take 0)))) := hid (World.ownsRow_nil _ _ _ _)
  go_wp2_with fail
  go_loopw [11, 12] (fun lv kv wr => ∃ k : Nat, k ≤ m ∧ kv = .int .i64 (k : Int) ∧ Box (wr.ownsRow w8.heap.size 3 1 lv (numW P (X.take k)).length (numC (numW P (X.take k)))) ∧ Box (Keeps [] w8 wr)) (fun _ kv _ => m - (intOf kv).toNat)
  case atStart => exact ⟨0, by omega, rfl, HR0, hid (Keeps.refl _ _)⟩
  case round =>
    obtain ⟨k, hk, rfl, HR, HK⟩ := hrel
    clear HR0
    by_cases hlt : k < m
    · have hlt' : (k : Int) < (m : Int) := by omega
      obtain ⟨q, hq⟩ : ∃ q, X[k]? = some q := ⟨_, List.getElem?_eq_getElem (by have := HM.out; omega)⟩
      obtain ⟨xb, xo, hxa, r1⟩ := HRX.out.at hq
      subst hxa
      have r2 := PtC.stays _ _ _ _ _ HK.out r1
      obtain ⟨c0, c1, c2⟩ := r2
      have hsn : Box (numW P (X.take (k + 1)) = numW P (X.take k) ++ [num8 P q.1 q.2.1 q.2.2]) := hid (by rw [← numW_snoc, List.take_add_one, hq]; rfl)
      have hll : (numW P (X.take k)).length ≤ k := by rw [numW_len, List.length_take]; omega
      have hks := HK.out.size
      have HC := hid (HNU.out wr (K8.out.quiet HK.out) q.1 q.2.1 q.2.2)
      have hN2 : Box ((numW P (X.take (k + 1))).length = (numW P (X.take k)).length + 1 ∧ numC (numW P (X.take (k + 1))) = numC (numW P (X.take k)) ++ [.int .i64 (num8 P q.1 q.2.1 q.2.2)]) := hid (by rw [hsn.out, numC_snoc]; simp)
      generalize num8 P (q.1 : Int) q.2.1 q.2.2 = pv at *
      generalize numC (numW P (X.take k)) = xs at *
      generalize (numW P (X.take k)).length = nn at *
      generalize q.1 = q1 at *
      generalize q.2.1 = q2 at *
      generalize q.2.2 = q3 at *
      clear hq hsn r1 HNU
      go_wp2_with fail
      refine HC.out.mono ?_
      rintro e w9 ⟨rfl, k9⟩
      have HR9 : Box (w9.ownsRow w8.heap.size 3 1 u11 nn xs) := hid (ownsRow_keeps HR.out k9 (fun _ _ => by simp))
      have HK9 := hid (HK.out.quiet k9)
      have hk9 := k9.size
      clear c0 c1 c2 k9 HC HR HK
      go_wp2_with (at_builtin; go_must (refine wpList_append_own _ rfl _ _ 32 rfl w8.heap.size 3 Tryd.t3 (.int .i64 0) 1 8 under_ints info_int zero_int size_int bytes_int rfl (by decide) _ nn xs rfl (HR9.out.alloc _) ⟨w9.heap.size, 0, none⟩ 1 1 [.int .i64 pv] rfl rfl (cell_one_new _ _ _) (fun x hx => by simp at hx; subst hx; rfl) (by unfold maxLen; omega) (by omega) (by simp; omega) ?_; intro v' w3 hown3 hgrow3 hnil3))
      have HK5 := hid ((HK9.out.quiet (Keeps.alloc [] w9 _)).appended HR9.out hgrow3 (Nat.le_refl _))
      have HO5 := hid hown3
      clear hgrow3 hnil3 hown3 HR9 HK9
      go_wp2_with fail
      go_roundw
      case rel => exact ⟨k + 1, by omega, by go_num, hid (by rw [hN2.out.1, hN2.out.2]; exact HO5.out), HK5⟩
      case measure => simp [intOf]; omega
    · obtain rfl : k = m := by omega
      have he : Box (X.take k = X) := hid (by rw [HM.out, List.take_length])
      obtain ⟨va, vc, ev, _, hv, _, _⟩ := nums_open HR.out
      have HV := hid hv
      have KE := hid (K8.out.quiet HK.out)
      rw [he.out] at ev HV
      have hWl : (numW P X).length ≤ 2 := by rw [numW_len, ← HM.out]; exact hm2
      have HQ := hid fun (w' : World) (a1 a2 : Option Addr) (c1 c2 : Nat) (h1 : IntsAt w' a1 (numW P X)) (h2 : IntsAt w' a2 (numW P X)) => eq_any a1 a2 c1 c2 (numW P X) (numW P X) w' h1 h2 (by omega)
      have hdec : decide (numW P X = numW P X) = true := by simp
      rw [hdec] at HQ
      generalize numW P X = WX at *
      clear hdec hv he
      subst ev
      go_wp2_with fail
      refine (HN2.out _ KE.out).mono ?_
      rintro e w9 ⟨na, nc, rfl, hn9, k9⟩
      have HN9 := hid hn9
      have HV9 := hid (HV.out.kept k9 (fun _ _ _ => by simp))
      have KF := hid (KE.out.quiet k9)
      clear hn9 k9
      go_wp2_with fail
      refine (HQ.out _ _ _ _ _ HN9.out HV9.out).mono ?_
      rintro e w10 ⟨rfl, mm, hw10⟩
      rw [hw10]
      clear hw10
      go_wp2_with fail
      go_ret
      exact ⟨rfl, KF.out.quiet (Keeps.drewN [] _ _)⟩

set_option maxRecDepth 20000 in
set_option maxHeartbeats 8000000 in
theorem point_out {w : World} {pb po : Nat} {P : Pr8} (h : PrC w pb po P) (hs : Sm8 P) (n : Int) (hn : b64 n) (ho : ¬ (0 ≤ n ∧ n < ((pts P).length : Int))) (hv : plcV P n = .tuple #[ptV 0 0 0, .bool false]) :
    Calls Tryd.prog 15 #[.pointer (some ⟨pb, po, none⟩), .int .i64 n] w fun e w' => e = .returned (.bool true) ∧ Keeps [] w w' := by
  have HPr := hid fun (w' : World) (k : Keeps [] w w') => PrC.stays _ _ _ _ _ k h
  have HRP := hid (show Calls Tryd.prog 12 #[.pointer (some ⟨pb, po, none⟩)] w (PtsPost w (pts P)) from rpoints_any h hs)
  have HAT := hid fun (w' : World) (k : Keeps [] w w') => at_no (.pointer (some ⟨pb, po, none⟩)) n w' fun w2 k2 => by
    have := place_any (HPr.out w2 (k.quiet k2)) hs n hn
    rw [hv] at this
    exact this
  have HNX := hid fun (w' : World) (k : Keeps [] w w') => next_none (HPr.out w' k) hs n hn hv
  unfold noAt insV zero8 at HAT
  generalize pts P = PL at *
  clear h hs hv hn HPr
  go_enter Tryd.func15, Tryd.ntmps15
  go_wp2_with fail
  refine HRP.out.mono ?_
  rintro e w1 ⟨pa, pcp, rfl, _, k1⟩
  clear HRP
  generalize PL.length = L at *
  go_wp2_with fail
  refine (HAT.out _ k1).mono ?_
  rintro e w2 ⟨rfl, k2⟩
  have h6 := heap_new w2 (.cells #[.int .i64 0, .int .i64 0, .int .i64 0, .int .i64 0, .int .i64 0, .slice none 0 0] 34)
  have K3 := hid ((k1.quiet k2).quiet (Keeps.alloc [] w2 (.cells #[.int .i64 0, .int .i64 0, .int .i64 0, .int .i64 0, .int .i64 0, .slice none 0 0] 34)))
  clear k1 k2 HAT
  go_upto_region 3 with fail
  generalize w2.alloc (.cells #[.int .i64 0, .int .i64 0, .int .i64 0, .int .i64 0, .int .i64 0, .slice none 0 0] 34) = w3 at *
  generalize w2.heap.size = u at *
  have c0 := hcell h6 0
  clear h6
  by_cases h0 : n < 0
  · clear ho
    go_wp2_with fail
    refine (HNX.out _ K3.out).mono ?_
    rintro e w4 ⟨rfl, k4⟩
    go_wp2_with fail
    go_ret
    exact ⟨rfl, K3.out.quiet k4⟩
  · have h1 : (L : Int) ≤ n := by omega
    clear ho
    go_wp2_with fail
    refine (HNX.out _ K3.out).mono ?_
    rintro e w4 ⟨rfl, k4⟩
    go_wp2_with fail
    go_ret
    exact ⟨rfl, K3.out.quiet k4⟩
/-- point, at any number. -/
theorem point_any {w : World} {pb po : Nat} {P : Pr8} (hg : Glob w) (h : PrC w pb po P) (hs : Sm8 P) (hf : FewP 1048576 P) (n : Int) (hn : b64 n)
    (hnx : ∀ (f b i : Nat), IsPt P f b i → ∀ w', PrC w' pb po P → Calls Tryd.prog 31 #[.pointer (some ⟨pb, po, none⟩), ptV f b i] w' (NexPost w' P f b i)) :
    Calls Tryd.prog 15 #[.pointer (some ⟨pb, po, none⟩), .int .i64 n] w fun e w' => e = .returned (.bool true) ∧ Keeps [] w w' := by
  rcases plc_cases P n with ⟨f, b, i, h1, h2, _, _⟩ | ⟨h1, h2, _⟩
  · rw [h2]
    exact point_in hg h hs hf f b i h1 (hnx f b i h1)
  · exact point_out h hs n hn h1 h2
end Go.Proofs.YtknkjblifgppjaaDoor
