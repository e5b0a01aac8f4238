/-
  Contract: the document's own Free, the walk.
-/
import Derived.Deep.LoopGhost
import Derived.Deep.DeepCutAuto
import Derived.BigQuiet
import Derived.Test.YtmebkeidpklcbaaDoorZ08
import Derived.Test.YtmebkeidpklcbaaDoorZ10
import Derived.Test.YtmebkeidpklcbaaDoorZ34

namespace Go.Proofs.YtmebkeidpklcbaaDoor
open Go.RowKit

theorem nex_lenY (P : Pr8) (f b i : Nat) : (nex8 P f b i).length ≤ 2 := by
  unfold nex8
  split
  · simp
  · unfold sel3
    rw [List.length_map]
    refine Nat.le_trans (List.length_filter_le _ _) ?_
    unfold tosB
    repeat' split
    all_goals simp
set_option maxRecDepth 20000 in
set_option maxHeartbeats 8000000 in
theorem rfree_by {w : World} {pb po : Nat} {P : Pr8} (h : PrC w pb po P) (hs : Sm8 P) {f b i r : Nat} (hp : IsPt P f b i) (hsg : inB (fun8 P f).sig P.sigs.length = true) (hr : r < 5000)
    (hnx : ∀ (w' : World) (b i : Nat), PrC w' pb po P → IsPt P f b i → Calls Tryd.prog 44 #[.pointer (some ⟨pb, po, none⟩), ptV f b i] w' (NexNew w' P f b i)) :
    Calls Tryd.prog 18 #[.pointer (some ⟨pb, po, none⟩), .int .i64 (f : Int), .int .i64 (r : Int), ptV f b i] w fun e w' => e = .returned (.bool (freeB P f r b i)) ∧ Keeps [] w w' := by
  have hf := hp.1
  have hb6 : (fun8 P f).blocks.length ≤ 600 := Nat.le_trans (hs.bk f hf) (by decide)
  have hb0 : 0 < (fun8 P f).blocks.length := by have := hp.2.1; omega
  obtain ⟨sa, sp, c1, r1, _⟩ := h.c1
  obtain ⟨fa, fcp, H⟩ := h.fns
  have h4 := H.cell
  obtain ⟨fb, fo, rfl, hfu0⟩ := H.rows.at (getD_get (d := ⟨0, [], []⟩) hf)
  have hfu : FuC w fb (fo + f * 3) (fun8 P f) := hfu0
  have c0 := hfu.c0.1
  have HFB : Box (freeB P f r b i = (decide (parN P (fun8 P f) ≤ r) && frB P f r b i)) := hid rfl
  have hparN : parN P (fun8 P f) = (P.sigs.getD (fun8 P f).sig.toNat ([], 0, 0)).1.length := by unfold parN; rw [if_pos hsg]
  rw [hparN] at HFB
  have hh := inB_iff.1 hsg
  obtain ⟨s, hs'⟩ : ∃ s : Nat, (fun8 P f).sig = (s : Int) := ⟨(fun8 P f).sig.toNat, by omega⟩
  rw [hs'] at c0 hh HFB
  rw [Int.toNat_natCast] at HFB
  obtain ⟨sb, so, rfl, hsgc⟩ := r1.at (j := s) (y := P.sigs.getD s ([], 0, 0)) (getD_get (by omega))
  obtain ⟨ta, tp, ct, _⟩ := hsgc.c0
  have hl := hh.2
  have hf' : (f : Int) < (P.funcs.length : Int) := by omega
  have ka := Keeps.alloc [] w (.cells #[.int .i64 (f : Int), .int .i64 (b : Int), .int .i64 (i : Int)] 43)
  have hnew := heap_new w (.cells #[.int .i64 (f : Int), .int .i64 (b : Int), .int .i64 (i : Int)] 43)
  have HCO : Box (∀ (w' : World) (b i : Nat), Keeps [] w w' → IsPt P f b i → Calls Tryd.prog 42 #[.pointer (some ⟨pb, po, none⟩), ptV f b i] w' (CodePost w' P f b i)) := hid fun w' b i k hp => code_any (PrC.stays _ _ _ _ _ k h) hs f b i hp
  have HNX : Box (∀ (w' : World) (b i : Nat), Keeps [] w w' → IsPt P f b i → Calls Tryd.prog 44 #[.pointer (some ⟨pb, po, none⟩), ptV f b i] w' (NexNew w' P f b i)) := hid fun w' b i k hp => hnx w' b i (PrC.stays _ _ _ _ _ k h) hp
  have HS0 : Box (FrS P f r b i [(f, 0, 0)] 0) := hid (FrS.begin hf hb6 hb0)
  have HP := hid hp
  have HPT : Box (∀ (S : List (Nat × Nat × Nat)) k, FrS P f r b i S k → S.length ≤ 150) := hid fun S k h => Nat.le_trans h.len hs.pt
  have HNO : Box (∀ (S : List (Nat × Nat × Nat)) k, FrS P f r b i S k → S.drop k = [] → frB P f r b i = false) := hid fun S k h h2 => FrS.none hr hb6 hp h h2
  have HAD : Box (∀ (S : List (Nat × Nat × Nat)) k q m x, FrM P f r b i S k q m → m < (nex8 P f q.2.1 q.2.2).length → (nex8 P f q.2.1 q.2.2).getD m (0, 0, 0) = x → x ∉ S → FrM P f r b i (S ++ [x]) k q (m + 1)) := hid fun S k q m x h1 h2 h3 h4 => FrM.add hr hb6 hb0 h1 h2 h3 h4
  have g1 := cell_stays ka c1
  have g4 := cell_stays ka h4
  have g0 := cell_stays ka c0
  have gt := cell_stays ka ct
  have HKA := hid ka
  have HB := hid hnew
  unfold ptV
  clear hb6 hb0 c1 r1 H h4 hfu hfu0 c0 hparN hsgc ct ka hnew hsg hh hs' h hs hp hnx
  generalize (P.sigs.getD s ([], 0, 0)).1.length = T at *
  generalize P.funcs.length = NF at *
  generalize P.sigs.length = NS at *
  go_enter Tryd.func18, Tryd.ntmps18
  go_upto_region 1 with fail
  generalize hbx : w.heap.size = bx at *
  generalize w.alloc (.cells #[.int .i64 (f : Int), .int .i64 (b : Int), .int .i64 (i : Int)] 43) = W at *
  by_cases hrT : r < T
  · have hrT' : (r : Int) < (T : Int) := by omega
    have HV : Box (freeB P f r b i = false) := hid (by rw [HFB.out, decide_eq_false (by omega)]; rfl)
    go_quiet (fail)
    go_wp2
    go_ret
    exact ⟨by rw [HV.out]; rfl, HKA.out.quiet (Keeps.drewN [] _ _)⟩
  · have hrT' : ¬ (r : Int) < (T : Int) := by omega
    rw [decide_eq_true (by omega : T ≤ r), Bool.true_and] at HFB
    have HWB : Box (∀ w', Keeps [] W w' → w'.cell? ⟨bx, 1, none⟩ = some (.int .i64 (b : Int)) ∧ w'.cell? ⟨bx, 2, none⟩ = some (.int .i64 (i : Int))) := hid fun w' k => ⟨cell_stays k (hcell HB.out 1), cell_stays k (hcell HB.out 2)⟩
    go_quiet (fail)
    have KQ := Keeps.drewN [] W nq
    generalize W.drewN nq = W1 at *
    obtain ⟨w2, hput, hseen, hk2⟩ := (PSeen.made W1).put ((f : Int), 0, 0) (by simp)
    have hput' : (Instr.mapUpdate 87 (.map (some W1.heap.size)) (.agg #[.int .i64 (f : Int), .int .i64 0, .int .i64 0]) (.bool true)).run Tryd.prog (W1.alloc (.map #[] 0)) = .ok () w2 := hput
    have hmk : ∀ w, (Instr.makeMap 87 none).run Tryd.prog w = .ok (.map (some w.heap.size)) (w.alloc (.map #[] 0)) := fun w => by kernel_rfl
    clear hput g1 g4 g0 gt hl hf' hrT hrT'
    go_upto_region 4 with fail
    obtain ⟨M, hM⟩ : ∃ M, W1.heap.size = M := ⟨_, rfl⟩
    rw [hM] at hseen hk2 ⊢
    have HWM : Box (W.heap.size ≤ M) := hid (by rw [← hM]; exact KQ.size)
    have hM2 : M < w2.heap.size := hseen.lt
    have HQ0 : Box (FQ W (w2.alloc (.cells #[.int .i64 (f : Int), .int .i64 0, .int .i64 0] 43)) M (.slice (some ⟨w2.heap.size, 0, none⟩) 1 1) [(f, 0, 0)] 0) := hid
      ⟨hseen.kept (Keeps.alloc [] _ _) (by simp), pline_one w2 (M + 1) (f : Int) 0 0 hM2, ((KQ.quiet (Keeps.alloc [] W1 (.map #[] 0))).fresh hk2 (fun x hx => by have := KQ.size; simp at hx; omega)).quiet (Keeps.alloc [] _ _)⟩
    clear hput' hseen hk2 KQ hM2
    go_wp2_with fail
    go_upto_region 5 with fail
    generalize w2.alloc (.cells #[.int .i64 (f : Int), .int .i64 0, .int .i64 0] 43) = W3 at *
    generalize Value.slice (some ⟨w2.heap.size, 0, none⟩) 1 1 = v0 at *
    clear hM hmk
    go_loopg [10] 151 (fun gq lv wr => ∃ (S : List (Nat × Nat × Nat)) (k : Nat) (v : Value), v = lv ∧ k + gq = 151 ∧ Box (FrS P f r b i S k) ∧ Box (FQ W wr M v S k))
    case atStart => exact ⟨[(f, 0, 0)], 0, v0, rfl, rfl, HS0, HQ0⟩
    case round =>
      clear HS0 HQ0
      obtain ⟨S, k, v, rfl, hgk, HF, HQ⟩ := hrel
      obtain ⟨l, hl⟩ : ∃ l, S.drop k = l := ⟨_, rfl⟩
      have HL : Box (PLine wr (M + 1) v (l.map ptI)) := hid (by have := HQ.out.line; rw [hl] at this; exact this)
      cases l with
      | nil =>
        have HV : Box (freeB P f r b i = false) := hid (by rw [HFB.out]; exact HNO.out S k HF.out hl)
        obtain ⟨g, off, cap, rfl, -⟩ := HL.out.val
        clear hl
        go_wp2
        go_ret
        exact ⟨by rw [HV.out]; rfl, HKA.out.quiet HQ.out.keep⟩
      | cons q l =>
        obtain ⟨hq, hdr⟩ := drop_cons hl
        obtain ⟨q1, bq, iq⟩ := q
        obtain ⟨hq1, hqp, hqf⟩ := HF.out.good _ (List.mem_of_getElem? hq)
        simp only at hq1 hqp hqf
        have hq1' := hq1.symm
        subst hq1'
        obtain ⟨g, off, cap, rfl, hcc0, hmx, d0, d1, d2, hgt, heq⟩ := PLine.first (q := ptI (f, bq, iq)) HL.out
        have d0' : wr.cell? ⟨g, off, none⟩ = some (.int .i64 (f : Int)) := d0
        have d1' : wr.cell? ⟨g, off + 1, none⟩ = some (.int .i64 (bq : Int)) := d1
        have d2' : wr.cell? ⟨g, off + 2, none⟩ = some (.int .i64 (iq : Int)) := d2
        have hlc : l.length + 1 ≤ cap := by
          obtain ⟨g', off', cap', e, _, _, _, h9⟩ := HL.out.val
          simp only [List.length_cons, List.length_map] at h9
          cases e
          exact h9
        have hMid : ∃ v2, PLine wr (M + 1) v2 (l.map ptI) ∧ (cap = 1 → l.length = 0 ∧ v2 = .slice (some ⟨g, off, none⟩) 0 0) ∧ (cap ≠ 1 → v2 = .slice (some ⟨g, off + 3, none⟩) l.length (cap - 1)) := by
          by_cases hc : cap = 1
          · obtain ⟨h8, h9⟩ := heq hc
            have hle : l = [] := List.map_eq_nil_iff.1 h8
            subst hle
            exact ⟨_, h9, fun _ => ⟨rfl, rfl⟩, fun h => absurd hc h⟩
          · have := hgt (by omega)
            rw [List.length_map] at this
            exact ⟨_, this, fun h => absurd h hc, fun _ => rfl⟩
        obtain ⟨v2, hw2, hv1, hv2⟩ := hMid
        have hkl : k < S.length := (List.getElem?_eq_some_iff.1 hq).1
        have k5 := Keeps.alloc [] wr (.cells #[.int .i64 (f : Int), .int .i64 (bq : Int), .int .i64 (iq : Int)] 43)
        have HQ5 : Box (FQ W (wr.alloc (.cells #[.int .i64 (f : Int), .int .i64 (bq : Int), .int .i64 (iq : Int)] 43)) M v2 S (k + 1)) := hid (FQ.quiet ⟨HQ.out.seen, by rw [hdr]; exact hw2, HQ.out.keep⟩ k5)
        have HBQ := hid (heap_new wr (.cells #[.int .i64 (f : Int), .int .i64 (bq : Int), .int .i64 (iq : Int)] 43))
        have HAT := hid hq
        have HQP := hid hqp
        have HLE : Box (k + 1 ≤ S.length) := hid hkl
        have hS := HPT.out S k HF.out
        have hkg : k + 1 ≤ 150 := by omega
        rw [List.length_map]
        obtain ⟨ll, hll⟩ : ∃ ll, l.length = ll := ⟨_, rfl⟩
        rw [hll] at hlc hv1 hv2 ⊢
        have hl1 : (1 : Int) ≤ ((ll + 1 : Nat) : Int) := by omega
        have hcc : (1 : Int) ≤ (cap : Int) := by omega
        clear hw2 HL HQ d0 d1 d2 hgt heq k5 hdr hl hq hqp hqf hkl hll
        go_upto_region 7 with fail
        generalize wr.alloc (.cells #[.int .i64 (f : Int), .int .i64 (bq : Int), .int .i64 (iq : Int)] 43) = W5 at *
        generalize wr.heap.size = qb at *
        go_cut [10] (fun t10 wz => t10 = v2 ∧ wz = W5)
        case first =>
          by_cases hc1 : cap = 1
          · subst hc1
            obtain ⟨hl0, hv3⟩ := hv1 rfl
            subst hl0
            subst hv3
            clear hv1 hv2
            go_wp2_with fail
            go_meet
            exact ⟨rfl, rfl⟩
          · have hv3 := hv2 hc1
            subst hv3
            clear hv1 hv2
            go_wp2_with fail
            go_meet
            exact ⟨rfl, rfl⟩
        case rest =>
          obtain ⟨hv10, hwz⟩ := hcut
          subst hv10
          have hwz' := hwz.symm
          subst hwz'
          obtain ⟨e1, e2⟩ := HWB.out _ HQ5.out.keep
          have b0 := hcell HBQ.out 0
          have b1 := hcell HBQ.out 1
          have b2 := hcell HBQ.out 2
          clear d0' d1' d2' hlc hl1 hcc hmx hv1 hv2 hwz
          go_upto_region 8 with fail
          go_cut [62] (fun t62 wz => t62 = .bool (decide (bq = b ∧ iq = i)) ∧ wz = W5)
          case first =>
            by_cases eb : bq = b
            · subst eb
              by_cases ei : iq = i
              · subst ei
                go_wp2_with fail
                go_meet
                exact ⟨by simp, rfl⟩
              · have o2 : ((iq : Int) == (i : Int)) = false := by simpa using (fun h => ei (by omega))
                have HD : Box (decide (bq = bq ∧ iq = i) = false) := hid (by simp [ei])
                clear ei
                go_wp2_with fail
                go_meet
                exact ⟨by rw [HD.out], rfl⟩
            · have o2 : ((bq : Int) == (b : Int)) = false := by simpa using (fun h => eb (by omega))
              have HD : Box (decide (bq = b ∧ iq = i) = false) := hid (by simp [eb])
              clear eb
              go_wp2_with fail
              go_meet
              exact ⟨by rw [HD.out], rfl⟩
          case rest =>
            obtain ⟨rfl, hwz⟩ := hcut
            have hwz' := hwz.symm
            subst hwz'
            clear hwz
            by_cases hqe : bq = b ∧ iq = i
            · obtain ⟨eb, ei⟩ := hqe
              subst eb
              subst ei
              have HV : Box (freeB P f r bq iq = true) := hid (by rw [HFB.out]; exact HF.out.yes HAT.out)
              go_wp2_with fail
              go_ret
              exact ⟨by rw [HV.out]; rfl, HKA.out.quiet HQ5.out.keep⟩
            · have HNE : Box (((f, bq, iq) : Nat × Nat × Nat) ≠ (f, b, i)) := hid (fun e => hqe (by simpa using e))
              rw [decide_eq_false hqe]
              clear hqe e1 e2
              have HC1 := hid (HCO.out W5 bq iq (HKA.out.quiet HQ5.out.keep) HQP.out)
              unfold ptV at HC1
              go_upto_region 11 with (go_at_call 42; refine HC1.out.mono ?_; intro e w6 h6; obtain ⟨x, ok, ar, rfl, k6, ⟨aa, an, ac, rfl⟩, hda⟩ := code_form h6; unfold insV)
              have ka := Keeps.alloc [] w6 (.cells #[.int .i64 x.op, .int .i64 x.dst, .int .i64 x.a, .int .i64 x.b, .int .i64 x.n, .slice aa an ac] 65)
              have hci := heap_new w6 (.cells #[.int .i64 x.op, .int .i64 x.dst, .int .i64 x.a, .int .i64 x.b, .int .i64 x.n, .slice aa an ac] 65)
              have HQ6 := hid (HQ5.out.quiet (k6.quiet ka))
              have HB6 : Box (∀ w', Keeps [] (w6.alloc (.cells #[.int .i64 x.op, .int .i64 x.dst, .int .i64 x.a, .int .i64 x.b, .int .i64 x.n, .slice aa an ac] 65)) w' → w'.cell? ⟨qb, 0, none⟩ = some (.int .i64 (f : Int)) ∧ w'.cell? ⟨qb, 1, none⟩ = some (.int .i64 (bq : Int)) ∧ w'.cell? ⟨qb, 2, none⟩ = some (.int .i64 (iq : Int))) := hid fun w' k' => ⟨cell_stays ((k6.quiet ka).quiet k') b0, cell_stays ((k6.quiet ka).quiet k') b1, cell_stays ((k6.quiet ka).quiet k') b2⟩
              have HDA := hid (hda r)
              have i0 := hcell hci 0
              have i1 := hcell hci 1
              have i2 := hcell hci 2
              have i3 := hcell hci 3
              have i4 := hcell hci 4
              have i5 := hcell hci 5
              clear ka hci k6 h6 hda HQ5 b0 b1 b2 HBQ HC1
              generalize w6.alloc (.cells #[.int .i64 x.op, .int .i64 x.dst, .int .i64 x.a, .int .i64 x.b, .int .i64 x.n, .slice aa an ac] 65) = W6 at *
              generalize w6.heap.size = cb at *
              have HD1 := hid (rdef_any x (.slice aa an ac) W6)
              unfold insV defV at HD1
              go_upto_region 12 with (go_at_call 43; refine HD1.out.mono ?_; rintro e w7 ⟨rfl, k7⟩)
              have HQ7 := hid (HQ6.out.quiet k7)
              have HB7 : Box (∀ w', Keeps [] w7 w' → w'.cell? ⟨qb, 0, none⟩ = some (.int .i64 (f : Int)) ∧ w'.cell? ⟨qb, 1, none⟩ = some (.int .i64 (bq : Int)) ∧ w'.cell? ⟨qb, 2, none⟩ = some (.int .i64 (iq : Int))) := hid fun w' k' => HB6.out w' (k7.quiet k')
              clear HQ6 HB6 k7 HD1 i0 i1 i2 i3 i4 i5
              have HDB : Box (defAt P f r bq iq = (ok && (isDef x && decide ((if isDef x = true then x.dst else 0) = (r : Int))))) := hid (by
                rw [HDA.out]
                unfold defsR
                cases isDef x with
                | false => simp
                | true => rw [if_pos rfl])
              clear HDA
              generalize (if isDef x = true then x.dst else 0) = dd at *
              generalize isDef x = df at *
              go_cut [82] (fun t82 wz => t82 = .bool (defAt P f r bq iq) ∧ wz = w7)
              case first =>
                cases ok with
                | false =>
                  rw [Bool.false_and] at HDB
                  go_wp2_with fail
                  go_meet
                  exact ⟨by rw [HDB.out], rfl⟩
                | true =>
                  cases df with
                  | false =>
                    rw [Bool.false_and, Bool.and_false] at HDB
                    go_wp2_with fail
                    go_meet
                    exact ⟨by rw [HDB.out], rfl⟩
                  | true =>
                    rw [Bool.true_and, Bool.true_and] at HDB
                    by_cases edr : dd = (r : Int)
                    · rw [decide_eq_true edr] at HDB
                      have o2 : (dd == (r : Int)) = true := by simpa using edr
                      clear edr
                      go_wp2_with fail
                      go_meet
                      exact ⟨by rw [HDB.out], rfl⟩
                    · rw [decide_eq_false edr] at HDB
                      have o2 : (dd == (r : Int)) = false := by simpa using edr
                      clear edr
                      go_wp2_with fail
                      go_meet
                      exact ⟨by rw [HDB.out], rfl⟩
              case rest =>
                obtain ⟨rfl, hwz⟩ := hcut
                have hwz' := hwz.symm
                subst hwz'
                clear hwz HDB
                cases hdf : defAt P f r bq iq with
                | true =>
                  have HF2 := hid (HF.out.pass HAT.out HNE.out hdf)
                  clear hdf
                  go_wp2_with fail
                  go_roundg (gk - 1)
                  case measure => omega
                  case rel => exact ⟨S, k + 1, _, rfl, by omega, HF2, HQ7⟩
                | false =>
                  have HM0 : Box (FrM P f r b i S k (f, bq, iq) 0) := hid ⟨HF.out, HAT.out, HNE.out, hdf, fun y hy => by simp at hy⟩
                  clear hdf
                  have HN1 := hid (HNX.out w7 bq iq (HKA.out.quiet HQ7.out.keep) HQP.out)
                  unfold ptV at HN1
                  obtain ⟨b0, b1, b2⟩ := HB7.out _ (Keeps.refl _ _)
                  go_upto_region 14 with (go_at_call 44; refine HN1.out.mono ?_; rintro e w8 ⟨na, ncp, rfl, hrows, k8, hnew8⟩)
                  have HX0 := hid (NX.begin (lv := u10) hrows hnew8 HQ7.out.seen.lt (fun x hx => (HQ7.out.own x hx).2))
                  have HQ8 := hid (HQ7.out.quiet k8)
                  have HGO : Box (∀ (S : List (Nat × Nat × Nat)) m x, FrM P f r b i S k (f, bq, iq) m → m < (nex8 P f bq iq).length → (nex8 P f bq iq).getD m (0, 0, 0) = x → x ∈ S → FrM P f r b i S k (f, bq, iq) (m + 1)) := hid fun S m x h1 h2 h3 h4 => h1.go h2 h3 h4
                  have HAA : Box (∀ (S : List (Nat × Nat × Nat)) m x, FrM P f r b i S k (f, bq, iq) m → m < (nex8 P f bq iq).length → (nex8 P f bq iq).getD m (0, 0, 0) = x → x ∉ S → FrM P f r b i (S ++ [x]) k (f, bq, iq) (m + 1)) := hid fun S m x h1 h2 h3 h4 => HAD.out S k (f, bq, iq) m x h1 h2 h3 h4
                  have HEN : Box (∀ (S : List (Nat × Nat × Nat)) m, FrM P f r b i S k (f, bq, iq) m → (nex8 P f bq iq).length ≤ m → FrS P f r b i S (k + 1)) := hid fun S m h1 h2 => h1.end h2
                  have HML : Box (∀ (S : List (Nat × Nat × Nat)) m, FrM P f r b i S k (f, bq, iq) m → k + 1 ≤ S.length ∧ S.length ≤ 150) := hid fun S m h1 => ⟨(List.getElem?_eq_some_iff.1 h1.at').1, HPT.out S k h1.base⟩
                  have hnl := nex_lenY P f bq iq
                  generalize nex8 P f bq iq = L at *
                  obtain ⟨nl, hnle⟩ : ∃ nl, L.length = nl := ⟨_, rfl⟩
                  have HNL := hid hnle
                  rw [hnle] at hnl ⊢
                  clear hrows k8 hnew8 HN1 b0 b1 b2 HB7 HQ7 hnle HF HAT HNE HLE
                  go_wp2_with fail
                  go_loopw [10, 17] (fun lv kv wr2 => ∃ (S' : List (Nat × Nat × Nat)) (v' : Value) (m : Nat), v' = lv ∧ kv = .int .i64 (m : Int) ∧ m ≤ nl ∧ Box (FrM P f r b i S' k (f, bq, iq) m) ∧ Box (FQ W wr2 M v' S' (k + 1)) ∧ Box (NX wr2 M v' na L)) (fun _ kv _ => nl - (intOf kv).toNat)
                  case atStart => exact ⟨S, _, 0, rfl, rfl, by omega, HM0, HQ8, HX0⟩
                  case round =>
                    clear HM0 HQ8 HX0
                    obtain ⟨S', v', m, rfl, rfl, hm, HFM, HQ, HX⟩ := hrel
                    by_cases hlt : m < nl
                    · have hlt' : (m : Int) < (nl : Int) := by omega
                      have hlt2 : m < L.length := by rw [HNL.out]; exact hlt
                      obtain ⟨x, hx⟩ : ∃ x, L.getD m (0, 0, 0) = x := ⟨_, rfl⟩
                      have hxg : L[m]? = some x := by rw [← hx]; exact getD_get hlt2
                      obtain ⟨ng, no, rfl, hpc⟩ := HX.out.at hxg
                      obtain ⟨xf, xb, xi⟩ := x
                      have z0 := hpc.c0
                      have z1 := hpc.c1
                      have z2 := hpc.c2
                      simp only at z0 z1 z2
                      have hlk := HQ.out.seen.look (ptI (xf, xb, xi))
                      have hlk' : (Instr.lookup 87 (.map (some M)) (.agg #[.int .i64 (xf : Int), .int .i64 (xb : Int), .int .i64 (xi : Int)]) false).run Tryd.prog wr = .ok (.bool (decide (ptI (xf, xb, xi) ∈ S'.map ptI))) wr := hlk
                      clear hlk hpc
                      by_cases hin : (xf, xb, xi) ∈ S'
                      · have HF2 := hid (HGO.out S' m _ HFM.out hlt2 hx hin)
                        rw [decide_eq_true (mem_ptI.2 hin)] at hlk'
                        clear hin hxg hx hlt2
                        go_wp2_with fail
                        go_roundw
                        case rel => exact ⟨S', v', m + 1, rfl, by go_num, by omega, HF2, HQ, HX⟩
                        case measure => simp [intOf]; omega
                      · have HF2 := hid (HAA.out S' m _ HFM.out hlt2 hx hin)
                        have hni : ptI (xf, xb, xi) ∉ S'.map ptI := fun h => hin (mem_ptI.1 h)
                        rw [decide_eq_false hni] at hlk'
                        obtain ⟨w3, hput, hseen3, k3⟩ := HQ.out.seen.put (ptI (xf, xb, xi)) hni
                        have hput' : (Instr.mapUpdate 87 (.map (some M)) (.agg #[.int .i64 (xf : Int), .int .i64 (xb : Int), .int .i64 (xi : Int)]) (.bool true)).run Tryd.prog wr = .ok () w3 := hput
                        have HX3 := hid (HX.out.put k3)
                        have HS3 := hid hseen3
                        have HK3 := hid k3
                        obtain ⟨ng', no', e9, hpc3⟩ := HX3.out.at hxg
                        simp only [Option.some.injEq, Addr.mk.injEq, and_true] at e9
                        obtain ⟨e8, e9⟩ := e9
                        subst e8
                        subst e9
                        have y0 := hpc3.c0
                        have y1 := hpc3.c1
                        have y2 := hpc3.c2
                        simp only at y0 y1 y2
                        have HML' := HML.out S' m HFM.out
                        have hml2 : S'.length ≤ 150 := HML'.2
                        have hln : (S'.drop (k + 1)).length < 1000000 := by rw [List.length_drop]; omega
                        have HLN : Box (((S'.drop (k + 1)).map ptI).length < 1000000) := hid (by rw [List.length_map]; exact hln)
                        have HL3 : Box (PLine w3 (M + 1) v' ((S'.drop (k + 1)).map ptI)) := hid (HQ.out.line.kept k3 (fun x hx => by have := HQ.out.own x hx; simp; omega))
                        have HMW : Box (M + 1 ≤ w3.heap.size) := hid hseen3.lt
                        have HN3 : Box (∀ j u, (pc ((xf : Int), (xb : Int), (xi : Int)))[j]? = some u → (w3.alloc (.cells #[.int .i64 (xf : Int), .int .i64 (xb : Int), .int .i64 (xi : Int)] 43)).cell? ((⟨w3.heap.size, 0, none⟩ : Addr).add j) = some u) := hid (fun j u hu => by
                          have hnw := heap_new w3 (.cells #[.int .i64 (xf : Int), .int .i64 (xb : Int), .int .i64 (xi : Int)] 43)
                          rw [Addr.add_lit, hcell hnw (0 + j), Nat.zero_add]
                          rw [← hu]
                          unfold pc
                          match j with
                          | 0 => rfl
                          | 1 => rfl
                          | 2 => rfl
                          | j + 3 => rfl)
                        clear hput hseen3 k3 hin hni hxg hx hlt2 hpc3 hln
                        have hkl : k + 1 ≤ S'.length := HML'.1
                        have HKL := hid hkl
                        clear hkl HML' hml2
                        go_upto_region 19 with fail
                        clear z0 z1 z2 hlk' hput'
                        obtain ⟨g5, off5, cap5, hv5, -⟩ := HL3.out.val
                        subst hv5
                        go_wp2_with (at_builtin; go_must (refine wpList_append_pts _ rfl _ _ rfl (M + 1) (Nat.le_trans HMW.out (by simp)) ((S'.drop (k + 1)).map ptI) ((xf : Int), (xb : Int), (xi : Int)) _ rfl (HL3.out.kept (Keeps.alloc [] _ _) (fun _ _ => by simp)) ⟨w3.heap.size, 0, none⟩ 1 rfl HN3.out HLN.out ?_; intro v6 w6 hl6 k6 hat6))
                        have HQ9 := hid (HQ.out.add HWM.out HKL.out HS3.out HK3.out (Keeps.alloc [] w3 (.cells #[.int .i64 (xf : Int), .int .i64 (xb : Int), .int .i64 (xi : Int)] 43)) hl6 k6)
                        have HX9 := hid ((HX3.out.quiet (Keeps.alloc [] w3 (.cells #[.int .i64 (xf : Int), .int .i64 (xb : Int), .int .i64 (xi : Int)] 43))).push k6 hat6)
                        clear hl6 k6 hat6
                        go_roundw
                        case rel => exact ⟨_, v6, m + 1, rfl, by go_num, by omega, HF2, HQ9, HX9⟩
                        case measure => simp [intOf]; omega
                    · obtain rfl : m = nl := by omega
                      have HF2 := hid (HEN.out S' m HFM.out (by rw [HNL.out]; exact Nat.le_refl _))
                      go_wp2_with fail
                      go_roundg (gk - 1)
                      case measure => omega
                      case rel => exact ⟨S', k + 1, v', rfl, by omega, HF2, HQ⟩
theorem rfree_any {w : World} {pb po : Nat} {P : Pr8} (h : PrC w pb po P) (hs : Sm8 P) {f b i r : Nat} (hp : IsPt P f b i) (hsg : inB (fun8 P f).sig P.sigs.length = true) (hr : r < 5000) :
    Calls Tryd.prog 18 #[.pointer (some ⟨pb, po, none⟩), .int .i64 (f : Int), .int .i64 (r : Int), ptV f b i] w fun e w' => e = .returned (.bool (freeB P f r b i)) ∧ Keeps [] w w' :=
  rfree_by h hs hp hsg hr (fun _ b i h hp => rnext_new h hs f b i hp)
end Go.Proofs.YtmebkeidpklcbaaDoor
