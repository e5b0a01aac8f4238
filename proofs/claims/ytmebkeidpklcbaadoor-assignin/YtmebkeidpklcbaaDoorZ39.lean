/-
  Contract: the document's own Assign.
-/
import Derived.Deep.DeepCutAuto
import Derived.Deep.RegionWith
import Derived.Test.YtmebkeidpklcbaaDoorZ16
import Derived.Test.YtmebkeidpklcbaaDoorZ34
import Derived.Test.YtmebkeidpklcbaaDoorZ37
import Derived.Test.YtmebkeidpklcbaaDoorZ38

namespace Go.Proofs.YtmebkeidpklcbaaDoor
open Go.RowKit

theorem pts_backY {p : Pr8} {n : Nat} (h : n < (pts p).length) : ∃ f b i, IsPt p f b i ∧ (pts p)[n]? = some (f, b, i) := by
  have hm : (pts p)[n] ∈ pts p := List.getElem_mem h
  obtain ⟨f, b, i, e⟩ : ∃ f b i, (pts p)[n] = (f, b, i) := ⟨(pts p)[n].1, (pts p)[n].2.1, (pts p)[n].2.2, rfl⟩
  rw [e] at hm
  exact ⟨f, b, i, mem_pts.1 hm, by rw [List.getElem?_eq_getElem h, e]⟩
theorem find_at {B : Nat × Nat × Nat → Bool} {l : List (Nat × Nat × Nat)} {n : Nat} {q : Nat × Nat × Nat} (hq : l[n]? = some q) (hw : Well B (l.take n)) (hb : B q = true) : l.find? B = some q := by
  have hn := (List.getElem?_eq_some_iff.1 hq).1
  have e : l = l.take n ++ q :: l.drop (n + 1) := by
    have h1 := List.drop_eq_getElem_cons hn
    have h2 := (List.getElem?_eq_some_iff.1 hq).2
    rw [← h2, ← h1, List.take_append_drop]
  rw [e, List.find?_append, List.find?_eq_none.2 (fun x hx => by simp [hw x hx]), List.find?_cons_of_pos hb]
  rfl
set_option maxRecDepth 20000 in
set_option maxHeartbeats 8000000 in
theorem rassign_any {w : World} {pb po : Nat} {P : Pr8} (h : PrC w pb po P) (hs : Sm8 P) (hfew : FewA P) (hnm : namesO P = none) (hrg : ∀ f, f < P.funcs.length → (fun8 P f).regs.length ≤ 1000) :
    Calls Tryd.prog 20 #[.pointer (some ⟨pb, po, none⟩)] w (PtPost ((pts P).find? (rbadP P)) w) := by
  have ka := Keeps.alloc [] w (.cells #[.int .i64 0, .int .i64 0, .int .i64 0] 43)
  have HN0 := hid (heap_new w (.cells #[.int .i64 0, .int .i64 0, .int .i64 0] 43))
  have FIN := hid fun (W' : World) (u0 u1 u2 : Value) (k : Keeps [] (w.alloc (.cells #[.int .i64 0, .int .i64 0, .int .i64 0] 43)) W') => (ka.quiet k).trans (keeps3 W' w.heap.size u0 u1 u2) (fun x hx hl => by simp at hx; omega)
  have HPO := hid (rpoints_any (PrC.stays _ _ _ _ _ ka h) hs)
  have HRD : Box (∀ (w' : World) (f b i : Nat), Keeps [] (w.alloc (.cells #[.int .i64 0, .int .i64 0, .int .i64 0] 43)) w' → IsPt P f b i → Calls Tryd.prog 48 #[.pointer (some ⟨pb, po, none⟩), ptV f b i] w' fun e w'' => ∃ a cp, e = .returned (.slice a (readsL P (f, b, i)).length cp) ∧ IntsAt w'' a (readsL P (f, b, i)) ∧ Keeps [] w' w'') := hid fun w' f b i k hp => rreads_any (PrC.stays _ _ _ _ _ (ka.quiet k) h) hs hfew hp
  have HFR : Box (∀ (w' : World) (f b i : Nat) (z : Int), Keeps [] (w.alloc (.cells #[.int .i64 0, .int .i64 0, .int .i64 0] 43)) w' → IsPt P f b i → z ∈ readsL P (f, b, i) → Calls Tryd.prog 18 #[.pointer (some ⟨pb, po, none⟩), .int .i64 (f : Int), .int .i64 z, ptV f b i] w' fun e w'' => e = .returned (.bool (freeB P f z.toNat b i)) ∧ Keeps [] w' w'') := hid fun w' f b i z k hp hz => by
    have h1 := inB_iff.1 (names_reads hnm hp z hz)
    have h2 := hrg f hp.1
    obtain ⟨r, rfl⟩ := Int.eq_ofNat_of_zero_le h1.1
    have hsg : inB (fun8 P f).sig P.sigs.length = true := by
      have := names_head hnm hp.1
      unfold headOk at this
      rw [Bool.and_eq_true] at this
      exact this.1
    exact rfree_any (PrC.stays _ _ _ _ _ (ka.quiet k) h) hs hp hsg (by omega)
  have HRLN : Box (∀ (f b i : Nat), IsPt P f b i → (readsL P (f, b, i)).length ≤ 2000000) := hid fun f b i hp => by
    unfold readsL
    split
    · next hi =>
      have := hfew f b i hp.1 hp.2.1 hi
      have h2 := usesL_len (ins8 (blk8 (fun8 P f) b) i)
      simp only at h2 ⊢
      omega
    · split <;> simp
  have HBK := hid fun (n : Nat) (hn : n < (pts P).length) => pts_backY hn
  have hpl := hs.pt
  unfold ptV at HRD HFR
  have HKA := hid ka
  clear h hs hfew hnm hrg ka
  obtain ⟨N, hNe⟩ : ∃ N, (pts P).length = N := ⟨_, rfl⟩
  have HN := hid hNe
  rw [hNe] at HPO HBK hpl
  clear hNe
  go_enter Tryd.func20, Tryd.ntmps20
  go_upto_region 1 with fail
  generalize hbx : w.heap.size = bx at *
  generalize w.alloc (.cells #[.int .i64 0, .int .i64 0, .int .i64 0] 43) = W at *
  clear hbx
  go_upto_region 2 with (go_at_call 47; refine HPO.out.mono ?_; rintro e w1 ⟨la, lcp, rfl, hrows, k1⟩)
  have HRO := hid hrows
  have HK1 := hid k1
  clear hrows k1 HPO
  go_wp2_with fail
  go_loopw [5] (fun i wr => ∃ n : Nat, n ≤ N ∧ i = .int .i64 (n : Int) ∧ Box (Keeps [] w1 wr) ∧ Box (Well (rbadP P) ((pts P).take n))) (fun i _ => N - (intOf i).toNat)
  case atStart => exact ⟨0, by omega, rfl, hid (Keeps.refl _ _), hid (by rw [List.take_zero]; exact Well.nil _)⟩
  case round =>
    obtain ⟨n, hn, rfl, HK, HW⟩ := hrel
    by_cases hlt : n < N
    · have hlt' : (n : Int) < (N : Int) := by omega
      obtain ⟨f, b, i, hp, hq⟩ := HBK.out n hlt
      obtain ⟨lb, lo, rfl, hpc⟩ := HRO.out.at hq
      have CP : Box (∀ w', Keeps [] w1 w' → w'.cell? ⟨lb, lo + n * 3, none⟩ = some (.int .i64 (f : Int)) ∧ w'.cell? ⟨lb, lo + n * 3 + 1, none⟩ = some (.int .i64 (b : Int)) ∧ w'.cell? ⟨lb, lo + n * 3 + 2, none⟩ = some (.int .i64 (i : Int))) := hid fun w' k => ⟨cell_stays k hpc.c0, cell_stays k hpc.c1, cell_stays k hpc.c2⟩
      have HTK : Box ((pts P).take (n + 1) = (pts P).take n ++ [(f, b, i)]) := hid (by
        have := take_snoc (pts P) n (0, 0, 0) (by rw [HN.out]; exact hlt)
        rw [List.getD_eq_getElem?_getD, hq] at this
        exact this)
      have HQ := hid hq
      have HRD1 := hid (HRD.out wr f b i (HK1.out.quiet HK.out) hp)
      have HFR1 := hid fun (w' : World) (z : Int) (k : Keeps [] W w') (hz : z ∈ readsL P (f, b, i)) => HFR.out w' f b i z k hp hz
      have hll := HRLN.out f b i hp
      have HBP : Box (rbadP P (f, b, i) = (readsL P (f, b, i)).any fun z => freeB P f z.toNat b i) := hid rfl
      clear hq hpc hp
      generalize readsL P (f, b, i) = RL at *
      obtain ⟨c0, c1, c2⟩ := CP.out _ HK.out
      go_upto_region 6 with (go_at_call 48; refine HRD1.out.mono ?_; rintro e w2 ⟨ua, ucp, rfl, hz2, k2⟩)
      have HZ := hid hz2
      have HK2 := hid (HK.out.quiet k2)
      clear hz2 k2 c0 c1 c2 HRD1 HK
      obtain ⟨ul, hul⟩ : ∃ ul, RL.length = ul := ⟨_, rfl⟩
      have HUL := hid hul
      rw [hul] at hll ⊢
      clear hul
      go_wp2_with fail
      go_loopw [7] (fun i' wr => ∃ k : Nat, k ≤ ul ∧ i' = .int .i64 (k : Int) ∧ Box (Keeps [] w2 wr) ∧ Box (((RL.take k).any fun z => freeB P f z.toNat b i) = false)) (fun i' _ => ul - (intOf i').toNat)
      case atStart => exact ⟨0, by omega, rfl, hid (Keeps.refl _ _), hid (by simp)⟩
      case round =>
        obtain ⟨k, hk, rfl, HK, HA⟩ := hrel
        by_cases hlk : k < ul
        · have hlk' : (k : Int) < (ul : Int) := by omega
          have hlk2 : k < RL.length := by rw [HUL.out]; exact hlk
          rcases HZ.out with h0 | ⟨bz, oz, rfl, hcz⟩
          · exfalso
            rw [h0] at hlk2
            simp at hlk2
          have hc := cell_stays HK.out (hcz k hlk2)
          have HTS := hid (take_snoc RL k 0 hlk2)
          have HMZ := hid (getD_mem RL k 0 hlk2)
          obtain ⟨z, hz⟩ : ∃ z, RL.getD k 0 = z := ⟨_, rfl⟩
          rw [hz] at hc HTS HMZ
          clear hz hlk2 hcz
          obtain ⟨c0, c1, c2⟩ := CP.out _ (HK2.out.quiet HK.out)
          have HFZ := hid fun (w' : World) (k' : Keeps [] wr w') => HFR1.out w' z ((HK1.out.quiet HK2.out).quiet (HK.out.quiet k')) HMZ.out
          go_upto_region 9 with fail
          go_cut [42] (fun t42 wz => t42 = .bool (freeB P f z.toNat b i) ∧ Box (Keeps [] wr wz))
          case first =>
            go_region_with (go_at_call 18; refine (HFZ.out _ (Keeps.drewN [] _ _)).mono ?_; rintro e w5 ⟨rfl, k5⟩)
            all_goals
              go_wp2_with fail
              go_meet
              exact ⟨rfl, hid ((Keeps.drewN [] _ _).quiet k5)⟩
          case rest =>
            obtain ⟨rfl, HK5⟩ := hcut
            clear c0 c1 c2 hc
            cases hfz : freeB P f z.toNat b i with
            | false =>
              have HA2 : Box (((RL.take (k + 1)).any fun z => freeB P f z.toNat b i) = false) := hid (by rw [HTS.out, List.any_append, HA.out]; simp [hfz])
              clear hfz
              go_wp2_with fail
              go_roundw
              case rel => exact ⟨k + 1, by omega, by go_num, hid (HK.out.quiet HK5.out), HA2⟩
              case measure => simp [intOf]; omega
            | true =>
              have HFD : Box ((pts P).find? (rbadP P) = some (f, b, i)) := hid (find_at HQ.out HW.out (by
                rw [HBP.out, List.any_eq_true]
                exact ⟨z, HMZ.out, hfz⟩))
              clear hfz
              have KZ := hid (HK1.out.quiet (HK2.out.quiet (HK.out.quiet HK5.out)))
              obtain ⟨c0, c1, c2⟩ := CP.out _ (HK2.out.quiet (HK.out.quiet HK5.out))
              have hb6' := keep_heap HN0.out KZ.out
              have y0 := hfrozen hb6' 0
              have y1 := hfrozen hb6' 1
              have y2 := hfrozen hb6' 2
              have x0 := hcell hb6' 0
              have x1 := hcell hb6' 1
              have x2 := hcell hb6' 2
              have HB6 := hid hb6'
              clear hb6'
              go_wp2_with fail
              have h3 := set3 HB6.out (.int .i64 (f : Int)) (.int .i64 (b : Int)) (.int .i64 (i : Int))
              have e0 := hcell h3 0
              have e1 := hcell h3 1
              have e2 := hcell h3 2
              exact bodyPost_ret (v := .tuple #[.agg #[.int .i64 (f : Int), .int .i64 (b : Int), .int .i64 (i : Int)], .bool false]) (by simp [results, Tryd.results20, go_sem, e0, e1, e2]) rfl (PtPost.no HFD.out (FIN.out _ _ _ _ KZ.out))
        · obtain rfl : k = ul := by omega
          rw [← HUL.out, List.take_length] at HA
          have HWN := hid (Well.one (B := rbadP P) (q := (f, b, i)) (by rw [HBP.out]; exact HA.out))
          go_wp2_with fail
          go_roundw
          case rel => exact ⟨n + 1, by omega, by go_num, hid (HK2.out.quiet HK.out), hid (by rw [HTK.out]; exact HW.out.app HWN.out)⟩
          case measure => simp [intOf]; omega
    · obtain rfl : n = N := by omega
      have HFD : Box ((pts P).find? (rbadP P) = none) := hid (find_pt_none (by have := HW.out; rw [← HN.out, List.take_length] at this; exact this))
      go_wp2_with (go_at_call 30; refine (nowhere_any _).mono ?_; rintro e w6 ⟨rfl, k6⟩; have hb6 := keep_heap HN0.out (HK1.out.quiet (HK.out.quiet k6)); have K6 := hid (HK1.out.quiet (HK.out.quiet k6)); have y0 := hfrozen hb6 0; have y1 := hfrozen hb6 1; have y2 := hfrozen hb6 2; have x0 := hcell hb6 0; have x1 := hcell hb6 1; have x2 := hcell hb6 2; have HB6 := hid hb6; clear hb6 k6)
      have h3 := set3 HB6.out (.int .i64 (-1)) (.int .i64 0) (.int .i64 0)
      have e0 := hcell h3 0
      have e1 := hcell h3 1
      have e2 := hcell h3 2
      exact bodyPost_ret (v := .tuple #[.agg #[.int .i64 (-1), .int .i64 0, .int .i64 0], .bool true]) (by simp [results, Tryd.results20, go_sem, e0, e1, e2]) rfl (PtPost.yes HFD.out (FIN.out _ _ _ _ K6.out))
end Go.Proofs.YtmebkeidpklcbaaDoor
