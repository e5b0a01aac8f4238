/-
  The statement WorkAll: its walk.
-/
import Derived.Test.YtjfemabgbmadfaaWAllKit
namespace Go.Proofs.Ytjfemabgbmadfaa
open Go.RowKit

set_option maxHeartbeats 20000000 in
set_option maxRecDepth 20000 in
theorem all_core (qa pa : Option Addr) (K capq L cap : Nat) (qs : List Int) (os : List (Bool × Int)) (w : World) (hq : IntsAt w qa qs) (hK : qs.length = K) (hKc : K ≤ capq) (hz : OpsAt w pa os) (hL : os.length = L) (hw : ∀ x, x ∈ os → wfI x.2) (hL2 : L ≤ 9223372036854775807) :
    Calls Try.prog 3 #[.slice qa K capq, .slice pa L cap] w fun e w' => e = .returned (.bool true) ∧ Keeps [] w w' := by
  have HA := hid (begun_any w)
  have HZ := hid hz
  have HL := hid hL
  have HW := hid hw
  have HQ := hid hq
  have HKq := hid hK
  clear hz hL hw hq hK
  go_enter Try.func3, Try.ntmps3
  go_wp2_with fail
  refine HA.out.mono ?_
  rintro e w1 ⟨rfl, hk1⟩
  clear HA
  have HK1 := hid hk1
  clear hk1
  go_upto_if 21 with fail
  go_cut [0] (fun v0 wx => v0 = .slice qa (min K 60) capq ∧ wx = w1)
  case first =>
    by_cases h : 60 < K
    · have hb : decide ((60 : Int) < (K : Int)) = true := decide_eq_true (by omega)
      have hc : 60 ≤ capq := by omega
      have hc2 : (60 : Int) ≤ (capq : Int) := by omega
      go_wp2
      go_meet
      exact ⟨by rw [show min K 60 = 60 by omega], rfl⟩
    · have hb : decide ((60 : Int) < (K : Int)) = false := decide_eq_false (by omega)
      go_wp2
      go_meet
      exact ⟨by rw [show min K 60 = K by omega], rfl⟩
  case rest =>
    obtain ⟨rfl, rfl⟩ := hcut
    have hkn : (qs.take 60).length = min K 60 := by rw [List.length_take, HKq.out]; omega
    have HQ2 := hid (HQ.out.take 60)
    generalize qs.take 60 = picks at hkn HQ2
    have hk60 : min K 60 ≤ 60 := by omega
    generalize min K 60 = kq at hkn hk60
    have HN := hid (new_any qa kq capq picks wc hkn (HQ2.out.kept HK1.out (fun _ _ _ => by simp)) (by omega))
    have HKp := hid hkn
    clear HQ HKq hkn hKc
    go_wp2_with fail
    refine HN.out.mono ?_
    rintro e w2 ⟨p, F, rfl, hh, hk, hF⟩
    have T0 : Box (Two w w2 p F picks [] 0 (.slice none 0 0) []) := hid ⟨⟨hh, HK1.out.quiet hk, fun x hx => Nat.le_trans HK1.out.size (hF x hx)⟩, World.ownsRow_nil w2 _ _ _, fun b hb => by simp [Value.ownBlock] at hb⟩
    clear HN HK1 hh hk hF
    go_wp2_with fail
    go_loopw [7, 8, 9] (fun m q i wr => ∃ (k pops : Nat) (line : List Int) (F : List Nat), k ≤ L ∧ k ≤ 80 ∧ i = .int .i64 (k : Int) ∧ q = .int .i64 (pops : Int) ∧ pops + line.length ≤ k ∧ Box (Two w wr p F picks line pops m line)) (fun _ _ i _ => 80 - (intOf i).toNat)
    case atStart => exact ⟨0, 0, [], F, by omega, by omega, rfl, rfl, by simp, T0⟩
    case round =>
      clear T0
      obtain ⟨k, pops, line, F, hk, hk80, rfl, rfl, hpk, T0⟩ := hrel
      obtain ⟨am, cm, rfl, hB⟩ := T0.out.bes
      obtain ⟨N, hN⟩ : ∃ N, line.length = N := ⟨_, rfl⟩
      rw [hN] at hpk
      by_cases hgo : k < L ∧ k < 80
      · obtain ⟨hlt, hlt80⟩ := hgo
        have hlt' : (k : Int) < (L : Int) := by omega
        have hlt80' : (k : Int) < 80 := by omega
        rcases HZ.out with h0 | ⟨bp, op, rfl, hc⟩
        · have := HL.out
          rw [h0] at this
          simp at this
          omega
        · obtain ⟨c1, c2⟩ := hc k (by rw [HL.out]; exact hlt)
          have hwx : wfI (os.getD k (false, 0)).2 := HW.out _ (by
            rw [List.getD_eq_getElem?_getD, List.getElem?_eq_getElem (by rw [HL.out]; exact hlt)]
            exact List.getElem_mem _)
          have d1 := (T0.out.lone.keep.cell (p := ⟨bp, op + k * 2, none⟩) (block_lt_of_cell c1) (by simp)).trans c1
          have d2 := (T0.out.lone.keep.cell (p := ⟨bp, op + k * 2 + 1, none⟩) (block_lt_of_cell c2) (by simp)).trans c2
          clear c1 c2 hc
          generalize (os.getD k (false, 0)).1 = isPop at d1
          generalize (os.getD k (false, 0)).2 = z at d2 hwx
          cases isPop
          · have T1 := hid (T0.out.quiet (Keeps.alloc [] wr (.cells #[.bool false, .int .i64 z] 28)))
            have B1 : Box (Bes w (wr.alloc (.cells #[.bool false, .int .i64 z] 28)) p F picks line pops am line) := hid (hB.on (hB.lone.quiet (Keeps.alloc [] wr _)).has (Keeps.alloc _ wr _) (Near.refl _ _))
            have hO : (wr.alloc (.cells #[.bool false, .int .i64 z] 28)).cell? ⟨wr.heap.size, 1, none⟩ = some (.int .i64 z) := by rw [cell_of_row _ _ _ _ _ _ (heap_alloc_new wr _)]; rfl
            have HF : Box (wr.heap.size ∉ F ∧ wr.heap.size < (wr.alloc (.cells #[.bool false, .int .i64 z] 28)).heap.size) := hid ⟨fun hx => by have := T0.out.lone.has.lt _ hx; omega, by simp⟩
            have HN := hid hN
            rw [hN]
            go_upto_region 16 with fail
            generalize wr.alloc (.cells #[.bool false, .int .i64 z] 28) = wr1 at T1 B1 hO HF ⊢
            generalize wr.heap.size = ob at hO HF ⊢
            clear T0 hB d1 d2 hN
            rw [HN.out] at T1
            have HC : Box (∀ w9, Keeps [] wr1 w9 → w9.cell? ⟨ob, 1, none⟩ = some (.int .i64 z)) := hid fun w9 k9 => (k9.cell (p := ⟨ob, 1, none⟩) HF.out.2 (by simp)).trans hO
            have hN80 : N ≤ 80 := by omega
            go_loopw [11, 12] (fun t i wx => ∃ j : Nat, j ≤ N ∧ i = .int .i64 (j : Int) ∧ t = .bool (decide (z ∈ line.take j)) ∧ Box (Keeps [] wr1 wx)) (fun _ i _ => N - (intOf i).toNat)
            case atStart => exact ⟨0, by omega, rfl, by simp, hid (Keeps.refl _ _)⟩
            case round =>
              obtain ⟨j, hj, rfl, rfl, KX⟩ := hrel
              by_cases hgo2 : j < N
              · have hgo2' : (j : Int) < (N : Int) := by omega
                have hjl : j < line.length := by rw [HN.out]; exact hgo2
                have e1 := mem_take_succ line z j hjl
                have e0 := HC.out wr KX.out
                rcases (B1.out.ints.kept KX.out (fun _ _ _ => by simp)) with h0 | ⟨bm, om, rfl, hcm⟩
                · rw [h0] at hjl; simp at hjl
                · have e2 := hcm j hjl
                  clear hcm
                  generalize line.getD j 0 = y at e1 e2
                  generalize decide (z ∈ line.take j) = b at e1
                  have E1 := hid e1
                  clear e1
                  cases b
                  · go_wp2
                    go_quiet (fail)
                    go_wp2
                    go_roundw
                    case rel => exact ⟨j + 1, by omega, by go_num, by rw [E1.out]; rfl, hid (KX.out.quiet (Keeps.drewN _ _ _))⟩
                    case measure => simp [intOf]; omega
                  · go_wp2
                    go_quiet (fail)
                    go_wp2
                    go_roundw
                    case rel => exact ⟨j + 1, by omega, by go_num, by rw [E1.out]; rfl, hid (KX.out.quiet (Keeps.drewN _ _ _))⟩
                    case measure => simp [intOf]; omega
              · have hgo2' : ¬ (j : Int) < (N : Int) := by omega
                have hjN : line.take j = line := List.take_of_length_le (by rw [HN.out]; omega)
                rw [hjN]
                have T2 := hid (T1.out.quiet KX.out)
                have e0 := HC.out wr KX.out
                have HP := hid (push_any z T2.out.lone.has hwx (by rw [HN.out]; omega))
                have HF2 : Box (ob ∉ F ∧ ob < wr.heap.size) := hid ⟨HF.out.1, Nat.lt_of_lt_of_le HF.out.2 KX.out.size⟩
                clear T1 B1 HC HF KX hjN
                by_cases hin : z ∈ line
                · rw [decide_eq_true hin, pushed_in hin] at HP
                  rw [decide_eq_true hin]
                  go_wp2_with fail
                  refine HP.out.mono ?_
                  rintro e w3 ⟨rfl, F3, hh, hk3, hn3⟩
                  have H3 := hid (T2.out.on hh hk3 hn3)
                  clear HP hh hk3 hn3 T2 e0
                  go_wp2
                  refine ⟨⟨k + 1, pops, line, F3, by omega, by omega, by go_num, rfl, by rw [HN.out]; omega, H3⟩, ?_⟩
                  simp [intOf]; omega
                · rw [decide_eq_false hin, pushed_out hin] at HP
                  rw [decide_eq_false hin]
                  go_wp2_with fail
                  refine HP.out.mono ?_
                  rintro e w3 ⟨rfl, F3, hh, hk3, hn3⟩
                  have H3 := hid (T2.out.on hh hk3 hn3)
                  have e3 := (hk3.cell (p := ⟨ob, 1, none⟩) HF2.out.2 HF2.out.1).trans e0
                  clear HP hh hk3 hn3 T2 e0
                  have HO3 := H3.out.own
                  rw [HN.out] at HO3
                  have O3 := hid HO3
                  clear HO3
                  obtain ⟨i0, hi, hz0, hz1, hz2⟩ := info_parts info_int
                  go_wp2_with (at_builtin; refine wpList_append_own_at _ rfl _ _ 22 rfl w.heap.size 3 i0 (.int .i64 0) 1 8 Try.underlying22 hi hz0 hz1 hz2 rfl (by decide) _ _ _ rfl (O3.out.alloc _) ⟨w3.heap.size, 0, none⟩ 1 1 [.int .i64 z] rfl rfl (cell_one_new _ _ _) (ints_oneCell .i64 [z]) (by unfold maxLen; omega) (by omega) (Nat.le_trans H3.out.lone.keep.size (Keeps.alloc [] w3 _).size) ?_)
                  intro v' w4 hown' hgrow _ hloc
                  rw [← HN.out] at hown'
                  have H4 := hid (H3.out.append (Keeps.alloc [] w3 _) hown' hgrow hloc (by simp))
                  clear hown' hgrow hloc H3 e3
                  go_wp2
                  refine ⟨⟨k + 1, pops, line ++ [z], F3, by omega, by omega, by go_num, rfl, by rw [List.length_append, HN.out]; simp; omega, H4⟩, ?_⟩
                  simp [intOf]; omega
          · have T1 := hid (T0.out.quiet (Keeps.alloc [] wr (.cells #[.bool true, .int .i64 z] 28)))
            have HN := hid hN
            rw [hN]
            rw [hN] at T1
            go_wp2_with fail
            generalize wr.alloc (.cells #[.bool true, .int .i64 z] 28) = wr1 at T1 ⊢
            generalize wr.heap.size = ob
            clear T0 hB d1 d2 hN
            by_cases hN0 : N = 0
            · subst hN0
              have hl0 : line = [] := List.eq_nil_of_length_eq_zero HN.out
              subst hl0
              have HP := hid (pop_empty T1.out.lone.has)
              have HLn := hid (len_any T1.out.lone.has)
              have HPp := hid (pops_any T1.out.lone.has)
              refine HP.out.mono ?_
              rintro e w6 ⟨rfl, e6⟩
              obtain rfl := e6.symm
              clear e6 HP
              go_wp2_with fail
              refine HLn.out.mono ?_
              rintro e w6 ⟨rfl, e6⟩
              obtain rfl := e6.symm
              clear e6 HLn
              go_wp2_with fail
              refine HPp.out.mono ?_
              rintro e w6 ⟨rfl, e6⟩
              obtain rfl := e6.symm
              clear e6 HPp
              go_wp2
              refine ⟨⟨k + 1, pops, [], F, by omega, by omega, by go_num, rfl, by simp; omega, T1⟩, ?_⟩
              simp [intOf]; omega
            · have hN1 : 0 < N := by omega
              have HP := hid (pop_any T1.out.lone.has HN.out hN1 (by omega))
              have hplN := place_lt' picks pops N hN1
              obtain ⟨pl, hpl⟩ : ∃ pl, placeOf picks pops N = pl := ⟨_, rfl⟩
              rw [hpl] at HP hplN
              have HPL := hid hpl
              obtain ⟨x, hx⟩ : ∃ x, line.getD pl 0 = x := ⟨_, rfl⟩
              rw [hx] at HP
              have HX := hid hx
              clear hx hpl
              obtain ⟨g, cm', hsl, hbg, _, hline⟩ := LineAt.of_owns T1.out.own (by intro e; simp at e; omega)
              simp only [Value.slice.injEq] at hsl
              obtain ⟨rfl, -, rfl⟩ := hsl
              refine HP.out.mono ?_
              rintro e w5 ⟨rfl, hh5, hk5⟩
              have T5 := hid (T1.out.on hh5 hk5 (Near.refl _ _))
              have LM := hid (hline.kept hk5 (T1.out.far g rfl))
              clear HP T1 hline hbg hh5 hk5
              have hgN : (0 : Int) < (N : Int) := by omega
              go_upto_region 28 with fail
              go_cut [101] (fun v wx => v = .bool (decide (pops < kq ∧ 0 ≤ picks.getD pops 0)) ∧ wx = w5)
              case first =>
                by_cases hq : pops < kq
                · have hq' : (pops : Int) < (kq : Int) := by omega
                  have hql : pops < picks.length := by rw [HKp.out]; exact hq
                  rcases (HQ2.out.kept T5.out.lone.keep (fun _ _ _ => by simp)) with h0 | ⟨bq, oq, rfl, hcq⟩
                  · rw [h0] at hql; simp at hql
                  · have eq := hcq pops hql
                    clear hcq
                    obtain ⟨y, hy0⟩ : ∃ y, picks.getD pops 0 = y := ⟨_, rfl⟩
                    rw [hy0] at eq
                    have HY := hid hy0
                    clear hy0
                    by_cases hy : 0 ≤ y
                    · go_wp2
                      go_meet
                      exact ⟨by rw [HY.out, decide_eq_true ⟨hq, hy⟩], rfl⟩
                    · go_wp2
                      go_meet
                      exact ⟨by rw [HY.out, decide_eq_false (fun h => absurd h.2 (by omega))], rfl⟩
                · have hq' : ¬ (pops : Int) < (kq : Int) := by omega
                  go_wp2
                  go_meet
                  exact ⟨by rw [decide_eq_false (fun h => hq h.1)], rfl⟩
              case rest =>
                obtain ⟨rfl, rfl⟩ := hcut
                go_upto_if 101 with fail
                go_cut [15] (fun v wx => v = .int .i64 (pl : Int) ∧ wx = wc)
                case first =>
                  by_cases hq : pops < kq ∧ 0 ≤ picks.getD pops 0
                  · rw [decide_eq_true hq]
                    have hq' : (pops : Int) < (kq : Int) := by omega
                    have hql : pops < picks.length := by rw [HKp.out]; exact hq.1
                    have htm := pick_place picks pops N hql hq.2 hN1
                    rw [HPL.out] at htm
                    have hn0 : ¬ (N : Int) = 0 := by omega
                    have hwp : IntKind.i64.wrap (pl : Int) = (pl : Int) := by rw [IntKind.wrap_i64]; omega
                    rcases (HQ2.out.kept T5.out.lone.keep (fun _ _ _ => by simp)) with h0 | ⟨bq, oq, rfl, hcq⟩
                    · rw [h0] at hql; simp at hql
                    · have eq := hcq pops hql
                      clear hcq
                      generalize picks.getD pops 0 = y at eq htm
                      clear hq
                      go_wp2
                      go_meet
                      exact ⟨rfl, rfl⟩
                  · rw [decide_eq_false hq]
                    have hp0 := pick_first picks pops N (by rw [HKp.out]; exact hq)
                    rw [HPL.out] at hp0
                    have HP0 := hid hp0
                    clear hp0
                    go_wp2
                    go_meet
                    exact ⟨by rw [HP0.out]; rfl, rfl⟩
                case rest =>
                  obtain ⟨rfl, rfl⟩ := hcut
                  have hpl' : (pl : Int) < (N : Int) := by omega
                  have hpll : pl < line.length := by rw [HN.out]; exact hplN
                  have ex := LM.out.cell pl hpll
                  rw [Nat.zero_add, HX.out] at ex
                  go_upto_region 32 with fail
                  go_cut [7] (fun v wx => Box (Two w wx p F picks (line.eraseIdx pl) (pops + 1) v (line.eraseIdx pl)))
                  case first =>
                    have hNc : N ≤ cm := by have := LM.out.len; rw [HN.out] at this; exact this
                    have LMd : Box (LineAt wc.drew g 0 cm line) := hid (LM.out.kept (Keeps.drew [] wc) (by simp))
                    have Ld := hid (T5.out.lone.quiet (Keeps.drew [] wc))
                    have hlt1 : Box ((line.take pl).length = pl) := hid (by rw [List.length_take, HN.out]; omega)
                    have hlt2 : Box ((line.drop (pl + 1)).length = N - (pl + 1)) := hid (by rw [List.length_drop, HN.out])
                    have hn1 : Box (∀ j u, (nums (line.take pl))[j]? = some u → wc.drew.cell? ((⟨g, 0, none⟩ : Addr).add j) = some u) := hid (line_cells LMd.out 0 pl (line.take pl) ⟨g, 0, none⟩ (by rw [HN.out]; omega) hlt1.out (fun j hj => by rw [getD_take line pl j hj, Nat.zero_add]) (fun _ => rfl))
                    obtain ⟨A, hA, hnA⟩ : ∃ A : Addr, (if cm = pl + 1 then some (⟨g, 0, none⟩ : Addr) else some ⟨g, pl + 1, none⟩) = some A ∧ Box (∀ w9, LineAt w9 g 0 cm line → ∀ j u, (nums (line.drop (pl + 1)))[j]? = some u → w9.cell? (A.add j) = some u) := by
                      by_cases c : cm = pl + 1
                      · exact ⟨⟨g, 0, none⟩, by simp [c], hid fun w9 h9 => line_cells h9 (pl + 1) (N - (pl + 1)) _ _ (by rw [HN.out]; omega) hlt2.out (fun j hj => getD_drop line (pl + 1) j) (fun h => by omega)⟩
                      · exact ⟨⟨g, pl + 1, none⟩, by simp [c], hid fun w9 h9 => line_cells h9 (pl + 1) (N - (pl + 1)) _ _ (by rw [HN.out]; omega) hlt2.out (fun j hj => getD_drop line (pl + 1) j) (fun h => rfl)⟩
                    have hwr : IntKind.i64.wrap ((pl : Int) + 1) = (pl : Int) + 1 := by rw [IntKind.wrap_i64]; omega
                    have hp0 : (0 : Int) ≤ (pl : Int) + 1 := by omega
                    have hp1 : (pl : Int) + 1 ≤ (N : Int) := by omega
                    have hp2 : ((pl : Int) + 1).toNat = pl + 1 := by omega
                    have hp3 : (pl : Int) ≤ (cm : Int) := by omega
                    have hp4 : pl ≤ cm := by omega
                    have hbase := hid (Nat.le_trans T5.out.lone.keep.size (Keeps.drew [] wc).size)
                    have hp5 : pl + 1 ≤ N := by omega
                    clear LM ex
                    go_region_law (first
                      | (refine step_append_at rfl (.const (.slice none 0 0)) (.tmp 117) rfl w.heap.size (.slice none 0 0) 0 [] (by simp [Act.eval]) (World.ownsRow_nil _ _ _ _) ⟨g, 0, none⟩ pl cm (line.take pl) (by simp [Act.eval, Act.put]) hlt1.out hn1.out (by omega) hbase.out ?_
                         intro v6 w6 ho6 hg6 ha6
                         have O6 : Box (w6.ownsRow w.heap.size 3 1 v6 pl (nums (line.take pl))) := hid (by rw [Nat.zero_add, List.nil_append] at ho6; exact ho6)
                         have G6 := hid hg6
                         have A6 := hid ha6
                         have N6 := hid (hnA.out w6 (LMd.out.kept (Keeps.grown [] hg6 (fun k hk => by cases hk)) (by simp)))
                         have B6 := hid (Nat.le_trans hbase.out hg6.size)
                         clear ho6 hg6 ha6)
                      | (refine step_append_at rfl (.tmp 118) (.tmp 122) rfl w.heap.size v6 pl (line.take pl) (by simp [Act.eval]) O6.out A (N - (pl + 1)) (cm - (pl + 1)) (line.drop (pl + 1)) (by simp [Act.eval]) hlt2.out N6.out (by omega) B6.out ?_
                         intro v7 w7 ho7 hg7 ha7
                         have O7 := hid ho7
                         have G7 := hid hg7
                         have A7 := hid ha7
                         clear ho7 hg7 ha7))
                    all_goals
                      go_wp2
                      go_meet
                      refine hid (all_done Ld.out G6.out A6.out G7.out A7.out rfl (by have h7 := O7.out; rw [erase_eq] at h7; exact h7) ?_)
                      rw [erase_len line pl hpll, HN.out]
                      omega
                  case rest =>
                    have hel : Box ((line.eraseIdx pl).length = N - 1) := hid (by rw [erase_len line pl hpll, HN.out])
                    obtain ⟨a7, c7, rfl, _⟩ := hcut.out.bes
                    have HLn := hid (len_any hcut.out.lone.has)
                    have HPp := hid (pops_any hcut.out.lone.has)
                    rw [hel.out] at HLn hcut ⊢
                    rw [show ((pops + 1 : Nat) : Int) = (pops : Int) + 1 by omega] at HPp
                    have hwp : IntKind.i64.wrap ((pops : Int) + 1) = (pops : Int) + 1 := by rw [IntKind.wrap_i64]; omega
                    clear LM ex T5 HPL HX
                    go_wp2_with fail
                    refine HLn.out.mono ?_
                    rintro e w6 ⟨rfl, e6⟩
                    obtain rfl := e6.symm
                    clear e6 HLn
                    go_wp2_with fail
                    refine HPp.out.mono ?_
                    rintro e w6 ⟨rfl, e6⟩
                    obtain rfl := e6.symm
                    clear e6 HPp
                    go_wp2
                    refine ⟨⟨k + 1, pops + 1, line.eraseIdx pl, F, by omega, by omega, by go_num, by go_num, by rw [hel.out]; omega, hcut⟩, ?_⟩
                    simp [intOf]; omega
      · have HLn := hid (len_any T0.out.lone.has)
        rw [hN] at HLn ⊢
        have HK := hid T0.out.lone.keep
        clear T0 hB hN
        by_cases h1 : k < L
        · have h1' : (k : Int) < (L : Int) := by omega
          have h2' : ¬ (k : Int) < 80 := by omega
          go_wp2_with fail
          refine HLn.out.mono ?_
          rintro e w6 ⟨rfl, e6⟩
          obtain rfl := e6.symm
          clear e6 HLn
          go_wp2
          go_ret
          exact ⟨rfl, HK.out⟩
        · have h1' : ¬ (k : Int) < (L : Int) := by omega
          go_wp2_with fail
          refine HLn.out.mono ?_
          rintro e w6 ⟨rfl, e6⟩
          obtain rfl := e6.symm
          clear e6 HLn
          go_wp2
          go_ret
          exact ⟨rfl, HK.out⟩

theorem all_any (qa : Option Addr) (capq : Nat) (qs : List Int) (pa : Option Addr) (cap : Nat) (zs : List (Bool × Int)) (w : World) (hq : IntsAt w qa qs) (_ : qs.length ≤ maxLen) (hqc : qs.length ≤ capq) (_ : ∀ x, x ∈ qs → wfI x)
    (hz : OpsAt w pa zs) (hl : zs.length ≤ maxLen) (_ : zs.length ≤ cap) (hw : ∀ x, x ∈ zs → wfI x.2) :
    Calls Try.prog 3 #[.slice qa qs.length capq, .slice pa zs.length cap] w fun e w' => e = .returned (.bool true) ∧ Keeps [] w w' :=
  all_core qa pa qs.length capq zs.length cap qs zs w hq rfl hqc hz rfl hw (by unfold maxLen at hl; omega)
end Go.Proofs.Ytjfemabgbmadfaa
