/-
  The statement WorkFirst: its walk.
-/
import Derived.Test.YtjfemabgbmadfaaWSt
namespace Go.Proofs.Ytjfemabgbmadfaa
open Go.RowKit

set_option maxHeartbeats 4000000 in
theorem first_core (pa : Option Addr) (L cap : Nat) (zs : List Int) (w : World) (hz : IntsAt w pa zs) (hL : zs.length = L) (hL2 : L ≤ 9223372036854775807) (hLc : L ≤ cap) (hw : ∀ x, x ∈ zs → wfI x) :
    Calls Try.prog 6 #[.slice pa L cap] w fun e w' => e = .returned (.bool true) ∧ Keeps [] w w' := by
  obtain ⟨i0, hi, hz0, hz1, hz2⟩ := info_parts info_int
  have HA := hid (begun_any w)
  have HZ := hid hz
  have HL := hid hL
  have HW := hid hw
  clear hz hL hw
  go_enter Try.func6, Try.ntmps6
  go_wp2_with fail
  refine HA.out.mono ?_
  rintro e w1 ⟨rfl, hk1⟩
  clear HA
  have HK1 := hid hk1
  clear hk1
  go_upto_if 15 with fail
  go_cut [0] (fun v0 wx => v0 = .slice pa (min L 60) cap ∧ wx = w1)
  case first =>
    by_cases h : 60 < L
    · have hb : decide ((60 : Int) < (L : Int)) = true := decide_eq_true (by omega)
      have hc : 60 ≤ cap := by omega
      have hc2 : (60 : Int) ≤ (cap : Int) := by omega
      go_wp2
      go_meet
      exact ⟨by rw [show min L 60 = 60 by omega], rfl⟩
    · have hb : decide ((60 : Int) < (L : Int)) = false := decide_eq_false (by omega)
      go_wp2
      go_meet
      exact ⟨by rw [show min L 60 = L by omega], rfl⟩
  case rest =>
    obtain ⟨rfl, rfl⟩ := hcut
    have hln : (zs.take 60).length = min L 60 := by rw [List.length_take, HL.out]; omega
    have HZ2 := hid (HZ.out.take 60)
    have HW2 : Box (∀ x, x ∈ zs.take 60 → wfI x) := hid fun x hx => HW.out x (List.mem_of_mem_take hx)
    generalize zs.take 60 = ys at hln HZ2 HW2
    have hn60 : min L 60 ≤ 60 := by omega
    generalize min L 60 = n at hln hn60
    have HL2 := hid hln
    clear hln HZ HW HL hLc hL2
    have HN := hid (new_any none 0 0 [] wc rfl (Or.inl rfl) (by omega))
    go_wp2_with fail
    refine HN.out.mono ?_
    rintro e w2 ⟨p, F, rfl, hh, hk, hF⟩
    have H0 : Box (Two w w2 p F [] [] 0 (.slice none 0 0) []) := hid ⟨⟨hh, HK1.out.quiet hk, fun x hx => Nat.le_trans HK1.out.size (hF x hx)⟩, World.ownsRow_nil w2 _ _ _, fun b hb => by simp [Value.ownBlock] at hb⟩
    clear HN HK1 hh hk hF
    go_wp2_with fail
    go_loopw [5, 6] (fun m i wr => ∃ (k : Nat) (line : List Int) (F : List Nat), k ≤ n ∧ i = .int .i64 (k : Int) ∧ line.length ≤ k ∧ Box (Two w wr p F [] line 0 m line)) (fun _ i _ => n - (intOf i).toNat)
    case atStart => exact ⟨0, [], F, by omega, rfl, by simp, H0⟩
    case round =>
      clear H0
      obtain ⟨k, line, F, hk, rfl, hlk, H0⟩ := hrel
      by_cases hgo : k < n
      · have hgo' : (k : Int) < (n : Int) := by omega
        rcases HZ2.out with h0 | ⟨bp, op, rfl, hc⟩
        · have := HL2.out
          rw [h0] at this
          simp at this
          omega
        · have c1 := hc k (by rw [HL2.out]; exact hgo)
          have hwx : wfI (ys.getD k 0) := HW2.out _ (getD_mem ys k (by rw [HL2.out]; exact hgo))
          have HC : Box (∀ w9, Keeps [] w w9 → w9.cell? ⟨bp, op + k, none⟩ = some (.int .i64 (ys.getD k 0))) := hid fun w9 k9 => (k9.cell (p := ⟨bp, op + k, none⟩) (block_lt_of_cell c1) (by simp)).trans c1
          generalize ys.getD k 0 = z at HC hwx
          have d1 := HC.out wr H0.out.lone.keep
          have HP := hid (push_any z H0.out.lone.has hwx (by omega))
          clear c1 hc
          by_cases hin : z ∈ line
          · rw [decide_eq_true hin, pushed_in hin] at HP
            go_wp2_with fail
            refine HP.out.mono ?_
            rintro e w3 ⟨rfl, F3, hh, hk3, hn3⟩
            have H3 := hid (H0.out.on hh hk3 hn3)
            clear HP hh hk3 hn3 H0 d1
            go_wp2
            go_roundw
            case rel => exact ⟨k + 1, line, F3, by omega, by go_num, by omega, H3⟩
            case measure => simp [intOf]; omega
          · rw [decide_eq_false hin, pushed_out hin] at HP
            go_wp2_with fail
            refine HP.out.mono ?_
            rintro e w3 ⟨rfl, F3, hh, hk3, hn3⟩
            have H3 := hid (H0.out.on hh hk3 hn3)
            clear HP hh hk3 hn3 H0 d1
            have d3 := HC.out w3 H3.out.lone.keep
            go_wp2_with (at_builtin; refine wpList_append_own_at _ rfl _ _ 22 rfl w.heap.size 3 i0 (.int .i64 0) 1 8 Try.underlying22 hi hz0 hz1 hz2 rfl (by decide) _ _ _ rfl (H3.out.own.alloc _) ⟨w3.heap.size, 0, none⟩ 1 1 [.int .i64 z] rfl rfl (cell_one_new _ _ _) (ints_oneCell .i64 [z]) (by unfold maxLen; omega) (by omega) (Nat.le_trans H3.out.lone.keep.size (Keeps.alloc [] w3 _).size) ?_)
            intro v' w4 hown' hgrow _ hloc
            have H4 := hid (H3.out.append (Keeps.alloc [] w3 _) hown' hgrow hloc (by simp))
            clear hown' hgrow hloc H3 d3
            go_wp2
            go_roundw
            case rel => exact ⟨k + 1, line ++ [z], F3, by omega, by go_num, by simp; omega, H4⟩
            case measure => simp [intOf]; omega
      · have hgo' : ¬ (k : Int) < (n : Int) := by omega
        obtain ⟨am, cm, rfl, hB⟩ := H0.out.bes
        have B0 : Box (Bes w wr p F [] (line.drop 0 ++ line.take 0) 0 am line) := hid (by simpa using hB)
        have hm60 : line.length ≤ 60 := by omega
        obtain ⟨N, hN⟩ : ∃ N, line.length = N := ⟨_, rfl⟩
        have HN := hid hN
        rw [hN] at hlk hm60 ⊢
        clear H0 hB hN HZ2 HW2 HL2
        go_wp2_with fail
        go_loopw [7] (fun i wx => ∃ (j : Nat) (F : List Nat), j ≤ N ∧ i = .int .i64 (j : Int) ∧ Box (Bes w wx p F [] (line.drop j ++ line.take j) j am line)) (fun i _ => N - (intOf i).toNat)
        case atStart => exact ⟨0, F, by omega, rfl, B0⟩
        case round =>
          clear B0
          obtain ⟨j, F, hj, rfl, B0⟩ := hrel
          have hlen : (line.drop j ++ line.take j).length = N := by rw [List.length_append, List.length_drop, List.length_take, HN.out]; omega
          by_cases hgo2 : j < N
          · have hgo2' : (j : Int) < (N : Int) := by omega
            have hjl : j < line.length := by rw [HN.out]; exact hgo2
            obtain ⟨e1, e2⟩ := turn_tail line j hjl
            have e3 := turn_new line j hjl B0.out.lone.has.nodup
            have HP := hid (pop_any B0.out.lone.has hlen (by omega) (by omega))
            rw [placeOf_nil, e1] at HP
            have hwx : wfI (line.getD j 0) := B0.out.lone.has.wf _ (by rw [← e1]; exact getD_mem _ 0 (by rw [hlen]; omega))
            have HE := hid (And.intro e2 e3)
            obtain ⟨bm, om, rfl, hcm⟩ : ∃ bm om, am = some ⟨bm, om, none⟩ ∧ Box (∀ w9, IntsAt w9 am line → w9.cell? ⟨bm, om + j, none⟩ = some (.int .i64 (line.getD j 0))) := by
              rcases B0.out.ints with h0 | ⟨bm, om, rfl, _⟩
              · rw [h0] at hjl; simp at hjl
              · refine ⟨bm, om, rfl, hid fun w9 h9 => ?_⟩
                rcases h9 with h0 | ⟨b', o', e', hc'⟩
                · rw [h0] at hjl; simp at hjl
                · cases e'
                  exact hc' j hjl
            generalize line.getD j 0 = z at HP hwx HE hcm
            clear e1 e2 e3
            go_wp2_with fail
            refine HP.out.mono ?_
            rintro e w5 ⟨rfl, hh5, hk5⟩
            have B5 := hid (B0.out.on hh5 hk5 (Near.refl _ _))
            have d5 := hcm.out w5 B5.out.ints
            have hl5 : ((line.drop j ++ line.take j).eraseIdx 0).length = N - 1 := by rw [erase_len _ 0 (by rw [hlen]; omega), hlen]
            have HQ := hid (push_any z B5.out.lone.has hwx (by rw [hl5]; omega))
            rw [decide_eq_false HE.out.2, pushed_out HE.out.2, HE.out.1] at HQ
            clear HP hh5 hk5 B0 hlen hl5
            go_wp2_with fail
            refine HQ.out.mono ?_
            rintro e w6 ⟨rfl, F6, hh6, hk6, hn6⟩
            have B6 := hid (B5.out.on hh6 hk6 hn6)
            clear HQ B5 d5 hh6 hk6 hn6
            go_wp2
            go_roundw
            case rel => exact ⟨j + 1, F6, by omega, by go_num, B6⟩
            case measure => simp [intOf]; omega
          · have hgo2' : ¬ (j : Int) < (N : Int) := by omega
            obtain rfl : j = N := by omega
            have HLn := hid (len_any B0.out.lone.has)
            rw [hlen] at HLn
            have HPp := hid (pops_any B0.out.lone.has)
            go_wp2_with fail
            refine HLn.out.mono ?_
            rintro e w7 ⟨rfl, e7⟩
            obtain rfl := e7.symm
            clear e7
            go_wp2_with fail
            refine HPp.out.mono ?_
            rintro e w7 ⟨rfl, e7⟩
            obtain rfl := e7.symm
            clear e7
            go_wp2
            go_ret
            exact ⟨rfl, B0.out.lone.keep⟩

theorem first_any (pa : Option Addr) (cap : Nat) (zs : List Int) (w : World) (hz : IntsAt w pa zs) (hl : zs.length ≤ maxLen) (hc : zs.length ≤ cap) (hw : ∀ x, x ∈ zs → wfI x) :
    Calls Try.prog 6 #[.slice pa zs.length cap] w fun e w' => e = .returned (.bool true) ∧ Keeps [] w w' :=
  first_core pa zs.length cap zs w hz rfl (by unfold maxLen at hl; omega) hc hw
end Go.Proofs.Ytjfemabgbmadfaa
