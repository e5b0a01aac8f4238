/-
  The statement WorkTurned: its walk.
-/
import Derived.Test.YtjfemabgbmadfaaWSt
import Derived.Deep.RegionWith
namespace Go.Proofs.Ytjfemabgbmadfaa
open Go.RowKit

theorem zero_bool (w : World) : (zeroValue 4).run Try.prog w = .ok (.bool false) w := by kernel_rfl
theorem size_int1 : Maps.size (.map [] : DataW Unit) = 0 := rfl

/-- A map of the statement's own: true at the numbers of seen, and at no other. -/
structure SeenAt (w : World) (M n : Nat) (D : DataW Unit) (seen : List Int) : Prop where
  own : w.ownsMap Try.prog 3 (plainElem (H := Unit) Try.prog 4) M n D
  has : ∀ y, Maps.has D (.int .i64 y) = decide (y ∈ seen)
  at' : ∀ y, D.atKey (.int .i64 y) (.lit (.bool false)) = .lit (.bool (decide (y ∈ seen)))
  size : Maps.size D = seen.length

theorem SeenAt.kept {w w' : World} {L : List Nat} {M n : Nat} {D : DataW Unit} {seen : List Int} (h : SeenAt w M n D seen) (k : Keeps L w w') (hn : M ∉ L) : SeenAt w' M n D seen := ⟨owns_kept h.own k hn, h.has, h.at', h.size⟩

theorem SeenAt.look {w : World} {M n : Nat} {D : DataW Unit} {seen : List Int} (h : SeenAt w M n D seen) (x : Int) (hx : wfI x) : (Instr.lookup 34 (.map (some M)) (.int .i64 x) false).run Try.prog w = .ok (.bool (decide (x ∈ seen))) w := by
  obtain ⟨v, ps, hr, hv⟩ := h.own.lookup wlaw Try.underlying34 (zero_bool w) (plainElem_bool Try.underlying4 false) (Maps.keyOf_int_mk Try.underlying3 hx)
  rw [h.at' x] at hv
  rw [hr]
  have : v = .bool (decide (x ∈ seen)) := by
    unfold plainElem at hv
    rw [Try.underlying4] at hv
    cases v <;> simp at hv
    rw [hv.1]
  rw [this]

theorem SeenAt.put {w w' : World} {M n : Nat} {D : DataW Unit} {seen : List Int} (h : SeenAt w M n D seen) (x : Int) (ho : w'.ownsMap Try.prog 3 (plainElem (H := Unit) Try.prog 4) M (n + 1) (D.put (.int .i64 x) (.lit (.bool true)))) : SeenAt w' M (n + 1) (D.put (.int .i64 x) (.lit (.bool true))) (pushed seen x) := by
  have hD := h.own.isMap
  have hmem : ∀ y, y ∈ pushed seen x ↔ y ∈ seen ∨ y = x := by
    intro y
    unfold pushed
    by_cases c : x ∈ seen
    · rw [if_pos c]
      constructor
      · exact Or.inl
      · rintro (e | rfl)
        · exact e
        · exact c
    · rw [if_neg c]; simp
  refine ⟨ho, fun y => ?_, fun y => ?_, ?_⟩
  · by_cases e : y = x
    · subst e
      rw [Maps.has_put_same hD (int_key y), decide_eq_true ((hmem y).2 (Or.inr rfl))]
    · rw [Maps.has_put_other (by simpa using e), h.has y]
      congr 1
      exact propext ⟨fun hy => (hmem y).2 (Or.inl hy), fun hy => ((hmem y).1 hy).resolve_right e⟩
  · by_cases e : y = x
    · subst e
      rw [Maps.atKey_put_same hD (int_key y), decide_eq_true ((hmem y).2 (Or.inr rfl))]
    · rw [Maps.atKey_put_other (by simpa using e), h.at' y]
      congr 3
      exact propext ⟨fun hy => (hmem y).2 (Or.inl hy), fun hy => ((hmem y).1 hy).resolve_right e⟩
  · rw [Maps.size_put (h.own.tidy wlaw), h.has x, h.size]
    unfold pushed
    by_cases c : x ∈ seen
    · rw [if_pos c, decide_eq_true c, if_pos rfl]
    · rw [if_neg c, decide_eq_false c]; simp

theorem SeenAt.del {w w' : World} {M n : Nat} {D : DataW Unit} {seen : List Int} (h : SeenAt w M n D seen) (k : Nat) (hk : k < seen.length) (hn : seen.Nodup) (ho : w'.ownsMap Try.prog 3 (plainElem (H := Unit) Try.prog 4) M n (D.del (.int .i64 (seen.getD k 0)))) : SeenAt w' M n (D.del (.int .i64 (seen.getD k 0))) (seen.eraseIdx k) := by
  refine ⟨ho, has_del D seen k hk hn h.has, fun y => ?_, ?_⟩
  · have hm := mem_erase seen k hk hn y
    by_cases e : y = seen.getD k 0
    · rw [decide_eq_false (fun hy => (hm.1 hy).2 e), e, Maps.atKey_del_same]
    · rw [Maps.atKey_del_other (by simpa using e), h.at' y]
      congr 3
      exact propext ⟨fun hy => hm.2 ⟨hy, e⟩, fun hy => (hm.1 hy).1⟩
  · have hs := Maps.size_del (k := .int .i64 (seen.getD k 0)) (h.own.tidy wlaw)
    rw [h.has, decide_eq_true (getD_mem seen k hk), if_pos rfl, h.size] at hs
    rw [erase_len seen k hk]
    omega

theorem pushed_le (l : List Int) (x : Int) : (pushed l x).length ≤ l.length + 1 := by
  unfold pushed
  by_cases c : x ∈ l
  · rw [if_pos c]; omega
  · rw [if_neg c]; simp
theorem place_lt (picks : List Int) (pops n : Nat) (h : 0 < n) : placeOf picks pops n < n := by
  unfold placeOf
  have := Int.emod_lt_of_pos (pickI picks pops) (show (0 : Int) < (n : Int) by omega)
  omega

/-- The list beside the map. -/
structure Mapped (w wr : World) (p : Nat) (F : List Nat) (picks line : List Int) (pops M n : Nat) (D : DataW Unit) (seen : List Int) : Prop where
  lone : Lone w wr p F picks line pops
  seen : SeenAt wr M n D seen
  far : M ∉ F
  young : w.heap.size ≤ M
theorem Mapped.quiet {w wr w1 : World} {p : Nat} {F : List Nat} {picks line : List Int} {pops M n : Nat} {D : DataW Unit} {seen : List Int} (h : Mapped w wr p F picks line pops M n D seen) (k : Keeps [] wr w1) : Mapped w w1 p F picks line pops M n D seen :=
  ⟨h.lone.quiet k, h.seen.kept k (by simp), h.far, h.young⟩
theorem Mapped.on {w wr w1 : World} {p : Nat} {F F' : List Nat} {picks line line' : List Int} {pops pops' M n : Nat} {D : DataW Unit} {seen : List Int} (h : Mapped w wr p F picks line pops M n D seen) (hh : Has w1 p F' picks line' pops') (k : Keeps F wr w1) (nr : Near wr F F') : Mapped w w1 p F' picks line' pops' M n D seen := by
  refine ⟨h.lone.on hh k nr, h.seen.kept k h.far, fun hx => ?_, h.young⟩
  rcases nr M hx with e | e
  · exact h.far e
  · have := h.seen.own.lt; omega
theorem Mapped.map {w wr w1 : World} {p : Nat} {F : List Nat} {picks line : List Int} {pops M n n' : Nat} {D D' : DataW Unit} {seen seen' : List Int} (h : Mapped w wr p F picks line pops M n D seen) (hs : SeenAt w1 M n' D' seen') (k : wr.grownBy w1 (some M)) : Mapped w w1 p F picks line pops M n' D' seen' :=
  ⟨h.lone.far (Keeps.grown [M] k (fun b hb => by cases hb; simp)) (fun b hb => by simp at hb; subst hb; exact ⟨h.far, h.young⟩), hs, h.far, h.young⟩

set_option maxHeartbeats 8000000 in
set_option maxRecDepth 20000 in
theorem turned_core (qa pa : Option Addr) (K capq L cap : Nat) (qs zs : List Int) (w : World) (hq : IntsAt w qa qs) (hK : qs.length = K) (hKc : K ≤ capq) (hz : IntsAt w pa zs) (hL : zs.length = L) (hLc : L ≤ cap) (hw : ∀ x, x ∈ zs → wfI x) :
    Calls Try.prog 5 #[.slice qa K capq, .slice pa L cap] w fun e w' => e = .returned (.bool true) ∧ Keeps [] w w' := by
  have HA := hid (begun_any w)
  have HZ := hid hz
  have HL := hid hL
  have HW := hid hw
  have HQ := hid hq
  have HKq := hid hK
  clear hz hL hw hq hK
  go_enter Try.func5, Try.ntmps5
  go_wp2_with fail
  refine HA.out.mono ?_
  rintro e w1 ⟨rfl, hk1⟩
  clear HA
  have HK1 := hid hk1
  clear hk1
  go_upto_if 19 with fail
  go_cut [1] (fun v0 wx => v0 = .slice pa (min L 60) cap ∧ wx = w1)
  case first =>
    by_cases h : 60 < L
    · have hb : decide ((60 : Int) < (L : Int)) = true := decide_eq_true (by omega)
      have hc : 60 ≤ cap := by omega
      have hc2 : (60 : Int) ≤ (cap : Int) := by omega
      go_wp2
      go_meet
      exact ⟨by rw [show min L 60 = 60 by omega], rfl⟩
    · have hb : decide ((60 : Int) < (L : Int)) = false := decide_eq_false (by omega)
      go_wp2
      go_meet
      exact ⟨by rw [show min L 60 = L by omega], rfl⟩
  case rest =>
    obtain ⟨rfl, rfl⟩ := hcut
    have hln : (zs.take 60).length = min L 60 := by rw [List.length_take, HL.out]; omega
    have HZ2 := hid (HZ.out.take 60)
    have HW2 : Box (∀ x, x ∈ zs.take 60 → wfI x) := hid fun x hx => HW.out x (List.mem_of_mem_take hx)
    generalize zs.take 60 = ys at hln HZ2 HW2
    have hn60 : min L 60 ≤ 60 := by omega
    generalize min L 60 = n at hln hn60
    have HL2 := hid hln
    clear hln HZ HW HL hLc
    go_upto_if 24 with fail
    go_cut [0] (fun v0 wx => v0 = .slice qa (min K 100) capq ∧ wx = wc)
    case first =>
      by_cases h : 100 < K
      · have hb : decide ((100 : Int) < (K : Int)) = true := decide_eq_true (by omega)
        have hc : 100 ≤ capq := by omega
        have hc2 : (100 : Int) ≤ (capq : Int) := by omega
        go_wp2
        go_meet
        exact ⟨by rw [show min K 100 = 100 by omega], rfl⟩
      · have hb : decide ((100 : Int) < (K : Int)) = false := decide_eq_false (by omega)
        go_wp2
        go_meet
        exact ⟨by rw [show min K 100 = K by omega], rfl⟩
    case rest =>
      obtain ⟨rfl, rfl⟩ := hcut
      have hkn : (qs.take 100).length = min K 100 := by rw [List.length_take, HKq.out]; omega
      have HQ2 := hid ((HQ.out.take 100).kept HK1.out (fun _ _ _ => by simp))
      generalize qs.take 100 = picks at hkn HQ2
      have hk100 : min K 100 ≤ 100 := by omega
      generalize min K 100 = kq at hkn hk100
      have HN := hid (new_any qa kq capq picks wc hkn HQ2.out (by omega))
      have hmm := @run_makeMap Try.prog
      clear HQ2 HQ HKq hkn hKc
      go_wp2_with fail
      refine HN.out.mono ?_
      rintro e w2 ⟨p, F, rfl, hh, hk, hF⟩
      have L2 : Box (Lone w w2 p F picks [] 0) := hid ⟨hh, HK1.out.quiet hk, fun x hx => Nat.le_trans HK1.out.size (hF x hx)⟩
      have M2 : Box (Mapped w (w2.alloc (.map #[] 0)) p F picks [] 0 w2.heap.size 0 (.map []) []) := hid ⟨L2.out.quiet (Keeps.alloc [] w2 _), ⟨World.ownsMap_made w2 _ _ _, fun y => by simp [Maps.has], fun y => by simp [DataW.atKey], rfl⟩, fun hx => by have := L2.out.has.lt _ hx; omega, L2.out.keep.size⟩
      clear HN HK1 hh hk hF L2
      go_wp2_with fail
      generalize w2.alloc (.map #[] 0) = w3 at M2 ⊢
      generalize w2.heap.size = M at M2 ⊢
      go_loopw [8] (fun i wr => ∃ (k N : Nat) (D : DataW Unit) (line : List Int) (F : List Nat), k ≤ n ∧ i = .int .i64 (k : Int) ∧ line.length ≤ k ∧ N ≤ k ∧ Box (Mapped w wr p F picks line 0 M N D line)) (fun i _ => n - (intOf i).toNat)
      case atStart => exact ⟨0, 0, _, [], F, by omega, rfl, by simp, by omega, M2⟩
      case round =>
        clear M2
        obtain ⟨k, N, D, line, F, hk, rfl, hlk, hNk, M2⟩ := hrel
        by_cases hgo : k < n
        · have hgo' : (k : Int) < (n : Int) := by omega
          rcases HZ2.out with h0 | ⟨bp, op, rfl, hc⟩
          · have := HL2.out
            rw [h0] at this
            simp at this
            omega
          · have c1 := hc k (by rw [HL2.out]; exact hgo)
            have hwx : wfI (ys.getD k 0) := HW2.out _ (getD_mem ys k (by rw [HL2.out]; exact hgo))
            have HC : Box (∀ w9, Keeps [] w w9 → w9.cell? ⟨bp, op + k, none⟩ = some (.int .i64 (ys.getD k 0))) := hid fun w9 k9 => (k9.cell (p := ⟨bp, op + k, none⟩) (block_lt_of_cell c1) (by simp)).trans c1
            generalize ys.getD k 0 = z at HC hwx
            have d1 := HC.out wr M2.out.lone.keep
            have HP := hid (push_any z (M2.out.quiet (Keeps.drew [] wr)).lone.has hwx (by omega))
            have hlook := (M2.out.quiet (Keeps.drew [] wr)).seen.look z hwx
            clear c1 hc
            obtain ⟨bz, hbz⟩ : ∃ bz, decide (z ∈ line) = bz := ⟨_, rfl⟩
            rw [hbz] at HP hlook
            go_wp2
            go_region_with (first | (go_at_call 9; refine HP.out.mono ?_; rintro e w5 ⟨rfl, F5, hh5, hk5, hn5⟩; have M5 := hid ((M2.out.quiet (Keeps.drew [] wr)).on hh5 hk5 hn5); have d5 := HC.out w5 M5.out.lone.keep; have l5 := M5.out.seen.look z hwx; rw [hbz] at l5; clear hh5 hk5 hn5))
            all_goals
              have hKk := hid (Maps.keyOf_int_mk Try.underlying3 hwx)
              clear hlook l5 d1 HP
              go_wp2_with (at_mapUpdate; refine wpList_mapUpdate_own _ rfl _ _ _ 34 rfl 3 4 wlaw Try.underlying34 _ M N D rfl M5.out.seen.own (by unfold maxLen; omega) _ _ _ rfl rfl hKk.out (.lit (.bool true)) [] (plainElem_bool Try.underlying4 true) ?_)
              intro w6 hown6 hgrow6
              have M6 := hid (M5.out.map (M5.out.seen.put z hown6) hgrow6)
              clear hown6 hgrow6 M5 d5 HC
              go_wp2
              go_roundw
              case rel => exact ⟨k + 1, N + 1, _, pushed line z, F5, by omega, by go_num, by have := pushed_le line z; omega, by omega, M6⟩
              case measure => simp [intOf]; omega
        · have hgo' : ¬ (k : Int) < (n : Int) := by omega
          obtain ⟨J, hJ⟩ : ∃ J, line.length = J := ⟨_, rfl⟩
          have hsz : Maps.size D = J := by rw [M2.out.seen.size, hJ]
          have HJ := hid hJ
          have HS := hid hsz
          rw [hJ] at hlk
          clear hJ hsz
          go_wp2_with (at_len; refine wpList_len_own _ rfl _ 34 rfl 3 4 Try.underlying34 _ M N D rfl M2.out.seen.own ?_; rw [HS.out])
          go_loopw [9] (fun i wx => ∃ (j pops : Nat) (D : DataW Unit) (line : List Int), i = .int .i64 (j : Int) ∧ pops + j ≤ 60 ∧ Box (line.length = j) ∧ Box (Mapped w wx p F picks line pops M N D line)) (fun i _ => (intOf i).toNat)
          case atStart => exact ⟨J, 0, D, line, rfl, by omega, HJ, M2⟩
          case round =>
            clear M2 HJ HS hlk hgo hgo' hNk
            obtain ⟨j, pops, D, line, rfl, hpj, HJ, M2⟩ := hrel
            by_cases hj : 0 < j
            · have hj' : (0 : Int) < (j : Int) := by omega
              have HP := hid (pop_any M2.out.lone.has HJ.out hj (by omega))
              obtain ⟨pl, hpl⟩ : ∃ pl, placeOf picks pops j = pl := ⟨_, rfl⟩
              have hplj : pl < j := by rw [← hpl]; exact place_lt picks pops j hj
              rw [hpl] at HP
              have hwx : wfI (line.getD pl 0) := M2.out.lone.has.wf _ (getD_mem line pl (by rw [HJ.out]; exact hplj))
              have hin : decide (line.getD pl 0 ∈ line) = true := decide_eq_true (getD_mem line pl (by rw [HJ.out]; exact hplj))
              obtain ⟨z, hz⟩ : ∃ z, line.getD pl 0 = z := ⟨_, rfl⟩
              rw [hz] at HP hwx hin
              have HZz := hid hz
              have hKk := hid (Maps.keyOf_int_mk Try.underlying3 hwx)
              have HD := hid M2.out.lone.has.nodup
              have hwj : IntKind.i64.wrap ((j : Int) - 1) = (j : Int) - 1 := by rw [IntKind.wrap_i64]; omega
              clear hz hpl
              go_wp2_with fail
              refine HP.out.mono ?_
              rintro e w5 ⟨rfl, hh5, hk5⟩
              have M5 := hid (M2.out.on hh5 hk5 (Near.refl _ _))
              have l5 := M5.out.seen.look z hwx
              rw [hin] at l5
              have hel : Box ((line.eraseIdx pl).length = j - 1) := hid (by rw [erase_len line pl (by rw [HJ.out]; exact hplj), HJ.out])
              have HLn := hid (len_any M5.out.lone.has)
              rw [hel.out, show ((j - 1 : Nat) : Int) = (j : Int) - 1 by omega] at HLn
              clear HP hh5 hk5 M2 hin
              go_wp2_with fail
              refine HLn.out.mono ?_
              rintro e w6 ⟨rfl, e6⟩
              obtain rfl := e6.symm
              clear e6 HLn
              go_wp2_with (at_delete; refine wpList_delete_own _ rfl _ _ 34 3 rfl 4 wlaw Try.underlying34 _ M N D rfl M5.out.seen.own _ _ rfl hKk.out ?_)
              intro w6 hown6 hturn6
              have M6 : Box (Mapped w w6 p F picks (line.eraseIdx pl) (pops + 1) M N (D.del (.int .i64 z)) (line.eraseIdx pl)) := hid (M5.out.map (by
                have hd := M5.out.seen.del (w' := w6) pl (by rw [HJ.out]; exact hplj) HD.out (by rw [HZz.out]; exact hown6)
                rw [HZz.out] at hd
                exact hd) hturn6.grown)
              clear hown6 hturn6 M5 l5
              go_wp2
              go_roundw
              case rel => exact ⟨j - 1, pops + 1, _, line.eraseIdx pl, by go_num, by omega, hel, M6⟩
              case measure => simp [intOf]; omega
            · have hj' : ¬ (0 : Int) < (j : Int) := by omega
              have hl0 : line = [] := List.eq_nil_of_length_eq_zero (by rw [HJ.out]; omega)
              subst hl0
              have HP := hid (pop_empty M2.out.lone.has)
              go_wp2_with fail
              refine HP.out.mono ?_
              rintro e w6 ⟨rfl, e6⟩
              obtain rfl := e6.symm
              clear e6 HP
              go_wp2
              go_ret
              exact ⟨rfl, M2.out.lone.keep⟩

theorem turned_any (qa : Option Addr) (capq : Nat) (qs : List Int) (pa : Option Addr) (cap : Nat) (zs : List Int) (w : World) (hq : IntsAt w qa qs) (_ : qs.length ≤ maxLen) (hqc : qs.length ≤ capq) (_ : ∀ x, x ∈ qs → wfI x)
    (hz : IntsAt w pa zs) (_ : zs.length ≤ maxLen) (hc : zs.length ≤ cap) (hw : ∀ x, x ∈ zs → wfI x) :
    Calls Try.prog 5 #[.slice qa qs.length capq, .slice pa zs.length cap] w fun e w' => e = .returned (.bool true) ∧ Keeps [] w w' :=
  turned_core qa pa qs.length capq zs.length cap qs zs w hq rfl hqc hz rfl hc hw
end Go.Proofs.Ytjfemabgbmadfaa
