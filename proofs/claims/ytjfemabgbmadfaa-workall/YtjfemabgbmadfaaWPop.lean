/-
  Contracts: work's pick and Pop.
-/
import Derived.Test.YtjfemabgbmadfaaWPush
namespace Go.Proofs.Ytjfemabgbmadfaa
open Go.RowKit

/-- The pick of the next Pop. -/
def pickI (picks : List Int) (pops : Nat) : Int := if pops < picks.length then max (picks.getD pops 0) 0 else 0
/-- Its place among n. -/
def placeOf (picks : List Int) (pops n : Nat) : Nat := (pickI picks pops % (n : Int)).toNat
theorem pick_pos (picks : List Int) (pops : Nat) : 0 ≤ pickI picks pops := by
  unfold pickI
  by_cases h : pops < picks.length
  · rw [if_pos h]; omega
  · rw [if_neg h]; omega

set_option maxHeartbeats 1000000 in
theorem pick_none (p n pops cp : Nat) (a : Option Addr) (w : World) (c0 : w.cell? ⟨p, 0, none⟩ = some (.slice a n cp)) (c1 : w.cell? ⟨p, 1, none⟩ = some (.int .i64 (pops : Int))) (h : n ≤ pops) :
    Calls Try.prog 14 #[.pointer (some ⟨p, 0, none⟩)] w fun e w' => e = .returned (.int .i64 0) ∧ ∃ k, w' = w.drewN k := by
  have h1 : (n : Int) ≤ (pops : Int) := by omega
  go_enter Try.func14, Try.ntmps14
  go_wp2
  go_quiet (fail)
  go_wp2
  go_ret
  exact ⟨rfl, _, rfl⟩

set_option maxHeartbeats 1000000 in
theorem pick_some (p n pops cp b off : Nat) (z : Int) (w : World) (c0 : w.cell? ⟨p, 0, none⟩ = some (.slice (some ⟨b, off, none⟩) n cp)) (c1 : w.cell? ⟨p, 1, none⟩ = some (.int .i64 (pops : Int))) (h : pops < n) (hc : w.cell? ⟨b, off + pops, none⟩ = some (.int .i64 z)) :
    Calls Try.prog 14 #[.pointer (some ⟨p, 0, none⟩)] w fun e w' => e = .returned (.int .i64 (max z 0)) ∧ ∃ k, w' = w.drewN k := by
  have h1 : ¬ (n : Int) ≤ (pops : Int) := by omega
  go_enter Try.func14, Try.ntmps14
  go_wp2
  go_quiet (fail)
  go_wp2
  go_quiet (fail)
  go_wp2
  all_goals
    go_ret
    refine ⟨?_, _, rfl⟩
    show Ending.returned (.int .i64 _) = _
    congr 2
    omega

theorem pick_any {w : World} {p g m : Nat} {a : Option Addr} {cp : Nat} {lv mv : Value} {picks line : List Int} {pops : Nat} (h : Rep w p g m a cp lv mv picks line pops) :
    Calls Try.prog 14 #[.pointer (some ⟨p, 0, none⟩)] w fun e w' => e = .returned (.int .i64 (pickI picks pops)) ∧ ∃ k, w' = w.drewN k := by
  unfold pickI
  by_cases c : pops < picks.length
  · rw [if_pos c]
    rcases h.hpicks with e | ⟨b, off, rfl, hc⟩
    · rw [e] at c; simp at c
    · exact pick_some p picks.length pops cp b off _ w h.head.c0 h.head.c1 c (hc pops c)
  · rw [if_neg c]
    exact pick_none p picks.length pops cp a w h.head.c0 h.head.c1 (by omega)

theorem mem_erase : ∀ (l : List Int) (k : Nat), k < l.length → l.Nodup → ∀ y, y ∈ l.eraseIdx k ↔ y ∈ l ∧ y ≠ l.getD k 0
  | a :: r, 0, _, hn, y => by
    rw [List.nodup_cons] at hn
    simp only [List.eraseIdx_zero, List.tail_cons, List.mem_cons, List.getD_cons_zero]
    constructor
    · intro hy
      exact ⟨Or.inr hy, fun e => hn.1 (e ▸ hy)⟩
    · rintro ⟨e | hy, hne⟩
      · exact absurd e hne
      · exact hy
  | a :: r, k + 1, hk, hn, y => by
    rw [List.nodup_cons] at hn
    simp only [List.length_cons] at hk
    have ih := mem_erase r k (by omega) hn.2 y
    simp only [List.eraseIdx_cons_succ, List.mem_cons, List.getD_cons_succ, ih]
    constructor
    · rintro (e | ⟨hy, hne⟩)
      · subst e
        refine ⟨Or.inl rfl, fun e => hn.1 ?_⟩
        rw [e, List.getD_eq_getElem?_getD, List.getElem?_eq_getElem (by omega)]
        exact List.getElem_mem _
      · exact ⟨Or.inr hy, hne⟩
    · rintro ⟨e | hy, hne⟩
      · exact Or.inl e
      · exact Or.inr ⟨hy, hne⟩

theorem has_del (D : DataW Unit) (line : List Int) (k : Nat) (hk : k < line.length) (hn : line.Nodup) (h : ∀ y, Maps.has D (.int .i64 y) = decide (y ∈ line)) : ∀ y, Maps.has (D.del (.int .i64 (line.getD k 0))) (.int .i64 y) = decide (y ∈ line.eraseIdx k) := by
  intro y
  have hm := mem_erase line k hk hn y
  by_cases e : y = line.getD k 0
  · rw [decide_eq_false (fun hy => (hm.1 hy).2 e), e]
    exact Maps.has_del_same
  · rw [Maps.has_del_other (by simpa using e), h y]
    by_cases hy : y ∈ line
    · rw [decide_eq_true hy, decide_eq_true (hm.2 ⟨hy, e⟩)]
    · rw [decide_eq_false hy, decide_eq_false (fun hh => hy (hm.1 hh).1)]

theorem getD_mem (l : List Int) (k : Nat) (h : k < l.length) : l.getD k 0 ∈ l := by
  rw [List.getD_eq_getElem?_getD, List.getElem?_eq_getElem h]
  exact List.getElem_mem _

/-- What Pop leaves. -/
theorem pop_done {w0 w1 w2 : World} {p g m off cap off' cap' cp pops n N k : Nat} {a : Option Addr} {picks line : List Int} {D : DataW Unit}
    (h : Rep w0 p g m a cp (.slice (some ⟨g, off, none⟩) n cap) (.map (some m)) picks line pops) (hgp : g ≠ p) (hgm : g ≠ m) (hmp : m ≠ p) (hn : line.length = n) (hN : N ≤ pops + n) (hk : k < n) (hhas : ∀ y, Maps.has D (.int .i64 y) = decide (y ∈ line))
    (hh1 : Head w1 p (.slice a picks.length cp) pops (.slice (some ⟨g, off', none⟩) (n - 1) cap') (.map (some m))) (hl : LineAt w1 g off' cap' (line.eraseIdx k)) (hk1 : Keeps [p, g] w0 w1)
    (o2 : w2.ownsMap Try.prog 3 (unitElem (H := Unit)) m N (D.del (.int .i64 (line.getD k 0)))) (ht : w1.mapTurned w2 m) :
    Rep (w2.setCell ⟨p, 1, none⟩ (.int .i64 ((pops : Int) + 1))) p g m a cp (.slice (some ⟨g, off', none⟩) (n - 1) cap') (.map (some m)) picks (line.eraseIdx k) (pops + 1) ∧ Keeps [p, g, m] w0 (w2.setCell ⟨p, 1, none⟩ (.int .i64 ((pops : Int) + 1))) := by
  have k2 : Keeps [m] w1 w2 := Keeps.grown [m] ht.grown (fun k hk => by cases hk; simp)
  have hE : Keeps [p] w2 (w2.setCell ⟨p, 1, none⟩ (.int .i64 ((pops : Int) + 1))) := Keeps.setCell _ _ _ _ (by simp)
  have hel : (line.eraseIdx k).length = n - 1 := by rw [erase_len line k (by omega), hn]
  have hh2 := (hh1.kept k2 (by simpa using fun e => hmp e.symm)).put1 (pops + 1)
  rw [show (((pops + 1 : Nat) : Int)) = (pops : Int) + 1 by omega] at hh2
  have kall : Keeps [p, g, m] w0 (w2.setCell ⟨p, 1, none⟩ (.int .i64 ((pops : Int) + 1))) := ((hk1.mono (by intro y hy; simp at hy ⊢; omega)).trans k2 (fun y hy _ => by simp at hy; simp [hy])).trans hE (fun y hy _ => by simp at hy; simp [hy])
  refine ⟨⟨hh2, h.hpicks.kept' kall (fun b off e hne => ?_), h.pfar, Or.inr ⟨hgp, hgm, off', cap', by rw [hel], (hl.kept k2 (by simpa using hgm)).kept hE (by simpa using hgp)⟩, Or.inr ⟨hmp, rfl, N, _, owns_kept o2 hE (by simpa using hmp), by omega, has_del D line k (by omega) h.nodup hhas⟩, h.nodup.sublist (List.eraseIdx_sublist _ _), fun y hy => h.wf y ((mem_erase line k (by omega) h.nodup y).1 hy).1⟩, kall⟩
  obtain ⟨h1, h2, h3⟩ := h.pfar b off e hne
  simp; exact ⟨h1, h2, h3⟩

set_option maxHeartbeats 2000000 in
theorem pop_raw (p g m off cap cp pops n N : Nat) (a : Option Addr) (picks line : List Int) (D : DataW Unit) (w : World)
    (h : Rep w p g m a cp (.slice (some ⟨g, off, none⟩) n cap) (.map (some m)) picks line pops) (hl : LineAt w g off cap line) (hgp : g ≠ p) (hgm : g ≠ m) (hmp : m ≠ p) (hn : line.length = n) (hpos : 0 < n) (hb : pops + n < 1000000)
    (hown : w.ownsMap Try.prog 3 (unitElem (H := Unit)) m N D) (hN : N ≤ pops + n) (hhas : ∀ y, Maps.has D (.int .i64 y) = decide (y ∈ line)) :
    Calls Try.prog 10 #[.pointer (some ⟨p, 0, none⟩)] w fun e w' => e = .returned (.tuple #[.int .i64 (line.getD (placeOf picks pops n) 0), .bool true]) ∧
      ∃ off' cap', Rep w' p g m a cp (.slice (some ⟨g, off', none⟩) (n - 1) cap') (.map (some m)) picks (line.eraseIdx (placeOf picks pops n)) (pops + 1) ∧ Keeps [p, g, m] w w' := by
  obtain ⟨k, hk⟩ : ∃ k, k = placeOf picks pops n := ⟨_, rfl⟩
  have hq := pick_pos picks pops
  have hkn : k < n := by
    rw [hk]; unfold placeOf
    have := Int.emod_lt_of_pos (pickI picks pops) (show (0 : Int) < (n : Int) by omega)
    omega
  have hkI : (k : Int) = pickI picks pops % (n : Int) := by
    rw [hk]; unfold placeOf
    have := Int.emod_nonneg (pickI picks pops) (show (n : Int) ≠ 0 by omega)
    omega
  have HL := hid (len_raw p n cap (some ⟨g, off, none⟩) w h.head.c2)
  have HP : Box (∀ w1, Keeps [] w w1 → Calls Try.prog 14 #[.pointer (some ⟨p, 0, none⟩)] w1 fun e w' => e = .returned (.int .i64 (pickI picks pops)) ∧ ∃ k, w' = w1.drewN k) :=
    hid fun w1 k1 => pick_any (h.kept k1 (by simp) (by simp) (by simp) (fun _ _ _ _ => by simp))
  rw [← hk]
  generalize pickI picks pops = q at HP hkI hq
  have c2 := h.head.c2
  have hx : w.cell? ⟨g, off + k, none⟩ = some (.int .i64 (line.getD k 0)) := hl.cell k (by omega)
  have HC : Box (∀ w1, Keeps [] w w1 → Calls Try.prog 15 #[.pointer (some ⟨p, 0, none⟩), .int .i64 (k : Int)] w1 fun e w' => e = .returned (.tuple #[]) ∧ ∃ off' cap', Head w' p (.slice a picks.length cp) pops (.slice (some ⟨g, off', none⟩) (n - 1) cap') (.map (some m)) ∧ LineAt w' g off' cap' (line.eraseIdx k) ∧ Keeps [p, g] w1 w') :=
    hid fun w1 k1 => cut_any p g off cap k n pops _ _ line w1 (h.head.kept k1 (by simp)) (hl.kept k1 (by simp)) hn hgp hkn (by omega)
  have HH := hid hhas
  have HO := hid hown
  have HR := hid h
  have HN := hid hN
  have hKk := hid (Maps.keyOf_int_mk Try.underlying3 (h.wf _ (getD_mem line k (by omega))))
  obtain ⟨xv, hxv⟩ : ∃ xv, xv = line.getD k 0 := ⟨_, rfl⟩
  rw [← hxv] at hx hKk ⊢
  have HX := hid hxv
  have HNn := hid hn
  have HG := hid (And.intro hgp (And.intro hgm hmp))
  have hn0 : ¬ (n : Int) = 0 := by omega
  have htm : Int.tmod q (n : Int) = (k : Int) := by rw [hkI, Int.tmod_eq_emod_of_nonneg hq]
  have hk2 : (k : Int) < (n : Int) := by omega
  have hwk : IntKind.i64.wrap (k : Int) = (k : Int) := by rw [IntKind.wrap_i64]; omega
  have hwp : IntKind.i64.wrap ((pops : Int) + 1) = (pops : Int) + 1 := by rw [IntKind.wrap_i64]; omega
  clear h hl hhas hown hN hn hxv hgp hgm hmp hkI hk
  go_enter Try.func10, Try.ntmps10
  go_wp2_with fail
  refine HL.out.mono ?_
  rintro e w0 ⟨rfl, e0⟩
  obtain rfl := e0.symm
  clear e0
  go_wp2_with fail
  go_quiet (first | (go_at_call 14; exact Calls.quiet_of (HP.out _ (Keeps.drewN _ _ _))))
  go_wp2_with fail
  refine (HC.out _ (Keeps.drewN _ _ _)).mono ?_
  rintro e w1 ⟨rfl, off', cap', hh1, hl1, hk1⟩
  have H1 := hid hh1
  have L1 := hid hl1
  have K1 := hid hk1
  have R0 := hid (HR.out.kept (Keeps.drewN [] w nq) (by simp) (by simp) (by simp) (fun _ _ _ _ => by simp))
  have O1 := hid (owns_kept (owns_kept HO.out (Keeps.drewN [] w nq) (by simp)) hk1 (by have := HG.out; simp; omega))
  have e3 := hh1.c3
  clear hh1 hl1 hk1 HC HP HL c2 hx
  go_wp2_with (at_delete; refine wpList_delete_own _ rfl _ _ 38 3 rfl 41 wlaw Try.underlying38 _ m N D rfl O1.out _ _ rfl hKk.out ?_)
  intro w2 hown2 hturn2
  have O2 := hid hown2
  have T2 := hid hturn2
  have hh2 := hid (H1.out.kept (Keeps.grown [m] hturn2.grown (fun k hk => by cases hk; simp)) (by have := HG.out; simp; omega))
  have e1 := hh2.out.c1
  have f1 := hh2.out.frozen 1
  clear hown2 hturn2 e3
  go_wp2
  go_ret2
  obtain ⟨g1, g2, g3⟩ := HG.out
  have o2 := O2.out
  rw [HX.out] at o2
  obtain ⟨r1, r2⟩ := pop_done R0.out g1 g2 g3 HNn.out HN.out hkn HH.out H1.out L1.out K1.out o2 T2.out
  exact ⟨rfl, off', cap', r1, (Keeps.drewN _ w nq).step r2⟩

set_option maxHeartbeats 1000000 in
theorem pop_zero (p cl : Nat) (al : Option Addr) (w : World) (hc : w.cell? ⟨p, 2, none⟩ = some (.slice al 0 cl)) :
    Calls Try.prog 10 #[.pointer (some ⟨p, 0, none⟩)] w fun e w' => e = .returned (.tuple #[.int .i64 0, .bool false]) ∧ w' = w := by
  have HL := hid (len_raw p 0 cl al w hc)
  clear hc
  go_enter Try.func10, Try.ntmps10
  go_wp2_with fail
  refine HL.out.mono ?_
  rintro e w0 ⟨rfl, e0⟩
  obtain rfl := e0.symm
  go_wp2
  go_ret2
  exact ⟨rfl, rfl⟩

theorem pop_empty {p : Nat} {F : List Nat} {picks : List Int} {pops : Nat} {w : World} (h : Has w p F picks [] pops) :
    Calls Try.prog 10 #[.pointer (some ⟨p, 0, none⟩)] w fun e w' => e = .returned (.tuple #[.int .i64 0, .bool false]) ∧ w' = w := by
  obtain ⟨g, m, a, cp, lv, mv, r, _⟩ := h
  obtain ⟨al, cl, rfl⟩ := r.shape
  exact pop_zero p cl al w r.head.c2

/-- Pop where something waits. -/
theorem pop_any {p : Nat} {F : List Nat} {picks line : List Int} {pops n : Nat} {w : World} (h : Has w p F picks line pops) (hn : line.length = n) (hpos : 0 < n) (hb : pops + n < 1000000) :
    Calls Try.prog 10 #[.pointer (some ⟨p, 0, none⟩)] w fun e w' => e = .returned (.tuple #[.int .i64 (line.getD (placeOf picks pops n) 0), .bool true]) ∧
      Has w' p F picks (line.eraseIdx (placeOf picks pops n)) (pops + 1) ∧ Keeps F w w' := by
  obtain ⟨g, m, a, cp, lv, mv, r, hs, hp, hg, hm, ha⟩ := h
  rcases r.hline with ⟨_, e, _⟩ | ⟨hgp, hgm, off, cap, rfl, hl⟩
  · rw [e] at hn; simp at hn; omega
  · rcases r.hwaits with ⟨_, e, _⟩ | ⟨hmp, rfl, N, D, hown, hN, hhas⟩
    · rw [e] at hn; simp at hn; omega
    · rw [hn] at r hN
      refine (pop_raw p g m off cap cp pops n N a picks line D w r hl hgp hgm hmp hn hpos hb hown hN hhas).mono ?_
      rintro e w' ⟨rfl, off', cap', r', hk⟩
      have hk2 : Keeps F w w' := hk.mono (by intro y hy; simp at hy; rcases hy with rfl | rfl | rfl <;> assumption)
      exact ⟨rfl, ⟨g, m, a, cp, _, _, r', fun y hy => Nat.lt_of_lt_of_le (hs y hy) hk.size, hp, hg, hm, ha⟩, hk2⟩
end Go.Proofs.Ytjfemabgbmadfaa
