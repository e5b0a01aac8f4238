/-
  Contracts: work's New, Len, Pops, pick, Push; of no list at all too.
-/
import Derived.Test.YtjfemabgbmadfaaWCall
import Derived.Deep.AppendLies
import Derived.WalkSpells
namespace Go.Proofs.Ytjfemabgbmadfaa
open Go.RowKit

theorem wlaw : Maps.Keyed Try.prog 3 := Maps.int_keyed Try.underlying3
theorem wzero (w : World) : (zeroValue 41).run Try.prog w = .ok (.agg #[]) w := by kernel_rfl

set_option maxHeartbeats 400000 in
theorem len_nil (w : World) : Calls Try.prog 11 #[.pointer none] w fun e w' => e = .returned (.int .i64 0) ∧ w' = w := by
  go_enter Try.func11, Try.ntmps11
  go_wp2
  go_ret
  exact ⟨rfl, rfl⟩
set_option maxHeartbeats 400000 in
theorem pops_nil (w : World) : Calls Try.prog 12 #[.pointer none] w fun e w' => e = .returned (.int .i64 0) ∧ w' = w := by
  go_enter Try.func12, Try.ntmps12
  go_wp2
  go_ret
  exact ⟨rfl, rfl⟩
set_option maxHeartbeats 400000 in
theorem push_nil (x : Int) (w : World) : Calls Try.prog 9 #[.pointer none, .int .i64 x] w fun e w' => e = .returned (.bool false) ∧ w' = w := by
  go_enter Try.func9, Try.ntmps9
  go_wp2
  go_ret
  exact ⟨rfl, rfl⟩
set_option maxHeartbeats 400000 in
theorem pop_nil (w : World) : Calls Try.prog 10 #[.pointer none] w fun e w' => e = .returned (.tuple #[.int .i64 0, .bool false]) ∧ w' = w := by
  go_enter Try.func10, Try.ntmps10
  go_wp2_with fail
  refine (len_nil _).mono ?_
  rintro e w' ⟨rfl, rfl⟩
  go_wp2
  go_ret2
  exact ⟨rfl, rfl⟩

theorem Rep.shape {w : World} {p g m : Nat} {a : Option Addr} {cp : Nat} {lv mv : Value} {picks line : List Int} {pops : Nat} (h : Rep w p g m a cp lv mv picks line pops) : ∃ al cl, lv = .slice al line.length cl := by
  rcases h.hline with ⟨rfl, rfl, _⟩ | ⟨_, _, off, cap, rfl, _⟩
  · exact ⟨none, 0, rfl⟩
  · exact ⟨_, _, rfl⟩

set_option maxHeartbeats 400000 in
theorem len_raw (p n cl : Nat) (al : Option Addr) (w : World) (hc : w.cell? ⟨p, 2, none⟩ = some (.slice al n cl)) : Calls Try.prog 11 #[.pointer (some ⟨p, 0, none⟩)] w fun e w' => e = .returned (.int .i64 (n : Int)) ∧ w' = w := by
  go_enter Try.func11, Try.ntmps11
  go_wp2
  go_ret
  exact ⟨rfl, rfl⟩
theorem len_any {p : Nat} {F : List Nat} {picks line : List Int} {pops : Nat} {w : World} (h : Has w p F picks line pops) : Calls Try.prog 11 #[.pointer (some ⟨p, 0, none⟩)] w fun e w' => e = .returned (.int .i64 (line.length : Int)) ∧ w' = w := by
  obtain ⟨g, m, a, cp, lv, mv, r, _⟩ := h
  obtain ⟨al, cl, rfl⟩ := r.shape
  exact len_raw p line.length cl al w r.head.c2

set_option maxHeartbeats 400000 in
theorem pops_raw (p n : Nat) (w : World) (hc : w.cell? ⟨p, 1, none⟩ = some (.int .i64 (n : Int))) : Calls Try.prog 12 #[.pointer (some ⟨p, 0, none⟩)] w fun e w' => e = .returned (.int .i64 (n : Int)) ∧ w' = w := by
  go_enter Try.func12, Try.ntmps12
  go_wp2
  go_ret
  exact ⟨rfl, rfl⟩
theorem pops_any {p : Nat} {F : List Nat} {picks line : List Int} {pops : Nat} {w : World} (h : Has w p F picks line pops) : Calls Try.prog 12 #[.pointer (some ⟨p, 0, none⟩)] w fun e w' => e = .returned (.int .i64 (pops : Int)) ∧ w' = w := by
  obtain ⟨g, m, a, cp, lv, mv, r, _⟩ := h
  exact pops_raw p pops w r.head.c1

set_option maxHeartbeats 1000000 in
theorem new_any (a : Option Addr) (n c : Nat) (zs : List Int) (w : World) (hl : zs.length = n) (hz : IntsAt w a zs) (hb : n ≤ 1000000) :
    Calls Try.prog 8 #[.slice a n c] w fun e w' => ∃ p F, e = .returned (.pointer (some ⟨p, 0, none⟩)) ∧ Has w' p F zs [] 0 ∧ Keeps [] w w' ∧ ∀ x, x ∈ F → w.heap.size ≤ x := by
  have HC := hid (clone_any a n c zs w hl hz hb)
  clear hz
  go_enter Try.func8, Try.ntmps8
  go_wp2_with fail
  refine HC.out.mono ?_
  rintro e w1 ⟨a', c', rfl, hz1, hk1, hf1⟩
  have H1 := hid hz1
  have H2 := hid hk1
  have H3 := hid hf1
  clear hz1 hk1 hf1 HC
  go_wp2
  go_ret
  have hk := Keeps.alloc [] w1 (.cells #[.slice a' n c', .int .i64 0, .slice none 0 0, .map none] 40)
  have hs := H2.out.size
  have hfar : ∀ b off, a' = some ⟨b, off, none⟩ → b < w1.heap.size := fun b off e => (H3.out b off e).2
  subst hl
  refine ⟨w1.heap.size, w1.heap.size :: (match a' with | some ad => if ad.spot = none then [ad.block] else [] | none => []), rfl, ⟨w1.heap.size, w1.heap.size, a', c', _, _, ⟨⟨heap_alloc_new w1 _⟩, H1.out.kept hk (fun _ _ _ => by simp), ?_, Or.inl ⟨rfl, rfl, rfl⟩, Or.inl ⟨rfl, rfl, rfl⟩, List.nodup_nil, fun x hx => by simp at hx⟩, ?_, by simp, by simp, by simp, ?_⟩, H2.out.quiet hk, ?_⟩
  · intro b off e _
    have := hfar b off e
    exact ⟨by omega, by omega, by omega⟩
  · intro x hx
    simp at hx
    rcases hx with rfl | hx
    · simp
    · rcases a' with _ | ⟨b, off, sp⟩
      · simp at hx
      · cases sp with
        | none =>
          simp at hx
          subst hx
          have := hfar x off rfl
          simp; omega
        | some s => simp at hx
  · intro b off e _
    subst e
    simp
  · intro x hx
    simp at hx
    rcases hx with rfl | hx
    · exact hs
    · rcases a' with _ | ⟨b, off, sp⟩
      · simp at hx
      · cases sp with
        | none =>
          simp at hx
          subst hx
          exact (H3.out x off rfl).1
        | some s => simp at hx

/-- x waits behind the others. -/
def pushed (line : List Int) (x : Int) : List Int := if x ∈ line then line else line ++ [x]
def Near (w : World) (F F' : List Nat) : Prop := ∀ x, x ∈ F' → x ∈ F ∨ w.heap.size ≤ x

theorem Rep.alloc {w : World} {p g m : Nat} {a : Option Addr} {cp : Nat} {lv mv : Value} {picks line : List Int} {pops : Nat} (h : Rep w p g m a cp lv mv picks line pops) (o : Obj) : Rep (w.alloc o) p g m a cp lv mv picks line pops :=
  h.kept (Keeps.alloc [] w o) (by simp) (by simp) (by simp) (fun _ _ _ _ => by simp)

set_option maxHeartbeats 1000000 in
theorem push_there (p g m cp pops : Nat) (a : Option Addr) (lv mv : Value) (picks line : List Int) (x : Int) (w : World) (h : Rep w p g m a cp lv mv picks line pops) (hx : x ∈ line) :
    Calls Try.prog 9 #[.pointer (some ⟨p, 0, none⟩), .int .i64 x] w fun e w' => e = .returned (.bool false) ∧ Rep w' p g m a cp lv mv picks line pops ∧ Keeps [] w w' := by
  have HR := hid h
  have hkey := Maps.keyOf_int_mk Try.underlying3 (h.wf x hx)
  rcases h.hwaits with ⟨_, e, _⟩ | ⟨_, rfl, n, D, hown, _, hhas⟩
  · rw [e] at hx; simp at hx
  · have hb := hhas x
    rw [decide_eq_true hx] at hb
    have c3 := h.head.c3
    have HO := hid hown
    have HB := hid hb
    have HKk := hid hkey
    clear h hhas hown hb hkey hx
    go_enter Try.func9, Try.ntmps9
    go_wp2_with (at_lookup; refine wpList_lookup_own_unit _ rfl _ _ 38 rfl 3 41 wlaw Try.underlying38 (wzero _) m n D rfl HO.out _ _ rfl HKk.out ?_; rw [HB.out])
    go_ret
    exact ⟨rfl, HR.out.alloc _, Keeps.alloc _ _ _⟩

theorem int_key (x : Int) : WideAt.IsKeyLit (.int .i64 x) := by trivial

theorem has_put (D : DataW Unit) (hD : Maps.IsMap D) (line : List Int) (x : Int) (d : DataW Unit) (h : ∀ y, Maps.has D (.int .i64 y) = decide (y ∈ line)) : ∀ y, Maps.has (D.put (.int .i64 x) d) (.int .i64 y) = decide (y ∈ line ++ [x]) := by
  intro y
  by_cases e : y = x
  · subst e
    rw [Maps.has_put_same hD (int_key y)]
    simp
  · rw [Maps.has_put_other (by simpa using e), h y]
    simp [e]

theorem nodup_snoc (l : List Int) (x : Int) (h : l.Nodup) (hx : x ∉ l) : (l ++ [x]).Nodup := by
  rw [List.nodup_append]
  refine ⟨h, by simp, ?_⟩
  intro a ha b hb e
  simp at hb
  subst hb
  subst e
  exact hx ha

/-- What Push leaves. -/
theorem push_done {wA wB wD : World} {p g m g' off' cap' cp pops n : Nat} {a : Option Addr} {lv mv : Value} {picks line : List Int} {x : Int} {D : DataW Unit} {o : Obj}
    (h : Rep wA p g m a cp lv mv picks line pops) (hmp : m ≠ p) (hmv : mv = .map (some m)) (hn : n ≤ pops + line.length) (hD : Maps.IsMap D) (hhas : ∀ y, Maps.has D (.int .i64 y) = decide (y ∈ line)) (hx : x ∉ line) (hwx : wfI x)
    (o1 : wB.ownsMap Try.prog 3 (unitElem (H := Unit)) m (n + 1) (D.put (.int .i64 x) (.agg []))) (hg1 : wA.grownBy wB (some m))
    (hl : LineAt wD g' off' cap' (line ++ [x])) (hk : Keeps lv.ownBlock.toList (wB.alloc o) wD) (hg' : lv.ownBlock = some g' ∨ g' = wB.heap.size + 1) :
    Rep (wD.setCell ⟨p, 2, none⟩ (.slice (some ⟨g', off', none⟩) (line.length + 1) cap')) p g' m a cp (.slice (some ⟨g', off', none⟩) (line.length + 1) cap') mv picks (line ++ [x]) pops ∧
      Keeps [p, g, m] wA (wD.setCell ⟨p, 2, none⟩ (.slice (some ⟨g', off', none⟩) (line.length + 1) cap')) ∧ (g' = g ∨ wA.heap.size ≤ g') := by
  have kB : Keeps [m] wA wB := Keeps.grown [m] hg1 (fun k hk => by cases hk; simp)
  have kC : Keeps [] wB (wB.alloc o) := Keeps.alloc _ _ _
  have hsz : (wB.alloc o).heap.size = wB.heap.size + 1 := by simp
  have hs1 := kB.size
  have hp := h.head.lt
  have hob : ∀ k, k ∈ lv.ownBlock.toList → k = g ∧ g ≠ p ∧ g ≠ m := by
    intro k hk
    rcases h.hline with ⟨rfl, _, _⟩ | ⟨h1, h2, off, cap, rfl, _⟩
    · simp [Value.ownBlock] at hk
    · simp [Value.ownBlock] at hk
      exact ⟨hk, h1, h2⟩
  have hAD : Keeps [g, m] wA wD := ((kB.quiet kC).mono (by simp)).trans hk (fun y hy _ => by simp [(hob y hy).1])
  have hE : Keeps [p] wD (wD.setCell ⟨p, 2, none⟩ (.slice (some ⟨g', off', none⟩) (line.length + 1) cap')) := Keeps.setCell _ _ _ _ (by simp)
  have hg2 : g' = g ∧ g ≠ p ∧ g ≠ m ∨ g' = wB.heap.size + 1 := by
    rcases hg' with e | e
    · exact Or.inl (hob g' (by rw [e]; simp))
    · exact Or.inr e
  have hg'p : g' ≠ p ∧ g' ≠ m := by
    have hmB := o1.lt
    rcases hg2 with ⟨rfl, h1, h2⟩ | rfl
    · exact ⟨h1, h2⟩
    · exact ⟨by omega, by omega⟩
  have hd : Head wD p (.slice a picks.length cp) pops lv mv := (((h.head.kept kB (by simpa using fun e => hmp e.symm)).kept kC (by simp)).kept hk (fun hy => (hob p hy).2.1 (hob p hy).1.symm))
  refine ⟨⟨hd.put2 _, ?_, ?_, Or.inr ⟨hg'p.1, hg'p.2, off', cap', by simp, hl.kept hE (by simpa using hg'p.1)⟩, Or.inr ⟨hmp, hmv, n + 1, D.put (.int .i64 x) (.agg []), ?_, by simp; omega, has_put D hD line x (.agg []) hhas⟩, nodup_snoc line x h.nodup hx, fun y hy => ?_⟩, ?_, ?_⟩
  · refine (h.hpicks.kept' hAD (fun b off e hne => ?_)).kept' hE (fun b off e hne => ?_)
    · obtain ⟨_, h2, h3⟩ := h.pfar b off e hne
      simp; exact ⟨h2, h3⟩
    · obtain ⟨h1, _, _⟩ := h.pfar b off e hne
      simpa using h1
  · intro b off e hne
    obtain ⟨h1, h2, h3⟩ := h.pfar b off e hne
    refine ⟨h1, ?_, h3⟩
    rcases hg2 with ⟨rfl, _, _⟩ | rfl
    · exact h2
    · have hb : b < wA.heap.size := by
        rcases h.hpicks with e0 | ⟨b', off', e', hc⟩
        · exact absurd e0 hne
        · rw [e] at e'
          cases e'
          have hpos : 0 < picks.length := by
            rcases picks with _ | ⟨z, zs⟩
            · exact absurd rfl hne
            · simp
          exact block_lt_of_cell (hc 0 hpos)
      omega
  · have o2 := owns_kept o1 kC (by simp)
    have o3 := owns_kept o2 hk (fun hy => (hob m hy).2.2 (hob m hy).1.symm)
    exact owns_kept o3 hE (by simpa using hmp)
  · rw [List.mem_append] at hy
    rcases hy with hy | hy
    · exact h.wf y hy
    · simp at hy; subst hy; exact hwx
  · exact (hAD.mono (by intro y hy; simp at hy ⊢; omega)).trans hE (fun y hy _ => by simp at hy; simp [hy])
  · rcases hg2 with ⟨e, _, _⟩ | e
    · exact Or.inl e
    · right; omega

theorem Rep.lines {w : World} {p g m : Nat} {a : Option Addr} {cp : Nat} {lv mv : Value} {picks line : List Int} {pops : Nat} (h : Rep w p g m a cp lv mv picks line pops) : (lv = .slice none 0 0 ∧ line = []) ∨ ∃ g off cap, lv = .slice (some ⟨g, off, none⟩) line.length cap ∧ LineAt w g off cap line := by
  rcases h.hline with ⟨e, e2, _⟩ | ⟨_, _, off, cap, e, hl⟩
  · exact Or.inl ⟨e, e2⟩
  · exact Or.inr ⟨g, off, cap, e, hl⟩

theorem lines_kept {w w' : World} {L : List Nat} {lv : Value} {line : List Int} (h : (lv = .slice none 0 0 ∧ line = []) ∨ ∃ g off cap, lv = .slice (some ⟨g, off, none⟩) line.length cap ∧ LineAt w g off cap line) (k : Keeps L w w') (hn : ∀ b, lv.ownBlock = some b → b ∉ L) :
    (lv = .slice none 0 0 ∧ line = []) ∨ ∃ g off cap, lv = .slice (some ⟨g, off, none⟩) line.length cap ∧ LineAt w' g off cap line := by
  rcases h with e | ⟨g, off, cap, rfl, hl⟩
  · exact Or.inl e
  · exact Or.inr ⟨g, off, cap, rfl, hl.kept k (hn g rfl)⟩

set_option maxHeartbeats 2000000 in
theorem push_more (p g m cp pops n : Nat) (a : Option Addr) (lv : Value) (picks line : List Int) (x : Int) (D : DataW Unit) (w : World) (h : Rep w p g m a cp lv (.map (some m)) picks line pops) (hmp : m ≠ p)
    (hown : w.ownsMap Try.prog 3 (unitElem (H := Unit)) m n D) (hn : n ≤ pops + line.length) (hhas : ∀ y, Maps.has D (.int .i64 y) = decide (y ∈ line)) (hx : x ∉ line) (hwx : wfI x) (hb : pops + line.length < 1000000) :
    Calls Try.prog 9 #[.pointer (some ⟨p, 0, none⟩), .int .i64 x] w fun e w' => e = .returned (.bool true) ∧ ∃ g' lv', Rep w' p g' m a cp lv' (.map (some m)) picks (line ++ [x]) pops ∧ Keeps [p, g, m] w w' ∧ (g' = g ∨ w.heap.size ≤ g') := by
  have HN := hid hn
  have HX := hid hx
  have HF := hid hhas
  have hD := hid hown.isMap
  have HB : Box (Maps.has D (.int .i64 x) = false) := hid (by rw [hhas x, decide_eq_false hx])
  have HKk := hid (Maps.keyOf_int_mk Try.underlying3 hwx)
  have HW := hid hwx
  have HO := hid (hown.alloc (.cells #[] 41))
  have HO1 := hid hown
  have HR := hid (h.alloc (.cells #[] 41))
  have c3 := h.head.c3
  have d3 := HR.out.head.c3
  have hnm : n < maxLen := by unfold maxLen; omega
  have hls : line.length < 1000000 := by omega
  have hK0 := hid (Keeps.alloc [] w (.cells #[] 41))
  have hqe := fun (w : World) (r : Option Nat) => run_eql_map_nil (P := Try.prog) w 38 3 41 r Try.underlying38
  have hvl := hid HR.out.lines
  clear h hhas hown hn hwx hx hb
  go_enter Try.func9, Try.ntmps9
  go_wp2_with (first
    | (at_lookup; refine wpList_lookup_own_unit _ rfl _ _ 38 rfl 3 41 wlaw Try.underlying38 (wzero _) m n D rfl HO1.out _ _ rfl HKk.out ?_; rw [HB.out])
    | (at_mapUpdate; refine wpList_mapUpdate_own _ rfl _ _ _ 38 rfl 3 41 wlaw Try.underlying38 _ m n D rfl HO.out hnm _ _ _ rfl rfl HKk.out (.agg []) [] unitElem_mk ?_))
  intro w1 hown1 hgrow1
  have H1 := hid hown1
  have G1 := hid hgrow1
  have k1 : Keeps [m] (w.alloc (.cells #[] 41)) w1 := Keeps.grown [m] hgrow1 (fun k hk => by cases hk; simp)
  have hh1 := hid (HR.out.head.kept k1 (by simpa using fun e => hmp e.symm))
  have e2 := hh1.out.c2
  have hv1 := hid (lines_kept hvl.out k1 (fun b hb => by
    rcases HR.out.hline with ⟨e, _⟩ | ⟨_, h2, off, cap, e, _⟩
    · rw [e] at hb; simp [Value.ownBlock] at hb
    · rw [e] at hb; simp [Value.ownBlock] at hb; simp; omega))
  have hv2 := hid (lines_kept hv1.out (Keeps.alloc [] w1 (.cells #[.int .i64 x] 3)) (fun _ _ => by simp))
  have hnw := hid (World.news_of_block (w := w1.alloc (.cells #[.int .i64 x] 3)) (heap_alloc_new w1 _))
  have hhw := hid ((hh1.out.kept (Keeps.alloc [] w1 (.cells #[.int .i64 x] 3)) (by simp)))
  clear hown1 hgrow1 k1 c3 d3
  go_wp2_with (at_builtin; refine wpList_append_line _ rfl _ _ rfl line x lv rfl hv2.out ⟨w1.heap.size, 0, none⟩ _ rfl hnw.out hls ?_)
  intro g' off' cap' w2 hl2 hk2 hg2
  have L2 := hid hl2
  have K2 := hid hk2
  have G2 := hid hg2
  have hh2 := hid (hhw.out.kept hk2 (fun hy => by
    rcases HR.out.hline with ⟨e, _⟩ | ⟨h1, h2, off, cap, e, _⟩
    · rw [e] at hy; simp [Value.ownBlock] at hy
    · rw [e] at hy; simp [Value.ownBlock] at hy; exact h1 hy.symm))
  have a2 := hh2.out.c2
  have f2 := hh2.out.frozen 2
  clear hl2 hk2 hg2 e2
  go_wp2
  go_ret
  obtain ⟨r1, r2, r3⟩ := push_done HR.out hmp rfl HN.out hD.out HF.out HX.out HW.out H1.out G1.out L2.out K2.out G2.out
  refine ⟨rfl, g', _, r1, (hK0.out.mono (by simp)).step r2, ?_⟩
  rcases r3 with e | e
  · exact Or.inl e
  · right; have := hK0.out.size; omega

/-- The map is made. -/
theorem Rep.made {w : World} {p g cp pops : Nat} {a : Option Addr} {lv : Value} {picks : List Int} (h : Rep w p g p a cp lv (.map none) picks [] pops) (M : Nat) (hM : M = w.heap.size) :
    Rep ((w.alloc (.map #[] 0)).setCell ⟨p, 3, none⟩ (.map (some M))) p g M a cp lv (.map (some M)) picks [] pops ∧ ((w.alloc (.map #[] 0)).setCell ⟨p, 3, none⟩ (.map (some M))).ownsMap Try.prog 3 (unitElem (H := Unit)) M 0 (.map []) ∧ M ≠ p := by
  subst hM
  have hp := h.head.lt
  have hne : w.heap.size ≠ p := by omega
  have k1 : Keeps [] w (w.alloc (.map #[] 0)) := Keeps.alloc _ _ _
  have k2 : Keeps [p] (w.alloc (.map #[] 0)) ((w.alloc (.map #[] 0)).setCell ⟨p, 3, none⟩ (.map (some w.heap.size))) := Keeps.setCell _ _ _ _ (by simp)
  have ho := owns_kept (World.ownsMap_made w Try.prog 3 (unitElem (H := Unit))) k2 (by simpa using hne)
  refine ⟨⟨(h.head.kept k1 (by simp)).put3 _, ?_, ?_, ?_, Or.inr ⟨hne, rfl, 0, _, ho, Nat.zero_le _, fun x => by simp [Maps.has]⟩, h.nodup, h.wf⟩, ho, hne⟩
  · refine (h.hpicks.kept' k1 (fun _ _ _ _ => by simp)).kept' k2 (fun b off e hne => ?_)
    simpa using (h.pfar b off e hne).1
  · intro b off e hne2
    obtain ⟨h1, h2, _⟩ := h.pfar b off e hne2
    refine ⟨h1, h2, ?_⟩
    have hb : b < w.heap.size := by
      rcases h.hpicks with e0 | ⟨b', off', e', hc⟩
      · exact absurd e0 hne2
      · rw [e] at e'
        cases e'
        have hpos : 0 < picks.length := by
          rcases picks with _ | ⟨z, zs⟩
          · exact absurd rfl hne2
          · simp
        exact block_lt_of_cell (hc 0 hpos)
    omega
  · rcases h.hline with e | ⟨h1, h2, off, cap, e, hl⟩
    · exact Or.inl e
    · exact Or.inr ⟨h1, by have := hl.lt; omega, off, cap, e, (hl.kept k1 (by simp)).kept k2 (by simpa using h1)⟩

set_option maxHeartbeats 2000000 in
theorem push_first (p g cp pops : Nat) (a : Option Addr) (lv : Value) (picks : List Int) (x : Int) (w : World) (h : Rep w p g p a cp lv (.map none) picks [] pops) (hwx : wfI x) :
    Calls Try.prog 9 #[.pointer (some ⟨p, 0, none⟩), .int .i64 x] w fun e w' => e = .returned (.bool true) ∧ ∃ g' m' lv', Rep w' p g' m' a cp lv' (.map (some m')) picks [x] pops ∧ Keeps [p, g] w w' ∧ (g' = g ∨ w.heap.size ≤ g') ∧ w.heap.size ≤ m' := by
  have hkey := Maps.keyOf_int_mk Try.underlying3 hwx
  have hlk := Maps.look_nil (w := w) (t := 38) true wlaw Try.underlying38 (wzero w) hkey
  rw [if_pos rfl] at hlk
  have HKk := hid hkey
  have HW := hid hwx
  have h1 := h.alloc (.cells #[] 41)
  have hs1 : (w.alloc (.cells #[] 41)).heap.size = w.heap.size + 1 := by simp
  obtain ⟨hM, hown, hmp⟩ := h1.made (w.heap.size + 1) hs1.symm
  have c3 := h.head.c3
  have d3 := h1.head.c3
  have i3 := (h1.alloc (.map #[] 0)).head.c3
  have j3 := (h1.alloc (.map #[] 0)).head.frozen 3
  have k3 := hM.head.c3
  have HR := hid hM
  have HO := hid hown
  have hK0 : Box (Keeps [p] w (((w.alloc (.cells #[] 41)).alloc (.map #[] 0)).setCell ⟨p, 3, none⟩ (.map (some (w.heap.size + 1))))) := hid ((((Keeps.alloc [] w _).quiet (Keeps.alloc [] _ _)).mono (by simp)).step (Keeps.setCell _ _ _ _ (by simp)))
  have hnm : 0 < maxLen := by unfold maxLen; omega
  have hls : ([] : List Int).length < 1000000 := by simp
  have hqe := fun (w : World) (r : Option Nat) => run_eql_map_nil (P := Try.prog) w 38 3 41 r Try.underlying38
  have hmm := @run_makeMap Try.prog
  clear h h1 hM hown hwx hkey hs1
  go_enter Try.func9, Try.ntmps9
  go_wp2_with (at_mapUpdate; refine wpList_mapUpdate_own _ rfl _ _ _ 38 rfl 3 41 wlaw Try.underlying38 _ (w.heap.size + 1) 0 (.map []) rfl HO.out hnm _ _ _ rfl rfl HKk.out (.agg []) [] unitElem_mk ?_)
  generalize hwB : ((w.alloc (.cells #[] 41)).alloc (.map #[] 0)).setCell ⟨p, 3, none⟩ (.map (some (w.heap.size + 1))) = wB at HR HO hK0 ⊢
  clear hwB hlk c3 d3 i3 j3 k3
  intro w1 hown1 hgrow1
  have H1 := hid hown1
  have G1 := hid hgrow1
  have k1 : Keeps [w.heap.size + 1] wB w1 := Keeps.grown _ hgrow1 (fun k hk => by cases hk; simp)
  have hh1 := hid (HR.out.head.kept k1 (by simpa using fun e => hmp e.symm))
  have e2 := hh1.out.c2
  have hv1 := hid (lines_kept HR.out.lines k1 (fun b hb => by
    rcases HR.out.hline with ⟨e, _⟩ | ⟨_, h2, off, cap, e, _⟩
    · rw [e] at hb; simp [Value.ownBlock] at hb
    · rw [e] at hb; simp [Value.ownBlock] at hb; simp; omega))
  have hv2 := hid (lines_kept hv1.out (Keeps.alloc [] w1 (.cells #[.int .i64 x] 3)) (fun _ _ => by simp))
  have hnw := hid (World.news_of_block (w := w1.alloc (.cells #[.int .i64 x] 3)) (heap_alloc_new w1 _))
  have hhw := hid ((hh1.out.kept (Keeps.alloc [] w1 (.cells #[.int .i64 x] 3)) (by simp)))
  clear hown1 hgrow1 k1
  go_wp2_with (at_builtin; refine wpList_append_line _ rfl _ _ rfl [] x lv rfl hv2.out ⟨w1.heap.size, 0, none⟩ _ rfl hnw.out hls ?_)
  intro g' off' cap' w2 hl2 hk2 hg2
  have L2 := hid hl2
  have K2 := hid hk2
  have G2 := hid hg2
  have hh2 := hid (hhw.out.kept hk2 (fun hy => by
    rcases HR.out.hline with ⟨e, _⟩ | ⟨h1, h2, off, cap, e, _⟩
    · rw [e] at hy; simp [Value.ownBlock] at hy
    · rw [e] at hy; simp [Value.ownBlock] at hy; exact h1 hy.symm))
  have a2 := hh2.out.c2
  have f2 := hh2.out.frozen 2
  clear hl2 hk2 hg2 e2
  go_wp2
  go_ret
  obtain ⟨r1, r2, r3⟩ := push_done (n := 0) (D := .map []) HR.out hmp rfl (Nat.zero_le _) ⟨[], rfl⟩ (fun y => by simp [Maps.has]) (by simp) HW.out H1.out G1.out L2.out K2.out G2.out
  refine ⟨rfl, g', w.heap.size + 1, _, r1, ?_, ?_, by omega⟩
  · refine (hK0.out.mono (by simp)).trans r2 (fun y hy hlt => ?_)
    simp at hy ⊢
    omega
  · rcases r3 with e | e
    · exact Or.inl e
    · right; have := hK0.out.size; omega

/-- Push. -/
theorem push_any {p : Nat} {F : List Nat} {picks line : List Int} {pops : Nat} {w : World} (x : Int) (h : Has w p F picks line pops) (hwx : wfI x) (hb : pops + line.length < 1000000) :
    Calls Try.prog 9 #[.pointer (some ⟨p, 0, none⟩), .int .i64 x] w fun e w' => e = .returned (.bool (!decide (x ∈ line))) ∧ ∃ F', Has w' p F' picks (pushed line x) pops ∧ Keeps F w w' ∧ Near w F F' := by
  obtain ⟨g, m, a, cp, lv, mv, r, hs, hp, hg, hm, ha⟩ := h
  by_cases hx : x ∈ line
  · refine (push_there p g m cp pops a lv mv picks line x w r hx).mono ?_
    rintro e w' ⟨rfl, r', hk⟩
    refine ⟨by simp [hx], F, ?_, hk.mono (by simp), fun y hy => Or.inl hy⟩
    rw [show pushed line x = line from if_pos hx]
    exact ⟨g, m, a, cp, lv, mv, r', fun y hy => Nat.lt_of_lt_of_le (hs y hy) hk.size, hp, hg, hm, ha⟩
  · have e0 : pushed line x = line ++ [x] := if_neg hx
    have fin : ∀ (w' : World) (g' m' : Nat) (lv' : Value), Rep w' p g' m' a cp lv' (.map (some m')) picks (line ++ [x]) pops → Keeps F w w' → (g' = g ∨ w.heap.size ≤ g') → (m' = m ∨ w.heap.size ≤ m') → ∃ F', Has w' p F' picks (line ++ [x]) pops ∧ Keeps F w w' ∧ Near w F F' := by
      intro w' g' m' lv' r' hk h1 h2
      refine ⟨g' :: m' :: F, ⟨g', m', a, cp, lv', _, r', ?_, by simp [hp], by simp, by simp, fun b off e hne => by simp [ha b off e hne]⟩, hk, ?_⟩
      · intro y hy
        simp at hy
        rcases hy with rfl | rfl | hy
        · rcases r'.hline with ⟨_, e, _⟩ | ⟨_, _, off, cap, _, hl⟩
          · simp at e
          · exact hl.lt
        · rcases r'.hwaits with ⟨_, e, _⟩ | ⟨_, _, n, D, ho, _⟩
          · simp at e
          · exact ho.lt
        · exact Nat.lt_of_lt_of_le (hs y hy) hk.size
      · intro y hy
        simp at hy
        rcases hy with rfl | rfl | hy
        · rcases h1 with rfl | h1
          · exact Or.inl hg
          · exact Or.inr h1
        · rcases h2 with rfl | h2
          · exact Or.inl hm
          · exact Or.inr h2
        · exact Or.inl hy
    rcases r.hwaits with ⟨rfl, rfl, rfl⟩ | ⟨hmp, rfl, n, D, hown, hn, hhas⟩
    · refine (push_first m g cp pops a lv picks x w r hwx).mono ?_
      rintro e w' ⟨rfl, g', m', lv', r', hk, h1, h2⟩
      rw [e0]
      exact ⟨by simp, fin w' g' m' lv' r' (hk.mono (by intro y hy; simp at hy; rcases hy with rfl | rfl <;> assumption)) h1 (Or.inr h2)⟩
    · refine (push_more p g m cp pops n a lv picks line x D w r hmp hown hn hhas hx hwx hb).mono ?_
      rintro e w' ⟨rfl, g', lv', r', hk, h1⟩
      rw [e0]
      exact ⟨by simp [hx], fin w' g' m lv' r' (hk.mono (by intro y hy; simp at hy; rcases hy with rfl | rfl | rfl <;> assumption)) h1 (Or.inl rfl)⟩
end Go.Proofs.Ytjfemabgbmadfaa
