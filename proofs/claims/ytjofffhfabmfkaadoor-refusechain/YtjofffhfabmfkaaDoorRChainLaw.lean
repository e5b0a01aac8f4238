/-
  RefuseChain's walk.
-/
import Derived.Test.YtjofffhfabmfkaaDoorRMadeAny
import Derived.Test.YtjofffhfabmfkaaDoorRRef
import Derived.Test.YtjofffhfabmfkaaDoorRErr
import Derived.Test.YtjofffhfabmfkaaDoorRBegun
import Derived.Deep.DeepCutAuto
namespace Go.Proofs.YtjofffhfabmfkaaDoor
open Go.RowKit

theorem Made.first : ∀ {zs : List Ln} {l : List Lk} {a : Addr}, Made zs l → firstP l = some a →
    ∃ k, k < zs.length ∧ (∀ j, j < k → (zs.getD j Ln.zero).oth = true) ∧ (zs.getD k Ln.zero).oth = false ∧
      firstOf l = some ((zs.getD k Ln.zero).why, (zs.getD k Ln.zero).f, (zs.getD k Ln.zero).b, (zs.getD k Ln.zero).i) ∧ (∃ r, whys l = (zs.getD k Ln.zero).why :: r) ∧
      textL zs = textB (zs.getD k Ln.zero).why (zs.getD k Ln.zero).f (zs.getD k Ln.zero).b (zs.getD k Ln.zero).i
  | [], l, a, h, hp => by rw [show l = [] from h] at hp; simp [firstP] at hp
  | x :: zs, l, a, h, hp => by
    unfold Made at h
    by_cases c : x.oth
    · rw [if_pos c] at h
      obtain ⟨p, t, r, rfl, h⟩ := h
      obtain ⟨k, h1, h2, h3, h4, h5, h6⟩ := Made.first h hp
      refine ⟨k + 1, by simpa using h1, fun j hj => ?_, h3, h4, h5, ?_⟩
      · rcases j with _ | j
        · exact c
        · exact h2 j (by omega)
      · show (if x.oth then textL zs else _) = _
        rw [if_pos c]
        exact h6
    · rw [if_neg c] at h
      obtain ⟨p, r, rfl, h⟩ := h
      refine ⟨0, by simp, fun j hj => absurd hj (by omega), by simpa using c, rfl, ⟨whys r, rfl⟩, ?_⟩
      show (if x.oth then textL zs else _) = _
      rw [if_neg c]
      rfl

theorem error_any (p : Nat) (y f b i : Int) (v : Value) (w : World) (h : w.heap[p]? = some (.cells #[.int .i64 y, .int .i64 f, .int .i64 b, .int .i64 i, v] 44 (0, 0))) (hg : Glob w) (w1 : wf64 f) (w2 : wf64 b) (w3 : wf64 i) :
    Calls Tryd.prog 15 #[.pointer (some ⟨p, 0, none⟩)] w fun e w' => e = .returned (.string (textB y f b i)) ∧ Keeps [] w w' := by
  by_cases hf : 0 ≤ f
  · exact error_placed p y f b i v w h hg hf w1 w2 w3
  · exact error_bare p y f b i v w h hf

/-- What is known behind 'made'. -/
structure Known (w wr : World) (xs : List Ln) (l : List Lk) (a2 : Option Addr) : Prop where
  keep : Keeps [] w wr
  chain : ChainAt wr l
  falls : Falls l
  made : Made xs l
  ints : IntsAt wr a2 (whys l)
theorem Known.quiet {w wr w' : World} {xs : List Ln} {l : List Lk} {a2 : Option Addr} (h : Known w wr xs l a2) (k : Keeps [] wr w') : Known w w' xs l a2 :=
  ⟨h.keep.step k, h.chain.quiet k, h.falls, h.made, h.ints.kept k (fun _ _ _ => by simp)⟩
theorem Known.keep1 {w wr w' : World} {xs : List Ln} {l : List Lk} {a2 : Option Addr} {t : Nat} (h : Known w wr xs l a2) (k : Keeps [t] wr w') (hw : w.heap.size ≤ t) (hc : ∀ x, x ∈ l → x.at ≠ t) (hi : ∀ b off, a2 = some ⟨b, off, none⟩ → b ≠ t) : Known w w' xs l a2 :=
  ⟨h.keep.trans k (fun x hx hl => by simp at hx; omega), h.chain.kept k (fun x hx => by simpa using hc x hx), h.falls, h.made, h.ints.kept k (fun b off e => by simpa using hi b off e)⟩

set_option maxHeartbeats 8000000 in
set_option maxRecDepth 20000 in
theorem chainLaw_core (a : Option Addr) (cap L : Nat) (zs : List Ln) (y : Int) (w : World) (hg : Glob w) (hz : LinksAt w a zs) (hL : zs.length = L) (hLc : L ≤ cap) (hw : ∀ x, x ∈ zs → x.wf) :
    Calls Tryd.prog 3 #[.slice a L cap, .int .i64 y] w fun e w' => e = .returned (.bool true) ∧ Keeps [] w w' := by
  have hb := hid (begun_any w hg)
  have HM := hid fun w' (k : Keeps [] w w') => made_any a cap (zs.take 8) w' ((hz.take 8).quiet k) (by rw [List.length_take]; omega) (fun x hx => hw x (List.mem_of_mem_take hx))
  have HW : Box (∀ x, x ∈ zs.take 8 → x.wf) := hid fun x hx => hw x (List.mem_of_mem_take hx)
  have HZ := hid (hz.take 8)
  have hx : (zs.take 8).length = min L 8 := by rw [List.length_take]; omega
  have HX := hid hx
  rw [hx] at HM
  have HG := hid hg
  clear hg hz hw hx hL
  generalize zs.take 8 = xs at *
  go_enter Tryd.func3, Tryd.ntmps3
  go_upto_if 19 with (go_at_call 7; refine hb.out.mono ?_; rintro e w1 ⟨rfl, hk⟩; have K1 := hid hk; clear hk)
  go_cut [0] (fun v0 wx => v0 = .slice a (min L 8) cap ∧ wx = w1)
  case first =>
    by_cases h : 8 < L
    · have hb : decide ((8 : Int) < (L : Int)) = true := decide_eq_true (by omega)
      have hc2 : (8 : Int) ≤ (cap : Int) := by omega
      go_wp2
      go_meet
      exact ⟨by rw [show min L 8 = 8 by omega], rfl⟩
    · have hb : decide ((8 : Int) < (L : Int)) = false := decide_eq_false (by omega)
      go_wp2
      go_meet
      exact ⟨by rw [show min L 8 = L by omega], rfl⟩
  case rest =>
    obtain ⟨rfl, rfl⟩ := hcut
    have hN : min L 8 ≤ 8 := by omega
    have hNc : min L 8 ≤ cap := by omega
    generalize min L 8 = N at *
    clear hLc hb
    go_wp2_with fail
    refine (HM.out _ K1.out).mono ?_
    rintro e w2 ⟨l, lv, rfl, hs⟩
    obtain ⟨a2, cap2, rfl, hi⟩ := owns_ints hs.own
    have KN : Box (Known w w2 xs l a2) := hid ⟨K1.out.step hs.keep, hs.chain, hs.falls, hs.made, hi⟩
    have hwl := whys_le l
    have hml := hs.made.len
    have HLW : Box ((whys l).length ≤ 8) := hid (by have := HX.out; omega)
    have HLL : Box (l.length = N) := hid (by have := HX.out; omega)
    have hfar : Box (∀ b off, a2 = some ⟨b, off, none⟩ → whys l ≠ [] → b < w2.heap.size) := hid (by
      intro b off e hne
      rcases hi with h0 | ⟨b', off', e', hc⟩
      · exact absurd h0 hne
      · rw [e'] at e
        cases e
        exact block_lt_of_cell (hc 0 (List.length_pos_iff.2 hne)))
    clear hs hi hwl hml HM
    obtain ⟨m, hme⟩ : ∃ m, m = (whys l).length := ⟨_, rfl⟩
    rw [← hme]
    have HME := hid hme
    clear hme
    by_cases h0 : N = 0
    · subst h0
      obtain rfl : l = [] := List.eq_nil_of_length_eq_zero HLL.out
      go_wp2_with fail
      refine (why_any [] _ (HG.out.quiet KN.out.keep) trivial trivial).mono ?_
      rintro e w3 ⟨he, hk3⟩
      obtain rfl : e = .returned (.int .i64 0) := he
      have K3 := hid (KN.out.keep.step hk3)
      clear hk3
      go_wp2_with fail
      refine (chain_any [] _ (HG.out.quiet K3.out) trivial trivial (by simp)).mono ?_
      rintro e w4 ⟨v, rfl, hown, hk4⟩
      obtain ⟨a3, cap3, rfl, _⟩ := owns_ints hown
      have K4 := hid (K3.out.step hk4)
      clear hown hk4
      go_wp2_with fail
      go_ret
      exact ⟨rfl, K4.out⟩
    · have h1 : ((N : Int) == 0) = false := by simpa using h0
      have hne : l ≠ [] := fun e => h0 (by rw [← HLL.out, e]; rfl)
      obtain ⟨T2, p2, e2⟩ : ∃ T2 p2, headV l = .iface T2 (.pointer (some ⟨p2, 0, none⟩)) := (headV_cases l).resolve_left (by
        rcases l with _ | ⟨x, r⟩
        · exact absurd rfl hne
        · rcases lk_cases x with ⟨_, _, _, _, _, rfl⟩ | ⟨_, _, rfl⟩ <;> simp [headV])
      have E2 := hid e2
      rw [e2]
      clear e2
      go_wp2_with fail
      have hch := chain_any l w2 (HG.out.quiet KN.out.keep) KN.out.chain KN.out.falls (by rw [HLL.out]; omega)
      rw [E2.out] at hch
      refine hch.mono ?_
      rintro e w3 ⟨v, rfl, hown, hk3⟩
      obtain ⟨a3, cap3, rfl, hi3⟩ := owns_ints hown
      have KN3 := hid (KN.out.quiet hk3)
      have HI3 := hid hi3
      have hsz3 := hk3.size
      have F3 : Box (∀ b off, a2 = some ⟨b, off, none⟩ → whys l ≠ [] → b < w3.heap.size) := hid fun b off e hn => Nat.lt_of_lt_of_le (hfar.out b off e hn) hsz3
      clear hown hk3 hi3 hch KN hfar hsz3
      rw [← HME.out]
      go_wp2_with fail
      have heq := eq_any a3 a2 cap3 cap2 (whys l) (whys l) w3 HI3.out KN3.out.ints (by have := HLW.out; omega)
      rw [← HME.out, decide_eq_true rfl] at heq
      refine heq.mono ?_
      rintro e w4 ⟨rfl, q4, rfl⟩
      have KN4 := hid (KN3.out.quiet (Keeps.drewN [] w3 q4))
      have F4 : Box (∀ b off, a2 = some ⟨b, off, none⟩ → whys l ≠ [] → b < (w3.drewN q4).heap.size) := hid fun b off e hn => F3.out b off e hn
      clear heq HI3 KN3 F3
      generalize w3.drewN q4 = w4 at *
      go_wp2_with fail
      refine (name12_any y _).mono ?_
      rintro e w5 ⟨rfl, rfl⟩
      go_wp2_with fail
      refine (name13_any y _).mono ?_
      rintro e w6 ⟨rfl, rfl⟩
      have hnm : ((nameB y).toList == (nameB y).toList) = true := by simp
      generalize nameB y = NM at *
      go_wp2_with fail
      have k7 := Keeps.alloc [] w6 (.cells #[.pointer none] 33)
      have KN7 := hid (KN4.out.quiet k7)
      have hA := As_any l w6.heap.size _ (HG.out.quiet KN7.out.keep) KN7.out.chain KN7.out.falls (heap_new _ _)
      rw [E2.out] at hA
      refine hA.mono ?_
      rintro e w8 ⟨he, hk8, hh8⟩
      have KN8 : Box (Known w w8 xs l a2) := hid (by
        have hsz := KN4.out.keep.size
        have hlt := KN4.out.chain.lt
        by_cases hwe : whys l = []
        · exact ⟨KN7.out.keep.trans hk8 (fun x hx hl => by simp at hx; omega), KN7.out.chain.kept hk8 (fun x hx => by have := hlt x hx; simp; omega), KN7.out.falls, KN7.out.made, Or.inl hwe⟩
        · exact KN7.out.keep1 hk8 hsz (fun x hx e => by have := hlt x hx; omega) (fun b off e e' => by have := F4.out b off e hwe; omega))
      have XV := hid hh8
      clear hA k7 KN7 hk8 hh8 KN4
      cases hp : firstP l with
      | none =>
        rw [hp] at he
        subst he
        have hw0 : whys l = [] := whys_none hp
        have hm0 : m = 0 := by rw [HME.out, hw0]; rfl
        subst hm0
        have ho := first_none hp
        clear hw0 hp XV
        go_wp2_with fail
        have hwh := where_any l w8 (HG.out.quiet KN8.out.keep) KN8.out.chain KN8.out.falls
        unfold whereV at hwh
        rw [ho, E2.out] at hwh
        refine hwh.mono ?_
        rintro e w9 ⟨rfl, hk9⟩
        have KN9 := hid (KN8.out.quiet hk9)
        clear hwh hk9 KN8
        go_wp2_with fail
        have k10 := Keeps.alloc [] w9 (.cells #[.int .i64 0, .int .i64 0, .int .i64 0] 38)
        have KN10 := hid (KN9.out.quiet k10)
        have hy := why_any l _ (HG.out.quiet KN10.out.keep) KN10.out.chain KN10.out.falls
        rw [ho, E2.out] at hy
        refine hy.mono ?_
        rintro e w11 ⟨he, hk11⟩
        obtain rfl : e = .returned (.int .i64 0) := he
        have K11 := hid (KN10.out.keep.step hk11)
        clear hy k10 hk11 KN9 KN10 ho
        go_wp2_with fail
        go_ret
        exact ⟨rfl, K11.out⟩
      | some ad =>
        rw [hp] at he XV
        subst he
        obtain ⟨p, y1, f1, b1, i1, v1, rfl, ho, hh⟩ := first_some KN8.out.chain hp
        obtain ⟨k0, hk0, hbefore, hoth, hof, ⟨r, hwr⟩, htx⟩ := KN8.out.made.first hp
        rw [ho] at hof
        simp only [Option.some.injEq, Prod.mk.injEq] at hof
        obtain ⟨hy1, hf1, hb1, hi1⟩ := hof
        have hwfx := HW.out _ (getD_mem_ln xs k0 hk0)
        obtain ⟨_, wf1, wb1, wi1⟩ := hwfx
        rw [← hf1] at wf1
        rw [← hb1] at wb1
        rw [← hi1] at wi1
        rw [← hy1, ← hf1, ← hb1, ← hi1] at htx
        rw [← hy1] at hwr
        rw [htx]
        have XH : w8.heap[w6.heap.size]? = some (.cells #[.pointer (some ⟨p, 0, none⟩)] 33 (0, 0)) := XV.out
        have hm1 : ((m : Int) == 0) = false := by
          have : m = r.length + 1 := by rw [HME.out, hwr]; rfl
          rw [beq_eq_false_iff_ne]
          omega
        obtain ⟨g, o, ha2, hgc⟩ : ∃ g o, a2 = some ⟨g, o, none⟩ ∧ w8.cell? ⟨g, o, none⟩ = some (.int .i64 y1) := by
          rcases KN8.out.ints with h | ⟨g, o, e, hc⟩
          · rw [hwr] at h; cases h
          · refine ⟨g, o, e, ?_⟩
            have := hc 0 (by rw [hwr]; simp)
            rw [hwr] at this
            exact this
        obtain ⟨b, off, ha, hlc⟩ : ∃ b off, a = some ⟨b, off, none⟩ ∧ ∀ i, i < xs.length → ∀ k, k < 6 → w.cell? ⟨b, off + i * 6 + k, none⟩ = (xs.getD i Ln.zero).cells[k]? := by
          rcases HZ.out with h | h
          · rw [h] at hk0; simp at hk0
          · exact h
        subst ha ha2
        have HLC := hid hlc
        have HBF := hid (show k0 < xs.length ∧ (∀ j, j < k0 → (xs.getD j Ln.zero).oth = true) ∧ (xs.getD k0 Ln.zero).oth = false ∧ f1 = (xs.getD k0 Ln.zero).f ∧ b1 = (xs.getD k0 Ln.zero).b ∧ i1 = (xs.getD k0 Ln.zero).i from ⟨hk0, hbefore, hoth, hf1, hb1, hi1⟩)
        have HH := hid hh
        have HGC := hid hgc
        have c8 := pcell XH 0
        have herr := hid (error_any p y1 f1 b1 i1 v1 w8 hh (HG.out.quiet KN8.out.keep) wf1 wb1 wi1)
        have hwv : ∃ F B I, whereV l = .tuple #[.agg #[.int .i64 F, .int .i64 B, .int .i64 I], .bool (decide (0 ≤ f1))] ∧ (0 ≤ f1 → F = f1 ∧ B = b1 ∧ I = i1) := by
          unfold whereV
          rw [ho]
          by_cases c : 0 ≤ f1
          · exact ⟨f1, b1, i1, by simp [c], fun _ => ⟨rfl, rfl, rfl⟩⟩
          · exact ⟨0, 0, 0, by simp [c], fun h => absurd h c⟩
        obtain ⟨F, B, I, hwv, hFBI⟩ := hwv
        have HFBI := hid hFBI
        have HWV := hid hwv
        have HHO := hid ho
        have HXH := hid XH
        clear hlc hk0 hbefore hoth hf1 hb1 hi1 hy1 htx hwr hh hgc hwv hFBI ho XH hp wf1 wb1 wi1 XV
        generalize textB y1 f1 b1 i1 = TX at *
        have htn : (TX.toList == TX.toList) = true := by simp
        go_wp2_with fail
        refine herr.out.mono ?_
        rintro e w9 ⟨rfl, hk9⟩
        have KN9 := hid (KN8.out.quiet hk9)
        have K89 := hid hk9
        clear herr hk9 c8
        go_wp2_with fail
        have hwh := where_any l w9 (HG.out.quiet KN9.out.keep) KN9.out.chain KN9.out.falls
        rw [HWV.out, E2.out] at hwh
        refine hwh.mono ?_
        rintro e w10 ⟨rfl, hk10⟩
        have KN10 := hid (KN9.out.quiet hk10)
        have K8a := hid (K89.out.step hk10)
        clear hwh hk10 KN9 K89
        have k11 := Keeps.alloc [] w10 (.cells #[.int .i64 F, .int .i64 B, .int .i64 I] 38)
        have KN11 := hid (KN10.out.quiet k11)
        have K8b := hid (K8a.out.step k11)
        have HA := hid (heap_new w10 (.cells #[.int .i64 F, .int .i64 B, .int .i64 I] 38))
        clear k11 KN10 K8a
        go_wp2_with fail
        generalize hX : w6.heap.size = X at *
        generalize hA : w10.heap.size = A at *
        clear hX hA
        generalize w10.alloc (.cells #[.int .i64 F, .int .i64 B, .int .i64 I] 38) = w11 at *
        go_loop [13] (fun v => ∃ k : Nat, k ≤ k0 ∧ v = .int .i64 (k : Int)) (fun v => k0 - (intOf v).toNat)
        case atStart => exact ⟨0, Nat.zero_le _, rfl⟩
        case round =>
          obtain ⟨k, hk, rfl⟩ := hrel
          have i0 : (0 : Int) ≤ (k : Int) := by omega
          have i1' : (k : Int) < (N : Int) := by have := HBF.out.1; have := HX.out; omega
          have hkx : k < xs.length := by have := HBF.out.1; omega
          have hbl : b < w.heap.size := block_lt_of_cell (a := ⟨b, off + k * 6 + 0, none⟩) (HLC.out k hkx 0 (by omega))
          have c4 : w11.cell? ⟨b, off + k * 6 + 4, none⟩ = some (.bool (xs.getD k Ln.zero).oth) := by
            rw [KN11.out.keep.cell (p := ⟨b, off + k * 6 + 4, none⟩) hbl (by simp)]
            exact HLC.out k hkx 4 (by omega)
          by_cases hlt : k < k0
          · rw [HBF.out.2.1 k hlt] at c4
            have HLT := hid hlt
            clear hlt hkx hbl
            go_wp2_with fail
            go_round
            case rel => exact ⟨k + 1, by have := HLT.out; omega, by go_num⟩
            case measure => have := HLT.out; simp [intOf]; omega
          · obtain rfl : k = k0 := by omega
            rw [HBF.out.2.2.1] at c4
            have hnew : Box (∀ w', Keeps [] w11 w' → Box (Keeps [] w11 w') ∧ w'.cell? ⟨X, 0, none⟩ = some (.pointer (some ⟨p, 0, none⟩)) ∧ w'.cell? ⟨p, 0, none⟩ = some (.int .i64 y1) ∧ w'.cell? ⟨g, o, none⟩ = some (.int .i64 y1) ∧ w'.cell? ⟨b, off + k * 6 + 1, none⟩ = some (.int .i64 f1) ∧ w'.cell? ⟨b, off + k * 6 + 2, none⟩ = some (.int .i64 b1) ∧ w'.cell? ⟨b, off + k * 6 + 3, none⟩ = some (.int .i64 i1) ∧ w'.cell? ⟨A, 0, none⟩ = some (.int .i64 F) ∧ w'.cell? ⟨A, 1, none⟩ = some (.int .i64 B) ∧ w'.cell? ⟨A, 2, none⟩ = some (.int .i64 I)) := hid fun w' kk => by
              have hk8 := K8b.out.step kk
              have hkw := KN11.out.keep.step kk
              have hx := (hk8.block X (heap_lt HXH.out) (by simp)).trans HXH.out
              have hpp := (hk8.block p (heap_lt HH.out) (by simp)).trans HH.out
              have haa := (kk.block A (heap_lt HA.out) (by simp)).trans HA.out
              have cc : ∀ j, j < 6 → w'.cell? ⟨b, off + k * 6 + j, none⟩ = (xs.getD k Ln.zero).cells[j]? := fun j hj => by
                rw [hkw.cell (p := ⟨b, off + k * 6 + j, none⟩) hbl (by simp)]
                exact HLC.out k hkx j hj
              refine ⟨hid kk, pcell hx 0, pcell hpp 0, ?_, ?_, ?_, ?_, pcell haa 0, pcell haa 1, pcell haa 2⟩
              · rw [hk8.cell (p := ⟨g, o, none⟩) (block_lt_of_cell HGC.out) (by simp)]; exact HGC.out
              · rw [cc 1 (by omega), HBF.out.2.2.2.1]; rfl
              · rw [cc 2 (by omega), HBF.out.2.2.2.2.1]; rfl
              · rw [cc 3 (by omega), HBF.out.2.2.2.2.2]; rfl
            have HY := hid fun w' (s : Box (Keeps [] w11 w') ∧ w'.cell? ⟨X, 0, none⟩ = some (.pointer (some ⟨p, 0, none⟩)) ∧ w'.cell? ⟨p, 0, none⟩ = some (.int .i64 y1) ∧ w'.cell? ⟨g, o, none⟩ = some (.int .i64 y1) ∧ w'.cell? ⟨b, off + k * 6 + 1, none⟩ = some (.int .i64 f1) ∧ w'.cell? ⟨b, off + k * 6 + 2, none⟩ = some (.int .i64 b1) ∧ w'.cell? ⟨b, off + k * 6 + 3, none⟩ = some (.int .i64 i1) ∧ w'.cell? ⟨A, 0, none⟩ = some (.int .i64 F) ∧ w'.cell? ⟨A, 1, none⟩ = some (.int .i64 B) ∧ w'.cell? ⟨A, 2, none⟩ = some (.int .i64 I)) => by
              have hy := why_any l w' (HG.out.quiet (KN11.out.keep.step s.1.out)) (KN11.out.chain.quiet s.1.out) KN11.out.falls
              rw [HHO.out, E2.out] at hy
              exact hy.mono fun e w2 (hh : e = _ ∧ Keeps [] w' w2) => (⟨hh.1, hnew.out w2 (s.1.out.step hh.2)⟩ : _ ∧ _)
            clear hlt hkx hbl
            have hm2 : (0 : Int) < (m : Int) := by
              rw [beq_eq_false_iff_ne] at hm1
              omega
            go_wp2_with fail
            clear c4 htn hnm h1 h0 hne
            by_cases c : 0 ≤ f1
            · obtain ⟨rfl, rfl, rfl⟩ := HFBI.out c
              have hd : decide (0 ≤ F) = true := decide_eq_true c
              rw [hd]
              have hs0 := hnew.out w11.drew (Keeps.drew _ _)
              refine wp_region_held_drew (S := fun w' => Box (Keeps [] w11 w') ∧ w'.cell? ⟨X, 0, none⟩ = some (.pointer (some ⟨p, 0, none⟩)) ∧ w'.cell? ⟨p, 0, none⟩ = some (.int .i64 y1) ∧ w'.cell? ⟨g, o, none⟩ = some (.int .i64 y1) ∧ w'.cell? ⟨b, off + k * 6 + 1, none⟩ = some (.int .i64 F) ∧ w'.cell? ⟨b, off + k * 6 + 2, none⟩ = some (.int .i64 B) ∧ w'.cell? ⟨b, off + k * 6 + 3, none⟩ = some (.int .i64 I) ∧ w'.cell? ⟨A, 0, none⟩ = some (.int .i64 F) ∧ w'.cell? ⟨A, 1, none⟩ = some (.int .i64 B) ∧ w'.cell? ⟨A, 2, none⟩ = some (.int .i64 I)) (by kernel_rfl) hs0 (fun _ => ?_)
              refine take_yield (i := 0) (d := 90) (v := .bool true) rfl rfl (by as_aux_lemma => kernel_rfl) (by as_aux_lemma => kernel_rfl) (by as_aux_lemma => kernel_rfl) (fun _ _ _ h => h) (by rfl) hs0 (fun w9 hw9 => by (try dsimp only at hw9); go_simp) ?_
              simp only [Act.put, List.setIfInBounds_toArray, List.set_cons_zero, List.set_cons_succ]
              refine take_yield (i := 1) (d := 91) (v := .bool true) rfl rfl (by as_aux_lemma => kernel_rfl) (by as_aux_lemma => kernel_rfl) (by as_aux_lemma => kernel_rfl) (fun _ _ _ h => h) (by rfl) hs0 (fun w9 hw9 => by (try dsimp only at hw9); go_simp) ?_
              simp only [Act.put, List.setIfInBounds_toArray, List.set_cons_zero, List.set_cons_succ]
              refine take_yield (i := 2) (d := 92) (v := .pointer (some ⟨p, 0, none⟩)) rfl rfl (by as_aux_lemma => kernel_rfl) (by as_aux_lemma => kernel_rfl) (by as_aux_lemma => kernel_rfl) (fun _ _ _ h => h) (by rfl) hs0 (fun w9 hw9 => by (try dsimp only at hw9); go_simp) ?_
              simp only [Act.put, List.setIfInBounds_toArray, List.set_cons_zero, List.set_cons_succ]
              refine take_yield (i := 3) (d := 93) (v := .pointer (some ⟨p, 0, none⟩)) rfl rfl (by as_aux_lemma => kernel_rfl) (by as_aux_lemma => kernel_rfl) (by as_aux_lemma => kernel_rfl) (fun _ _ _ h => h) (by rfl) hs0 (fun w9 hw9 => by (try dsimp only at hw9); go_simp) ?_
              simp only [Act.put, List.setIfInBounds_toArray, List.set_cons_zero, List.set_cons_succ]
              refine take_yield (i := 4) (d := 94) (v := .pointer (some ⟨p, 0, none⟩)) rfl rfl (by as_aux_lemma => kernel_rfl) (by as_aux_lemma => kernel_rfl) (by as_aux_lemma => kernel_rfl) (fun _ _ _ h => h) (by rfl) hs0 (fun w9 hw9 => by (try dsimp only at hw9); go_simp) ?_
              simp only [Act.put, List.setIfInBounds_toArray, List.set_cons_zero, List.set_cons_succ]
              refine take_yield (i := 5) (d := 95) (v := .int .i64 y1) rfl rfl (by as_aux_lemma => kernel_rfl) (by as_aux_lemma => kernel_rfl) (by as_aux_lemma => kernel_rfl) (fun _ _ _ h => h) (by rfl) hs0 (fun w9 hw9 => by (try dsimp only at hw9); go_simp) ?_
              simp only [Act.put, List.setIfInBounds_toArray, List.set_cons_zero, List.set_cons_succ]
              refine take_yield (i := 6) (d := 96) (v := .slice (some ⟨g, o, none⟩) m cap2) rfl rfl (by as_aux_lemma => kernel_rfl) (by as_aux_lemma => kernel_rfl) (by as_aux_lemma => kernel_rfl) (fun _ _ _ h => h) (by rfl) hs0 (fun w9 hw9 => by (try dsimp only at hw9); go_simp) ?_
              simp only [Act.put, List.setIfInBounds_toArray, List.set_cons_zero, List.set_cons_succ]
              refine take_yield (i := 7) (d := 97) (v := .pointer (some ⟨g, o, none⟩)) rfl rfl (by as_aux_lemma => kernel_rfl) (by as_aux_lemma => kernel_rfl) (by as_aux_lemma => kernel_rfl) (fun _ _ _ h => h) (by rfl) hs0 (fun w9 hw9 => by (try dsimp only at hw9); go_simp; intro hm9; omega) ?_
              simp only [Act.put, List.setIfInBounds_toArray, List.set_cons_zero, List.set_cons_succ]
              refine take_yield (i := 8) (d := 98) (v := .int .i64 y1) rfl rfl (by as_aux_lemma => kernel_rfl) (by as_aux_lemma => kernel_rfl) (by as_aux_lemma => kernel_rfl) (fun _ _ _ h => h) (by rfl) hs0 (fun w9 hw9 => by (try dsimp only at hw9); go_simp) ?_
              simp only [Act.put, List.setIfInBounds_toArray, List.set_cons_zero, List.set_cons_succ]
              refine take_yield (i := 9) (d := 99) (v := .bool true) rfl rfl (by as_aux_lemma => kernel_rfl) (by as_aux_lemma => kernel_rfl) (by as_aux_lemma => kernel_rfl) (fun _ _ _ h => h) (by rfl) hs0 (fun w9 hw9 => by (try dsimp only at hw9); go_simp) ?_
              simp only [Act.put, List.setIfInBounds_toArray, List.set_cons_zero, List.set_cons_succ]
              refine take_yield (i := 10) (d := 100) (v := .bool true) rfl rfl (by as_aux_lemma => kernel_rfl) (by as_aux_lemma => kernel_rfl) (by as_aux_lemma => kernel_rfl) (fun _ _ _ h => h) (by rfl) hs0 (fun w9 hw9 => by (try dsimp only at hw9); go_simp) ?_
              simp only [Act.put, List.setIfInBounds_toArray, List.set_cons_zero, List.set_cons_succ]
              refine take_yield (i := 11) (d := 101) (v := .bool true) rfl rfl (by as_aux_lemma => kernel_rfl) (by as_aux_lemma => kernel_rfl) (by as_aux_lemma => kernel_rfl) (fun _ _ _ h => h) (by rfl) hs0 (fun w9 hw9 => by (try dsimp only at hw9); go_simp) ?_
              simp only [Act.put, List.setIfInBounds_toArray, List.set_cons_zero, List.set_cons_succ]
              refine take_yield (i := 12) (d := 102) (v := .iface T2 (.pointer (some ⟨p2, 0, none⟩))) rfl rfl (by as_aux_lemma => kernel_rfl) (by as_aux_lemma => kernel_rfl) (by as_aux_lemma => kernel_rfl) (fun _ _ _ h => h) (by rfl) hs0 (fun w9 hw9 => by (try dsimp only at hw9); go_simp) ?_
              simp only [Act.put, List.setIfInBounds_toArray, List.set_cons_zero, List.set_cons_succ]
              refine take_yield (i := 14) (d := 104) (v := .slice (some ⟨g, o, none⟩) m cap2) rfl rfl (by as_aux_lemma => kernel_rfl) (by as_aux_lemma => kernel_rfl) (by as_aux_lemma => kernel_rfl) (fun _ _ _ h => h) (by rfl) hs0 (fun w9 hw9 => by (try dsimp only at hw9); go_simp) ?_
              simp only [Act.put, List.setIfInBounds_toArray, List.set_cons_zero, List.set_cons_succ]
              refine take_yield (i := 15) (d := 105) (v := .pointer (some ⟨g, o, none⟩)) rfl rfl (by as_aux_lemma => kernel_rfl) (by as_aux_lemma => kernel_rfl) (by as_aux_lemma => kernel_rfl) (fun _ _ _ h => h) (by rfl) hs0 (fun w9 hw9 => by (try dsimp only at hw9); go_simp; intro hm9; omega) ?_
              simp only [Act.put, List.setIfInBounds_toArray, List.set_cons_zero, List.set_cons_succ]
              refine take_yield (i := 16) (d := 106) (v := .int .i64 y1) rfl rfl (by as_aux_lemma => kernel_rfl) (by as_aux_lemma => kernel_rfl) (by as_aux_lemma => kernel_rfl) (fun _ _ _ h => h) (by rfl) hs0 (fun w9 hw9 => by (try dsimp only at hw9); go_simp) ?_
              simp only [Act.put, List.setIfInBounds_toArray, List.set_cons_zero, List.set_cons_succ]
              refine take_call (i := 13) (d := 103) rfl rfl (by as_aux_lemma => kernel_rfl) (by rfl) 9 #[.iface T2 (.pointer (some ⟨p2, 0, none⟩))] (by first | rfl | (go_simp; done)) (.int .i64 y1) (HY.out _ hs0) ?_
              intro w71 hs71
              simp only [Act.put, List.setIfInBounds_toArray, List.set_cons_zero, List.set_cons_succ]
              refine take_yield (i := 17) (d := 107) (v := .bool true) rfl rfl (by as_aux_lemma => kernel_rfl) (by as_aux_lemma => kernel_rfl) (by as_aux_lemma => kernel_rfl) (fun _ _ _ h => h) (by rfl) hs71 (fun w9 hw9 => by (try dsimp only at hw9); go_simp) ?_
              simp only [Act.put, List.setIfInBounds_toArray, List.set_cons_zero, List.set_cons_succ]
              refine take_yield (i := 18) (d := 108) (v := .bool true) rfl rfl (by as_aux_lemma => kernel_rfl) (by as_aux_lemma => kernel_rfl) (by as_aux_lemma => kernel_rfl) (fun _ _ _ h => h) (by rfl) hs71 (fun w9 hw9 => by (try dsimp only at hw9); go_simp) ?_
              simp only [Act.put, List.setIfInBounds_toArray, List.set_cons_zero, List.set_cons_succ]
              refine take_yield (i := 19) (d := 109) (v := .bool true) rfl rfl (by as_aux_lemma => kernel_rfl) (by as_aux_lemma => kernel_rfl) (by as_aux_lemma => kernel_rfl) (fun _ _ _ h => h) (by rfl) hs71 (fun w9 hw9 => by (try dsimp only at hw9); go_simp) ?_
              simp only [Act.put, List.setIfInBounds_toArray, List.set_cons_zero, List.set_cons_succ]
              refine take_yield (i := 20) (d := 110) (v := .bool true) rfl rfl (by as_aux_lemma => kernel_rfl) (by as_aux_lemma => kernel_rfl) (by as_aux_lemma => kernel_rfl) (fun _ _ _ h => h) (by rfl) hs71 (fun w9 hw9 => by (try dsimp only at hw9); go_simp) ?_
              simp only [Act.put, List.setIfInBounds_toArray, List.set_cons_zero, List.set_cons_succ]
              refine take_yield (i := 21) (d := 111) (v := .slice (some ⟨b, off, none⟩) N cap) rfl rfl (by as_aux_lemma => kernel_rfl) (by as_aux_lemma => kernel_rfl) (by as_aux_lemma => kernel_rfl) (fun _ _ _ h => h) (by rfl) hs71 (fun w9 hw9 => by (try dsimp only at hw9); go_simp) ?_
              simp only [Act.put, List.setIfInBounds_toArray, List.set_cons_zero, List.set_cons_succ]
              refine take_yield (i := 22) (d := 112) (v := .int .i64 (k : Int)) rfl rfl (by as_aux_lemma => kernel_rfl) (by as_aux_lemma => kernel_rfl) (by as_aux_lemma => kernel_rfl) (fun _ _ _ h => h) (by rfl) hs71 (fun w9 hw9 => by (try dsimp only at hw9); go_simp) ?_
              simp only [Act.put, List.setIfInBounds_toArray, List.set_cons_zero, List.set_cons_succ]
              refine take_yield (i := 23) (d := 113) (v := .pointer (some ⟨b, off + k * 6, none⟩)) rfl rfl (by as_aux_lemma => kernel_rfl) (by as_aux_lemma => kernel_rfl) (by as_aux_lemma => kernel_rfl) (fun _ _ _ h => h) (by rfl) hs71 (fun w9 hw9 => by (try dsimp only at hw9); go_simp) ?_
              simp only [Act.put, List.setIfInBounds_toArray, List.set_cons_zero, List.set_cons_succ]
              refine take_yield (i := 24) (d := 114) (v := .pointer (some ⟨b, off + k * 6 + 1, none⟩)) rfl rfl (by as_aux_lemma => kernel_rfl) (by as_aux_lemma => kernel_rfl) (by as_aux_lemma => kernel_rfl) (fun _ _ _ h => h) (by rfl) hs71 (fun w9 hw9 => by (try dsimp only at hw9); go_simp) ?_
              simp only [Act.put, List.setIfInBounds_toArray, List.set_cons_zero, List.set_cons_succ]
              refine take_yield (i := 25) (d := 115) (v := .pointer (some ⟨b, off + k * 6 + 1, none⟩)) rfl rfl (by as_aux_lemma => kernel_rfl) (by as_aux_lemma => kernel_rfl) (by as_aux_lemma => kernel_rfl) (fun _ _ _ h => h) (by rfl) hs71 (fun w9 hw9 => by (try dsimp only at hw9); go_simp) ?_
              simp only [Act.put, List.setIfInBounds_toArray, List.set_cons_zero, List.set_cons_succ]
              refine take_yield (i := 26) (d := 116) (v := .int .i64 F) rfl rfl (by as_aux_lemma => kernel_rfl) (by as_aux_lemma => kernel_rfl) (by as_aux_lemma => kernel_rfl) (fun _ _ _ h => h) (by rfl) hs71 (fun w9 hw9 => by (try dsimp only at hw9); go_simp) ?_
              simp only [Act.put, List.setIfInBounds_toArray, List.set_cons_zero, List.set_cons_succ]
              refine take_yield (i := 27) (d := 117) (v := .bool true) rfl rfl (by as_aux_lemma => kernel_rfl) (by as_aux_lemma => kernel_rfl) (by as_aux_lemma => kernel_rfl) (fun _ _ _ h => h) (by rfl) hs71 (fun w9 hw9 => by (try dsimp only at hw9); go_simp) ?_
              simp only [Act.put, List.setIfInBounds_toArray, List.set_cons_zero, List.set_cons_succ]
              refine take_yield (i := 28) (d := 118) (v := .bool true) rfl rfl (by as_aux_lemma => kernel_rfl) (by as_aux_lemma => kernel_rfl) (by as_aux_lemma => kernel_rfl) (fun _ _ _ h => h) (by rfl) hs71 (fun w9 hw9 => by (try dsimp only at hw9); go_simp) ?_
              simp only [Act.put, List.setIfInBounds_toArray, List.set_cons_zero, List.set_cons_succ]
              refine take_yield (i := 29) (d := 119) (v := .bool true) rfl rfl (by as_aux_lemma => kernel_rfl) (by as_aux_lemma => kernel_rfl) (by as_aux_lemma => kernel_rfl) (fun _ _ _ h => h) (by rfl) hs71 (fun w9 hw9 => by (try dsimp only at hw9); go_simp) ?_
              simp only [Act.put, List.setIfInBounds_toArray, List.set_cons_zero, List.set_cons_succ]
              refine take_yield (i := 30) (d := 120) (v := .bool true) rfl rfl (by as_aux_lemma => kernel_rfl) (by as_aux_lemma => kernel_rfl) (by as_aux_lemma => kernel_rfl) (fun _ _ _ h => h) (by rfl) hs71 (fun w9 hw9 => by (try dsimp only at hw9); go_simp) ?_
              simp only [Act.put, List.setIfInBounds_toArray, List.set_cons_zero, List.set_cons_succ]
              refine take_yield (i := 31) (d := 121) (v := .bool true) rfl rfl (by as_aux_lemma => kernel_rfl) (by as_aux_lemma => kernel_rfl) (by as_aux_lemma => kernel_rfl) (fun _ _ _ h => h) (by rfl) hs71 (fun w9 hw9 => by (try dsimp only at hw9); go_simp) ?_
              simp only [Act.put, List.setIfInBounds_toArray, List.set_cons_zero, List.set_cons_succ]
              refine take_yield (i := 32) (d := 122) (v := .bool false) rfl rfl (by as_aux_lemma => kernel_rfl) (by as_aux_lemma => kernel_rfl) (by as_aux_lemma => kernel_rfl) (fun _ _ _ h => h) (by rfl) hs71 (fun w9 hw9 => by (try dsimp only at hw9); go_simp) ?_
              simp only [Act.put, List.setIfInBounds_toArray, List.set_cons_zero, List.set_cons_succ]
              refine take_yield (i := 33) (d := 123) (v := .bool false) rfl rfl (by as_aux_lemma => kernel_rfl) (by as_aux_lemma => kernel_rfl) (by as_aux_lemma => kernel_rfl) (fun _ _ _ h => h) (by rfl) hs71 (fun w9 hw9 => by (try dsimp only at hw9); go_simp) ?_
              simp only [Act.put, List.setIfInBounds_toArray, List.set_cons_zero, List.set_cons_succ]
              refine take_yield (i := 34) (d := 124) (v := .pointer (some ⟨A, 0, none⟩)) rfl rfl (by as_aux_lemma => kernel_rfl) (by as_aux_lemma => kernel_rfl) (by as_aux_lemma => kernel_rfl) (fun _ _ _ h => h) (by rfl) hs71 (fun w9 hw9 => by (try dsimp only at hw9); go_simp) ?_
              simp only [Act.put, List.setIfInBounds_toArray, List.set_cons_zero, List.set_cons_succ]
              refine take_yield (i := 35) (d := 125) (v := .int .i64 F) rfl rfl (by as_aux_lemma => kernel_rfl) (by as_aux_lemma => kernel_rfl) (by as_aux_lemma => kernel_rfl) (fun _ _ _ h => h) (by rfl) hs71 (fun w9 hw9 => by (try dsimp only at hw9); go_simp) ?_
              simp only [Act.put, List.setIfInBounds_toArray, List.set_cons_zero, List.set_cons_succ]
              refine take_yield (i := 36) (d := 126) (v := .slice (some ⟨b, off, none⟩) N cap) rfl rfl (by as_aux_lemma => kernel_rfl) (by as_aux_lemma => kernel_rfl) (by as_aux_lemma => kernel_rfl) (fun _ _ _ h => h) (by rfl) hs71 (fun w9 hw9 => by (try dsimp only at hw9); go_simp) ?_
              simp only [Act.put, List.setIfInBounds_toArray, List.set_cons_zero, List.set_cons_succ]
              refine take_yield (i := 37) (d := 127) (v := .int .i64 (k : Int)) rfl rfl (by as_aux_lemma => kernel_rfl) (by as_aux_lemma => kernel_rfl) (by as_aux_lemma => kernel_rfl) (fun _ _ _ h => h) (by rfl) hs71 (fun w9 hw9 => by (try dsimp only at hw9); go_simp) ?_
              simp only [Act.put, List.setIfInBounds_toArray, List.set_cons_zero, List.set_cons_succ]
              refine take_yield (i := 38) (d := 128) (v := .pointer (some ⟨b, off + k * 6, none⟩)) rfl rfl (by as_aux_lemma => kernel_rfl) (by as_aux_lemma => kernel_rfl) (by as_aux_lemma => kernel_rfl) (fun _ _ _ h => h) (by rfl) hs71 (fun w9 hw9 => by (try dsimp only at hw9); go_simp) ?_
              simp only [Act.put, List.setIfInBounds_toArray, List.set_cons_zero, List.set_cons_succ]
              refine take_yield (i := 39) (d := 129) (v := .pointer (some ⟨b, off + k * 6 + 1, none⟩)) rfl rfl (by as_aux_lemma => kernel_rfl) (by as_aux_lemma => kernel_rfl) (by as_aux_lemma => kernel_rfl) (fun _ _ _ h => h) (by rfl) hs71 (fun w9 hw9 => by (try dsimp only at hw9); go_simp) ?_
              simp only [Act.put, List.setIfInBounds_toArray, List.set_cons_zero, List.set_cons_succ]
              refine take_yield (i := 40) (d := 130) (v := .pointer (some ⟨b, off + k * 6 + 1, none⟩)) rfl rfl (by as_aux_lemma => kernel_rfl) (by as_aux_lemma => kernel_rfl) (by as_aux_lemma => kernel_rfl) (fun _ _ _ h => h) (by rfl) hs71 (fun w9 hw9 => by (try dsimp only at hw9); go_simp) ?_
              simp only [Act.put, List.setIfInBounds_toArray, List.set_cons_zero, List.set_cons_succ]
              refine take_yield (i := 41) (d := 131) (v := .int .i64 F) rfl rfl (by as_aux_lemma => kernel_rfl) (by as_aux_lemma => kernel_rfl) (by as_aux_lemma => kernel_rfl) (fun _ _ _ h => h) (by rfl) hs71 (fun w9 hw9 => by (try dsimp only at hw9); go_simp) ?_
              simp only [Act.put, List.setIfInBounds_toArray, List.set_cons_zero, List.set_cons_succ]
              refine take_yield (i := 42) (d := 132) (v := .bool true) rfl rfl (by as_aux_lemma => kernel_rfl) (by as_aux_lemma => kernel_rfl) (by as_aux_lemma => kernel_rfl) (fun _ _ _ h => h) (by rfl) hs71 (fun w9 hw9 => by (try dsimp only at hw9); go_simp) ?_
              simp only [Act.put, List.setIfInBounds_toArray, List.set_cons_zero, List.set_cons_succ]
              refine take_yield (i := 43) (d := 133) (v := .bool true) rfl rfl (by as_aux_lemma => kernel_rfl) (by as_aux_lemma => kernel_rfl) (by as_aux_lemma => kernel_rfl) (fun _ _ _ h => h) (by rfl) hs71 (fun w9 hw9 => by (try dsimp only at hw9); go_simp) ?_
              simp only [Act.put, List.setIfInBounds_toArray, List.set_cons_zero, List.set_cons_succ]
              refine take_yield (i := 44) (d := 134) (v := .pointer (some ⟨A, 1, none⟩)) rfl rfl (by as_aux_lemma => kernel_rfl) (by as_aux_lemma => kernel_rfl) (by as_aux_lemma => kernel_rfl) (fun _ _ _ h => h) (by rfl) hs71 (fun w9 hw9 => by (try dsimp only at hw9); go_simp) ?_
              simp only [Act.put, List.setIfInBounds_toArray, List.set_cons_zero, List.set_cons_succ]
              refine take_yield (i := 45) (d := 135) (v := .int .i64 B) rfl rfl (by as_aux_lemma => kernel_rfl) (by as_aux_lemma => kernel_rfl) (by as_aux_lemma => kernel_rfl) (fun _ _ _ h => h) (by rfl) hs71 (fun w9 hw9 => by (try dsimp only at hw9); go_simp) ?_
              simp only [Act.put, List.setIfInBounds_toArray, List.set_cons_zero, List.set_cons_succ]
              refine take_yield (i := 46) (d := 136) (v := .slice (some ⟨b, off, none⟩) N cap) rfl rfl (by as_aux_lemma => kernel_rfl) (by as_aux_lemma => kernel_rfl) (by as_aux_lemma => kernel_rfl) (fun _ _ _ h => h) (by rfl) hs71 (fun w9 hw9 => by (try dsimp only at hw9); go_simp) ?_
              simp only [Act.put, List.setIfInBounds_toArray, List.set_cons_zero, List.set_cons_succ]
              refine take_yield (i := 47) (d := 137) (v := .int .i64 (k : Int)) rfl rfl (by as_aux_lemma => kernel_rfl) (by as_aux_lemma => kernel_rfl) (by as_aux_lemma => kernel_rfl) (fun _ _ _ h => h) (by rfl) hs71 (fun w9 hw9 => by (try dsimp only at hw9); go_simp) ?_
              simp only [Act.put, List.setIfInBounds_toArray, List.set_cons_zero, List.set_cons_succ]
              refine take_yield (i := 48) (d := 138) (v := .pointer (some ⟨b, off + k * 6, none⟩)) rfl rfl (by as_aux_lemma => kernel_rfl) (by as_aux_lemma => kernel_rfl) (by as_aux_lemma => kernel_rfl) (fun _ _ _ h => h) (by rfl) hs71 (fun w9 hw9 => by (try dsimp only at hw9); go_simp) ?_
              simp only [Act.put, List.setIfInBounds_toArray, List.set_cons_zero, List.set_cons_succ]
              refine take_yield (i := 49) (d := 139) (v := .pointer (some ⟨b, off + k * 6 + 1, none⟩)) rfl rfl (by as_aux_lemma => kernel_rfl) (by as_aux_lemma => kernel_rfl) (by as_aux_lemma => kernel_rfl) (fun _ _ _ h => h) (by rfl) hs71 (fun w9 hw9 => by (try dsimp only at hw9); go_simp) ?_
              simp only [Act.put, List.setIfInBounds_toArray, List.set_cons_zero, List.set_cons_succ]
              refine take_yield (i := 50) (d := 140) (v := .pointer (some ⟨b, off + k * 6 + 2, none⟩)) rfl rfl (by as_aux_lemma => kernel_rfl) (by as_aux_lemma => kernel_rfl) (by as_aux_lemma => kernel_rfl) (fun _ _ _ h => h) (by rfl) hs71 (fun w9 hw9 => by (try dsimp only at hw9); go_simp) ?_
              simp only [Act.put, List.setIfInBounds_toArray, List.set_cons_zero, List.set_cons_succ]
              refine take_yield (i := 51) (d := 141) (v := .int .i64 B) rfl rfl (by as_aux_lemma => kernel_rfl) (by as_aux_lemma => kernel_rfl) (by as_aux_lemma => kernel_rfl) (fun _ _ _ h => h) (by rfl) hs71 (fun w9 hw9 => by (try dsimp only at hw9); go_simp) ?_
              simp only [Act.put, List.setIfInBounds_toArray, List.set_cons_zero, List.set_cons_succ]
              refine take_yield (i := 52) (d := 142) (v := .bool true) rfl rfl (by as_aux_lemma => kernel_rfl) (by as_aux_lemma => kernel_rfl) (by as_aux_lemma => kernel_rfl) (fun _ _ _ h => h) (by rfl) hs71 (fun w9 hw9 => by (try dsimp only at hw9); go_simp) ?_
              simp only [Act.put, List.setIfInBounds_toArray, List.set_cons_zero, List.set_cons_succ]
              refine take_yield (i := 53) (d := 143) (v := .bool true) rfl rfl (by as_aux_lemma => kernel_rfl) (by as_aux_lemma => kernel_rfl) (by as_aux_lemma => kernel_rfl) (fun _ _ _ h => h) (by rfl) hs71 (fun w9 hw9 => by (try dsimp only at hw9); go_simp) ?_
              simp only [Act.put, List.setIfInBounds_toArray, List.set_cons_zero, List.set_cons_succ]
              refine take_yield (i := 54) (d := 144) (v := .bool true) rfl rfl (by as_aux_lemma => kernel_rfl) (by as_aux_lemma => kernel_rfl) (by as_aux_lemma => kernel_rfl) (fun _ _ _ h => h) (by rfl) hs71 (fun w9 hw9 => by (try dsimp only at hw9); go_simp) ?_
              simp only [Act.put, List.setIfInBounds_toArray, List.set_cons_zero, List.set_cons_succ]
              refine take_yield (i := 55) (d := 145) (v := .pointer (some ⟨A, 2, none⟩)) rfl rfl (by as_aux_lemma => kernel_rfl) (by as_aux_lemma => kernel_rfl) (by as_aux_lemma => kernel_rfl) (fun _ _ _ h => h) (by rfl) hs71 (fun w9 hw9 => by (try dsimp only at hw9); go_simp) ?_
              simp only [Act.put, List.setIfInBounds_toArray, List.set_cons_zero, List.set_cons_succ]
              refine take_yield (i := 56) (d := 146) (v := .int .i64 I) rfl rfl (by as_aux_lemma => kernel_rfl) (by as_aux_lemma => kernel_rfl) (by as_aux_lemma => kernel_rfl) (fun _ _ _ h => h) (by rfl) hs71 (fun w9 hw9 => by (try dsimp only at hw9); go_simp) ?_
              simp only [Act.put, List.setIfInBounds_toArray, List.set_cons_zero, List.set_cons_succ]
              refine take_yield (i := 57) (d := 147) (v := .slice (some ⟨b, off, none⟩) N cap) rfl rfl (by as_aux_lemma => kernel_rfl) (by as_aux_lemma => kernel_rfl) (by as_aux_lemma => kernel_rfl) (fun _ _ _ h => h) (by rfl) hs71 (fun w9 hw9 => by (try dsimp only at hw9); go_simp) ?_
              simp only [Act.put, List.setIfInBounds_toArray, List.set_cons_zero, List.set_cons_succ]
              refine take_yield (i := 58) (d := 148) (v := .int .i64 (k : Int)) rfl rfl (by as_aux_lemma => kernel_rfl) (by as_aux_lemma => kernel_rfl) (by as_aux_lemma => kernel_rfl) (fun _ _ _ h => h) (by rfl) hs71 (fun w9 hw9 => by (try dsimp only at hw9); go_simp) ?_
              simp only [Act.put, List.setIfInBounds_toArray, List.set_cons_zero, List.set_cons_succ]
              refine take_yield (i := 59) (d := 149) (v := .pointer (some ⟨b, off + k * 6, none⟩)) rfl rfl (by as_aux_lemma => kernel_rfl) (by as_aux_lemma => kernel_rfl) (by as_aux_lemma => kernel_rfl) (fun _ _ _ h => h) (by rfl) hs71 (fun w9 hw9 => by (try dsimp only at hw9); go_simp) ?_
              simp only [Act.put, List.setIfInBounds_toArray, List.set_cons_zero, List.set_cons_succ]
              refine take_yield (i := 60) (d := 150) (v := .pointer (some ⟨b, off + k * 6 + 1, none⟩)) rfl rfl (by as_aux_lemma => kernel_rfl) (by as_aux_lemma => kernel_rfl) (by as_aux_lemma => kernel_rfl) (fun _ _ _ h => h) (by rfl) hs71 (fun w9 hw9 => by (try dsimp only at hw9); go_simp) ?_
              simp only [Act.put, List.setIfInBounds_toArray, List.set_cons_zero, List.set_cons_succ]
              refine take_yield (i := 61) (d := 151) (v := .pointer (some ⟨b, off + k * 6 + 3, none⟩)) rfl rfl (by as_aux_lemma => kernel_rfl) (by as_aux_lemma => kernel_rfl) (by as_aux_lemma => kernel_rfl) (fun _ _ _ h => h) (by rfl) hs71 (fun w9 hw9 => by (try dsimp only at hw9); go_simp) ?_
              simp only [Act.put, List.setIfInBounds_toArray, List.set_cons_zero, List.set_cons_succ]
              refine take_yield (i := 62) (d := 152) (v := .int .i64 I) rfl rfl (by as_aux_lemma => kernel_rfl) (by as_aux_lemma => kernel_rfl) (by as_aux_lemma => kernel_rfl) (fun _ _ _ h => h) (by rfl) hs71 (fun w9 hw9 => by (try dsimp only at hw9); go_simp) ?_
              simp only [Act.put, List.setIfInBounds_toArray, List.set_cons_zero, List.set_cons_succ]
              refine take_yield (i := 63) (d := 153) (v := .bool true) rfl rfl (by as_aux_lemma => kernel_rfl) (by as_aux_lemma => kernel_rfl) (by as_aux_lemma => kernel_rfl) (fun _ _ _ h => h) (by rfl) hs71 (fun w9 hw9 => by (try dsimp only at hw9); go_simp) ?_
              simp only [Act.put, List.setIfInBounds_toArray, List.set_cons_zero, List.set_cons_succ]
              refine take_yield (i := 64) (d := 154) (v := .bool true) rfl rfl (by as_aux_lemma => kernel_rfl) (by as_aux_lemma => kernel_rfl) (by as_aux_lemma => kernel_rfl) (fun _ _ _ h => h) (by rfl) hs71 (fun w9 hw9 => by (try dsimp only at hw9); go_simp) ?_
              simp only [Act.put, List.setIfInBounds_toArray, List.set_cons_zero, List.set_cons_succ]
              refine take_yield (i := 65) (d := 155) (v := .bool true) rfl rfl (by as_aux_lemma => kernel_rfl) (by as_aux_lemma => kernel_rfl) (by as_aux_lemma => kernel_rfl) (fun _ _ _ h => h) (by rfl) hs71 (fun w9 hw9 => by (try dsimp only at hw9); go_simp) ?_
              simp only [Act.put, List.setIfInBounds_toArray, List.set_cons_zero, List.set_cons_succ]
              refine take_yield (i := 66) (d := 156) (v := .bool true) rfl rfl (by as_aux_lemma => kernel_rfl) (by as_aux_lemma => kernel_rfl) (by as_aux_lemma => kernel_rfl) (fun _ _ _ h => h) (by rfl) hs71 (fun w9 hw9 => by (try dsimp only at hw9); go_simp) ?_
              simp only [Act.put, List.setIfInBounds_toArray, List.set_cons_zero, List.set_cons_succ]
              refine take_yield (i := 67) (d := 4) (v := .bool true) rfl rfl (by as_aux_lemma => kernel_rfl) (by as_aux_lemma => kernel_rfl) (by as_aux_lemma => kernel_rfl) (fun _ _ _ h => h) (by rfl) hs71 (fun w9 hw9 => by (try dsimp only at hw9); go_simp) ?_
              simp only [Act.put, List.setIfInBounds_toArray, List.set_cons_zero, List.set_cons_succ]
              refine wpAnyH_done (by as_aux_lemma => kernel_rfl) ?_ _
              go_wp2_with fail
              go_ret
              exact ⟨rfl, KN11.out.keep.step hs71.1.out⟩
            · have hd : decide (0 ≤ f1) = false := decide_eq_false c
              rw [hd]
              have hs0 := hnew.out w11.drew (Keeps.drew _ _)
              refine wp_region_held_drew (S := fun w' => Box (Keeps [] w11 w') ∧ w'.cell? ⟨X, 0, none⟩ = some (.pointer (some ⟨p, 0, none⟩)) ∧ w'.cell? ⟨p, 0, none⟩ = some (.int .i64 y1) ∧ w'.cell? ⟨g, o, none⟩ = some (.int .i64 y1) ∧ w'.cell? ⟨b, off + k * 6 + 1, none⟩ = some (.int .i64 f1) ∧ w'.cell? ⟨b, off + k * 6 + 2, none⟩ = some (.int .i64 b1) ∧ w'.cell? ⟨b, off + k * 6 + 3, none⟩ = some (.int .i64 i1) ∧ w'.cell? ⟨A, 0, none⟩ = some (.int .i64 F) ∧ w'.cell? ⟨A, 1, none⟩ = some (.int .i64 B) ∧ w'.cell? ⟨A, 2, none⟩ = some (.int .i64 I)) (by kernel_rfl) hs0 (fun _ => ?_)
              refine take_yield (i := 0) (d := 90) (v := .bool true) rfl rfl (by as_aux_lemma => kernel_rfl) (by as_aux_lemma => kernel_rfl) (by as_aux_lemma => kernel_rfl) (fun _ _ _ h => h) (by rfl) hs0 (fun w9 hw9 => by (try dsimp only at hw9); go_simp) ?_
              simp only [Act.put, List.setIfInBounds_toArray, List.set_cons_zero, List.set_cons_succ]
              refine take_yield (i := 1) (d := 91) (v := .bool true) rfl rfl (by as_aux_lemma => kernel_rfl) (by as_aux_lemma => kernel_rfl) (by as_aux_lemma => kernel_rfl) (fun _ _ _ h => h) (by rfl) hs0 (fun w9 hw9 => by (try dsimp only at hw9); go_simp) ?_
              simp only [Act.put, List.setIfInBounds_toArray, List.set_cons_zero, List.set_cons_succ]
              refine take_yield (i := 2) (d := 92) (v := .pointer (some ⟨p, 0, none⟩)) rfl rfl (by as_aux_lemma => kernel_rfl) (by as_aux_lemma => kernel_rfl) (by as_aux_lemma => kernel_rfl) (fun _ _ _ h => h) (by rfl) hs0 (fun w9 hw9 => by (try dsimp only at hw9); go_simp) ?_
              simp only [Act.put, List.setIfInBounds_toArray, List.set_cons_zero, List.set_cons_succ]
              refine take_yield (i := 3) (d := 93) (v := .pointer (some ⟨p, 0, none⟩)) rfl rfl (by as_aux_lemma => kernel_rfl) (by as_aux_lemma => kernel_rfl) (by as_aux_lemma => kernel_rfl) (fun _ _ _ h => h) (by rfl) hs0 (fun w9 hw9 => by (try dsimp only at hw9); go_simp) ?_
              simp only [Act.put, List.setIfInBounds_toArray, List.set_cons_zero, List.set_cons_succ]
              refine take_yield (i := 4) (d := 94) (v := .pointer (some ⟨p, 0, none⟩)) rfl rfl (by as_aux_lemma => kernel_rfl) (by as_aux_lemma => kernel_rfl) (by as_aux_lemma => kernel_rfl) (fun _ _ _ h => h) (by rfl) hs0 (fun w9 hw9 => by (try dsimp only at hw9); go_simp) ?_
              simp only [Act.put, List.setIfInBounds_toArray, List.set_cons_zero, List.set_cons_succ]
              refine take_yield (i := 5) (d := 95) (v := .int .i64 y1) rfl rfl (by as_aux_lemma => kernel_rfl) (by as_aux_lemma => kernel_rfl) (by as_aux_lemma => kernel_rfl) (fun _ _ _ h => h) (by rfl) hs0 (fun w9 hw9 => by (try dsimp only at hw9); go_simp) ?_
              simp only [Act.put, List.setIfInBounds_toArray, List.set_cons_zero, List.set_cons_succ]
              refine take_yield (i := 6) (d := 96) (v := .slice (some ⟨g, o, none⟩) m cap2) rfl rfl (by as_aux_lemma => kernel_rfl) (by as_aux_lemma => kernel_rfl) (by as_aux_lemma => kernel_rfl) (fun _ _ _ h => h) (by rfl) hs0 (fun w9 hw9 => by (try dsimp only at hw9); go_simp) ?_
              simp only [Act.put, List.setIfInBounds_toArray, List.set_cons_zero, List.set_cons_succ]
              refine take_yield (i := 7) (d := 97) (v := .pointer (some ⟨g, o, none⟩)) rfl rfl (by as_aux_lemma => kernel_rfl) (by as_aux_lemma => kernel_rfl) (by as_aux_lemma => kernel_rfl) (fun _ _ _ h => h) (by rfl) hs0 (fun w9 hw9 => by (try dsimp only at hw9); go_simp; intro hm9; omega) ?_
              simp only [Act.put, List.setIfInBounds_toArray, List.set_cons_zero, List.set_cons_succ]
              refine take_yield (i := 8) (d := 98) (v := .int .i64 y1) rfl rfl (by as_aux_lemma => kernel_rfl) (by as_aux_lemma => kernel_rfl) (by as_aux_lemma => kernel_rfl) (fun _ _ _ h => h) (by rfl) hs0 (fun w9 hw9 => by (try dsimp only at hw9); go_simp) ?_
              simp only [Act.put, List.setIfInBounds_toArray, List.set_cons_zero, List.set_cons_succ]
              refine take_yield (i := 9) (d := 99) (v := .bool true) rfl rfl (by as_aux_lemma => kernel_rfl) (by as_aux_lemma => kernel_rfl) (by as_aux_lemma => kernel_rfl) (fun _ _ _ h => h) (by rfl) hs0 (fun w9 hw9 => by (try dsimp only at hw9); go_simp) ?_
              simp only [Act.put, List.setIfInBounds_toArray, List.set_cons_zero, List.set_cons_succ]
              refine take_yield (i := 10) (d := 100) (v := .bool true) rfl rfl (by as_aux_lemma => kernel_rfl) (by as_aux_lemma => kernel_rfl) (by as_aux_lemma => kernel_rfl) (fun _ _ _ h => h) (by rfl) hs0 (fun w9 hw9 => by (try dsimp only at hw9); go_simp) ?_
              simp only [Act.put, List.setIfInBounds_toArray, List.set_cons_zero, List.set_cons_succ]
              refine take_yield (i := 11) (d := 101) (v := .bool true) rfl rfl (by as_aux_lemma => kernel_rfl) (by as_aux_lemma => kernel_rfl) (by as_aux_lemma => kernel_rfl) (fun _ _ _ h => h) (by rfl) hs0 (fun w9 hw9 => by (try dsimp only at hw9); go_simp) ?_
              simp only [Act.put, List.setIfInBounds_toArray, List.set_cons_zero, List.set_cons_succ]
              refine take_yield (i := 12) (d := 102) (v := .iface T2 (.pointer (some ⟨p2, 0, none⟩))) rfl rfl (by as_aux_lemma => kernel_rfl) (by as_aux_lemma => kernel_rfl) (by as_aux_lemma => kernel_rfl) (fun _ _ _ h => h) (by rfl) hs0 (fun w9 hw9 => by (try dsimp only at hw9); go_simp) ?_
              simp only [Act.put, List.setIfInBounds_toArray, List.set_cons_zero, List.set_cons_succ]
              refine take_yield (i := 14) (d := 104) (v := .slice (some ⟨g, o, none⟩) m cap2) rfl rfl (by as_aux_lemma => kernel_rfl) (by as_aux_lemma => kernel_rfl) (by as_aux_lemma => kernel_rfl) (fun _ _ _ h => h) (by rfl) hs0 (fun w9 hw9 => by (try dsimp only at hw9); go_simp) ?_
              simp only [Act.put, List.setIfInBounds_toArray, List.set_cons_zero, List.set_cons_succ]
              refine take_yield (i := 15) (d := 105) (v := .pointer (some ⟨g, o, none⟩)) rfl rfl (by as_aux_lemma => kernel_rfl) (by as_aux_lemma => kernel_rfl) (by as_aux_lemma => kernel_rfl) (fun _ _ _ h => h) (by rfl) hs0 (fun w9 hw9 => by (try dsimp only at hw9); go_simp; intro hm9; omega) ?_
              simp only [Act.put, List.setIfInBounds_toArray, List.set_cons_zero, List.set_cons_succ]
              refine take_yield (i := 16) (d := 106) (v := .int .i64 y1) rfl rfl (by as_aux_lemma => kernel_rfl) (by as_aux_lemma => kernel_rfl) (by as_aux_lemma => kernel_rfl) (fun _ _ _ h => h) (by rfl) hs0 (fun w9 hw9 => by (try dsimp only at hw9); go_simp) ?_
              simp only [Act.put, List.setIfInBounds_toArray, List.set_cons_zero, List.set_cons_succ]
              refine take_call (i := 13) (d := 103) rfl rfl (by as_aux_lemma => kernel_rfl) (by rfl) 9 #[.iface T2 (.pointer (some ⟨p2, 0, none⟩))] (by first | rfl | (go_simp; done)) (.int .i64 y1) (HY.out _ hs0) ?_
              intro w71 hs71
              simp only [Act.put, List.setIfInBounds_toArray, List.set_cons_zero, List.set_cons_succ]
              refine take_yield (i := 17) (d := 107) (v := .bool true) rfl rfl (by as_aux_lemma => kernel_rfl) (by as_aux_lemma => kernel_rfl) (by as_aux_lemma => kernel_rfl) (fun _ _ _ h => h) (by rfl) hs71 (fun w9 hw9 => by (try dsimp only at hw9); go_simp) ?_
              simp only [Act.put, List.setIfInBounds_toArray, List.set_cons_zero, List.set_cons_succ]
              refine take_yield (i := 18) (d := 108) (v := .bool true) rfl rfl (by as_aux_lemma => kernel_rfl) (by as_aux_lemma => kernel_rfl) (by as_aux_lemma => kernel_rfl) (fun _ _ _ h => h) (by rfl) hs71 (fun w9 hw9 => by (try dsimp only at hw9); go_simp) ?_
              simp only [Act.put, List.setIfInBounds_toArray, List.set_cons_zero, List.set_cons_succ]
              refine take_yield (i := 19) (d := 109) (v := .bool true) rfl rfl (by as_aux_lemma => kernel_rfl) (by as_aux_lemma => kernel_rfl) (by as_aux_lemma => kernel_rfl) (fun _ _ _ h => h) (by rfl) hs71 (fun w9 hw9 => by (try dsimp only at hw9); go_simp) ?_
              simp only [Act.put, List.setIfInBounds_toArray, List.set_cons_zero, List.set_cons_succ]
              refine take_yield (i := 20) (d := 110) (v := .bool false) rfl rfl (by as_aux_lemma => kernel_rfl) (by as_aux_lemma => kernel_rfl) (by as_aux_lemma => kernel_rfl) (fun _ _ _ h => h) (by rfl) hs71 (fun w9 hw9 => by (try dsimp only at hw9); go_simp) ?_
              simp only [Act.put, List.setIfInBounds_toArray, List.set_cons_zero, List.set_cons_succ]
              refine take_yield (i := 21) (d := 111) (v := .slice (some ⟨b, off, none⟩) N cap) rfl rfl (by as_aux_lemma => kernel_rfl) (by as_aux_lemma => kernel_rfl) (by as_aux_lemma => kernel_rfl) (fun _ _ _ h => h) (by rfl) hs71 (fun w9 hw9 => by (try dsimp only at hw9); go_simp) ?_
              simp only [Act.put, List.setIfInBounds_toArray, List.set_cons_zero, List.set_cons_succ]
              refine take_yield (i := 22) (d := 112) (v := .int .i64 (k : Int)) rfl rfl (by as_aux_lemma => kernel_rfl) (by as_aux_lemma => kernel_rfl) (by as_aux_lemma => kernel_rfl) (fun _ _ _ h => h) (by rfl) hs71 (fun w9 hw9 => by (try dsimp only at hw9); go_simp) ?_
              simp only [Act.put, List.setIfInBounds_toArray, List.set_cons_zero, List.set_cons_succ]
              refine take_yield (i := 23) (d := 113) (v := .pointer (some ⟨b, off + k * 6, none⟩)) rfl rfl (by as_aux_lemma => kernel_rfl) (by as_aux_lemma => kernel_rfl) (by as_aux_lemma => kernel_rfl) (fun _ _ _ h => h) (by rfl) hs71 (fun w9 hw9 => by (try dsimp only at hw9); go_simp) ?_
              simp only [Act.put, List.setIfInBounds_toArray, List.set_cons_zero, List.set_cons_succ]
              refine take_yield (i := 24) (d := 114) (v := .pointer (some ⟨b, off + k * 6 + 1, none⟩)) rfl rfl (by as_aux_lemma => kernel_rfl) (by as_aux_lemma => kernel_rfl) (by as_aux_lemma => kernel_rfl) (fun _ _ _ h => h) (by rfl) hs71 (fun w9 hw9 => by (try dsimp only at hw9); go_simp) ?_
              simp only [Act.put, List.setIfInBounds_toArray, List.set_cons_zero, List.set_cons_succ]
              refine take_yield (i := 25) (d := 115) (v := .pointer (some ⟨b, off + k * 6 + 1, none⟩)) rfl rfl (by as_aux_lemma => kernel_rfl) (by as_aux_lemma => kernel_rfl) (by as_aux_lemma => kernel_rfl) (fun _ _ _ h => h) (by rfl) hs71 (fun w9 hw9 => by (try dsimp only at hw9); go_simp) ?_
              simp only [Act.put, List.setIfInBounds_toArray, List.set_cons_zero, List.set_cons_succ]
              refine take_yield (i := 26) (d := 116) (v := .int .i64 f1) rfl rfl (by as_aux_lemma => kernel_rfl) (by as_aux_lemma => kernel_rfl) (by as_aux_lemma => kernel_rfl) (fun _ _ _ h => h) (by rfl) hs71 (fun w9 hw9 => by (try dsimp only at hw9); go_simp) ?_
              simp only [Act.put, List.setIfInBounds_toArray, List.set_cons_zero, List.set_cons_succ]
              refine take_yield (i := 27) (d := 117) (v := .bool false) rfl rfl (by as_aux_lemma => kernel_rfl) (by as_aux_lemma => kernel_rfl) (by as_aux_lemma => kernel_rfl) (fun _ _ _ h => h) (by rfl) hs71 (fun w9 hw9 => by (try dsimp only at hw9); go_simp) ?_
              simp only [Act.put, List.setIfInBounds_toArray, List.set_cons_zero, List.set_cons_succ]
              refine take_yield (i := 28) (d := 118) (v := .bool true) rfl rfl (by as_aux_lemma => kernel_rfl) (by as_aux_lemma => kernel_rfl) (by as_aux_lemma => kernel_rfl) (fun _ _ _ h => h) (by rfl) hs71 (fun w9 hw9 => by (try dsimp only at hw9); go_simp) ?_
              simp only [Act.put, List.setIfInBounds_toArray, List.set_cons_zero, List.set_cons_succ]
              refine take_yield (i := 29) (d := 119) (v := .bool true) rfl rfl (by as_aux_lemma => kernel_rfl) (by as_aux_lemma => kernel_rfl) (by as_aux_lemma => kernel_rfl) (fun _ _ _ h => h) (by rfl) hs71 (fun w9 hw9 => by (try dsimp only at hw9); go_simp) ?_
              simp only [Act.put, List.setIfInBounds_toArray, List.set_cons_zero, List.set_cons_succ]
              refine take_yield (i := 30) (d := 120) (v := .bool true) rfl rfl (by as_aux_lemma => kernel_rfl) (by as_aux_lemma => kernel_rfl) (by as_aux_lemma => kernel_rfl) (fun _ _ _ h => h) (by rfl) hs71 (fun w9 hw9 => by (try dsimp only at hw9); go_simp) ?_
              simp only [Act.put, List.setIfInBounds_toArray, List.set_cons_zero, List.set_cons_succ]
              refine take_yield (i := 31) (d := 121) (v := .bool false) rfl rfl (by as_aux_lemma => kernel_rfl) (by as_aux_lemma => kernel_rfl) (by as_aux_lemma => kernel_rfl) (fun _ _ _ h => h) (by rfl) hs71 (fun w9 hw9 => by (try dsimp only at hw9); go_simp) ?_
              simp only [Act.put, List.setIfInBounds_toArray, List.set_cons_zero, List.set_cons_succ]
              refine take_yield (i := 32) (d := 122) (v := .bool true) rfl rfl (by as_aux_lemma => kernel_rfl) (by as_aux_lemma => kernel_rfl) (by as_aux_lemma => kernel_rfl) (fun _ _ _ h => h) (by rfl) hs71 (fun w9 hw9 => by (try dsimp only at hw9); go_simp) ?_
              simp only [Act.put, List.setIfInBounds_toArray, List.set_cons_zero, List.set_cons_succ]
              refine take_yield (i := 33) (d := 123) (v := .bool true) rfl rfl (by as_aux_lemma => kernel_rfl) (by as_aux_lemma => kernel_rfl) (by as_aux_lemma => kernel_rfl) (fun _ _ _ h => h) (by rfl) hs71 (fun w9 hw9 => by (try dsimp only at hw9); go_simp) ?_
              simp only [Act.put, List.setIfInBounds_toArray, List.set_cons_zero, List.set_cons_succ]
              refine take_pass (i := 34) (d := 124) rfl rfl (by as_aux_lemma => kernel_rfl) (by as_aux_lemma => kernel_rfl) (by as_aux_lemma => kernel_rfl) (fun _ _ _ h => h) (by rfl) hs71 ?_
              simp only [Act.put, List.setIfInBounds_toArray, List.set_cons_zero, List.set_cons_succ]
              refine take_pass (i := 35) (d := 125) rfl rfl (by as_aux_lemma => kernel_rfl) (by as_aux_lemma => kernel_rfl) (by as_aux_lemma => kernel_rfl) (fun _ _ _ h => h) (by rfl) hs71 ?_
              simp only [Act.put, List.setIfInBounds_toArray, List.set_cons_zero, List.set_cons_succ]
              refine take_pass (i := 36) (d := 126) rfl rfl (by as_aux_lemma => kernel_rfl) (by as_aux_lemma => kernel_rfl) (by as_aux_lemma => kernel_rfl) (fun _ _ _ h => h) (by rfl) hs71 ?_
              simp only [Act.put, List.setIfInBounds_toArray, List.set_cons_zero, List.set_cons_succ]
              refine take_pass (i := 37) (d := 127) rfl rfl (by as_aux_lemma => kernel_rfl) (by as_aux_lemma => kernel_rfl) (by as_aux_lemma => kernel_rfl) (fun _ _ _ h => h) (by rfl) hs71 ?_
              simp only [Act.put, List.setIfInBounds_toArray, List.set_cons_zero, List.set_cons_succ]
              refine take_pass (i := 38) (d := 128) rfl rfl (by as_aux_lemma => kernel_rfl) (by as_aux_lemma => kernel_rfl) (by as_aux_lemma => kernel_rfl) (fun _ _ _ h => h) (by rfl) hs71 ?_
              simp only [Act.put, List.setIfInBounds_toArray, List.set_cons_zero, List.set_cons_succ]
              refine take_pass (i := 39) (d := 129) rfl rfl (by as_aux_lemma => kernel_rfl) (by as_aux_lemma => kernel_rfl) (by as_aux_lemma => kernel_rfl) (fun _ _ _ h => h) (by rfl) hs71 ?_
              simp only [Act.put, List.setIfInBounds_toArray, List.set_cons_zero, List.set_cons_succ]
              refine take_pass (i := 40) (d := 130) rfl rfl (by as_aux_lemma => kernel_rfl) (by as_aux_lemma => kernel_rfl) (by as_aux_lemma => kernel_rfl) (fun _ _ _ h => h) (by rfl) hs71 ?_
              simp only [Act.put, List.setIfInBounds_toArray, List.set_cons_zero, List.set_cons_succ]
              refine take_pass (i := 41) (d := 131) rfl rfl (by as_aux_lemma => kernel_rfl) (by as_aux_lemma => kernel_rfl) (by as_aux_lemma => kernel_rfl) (fun _ _ _ h => h) (by rfl) hs71 ?_
              simp only [Act.put, List.setIfInBounds_toArray, List.set_cons_zero, List.set_cons_succ]
              refine take_pass (i := 42) (d := 132) rfl rfl (by as_aux_lemma => kernel_rfl) (by as_aux_lemma => kernel_rfl) (by as_aux_lemma => kernel_rfl) (fun _ _ _ h => h) (by rfl) hs71 ?_
              simp only [Act.put, List.setIfInBounds_toArray, List.set_cons_zero, List.set_cons_succ]
              refine take_pass (i := 43) (d := 133) rfl rfl (by as_aux_lemma => kernel_rfl) (by as_aux_lemma => kernel_rfl) (by as_aux_lemma => kernel_rfl) (fun _ _ _ h => h) (by rfl) hs71 ?_
              simp only [Act.put, List.setIfInBounds_toArray, List.set_cons_zero, List.set_cons_succ]
              refine take_pass (i := 44) (d := 134) rfl rfl (by as_aux_lemma => kernel_rfl) (by as_aux_lemma => kernel_rfl) (by as_aux_lemma => kernel_rfl) (fun _ _ _ h => h) (by rfl) hs71 ?_
              simp only [Act.put, List.setIfInBounds_toArray, List.set_cons_zero, List.set_cons_succ]
              refine take_pass (i := 45) (d := 135) rfl rfl (by as_aux_lemma => kernel_rfl) (by as_aux_lemma => kernel_rfl) (by as_aux_lemma => kernel_rfl) (fun _ _ _ h => h) (by rfl) hs71 ?_
              simp only [Act.put, List.setIfInBounds_toArray, List.set_cons_zero, List.set_cons_succ]
              refine take_pass (i := 46) (d := 136) rfl rfl (by as_aux_lemma => kernel_rfl) (by as_aux_lemma => kernel_rfl) (by as_aux_lemma => kernel_rfl) (fun _ _ _ h => h) (by rfl) hs71 ?_
              simp only [Act.put, List.setIfInBounds_toArray, List.set_cons_zero, List.set_cons_succ]
              refine take_pass (i := 47) (d := 137) rfl rfl (by as_aux_lemma => kernel_rfl) (by as_aux_lemma => kernel_rfl) (by as_aux_lemma => kernel_rfl) (fun _ _ _ h => h) (by rfl) hs71 ?_
              simp only [Act.put, List.setIfInBounds_toArray, List.set_cons_zero, List.set_cons_succ]
              refine take_pass (i := 48) (d := 138) rfl rfl (by as_aux_lemma => kernel_rfl) (by as_aux_lemma => kernel_rfl) (by as_aux_lemma => kernel_rfl) (fun _ _ _ h => h) (by rfl) hs71 ?_
              simp only [Act.put, List.setIfInBounds_toArray, List.set_cons_zero, List.set_cons_succ]
              refine take_pass (i := 49) (d := 139) rfl rfl (by as_aux_lemma => kernel_rfl) (by as_aux_lemma => kernel_rfl) (by as_aux_lemma => kernel_rfl) (fun _ _ _ h => h) (by rfl) hs71 ?_
              simp only [Act.put, List.setIfInBounds_toArray, List.set_cons_zero, List.set_cons_succ]
              refine take_pass (i := 50) (d := 140) rfl rfl (by as_aux_lemma => kernel_rfl) (by as_aux_lemma => kernel_rfl) (by as_aux_lemma => kernel_rfl) (fun _ _ _ h => h) (by rfl) hs71 ?_
              simp only [Act.put, List.setIfInBounds_toArray, List.set_cons_zero, List.set_cons_succ]
              refine take_pass (i := 51) (d := 141) rfl rfl (by as_aux_lemma => kernel_rfl) (by as_aux_lemma => kernel_rfl) (by as_aux_lemma => kernel_rfl) (fun _ _ _ h => h) (by rfl) hs71 ?_
              simp only [Act.put, List.setIfInBounds_toArray, List.set_cons_zero, List.set_cons_succ]
              refine take_pass (i := 52) (d := 142) rfl rfl (by as_aux_lemma => kernel_rfl) (by as_aux_lemma => kernel_rfl) (by as_aux_lemma => kernel_rfl) (fun _ _ _ h => h) (by rfl) hs71 ?_
              simp only [Act.put, List.setIfInBounds_toArray, List.set_cons_zero, List.set_cons_succ]
              refine take_pass (i := 53) (d := 143) rfl rfl (by as_aux_lemma => kernel_rfl) (by as_aux_lemma => kernel_rfl) (by as_aux_lemma => kernel_rfl) (fun _ _ _ h => h) (by rfl) hs71 ?_
              simp only [Act.put, List.setIfInBounds_toArray, List.set_cons_zero, List.set_cons_succ]
              refine take_pass (i := 54) (d := 144) rfl rfl (by as_aux_lemma => kernel_rfl) (by as_aux_lemma => kernel_rfl) (by as_aux_lemma => kernel_rfl) (fun _ _ _ h => h) (by rfl) hs71 ?_
              simp only [Act.put, List.setIfInBounds_toArray, List.set_cons_zero, List.set_cons_succ]
              refine take_pass (i := 55) (d := 145) rfl rfl (by as_aux_lemma => kernel_rfl) (by as_aux_lemma => kernel_rfl) (by as_aux_lemma => kernel_rfl) (fun _ _ _ h => h) (by rfl) hs71 ?_
              simp only [Act.put, List.setIfInBounds_toArray, List.set_cons_zero, List.set_cons_succ]
              refine take_pass (i := 56) (d := 146) rfl rfl (by as_aux_lemma => kernel_rfl) (by as_aux_lemma => kernel_rfl) (by as_aux_lemma => kernel_rfl) (fun _ _ _ h => h) (by rfl) hs71 ?_
              simp only [Act.put, List.setIfInBounds_toArray, List.set_cons_zero, List.set_cons_succ]
              refine take_pass (i := 57) (d := 147) rfl rfl (by as_aux_lemma => kernel_rfl) (by as_aux_lemma => kernel_rfl) (by as_aux_lemma => kernel_rfl) (fun _ _ _ h => h) (by rfl) hs71 ?_
              simp only [Act.put, List.setIfInBounds_toArray, List.set_cons_zero, List.set_cons_succ]
              refine take_pass (i := 58) (d := 148) rfl rfl (by as_aux_lemma => kernel_rfl) (by as_aux_lemma => kernel_rfl) (by as_aux_lemma => kernel_rfl) (fun _ _ _ h => h) (by rfl) hs71 ?_
              simp only [Act.put, List.setIfInBounds_toArray, List.set_cons_zero, List.set_cons_succ]
              refine take_pass (i := 59) (d := 149) rfl rfl (by as_aux_lemma => kernel_rfl) (by as_aux_lemma => kernel_rfl) (by as_aux_lemma => kernel_rfl) (fun _ _ _ h => h) (by rfl) hs71 ?_
              simp only [Act.put, List.setIfInBounds_toArray, List.set_cons_zero, List.set_cons_succ]
              refine take_pass (i := 60) (d := 150) rfl rfl (by as_aux_lemma => kernel_rfl) (by as_aux_lemma => kernel_rfl) (by as_aux_lemma => kernel_rfl) (fun _ _ _ h => h) (by rfl) hs71 ?_
              simp only [Act.put, List.setIfInBounds_toArray, List.set_cons_zero, List.set_cons_succ]
              refine take_pass (i := 61) (d := 151) rfl rfl (by as_aux_lemma => kernel_rfl) (by as_aux_lemma => kernel_rfl) (by as_aux_lemma => kernel_rfl) (fun _ _ _ h => h) (by rfl) hs71 ?_
              simp only [Act.put, List.setIfInBounds_toArray, List.set_cons_zero, List.set_cons_succ]
              refine take_pass (i := 62) (d := 152) rfl rfl (by as_aux_lemma => kernel_rfl) (by as_aux_lemma => kernel_rfl) (by as_aux_lemma => kernel_rfl) (fun _ _ _ h => h) (by rfl) hs71 ?_
              simp only [Act.put, List.setIfInBounds_toArray, List.set_cons_zero, List.set_cons_succ]
              refine take_pass (i := 63) (d := 153) rfl rfl (by as_aux_lemma => kernel_rfl) (by as_aux_lemma => kernel_rfl) (by as_aux_lemma => kernel_rfl) (fun _ _ _ h => h) (by rfl) hs71 ?_
              simp only [Act.put, List.setIfInBounds_toArray, List.set_cons_zero, List.set_cons_succ]
              refine take_pass (i := 64) (d := 154) rfl rfl (by as_aux_lemma => kernel_rfl) (by as_aux_lemma => kernel_rfl) (by as_aux_lemma => kernel_rfl) (fun _ _ _ h => h) (by rfl) hs71 ?_
              simp only [Act.put, List.setIfInBounds_toArray, List.set_cons_zero, List.set_cons_succ]
              refine take_yield (i := 65) (d := 155) (v := .bool true) rfl rfl (by as_aux_lemma => kernel_rfl) (by as_aux_lemma => kernel_rfl) (by as_aux_lemma => kernel_rfl) (fun _ _ _ h => h) (by rfl) hs71 (fun w9 hw9 => by (try dsimp only at hw9); go_simp) ?_
              simp only [Act.put, List.setIfInBounds_toArray, List.set_cons_zero, List.set_cons_succ]
              refine take_yield (i := 66) (d := 156) (v := .bool true) rfl rfl (by as_aux_lemma => kernel_rfl) (by as_aux_lemma => kernel_rfl) (by as_aux_lemma => kernel_rfl) (fun _ _ _ h => h) (by rfl) hs71 (fun w9 hw9 => by (try dsimp only at hw9); go_simp) ?_
              simp only [Act.put, List.setIfInBounds_toArray, List.set_cons_zero, List.set_cons_succ]
              refine take_yield (i := 67) (d := 4) (v := .bool true) rfl rfl (by as_aux_lemma => kernel_rfl) (by as_aux_lemma => kernel_rfl) (by as_aux_lemma => kernel_rfl) (fun _ _ _ h => h) (by rfl) hs71 (fun w9 hw9 => by (try dsimp only at hw9); go_simp) ?_
              simp only [Act.put, List.setIfInBounds_toArray, List.set_cons_zero, List.set_cons_succ]
              refine wpAnyH_done (by as_aux_lemma => kernel_rfl) ?_ _
              go_wp2_with fail
              go_ret
              exact ⟨rfl, KN11.out.keep.step hs71.1.out⟩

/-- RefuseChain, of every slice of links and every number. -/
theorem refuseChain_walk (a : Option Addr) (cap : Nat) (zs : List Ln) (y : Int) (w : World) (hg : Glob w) (hz : LinksAt w a zs) (_ : zs.length ≤ maxLen) (hc : zs.length ≤ cap) (hw : ∀ x, x ∈ zs → x.wf) (_ : wf64 y) :
    Calls Tryd.prog 3 #[.slice a zs.length cap, .int .i64 y] w fun e w' => e = .returned (.bool true) ∧ Keeps [] w w' :=
  chainLaw_core a cap zs.length zs y w hg hz rfl hc hw
end Go.Proofs.YtjofffhfabmfkaaDoor
