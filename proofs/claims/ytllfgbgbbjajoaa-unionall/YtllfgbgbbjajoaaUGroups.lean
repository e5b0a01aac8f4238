/-
  Contract: union's Groups.
-/
import Derived.Test.YtllfgbgbbjajoaaUJoin
import Derived.Test.YtllfgbgbbjajoaaUOwn
namespace Go.Proofs.Ytllfgbgbbjajoaa
open Go.RowKit

theorem zero_int : Try.t3.zero = some (.int .i64 0) := by kernel_rfl
theorem size_int : Try.t3.size = 1 := by kernel_rfl
theorem bytes_int : Try.t3.bytes = 8 := by kernel_rfl
theorem info_int : Try.prog.info? 3 = some Try.t3 := by kernel_rfl
theorem under_ints : Try.prog.underlying 26 = some (.slice 3) := by kernel_rfl
theorem zero_ints : Try.t26.zero = some (.slice none 0 0) := by kernel_rfl
theorem size_ints : Try.t26.size = 1 := by kernel_rfl
theorem bytes_ints : Try.t26.bytes = 24 := by kernel_rfl
theorem info_ints : Try.prog.info? 26 = some Try.t26 := by kernel_rfl
theorem under_lists : Try.prog.underlying 30 = some (.slice 26) := by kernel_rfl

set_option maxHeartbeats 400000 in
theorem groups_nil (w : World) :
    Calls Try.prog 10 #[.pointer none] w fun e w' => e = .returned (.slice none 0 0) ∧ w' = w := by
  go_enter Try.func10, Try.ntmps10
  go_wp2
  go_ret
  exact ⟨rfl, rfl⟩

/-- Where each group lies: of each least number below a. -/
structure PlaceAt (w : World) (p a : Nat) (r : Nat → Nat) : Prop where
  has : ∃ pl : Nat → Nat, w.rowIs p 35 5000 (fun i => .int .i64 (pl i : Nat)) ∧ ∀ l, l < a → r l = l → pl l = (leads l r).length
theorem PlaceAt.lt {w : World} {p a : Nat} {r : Nat → Nat} (h : PlaceAt w p a r) : p < w.heap.size := by
  obtain ⟨pl, h1, _⟩ := h.has
  exact h1.lt
theorem PlaceAt.kept {w w' : World} {F : List Nat} {p a : Nat} {r : Nat → Nat} (h : PlaceAt w p a r) (k : Keeps F w w') (hp : p ∉ F) : PlaceAt w' p a r := by
  obtain ⟨pl, h1, h2⟩ := h.has
  exact ⟨pl, h1.of_block (k.block p h1.lt hp), h2⟩
theorem PlaceAt.far {w : World} {p a : Nat} {r : Nat → Nat} (h : PlaceAt w p a r) (base : Nat) : Far w base [p] := by
  obtain ⟨pl, h1, _⟩ := h.has
  intro x hx
  simp at hx
  subst hx
  obtain ⟨c, hc, _⟩ := h1
  exact .inr ⟨c, _, _, hc, by decide, by decide⟩

/-- The state between two rounds. -/
structure GMid (w wr : World) (b n g p a : Nat) (r : Nat → Nat) : Prop where
  own : ∃ vs, Own2 wr w.heap.size g (leads n r).length vs (groups a r)
  u : UAt wr b n r
  pl : PlaceAt wr p a r
  keep : Keeps [b] w wr
  hp : w.heap.size ≤ p

structure HMid (w wr : World) (b n g p a : Nat) (r : Nat → Nat) : Prop where
  own : ∃ vs, Own2 wr w.heap.size g (leads n r).length vs (half (a + 1) a r)
  u : UAt wr b n r
  pl : PlaceAt wr p (a + 1) r
  keep : Keeps [b] w wr
  hp : w.heap.size ≤ p

theorem GMid.find {w wr w1 : World} {b n g p a : Nat} {r : Nat → Nat} (h : GMid w wr b n g p a r) (hb : b < w.heap.size) (hu : UAt w1 b n r) (hk : Keeps [b] wr w1) : GMid w w1 b n g p a r := by
  obtain ⟨vs, ho⟩ := h.own
  have hp := h.hp
  refine ⟨⟨vs, ho.kept hk ?_⟩, hu, h.pl.kept hk (by simp; omega), h.keep.step hk, h.hp⟩
  intro x hx
  simp at hx
  exact .inl (by omega)

theorem GMid.no {w wr : World} {b n g p a : Nat} {r : Nat → Nat} (h : GMid w wr b n g p a r) (hr : r a ≠ a) : HMid w wr b n g p a r := by
  obtain ⟨vs, ho⟩ := h.own
  obtain ⟨pl, h1, h2⟩ := h.pl.has
  refine ⟨⟨vs, by rw [half_no hr]; exact ho⟩, h.u, ⟨pl, h1, fun l hl hrl => ?_⟩, h.keep, h.hp⟩
  by_cases e : l = a
  · subst e; exact absurd hrl hr
  · exact h2 l (by omega) hrl

theorem PlaceAt.put {w : World} {p a : Nat} {r : Nat → Nat} (h : PlaceAt w p a r) : PlaceAt (w.setCell ⟨p, a, none⟩ (.int .i64 ((leads a r).length : Nat))) p (a + 1) r := by
  obtain ⟨pl, h1, h2⟩ := h.has
  refine ⟨upd pl a (leads a r).length, (h1.set a _).congr fun i _ => ?_, fun l hl hrl => ?_⟩
  · by_cases e : i = a
    · subst e
      rw [if_pos rfl, upd_at]
    · rw [if_neg e, upd_off pl a _ i e]
  · by_cases e : l = a
    · subst e
      rw [upd_at]
    · rw [upd_off pl a _ l e]
      exact h2 l (by omega) hrl

/-- A least number: it gets a place, and an empty list. -/
theorem GMid.yes {w w1 wa w3 : World} {b n g p a : Nat} {r : Nat → Nat} {vs : List Value} (h : GMid w w1 b n g p a r) (ho : Own2 w1 w.heap.size g (leads n r).length vs (groups a r)) (hb : b < w.heap.size) (ha : a < n) (hr : r a = a)
    (hka : Keeps [] (w1.setCell ⟨p, a, none⟩ (.int .i64 ((leads a r).length : Nat))) wa)
    (hown : w3.ownsRow w.heap.size 26 1 (.slice (some ⟨g, 0, none⟩) ((leads a r).length + 1) (leads n r).length) ((leads a r).length + 1) (vs ++ [nilS])) (hg : wa.grownBy w3 (some g)) : HMid w w3 b n g p a r := by
  have hp := h.hp
  have hk1 : Keeps [p] w1 (w1.setCell ⟨p, a, none⟩ (.int .i64 ((leads a r).length : Nat))) := Keeps.setCell _ _ _ _ (by simp)
  have ho1 := ho.kept hk1 (h.pl.far _)
  have hpl := (h.pl.put).kept hka (by simp)
  have hgr : Keeps [g] wa w3 := Keeps.grown _ hg (fun k hk => by simp at hk; simp [hk])
  obtain ⟨hbg, _, cur, hgc⟩ := ho1.outerHeap
  have hpg : p ≠ g := by
    intro e
    subst e
    obtain ⟨pl, ⟨c, hc, _⟩, _⟩ := h.pl.put.has
    rw [hgc] at hc
    simp only [Option.some.injEq, Obj.cells.injEq] at hc
    exact absurd hc.2.1 (by decide)
  refine ⟨⟨vs ++ [nilS], ?_⟩, ?_, hpl.kept hgr (by simpa using hpg), ?_, hp⟩
  · rw [half_yes h.u.least ha hr]
    refine ho1.push hka ?_ hg
    rw [groups_len]
    exact hown
  · exact ((h.u.kept hk1 (by simp; omega)).kept hka (by simp)).kept hgr (by simp; omega)
  · refine ((h.keep.trans hk1 ?_).quiet hka).trans hgr ?_
    · intro x hx hl; simp at hx; omega
    · intro x hx hl; simp at hx; omega

theorem HMid.place {w wr : World} {b n g p a : Nat} {r : Nat → Nat} (h : HMid w wr b n g p a r) (ha : a < n) : wr.cell? ⟨p, r a, none⟩ = some (.int .i64 ((leads (r a) r).length : Nat)) := by
  obtain ⟨pl, h1, h2⟩ := h.pl.has
  have hl := h.u.least
  have h3 := hl.below a ha
  have h4 := h.u.le
  rw [h1.cell (i := r a) (by omega), h2 (r a) (by omega) (hl.idem a ha)]

theorem HMid.open {w w3 : World} {b n g p a : Nat} {r : Nat → Nat} (h : HMid w w3 b n g p a r) (hb : b < w.heap.size) (ha : a < n) :
    ∃ x, w3.cell? ⟨g, (leads (r a) r).length, none⟩ = some x ∧ Box (w3.ownsRow w.heap.size 3 1 x (membs a r (r a)).length (ints (membs a r (r a)))) ∧
      Box (∀ wa w' v', Keeps [] w3 wa → w'.ownsRow w.heap.size 3 1 v' ((membs a r (r a)).length + 1) (ints (membs a r (r a)) ++ [.int .i64 (a : Int)]) → wa.grownBy w' x.ownBlock → (v'.ownBlock = x.ownBlock ∨ v'.ownBlock = some wa.heap.size) →
        w'.frozen? ⟨g, (leads (r a) r).length, none⟩ = false ∧ (∃ y, w'.cell? ⟨g, (leads (r a) r).length, none⟩ = some y) ∧ GMid w (w'.setCell ⟨g, (leads (r a) r).length, none⟩ v') b n g p (a + 1) r) := by
  obtain ⟨vs, ho⟩ := h.own
  have hl := h.u.least
  have hk := half_pos hl ha
  have hat := half_at hl ha
  have hin := ho.inner _ hk
  rw [hat] at hin
  refine ⟨_, ho.cell hk, hid hin, hid ?_⟩
  intro wa w' v' hka hown hg hv
  have hp := h.hp
  have hg2 := ho.grow hka hk (v' := v') (a := a) (by rw [hat]; exact hown) hg hv
  rw [hat, half_next hl ha] at hg2
  have hout := ho.quiet hka
  have hF : Far wa w.heap.size [p] := (h.pl.kept hka (by simp)).far _
  have hgr : Keeps (Option.toList (vs.getD (leads (r a) r).length nilS).ownBlock) wa w' := Keeps.grown _ hg (fun k hk => by rw [hk]; simp)
  have hx : ∀ k, (vs.getD (leads (r a) r).length nilS).ownBlock = some k → w.heap.size ≤ k ∧ k ≠ p ∧ k ≠ g := by
    intro k hkk
    refine ⟨((ho.inner _ hk).lt k hkk).1, ?_, ?_⟩
    · intro e
      subst e
      rcases hF k (by simp) with h1 | ⟨cs, T, fr, h1, h2, _⟩
      · omega
      · exact Lib.ownBlock_ne (hout.inner _ hk) h1 h2 hkk
    · intro e
      subst e
      exact hout.innerNe hk hkk
  have hout' : w'.ownsRow w.heap.size 26 1 (.slice (some ⟨g, 0, none⟩) (half (a + 1) a r).length (leads n r).length) (half (a + 1) a r).length vs := by
    refine ownsRow_keeps hout.outer hgr ?_
    intro k hkk hmem
    simp [Value.ownBlock] at hkk hmem
    exact (hx k hmem).2.2 hkk.symm
  have hbg := ho.outerHeap.1
  have hpg : p ≠ g := by
    intro e
    subst e
    obtain ⟨_, _, cur, hgc⟩ := ho.outerHeap
    obtain ⟨pl, ⟨c, hc, _⟩, _⟩ := h.pl.has
    rw [hgc] at hc
    simp only [Option.some.injEq, Obj.cells.injEq] at hc
    exact absurd hc.2.1 (by decide)
  have hks : Keeps [g] w' (w'.setCell ⟨g, (leads (r a) r).length, none⟩ v') := Keeps.setCell _ _ _ _ (by simp)
  refine ⟨hout'.frozenAt _, ⟨_, (hout'.cellAt _ (by omega)).trans (List.getElem?_eq_getElem (by have := ho.len; omega))⟩, ⟨⟨_, hg2⟩, ?_, ?_, ?_, hp⟩⟩
  · refine ((h.u.kept hka (by simp)).kept hgr ?_).kept hks (by simp; omega)
    intro hm
    simp at hm
    have := (hx b hm).1
    omega
  · refine ((h.pl.kept hka (by simp)).kept hgr ?_).kept hks (by simpa using hpg)
    intro hm
    simp at hm
    exact (hx p hm).2.1 rfl
  · refine ((h.keep.quiet hka).trans hgr ?_).trans hks ?_
    · intro x hm hlt
      simp at hm
      have := (hx x hm).1
      omega
    · intro x hm hlt; simp at hm; omega

theorem GMid.outer {w wr : World} {b n g p a : Nat} {r : Nat → Nat} (h : GMid w wr b n g p a r) (han : a ≤ n) : (leads a r).length ≤ (leads n r).length ∧ (leads n r).length ≤ 5000 := by
  have h1 := leads_le_of r han
  have h2 := leads_le n r
  have h3 := h.u.le
  exact ⟨h1, by omega⟩
theorem PlaceAt.cellAt {w : World} {p a : Nat} {r : Nat → Nat} (h : PlaceAt w p a r) {i : Nat} (hi : i < 5000) : (∃ q : Nat, w.cell? ⟨p, i, none⟩ = some (.int .i64 (q : Nat))) ∧ w.frozen? ⟨p, i, none⟩ = false := by
  obtain ⟨pl, h1, _⟩ := h.has
  exact ⟨⟨pl i, h1.cell hi⟩, h1.frozen i⟩

theorem owns_form {w : World} {base : Nat} {e : TypeId} {size : Nat} {v : Value} {k : Nat} {xs : List Value} (h : w.ownsRow base e size v (k + 1) xs) : ∃ g cap, v = .slice (some ⟨g, 0, none⟩) (k + 1) cap := by
  rcases h.2 with ⟨_, h0⟩ | ⟨g, cap, cur, rfl, _⟩
  · omega
  · exact ⟨g, cap, rfl⟩

theorem cell_one_set (w : World) (ad : Addr) (v x : Value) (t : TypeId) : ∀ j u, [x][j]? = some u → ((w.setCell ad v).alloc (.cells #[x] t)).cell? ((⟨w.heap.size, 0, none⟩ : Addr).add j) = some u := by
  have h := cell_one_new (w.setCell ad v) x t
  have e : (w.setCell ad v).heap.size = w.heap.size := by simp [World.setCell]
  rw [e] at h
  exact h

theorem gmid_start (w w0 : World) (b n : Nat) (r : Nat → Nat) (Z : Array Value) (hZ : Z = Array.replicate 5000 (.int .i64 0)) (hu : UAt w b n r) (hg : w.grownBy w0 none)
    (ho : w0.ownsRow w.heap.size 26 1 (.slice (some ⟨w.heap.size, 0, none⟩) 0 (leads n r).length) 0 []) : GMid w (w0.alloc (.cells Z 35)) b n w.heap.size w0.heap.size 0 r := by
  have hk : Keeps [] w w0 := Keeps.grown [] hg (by simp)
  have hk2 : Keeps [] w0 (w0.alloc (.cells Z 35)) := Keeps.alloc _ _ _
  refine ⟨⟨[], ⟨ownsRow_keeps ho hk2 (by simp), fun j hj => ?_, fun i j k hi => ?_⟩⟩, (hu.kept hk (by simp)).kept hk2 (by simp), ⟨fun _ => 0, ?_, fun l hl => by omega⟩, (hk.quiet hk2).mono (by simp), hk.size⟩
  · simp [groups, leads] at hj
  · simp [groups, leads] at hi
  · have h5 : Z.size = 5000 := by rw [hZ, Array.size_replicate]
    have := World.rowIs_alloc w0 Z 35 (fun _ => .int .i64 (0 : Nat)) (fun i hi => by rw [hZ] at hi ⊢; rw [Array.size_replicate] at hi; rw [Array.getElem?_replicate, if_pos hi]; rfl)
    rw [h5] at this
    exact this

set_option maxHeartbeats 2000000 in
theorem groups_raw (b n : Nat) (r : Nat → Nat) (w : World) (hu : UAt w b n r) :
    Calls Try.prog 10 #[.pointer (some ⟨b, 0, none⟩)] w fun e w' => ∃ g cap, e = .returned (.slice (some ⟨g, 0, none⟩) (groups n r).length cap) ∧ (∃ vs, Own2 w' w.heap.size g cap vs (groups n r)) ∧ UAt w' b n r ∧ Keeps [b] w w' := by
  have hblt := hu.lt
  have hn5 := hu.le
  have hG5 : (leads n r).length ≤ 5000 := by have := leads_le n r; omega
  obtain ⟨Z, hZ⟩ : ∃ Z : Array Value, Z = Array.replicate 5000 (.int .i64 0) := ⟨_, rfl⟩
  have hzarr : ∀ w, (zeroValue 35).run Try.prog w = .ok (.agg Z) w := by rw [hZ]; exact zero_arr_raw
  have cg : w.cell? ⟨b, 1, none⟩ = some (.int .i64 ((leads n r).length : Nat)) := by obtain ⟨f, h1, _⟩ := hu.has; exact h1.groups
  have HZ := hid hZ
  have HU := hid hu
  clear hZ hu
  obtain ⟨G, hG⟩ : ∃ G, (leads n r).length = G := ⟨_, rfl⟩
  rw [hG] at cg hG5
  have HG := hid hG
  clear hG
  go_enter Try.func10, Try.ntmps10
  go_wp2_with (at_make; refine wpList_make_own _ rfl _ _ 30 rfl w.heap.size 26 Try.t26 (.slice none 0 0) 1 under_lists info_ints zero_ints size_ints .i64 .i64 _ G rfl rfl rfl (by rw [bytes_ints]; omega) (by unfold maxLen; omega) (Nat.le_refl _) ?_; intro w0 hown0 hgrow0; have hM0 := hid (gmid_start w w0 b n r Z HZ.out HU.out hgrow0 (by rw [HG.out]; exact hown0)); have cs0 : (w0.alloc (.cells Z 35)).cell? ⟨b, 0, none⟩ = some (.int .i64 (n : Nat)) := (by obtain ⟨f, h1, _⟩ := hM0.out.u.has; exact h1.size))
  clear hown0 hgrow0 cs0 hzarr HZ HU cg
  generalize w0.alloc (Obj.cells Z 35) = w1 at hM0 ⊢
  generalize w0.heap.size = p at hM0 ⊢
  obtain ⟨B, hB⟩ : ∃ B, w.heap.size = B := ⟨_, rfl⟩
  rw [hB] at hM0 hblt ⊢
  have HB := hid hB
  clear hB
  go_loopw [3, 19] (fun v i wr => ∃ a : Nat, a ≤ n ∧ i = .int .i64 a ∧ v = .slice (some ⟨B, 0, none⟩) (leads a r).length G ∧ Box (GMid w wr b n B p a r)) (fun _ i _ => n - (intOf i).toNat)
  case atStart => exact ⟨0, by omega, rfl, rfl, hM0⟩
  case round =>
    clear hM0
    obtain ⟨a, ha, rfl, rfl, hM⟩ := hrel
    by_cases hlt : a < n
    · have HF := hid (find_any b n r a wr hM.out.u)
      rw [findI_in n r a hlt] at HF
      have hlt' : (a : Int) < (n : Int) := by omega
      have hLe := (hM.out.outer ha).1
      rw [HG.out] at hLe
      have ha5 : a < 5000 := by omega
      have hra : r a ≤ a := hM.out.u.least.below a hlt
      obtain ⟨kk, hkk⟩ : ∃ kk, (leads (r a) r).length = kk := ⟨_, rfl⟩
      obtain ⟨ll, hll⟩ : ∃ ll, (leads a r).length = ll := ⟨_, rfl⟩
      have hmem := membs_le a r (r a)
      have hpos : kk < (leads (a + 1) r).length := by rw [← hkk, ← half_len (a + 1) a r]; exact half_pos hM.out.u.least hlt
      rw [hll] at hLe ⊢
      go_wp2_with fail
      refine HF.out.mono ?_
      rintro e w2 ⟨rfl, hu2, hk2⟩
      have hM2 := hid (hM.out.find (by rw [HB.out]; exact hblt) hu2 hk2)
      clear hM hu2 hk2 HF
      by_cases hra2 : r a = a
      · have hll2 : (leads (a + 1) r).length = ll + 1 := by rw [leads_yes a r hra2, List.length_append, hll]; rfl
        have hkl : kk = ll := by rw [← hkk, hra2, hll]
        have hcap : ll + 1 ≤ G := by rw [← HG.out, ← hll2]; exact leads_le_of r hlt
        obtain ⟨⟨q, cq⟩, hfq⟩ := hM2.out.pl.cellAt ha5
        obtain ⟨vs, hvs⟩ := hM2.out.own
        have hS2 : B ≤ w2.heap.size := by rw [← HB.out]; exact hM2.out.keep.size
        have HO := hid hvs
        have hk2 : Keeps [p] w2 (w2.setCell ⟨p, a, none⟩ (.int .i64 (ll : Nat))) := Keeps.setCell _ _ _ _ (by simp)
        have HO2 : Box ((w2.setCell ⟨p, a, none⟩ (.int .i64 (ll : Nat))).ownsRow B 26 1 (.slice (some ⟨B, 0, none⟩) ll G) ll vs) := hid (by
          have h1 := (hvs.kept hk2 (hM2.out.pl.far _)).outer
          rw [groups_len, hll, HG.out, HB.out] at h1
          exact h1)
        have HY : Box (∀ wa w3, Keeps [] (w2.setCell ⟨p, a, none⟩ (.int .i64 (ll : Nat))) wa → w3.ownsRow B 26 1 (.slice (some ⟨B, 0, none⟩) (ll + 1) G) (ll + 1) (vs ++ [nilS]) → wa.grownBy w3 (some B) → HMid w w3 b n B p a r) := hid (by
          intro wa w3 hka ho3 hg3
          have := hM2.out.yes (wa := wa) (w3 := w3) hvs (by rw [HB.out]; exact hblt) hlt hra2
          rw [hll, HG.out, HB.out] at this
          exact this hka ho3 hg3)
        clear hvs hM2 hk2 HO
        have hbe : (((r a : Nat) : Int) == ((a : Nat) : Int)) = true := by rw [hra2]; simp
        have hxa : r a = a := hra2
        rw [hra2]
        rw [hra2] at hbe hmem
        subst hkl
        go_wp2_with (first | (at_builtin; refine wpList_append_own_at _ rfl _ _ 26 rfl B 3 Try.t3 (.int .i64 0) 1 8 under_ints info_int zero_int size_int bytes_int rfl (by decide) _ _ _ rfl (HX.out.alloc _) _ 1 1 [.int .i64 (a : Int)] rfl rfl (cell_one_new _ _ _) (fun x hx => by simp at hx; subst hx; rfl) (by unfold maxLen; omega) (by omega) (by have := HS.out; simp; omega) ?_; intro v' w5 hown5 hgrow5 hnil5 hat5; obtain ⟨g5, c5, hv5⟩ := owns_form hown5; obtain ⟨hf5, ⟨y5, hy5⟩, hm5⟩ := HC.out _ _ _ (Keeps.alloc [] _ _) hown5 hgrow5 hat5; have HM5 := hid hm5; clear hown5 hgrow5 hat5 hnil5 hm5; subst hv5) | (at_builtin; refine wpList_append_fits _ rfl _ _ 30 rfl B 26 Try.t26 1 under_lists info_ints size_ints B kk G vs rfl (HO2.out.alloc _) _ 1 1 [nilS] rfl rfl (cell_one_set _ _ _ nilS _) (fun x hx => by simp at hx; subst hx; rfl) hcap ?_; intro w3 hown3 hgrow3; have hH3 := hid (HY.out _ _ (Keeps.alloc [] _ _) hown3 hgrow3); have hp3 := hH3.out.place hlt; rw [hkk, hxa] at hp3; obtain ⟨x, cx, HX, HC⟩ := hH3.out.open (by rw [HB.out]; exact hblt) hlt; rw [hkk] at cx HC; rw [hxa] at HX HC; rw [HB.out] at HX HC; have HS := hid hH3.out.keep.size; rw [HB.out] at HS; clear hown3 hgrow3))
        go_roundw
        case rel => exact ⟨a + 1, by omega, by go_num, by rw [hll2], HM5⟩
        case measure => simp [intOf]; omega
      · have hll2 : (leads (a + 1) r).length = ll := by rw [leads_no a r hra2, hll]
        rw [hll2] at hpos
        have hH := hid (hM2.out.no hra2)
        have hp3 := hH.out.place hlt
        rw [hkk] at hp3
        obtain ⟨x, cx, HX, HC⟩ := hH.out.open (by rw [HB.out]; exact hblt) hlt
        have HS := hid hH.out.keep.size
        rw [hkk] at cx HC
        rw [HB.out] at HX HC HS
        have hbe : (((r a : Nat) : Int) == ((a : Nat) : Int)) = false := by rw [beq_eq_false_iff_ne]; omega
        have hra5 : r a < 5000 := by omega
        clear hM2 hra2 hH
        generalize (membs a r (r a)).length = nm at HX HC hmem
        generalize ints (membs a r (r a)) = xm at HX HC
        obtain ⟨x0, hx0⟩ : ∃ x0, r a = x0 := ⟨_, rfl⟩
        rw [hx0] at hp3 hbe hra5 hra ⊢
        clear hkk hx0
        go_wp2_with (at_builtin; refine wpList_append_own_at _ rfl _ _ 26 rfl B 3 Try.t3 (.int .i64 0) 1 8 under_ints info_int zero_int size_int bytes_int rfl (by decide) _ _ _ rfl (HX.out.alloc _) _ 1 1 [.int .i64 (a : Int)] rfl rfl (cell_one_new _ _ _) (fun x hx => by simp at hx; subst hx; rfl) (by unfold maxLen; omega) (by omega) (by have := HS.out; simp; omega) ?_; intro v' w5 hown5 hgrow5 hnil5 hat5; obtain ⟨g5, c5, hv5⟩ := owns_form hown5; obtain ⟨hf5, ⟨y5, hy5⟩, hm5⟩ := HC.out _ _ _ (Keeps.alloc [] _ _) hown5 hgrow5 hat5; have HM5 := hid hm5; clear hown5 hgrow5 hat5 hnil5 hm5; subst hv5)
        go_roundw
        case rel => exact ⟨a + 1, by omega, by go_num, by rw [hll2], HM5⟩
        case measure => simp [intOf]; omega
    · obtain rfl : a = n := by omega
      go_wp2
      go_ret
      obtain ⟨vs, ho⟩ := hM.out.own
      refine ⟨B, G, by rw [groups_len]; rfl, ⟨vs, ?_⟩, hM.out.u, hM.out.keep⟩
      rw [← HG.out]
      exact ho
end Go.Proofs.Ytllfgbgbbjajoaa
