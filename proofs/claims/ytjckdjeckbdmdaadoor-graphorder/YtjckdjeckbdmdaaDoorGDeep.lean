/-
  Contract: the statements' own deep.
-/
import Derived.Test.YtjckdjeckbdmdaaDoorGLaw
namespace Go.Proofs.YtjckdjeckbdmdaaDoor
open Go.RowKit

/-- Marks. -/
def bl (s : Nat → Bool) (i : Nat) : Value := .bool (s i)
theorem bol_ne_row {w : World} {b base B0 gn : Nat} {c : Nat → Value} {v : Value} {n : Nat} {xs : List Value} (hs : RowAt w B0 b gn 4 c) (hr : w.ownsRow base 3 1 v n xs) : v.ownBlock ≠ some b := by
  obtain ⟨cur, hc⟩ := hs.heap
  exact Lib.ownBlock_ne hr hc (by decide)
theorem bl_put {w : World} {B0 b gn : Nat} {s : Nat → Bool} (h : RowAt w B0 b gn 4 (bl s)) (n : Nat) : RowAt (w.setCell ⟨b, n, none⟩ (.bool true)) B0 b gn 4 (bl (ins s n)) := by
  refine (h.put n (.bool true)).congr (fun i _ => ?_)
  unfold bl ins
  by_cases e : i = n
  · subst e; simp
  · simp [e]

/-- What a search has made of the set in block b and of the list v. -/
structure SrB (B0 gn : Nat) (w wr : World) (b base : Nat) (v vr : Value) (st : (Nat → Bool) × List Nat) : Prop where
  set : RowAt wr B0 b gn 4 (bl st.1)
  row : wr.ownsRow base 3 1 vr st.2.length (ints st.2)
  keep : Keeps (b :: v.ownBlock.toList) w wr
  near : ∀ k, vr.ownBlock = some k → k < w.heap.size → v.ownBlock = some k

theorem SrB.refl {w : World} {B0 gn b base : Nat} {v : Value} {st : (Nat → Bool) × List Nat} (hs : RowAt w B0 b gn 4 (bl st.1)) (hr : w.ownsRow base 3 1 v st.2.length (ints st.2)) : SrB B0 gn w w b base v v st :=
  ⟨hs, hr, Keeps.refl _ _, fun _ h _ => h⟩
theorem SrB.trans {w w1 w2 : World} {B0 gn b base : Nat} {v v1 v2 : Value} {s1 s2 : (Nat → Bool) × List Nat} (h : SrB B0 gn w w1 b base v v1 s1) (k : SrB B0 gn w1 w2 b base v1 v2 s2) : SrB B0 gn w w2 b base v v2 s2 := by
  refine ⟨k.set, k.row, h.keep.trans k.keep ?_, ?_⟩
  · intro x hx hl
    rcases List.mem_cons.1 hx with e | e
    · rw [e]; simp
    · have := h.near x (by simpa using e) hl
      rw [this]; simp
  · intro x hx hl
    exact h.near x (k.near x hx (Nat.lt_of_lt_of_le hl h.keep.size)) hl
/-- A step that leaves set and list alone. -/
theorem SrB.quiet {w w1 w2 : World} {B0 gn b base : Nat} {v v1 : Value} {st : (Nat → Bool) × List Nat} (h : SrB B0 gn w w1 b base v v1 st) (k : Keeps [] w1 w2) : SrB B0 gn w w2 b base v v1 st :=
  ⟨h.set.kept k (by simp), ownsRow_keeps h.row k (by simp), h.keep.quiet k, h.near⟩
/-- A step that turns the set alone. -/
theorem SrB.turn {w w1 w2 : World} {B0 gn b base : Nat} {v v1 : Value} {st : (Nat → Bool) × List Nat} {t : Nat → Bool} (h : SrB B0 gn w w1 b base v v1 st) (k : Keeps [b] w1 w2) (ht : RowAt w2 B0 b gn 4 (bl t)) : SrB B0 gn w w2 b base v v1 (t, st.2) :=
  ⟨ht, ownsRow_keeps h.row k (fun x hx e => by
    simp at e
    subst e
    exact bol_ne_row h.set h.row hx), h.keep.trans k (fun x hx _ => by simp at hx; subst hx; simp), h.near⟩
/-- A number more at the list's end. -/
theorem SrB.put {w w1 wa w2 : World} {B0 gn b base : Nat} {v v1 v2 : Value} {st : (Nat → Bool) × List Nat} {n : Nat} (h : SrB B0 gn w w1 b base v v1 st) (ha : Keeps [] w1 wa) (hrow : w2.ownsRow base 3 1 v2 (st.2.length + 1) (ints st.2 ++ [.int .i64 (n : Int)]))
    (hg : wa.grownBy w2 v1.ownBlock) (hat : v2.ownBlock = v1.ownBlock ∨ v2.ownBlock = some wa.heap.size) : SrB B0 gn w w2 b base v v2 (st.1, st.2 ++ [n]) := by
  have hk : Keeps v1.ownBlock.toList wa w2 := Keeps.grown _ hg (fun k hk => by rw [hk]; simp)
  refine ⟨(h.set.kept ha (by simp)).kept hk ?_, ?_, (h.keep.quiet ha).trans hk ?_, ?_⟩
  · intro hx
    exact bol_ne_row h.set h.row (by simpa using hx)
  · show w2.ownsRow base 3 1 v2 (st.2 ++ [n]).length (ints (st.2 ++ [n]))
    rw [List.length_append, show ints (st.2 ++ [n]) = ints st.2 ++ [.int .i64 (n : Int)] from by simp [ints]]
    exact hrow
  · intro x hx hl
    have := h.near x (by simpa using hx) hl
    rw [this]; simp
  · intro x hx hl
    rcases hat with e | e
    · exact h.near x (e ▸ hx) hl
    · rw [e] at hx
      have h1 := h.keep.size
      have h2 := ha.size
      simp at hx
      omega


set_option maxRecDepth 20000 in
set_option maxHeartbeats 2000000 in
theorem deep_any (g : List (List Nat)) (hg : Ok g) (h6 : g.length ≤ 600) (hin : ∀ j, (nb g j).length ≤ 1000000) (B b base B0 : Nat) (a : Option Addr) (cap : Nat) (hb : B ≤ b) (hbase : B ≤ base) :
    ∀ (f n : Nat) (s : Nat → Bool) (l : List Nat) (v : Value) (w : World), n < g.length → un g s < f → s n = false → l.length + un g s ≤ 100000 → GAt w B a g → base ≤ w.heap.size → RowAt w B0 b g.length 4 (bl s) → w.ownsRow base 3 1 v l.length (ints l) →
    Calls Tryd.prog 39 #[.slice a g.length cap, .int .i64 (n : Int), .slice (some ⟨b, 0, none⟩) g.length g.length, v] w fun e w' => ∃ v', e = .returned v' ∧ SrB B0 g.length w w' b base v v' (vis g f n (s, l))
  | 0, _, _, _, _, _, _, h, _, _, _, _, _, _ => absurd h (Nat.not_lt_zero _)
  | f + 1, n, s, l, v, w, hn, hu, hsn, hl, hG, hbw, hs, hrow => by
    have ih := hid (deep_any g hg h6 hin B b base B0 a cap hb hbase f)
    have hvb := hid (fun k (h : v.ownBlock = some k) => hrow.lt k h)
    have hcn := hs.cell hn
    have hfn := hs.frozen n
    have k1 : Keeps [b] w (w.setCell ⟨b, n, none⟩ (.bool true)) := Keeps.setCell [b] _ _ _ (by simp)
    have F1 := hid ((SrB.refl (b := b) (st := (s, l)) hs hrow).turn k1 (bl_put hs n))
    have HG1 := hid (hG.kept k1 (fun x hx => by simp at hx; omega))
    have hv := hid (vis_out g f n (s, l) hsn)
    have hu2 := un_ins g s n hsn hn
    have hs1 : base ≤ (w.setCell ⟨b, n, none⟩ (.bool true)).heap.size := Nat.le_trans hbw k1.size
    obtain ⟨bg, off, ai, ci, rfl, hc, hN⟩ := HG1.out.at hn
    have HN := hid hN
    have hnl := hin n
    have Hnb := hid (fun m hm => hg n m hm)
    obtain ⟨N, hNN⟩ : ∃ N, nb g n = N := ⟨_, rfl⟩
    rw [hNN] at hc HN hnl Hnb hv
    obtain ⟨gl, hgl⟩ : ∃ gl, g.length = gl := ⟨_, rfl⟩
    rw [hgl] at hn F1 ⊢
    have Hgl := hid hgl
    have hn' : (n : Int) < (gl : Int) := by omega
    have F2 := hid (SrB.refl (b := b) (st := (ins s n, l)) F1.out.set F1.out.row)
    clear hgl hNN hN hs hrow hG hsn k1
    generalize hw1 : w.setCell ⟨b, n, none⟩ (.bool true) = w1 at F1 F2 HG1 HN hc hs1
    have HW1 := hid hw1.symm
    clear hw1
    go_enter Tryd.func39, Tryd.ntmps39
    go_wp2_with fail
    rw [← HW1.out]
    go_loopw [3, 9] (fun vs i wr => ∃ (k : Nat) (vr : Value), k ≤ N.length ∧ i = .int .i64 k ∧ vr = vs ∧ Box (SrB B0 gl w1 wr b base v vr (visL g f (N.take k) (ins s n, l)))) (fun _ i _ => N.length - (intOf i).toNat)
    case atStart => exact ⟨0, v, by omega, rfl, rfl, F2⟩
    case round =>
      clear F2 hcn hfn
      obtain ⟨k, vr, hk, rfl, rfl, FR⟩ := hrel
      have hkw := FR.out.keep
      have hvF : ∀ x, x ∈ b :: v.ownBlock.toList → B ≤ x := by
        intro x hx
        rcases List.mem_cons.1 hx with e | e
        · omega
        · have := (hvb.out x (by simpa using e)).1; omega
      have hc1 : wr.cell? ⟨bg, off + n, none⟩ = some (.slice ai N.length ci) := by
        have hB : bg < B := by
          rcases HG1.out with h | ⟨b2, o2, e, h2, _⟩
          · have : g = [] := by cases g with
              | nil => rfl
              | cons => simp [listsI] at h
            rw [this] at Hgl
            have := Hgl.out
            simp at this
            omega
          · simp at e
            omega
        rw [hkw.cell (p := ⟨bg, off + n, none⟩) (block_lt_of_cell hc) (fun hx => by have := hvF _ hx; simp at this; omega)]
        exact hc
      by_cases hlt : k < N.length
      · have hlt' : (k : Int) < (N.length : Int) := by omega
        obtain ⟨bm, om, rfl, hcm⟩ := (HN.out.kept hkw hvF).at hlt
        obtain ⟨x, hx⟩ : ∃ x, N.getD k 0 = x := ⟨_, rfl⟩
        have hxl : x < g.length := hx ▸ Hnb.out _ (getD_mem N k 0 hlt)
        have htk := hid (take_snoc N k 0 hlt)
        rw [hx] at hcm htk
        have hlen := visL_len g hg f (N.take k) (ins s n, l) (fun m hm => Hnb.out m (List.mem_of_mem_take hm))
        have hmono := un_mono g (ins s n) _ (visL_mono g f (N.take k) (ins s n, l))
        clear hx
        obtain ⟨st, hst⟩ : ∃ st, visL g f (N.take k) (ins s n, l) = st := ⟨_, rfl⟩
        rw [hst] at hlen hmono FR
        have hlen' : st.2.length + un g st.1 ≤ 100000 := by
          have : st.2.length + un g st.1 ≤ l.length + un g (ins s n) := hlen
          omega
        have hnext := hid (visL_snoc g f (N.take k) x (ins s n, l))
        rw [hst] at hnext
        have hbw2 : base ≤ wr.heap.size := by have := hkw.size; omega
        have hxg : x < gl := by rw [← Hgl.out]; exact hxl
        have hxg' : (x : Int) < (gl : Int) := by omega
        have hsx : wr.cell? ⟨b, x, none⟩ = some (.bool (st.1 x)) := FR.out.set.cell hxg
        cases hx1 : st.1 x with
        | true =>
          rw [hx1] at hsx
          have hnx2 := hid (vis_in g f x st hx1)
          clear hlen hmono hst hlen' hx1
          go_wp2
          go_roundw
          case rel => exact ⟨k + 1, _, by omega, by go_num, rfl, hid (by rw [htk.out, hnext.out, hnx2.out]; exact FR.out)⟩
          case measure => simp [intOf]; omega
        | false =>
          rw [hx1] at hsx
          have hset := FR.out.set
          rw [← Hgl.out] at hset
          have HC := hid (ih.out x st.1 st.2 vr wr hxl (by omega) hx1 hlen' (HG1.out.kept hkw hvF) hbw2 hset FR.out.row)
          rw [Hgl.out] at HC
          clear hlen hmono hst hlen' hx1 hset
          go_wp2_with fail
          refine HC.out.mono ?_
          rintro e w3 ⟨v3, rfl, F3⟩
          have F4 := hid (FR.out.trans F3)
          clear F3 FR HC
          go_wp2
          go_roundw
          case rel => exact ⟨k + 1, v3, by omega, by go_num, rfl, hid (by rw [htk.out, hnext.out]; exact F4.out)⟩
          case measure => simp [intOf]; omega
      · obtain rfl : k = N.length := by omega
        have hlen := visL_len g hg f N (ins s n, l) Hnb.out
        rw [List.take_length] at FR
        obtain ⟨st, hst⟩ : ∃ st, visL g f N (ins s n, l) = st := ⟨_, rfl⟩
        rw [hst] at hlen FR hv
        have hlen' : st.2.length ≤ 100000 := by
          have : st.2.length + un g st.1 ≤ l.length + un g (ins s n) := hlen
          omega
        have hbw2 : base ≤ wr.heap.size := by have := hkw.size; omega
        have HR := hid FR.out.row
        clear hlen hst hkw ih
        generalize hnn : st.2.length = ln at HR hlen'
        generalize hxx : ints st.2 = xs at HR
        have Hnn := hid hnn
        have Hxx := hid hxx
        clear hnn hxx
        go_wp2_with (at_builtin; refine wpList_append_own_at _ rfl _ _ 23 rfl base 3 Tryd.t3 (.int .i64 0) 1 8 under_ints info_int zero_int size_int bytes_int rfl (by decide) _ _ _ rfl (HR.out.alloc _) _ 1 1 [.int .i64 (n : Int)] rfl rfl (cell_one_new _ _ _) (fun x hx => by simp at hx; subst hx; rfl) (by unfold maxLen; omega) (by omega) (by simp; omega) ?_; intro v' w5 hown5 hgrow5 hnil5 hat5)
        go_ret
        refine ⟨v', rfl, ?_⟩
        rw [hv.out]
        refine F1.out.trans (FR.out.put (Keeps.alloc [] _ _) ?_ hgrow5 hat5)
        rw [Hnn.out, Hxx.out]
        exact hown5
end Go.Proofs.YtjckdjeckbdmdaaDoor
