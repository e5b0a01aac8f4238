/-
  Contract: graph's finish, the search in depth.
  Contracts: graph's Reach and Order.
  Plain: the values at begun's graph.
-/
import Derived.Test.YtmebkeidpklcbaaDoorRows
import Derived.WalkKit
import Derived.WalkSpells
import Derived.WalkLawsBesides
import Derived.OwnWalk
import Derived.Deep.QuietTactic
import Derived.BigQuiet
import Derived.Lib.TrailingZeros
import Derived.Maps.AppendAt
import Derived.Lib.Builder
import Derived.Deep.OwnRows
import Derived.Laws.BitsAllLaws
import Derived.RegionTactic
import Derived.ChangeAlike
import Derived.Laws.Bits64b
import Derived.Laws.Bits128
import Derived.Laws.Tables
import Derived.Sort.OwnSortedInts
import Derived.Deep.RegionLaw
import Derived.Deep.RegionLawGrows
import Derived.ArgAppend
import Derived.Deep.DeepCutAuto
import Derived.Test.YtmebkeidpklcbaaDoorZ03
import Derived.Test.YtmebkeidpklcbaaDoorZ04
import Derived.Test.YtmebkeidpklcbaaDoorZ24

namespace Go.Proofs.YtmebkeidpklcbaaDoor
open Go.RowKit

/-- What a search has made of the set in block b and of the list v. -/
structure Srch (w wr : World) (b base : Nat) (v vr : Value) (st : (Nat → Bool) × List Nat) : Prop where
  set : SetAt wr b st.1
  row : wr.ownsRow base 3 1 vr st.2.length (ints st.2)
  keep : Keeps (b :: v.ownBlock.toList) w wr
  near : ∀ k, vr.ownBlock = some k → k < w.heap.size → v.ownBlock = some k
theorem Srch.refl {w : World} {b base : Nat} {v : Value} {st : (Nat → Bool) × List Nat} (hs : SetAt w b st.1) (hr : w.ownsRow base 3 1 v st.2.length (ints st.2)) : Srch w w b base v v st :=
  ⟨hs, hr, Keeps.refl _ _, fun _ h _ => h⟩
theorem Srch.trans {w w1 w2 : World} {b base : Nat} {v v1 v2 : Value} {s1 s2 : (Nat → Bool) × List Nat} (h : Srch w w1 b base v v1 s1) (k : Srch w1 w2 b base v1 v2 s2) : Srch w w2 b base v v2 s2 := by
  refine ⟨k.set, k.row, h.keep.trans k.keep ?_, ?_⟩
  · intro x hx hl
    rcases List.mem_cons.1 hx with e | e
    · rw [e]; simp
    · have := h.near x (by simpa using e) hl
      rw [this]; simp
  · intro x hx hl
    exact h.near x (k.near x hx (Nat.lt_of_lt_of_le hl h.keep.size)) hl
theorem set_ne_row {w : World} {b base : Nat} {s : Nat → Bool} {v : Value} {n : Nat} {xs : List Value} (hs : SetAt w b s) (hr : w.ownsRow base 3 1 v n xs) : v.ownBlock ≠ some b :=
  Lib.ownBlock_ne hr hs.heap (by decide)
/-- A step that leaves set and list alone. -/
theorem Srch.quiet {w w1 w2 : World} {b base : Nat} {v v1 : Value} {st : (Nat → Bool) × List Nat} (h : Srch w w1 b base v v1 st) (k : Keeps [] w1 w2) : Srch w w2 b base v v1 st :=
  ⟨h.set.kept k (by simp), ownsRow_keeps h.row k (by simp), h.keep.quiet k, h.near⟩
/-- A step that turns the set alone. -/
theorem Srch.turn {w w1 w2 : World} {b base : Nat} {v v1 : Value} {st : (Nat → Bool) × List Nat} {t : Nat → Bool} (h : Srch w w1 b base v v1 st) (k : Keeps [b] w1 w2) (ht : SetAt w2 b t) : Srch w w2 b base v v1 (t, st.2) :=
  ⟨ht, ownsRow_keeps h.row k (fun x hx e => by
    simp at e
    subst e
    exact set_ne_row h.set h.row hx), h.keep.trans k (fun x hx _ => by simp at hx; subst hx; simp), h.near⟩
/-- A number more at the list's end. -/
theorem Srch.put {w w1 wa w2 : World} {b base : Nat} {v v1 v2 : Value} {st : (Nat → Bool) × List Nat} {n : Nat} (h : Srch w w1 b base v v1 st) (ha : Keeps [] w1 wa) (hrow : w2.ownsRow base 3 1 v2 (st.2.length + 1) (ints st.2 ++ [.int .i64 (n : Int)]))
    (hg : wa.grownBy w2 v1.ownBlock) (hat : v2.ownBlock = v1.ownBlock ∨ v2.ownBlock = some wa.heap.size) : Srch w w2 b base v v2 (st.1, st.2 ++ [n]) := by
  have hk : Keeps v1.ownBlock.toList wa w2 := Keeps.grown _ hg (fun k hk => by rw [hk]; simp)
  refine ⟨(h.set.kept ha (by simp)).kept hk ?_, ?_, (h.keep.quiet ha).trans hk ?_, ?_⟩
  · intro hx
    exact set_ne_row h.set h.row (by simpa using hx)
  · show w2.ownsRow base 3 1 v2 (st.2 ++ [n]).length (ints (st.2 ++ [n]))
    rw [List.length_append, show ints (st.2 ++ [n]) = ints st.2 ++ [.int .i64 (n : Int)] from by simp [ints]]
    exact hrow
  · intro x hx hl
    have := h.near x (by simpa using hx) hl
    rw [this]; simp
  · intro x hx hl
    rcases hat with e | e
    · exact h.near x (e ▸ hx) hl
    · rw [e] at hx
      have h1 := h.keep.size
      have h2 := ha.size
      simp at hx
      omega
theorem Fit.node {g : List (List Nat)} (h6 : g.length ≤ 600) {s t : Nat → Bool} (hf : Fit s) (h : ∀ m, t m = true → s m = true ∨ m < g.length) : Fit t := by
  intro m hm
  cases e : t m with
  | false => rfl
  | true =>
    rcases h m e with h1 | h1
    · rw [hf m hm] at h1; cases h1
    · omega
set_option maxHeartbeats 2000000 in
theorem finish_any (g : List (List Nat)) (hg : Ok g) (h6 : g.length ≤ 600) (hin : ∀ j, (nb g j).length ≤ 1000000) (B b base : Nat) (a : Option Addr) (cap : Nat) (hb : B ≤ b) (hbase : B ≤ base) :
    ∀ (f n : Nat) (s : Nat → Bool) (l : List Nat) (v : Value) (w : World), n < g.length → un g s < f → l.length + un g s ≤ 100000 → GAt w B a g → base ≤ w.heap.size → SetAt w b s → Fit s → w.ownsRow base 3 1 v l.length (ints l) →
    Calls Tryd.prog 67 #[.agg #[.int .i64 (g.length : Int), .slice a g.length cap], .int .i64 (n : Int), .pointer (some ⟨b, 0, none⟩), v] w fun e w' => ∃ v', e = .returned v' ∧ Srch w w' b base v v' (vis g f n (s, l))
  | 0, _, _, _, _, _, _, h, _, _, _, _, _, _ => absurd h (Nat.not_lt_zero _)
  | f + 1, n, s, l, v, w, hn, hu, hl, hG, hbw, hs, hf, hrow => by
    have ih := hid (finish_any g hg h6 hin B b base a cap hb hbase f)
    have hk1 : Keeps [] w (w.alloc (Obj.cells #[.int .i64 (g.length : Int), .slice a g.length cap] 34)) := Keeps.alloc _ _ _
    have hadd := add_any b s n _ (hs.kept hk1 (by simp)) hf
    have e1 : decide ((0 : Int) ≤ (n : Int) ∧ (n : Int) < 5000) = true := by simp; omega
    have e2 : hasI s (n : Int) = s n := by simp [hasI]
    rw [e1, e2, Bool.true_and, insI_nat s n (by omega)] at hadd
    have F0 := hid (Srch.refl (b := b) (st := (s, l)) hs hrow)
    have hvb := hid (fun k (h : v.ownBlock = some k) => hrow.lt k h)
    have hblt := hs.lt
    have HB1 := hid (BoxAt.new w (g.length : Int) a g.length cap)
    have HG := hid hG
    have Hf := hid hf
    cases hsn : s n with
    | true =>
      rw [hsn] at hadd
      have HA := hid hadd
      have hv := hid (vis_in g (f + 1) n (s, l) hsn)
      have hins : Box (ins s n = s) := hid (by
        funext m
        unfold ins
        by_cases e : m = n
        · subst e; rw [hsn]; rfl
        · simp [e])
      clear hadd hs hrow hG hf ih hsn
      go_enter Tryd.func67, Tryd.ntmps67
      go_wp2_with fail
      refine HA.out.mono ?_
      rintro e w2 ⟨rfl, hs2, hk2⟩
      have F2 := hid ((F0.out.quiet hk1).turn hk2 hs2)
      clear hs2 hk2
      go_wp2
      go_ret
      refine ⟨_, rfl, ?_⟩
      rw [hv.out]
      have := F2.out
      rw [hins.out] at this
      exact this
    | false =>
      rw [hsn] at hadd
      have HA := hid hadd
      have hv := hid (vis_out g f n (s, l) hsn)
      have hu2 := un_ins g s n hsn hn
      clear hadd hs hrow hG hf hsn
      go_enter Tryd.func67, Tryd.ntmps67
      go_wp2_with fail
      refine HA.out.mono ?_
      rintro e w2 ⟨rfl, hs2, hk2⟩
      have F2' := hid ((F0.out.quiet hk1).turn hk2 hs2)
      have F2 := hid (Srch.refl (b := b) (st := (ins s n, l)) hs2 F2'.out.row)
      have hbx : BoxAt w2 w.heap.size (g.length : Int) a g.length cap := HB1.out.kept hk2 (by simp; omega)
      have HG2 := hid ((HG.out.quiet hk1).kept hk2 (fun x hx => by simp at hx; omega))
      obtain ⟨bl, off, ai, ci, rfl, hc, hN⟩ := HG2.out.at hn
      have HN := hid hN
      have hc1 := hbx.c1
      have HBX := hid hbx
      have hn6 : n < 600 := by omega
      have hnl := hin n
      have hS2 : w.heap.size < w2.heap.size := by have := hbx.lt; exact this
      have hbase2 : base ≤ w2.heap.size := by omega
      have Hnb := hid (fun m hm => hg n m hm)
      clear hs2 hk2 hbx hN HA HB1 HG
      have Hins : Box (Fit (ins s n)) := hid (Fit.node h6 Hf.out (fun m hm => by
        have h2 : (s m || (m == n)) = true := hm
        rw [Bool.or_eq_true, beq_iff_eq] at h2
        rcases h2 with h2 | h2
        · exact .inl h2
        · exact .inr (h2 ▸ hn)))
      obtain ⟨N, hNN⟩ : ∃ N, nb g n = N := ⟨_, rfl⟩
      rw [hNN] at hc HN hnl Hnb hv
      clear hNN
      obtain ⟨gl, hgl⟩ : ∃ gl, g.length = gl := ⟨_, rfl⟩
      rw [hgl] at hc1 HBX hn ⊢
      have Hgl := hid hgl
      clear hgl
      have hn' : (n : Int) < (gl : Int) := by omega
      go_wp2_with fail
      go_loopw [3, 22] (fun vs i wr => ∃ (k : Nat) (vr : Value), k ≤ N.length ∧ i = .int .i64 k ∧ vr = vs ∧ Box (Srch w2 wr b base v vr (visL g f (N.take k) (ins s n, l)))) (fun _ i _ => N.length - (intOf i).toNat)
      case atStart => exact ⟨0, v, by omega, rfl, rfl, F2⟩
      case round =>
        clear F2 hc1 hc
        obtain ⟨k, vr, hk, rfl, rfl, FR⟩ := hrel
        have hkw := FR.out.keep
        by_cases hlt : k < N.length
        · have hvF : ∀ x, x ∈ b :: v.ownBlock.toList → B ≤ x := by
            intro x hx
            rcases List.mem_cons.1 hx with e | e
            · omega
            · have := (hvb.out x (by simpa using e)).1; omega
          obtain ⟨bm, om, rfl, hcm⟩ := (HN.out.kept hkw hvF).at hlt
          obtain ⟨x, hx⟩ : ∃ x, N.getD k 0 = x := ⟨_, rfl⟩
          have hxl : x < g.length := hx ▸ Hnb.out _ (getD_mem N k 0 hlt)
          have hbx2 : BoxAt wr w.heap.size (gl : Int) (some ⟨bl, off, none⟩) gl cap := HBX.out.kept hkw (by
            intro hx
            rcases List.mem_cons.1 hx with e | e
            · omega
            · have := (hvb.out _ (by simpa using e)).2; omega)
          have hc0 := hbx2.c0
          have hc1 := hbx2.c1
          have htk := hid (take_snoc N k 0 hlt)
          rw [hx] at hcm htk
          have hlen := visL_len g hg f (N.take k) (ins s n, l) (fun m hm => Hnb.out m (List.mem_of_mem_take hm))
          have hnode := visL_node g hg f (N.take k) (ins s n, l)
          have hmono := un_mono g (ins s n) _ (visL_mono g f (N.take k) (ins s n, l))
          have hfit : Fit (visL g f (N.take k) (ins s n, l)).1 := Fit.node h6 Hins.out (fun m hm => hnode m (fun a ha => Hnb.out a (List.mem_of_mem_take ha)) hm)
          clear hx hbx2 hnode
          obtain ⟨st, hst⟩ : ∃ st, visL g f (N.take k) (ins s n, l) = st := ⟨_, rfl⟩
          rw [hst] at hlen hmono hfit FR
          have hlen' : st.2.length + un g st.1 ≤ 100000 := by
            have : st.2.length + un g st.1 ≤ l.length + un g (ins s n) := hlen
            omega
          have hbw2 : base ≤ wr.heap.size := by have := hkw.size; omega
          have hnext := hid (visL_snoc g f (N.take k) x (ins s n, l))
          rw [hst] at hnext
          have HC := hid (ih.out x st.1 st.2 vr wr hxl (by omega) hlen' (HG2.out.kept hkw hvF) hbw2 FR.out.set hfit FR.out.row)
          rw [Hgl.out] at HC
          have hsz : w2.heap.size ≤ wr.heap.size := hkw.size
          clear hlen hmono hfit hst hlen'
          go_wp2_with fail
          refine HC.out.mono ?_
          rintro e w3 ⟨v3, rfl, F3⟩
          have F4 := hid (FR.out.trans F3)
          clear F3 FR HC
          go_wp2
          go_roundw
          case rel => exact ⟨k + 1, v3, by omega, by go_num, rfl, hid (by rw [htk.out, hnext.out]; exact F4.out)⟩
          case measure => simp [intOf]; omega
        · obtain rfl : k = N.length := by omega
          have hlen := visL_len g hg f N (ins s n, l) Hnb.out
          rw [List.take_length] at FR
          obtain ⟨st, hst⟩ : ∃ st, visL g f N (ins s n, l) = st := ⟨_, rfl⟩
          rw [hst] at hlen FR hv
          have hlen' : st.2.length ≤ 100000 := by
            have : st.2.length + un g st.1 ≤ l.length + un g (ins s n) := hlen
            omega
          have hbw2 : base ≤ wr.heap.size := by have := hkw.size; omega
          have HR := hid FR.out.row
          clear hlen hst hkw ih
          generalize hnn : st.2.length = ln at HR hlen'
          generalize hxx : ints st.2 = xs at HR
          have Hnn := hid hnn
          have Hxx := hid hxx
          clear hnn hxx
          go_wp2_with (at_builtin; refine wpList_append_own_at _ rfl _ _ 54 rfl base 3 Tryd.t3 (.int .i64 0) 1 8 under_ints info_int zero_int size_int bytes_int rfl (by decide) _ _ _ rfl (HR.out.alloc _) _ 1 1 [.int .i64 (n : Int)] rfl rfl (cell_one_new _ _ _) (fun x hx => by simp at hx; subst hx; rfl) (by unfold maxLen; omega) (by omega) (by simp; omega) ?_; intro v' w5 hown5 hgrow5 hnil5 hat5)
          go_ret
          refine ⟨v', rfl, ?_⟩
          rw [hv.out]
          refine F2'.out.trans (FR.out.put (Keeps.alloc [] _ _) ?_ hgrow5 hat5)
          rw [Hnn.out, Hxx.out]
          exact hown5
end Go.Proofs.YtmebkeidpklcbaaDoor

namespace Go.Proofs.YtmebkeidpklcbaaDoor
open Go.RowKit

/-- Who is reached from those of zs that are nodes, when s was reached already. -/
def rchS (g : List (List Nat)) (zs : List Int) (s : Nat → Bool) : Nat → Bool := zs.foldl (fun s z => if 0 ≤ z ∧ z < (g.length : Int) then (vis g (g.length + 1) z.toNat (s, [])).1 else s) s
def rch (g : List (List Nat)) (zs : List Int) : Nat → Bool := rchS g zs none_
theorem rchS_snoc (g : List (List Nat)) (zs : List Int) (z : Int) (s : Nat → Bool) : rchS g (zs ++ [z]) s = if 0 ≤ z ∧ z < (g.length : Int) then (vis g (g.length + 1) z.toNat (rchS g zs s, [])).1 else rchS g zs s := by
  unfold rchS
  rw [List.foldl_append]
  rfl
theorem rchS_fit {g : List (List Nat)} (h : Sm g) : ∀ (zs : List Int) (s : Nat → Bool), Fit s → Fit (rchS g zs s)
  | [], _, hs => hs
  | z :: zs, s, hs => by
    show Fit (rchS g zs (if 0 ≤ z ∧ z < (g.length : Int) then (vis g (g.length + 1) z.toNat (s, [])).1 else s))
    refine rchS_fit h zs _ ?_
    by_cases e : 0 ≤ z ∧ z < (g.length : Int)
    · rw [if_pos e]
      exact Fit.node h.len hs (fun m hm => vis_node g h.ok _ z.toNat (s, []) m (by omega) hm)
    · rw [if_neg e]; exact hs
/-- A graph's box, and a new set behind it. -/
structure Two0 (w w2 : World) (B : Nat) (a : Option Addr) (cap : Nat) (g : List (List Nat)) (s : Nat → Bool) : Prop where
  box : BoxAt w2 w.heap.size (g.length : Int) a g.length cap
  set : SetAt w2 (w.heap.size + 1) s
  gr : GAt w2 B a g
  keep : Keeps [] w w2
theorem two_new (w : World) (B : Nat) (a : Option Addr) (cap : Nat) (g : List (List Nat)) (hG : GAt w B a g) :
    Two0 w ((w.alloc (Obj.cells #[.int .i64 (g.length : Int), .slice a g.length cap] 34)).alloc (Obj.cells (row none_) 99)) B a cap g none_ := by
  have hk1 : Keeps [] w (w.alloc (Obj.cells #[.int .i64 (g.length : Int), .slice a g.length cap] 34)) := Keeps.alloc _ _ _
  have hk2 : Keeps [] (w.alloc (Obj.cells #[.int .i64 (g.length : Int), .slice a g.length cap] 34)) ((w.alloc (Obj.cells #[.int .i64 (g.length : Int), .slice a g.length cap] 34)).alloc (Obj.cells (row none_) 99)) := Keeps.alloc _ _ _
  refine ⟨(BoxAt.new w (g.length : Int) a g.length cap).kept hk2 (by simp), ?_, (hG.quiet hk1).quiet hk2, hk1.quiet hk2⟩
  have := setAt_new (w.alloc (Obj.cells #[.int .i64 (g.length : Int), .slice a g.length cap] 34)) none_
  rw [World.size_alloc] at this
  exact this
set_option maxHeartbeats 2000000 in
theorem reach_any (g : List (List Nat)) (hs : Sm g) (a : Option Addr) (cap B : Nat) (w : World) (hG : GAt w B a g) (hB : B ≤ w.heap.size) (af : Option Addr) (fc Bf : Nat) (zs : List Int) (hz : InAt w Bf af zs) (hl : zs.length ≤ 1000000) (hBf : Bf ≤ w.heap.size) :
    Calls Tryd.prog 56 #[.agg #[.int .i64 (g.length : Int), .slice a g.length cap], .slice af zs.length fc] w fun e w' => ∃ b, e = .returned (.pointer (some ⟨b, 0, none⟩)) ∧ SetAt w' b (rch g zs) ∧ Keeps [] w w' ∧ w.heap.size ≤ b := by
  have hzero := zero_set
  have H2 := hid (two_new w B a cap g hG)
  have HZ := hid (hz.kept H2.out.keep (by simp))
  have HS := hid hs
  have HC : Box (∀ w, GAt w B a g → Calls Tryd.prog 31 #[.agg #[.int .i64 (g.length : Int), .slice a g.length cap]] w fun e w' => e = .returned (.bool true) ∧ Keeps [] w w') := hid (fun w => gmay_yes g hs a cap B w)
  clear hG hz hs
  go_enter Tryd.func56, Tryd.ntmps56
  go_wp2_with fail
  generalize (w.alloc (Obj.cells #[.int .i64 (g.length : Int), .slice a g.length cap] 34)).alloc (Obj.cells (row none_) 99) = w2 at H2 HZ ⊢
  refine (HC.out w2 H2.out.gr).mono ?_
  rintro e w3 ⟨rfl, hk3⟩
  have H3 : Box (Two0 w w3 B a cap g (rchS g [] none_)) := hid ⟨H2.out.box.kept hk3 (by simp), H2.out.set.kept hk3 (by simp), H2.out.gr.quiet hk3, H2.out.keep.quiet hk3⟩
  have HZ3 := hid (HZ.out.kept hk3 (by simp))
  clear H2 HZ hk3 HC hzero
  generalize row none_ = R
  obtain ⟨zl, hzl⟩ : ∃ zl, zs.length = zl := ⟨_, rfl⟩
  rw [hzl] at hl ⊢
  have HZL := hid hzl
  clear hzl
  go_wp2_with fail
  go_loopw [16] (fun i wr => ∃ k : Nat, k ≤ zl ∧ i = .int .i64 k ∧ Box (Two0 w wr B a cap g (rchS g (zs.take k) none_)) ∧ Keeps [w.heap.size + 1] w3 wr) (fun i _ => zl - (intOf i).toNat)
  case atStart => exact ⟨0, by omega, rfl, H3, Keeps.refl _ _⟩
  case round =>
    clear H3
    obtain ⟨k, hk, rfl, HR, hkw⟩ := hrel
    by_cases hlt : k < zl
    · obtain ⟨bl, off, rfl, hc⟩ := (HZ3.out.kept hkw (fun x hx => by simp at hx; omega)).at (k := k) (by rw [HZL.out]; exact hlt)
      have hc0 := HR.out.box.c0
      have hc1 := HR.out.box.c1
      have htk := hid (take_snoc zs k 0 (by rw [HZL.out]; exact hlt))
      obtain ⟨z, hzz⟩ : ∃ z, zs.getD k 0 = z := ⟨_, rfl⟩
      rw [hzz] at hc htk
      clear hzz
      by_cases hin : 0 ≤ z ∧ z < (g.length : Int)
      · obtain ⟨n, rfl⟩ := Int.eq_ofNat_of_zero_le hin.1
        have hn : n < g.length := by omega
        have H1 := hid (fun w1 => ghas_yes (g.length : Int) (n : Int) a g.length cap w1 hin.1 hin.2)
        have hfit := hid (rchS_fit HS.out (zs.take k) none_ fit_none)
        have hstep : Box (rchS g (zs.take (k + 1)) none_ = (vis g (g.length + 1) n (rchS g (zs.take k) none_, [])).1) := hid (by rw [htk.out, rchS_snoc, if_pos hin, Int.toNat_natCast])
        obtain ⟨s, hss⟩ : ∃ s, rchS g (zs.take k) none_ = s := ⟨_, rfl⟩
        rw [hss] at HR hstep hfit
        have hun := un_le g s
        have HF := hid (fun w1 (h0 : B ≤ w1.heap.size) h1 h2 h3 => finish_any g HS.out.ok HS.out.len HS.out.inner B (w.heap.size + 1) w1.heap.size a cap (by omega) (by omega) (g.length + 1) n s [] (.slice none 0 0) w1 hn (by omega) (by have := HS.out.len; simp; omega) h1 (Nat.le_refl _) h2 h3 (nil_row w1 _))
        clear hss hin
        go_wp2_with (first | (go_at_call 55; refine (H1.out _).mono ?_; rintro e w4 ⟨rfl, hk4⟩; have H4 : Box (Two0 w w4 B a cap g s) := hid ⟨HR.out.box.kept hk4 (by simp), HR.out.set.kept hk4 (by simp), HR.out.gr.quiet hk4, HR.out.keep.quiet hk4⟩; have hd0 := H4.out.box.c0; have hd1 := H4.out.box.c1) | (go_at_call 67; refine (HF.out _ (by have := H4.out.keep.size; omega) H4.out.gr H4.out.set hfit.out).mono ?_; rintro e w5 ⟨v5, rfl, F5⟩))
        have F5' := hid F5
        clear F5
        go_roundw
        case rel => exact ⟨k + 1, by omega, by go_num, hid ⟨H4.out.box.kept F5'.out.keep (by simp [Value.ownBlock]), by rw [hstep.out]; exact F5'.out.set, H4.out.gr.kept F5'.out.keep (fun x hx => by simp [Value.ownBlock] at hx; omega), H4.out.keep.trans F5'.out.keep (fun x hx hl => by simp [Value.ownBlock] at hx; omega)⟩, (hkw.quiet hk4).trans F5'.out.keep (fun x hx _ => by simpa [Value.ownBlock] using hx)⟩
        case measure => simp [intOf]; omega
      · have H1 := hid (fun w1 => ghas_no (g.length : Int) z a g.length cap w1 hin)
        have hstep : Box (rchS g (zs.take (k + 1)) none_ = rchS g (zs.take k) none_) := hid (by rw [htk.out, rchS_snoc, if_neg hin])
        clear hin
        go_wp2_with (go_at_call 55; refine (H1.out _).mono ?_; rintro e w4 ⟨rfl, hk4⟩)
        go_roundw
        case rel => exact ⟨k + 1, by omega, by go_num, hid (by rw [hstep.out]; exact ⟨HR.out.box.kept hk4 (by simp), HR.out.set.kept hk4 (by simp), HR.out.gr.quiet hk4, HR.out.keep.quiet hk4⟩), hkw.quiet hk4⟩
        case measure => simp [intOf]; omega
    · obtain rfl : k = zl := by omega
      go_wp2
      go_ret
      have hall : zs.take k = zs := by rw [← HZL.out]; exact List.take_length
      have H5 := HR.out
      rw [hall] at H5
      exact ⟨_, rfl, H5.set, H5.keep, by omega⟩
end Go.Proofs.YtmebkeidpklcbaaDoor

namespace Go.Proofs.YtmebkeidpklcbaaDoor
open Go.RowKit

theorem rch_node {g : List (List Nat)} (hg : Ok g) : ∀ (zs : List Int) (s : Nat → Bool) (m : Nat), rchS g zs s m = true → s m = true ∨ m < g.length
  | [], _, _, h => .inl h
  | z :: zs, s, m, h => by
    have h' : rchS g zs (if 0 ≤ z ∧ z < (g.length : Int) then (vis g (g.length + 1) z.toNat (s, [])).1 else s) m = true := h
    rcases rch_node hg zs _ m h' with h1 | h1
    · by_cases e : 0 ≤ z ∧ z < (g.length : Int)
      · rw [if_pos e] at h1
        exact vis_node g hg _ z.toNat (s, []) m (by omega) h1
      · rw [if_neg e] at h1; exact .inl h1
    · exact .inr h1
theorem rch_out {g : List (List Nat)} (hg : Ok g) (zs : List Int) (m : Nat) (hm : g.length ≤ m) : rch g zs m = false := by
  cases h : rch g zs m
  · rfl
  · rcases rch_node hg zs none_ m h with h1 | h1
    · cases h1
    · omega
end Go.Proofs.YtmebkeidpklcbaaDoor
