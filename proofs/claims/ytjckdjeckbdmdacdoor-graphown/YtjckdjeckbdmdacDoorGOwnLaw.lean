/-
  The statement GraphOwn.
-/
import Derived.Test.YtjckdjeckbdmdacDoorGLaw
import Derived.Test.YtjckdjeckbdmdacDoorGPathOut
namespace Go.Proofs.YtjckdjeckbdmdacDoor
open Go.RowKit

/-- A number is written over one of a list. -/
theorem own_set {w : World} {base g n cap : Nat} {xs : List Value} (h : w.ownsRow base 3 1 (.slice (some ⟨g, 0, none⟩) n cap) n xs) {k : Nat} (v : Value) :
    (w.setCell ⟨g, k, none⟩ v).ownsRow base 3 1 (.slice (some ⟨g, 0, none⟩) n cap) n (xs.set k v) := by
  rcases h.2 with ⟨h', _⟩ | ⟨g', cap', cur, h', hb, hg, hn, hm, hs, ht⟩
  · simp at h'
  · simp only [Value.slice.injEq, Option.some.injEq, Addr.mk.injEq, and_true, true_and] at h'
    obtain ⟨rfl, rfl⟩ := h'
    have hx := h.1
    refine ⟨by rw [List.length_set]; exact hx, .inr ⟨g, cap, cur.setIfInBounds k v, rfl, hb, heap_setCell_same w g k cur _ _ hg, hn, hm, by simpa using hs, ?_⟩⟩
    rw [Array.toList_setIfInBounds, List.take_set, ht]
theorem OwnL.over {w : World} {base p n : Nat} {vs : Nat → Value} {L : Nat → List Nat} (h : OwnL w base p n vs L) {i q m cap : Nat} (hi : i < n) (hv : vs i = .slice (some ⟨q, 0, none⟩) m cap) (k x : Nat) :
    OwnL (w.setCell ⟨q, k, none⟩ (.int .i64 (x : Int))) base p n vs (fun j => if j = i then (L i).set k x else L j) ∧ Keeps [q] w (w.setCell ⟨q, k, none⟩ (.int .i64 (x : Int))) := by
  have ks : Keeps [q] w (w.setCell ⟨q, k, none⟩ (.int .i64 (x : Int))) := Keeps.setCell [q] _ _ _ (by simp)
  have hq : (vs i).ownBlock = some q := by rw [hv]; rfl
  refine ⟨⟨h.outer.kept ks (by simp; exact fun e => h.ne hi (e ▸ hq)), fun j hj => ?_, h.apart⟩, ks⟩
  by_cases e : j = i
  · subst e
    rw [if_pos rfl]
    have h1 := h.inner j hj
    have hm : m = (L j).length := by
      obtain ⟨a, c, h2, _⟩ := ownsRow_nat h1
      rw [hv] at h2
      simp only [Value.slice.injEq] at h2
      exact h2.2.1
    subst hm
    rw [hv] at h1 ⊢
    have h3 := own_set h1 (k := k) (.int .i64 (x : Int))
    rw [List.length_set, show ints ((L j).set k x) = (ints (L j)).set k (.int .i64 (x : Int)) from by simp [ints, List.map_set]]
    exact h3
  · rw [if_neg e]
    exact ownsRow_keeps (h.inner j hj) ks (fun b hb hx => by simp at hx; subst hx; exact e (h.apart j i b hj hi hb hq))

theorem own_block {w : World} {base : Nat} {v : Value} {l : List Nat} (h : w.ownsRow base 3 1 v l.length (ints l)) (hl : 0 < l.length) : ∃ q c, v = .slice (some ⟨q, 0, none⟩) l.length c := by
  rcases h.2 with ⟨_, h0⟩ | ⟨g, cap, cur, hv, _⟩
  · omega
  · exact ⟨g, cap, hv⟩

set_option maxHeartbeats 4000000 in
theorem own_law (n : Int) (pa : Option Addr) (cap : Nat) (zs : List (Int × Int)) (a : Int) (w : World) (hT : TabAt w) (hz : PairsAt w pa zs) (hl : zs.length ≤ maxLen) :
    Calls Tryd.prog 3 #[.int .i64 n, .slice pa zs.length cap, .int .i64 a] w fun e w' => e = .returned (.bool true) ∧ Keeps [] w w' := by
  have HBG := hid (begun5_any w hT)
  obtain ⟨N, g, L, hN2, hN1, hgl, hsm, hgd, hnn, hmd⟩ := made_pack n zs hl
  have HMD := hid (fun wz (k : Keeps [] w wz) => hmd pa cap wz (hz.kept k (fun _ _ _ => by simp)))
  have HS := hid hsm
  have HGD := hid hgd
  have HN := hid hgl
  have HT := hid hT
  clear hT hz hl hmd hsm hgd hgl hnn
  generalize zs.length = zl at HMD
  go_enter Tryd.func3, Tryd.ntmps3
  go_wp2_with fail
  refine HBG.out.mono ?_
  rintro e w1 ⟨rfl, k1⟩
  clear HBG
  go_wp2_with fail
  refine (HMD.out w1 k1).mono ?_
  rintro e w2 ⟨p, vs, rfl, ho2, k2⟩
  have k12 := k1.quiet k2
  go_wp2_with fail
  refine (HMD.out w2 k12).mono ?_
  rintro e w3 ⟨p3, vs3, rfl, ho3, k3⟩
  have k13 := k12.quiet k3
  have O2 := hid (ho2.quiet k3)
  have O3 := hid ho3
  clear ho2 ho3 k12 k1 k2 k3 HMD
  go_wp2_with fail
  have kA : Keeps [] w3 (w3.alloc (.cells #[.int .i64 (N : Int), .slice (some ⟨p, 0, none⟩) N N] 26)) := Keeps.alloc _ _ _
  have kB : Keeps [] (w3.alloc (.cells #[.int .i64 (N : Int), .slice (some ⟨p, 0, none⟩) N N] 26)) ((w3.alloc (.cells #[.int .i64 (N : Int), .slice (some ⟨p, 0, none⟩) N N] 26)).alloc (.cells #[.int .i64 (N : Int), .slice (some ⟨p3, 0, none⟩) N N] 26)) := Keeps.alloc _ _ _
  have LA := hid ((LG.make O2.out k13).quiet kB)
  have LB := hid (LG.make (O3.out.quiet kA) (k13.quiet kA))
  rw [← HGD.out] at LA LB
  have sA : (w3.alloc (.cells #[.int .i64 (N : Int), .slice (some ⟨p, 0, none⟩) N N] 26)).heap.size = w3.heap.size + 1 := by simp
  rw [sA] at LB
  clear sA kA kB O2 O3 k13 HGD
  have HTN := hid (turn_any g HS.out (some ⟨p, 0, none⟩) g.length _ _ LA.out.gr LA.out.le)
  rw [HN.out] at HTN
  generalize (w3.alloc (.cells #[.int .i64 (N : Int), .slice (some ⟨p, 0, none⟩) N N] 26)).alloc (.cells #[.int .i64 (N : Int), .slice (some ⟨p3, 0, none⟩) N N] 26) = w4 at LA LB HTN ⊢
  obtain ⟨B, hB⟩ : ∃ B, w3.heap.size + 1 + 1 = B := ⟨_, rfl⟩
  rw [hB] at LB
  have LA' : Box (LG w w4 w3.heap.size p B g) := hid ⟨LA.out.two, GAt.up LA.out.gr (by omega), by omega, LB.out.le, LA.out.keep, LB.out.base⟩
  clear LA hB
  generalize w3.heap.size = bx at LA' LB ⊢
  refine HTN.out.mono ?_
  rintro e w5 ⟨p5, vs5, rfl, ho5, k5⟩
  have hBC := LB.out.le
  have kC : Keeps [] w5 (w5.alloc (.cells #[.int .i64 (N : Int), .slice (some ⟨p5, 0, none⟩) N N] 26)) := Keeps.alloc _ _ _
  have G6 := hid (LA'.out.quiet (k5.quiet kC))
  have H6 := hid (LB.out.quiet (k5.quiet kC))
  have O6 := hid (ho5.quiet kC)
  have T6 := hid (TwoAt.new w5 (.int .i64 (N : Int)) (.slice (some ⟨p5, 0, none⟩) N N))
  clear LA' LB ho5 k5 kC HTN
  go_wp2_with fail
  generalize w5.alloc (.cells #[.int .i64 (N : Int), .slice (some ⟨p5, 0, none⟩) N N] 26) = w6 at G6 H6 O6 T6 ⊢
  generalize w5.heap.size = b5 at T6 ⊢
  generalize w4.heap.size = C at O6 hBC
  go_loopw [11] (fun v wr => ∃ (i : Nat) (Lt : Nat → List Nat), v = .int .i64 (i : Int) ∧ i ≤ N ∧ Box (LG w wr bx p B g) ∧ Box (LG w wr (bx + 1) p3 B g) ∧ Box (TwoAt wr b5 (.int .i64 (N : Int)) (.slice (some ⟨p5, 0, none⟩) N N)) ∧ Box (OwnL wr C p5 N vs5 Lt) ∧ Box (∀ j, (Lt j).length ≤ 1000000)) (fun v _ => N - (intOf v).toNat)
  case atStart => exact ⟨0, _, rfl, by omega, G6, H6, T6, O6, hid (fun j => by have h1 := inT_len g N 0 j; rw [inT_zero] at h1; have h2 := deg_short HS.out j N; have h3 : occ ((nb g N).take 0) j = 0 := rfl; omega)⟩
  case round =>
    clear G6 H6 T6 O6
    obtain ⟨i, Lt, rfl, hi, HG, HH, HTt, HO, HLE⟩ := hrel
    have t1 := HTt.out.c1
    by_cases hiN : i < N
    · have hiN' : (i : Int) < (N : Int) := by omega
      obtain ⟨av, cv, hvi, _, _, _⟩ := ownsRow_nat (HO.out.inner i hiN)
      have hlen : (Lt i).length ≤ 1000000 := HLE.out i
      obtain ⟨m, hm⟩ : ∃ m, (Lt i).length = m := ⟨_, rfl⟩
      rw [hm] at hvi hlen
      have HVI := hid hvi
      clear hm hvi
      go_wp2_with fail
      clear t1
      obtain ⟨wo, hwo⟩ : ∃ wo, wo = wr := ⟨_, rfl⟩
      subst hwo
      go_loopw [12] (fun v wr => ∃ (k : Nat) (Lt : Nat → List Nat), v = .int .i64 (k : Int) ∧ k ≤ m ∧ Box (LG w wr bx p B g) ∧ Box (LG w wr (bx + 1) p3 B g) ∧ Box (TwoAt wr b5 (.int .i64 (N : Int)) (.slice (some ⟨p5, 0, none⟩) N N)) ∧ Box (OwnL wr C p5 N vs5 Lt) ∧ Box (∀ j, (Lt j).length ≤ 1000000)) (fun v _ => m - (intOf v).toNat)
      case atStart => exact ⟨0, _, rfl, by omega, HG, HH, HTt, HO, HLE⟩
      case round =>
        clear HG HH HTt HO HLE
        obtain ⟨k, Lt, rfl, hk, HG, HH, HTt, HO, HLE⟩ := hrel
        have t1 := HTt.out.c1
        have hcp := HO.out.cell hiN
        rw [HVI.out] at hcp
        by_cases hkm : k < m
        · have hin := HO.out.inner i hiN
          have hml : (Lt i).length = m := by
            obtain ⟨a9, c9, h9, _⟩ := ownsRow_nat hin
            rw [HVI.out] at h9
            simp only [Value.slice.injEq] at h9
            exact h9.2.1.symm
          obtain ⟨q, c, hvq⟩ := own_block hin (by omega)
          rw [HVI.out, hml] at hvq
          simp only [Value.slice.injEq, true_and] at hvq
          obtain ⟨rfl, rfl⟩ := hvq
          rw [HVI.out, hml] at hin
          obtain ⟨hcs, hfr⟩ := spare_at hin (k := k) (by rcases hin.2 with ⟨h', _⟩ | ⟨g', cap', cur, h', _, _, hn, _⟩ <;> simp at h'; omega)
          obtain ⟨cv0, hcv0⟩ := Option.isSome_iff_exists.1 hcs
          have hqC := (hin.lt q rfl).1
          have hover := HO.out.over hiN HVI.out k 0
          have O8 := hid hover.1
          have k8 := hover.2
          have G8 := hid (HG.out.kept k8 (fun x hx => by simp at hx; omega))
          have H8 := hid (HH.out.kept k8 (fun x hx => by simp at hx; omega))
          have T8 := hid (HTt.out.kept k8 (by simp; exact fun e => two_ne_own HTt.out hin (by rw [e]; rfl)))
          have hkm' : (k : Int) < (m : Int) := by omega
          clear hover k8 hin hcs HG HH HTt HO
          go_wp2
          go_roundw
          case rel => exact ⟨k + 1, _, by go_num, by omega, G8, H8, T8, O8, hid (fun j => by
            by_cases e : j = i
            · rw [if_pos e, List.length_set]; exact HLE.out i
            · rw [if_neg e]; exact HLE.out j)⟩
          case measure => simp [intOf]; omega
        · have hkm' : ¬ ((k : Int) < (m : Int)) := by omega
          go_wp2
          go_roundw
          case rel => exact ⟨i + 1, Lt, by go_num, by omega, HG, HH, HTt, HO, HLE⟩
          case measure => simp [intOf]; omega
    · obtain rfl : i = N := by omega
      have t6 := HG.out.two
      rw [HN.out] at t6
      have c0 := t6.c0
      have c1 := t6.c1
      clear t6
      have HP := hid (parts_any g HS.out (some ⟨p, 0, none⟩) g.length B wr HG.out.gr HG.out.le (tab_of HT.out HG.out.keep))
      rw [HN.out] at HP
      go_wp2_with fail
      refine HP.out.mono ?_
      rintro e w7 ⟨v7, vs7, rfl, _, k7⟩
      have G7 := hid (HG.out.quiet k7)
      have H7 := hid (HH.out.quiet k7)
      clear HP HG HH HTt HO k7 c0 c1 t1
      have t6 := G7.out.two
      rw [HN.out] at t6
      have c0 := t6.c0
      have c1 := t6.c1
      clear t6
      have HO := hid (order_quiet g HS.out (some ⟨p, 0, none⟩) g.length B a w7 G7.out.gr G7.out.le)
      rw [HN.out] at HO
      go_wp2_with fail
      refine HO.out.mono ?_
      rintro e w8 ⟨⟨v8, rfl⟩, k8⟩
      have G8 := hid (G7.out.quiet k8)
      have H8 := hid (H7.out.quiet k8)
      clear HO G7 H7 k8 c0 c1
      have t6 := G8.out.two
      rw [HN.out] at t6
      have c0 := t6.c0
      have c1 := t6.c1
      clear t6
      have HP := hid (path_quiet g HS.out (some ⟨p, 0, none⟩) g.length B 0 a w8 G8.out.gr (tab_of HT.out G8.out.keep) (by rw [HN.out]; omega))
      rw [HN.out] at HP
      go_wp2_with fail
      refine HP.out.mono ?_
      rintro e w9 ⟨⟨v9, rfl⟩, k9⟩
      have G9 := hid (G8.out.quiet k9)
      have H9 := hid (H8.out.quiet k9)
      clear HP G8 H8 k9 c0 c1
      have t6 := G9.out.two
      have t7 := H9.out.two
      rw [HN.out] at t6 t7
      have c1 := t6.c1
      have d1 := t7.c1
      clear t6 t7
      have HE := hid (geqall_any (some ⟨p, 0, none⟩) (some ⟨p3, 0, none⟩) B B g.length g.length g g w9 G9.out.gr H9.out.gr (by have := HS.out.len; omega) (fun j => HS.out.inner j))
      rw [HN.out, decide_eq_true rfl] at HE
      go_wp2_with fail
      refine HE.out.mono ?_
      rintro e w10 ⟨rfl, m10, rfl⟩
      go_wp2
      go_ret
      exact ⟨rfl, G9.out.keep.quiet (Keeps.drewN [] _ m10)⟩
end Go.Proofs.YtjckdjeckbdmdacDoor
