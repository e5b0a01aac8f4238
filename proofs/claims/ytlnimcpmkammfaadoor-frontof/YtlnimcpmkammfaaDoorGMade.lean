/-
  Contract: the statements' Made.
-/
import Derived.Test.YtlnimcpmkammfaaDoorGTurn
import Derived.Test.YtlnimcpmkammfaaDoorGPairs
import Derived.Deep.AppendLies
import Derived.Deep.QuietTactic
import Derived.BigQuiet
import Derived.Deep.RegionHeldLaw
namespace Go.Proofs.YtlnimcpmkammfaaDoor
open Go.RowKit

/-- How many nodes. -/
def nN (n : Int) : Nat := (1 + n % 25).toNat
theorem nN_pos (n : Int) : 1 ≤ nN n := by unfold nN; omega
theorem nN_le (n : Int) : nN n ≤ 25 := by unfold nN; omega
theorem nN_int (n : Int) : (nN n : Int) = 1 + n % 25 := by unfold nN; omega
/-- A number as a node. -/
def nd (N : Nat) (z : Int) : Nat := (z % (N : Int)).toNat
theorem nd_lt {N : Nat} (h : 1 ≤ N) (z : Int) : nd N z < N := by
  unfold nd
  have h1 := Int.emod_lt_of_pos z (b := (N : Int)) (by omega)
  have h2 := Int.emod_nonneg z (b := (N : Int)) (by omega)
  omega
theorem nd_int {N : Nat} (h : 1 ≤ N) (z : Int) : (nd N z : Int) = z % (N : Int) := by
  unfold nd
  have h2 := Int.emod_nonneg z (b := (N : Int)) (by omega)
  omega
theorem rem_two (z N : Int) (h : 0 < N) : Int.tmod (Int.tmod z N + N) N = z % N := by
  have h1 := Int.emod_lt_of_pos z h
  have h2 := Int.emod_nonneg z (b := N) (by omega)
  rw [Int.tmod_eq_emod (a := z)]
  split
  · show Int.tmod (z % N - 0 + N) N = z % N
    rw [Int.sub_zero, Int.tmod_eq_emod_of_nonneg (by omega), Int.add_emod_right, Int.emod_emod_of_dvd z (Int.dvd_refl N)]
  · have e : ((N.natAbs : Nat) : Int) = N := by omega
    rw [e, Int.sub_add_cancel, Int.tmod_eq_emod_of_nonneg (by omega), Int.emod_emod_of_dvd z (Int.dvd_refl N)]
theorem tmod_small (z N : Int) (h : 0 < N) : -N < Int.tmod z N ∧ Int.tmod z N < N := by
  have h1 := Int.emod_lt_of_pos z h
  have h2 := Int.emod_nonneg z (b := N) (by omega)
  rw [Int.tmod_eq_emod]
  split
  · show -N < z % N - 0 ∧ z % N - 0 < N
    omega
  · have e : ((N.natAbs : Nat) : Int) = N := by omega
    rw [e]
    rename_i hh
    have h3 : z % N ≠ 0 := fun e => hh (.inr (Int.dvd_of_emod_eq_zero e))
    omega
theorem node_num (z : Int) (N : Nat) (h : 1 ≤ N) (h2 : N ≤ 1000) : (wrap64 (Int.tmod z (N : Int) + (N : Int))).tmod (N : Int) = (nd N z : Int) := by
  have h1 := tmod_small z N (by omega)
  rw [IntWalk.wrap64_in _ (by omega), rem_two _ _ (by omega), nd_int h]
theorem made_num (n : Int) : wrap64 (1 + (wrap64 (Int.tmod n 25 + 25)).tmod 25) = (nN n : Int) := by
  have h := node_num n 25 (by omega) (by omega)
  have h1 := nd_lt (N := 25) (by omega) n
  have h2 := nd_int (N := 25) (by omega) n
  have h' : (wrap64 (Int.tmod n 25 + 25)).tmod 25 = (nd 25 n : Int) := h
  have h2' : (nd 25 n : Int) = n % 25 := h2
  rw [h', IntWalk.wrap64_in _ (by omega), nN_int, h2']
/-- The lists of a graph with these edges. -/
def edL (es : List (Nat × Nat)) (i : Nat) : List Nat := (es.filter fun e => e.1 == i).map (·.2)
theorem edL_snoc (es : List (Nat × Nat)) (a b i : Nat) : edL (es ++ [(a, b)]) i = if i = a then edL es a ++ [b] else edL es i := by
  unfold edL
  rw [List.filter_append, List.map_append]
  by_cases h : i = a
  · subst h; simp
  · rw [if_neg h]
    have : ¬ a = i := fun e => h e.symm
    simp [this]
def edsM (N : Nat) (zs : List (Int × Int)) : List (Nat × Nat) := zs.map fun z => (nd N z.1, nd N z.2)
def madeG (n : Int) (zs : List (Int × Int)) : List (List Nat) := (List.range (nN n)).map (edL (edsM (nN n) (zs.take 80)))
theorem madeG_len (n : Int) (zs : List (Int × Int)) : (madeG n zs).length = nN n := by simp [madeG]
theorem edL_len (es : List (Nat × Nat)) (i : Nat) : (edL es i).length ≤ es.length := by
  unfold edL
  rw [List.length_map]
  exact List.length_filter_le _ _
theorem madeG_sm (n : Int) (zs : List (Int × Int)) : Sm (madeG n zs) := by
  have hp := nN_pos n
  refine ⟨fun a b hb => ?_, by rw [madeG_len]; have := nN_le n; omega, fun j => ?_⟩
  · rw [madeG_len]
    by_cases ha : a < nN n
    · unfold madeG at hb
      rw [nb_map _ _ _ ha] at hb
      unfold edL at hb
      obtain ⟨e, he, rfl⟩ := List.mem_map.1 hb
      obtain ⟨z, _, rfl⟩ := List.mem_map.1 (List.mem_filter.1 he).1
      exact nd_lt hp _
    · rw [nb_out (by rw [madeG_len]; omega)] at hb
      cases hb
  · by_cases ha : j < nN n
    · unfold madeG
      rw [nb_map _ _ _ ha]
      have h1 := edL_len (edsM (nN n) (zs.take 80)) j
      have h2 : (edsM (nN n) (zs.take 80)).length ≤ 80 := by unfold edsM; rw [List.length_map, List.length_take]; omega
      omega
    · rw [nb_out (by rw [madeG_len]; omega)]
      simp

/-- In the midst of Made. -/
structure MD (w wz : World) (n p q : Nat) (vs : Nat → Value) (L : Nat → List Nat) : Prop where
  rb : TwoAt wz w.heap.size (.int .i64 0) (.slice none 0 0)
  tb : TwoAt wz q (.int .i64 (n : Int)) (.slice (some ⟨p, 0, none⟩) n n)
  own : OwnL wz w.heap.size p n vs L
  keep : Keeps [] w wz
theorem MD.quiet {w wz wy : World} {n p q : Nat} {vs : Nat → Value} {L : Nat → List Nat} (h : MD w wz n p q vs L) (k : Keeps [] wz wy) : MD w wy n p q vs L :=
  ⟨h.rb.kept k (by simp), h.tb.kept k (by simp), h.own.quiet k, h.keep.quiet k⟩
theorem MD.congr {w wz : World} {n p q : Nat} {vs : Nat → Value} {L L' : Nat → List Nat} (h : MD w wz n p q vs L) (e : ∀ i, i < n → L i = L' i) : MD w wz n p q vs L' :=
  ⟨h.rb, h.tb, h.own.congr (fun i hi => ⟨rfl, e i hi⟩), h.keep⟩
/-- List x grows by an append. -/
structure Grown (w w5 : World) (n p q x : Nat) (v' : Value) (vs : Nat → Value) (L : Nat → List Nat) (j : Nat) : Prop where
  cell : w5.cell? ⟨p, x, none⟩ = some (vs x)
  frozen : w5.frozen? ⟨p, x, none⟩ = false
  head : w5.cell? ⟨q, 1, none⟩ = some (.slice (some ⟨p, 0, none⟩) n n)
  md : MD w (w5.setCell ⟨p, x, none⟩ v') n p q (fun i => if i = x then v' else vs i) (fun i => if i = x then L x ++ [j] else L i)
theorem MD.grow {w wz wa w5 : World} {n p q : Nat} {vs : Nat → Value} {L : Nat → List Nat} (h : MD w wz n p q vs L) (ha : Keeps [] wz wa) {x : Nat} (hx : x < n) {v' : Value} {j : Nat}
    (ho : w5.ownsRow w.heap.size 3 1 v' ((L x).length + 1) (ints (L x) ++ [.int .i64 (j : Int)])) (hg : wa.grownBy w5 (vs x).ownBlock) (hat : v'.ownBlock = (vs x).ownBlock ∨ v'.ownBlock = some wa.heap.size) : Grown w w5 n p q x v' vs L j := by
  have hkeep : Keeps (vs x).ownBlock.toList wa w5 := Keeps.grown _ hg (fun y hy => by rw [hy]; simp)
  have h2 := h.quiet ha
  have hout : RowAt w5 w.heap.size p n 23 vs := h2.own.outer.kept hkeep (fun hx' => h2.own.ne hx (by simpa using hx'))
  have htb : TwoAt w5 q (.int .i64 (n : Int)) (.slice (some ⟨p, 0, none⟩) n n) := h2.tb.kept hkeep (fun hx' => two_ne_own h2.tb (h2.own.inner x hx) (by simpa using hx'))
  have hrb : TwoAt w5 w.heap.size (.int .i64 0) (.slice none 0 0) := h2.rb.kept hkeep (fun hx' => two_ne_own h2.rb (h2.own.inner x hx) (by simpa using hx'))
  have ks : Keeps [p] w5 (w5.setCell ⟨p, x, none⟩ v') := Keeps.setCell [p] _ _ _ (by simp)
  refine ⟨hout.cell hx, hout.frozen x, htb.c1, hrb.kept ks (by simp; exact two_ne_row hrb hout), htb.kept ks (by simp; exact two_ne_row htb hout), h.own.put ha hx (l' := L x ++ [j]) ?_ hg hat, ?_⟩
  · rw [List.length_append, show ints (L x ++ [j]) = ints (L x) ++ [.int .i64 (j : Int)] from by simp [ints]]
    exact ho
  · exact (h2.keep.fresh hkeep (own_new (h2.own.inner x hx))).fresh ks (fun y hy => by have := hout.lt; simp at hy; omega)

set_option maxHeartbeats 4000000 in
theorem made_any (n : Int) (pa : Option Addr) (cap : Nat) (zs : List (Int × Int)) (w : World) (hz : PairsAt w pa zs) (hl : zs.length ≤ maxLen) :
    Calls Tryd.prog 9 #[.int .i64 n, .slice pa zs.length cap] w fun e w' => ∃ p vs, e = .returned (.agg #[.int .i64 (nN n : Int), .slice (some ⟨p, 0, none⟩) (nN n) (nN n)]) ∧ OwnL w' w.heap.size p (nN n) vs (edL (edsM (nN n) (zs.take 80))) ∧ Keeps [] w w' := by
  have hN1 := nN_pos n
  have hN2 := nN_le n
  have HZ := hid hz
  have HL := hid hl
  clear hz hl
  go_enter Tryd.func9, Tryd.ntmps9
  go_upto_region 2 with fail
  rw [made_num n]
  obtain ⟨N, hN⟩ : ∃ N, nN n = N := ⟨_, rfl⟩
  rw [hN] at hN1 hN2 ⊢
  have HN := hid hN
  clear hN
  have k1 : Keeps [] w (w.alloc (Obj.cells #[.int .i64 0, .slice none 0 0] 27)) := Keeps.alloc _ _ _
  have T1 := hid (TwoAt.new w (.int .i64 0) (.slice none 0 0))
  have hw1 := k1.size
  go_wp2_with (at_make; go_must (refine wpList_make_full _ rfl _ _ 25 rfl w.heap.size 23 Tryd.t23 (.slice none 0 0) 1 under_lists info_ints zero_ints size_ints .i64 .i64 _ _ N rfl rfl rfl rfl (by rw [bytes_ints]; omega) (by unfold maxLen; omega) hw1 ?_; intro w2 hown2 hgrow2))
  have k2 : Keeps [] _ w2 := Keeps.grown [] hgrow2 (by simp)
  have hrow2 := RowAt.made hown2 rfl
  have k3 : Keeps [] w2 (w2.alloc (Obj.cells #[.int .i64 (N : Int), .slice (some ⟨w.heap.size + 1, 0, none⟩) N N] 27)) := Keeps.alloc _ _ _
  have M3 : Box (MD w (w2.alloc (Obj.cells #[.int .i64 (N : Int), .slice (some ⟨w.heap.size + 1, 0, none⟩) N N] 27)) N (w.heap.size + 1) w2.heap.size (fun _ => nilS) (edL (edsM N (zs.take 0)))) := hid (by
    have e1 : (w.alloc (Obj.cells #[.int .i64 0, .slice none 0 0] 27)).heap.size = w.heap.size + 1 := by simp
    rw [e1] at hrow2
    exact ⟨(T1.out.kept k2 (by simp)).kept k3 (by simp), TwoAt.new w2 _ _, (OwnL.nil (hrow2.kept k3 (by simp))).congr (fun i _ => ⟨rfl, rfl⟩), (k1.quiet k2).quiet k3⟩)
  clear hown2 hgrow2 hrow2 k2 T1 hw1 k1
  generalize w2.alloc (Obj.cells #[.int .i64 (N : Int), .slice (some ⟨w.heap.size + 1, 0, none⟩) N N] 27) = w3 at M3 k3 ⊢
  clear k3
  generalize w2.heap.size = q at M3 ⊢
  obtain ⟨p, hp⟩ : ∃ p, w.heap.size + 1 = p := ⟨_, rfl⟩
  rw [hp] at M3 ⊢
  clear hp
  obtain ⟨L, hL⟩ : ∃ L, zs.length = L := ⟨_, rfl⟩
  rw [hL] at HL ⊢
  have HLn := hid hL
  clear hL
  go_loopw [6] (fun v wr => ∃ (i : Nat) (vs : Nat → Value), v = .int .i64 (i : Int) ∧ i ≤ L ∧ i ≤ 80 ∧ Box (MD w wr N p q vs (edL (edsM N (zs.take i))))) (fun v _ => 80 - (intOf v).toNat)
  case atStart => exact ⟨0, _, rfl, by omega, by omega, M3⟩
  case round =>
    clear M3
    obtain ⟨i, vs, rfl, hiL, hi8, HM⟩ := hrel
    by_cases h1 : i < L
    · by_cases h2 : i < 80
      · obtain ⟨b, off, rfl, hc⟩ := HZ.out.resolve_left (by intro e; rw [e] at HLn; have := HLn.out; simp at this; omega)
        obtain ⟨hc0, hc1⟩ := hc i (by rw [HLn.out]; exact h1)
        rw [← HM.out.keep.cell (p := ⟨b, off + i * 2, none⟩) (block_lt_of_cell hc0) (by simp)] at hc0
        rw [← HM.out.keep.cell (p := ⟨b, off + i * 2 + 1, none⟩) (block_lt_of_cell hc1) (by simp)] at hc1
        have htk := hid (take_snoc zs i (0, 0) (by rw [HLn.out]; exact h1))
        obtain ⟨z, hz⟩ : ∃ z, zs.getD i (0, 0) = z := ⟨_, rfl⟩
        rw [hz] at hc0 hc1 htk
        obtain ⟨za, zb⟩ := z
        clear hz hc
        have hiL' : (i : Int) < (L : Int) := by omega
        have hi8' : (i : Int) < 80 := by omega
        go_wp2
        go_quiet (fail)
        rw [node_num za N hN1 (by omega), node_num zb N hN1 (by omega)]
        have hxN := nd_lt hN1 za
        have hes : Box (∀ k, edL (edsM N (zs.take (i + 1))) k = if k = nd N za then edL (edsM N (zs.take i)) (nd N za) ++ [nd N zb] else edL (edsM N (zs.take i)) k) := hid (fun k => by
          rw [htk.out, ← edL_snoc]
          congr 1
          unfold edsM
          rw [List.map_append]
          rfl)
        obtain ⟨x, hx⟩ : ∃ x, nd N za = x := ⟨_, rfl⟩
        obtain ⟨y, hy⟩ : ∃ y, nd N zb = y := ⟨_, rfl⟩
        rw [hx] at hxN
        rw [hx, hy] at hes
        rw [hx, hy]
        clear hx hy htk hc0 hc1
        have HX := hid (HM.out.quiet (Keeps.drewN [] _ nq))
        clear HM
        generalize wr.drewN nq = wx at HX ⊢
        have hlen : (edL (edsM N (zs.take i)) x).length ≤ 80 := Nat.le_trans (edL_len _ _) (by unfold edsM; rw [List.length_map, List.length_take]; omega)
        obtain ⟨E, hE⟩ : ∃ E, edL (edsM N (zs.take i)) = E := ⟨_, rfl⟩
        rw [hE] at hes HX hlen
        clear hE
        have HRW := hid (HX.out.own.inner x hxN)
        have hcp := HX.out.own.cell hxN
        have hfp := HX.out.own.outer.frozen x
        have ht1 := HX.out.tb.c1
        have hp := HX.out.own.outer.lt.2
        have hq := HX.out.tb.lt
        have hxN' : (x : Int) < (N : Int) := by omega
        have hws := HX.out.keep.size
        obtain ⟨lx, hlx⟩ : ∃ lx, (E x).length = lx := ⟨_, rfl⟩
        have HLX := hid hlx
        rw [hlx] at HRW hlen
        clear hlx
        go_upto_region 7 with fail
        go_region_law (refine step_append_lies _ (by rfl) _ _ _ (by rfl) w.heap.size 3 Tryd.t3 (.int .i64 0) 1 8 under_ints info_int zero_int size_int bytes_int rfl (by decide) (vs x) lx (ints (E x)) (by rfl) (HRW.out.alloc _) ⟨wx.heap.size, 0, none⟩ 1 1 [.int .i64 (y : Int)] (by rfl) (by rfl) (World.news_of_block (cs := #[.int .i64 (y : Int)]) (t := 3) (fr := (0, 0)) (heap_alloc_new wx _)) (by simp [Value.oneCell']) (by omega) (by unfold maxLen; omega) (by omega) (by simp; omega) (wx.heap.size + 1) (by simp) ?_; intro g5 cap5 w5 hown5 hgrow5 hat5 hlt5; have HG5 := hid (HX.out.grow (v' := .slice (some ⟨g5, 0, none⟩) (lx + 1) cap5) (j := y) ((Keeps.alloc [] _ _).quiet (Keeps.drew [] _)) hxN (by rw [HLX.out]; exact hown5) hgrow5 (hat5.elim (fun e => .inl (by rw [e]; rfl)) (fun e => .inr (by rw [e]; simp [Value.ownBlock])))); have hcp5 := HG5.out.cell; have hq5 := HG5.out.head; have hfp5 := HG5.out.frozen; clear hown5 hgrow5 hat5)
        all_goals
          have hmd := HG5.out.md.congr (fun k _ => (hes.out k).symm)
          have HMD := hid hmd
          clear hmd hcp5 hq5 hfp5 hlt5 HG5 HX hcp hfp ht1
          go_wp2
          go_roundw
          case rel => exact ⟨i + 1, _, by go_num, by omega, by omega, HMD⟩
          case measure => simp [intOf]; omega
      · have htk8 : zs.take i = zs.take 80 := by rw [show i = 80 by omega]
        have hi8f : decide ((i : Int) < 80) = false := decide_eq_false (by omega)
        have hiL' : (i : Int) < (L : Int) := by omega
        have ht0 := HM.out.tb.c0
        have ht1 := HM.out.tb.c1
        have hr0 := HM.out.rb.c0
        have hr1 := HM.out.rb.c1
        have hf0 := HM.out.rb.frozen 0
        have hf1 := HM.out.rb.frozen 1
        go_wp2
        have k1 : Keeps [w.heap.size] wr (wr.setCell ⟨w.heap.size, 0, none⟩ (.int .i64 (N : Int))) := Keeps.setCell _ _ _ _ (by simp)
        have k2 : Keeps [w.heap.size] (wr.setCell ⟨w.heap.size, 0, none⟩ (.int .i64 (N : Int))) ((wr.setCell ⟨w.heap.size, 0, none⟩ (.int .i64 (N : Int))).setCell ⟨w.heap.size, 1, none⟩ (.slice (some ⟨p, 0, none⟩) N N)) := Keeps.setCell _ _ _ _ (by simp)
        have k3 := k1.step k2
        have hb2 : TwoAt ((wr.setCell ⟨w.heap.size, 0, none⟩ (.int .i64 (N : Int))).setCell ⟨w.heap.size, 1, none⟩ (.slice (some ⟨p, 0, none⟩) N N)) w.heap.size (.int .i64 (N : Int)) (.slice (some ⟨p, 0, none⟩) N N) := by
          have h1 := heap_setCell_same wr w.heap.size 0 _ _ (.int .i64 (N : Int)) HM.out.rb.heap
          have h2 := heap_setCell_same _ w.heap.size 1 _ _ (.slice (some ⟨p, 0, none⟩) N N) h1
          exact ⟨h2⟩
        have hd0 := hb2.c0
        have hd1 := hb2.c1
        have hown := HM.out.own.kept k3 (by simp; exact fun e => two_ne_row HM.out.rb HM.out.own.outer e.symm) (fun i hi b hb => by simp; exact fun e => two_ne_own HM.out.rb (HM.out.own.inner i hi) (e ▸ hb))
        have hkeep := HM.out.keep.fresh k3 (fun x hx => by simp at hx; omega)
        generalize (wr.setCell ⟨w.heap.size, 0, none⟩ (.int .i64 (N : Int))).setCell ⟨w.heap.size, 1, none⟩ (.slice (some ⟨p, 0, none⟩) N N) = w9 at hd0 hd1 hown hkeep ⊢
        exact bodyPost_ret (v := .agg #[.int .i64 (N : Int), .slice (some ⟨p, 0, none⟩) N N]) (by simp [results, Tryd.results9, go_sem, hd0, hd1]) rfl ⟨p, vs, by rw [HN.out], by rw [HN.out]; rw [htk8] at hown; exact hown, hkeep⟩
    · obtain rfl : i = L := by omega
      have htk8 : zs.take i = zs.take 80 := by rw [List.take_of_length_le (by rw [HLn.out]; omega), List.take_of_length_le (by rw [HLn.out]; omega)]
      have ht0 := HM.out.tb.c0
      have ht1 := HM.out.tb.c1
      have hr0 := HM.out.rb.c0
      have hr1 := HM.out.rb.c1
      have hf0 := HM.out.rb.frozen 0
      have hf1 := HM.out.rb.frozen 1
      go_wp2
      have k1 : Keeps [w.heap.size] wr (wr.setCell ⟨w.heap.size, 0, none⟩ (.int .i64 (N : Int))) := Keeps.setCell _ _ _ _ (by simp)
      have k2 : Keeps [w.heap.size] (wr.setCell ⟨w.heap.size, 0, none⟩ (.int .i64 (N : Int))) ((wr.setCell ⟨w.heap.size, 0, none⟩ (.int .i64 (N : Int))).setCell ⟨w.heap.size, 1, none⟩ (.slice (some ⟨p, 0, none⟩) N N)) := Keeps.setCell _ _ _ _ (by simp)
      have k3 := k1.step k2
      have hb2 : TwoAt ((wr.setCell ⟨w.heap.size, 0, none⟩ (.int .i64 (N : Int))).setCell ⟨w.heap.size, 1, none⟩ (.slice (some ⟨p, 0, none⟩) N N)) w.heap.size (.int .i64 (N : Int)) (.slice (some ⟨p, 0, none⟩) N N) := by
        have h1 := heap_setCell_same wr w.heap.size 0 _ _ (.int .i64 (N : Int)) HM.out.rb.heap
        have h2 := heap_setCell_same _ w.heap.size 1 _ _ (.slice (some ⟨p, 0, none⟩) N N) h1
        exact ⟨h2⟩
      have hd0 := hb2.c0
      have hd1 := hb2.c1
      have hown := HM.out.own.kept k3 (by simp; exact fun e => two_ne_row HM.out.rb HM.out.own.outer e.symm) (fun i hi b hb => by simp; exact fun e => two_ne_own HM.out.rb (HM.out.own.inner i hi) (e ▸ hb))
      have hkeep := HM.out.keep.fresh k3 (fun x hx => by simp at hx; omega)
      generalize (wr.setCell ⟨w.heap.size, 0, none⟩ (.int .i64 (N : Int))).setCell ⟨w.heap.size, 1, none⟩ (.slice (some ⟨p, 0, none⟩) N N) = w9 at hd0 hd1 hown hkeep ⊢
      exact bodyPost_ret (v := .agg #[.int .i64 (N : Int), .slice (some ⟨p, 0, none⟩) N N]) (by simp [results, Tryd.results9, go_sem, hd0, hd1]) rfl ⟨p, vs, by rw [HN.out], by rw [HN.out]; rw [htk8] at hown; exact hown, hkeep⟩
end Go.Proofs.YtlnimcpmkammfaaDoor
