/-
  Contract: the statements' own Reach.
-/
import Derived.Test.YtmebkeidpklcbaaDoorRows
import Derived.WalkKit
import Derived.WalkSpells
import Derived.WalkLawsBesides
import Derived.OwnWalk
import Derived.Deep.QuietTactic
import Derived.BigQuiet
import Derived.Lib.TrailingZeros
import Derived.Maps.AppendAt
import Derived.Lib.Builder
import Derived.Deep.OwnRows
import Derived.ArgAppend
import Derived.Laws.IdiomCopy
import Derived.Laws.BitsAllLaws
import Derived.RegionTactic
import Derived.ChangeAlike
import Derived.Laws.Bits64b
import Derived.Laws.Bits128
import Derived.Laws.Tables
import Derived.Sort.OwnSortedInts
import Derived.Deep.LoopGhost
import Derived.Deep.DeepCutAuto
import Derived.Test.YtmebkeidpklcbaaDoorZ02
import Derived.Test.YtmebkeidpklcbaaDoorZ04
import Derived.Test.YtmebkeidpklcbaaDoorZ05
import Derived.Test.YtmebkeidpklcbaaDoorZ25

namespace Go.Proofs.YtmebkeidpklcbaaDoor
open Go.RowKit

/-- Marks. -/
def bw (s : Nat → Bool) (i : Nat) : Value := .bool (s i)
theorem bw_put {w : World} {B0 b gn : Nat} {s : Nat → Bool} (h : RowAt w B0 b gn 4 (bw s)) (n : Nat) : RowAt (w.setCell ⟨b, n, none⟩ (.bool true)) B0 b gn 4 (bw (ins s n)) := by
  refine (h.put n (.bool true)).congr (fun i _ => ?_)
  unfold bw ins
  by_cases e : i = n
  · subst e; simp
  · simp [e]
theorem bzero : Tryd.t4.zero = some (.bool false) := by kernel_rfl
theorem bsize : Tryd.t4.size = 1 := by kernel_rfl
theorem bbytes : Tryd.t4.bytes = 1 := by kernel_rfl
theorem binfo : Tryd.prog.info? 4 = some Tryd.t4 := by kernel_rfl
theorem bunder : Tryd.prog.underlying 52 = some (.slice 4) := by kernel_rfl
/-- Whom to keep off. -/
def avI (wo : Int) : Nat → Bool := fun m => decide ((m : Int) = wo)
/-- The queue in memory. -/
def WLine (w : World) (base ps : Nat) (lv : Value) (l : List Nat) : Prop :=
  (lv = .slice none 0 0 ∧ l = []) ∨ ∃ g off cap, lv = .slice (some ⟨g, off, none⟩) l.length cap ∧ LineAt w g off cap (intsI l) ∧ base ≤ g ∧ g ≠ ps
structure RQ (w wr : World) (ps N : Nat) (lv : Value) (st : (Nat → Bool) × List Nat) : Prop where
  row : RowAt wr w.heap.size ps N 4 (bw st.1)
  line : WLine wr w.heap.size ps lv st.2
  keep : Keeps [] w wr
theorem WLine.arm {w : World} {base ps : Nat} {lv : Value} {l : List Nat} (h : WLine w base ps lv l) : (lv = .slice none 0 0 ∧ intsI l = []) ∨ ∃ g off cap, lv = .slice (some ⟨g, off, none⟩) (intsI l).length cap ∧ LineAt w g off cap (intsI l) := by
  rcases h with ⟨h1, h2⟩ | ⟨g, off, cap, h1, h2, _, _⟩
  · exact .inl ⟨h1, by rw [h2]; rfl⟩
  · exact .inr ⟨g, off, cap, by rw [intsI_len]; exact h1, h2⟩
theorem WLine.len {w : World} {base ps : Nat} {lv : Value} {l : List Nat} (h : WLine w base ps lv l) : ∃ a c, lv = .slice a l.length c := by
  rcases h with ⟨rfl, rfl⟩ | ⟨g, off, cap, rfl, _⟩
  · exact ⟨none, 0, rfl⟩
  · exact ⟨_, _, rfl⟩
theorem WLine.kept {w w' : World} {base ps : Nat} {lv : Value} {l L : List Nat} (h : WLine w base ps lv l) (k : Keeps L w w') (hL : ∀ x, x ∈ L → lv.ownBlock ≠ some x) : WLine w' base ps lv l := by
  rcases h with h | ⟨g, off, cap, rfl, h2, h3, h4⟩
  · exact .inl h
  · exact .inr ⟨g, off, cap, rfl, h2.kept k (fun hx => hL g hx rfl), h3, h4⟩
theorem WLine.own {w : World} {base ps : Nat} {lv : Value} {l : List Nat} (h : WLine w base ps lv l) : ∀ x, lv.ownBlock = some x → base ≤ x ∧ x ≠ ps ∧ x < w.heap.size := by
  intro x hx
  rcases h with ⟨rfl, _⟩ | ⟨g, off, cap, rfl, h2, h3, h4⟩
  · cases hx
  · have : g = x := Option.some.inj hx
    subst this
    exact ⟨h3, h4, h2.lt⟩
theorem intsI_snoc (l : List Nat) (x : Nat) : intsI (l ++ [x]) = intsI l ++ [(x : Int)] := by unfold intsI; rw [List.map_append]; rfl
/-- A mark is set. -/
theorem RQ.mark {w wr : World} {ps N : Nat} {lv : Value} {st : (Nat → Bool) × List Nat} (h : RQ w wr ps N lv st) (b : Nat) : RQ w (wr.setCell ⟨ps, b, none⟩ (.bool true)) ps N lv (ins st.1 b, st.2) := by
  have k : Keeps [ps] wr (wr.setCell ⟨ps, b, none⟩ (.bool true)) := Keeps.setCell _ _ _ _ (by simp)
  exact ⟨bw_put h.row b, h.line.kept k (fun x hx e => by simp at hx; exact (h.line.own x e).2.1 hx), h.keep.fresh k (fun x hx => by have := h.row.lt.1; simp at hx; omega)⟩
theorem RQ.quiet {w wr wy : World} {ps N : Nat} {lv : Value} {st : (Nat → Bool) × List Nat} (h : RQ w wr ps N lv st) (k : Keeps [] wr wy) : RQ w wy ps N lv st :=
  ⟨h.row.kept k (by simp), h.line.kept k (by simp), h.keep.quiet k⟩
/-- One more stands at the end. -/
theorem RQ.push {w wr wa w5 : World} {ps N : Nat} {lv : Value} {st : (Nat → Bool) × List Nat} {b g5 off5 cap5 : Nat} (h : RQ w wr ps N lv st) (ka : Keeps [] wr wa) (hl : LineAt w5 g5 off5 cap5 (intsI st.2 ++ [(b : Int)])) (k5 : Keeps lv.ownBlock.toList wa w5) (hat : lv.ownBlock = some g5 ∨ g5 = wa.heap.size) :
    RQ w w5 ps N (.slice (some ⟨g5, off5, none⟩) ((intsI st.2).length + 1) cap5) (st.1, st.2 ++ [b]) := by
  have h2 := h.quiet ka
  have hps := h2.row.lt
  refine ⟨h2.row.kept k5 (fun hx => (h2.line.own ps (by simpa using hx)).2.1 rfl), .inr ⟨g5, off5, cap5, ?_, ?_, ?_, ?_⟩, h2.keep.fresh k5 (fun x hx => (h2.line.own x (by simpa using hx)).1)⟩
  · rw [intsI_len, List.length_append]; rfl
  · show LineAt w5 g5 off5 cap5 (intsI (st.2 ++ [b]))
    rw [intsI_snoc]; exact hl
  · rcases hat with e | e
    · exact (h2.line.own g5 e).1
    · have := h2.keep.size; omega
  · rcases hat with e | e
    · exact (h2.line.own g5 e).2.1
    · omega
/-- The first one goes. -/
theorem LineAt.tail {w : World} {g off cap : Nat} {x : Int} {l : List Int} (h : LineAt w g off cap (x :: l)) : LineAt w g (off + 1) (cap - 1) l := by
  have hl := h.len
  have hm := h.max
  have hlen : (x :: l).length = l.length + 1 := rfl
  refine ⟨fun i hi => ?_, fun k hk => ?_, by omega, by omega, h.lt⟩
  · have := h.cell (i + 1) (by omega)
    rw [Nat.add_assoc, Nat.add_comm 1 i]
    exact this
  · have := h.room (k + 1) (by omega)
    rw [Nat.add_assoc, Nat.add_comm 1 k]
    exact this
theorem WLine.pop {w : World} {base ps g off cap x : Nat} {l : List Nat} (h : LineAt w g off cap (intsI (x :: l))) (h1 : base ≤ g) (h2 : g ≠ ps) : WLine w base ps (.slice (some ⟨g, off + 1, none⟩) l.length (cap - 1)) l :=
  .inr ⟨g, off + 1, cap - 1, rfl, LineAt.tail (l := intsI l) h, h1, h2⟩
theorem WLine.pop1 {w : World} {base ps g off x : Nat} {l : List Nat} (h : LineAt w g off 1 (intsI (x :: l))) (h1 : base ≤ g) (h2 : g ≠ ps) : l = [] ∧ WLine w base ps (.slice (some ⟨g, off, none⟩) 0 0) [] := by
  have hl := h.len
  rw [intsI_len] at hl
  have hlen : (x :: l).length = l.length + 1 := rfl
  refine ⟨List.eq_nil_of_length_eq_zero (by omega), .inr ⟨g, off, 0, rfl, ⟨fun i hi => by simp [intsI] at hi, fun k hk => by omega, by simp [intsI], by omega, h.lt⟩, h1, h2⟩⟩
/-- Those that are nodes. -/
def nodI (N : Nat) (zs : List Int) : List Nat := (zs.filter fun z => decide (0 ≤ z ∧ z < (N : Int))).map Int.toNat
theorem nodI_snoc_in {N : Nat} {zs : List Int} {z : Int} (h : 0 ≤ z ∧ z < (N : Int)) : nodI N (zs ++ [z]) = nodI N zs ++ [z.toNat] := by
  unfold nodI
  rw [List.filter_append, List.map_append]
  simp [h]
theorem nodI_snoc_out {N : Nat} {zs : List Int} {z : Int} (h : ¬ (0 ≤ z ∧ z < (N : Int))) : nodI N (zs ++ [z]) = nodI N zs := by
  unfold nodI
  rw [List.filter_append, List.map_append, List.filter_cons, if_neg (by simpa using h)]
  simp
theorem mem_nodI {N : Nat} {zs : List Int} {u : Nat} : u ∈ nodI N zs ↔ (u : Int) ∈ zs ∧ u < N := by
  unfold nodI
  constructor
  · intro h
    obtain ⟨z, hz, rfl⟩ := List.mem_map.1 h
    obtain ⟨h1, h2⟩ := List.mem_filter.1 hz
    have h3 := of_decide_eq_true h2
    rw [Int.toNat_of_nonneg h3.1]
    exact ⟨h1, by omega⟩
  · rintro ⟨h1, h2⟩
    exact List.mem_map.2 ⟨(u : Int), List.mem_filter.2 ⟨h1, by simp; omega⟩, by simp⟩
theorem nodI_lt {N : Nat} {zs : List Int} : ∀ u, u ∈ nodI N zs → u < N := fun _ hu => (mem_nodI.1 hu).2
set_option maxRecDepth 20000 in
set_option maxHeartbeats 8000000 in
theorem rreach_any (g : List (List Nat)) (hs : Sm g) (a : Option Addr) (cap B : Nat) (w : World) (hG : GAt w B a g) (af : Option Addr) (fc Bf : Nat) (zs : List Int) (hz : InAt w Bf af zs) (hl : zs.length ≤ 1000) (wo : Int) :
    Calls Tryd.prog 17 #[.slice a g.length cap, .slice af zs.length fc, .int .i64 wo] w fun e w' => ∃ ps, e = .returned (.slice (some ⟨ps, 0, none⟩) g.length g.length) ∧ ∃ s, RowAt w' w.heap.size ps g.length 4 (bw s) ∧ Keeps [] w w' ∧ ∀ u, s u = true ↔ ∃ z, z ∈ nodI g.length zs ∧ Pth g (avI wo) z u := by
  have HS := hid hs
  have HG := hid hG
  have HZ := hid hz
  have hg6 := hs.len
  have HUN := hid (fun st : (Nat → Bool) × List Nat => un_le g st.1)
  obtain ⟨N, hN⟩ : ∃ N, g.length = N := ⟨_, rfl⟩
  have HN := hid hN
  rw [hN] at hg6 HUN ⊢
  obtain ⟨zl, hzl⟩ : ∃ zl, zs.length = zl := ⟨_, rfl⟩
  have HZL := hid hzl
  rw [hzl] at hl ⊢
  clear hs hG hz hN hzl
  have hww : w.heap.size ≤ w.heap.size := Nat.le_refl _
  go_enter Tryd.func17, Tryd.ntmps17
  go_wp2_with (at_make; go_must (refine wpList_make_full _ rfl _ _ 52 rfl w.heap.size 4 Tryd.t4 (.bool false) 1 bunder binfo bzero bsize .i64 .i64 _ _ N rfl rfl rfl rfl (by rw [bbytes]; omega) (by unfold maxLen; omega) hww ?_; intro w2 hown2 hgrow2))
  have k2 : Keeps [] w w2 := Keeps.grown [] hgrow2 (by simp)
  obtain ⟨ps, hps⟩ : ∃ ps, w.heap.size = ps := ⟨_, rfl⟩
  have HPS := hid hps
  have R2 : Box (RQ w w2 ps N (.slice none 0 0) (pushes (avI wo) (noS, []) (nodI N (zs.take 0)))) := hid ⟨by
    rw [← hps]
    exact (RowAt.made hown2 rfl).congr (fun i _ => rfl), .inl ⟨rfl, rfl⟩, k2⟩
  rw [hps]
  clear hown2 hgrow2 k2 hww hps
  have wsz : w.heap.size = ps := HPS.out
  clear wsz
  go_loopw [8, 9] (fun lv iv wr => ∃ (i : Nat) (v : Value), v = lv ∧ iv = .int .i64 (i : Int) ∧ i ≤ zl ∧ Box (RQ w wr ps N v (pushes (avI wo) (noS, []) (nodI N (zs.take i))))) (fun _ iv _ => zl - (intOf iv).toNat)
  case atStart => exact ⟨0, _, rfl, rfl, by omega, R2⟩
  case round =>
    clear R2
    obtain ⟨i, v, rfl, rfl, hi, HR⟩ := hrel
    by_cases hlt : i < zl
    · have hlt' : (i : Int) < (zl : Int) := by omega
      obtain ⟨bz, oz, rfl, hcz⟩ := (HZ.out.kept HR.out.keep (by simp)).at (k := i) (by rw [HZL.out]; exact hlt)
      have htk := hid (take_snoc zs i 0 (by rw [HZL.out]; exact hlt))
      obtain ⟨z, hzz⟩ : ∃ z, zs.getD i 0 = z := ⟨_, rfl⟩
      rw [hzz] at hcz htk
      clear hzz
      by_cases hin : 0 ≤ z ∧ z < (N : Int)
      · obtain ⟨b, rfl⟩ := Int.eq_ofNat_of_zero_le hin.1
        have hbN : b < N := by omega
        have hbN' := hin.2
        have hb0 := hin.1
        have hst : Box (pushes (avI wo) (noS, []) (nodI N (zs.take (i + 1))) = push1 (avI wo) (pushes (avI wo) (noS, []) (nodI N (zs.take i))) b) := hid (by rw [htk.out, nodI_snoc_in hin, pushes_snoc, Int.toNat_natCast])
        have hun := pushes_un (avI wo) g (nodI N (zs.take i)) (noS, []) (fun x hx => by rw [HN.out]; exact nodI_lt x hx)
        have hu0 := un_le g noS
        obtain ⟨st, hste⟩ : ∃ st, pushes (avI wo) (noS, []) (nodI N (zs.take i)) = st := ⟨_, rfl⟩
        rw [hste] at HR hst hun
        have hlen : st.2.length ≤ 600 := by
          have : (([] : List Nat)).length = 0 := rfl
          have h9 : un g st.1 + st.2.length ≤ un g noS + 0 := hun
          have := HN.out
          omega
        have cs := HR.out.row.cell hbN
        unfold bw at cs
        have fs := HR.out.row.frozen b
        clear hun hu0 hste hin htk
        cases hsb : st.1 b with
        | true =>
          rw [hsb] at cs
          have hst2 : Box (push1 (avI wo) st b = st) := hid (by unfold push1; rw [if_pos (.inl hsb)])
          clear hsb
          go_wp2
          go_roundw
          case rel => exact ⟨i + 1, v, rfl, by go_num, by omega, hid (by rw [hst.out, hst2.out]; exact HR.out)⟩
          case measure => simp [intOf]; omega
        | false =>
          rw [hsb] at cs
          by_cases hwo : (b : Int) = wo
          · have hb1 : ((b : Int) != wo) = false := by rw [hwo]; simp
            have hst2 : Box (push1 (avI wo) st b = st) := hid (by unfold push1 avI; rw [if_pos (.inr (decide_eq_true hwo))])
            clear hsb hwo
            go_wp2
            go_roundw
            case rel => exact ⟨i + 1, v, rfl, by go_num, by omega, hid (by rw [hst.out, hst2.out]; exact HR.out)⟩
            case measure => simp [intOf]; omega
          · have hb1 : ((b : Int) != wo) = true := by rw [bne_iff_ne]; exact hwo
            have hst2 : Box (push1 (avI wo) st b = (ins st.1 b, st.2 ++ [b])) := hid (by
              unfold push1
              rw [if_neg]
              rintro (h | h)
              · rw [hsb] at h; cases h
              · exact hwo (of_decide_eq_true h))
            have HM := hid (HR.out.mark b)
            clear hsb hwo HR
            obtain ⟨av, cv, rfl⟩ := HM.out.line.len
            go_upto_region 9 with fail
            clear cs fs
            generalize wr.setCell ⟨ps, b, none⟩ (.bool true) = wm at HM ⊢
            go_wp2_with (at_builtin; go_must (refine wpList_append_line _ rfl _ _ rfl (intsI st.2) (b : Int) (.slice av st.2.length cv) rfl (HM.out.quiet (Keeps.alloc [] _ _)).line.arm ⟨_, 0, none⟩ 1 rfl (cell_one_new _ _ _) (by rw [intsI_len]; omega) ?_; intro g5 off5 cap5 w5 hl5 k5 hat5))
            have HR5 := hid (HM.out.push (Keeps.alloc [] _ _) hl5 k5 hat5)
            clear hl5 k5 hat5 HM
            go_roundw
            case rel => exact ⟨i + 1, _, rfl, by go_num, by omega, hid (by rw [hst.out, hst2.out]; exact HR5.out)⟩
            case measure => simp [intOf]; omega
      · have hst : Box (pushes (avI wo) (noS, []) (nodI N (zs.take (i + 1))) = pushes (avI wo) (noS, []) (nodI N (zs.take i))) := hid (by rw [htk.out, nodI_snoc_out hin])
        clear htk
        by_cases h0 : 0 ≤ z
        · have h1 : ¬ z < (N : Int) := fun h => hin ⟨h0, h⟩
          clear hin
          go_wp2
          go_roundw
          case rel => exact ⟨i + 1, v, rfl, by go_num, by omega, hid (by rw [hst.out]; exact HR.out)⟩
          case measure => simp [intOf]; omega
        · clear hin
          go_wp2
          go_roundw
          case rel => exact ⟨i + 1, v, rfl, by go_num, by omega, hid (by rw [hst.out]; exact HR.out)⟩
          case measure => simp [intOf]; omega
    · obtain rfl : i = zl := by omega
      have hall : zs.take i = zs := by rw [← HZL.out]; exact List.take_length
      rw [hall] at HR
      have HQ := hid (Qu.begin g (avI wo) (nodI N zs))
      have HLT : Box (∀ u, u ∈ (pushes (avI wo) (noS, []) (nodI N zs)).2 → u < N) := hid (pushes_lt (avI wo) (nodI N zs) (noS, []) nodI_lt (by simp))
      have hun : un g (pushes (avI wo) (noS, []) (nodI N zs)).1 + (pushes (avI wo) (noS, []) (nodI N zs)).2.length ≤ N := by
        have h1 := pushes_un (avI wo) g (nodI N zs) (noS, []) (fun x hx => by rw [HN.out]; exact nodI_lt x hx)
        have h2 : un g (noS, ([] : List Nat)).1 + (noS, ([] : List Nat)).2.length ≤ N := by
          have := un_le g noS
          have := HN.out
          show un g noS + 0 ≤ N
          omega
        omega
      clear hall HZ
      go_wp2_with fail
      go_loopg [8] N (fun q lv wr => ∃ (v : Value) (st : (Nat → Bool) × List Nat), v = lv ∧ un g st.1 + st.2.length ≤ q ∧ q ≤ N ∧ Box (RQ w wr ps N v st) ∧ Box (Qu g (avI wo) (nodI N zs) st) ∧ Box (∀ u, u ∈ st.2 → u < N))
      case atStart => exact ⟨v, _, rfl, hun, Nat.le_refl _, HR, HQ, HLT⟩
      case round =>
        clear HR HQ HLT hun
        obtain ⟨v, ⟨s, l⟩, rfl, hq, hqN, HR, HQ, HLT⟩ := hrel
        cases l with
        | nil =>
          obtain ⟨av, cv, rfl⟩ := HR.out.line.len
          have hdone := hid (HQ.out.done rfl)
          go_wp2
          go_ret
          exact ⟨ps, rfl, s, HR.out.row, HR.out.keep, hdone.out⟩
        | cons x l =>
          have hx : x < N := HLT.out x (by simp)
          obtain ⟨g5, off5, cap5, rfl, hline, hb5, hne5⟩ := HR.out.line.resolve_left (fun h => by simp at h)
          have hcell := hline.cell 0 (by rw [intsI_len]; simp)
          rw [Nat.add_zero] at hcell
          have hcell' : wr.cell? ⟨g5, off5, none⟩ = some (.int .i64 (x : Int)) := hcell
          have hlc := hline.len
          have hmx := hline.max
          rw [intsI_len] at hlc
          have hlen : (x :: l).length = l.length + 1 := rfl
          rw [hlen] at hlc
          have hl1 : (1 : Int) ≤ ((l.length + 1 : Nat) : Int) := by omega
          have hrow := hid HR.out.row
          have HK := hid HR.out.keep
          have HQ2 := hid HQ.out.step
          have HLT2 : Box (∀ u, u ∈ l → u < N) := hid (fun u hu => HLT.out u (List.mem_cons_of_mem _ hu))
          have hun2 := pushes_un (avI wo) g (nb g x) (s, l) (fun y hy => HS.out.ok x y hy)
          have hq' : un g s + (l.length + 1) ≤ gk := hq
          have HPO : Box (WLine wr w.heap.size ps (.slice (some ⟨g5, off5 + 1, none⟩) l.length (cap5 - 1)) l) := hid (WLine.pop hline hb5 hne5)
          have HP1 : Box (∀ hc : cap5 = 1, l = [] ∧ WLine wr w.heap.size ps (.slice (some ⟨g5, off5, none⟩) 0 0) []) := hid (fun hc => by subst hc; exact WLine.pop1 hline hb5 hne5)
          obtain ⟨bl, ol, ai, ci, rfl, hcl, hnl⟩ := HG.out.at (k := x) (by rw [HN.out]; exact hx)
          have HCL : Box (∀ w9, Keeps [] w w9 → w9.cell? ⟨bl, ol + x, none⟩ = some (.slice ai (nb g x).length ci)) := hid (fun w9 k9 => by rw [k9.cell (p := ⟨bl, ol + x, none⟩) (block_lt_of_cell hcl) (by simp)]; exact hcl)
          have HNL := hid hnl
          have hnb := HS.out.short x
          have Hnb : Box (∀ y, y ∈ nb g x → y < N) := hid (fun y hy => by rw [← HN.out]; exact HS.out.ok x y hy)
          have hx' : (x : Int) < (N : Int) := by omega
          have hx6 : x < 600 := by omega
          clear hcell hline HR HQ HLT hq hnl hlen hcl
          have hMid : Box (∃ v2, WLine wr w.heap.size ps v2 l ∧ (cap5 = 1 → v2 = .slice (some ⟨g5, off5, none⟩) 0 0) ∧ (cap5 ≠ 1 → v2 = .slice (some ⟨g5, off5 + 1, none⟩) l.length (cap5 - 1))) := hid (by
            by_cases hc : cap5 = 1
            · obtain ⟨rfl, h9⟩ := HP1.out hc
              exact ⟨_, h9, fun _ => rfl, fun h => absurd hc h⟩
            · exact ⟨_, HPO.out, fun h => absurd h hc, fun _ => rfl⟩)
          clear HP1 HPO
          have hlen1 : ((x :: l).length : Nat) = l.length + 1 := rfl
          rw [hlen1]
          clear hlen1
          generalize hNB : nb g x = NB at HCL HNL hnb Hnb hun2 HQ2
          clear hNB
          obtain ⟨ll, hll⟩ : ∃ ll, l.length = ll := ⟨_, rfl⟩
          have HLL := hid hll
          rw [hll] at hlc hl1 hq' ⊢
          have hMid2 := hMid.out
          rw [hll] at hMid2
          obtain ⟨v2, hw2, hv1, hv2⟩ := hMid2
          have R0 : Box (RQ w wr ps N v2 (pushes (avI wo) (s, l) (NB.take 0))) := hid ⟨hrow.out, hw2, HK.out⟩
          clear hll hMid hw2 hrow
          have hcc : (1 : Int) ≤ (cap5 : Int) := by omega
          by_cases hc1 : cap5 = 1
          all_goals
            first
              | (subst hc1
                 obtain rfl : ll = 0 := by omega
                 obtain rfl := hv1 rfl
                 clear hv1 hv2
                 go_upto_region 13 with fail
                 generalize (Value.slice (some ⟨g5, off5, none⟩) 0 0) = v2 at R0 ⊢)
              | (obtain rfl := hv2 hc1
                 clear hv1 hv2
                 go_upto_region 13 with fail
                 generalize (Value.slice (some ⟨g5, off5 + 1, none⟩) ll (cap5 - 1)) = v2 at R0 ⊢)
            clear hcell' hlc hl1 hmx hcc
            go_wp2_with fail
            go_loopw [8, 12] (fun lv kv wr2 => ∃ (k : Nat) (v : Value), v = lv ∧ kv = .int .i64 (k : Int) ∧ k ≤ NB.length ∧ Box (RQ w wr2 ps N v (pushes (avI wo) (s, l) (NB.take k)))) (fun _ kv _ => NB.length - (intOf kv).toNat)
            case atStart => exact ⟨0, v2, rfl, rfl, by omega, R0⟩
            case round =>
              clear R0 HK
              obtain ⟨k, v, rfl, rfl, hk, HR⟩ := hrel
              have cto := HCL.out wr HR.out.keep
              by_cases hlt : k < NB.length
              · have hlt' : (k : Int) < (NB.length : Int) := by omega
                obtain ⟨bm, om, rfl, hcm⟩ := (HNL.out.kept HR.out.keep (by simp)).at hlt
                obtain ⟨b, hb⟩ : ∃ b, NB.getD k 0 = b := ⟨_, rfl⟩
                have hbN : b < N := by rw [← hb]; exact Hnb.out _ (getD_mem NB k 0 hlt)
                have htk := hid (take_snoc NB k 0 hlt)
                rw [hb] at hcm htk
                clear hb
                have hbN' : (b : Int) < (N : Int) := by omega
                have hb6 : b < 600 := by omega
                have hst : Box (pushes (avI wo) (s, l) (NB.take (k + 1)) = push1 (avI wo) (pushes (avI wo) (s, l) (NB.take k)) b) := hid (by rw [htk.out, pushes_snoc])
                have hun := pushes_un (avI wo) g (NB.take k) (s, l) (fun y hy => by rw [HN.out]; exact Hnb.out y (List.mem_of_mem_take hy))
                obtain ⟨st, hste⟩ : ∃ st, pushes (avI wo) (s, l) (NB.take k) = st := ⟨_, rfl⟩
                rw [hste] at HR hst hun
                have hlen : st.2.length ≤ 600 := by
                  have h9 : un g st.1 + st.2.length ≤ un g s + l.length := hun
                  have := HLL.out
                  omega
                have cs := HR.out.row.cell hbN
                unfold bw at cs
                have fs := HR.out.row.frozen b
                clear hun hste htk
                cases hsb : st.1 b with
                | true =>
                  rw [hsb] at cs
                  have hst2 : Box (push1 (avI wo) st b = st) := hid (by unfold push1; rw [if_pos (.inl hsb)])
                  clear hsb
                  go_wp2
                  go_roundw
                  case rel => exact ⟨k + 1, v, rfl, by go_num, by omega, hid (by rw [hst.out, hst2.out]; exact HR.out)⟩
                  case measure => simp [intOf]; omega
                | false =>
                  rw [hsb] at cs
                  by_cases hwo : (b : Int) = wo
                  · have hb1 : ((b : Int) != wo) = false := by rw [hwo]; simp
                    have hst2 : Box (push1 (avI wo) st b = st) := hid (by unfold push1 avI; rw [if_pos (.inr (decide_eq_true hwo))])
                    clear hsb hwo
                    go_wp2
                    go_roundw
                    case rel => exact ⟨k + 1, v, rfl, by go_num, by omega, hid (by rw [hst.out, hst2.out]; exact HR.out)⟩
                    case measure => simp [intOf]; omega
                  · have hb1 : ((b : Int) != wo) = true := by rw [bne_iff_ne]; exact hwo
                    have hst2 : Box (push1 (avI wo) st b = (ins st.1 b, st.2 ++ [b])) := hid (by
                      unfold push1
                      rw [if_neg]
                      rintro (h | h)
                      · rw [hsb] at h; cases h
                      · exact hwo (of_decide_eq_true h))
                    have HM := hid (HR.out.mark b)
                    clear hsb hwo HR
                    obtain ⟨av, cv, rfl⟩ := HM.out.line.len
                    go_upto_region 19 with fail
                    clear cs fs cto hcm
                    generalize wr.setCell ⟨ps, b, none⟩ (.bool true) = wm at HM ⊢
                    go_wp2_with (at_builtin; go_must (refine wpList_append_line _ rfl _ _ rfl (intsI st.2) (b : Int) (.slice av st.2.length cv) rfl (HM.out.quiet (Keeps.alloc [] _ _)).line.arm ⟨_, 0, none⟩ 1 rfl (cell_one_new _ _ _) (by rw [intsI_len]; omega) ?_; intro g6 off6 cap6 w6 hl6 k6 hat6))
                    have HR6 := hid (HM.out.push (Keeps.alloc [] _ _) hl6 k6 hat6)
                    clear hl6 k6 hat6 HM
                    go_roundw
                    case rel => exact ⟨k + 1, _, rfl, by go_num, by omega, hid (by rw [hst.out, hst2.out]; exact HR6.out)⟩
                    case measure => simp [intOf]; omega
              · obtain rfl : k = NB.length := by omega
                rw [List.take_length] at HR
                have HLT3 : Box (∀ u, u ∈ (pushes (avI wo) (s, l) NB).2 → u < N) := hid (pushes_lt (avI wo) NB (s, l) Hnb.out HLT2.out)
                have hq2 : un g (pushes (avI wo) (s, l) NB).1 + (pushes (avI wo) (s, l) NB).2.length ≤ gk - 1 := by
                  have h9 : un g (pushes (avI wo) (s, l) NB).1 + (pushes (avI wo) (s, l) NB).2.length ≤ un g s + l.length := hun2
                  have := HLL.out
                  omega
                go_wp2_with fail
                go_roundg (gk - 1)
                case measure => omega
                case rel => exact ⟨v, _, rfl, hq2, by omega, HR, HQ2, HLT3⟩
end Go.Proofs.YtmebkeidpklcbaaDoor
