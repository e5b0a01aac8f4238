/-
  The statement FrontClosed.
-/
import Derived.Test.YtlnimcpmkammfaaDoorFKit
import Derived.Test.YtlnimcpmkammfaaDoorGPut
import Derived.Laws.AppendOwnNone
import Derived.Deep.DeepCutAuto
import Derived.Deep.CutBlock
import Derived.Deep.AppendLies
namespace Go.Proofs.YtlnimcpmkammfaaDoor
open Go.RowKit

/-- A slice of the numbers l: nil if there are none. -/
def AsV (v : Value) (l : List Nat) : Prop := (l = [] ∧ v = .slice none 0 0) ∨ ∃ g c, 0 < l.length ∧ v = .slice (some ⟨g, 0, none⟩) l.length c
structure ASl (w : World) (v : Value) (l : List Nat) : Prop where
  form : AsV v l
  at_ : ∃ a c, v = .slice a l.length c ∧ IntsAt w a (l.map fun n : Nat => (n : Int)) ∧ ∀ b off, a = some ⟨b, off, none⟩ → b < w.heap.size
theorem ASl.of {w : World} {base : Nat} {v : Value} {l : List Nat} (h : w.ownsRow base 3 1 v l.length (ints l)) (hf : AsV v l) : ASl w v l := by
  refine ⟨hf, ?_⟩
  obtain ⟨a, c, rfl, h2, h3⟩ := ownsRow_ints h
  refine ⟨a, c, rfl, h2, fun b off e => ?_⟩
  rcases hf with ⟨_, h4⟩ | ⟨g, c', h4, h5⟩
  · simp only [Value.slice.injEq] at h4
    rw [h4.1] at e
    cases e
  · subst e
    exact (h.lt b (by simp [Value.ownBlock])).2
theorem ASl.news {w : World} {g c : Nat} {l : List Nat} (h : ASl w (.slice (some ⟨g, 0, none⟩) l.length c) l) (hl : 0 < l.length) : ∀ j u, (ints l)[j]? = some u → w.cell? ((⟨g, 0, none⟩ : Addr).add j) = some u := by
  obtain ⟨a, c, h1, h2, _⟩ := h.at_
  simp only [Value.slice.injEq] at h1
  rw [← h1.1] at h2
  rcases h2 with h3 | ⟨b, off, h4, h5⟩
  · rw [List.map_eq_nil_iff.1 h3] at hl
    simp at hl
  · simp only [Option.some.injEq, Addr.mk.injEq, and_true] at h4
    obtain ⟨rfl, rfl⟩ := h4
    have := vals_at h5
    rw [show vals (l.map fun n : Nat => (n : Int)) = ints l by unfold vals ints; rw [List.map_map]; rfl] at this
    exact this
theorem ints_one (l : List Nat) : ∀ u ∈ ints l, u.oneCell' = true := by
  intro u hu
  unfold ints at hu
  obtain ⟨n, _, rfl⟩ := List.mem_map.1 hu
  rfl
theorem ASl.quiet {w w' : World} {v : Value} {l : List Nat} (h : ASl w v l) (k : Keeps [] w w') : ASl w' v l := by
  refine ⟨h.form, ?_⟩
  obtain ⟨a, c, h1, h2, h3⟩ := h.at_
  exact ⟨a, c, h1, h2.kept k (by simp), fun b off e => Nat.lt_of_lt_of_le (h3 b off e) k.size⟩
/-- Of it. -/
theorem ASl.set {w : World} {v : Value} {l : List Nat} (h : ASl w v l) (hl : l.length ≤ 1000) :
    Calls Tryd.prog 17 #[v] w fun e w' => e = .returned (.pointer (some ⟨w.heap.size, 0, none⟩)) ∧ SetAt w' w.heap.size (ofI (l.map fun n : Nat => (n : Int))) ∧ Keeps [] w w' := by
  obtain ⟨a, c, rfl, h2, _⟩ := h.at_
  have := of_any a c (l.map fun n : Nat => (n : Int)) w h2 (by rw [List.length_map]; omega)
  rw [List.length_map] at this
  exact this
theorem ofN_mem {l : List Nat} {n : Nat} (h : n < 5000) : ofI (l.map fun n : Nat => (n : Int)) n = true ↔ n ∈ l := by
  rw [ofI_mem, decide_eq_true_iff]
  constructor
  · rintro ⟨_, h2⟩
    obtain ⟨m, h3, h4⟩ := List.mem_map.1 h2
    obtain rfl : m = n := by omega
    exact h3
  · intro h2
    exact ⟨h, List.mem_map.2 ⟨n, h2, rfl⟩⟩
theorem ofN_in {l : List Nat} {n : Nat} (h : ofI (l.map fun n : Nat => (n : Int)) n = true) : n ∈ l := by
  rw [ofI_mem, decide_eq_true_iff] at h
  obtain ⟨m, h3, h4⟩ := List.mem_map.1 h.2
  obtain rfl : m = n := by omega
  exact h3
theorem Clo.mono {F : Nat → Nat → Bool} {N : Nat} {S T : Nat → Bool} (h : ∀ n, S n = true → T n = true) {n : Nat} (hc : Clo F N S n) : Clo F N T n :=
  hc.ind (T := fun n => Clo F N T n) (fun a _ h1 h2 h3 => .base (h a h1) h2 h3) (fun _ _ ih h2 h3 => .step ih h2 h3)
theorem Clo.flat {F : Nat → Nat → Bool} {N : Nat} {S T : Nat → Bool} (h : ∀ n, T n = true → Clo F N S n) {n : Nat} (hc : Clo F N T n) : Clo F N S n :=
  hc.ind (T := fun n => Clo F N S n) (fun a _ h1 h2 h3 => .step (h a h1) h2 h3) (fun _ _ ih h2 h3 => .step ih h2 h3)
theorem Clo.some {F : Nat → Nat → Bool} {N : Nat} {S : Nat → Bool} {n : Nat} (hc : Clo F N S n) : ∃ a, a < N ∧ F a n = true :=
  hc.ind (T := fun n => ∃ a, a < N ∧ F a n = true) (fun a _ _ h2 h3 => ⟨a, h2, h3⟩) (fun a _ _ h2 h3 => ⟨a, h2, h3⟩)

set_option maxRecDepth 20000 in
set_option maxHeartbeats 8000000 in
theorem frontClosed_law (n : Int) (pa : Option Addr) (cap : Nat) (zs : List (Int × Int)) (a2 : Option Addr) (cap2 : Nat) (fs : List Int) (a3 : Option Addr) (cap3 : Nat) (ms : List Int) (w : World) (hT : TabAt w) (hz : PairsAt w pa zs) (hl : zs.length ≤ maxLen) (hz2 : IntsAt w a2 fs) (hl2 : fs.length ≤ maxLen) (_ : fs.length ≤ cap2) (hz3 : IntsAt w a3 ms) (hl3 : ms.length ≤ maxLen) (_ : ms.length ≤ cap3) :
    Calls Tryd.prog 5 #[.int .i64 n, .slice pa zs.length cap, .slice a2 fs.length cap2, .slice a3 ms.length cap3] w fun e w' => e = .returned (.bool true) ∧ Keeps [] w w' := by
  have HBG := hid (begun7_any w hT)
  have HTT := hid (fun wz (k : Keeps [] w wz) => tabq hT k)
  obtain ⟨N, g, L, hN2, hN1, hgl, hsm, hgd, hnn, hmd⟩ := made_pack n zs hl
  have HMD := hid (fun wz (k : Keeps [] w wz) => hmd pa cap wz (hz.kept k (fun _ _ _ => by simp)))
  have HS := hid hsm
  have HGD := hid hgd
  have HN := hid hgl
  have h0g : 0 < g.length := by omega
  have HOF := hid (fun bx p B wz (h : LG w wz bx p B g) => fof_in g hsm (some ⟨p, 0, none⟩) g.length B 0 wz h.gr h.le h0g)
  have HZ2 := hid hz2
  have HZ3 := hid hz3
  obtain ⟨fl, hfl⟩ : ∃ fl, fs.length = fl := ⟨_, rfl⟩
  obtain ⟨ml, hml⟩ : ∃ ml, ms.length = ml := ⟨_, rfl⟩
  have HFL := hid hfl
  have HML := hid hml
  rw [hgl] at HOF
  rw [show (((0 : Nat) : Int)) = (0 : Int) from rfl] at HOF
  rw [hfl] at hl2
  rw [hml] at hl3
  rw [hfl, hml]
  clear hz hl hmd hsm hgd hgl hnn h0g hT hz2 hz3 hfl hml
  generalize zs.length = zl at HMD
  unfold maxLen at hl2 hl3
  go_enter Tryd.func5, Tryd.ntmps5
  go_wp2_with fail
  refine HBG.out.mono ?_
  rintro e w1 ⟨rfl, k1⟩
  clear HBG
  go_wp2_with fail
  refine (HMD.out w1 k1).mono ?_
  rintro e w2 ⟨p, vs, rfl, ho2, k2⟩
  have L3 := hid (LG.make ho2 (k1.quiet k2))
  rw [← HGD.out] at L3
  clear ho2 k2 k1 HMD HGD
  go_upto_region 5 with fail
  generalize w2.alloc (Obj.cells #[.int .i64 (N : Int), .slice (some ⟨p, 0, none⟩) N N] 27) = w3 at L3 ⊢
  obtain ⟨B, hB⟩ : ∃ B, w2.heap.size + 1 = B := ⟨_, rfl⟩
  rw [hB] at L3
  generalize w2.heap.size = bx at L3 ⊢
  clear hB
  have t3 := L3.out.two
  rw [HN.out] at t3
  have c0 := t3.c0
  have c1 := t3.c1
  clear t3
  go_wp2_with fail
  refine (HOF.out bx p B w3 L3.out).mono ?_
  rintro e w4 ⟨pf, q, F, rfl, m4, hF4, k4⟩
  have L4 : Box (LF w w4 bx p B N g w3.heap.size pf q F) := hid ⟨L3.out.quiet k4, m4, HN.out⟩
  have HF := hid hF4
  generalize w3.heap.size = base at L4
  clear m4 hF4 k4 L3 c0 c1 HOF
  go_upto_block 0 with fail
  go_cut [12] (fun t wz => ∃ (v : Value) (l : List Nat), v = t ∧ Box (ASl wz v l) ∧ Box (l.length ≤ 8 ∧ ∀ x, x ∈ l → x < N) ∧ Box (Keeps [] w4 wz))
  case first =>
    go_wp2_with fail
    have R0 : Box (w4.ownsRow w4.heap.size 3 1 (.slice none 0 0) 0 (ints [])) := hid (nil_row _ _)
    go_loopw [12, 14] (fun lv iv wr => ∃ (i : Nat) (l : List Nat) (v : Value), v = lv ∧ iv = .int .i64 (i : Int) ∧ i ≤ fl ∧ i ≤ 8 ∧ Box (l.length = i ∧ (∀ x, x ∈ l → x < N) ∧ AsV v l) ∧ Box (wr.ownsRow w4.heap.size 3 1 v i (ints l)) ∧ Box (Keeps [] w4 wr)) (fun _ iv _ => 8 - (intOf iv).toNat)
    case atStart => exact ⟨0, [], _, rfl, rfl, by omega, by omega, hid ⟨rfl, by simp, .inl ⟨rfl, rfl⟩⟩, R0, hid (Keeps.refl _ _)⟩
    case round =>
      clear R0
      obtain ⟨i, l, v, rfl, rfl, hif, hi8, HL, HR, HK⟩ := hrel
      by_cases h1 : i < fl
      · by_cases h2 : i < 8
        · have h1' : (i : Int) < (fl : Int) := by omega
          have h2' : (i : Int) < 8 := by omega
          obtain ⟨bz, oz, rfl, hcz⟩ := (HZ2.out.kept (L4.out.lg.keep.quiet HK.out) (by simp)).resolve_left (by intro e; rw [e] at HFL; have := HFL.out; simp at this; omega)
          have cz := hcz i (by rw [HFL.out]; exact h1)
          generalize fs.getD i 0 = z at cz
          have c0 := (L4.out.quiet HK.out).c0
          have hzN : (IntKind.i64.wrap (Int.tmod z (N : Int) + (N : Int))).tmod (N : Int) = (nd N z : Int) := by rw [IntWalk.i64_left]; exact node_num z N hN1 (by omega)
          have hyN := nd_lt hN1 z
          generalize nd N z = y at hzN hyN
          have HZN := hid hzN
          have hN0 : ¬ N = 0 := by omega
          have hwz := HK.out.size
          have HL2 : Box ((l ++ [y]).length = i + 1 ∧ ∀ x, x ∈ l ++ [y] → x < N) := hid ⟨by rw [List.length_append, HL.out.1]; rfl, fun x hx => by
            rcases List.mem_append.1 hx with h | h
            · exact HL.out.2.1 x h
            · rw [List.mem_singleton.1 h]; exact hyN⟩
          have HIL : Box (ints (l ++ [y]) = ints l ++ [.int .i64 (y : Int)]) := hid (by unfold ints; rw [List.map_append]; rfl)
          clear hcz hzN
          go_upto_region 10 with fail
          go_region_law (refine step_append_lies _ (by rfl) _ _ _ (by rfl) w4.heap.size 3 Tryd.t3 (.int .i64 0) 1 8 under_ints info_int zero_int size_int bytes_int rfl (by decide) v i (ints l) (by rfl) (HR.out.alloc _) ⟨wr.heap.size, 0, none⟩ 1 1 [.int .i64 ((IntKind.i64.wrap (Int.tmod z (N : Int) + (N : Int))).tmod (N : Int))] (by rfl) (by rfl) (World.news_of_block (cs := #[.int .i64 ((IntKind.i64.wrap (Int.tmod z (N : Int) + (N : Int))).tmod (N : Int))]) (t := 3) (fr := (0, 0)) (heap_alloc_new wr _)) (by simp [Value.oneCell']) (by omega) (by unfold maxLen; omega) (by omega) (by simp; omega) (wr.heap.size + 1) (by simp) ?_; intro g5 cap5 w5 hown5 hgrow5 hat5 hlt5; have K5 := hid ((HK.out.quiet ((Keeps.alloc [] _ _).quiet (Keeps.drew [] _))).appended HR.out hgrow5 (Nat.le_refl _)); rw [HZN.out, ← HIL.out] at hown5; have O5 := hid hown5; clear hown5 hgrow5 hat5 hlt5)
          all_goals
            clear cz c0
            go_wp2
            go_roundw
            case rel => exact ⟨i + 1, l ++ [y], _, rfl, by go_num, by omega, by omega, hid ⟨HL2.out.1, HL2.out.2, .inr ⟨g5, cap5, by rw [HL2.out.1]; omega, by rw [HL2.out.1]⟩⟩, O5, K5⟩
            case measure => simp [intOf]; omega
        · obtain rfl : i = 8 := by omega
          have h1' : ((8 : Nat) : Int) < (fl : Int) := by omega
          have E5 : Box (ASl wr v l) := hid (ASl.of (by rw [HL.out.1]; exact HR.out) HL.out.2.2)
          go_wp2_with fail
          go_meet
          exact ⟨v, l, rfl, E5, hid ⟨by rw [HL.out.1]; omega, HL.out.2.1⟩, HK⟩
      · obtain rfl : i = fl := by omega
        have E5 : Box (ASl wr v l) := hid (ASl.of (by rw [HL.out.1]; exact HR.out) HL.out.2.2)
        go_wp2_with fail
        go_meet
        exact ⟨v, l, rfl, E5, hid ⟨by rw [HL.out.1]; omega, HL.out.2.1⟩, HK⟩
  case rest =>
    obtain ⟨v, l, rfl, A5, HL, K5⟩ := hcut
    have L5 := hid (L4.out.quiet K5.out)
    generalize wc = w5 at A5 K5 L5 ⊢
    clear L4 K5 hl2 HZ2 HFL
    go_upto_region 11 with fail
    go_cut [13] (fun t wz => ∃ (v6 : Value), v6 = t ∧ Box (AsV v6 l) ∧ Box (wz.ownsRow w5.heap.size 3 1 v6 l.length (ints l)) ∧ Box (Keeps [] w5 wz))
    case first =>
      rcases A5.out.form with ⟨hl0, hv⟩ | ⟨ga, ca, hpos, hv⟩
      · subst hv hl0
        have hnr := nil_row w5 w5.heap.size
        go_wp2_with (at_builtin; go_must (refine wpList_append_own_none rfl _ _ 23 rfl w5.heap.size 3 Tryd.t3 1 under_ints info_int (.slice none 0 0) 0 [] rfl hnr rfl ?_))
        go_meet
        exact ⟨_, rfl, hid (.inl ⟨rfl, rfl⟩), hid hnr, hid (Keeps.refl _ _)⟩
      · subst hv
        have hnw := hid (A5.out.news hpos)
        have hone := hid (ints_one l)
        have hil := hid (show (ints l).length = l.length * 1 by unfold ints; rw [List.length_map, Nat.mul_one])
        have hl8 := HL.out.1
        have HPOS := hid hpos
        have hz5 : 0 + l.length = l.length := Nat.zero_add _
        go_wp2_with (at_builtin; go_must (refine wpList_append_lies _ rfl _ _ 23 rfl w5.heap.size 3 Tryd.t3 (.int .i64 0) 1 8 under_ints info_int zero_int size_int bytes_int rfl (by decide) (.slice none 0 0) 0 [] rfl (nil_row w5 w5.heap.size) ⟨ga, 0, none⟩ l.length ca (ints l) rfl hil.out hnw.out hone.out HPOS.out (by unfold maxLen; omega) (by omega) (Nat.le_refl _) w5.heap.size rfl ?_; intro g6 cap6 w6 hown6 hgrow6 hat6 hlt6))
        have K6 := hid ((Keeps.refl [] w5).appended (nil_row w5 w5.heap.size) hgrow6 (Nat.le_refl _))
        have R6 : Box (w6.ownsRow w5.heap.size 3 1 (.slice (some ⟨g6, 0, none⟩) l.length cap6) l.length (ints l)) := hid (by rw [Nat.zero_add, List.nil_append] at hown6; exact hown6)
        clear hown6 hgrow6 hat6 hlt6
        go_meet
        exact ⟨_, rfl, hid (.inr ⟨g6, cap6, HPOS.out, rfl⟩), R6, K6⟩
    case rest =>
      obtain ⟨v6, rfl, F6, R6, K6⟩ := hcut
      obtain ⟨ln, hln⟩ : ∃ ln, l.length = ln := ⟨_, rfl⟩
      have HLN := hid hln
      have hln8 : ln ≤ 8 := by rw [← hln]; exact HL.out.1
      clear hln
      generalize wc = w6 at R6 K6 ⊢
      go_upto_block 2 with fail
      go_cut [13] (fun t wz => ∃ (v2 : Value) (l2 : List Nat), v2 = t ∧ Box (ASl wz v2 l2) ∧ Box (l2.length ≤ 16 ∧ (∀ x, x ∈ l2 → x < N) ∧ ∀ x, x ∈ l → x ∈ l2) ∧ Box (Keeps [] w5 wz))
      case first =>
        go_wp2_with fail
        go_loopw [13, 15] (fun lv iv wr => ∃ (i : Nat) (l2 : List Nat) (v2 : Value), v2 = lv ∧ iv = .int .i64 (i : Int) ∧ i ≤ ml ∧ i ≤ 8 ∧ Box (l2.length = ln + i ∧ (∀ x, x ∈ l2 → x < N) ∧ AsV v2 l2 ∧ ∀ x, x ∈ l → x ∈ l2) ∧ Box (wr.ownsRow w5.heap.size 3 1 v2 (ln + i) (ints l2)) ∧ Box (Keeps [] w5 wr)) (fun _ iv _ => 8 - (intOf iv).toNat)
        case atStart => exact ⟨0, l, v6, rfl, rfl, by omega, by omega, hid ⟨HLN.out, HL.out.2, F6.out, fun x hx => hx⟩, by rw [HLN.out] at R6; exact R6, K6⟩
        case round =>
          clear R6 K6 F6
          obtain ⟨i, l2, v2, rfl, rfl, hif, hi8, HL2, HR, HK⟩ := hrel
          by_cases h1 : i < ml
          · by_cases h2 : i < 8
            · have h1' : (i : Int) < (ml : Int) := by omega
              have h2' : (i : Int) < 8 := by omega
              obtain ⟨bz, oz, rfl, hcz⟩ := (HZ3.out.kept (L5.out.lg.keep.quiet HK.out) (by simp)).resolve_left (by intro e; rw [e] at HML; have := HML.out; simp at this; omega)
              have cz := hcz i (by rw [HML.out]; exact h1)
              generalize ms.getD i 0 = z at cz
              have c0 := (L5.out.quiet HK.out).c0
              have hzN : (IntKind.i64.wrap (Int.tmod z (N : Int) + (N : Int))).tmod (N : Int) = (nd N z : Int) := by rw [IntWalk.i64_left]; exact node_num z N hN1 (by omega)
              have hyN := nd_lt hN1 z
              generalize nd N z = y at hzN hyN
              have HZN := hid hzN
              have hN0 : ¬ N = 0 := by omega
              have hwz := HK.out.size
              have HL3 : Box ((l2 ++ [y]).length = ln + i + 1 ∧ ∀ x, x ∈ l2 ++ [y] → x < N) := hid ⟨by rw [List.length_append, HL2.out.1]; rfl, fun x hx => by
                rcases List.mem_append.1 hx with h | h
                · exact HL2.out.2.1 x h
                · rw [List.mem_singleton.1 h]; exact hyN⟩
              have HIL : Box (ints (l2 ++ [y]) = ints l2 ++ [.int .i64 (y : Int)]) := hid (by unfold ints; rw [List.map_append]; rfl)
              clear hcz hzN
              go_upto_region 15 with fail
              go_region_law (refine step_append_lies _ (by rfl) _ _ _ (by rfl) w5.heap.size 3 Tryd.t3 (.int .i64 0) 1 8 under_ints info_int zero_int size_int bytes_int rfl (by decide) v2 (ln + i) (ints l2) (by rfl) (HR.out.alloc _) ⟨wr.heap.size, 0, none⟩ 1 1 [.int .i64 ((IntKind.i64.wrap (Int.tmod z (N : Int) + (N : Int))).tmod (N : Int))] (by rfl) (by rfl) (World.news_of_block (cs := #[.int .i64 ((IntKind.i64.wrap (Int.tmod z (N : Int) + (N : Int))).tmod (N : Int))]) (t := 3) (fr := (0, 0)) (heap_alloc_new wr _)) (by simp [Value.oneCell']) (by omega) (by unfold maxLen; omega) (by omega) (by simp; omega) (wr.heap.size + 1) (by simp) ?_; intro g5 cap5 w5 hown5 hgrow5 hat5 hlt5; have K9 := hid ((HK.out.quiet ((Keeps.alloc [] _ _).quiet (Keeps.drew [] _))).appended HR.out hgrow5 (Nat.le_refl _)); rw [HZN.out, ← HIL.out] at hown5; have O5 := hid hown5; clear hown5 hgrow5 hat5 hlt5)
              all_goals
                clear cz c0
                go_wp2
                go_roundw
                case rel => exact ⟨i + 1, l2 ++ [y], _, rfl, by go_num, by omega, by omega, hid ⟨HL3.out.1, HL3.out.2, .inr ⟨g5, cap5, by rw [HL3.out.1]; omega, by rw [HL3.out.1]⟩, fun x hx => List.mem_append_left _ (HL2.out.2.2.2 x hx)⟩, O5, K9⟩
                case measure => simp [intOf]; omega
            · obtain rfl : i = 8 := by omega
              have h1' : ((8 : Nat) : Int) < (ml : Int) := by omega
              have E5 : Box (ASl wr v2 l2) := hid (ASl.of (by rw [HL2.out.1]; exact HR.out) HL2.out.2.2.1)
              go_wp2_with fail
              go_meet
              exact ⟨v2, l2, rfl, E5, hid ⟨by rw [HL2.out.1]; have := HL.out.1; have := HLN.out; omega, HL2.out.2.1, HL2.out.2.2.2⟩, HK⟩
          · obtain rfl : i = ml := by omega
            have E5 : Box (ASl wr v2 l2) := hid (ASl.of (by rw [HL2.out.1]; exact HR.out) HL2.out.2.2.1)
            go_wp2_with fail
            go_meet
            exact ⟨v2, l2, rfl, E5, hid ⟨by rw [HL2.out.1]; have := HL.out.1; have := HLN.out; omega, HL2.out.2.1, HL2.out.2.2.2⟩, HK⟩
      case rest =>
        obtain ⟨v2, l2, rfl, B6, HL2, K7⟩ := hcut
        have A6 := hid (A5.out.quiet K7.out)
        have L6 := hid (L5.out.quiet K7.out)
        generalize wc = w7 at A6 B6 L6 K7 ⊢
        clear A5 L5 R6 K6 F6 HLN hln8 hl3 HZ3 HML K7
        have HLL := hid HL.out.1
        have HSA : Box (∀ n, ofI (l.map fun n : Nat => (n : Int)) n = true → n < N) := hid (fun n h => HL.out.2 n (ofN_in h))
        have HSB : Box (∀ n, ofI (l.map fun n : Nat => (n : Int)) n = true → ofI (l2.map fun n : Nat => (n : Int)) n = true) := hid (fun n h => (ofN_mem (by have := HSA.out n h; omega)).2 (HL2.out.2.2 n (ofN_in h)))
        have HOA := hid (fun wz (h : ASl wz v l) => h.set (by have := HL.out.1; omega))
        have HOB := hid (fun wz (h : ASl wz v2 l2) => h.set (by have := HL2.out.1; omega))
        have HFA := hid (fit_ofI (l.map fun n : Nat => (n : Int)))
        have HFB := hid (fit_ofI (l2.map fun n : Nat => (n : Int)))
        generalize ofI (l.map fun n : Nat => (n : Int)) = SA at HSA HSB HOA HFA
        generalize ofI (l2.map fun n : Nat => (n : Int)) = SB at HSB HOB HFB
        have HCL := hid (fun bs S wz (h : LF w wz bx p B N g base pf q F) hs hf => closure_any base pf N q F bs S wz h.fm hs hf (HTT.out wz h.lg.keep))
        have HO1 := hid (HOA.out w7 A6.out)
        go_wp2_with fail
        refine HO1.out.mono ?_
        rintro e w8 ⟨rfl, s8, k8⟩
        have L8 := hid (L6.out.quiet k8)
        have A8 := hid (A6.out.quiet k8)
        have B8 := hid (B6.out.quiet k8)
        have HC8 := hid (HCL.out w7.heap.size SA w8 L8.out s8 HFA.out)
        clear s8 k8 A6 B6 L6 HO1
        go_wp2_with fail
        refine HC8.out.mono ?_
        rintro e w9 ⟨s, rfl, s9, f9, h9, k9⟩
        have L9 := hid (L8.out.quiet k9)
        have A9 := hid (A8.out.quiet k9)
        have B9 := hid (B8.out.quiet k9)
        have S9 := hid s9
        have FS := hid f9
        have HS9 := hid h9
        generalize w8.heap.size = bS at S9 ⊢
        have HO2 := hid (HOB.out w9 B9.out)
        clear s9 f9 h9 k9 A8 B8 L8 HC8
        go_wp2_with fail
        refine HO2.out.mono ?_
        rintro e w10 ⟨rfl, s10, k10⟩
        have L10 := hid (L9.out.quiet k10)
        have A10 := hid (A9.out.quiet k10)
        have S10 := hid (S9.out.kept k10 (by simp))
        have HC10 := hid (HCL.out w9.heap.size SB w10 L10.out s10 HFB.out)
        clear s10 k10 A9 B9 L9 S9 HO2
        go_wp2_with fail
        refine HC10.out.mono ?_
        rintro e w11 ⟨t, rfl, s11, f11, h11, k11⟩
        have L11 := hid (L10.out.quiet k11)
        have A11 := hid (A10.out.quiet k11)
        have S11 := hid (S10.out.kept k11 (by simp))
        have hst : subI s t = true := (subI_iff s t FS.out).2 fun n hn => (h11 n).2 (((HS9.out n).1 hn).mono HSB.out)
        have HI1 := hid (in_any bS w10.heap.size s t w11 S11.out s11 FS.out)
        rw [hst] at HI1
        clear hst s11 f11 h11 k11 A10 L10 S10 HC10
        go_wp2_with fail
        refine HI1.out.mono ?_
        rintro e w11' ⟨rfl, hw11⟩
        rw [hw11]
        have HC11 := hid (HCL.out bS s w11 L11.out S11.out FS.out)
        clear hw11 HI1
        go_wp2_with fail
        refine HC11.out.mono ?_
        rintro e w12 ⟨u, rfl, s12, f12, h12, k12⟩
        have L12 := hid (L11.out.quiet k12)
        have A12 := hid (A11.out.quiet k12)
        have S12 := hid (S11.out.kept k12 (by simp))
        have hus : subI u s = true := (subI_iff u s f12).2 fun n hn => (HS9.out n).2 (((h12 n).1 hn).flat fun m hm => (HS9.out m).1 hm)
        have HI2 := hid (in_any w11.heap.size bS u s w12 s12 S12.out f12)
        rw [hus] at HI2
        clear hus s12 f12 h12 k12 A11 L11 S11 HC11
        go_wp2_with fail
        refine HI2.out.mono ?_
        rintro e w12' ⟨rfl, hw12⟩
        rw [hw12]
        have HO3 := hid (HOA.out w12 A12.out)
        clear hw12 HI2
        go_wp2_with fail
        refine HO3.out.mono ?_
        rintro e w13 ⟨rfl, s13, k13⟩
        have S13 := hid (S12.out.kept k13 (by simp))
        have hJ : Calls Tryd.prog 22 #[.pointer (some ⟨w12.heap.size, 0, none⟩), .pointer (some ⟨bS, 0, none⟩)] w13 _ := join_any w12.heap.size (some bS) SA s w13 s13 S13.out HFA.out FS.out
        have HJ := hid hJ
        have K13 := hid k13
        have hbs := S12.out.lt
        clear hJ s13 k13 HO3
        go_wp2_with fail
        refine HJ.out.mono ?_
        rintro e w14 ⟨rfl, s14, k14⟩
        have K14 := hid (K13.out.fresh k14 (by simp))
        have L14 := hid (L12.out.quiet K14.out)
        have S14 := hid (S12.out.kept K14.out (by simp))
        have HAL := hid (all_any w12.heap.size (both or SA s) w14 s14 (fit_both or _ _ HFA.out FS.out rfl) (HTT.out w14 L14.out.lg.keep))
        have HEL : Box (∀ x, x ∈ elems (both or SA s) → x < N ∧ ∀ n, F x n = true → s n = true) := hid (fun x hx => by
          have h1 : (SA x || s x) = true := (mem_elems (fit_both or _ _ HFA.out FS.out rfl)).1 hx
          rw [Bool.or_eq_true] at h1
          rcases h1 with h1 | h1
          · have h2 := HSA.out x h1
            exact ⟨h2, fun n hn => (HS9.out n).2 (.base h1 h2 hn)⟩
          · have h2 := (HS9.out x).1 h1
            obtain ⟨a, _, h4⟩ := h2.some
            have h5 : x < N := by rw [← HN.out]; exact ((HF.out a x).1 h4).lt HS.out.ok
            exact ⟨h5, fun n hn => (HS9.out n).2 (.step h2 h5 hn)⟩)
        have hel : (elems (both or SA s)).length ≤ 5000 := pre_len _ 5000
        obtain ⟨el, hee⟩ : ∃ el, elems (both or SA s) = el := ⟨_, rfl⟩
        rw [hee] at HAL HEL hel
        clear hee s14 k14 K13 K14 A12 L12 S12 S13 HJ
        go_wp2_with fail
        refine HAL.out.mono ?_
        rintro e w15 ⟨va, rfl, own15, k15⟩
        obtain ⟨al, cl, rfl, hl15, _⟩ := ownsRow_ints own15
        have HL15 := hid hl15
        have L15 := hid (L14.out.quiet k15)
        have S15 := hid (S14.out.kept k15 (by simp))
        obtain ⟨ell, hell⟩ : ∃ ell, el.length = ell := ⟨_, rfl⟩
        have HEE := hid hell
        rw [hell] at hel ⊢
        clear own15 hl15 k15 L14 S14 HAL hell
        go_wp2_with fail
        have K0 := hid (Keeps.refl [] w15)
        go_loopw [20] (fun jv wr => ∃ j : Nat, jv = .int .i64 (j : Int) ∧ j ≤ ell ∧ Box (Keeps [] w15 wr)) (fun jv _ => ell - (intOf jv).toNat)
        case atStart => exact ⟨0, rfl, by omega, K0⟩
        case round =>
          clear K0
          obtain ⟨j, rfl, hj, HK⟩ := hrel
          by_cases hjl : j < ell
          · have hjl' : (j : Int) < (ell : Int) := by omega
            have hjl2 : j < el.length := by rw [HEE.out]; exact hjl
            obtain ⟨bl, ol, hal, hcl⟩ : ∃ bl ol, al = some ⟨bl, ol, none⟩ ∧ wr.cell? ⟨bl, ol + j, none⟩ = some (.int .i64 ((el.getD j 0 : Nat) : Int)) := by
              rcases HL15.out.kept HK.out (by simp) with h | ⟨bl, ol, h1, h2⟩
              · have : el = [] := List.map_eq_nil_iff.1 h
                rw [this] at hjl2
                simp at hjl2
              · refine ⟨bl, ol, h1, ?_⟩
                have := h2 j (by rw [List.length_map]; exact hjl2)
                rw [this]
                simp [List.getD_eq_getElem?_getD, List.getElem?_map, List.getElem?_eq_getElem hjl2]
            subst hal
            obtain ⟨hxN, hxs⟩ := HEL.out _ (getD_mem el j 0 hjl2)
            obtain ⟨x, hx⟩ : ∃ x, el.getD j 0 = x := ⟨_, rfl⟩
            rw [hx] at hcl hxN hxs
            have hxN' : (x : Int) < (N : Int) := by omega
            have LR := L15.out.quiet HK.out
            have cq := LR.fm.cell hxN
            have HIN := hid (in_any (q x) bS (F x) s wr (LR.fm.set x hxN) (S15.out.kept HK.out (by simp)) (LR.fm.fit x hxN))
            rw [(subI_iff (F x) s (LR.fm.fit x hxN)).2 hxs] at HIN
            clear hx hjl2 hxs LR
            go_wp2_with fail
            refine HIN.out.mono ?_
            rintro e w16 ⟨rfl, hw16⟩
            rw [hw16]
            clear hw16 HIN
            go_wp2
            go_roundw
            case rel => exact ⟨j + 1, by go_num, by omega, HK⟩
            case measure => simp [intOf]; omega
          · obtain rfl : j = ell := by omega
            have KE := hid (L15.out.lg.keep.quiet HK.out)
            go_wp2
            go_ret
            exact ⟨rfl, KE.out⟩
end Go.Proofs.YtlnimcpmkammfaaDoor
