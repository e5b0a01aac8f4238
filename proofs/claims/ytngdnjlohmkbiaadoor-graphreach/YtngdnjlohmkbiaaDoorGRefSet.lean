/-
  Contracts: the statements' own Set and Loops.
-/
import Derived.Test.YtngdnjlohmkbiaaDoorGRchPl
namespace Go.Proofs.YtngdnjlohmkbiaaDoor
open Go.RowKit

set_option maxRecDepth 20000 in
set_option maxHeartbeats 4000000 in
theorem rset_any (ps N : Nat) (s : Nat → Bool) (w : World) (hs : ∀ i, i < N → w.cell? ⟨ps, i, none⟩ = some (.bool (s i))) (hN : N ≤ 600) :
    Calls Tryd.prog 14 #[.slice (some ⟨ps, 0, none⟩) N N] w fun e w' => ∃ v, e = .returned v ∧ w'.ownsRow w.heap.size 3 1 v ((List.range N).filter s).length (ints ((List.range N).filter s)) ∧ Keeps [] w w' := by
  have HS := hid hs
  have hps : N = 0 ∨ ps < w.heap.size := by
    by_cases e : N = 0
    · exact .inl e
    · exact .inr (block_lt_of_cell (hs 0 (by omega)))
  have HP := hid hps
  clear hs hps
  go_enter Tryd.func14, Tryd.ntmps14
  go_wp2_with fail
  go_loopw [3, 4] (fun ov iv wr => ∃ (i : Nat) (v : Value), v = ov ∧ iv = .int .i64 (i : Int) ∧ i ≤ N ∧ Box (wr.ownsRow w.heap.size 3 1 v ((List.range i).filter s).length (ints ((List.range i).filter s))) ∧ Box (Keeps [] w wr)) (fun _ iv _ => N - (intOf iv).toNat)
  case atStart => exact ⟨0, _, rfl, rfl, by omega, hid (nil_row _ _), hid (Keeps.refl _ _)⟩
  case round =>
    obtain ⟨i, v, rfl, rfl, hi, HO, HK⟩ := hrel
    by_cases hlt : i < N
    · have hlt' : (i : Int) < (N : Int) := by omega
      have hc := HS.out i hlt
      have cs : wr.cell? ⟨ps, i, none⟩ = some (.bool (s i)) := by
        rw [HK.out.cell (p := ⟨ps, i, none⟩) (block_lt_of_cell hc) (by simp)]
        exact hc
      have hrs : Box (List.range (i + 1) = List.range i ++ [i]) := hid List.range_succ
      have hll : ((List.range i).filter s).length ≤ i := by
        have := List.length_filter_le s (List.range i)
        rw [List.length_range] at this
        exact this
      cases hsi : s i with
      | false =>
        rw [hsi] at cs
        have HO2 : Box (wr.ownsRow w.heap.size 3 1 v ((List.range (i + 1)).filter s).length (ints ((List.range (i + 1)).filter s))) := hid (by
          rw [hrs.out, List.filter_append]
          have e : [i].filter s = [] := by simp [hsi]
          rw [e, List.append_nil]
          exact HO.out)
        clear hsi hc HO
        go_wp2
        go_roundw
        case rel => exact ⟨i + 1, v, rfl, by go_num, by omega, HO2, HK⟩
        case measure => simp [intOf]; omega
      | true =>
        rw [hsi] at cs
        have hws := HK.out.size
        have hfl : Box ((List.range (i + 1)).filter s = (List.range i).filter s ++ [i]) := hid (by rw [hrs.out, List.filter_append]; simp [hsi])
        clear hsi hc
        generalize (List.range i).filter s = l at HO hll hfl
        obtain ⟨ll, hle⟩ : ∃ ll, l.length = ll := ⟨_, rfl⟩
        rw [hle] at HO hll
        have HLL := hid hle
        clear hle
        go_wp2_with (at_builtin; go_must (refine wpList_append_own _ rfl _ _ 23 rfl w.heap.size 3 Tryd.t3 (.int .i64 0) 1 8 under_ints info_int zero_int size_int bytes_int rfl (by decide) v _ _ rfl (HO.out.alloc _) _ 1 1 [.int .i64 (i : Int)] rfl rfl (cell_one_new _ _ _) (fun x hx => by simp at hx; subst hx; rfl) (by unfold maxLen; omega) (by omega) (by simp; omega) ?_; intro v8 w8 hown8 hgrow8 hnil8))
        have HO8 : Box (w8.ownsRow w.heap.size 3 1 v8 ((List.range (i + 1)).filter s).length (ints ((List.range (i + 1)).filter s))) := hid (by
          rw [hfl.out, List.length_append, HLL.out, show ints (l ++ [i]) = ints l ++ [.int .i64 (i : Int)] from by simp [ints]]
          exact hown8)
        have k8 := hid ((HK.out.quiet (Keeps.alloc [] _ _)).fresh (Keeps.grown v.ownBlock.toList hgrow8 (fun y hy => by rw [hy]; simp)) (own_new HO.out))
        clear hown8 hgrow8 hnil8
        go_roundw
        case rel => exact ⟨i + 1, v8, rfl, by go_num, by omega, HO8, k8⟩
        case measure => simp [intOf]; omega
    · obtain rfl : i = N := by omega
      go_wp2
      go_ret
      exact ⟨_, rfl, HO.out, HK.out⟩

theorem nodI_nat {N : Nat} {l : List Nat} (h : ∀ x, x ∈ l → x < N) (u : Nat) : u ∈ nodI N (intsI l) ↔ u ∈ l := by
  rw [mem_nodI]
  unfold intsI
  constructor
  · rintro ⟨h1, _⟩
    obtain ⟨x, hx, e⟩ := List.mem_map.1 h1
    rw [show u = x by omega]
    exact hx
  · intro h1
    exact ⟨List.mem_map.2 ⟨u, h1, rfl⟩, h u h1⟩

theorem avI_no : avI (-1) = noS := by
  funext m
  unfold avI noS
  exact decide_eq_false (by omega)

set_option maxRecDepth 20000 in
set_option maxHeartbeats 4000000 in
theorem rloops_any (g : List (List Nat)) (hs : Sm g) (a : Option Addr) (cap B : Nat) (w : World) (hG : GAt w B a g) :
    Calls Tryd.prog 17 #[.slice a g.length cap] w fun e w' => ∃ v, e = .returned v ∧ w'.ownsRow w.heap.size 3 1 v ((List.range g.length).filter (loopS g (sccs g))).length (ints ((List.range g.length).filter (loopS g (sccs g)))) ∧ Keeps [] w w' := by
  have HG := hid hG
  have HS := hid hs
  have hN := hs.len
  have HLI := hid (fun x (hx : x < g.length) => loop_iff hs.ok hx)
  have HRE := hid (fun wz (k : Keeps [] w wz) af c zs (hz : InAt wz B af zs) (hl : zs.length ≤ 1000) => rreach_any g hs a cap B wz (hG.quiet k) af c B zs hz hl (-1))
  generalize hss : loopS g (sccs g) = s at HLI ⊢
  obtain ⟨N, hNe⟩ : ∃ N, g.length = N := ⟨_, rfl⟩
  have HN := hid hNe
  rw [hNe] at hN HLI HRE ⊢
  clear hG hs hss hNe
  go_enter Tryd.func17, Tryd.ntmps17
  go_wp2_with fail
  go_loopw [3, 4] (fun ov iv wr => ∃ (i : Nat) (v : Value), v = ov ∧ iv = .int .i64 (i : Int) ∧ i ≤ N ∧ Box (wr.ownsRow w.heap.size 3 1 v ((List.range i).filter s).length (ints ((List.range i).filter s))) ∧ Box (Keeps [] w wr)) (fun _ iv _ => N - (intOf iv).toNat)
  case atStart => exact ⟨0, _, rfl, rfl, by omega, hid (nil_row _ _), hid (Keeps.refl _ _)⟩
  case round =>
    obtain ⟨i, v, rfl, rfl, hi, HO, HK⟩ := hrel
    by_cases hlt : i < N
    · have hlt' : (i : Int) < (N : Int) := by omega
      obtain ⟨bl, ol, ai, ci, rfl, hcl, hnl⟩ := (HG.out.quiet HK.out).at (k := i) (by rw [HN.out]; exact hlt)
      have hsh := HS.out.short i
      have HC := hid (HRE.out wr HK.out ai ci (intsI (nb g i)) hnl (by rw [intsI_len]; exact hsh))
      rw [intsI_len] at HC
      have hws := HK.out.size
      have hrs : Box (List.range (i + 1) = List.range i ++ [i]) := hid List.range_succ
      have hll : ((List.range i).filter s).length ≤ i := by
        have := List.length_filter_le s (List.range i)
        rw [List.length_range] at this
        exact this
      have HNB := hid (fun x (hx : x ∈ nb g i) => HS.out.ok i x hx)
      rw [HN.out] at HNB
      have hsi := HLI.out i hlt
      have HSI := hid hsi
      clear hnl HRE hsi
      go_wp2_with fail
      refine HC.out.mono ?_
      rintro e w3 ⟨ps, rfl, t, r3, k3, ht⟩
      have cs := r3.cell hlt
      unfold bw at cs
      have hti : t i = s i := by
        rw [Bool.eq_iff_iff, ht i, HSI.out, avI_no]
        constructor
        · rintro ⟨z, hz, p⟩
          exact ⟨z, (nodI_nat HNB.out z).1 hz, p⟩
        · rintro ⟨z, hz, p⟩
          exact ⟨z, (nodI_nat HNB.out z).2 hz, p⟩
      rw [hti] at cs
      have HO3 := hid (ownsRow_keeps HO.out k3 (by simp))
      have K3 := hid (HK.out.quiet k3)
      have hws3 := K3.out.size
      clear r3 k3 ht hti HC HO HK HSI hcl
      cases hsi : s i with
      | false =>
        rw [hsi] at cs
        have HO2 : Box (w3.ownsRow w.heap.size 3 1 v ((List.range (i + 1)).filter s).length (ints ((List.range (i + 1)).filter s))) := hid (by
          rw [hrs.out, List.filter_append]
          have e : [i].filter s = [] := by simp [hsi]
          rw [e, List.append_nil]
          exact HO3.out)
        clear hsi HO3
        go_wp2
        go_roundw
        case rel => exact ⟨i + 1, v, rfl, by go_num, by omega, HO2, K3⟩
        case measure => simp [intOf]; omega
      | true =>
        rw [hsi] at cs
        have hfl : Box ((List.range (i + 1)).filter s = (List.range i).filter s ++ [i]) := hid (by rw [hrs.out, List.filter_append]; simp [hsi])
        clear hsi
        generalize (List.range i).filter s = l at HO3 hll hfl
        obtain ⟨ll, hle⟩ : ∃ ll, l.length = ll := ⟨_, rfl⟩
        rw [hle] at HO3 hll
        have HLL := hid hle
        clear hle
        go_wp2_with (at_builtin; go_must (refine wpList_append_own _ rfl _ _ 23 rfl w.heap.size 3 Tryd.t3 (.int .i64 0) 1 8 under_ints info_int zero_int size_int bytes_int rfl (by decide) v _ _ rfl (HO3.out.alloc _) _ 1 1 [.int .i64 (i : Int)] rfl rfl (cell_one_new _ _ _) (fun x hx => by simp at hx; subst hx; rfl) (by unfold maxLen; omega) (by omega) (by simp; omega) ?_; intro v8 w8 hown8 hgrow8 hnil8))
        have HO8 : Box (w8.ownsRow w.heap.size 3 1 v8 ((List.range (i + 1)).filter s).length (ints ((List.range (i + 1)).filter s))) := hid (by
          rw [hfl.out, List.length_append, HLL.out, show ints (l ++ [i]) = ints l ++ [.int .i64 (i : Int)] from by simp [ints]]
          exact hown8)
        have k8 := hid ((K3.out.quiet (Keeps.alloc [] _ _)).fresh (Keeps.grown v.ownBlock.toList hgrow8 (fun y hy => by rw [hy]; simp)) (own_new HO3.out))
        clear hown8 hgrow8 hnil8
        go_roundw
        case rel => exact ⟨i + 1, v8, rfl, by go_num, by omega, HO8, k8⟩
        case measure => simp [intOf]; omega
    · obtain rfl : i = N := by omega
      go_wp2
      go_ret
      exact ⟨_, rfl, HO.out, HK.out⟩
end Go.Proofs.YtngdnjlohmkbiaaDoor
