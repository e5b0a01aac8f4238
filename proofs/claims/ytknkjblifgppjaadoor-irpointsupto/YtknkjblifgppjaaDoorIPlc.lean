/-
  ir.place: the point with a number.
-/
import Derived.Test.YtknkjblifgppjaaDoorINum
namespace Go.Proofs.YtknkjblifgppjaaDoor
open Go.RowKit

/-- The point with the number n, if there is one; else none. -/
def plcV (P : Pr8) (n : Int) : Value := if 0 ≤ n then (match (pts P)[n.toNat]? with
  | some q => .tuple #[ptV q.1 q.2.1 q.2.2, .bool true]
  | none => .tuple #[ptV 0 0 0, .bool false]) else .tuple #[ptV 0 0 0, .bool false]
theorem plcV_neg (P : Pr8) {n : Int} (h : n < 0) : plcV P n = .tuple #[ptV 0 0 0, .bool false] := by unfold plcV; rw [if_neg (by omega)]
theorem plcV_in {P : Pr8} {f b i : Nat} (h : IsPt P f b i) {n : Int} (e : n = (pos8 P f b i : Int)) : plcV P n = .tuple #[ptV f b i, .bool true] := by
  unfold plcV
  rw [e, if_pos (by omega), Int.toNat_natCast, pts_at h]
theorem plcV_out {P : Pr8} {n : Int} (h : ((pts P).length : Int) ≤ n) : plcV P n = .tuple #[ptV 0 0 0, .bool false] := by
  unfold plcV
  rw [if_pos (by omega), List.getElem?_eq_none (by omega)]

theorem heap_lt {w : World} {p : Nat} {o : Obj} (h : w.heap[p]? = some o) : p < w.heap.size := by
  rw [Array.getElem?_eq_some_iff] at h
  exact h.1
theorem heap_new (w : World) (o : Obj) : (w.alloc o).heap[w.heap.size]? = some o := heap_alloc_new w o
theorem keep_heap {w w' : World} {s : Nat} {o : Obj} (h : w.heap[s]? = some o) (k : Keeps [] w w') : w'.heap[s]? = some o := (k.block s (heap_lt h) (by simp)).trans h
theorem hcell {w : World} {b : Nat} {cs : Array Value} {T : TypeId} (h : w.heap[b]? = some (.cells cs T (0, 0))) (j : Nat) : w.cell? ⟨b, j, none⟩ = cs[j]? := Lib.cell_of_heap h j
theorem hfrozen {w : World} {b : Nat} {cs : Array Value} {T : TypeId} (h : w.heap[b]? = some (.cells cs T (0, 0))) (j : Nat) : w.frozen? ⟨b, j, none⟩ = false := Lib.frozen_of_heap h j
theorem set3 {w : World} {b : Nat} {x y z : Value} {T : TypeId} (h : w.heap[b]? = some (.cells #[x, y, z] T (0, 0))) (u0 u1 u2 : Value) :
    (((w.setCell ⟨b, 0, none⟩ u0).setCell ⟨b, 1, none⟩ u1).setCell ⟨b, 2, none⟩ u2).heap[b]? = some (.cells #[u0, u1, u2] T (0, 0)) :=
  heap_setCell_same _ b 2 _ _ u2 (heap_setCell_same _ b 1 _ _ u1 (heap_setCell_same w b 0 _ _ u0 h))
theorem keeps3 (w : World) (b : Nat) (u0 u1 u2 : Value) : Keeps [b] w (((w.setCell ⟨b, 0, none⟩ u0).setCell ⟨b, 1, none⟩ u1).setCell ⟨b, 2, none⟩ u2) :=
  ((Keeps.setCell [b] _ _ _ (List.mem_singleton.2 rfl)).step (Keeps.setCell [b] _ _ _ (List.mem_singleton.2 rfl))).step (Keeps.setCell [b] _ _ _ (List.mem_singleton.2 rfl))

set_option maxHeartbeats 4000000 in
theorem place_nil (n : Int) (w : World) : Calls Tryd.prog 43 #[.pointer none, .int .i64 n] w fun e w' => e = .returned (.tuple #[ptV 0 0 0, .bool false]) ∧ Keeps [] w w' := by
  go_enter Tryd.func43, Tryd.ntmps43
  go_wp2
  have hn := heap_new w (.cells #[.int .i64 0, .int .i64 0, .int .i64 0] 24)
  have e0 := hcell hn 0
  have e1 := hcell hn 1
  have e2 := hcell hn 2
  exact bodyPost_ret (v := .tuple #[ptV 0 0 0, .bool false]) (by simp [results, Tryd.results43, go_sem, ptV]) rfl ⟨rfl, Keeps.alloc _ _ _⟩
set_option maxHeartbeats 4000000 in
theorem place_neg (n : Int) (p : Addr) (w : World) (hn : n < 0) : Calls Tryd.prog 43 #[.pointer (some p), .int .i64 n] w fun e w' => e = .returned (.tuple #[ptV 0 0 0, .bool false]) ∧ Keeps [] w w' := by
  go_enter Tryd.func43, Tryd.ntmps43
  go_wp2
  exact bodyPost_ret (v := .tuple #[ptV 0 0 0, .bool false]) (by simp [results, Tryd.results43, go_sem, ptV]) rfl ⟨rfl, Keeps.alloc _ _ _⟩

set_option maxRecDepth 20000 in
set_option maxHeartbeats 8000000 in
theorem place_any {w : World} {pb po : Nat} {P : Pr8} (h : PrC w pb po P) (hs : Sm8 P) (n : Int) (hn : b64 n) : Calls Tryd.prog 43 #[.pointer (some ⟨pb, po, none⟩), .int .i64 n] w fun e w' => e = .returned (plcV P n) ∧ Keeps [] w w' := by
  by_cases h0 : n < 0
  · rw [plcV_neg P h0]
    exact place_neg n _ w h0
  have ka := Keeps.alloc [] w (.cells #[.int .i64 0, .int .i64 0, .int .i64 0] 24)
  have HH := hid (heap_new w (.cells #[.int .i64 0, .int .i64 0, .int .i64 0] 24))
  have HP := hid (PrC.stays _ _ _ _ _ ka h)
  have HK := hid ka
  have HS := hid hs
  obtain ⟨fa, fcp, H⟩ := HP.out.fns
  have HF := hid H
  have h4 := H.cell
  have hN := hs.fn
  have HX := hid hn
  obtain ⟨N, hNN⟩ : ∃ N, N = P.funcs.length := ⟨_, rfl⟩
  have HN := hid hNN
  rw [← hNN] at h4 hN
  clear h hs ka H hn hNN
  go_enter Tryd.func43, Tryd.ntmps43
  go_wp2_with fail
  generalize w.alloc (.cells #[.int .i64 0, .int .i64 0, .int .i64 0] 24) = W at *
  obtain ⟨z, hz⟩ : ∃ z, w.heap.size = z := ⟨_, rfl⟩
  have HZ := hid hz
  rw [hz] at HH ⊢
  clear hz
  go_wp2_with fail
  go_loop [1, 21] (fun nv fv => ∃ k : Nat, k ≤ N ∧ fv = .int .i64 (k : Int) ∧ nv = .int .i64 (n - (cntP P k : Int)) ∧ Box ((cntP P k : Int) ≤ n)) (fun _ fv => N - (intOf fv).toNat)
  case atStart => exact ⟨0, by omega, rfl, by rw [cntP_zero]; simp, hid (by rw [cntP_zero]; omega)⟩
  case round =>
    obtain ⟨k, hk, rfl, rfl, HC⟩ := hrel
    by_cases hlt : k < N
    · have hlt' : (k : Int) < (N : Int) := by omega
      obtain ⟨fb, fo, ba, bcp, rfl, B⟩ := HF.out.at (f := k) (by rw [← HN.out]; exact hlt)
      have h2 := B.cell
      have HB := hid B
      have hM := HS.out.bk k (by rw [← HN.out]; exact hlt)
      have hcp := HS.out.cntF (f := k) (by rw [← HN.out]; exact hlt) (Nat.le_refl _)
      obtain ⟨M, hMM⟩ : ∃ M, M = (fun8 P k).blocks.length := ⟨_, rfl⟩
      have HM := hid hMM
      rw [← hMM] at h2 hM hcp
      have hsz : Box (∀ b, b < M → ∃ bb bo c, ba = some ⟨bb, bo, none⟩ ∧ c ≤ 149 ∧ Box (c = (blk8 (fun8 P k) b).code.length) ∧ Calls Tryd.prog 28 #[.pointer (some ⟨bb, bo + b * 5, none⟩)] W fun e w' => e = .returned (.int .i64 ((c + 1 : Nat) : Int)) ∧ w' = W) := hid fun b hb => by
        obtain ⟨bb, bo, e, L⟩ := HB.out.at (b := b) (by rw [← HM.out]; exact hb)
        obtain ⟨ca, ccp, hc, _⟩ := L.c0
        have h9 := HS.out.code (f := k) (b := b) (by rw [← HN.out]; exact hlt) (by rw [← HM.out]; exact hb)
        exact ⟨bb, bo, _, e, h9, hid rfl, size_any bb (bo + b * 5) _ ccp ca W hc (by omega)⟩
      clear B hMM
      go_wp2_with fail
      go_loop [1, 33] (fun nv bv => ∃ b : Nat, b ≤ M ∧ bv = .int .i64 (b : Int) ∧ nv = .int .i64 (n - (cntP P k : Int) - (cntF (fun8 P k) b : Int)) ∧ Box ((cntP P k : Int) + (cntF (fun8 P k) b : Int) ≤ n)) (fun _ bv => M - (intOf bv).toNat)
      case atStart => exact ⟨0, by omega, rfl, by rw [cntF_zero]; simp, hid (by rw [cntF_zero]; have := HC.out; simp; omega)⟩
      case round =>
        obtain ⟨b, hb, rfl, rfl, HD⟩ := hrel
        by_cases hlb : b < M
        · have hlb' : (b : Int) < (M : Int) := by omega
          obtain ⟨bb, bo, c, rfl, hc9, HCC, hcl⟩ := hsz.out b hlb
          have hcall := hid hcl
          have hsu := cntF_succ (fun8 P k) b
          rw [← HCC.out] at hsu
          have h1 := HD.out
          have hx := HX.out
          have q1 : (n - (cntP P k : Int) - (cntF (fun8 P k) b : Int)) ≤ 9223372036854775807 := by have := hx.2; omega
          have q0 : 0 ≤ (n - (cntP P k : Int) - (cntF (fun8 P k) b : Int)) := by omega
          by_cases hin : (n - (cntP P k : Int) - (cntF (fun8 P k) b : Int)) < (c : Int) + 1
          · have hpt : Box (plcV P n = .tuple #[ptV k b (n - (cntP P k : Int) - (cntF (fun8 P k) b : Int)), .bool true]) := hid (by
              have hi : IsPt P k b (n - (cntP P k : Int) - (cntF (fun8 P k) b : Int)).toNat := ⟨by rw [← HN.out]; exact hlt, by rw [← HM.out]; exact hlb, by rw [← HCC.out]; omega⟩
              rw [plcV_in hi (by rw [pos8_cnt]; omega)]
              rw [show (((n - (cntP P k : Int) - (cntF (fun8 P k) b : Int)).toNat : Nat) : Int) = (n - (cntP P k : Int) - (cntF (fun8 P k) b : Int)) by omega])
            clear hcl h1 hx hsu
            generalize (n - (cntP P k : Int) - (cntF (fun8 P k) b : Int)) = v at *
            have z0 := hfrozen HH.out 0
            have z1 := hfrozen HH.out 1
            have z2 := hfrozen HH.out 2
            have c0 := hcell HH.out 0
            have c1 := hcell HH.out 1
            have c2 := hcell HH.out 2
            go_wp2_with (go_at_call 28; refine hcall.out.mono ?_; rintro e w' ⟨rfl, rfl⟩)
            have h3 := set3 HH.out (.int .i64 (k : Int)) (.int .i64 (b : Int)) (.int .i64 v)
            have e0 := hcell h3 0
            have e1 := hcell h3 1
            have e2 := hcell h3 2
            exact bodyPost_ret (v := .tuple #[ptV k b v, .bool true]) (by simp [results, Tryd.results43, go_sem, ptV, e0, e1, e2]) rfl ⟨by rw [hpt.out], HK.out.fresh (keeps3 _ _ _ _ _) (fun x hx => by have := HZ.out; simp at hx; omega)⟩
          · have HD2 : Box ((cntP P k : Int) + (cntF (fun8 P k) (b + 1) : Int) ≤ n) := hid (by omega)
            have he : Box ((n - (cntP P k : Int) - (cntF (fun8 P k) b : Int)) - ((c : Int) + 1) = n - (cntP P k : Int) - (cntF (fun8 P k) (b + 1) : Int)) := hid (by omega)
            clear hcl h1 hx hsu
            generalize (n - (cntP P k : Int) - (cntF (fun8 P k) b : Int)) = v at *
            have w4 : IntKind.i64.wrap (v - ((c : Int) + 1)) = v - ((c : Int) + 1) := IntWalk.i64_in _ (by omega)
            have q5 : (c : Int) + 1 ≤ v := by omega
            clear hin
            go_wp2_with (go_at_call 28; refine hcall.out.mono ?_; rintro e w' ⟨rfl, rfl⟩)
            go_round
            case rel => exact ⟨b + 1, by omega, by go_num, by rw [← he.out], HD2⟩
            case measure => simp [intOf]; omega
        · obtain rfl : b = M := by omega
          have he : Box (n - (cntP P k : Int) - (cntF (fun8 P k) b : Int) = n - (cntP P (k + 1) : Int)) := hid (by rw [cntP_succ, ← HM.out]; omega)
          have HC2 : Box ((cntP P (k + 1) : Int) ≤ n) := hid (by have := HD.out; rw [cntP_succ, ← HM.out]; omega)
          clear hsz
          generalize n - (cntP P k : Int) - (cntF (fun8 P k) b : Int) = v at *
          go_wp2_with fail
          go_round
          case rel => exact ⟨k + 1, by omega, by go_num, by rw [← he.out], HC2⟩
          case measure => simp [intOf]; omega
    · obtain rfl : k = N := by omega
      have hpt : Box (plcV P n = .tuple #[ptV 0 0 0, .bool false]) := hid (plcV_out (by rw [pts_cnt, ← HN.out]; exact HC.out))
      generalize n - (cntP P k : Int) = v at *
      have z0 := hfrozen HH.out 0
      have z1 := hfrozen HH.out 1
      have z2 := hfrozen HH.out 2
      have c0 := hcell HH.out 0
      have c1 := hcell HH.out 1
      have c2 := hcell HH.out 2
      go_wp2_with fail
      have h3 := set3 HH.out (.int .i64 0) (.int .i64 0) (.int .i64 0)
      have e0 := hcell h3 0
      have e1 := hcell h3 1
      have e2 := hcell h3 2
      exact bodyPost_ret (v := .tuple #[ptV 0 0 0, .bool false]) (by simp [results, Tryd.results43, go_sem, ptV, e0, e1, e2]) rfl ⟨by rw [hpt.out], HK.out.fresh (keeps3 _ _ _ _ _) (fun x hx => by have := HZ.out; simp at hx; omega)⟩
end Go.Proofs.YtknkjblifgppjaaDoor
