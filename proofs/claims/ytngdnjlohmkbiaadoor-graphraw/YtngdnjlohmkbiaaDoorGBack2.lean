/-
  Contract: graph's walkBack.
-/
import Derived.Test.YtngdnjlohmkbiaaDoorGAhead
import Derived.Test.YtngdnjlohmkbiaaDoorGBfs
namespace Go.Proofs.YtngdnjlohmkbiaaDoor
open Go.RowKit

theorem one_row {w : World} {base : Nat} (y : Nat) (h : base ≤ w.heap.size) : (w.alloc (.cells #[.int .i64 (y : Int)] 3)).ownsRow base 3 1 (.slice (some ⟨w.heap.size, 0, none⟩) 1 1) [y].length (ints [y]) :=
  ⟨rfl, .inr ⟨w.heap.size, 1, #[.int .i64 (y : Int)], rfl, h, heap_alloc_new w _, Nat.le_refl _, by unfold maxLen; omega, rfl, rfl⟩⟩

set_option maxHeartbeats 2000000 in
theorem wback_any (line : List Nat) (bf : Nat → Nat) (n fr d y pw base : Nat) (w : World) (hr : RowAt w base pw n 3 (num bf)) (hbk : Back line bf fr d y) (hl : ∀ x, x ∈ line → x < n) (hd : d ≤ 1000) :
    Calls Tryd.prog 43 #[.slice (some ⟨pw, 0, none⟩) n n, .int .i64 (fr : Int), .int .i64 (y : Int)] w fun e w' => ∃ v, e = .returned v ∧ w'.ownsRow w.heap.size 3 1 v (wb bf d y).reverse.length (ints (wb bf d y).reverse) ∧ Keeps [] w w' := by
  have HRW := hid hr
  have HB := hid hbk
  have HL := hid hl
  have k1 : Keeps [] w (w.alloc (Obj.cells #[.int .i64 (y : Int)] 3)) := Keeps.alloc _ _ _
  have H1 := hid (one_row (w := w) (base := w.heap.size) y (Nat.le_refl _))
  clear hr hbk hl
  go_enter Tryd.func43, Tryd.ntmps43
  go_wp2_with fail
  generalize w.alloc (Obj.cells #[.int .i64 (y : Int)] 3) = w1 at k1 H1 ⊢
  go_loopw [7, 8] (fun v7 v8 wr => ∃ (vl : Value) (y' d' : Nat) (pre : List Nat), v8 = .int .i64 (y' : Int) ∧ vl = v7 ∧ Box (wb bf d y = pre ++ wb bf d' y') ∧ Box (Back line bf fr d' y') ∧ Box (wr.ownsRow w.heap.size 3 1 vl (pre ++ [y']).length (ints (pre ++ [y']))) ∧ pre.length + d' = d ∧ Keeps [] w wr) (fun v7 _ _ => d + 1 - lenV v7)
  case atStart => exact ⟨_, y, d, [], rfl, rfl, hid rfl, HB, H1, by simp, k1⟩
  case round =>
    clear HB H1 k1
    obtain ⟨vl, y', d', pre, rfl, rfl, HE, HB, HO, hpd, hkw⟩ := hrel
    by_cases hy : y' = fr
    · obtain rfl : d' = 0 := by
        cases d' with
        | zero => rfl
        | succ d' => exact absurd hy HB.out.1
      subst hy
      have HRV := hid (rev_any vl _ w.heap.size wr HO.out (by rw [List.length_append]; simp; omega))
      go_wp2_with fail
      refine HRV.out.mono ?_
      rintro e w6 ⟨rfl, hrow6, hk6⟩
      have HR6 := hid hrow6
      clear hrow6 HRV
      go_wp2
      go_ret
      refine ⟨_, rfl, ?_, hkw.fresh hk6 (own_new HO.out)⟩
      rw [HE.out, List.length_reverse]
      exact HR6.out
    · obtain ⟨d2, rfl⟩ : ∃ d2, d' = d2 + 1 := by
        cases d' with
        | zero => exact absurd HB.out.1 hy
        | succ d' => exact ⟨d', rfl⟩
      have hyn : y' < n := HL.out _ HB.out.mem
      have HB2 := hid HB.out.2.2
      have hcell : wr.cell? ⟨pw, y', none⟩ = some (.int .i64 ((bf y' : Nat) : Int)) := (HRW.out.kept hkw (by simp)).cell hyn
      have hlen : (pre ++ [y']).length = pre.length + 1 := by simp
      have hmeas : Box (lenV vl = pre.length + 1) := hid (by rw [lenV_own HO.out, hlen])
      have HE2 : Box (wb bf d y = (pre ++ [y']) ++ wb bf d2 (bf y')) := hid (by rw [HE.out]; simp [wb])
      rw [hlen] at HO
      have hne : ((y' : Int) != (fr : Int)) = true := by simp; omega
      obtain ⟨z, hz⟩ : ∃ z, bf y' = z := ⟨_, rfl⟩
      rw [hz] at hcell HB2 HE2
      clear HE HB hz hlen
      have hyn' : (y' : Int) < (n : Int) := by omega
      have hws := hkw.size
      go_wp2_with (at_builtin; refine wpList_append_own_at _ rfl _ _ 23 rfl w.heap.size 3 Tryd.t3 (.int .i64 0) 1 8 under_ints info_int zero_int size_int bytes_int rfl (by decide) vl _ _ rfl (HO.out.alloc _) _ 1 1 [.int .i64 (z : Int)] rfl rfl (cell_one_new _ _ _) (fun x hx => by simp at hx; subst hx; rfl) (by unfold maxLen; omega) (by omega) (by simp; omega) ?_; intro v8 w8 hown8 hgrow8 hnil8 hat8)
      have HO8 : Box (w8.ownsRow w.heap.size 3 1 v8 ((pre ++ [y']) ++ [z]).length (ints ((pre ++ [y']) ++ [z]))) := hid (by
        rw [show ints ((pre ++ [y']) ++ [z]) = ints (pre ++ [y']) ++ [.int .i64 (z : Int)] from by simp [ints], show ((pre ++ [y']) ++ [z]).length = pre.length + 1 + 1 by simp]
        exact hown8)
      have hk8 : Keeps [] w w8 := (hkw.quiet (Keeps.alloc [] _ _)).fresh (Keeps.grown vl.ownBlock.toList hgrow8 (fun y hy => by rw [hy]; simp)) (own_new HO.out)
      have hmeas2 : Box (lenV v8 = pre.length + 1 + 1) := hid (by rw [lenV_own HO8.out]; simp)
      clear hown8 hgrow8 hnil8 hat8
      go_roundw
      case rel => exact ⟨v8, z, d2, pre ++ [y'], rfl, rfl, HE2, HB2, HO8, by simp; omega, hk8⟩
      case measure =>
        show d + 1 - lenV v8 < d + 1 - lenV vl
        rw [hmeas.out, hmeas2.out]
        omega
end Go.Proofs.YtngdnjlohmkbiaaDoor
