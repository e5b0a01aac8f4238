/-
  Plain: an edge more; sets that are the same.
-/
import Derived.Test.YtngdnjlohmkbiaaDoorGLaw
import Derived.Test.YtngdnjlohmkbiaaDoorGMoreG
namespace Go.Proofs.YtngdnjlohmkbiaaDoor
open Go.RowKit

set_option maxHeartbeats 400000 in
theorem seq_same (b c : Nat) (s : Nat → Bool) (w : World) (hs : SetAt w b s) (ht : SetAt w c s) (hf : Fit s) :
    Calls Tryd.prog 31 #[.pointer (some ⟨b, 0, none⟩), .pointer (some ⟨c, 0, none⟩)] w fun e w' => e = .returned (.bool true) ∧ w' = w := by
  have h1 := in_any b c s s w hs ht hf
  have h2 := in_any c b s s w ht hs hf
  have e : subI s s = true := (subI_iff s s hf).2 fun _ h => h
  rw [e] at h1 h2
  have H1 := hid h1
  have H2 := hid h2
  clear h1 h2 e hs ht hf
  go_enter Tryd.func31, Tryd.ntmps31
  go_wp2_with fail
  refine H1.out.mono ?_
  rintro e w1 ⟨rfl, hw1⟩
  obtain rfl := hw1.symm
  clear hw1
  go_wp2_with fail
  refine H2.out.mono ?_
  rintro e w2 ⟨rfl, hw2⟩
  obtain rfl := hw2.symm
  clear hw2
  go_wp2
  go_ret
  exact ⟨rfl, rfl⟩

theorem rch_iff {g : List (List Nat)} (hg : Ok g) {i : Nat} (hi : i < g.length) (m : Nat) : rch g [(i : Int)] m = true ↔ Pth g noS i m := by
  have e : rch g [(i : Int)] m = rB g i m := by
    show (if 0 ≤ (i : Int) ∧ (i : Int) < (g.length : Int) then (vis g (g.length + 1) (i : Int).toNat (none_, [])).1 else none_) m = _
    rw [if_pos (by omega)]
    rfl
  rw [e, rB_iff hg m hi]
theorem rch_more {L : Nat → List Nat} {N x y i : Nat} (hs : Sm ((List.range N).map L)) (hs2 : Sm (moreG L N x y)) (hx : x < N) (hy : y < N) (hi : i < N) :
    rch (moreG L N x y) [(i : Int)] = if rch ((List.range N).map L) [(i : Int)] x = true then both or (rch ((List.range N).map L) [(i : Int)]) (rch ((List.range N).map L) [(y : Int)]) else rch ((List.range N).map L) [(i : Int)] := by
  have e1 : (moreG L N x y).length = N := by simp [moreG]
  have e2 : ((List.range N).map L).length = N := by simp
  funext m
  rw [Bool.eq_iff_iff, rch_iff hs2.ok (by omega), pth_more hx]
  by_cases h : rch ((List.range N).map L) [(i : Int)] x = true
  · rw [if_pos h]
    show _ ↔ (rch ((List.range N).map L) [(i : Int)] m || rch ((List.range N).map L) [(y : Int)] m) = true
    rw [Bool.or_eq_true, rch_iff hs.ok (by omega), rch_iff hs.ok (by omega)]
    rw [rch_iff hs.ok (by omega)] at h
    simp [h]
  · rw [if_neg h, rch_iff hs.ok (by omega)]
    rw [rch_iff hs.ok (by omega)] at h
    simp [h]
end Go.Proofs.YtngdnjlohmkbiaaDoor
