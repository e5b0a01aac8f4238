/-
  code's reader: fail, unfold, number, length.
-/
import Derived.Test.YtmipbaihlodmdaaDoorCAb
namespace Go.Proofs.YtmipbaihlodmdaaDoor
open Go.RowKit

theorem fail_any {w : World} {rb : Nat} {s : Option (List UInt8)} (h : RdAt w rb s) : Calls Tryd.prog 75 #[.pointer (some ⟨rb, 0, none⟩)] w fun e w' => e = .returned (.tuple #[]) ∧ RdAt w' rb none ∧ Keeps [rb] w w' := by
  obtain ⟨x, y, hx⟩ : ∃ x y, w.heap[rb]? = some (.cells #[x, y] 79 (0, 0)) := by
    cases s with
    | none => exact ⟨_, _, h⟩
    | some L =>
      obtain ⟨a, cp, h1, _⟩ := h
      exact ⟨_, _, h1⟩
  have c0 := hcell hx 0
  have c1 := hcell hx 1
  have z0 := pfrozen hx 0
  have z1 := pfrozen hx 1
  have hfin : RdAt ((w.setCell ⟨rb, 0, none⟩ (.slice none 0 0)).setCell ⟨rb, 1, none⟩ (.bool true)) rb none := heap_setCell_same _ rb 1 _ _ _ (heap_setCell_same _ rb 0 _ _ _ hx)
  have hk : Keeps [rb] w ((w.setCell ⟨rb, 0, none⟩ (.slice none 0 0)).setCell ⟨rb, 1, none⟩ (.bool true)) := (Keeps.setCell [rb] _ _ _ (List.mem_singleton.2 rfl)).step (Keeps.setCell [rb] _ _ _ (List.mem_singleton.2 rfl))
  have HF := hid hfin
  have HK := hid hk
  clear h hx hfin hk
  go_enter Tryd.func75, Tryd.ntmps75
  go_wp2_with fail
  go_end0
  exact ⟨rfl, HF.out, HK.out⟩

theorem unfold_any (u : Nat) (hu : u < 18446744073709551616) (w : World) : Calls Tryd.prog 74 #[.int .u64 (u : Int)] w fun e w' => e = .returned (.int .i64 (unfN u)) ∧ w' = w := by
  have ea : bits BinOp.and IntKind.u64 (u : Int) 1 = (u : Int) % 2 := by
    have := u64_and_nat u 1 hu (by omega)
    rw [Nat.and_one_is_mod] at this
    exact this.trans (by omega)
  by_cases h : u % 2 = 1
  · have e : unfN u = -((u : Int) / 2) - 1 := by rw [unfN, if_pos h]; omega
    have h' : (u : Int) % 2 = 1 := by omega
    have HE := hid e
    clear h e
    go_enter Tryd.func74, Tryd.ntmps74
    go_wp2_with fail
    go_ret
    exact ⟨by rw [HE.out]; go_num, rfl⟩
  · have e : unfN u = (u : Int) / 2 := by rw [unfN, if_neg h]; omega
    have h' : ¬ (u : Int) % 2 = 1 := by omega
    have HE := hid e
    clear h e
    go_enter Tryd.func74, Tryd.ntmps74
    go_wp2_with fail
    go_ret
    exact ⟨by rw [HE.out]; go_num, rfl⟩
end Go.Proofs.YtmipbaihlodmdaaDoor
