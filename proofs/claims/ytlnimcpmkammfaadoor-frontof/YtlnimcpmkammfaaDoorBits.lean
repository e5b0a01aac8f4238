/-
  Contracts: the library's TrailingZeros64 and OnesCount64 at words; a set's word, read out of the array's value.
-/
import Derived.Test.YtlnimcpmkammfaaDoorAdd
import Derived.Laws.Bits64b
import Derived.Laws.Bits128
namespace Go.Proofs.YtlnimcpmkammfaaDoor
open Go.RowKit

set_option maxHeartbeats 400000 in
theorem tz_core (x k idx : Nat) (w : World) (hx0 : ((x : Int) == 0) = false)
    (key : IntKind.u64.wrap (bits BinOp.and IntKind.u64 (x : Int) (IntKind.u64.wrap (-(x : Int))) * 285870213051353865) / 288230376151711744 = (idx : Int))
    (hi : idx < 64) (hk : k < 64) (hcell : w.cell? ⟨0, idx, none⟩ = some (.int .u8 k)) :
    Calls Tryd.prog 44 #[.int .u64 x] w fun e w' => e = .returned (.int .i64 k) ∧ w' = w := by
  go_enter Tryd.func44, Tryd.ntmps44
  go_wp2_with (simp only [key])
  go_ret
  exact ⟨rfl, rfl⟩

theorem tz_key (x a : Nat) (hx : x < 18446744073709551616) (hx0 : x ≠ 0) (hlow : x &&& (18446744073709551616 - x) = a) :
    IntKind.u64.wrap (bits BinOp.and IntKind.u64 (x : Int) (IntKind.u64.wrap (-(x : Int))) * 285870213051353865) / 288230376151711744 = ((a * 285870213051353865 % 18446744073709551616 / 288230376151711744 : Nat) : Int) := by
  have e1 : IntKind.u64.wrap (-(x : Int)) = ((18446744073709551616 - x : Nat) : Int) := by rw [IntKind.wrap_u64]; omega
  rw [e1, u64_and_nat x _ hx (by omega), hlow, IntKind.wrap_u64]
  omega

/-- TrailingZeros64 of a number that is not 0. -/
theorem tz_any (x : Nat) (w : World) (hx : x < 18446744073709551616) (hx0 : x ≠ 0) (hT : TabAt w) :
    Calls Tryd.prog 44 #[.int .u64 (x : Int)] w fun e w' => e = .returned (.int .i64 (Go.Lib.ctz 64 x : Nat)) ∧ w' = w := by
  obtain ⟨hlow, hk⟩ := Go.Lib.lowest_bit 64 x hx0 hx
  obtain ⟨hi, htab⟩ := Go.Lib.deBruijn64_at _ hk
  have hc := hT _ hi
  rw [htab] at hc
  exact tz_core x _ _ w (by simp; omega) (tz_key x _ hx hx0 hlow) hi hk hc

set_option maxHeartbeats 400000 in
theorem ones_core (x x1 x2 x3 x4 x5 x6 r : Nat) (w : World)
    (e1 : IntKind.u64.wrap (bits BinOp.and IntKind.u64 ((x : Int) / 2) 6148914691236517205 + bits BinOp.and IntKind.u64 (x : Int) 6148914691236517205) = (x1 : Int))
    (e2 : IntKind.u64.wrap (bits BinOp.and IntKind.u64 ((x1 : Int) / 4) 3689348814741910323 + bits BinOp.and IntKind.u64 (x1 : Int) 3689348814741910323) = (x2 : Int))
    (e3 : bits BinOp.and IntKind.u64 (IntKind.u64.wrap ((x2 : Int) / 16 + (x2 : Int))) 1085102592571150095 = (x3 : Int))
    (e4 : IntKind.u64.wrap ((x3 : Int) + (x3 : Int) / 256) = (x4 : Int)) (e5 : IntKind.u64.wrap ((x4 : Int) + (x4 : Int) / 65536) = (x5 : Int)) (e6 : IntKind.u64.wrap ((x5 : Int) + (x5 : Int) / 4294967296) = (x6 : Int))
    (e7 : bits BinOp.and IntKind.i64 (wrap64 (x6 : Int)) 127 = (r : Int)) :
    Calls Tryd.prog 35 #[.int .u64 x] w fun e w' => e = .returned (.int .i64 r) ∧ w' = w := by
  go_enter Tryd.func35, Tryd.ntmps35
  go_wp2
  go_ret
  exact ⟨rfl, rfl⟩

/-- OnesCount64 of a set's word. -/
theorem ones_any (s : Nat → Bool) (k : Nat) (w : World) :
    Calls Tryd.prog 35 #[.int .u64 (wd s k : Nat)] w fun e w' => e = .returned (.int .i64 (cnt s (64 * k) 64 : Nat)) ∧ w' = w := by
  obtain ⟨x1, x2, x3, x4, x5, x6, f1, f2, l1, l2, f3, l3, f4, l4, f5, l5, f6, l6, f7⟩ := pop_word s k
  have hx := wd_lt s k
  generalize wd s k = x at f1 hx ⊢
  refine ones_core x x1 x2 x3 x4 x5 x6 _ w ?_ ?_ ?_ ?_ ?_ ?_ ?_
  · have a1 := u64_and_nat (x / 2) 6148914691236517205 (by omega) (by omega)
    have a2 := u64_and_nat x 6148914691236517205 hx (by omega)
    have e : ((x / 2 : Nat) : Int) = (x : Int) / 2 := by omega
    rw [← e]
    refine (congrArg IntKind.u64.wrap (congr (congrArg HAdd.hAdd a1) a2)).trans ?_
    rw [IntKind.wrap_u64]
    clear a1 a2 f2 f3 f4 f5 f6 f7
    omega
  · have a1 := u64_and_nat (x1 / 4) 3689348814741910323 (by omega) (by omega)
    have a2 := u64_and_nat x1 3689348814741910323 l1 (by omega)
    have e : ((x1 / 4 : Nat) : Int) = (x1 : Int) / 4 := by omega
    rw [← e]
    refine (congrArg IntKind.u64.wrap (congr (congrArg HAdd.hAdd a1) a2)).trans ?_
    rw [IntKind.wrap_u64]
    clear a1 a2 f1 f3 f4 f5 f6 f7
    omega
  · have a1 := u64_and_nat (x2 / 16 + x2) 1085102592571150095 l3 (by omega)
    have e : IntKind.u64.wrap ((x2 : Int) / 16 + (x2 : Int)) = ((x2 / 16 + x2 : Nat) : Int) := by rw [IntKind.wrap_u64]; clear a1 f1 f2 f3 f4 f5 f6 f7; omega
    rw [e]
    refine a1.trans ?_
    rw [f3]
  · rw [IntKind.wrap_u64]; clear f1 f2 f3 f5 f6 f7; omega
  · rw [IntKind.wrap_u64]; clear f1 f2 f3 f4 f6 f7; omega
  · rw [IntKind.wrap_u64]; clear f1 f2 f3 f4 f5 f7; omega
  · rw [IntWalk.wrap64_in _ (by omega), i64_and127, ← f7]; omega

theorem wpList_index_any {P : Program} {ops : Array Oper} {rest : List Oper} {o : Oper} {a : Act} {w : World} {Q : Exit → Act → World → Prop} (hgd : o.guard = none) (ty : TypeId) (x i : Operand) (ho : o.op = .index ty x i)
    (cs : Array Value) (k : Int) (hx : a.eval x = .agg cs) (hi : a.eval i = .int .i64 k) (v : Value) (hrun : (Instr.index ty (.agg cs) (.int .i64 k)).run P w = .ok v w)
    (h : wpList P ops Q rest (a.put o.dst v) w) : wpList P ops Q (o :: rest) a w :=
  wpList_plain hgd fun _ hK => by
    unfold Oper.wp execOp
    simp only [ho, hx, hi, Sem.run_bind, Sem.run_pure, hrun, Result.andThen_ok]
    exact hK _ _ h

theorem idx_row (s : Nat → Bool) (k : Nat) (hk : k < 79) (w : World) : (Instr.index 54 (.agg (row s)) (.int .i64 (k : Int))).run Tryd.prog w = .ok (.int .u64 (wd s k : Nat)) w := by
  have hr := row_get s k hk
  have hu : Tryd.prog.underlying 54 = some (.array 79 53) := by kernel_rfl
  have hz : Tryd.t53.size = 1 := by kernel_rfl
  simp [Instr.index, asIntOf, Sem.run_bind, run_underlying hu, hk, part, sizeOf, isAgg]
  rw [hz, Nat.mul_one, hr]
  rfl
end Go.Proofs.YtlnimcpmkammfaaDoor
