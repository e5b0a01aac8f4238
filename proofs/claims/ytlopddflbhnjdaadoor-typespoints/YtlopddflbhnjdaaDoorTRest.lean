/-
  types.restIsEmpty: what does not count is 0.
-/
import Derived.Test.YtlopddflbhnjdaaDoorTFld
namespace Go.Proofs.YtlopddflbhnjdaaDoor
open Go.RowKit

/-- What counts, by Op. -/
def cntD (o : Int) : Bool := decide ((1 ≤ o ∧ o ≤ 7) ∨ (10 ≤ o ∧ o ≤ 14))
def cntA (o : Int) : Bool := decide (o = 2 ∨ (6 ≤ o ∧ o ≤ 9) ∨ o = 11 ∨ (13 ≤ o ∧ o ≤ 15))
def cntB (o : Int) : Bool := decide (o = 2 ∨ o = 8)
def cntN (o : Int) : Bool := decide (o = 1 ∨ o = 7 ∨ o = 8 ∨ o = 10 ∨ o = 12 ∨ o = 14)
def cntR (o : Int) : Bool := decide (12 ≤ o ∧ o ≤ 14)
/-- What does not count is 0. -/
def restB (x : In8) : Bool := decide (1 ≤ x.op ∧ x.op ≤ 15) && ((cntD x.op || decide (x.dst = 0)) && ((cntA x.op || decide (x.a = 0)) && ((cntB x.op || decide (x.b = 0)) && ((cntN x.op || decide (x.n = 0)) && (cntR x.op || decide (x.args.length = 0))))))
set_option maxHeartbeats 4000000 in
theorem rest_1 (d a b n : Int) (ar : List Int) (p : Option Addr) (cp : Nat) (w : World) : Calls Tryd.prog 58 #[.agg #[.int .i64 1, .int .i64 d, .int .i64 a, .int .i64 b, .int .i64 n, .slice p ar.length cp]] w fun e w' => e = .returned (.bool (restB ⟨1, d, a, b, n, ar⟩)) ∧ Keeps [] w w' := by
  have HB : Box (restB ⟨1, d, a, b, n, ar⟩ = (decide (a = 0) && (decide (b = 0) && (decide (ar.length = 0))))) := hid (by simp [restB, cntD, cntA, cntB, cntN, cntR])
  generalize restB ⟨1, d, a, b, n, ar⟩ = res at *
  generalize ar.length = r at *
  go_enter Tryd.func58, Tryd.ntmps58
  go_upto_region 28 with fail
  by_cases ha : a = 0
  case neg =>
    have ga : (a == 0) = false := neb (by omega)
    have HE : Box (res = false) := hid (by rw [HB.out]; simp [ha])
    clear HB
    clear ha
    go_wp2_with fail
    go_ret
    exact ⟨by rw [HE.out]; rfl, Keeps.alloc _ _ _⟩
  have ga : (a == 0) = true := eqb (by omega)
  by_cases hb : b = 0
  case neg =>
    have gb : (b == 0) = false := neb (by omega)
    have HE : Box (res = false) := hid (by rw [HB.out]; simp [ha, hb])
    clear HB
    clear ha hb
    go_wp2_with fail
    go_ret
    exact ⟨by rw [HE.out]; rfl, Keeps.alloc _ _ _⟩
  have gb : (b == 0) = true := eqb (by omega)
  by_cases hr : r = 0
  case neg =>
    have gr : ((r : Int) == 0) = false := neb (by omega)
    have HE : Box (res = false) := hid (by rw [HB.out]; simp [ha, hb, hr])
    clear HB
    clear ha hb hr
    go_wp2_with fail
    go_ret
    exact ⟨by rw [HE.out]; rfl, Keeps.alloc _ _ _⟩
  have gr : ((r : Int) == 0) = true := eqb (by omega)
  have HE : Box (res = true) := hid (by rw [HB.out]; simp [ha, hb, hr])
  clear HB
  clear ha hb hr
  go_wp2_with fail
  go_ret
  exact ⟨by rw [HE.out]; rfl, Keeps.alloc _ _ _⟩
set_option maxHeartbeats 4000000 in
theorem rest_2 (d a b n : Int) (ar : List Int) (p : Option Addr) (cp : Nat) (w : World) : Calls Tryd.prog 58 #[.agg #[.int .i64 2, .int .i64 d, .int .i64 a, .int .i64 b, .int .i64 n, .slice p ar.length cp]] w fun e w' => e = .returned (.bool (restB ⟨2, d, a, b, n, ar⟩)) ∧ Keeps [] w w' := by
  have HB : Box (restB ⟨2, d, a, b, n, ar⟩ = (decide (n = 0) && (decide (ar.length = 0)))) := hid (by simp [restB, cntD, cntA, cntB, cntN, cntR])
  generalize restB ⟨2, d, a, b, n, ar⟩ = res at *
  generalize ar.length = r at *
  go_enter Tryd.func58, Tryd.ntmps58
  go_upto_region 28 with fail
  by_cases hn : n = 0
  case neg =>
    have gn : (n == 0) = false := neb (by omega)
    have HE : Box (res = false) := hid (by rw [HB.out]; simp [hn])
    clear HB
    clear hn
    go_wp2_with fail
    go_ret
    exact ⟨by rw [HE.out]; rfl, Keeps.alloc _ _ _⟩
  have gn : (n == 0) = true := eqb (by omega)
  by_cases hr : r = 0
  case neg =>
    have gr : ((r : Int) == 0) = false := neb (by omega)
    have HE : Box (res = false) := hid (by rw [HB.out]; simp [hn, hr])
    clear HB
    clear hn hr
    go_wp2_with fail
    go_ret
    exact ⟨by rw [HE.out]; rfl, Keeps.alloc _ _ _⟩
  have gr : ((r : Int) == 0) = true := eqb (by omega)
  have HE : Box (res = true) := hid (by rw [HB.out]; simp [hn, hr])
  clear HB
  clear hn hr
  go_wp2_with fail
  go_ret
  exact ⟨by rw [HE.out]; rfl, Keeps.alloc _ _ _⟩
set_option maxHeartbeats 4000000 in
theorem rest_3 (d a b n : Int) (ar : List Int) (p : Option Addr) (cp : Nat) (w : World) : Calls Tryd.prog 58 #[.agg #[.int .i64 3, .int .i64 d, .int .i64 a, .int .i64 b, .int .i64 n, .slice p ar.length cp]] w fun e w' => e = .returned (.bool (restB ⟨3, d, a, b, n, ar⟩)) ∧ Keeps [] w w' := by
  have HB : Box (restB ⟨3, d, a, b, n, ar⟩ = (decide (a = 0) && (decide (b = 0) && (decide (n = 0) && (decide (ar.length = 0)))))) := hid (by simp [restB, cntD, cntA, cntB, cntN, cntR])
  generalize restB ⟨3, d, a, b, n, ar⟩ = res at *
  generalize ar.length = r at *
  go_enter Tryd.func58, Tryd.ntmps58
  go_upto_region 28 with fail
  by_cases ha : a = 0
  case neg =>
    have ga : (a == 0) = false := neb (by omega)
    have HE : Box (res = false) := hid (by rw [HB.out]; simp [ha])
    clear HB
    clear ha
    go_wp2_with fail
    go_ret
    exact ⟨by rw [HE.out]; rfl, Keeps.alloc _ _ _⟩
  have ga : (a == 0) = true := eqb (by omega)
  by_cases hb : b = 0
  case neg =>
    have gb : (b == 0) = false := neb (by omega)
    have HE : Box (res = false) := hid (by rw [HB.out]; simp [ha, hb])
    clear HB
    clear ha hb
    go_wp2_with fail
    go_ret
    exact ⟨by rw [HE.out]; rfl, Keeps.alloc _ _ _⟩
  have gb : (b == 0) = true := eqb (by omega)
  by_cases hn : n = 0
  case neg =>
    have gn : (n == 0) = false := neb (by omega)
    have HE : Box (res = false) := hid (by rw [HB.out]; simp [ha, hb, hn])
    clear HB
    clear ha hb hn
    go_wp2_with fail
    go_ret
    exact ⟨by rw [HE.out]; rfl, Keeps.alloc _ _ _⟩
  have gn : (n == 0) = true := eqb (by omega)
  by_cases hr : r = 0
  case neg =>
    have gr : ((r : Int) == 0) = false := neb (by omega)
    have HE : Box (res = false) := hid (by rw [HB.out]; simp [ha, hb, hn, hr])
    clear HB
    clear ha hb hn hr
    go_wp2_with fail
    go_ret
    exact ⟨by rw [HE.out]; rfl, Keeps.alloc _ _ _⟩
  have gr : ((r : Int) == 0) = true := eqb (by omega)
  have HE : Box (res = true) := hid (by rw [HB.out]; simp [ha, hb, hn, hr])
  clear HB
  clear ha hb hn hr
  go_wp2_with fail
  go_ret
  exact ⟨by rw [HE.out]; rfl, Keeps.alloc _ _ _⟩
set_option maxHeartbeats 4000000 in
theorem rest_4 (d a b n : Int) (ar : List Int) (p : Option Addr) (cp : Nat) (w : World) : Calls Tryd.prog 58 #[.agg #[.int .i64 4, .int .i64 d, .int .i64 a, .int .i64 b, .int .i64 n, .slice p ar.length cp]] w fun e w' => e = .returned (.bool (restB ⟨4, d, a, b, n, ar⟩)) ∧ Keeps [] w w' := by
  have HB : Box (restB ⟨4, d, a, b, n, ar⟩ = (decide (a = 0) && (decide (b = 0) && (decide (n = 0) && (decide (ar.length = 0)))))) := hid (by simp [restB, cntD, cntA, cntB, cntN, cntR])
  generalize restB ⟨4, d, a, b, n, ar⟩ = res at *
  generalize ar.length = r at *
  go_enter Tryd.func58, Tryd.ntmps58
  go_upto_region 28 with fail
  by_cases ha : a = 0
  case neg =>
    have ga : (a == 0) = false := neb (by omega)
    have HE : Box (res = false) := hid (by rw [HB.out]; simp [ha])
    clear HB
    clear ha
    go_wp2_with fail
    go_ret
    exact ⟨by rw [HE.out]; rfl, Keeps.alloc _ _ _⟩
  have ga : (a == 0) = true := eqb (by omega)
  by_cases hb : b = 0
  case neg =>
    have gb : (b == 0) = false := neb (by omega)
    have HE : Box (res = false) := hid (by rw [HB.out]; simp [ha, hb])
    clear HB
    clear ha hb
    go_wp2_with fail
    go_ret
    exact ⟨by rw [HE.out]; rfl, Keeps.alloc _ _ _⟩
  have gb : (b == 0) = true := eqb (by omega)
  by_cases hn : n = 0
  case neg =>
    have gn : (n == 0) = false := neb (by omega)
    have HE : Box (res = false) := hid (by rw [HB.out]; simp [ha, hb, hn])
    clear HB
    clear ha hb hn
    go_wp2_with fail
    go_ret
    exact ⟨by rw [HE.out]; rfl, Keeps.alloc _ _ _⟩
  have gn : (n == 0) = true := eqb (by omega)
  by_cases hr : r = 0
  case neg =>
    have gr : ((r : Int) == 0) = false := neb (by omega)
    have HE : Box (res = false) := hid (by rw [HB.out]; simp [ha, hb, hn, hr])
    clear HB
    clear ha hb hn hr
    go_wp2_with fail
    go_ret
    exact ⟨by rw [HE.out]; rfl, Keeps.alloc _ _ _⟩
  have gr : ((r : Int) == 0) = true := eqb (by omega)
  have HE : Box (res = true) := hid (by rw [HB.out]; simp [ha, hb, hn, hr])
  clear HB
  clear ha hb hn hr
  go_wp2_with fail
  go_ret
  exact ⟨by rw [HE.out]; rfl, Keeps.alloc _ _ _⟩
set_option maxHeartbeats 4000000 in
theorem rest_5 (d a b n : Int) (ar : List Int) (p : Option Addr) (cp : Nat) (w : World) : Calls Tryd.prog 58 #[.agg #[.int .i64 5, .int .i64 d, .int .i64 a, .int .i64 b, .int .i64 n, .slice p ar.length cp]] w fun e w' => e = .returned (.bool (restB ⟨5, d, a, b, n, ar⟩)) ∧ Keeps [] w w' := by
  have HB : Box (restB ⟨5, d, a, b, n, ar⟩ = (decide (a = 0) && (decide (b = 0) && (decide (n = 0) && (decide (ar.length = 0)))))) := hid (by simp [restB, cntD, cntA, cntB, cntN, cntR])
  generalize restB ⟨5, d, a, b, n, ar⟩ = res at *
  generalize ar.length = r at *
  go_enter Tryd.func58, Tryd.ntmps58
  go_upto_region 28 with fail
  by_cases ha : a = 0
  case neg =>
    have ga : (a == 0) = false := neb (by omega)
    have HE : Box (res = false) := hid (by rw [HB.out]; simp [ha])
    clear HB
    clear ha
    go_wp2_with fail
    go_ret
    exact ⟨by rw [HE.out]; rfl, Keeps.alloc _ _ _⟩
  have ga : (a == 0) = true := eqb (by omega)
  by_cases hb : b = 0
  case neg =>
    have gb : (b == 0) = false := neb (by omega)
    have HE : Box (res = false) := hid (by rw [HB.out]; simp [ha, hb])
    clear HB
    clear ha hb
    go_wp2_with fail
    go_ret
    exact ⟨by rw [HE.out]; rfl, Keeps.alloc _ _ _⟩
  have gb : (b == 0) = true := eqb (by omega)
  by_cases hn : n = 0
  case neg =>
    have gn : (n == 0) = false := neb (by omega)
    have HE : Box (res = false) := hid (by rw [HB.out]; simp [ha, hb, hn])
    clear HB
    clear ha hb hn
    go_wp2_with fail
    go_ret
    exact ⟨by rw [HE.out]; rfl, Keeps.alloc _ _ _⟩
  have gn : (n == 0) = true := eqb (by omega)
  by_cases hr : r = 0
  case neg =>
    have gr : ((r : Int) == 0) = false := neb (by omega)
    have HE : Box (res = false) := hid (by rw [HB.out]; simp [ha, hb, hn, hr])
    clear HB
    clear ha hb hn hr
    go_wp2_with fail
    go_ret
    exact ⟨by rw [HE.out]; rfl, Keeps.alloc _ _ _⟩
  have gr : ((r : Int) == 0) = true := eqb (by omega)
  have HE : Box (res = true) := hid (by rw [HB.out]; simp [ha, hb, hn, hr])
  clear HB
  clear ha hb hn hr
  go_wp2_with fail
  go_ret
  exact ⟨by rw [HE.out]; rfl, Keeps.alloc _ _ _⟩
set_option maxHeartbeats 4000000 in
theorem rest_6 (d a b n : Int) (ar : List Int) (p : Option Addr) (cp : Nat) (w : World) : Calls Tryd.prog 58 #[.agg #[.int .i64 6, .int .i64 d, .int .i64 a, .int .i64 b, .int .i64 n, .slice p ar.length cp]] w fun e w' => e = .returned (.bool (restB ⟨6, d, a, b, n, ar⟩)) ∧ Keeps [] w w' := by
  have HB : Box (restB ⟨6, d, a, b, n, ar⟩ = (decide (b = 0) && (decide (n = 0) && (decide (ar.length = 0))))) := hid (by simp [restB, cntD, cntA, cntB, cntN, cntR])
  generalize restB ⟨6, d, a, b, n, ar⟩ = res at *
  generalize ar.length = r at *
  go_enter Tryd.func58, Tryd.ntmps58
  go_upto_region 28 with fail
  by_cases hb : b = 0
  case neg =>
    have gb : (b == 0) = false := neb (by omega)
    have HE : Box (res = false) := hid (by rw [HB.out]; simp [hb])
    clear HB
    clear hb
    go_wp2_with fail
    go_ret
    exact ⟨by rw [HE.out]; rfl, Keeps.alloc _ _ _⟩
  have gb : (b == 0) = true := eqb (by omega)
  by_cases hn : n = 0
  case neg =>
    have gn : (n == 0) = false := neb (by omega)
    have HE : Box (res = false) := hid (by rw [HB.out]; simp [hb, hn])
    clear HB
    clear hb hn
    go_wp2_with fail
    go_ret
    exact ⟨by rw [HE.out]; rfl, Keeps.alloc _ _ _⟩
  have gn : (n == 0) = true := eqb (by omega)
  by_cases hr : r = 0
  case neg =>
    have gr : ((r : Int) == 0) = false := neb (by omega)
    have HE : Box (res = false) := hid (by rw [HB.out]; simp [hb, hn, hr])
    clear HB
    clear hb hn hr
    go_wp2_with fail
    go_ret
    exact ⟨by rw [HE.out]; rfl, Keeps.alloc _ _ _⟩
  have gr : ((r : Int) == 0) = true := eqb (by omega)
  have HE : Box (res = true) := hid (by rw [HB.out]; simp [hb, hn, hr])
  clear HB
  clear hb hn hr
  go_wp2_with fail
  go_ret
  exact ⟨by rw [HE.out]; rfl, Keeps.alloc _ _ _⟩
set_option maxHeartbeats 4000000 in
theorem rest_7 (d a b n : Int) (ar : List Int) (p : Option Addr) (cp : Nat) (w : World) : Calls Tryd.prog 58 #[.agg #[.int .i64 7, .int .i64 d, .int .i64 a, .int .i64 b, .int .i64 n, .slice p ar.length cp]] w fun e w' => e = .returned (.bool (restB ⟨7, d, a, b, n, ar⟩)) ∧ Keeps [] w w' := by
  have HB : Box (restB ⟨7, d, a, b, n, ar⟩ = (decide (b = 0) && (decide (ar.length = 0)))) := hid (by simp [restB, cntD, cntA, cntB, cntN, cntR])
  generalize restB ⟨7, d, a, b, n, ar⟩ = res at *
  generalize ar.length = r at *
  go_enter Tryd.func58, Tryd.ntmps58
  go_upto_region 28 with fail
  by_cases hb : b = 0
  case neg =>
    have gb : (b == 0) = false := neb (by omega)
    have HE : Box (res = false) := hid (by rw [HB.out]; simp [hb])
    clear HB
    clear hb
    go_wp2_with fail
    go_ret
    exact ⟨by rw [HE.out]; rfl, Keeps.alloc _ _ _⟩
  have gb : (b == 0) = true := eqb (by omega)
  by_cases hr : r = 0
  case neg =>
    have gr : ((r : Int) == 0) = false := neb (by omega)
    have HE : Box (res = false) := hid (by rw [HB.out]; simp [hb, hr])
    clear HB
    clear hb hr
    go_wp2_with fail
    go_ret
    exact ⟨by rw [HE.out]; rfl, Keeps.alloc _ _ _⟩
  have gr : ((r : Int) == 0) = true := eqb (by omega)
  have HE : Box (res = true) := hid (by rw [HB.out]; simp [hb, hr])
  clear HB
  clear hb hr
  go_wp2_with fail
  go_ret
  exact ⟨by rw [HE.out]; rfl, Keeps.alloc _ _ _⟩
set_option maxHeartbeats 4000000 in
theorem rest_8 (d a b n : Int) (ar : List Int) (p : Option Addr) (cp : Nat) (w : World) : Calls Tryd.prog 58 #[.agg #[.int .i64 8, .int .i64 d, .int .i64 a, .int .i64 b, .int .i64 n, .slice p ar.length cp]] w fun e w' => e = .returned (.bool (restB ⟨8, d, a, b, n, ar⟩)) ∧ Keeps [] w w' := by
  have HB : Box (restB ⟨8, d, a, b, n, ar⟩ = (decide (d = 0) && (decide (ar.length = 0)))) := hid (by simp [restB, cntD, cntA, cntB, cntN, cntR])
  generalize restB ⟨8, d, a, b, n, ar⟩ = res at *
  generalize ar.length = r at *
  go_enter Tryd.func58, Tryd.ntmps58
  go_upto_region 28 with fail
  by_cases hd : d = 0
  case neg =>
    have gd : (d == 0) = false := neb (by omega)
    have HE : Box (res = false) := hid (by rw [HB.out]; simp [hd])
    clear HB
    clear hd
    go_wp2_with fail
    go_ret
    exact ⟨by rw [HE.out]; rfl, Keeps.alloc _ _ _⟩
  have gd : (d == 0) = true := eqb (by omega)
  by_cases hr : r = 0
  case neg =>
    have gr : ((r : Int) == 0) = false := neb (by omega)
    have HE : Box (res = false) := hid (by rw [HB.out]; simp [hd, hr])
    clear HB
    clear hd hr
    go_wp2_with fail
    go_ret
    exact ⟨by rw [HE.out]; rfl, Keeps.alloc _ _ _⟩
  have gr : ((r : Int) == 0) = true := eqb (by omega)
  have HE : Box (res = true) := hid (by rw [HB.out]; simp [hd, hr])
  clear HB
  clear hd hr
  go_wp2_with fail
  go_ret
  exact ⟨by rw [HE.out]; rfl, Keeps.alloc _ _ _⟩
set_option maxHeartbeats 4000000 in
theorem rest_9 (d a b n : Int) (ar : List Int) (p : Option Addr) (cp : Nat) (w : World) : Calls Tryd.prog 58 #[.agg #[.int .i64 9, .int .i64 d, .int .i64 a, .int .i64 b, .int .i64 n, .slice p ar.length cp]] w fun e w' => e = .returned (.bool (restB ⟨9, d, a, b, n, ar⟩)) ∧ Keeps [] w w' := by
  have HB : Box (restB ⟨9, d, a, b, n, ar⟩ = (decide (d = 0) && (decide (b = 0) && (decide (n = 0) && (decide (ar.length = 0)))))) := hid (by simp [restB, cntD, cntA, cntB, cntN, cntR])
  generalize restB ⟨9, d, a, b, n, ar⟩ = res at *
  generalize ar.length = r at *
  go_enter Tryd.func58, Tryd.ntmps58
  go_upto_region 28 with fail
  by_cases hd : d = 0
  case neg =>
    have gd : (d == 0) = false := neb (by omega)
    have HE : Box (res = false) := hid (by rw [HB.out]; simp [hd])
    clear HB
    clear hd
    go_wp2_with fail
    go_ret
    exact ⟨by rw [HE.out]; rfl, Keeps.alloc _ _ _⟩
  have gd : (d == 0) = true := eqb (by omega)
  by_cases hb : b = 0
  case neg =>
    have gb : (b == 0) = false := neb (by omega)
    have HE : Box (res = false) := hid (by rw [HB.out]; simp [hd, hb])
    clear HB
    clear hd hb
    go_wp2_with fail
    go_ret
    exact ⟨by rw [HE.out]; rfl, Keeps.alloc _ _ _⟩
  have gb : (b == 0) = true := eqb (by omega)
  by_cases hn : n = 0
  case neg =>
    have gn : (n == 0) = false := neb (by omega)
    have HE : Box (res = false) := hid (by rw [HB.out]; simp [hd, hb, hn])
    clear HB
    clear hd hb hn
    go_wp2_with fail
    go_ret
    exact ⟨by rw [HE.out]; rfl, Keeps.alloc _ _ _⟩
  have gn : (n == 0) = true := eqb (by omega)
  by_cases hr : r = 0
  case neg =>
    have gr : ((r : Int) == 0) = false := neb (by omega)
    have HE : Box (res = false) := hid (by rw [HB.out]; simp [hd, hb, hn, hr])
    clear HB
    clear hd hb hn hr
    go_wp2_with fail
    go_ret
    exact ⟨by rw [HE.out]; rfl, Keeps.alloc _ _ _⟩
  have gr : ((r : Int) == 0) = true := eqb (by omega)
  have HE : Box (res = true) := hid (by rw [HB.out]; simp [hd, hb, hn, hr])
  clear HB
  clear hd hb hn hr
  go_wp2_with fail
  go_ret
  exact ⟨by rw [HE.out]; rfl, Keeps.alloc _ _ _⟩
set_option maxHeartbeats 4000000 in
theorem rest_10 (d a b n : Int) (ar : List Int) (p : Option Addr) (cp : Nat) (w : World) : Calls Tryd.prog 58 #[.agg #[.int .i64 10, .int .i64 d, .int .i64 a, .int .i64 b, .int .i64 n, .slice p ar.length cp]] w fun e w' => e = .returned (.bool (restB ⟨10, d, a, b, n, ar⟩)) ∧ Keeps [] w w' := by
  have HB : Box (restB ⟨10, d, a, b, n, ar⟩ = (decide (a = 0) && (decide (b = 0) && (decide (ar.length = 0))))) := hid (by simp [restB, cntD, cntA, cntB, cntN, cntR])
  generalize restB ⟨10, d, a, b, n, ar⟩ = res at *
  generalize ar.length = r at *
  go_enter Tryd.func58, Tryd.ntmps58
  go_upto_region 28 with fail
  by_cases ha : a = 0
  case neg =>
    have ga : (a == 0) = false := neb (by omega)
    have HE : Box (res = false) := hid (by rw [HB.out]; simp [ha])
    clear HB
    clear ha
    go_wp2_with fail
    go_ret
    exact ⟨by rw [HE.out]; rfl, Keeps.alloc _ _ _⟩
  have ga : (a == 0) = true := eqb (by omega)
  by_cases hb : b = 0
  case neg =>
    have gb : (b == 0) = false := neb (by omega)
    have HE : Box (res = false) := hid (by rw [HB.out]; simp [ha, hb])
    clear HB
    clear ha hb
    go_wp2_with fail
    go_ret
    exact ⟨by rw [HE.out]; rfl, Keeps.alloc _ _ _⟩
  have gb : (b == 0) = true := eqb (by omega)
  by_cases hr : r = 0
  case neg =>
    have gr : ((r : Int) == 0) = false := neb (by omega)
    have HE : Box (res = false) := hid (by rw [HB.out]; simp [ha, hb, hr])
    clear HB
    clear ha hb hr
    go_wp2_with fail
    go_ret
    exact ⟨by rw [HE.out]; rfl, Keeps.alloc _ _ _⟩
  have gr : ((r : Int) == 0) = true := eqb (by omega)
  have HE : Box (res = true) := hid (by rw [HB.out]; simp [ha, hb, hr])
  clear HB
  clear ha hb hr
  go_wp2_with fail
  go_ret
  exact ⟨by rw [HE.out]; rfl, Keeps.alloc _ _ _⟩
set_option maxHeartbeats 4000000 in
theorem rest_11 (d a b n : Int) (ar : List Int) (p : Option Addr) (cp : Nat) (w : World) : Calls Tryd.prog 58 #[.agg #[.int .i64 11, .int .i64 d, .int .i64 a, .int .i64 b, .int .i64 n, .slice p ar.length cp]] w fun e w' => e = .returned (.bool (restB ⟨11, d, a, b, n, ar⟩)) ∧ Keeps [] w w' := by
  have HB : Box (restB ⟨11, d, a, b, n, ar⟩ = (decide (b = 0) && (decide (n = 0) && (decide (ar.length = 0))))) := hid (by simp [restB, cntD, cntA, cntB, cntN, cntR])
  generalize restB ⟨11, d, a, b, n, ar⟩ = res at *
  generalize ar.length = r at *
  go_enter Tryd.func58, Tryd.ntmps58
  go_upto_region 28 with fail
  by_cases hb : b = 0
  case neg =>
    have gb : (b == 0) = false := neb (by omega)
    have HE : Box (res = false) := hid (by rw [HB.out]; simp [hb])
    clear HB
    clear hb
    go_wp2_with fail
    go_ret
    exact ⟨by rw [HE.out]; rfl, Keeps.alloc _ _ _⟩
  have gb : (b == 0) = true := eqb (by omega)
  by_cases hn : n = 0
  case neg =>
    have gn : (n == 0) = false := neb (by omega)
    have HE : Box (res = false) := hid (by rw [HB.out]; simp [hb, hn])
    clear HB
    clear hb hn
    go_wp2_with fail
    go_ret
    exact ⟨by rw [HE.out]; rfl, Keeps.alloc _ _ _⟩
  have gn : (n == 0) = true := eqb (by omega)
  by_cases hr : r = 0
  case neg =>
    have gr : ((r : Int) == 0) = false := neb (by omega)
    have HE : Box (res = false) := hid (by rw [HB.out]; simp [hb, hn, hr])
    clear HB
    clear hb hn hr
    go_wp2_with fail
    go_ret
    exact ⟨by rw [HE.out]; rfl, Keeps.alloc _ _ _⟩
  have gr : ((r : Int) == 0) = true := eqb (by omega)
  have HE : Box (res = true) := hid (by rw [HB.out]; simp [hb, hn, hr])
  clear HB
  clear hb hn hr
  go_wp2_with fail
  go_ret
  exact ⟨by rw [HE.out]; rfl, Keeps.alloc _ _ _⟩
set_option maxHeartbeats 4000000 in
theorem rest_12 (d a b n : Int) (ar : List Int) (p : Option Addr) (cp : Nat) (w : World) : Calls Tryd.prog 58 #[.agg #[.int .i64 12, .int .i64 d, .int .i64 a, .int .i64 b, .int .i64 n, .slice p ar.length cp]] w fun e w' => e = .returned (.bool (restB ⟨12, d, a, b, n, ar⟩)) ∧ Keeps [] w w' := by
  have HB : Box (restB ⟨12, d, a, b, n, ar⟩ = (decide (a = 0) && (decide (b = 0)))) := hid (by simp [restB, cntD, cntA, cntB, cntN, cntR])
  generalize restB ⟨12, d, a, b, n, ar⟩ = res at *
  generalize ar.length = r at *
  go_enter Tryd.func58, Tryd.ntmps58
  go_upto_region 28 with fail
  by_cases ha : a = 0
  case neg =>
    have ga : (a == 0) = false := neb (by omega)
    have HE : Box (res = false) := hid (by rw [HB.out]; simp [ha])
    clear HB
    clear ha
    go_wp2_with fail
    go_ret
    exact ⟨by rw [HE.out]; rfl, Keeps.alloc _ _ _⟩
  have ga : (a == 0) = true := eqb (by omega)
  by_cases hb : b = 0
  case neg =>
    have gb : (b == 0) = false := neb (by omega)
    have HE : Box (res = false) := hid (by rw [HB.out]; simp [ha, hb])
    clear HB
    clear ha hb
    go_wp2_with fail
    go_ret
    exact ⟨by rw [HE.out]; rfl, Keeps.alloc _ _ _⟩
  have gb : (b == 0) = true := eqb (by omega)
  have HE : Box (res = true) := hid (by rw [HB.out]; simp [ha, hb])
  clear HB
  clear ha hb
  go_wp2_with fail
  go_ret
  exact ⟨by rw [HE.out]; rfl, Keeps.alloc _ _ _⟩
set_option maxHeartbeats 4000000 in
theorem rest_13 (d a b n : Int) (ar : List Int) (p : Option Addr) (cp : Nat) (w : World) : Calls Tryd.prog 58 #[.agg #[.int .i64 13, .int .i64 d, .int .i64 a, .int .i64 b, .int .i64 n, .slice p ar.length cp]] w fun e w' => e = .returned (.bool (restB ⟨13, d, a, b, n, ar⟩)) ∧ Keeps [] w w' := by
  have HB : Box (restB ⟨13, d, a, b, n, ar⟩ = (decide (b = 0) && (decide (n = 0)))) := hid (by simp [restB, cntD, cntA, cntB, cntN, cntR])
  generalize restB ⟨13, d, a, b, n, ar⟩ = res at *
  generalize ar.length = r at *
  go_enter Tryd.func58, Tryd.ntmps58
  go_upto_region 28 with fail
  by_cases hb : b = 0
  case neg =>
    have gb : (b == 0) = false := neb (by omega)
    have HE : Box (res = false) := hid (by rw [HB.out]; simp [hb])
    clear HB
    clear hb
    go_wp2_with fail
    go_ret
    exact ⟨by rw [HE.out]; rfl, Keeps.alloc _ _ _⟩
  have gb : (b == 0) = true := eqb (by omega)
  by_cases hn : n = 0
  case neg =>
    have gn : (n == 0) = false := neb (by omega)
    have HE : Box (res = false) := hid (by rw [HB.out]; simp [hb, hn])
    clear HB
    clear hb hn
    go_wp2_with fail
    go_ret
    exact ⟨by rw [HE.out]; rfl, Keeps.alloc _ _ _⟩
  have gn : (n == 0) = true := eqb (by omega)
  have HE : Box (res = true) := hid (by rw [HB.out]; simp [hb, hn])
  clear HB
  clear hb hn
  go_wp2_with fail
  go_ret
  exact ⟨by rw [HE.out]; rfl, Keeps.alloc _ _ _⟩
set_option maxHeartbeats 4000000 in
theorem rest_14 (d a b n : Int) (ar : List Int) (p : Option Addr) (cp : Nat) (w : World) : Calls Tryd.prog 58 #[.agg #[.int .i64 14, .int .i64 d, .int .i64 a, .int .i64 b, .int .i64 n, .slice p ar.length cp]] w fun e w' => e = .returned (.bool (restB ⟨14, d, a, b, n, ar⟩)) ∧ Keeps [] w w' := by
  have HB : Box (restB ⟨14, d, a, b, n, ar⟩ = (decide (b = 0))) := hid (by simp [restB, cntD, cntA, cntB, cntN, cntR])
  generalize restB ⟨14, d, a, b, n, ar⟩ = res at *
  generalize ar.length = r at *
  go_enter Tryd.func58, Tryd.ntmps58
  go_upto_region 28 with fail
  by_cases hb : b = 0
  case neg =>
    have gb : (b == 0) = false := neb (by omega)
    have HE : Box (res = false) := hid (by rw [HB.out]; simp [hb])
    clear HB
    clear hb
    go_wp2_with fail
    go_ret
    exact ⟨by rw [HE.out]; rfl, Keeps.alloc _ _ _⟩
  have gb : (b == 0) = true := eqb (by omega)
  have HE : Box (res = true) := hid (by rw [HB.out]; simp [hb])
  clear HB
  clear hb
  go_wp2_with fail
  go_ret
  exact ⟨by rw [HE.out]; rfl, Keeps.alloc _ _ _⟩
set_option maxHeartbeats 4000000 in
theorem rest_15 (d a b n : Int) (ar : List Int) (p : Option Addr) (cp : Nat) (w : World) : Calls Tryd.prog 58 #[.agg #[.int .i64 15, .int .i64 d, .int .i64 a, .int .i64 b, .int .i64 n, .slice p ar.length cp]] w fun e w' => e = .returned (.bool (restB ⟨15, d, a, b, n, ar⟩)) ∧ Keeps [] w w' := by
  have HB : Box (restB ⟨15, d, a, b, n, ar⟩ = (decide (d = 0) && (decide (b = 0) && (decide (n = 0) && (decide (ar.length = 0)))))) := hid (by simp [restB, cntD, cntA, cntB, cntN, cntR])
  generalize restB ⟨15, d, a, b, n, ar⟩ = res at *
  generalize ar.length = r at *
  go_enter Tryd.func58, Tryd.ntmps58
  go_upto_region 28 with fail
  by_cases hd : d = 0
  case neg =>
    have gd : (d == 0) = false := neb (by omega)
    have HE : Box (res = false) := hid (by rw [HB.out]; simp [hd])
    clear HB
    clear hd
    go_wp2_with fail
    go_ret
    exact ⟨by rw [HE.out]; rfl, Keeps.alloc _ _ _⟩
  have gd : (d == 0) = true := eqb (by omega)
  by_cases hb : b = 0
  case neg =>
    have gb : (b == 0) = false := neb (by omega)
    have HE : Box (res = false) := hid (by rw [HB.out]; simp [hd, hb])
    clear HB
    clear hd hb
    go_wp2_with fail
    go_ret
    exact ⟨by rw [HE.out]; rfl, Keeps.alloc _ _ _⟩
  have gb : (b == 0) = true := eqb (by omega)
  by_cases hn : n = 0
  case neg =>
    have gn : (n == 0) = false := neb (by omega)
    have HE : Box (res = false) := hid (by rw [HB.out]; simp [hd, hb, hn])
    clear HB
    clear hd hb hn
    go_wp2_with fail
    go_ret
    exact ⟨by rw [HE.out]; rfl, Keeps.alloc _ _ _⟩
  have gn : (n == 0) = true := eqb (by omega)
  by_cases hr : r = 0
  case neg =>
    have gr : ((r : Int) == 0) = false := neb (by omega)
    have HE : Box (res = false) := hid (by rw [HB.out]; simp [hd, hb, hn, hr])
    clear HB
    clear hd hb hn hr
    go_wp2_with fail
    go_ret
    exact ⟨by rw [HE.out]; rfl, Keeps.alloc _ _ _⟩
  have gr : ((r : Int) == 0) = true := eqb (by omega)
  have HE : Box (res = true) := hid (by rw [HB.out]; simp [hd, hb, hn, hr])
  clear HB
  clear hd hb hn hr
  go_wp2_with fail
  go_ret
  exact ⟨by rw [HE.out]; rfl, Keeps.alloc _ _ _⟩
set_option maxHeartbeats 4000000 in
theorem rest_no (o d a b n : Int) (ar : List Int) (p : Option Addr) (cp : Nat) (w : World) (hop : ¬ (1 ≤ o ∧ o ≤ 15)) : Calls Tryd.prog 58 #[.agg #[.int .i64 o, .int .i64 d, .int .i64 a, .int .i64 b, .int .i64 n, .slice p ar.length cp]] w fun e w' => e = .returned (.bool (restB ⟨o, d, a, b, n, ar⟩)) ∧ Keeps [] w w' := by
  have HE : Box (restB ⟨o, d, a, b, n, ar⟩ = false) := hid (by unfold restB; simp only []; rw [decide_eq_false hop]; rfl)
  have o1 := neb (show o ≠ 1 by omega)
  have o2 := neb (show o ≠ 2 by omega)
  have o3 := neb (show o ≠ 3 by omega)
  have o4 := neb (show o ≠ 4 by omega)
  have o5 := neb (show o ≠ 5 by omega)
  have o6 := neb (show o ≠ 6 by omega)
  have o7 := neb (show o ≠ 7 by omega)
  have o8 := neb (show o ≠ 8 by omega)
  have o9 := neb (show o ≠ 9 by omega)
  have o10 := neb (show o ≠ 10 by omega)
  have o11 := neb (show o ≠ 11 by omega)
  have o12 := neb (show o ≠ 12 by omega)
  have o13 := neb (show o ≠ 13 by omega)
  have o14 := neb (show o ≠ 14 by omega)
  have o15 := neb (show o ≠ 15 by omega)
  clear hop
  generalize restB ⟨o, d, a, b, n, ar⟩ = res at *
  generalize ar.length = N at *
  go_enter Tryd.func58, Tryd.ntmps58
  go_wp2_with fail
  go_ret
  exact ⟨by rw [HE.out]; rfl, Keeps.alloc _ _ _⟩
theorem op_cases {o : Int} (h : 1 ≤ o ∧ o ≤ 15) : o = 1 ∨ o = 2 ∨ o = 3 ∨ o = 4 ∨ o = 5 ∨ o = 6 ∨ o = 7 ∨ o = 8 ∨ o = 9 ∨ o = 10 ∨ o = 11 ∨ o = 12 ∨ o = 13 ∨ o = 14 ∨ o = 15 := by omega
theorem rest_any (x : In8) (p : Option Addr) (cp : Nat) (w : World) : Calls Tryd.prog 58 #[insV x (.slice p x.args.length cp)] w fun e w' => e = .returned (.bool (restB x)) ∧ Keeps [] w w' := by
  obtain ⟨o, d, a, b, n, ar⟩ := x
  by_cases h : 1 ≤ o ∧ o ≤ 15
  · rcases op_cases h with rfl | rfl | rfl | rfl | rfl | rfl | rfl | rfl | rfl | rfl | rfl | rfl | rfl | rfl | rfl
    · exact rest_1 d a b n ar p cp w
    · exact rest_2 d a b n ar p cp w
    · exact rest_3 d a b n ar p cp w
    · exact rest_4 d a b n ar p cp w
    · exact rest_5 d a b n ar p cp w
    · exact rest_6 d a b n ar p cp w
    · exact rest_7 d a b n ar p cp w
    · exact rest_8 d a b n ar p cp w
    · exact rest_9 d a b n ar p cp w
    · exact rest_10 d a b n ar p cp w
    · exact rest_11 d a b n ar p cp w
    · exact rest_12 d a b n ar p cp w
    · exact rest_13 d a b n ar p cp w
    · exact rest_14 d a b n ar p cp w
    · exact rest_15 d a b n ar p cp w
  · exact rest_no o d a b n ar p cp w h
end Go.Proofs.YtlopddflbhnjdaaDoor
