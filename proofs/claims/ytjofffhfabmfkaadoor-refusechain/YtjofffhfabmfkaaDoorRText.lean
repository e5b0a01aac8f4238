/-
  The names of the reasons; a refusal's text.
-/
import Derived.Test.YtjofffhfabmfkaaDoorRMem
import Derived.Test.YtjofffhfabmfkaaDoorRHand
import Derived.Test.YtjofffhfabmfkaaDoorRNext
namespace Go.Proofs.YtjofffhfabmfkaaDoor
open Go.RowKit

/-- A reason's name. -/
def nameB (y : Int) : ByteArray :=
  if y = 1 then ⟨#[98, 121, 116, 101, 115]⟩ else if y = 2 then ⟨#[98, 111, 117, 110, 100]⟩ else if y = 3 then ⟨#[110, 97, 109, 101]⟩ else if y = 4 then ⟨#[116, 121, 112, 101]⟩
  else if y = 5 then ⟨#[97, 115, 115, 105, 103, 110]⟩ else if y = 6 then ⟨#[115, 104, 97, 112, 101]⟩ else if y = 7 then ⟨#[109, 101, 116, 104, 111, 100, 115]⟩ else ⟨#[63]⟩

theorem nameB_size (y : Int) : (nameB y).size ≤ 7 := by
  unfold nameB
  repeat' split
  all_goals decide

theorem name12_any (y : Int) (w : World) : Calls Tryd.prog 12 #[.int .i64 y] w fun e w' => e = .returned (.string (nameB y)) ∧ w' = w := by
  by_cases h1 : y = 1
  · subst h1; go_enter Tryd.func12, Tryd.ntmps12; go_wp2; go_ret; exact ⟨rfl, rfl⟩
  by_cases h2 : y = 2
  · subst h2; go_enter Tryd.func12, Tryd.ntmps12; go_wp2; go_ret; exact ⟨rfl, rfl⟩
  by_cases h3 : y = 3
  · subst h3; go_enter Tryd.func12, Tryd.ntmps12; go_wp2; go_ret; exact ⟨rfl, rfl⟩
  by_cases h4 : y = 4
  · subst h4; go_enter Tryd.func12, Tryd.ntmps12; go_wp2; go_ret; exact ⟨rfl, rfl⟩
  by_cases h5 : y = 5
  · subst h5; go_enter Tryd.func12, Tryd.ntmps12; go_wp2; go_ret; exact ⟨rfl, rfl⟩
  by_cases h6 : y = 6
  · subst h6; go_enter Tryd.func12, Tryd.ntmps12; go_wp2; go_ret; exact ⟨rfl, rfl⟩
  by_cases h7 : y = 7
  · subst h7; go_enter Tryd.func12, Tryd.ntmps12; go_wp2; go_ret; exact ⟨rfl, rfl⟩
  have hn : nameB y = ⟨#[63]⟩ := by unfold nameB; rw [if_neg h1, if_neg h2, if_neg h3, if_neg h4, if_neg h5, if_neg h6, if_neg h7]
  rw [hn]
  go_enter Tryd.func12, Tryd.ntmps12
  go_wp2
  go_ret
  exact ⟨rfl, rfl⟩

theorem name13_any (y : Int) (w : World) : Calls Tryd.prog 13 #[.int .i64 y] w fun e w' => e = .returned (.string (nameB y)) ∧ w' = w := by
  by_cases h1 : y = 1
  · subst h1; go_enter Tryd.func13, Tryd.ntmps13; go_wp2; go_ret; exact ⟨rfl, rfl⟩
  by_cases h2 : y = 2
  · subst h2; go_enter Tryd.func13, Tryd.ntmps13; go_wp2; go_ret; exact ⟨rfl, rfl⟩
  by_cases h3 : y = 3
  · subst h3; go_enter Tryd.func13, Tryd.ntmps13; go_wp2; go_ret; exact ⟨rfl, rfl⟩
  by_cases h4 : y = 4
  · subst h4; go_enter Tryd.func13, Tryd.ntmps13; go_wp2; go_ret; exact ⟨rfl, rfl⟩
  by_cases h5 : y = 5
  · subst h5; go_enter Tryd.func13, Tryd.ntmps13; go_wp2; go_ret; exact ⟨rfl, rfl⟩
  by_cases h6 : y = 6
  · subst h6; go_enter Tryd.func13, Tryd.ntmps13; go_wp2; go_ret; exact ⟨rfl, rfl⟩
  by_cases h7 : y = 7
  · subst h7; go_enter Tryd.func13, Tryd.ntmps13; go_wp2; go_ret; exact ⟨rfl, rfl⟩
  have hn : nameB y = ⟨#[63]⟩ := by unfold nameB; rw [if_neg h1, if_neg h2, if_neg h3, if_neg h4, if_neg h5, if_neg h6, if_neg h7]
  rw [hn]
  go_enter Tryd.func13, Tryd.ntmps13
  go_wp2
  go_ret
  exact ⟨rfl, rfl⟩

/-- The numeral. -/
def decB (n : Int) : ByteArray := ⟨(Lib.itoa n).toArray⟩

theorem digits_len : ∀ (k u : Nat), u < 10 ^ (k + 1) → (Lib.decDigits u).length ≤ k + 1
  | 0, u, h => by rw [Lib.decDigits, dif_pos (by omega)]; simp
  | k + 1, u, h => by
    rw [Lib.decDigits]
    by_cases c : u < 10
    · rw [dif_pos c]; simp
    · rw [dif_neg c]
      have := digits_len k (u / 10) (by rw [Nat.pow_succ] at h; omega)
      simp
      omega
theorem decB_size (n : Int) (h0 : -9223372036854775808 ≤ n) (h1 : n ≤ 9223372036854775807) : (decB n).size ≤ 20 := by
  show (Lib.itoa n).toArray.size ≤ 20
  rw [List.size_toArray]
  unfold Lib.itoa
  by_cases c : n < 0
  · rw [if_pos c]
    have := digits_len 18 n.natAbs (by omega)
    simp
    omega
  · rw [if_neg c]
    have := digits_len 18 n.toNat (by omega)
    omega

/-- A number of 64 bits. -/
def wf64 (n : Int) : Prop := -9223372036854775808 ≤ n ∧ n ≤ 9223372036854775807

theorem itoa_keep (n : Int) (hn : wf64 n) (w : World) (hg : Glob w) : Calls Tryd.prog 31 #[.int .i64 n] w fun e w' => e = .returned (.string (decB n)) ∧ Keeps [] w w' :=
  (itoa_any n hn.1 hn.2 w hg.pow).mono fun e w' ⟨he, k, os, hw⟩ => ⟨he, by rw [hw]; exact Keeps.grow w k os⟩

def atB : ByteArray := ⟨#[32, 97, 116, 32]⟩
def dotB : ByteArray := ⟨#[46]⟩

/-- A refusal's text. -/
def textB (y f b i : Int) : ByteArray := if 0 ≤ f then nameB y ++ atB ++ decB f ++ dotB ++ decB b ++ dotB ++ decB i else nameB y

theorem add_str (x y : ByteArray) (hx : x.size ≤ 1000) (hy : y.size ≤ 1000) (w : World) : (binOp .add 9 (.string x) (.string y)).run Tryd.prog w = .ok (.string (x ++ y)) w := by
  simp [binOp, Op.stringOp]
  omega
end Go.Proofs.YtjofffhfabmfkaaDoor
