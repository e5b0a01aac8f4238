/-
  strconv.Itoa's contract off the shelf, laid at this dump: the table of numbers, each body compared by the kernel.
-/
import Derived.Test.YtknkjblifgppjaaDoorRows
import Derived.Shelf.Strconv.Itoa3
namespace Go.Proofs.YtknkjblifgppjaaDoor
open Go.Shelf Go.RowKit

/-- This dump's numbers of what the shelf numbers. -/
def ren : Ren where
  f := fun
    | 129 => 62
    | 171 => 40
    | 243 => 49
    | 246 => 53
    | 283 => 56
    | 284 => 57
    | 285 => 58
    | 286 => 59
    | 317 => 61
    | 318 => 63
    | 319 => 64
    | 320 => 65
    | 337 => 67
    | 338 => 68
    | _ => 0
  t := fun
    | 0 => 0
    | 2 => 2
    | 3 => 3
    | 4 => 4
    | 5 => 5
    | 9 => 9
    | 20 => 20
    | 37 => 69
    | 46 => 104
    | 51 => 101
    | 53 => 93
    | 171 => 92
    | 173 => 96
    | 212 => 100
    | 213 => 102
    | 232 => 108
    | 233 => 109
    | _ => 0
  g := fun
    | 17 => 0
    | 18 => 2
    | 19 => 3
    | _ => 0

theorem lays171 : LaysM.n171 Tryd.prog ren :=
  { mixed := by kernel_rfl,
    f129 := by kernel_rfl,
    f171 := by kernel_rfl,
    f243 := by kernel_rfl,
    f246 := by kernel_rfl,
    f283 := by kernel_rfl,
    f284 := by kernel_rfl,
    f285 := by kernel_rfl,
    f286 := by kernel_rfl,
    f317 := by kernel_rfl,
    f318 := by kernel_rfl,
    f319 := by kernel_rfl,
    f320 := by kernel_rfl,
    f337 := by kernel_rfl,
    f338 := by kernel_rfl,
    t0 := by kernel_rfl,
    a0 := fun _ => by kernel_rfl,
    z0 := fun _ => by kernel_rfl,
    v0 := fun _ => by kernel_rfl,
    t2 := by kernel_rfl,
    a2 := fun _ => by kernel_rfl,
    z2 := fun _ => by kernel_rfl,
    v2 := fun _ => by kernel_rfl,
    t3 := by kernel_rfl,
    a3 := fun _ => by kernel_rfl,
    z3 := fun _ => by kernel_rfl,
    v3 := fun _ => by kernel_rfl,
    t4 := by kernel_rfl,
    a4 := fun _ => by kernel_rfl,
    z4 := fun _ => by kernel_rfl,
    v4 := fun _ => by kernel_rfl,
    t5 := by kernel_rfl,
    a5 := fun _ => by kernel_rfl,
    z5 := fun _ => by kernel_rfl,
    v5 := fun _ => by kernel_rfl,
    t9 := by kernel_rfl,
    a9 := fun _ => by kernel_rfl,
    z9 := fun _ => by kernel_rfl,
    v9 := fun _ => by kernel_rfl,
    t20 := by kernel_rfl,
    a20 := fun _ => by kernel_rfl,
    z20 := fun _ => by kernel_rfl,
    v20 := fun _ => by kernel_rfl,
    t37 := by kernel_rfl,
    a37 := fun _ => by kernel_rfl,
    z37 := fun _ => by kernel_rfl,
    v37 := fun _ => by kernel_rfl,
    t46 := by kernel_rfl,
    a46 := fun _ => by kernel_rfl,
    z46 := fun _ => by kernel_rfl,
    v46 := fun _ => by kernel_rfl,
    t51 := by kernel_rfl,
    a51 := fun _ => by kernel_rfl,
    z51 := fun _ => by kernel_rfl,
    v51 := fun _ => by kernel_rfl,
    t53 := by kernel_rfl,
    a53 := fun _ => by kernel_rfl,
    z53 := fun _ => by kernel_rfl,
    v53 := fun _ => by kernel_rfl,
    t171 := by kernel_rfl,
    a171 := fun _ => by kernel_rfl,
    z171 := fun _ => by kernel_rfl,
    v171 := fun _ => by kernel_rfl,
    t173 := by kernel_rfl,
    a173 := fun _ => by kernel_rfl,
    z173 := fun _ => by kernel_rfl,
    v173 := fun _ => by kernel_rfl,
    t212 := by kernel_rfl,
    a212 := fun _ => by kernel_rfl,
    z212 := fun _ => by kernel_rfl,
    v212 := fun _ => by kernel_rfl,
    t213 := by kernel_rfl,
    a213 := fun _ => by kernel_rfl,
    z213 := fun _ => by kernel_rfl,
    t232 := by kernel_rfl,
    a232 := fun _ => by kernel_rfl,
    z232 := fun _ => by kernel_rfl,
    v232 := fun _ => by kernel_rfl,
    t233 := by kernel_rfl,
    a233 := fun _ => by kernel_rfl,
    z233 := fun _ => by kernel_rfl,
    v233 := fun _ => by kernel_rfl,
    g17 := by kernel_rfl,
    g18 := by kernel_rfl,
    g19 := by kernel_rfl,
    i0 := by kernel_rfl,
    i2 := by kernel_rfl,
    i3 := by kernel_rfl,
    i4 := by kernel_rfl,
    i5 := by kernel_rfl,
    i9 := by kernel_rfl,
    i20 := by kernel_rfl,
    i37 := by kernel_rfl,
    i46 := by kernel_rfl,
    i51 := by kernel_rfl,
    i53 := by kernel_rfl,
    i171 := by kernel_rfl,
    i173 := by kernel_rfl,
    i212 := by kernel_rfl,
    i232 := by kernel_rfl,
    i233 := by kernel_rfl,
    m17 := by kernel_rfl,
    m18 := by kernel_rfl,
    m19 := by kernel_rfl }

/-- strconv.Itoa: the decimal numeral. -/
theorem itoa_any (n : Int) (h0 : -9223372036854775808 ≤ n) (h1 : n ≤ 9223372036854775807) (w : World) (htab : Lib.TabIs Tryd.prog w "internal/strconv.uint64pow10" .u64 Lib.pow10Tab) :
    Calls Tryd.prog 40 #[.int .i64 n] w fun e w' => e = .returned (.string ⟨(Lib.itoa n).toArray⟩) ∧ ∃ k os, w' = Sort.grow (w.drewN k) os :=
  Any.strconv_Itoa lays171 n h0 h1 w htab
end Go.Proofs.YtknkjblifgppjaaDoor
