/-
  The shelf's slices.Reverse and slices.Contains at this dump: the tables of numbers, each body compared by the kernel.
-/
import Derived.Test.YtngdnjlohmkbiaaDoorRows
import Derived.Shelf.Slices.Reverse
import Derived.Shelf.Slices.Turned
namespace Go.Proofs.YtngdnjlohmkbiaaDoor
open Go.Shelf Go.RowKit

/-- This dump's numbers of what the shelf numbers. -/
def revRen : Ren where
  f := fun
    | 112 => 48
    | _ => 0
  t := fun
    | 28 => 23
    | 3 => 3
    | 4 => 4
    | 0 => 0
    | _ => 0
  g := fun _ => 0

theorem revLays : Lays.n112 Tryd.prog revRen :=
  { mixed := by kernel_rfl,
    f112 := Tryd.func48.trans (congrArg some (by kernel_rfl)),
    t0 := Tryd.underlying0,
    a0 := Tryd.isAgg0,
    z0 := Tryd.sizeOf0,
    v0 := Tryd.zeroValue0,
    t3 := Tryd.underlying3,
    a3 := Tryd.isAgg3,
    z3 := Tryd.sizeOf3,
    v3 := Tryd.zeroValue3,
    t4 := Tryd.underlying4,
    a4 := Tryd.isAgg4,
    z4 := Tryd.sizeOf4,
    v4 := Tryd.zeroValue4,
    t28 := Tryd.underlying23,
    a28 := Tryd.isAgg23,
    z28 := Tryd.sizeOf23,
    v28 := Tryd.zeroValue23 }

/-- This dump's numbers of what the shelf numbers. -/
def conRen : Ren where
  f := fun
    | 107 => 38
    | 108 => 58
    | _ => 0
  t := fun
    | 28 => 23
    | 3 => 3
    | 4 => 4
    | 0 => 0
    | _ => 0
  g := fun _ => 0

theorem conLays : Lays.n107 Tryd.prog conRen :=
  { mixed := by kernel_rfl,
    f107 := Tryd.func38.trans (congrArg some (by kernel_rfl)),
    f108 := Tryd.func58.trans (congrArg some (by kernel_rfl)),
    t0 := Tryd.underlying0,
    a0 := Tryd.isAgg0,
    z0 := Tryd.sizeOf0,
    v0 := Tryd.zeroValue0,
    t3 := Tryd.underlying3,
    a3 := Tryd.isAgg3,
    z3 := Tryd.sizeOf3,
    v3 := Tryd.zeroValue3,
    t4 := Tryd.underlying4,
    a4 := Tryd.isAgg4,
    z4 := Tryd.sizeOf4,
    v4 := Tryd.zeroValue4,
    t28 := Tryd.underlying23,
    a28 := Tryd.isAgg23,
    z28 := Tryd.sizeOf23,
    v28 := Tryd.zeroValue23 }

end Go.Proofs.YtngdnjlohmkbiaaDoor
