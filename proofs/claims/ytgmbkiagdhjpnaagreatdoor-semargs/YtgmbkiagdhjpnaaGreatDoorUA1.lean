import Derived.Test.YtgmbkiagdhjpnaaGreatDoorU01
namespace Go.Proofs.YtgmbkiagdhjpnaaGreatDoor
theorem sTA {α : Type} (l : List α) (i : Nat) (a : α) : l.toArray.setIfInBounds i a = (l.set i a).toArray := List.setIfInBounds_toArray ..
theorem sC0 {α : Type} {a b : α} {l : List α} : (a :: l).set 0 b = b :: l := List.set_cons_zero
theorem sCS {α : Type} {a b : α} {l : List α} {i : Nat} : (a :: l).set (i + 1) b = a :: l.set i b := List.set_cons_succ
end Go.Proofs.YtgmbkiagdhjpnaaGreatDoor
