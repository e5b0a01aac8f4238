/-
  Plain runs: too many frames.
-/
import Derived.Test.YtgmbkiagdhjpnaaGreatDoorU26
namespace Go.Proofs.YtgmbkiagdhjpnaaGreatDoor
open Go.RowKit
theorem brD:∀ n,n<21→(Zi (prD n) (60 * (n+3)) (ma0 (prD n) [])).1=6∧zhP (prD n) (Zi (prD n) (60 * (n+3)) (ma0 (prD n) [])).2.top.f (Zi (prD n) (60 * (n+3)) (ma0 (prD n) [])).2.top.b (Zi (prD n) (60 * (n+3)) (ma0 (prD n) [])).2.top.i=(n:Int)+1∧(Zi (prD n) (60 * (n+3)) (ma0 (prD n) [])).2.bot.length=59:=by decide +kernel
end Go.Proofs.YtgmbkiagdhjpnaaGreatDoor
