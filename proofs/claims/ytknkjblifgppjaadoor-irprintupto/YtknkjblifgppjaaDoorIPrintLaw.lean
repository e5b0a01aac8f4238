/-
  IrPrint: any program is printed.
-/
import Derived.Test.YtknkjblifgppjaaDoorIBegun
import Derived.Test.YtknkjblifgppjaaDoorIRpr
import Derived.Test.YtknkjblifgppjaaDoorISm
import Derived.Test.YtknkjblifgppjaaDoorIFew
namespace Go.Proofs.YtknkjblifgppjaaDoor
open Go.RowKit Go.Shelf

set_option maxRecDepth 20000 in
set_option maxHeartbeats 8000000 in
theorem irPrint_in {w : World} {pb po : Nat} {P : Pr8} (hg : Glob w) (h : PrC w pb po P) (hf : FewP 1048576 P) : Calls Tryd.prog 5 #[.pointer (some ⟨pb, po, none⟩)] w fun e w' => e = .returned (.bool true) ∧ Keeps [] w w' := by
  have HB := hid (begun_any w hg)
  have HS := hid fun (w' : World) (k : Keeps [] w w') => small_any (PrC.stays _ _ _ _ _ k h)
  have HP := hid h
  have HF := hid hf.few
  have HG := hid hg
  clear hg h hf
  go_enter Tryd.func5, Tryd.ntmps5
  go_wp2_with fail
  refine HB.out.mono ?_
  rintro e w1 ⟨rfl, k1⟩
  go_wp2_with fail
  refine (HS.out _ k1).mono ?_
  rintro e w2 ⟨s, rfl, hw2, hs⟩
  rw [hw2]
  clear hw2
  cases s with
  | false =>
    go_wp2_with fail
    go_ret
    exact ⟨rfl, k1⟩
  | true =>
    have HSM := hid (hs rfl)
    have HPT := hid (print_any (PrC.stays _ _ _ _ _ k1 HP.out) HSM.out HF.out (HG.out.quiet k1))
    have HRP := hid fun (w' : World) (k : Keeps [] w w') => rprint_any (PrC.stays _ _ _ _ _ k HP.out) HSM.out HF.out
    clear hs HS HB
    generalize (⟨(textL P).toArray⟩ : ByteArray) = T at *
    go_wp2_with fail
    refine HPT.out.mono ?_
    rintro e w3 ⟨rfl, k3⟩
    have K3 := k1.quiet k3
    go_wp2_with fail
    refine (HRP.out _ K3).mono ?_
    rintro e w4 ⟨rfl, k4⟩
    go_wp2_with fail
    go_ret
    exact ⟨rfl, K3.quiet k4⟩
/-- No program. -/
theorem irPrint_nil (w : World) (hg : Glob w) : Calls Tryd.prog 5 #[.pointer none] w fun e w' => e = .returned (.bool true) ∧ Keeps [] w w' := by
  have HB := hid (begun_any w hg)
  have HS := hid fun (w' : World) => small_nil w'
  clear hg
  go_enter Tryd.func5, Tryd.ntmps5
  go_wp2_with fail
  refine HB.out.mono ?_
  rintro e w1 ⟨rfl, k1⟩
  go_wp2_with fail
  refine (HS.out _).mono ?_
  rintro e w2 ⟨rfl, rfl⟩
  go_wp2_with fail
  go_ret
  exact ⟨rfl, k1⟩
theorem irPrint_walk (v : Value) (w : World) (hg : Glob w) (hp : ProgAt 1048576 w v) : Calls Tryd.prog 5 #[v] w fun e w' => e = .returned (.bool true) ∧ Keeps [] w w' := by
  rcases hp with rfl | ⟨b, o, P, rfl, h1, h2⟩
  · exact irPrint_nil w hg
  · exact irPrint_in hg h1 h2
end Go.Proofs.YtknkjblifgppjaaDoor
