/-
  TypesBounds: the limits of any program.
-/
import Derived.Test.YtlopddflbhnjdaaDoorTBegun
import Derived.Test.YtlopddflbhnjdaaDoorTSays
import Derived.Test.YtlopddflbhnjdaaDoorTRb
import Derived.Test.YtlopddflbhnjdaaDoorTOpen
namespace Go.Proofs.YtlopddflbhnjdaaDoor
open Go.RowKit

set_option maxHeartbeats 2000000 in
theorem tb_nil (w : World) (hg : Glob w) : Calls Tryd.prog 5 #[.pointer none] w fun e w' => e = .returned (.bool true) ∧ Keeps [] w w' := by
  have HG := hid hg
  have HB := hid (begun_any w hg)
  clear hg
  go_enter Tryd.func5, Tryd.ntmps5
  go_wp2_with fail
  refine HB.out.mono ?_
  rintro e w1 ⟨rfl, k1⟩
  have K1 := hid k1
  clear HB k1
  go_wp2_with fail
  refine (rbounds_nil _).mono ?_
  rintro e w2 ⟨rfl, k2⟩
  have K2 := hid (K1.out.quiet k2)
  clear k2
  go_wp2_with fail
  refine (bounds_nil _).mono ?_
  rintro e w3 ⟨p, rfl, r3, k3⟩
  have K3 := hid (K2.out.quiet k3)
  have R3 := hid r3
  clear r3 k3
  go_wp2_with fail
  refine (nowhere_any _).mono ?_
  rintro e w4 ⟨rfl, k4⟩
  have K4 := hid (K3.out.quiet k4)
  have R4 := hid (R3.out.quiet k4)
  clear k4
  go_wp2_with fail
  refine (says_now (HG.out.quiet K4.out) R4.out (by decide)).mono ?_
  rintro e w5 ⟨rfl, k5⟩
  have K5 := hid (K4.out.quiet k5)
  clear k5
  go_wp2_with fail
  go_ret
  exact ⟨rfl, K5.out⟩
set_option maxHeartbeats 2000000 in
theorem tb_in {w : World} {pb po : Nat} {P : Pr8} (hg : Glob w) (h : PrC w pb po P) : Calls Tryd.prog 5 #[.pointer (some ⟨pb, po, none⟩)] w fun e w' => e = .returned (.bool true) ∧ Keeps [] w w' := by
  have HG := hid hg
  have HB := hid (begun_any w hg)
  have H1 := hid fun (w' : World) (k : Keeps [] w w') => rbounds_any (PrC.stays _ _ _ _ _ k h)
  have H2 := hid fun (w' : World) (k : Keeps [] w w') => bounds_any (PrC.stays _ _ _ _ _ k h)
  clear hg h
  generalize bndB P = ok at *
  go_enter Tryd.func5, Tryd.ntmps5
  go_wp2_with fail
  refine HB.out.mono ?_
  rintro e w1 ⟨rfl, k1⟩
  have K1 := hid k1
  clear HB k1
  go_wp2_with fail
  refine (H1.out _ K1.out).mono ?_
  rintro e w2 ⟨rfl, k2⟩
  have K2 := hid (K1.out.quiet k2)
  clear k2
  cases ok with
  | true =>
    go_wp2_with fail
    refine (H2.out _ K2.out).mono ?_
    intro e w3 h3
    obtain ⟨rfl, k3⟩ := h3.yes
    have K3 := hid (K2.out.quiet k3)
    clear k3 h3
    go_wp2_with fail
    refine (nowhere_any _).mono ?_
    rintro e w4 ⟨rfl, k4⟩
    have K4 := hid (K3.out.quiet k4)
    clear k4
    go_wp2_with fail
    refine (says_none _ _ _ _).mono ?_
    rintro e w5 ⟨rfl, k5⟩
    have K5 := hid (K4.out.quiet k5)
    clear k5
    go_wp2_with fail
    go_ret
    exact ⟨rfl, K5.out⟩
  | false =>
    go_wp2_with fail
    refine (H2.out _ K2.out).mono ?_
    intro e w3 h3
    obtain ⟨p, rfl, r3, k3⟩ := h3.no
    have K3 := hid (K2.out.quiet k3)
    have R3 := hid r3
    clear k3 h3 r3
    go_wp2_with fail
    refine (nowhere_any _).mono ?_
    rintro e w4 ⟨rfl, k4⟩
    have K4 := hid (K3.out.quiet k4)
    have R4 := hid (R3.out.quiet k4)
    clear k4
    go_wp2_with fail
    refine (says_now (HG.out.quiet K4.out) R4.out (by decide)).mono ?_
    rintro e w5 ⟨rfl, k5⟩
    have K5 := hid (K4.out.quiet k5)
    clear k5
    go_wp2_with fail
    go_ret
    exact ⟨rfl, K5.out⟩
theorem tb_walk (v : Value) (w : World) (hg : Glob w) (hp : ProgAt 17592186044416 w v) : Calls Tryd.prog 5 #[v] w fun e w' => e = .returned (.bool true) ∧ Keeps [] w w' := by
  rcases hp with rfl | ⟨b, o, P, rfl, h, _⟩
  · exact tb_nil w hg
  · exact tb_in hg h
end Go.Proofs.YtlopddflbhnjdaaDoor
