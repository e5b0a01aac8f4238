/-
  IrNone: no program.
-/
import Derived.Test.YtknkjblifgppjaaDoorIBegun
import Derived.Test.YtknkjblifgppjaaDoorIAt
namespace Go.Proofs.YtknkjblifgppjaaDoor
open Go.RowKit Go.Shelf

theorem line0 : lineB zero8 = ⟨#[63]⟩ := rfl
set_option maxRecDepth 20000 in
set_option maxHeartbeats 8000000 in
theorem irNone_walk (w : World) (hg : Glob w) : Calls Tryd.prog 6 #[] w fun e w' => e = .returned (.bool true) ∧ Keeps [] w w' := by
  have HG := hid hg
  have ok0 : InOk zero8 := by
    have b0 : b64 0 := by unfold b64; omega
    exact ⟨b0, b0, b0, b0, b0, fun z hz => by cases hz⟩
  have HA := hid (at_nil 0 w)
  have HB := hid fun (w' : World) (k : Keeps [] w w') => begun_any w' (HG.out.quiet k)
  have HP := hid fun (w' : World) => points_nil w'
  have HN := hid fun (w' : World) => number_nil 0 0 0 w'
  have HX := hid fun (w' : World) => next_nil 0 w'
  have HT := hid fun (w' : World) => print_nil w'
  have HL := hid fun (w' : World) (k : Keeps [] w w') => line_any zero8 none 0 ok0 w' (HG.out.quiet k) ⟨.inl rfl, by decide⟩
  rw [line0] at HL
  unfold noAt at HA
  unfold insV zero8 at HL HA
  unfold ptV at HN
  clear hg ok0
  go_enter Tryd.func6, Tryd.ntmps6
  go_wp2_with fail
  refine HA.out.mono ?_
  rintro e w1 ⟨rfl, k1⟩
  go_wp2_with fail
  have K1 := k1.quiet (Keeps.alloc [] w1 (.cells #[.int .i64 0, .int .i64 0, .int .i64 0, .int .i64 0, .int .i64 0, .slice none 0 0] 34))
  generalize w1.alloc (.cells #[.int .i64 0, .int .i64 0, .int .i64 0, .int .i64 0, .int .i64 0, .slice none 0 0] 34) = w2 at *
  clear k1
  refine (HB.out _ K1).mono ?_
  rintro e w3 ⟨rfl, k3⟩
  have K3 := K1.quiet k3
  clear k3 K1
  go_wp2_with fail
  refine (HP.out _).mono ?_
  rintro e w4 ⟨rfl, rfl⟩
  go_wp2_with fail
  refine (HN.out _).mono ?_
  rintro e w5 ⟨rfl, k5⟩
  have K5 := K3.quiet k5
  clear k5 K3
  go_wp2_with fail
  refine (HX.out _).mono ?_
  rintro e w6 ⟨rfl, k6⟩
  have K6 := K5.quiet k6
  clear k6 K5
  go_wp2_with fail
  refine (HT.out _).mono ?_
  rintro e w7 ⟨rfl, rfl⟩
  go_wp2_with fail
  refine (HL.out _ K6).mono ?_
  rintro e w8 ⟨rfl, k8⟩
  have K8 := K6.quiet k8
  go_wp2_with fail
  go_ret
  exact ⟨rfl, K8⟩
end Go.Proofs.YtknkjblifgppjaaDoor
