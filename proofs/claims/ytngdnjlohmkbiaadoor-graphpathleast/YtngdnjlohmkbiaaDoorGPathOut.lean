/-
  Contract: graph's Path, where an end is no node.
-/
import Derived.Test.YtngdnjlohmkbiaaDoorGPath
namespace Go.Proofs.YtngdnjlohmkbiaaDoor
open Go.RowKit

set_option maxHeartbeats 2000000 in
theorem path_out1 (g : List (List Nat)) (hs : Sm g) (a : Option Addr) (cap B : Nat) (fr t : Int) (w : World) (hG : GAt w B a g) (hn : ¬ (0 ≤ fr ∧ fr < (g.length : Int))) :
    Calls Tryd.prog 21 #[.agg #[.int .i64 (g.length : Int), .slice a g.length cap], .int .i64 fr, .int .i64 t] w fun e w' => e = .returned (.slice none 0 0) ∧ Keeps [] w w' := by
  have hk1 : Keeps [] w (w.alloc (Obj.cells #[.int .i64 (g.length : Int), .slice a g.length cap] 27)) := Keeps.alloc _ _ _
  have HB1 := hid (BoxAt.new w (g.length : Int) a g.length cap)
  have HG1 := hid (hG.quiet hk1)
  have HC : Box (∀ w, GAt w B a g → Calls Tryd.prog 24 #[.agg #[.int .i64 (g.length : Int), .slice a g.length cap]] w fun e w' => e = .returned (.bool true) ∧ Keeps [] w w') := hid (fun w => gmay_yes g hs a cap B w)
  have H1 := hid (fun w1 => ghas_no (g.length : Int) fr a g.length cap w1 hn)
  clear hG hs hn
  go_enter Tryd.func21, Tryd.ntmps21
  go_wp2_with fail
  generalize w.alloc (Obj.cells #[.int .i64 (g.length : Int), .slice a g.length cap] 27) = w1 at hk1 HB1 HG1 ⊢
  refine (HC.out w1 HG1.out).mono ?_
  rintro e w2 ⟨rfl, hk2⟩
  have HB2 := HB1.out.kept hk2 (by simp)
  have hc0 := HB2.c0
  have hc1 := HB2.c1
  clear HB2 HB1 HG1 HC
  go_wp2_with fail
  refine (H1.out w2).mono ?_
  rintro e w3 ⟨rfl, hk3⟩
  go_wp2
  go_ret
  exact ⟨rfl, (hk1.quiet hk2).quiet hk3⟩

set_option maxHeartbeats 2000000 in
theorem path_out2 (g : List (List Nat)) (hs : Sm g) (a : Option Addr) (cap B : Nat) (fr t : Int) (w : World) (hG : GAt w B a g) (hf : 0 ≤ fr ∧ fr < (g.length : Int)) (hn : ¬ (0 ≤ t ∧ t < (g.length : Int))) :
    Calls Tryd.prog 21 #[.agg #[.int .i64 (g.length : Int), .slice a g.length cap], .int .i64 fr, .int .i64 t] w fun e w' => e = .returned (.slice none 0 0) ∧ Keeps [] w w' := by
  have hk1 : Keeps [] w (w.alloc (Obj.cells #[.int .i64 (g.length : Int), .slice a g.length cap] 27)) := Keeps.alloc _ _ _
  have HB1 := hid (BoxAt.new w (g.length : Int) a g.length cap)
  have HG1 := hid (hG.quiet hk1)
  have HC : Box (∀ w, GAt w B a g → Calls Tryd.prog 24 #[.agg #[.int .i64 (g.length : Int), .slice a g.length cap]] w fun e w' => e = .returned (.bool true) ∧ Keeps [] w w') := hid (fun w => gmay_yes g hs a cap B w)
  have H1 := hid (fun w1 => ghas_yes (g.length : Int) fr a g.length cap w1 hf.1 hf.2)
  have H2 := hid (fun w1 => ghas_no (g.length : Int) t a g.length cap w1 hn)
  clear hG hs hn hf
  go_enter Tryd.func21, Tryd.ntmps21
  go_wp2_with fail
  generalize w.alloc (Obj.cells #[.int .i64 (g.length : Int), .slice a g.length cap] 27) = w1 at hk1 HB1 HG1 ⊢
  refine (HC.out w1 HG1.out).mono ?_
  rintro e w2 ⟨rfl, hk2⟩
  have HB2 := hid (HB1.out.kept hk2 (by simp))
  have hc0 := HB2.out.c0
  have hc1 := HB2.out.c1
  clear HB1 HG1 HC
  go_wp2_with fail
  refine (H1.out w2).mono ?_
  rintro e w3 ⟨rfl, hk3⟩
  have HB3 := HB2.out.kept hk3 (by simp)
  clear hc0 hc1 HB2
  have hc0 := HB3.c0
  have hc1 := HB3.c1
  clear HB3
  go_wp2_with fail
  refine (H2.out w3).mono ?_
  rintro e w4 ⟨rfl, hk4⟩
  go_wp2
  go_ret
  exact ⟨rfl, ((hk1.quiet hk2).quiet hk3).quiet hk4⟩

/-- Path from a node to any number: what it leaves. -/
theorem path_quiet (g : List (List Nat)) (hs : Sm g) (a : Option Addr) (cap B fr : Nat) (t : Int) (w : World) (hG : GAt w B a g) (hT : TabAt w) (hf : fr < g.length) :
    Calls Tryd.prog 21 #[.agg #[.int .i64 (g.length : Int), .slice a g.length cap], .int .i64 (fr : Int), .int .i64 t] w fun e w' => (∃ v, e = .returned v) ∧ Keeps [] w w' := by
  by_cases h : 0 ≤ t ∧ t < (g.length : Int)
  · obtain ⟨m, rfl⟩ := Int.eq_ofNat_of_zero_le h.1
    refine (path_in g hs a cap B fr m w hG hT hf (by omega)).mono ?_
    rintro e w' ⟨v, rfl, _, k⟩
    exact ⟨⟨v, rfl⟩, k⟩
  · refine (path_out2 g hs a cap B fr t w hG (by omega) h).mono ?_
    rintro e w' ⟨rfl, k⟩
    exact ⟨⟨_, rfl⟩, k⟩
theorem order_quiet (g : List (List Nat)) (hs : Sm g) (a : Option Addr) (cap B : Nat) (t : Int) (w : World) (hG : GAt w B a g) (hB : B ≤ w.heap.size) :
    Calls Tryd.prog 27 #[.agg #[.int .i64 (g.length : Int), .slice a g.length cap], .int .i64 t] w fun e w' => (∃ v, e = .returned v) ∧ Keeps [] w w' := by
  by_cases h : 0 ≤ t ∧ t < (g.length : Int)
  · obtain ⟨m, rfl⟩ := Int.eq_ofNat_of_zero_le h.1
    refine (order_in g hs a cap B m w hG hB (by omega)).mono ?_
    rintro e w' ⟨v, rfl, _, k⟩
    exact ⟨⟨v, rfl⟩, k⟩
  · refine (order_out g hs a cap B t w hG h).mono ?_
    rintro e w' ⟨rfl, k⟩
    exact ⟨⟨_, rfl⟩, k⟩
end Go.Proofs.YtngdnjlohmkbiaaDoor
