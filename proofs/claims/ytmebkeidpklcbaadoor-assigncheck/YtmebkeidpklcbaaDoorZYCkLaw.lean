/-
  AssignCheck: the walk.
-/
import Derived.Test.YtmebkeidpklcbaaDoorZ36
import Derived.Test.YtmebkeidpklcbaaDoorZ39
import Derived.Test.YtmebkeidpklcbaaDoorZ04
import Derived.Deep.RegionWith
namespace Go.Proofs.YtmebkeidpklcbaaDoor
open Go.RowKit

set_option maxRecDepth 20000 in
set_option maxHeartbeats 4000000 in
theorem ck_in {w : World} {pb po : Nat} {P : Pr8} (hg : Glob w) (hT : TabAt w) (h : PrC w pb po P) : Calls Tryd.prog 5 #[.pointer (some ⟨pb, po, none⟩)] w fun e w' => e = .returned (.bool true) ∧ Keeps [] w w' := by
  have HG := hid hg
  have HT := hid hT
  have HP := hid h
  have HB := hid (begun11_any w hg hT)
  have HR := hid fun (w' : World) (k : Keeps [] w w') => right_any (PrC.stays _ _ _ _ _ k h)
  clear hg hT h
  go_enter Tryd.func5, Tryd.ntmps5
  go_wp2_with fail
  refine HB.out.mono ?_
  rintro e w1 ⟨rfl, k1⟩
  have K1 := hid k1
  clear HB k1
  go_wp2_with fail
  refine (HR.out _ K1.out).mono ?_
  rintro e w2 ⟨ok, rfl, hok, k2⟩
  have K2 := hid (K1.out.quiet k2)
  have HOK := hid hok
  clear k2 hok HR
  cases ok with
  | false =>
    go_wp2_with fail
    go_ret
    exact ⟨rfl, K2.out⟩
  | true =>
    have hrt := HOK.out rfl
    have HRT := hid hrt
    have HFS : Box ((pts P).find? (badP P) = (pts P).find? (rbadP P)) := hid (find_same hrt.nm hrt.sz.bk hrt.sz.rg)
    have HA := hid (rassign_any (PrC.stays _ _ _ _ _ K2.out HP.out) hrt.sm hrt.few hrt.nm hrt.sz.rg)
    have HC := hid fun (w' : World) (k : Keeps [] w w') => check_any (PrC.stays _ _ _ _ _ k HP.out) (HT.out.kept k (by simp)) hrt.sz
    rw [HFS.out] at HC
    clear hrt HOK HFS HP
    go_wp2_with fail
    refine HA.out.mono ?_
    intro e w3 h3
    cases hf : (pts P).find? (rbadP P) with
    | none =>
      rw [hf] at h3 HC
      obtain ⟨rfl, k3⟩ := h3
      have K3 := hid ((K2.out.quiet k3).quiet (Keeps.alloc [] w3 (.cells #[.int .i64 (-1), .int .i64 0, .int .i64 0] 43)))
      clear k3 hf HA
      go_upto_region 7 with fail
      generalize w3.alloc (.cells #[.int .i64 (-1), .int .i64 0, .int .i64 0] 43) = W3 at *
      go_wp2_with fail
      refine (HC.out _ K3.out).mono ?_
      rintro e w4 ⟨rfl, k4⟩
      have K4 := hid (K3.out.quiet k4)
      clear k4
      go_wp2_with fail
      go_ret
      exact ⟨rfl, K4.out⟩
    | some q =>
      rw [hf] at h3 HC
      obtain ⟨f, b, i⟩ := q
      obtain ⟨rfl, k3⟩ := h3
      have ka := Keeps.alloc [] w3 (.cells #[.int .i64 (f : Int), .int .i64 (b : Int), .int .i64 (i : Int)] 43)
      have HN := hid (heap_new w3 (.cells #[.int .i64 (f : Int), .int .i64 (b : Int), .int .i64 (i : Int)] 43))
      have K3 := hid ((K2.out.quiet k3).quiet ka)
      clear k3 ka hf HA
      go_upto_region 9 with fail
      generalize w3.alloc (.cells #[.int .i64 (f : Int), .int .i64 (b : Int), .int .i64 (i : Int)] 43) = W3 at *
      generalize w3.heap.size = qb at *
      have c0 := hcell HN.out 0
      have c1 := hcell HN.out 1
      have c2 := hcell HN.out 2
      go_cut [2] (fun t2 wz => t2 = .bool true ∧ Box (Keeps [] w wz))
      case first =>
        go_region_with (first
          | (go_at_call 21; refine (HC.out _ (K3.out.quiet (Keeps.drewN [] _ _))).mono ?_; rintro e w5 ⟨p5, rfl, h5, k5⟩; have d0 := cell_stays k5 c0; have d1 := cell_stays k5 c1; have d2 := cell_stays k5 c2)
          | (go_at_call 15; refine (says_at (HG.out.quiet (K3.out.quiet ((Keeps.drewN [] _ _).quiet k5))) h5 (by decide)).mono ?_; rintro e w6 ⟨rfl, k6⟩))
        all_goals
          go_wp2_with fail
          go_meet
          exact ⟨rfl, hid (K3.out.quiet ((Keeps.drewN [] _ _).quiet (k5.quiet k6)))⟩
      case rest =>
        obtain ⟨rfl, HK⟩ := hcut
        go_wp2_with fail
        go_ret
        exact ⟨rfl, HK.out⟩
theorem ck_nil (w : World) (hg : Glob w) (hT : TabAt w) : Calls Tryd.prog 5 #[.pointer none] w fun e w' => e = .returned (.bool true) ∧ Keeps [] w w' := by
  have HB := hid (begun11_any w hg hT)
  clear hg hT
  go_enter Tryd.func5, Tryd.ntmps5
  go_wp2_with fail
  refine HB.out.mono ?_
  rintro e w1 ⟨rfl, k1⟩
  have K1 := hid k1
  clear HB k1
  go_wp2_with fail
  refine (right_nil _).mono ?_
  rintro e w2 ⟨rfl, k2⟩
  have K2 := hid (K1.out.quiet k2)
  clear k2
  go_wp2_with fail
  go_ret
  exact ⟨rfl, K2.out⟩
theorem ck_walk (v : Value) (w : World) (hg : Glob w) (hT : TabAt w) (hp : ProgAt 17592186044416 w v) : Calls Tryd.prog 5 #[v] w fun e w' => e = .returned (.bool true) ∧ Keeps [] w w' := by
  rcases hp with rfl | ⟨b, o, P, rfl, h, _⟩
  · exact ck_nil w hg hT
  · exact ck_in hg hT h
end Go.Proofs.YtmebkeidpklcbaaDoor
