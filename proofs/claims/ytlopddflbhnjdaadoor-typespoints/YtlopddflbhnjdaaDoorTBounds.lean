/-
  types.Bounds.
-/
import Derived.Test.YtlopddflbhnjdaaDoorTSite
namespace Go.Proofs.YtlopddflbhnjdaaDoor
open Go.RowKit

set_option maxRecDepth 20000 in
set_option maxHeartbeats 8000000 in
theorem bounded_any {w : World} {pb po : Nat} {P : Pr8} (h : PrC w pb po P) : Calls Tryd.prog 23 #[.pointer (some ⟨pb, po, none⟩)] w fun e w' => e = .returned (.bool (bndB P)) ∧ Keeps [] w w' := by
  have HP := hid h
  obtain ⟨a0, p0, c0, v0⟩ := SlC.val h.c0
  have C0 : Box (∀ w', Keeps [] w w' → w'.cell? ⟨pb, po, none⟩ = some (.slice a0 P.recs.length p0)) := hid fun w' k => cell_stays k c0
  have H0 := hid fun (w' : World) (k : Keeps [] w w') => each_rec (v0.keeps (SlC.stays TyC.stays) k) 6 recB (by omega) fun w3 v z kk hv => good_rec hv
  obtain ⟨a1, p1, c1, v1⟩ := SlC.val h.c1
  have C1 : Box (∀ w', Keeps [] w w' → w'.cell? ⟨pb, po + 1, none⟩ = some (.slice a1 P.sigs.length p1)) := hid fun w' k => cell_stays k c1
  have H1 := hid fun (w' : World) (k : Keeps [] w w') => each_sig (v1.keeps (SgC.stays) k) 10 sigB (by omega) fun w3 v z kk hv => good_sig hv
  obtain ⟨a2, p2, c2, v2⟩ := SlC.val h.c2
  have C2 : Box (∀ w', Keeps [] w w' → w'.cell? ⟨pb, po + 2, none⟩ = some (.slice a2 P.ifs.length p2)) := hid fun w' k => cell_stays k c2
  have H2 := hid fun (w' : World) (k : Keeps [] w w') => each_iface (v2.keeps (IntsC.stays) k) 4 ifB (by omega) fun w3 v z kk hv => good_iface hv
  obtain ⟨a3, p3, c3, v3⟩ := SlC.val h.c3
  have C3 : Box (∀ w', Keeps [] w w' → w'.cell? ⟨pb, po + 3, none⟩ = some (.slice a3 P.ims.length p3)) := hid fun w' k => cell_stays k c3
  have H3 := hid fun (w' : World) (k : Keeps [] w w') => each_impl (v3.keeps (ImC.stays) k) 12 imB (by omega) fun w3 v z kk hv => good_impl hv
  obtain ⟨a4, p4, c4, v4⟩ := SlC.val h.c4
  have C4 : Box (∀ w', Keeps [] w w' → w'.cell? ⟨pb, po + 4, none⟩ = some (.slice a4 P.funcs.length p4)) := hid fun w' k => cell_stays k c4
  have H4 := hid fun (w' : World) (k : Keeps [] w w') => each_func (v4.keeps (FuC.stays) k) 12 fnB (by omega) fun w3 v z kk hv => good_func kk hv
  have HPT := hid fun (w' : World) (k : Keeps [] w w') (hs : lenB P.funcs 12 fnB = true) => points_any (PrC.stays _ _ _ _ _ k HP.out) (tabB_sm hs)
  have HST := hid fun (w' : World) (k : Keeps [] w w') (hs : lenB P.funcs 12 fnB = true) => sites_any (PrC.stays _ _ _ _ _ k HP.out) (tabB_sm hs)
  have hNs := fun (hs : lenB P.funcs 12 fnB = true) => (tabB_sm hs).pts
  have hSs := sitesN_le P (pts P)
  have HE : Box (bndB P = (tabB P && (decide ((pts P).length ≤ 600) && decide (sitesN P (pts P) ≤ 40)))) := hid rfl
  have HT : Box (tabB P = (decide (0 < P.funcs.length) && (lenB P.recs 6 recB && (lenB P.sigs 10 sigB && (lenB P.ifs 4 ifB && (lenB P.ims 12 imB && lenB P.funcs 12 fnB)))))) := hid rfl
  rw [HT.out] at HE
  clear h HT HP v0 v1 v2 v3 v4 c0 c1 c2 c3 c4
  generalize bndB P = res at *
  generalize lenB P.recs 6 recB = r0 at *
  generalize lenB P.sigs 10 sigB = r1 at *
  generalize lenB P.ifs 4 ifB = r2 at *
  generalize lenB P.ims 12 imB = r3 at *
  generalize lenB P.funcs 12 fnB = r4 at *
  generalize hNN : (pts P).length = NN at *
  generalize sitesN P (pts P) = SS at *
  generalize P.recs.length = n0 at *
  generalize P.sigs.length = n1 at *
  generalize P.ifs.length = n2 at *
  generalize P.ims.length = n3 at *
  generalize P.funcs.length = n4 at *
  have d4 := C4.out _ (Keeps.refl _ _)
  have HNN := hid hNN
  clear hNN
  by_cases hpos : 0 < n4
  case neg =>
    have hpos' : ¬ (0 : Int) < (n4 : Int) := by omega
    have HR : Box (res = false) := hid (by rw [HE.out]; simp [hpos])
    clear HE
    go_enter Tryd.func23, Tryd.ntmps23
    go_wp2_with fail
    go_ret
    exact ⟨by rw [HR.out]; rfl, Keeps.refl _ _⟩
  have hpos' : (0 : Int) < (n4 : Int) := by omega
  have HE1 : Box (res = (r0 && (r1 && (r2 && (r3 && (r4 && (decide (NN ≤ 600) && decide (SS ≤ 40)))))))) := hid (by rw [HE.out]; simp [hpos, Bool.and_assoc])
  clear HE hpos
  have d0 := C0.out _ (Keeps.refl _ _)
  go_enter Tryd.func23, Tryd.ntmps23
  go_wp2_with fail
  have K0 := hid (Keeps.refl [] w)
  refine (H0.out _ K0.out).mono ?_
  rintro e w1 ⟨rfl, k1⟩
  have K1 := hid (K0.out.quiet k1)
  clear k1 d0 d4
  cases r0
  case false =>
    have HR : Box (res = false) := hid (by rw [HE1.out]; simp)
    clear HE1
    go_wp2_with fail
    go_ret
    exact ⟨by rw [HR.out]; rfl, K1.out⟩
  have d1 := C1.out _ K1.out
  go_wp2_with fail
  refine (H1.out _ K1.out).mono ?_
  rintro e w2 ⟨rfl, k2⟩
  have K2 := hid (K1.out.quiet k2)
  clear k2 d1 
  cases r1
  case false =>
    have HR : Box (res = false) := hid (by rw [HE1.out]; simp)
    clear HE1
    go_wp2_with fail
    go_ret
    exact ⟨by rw [HR.out]; rfl, K2.out⟩
  have d2 := C2.out _ K2.out
  go_wp2_with fail
  refine (H2.out _ K2.out).mono ?_
  rintro e w3 ⟨rfl, k3⟩
  have K3 := hid (K2.out.quiet k3)
  clear k3 d2 
  cases r2
  case false =>
    have HR : Box (res = false) := hid (by rw [HE1.out]; simp)
    clear HE1
    go_wp2_with fail
    go_ret
    exact ⟨by rw [HR.out]; rfl, K3.out⟩
  have d3 := C3.out _ K3.out
  go_wp2_with fail
  refine (H3.out _ K3.out).mono ?_
  rintro e w4 ⟨rfl, k4⟩
  have K4 := hid (K3.out.quiet k4)
  clear k4 d3 
  cases r3
  case false =>
    have HR : Box (res = false) := hid (by rw [HE1.out]; simp)
    clear HE1
    go_wp2_with fail
    go_ret
    exact ⟨by rw [HR.out]; rfl, K4.out⟩
  have d4 := C4.out _ K4.out
  go_wp2_with fail
  refine (H4.out _ K4.out).mono ?_
  rintro e w5 ⟨rfl, k5⟩
  have K5 := hid (K4.out.quiet k5)
  clear k5 d4 
  cases r4
  case false =>
    have HR : Box (res = false) := hid (by rw [HE1.out]; simp)
    clear HE1
    go_wp2_with fail
    go_ret
    exact ⟨by rw [HR.out]; rfl, K5.out⟩
  go_wp2_with fail
  have hN9 := hNs (by first | trivial | rfl)
  refine (HPT.out _ K5.out (by first | trivial | rfl)).mono ?_
  rintro e w6 ⟨a, cp, rfl, hr, k6⟩
  have K6 := hid (K5.out.quiet k6)
  clear k6 hr hNs
  have hN8 : (NN : Int) ≤ 4500 := by omega
  have hS8 : (SS : Int) ≤ 4500 := by omega
  by_cases hN : NN ≤ 600
  case neg =>
    have hN' : ¬ (NN : Int) ≤ 600 := by omega
    have HR : Box (res = false) := hid (by rw [HE1.out]; simp [hN])
    clear HE1 hN
    go_wp2_with fail
    go_ret
    exact ⟨by rw [HR.out]; rfl, K6.out⟩
  have hN' : (NN : Int) ≤ 600 := by omega
  go_wp2_with fail
  refine (HST.out _ K6.out (by first | trivial | rfl)).mono ?_
  rintro e w7 ⟨rfl, k7⟩
  have K7 := hid (K6.out.quiet k7)
  clear k7
  by_cases hS : SS ≤ 40
  case neg =>
    have hS' : decide ((SS : Int) ≤ 40) = false := decide_eq_false (by omega)
    have HR : Box (res = false) := hid (by rw [HE1.out]; simp [hS])
    clear HE1 hS
    go_wp2_with fail
    go_ret
    exact ⟨by rw [HR.out]; rfl, K7.out⟩
  have hS' : (SS : Int) ≤ 40 := by omega
  have HR : Box (res = true) := hid (by rw [HE1.out]; simp [hS, hN])
  clear HE1 hS
  go_wp2_with fail
  go_ret
  exact ⟨by rw [HR.out]; rfl, K7.out⟩

/-- What a call tells that answers nil where it is right, else refuses. -/
def NilPost (ok : Bool) (y f b i : Int) (w : World) (e : Ending) (w' : World) : Prop := if ok then e = .returned .nilIface ∧ Keeps [] w w' else RefPost y f b i w e w'
theorem NilPost.yes {y f b i : Int} {w w' : World} {e : Ending} (h : NilPost true y f b i w e w') : e = .returned .nilIface ∧ Keeps [] w w' := h
theorem NilPost.no {y f b i : Int} {w w' : World} {e : Ending} (h : NilPost false y f b i w e w') : RefPost y f b i w e w' := h
theorem bounds_nil (w : World) : Calls Tryd.prog 12 #[.pointer none] w (RefPost 2 (-1) 0 0 w) := by
  have H := hid (refused_any 2 w)
  go_enter Tryd.func12, Tryd.ntmps12
  go_wp2_with fail
  refine H.out.mono ?_
  rintro e w1 ⟨p, rfl, h1, h2⟩
  go_wp2_with fail
  go_ret
  exact ⟨p, rfl, h1, h2⟩
theorem bounds_any {w : World} {pb po : Nat} {P : Pr8} (h : PrC w pb po P) : Calls Tryd.prog 12 #[.pointer (some ⟨pb, po, none⟩)] w (NilPost (bndB P) 2 (-1) 0 0 w) := by
  have HC := hid (bounded_any h)
  have H := hid fun (w' : World) => refused_any 2 w'
  clear h
  generalize bndB P = ok at *
  go_enter Tryd.func12, Tryd.ntmps12
  go_wp2_with fail
  refine HC.out.mono ?_
  rintro e w1 ⟨rfl, k1⟩
  have K1 := hid k1
  clear k1
  cases ok with
  | true =>
    go_wp2_with fail
    go_ret
    exact ⟨rfl, K1.out⟩
  | false =>
    go_wp2_with fail
    refine (H.out _).mono ?_
    rintro e w2 ⟨p, rfl, h1, h2⟩
    go_wp2_with fail
    go_ret
    exact ⟨p, rfl, h1, K1.out.quiet h2⟩
end Go.Proofs.YtlopddflbhnjdaaDoor
