/-
  Contract: the statements' begun.
-/
import Derived.Test.YtngdnjlohmkbiaaDoorGRef
import Derived.Test.YtngdnjlohmkbiaaDoorGVal
import Derived.Test.YtngdnjlohmkbiaaDoorGLit
namespace Go.Proofs.YtngdnjlohmkbiaaDoor
open Go.RowKit

/-- begun's graph in memory. -/
structure H3 (w wz : World) : Prop where
  c0 : wz.cell? ⟨w.heap.size + 1 + 1 + 1, 0, none⟩ = some (.int .i64 3)
  c1 : wz.cell? ⟨w.heap.size + 1 + 1 + 1, 1, none⟩ = some (.slice (some ⟨w.heap.size + 1 + 1, 0, none⟩) 3 3)
  gr : GAt wz (w.heap.size + 3) (some ⟨w.heap.size + 1 + 1, 0, none⟩) g3
  keep : Keeps [] w wz
  le : w.heap.size + 3 < wz.heap.size
theorem H3.quiet {w wz wy : World} (h : H3 w wz) (k : Keeps [] wz wy) : H3 w wy :=
  ⟨by rw [k.cell (p := ⟨_, 0, none⟩) h.le (by simp)]; exact h.c0, by rw [k.cell (p := ⟨_, 1, none⟩) h.le (by simp)]; exact h.c1, h.gr.quiet k, h.keep.quiet k, by have := k.size; have := h.le; omega⟩
theorem h3_new (w : World) : H3 w ((((w.alloc (Obj.cells #[.int .i64 1] 3)).alloc (Obj.cells #[.int .i64 0, .int .i64 2] 3)).alloc (Obj.cells #[.slice (some ⟨w.heap.size, 0, none⟩) 1 1, .slice (some ⟨w.heap.size + 1, 0, none⟩) 2 2, .slice none 0 0] 23)).alloc (Obj.cells #[.int .i64 3, .slice (some ⟨w.heap.size + 1 + 1, 0, none⟩) 3 3] 27)) := by
  have n1 := lit_nat w [1] #[.int .i64 1] rfl
  have k1 : Keeps [] w (w.alloc (Obj.cells #[.int .i64 1] 3)) := Keeps.alloc _ _ _
  have s1 : (w.alloc (Obj.cells #[.int .i64 1] 3)).heap.size = w.heap.size + 1 := by simp
  generalize w.alloc (Obj.cells #[.int .i64 1] 3) = w1 at *
  have n2 := lit_nat w1 [0, 2] #[.int .i64 0, .int .i64 2] rfl
  have k2 : Keeps [] w1 (w1.alloc (Obj.cells #[.int .i64 0, .int .i64 2] 3)) := Keeps.alloc _ _ _
  have s2 : (w1.alloc (Obj.cells #[.int .i64 0, .int .i64 2] 3)).heap.size = w.heap.size + 1 + 1 := by simp [s1]
  have n1' := n1.kept k2 (by simp)
  rw [s1] at n2
  generalize w1.alloc (Obj.cells #[.int .i64 0, .int .i64 2] 3) = w2 at *
  have n3 := gat_lit w2 #[.slice (some ⟨w.heap.size, 0, none⟩) 1 1, .slice (some ⟨w.heap.size + 1, 0, none⟩) 2 2, .slice none 0 0] g3 (w.heap.size + 3) (by omega) (fun j hj => by
    match j, hj with
    | 0, _ => exact ⟨_, 1, rfl, InAt.up n1' (by omega)⟩
    | 1, _ => exact ⟨_, 2, rfl, InAt.up n2 (by omega)⟩
    | 2, _ => exact ⟨none, 0, rfl, .inl rfl⟩
    | j + 3, h => exact absurd h (by simp [g3]))
  have k3 : Keeps [] w2 (w2.alloc (Obj.cells #[.slice (some ⟨w.heap.size, 0, none⟩) 1 1, .slice (some ⟨w.heap.size + 1, 0, none⟩) 2 2, .slice none 0 0] 23)) := Keeps.alloc _ _ _
  have s3 : (w2.alloc (Obj.cells #[.slice (some ⟨w.heap.size, 0, none⟩) 1 1, .slice (some ⟨w.heap.size + 1, 0, none⟩) 2 2, .slice none 0 0] 23)).heap.size = w.heap.size + 1 + 1 + 1 := by simp [s2]
  rw [s2] at n3
  generalize w2.alloc (Obj.cells #[.slice (some ⟨w.heap.size, 0, none⟩) 1 1, .slice (some ⟨w.heap.size + 1, 0, none⟩) 2 2, .slice none 0 0] 23) = w3 at *
  have hb := BoxAt.new w3 3 (some ⟨w.heap.size + 1 + 1, 0, none⟩) 3 3
  have k4 : Keeps [] w3 (w3.alloc (Obj.cells #[.int .i64 3, .slice (some ⟨w.heap.size + 1 + 1, 0, none⟩) 3 3] 27)) := Keeps.alloc _ _ _
  rw [s3] at hb
  exact ⟨hb.c0, hb.c1, n3.quiet k4, ((k1.quiet k2).quiet k3).quiet k4, by simp [s3]⟩
theorem g2_new (w : World) (p q : List Nat) (xs ys : Array Value) (hx : xs = (ints p).toArray) (hy : ys = (ints q).toArray) (n m c d : Nat) (hn : n = p.length) (hm : m = q.length) :
    GAt (((w.alloc (Obj.cells xs 3)).alloc (Obj.cells ys 3)).alloc (Obj.cells #[.slice (some ⟨w.heap.size, 0, none⟩) n c, .slice (some ⟨w.heap.size + 1, 0, none⟩) m d] 23)) (w.heap.size + 3) (some ⟨w.heap.size + 1 + 1, 0, none⟩) [p, q] := by
  have n1 := lit_nat w p xs hx
  have s1 : (w.alloc (Obj.cells xs 3)).heap.size = w.heap.size + 1 := by simp
  generalize w.alloc (Obj.cells xs 3) = w1 at *
  have n2 := lit_nat w1 q ys hy
  have k2 : Keeps [] w1 (w1.alloc (Obj.cells ys 3)) := Keeps.alloc _ _ _
  have s2 : (w1.alloc (Obj.cells ys 3)).heap.size = w.heap.size + 1 + 1 := by simp [s1]
  have n1' := n1.kept k2 (by simp)
  rw [s1] at n2
  generalize w1.alloc (Obj.cells ys 3) = w2 at *
  subst hn hm
  have n3 := gat_lit w2 #[.slice (some ⟨w.heap.size, 0, none⟩) p.length c, .slice (some ⟨w.heap.size + 1, 0, none⟩) q.length d] [p, q] (w.heap.size + 3) (by omega) (fun j hj => by
    match j, hj with
    | 0, _ => exact ⟨_, c, rfl, InAt.up n1' (by omega)⟩
    | 1, _ => exact ⟨_, d, rfl, InAt.up n2 (by omega)⟩
    | j + 2, h => exact absurd h (by simp))
  rw [s2] at n3
  exact n3

set_option maxHeartbeats 4000000 in
theorem begun5_any (w : World) (hT : TabAt w) :
    Calls Tryd.prog 9 #[] w fun e w' => e = .returned (.bool true) ∧ Keeps [] w w' := by
  have HT := hid (fun wz (h : H3 w wz) => hT.kept h.keep (by simp))
  have H := hid (h3_new w)
  have HMAY := hid (fun wz (h : H3 w wz) => gmay_yes g3 sm3 (some ⟨w.heap.size + 1 + 1, 0, none⟩) 3 (w.heap.size + 3) wz h.gr)
  have HRCH := hid (fun wz (h : H3 w wz) af (ha : NAt wz wz.heap.size af [2]) => reach_any g3 sm3 (some ⟨w.heap.size + 1 + 1, 0, none⟩) 3 (w.heap.size + 3) wz h.gr (by have := h.le; omega) af 1 wz.heap.size (intsI [2]) ha (by decide) (Nat.le_refl _))
  have HPRT := hid (fun wz (h : H3 w wz) => parts_any g3 sm3 (some ⟨w.heap.size + 1 + 1, 0, none⟩) 3 (w.heap.size + 3) wz h.gr (by have := h.le; omega) (HT.out wz h))
  have HPTH := hid (fun wz (h : H3 w wz) => path_in g3 sm3 (some ⟨w.heap.size + 1 + 1, 0, none⟩) 3 (w.heap.size + 3) 0 2 wz h.gr (HT.out wz h) (by decide) (by decide))
  have HLPS := hid (fun wz (h : H3 w wz) => loops_any g3 sm3 (some ⟨w.heap.size + 1 + 1, 0, none⟩) 3 (w.heap.size + 3) wz h.gr (by have := h.le; omega))
  have HORD := hid (fun wz (h : H3 w wz) => order_in g3 sm3 (some ⟨w.heap.size + 1 + 1, 0, none⟩) 3 (w.heap.size + 3) 0 wz h.gr (by have := h.le; omega) (by decide))
  rw [val_parts] at HPRT
  rw [val_path] at HPTH
  rw [val_order] at HORD
  clear hT
  go_enter Tryd.func9, Tryd.ntmps9
  go_wp2_with fail
  generalize (((w.alloc (Obj.cells #[.int .i64 1] 3)).alloc (Obj.cells #[.int .i64 0, .int .i64 2] 3)).alloc (Obj.cells #[.slice (some ⟨w.heap.size, 0, none⟩) 1 1, .slice (some ⟨w.heap.size + 1, 0, none⟩) 2 2, .slice none 0 0] 23)).alloc (Obj.cells #[.int .i64 3, .slice (some ⟨w.heap.size + 1 + 1, 0, none⟩) 3 3] 27) = w0 at H ⊢
  refine (HMAY.out w0 H.out).mono ?_
  rintro e w1 ⟨rfl, k1⟩
  have H1 := hid (H.out.quiet k1)
  clear H k1 HMAY
  have c0 := H1.out.c0
  have c1 := H1.out.c1
  have N1 := hid (lit_nat w1 [2] #[.int .i64 2] rfl)
  have s1 : w1.heap.size + 1 = (w1.alloc (Obj.cells #[.int .i64 2] 3)).heap.size := by simp
  rw [s1] at N1
  have H2 := hid (H1.out.quiet (Keeps.alloc [] w1 (Obj.cells #[.int .i64 2] 3)))
  go_wp2_with fail
  generalize w1.alloc (Obj.cells #[.int .i64 2] 3) = w2 at N1 H2 ⊢
  refine (HRCH.out w2 H2.out _ N1.out).mono ?_
  rintro e w3 ⟨b3, rfl, hs3, k3, _⟩
  have H3' := hid (H2.out.quiet k3)
  have HALL := hid (all_any b3 _ w3 hs3 (rchS_fit sm3 _ none_ fit_none) (HT.out w3 H3'.out))
  rw [show elems (rch g3 (intsI [2])) = [2] from val_reach] at HALL
  clear c0 c1 H1 N1 s1 H2 hs3 k3 HRCH
  go_wp2_with fail
  refine HALL.out.mono ?_
  rintro e w4 ⟨v4, rfl, h4, k4⟩
  obtain ⟨a4, c4, rfl, n4, _, _⟩ := ownsRow_nat h4
  have H4 := hid (H3'.out.quiet k4)
  have N4 := hid (n4.kept (Keeps.alloc [] w4 (Obj.cells #[.int .i64 2] 3)) (by simp))
  have M4 := hid (lit_nat w4 [2] #[.int .i64 2] rfl)
  have H5 := hid (H4.out.quiet (Keeps.alloc [] w4 (Obj.cells #[.int .i64 2] 3)))
  have HEQ := hid (geq_any _ _ _ _ c4 1 _ _ _ N4.out M4.out (by decide))
  rw [decide_eq_true rfl] at HEQ
  clear h4 n4 H3' k4 HALL N4 M4
  go_wp2_with fail
  generalize w4.alloc (Obj.cells #[.int .i64 2] 3) = w5 at HEQ H5 ⊢
  refine HEQ.out.mono ?_
  rintro e w6 ⟨rfl, m6, rfl⟩
  have H6 := hid (H5.out.quiet (Keeps.drewN [] _ m6))
  clear HEQ H4 H5
  generalize w5.drewN m6 = w6 at H6 ⊢
  have c0 := H6.out.c0
  have c1 := H6.out.c1
  go_wp2_with fail
  refine (HPRT.out w6 H6.out).mono ?_
  rintro e w7 ⟨v7, vs7, rfl, h7, k7⟩
  obtain ⟨a7, c7, rfl, n7, _⟩ := h7.graph
  have H7 := hid (H6.out.quiet k7)
  have kk : Keeps [] w7 (((w7.alloc (Obj.cells #[.int .i64 0, .int .i64 1] 3)).alloc (Obj.cells #[.int .i64 2] 3)).alloc (Obj.cells #[.slice (some ⟨w7.heap.size, 0, none⟩) 2 2, .slice (some ⟨w7.heap.size + 1, 0, none⟩) 1 1] 23)) := ((Keeps.alloc [] _ _).quiet (Keeps.alloc [] _ _)).quiet (Keeps.alloc [] _ _)
  have N7 := hid (n7.quiet kk)
  have M7 := hid (g2_new w7 [0, 1] [2] #[.int .i64 0, .int .i64 1] #[.int .i64 2] rfl rfl 2 1 2 1 rfl rfl)
  have I7 := hid (H7.out.quiet kk)
  have HEA := hid (geqall_any _ _ _ _ c7 2 _ _ _ N7.out M7.out (by decide) (fun j => by
    match j with
    | 0 => decide
    | 1 => decide
    | j + 2 => simp [nb]))
  rw [decide_eq_true rfl] at HEA
  clear c0 c1 h7 n7 k7 kk N7 M7 H7 H6 HPRT
  go_wp2_with fail
  generalize ((w7.alloc (Obj.cells #[.int .i64 0, .int .i64 1] 3)).alloc (Obj.cells #[.int .i64 2] 3)).alloc (Obj.cells #[.slice (some ⟨w7.heap.size, 0, none⟩) 2 2, .slice (some ⟨w7.heap.size + 1, 0, none⟩) 1 1] 23) = w8 at I7 HEA ⊢
  refine HEA.out.mono ?_
  rintro e w9 ⟨rfl, m9, rfl⟩
  have H9 := hid (I7.out.quiet (Keeps.drewN [] _ m9))
  clear HEA I7
  generalize w8.drewN m9 = w9 at H9 ⊢
  have c0 := H9.out.c0
  have c1 := H9.out.c1
  go_wp2_with fail
  refine (HPTH.out w9 H9.out).mono ?_
  rintro e w10 ⟨v10, rfl, h10, k10⟩
  obtain ⟨a10, c10, rfl, n10, _, _⟩ := ownsRow_nat h10
  clear c0 c1 HPTH
  have H10 := hid (H9.out.quiet k10)
  have N10 := hid (n10.kept (Keeps.alloc [] w10 (Obj.cells #[.int .i64 0, .int .i64 1, .int .i64 2] 3)) (by simp))
  have M10 := hid (lit_nat w10 [0, 1, 2] #[.int .i64 0, .int .i64 1, .int .i64 2] rfl)
  have I10 := hid (H10.out.quiet (Keeps.alloc [] w10 (Obj.cells #[.int .i64 0, .int .i64 1, .int .i64 2] 3)))
  have HEQ := hid (geq_any _ _ _ _ c10 3 _ _ _ N10.out M10.out (by decide))
  rw [decide_eq_true rfl] at HEQ
  clear h10 n10 k10 N10 M10
  go_wp2_with fail
  generalize w10.alloc (Obj.cells #[.int .i64 0, .int .i64 1, .int .i64 2] 3) = x10 at HEQ I10 ⊢
  refine HEQ.out.mono ?_
  rintro e y10 ⟨rfl, m10, rfl⟩
  have J10 := hid (I10.out.quiet (Keeps.drewN [] _ m10))
  clear HEQ H10 I10
  generalize x10.drewN m10 = y10 at J10 ⊢
  have c0 := J10.out.c0
  have c1 := J10.out.c1
  clear H9
  go_wp2_with fail
  refine (HLPS.out y10 J10.out).mono ?_
  rintro e w11 ⟨b11, rfl, hs11, k11, _⟩
  have H11 := hid (J10.out.quiet k11)
  have HALL := hid (all_any b11 _ w11 hs11 (by rw [val_sccs, show loopS g3 [[0, 1], [2]] = orL none_ [0, 1] from rfl]; exact fit_orL fit_none (by simp)) (HT.out w11 H11.out))
  rw [val_loops] at HALL
  clear c0 c1 hs11 k11 HLPS J10
  go_wp2_with fail
  refine HALL.out.mono ?_
  rintro e w12 ⟨v12, rfl, h12, k12⟩
  obtain ⟨a12, c12, rfl, n12, _, _⟩ := ownsRow_nat h12
  clear HALL
  have H12 := hid (H11.out.quiet k12)
  have N12 := hid (n12.kept (Keeps.alloc [] w12 (Obj.cells #[.int .i64 0, .int .i64 1] 3)) (by simp))
  have M12 := hid (lit_nat w12 [0, 1] #[.int .i64 0, .int .i64 1] rfl)
  have I12 := hid (H12.out.quiet (Keeps.alloc [] w12 (Obj.cells #[.int .i64 0, .int .i64 1] 3)))
  have HEQ := hid (geq_any _ _ _ _ c12 2 _ _ _ N12.out M12.out (by decide))
  rw [decide_eq_true rfl] at HEQ
  clear h12 n12 k12 N12 M12
  go_wp2_with fail
  generalize w12.alloc (Obj.cells #[.int .i64 0, .int .i64 1] 3) = x12 at HEQ I12 ⊢
  refine HEQ.out.mono ?_
  rintro e y12 ⟨rfl, m12, rfl⟩
  have J12 := hid (I12.out.quiet (Keeps.drewN [] _ m12))
  clear HEQ H12 I12
  generalize x12.drewN m12 = y12 at J12 ⊢
  have c0 := J12.out.c0
  have c1 := J12.out.c1
  clear H11
  go_wp2_with fail
  refine (HORD.out y12 J12.out).mono ?_
  rintro e w13 ⟨v13, rfl, h13, k13⟩
  obtain ⟨a13, c13, rfl, n13, _, _⟩ := ownsRow_nat h13
  have H12 := J12
  clear c0 c1 HORD J12
  have H13 := hid (H12.out.quiet k13)
  have N13 := hid (n13.kept (Keeps.alloc [] w13 (Obj.cells #[.int .i64 0, .int .i64 1, .int .i64 2] 3)) (by simp))
  have M13 := hid (lit_nat w13 [0, 1, 2] #[.int .i64 0, .int .i64 1, .int .i64 2] rfl)
  have I13 := hid (H13.out.quiet (Keeps.alloc [] w13 (Obj.cells #[.int .i64 0, .int .i64 1, .int .i64 2] 3)))
  have HEQ := hid (geq_any _ _ _ _ c13 3 _ _ _ N13.out M13.out (by decide))
  rw [decide_eq_true rfl] at HEQ
  clear h13 n13 k13 N13 M13
  go_wp2_with fail
  generalize w13.alloc (Obj.cells #[.int .i64 0, .int .i64 1, .int .i64 2] 3) = x13 at HEQ I13 ⊢
  refine HEQ.out.mono ?_
  rintro e y13 ⟨rfl, m13, rfl⟩
  have J13 := hid (I13.out.quiet (Keeps.drewN [] _ m13))
  clear HEQ H13 I13
  generalize x13.drewN m13 = y13 at J13 ⊢
  have c0 := J13.out.c0
  have c1 := J13.out.c1
  clear c0 c1
  go_wp2
  go_ret
  exact ⟨rfl, J13.out.keep⟩
end Go.Proofs.YtngdnjlohmkbiaaDoor
