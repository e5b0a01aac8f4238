/-
  Contract: begun of dom's statements.
-/
import Derived.Test.YtjdcphkmaaoehaaDoorDDep
import Derived.Test.YtjdcphkmaaoehaaDoorGLit
import Derived.Test.YtjdcphkmaaoehaaDoorRef
namespace Go.Proofs.YtjdcphkmaaoehaaDoor
open Go.RowKit

/-- Is b reached from r without a? Does a stand above b? -/
def avB (g : List (List Nat)) (r a b : Nat) : Bool := (vis g (g.length + 1) r (eqB a, [])).1 b && !(b == a)
def domB (g : List (List Nat)) (r a b : Nat) : Bool := rB g r b && !avB g r a b
theorem avB_iff {g : List (List Nat)} (hg : Ok g) {r : Nat} (hr : r < g.length) (a b : Nat) : avB g r a b = true ↔ Pth g (eqB a) r b := by
  obtain ⟨N, e, h⟩ := vis_spec g hg (g.length + 1) r (eqB a) [] hr (Nat.lt_succ_of_le (un_le g _))
  unfold avB
  rw [e]
  show ((orL (eqB a) N) b && !(b == a)) = true ↔ _
  rw [Bool.and_eq_true, orL_true]
  have hi := h.iff b
  constructor
  · rintro ⟨h1 | h1, h2⟩
    · have : (b == a) = true := h1
      rw [this] at h2
      cases h2
    · obtain ⟨n, hn, hp⟩ := hi.1 h1
      rw [List.mem_singleton.1 hn] at hp
      exact hp
  · intro hp
    have hne := eqB_false.1 hp.stop
    exact ⟨.inr (hi.2 ⟨r, by simp, hp⟩), by simp [hne]⟩
theorem domB_iff {g : List (List Nat)} (hg : Ok g) {r : Nat} (hr : r < g.length) (a b : Nat) : domB g r a b = true ↔ Dom g r a b := by
  unfold domB Dom
  rw [Bool.and_eq_true, rB_iff hg b hr, Bool.not_eq_true', ← avB_iff hg hr, Bool.not_eq_true]
theorem UAt.ints {w : World} {p N : Nat} {U : Nat → Int} (h : UAt w p N U) : IntsAt w (some ⟨p, 0, none⟩) ((List.range N).map U) := by
  refine .inr ⟨p, 0, rfl, fun i hi => ?_⟩
  rw [List.length_map, List.length_range] at hi
  rw [Nat.zero_add, h i hi, List.getD_eq_getElem?_getD, List.getElem?_map, List.getElem?_range hi]
  rfl
theorem RowAt.uat {w : World} {base p N : Nat} {U : Nat → Int} (h : RowAt w base p N 3 (numI U)) : UAt w p N U := fun _ hi => h.cell hi

def g5d : List (List Nat) := [[1, 2], [3], [3], [], []]
theorem sm5d : Sm g5d := by
  refine ⟨fun a b hb => ?_, by decide, fun j => ?_⟩
  · have h : ∀ a, a < 5 → ∀ b, b ∈ nb g5d a → b < 5 := by decide
    by_cases ha : a < 5
    · exact h a ha b hb
    · rw [nb_out (show g5d.length ≤ a from Nat.le_of_not_lt ha)] at hb; cases hb
  · have h : ∀ j, j < 5 → (nb g5d j).length ≤ 1000 := by decide
    by_cases hj : j < 5
    · exact h j hj
    · rw [nb_out (show g5d.length ≤ j from Nat.le_of_not_lt hj)]; simp
theorem val5_up {U : Nat → Int} (h : UpOf g5d 0 U) : (List.range 5).map U = [0, 0, 0, 0, -1] := by
  have hr : 0 < g5d.length := by decide
  have key : ∀ b, b < 5 → b ≠ 0 → rB g5d 0 b = true → (∀ a, a < 5 → domB g5d 0 a b = true → a = b ∨ a = 0) → U b = 0 := by
    intro b hb hne hp hd
    obtain ⟨a, h1, h2, h3, _⟩ := h.next b hb ((rB_iff sm5d.ok b hr).1 hp) hne
    rcases hd a (h3.on.lt sm5d.ok hr) ((domB_iff sm5d.ok hr a b).2 h3) with e | e
    · exact absurd e h2
    · rw [h1, e]; rfl
  have u0 : U 0 = 0 := h.root
  have u1 := key 1 (by decide) (by decide) (by decide +kernel) (by decide +kernel)
  have u2 := key 2 (by decide) (by decide) (by decide +kernel) (by decide +kernel)
  have u3 := key 3 (by decide) (by decide) (by decide +kernel) (by decide +kernel)
  have u4 : U 4 = -1 := h.out 4 (by decide) (fun q => by
    have := (rB_iff sm5d.ok 4 hr).2 q
    revert this
    decide +kernel)
  show [U 0, U 1, U 2, U 3, U 4] = _
  rw [u0, u1, u2, u3, u4]
theorem val5_dep {U D : Nat → Int} (h : UpOf g5d 0 U) (hd : DepOf g5d 0 U D) : (List.range 5).map D = [0, 1, 1, 1, -1] := by
  have hr : 0 < g5d.length := by decide
  have hu := val5_up h
  have hu' : [U 0, U 1, U 2, U 3, U 4] = [0, 0, 0, 0, -1] := hu
  injection hu' with _ h1
  injection h1 with u1 h2
  injection h2 with u2 h3
  injection h3 with u3 _
  have d0 := hd.root
  have r1 : rB g5d 0 1 = true := by decide +kernel
  have r2 : rB g5d 0 2 = true := by decide +kernel
  have r3 : rB g5d 0 3 = true := by decide +kernel
  have d1 := hd.next 1 ((rB_iff sm5d.ok 1 hr).1 r1) (by decide) 0 u1
  have d2 := hd.next 2 ((rB_iff sm5d.ok 2 hr).1 r2) (by decide) 0 u2
  have d3 := hd.next 3 ((rB_iff sm5d.ok 3 hr).1 r3) (by decide) 0 u3
  have d4 := hd.out 4 (fun q => by
    have := (rB_iff sm5d.ok 4 hr).2 q
    revert this
    decide +kernel)
  show [D 0, D 1, D 2, D 3, D 4] = _
  rw [d0, d1, d2, d3, d4, d0]
  rfl

/-- begun's graph in memory. -/
structure H5d (w wz : World) : Prop where
  c0 : wz.cell? ⟨w.heap.size + 1 + 1 + 1 + 1, 0, none⟩ = some (.int .i64 5)
  c1 : wz.cell? ⟨w.heap.size + 1 + 1 + 1 + 1, 1, none⟩ = some (.slice (some ⟨w.heap.size + 1 + 1 + 1, 0, none⟩) 5 5)
  gr : GAt wz (w.heap.size + 4) (some ⟨w.heap.size + 1 + 1 + 1, 0, none⟩) g5d
  keep : Keeps [] w wz
  le : w.heap.size + 4 < wz.heap.size
theorem H5d.quiet {w wz wy : World} (h : H5d w wz) (k : Keeps [] wz wy) : H5d w wy :=
  ⟨by rw [k.cell (p := ⟨_, 0, none⟩) h.le (by simp)]; exact h.c0, by rw [k.cell (p := ⟨_, 1, none⟩) h.le (by simp)]; exact h.c1, h.gr.quiet k, h.keep.quiet k, by have := k.size; have := h.le; omega⟩
theorem h5d_new (w : World) : H5d w (((((w.alloc (Obj.cells #[.int .i64 1, .int .i64 2] 3)).alloc (Obj.cells #[.int .i64 3] 3)).alloc (Obj.cells #[.int .i64 3] 3)).alloc (Obj.cells #[.slice (some ⟨w.heap.size, 0, none⟩) 2 2, .slice (some ⟨w.heap.size + 1, 0, none⟩) 1 1, .slice (some ⟨w.heap.size + 1 + 1, 0, none⟩) 1 1, .slice none 0 0, .slice none 0 0] 28)).alloc (Obj.cells #[.int .i64 5, .slice (some ⟨w.heap.size + 1 + 1 + 1, 0, none⟩) 5 5] 26)) := by
  have n1 := lit_nat w [1, 2] #[.int .i64 1, .int .i64 2] rfl
  have k1 : Keeps [] w (w.alloc (Obj.cells #[.int .i64 1, .int .i64 2] 3)) := Keeps.alloc _ _ _
  have s1 : (w.alloc (Obj.cells #[.int .i64 1, .int .i64 2] 3)).heap.size = w.heap.size + 1 := by simp
  generalize w.alloc (Obj.cells #[.int .i64 1, .int .i64 2] 3) = w1 at *
  have n2 := lit_nat w1 [3] #[.int .i64 3] rfl
  have k2 : Keeps [] w1 (w1.alloc (Obj.cells #[.int .i64 3] 3)) := Keeps.alloc _ _ _
  have s2 : (w1.alloc (Obj.cells #[.int .i64 3] 3)).heap.size = w.heap.size + 1 + 1 := by simp [s1]
  have n1' := n1.kept k2 (by simp)
  rw [s1] at n2
  generalize w1.alloc (Obj.cells #[.int .i64 3] 3) = w2 at *
  have n3 := lit_nat w2 [3] #[.int .i64 3] rfl
  have k3 : Keeps [] w2 (w2.alloc (Obj.cells #[.int .i64 3] 3)) := Keeps.alloc _ _ _
  have s3 : (w2.alloc (Obj.cells #[.int .i64 3] 3)).heap.size = w.heap.size + 1 + 1 + 1 := by simp [s2]
  have n1'' := n1'.kept k3 (by simp)
  have n2'' := n2.kept k3 (by simp)
  rw [s2] at n3
  generalize w2.alloc (Obj.cells #[.int .i64 3] 3) = w3 at *
  have n4 := gat_lit w3 #[.slice (some ⟨w.heap.size, 0, none⟩) 2 2, .slice (some ⟨w.heap.size + 1, 0, none⟩) 1 1, .slice (some ⟨w.heap.size + 1 + 1, 0, none⟩) 1 1, .slice none 0 0, .slice none 0 0] g5d (w.heap.size + 4) (by omega) (fun j hj => by
    match j, hj with
    | 0, _ => exact ⟨_, 2, rfl, InAt.up n1'' (by omega)⟩
    | 1, _ => exact ⟨_, 1, rfl, InAt.up n2'' (by omega)⟩
    | 2, _ => exact ⟨_, 1, rfl, InAt.up n3 (by omega)⟩
    | 3, _ => exact ⟨none, 0, rfl, .inl rfl⟩
    | 4, _ => exact ⟨none, 0, rfl, .inl rfl⟩
    | j + 5, h => exact absurd h (by simp [g5d]))
  have k4 : Keeps [] w3 (w3.alloc (Obj.cells #[.slice (some ⟨w.heap.size, 0, none⟩) 2 2, .slice (some ⟨w.heap.size + 1, 0, none⟩) 1 1, .slice (some ⟨w.heap.size + 1 + 1, 0, none⟩) 1 1, .slice none 0 0, .slice none 0 0] 28)) := Keeps.alloc _ _ _
  have s4 : (w3.alloc (Obj.cells #[.slice (some ⟨w.heap.size, 0, none⟩) 2 2, .slice (some ⟨w.heap.size + 1, 0, none⟩) 1 1, .slice (some ⟨w.heap.size + 1 + 1, 0, none⟩) 1 1, .slice none 0 0, .slice none 0 0] 28)).heap.size = w.heap.size + 1 + 1 + 1 + 1 := by simp [s3]
  rw [s3] at n4
  generalize w3.alloc (Obj.cells #[.slice (some ⟨w.heap.size, 0, none⟩) 2 2, .slice (some ⟨w.heap.size + 1, 0, none⟩) 1 1, .slice (some ⟨w.heap.size + 1 + 1, 0, none⟩) 1 1, .slice none 0 0, .slice none 0 0] 28) = w4 at *
  have hb := BoxAt.new w4 5 (some ⟨w.heap.size + 1 + 1 + 1, 0, none⟩) 5 5
  have k5 : Keeps [] w4 (w4.alloc (Obj.cells #[.int .i64 5, .slice (some ⟨w.heap.size + 1 + 1 + 1, 0, none⟩) 5 5] 26)) := Keeps.alloc _ _ _
  rw [s4] at hb
  exact ⟨hb.c0, hb.c1, n4.quiet k5, (((k1.quiet k2).quiet k3).quiet k4).quiet k5, by simp [s4]⟩
theorem lit_ints (w : World) (zs : List Int) (xs : Array Value) (hx : xs = (zs.map fun z => Value.int .i64 z).toArray) : IntsAt (w.alloc (.cells xs 3)) (some ⟨w.heap.size, 0, none⟩) zs := by
  refine .inr ⟨w.heap.size, 0, rfl, fun i hi => ?_⟩
  rw [Nat.zero_add, cell_of_row _ _ i _ _ _ (heap_alloc_new w _), hx]
  simp [List.getD_eq_getElem?_getD, List.getElem?_eq_getElem hi]

set_option maxRecDepth 20000 in
set_option maxHeartbeats 4000000 in
theorem begun6_any (w : World) :
    Calls Tryd.prog 4 #[] w fun e w' => e = .returned (.bool true) ∧ Keeps [] w w' := by
  have H := hid (h5d_new w)
  have h05 : 0 < g5d.length := by decide
  have HUP := hid (fun wz (h : H5d w wz) => up_in g5d sm5d (some ⟨w.heap.size + 1 + 1 + 1, 0, none⟩) 5 (w.heap.size + 4) 0 wz h.gr (by have := h.le; omega) h05)
  have HUQ := hid (fun wz (h : H5d w wz) => up_out g5d sm5d (some ⟨w.heap.size + 1 + 1 + 1, 0, none⟩) 5 (w.heap.size + 4) 7 wz h.gr (by decide))
  have hd1 : true = true ↔ DomI g5d 0 0 3 := ⟨fun _ => ⟨0, 3, rfl, rfl, (domB_iff sm5d.ok h05 0 3).1 (by decide +kernel)⟩, fun _ => rfl⟩
  have hd2 : false = true ↔ DomI g5d 0 1 3 := by
    constructor
    · intro h
      cases h
    · rintro ⟨i, j, h1, h2, h3⟩
      obtain rfl : i = 1 := by omega
      obtain rfl : j = 3 := by omega
      have := (domB_iff sm5d.ok h05 1 3).2 h3
      revert this
      decide +kernel
  have HA1 := hid (fun U (hU : UpOf g5d 0 U) pu wz (h : UAt wz pu 5 U) => above_any g5d sm5d 0 h05 U hU pu wz h 0 3 true hd1)
  have HA2 := hid (fun U (hU : UpOf g5d 0 U) pu wz (h : UAt wz pu 5 U) => above_any g5d sm5d 0 h05 U hU pu wz h 1 3 false hd2)
  have HDP := hid (fun U (hU : UpOf g5d 0 U) pu wz (h : UAt wz pu 5 U) (hp : pu < wz.heap.size) => depth_any g5d sm5d 0 h05 U (depU g5d 0 U) hU (depU_of sm5d.ok h05 hU) pu wz h hp)
  clear hd1 hd2 h05
  go_enter Tryd.func4, Tryd.ntmps4
  go_wp2_with fail
  generalize ((((w.alloc (Obj.cells #[.int .i64 1, .int .i64 2] 3)).alloc (Obj.cells #[.int .i64 3] 3)).alloc (Obj.cells #[.int .i64 3] 3)).alloc (Obj.cells #[.slice (some ⟨w.heap.size, 0, none⟩) 2 2, .slice (some ⟨w.heap.size + 1, 0, none⟩) 1 1, .slice (some ⟨w.heap.size + 1 + 1, 0, none⟩) 1 1, .slice none 0 0, .slice none 0 0] 28)).alloc (Obj.cells #[.int .i64 5, .slice (some ⟨w.heap.size + 1 + 1 + 1, 0, none⟩) 5 5] 26) = w0 at H ⊢
  refine (HUP.out w0 H.out).mono ?_
  rintro e w1 ⟨pu, U, rfl, r1, u1, k1⟩
  have H1 := hid (H.out.quiet k1)
  have UU := hid u1
  have R1 := hid r1.uat
  have hpu := r1.lt.2
  clear H k1 HUP u1 r1
  have ka : Keeps [] w1 (w1.alloc (Obj.cells #[.int .i64 0, .int .i64 0, .int .i64 0, .int .i64 0, .int .i64 (-1)] 3)) := Keeps.alloc _ _ _
  have R2 := hid (R1.out.kept ka (by simp))
  have M2 := hid (lit_ints w1 [0, 0, 0, 0, -1] #[.int .i64 0, .int .i64 0, .int .i64 0, .int .i64 0, .int .i64 (-1)] rfl)
  have H2 := hid (H1.out.quiet ka)
  have hpu2 : pu < (w1.alloc (Obj.cells #[.int .i64 0, .int .i64 0, .int .i64 0, .int .i64 0, .int .i64 (-1)] 3)).heap.size := Nat.lt_of_lt_of_le hpu ka.size
  have HE := hid (eq_any _ _ 5 5 ((List.range 5).map U) [0, 0, 0, 0, -1] _ R2.out.ints M2.out (by decide))
  rw [val5_up UU.out, decide_eq_true rfl] at HE
  clear H1 R1 M2 ka
  go_wp2_with fail
  generalize w1.alloc (Obj.cells #[.int .i64 0, .int .i64 0, .int .i64 0, .int .i64 0, .int .i64 (-1)] 3) = w2 at R2 H2 HE hpu2 ⊢
  refine HE.out.mono ?_
  rintro e w3 ⟨rfl, m3, rfl⟩
  have R3 := hid (R2.out.kept (Keeps.drewN [] w2 m3) (by simp))
  have H3 := hid (H2.out.quiet (Keeps.drewN [] w2 m3))
  have hpu3 : pu < (w2.drewN m3).heap.size := hpu2
  clear R2 H2 HE hpu2 hpu
  generalize w2.drewN m3 = w3 at R3 H3 hpu3 ⊢
  go_wp2_with fail
  refine (HA1.out U UU.out pu w3 R3.out).mono ?_
  intro e w4 hh
  obtain ⟨he, hw4⟩ := hh
  subst he
  rw [hw4]
  clear hw4
  go_wp2_with fail
  refine (HA2.out U UU.out pu w3 R3.out).mono ?_
  intro e w5 hh
  obtain ⟨he, hw5⟩ := hh
  subst he
  rw [hw5]
  clear hw5
  go_wp2_with fail
  refine (HDP.out U UU.out pu w3 R3.out hpu3).mono ?_
  rintro e w6 ⟨pd, rfl, r6, k6⟩
  have R6 := hid r6.uat
  have H6 := hid (H3.out.quiet k6)
  have ka : Keeps [] w6 (w6.alloc (Obj.cells #[.int .i64 0, .int .i64 1, .int .i64 1, .int .i64 1, .int .i64 (-1)] 3)) := Keeps.alloc _ _ _
  have R7 := hid (R6.out.kept ka (by simp))
  have M7 := hid (lit_ints w6 [0, 1, 1, 1, -1] #[.int .i64 0, .int .i64 1, .int .i64 1, .int .i64 1, .int .i64 (-1)] rfl)
  have H7 := hid (H6.out.quiet ka)
  have HE := hid (eq_any _ _ 5 5 ((List.range 5).map (depU g5d 0 U)) [0, 1, 1, 1, -1] _ R7.out.ints M7.out (by decide))
  rw [val5_dep UU.out (depU_of sm5d.ok (by decide) UU.out), decide_eq_true rfl] at HE
  clear R6 H6 M7 ka R7 H3 R3 r6 k6 HA1 HA2 HDP
  go_wp2_with fail
  generalize w6.alloc (Obj.cells #[.int .i64 0, .int .i64 1, .int .i64 1, .int .i64 1, .int .i64 (-1)] 3) = w7 at H7 HE ⊢
  refine HE.out.mono ?_
  rintro e w8 ⟨rfl, m8, rfl⟩
  have H8 := hid (H7.out.quiet (Keeps.drewN [] w7 m8))
  clear H7 HE
  generalize w7.drewN m8 = w8 at H8 ⊢
  have c0 := H8.out.c0
  have c1 := H8.out.c1
  go_wp2_with fail
  refine (HUQ.out w8 H8.out).mono ?_
  rintro e w9 ⟨rfl, k9⟩
  have K9 := hid (H8.out.keep.quiet k9)
  clear c0 c1 k9 H8
  go_wp2
  go_ret
  exact ⟨rfl, K9.out⟩
end Go.Proofs.YtjdcphkmaaoehaaDoor
