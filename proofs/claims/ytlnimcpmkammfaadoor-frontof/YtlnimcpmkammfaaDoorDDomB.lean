/-
  Who stands above whom, decided; the list of who stands next above, to be read.
-/
import Derived.Test.YtlnimcpmkammfaaDoorDAbove
import Derived.Test.YtlnimcpmkammfaaDoorGLit
import Derived.Test.YtlnimcpmkammfaaDoorRef
namespace Go.Proofs.YtlnimcpmkammfaaDoor
open Go.RowKit

/-- The list of who stands next above, to be read. -/
def UAt (w : World) (pu N : Nat) (U : Nat → Int) : Prop := ∀ i, i < N → w.cell? ⟨pu, i, none⟩ = some (.int .i64 (U i))
theorem UAt.kept {w w' : World} {pu N : Nat} {U : Nat → Int} {L : List Nat} (h : UAt w pu N U) (k : Keeps L w w') (hp : pu ∉ L) : UAt w' pu N U := by
  intro i hi
  have hc := h i hi
  rw [k.cell (p := ⟨pu, i, none⟩) (block_lt_of_cell hc) hp]
  exact hc

theorem up_self {g : List (List Nat)} (hg : Ok g) {r : Nat} (hr : r < g.length) {U : Nat → Int} (h : UpOf g r U) {y : Nat} (hy : y < g.length) : U y = (y : Int) ↔ y = r := by
  constructor
  · intro e
    apply Classical.byContradiction
    intro hne
    by_cases hp : Pth g noS r y
    · obtain ⟨z, h1, _, _, h4, _⟩ := h.step hg hr hp hne
      omega
    · have := h.out y hy hp
      omega
  · rintro rfl
    exact h.root
/-- Is b reached from r without a? Does a stand above b? -/
def avB (g : List (List Nat)) (r a b : Nat) : Bool := (vis g (g.length + 1) r (eqB a, [])).1 b && !(b == a)
def domB (g : List (List Nat)) (r a b : Nat) : Bool := rB g r b && !avB g r a b
theorem avB_iff {g : List (List Nat)} (hg : Ok g) {r : Nat} (hr : r < g.length) (a b : Nat) : avB g r a b = true ↔ Pth g (eqB a) r b := by
  obtain ⟨N, e, h⟩ := vis_spec g hg (g.length + 1) r (eqB a) [] hr (Nat.lt_succ_of_le (un_le g _))
  unfold avB
  rw [e]
  show ((orL (eqB a) N) b && !(b == a)) = true ↔ _
  rw [Bool.and_eq_true, orL_true]
  have hi := h.iff b
  constructor
  · rintro ⟨h1 | h1, h2⟩
    · have : (b == a) = true := h1
      rw [this] at h2
      cases h2
    · obtain ⟨n, hn, hp⟩ := hi.1 h1
      rw [List.mem_singleton.1 hn] at hp
      exact hp
  · intro hp
    have hne := eqB_false.1 hp.stop
    exact ⟨.inr (hi.2 ⟨r, by simp, hp⟩), by simp [hne]⟩
theorem domB_iff {g : List (List Nat)} (hg : Ok g) {r : Nat} (hr : r < g.length) (a b : Nat) : domB g r a b = true ↔ Dom g r a b := by
  unfold domB Dom
  rw [Bool.and_eq_true, rB_iff hg b hr, Bool.not_eq_true', ← avB_iff hg hr, Bool.not_eq_true]
theorem UAt.ints {w : World} {p N : Nat} {U : Nat → Int} (h : UAt w p N U) : IntsAt w (some ⟨p, 0, none⟩) ((List.range N).map U) := by
  refine .inr ⟨p, 0, rfl, fun i hi => ?_⟩
  rw [List.length_map, List.length_range] at hi
  rw [Nat.zero_add, h i hi, List.getD_eq_getElem?_getD, List.getElem?_map, List.getElem?_range hi]
  rfl
theorem RowAt.uat {w : World} {base p N : Nat} {U : Nat → Int} (h : RowAt w base p N 3 (numI U)) : UAt w p N U := fun _ hi => h.cell hi

theorem lit_ints (w : World) (zs : List Int) (xs : Array Value) (hx : xs = (zs.map fun z => Value.int .i64 z).toArray) : IntsAt (w.alloc (.cells xs 3)) (some ⟨w.heap.size, 0, none⟩) zs := by
  refine .inr ⟨w.heap.size, 0, rfl, fun i hi => ?_⟩
  rw [Nat.zero_add, cell_of_row _ _ i _ _ _ (heap_alloc_new w _), hx]
  simp [List.getD_eq_getElem?_getD, List.getElem?_eq_getElem hi]

end Go.Proofs.YtlnimcpmkammfaaDoor
