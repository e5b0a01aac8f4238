/-
  Lists of nodes in memory; plain facts on the search in depth.
-/
import Derived.Test.YtlnimcpmkammfaaDoorGMem
import Derived.Maps.AppendAt
import Derived.Lib.Builder
import Derived.Deep.OwnRows
namespace Go.Proofs.YtlnimcpmkammfaaDoor
open Go.RowKit

def intsI (l : List Nat) : List Int := l.map fun n : Nat => (n : Int)
def listsI (L : List (List Nat)) : List (List Int) := L.map intsI
theorem intsI_len (l : List Nat) : (intsI l).length = l.length := by unfold intsI; rw [List.length_map]
theorem listsI_len (L : List (List Nat)) : (listsI L).length = L.length := by unfold listsI; rw [List.length_map]
theorem listsI_get (L : List (List Nat)) (j : Nat) : (listsI L).getD j [] = intsI (nb L j) := by
  unfold listsI nb
  rw [List.getD_eq_getElem?_getD, List.getD_eq_getElem?_getD, List.getElem?_map]
  cases L[j]? <;> rfl
theorem intsI_get (l : List Nat) (j : Nat) : (intsI l).getD j 0 = ((l.getD j 0 : Nat) : Int) := by
  unfold intsI
  rw [List.getD_eq_getElem?_getD, List.getD_eq_getElem?_getD, List.getElem?_map]
  cases l[j]? <;> rfl

/-- The lists of a graph, in blocks below B. -/
def GAt (w : World) (B : Nat) (a : Option Addr) (g : List (List Nat)) : Prop := LsAt w B a (listsI g)
theorem GAt.kept {w w' : World} {B : Nat} {a : Option Addr} {g : List (List Nat)} {L : List Nat} (h : GAt w B a g) (k : Keeps L w w') (hL : ∀ x, x ∈ L → B ≤ x) : GAt w' B a g := LsAt.kept h k hL
theorem GAt.quiet {w w' : World} {B : Nat} {a : Option Addr} {g : List (List Nat)} (h : GAt w B a g) (k : Keeps [] w w') : GAt w' B a g := LsAt.quiet h k
theorem GAt.up {w : World} {B C : Nat} {a : Option Addr} {g : List (List Nat)} (h : GAt w B a g) (hB : B ≤ C) : GAt w C a g := LsAt.up h hB
/-- The list of node k. -/
def NAt (w : World) (B : Nat) (a : Option Addr) (l : List Nat) : Prop := InAt w B a (intsI l)
theorem NAt.kept {w w' : World} {B : Nat} {a : Option Addr} {l : List Nat} {L : List Nat} (h : NAt w B a l) (k : Keeps L w w') (hL : ∀ x, x ∈ L → B ≤ x) : NAt w' B a l := InAt.kept h k hL
theorem GAt.at {w : World} {B : Nat} {a : Option Addr} {g : List (List Nat)} (h : GAt w B a g) {k : Nat} (hk : k < g.length) : ∃ b off ai ci, a = some ⟨b, off, none⟩ ∧ w.cell? ⟨b, off + k, none⟩ = some (.slice ai (nb g k).length ci) ∧ NAt w B ai (nb g k) := by
  obtain ⟨b, off, ai, ci, h1, h2, h3⟩ := LsAt.at h (k := k) (by rw [listsI_len]; exact hk)
  rw [listsI_get, intsI_len] at h2
  rw [listsI_get] at h3
  exact ⟨b, off, ai, ci, h1, h2, h3⟩
theorem NAt.at {w : World} {B : Nat} {a : Option Addr} {l : List Nat} (h : NAt w B a l) {k : Nat} (hk : k < l.length) : ∃ b off, a = some ⟨b, off, none⟩ ∧ w.cell? ⟨b, off + k, none⟩ = some (.int .i64 ((l.getD k 0 : Nat) : Int)) := by
  obtain ⟨b, off, h1, h2⟩ := InAt.at h (k := k) (by rw [intsI_len]; exact hk)
  rw [intsI_get] at h2
  exact ⟨b, off, h1, h2⟩

theorem take_snoc {α : Type} (l : List α) (k : Nat) (d : α) (h : k < l.length) : l.take (k + 1) = l.take k ++ [l.getD k d] := by
  rw [List.take_succ_eq_append_getElem h, List.getD_eq_getElem?_getD, List.getElem?_eq_getElem h]; rfl
theorem getD_mem {α : Type} (l : List α) (k : Nat) (d : α) (h : k < l.length) : l.getD k d ∈ l := by
  rw [List.getD_eq_getElem?_getD, List.getElem?_eq_getElem h]; exact List.getElem_mem h

/-- Who is seen stays seen; who is new is a node. -/
theorem vis_mono (g : List (List Nat)) : ∀ (f n : Nat) (st : (Nat → Bool) × List Nat) (m : Nat), st.1 m = true → (vis g f n st).1 m = true
  | 0, _, _, _, h => h
  | f + 1, n, st, m, h => by
    cases hs : st.1 n with
    | true => rw [vis_in g (f + 1) n st hs]; exact h
    | false =>
      rw [vis_out g f n st hs]
      have go : ∀ (ns : List Nat) (t : (Nat → Bool) × List Nat), t.1 m = true → (visL g f ns t).1 m = true := by
        intro ns
        induction ns with
        | nil => intro t ht; exact ht
        | cons a ns ih => intro t ht; rw [visL_cons]; exact ih _ (vis_mono g f a t m ht)
      exact go _ _ (by show (st.1 m || (m == n)) = true; rw [h]; rfl)
theorem visL_mono (g : List (List Nat)) (f : Nat) : ∀ (ns : List Nat) (st : (Nat → Bool) × List Nat) (m : Nat), st.1 m = true → (visL g f ns st).1 m = true
  | [], _, _, h => h
  | a :: ns, st, m, h => by rw [visL_cons]; exact visL_mono g f ns _ m (vis_mono g f a st m h)
theorem vis_node (g : List (List Nat)) (hg : Ok g) : ∀ (f n : Nat) (st : (Nat → Bool) × List Nat) (m : Nat), n < g.length → (vis g f n st).1 m = true → st.1 m = true ∨ m < g.length
  | 0, _, _, _, _, h => .inl h
  | f + 1, n, st, m, hn, h => by
    cases hs : st.1 n with
    | true => rw [vis_in g (f + 1) n st hs] at h; exact .inl h
    | false =>
      rw [vis_out g f n st hs] at h
      have go : ∀ (ns : List Nat) (t : (Nat → Bool) × List Nat), (∀ a, a ∈ ns → a < g.length) → (visL g f ns t).1 m = true → t.1 m = true ∨ m < g.length := by
        intro ns
        induction ns with
        | nil => intro t _ ht; exact .inl ht
        | cons a ns ih =>
          intro t hns ht
          rw [visL_cons] at ht
          rcases ih _ (fun x hx => hns x (by simp [hx])) ht with h1 | h1
          · exact vis_node g hg f a t m (hns a (by simp)) h1
          · exact .inr h1
      rcases go _ _ (fun a ha => hg n a ha) h with h1 | h1
      · have h2 : (st.1 m || (m == n)) = true := h1
        rw [Bool.or_eq_true, beq_iff_eq] at h2
        rcases h2 with h2 | h2
        · exact .inl h2
        · exact .inr (h2 ▸ hn)
      · exact .inr h1
theorem visL_node (g : List (List Nat)) (hg : Ok g) (f : Nat) : ∀ (ns : List Nat) (st : (Nat → Bool) × List Nat) (m : Nat), (∀ a, a ∈ ns → a < g.length) → (visL g f ns st).1 m = true → st.1 m = true ∨ m < g.length
  | [], _, _, _, h => .inl h
  | a :: ns, st, m, hns, h => by
    rw [visL_cons] at h
    rcases visL_node g hg f ns _ m (fun x hx => hns x (by simp [hx])) h with h1 | h1
    · exact vis_node g hg f a st m (hns a (by simp)) h1
    · exact .inr h1
theorem vis_len (g : List (List Nat)) (hg : Ok g) : ∀ (f n : Nat) (st : (Nat → Bool) × List Nat), n < g.length → (vis g f n st).2.length + un g (vis g f n st).1 ≤ st.2.length + un g st.1
  | 0, _, _, _ => Nat.le_refl _
  | f + 1, n, st, hn => by
    cases hs : st.1 n with
    | true => rw [vis_in g (f + 1) n st hs]; exact Nat.le_refl _
    | false =>
      rw [vis_out g f n st hs]
      have hu := un_ins g st.1 n hs hn
      have go : ∀ (ns : List Nat) (t : (Nat → Bool) × List Nat), (∀ a, a ∈ ns → a < g.length) → (visL g f ns t).2.length + un g (visL g f ns t).1 ≤ t.2.length + un g t.1 := by
        intro ns
        induction ns with
        | nil => intro t _; exact Nat.le_refl _
        | cons a ns ih =>
          intro t hns
          rw [visL_cons]
          exact Nat.le_trans (ih _ (fun x hx => hns x (by simp [hx]))) (vis_len g hg f a t (hns a (by simp)))
      have := go (nb g n) (ins st.1 n, st.2) (fun a ha => hg n a ha)
      generalize visL g f (nb g n) (ins st.1 n, st.2) = A at this ⊢
      have e : A.2.length + un g A.1 ≤ st.2.length + un g (ins st.1 n) := this
      show (A.2 ++ [n]).length + un g A.1 ≤ _
      rw [List.length_append]
      have e1 : [n].length = 1 := rfl
      omega
theorem visL_len (g : List (List Nat)) (hg : Ok g) (f : Nat) : ∀ (ns : List Nat) (st : (Nat → Bool) × List Nat), (∀ a, a ∈ ns → a < g.length) → (visL g f ns st).2.length + un g (visL g f ns st).1 ≤ st.2.length + un g st.1
  | [], _, _ => Nat.le_refl _
  | a :: ns, st, hns => by
    rw [visL_cons]
    exact Nat.le_trans (visL_len g hg f ns _ (fun x hx => hns x (by simp [hx]))) (vis_len g hg f a st (hns a (by simp)))

theorem ownsRow_keeps {w w' : World} {F : List Nat} {base : Nat} {e : TypeId} {size : Nat} {v : Value} {n : Nat} {xs : List Value} (h : w.ownsRow base e size v n xs) (k : Keeps F w w') (hF : ∀ b, v.ownBlock = some b → b ∉ F) : w'.ownsRow base e size v n xs := by
  refine ⟨h.1, ?_⟩
  rcases h.2 with hn | ⟨g, cap, cur, rfl, hb, hg, rest⟩
  · exact .inl hn
  · refine .inr ⟨g, cap, cur, rfl, hb, ?_, rest⟩
    rw [k.block g (Array.getElem?_eq_some_iff.1 hg).1 (hF g rfl)]
    exact hg
end Go.Proofs.YtlnimcpmkammfaaDoor
