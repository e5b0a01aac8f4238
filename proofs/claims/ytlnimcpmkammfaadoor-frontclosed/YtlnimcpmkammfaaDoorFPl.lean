/-
  Frontiers, plain: what a walk up from an edge's beginning marks; the least closed set.
-/
import Derived.Test.YtlnimcpmkammfaaDoorDAbove
import Derived.Test.YtlnimcpmkammfaaDoorMem
namespace Go.Proofs.YtlnimcpmkammfaaDoor
open Go.RowKit

/-- a stands above b and is not b. -/
def SDom (g : List (List Nat)) (r a b : Nat) : Prop := Dom g r a b ∧ a ≠ b
/-- b is in a's frontier. -/
def Fr (g : List (List Nat)) (r a b : Nat) : Prop := ∃ c, Dom g r a c ∧ ¬ SDom g r a b ∧ b ∈ nb g c

theorem sdom_edge {g : List (List Nat)} {r x b c : Nat} (h : SDom g r x b) (hc : Pth g noS r c) (he : b ∈ nb g c) : Dom g r x c :=
  ⟨hc, fun p => h.1.2 (p.snoc he (eqB_false.2 fun e => h.2 e.symm))⟩
theorem Fr.lt {g : List (List Nat)} (hg : Ok g) {r a b : Nat} (h : Fr g r a b) : b < g.length := by
  obtain ⟨c, _, _, h3⟩ := h
  exact hg c b h3

/-- Where the walk up from an edge to b ends. -/
def endI (U : Nat → Int) (b : Nat) : Int := if U b = (b : Int) then -1 else U b
theorem endI_root {g : List (List Nat)} {r : Nat} {U : Nat → Int} (h : UpOf g r U) : endI U r = -1 := by
  unfold endI; rw [if_pos h.root]
theorem endI_next {g : List (List Nat)} (hg : Ok g) {r : Nat} (hr : r < g.length) {U : Nat → Int} (h : UpOf g r U) {b : Nat} (hb : Pth g noS r b) (hne : b ≠ r) : ∃ z : Nat, endI U b = (z : Int) ∧ SDom g r z b ∧ ∀ x, SDom g r x b → Dom g r x z := by
  obtain ⟨z, h1, h2, h3, h4⟩ := h.next b (hb.lt hg hr) hb hne
  refine ⟨z, ?_, ⟨h3, h2⟩, fun x hx => h4 x hx.2 hx.1⟩
  unfold endI
  rw [if_neg (by rw [h1]; omega), h1]

/-- The walk up from c for b stands at n: F has turned out of F0. -/
structure MkSt (g : List (List Nat)) (r c b : Nat) (F0 F : Nat → Nat → Bool) (n : Nat) : Prop where
  dom : Dom g r n c
  all : ∀ x, SDom g r x b → Dom g r x n
  oth : ∀ x y, y ≠ b → F x y = F0 x y
  new : (∀ x, F x b = true ↔ F0 x b = true ∨ (Dom g r x c ∧ ¬ SDom g r x b ∧ ¬ Dom g r x n)) ∨ (n = r ∧ ∀ x, F x b = true ↔ F0 x b = true ∨ (Dom g r x c ∧ ¬ SDom g r x b))
/-- All is marked. -/
def MkDone (g : List (List Nat)) (r c b : Nat) (F0 F : Nat → Nat → Bool) : Prop := ∀ x y, F x y = true ↔ F0 x y = true ∨ (y = b ∧ Dom g r x c ∧ ¬ SDom g r x b)
/-- Who has b has it all the way up. -/
def UpC (g : List (List Nat)) (r b : Nat) (F : Nat → Nat → Bool) : Prop := ∀ x y, F x b = true → Dom g r y x → ¬ SDom g r y b → F y b = true

theorem MkSt.start {g : List (List Nat)} {r c b : Nat} {F : Nat → Nat → Bool} (hc : Pth g noS r c) (he : b ∈ nb g c) : MkSt g r c b F F c :=
  ⟨Dom.refl hc, fun _ hx => sdom_edge hx hc he, fun _ _ _ => rfl, .inl fun _ => ⟨.inl, fun h => h.elim id fun h => absurd h.1 h.2.2⟩⟩
theorem MkSt.fin {g : List (List Nat)} {r c b n : Nat} {F0 F : Nat → Nat → Bool} (h : MkSt g r c b F0 F n) (hn : ∀ x, Dom g r x c → ¬ SDom g r x b → Dom g r x n → F0 x b = true) : MkDone g r c b F0 F := by
  intro x y
  by_cases e : y = b
  · subst e
    rcases h.new with h1 | ⟨_, h1⟩
    · rw [h1 x]
      constructor
      · rintro (h2 | ⟨h2, h3, _⟩)
        · exact .inl h2
        · exact .inr ⟨rfl, h2, h3⟩
      · rintro (h2 | ⟨_, h2, h3⟩)
        · exact .inl h2
        · by_cases hd : Dom g r x n
          · exact .inl (hn x h2 h3 hd)
          · exact .inr ⟨h2, h3, hd⟩
    · rw [h1 x]
      simp
  · rw [h.oth x y e]
    exact ⟨.inl, fun h => h.elim id fun h => absurd h.1 e⟩
/-- The walk has come to the nearest that stands strictly above b. -/
theorem MkSt.ends {g : List (List Nat)} (hg : Ok g) {r : Nat} (hr : r < g.length) {c b n : Nat} {F0 F : Nat → Nat → Bool} (h : MkSt g r c b F0 F n) (hn : SDom g r n b) : MkDone g r c b F0 F :=
  h.fin fun x _ h2 h3 => absurd (⟨h3.trans hn.1, fun e => hn.2 (Dom.anti hg hr hn.1 (e ▸ h3))⟩ : SDom g r x b) h2
/-- The walk has come to one that has b. -/
theorem MkSt.stop {g : List (List Nat)} {r c b n : Nat} {F0 F : Nat → Nat → Bool} (h : MkSt g r c b F0 F n) (hu : UpC g r b F0) (hF : F n b = true) : MkDone g r c b F0 F := by
  rcases h.new with h1 | ⟨_, h1⟩
  · rcases (h1 n).1 hF with h2 | ⟨_, _, h2⟩
    · exact h.fin fun x _ h4 h5 => hu n x h2 h5 h4
    · exact absurd (Dom.refl h.dom.on) h2
  · intro x y
    by_cases e : y = b
    · subst e
      rw [h1 x]
      simp
    · rw [h.oth x y e]
      exact ⟨.inl, fun h => h.elim id fun h => absurd h.1 e⟩
def ins2 (F : Nat → Nat → Bool) (n b : Nat) : Nat → Nat → Bool := fun x y => F x y || (decide (x = n) && decide (y = b))
theorem ins2_true {F : Nat → Nat → Bool} {n b x y : Nat} : ins2 F n b x y = true ↔ F x y = true ∨ (x = n ∧ y = b) := by
  unfold ins2
  rw [Bool.or_eq_true, Bool.and_eq_true, decide_eq_true_iff, decide_eq_true_iff]
theorem ins2_at (F : Nat → Nat → Bool) (n b : Nat) (h : b < 5000) : ins2 F n b n = insI (F n) (b : Int) := by
  rw [insI_nat _ _ h]
  funext y
  show (F n y || (decide (n = n) && decide (y = b))) = (F n y || (y == b))
  rw [decide_eq_true rfl, Bool.true_and]
  congr 1
theorem ins2_off (F : Nat → Nat → Bool) {n x : Nat} (b : Nat) (h : x ≠ n) : ins2 F n b x = F x := by
  funext y
  unfold ins2
  simp [h]
/-- How far the walk can go. -/
def mkM (g : List (List Nat)) (r b : Nat) (F : Nat → Nat → Bool) (n : Nat) : Nat := if F n b = true then 0 else rk g r n + 1

theorem MkSt.step {g : List (List Nat)} (hg : Ok g) {r : Nat} (hr : r < g.length) {U : Nat → Int} (hU : UpOf g r U) {c b n : Nat} {F0 F : Nat → Nat → Bool} (h : MkSt g r c b F0 F n) (hb : Pth g noS r b) (hne : (n : Int) ≠ endI U b) (hF : F n b = false) :
    ∃ z : Nat, U n = (z : Int) ∧ z < g.length ∧ MkSt g r c b F0 (ins2 F n b) z ∧ mkM g r b (ins2 F n b) z < mkM g r b F n := by
  have hns : ¬ SDom g r n b := by
    intro hs
    have hbr : b ≠ r := by
      intro e
      subst e
      exact hs.2 (dom_root.1 hs.1)
    obtain ⟨z, h1, h2, h3⟩ := endI_next hg hr hU hb hbr
    exact hne (by rw [h1, Dom.anti hg hr (h.all z h2) (h3 n hs)])
  have hm : mkM g r b F n = rk g r n + 1 := by unfold mkM; rw [hF]; simp
  have hnew : ∀ x, F x b = true ↔ F0 x b = true ∨ (Dom g r x c ∧ ¬ SDom g r x b ∧ ¬ Dom g r x n) := by
    rcases h.new with h1 | ⟨e, h1⟩
    · exact h1
    · have := (h1 n).2 (.inr ⟨h.dom, hns⟩)
      rw [hF] at this
      cases this
  by_cases e : n = r
  · subst e
    have hd := h.dom
    refine ⟨n, hU.root, hr, ⟨hd, h.all, fun x y hy => ?_, .inr ⟨rfl, fun x => ?_⟩⟩, ?_⟩
    · rw [← h.oth x y hy]
      unfold ins2
      simp [hy]
    · rw [ins2_true, hnew x, dom_root]
      constructor
      · rintro ((h1 | ⟨h1, h2, _⟩) | ⟨rfl, _⟩)
        · exact .inl h1
        · exact .inr ⟨h1, h2⟩
        · exact .inr ⟨hd, hns⟩
      · rintro (h1 | ⟨h1, h2⟩)
        · exact .inl (.inl h1)
        · by_cases e : x = n
          · exact .inr ⟨e, rfl⟩
          · exact .inl (.inr ⟨h1, h2, e⟩)
    · rw [hm]
      unfold mkM
      rw [if_pos (ins2_true.2 (.inr ⟨rfl, rfl⟩))]
      omega
  · obtain ⟨z, h1, h2, h3, h4, h5, h6, h7⟩ := hU.step hg hr h.dom.on e
    refine ⟨z, h1, h2, ⟨h6.trans h.dom, fun x hx => ?_, fun x y hy => ?_, .inl fun x => ?_⟩, ?_⟩
    · rcases (h7 x).1 (h.all x hx) with e | h8
      · exact absurd (e ▸ hx) hns
      · exact h8
    · rw [← h.oth x y hy]
      unfold ins2
      simp [hy]
    · rw [ins2_true, hnew x]
      constructor
      · rintro ((h8 | ⟨h8, h9, h10⟩) | ⟨rfl, _⟩)
        · exact .inl h8
        · exact .inr ⟨h8, h9, fun h11 => h10 ((h7 x).2 (.inr h11))⟩
        · exact .inr ⟨h.dom, hns, fun h11 => h4 (Dom.anti hg hr h6 h11)⟩
      · rintro (h8 | ⟨h8, h9, h10⟩)
        · exact .inl (.inl h8)
        · by_cases hd : Dom g r x n
          · rcases (h7 x).1 hd with e | h11
            · exact .inr ⟨e, rfl⟩
            · exact absurd h11 h10
          · exact .inl (.inr ⟨h8, h9, hd⟩)
    · rw [hm]
      unfold mkM
      split <;> omega

/-- The edges up to the k-th of node n are marked. -/
def FrK (g : List (List Nat)) (r n k : Nat) (F : Nat → Nat → Bool) : Prop := ∀ x y, F x y = true ↔ ∃ c, Dom g r x c ∧ ¬ SDom g r x y ∧ ((c < n ∧ y ∈ nb g c) ∨ (c = n ∧ y ∈ (nb g n).take k))
theorem FrK.start (g : List (List Nat)) (r : Nat) : FrK g r 0 0 (fun _ _ => false) := by
  intro x y
  constructor
  · intro h; cases h
  · rintro ⟨c, _, _, h | h⟩
    · omega
    · simp at h
theorem FrK.upc {g : List (List Nat)} {r n k : Nat} {F : Nat → Nat → Bool} (h : FrK g r n k F) (b : Nat) : UpC g r b F := by
  intro x y h1 h2 h3
  obtain ⟨c, h4, _, h6⟩ := (h x b).1 h1
  exact (h y b).2 ⟨c, h2.trans h4, h3, h6⟩
theorem FrK.edge {g : List (List Nat)} {r n k b : Nat} {F F' : Nat → Nat → Bool} (h : FrK g r n k F) (hk : k < (nb g n).length) (hb : (nb g n).getD k 0 = b) (hd : MkDone g r n b F F') : FrK g r n (k + 1) F' := by
  have e : (nb g n).take (k + 1) = (nb g n).take k ++ [b] := by
    rw [List.take_add_one, List.getElem?_eq_getElem hk, ← hb, List.getD_eq_getElem?_getD, List.getElem?_eq_getElem hk]
    rfl
  intro x y
  rw [hd x y, h x y, e]
  constructor
  · rintro (⟨c, h1, h2, h3 | ⟨h3, h4⟩⟩ | ⟨rfl, h1, h2⟩)
    · exact ⟨c, h1, h2, .inl h3⟩
    · exact ⟨c, h1, h2, .inr ⟨h3, List.mem_append_left _ h4⟩⟩
    · exact ⟨n, h1, h2, .inr ⟨rfl, by simp⟩⟩
  · rintro ⟨c, h1, h2, h3 | ⟨h3, h4⟩⟩
    · exact .inl ⟨c, h1, h2, .inl h3⟩
    · rcases List.mem_append.1 h4 with h5 | h5
      · exact .inl ⟨c, h1, h2, .inr ⟨h3, h5⟩⟩
      · have e2 := List.mem_singleton.1 h5
        subst e2
        exact .inr ⟨rfl, h3 ▸ h1, h2⟩
theorem FrK.row {g : List (List Nat)} {r n : Nat} {F : Nat → Nat → Bool} (h : FrK g r n (nb g n).length F) : FrK g r (n + 1) 0 F := by
  intro x y
  rw [h x y]
  constructor
  · rintro ⟨c, h1, h2, h3 | ⟨h3, h4⟩⟩
    · exact ⟨c, h1, h2, .inl ⟨by omega, h3.2⟩⟩
    · rw [List.take_length] at h4
      exact ⟨c, h1, h2, .inl ⟨by omega, h3 ▸ h4⟩⟩
  · rintro ⟨c, h1, h2, h3 | ⟨h3, h4⟩⟩
    · by_cases e : c = n
      · exact ⟨c, h1, h2, .inr ⟨e, by rw [List.take_length, ← e]; exact h3.2⟩⟩
      · exact ⟨c, h1, h2, .inl ⟨by omega, h3.2⟩⟩
    · simp at h4
theorem FrK.skip {g : List (List Nat)} {r n : Nat} {F : Nat → Nat → Bool} (h : FrK g r n 0 F) (hn : ¬ Pth g noS r n) : FrK g r (n + 1) 0 F := by
  intro x y
  rw [h x y]
  constructor
  · rintro ⟨c, h1, h2, h3 | ⟨h3, h4⟩⟩
    · exact ⟨c, h1, h2, .inl ⟨by omega, h3.2⟩⟩
    · simp at h4
  · rintro ⟨c, h1, h2, h3 | ⟨h3, h4⟩⟩
    · by_cases e : c = n
      · exact absurd (e ▸ h1.1) hn
      · exact ⟨c, h1, h2, .inl ⟨by omega, h3.2⟩⟩
    · simp at h4
theorem FrK.done {g : List (List Nat)} (hg : Ok g) {r : Nat} (hr : r < g.length) {F : Nat → Nat → Bool} (h : FrK g r g.length 0 F) (x y : Nat) : F x y = true ↔ Fr g r x y := by
  rw [h x y]
  constructor
  · rintro ⟨c, h1, h2, h3 | ⟨h3, h4⟩⟩
    · exact ⟨c, h1, h2, h3.2⟩
    · simp at h4
  · rintro ⟨c, h1, h2, h3⟩
    exact ⟨c, h1, h2, .inl ⟨h1.1.lt hg hr, h3⟩⟩

/-- What comes of S in the end: each one in the frontiers of S and of those. -/
def Clo (F : Nat → Nat → Bool) (N : Nat) (S : Nat → Bool) (n : Nat) : Prop := ∀ T : Nat → Prop, (∀ a b, S a = true → a < N → F a b = true → T b) → (∀ a b, T a → a < N → F a b = true → T b) → T n
theorem Clo.base {F : Nat → Nat → Bool} {N : Nat} {S : Nat → Bool} {a b : Nat} (h1 : S a = true) (h2 : a < N) (h3 : F a b = true) : Clo F N S b := fun _ hb _ => hb a b h1 h2 h3
theorem Clo.step {F : Nat → Nat → Bool} {N : Nat} {S : Nat → Bool} {a b : Nat} (h1 : Clo F N S a) (h2 : a < N) (h3 : F a b = true) : Clo F N S b := fun T hb hs => hs a b (h1 T hb hs) h2 h3
theorem Clo.ind {F : Nat → Nat → Bool} {N : Nat} {S : Nat → Bool} {T : Nat → Prop} {n : Nat} (h : Clo F N S n) (hb : ∀ a b, S a = true → a < N → F a b = true → T b) (hs : ∀ a b, T a → a < N → F a b = true → T b) : T n := h T hb hs
/-- Those of W wait, those of A were asked, L is what was found. -/
structure ClSt (F : Nat → Nat → Bool) (N : Nat) (S W A L : Nat → Bool) : Prop where
  seen : ∀ n, S n = true → A n = true ∨ W n = true
  from_ : ∀ n, A n = true ∨ W n = true → S n = true ∨ L n = true
  all : ∀ n, L n = true ↔ ∃ a, A a = true ∧ a < N ∧ F a n = true
  more : ∀ n, L n = true → A n = true ∨ W n = true
  cl : ∀ n, L n = true → Clo F N S n
  one : ∀ n, W n = true → A n = false
theorem ClSt.start (F : Nat → Nat → Bool) (N : Nat) (S : Nat → Bool) : ClSt F N S S (fun _ => false) (fun _ => false) := by
  refine ⟨fun n h => .inr h, ?_, ?_, ?_, ?_, fun _ _ => rfl⟩
  · rintro n (h | h)
    · cases h
    · exact .inl h
  · intro n
    constructor
    · intro h; cases h
    · rintro ⟨a, h, _⟩; cases h
  · intro n h; cases h
  · intro n h; cases h
theorem ClSt.done {F : Nat → Nat → Bool} {N : Nat} {S W A L : Nat → Bool} (h : ClSt F N S W A L) (hw : ∀ n, W n = false) (n : Nat) : L n = true ↔ Clo F N S n := by
  refine ⟨h.cl n, fun hc => ?_⟩
  have hA : ∀ a, A a = true ∨ W a = true → A a = true := by
    rintro a (h1 | h1)
    · exact h1
    · rw [hw a] at h1; cases h1
  exact hc.ind (T := fun n => L n = true) (fun a b h1 h2 h3 => (h.all b).2 ⟨a, hA a (h.seen a h1), h2, h3⟩) (fun a b ih h2 h3 => (h.all b).2 ⟨a, hA a (h.more a ih), h2, h3⟩)
/-- One goes that has no frontier. -/
theorem ClSt.pass {F : Nat → Nat → Bool} {N : Nat} {S W A L : Nat → Bool} (h : ClSt F N S W A L) {n : Nat} (hn : W n = true) (hN : N ≤ n) : ClSt F N S (del W n) (ins A n) L := by
  have hd : ∀ m, del W n m = true ↔ W m = true ∧ m ≠ n := by
    intro m; unfold del; simp [Bool.and_eq_true]
  have hi : ∀ m, ins A n m = true ↔ A m = true ∨ m = n := by
    intro m; unfold ins; simp
  have hw : ∀ m, ins A n m = true ∨ del W n m = true ↔ A m = true ∨ W m = true := by
    intro m
    rw [hd, hi]
    constructor
    · rintro ((h1 | h1) | h1)
      · exact .inl h1
      · exact .inr (h1 ▸ hn)
      · exact .inr h1.1
    · rintro (h1 | h1)
      · exact .inl (.inl h1)
      · by_cases e : m = n
        · exact .inl (.inr e)
        · exact .inr ⟨h1, e⟩
  refine ⟨fun m hm => (hw m).2 (h.seen m hm), fun m hm => h.from_ m ((hw m).1 hm), fun m => ?_, fun m hm => (hw m).2 (h.more m hm), h.cl, fun m hm => ?_⟩
  · rw [h.all m]
    constructor
    · rintro ⟨a, h1, h2, h3⟩
      exact ⟨a, (hi a).2 (.inl h1), h2, h3⟩
    · rintro ⟨a, h1, h2, h3⟩
      rcases (hi a).1 h1 with h1 | h1
      · exact ⟨a, h1, h2, h3⟩
      · omega
  · have := (hd m).1 hm
    have h2 := h.one m this.1
    unfold ins
    rw [h2]
    simp [this.2]
/-- One goes: its frontier is found, and what of it was not asked waits. -/
theorem ClSt.take {F : Nat → Nat → Bool} {N : Nat} {S W A L : Nat → Bool} (h : ClSt F N S W A L) {n : Nat} (hn : W n = true) (hN : n < N) {W' L' : Nat → Bool} (hW : ∀ m, W' m = true ↔ del W n m = true ∨ (F n m = true ∧ ins A n m = false)) (hL : ∀ m, L' m = true ↔ L m = true ∨ F n m = true) : ClSt F N S W' (ins A n) L' := by
  have hd : ∀ m, del W n m = true ↔ W m = true ∧ m ≠ n := by
    intro m; unfold del; simp [Bool.and_eq_true]
  have hi : ∀ m, ins A n m = true ↔ A m = true ∨ m = n := by
    intro m; unfold ins; simp
  have hc : ∀ m, F n m = true → Clo F N S m := by
    intro m hm
    rcases h.from_ n (.inr hn) with h1 | h1
    · exact .base h1 hN hm
    · exact .step (h.cl n h1) hN hm
  have hw : ∀ m, ins A n m = true ∨ W' m = true ↔ (A m = true ∨ W m = true) ∨ F n m = true := by
    intro m
    rw [hW, hd]
    constructor
    · rintro (h1 | h1 | h1)
      · rcases (hi m).1 h1 with h2 | h2
        · exact .inl (.inl h2)
        · exact .inl (.inr (h2 ▸ hn))
      · exact .inl (.inr h1.1)
      · exact .inr h1.1
    · intro h1
      cases e : ins A n m with
      | true => exact .inl rfl
      | false =>
        have e2 : ¬ (A m = true ∨ m = n) := by rw [← hi m, e]; simp
        rcases h1 with (h1 | h1) | h1
        · exact absurd (.inl h1) e2
        · exact .inr (.inl ⟨h1, fun h => e2 (.inr h)⟩)
        · exact .inr (.inr ⟨h1, rfl⟩)
  refine ⟨fun m hm => (hw m).2 (.inl (h.seen m hm)), fun m hm => ?_, fun m => ?_, fun m hm => ?_, fun m hm => ?_, fun m hm => ?_⟩
  · rcases (hw m).1 hm with h1 | h1
    · rcases h.from_ m h1 with h2 | h2
      · exact .inl h2
      · exact .inr ((hL m).2 (.inl h2))
    · exact .inr ((hL m).2 (.inr h1))
  · rw [hL, h.all m]
    constructor
    · rintro (⟨a, h1, h2, h3⟩ | h1)
      · exact ⟨a, (hi a).2 (.inl h1), h2, h3⟩
      · exact ⟨n, (hi n).2 (.inr rfl), hN, h1⟩
    · rintro ⟨a, h1, h2, h3⟩
      rcases (hi a).1 h1 with h1 | h1
      · exact .inl ⟨a, h1, h2, h3⟩
      · exact .inr (h1 ▸ h3)
  · rcases (hL m).1 hm with h1 | h1
    · exact (hw m).2 (.inl (h.more m h1))
    · exact (hw m).2 (.inr h1)
  · rcases (hL m).1 hm with h1 | h1
    · exact h.cl m h1
    · exact hc m h1
  · rcases (hW m).1 hm with h1 | h1
    · have := (hd m).1 h1
      have h2 := h.one m this.1
      unfold ins
      rw [h2]
      simp [this.2]
    · exact h1.2
/-- How many were not asked. -/
def leftN (A : Nat → Bool) : Nat := ((List.range 5000).filter fun n => !A n).length
theorem leftN_ins {A : Nat → Bool} {n : Nat} (hn : n < 5000) (h : A n = false) : leftN (ins A n) < leftN A := by
  unfold leftN
  have hs : ((List.range 5000).filter fun m => !ins A n m).Sublist ((List.range 5000).filter fun m => !A m) := by
    have e : ((List.range 5000).filter fun m => !ins A n m) = ((List.range 5000).filter fun m => !A m).filter fun m => !ins A n m := by
      rw [List.filter_filter]
      congr 1
      funext m
      unfold ins
      cases A m <;> simp
    rw [e]
    exact List.filter_sublist
  refine Nat.lt_of_le_of_ne hs.length_le fun e => ?_
  have e2 := hs.eq_of_length e
  have h1 : n ∈ (List.range 5000).filter fun m => !A m := by
    rw [List.mem_filter]
    exact ⟨List.mem_range.2 hn, by rw [h]; rfl⟩
  rw [← e2, List.mem_filter] at h1
  have := h1.2
  unfold ins at this
  simp at this
end Go.Proofs.YtlnimcpmkammfaaDoor
