/-
  A slice of numbers that is nil if there are none; what comes of frontiers in the end, plain; the round that turns until nothing turns.
  Contract: the document's own Front.
  The statement FrontOf.
-/
import Derived.Test.YtlnimcpmkammfaaDoorFKit
import Derived.Test.YtlnimcpmkammfaaDoorLstPl
import Derived.Test.YtlnimcpmkammfaaDoorDRef
import Derived.Deep.AppendLies
import Derived.Deep.DeepCutAuto
import Derived.Deep.CutBlock

namespace Go.Proofs.YtlnimcpmkammfaaDoor
open Go.RowKit

/-- A slice of the numbers l: nil if there are none. -/
def AsV (v : Value) (l : List Nat) : Prop := (l = [] ∧ v = .slice none 0 0) ∨ ∃ g c, 0 < l.length ∧ v = .slice (some ⟨g, 0, none⟩) l.length c
structure ASl (w : World) (v : Value) (l : List Nat) : Prop where
  form : AsV v l
  at_ : ∃ a c, v = .slice a l.length c ∧ IntsAt w a (l.map fun n : Nat => (n : Int)) ∧ ∀ b off, a = some ⟨b, off, none⟩ → b < w.heap.size
theorem ASl.of {w : World} {base : Nat} {v : Value} {l : List Nat} (h : w.ownsRow base 3 1 v l.length (ints l)) (hf : AsV v l) : ASl w v l := by
  refine ⟨hf, ?_⟩
  obtain ⟨a, c, rfl, h2, h3⟩ := ownsRow_ints h
  refine ⟨a, c, rfl, h2, fun b off e => ?_⟩
  rcases hf with ⟨_, h4⟩ | ⟨g, c', h4, h5⟩
  · simp only [Value.slice.injEq] at h4
    rw [h4.1] at e
    cases e
  · subst e
    exact (h.lt b (by simp [Value.ownBlock])).2
theorem ASl.news {w : World} {g c : Nat} {l : List Nat} (h : ASl w (.slice (some ⟨g, 0, none⟩) l.length c) l) (hl : 0 < l.length) : ∀ j u, (ints l)[j]? = some u → w.cell? ((⟨g, 0, none⟩ : Addr).add j) = some u := by
  obtain ⟨a, c, h1, h2, _⟩ := h.at_
  simp only [Value.slice.injEq] at h1
  rw [← h1.1] at h2
  rcases h2 with h3 | ⟨b, off, h4, h5⟩
  · rw [List.map_eq_nil_iff.1 h3] at hl
    simp at hl
  · simp only [Option.some.injEq, Addr.mk.injEq, and_true] at h4
    obtain ⟨rfl, rfl⟩ := h4
    have := vals_at h5
    rw [show vals (l.map fun n : Nat => (n : Int)) = ints l by unfold vals ints; rw [List.map_map]; rfl] at this
    exact this
theorem ints_one (l : List Nat) : ∀ u ∈ ints l, u.oneCell' = true := by
  intro u hu
  unfold ints at hu
  obtain ⟨n, _, rfl⟩ := List.mem_map.1 hu
  rfl
theorem ASl.quiet {w w' : World} {v : Value} {l : List Nat} (h : ASl w v l) (k : Keeps [] w w') : ASl w' v l := by
  refine ⟨h.form, ?_⟩
  obtain ⟨a, c, h1, h2, h3⟩ := h.at_
  exact ⟨a, c, h1, h2.kept k (by simp), fun b off e => Nat.lt_of_lt_of_le (h3 b off e) k.size⟩
/-- Of it. -/
theorem ASl.set {w : World} {v : Value} {l : List Nat} (h : ASl w v l) (hl : l.length ≤ 1000) :
    Calls Tryd.prog 17 #[v] w fun e w' => e = .returned (.pointer (some ⟨w.heap.size, 0, none⟩)) ∧ SetAt w' w.heap.size (ofI (l.map fun n : Nat => (n : Int))) ∧ Keeps [] w w' := by
  obtain ⟨a, c, rfl, h2, _⟩ := h.at_
  have := of_any a c (l.map fun n : Nat => (n : Int)) w h2 (by rw [List.length_map]; omega)
  rw [List.length_map] at this
  exact this
theorem ofN_mem {l : List Nat} {n : Nat} (h : n < 5000) : ofI (l.map fun n : Nat => (n : Int)) n = true ↔ n ∈ l := by
  rw [ofI_mem, decide_eq_true_iff]
  constructor
  · rintro ⟨_, h2⟩
    obtain ⟨m, h3, h4⟩ := List.mem_map.1 h2
    obtain rfl : m = n := by omega
    exact h3
  · intro h2
    exact ⟨h, List.mem_map.2 ⟨n, h2, rfl⟩⟩
theorem ofN_in {l : List Nat} {n : Nat} (h : ofI (l.map fun n : Nat => (n : Int)) n = true) : n ∈ l := by
  rw [ofI_mem, decide_eq_true_iff] at h
  obtain ⟨m, h3, h4⟩ := List.mem_map.1 h.2
  obtain rfl : m = n := by omega
  exact h3
theorem Clo.mono {F : Nat → Nat → Bool} {N : Nat} {S T : Nat → Bool} (h : ∀ n, S n = true → T n = true) {n : Nat} (hc : Clo F N S n) : Clo F N T n :=
  hc.ind (T := fun n => Clo F N T n) (fun a _ h1 h2 h3 => .base (h a h1) h2 h3) (fun _ _ ih h2 h3 => .step ih h2 h3)
theorem Clo.flat {F : Nat → Nat → Bool} {N : Nat} {S T : Nat → Bool} (h : ∀ n, T n = true → Clo F N S n) {n : Nat} (hc : Clo F N T n) : Clo F N S n :=
  hc.ind (T := fun n => Clo F N S n) (fun a _ h1 h2 h3 => .step (h a h1) h2 h3) (fun _ _ ih h2 h3 => .step ih h2 h3)
theorem Clo.some {F : Nat → Nat → Bool} {N : Nat} {S : Nat → Bool} {n : Nat} (hc : Clo F N S n) : ∃ a, a < N ∧ F a n = true :=
  hc.ind (T := fun n => ∃ a, a < N ∧ F a n = true) (fun a _ _ h2 h3 => ⟨a, h2, h3⟩) (fun a _ _ h2 h3 => ⟨a, h2, h3⟩)


theorem ASl.has {w : World} {v : Value} {l : List Nat} (h : ASl w v l) (hl : l.length ≤ 1000) (i : Nat) :
    Calls Tryd.prog 14 #[v, .int .i64 (i : Int)] w fun e w' => e = .returned (.bool (decide (i ∈ l))) ∧ w' = w := by
  obtain ⟨a, c, rfl, h2, _⟩ := h.at_
  have := rin_any a c (l.map fun n : Nat => (n : Int)) (i : Int) w h2 (by rw [List.length_map]; omega)
  rw [List.length_map] at this
  have e : decide ((i : Int) ∈ l.map fun n : Nat => (n : Int)) = decide (i ∈ l) := by
    rw [decide_eq_decide]
    constructor
    · intro h3
      obtain ⟨m, h4, h5⟩ := List.mem_map.1 h3
      obtain rfl : m = i := by omega
      exact h4
    · exact fun h3 => List.mem_map.2 ⟨i, h3, rfl⟩
  rw [e] at this
  exact this
theorem elI_mem {s : Nat → Bool} (hf : Fit s) (i : Nat) : decide ((i : Int) ∈ elI s) = s i := by
  rw [Bool.eq_iff_iff, decide_eq_true_iff, (elI_is s hf).mem]
  simp [hasI]
theorem lst_has {w : World} {base : Nat} {v : Value} {s : Nat → Bool} (h : Lst w base v (elI s)) (hf : Fit s) (i : Nat) :
    Calls Tryd.prog 14 #[v, .int .i64 (i : Int)] w fun e w' => e = .returned (.bool (s i)) ∧ w' = w := by
  obtain ⟨a, c, rfl, h2, _, _⟩ := h.open
  have := rin_any a c (elI s) (i : Int) w h2 (by have := elI_le s; omega)
  rw [elI_mem hf] at this
  exact this
theorem intsN_at {w : World} {a : Option Addr} {l : List Nat} (h : IntsAt w a (l.map fun n : Nat => (n : Int))) {k : Nat} (hk : k < l.length) : ∃ b off, a = some ⟨b, off, none⟩ ∧ w.cell? ⟨b, off + k, none⟩ = some (.int .i64 ((l.getD k 0 : Nat) : Int)) := by
  rcases h with h | ⟨b, off, h1, h2⟩
  · have : l = [] := List.map_eq_nil_iff.1 h
    rw [this] at hk
    simp at hk
  · refine ⟨b, off, h1, ?_⟩
    have := h2 k (by rw [List.length_map]; exact hk)
    rw [this]
    simp [List.getD_eq_getElem?_getD, List.getElem?_map, List.getElem?_eq_getElem hk]

/-- A round that began with s0 has come to s; t tells whether it has turned anything; P is what is so if not. -/
structure RSt (F : Nat → Nat → Bool) (N : Nat) (S s0 s : Nat → Bool) (t : Bool) (P : Prop) : Prop where
  clo : ∀ n, s n = true → Clo F N S n
  fit : Fit s
  same : t = false → s = s0 ∧ P
  more : t = true → leftN s < leftN s0
theorem RSt.put {F : Nat → Nat → Bool} {N : Nat} {S s0 s : Nat → Bool} {t : Bool} {P : Prop} (h : RSt F N S s0 s t P) {b : Nat} (hb : b < 5000) (hs : s b = false) (hc : Clo F N S b) (Q : Prop) : RSt F N S s0 (insI s (b : Int)) true Q := by
  have hl := leftN_ins hb hs
  rw [← insI_nat s b hb] at hl
  refine ⟨fun n hn => ?_, h.fit.ins _, (fun e => by cases e), fun _ => ?_⟩
  · rw [insI_nat s b hb] at hn
    have hn' : (s n || (n == b)) = true := hn
    rw [Bool.or_eq_true, beq_iff_eq] at hn'
    rcases hn' with h1 | h1
    · exact h.clo n h1
    · rw [h1]; exact hc
  · cases t with
    | false =>
      rw [← (h.same rfl).1]
      exact hl
    | true => exact Nat.lt_trans hl (h.more rfl)
theorem RSt.keep {F : Nat → Nat → Bool} {N : Nat} {S s0 s : Nat → Bool} {t : Bool} {P Q : Prop} (h : RSt F N S s0 s t P) (hq : s = s0 → P → Q) : RSt F N S s0 s t Q :=
  ⟨h.clo, h.fit, fun e => ⟨(h.same e).1, hq (h.same e).1 (h.same e).2⟩, h.more⟩
/-- The frontiers of those below i that are asked are in s. -/
def PI (F : Nat → Nat → Bool) (S s : Nat → Bool) (i : Nat) : Prop := ∀ j, j < i → (S j = true ∨ s j = true) → ∀ b, F j b = true → s b = true
/-- And of i's the first k. -/
def PK (F : Nat → Nat → Bool) (S s : Nat → Bool) (i k : Nat) : Prop := PI F S s i ∧ ∀ b, b ∈ (elems (F i)).take k → s b = true
theorem PI.skip {F : Nat → Nat → Bool} {S s : Nat → Bool} {i : Nat} (h : PI F S s i) (hn : ¬ (S i = true ∨ s i = true)) : PI F S s (i + 1) := by
  intro j hj hS b hb
  by_cases e : j = i
  · exact absurd (e ▸ hS) hn
  · exact h j (by omega) hS b hb
theorem PK.start {F : Nat → Nat → Bool} {S s : Nat → Bool} {i : Nat} (h : PI F S s i) : PK F S s i 0 := ⟨h, fun b hb => by simp at hb⟩
theorem PK.next {F : Nat → Nat → Bool} {S s : Nat → Bool} {i k b : Nat} (h : PK F S s i k) (hk : k < (elems (F i)).length) (hb : (elems (F i)).getD k 0 = b) (hs : s b = true) : PK F S s i (k + 1) := by
  refine ⟨h.1, fun c hc => ?_⟩
  rw [List.take_add_one, List.getElem?_eq_getElem hk] at hc
  rcases List.mem_append.1 hc with h1 | h1
  · exact h.2 c h1
  · have e : (elems (F i)).getD k 0 = (elems (F i))[k] := by rw [List.getD_eq_getElem?_getD, List.getElem?_eq_getElem hk]; rfl
    have : c = (elems (F i))[k] := by simpa using h1
    rw [this, ← e, hb]
    exact hs
theorem PK.row {F : Nat → Nat → Bool} {S s : Nat → Bool} {i : Nat} (h : PK F S s i (elems (F i)).length) (hf : Fit (F i)) : PI F S s (i + 1) := by
  intro j hj hS b hb
  by_cases e : j = i
  · subst e
    exact h.2 b (by rw [List.take_length]; exact (mem_elems hf).2 hb)
  · exact h.1 j (by omega) hS b hb
theorem PI.done {F : Nat → Nat → Bool} {N : Nat} {S s : Nat → Bool} (h : PI F S s N) (hc : ∀ n, s n = true → Clo F N S n) (n : Nat) : s n = true ↔ Clo F N S n := by
  refine ⟨hc n, fun h1 => ?_⟩
  exact h1.ind (T := fun n => s n = true) (fun a b h2 h3 h4 => h a h3 (.inl h2) b h4) (fun a b ih h3 h4 => h a h3 (.inr ih) b h4)
end Go.Proofs.YtlnimcpmkammfaaDoor

namespace Go.Proofs.YtlnimcpmkammfaaDoor
open Go.RowKit

/-- What of a's frontier comes by the edges up to the k-th of node c. -/
def FSK (g : List (List Nat)) (r a c k : Nat) (s : Nat → Bool) : Prop := ∀ y, s y = true ↔ ∃ c', Dom g r a c' ∧ ¬ SDom g r a y ∧ ((c' < c ∧ y ∈ nb g c') ∨ (c' = c ∧ y ∈ (nb g c).take k))
theorem FSK.start (g : List (List Nat)) (r a : Nat) : FSK g r a 0 0 none_ := by
  intro y
  constructor
  · intro h; cases h
  · rintro ⟨c, _, _, h | h⟩
    · omega
    · simp at h
theorem take_next {l : List Nat} {k : Nat} (hk : k < l.length) : l.take (k + 1) = l.take k ++ [l.getD k 0] := by
  rw [List.take_add_one, List.getElem?_eq_getElem hk, List.getD_eq_getElem?_getD, List.getElem?_eq_getElem hk]
  rfl
theorem FSK.take {g : List (List Nat)} {r a c k b : Nat} {s : Nat → Bool} (h : FSK g r a c k s) (hk : k < (nb g c).length) (hb : (nb g c).getD k 0 = b) (hd : Dom g r a c) (hs : ¬ SDom g r a b) (h5 : b < 5000) : FSK g r a c (k + 1) (insI s (b : Int)) := by
  intro y
  rw [insI_nat _ _ h5, take_next hk, hb]
  show (s y || (y == b)) = true ↔ _
  rw [Bool.or_eq_true, h y, beq_iff_eq]
  constructor
  · rintro (⟨c', h1, h2, h3 | h3⟩ | rfl)
    · exact ⟨c', h1, h2, .inl h3⟩
    · exact ⟨c', h1, h2, .inr ⟨h3.1, List.mem_append_left _ h3.2⟩⟩
    · exact ⟨c, hd, hs, .inr ⟨rfl, by simp⟩⟩
  · rintro ⟨c', h1, h2, h3 | h3⟩
    · exact .inl ⟨c', h1, h2, .inl h3⟩
    · rcases List.mem_append.1 h3.2 with h4 | h4
      · exact .inl ⟨c', h1, h2, .inr ⟨h3.1, h4⟩⟩
      · exact .inr (List.mem_singleton.1 h4)
theorem FSK.leave {g : List (List Nat)} {r a c k b : Nat} {s : Nat → Bool} (h : FSK g r a c k s) (hk : k < (nb g c).length) (hb : (nb g c).getD k 0 = b) (hs : SDom g r a b) : FSK g r a c (k + 1) s := by
  intro y
  rw [h y, take_next hk, hb]
  constructor
  · rintro ⟨c', h1, h2, h3 | h3⟩
    · exact ⟨c', h1, h2, .inl h3⟩
    · exact ⟨c', h1, h2, .inr ⟨h3.1, List.mem_append_left _ h3.2⟩⟩
  · rintro ⟨c', h1, h2, h3 | h3⟩
    · exact ⟨c', h1, h2, .inl h3⟩
    · rcases List.mem_append.1 h3.2 with h4 | h4
      · exact ⟨c', h1, h2, .inr ⟨h3.1, h4⟩⟩
      · rw [List.mem_singleton.1 h4] at h2
        exact absurd hs h2
theorem FSK.row {g : List (List Nat)} {r a c : Nat} {s : Nat → Bool} (h : FSK g r a c (nb g c).length s) : FSK g r a (c + 1) 0 s := by
  intro y
  rw [h y, List.take_length]
  constructor
  · rintro ⟨c', h1, h2, h3 | h3⟩
    · exact ⟨c', h1, h2, .inl ⟨by omega, h3.2⟩⟩
    · exact ⟨c', h1, h2, .inl ⟨by omega, h3.1 ▸ h3.2⟩⟩
  · rintro ⟨c', h1, h2, h3 | h3⟩
    · by_cases e : c' = c
      · exact ⟨c', h1, h2, .inr ⟨e, e ▸ h3.2⟩⟩
      · exact ⟨c', h1, h2, .inl ⟨by omega, h3.2⟩⟩
    · have := h3.2
      simp at this
theorem FSK.skip {g : List (List Nat)} {r a c : Nat} {s : Nat → Bool} (h : FSK g r a c 0 s) (hn : ¬ Dom g r a c) : FSK g r a (c + 1) 0 s := by
  intro y
  rw [h y]
  constructor
  · rintro ⟨c', h1, h2, h3 | h3⟩
    · exact ⟨c', h1, h2, .inl ⟨by omega, h3.2⟩⟩
    · have := h3.2
      simp at this
  · rintro ⟨c', h1, h2, h3 | h3⟩
    · by_cases e : c' = c
      · exact absurd (e ▸ h1) hn
      · exact ⟨c', h1, h2, .inl ⟨by omega, h3.2⟩⟩
    · have := h3.2
      simp at this
theorem FSK.done {g : List (List Nat)} (hg : Ok g) {r a : Nat} (hr : r < g.length) {s : Nat → Bool} (h : FSK g r a g.length 0 s) {F : Nat → Nat → Bool} (hF : ∀ x y, F x y = true ↔ Fr g r x y) : s = F a := by
  funext y
  rw [Bool.eq_iff_iff, h y, hF a y]
  constructor
  · rintro ⟨c', h1, h2, h3 | h3⟩
    · exact ⟨c', h1, h2, h3.2⟩
    · have := h3.2
      simp at this
  · rintro ⟨c, h1, h2, h3⟩
    exact ⟨c, h1, h2, .inl ⟨h1.1.lt hg hr, h3⟩⟩

/-- A list of lists of numbers that the call has made. -/
structure FO (w : World) (base : Nat) (v : Value) (n : Nat) (vs : List Value) (l : Nat → List Int) : Prop where
  outer : w.ownsRow base 23 1 v n vs
  inner : ∀ j, j < n → ∃ x, vs[j]? = some x ∧ Lst w base x (l j)
theorem Lst.quiet {w w' : World} {base : Nat} {v : Value} {l : List Int} (h : Lst w base v l) (k : Keeps [] w w') : Lst w' base v l := h.kept k (by simp)
theorem FO.quiet {w w' : World} {base : Nat} {v : Value} {n : Nat} {vs : List Value} {l : Nat → List Int} (h : FO w base v n vs l) (k : Keeps [] w w') : FO w' base v n vs l :=
  ⟨ownsRow_keeps h.outer k (by simp), fun j hj => by
    obtain ⟨x, h1, h2⟩ := h.inner j hj
    exact ⟨x, h1, h2.quiet k⟩⟩
theorem FO.snoc {w wa w' : World} {base : Nat} {v v' x : Value} {n : Nat} {vs : List Value} {l : Nat → List Int} (h : FO w base v n vs l) (ka : Keeps [] w wa) (hx : Lst w base x (l n)) (ho : w'.ownsRow base 23 1 v' (n + 1) (vs ++ [x])) (hg : wa.grownBy w' v.ownBlock) : FO w' base v' (n + 1) (vs ++ [x]) l := by
  have hvl : vs.length = n := by have := h.outer.1; omega
  have k : Keeps v.ownBlock.toList wa w' := Keeps.grown _ hg (fun y hy => by rw [hy]; simp)
  have ow := ownsRow_keeps h.outer ka (by simp)
  have stay : ∀ (u : Value) (m : List Int), Lst w base u m → Lst w' base u m := by
    rintro u m (h1 | ⟨h1, h2⟩)
    · exact .inl h1
    · refine .inr ⟨h1, ?_⟩
      have hu2 := ownsRow_keeps h2 ka (by simp)
      refine ownsRow_keeps hu2 k (fun b hb hx => ?_)
      rcases hu2.2 with ⟨rfl, _⟩ | ⟨g, cap, cur, rfl, _, hgg, _⟩
      · simp [Value.ownBlock] at hb
      · simp [Value.ownBlock] at hb
        subst hb
        exact Lib.ownBlock_ne ow hgg (by decide) (by simpa using hx)
  refine ⟨ho, fun j hj => ?_⟩
  by_cases e : j < n
  · obtain ⟨y, h1, h2⟩ := h.inner j e
    exact ⟨y, by rw [List.getElem?_append_left (by omega)]; exact h1, stay _ _ h2⟩
  · obtain rfl : j = n := by omega
    exact ⟨x, by rw [← hvl]; simp, stay _ _ hx⟩
/-- Its cells. -/
theorem FO.cells {w : World} {base : Nat} {v : Value} {n : Nat} {vs : List Value} {l : Nat → List Int} (h : FO w base v n vs l) (hn : 0 < n) : ∃ p c, v = .slice (some ⟨p, 0, none⟩) n c ∧ ∀ j, j < n → ∃ a cj, w.cell? ⟨p, j, none⟩ = some (.slice a (l j).length cj) ∧ IntsAt w a (l j) := by
  rcases h.outer.2 with ⟨rfl, h2⟩ | ⟨p, c, cur, rfl, h3, h4, h5⟩
  · have := h.outer.1
    omega
  · refine ⟨p, c, rfl, fun j hj => ?_⟩
    obtain ⟨x, h6, h7⟩ := h.inner j hj
    obtain ⟨a, cj, rfl, h8, _, _⟩ := h7.open
    refine ⟨a, cj, ?_, h8⟩
    rw [h.outer.cellAt j (by omega), h6]

set_option maxRecDepth 20000 in
set_option maxHeartbeats 8000000 in
theorem rfront_any (g : List (List Nat)) (hs : Sm g) (a : Option Addr) (cap B : Nat) (w : World) (hG : GAt w B a g) (r : Nat) (hr : r < g.length) (F : Nat → Nat → Bool) (hF : ∀ x y, F x y = true ↔ Fr g r x y) (hfit : ∀ x, Fit (F x)) :
    Calls Tryd.prog 11 #[.slice a g.length cap, .int .i64 (r : Int)] w fun e w' => ∃ v vs base, e = .returned v ∧ FO w' base v g.length vs (fun j => elI (F j)) ∧ Keeps [] w w' := by
  have HS := hid hs
  have HG := hid hG
  have hg6 := hs.len
  have HRR := hid hr
  have HRE := hid (fun wz (h : GAt wz B a g) (we : World) (hwe : wz = we.alloc (Obj.cells #[.int .i64 (r : Int)] 3)) => rreach_any g hs a cap B wz h (some ⟨we.heap.size, 0, none⟩) 1 wz.heap.size [(r : Int)] (by subst hwe; exact rone_at we (r : Int)) (by simp) (-1))
  have HSP : Box (∀ s : Nat → Bool, (∀ u, s u = true ↔ ∃ z, z ∈ nodI g.length [(r : Int)] ∧ Pth g (avI (-1)) z u) → ∀ u, s u = rB g r u) := hid (fun s h u => rone_all hs.ok hr h u)
  have HRB := hid (fun u => rB_iff hs.ok u hr)
  have HRA := hid (fun wz (h : GAt wz B a g) x y hx hy => rabove_any g hs a cap B wz h r x y hr hx hy)
  have HDB := hid (fun a b => domB_iff hs.ok hr a b)
  have HDN := hid (fun i s (h : FSK g r i g.length 0 s) => h.done hs.ok hr hF)
  have HFF := hid hfit
  obtain ⟨N, hN⟩ : ∃ N, g.length = N := ⟨_, rfl⟩
  have HN := hid hN
  rw [hN] at hg6 hr HRE HSP HRA HDN ⊢
  clear hs hG hN hF hfit
  have ka : Keeps [] w (w.alloc (Obj.cells #[.int .i64 (r : Int)] 3)) := Keeps.alloc _ _ _
  have HR1 := hid (HRE.out _ (HG.out.quiet ka) w rfl)
  have KA := hid ka
  clear ka HRE
  go_enter Tryd.func11, Tryd.ntmps11
  go_wp2_with fail
  generalize w.alloc (Obj.cells #[.int .i64 (r : Int)] 3) = w1 at HR1 KA ⊢
  refine HR1.out.mono ?_
  rintro e w2 ⟨ps, rfl, s, r2, k2, hs2⟩
  have S2 := hid r2
  have K2 := hid (KA.out.quiet k2)
  have HS2 := hid (HSP.out s hs2)
  clear r2 k2 hs2 HR1 KA HSP
  go_wp2_with fail
  have O2 : Box (FO w2 w2.heap.size (.slice none 0 0) 0 [] (fun j => elI (F j))) := hid ⟨World.ownsRow_nil w2 _ _ _, fun j hj => by omega⟩
  go_loopw [6, 8] (fun ov iv wr => ∃ (i : Nat) (vs : List Value) (v : Value), v = ov ∧ iv = .int .i64 (i : Int) ∧ i ≤ N ∧ Box (FO wr w2.heap.size v i vs (fun j => elI (F j))) ∧ Box (Keeps [] w2 wr)) (fun _ iv _ => N - (intOf iv).toNat)
  case atStart => exact ⟨0, [], _, rfl, rfl, by omega, O2, hid (Keeps.refl _ _)⟩
  case round =>
    clear O2
    obtain ⟨i, vs, v, rfl, rfl, hi, HO, HK⟩ := hrel
    by_cases hlt : i < N
    · have hlt' : (i : Int) < (N : Int) := by omega
      have hi6 : i < 600 := by omega
      have T0 : Box (Lst wr w2.heap.size (.slice none 0 0) (elI none_)) := hid (.inl ⟨by unfold elI; rw [show elems none_ = [] from elems_none]; rfl, rfl⟩)
      have SK0 := hid (FSK.start g r i)
      have FN0 := hid fit_none
      go_wp2_with fail
      go_loopw [9, 10] (fun lv cv wr => ∃ (c : Nat) (x : Nat → Bool) (u : Value), u = lv ∧ cv = .int .i64 (c : Int) ∧ c ≤ N ∧ Box (FSK g r i c 0 x) ∧ Box (Fit x) ∧ Box (Lst wr w2.heap.size u (elI x)) ∧ Box (FO wr w2.heap.size v i vs (fun j => elI (F j))) ∧ Box (Keeps [] w2 wr)) (fun _ cv _ => N - (intOf cv).toNat)
      case atStart => exact ⟨0, none_, _, rfl, rfl, by omega, SK0, FN0, T0, HO, HK⟩
      case round =>
        clear SK0 FN0 T0 HO HK
        obtain ⟨c, x, u, rfl, rfl, hc, HSK, HFX, HLX, HO, HK⟩ := hrel
        by_cases hcl : c < N
        · have hcl' : (c : Int) < (N : Int) := by omega
          have hc6 : c < 600 := by omega
          have KW := hid (K2.out.quiet HK.out)
          have GW := hid (HG.out.quiet KW.out)
          have ci := (S2.out.kept HK.out (by simp)).cell hlt
          have cc := (S2.out.kept HK.out (by simp)).cell hcl
          unfold bw at ci cc
          rw [HS2.out] at ci cc
          cases hri : rB g r i with
          | false =>
            rw [hri] at ci
            have hnd : ¬ Dom g r i c := fun h => by
              have := (HRB.out i).2 h.on
              rw [hri] at this
              cases this
            have HS2' := hid (HSK.out.skip hnd)
            clear hri hnd
            go_wp2
            go_roundw
            case rel => exact ⟨c + 1, x, u, rfl, by go_num, by omega, HS2', HFX, HLX, HO, HK⟩
            case measure => simp [intOf]; omega
          | true =>
            rw [hri] at ci
            clear hri
            cases hrc : rB g r c with
            | false =>
              rw [hrc] at cc
              have hnd : ¬ Dom g r i c := fun h => by
                have := (HRB.out c).2 h.1
                rw [hrc] at this
                cases this
              have HS2' := hid (HSK.out.skip hnd)
              clear hrc hnd
              go_wp2
              go_roundw
              case rel => exact ⟨c + 1, x, u, rfl, by go_num, by omega, HS2', HFX, HLX, HO, HK⟩
              case measure => simp [intOf]; omega
            | true =>
              rw [hrc] at cc
              clear hrc
              have HA := hid (HRA.out wr GW.out i c hlt hcl)
              have HD := hid (HDB.out i c)
              generalize domB g r i c = d at HA HD
              cases d with
              | false =>
                have hnd : ¬ Dom g r i c := fun h => by have := HD.out.2 h; cases this
                have HS2' := hid (HSK.out.skip hnd)
                clear hnd HD
                go_wp2_with fail
                refine HA.out.mono ?_
                rintro e w3 ⟨rfl, k3⟩
                have HO3 := hid (HO.out.quiet k3)
                have HK3 := hid (HK.out.quiet k3)
                have HL3 := hid (HLX.out.quiet k3)
                clear k3 HA ci cc
                go_wp2
                go_roundw
                case rel => exact ⟨c + 1, x, u, rfl, by go_num, by omega, HS2', HFX, HL3, HO3, HK3⟩
                case measure => simp [intOf]; omega
              | true =>
                have HDD := hid (HD.out.1 rfl)
                clear HD
                go_wp2_with fail
                refine HA.out.mono ?_
                rintro e w3 ⟨rfl, k3⟩
                have HO3 := hid (HO.out.quiet k3)
                have HK3 := hid (HK.out.quiet k3)
                have HL3 := hid (HLX.out.quiet k3)
                clear k3 HA ci cc HO HK HLX KW GW
                have hnb := HS.out.short c
                obtain ⟨nl, hnl⟩ : ∃ nl, (nb g c).length = nl := ⟨_, rfl⟩
                have HNL := hid hnl
                rw [hnl] at hnb
                clear hnl
                go_wp2_with fail
                go_loopw [9, 11] (fun lv kv wr => ∃ (k : Nat) (x : Nat → Bool) (u : Value), u = lv ∧ kv = .int .i64 (k : Int) ∧ k ≤ nl ∧ Box (FSK g r i c k x) ∧ Box (Fit x) ∧ Box (Lst wr w2.heap.size u (elI x)) ∧ Box (FO wr w2.heap.size v i vs (fun j => elI (F j))) ∧ Box (Keeps [] w2 wr)) (fun _ kv _ => nl - (intOf kv).toNat)
                case atStart => exact ⟨0, x, u, rfl, rfl, by omega, HSK, HFX, HL3, HO3, HK3⟩
                case round =>
                  clear HSK HFX HL3 HO3 HK3
                  obtain ⟨k, y, t, rfl, rfl, hk, HSK, HFX, HLX, HO, HK⟩ := hrel
                  have KW := hid (K2.out.quiet HK.out)
                  have GW := hid (HG.out.quiet KW.out)
                  obtain ⟨bl, ol, al, cl, hal, hcl2, hnl⟩ := GW.out.at (k := c) (by rw [HN.out]; exact hcl)
                  subst hal
                  rw [HNL.out] at hcl2
                  by_cases hkl : k < nl
                  · have hkl' : (k : Int) < (nl : Int) := by omega
                    have hkg : k < (nb g c).length := by rw [HNL.out]; exact hkl
                    obtain ⟨bm, om, ham, hcm⟩ := hnl.at hkg
                    subst ham
                    obtain ⟨b, hb⟩ : ∃ b, (nb g c).getD k 0 = b := ⟨_, rfl⟩
                    have hbN : b < N := by rw [← HN.out, ← hb]; exact HS.out.ok c _ (getD_mem _ _ _ hkg)
                    rw [hb] at hcm
                    have HBK := hid (And.intro hkg hb)
                    clear hb hkg hnl
                    have hbN' : (b : Int) < (N : Int) := by omega
                    have hb5 : b < 5000 := by omega
                    have HPU := hid (fun w9 (h9 : Lst w9 w2.heap.size t (elI y)) (hz : w2.heap.size ≤ w9.heap.size) => put_any w2.heap.size t (elI y) (b : Int) w9 h9 hz (by have := elI_le y; omega))
                    have HPE := hid (fun l' h9 => put_el y HFX.out l' (b : Int) (by omega) h9)
                    have HFI := hid (HFX.out.ins (b : Int))
                    by_cases hib : i = b
                    · have h1 : ((i : Int) == (b : Int)) = true := by rw [hib]; simp
                      have HN2 := hid (HSK.out.take HBK.out.1 HBK.out.2 HDD.out (fun h => h.2 hib) hb5)
                      have HP := hid (HPU.out wr HLX.out HK.out.size)
                      clear hib
                      go_wp2_with fail
                      refine HP.out.mono ?_
                      rintro e w4 ⟨v', l', rfl, hp, hl4, k4⟩
                      have HL4 : Box (Lst w4 w2.heap.size v' (elI (insI y (b : Int)))) := hid (by rw [← HPE.out l' hp]; exact hl4)
                      have HO4 := hid (HO.out.quiet k4)
                      have HK4 := hid (HK.out.quiet k4)
                      clear hp hl4 k4 HP hcm hcl2
                      go_wp2
                      go_roundw
                      case rel => exact ⟨k + 1, insI y (b : Int), v', rfl, by go_num, by omega, HN2, HFI, HL4, HO4, HK4⟩
                      case measure => simp [intOf]; omega
                    · have h1 : ((i : Int) == (b : Int)) = false := by rw [beq_eq_false_iff_ne]; omega
                      have HA := hid (HRA.out wr GW.out i b hlt hbN)
                      have HD := hid (HDB.out i b)
                      generalize domB g r i b = d at HA HD
                      cases d with
                      | true =>
                        have HN2 := hid (HSK.out.leave HBK.out.1 HBK.out.2 ⟨HD.out.1 rfl, hib⟩)
                        clear hib HD
                        go_wp2_with fail
                        refine HA.out.mono ?_
                        rintro e w4 ⟨rfl, k4⟩
                        have HL4 := hid (HLX.out.quiet k4)
                        have HO4 := hid (HO.out.quiet k4)
                        have HK4 := hid (HK.out.quiet k4)
                        clear k4 HA hcm hcl2
                        go_wp2
                        go_roundw
                        case rel => exact ⟨k + 1, y, t, rfl, by go_num, by omega, HN2, HFX, HL4, HO4, HK4⟩
                        case measure => simp [intOf]; omega
                      | false =>
                        have HN2 := hid (HSK.out.take HBK.out.1 HBK.out.2 HDD.out (fun h => by have := HD.out.2 h.1; cases this) hb5)
                        clear hib HD
                        go_wp2_with fail
                        refine HA.out.mono ?_
                        rintro e w4 ⟨rfl, k4⟩
                        have HL4 := hid (HLX.out.quiet k4)
                        have HO4 := hid (HO.out.quiet k4)
                        have HK4 := hid (HK.out.quiet k4)
                        have HP := hid (HPU.out w4 HL4.out HK4.out.size)
                        clear k4 HA hcm hcl2 HO HK HLX
                        go_wp2_with fail
                        refine HP.out.mono ?_
                        rintro e w5 ⟨v', l', rfl, hp, hl5, k5⟩
                        have HL5 : Box (Lst w5 w2.heap.size v' (elI (insI y (b : Int)))) := hid (by rw [← HPE.out l' hp]; exact hl5)
                        have HO5 := hid (HO4.out.quiet k5)
                        have HK5 := hid (HK4.out.quiet k5)
                        clear hp hl5 k5 HP HL4 HO4 HK4
                        go_wp2
                        go_roundw
                        case rel => exact ⟨k + 1, insI y (b : Int), v', rfl, by go_num, by omega, HN2, HFI, HL5, HO5, HK5⟩
                        case measure => simp [intOf]; omega
                  · obtain rfl : k = nl := by omega
                    have HN2 : Box (FSK g r i (c + 1) 0 y) := hid (by have := HSK.out; rw [← HNL.out] at this; exact this.row)
                    clear hnl
                    go_wp2
                    go_roundw
                    case rel => exact ⟨c + 1, y, t, rfl, by go_num, by omega, HN2, HFX, HLX, HO, HK⟩
                    case measure => simp [intOf]; omega
        · obtain rfl : c = N := by omega
          have he : x = F i := HDN.out i x HSK.out
          subst he
          have hsz := HK.out.size
          have HLW := HLX
          have HOW := HO
          clear HSK HFX
          obtain ⟨au, cu, hu, _, _, _⟩ := HLX.out.open
          subst hu
          generalize hgl : (elI (F i)).length = gl at HLX HLW ⊢
          clear hgl
          go_wp2_with (at_builtin; go_must (refine wpList_append_lies _ rfl _ _ 25 rfl w2.heap.size 23 Tryd.t23 (.slice none 0 0) 1 24 under_lists info_ints zero_ints size_ints bytes_ints rfl (by decide) v i vs rfl (HOW.out.outer.alloc _) ⟨wr.heap.size, 0, none⟩ 1 1 [.slice au gl cu] rfl rfl (cell_one_new _ _ _) (fun x hx => by simp at hx; subst hx; rfl) (by omega) (by unfold maxLen; omega) (by omega) (by simp; omega) (wr.heap.size + 1) (by simp) ?_; intro g5 cap5 w5 hown5 hgrow5 hat5 hlt5))
          have HO5 := hid (HOW.out.snoc (Keeps.alloc [] _ _) HLW.out hown5 hgrow5)
          have HK5 := hid ((HK.out.quiet (Keeps.alloc [] _ _)).appended HOW.out.outer hgrow5 (Nat.le_refl _))
          clear hown5 hgrow5 hat5 hlt5
          go_roundw
          case rel => exact ⟨i + 1, _, _, rfl, by go_num, by omega, HO5, HK5⟩
          case measure => simp [intOf]; omega
    · obtain rfl : i = N := by omega
      have KE := hid (K2.out.quiet HK.out)
      go_wp2
      go_ret
      exact ⟨v, vs, _, rfl, HO.out, KE.out⟩
end Go.Proofs.YtlnimcpmkammfaaDoor

namespace Go.Proofs.YtlnimcpmkammfaaDoor
open Go.RowKit

set_option maxRecDepth 20000 in
set_option maxHeartbeats 8000000 in
theorem frontOf_law (n : Int) (pa : Option Addr) (cap : Nat) (zs : List (Int × Int)) (rt : Int) (a3 : Option Addr) (cap3 : Nat) (fs : List Int) (w : World) (hT : TabAt w) (hz : PairsAt w pa zs) (hl : zs.length ≤ maxLen) (hz3 : IntsAt w a3 fs) (hl3 : fs.length ≤ maxLen) (_ : fs.length ≤ cap3) :
    Calls Tryd.prog 3 #[.int .i64 n, .slice pa zs.length cap, .int .i64 rt, .slice a3 fs.length cap3] w fun e w' => e = .returned (.bool true) ∧ Keeps [] w w' := by
  have HBG := hid (begun7_any w hT)
  have HTT := hid (fun wz (k : Keeps [] w wz) => tabq hT k)
  obtain ⟨N, g, L, hN2, hN1, hgl, hsm, hgd, hnn, hmd⟩ := made_pack n zs hl
  have HMD := hid (fun wz (k : Keeps [] w wz) => hmd pa cap wz (hz.kept k (fun _ _ _ => by simp)))
  have HS := hid hsm
  have HGD := hid hgd
  have HN := hid hgl
  have HZ3 := hid hz3
  obtain ⟨fl, hfl⟩ : ∃ fl, fs.length = fl := ⟨_, rfl⟩
  have HFL := hid hfl
  rw [hfl] at hl3
  rw [hfl]
  clear hz hl hmd hsm hgd hgl hnn hT hz3 hfl
  generalize zs.length = zl at HMD
  unfold maxLen at hl3
  go_enter Tryd.func3, Tryd.ntmps3
  go_wp2_with fail
  refine HBG.out.mono ?_
  rintro e w1 ⟨rfl, k1⟩
  clear HBG
  go_wp2_with fail
  refine (HMD.out w1 k1).mono ?_
  rintro e w2 ⟨p, vs, rfl, ho2, k2⟩
  have L3 := hid (LG.make ho2 (k1.quiet k2))
  rw [← HGD.out] at L3
  clear ho2 k2 k1 HMD HGD
  go_upto_region 5 with fail
  generalize w2.alloc (Obj.cells #[.int .i64 (N : Int), .slice (some ⟨p, 0, none⟩) N N] 27) = w3 at L3 ⊢
  obtain ⟨B, hB⟩ : ∃ B, w2.heap.size + 1 = B := ⟨_, rfl⟩
  rw [hB] at L3
  generalize w2.heap.size = bx at L3 ⊢
  clear hB
  have t3 := L3.out.two
  rw [HN.out] at t3
  have c0 := t3.c0
  have c1 := t3.c1
  clear t3
  by_cases hin : 0 ≤ rt ∧ rt < (N : Int)
  · obtain ⟨r, rfl⟩ := Int.eq_ofNat_of_zero_le hin.1
    have hrN : r < N := by omega
    have hrN' := hin.2
    have hr0 := hin.1
    clear hin
    have hrg : r < g.length := by rw [HN.out]; exact hrN
    have HOF := hid (fof_in g HS.out (some ⟨p, 0, none⟩) g.length B r w3 L3.out.gr L3.out.le hrg)
    have HRF := hid (fun bx p B wz (h : LG w wz bx p B g) F hF hf => rfront_any g HS.out (some ⟨p, 0, none⟩) g.length B wz h.gr r hrg F hF hf)
    rw [HN.out] at HOF HRF
    clear hrg
    go_wp2_with fail
    refine HOF.out.mono ?_
    rintro e w4 ⟨pf, q, F, rfl, m4, hF4, k4⟩
    have L4 : Box (LF w w4 bx p B N g w3.heap.size pf q F) := hid ⟨L3.out.quiet k4, m4, HN.out⟩
    have HF := hid hF4
    have HFT : Box (∀ x, Fit (F x)) := hid (fun x m hm => by
      cases e : F x m with
      | false => rfl
      | true =>
        have h1 := ((hF4 x m).1 e).lt HS.out.ok
        have h2 := HS.out.len
        omega)
    generalize w3.heap.size = base at L4
    clear m4 hF4 k4 L3 c0 c1 HOF
    have c0 := L4.out.c0
    have c1 := L4.out.c1
    have HR4 := hid (HRF.out bx p B w4 L4.out.lg F HF.out HFT.out)
    have hd1 : decide ((r : Int) < 0) = false := decide_eq_false (by omega)
    have hd2 : decide ((N : Int) ≤ (r : Int)) = false := decide_eq_false (by omega)
    go_wp2_with fail
    refine HR4.out.mono ?_
    rintro e w5 ⟨vw, vsw, bw5, rfl, fo5, k5⟩
    obtain ⟨pw, cw, rfl, hcells⟩ := fo5.cells (by omega)
    have L5 := hid (L4.out.quiet k5)
    have HW : Box (∀ wr, Keeps [] w5 wr → ∀ j, j < N → ∃ a cj, wr.cell? ⟨pw, j, none⟩ = some (.slice a (elems (F j)).length cj) ∧ IntsAt wr a ((elems (F j)).map fun n : Nat => (n : Int))) := hid (fun wr k j hj => by
      obtain ⟨a, cj, h1, h2⟩ := hcells j hj
      rw [elI_len] at h1
      exact ⟨a, cj, by rw [k.cell (p := ⟨pw, j, none⟩) (block_lt_of_cell h1) (by simp)]; exact h1, h2.kept k (by simp)⟩)
    clear fo5 hcells k5 c0 c1 HR4 HRF L4 hd1 hd2
    have c0 := L5.out.c0
    have c1 := L5.out.c1
    have hNN : ((N : Int) != (N : Int)) = false := by simp
    go_wp2_with fail
    clear c0 c1 hNN
    have K0 := hid (Keeps.refl [] w5)
    go_loopw [13] (fun iv wr => ∃ i : Nat, iv = .int .i64 (i : Int) ∧ i ≤ N ∧ Box (Keeps [] w5 wr)) (fun iv _ => N - (intOf iv).toNat)
    case atStart => exact ⟨0, rfl, by omega, K0⟩
    case round =>
      clear K0
      obtain ⟨i, rfl, hi, HK⟩ := hrel
      have LA := hid (L5.out.quiet HK.out)
      have c0 := LA.out.c0
      by_cases hlt : i < N
      · have hlt' : (i : Int) < (N : Int) := by omega
        have cq := LA.out.fm.cell hlt
        obtain ⟨ai, ci, hcw, hiw⟩ := HW.out wr HK.out i hlt
        have HAL := hid (fun w9 (k9 : Keeps [] wr w9) => (LA.out.quiet k9).all (HTT.out w9 (LA.out.quiet k9).lg.keep) hlt)
        have hel : (elems (F i)).length ≤ 5000 := pre_len (F i) 5000
        obtain ⟨el, hee⟩ : ∃ el, elems (F i) = el := ⟨_, rfl⟩
        rw [hee] at HAL hcw hiw hel
        clear hee
        have HEQ := hid (fun w9 (k9 : Keeps [] wr w9) al cl (h : IntsAt w9 al (el.map fun n : Nat => (n : Int))) => eq_any al ai cl ci (el.map fun n : Nat => (n : Int)) (el.map fun n : Nat => (n : Int)) w9 h (hiw.kept k9 (by simp)) (by rw [List.length_map]; omega))
        rw [List.length_map, decide_eq_true rfl] at HEQ
        obtain ⟨ell, hell⟩ : ∃ ell, el.length = ell := ⟨_, rfl⟩
        rw [hell] at HAL hcw hel HEQ
        have HCW : Box (∀ w9, Keeps [] wr w9 → w9.cell? ⟨pw, i, none⟩ = some (.slice ai ell ci)) := hid (fun w9 k9 => by rw [k9.cell (p := ⟨pw, i, none⟩) (block_lt_of_cell hcw) (by simp)]; exact hcw)
        have HCQ : Box (∀ w9, Keeps [] wr w9 → w9.cell? ⟨pf, i, none⟩ = some (.pointer (some ⟨q i, 0, none⟩))) := hid (fun w9 k9 => (LA.out.quiet k9).fm.cell hlt)
        clear hell hiw
        have kd : Keeps [] wr wr.drew := Keeps.drew _ _
        go_upto_region 14 with fail
        go_region_with (first
          | (go_at_call 13; refine (HAL.out _ kd).mono ?_; rintro e w6 ⟨al, cl, rfl, hl6, k6⟩; have kk6 := kd.quiet k6; have cw6 := HCW.out w6 kk6; have cq6 := HCQ.out w6 kk6; have HL6 := hid hl6; clear hl6 k6)
          | (go_at_call 12; refine (HEQ.out _ kk6 al cl HL6.out).mono ?_; rintro e w7 ⟨rfl, m7, hw7⟩; have kk7 : Keeps [] wr w7 := (by rw [hw7]; exact kk6.quiet (Keeps.drewN _ _ _)); clear hw7)
          | fail)
        all_goals
          have HK7 := hid (HK.out.quiet kk7)
          clear kk7 kk6 cw6 cq6 HL6 kd c0 cq hcw
          go_wp2
          go_roundw
          case rel => exact ⟨i + 1, by go_num, by omega, HK7⟩
          case measure => simp [intOf]; omega
      · obtain rfl : N = i := by omega
        have L6 := LA
        have HW6 : Box (∀ wz, Keeps [] wr wz → ∀ j, j < N → ∃ a cj, wz.cell? ⟨pw, j, none⟩ = some (.slice a (elems (F j)).length cj) ∧ IntsAt wz a ((elems (F j)).map fun n : Nat => (n : Int))) := hid (fun wz k j hj => HW.out wz (HK.out.quiet k) j hj)
        clear LA HK hi hlt HW L5
        go_upto_block 2 with fail
        generalize wr = w6 at L6 HW6 c0 ⊢
        clear c0
        go_cut [14] (fun t wz => ∃ (v : Value) (l : List Nat), v = t ∧ Box (ASl wz v l) ∧ Box (l.length ≤ 8 ∧ ∀ x, x ∈ l → x < N) ∧ Box (Keeps [] w6 wz))
        case first =>
          go_wp2_with fail
          have R0 : Box (w6.ownsRow w6.heap.size 3 1 (.slice none 0 0) 0 (ints [])) := hid (nil_row _ _)
          go_loopw [14, 16] (fun lv iv wr => ∃ (i : Nat) (l : List Nat) (v : Value), v = lv ∧ iv = .int .i64 (i : Int) ∧ i ≤ fl ∧ i ≤ 8 ∧ Box (l.length = i ∧ (∀ x, x ∈ l → x < N) ∧ AsV v l) ∧ Box (wr.ownsRow w6.heap.size 3 1 v i (ints l)) ∧ Box (Keeps [] w6 wr)) (fun _ iv _ => 8 - (intOf iv).toNat)
          case atStart => exact ⟨0, [], _, rfl, rfl, by omega, by omega, hid ⟨rfl, by simp, .inl ⟨rfl, rfl⟩⟩, R0, hid (Keeps.refl _ _)⟩
          case round =>
            clear R0
            obtain ⟨i, l, v, rfl, rfl, hif, hi8, HL, HR, HK⟩ := hrel
            by_cases h1 : i < fl
            · by_cases h2 : i < 8
              · have h1' : (i : Int) < (fl : Int) := by omega
                have h2' : (i : Int) < 8 := by omega
                obtain ⟨bz, oz, rfl, hcz⟩ := (HZ3.out.kept (L6.out.lg.keep.quiet HK.out) (by simp)).resolve_left (by intro e; rw [e] at HFL; have := HFL.out; simp at this; omega)
                have cz := hcz i (by rw [HFL.out]; exact h1)
                generalize fs.getD i 0 = z at cz
                have c0 := (L6.out.quiet HK.out).c0
                have hN0 : ¬ N = 0 := by omega
                have hwz := HK.out.size
                clear hcz
                go_wp2
                go_quiet (fail)
                rw [node_num z N hN1 (by omega)]
                have hyN := nd_lt hN1 z
                generalize nd N z = y at hyN ⊢
                have HL2 : Box ((l ++ [y]).length = i + 1 ∧ ∀ x, x ∈ l ++ [y] → x < N) := hid ⟨by rw [List.length_append, HL.out.1]; rfl, fun x hx => by
                  rcases List.mem_append.1 hx with h | h
                  · exact HL.out.2.1 x h
                  · rw [List.mem_singleton.1 h]; exact hyN⟩
                have HIL : Box (ints (l ++ [y]) = ints l ++ [.int .i64 (y : Int)]) := hid (by unfold ints; rw [List.map_append]; rfl)
                have HRX := hid (ownsRow_keeps HR.out (Keeps.drewN [] wr nq) (by simp))
                have HKX := hid (HK.out.quiet (Keeps.drewN [] wr nq))
                clear HR HK cz c0 hwz
                generalize wr.drewN nq = wx at HRX HKX ⊢
                have hwz := HKX.out.size
                go_wp2_with (at_builtin; go_must (refine wpList_append_lies _ rfl _ _ 23 rfl w6.heap.size 3 Tryd.t3 (.int .i64 0) 1 8 under_ints info_int zero_int size_int bytes_int rfl (by decide) v i (ints l) rfl (HRX.out.alloc _) ⟨wx.heap.size, 0, none⟩ 1 1 [.int .i64 (y : Int)] rfl rfl (cell_one_new _ _ _) (fun x hx => by simp at hx; subst hx; rfl) (by omega) (by unfold maxLen; omega) (by omega) (by simp; omega) (wx.heap.size + 1) (by simp) ?_; intro g5 cap5 w9 hown5 hgrow5 hat5 hlt5))
                have K9 := hid ((HKX.out.quiet (Keeps.alloc [] _ _)).appended HRX.out hgrow5 (Nat.le_refl _))
                rw [← HIL.out] at hown5
                have O5 := hid hown5
                clear hown5 hgrow5 hat5 hlt5
                go_roundw
                case rel => exact ⟨i + 1, l ++ [y], _, rfl, by go_num, by omega, by omega, hid ⟨HL2.out.1, HL2.out.2, .inr ⟨g5, cap5, by rw [HL2.out.1]; omega, by rw [HL2.out.1]⟩⟩, O5, K9⟩
                case measure => simp [intOf]; omega
              · obtain rfl : i = 8 := by omega
                have h1' : ((8 : Nat) : Int) < (fl : Int) := by omega
                have E5 : Box (ASl wr v l) := hid (ASl.of (by rw [HL.out.1]; exact HR.out) HL.out.2.2)
                go_wp2_with fail
                go_meet
                exact ⟨v, l, rfl, E5, hid ⟨by rw [HL.out.1]; omega, HL.out.2.1⟩, HK⟩
            · obtain rfl : i = fl := by omega
              have E5 : Box (ASl wr v l) := hid (ASl.of (by rw [HL.out.1]; exact HR.out) HL.out.2.2)
              go_wp2_with fail
              go_meet
              exact ⟨v, l, rfl, E5, hid ⟨by rw [HL.out.1]; omega, HL.out.2.1⟩, HK⟩
        case rest =>
          obtain ⟨v, l, rfl, A7, HL, K7⟩ := hcut
          have L7 := hid (L6.out.quiet K7.out)
          have HW7 : Box (∀ wz, Keeps [] wc wz → ∀ j, j < N → ∃ a cj, wz.cell? ⟨pw, j, none⟩ = some (.slice a (elems (F j)).length cj) ∧ IntsAt wz a ((elems (F j)).map fun n : Nat => (n : Int))) := hid (fun wz k j hj => HW6.out wz (K7.out.quiet k) j hj)
          generalize wc = w7 at A7 K7 L7 HW7 ⊢
          clear L6 HW6 K7 HZ3 HFL hl3
          have HSM : Box (∀ n, n < 5000 → (ofI (l.map fun n : Nat => (n : Int)) n = true ↔ n ∈ l)) := hid (fun n h => ofN_mem h)
          have HOA := hid (fun wz (h : ASl wz v l) => h.set (by have := HL.out.1; omega))
          have HFA := hid (fit_ofI (l.map fun n : Nat => (n : Int)))
          generalize ofI (l.map fun n : Nat => (n : Int)) = SA at HSM HOA HFA
          have HIN := hid (fun wz (h : ASl wz v l) i => h.has (by have := HL.out.1; omega) i)
          go_wp2_with fail
          have T0 : Box (Lst w7 w7.heap.size (.slice none 0 0) (elI none_)) := hid (.inl ⟨by unfold elI; rw [show elems none_ = [] from elems_none]; rfl, rfl⟩)
          have C0 : Box (∀ n, none_ n = true → Clo F N SA n) := hid (fun n h => by cases h)
          have F0 := hid fit_none
          have P0 : Box (true = false → PI F SA none_ N) := hid (fun h => by cases h)
          have K0 := hid (Keeps.refl [] w7)
          obtain ⟨M, hM⟩ : ∃ M, leftN none_ = M := ⟨_, rfl⟩
          have HM : Box (2 * leftN none_ + true.toNat ≤ 2 * M + 1) := hid (by rw [hM]; exact Nat.le_refl (2 * M + 1))
          clear hM
          go_loopg [15, 18] (2 * M + 1) (fun gq av tv wr => ∃ (s : Nat → Bool) (t : Bool) (va : Value), va = av ∧ tv = .bool t ∧ 2 * leftN s + t.toNat ≤ gq ∧ Box (∀ n, s n = true → Clo F N SA n) ∧ Box (Fit s) ∧ Box (t = false → PI F SA s N) ∧ Box (Lst wr w7.heap.size va (elI s)) ∧ Box (Keeps [] w7 wr))
          case atStart => exact ⟨none_, true, _, rfl, rfl, HM.out, C0, F0, P0, T0, K0⟩
          case round =>
            clear T0 C0 F0 P0 K0 HM
            obtain ⟨s0, t, va, rfl, rfl, hq, HC, HFS, HPI, HLS, HK⟩ := hrel
            cases t with
            | false =>
              have HD := hid ((HPI.out rfl).done HC.out)
              have A8 := hid (A7.out.quiet HK.out)
              have L8 := hid (L7.out.quiet HK.out)
              have HO := hid (HOA.out wr A8.out)
              clear HPI HC hq
              go_wp2_with fail
              refine HO.out.mono ?_
              rintro e w8 ⟨rfl, s8, k8⟩
              have L9 := hid (L8.out.quiet k8)
              have HLS8 := hid (HLS.out.quiet k8)
              have HCL := hid (closure_any base pf N q F wr.heap.size SA w8 L9.out.fm s8 HFA.out (HTT.out w8 L9.out.lg.keep))
              clear s8 k8 HO L8 HLS
              go_wp2_with fail
              refine HCL.out.mono ?_
              rintro e w9 ⟨Lc, rfl, s9, f9, h9, k9⟩
              have L10 := hid (L9.out.quiet k9)
              have HLS9 := hid (HLS8.out.quiet k9)
              have hLs : Lc = s0 := by
                funext m
                rw [Bool.eq_iff_iff, h9 m, HD.out m]
              subst hLs
              have HAL := hid (all_any w8.heap.size Lc w9 s9 f9 (HTT.out w9 L10.out.lg.keep))
              clear s9 f9 h9 k9 HCL L9 HLS8
              go_wp2_with fail
              refine HAL.out.mono ?_
              rintro e w10 ⟨va2, rfl, own10, k10⟩
              obtain ⟨al, cl, rfl, hl10, _⟩ := ownsRow_ints own10
              obtain ⟨ab, cb, hvb, hib, _, _⟩ := (HLS9.out.quiet k10).open
              subst hvb
              have HE := hid (eq_any al ab cl cb (elI Lc) (elI Lc) w10 hl10 hib (by have := elI_le Lc; omega))
              rw [decide_eq_true rfl] at HE
              have K10 := hid (L10.out.lg.keep.quiet k10)
              rw [elI_len] at HE ⊢
              generalize (elems Lc).length = ell at HE ⊢
              clear own10 hl10 hib k10 HAL L10 HLS9
              go_wp2_with fail
              refine HE.out.mono ?_
              rintro e w11 ⟨rfl, m11, hw11⟩
              have K11 := hid (K10.out.quiet (c := w11) (by rw [hw11]; exact Keeps.drewN _ _ _))
              clear hw11 HE
              go_wp2
              go_ret
              exact ⟨rfl, K11.out⟩
            | true =>
              have hq' : 2 * leftN s0 + 1 ≤ gk := hq
              have R0 : Box (RSt F N SA s0 s0 false (PI F SA s0 0)) := hid ⟨HC.out, HFS.out, (fun _ => ⟨rfl, fun j hj => by omega⟩), (fun e => by cases e)⟩
              clear HC HFS HPI hq
              go_wp2_with fail
              go_loopw [15, 18, 19] (fun av tv iv wr => ∃ (i : Nat) (s : Nat → Bool) (t : Bool) (va : Value), va = av ∧ tv = .bool t ∧ iv = .int .i64 (i : Int) ∧ i ≤ N ∧ Box (RSt F N SA s0 s t (PI F SA s0 i)) ∧ Box (Lst wr w7.heap.size va (elI s)) ∧ Box (Keeps [] w7 wr)) (fun _ _ iv _ => N - (intOf iv).toNat)
              case atStart => exact ⟨0, s0, false, va, rfl, rfl, rfl, by omega, R0, HLS, HK⟩
              case round =>
                clear R0 HLS HK
                obtain ⟨i, s, t, va, rfl, rfl, rfl, hi, HR, HLS, HK⟩ := hrel
                have c0 := (L7.out.quiet HK.out).c0
                by_cases hlt : i < N
                · have hlt' : (i : Int) < (N : Int) := by omega
                  have hi6 : i < 25 := by omega
                  have HI1 := hid (HIN.out wr (A7.out.quiet HK.out) i)
                  have HI2 := hid (lst_has HLS.out HR.out.fit i)
                  have hmi : SA i = true ↔ i ∈ l := HSM.out i (by omega)
                  have HASK : Box (¬ (SA i = true ∨ s i = true) → RSt F N SA s0 s t (PI F SA s0 (i + 1))) := hid (fun h => HR.out.keep (fun e hP => hP.skip (e ▸ h)))
                  have HPK := hid (HR.out.keep (Q := PK F SA s0 i 0) (fun _ hP => PK.start hP))
                  have HCL : Box ((SA i = true ∨ s i = true) → ∀ b, F i b = true → Clo F N SA b) := hid (fun h b hb => by
                    rcases h with h | h
                    · exact .base h hlt hb
                    · exact .step (HR.out.clo i h) hlt hb)
                  have hel : (elems (F i)).length ≤ 5000 := pre_len (F i) 5000
                  have HME : Box (∀ k, k < (elems (F i)).length → F i ((elems (F i)).getD k 0) = true) := hid (fun k hk => (mem_elems (HFT.out i)).1 (getD_mem _ _ _ hk))
                  have HNX : Box (∀ s : Nat → Bool, ∀ t k, k < (elems (F i)).length → s ((elems (F i)).getD k 0) = true → RSt F N SA s0 s t (PK F SA s0 i k) → RSt F N SA s0 s t (PK F SA s0 i (k + 1))) := hid (fun s t k hk hs h => h.keep (fun e hP => hP.next hk rfl (e ▸ hs)))
                  have HRW : Box (∀ s : Nat → Bool, ∀ t, RSt F N SA s0 s t (PK F SA s0 i (elems (F i)).length) → RSt F N SA s0 s t (PI F SA s0 (i + 1))) := hid (fun s t h => h.keep (fun _ hP => hP.row (HFT.out i)))
                  have HLTB : Box (∀ b, F i b = true → b < N) := hid (fun b hb => by rw [← HN.out]; exact ((HF.out i b).1 hb).lt HS.out.ok)
                  have HWI := hid (fun wz k => HW7.out wz k i hlt)
                  obtain ⟨ell, hell⟩ : ∃ ell, (elems (F i)).length = ell := ⟨_, rfl⟩
                  have HELL := hid hell
                  rw [hell] at hel HRW HWI HME HNX
                  clear hell
                  by_cases hil : i ∈ l
                  · rw [decide_eq_true hil] at HI1
                    have HCB := hid (HCL.out (.inl (hmi.2 hil)))
                    clear HASK HCL HR hil hmi HI2
                    go_wp2_with fail
                    refine HI1.out.mono ?_
                    rintro e w8 ⟨rfl, hw8⟩
                    rw [hw8]
                    clear hw8 HI1
                    clear c0
                    go_wp2_with fail
                    go_loopw [15, 18, 20] (fun av tv kv wr => ∃ (k : Nat) (s : Nat → Bool) (t : Bool) (va : Value), va = av ∧ tv = .bool t ∧ kv = .int .i64 (k : Int) ∧ k ≤ ell ∧ Box (RSt F N SA s0 s t (PK F SA s0 i k)) ∧ Box (Lst wr w7.heap.size va (elI s)) ∧ Box (Keeps [] w7 wr)) (fun _ _ kv _ => ell - (intOf kv).toNat)
                    case atStart => exact ⟨0, s, t, va, rfl, rfl, rfl, by omega, HPK, HLS, HK⟩
                    case round =>
                      clear HPK HLS HK
                      obtain ⟨k, s1, t1, va1, rfl, rfl, rfl, hk, HR, HLS, HK⟩ := hrel
                      obtain ⟨aw, cw2, hcw, hiw⟩ := HWI.out wr HK.out
                      by_cases hkl : k < ell
                      · have hkl' : (k : Int) < (ell : Int) := by omega
                        obtain ⟨bm, om, ham, hcm⟩ := intsN_at hiw (k := k) (by rw [HELL.out]; exact hkl)
                        subst ham
                        have HNK := hid (fun s t hs h => HNX.out s t k hkl hs h)
                        have hFb := HME.out k hkl
                        generalize (elems (F i)).getD k 0 = b at hcm HNK hFb
                        have hbN := HLTB.out b hFb
                        have hb5 : b < 5000 := by omega
                        have HCLB := hid (HCB.out b hFb)
                        have HIB := hid (lst_has HLS.out HR.out.fit b)
                        clear hFb hiw
                        cases hsb : s1 b with
                        | true =>
                          rw [hsb] at HIB
                          have HR2 := hid (HNK.out s1 t1 hsb HR.out)
                          clear hsb
                          go_wp2_with fail
                          refine HIB.out.mono ?_
                          rintro e w8 ⟨rfl, hw8⟩
                          rw [hw8]
                          clear hw8 HIB
                          go_wp2
                          go_roundw
                          case rel => exact ⟨k + 1, s1, t1, va1, rfl, rfl, by go_num, by omega, HR2, HLS, HK⟩
                          case measure => simp [intOf]; omega
                        | false =>
                          rw [hsb] at HIB
                          have HR2 := hid (HR.out.put hb5 hsb HCLB.out (PK F SA s0 i (k + 1)))
                          have HPU := hid (put_any w7.heap.size va1 (elI s1) (b : Int) wr HLS.out HK.out.size (by have := elI_le s1; omega))
                          have HPE := hid (fun l' h9 => put_el s1 HR.out.fit l' (b : Int) (by omega) h9)
                          clear hsb
                          go_wp2_with fail
                          refine HIB.out.mono ?_
                          rintro e w8 ⟨rfl, hw8⟩
                          rw [hw8]
                          clear hw8 HIB
                          go_wp2_with fail
                          refine HPU.out.mono ?_
                          rintro e w9 ⟨v', l', rfl, hp, hl9, k9⟩
                          have HL9 : Box (Lst w9 w7.heap.size v' (elI (insI s1 (b : Int)))) := hid (by rw [← HPE.out l' hp]; exact hl9)
                          have HK9 := hid (HK.out.quiet k9)
                          clear hp hl9 k9 HPU hcm hcw
                          go_wp2
                          go_roundw
                          case rel => exact ⟨k + 1, insI s1 (b : Int), true, v', rfl, rfl, by go_num, by omega, HR2, HL9, HK9⟩
                          case measure => simp [intOf]; omega
                      · obtain rfl : ell = k := by omega
                        have HR2 := hid (HRW.out s1 t1 HR.out)
                        clear hiw
                        go_wp2
                        go_roundw
                        case rel => exact ⟨i + 1, s1, t1, va1, rfl, rfl, by go_num, by omega, HR2, HLS, HK⟩
                        case measure => simp [intOf]; omega
                  · rw [decide_eq_false hil] at HI1
                    cases hsi : s i with
                    | true =>
                      rw [hsi] at HI2
                      have HCB := hid (HCL.out (.inr hsi))
                      clear HASK HCL HR hil hmi hsi
                      go_wp2_with fail
                      refine HI1.out.mono ?_
                      rintro e w8 ⟨rfl, hw8⟩
                      rw [hw8]
                      clear hw8 HI1
                      go_wp2_with fail
                      refine HI2.out.mono ?_
                      rintro e w8 ⟨rfl, hw8⟩
                      rw [hw8]
                      clear hw8 HI2
                      clear c0
                      go_wp2_with fail
                      go_loopw [15, 18, 20] (fun av tv kv wr => ∃ (k : Nat) (s : Nat → Bool) (t : Bool) (va : Value), va = av ∧ tv = .bool t ∧ kv = .int .i64 (k : Int) ∧ k ≤ ell ∧ Box (RSt F N SA s0 s t (PK F SA s0 i k)) ∧ Box (Lst wr w7.heap.size va (elI s)) ∧ Box (Keeps [] w7 wr)) (fun _ _ kv _ => ell - (intOf kv).toNat)
                      case atStart => exact ⟨0, s, t, va, rfl, rfl, rfl, by omega, HPK, HLS, HK⟩
                      case round =>
                        clear HPK HLS HK
                        obtain ⟨k, s1, t1, va1, rfl, rfl, rfl, hk, HR, HLS, HK⟩ := hrel
                        obtain ⟨aw, cw2, hcw, hiw⟩ := HWI.out wr HK.out
                        by_cases hkl : k < ell
                        · have hkl' : (k : Int) < (ell : Int) := by omega
                          obtain ⟨bm, om, ham, hcm⟩ := intsN_at hiw (k := k) (by rw [HELL.out]; exact hkl)
                          subst ham
                          have HNK := hid (fun s t hs h => HNX.out s t k hkl hs h)
                          have hFb := HME.out k hkl
                          generalize (elems (F i)).getD k 0 = b at hcm HNK hFb
                          have hbN := HLTB.out b hFb
                          have hb5 : b < 5000 := by omega
                          have HCLB := hid (HCB.out b hFb)
                          have HIB := hid (lst_has HLS.out HR.out.fit b)
                          clear hFb hiw
                          cases hsb : s1 b with
                          | true =>
                            rw [hsb] at HIB
                            have HR2 := hid (HNK.out s1 t1 hsb HR.out)
                            clear hsb
                            go_wp2_with fail
                            refine HIB.out.mono ?_
                            rintro e w8 ⟨rfl, hw8⟩
                            rw [hw8]
                            clear hw8 HIB
                            go_wp2
                            go_roundw
                            case rel => exact ⟨k + 1, s1, t1, va1, rfl, rfl, by go_num, by omega, HR2, HLS, HK⟩
                            case measure => simp [intOf]; omega
                          | false =>
                            rw [hsb] at HIB
                            have HR2 := hid (HR.out.put hb5 hsb HCLB.out (PK F SA s0 i (k + 1)))
                            have HPU := hid (put_any w7.heap.size va1 (elI s1) (b : Int) wr HLS.out HK.out.size (by have := elI_le s1; omega))
                            have HPE := hid (fun l' h9 => put_el s1 HR.out.fit l' (b : Int) (by omega) h9)
                            clear hsb
                            go_wp2_with fail
                            refine HIB.out.mono ?_
                            rintro e w8 ⟨rfl, hw8⟩
                            rw [hw8]
                            clear hw8 HIB
                            go_wp2_with fail
                            refine HPU.out.mono ?_
                            rintro e w9 ⟨v', l', rfl, hp, hl9, k9⟩
                            have HL9 : Box (Lst w9 w7.heap.size v' (elI (insI s1 (b : Int)))) := hid (by rw [← HPE.out l' hp]; exact hl9)
                            have HK9 := hid (HK.out.quiet k9)
                            clear hp hl9 k9 HPU hcm hcw
                            go_wp2
                            go_roundw
                            case rel => exact ⟨k + 1, insI s1 (b : Int), true, v', rfl, rfl, by go_num, by omega, HR2, HL9, HK9⟩
                            case measure => simp [intOf]; omega
                        · obtain rfl : ell = k := by omega
                          have HR2 := hid (HRW.out s1 t1 HR.out)
                          clear hiw
                          go_wp2
                          go_roundw
                          case rel => exact ⟨i + 1, s1, t1, va1, rfl, rfl, by go_num, by omega, HR2, HLS, HK⟩
                          case measure => simp [intOf]; omega
                    | false =>
                      rw [hsi] at HI2
                      have HR2 := hid (HASK.out (by rw [hmi, hsi]; simp [hil]))
                      clear HASK HCL HR hil hmi hsi HPK
                      go_wp2_with fail
                      refine HI1.out.mono ?_
                      rintro e w8 ⟨rfl, hw8⟩
                      rw [hw8]
                      clear hw8 HI1
                      go_wp2_with fail
                      refine HI2.out.mono ?_
                      rintro e w8 ⟨rfl, hw8⟩
                      rw [hw8]
                      clear hw8 HI2
                      go_wp2
                      go_roundw
                      case rel => exact ⟨i + 1, s, t, va, rfl, rfl, by go_num, by omega, HR2, HLS, HK⟩
                      case measure => simp [intOf]; omega
                · obtain rfl : N = i := by omega
                  have hmeas : 2 * leftN s + t.toNat < gk := by
                    cases t with
                    | false =>
                      rw [(HR.out.same rfl).1]
                      show 2 * leftN s0 + 0 < gk
                      omega
                    | true =>
                      have := HR.out.more rfl
                      show 2 * leftN s + 1 < gk
                      omega
                  have HC2 := hid HR.out.clo
                  have HF2 := hid HR.out.fit
                  have HP2 : Box (t = false → PI F SA s N) := hid (fun e => by
                    have := HR.out.same e
                    rw [this.1]
                    exact this.2)
                  clear HR
                  go_wp2_with fail
                  go_roundg (2 * leftN s + t.toNat)
                  case measure => exact hmeas
                  case rel => exact ⟨s, t, va, rfl, rfl, Nat.le_refl _, HC2, HF2, HP2, HLS, HK⟩
  · by_cases h0 : rt < 0
    · have HOF := hid (fof_out g HS.out (some ⟨p, 0, none⟩) g.length B rt w3 L3.out.gr (by omega))
      rw [HN.out] at HOF
      clear hin
      go_wp2_with fail
      refine HOF.out.mono ?_
      rintro e w4 ⟨rfl, k4⟩
      have K4 := hid (L3.out.keep.quiet k4)
      clear k4 HOF c0 c1
      go_wp2
      go_ret
      exact ⟨rfl, K4.out⟩
    · have HOF := hid (fof_out g HS.out (some ⟨p, 0, none⟩) g.length B rt w3 L3.out.gr (by rw [HN.out]; exact hin))
      rw [HN.out] at HOF
      have h1 : (N : Int) ≤ rt := by omega
      clear hin
      go_wp2_with fail
      refine HOF.out.mono ?_
      rintro e w4 ⟨rfl, k4⟩
      have K4 := hid (L3.out.keep.quiet k4)
      have t4 := (L3.out.quiet k4).two
      rw [HN.out] at t4
      have d0 := t4.c0
      clear k4 HOF c0 c1 t4
      go_wp2
      go_ret
      exact ⟨rfl, K4.out⟩
end Go.Proofs.YtlnimcpmkammfaaDoor
