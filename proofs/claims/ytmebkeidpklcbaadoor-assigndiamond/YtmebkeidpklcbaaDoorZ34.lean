/-
  The document's Free, plain: which points are reached with a register bare.
  The search of Free, plain: the points in line, those that have gone.
  Contract: the document's own Free.
  assign's Check and the document's Assign, plain: the same points, where names are right.
  Contract: the document's own Reads.
  Which block is the first that is not reached, plain.
-/
import Derived.Deep.LoopGhost
import Derived.Deep.DeepCutAuto
import Derived.BigQuiet
import Derived.Test.YtmebkeidpklcbaaDoorZ04
import Derived.Test.YtmebkeidpklcbaaDoorZ08
import Derived.Test.YtmebkeidpklcbaaDoorZ09
import Derived.Test.YtmebkeidpklcbaaDoorZ17
import Derived.Test.YtmebkeidpklcbaaDoorZ19
import Derived.Test.YtmebkeidpklcbaaDoorZ27
import Derived.Test.YtmebkeidpklcbaaDoorZ33

namespace Go.Proofs.YtmebkeidpklcbaaDoor
open Go.RowKit

/-- Does an instruction assign r? -/
def defsR (c : In8) (r : Nat) : Bool := isDef c && decide (c.dst = (r : Int))
/-- No one of the first i instructions does. -/
def clrB (x : Bl8) (r i : Nat) : Bool := (x.code.take i).all fun c => !defsR c r
theorem dfS_iff : ∀ (c : List In8) (s : Nat → Bool) (r : Nat), r < 5000 → dfS c s r = (s r || c.any fun i => defsR i r)
  | [], s, r, _ => by simp [dfS]
  | i :: c, s, r, h => by
    show dfS c (if isDef i then insI s i.dst else s) r = _
    rw [dfS_iff c _ r h, List.any_cons]
    unfold defsR
    cases isDef i with
    | false => simp
    | true =>
      rw [if_pos rfl]
      unfold insI
      by_cases e : i.dst = (r : Int)
      · have e2 : (r : Int) < 5000 := by omega
        simp [e, e2]
      · have e' : ¬ ((r : Int) = i.dst) := fun h => e h.symm
        simp [e, e']
theorem dfS_clr {x : Bl8} {r : Nat} (hr : r < 5000) (h : clrB x r x.code.length = true) : dfS x.code none_ r = false := by
  rw [dfS_iff _ _ _ hr]
  unfold clrB at h
  rw [List.take_length] at h
  have : (x.code.any fun i => defsR i r) = false := by
    rw [List.any_eq_false]
    intro c hc
    have := (List.all_eq_true.1 h) c hc
    simpa using this
  rw [this]
  rfl
theorem clr_dfS {x : Bl8} {r : Nat} (hr : r < 5000) (h : dfS x.code none_ r = false) (i : Nat) : clrB x r i = true := by
  rw [dfS_iff _ _ _ hr] at h
  have h2 : (x.code.any fun i => defsR i r) = false := by
    cases e : (x.code.any fun i => defsR i r) with
    | false => rfl
    | true => rw [e, Bool.or_true] at h; cases h
  unfold clrB
  rw [List.all_eq_true]
  intro c hc
  have := (List.any_eq_false.1 h2) c (List.mem_of_mem_take hc)
  simpa using this
theorem clr_zero (x : Bl8) (r : Nat) : clrB x r 0 = true := by unfold clrB; simp
theorem clr_succ {x : Bl8} {r i : Nat} (h : i < x.code.length) : clrB x r (i + 1) = (clrB x r i && !defsR (ins8 x i) r) := by
  unfold clrB
  rw [show x.code.take (i + 1) = x.code.take i ++ [ins8 x i] from take_snoc x.code i ⟨0, 0, 0, 0, 0, []⟩ h, List.all_append]
  simp
theorem clr_mono {x : Bl8} {r : Nat} : ∀ {i j : Nat}, i ≤ j → clrB x r j = true → clrB x r i = true := by
  intro i j hij h
  unfold clrB at *
  rw [List.all_eq_true] at *
  intro c hc
  exact h c ((List.take_sublist_take_left hij).subset hc)
/-- Is r assigned at a point? -/
def defAt (P : Pr8) (f r b i : Nat) : Bool := decide (i < (blk8 (fun8 P f) b).code.length) && defsR (ins8 (blk8 (fun8 P f) b) i) r
/-- Is a point reached with r bare? -/
def frB (P : Pr8) (f r b i : Nat) : Bool := bareS (fun8 P f) r b && clrB (blk8 (fun8 P f) b) r i
theorem mem_tgB {n : Nat} {x : Bl8} {u : Nat} : u ∈ tgB n x ↔ ∃ z, z ∈ tosB x ∧ inB z n = true ∧ z.toNat = u := by
  unfold tgB tosB
  rw [List.mem_append]
  by_cases f1 : x.fin = 1
  · have f2 : ¬ x.fin = 2 := by omega
    simp [f1]
    exact fun _ => eq_comm
  · by_cases f2 : x.fin = 2
    · by_cases e : x.els = x.to
      · simp [f2, e]
        exact fun _ => eq_comm
      · simp [f2, e]
        constructor
        · rintro (⟨h1, h2⟩ | ⟨h1, h2⟩)
          · exact .inl ⟨h1, h2.symm⟩
          · exact .inr ⟨h1, h2.symm⟩
        · rintro (⟨h1, h2⟩ | ⟨h1, h2⟩)
          · exact .inl ⟨h1, h2.symm⟩
          · exact .inr ⟨h1, h2.symm⟩
    · simp [f1, f2]
theorem mem_sel3 {P : Pr8} {f b : Nat} {q : Nat × Nat × Nat} : q ∈ sel3 P f (tosB (blk8 (fun8 P f) b)) ↔ ∃ u, u ∈ tgB (fun8 P f).blocks.length (blk8 (fun8 P f) b) ∧ q = (f, u, 0) := by
  unfold sel3
  rw [List.mem_map]
  constructor
  · rintro ⟨z, hz, rfl⟩
    rw [List.mem_filter] at hz
    have h9 := of_decide_eq_true hz.2
    exact ⟨z.toNat, mem_tgB.2 ⟨z, hz.1, inB_iff.2 h9, rfl⟩, rfl⟩
  · rintro ⟨u, hu, rfl⟩
    obtain ⟨z, h1, h2, h3⟩ := mem_tgB.1 hu
    exact ⟨z, List.mem_filter.2 ⟨h1, decide_eq_true (inB_iff.1 h2)⟩, by rw [h3]⟩
theorem bare_iff {F : Fu8} (hb : F.blocks.length ≤ 600) (h0 : 0 < F.blocks.length) (r b : Nat) : bareS F r b = true ↔ Pth (stopG (flowF F) (fun b => dfS (blk8 F b).code none_) r) noS 0 b := by
  unfold bareS
  rw [rch_all (stopG_sm (flowF_sm hb) _ r).ok]
  constructor
  · rintro ⟨z, hz, p⟩
    have := (mem_nodI.1 hz).1
    have e : (z : Int) = 0 := by simpa using this
    obtain rfl : z = 0 := by omega
    exact p
  · intro p
    exact ⟨0, mem_nodI.2 ⟨by simp, by rw [stopG_len, flowF_len]; exact h0⟩, p⟩
theorem stop_nb {F : Fu8} {r b : Nat} (hb : b < F.blocks.length) : nb (stopG (flowF F) (fun b => dfS (blk8 F b).code none_) r) b = if dfS (blk8 F b).code none_ r then [] else tgB F.blocks.length (blk8 F b) := by
  rw [stopG_nb (by rw [flowF_len]; exact hb), flowF_nb hb]
theorem fr_start {P : Pr8} {f : Nat} (r : Nat) (hb : (fun8 P f).blocks.length ≤ 600) (h0 : 0 < (fun8 P f).blocks.length) : frB P f r 0 0 = true := by
  unfold frB
  rw [clr_zero, Bool.and_true, bare_iff hb h0]
  exact Pth.refl rfl
theorem fr_step {P : Pr8} {f r b i : Nat} (hr : r < 5000) (hb : (fun8 P f).blocks.length ≤ 600) (h0 : 0 < (fun8 P f).blocks.length) (hp : IsPt P f b i) (h : frB P f r b i = true) (hd : defAt P f r b i = false) {q : Nat × Nat × Nat} (hq : q ∈ nex8 P f b i) :
    q.1 = f ∧ frB P f r q.2.1 q.2.2 = true := by
  unfold frB at h
  rw [Bool.and_eq_true] at h
  unfold nex8 at hq
  by_cases hi : i < (blk8 (fun8 P f) b).code.length
  · rw [if_pos hi] at hq
    obtain rfl := List.mem_singleton.1 hq
    unfold defAt at hd
    rw [decide_eq_true hi, Bool.true_and] at hd
    refine ⟨rfl, ?_⟩
    show frB P f r b (i + 1) = true
    unfold frB
    rw [h.1, clr_succ hi, h.2, hd]
    rfl
  · rw [if_neg hi] at hq
    obtain ⟨u, hu, rfl⟩ := mem_sel3.1 hq
    refine ⟨rfl, ?_⟩
    show frB P f r u 0 = true
    unfold frB
    rw [clr_zero, Bool.and_true, bare_iff hb h0]
    have hi2 : i = (blk8 (fun8 P f) b).code.length := by have := hp.2.2; omega
    have hn := dfS_clr hr (by rw [← hi2]; exact h.2)
    refine Pth.snoc ((bare_iff hb h0 r b).1 h.1) ?_ rfl
    rw [stop_nb hp.2.1, hn]
    exact hu
/-- Who holds the beginning and goes on where r is not assigned holds all that is reached with r bare. -/
theorem fr_all {P : Pr8} {f r : Nat} (hr : r < 5000) (hf : f < P.funcs.length) (hb : (fun8 P f).blocks.length ≤ 600) (h0 : 0 < (fun8 P f).blocks.length) {S : Nat × Nat × Nat → Prop} (s0 : S (f, 0, 0)) (st : ∀ b i, IsPt P f b i → S (f, b, i) → defAt P f r b i = false → ∀ q, q ∈ nex8 P f b i → S q) {b i : Nat} (hp : IsPt P f b i) (h : frB P f r b i = true) : S (f, b, i) := by
  have up : ∀ b, b < (fun8 P f).blocks.length → S (f, b, 0) → ∀ i, i ≤ (blk8 (fun8 P f) b).code.length → clrB (blk8 (fun8 P f) b) r i = true → S (f, b, i) := by
    intro b hb' hs i
    induction i with
    | zero => intro _ _; exact hs
    | succ i ih =>
      intro hi hc
      have hi' : i < (blk8 (fun8 P f) b).code.length := hi
      rw [clr_succ hi', Bool.and_eq_true] at hc
      refine st b i ⟨hf, hb', by omega⟩ (ih (by omega) hc.1) ?_ _ ?_
      · unfold defAt
        rw [decide_eq_true hi', Bool.true_and]
        simpa using hc.2
      · unfold nex8
        rw [if_pos hi']
        exact List.mem_singleton.2 rfl
  unfold frB at h
  rw [Bool.and_eq_true] at h
  refine up b hp.2.1 ?_ i hp.2.2 h.2
  have key : b < (fun8 P f).blocks.length ∧ S (f, b, 0) := by
    refine ((bare_iff hb h0 r b).1 h.1).carry (C := fun u => u < (fun8 P f).blocks.length ∧ S (f, u, 0)) ?_ ⟨h0, s0⟩
    intro u hu _ v hv _
    rw [stop_nb hu.1] at hv
    cases hd : dfS (blk8 (fun8 P f) u).code none_ r with
    | true => rw [hd, if_pos rfl] at hv; cases hv
    | false =>
      rw [hd, if_neg (by decide)] at hv
      refine ⟨tgB_lt v hv, ?_⟩
      have h1 := up u hu.1 hu.2 _ (Nat.le_refl _) (clr_dfS hr hd _)
      refine st u _ ⟨hf, hu.1, Nat.le_refl _⟩ h1 ?_ _ ?_
      · unfold defAt
        rw [decide_eq_false (by omega)]
        rfl
      · unfold nex8
        rw [if_neg (by omega)]
        exact mem_sel3.2 ⟨v, hv, rfl⟩
  exact key.2
/-- What Free answers. -/
def freeB (P : Pr8) (f r b i : Nat) : Bool := decide (parN P (fun8 P f) ≤ r) && frB P f r b i
end Go.Proofs.YtmebkeidpklcbaaDoor

namespace Go.Proofs.YtmebkeidpklcbaaDoor
open Go.RowKit

theorem ptI_inj {q r : Nat × Nat × Nat} (h : ptI q = ptI r) : q = r := by
  obtain ⟨a, b, c⟩ := q
  obtain ⟨a', b', c'⟩ := r
  unfold ptI at h
  simp only [Prod.mk.injEq] at h
  obtain ⟨h1, h2, h3⟩ := h
  simp only [Prod.mk.injEq]
  omega
theorem mem_ptI {S : List (Nat × Nat × Nat)} {q : Nat × Nat × Nat} : ptI q ∈ S.map ptI ↔ q ∈ S := by
  rw [List.mem_map]
  exact ⟨fun ⟨r, h1, h2⟩ => ptI_inj h2 ▸ h1, fun h => ⟨q, h, rfl⟩⟩
/-- The points in line S, of which k have gone. -/
structure FrS (P : Pr8) (f r b i : Nat) (S : List (Nat × Nat × Nat)) (k : Nat) : Prop where
  start : (f, 0, 0) ∈ S
  nd : S.Nodup
  good : ∀ q, q ∈ S → q.1 = f ∧ IsPt P q.1 q.2.1 q.2.2 ∧ frB P f r q.2.1 q.2.2 = true
  done : ∀ j q, j < k → S[j]? = some q → q ≠ (f, b, i) ∧ (defAt P f r q.2.1 q.2.2 = false → ∀ q', q' ∈ nex8 P f q.2.1 q.2.2 → q' ∈ S)
  le : k ≤ S.length
theorem FrS.begin {P : Pr8} {f r b i : Nat} (hf : f < P.funcs.length) (hb : (fun8 P f).blocks.length ≤ 600) (h0 : 0 < (fun8 P f).blocks.length) : FrS P f r b i [(f, 0, 0)] 0 :=
  ⟨by simp, by simp, fun q hq => by
    rw [List.mem_singleton.1 hq]
    exact ⟨rfl, ⟨hf, h0, Nat.zero_le _⟩, fr_start r hb h0⟩, fun j q hj => by omega, Nat.zero_le _⟩
theorem FrS.len {P : Pr8} {f r b i : Nat} {S : List (Nat × Nat × Nat)} {k : Nat} (h : FrS P f r b i S k) : S.length ≤ (pts P).length :=
  List.Nodup.length_le_of_subset h.nd (fun q hq => by
    obtain ⟨a, c, d⟩ := q
    exact mem_pts.2 (h.good _ hq).2.1)
/-- The next one goes, and leads nowhere. -/
theorem FrS.pass {P : Pr8} {f r b i : Nat} {S : List (Nat × Nat × Nat)} {k : Nat} (h : FrS P f r b i S k) {q : Nat × Nat × Nat} (hq : S[k]? = some q) (hne : q ≠ (f, b, i)) (hd : defAt P f r q.2.1 q.2.2 = true) : FrS P f r b i S (k + 1) :=
  ⟨h.start, h.nd, h.good, fun j x hj hx => by
    by_cases e : j = k
    · subst e
      rw [hq] at hx
      obtain rfl := Option.some.inj hx
      exact ⟨hne, fun h0 => by rw [hd] at h0; cases h0⟩
    · exact h.done j x (by omega) hx, by
    have := (List.getElem?_eq_some_iff.1 hq).1
    omega⟩
/-- The next one goes; of those that follow m have been looked at. -/
structure FrM (P : Pr8) (f r b i : Nat) (S : List (Nat × Nat × Nat)) (k : Nat) (q : Nat × Nat × Nat) (m : Nat) : Prop where
  base : FrS P f r b i S k
  at' : S[k]? = some q
  ne : q ≠ (f, b, i)
  nd : defAt P f r q.2.1 q.2.2 = false
  seen : ∀ x, x ∈ (nex8 P f q.2.1 q.2.2).take m → x ∈ S
theorem FrM.go {P : Pr8} {f r b i : Nat} {S : List (Nat × Nat × Nat)} {k m : Nat} {q x : Nat × Nat × Nat} (h : FrM P f r b i S k q m) (hm : m < (nex8 P f q.2.1 q.2.2).length) (hx : (nex8 P f q.2.1 q.2.2).getD m (0, 0, 0) = x) (hin : x ∈ S) : FrM P f r b i S k q (m + 1) :=
  ⟨h.base, h.at', h.ne, h.nd, fun y hy => by
    rw [take_snoc _ m (0, 0, 0) hm, hx] at hy
    rcases List.mem_append.1 hy with h1 | h1
    · exact h.seen y h1
    · rw [List.mem_singleton.1 h1]; exact hin⟩
theorem FrM.add {P : Pr8} {f r b i : Nat} {S : List (Nat × Nat × Nat)} {k m : Nat} {q x : Nat × Nat × Nat} (hr : r < 5000) (hb : (fun8 P f).blocks.length ≤ 600) (h0 : 0 < (fun8 P f).blocks.length) (h : FrM P f r b i S k q m) (hm : m < (nex8 P f q.2.1 q.2.2).length) (hx : (nex8 P f q.2.1 q.2.2).getD m (0, 0, 0) = x) (hin : x ∉ S) : FrM P f r b i (S ++ [x]) k q (m + 1) := by
  have hxm : x ∈ nex8 P f q.2.1 q.2.2 := by
    rw [← hx]
    exact getD_mem _ m (0, 0, 0) hm
  have hqS : q ∈ S := List.mem_of_getElem? h.at'
  obtain ⟨hq1, hq2, hq3⟩ := h.base.good q hqS
  have hq2' : IsPt P f q.2.1 q.2.2 := by rw [← hq1]; rw [hq1] at hq2 ⊢; exact hq2
  have hst := fr_step hr hb h0 hq2' hq3 h.nd hxm
  have hpt := nex_pt hq2' x hxm
  have hk : k < S.length := (List.getElem?_eq_some_iff.1 h.at').1
  refine ⟨⟨List.mem_append_left _ h.base.start, ?_, fun y hy => ?_, fun j y hj hy => ?_, by rw [List.length_append]; have := h.base.le; omega⟩, by rw [List.getElem?_append_left hk]; exact h.at', h.ne, h.nd, fun y hy => ?_⟩
  · rw [List.nodup_append]
    exact ⟨h.base.nd, by simp, fun a ha c hc e => hin (by rw [List.mem_singleton.1 hc] at e; exact e ▸ ha)⟩
  · rcases List.mem_append.1 hy with h1 | h1
    · exact h.base.good y h1
    · rw [List.mem_singleton.1 h1]
      exact ⟨hst.1, hpt, hst.2⟩
  · rw [List.getElem?_append_left (by omega)] at hy
    obtain ⟨h1, h2⟩ := h.base.done j y hj hy
    exact ⟨h1, fun h3 q' hq' => List.mem_append_left _ (h2 h3 q' hq')⟩
  · rw [take_snoc _ m (0, 0, 0) hm, hx] at hy
    rcases List.mem_append.1 hy with h1 | h1
    · exact List.mem_append_left _ (h.seen y h1)
    · exact List.mem_append_right _ h1
theorem FrM.end {P : Pr8} {f r b i : Nat} {S : List (Nat × Nat × Nat)} {k m : Nat} {q : Nat × Nat × Nat} (h : FrM P f r b i S k q m) (hm : (nex8 P f q.2.1 q.2.2).length ≤ m) : FrS P f r b i S (k + 1) :=
  ⟨h.base.start, h.base.nd, h.base.good, fun j x hj hx => by
    by_cases e : j = k
    · subst e
      rw [h.at'] at hx
      obtain rfl := Option.some.inj hx
      exact ⟨h.ne, fun _ y hy => h.seen y (by rw [List.take_of_length_le hm]; exact hy)⟩
    · exact h.base.done j x (by omega) hx, by
    have := (List.getElem?_eq_some_iff.1 h.at').1
    omega⟩
theorem FrS.none {P : Pr8} {f r b i : Nat} {S : List (Nat × Nat × Nat)} {k : Nat} (hr : r < 5000) (hb : (fun8 P f).blocks.length ≤ 600) (hp : IsPt P f b i) (h : FrS P f r b i S k) (hk : S.drop k = []) : frB P f r b i = false := by
  cases e : frB P f r b i with
  | false => rfl
  | true =>
    exfalso
    have hlen : S.length ≤ k := by
      have := congrArg List.length hk
      rw [List.length_drop] at this
      simp at this
      omega
    have hmem : (f, b, i) ∈ S := fr_all hr hp.1 hb (by have := hp.2.1; omega) (S := fun q => q ∈ S) h.start (fun b' i' hp' hs hd q hq => by
      obtain ⟨j, hj⟩ := List.getElem?_of_mem hs
      have hjl := (List.getElem?_eq_some_iff.1 hj).1
      exact (h.done j (f, b', i') (by omega) hj).2 hd q hq) hp e
    obtain ⟨j, hj⟩ := List.getElem?_of_mem hmem
    have hjl := (List.getElem?_eq_some_iff.1 hj).1
    exact (h.done j (f, b, i) (by omega) hj).1 rfl
theorem FrS.yes {P : Pr8} {f r b i : Nat} {S : List (Nat × Nat × Nat)} {k : Nat} (h : FrS P f r b i S k) (hq : S[k]? = some (f, b, i)) : frB P f r b i = true := (h.good _ (List.mem_of_getElem? hq)).2.2
end Go.Proofs.YtmebkeidpklcbaaDoor

namespace Go.Proofs.YtmebkeidpklcbaaDoor
open Go.RowKit

theorem PtC.kept {w w' : World} {g o : Nat} {q : Nat × Nat × Nat} {F : List Nat} (h : PtC w g o q) (k : Keeps F w w') (hn : g ∉ F) : PtC w' g o q := by
  have hl := block_lt_of_cell h.c0
  exact ⟨by rw [k.cell (p := ⟨g, o, none⟩) hl hn]; exact h.c0, by rw [k.cell (p := ⟨g, o + 1, none⟩) hl hn]; exact h.c1, by rw [k.cell (p := ⟨g, o + 2, none⟩) hl hn]; exact h.c2⟩
/-- What follows, beside the map M and the line lv. -/
def NX (w : World) (M : Nat) (lv : Value) (a : Option Addr) (L : List (Nat × Nat × Nat)) : Prop :=
  L = [] ∨ ∃ g o, a = some ⟨g, o, none⟩ ∧ (∀ j q, L[j]? = some q → PtC w g (o + j * 3) q) ∧ g ≠ M ∧ g < w.heap.size ∧ lv.ownBlock ≠ some g
theorem NX.put {w w' : World} {M : Nat} {lv : Value} {a : Option Addr} {L : List (Nat × Nat × Nat)} (h : NX w M lv a L) (k : Keeps [M] w w') : NX w' M lv a L := by
  rcases h with h | ⟨g, o, h1, h2, h3, h4, h5⟩
  · exact .inl h
  · exact .inr ⟨g, o, h1, fun j q hq => (h2 j q hq).kept k (by simpa using h3), h3, Nat.lt_of_lt_of_le h4 k.size, h5⟩
theorem NX.quiet {w w' : World} {M : Nat} {lv : Value} {a : Option Addr} {L : List (Nat × Nat × Nat)} (h : NX w M lv a L) (k : Keeps [] w w') : NX w' M lv a L := by
  rcases h with h | ⟨g, o, h1, h2, h3, h4, h5⟩
  · exact .inl h
  · exact .inr ⟨g, o, h1, fun j q hq => (h2 j q hq).kept k (by simp), h3, Nat.lt_of_lt_of_le h4 k.size, h5⟩
theorem NX.push {w w' : World} {M : Nat} {lv v' : Value} {a : Option Addr} {L : List (Nat × Nat × Nat)} (h : NX w M lv a L) (k : Keeps lv.ownBlock.toList w w') (hv : v'.ownBlock = lv.ownBlock ∨ ∃ g, v'.ownBlock = some g ∧ w.heap.size ≤ g) : NX w' M v' a L := by
  rcases h with h | ⟨g, o, h1, h2, h3, h4, h5⟩
  · exact .inl h
  · refine .inr ⟨g, o, h1, fun j q hq => (h2 j q hq).kept k (fun hx => h5 (by simpa using hx)), h3, Nat.lt_of_lt_of_le h4 k.size, ?_⟩
    rcases hv with hv | ⟨g', hv, hg'⟩
    · rw [hv]; exact h5
    · rw [hv]
      intro e
      have := Option.some.inj e
      omega
theorem NX.at {w : World} {M : Nat} {lv : Value} {a : Option Addr} {L : List (Nat × Nat × Nat)} (h : NX w M lv a L) {j : Nat} {q : Nat × Nat × Nat} (hq : L[j]? = some q) : ∃ g o, a = some ⟨g, o, none⟩ ∧ PtC w g (o + j * 3) q := by
  rcases h with h | ⟨g, o, h1, h2, _⟩
  · rw [h] at hq; simp at hq
  · exact ⟨g, o, h1, h2 j q hq⟩
theorem NX.begin {w w0 : World} {M : Nat} {lv : Value} {a : Option Addr} {L : List (Nat × Nat × Nat)} (h : RowsAt w 3 PtC a L) (hn : ∀ g o, a = some ⟨g, o, none⟩ → w0.heap.size ≤ g) (hM : M < w0.heap.size) (hl : ∀ x, lv.ownBlock = some x → x < w0.heap.size) : NX w M lv a L := by
  rcases h with h | ⟨g, o, h1, h2⟩
  · exact .inl h
  · cases L with
    | nil => exact .inl rfl
    | cons q L =>
      have h3 := hn g o h1
      have h4 := block_lt_of_cell (h2 0 q rfl).c0
      exact .inr ⟨g, o, h1, h2, by omega, h4, fun e => by have := hl g e; omega⟩
theorem pline_one (w : World) (base : Nat) (x y z : Int) (hb : base ≤ w.heap.size) : PLine (w.alloc (.cells #[.int .i64 x, .int .i64 y, .int .i64 z] 43)) base (.slice (some ⟨w.heap.size, 0, none⟩) 1 1) [(x, y, z)] := by
  have hn := heap_new w (.cells #[.int .i64 x, .int .i64 y, .int .i64 z] 43)
  refine ⟨w.heap.size, 0, 1, rfl, hb, ⟨fun i hi => ?_, fun k hk => ⟨?_, hfrozen hn (0 + k)⟩, by simp [flat], by simp⟩, by unfold maxLen; omega, Nat.le_refl _⟩
  · rw [hcell hn (0 + i), Nat.zero_add]
    have hi' : i < 3 := hi
    match i, hi' with
    | 0, _ => rfl
    | 1, _ => rfl
    | 2, _ => rfl
  · rw [hcell hn (0 + k), Nat.zero_add]
    have hk' : k < 3 := hk
    match k, hk' with
    | 0, _ => rfl
    | 1, _ => rfl
    | 2, _ => rfl
/-- What Code and Def tell of a point, in one form. -/
theorem code_form {w w' : World} {P : Pr8} {f b i : Nat} {e : Ending} (h : CodePost w P f b i e w') : ∃ (x : In8) (ok : Bool) (ar : Value), e = .returned (.tuple #[insV x ar, .bool ok]) ∧ Keeps [] w w' ∧ (∃ a n c, ar = .slice a n c) ∧ ∀ r : Nat, defAt P f r b i = (ok && defsR x r) := by
  obtain ⟨k, ⟨h1, a, cp, rfl, _⟩ | ⟨h1, rfl⟩⟩ := h
  · exact ⟨_, true, _, rfl, k, ⟨_, _, _, rfl⟩, fun r => by unfold defAt; rw [decide_eq_true h1]⟩
  · exact ⟨zero8, false, _, rfl, k, ⟨_, _, _, rfl⟩, fun r => by unfold defAt; rw [decide_eq_false h1]; rfl⟩
theorem drop_cons {α : Type} {S : List α} {k : Nat} {q : α} {l : List α} (h : S.drop k = q :: l) : S[k]? = some q ∧ S.drop (k + 1) = l := by
  have h1 : (S.drop k)[0]? = some q := by rw [h]; rfl
  rw [List.getElem?_drop, Nat.add_zero] at h1
  refine ⟨h1, ?_⟩
  have : (S.drop k).drop 1 = l := by rw [h]; rfl
  rw [List.drop_drop] at this
  exact this
/-- In the midst of Free: the map, the line, what was there before. -/
structure FQ (W wr : World) (M : Nat) (v : Value) (S : List (Nat × Nat × Nat)) (k : Nat) : Prop where
  seen : PSeen wr M (S.map ptI)
  line : PLine wr (M + 1) v ((S.drop k).map ptI)
  keep : Keeps [] W wr
theorem FQ.quiet {W wr wy : World} {M : Nat} {v : Value} {S : List (Nat × Nat × Nat)} {k : Nat} (h : FQ W wr M v S k) (q : Keeps [] wr wy) : FQ W wy M v S k :=
  ⟨h.seen.kept q (by simp), h.line.kept q (by simp), h.keep.quiet q⟩
theorem FQ.own {W wr : World} {M : Nat} {v : Value} {S : List (Nat × Nat × Nat)} {k : Nat} (h : FQ W wr M v S k) : ∀ x, v.ownBlock = some x → M + 1 ≤ x ∧ x < wr.heap.size := by
  intro x hx
  obtain ⟨g, h1, h2, h3⟩ := h.line.own
  rw [h1] at hx
  have := Option.some.inj hx
  omega
/-- A new point is marked and stands at the end of the line. -/
theorem FQ.add {W wr w1 wa w2 : World} {M : Nat} {v v' : Value} {S : List (Nat × Nat × Nat)} {k : Nat} {q : Nat × Nat × Nat} (h : FQ W wr M v S k) (hM : W.heap.size ≤ M) (hk : k ≤ S.length) (hs : PSeen w1 M (S.map ptI ++ [ptI q])) (k1 : Keeps [M] wr w1) (ka : Keeps [] w1 wa) (hl : PLine w2 (M + 1) v' ((S.drop k).map ptI ++ [ptI q])) (k2 : Keeps v.ownBlock.toList wa w2) : FQ W w2 M v' (S ++ [q]) k := by
  have hv : M ∉ v.ownBlock.toList := fun hx => by
    have := h.own M (by simpa using hx)
    omega
  refine ⟨?_, ?_, ?_⟩
  · rw [List.map_append]
    exact (hs.kept ka (by simp)).kept k2 hv
  · rw [List.drop_append_of_le_length hk, List.map_append]
    exact hl
  · refine ((h.keep.fresh k1 (fun x hx => by simp at hx; omega)).quiet ka).fresh k2 (fun x hx => ?_)
    have := h.own x (by simpa using hx)
    omega
end Go.Proofs.YtmebkeidpklcbaaDoor

namespace Go.Proofs.YtmebkeidpklcbaaDoor
open Go.RowKit

/-- The registers that are read at a point. -/
def readsL (P : Pr8) (q : Nat × Nat × Nat) : List Int :=
  if q.2.2 < (blk8 (fun8 P q.1) q.2.1).code.length then usesL (ins8 (blk8 (fun8 P q.1) q.2.1) q.2.2)
  else if (blk8 (fun8 P q.1) q.2.1).fin = 2 ∨ (blk8 (fun8 P q.1) q.2.1).fin = 3 then [(blk8 (fun8 P q.1) q.2.1).reg] else []
/-- Is one of them bare there? -/
def rbadP (P : Pr8) (q : Nat × Nat × Nat) : Bool := (readsL P q).any fun z => freeB P q.1 z.toNat q.2.1 q.2.2
theorem names_pt {P : Pr8} (h : namesO P = none) {f b i : Nat} (hp : IsPt P f b i) : ptOk P (f, b, i) = true := by
  have ht := names_tab h
  have hh := names_head h hp.1
  unfold namesO at h
  rw [if_pos ht] at h
  cases hf : (List.range P.funcs.length).findSome? (fnNm P) with
  | some q => rw [hf] at h; cases h
  | none =>
    have h1 := List.findSome?_eq_none_iff.1 hf f (List.mem_range.2 hp.1)
    unfold fnNm at h1
    rw [if_pos hh, Option.map_eq_none_iff, List.find?_eq_none] at h1
    have := h1 (f, b, i) (mem_ptF.2 ⟨b, i, hp.2.1, hp.2.2, rfl⟩)
    simpa using this
theorem names_reads {P : Pr8} (h : namesO P = none) {f b i : Nat} (hp : IsPt P f b i) : ∀ z, z ∈ readsL P (f, b, i) → inB z (fun8 P f).regs.length = true := by
  intro z hz
  have h1 := names_pt h hp
  unfold readsL at hz
  by_cases hi : i < (blk8 (fun8 P f) b).code.length
  · rw [if_pos hi] at hz
    rw [ptOk_in hi] at h1
    obtain ⟨k, hk⟩ := List.getElem?_of_mem hz
    exact regs_use (insOk_parts h1).1 k z hk
  · rw [if_neg hi] at hz
    obtain rfl : i = (blk8 (fun8 P f) b).code.length := by have := hp.2.2; omega
    rw [ptOk_end] at h1
    simp only at hz
    unfold endB at h1
    split at hz
    · next e =>
      obtain rfl := List.mem_singleton.1 hz
      rcases e with e | e
      · rw [e, if_neg (by decide), if_pos rfl, Bool.and_eq_true] at h1
        exact h1.1
      · rw [e, if_neg (by decide), if_neg (by decide), if_pos rfl, Bool.and_eq_true] at h1
        exact h1.1
    · cases hz
theorem bad_reads {P : Pr8} {f b i : Nat} (hp : IsPt P f b i) (s : Nat → Bool) : badAt (blk8 (fun8 P f) b) s i = (readsL P (f, b, i)).any fun z => !hasI (dfS ((blk8 (fun8 P f) b).code.take i) s) z := by
  unfold readsL
  by_cases hi : i < (blk8 (fun8 P f) b).code.length
  · rw [badAt_in hi, if_pos hi, List.not_all_eq_any_not]
  · rw [if_neg hi]
    obtain rfl : i = (blk8 (fun8 P f) b).code.length := by have := hp.2.2; omega
    rw [badAt_end, List.take_length]
    simp only
    split
    · next e => rw [decide_eq_true e]; simp
    · next e => rw [decide_eq_false e]; simp
theorem bare_rch {F : Fu8} (hb : F.blocks.length ≤ 600) (h0 : 0 < F.blocks.length) {r b : Nat} (h : bareS F r b = true) : rch (flowF F) [0] b = true := by
  have p := (bare_iff hb h0 r b).1 h
  rw [rch_all (flowF_sm hb).ok]
  refine ⟨0, mem_nodI.2 ⟨by simp, by rw [flowF_len]; exact h0⟩, ?_⟩
  have key : b < F.blocks.length ∧ Pth (flowF F) noS 0 b := by
    refine p.carry (C := fun u => u < F.blocks.length ∧ Pth (flowF F) noS 0 u) ?_ ⟨h0, Pth.refl rfl⟩
    intro u hu _ v hv _
    rw [stop_nb hu.1] at hv
    split at hv
    · cases hv
    · exact ⟨tgB_lt v hv, Pth.snoc hu.2 (by rw [flowF_nb hu.1]; exact hv) rfl⟩
  exact key.2
theorem has_free {P : Pr8} {f b i r : Nat} (hr : r < 5000) (hl : r < (fun8 P f).regs.length) : (!hasI (dfS ((blk8 (fun8 P f) b).code.take i) (inS P (fun8 P f) b)) (r : Int)) = freeB P f r b i := by
  unfold hasI freeB frB
  rw [Int.toNat_natCast, decide_eq_true (by omega : (0 : Int) ≤ (r : Int)), Bool.true_and, dfS_iff _ _ _ hr]
  unfold inS
  rw [decide_eq_true hl, Bool.true_and]
  have e : clrB (blk8 (fun8 P f) b) r i = !(((blk8 (fun8 P f) b).code.take i).any fun i => defsR i r) := by
    unfold clrB
    rw [List.not_any_eq_all_not]
  rw [e]
  cases decide (parN P (fun8 P f) ≤ r) <;> cases bareS (fun8 P f) r b <;> cases (((blk8 (fun8 P f) b).code.take i).any fun i => defsR i r) <;> rfl
theorem bad_same {P : Pr8} (hn : namesO P = none) {f b i : Nat} (hp : IsPt P f b i) (hb : (fun8 P f).blocks.length ≤ 600) (hr : (fun8 P f).regs.length ≤ 1000) : badP P (f, b, i) = rbadP P (f, b, i) := by
  have h0 : 0 < (fun8 P f).blocks.length := by have := hp.2.1; omega
  show (rch (flowF (fun8 P f)) [0] b && badAt (blk8 (fun8 P f) b) (inS P (fun8 P f) b) i) = (readsL P (f, b, i)).any fun z => freeB P f z.toNat b i
  rw [bad_reads hp]
  have e : ∀ z, z ∈ readsL P (f, b, i) → (!hasI (dfS ((blk8 (fun8 P f) b).code.take i) (inS P (fun8 P f) b)) z) = freeB P f z.toNat b i := by
    intro z hz
    have h1 := inB_iff.1 (names_reads hn hp z hz)
    obtain ⟨r, rfl⟩ := Int.eq_ofNat_of_zero_le h1.1
    exact has_free (by omega) (by omega)
  have e2 : ((readsL P (f, b, i)).any fun z => !hasI (dfS ((blk8 (fun8 P f) b).code.take i) (inS P (fun8 P f) b)) z) = (readsL P (f, b, i)).any fun z => freeB P f z.toNat b i := by
    rw [Bool.eq_iff_iff, List.any_eq_true, List.any_eq_true]
    constructor
    · rintro ⟨z, h1, h2⟩; exact ⟨z, h1, by rw [← e z h1]; exact h2⟩
    · rintro ⟨z, h1, h2⟩; exact ⟨z, h1, by rw [e z h1]; exact h2⟩
  rw [e2]
  cases ha : ((readsL P (f, b, i)).any fun z => freeB P f z.toNat b i) with
  | false => rw [Bool.and_false]
  | true =>
    obtain ⟨z, _, hz⟩ := List.any_eq_true.1 ha
    unfold freeB frB at hz
    simp only [Bool.and_eq_true] at hz
    rw [bare_rch hb h0 hz.2.1]
    rfl
theorem find_congr {α : Type} {p q : α → Bool} : ∀ {l : List α}, (∀ x, x ∈ l → p x = q x) → l.find? p = l.find? q
  | [], _ => rfl
  | a :: l, h => by
    rw [List.find?_cons, List.find?_cons, h a (List.mem_cons_self ..), find_congr fun x hx => h x (List.mem_cons_of_mem _ hx)]
theorem find_same {P : Pr8} (hn : namesO P = none) (hb : ∀ f, f < P.funcs.length → (fun8 P f).blocks.length ≤ 600) (hr : ∀ f, f < P.funcs.length → (fun8 P f).regs.length ≤ 1000) : (pts P).find? (badP P) = (pts P).find? (rbadP P) := by
  refine find_congr ?_
  rintro ⟨f, b, i⟩ hq
  have hp := mem_pts.1 hq
  exact bad_same hn hp (hb f hp.1) (hr f hp.1)
end Go.Proofs.YtmebkeidpklcbaaDoor

namespace Go.Proofs.YtmebkeidpklcbaaDoor
open Go.RowKit

set_option maxRecDepth 20000 in
set_option maxHeartbeats 4000000 in
theorem rreads_any {w : World} {pb po : Nat} {P : Pr8} (h : PrC w pb po P) (hs : Sm8 P) (hfew : FewA P) {f b i : Nat} (hp : IsPt P f b i) :
    Calls Tryd.prog 48 #[.pointer (some ⟨pb, po, none⟩), ptV f b i] w fun e w' => ∃ a cp, e = .returned (.slice a (readsL P (f, b, i)).length cp) ∧ IntsAt w' a (readsL P (f, b, i)) ∧ Keeps [] w w' := by
  have ka := Keeps.alloc [] w (.cells #[.int .i64 (f : Int), .int .i64 (b : Int), .int .i64 (i : Int)] 43)
  have hq := heap_new w (.cells #[.int .i64 (f : Int), .int .i64 (b : Int), .int .i64 (i : Int)] 43)
  have HC := hid (code_any (PrC.stays _ _ _ _ _ ka h) hs f b i hp)
  have HFW := hid fun (hi : i < (blk8 (fun8 P f) b).code.length) => hfew f b i hp.1 hp.2.1 hi
  obtain ⟨fa, fcp, HH⟩ := h.fns
  obtain ⟨fb, fo, ba, bcp, rfl, B⟩ := HH.at hp.1
  obtain ⟨bb, bo, rfl, L⟩ := B.at hp.2.1
  obtain ⟨ca, ccp, hcc0, _⟩ := L.c0
  have hf : (f : Int) < (P.funcs.length : Int) := by have := hp.1; omega
  have hb : (b : Int) < ((fun8 P f).blocks.length : Int) := by have := hp.2.1; omega
  have hi := hp.2.2
  have HRL : Box (readsL P (f, b, i) = if i < (blk8 (fun8 P f) b).code.length then usesL (ins8 (blk8 (fun8 P f) b) i) else if (blk8 (fun8 P f) b).fin = 2 ∨ (blk8 (fun8 P f) b).fin = 3 then [(blk8 (fun8 P f) b).reg] else []) := hid rfl
  have CS : Box (∀ w', Keeps [] w w' → w'.cell? ⟨pb, po + 4, none⟩ = some (.slice (some ⟨fb, fo, none⟩) P.funcs.length fcp) ∧ w'.cell? ⟨fb, fo + f * 3 + 2, none⟩ = some (.slice (some ⟨bb, bo, none⟩) (fun8 P f).blocks.length bcp) ∧ w'.cell? ⟨bb, bo + b * 5, none⟩ = some (.slice ca (blk8 (fun8 P f) b).code.length ccp) ∧ w'.cell? ⟨bb, bo + b * 5 + 1, none⟩ = some (.int .i64 (blk8 (fun8 P f) b).fin) ∧ w'.cell? ⟨bb, bo + b * 5 + 2, none⟩ = some (.int .i64 (blk8 (fun8 P f) b).reg) ∧ w'.cell? ⟨bb, bo + b * 5 + 3, none⟩ = some (.int .i64 (blk8 (fun8 P f) b).to) ∧ w'.cell? ⟨bb, bo + b * 5 + 4, none⟩ = some (.int .i64 (blk8 (fun8 P f) b).els)) := hid fun w' k => ⟨cell_stays k HH.cell, cell_stays k B.cell, cell_stays k hcc0, cell_stays k L.c1.1, cell_stays k L.c2.1, cell_stays k L.c3.1, cell_stays k L.c4.1⟩
  have KA := hid ka
  have HQ := hid hq
  clear h hs hp HH B L hcc0 ka hq hfew
  unfold CodePost at HC
  generalize P.funcs.length = N at *
  generalize (fun8 P f).blocks.length = NB at *
  generalize readsL P (f, b, i) = RL at *
  generalize blk8 (fun8 P f) b = x at *
  unfold ptV at HC ⊢
  go_enter Tryd.func48, Tryd.ntmps48
  go_upto_region 1 with fail
  generalize w.alloc (.cells #[.int .i64 (f : Int), .int .i64 (b : Int), .int .i64 (i : Int)] 43) = W at *
  generalize w.heap.size = q at *
  have p0 := hcell HQ.out 0
  have p1 := hcell HQ.out 1
  have p2 := hcell HQ.out 2
  by_cases hin : i < x.code.length
  · rw [if_pos hin] at HRL
    have hfw := HFW.out hin
    have HC2 : Box (Calls Tryd.prog 42 #[.pointer (some ⟨pb, po, none⟩), .agg #[.int .i64 (f : Int), .int .i64 (b : Int), .int .i64 (i : Int)]] W fun e w' => ∃ a cp, e = .returned (atV (ins8 x i) (.slice a (ins8 x i).args.length cp)) ∧ IntsAt w' a (ins8 x i).args ∧ Keeps [] W w') := hid (HC.out.mono fun e w' h' => by
      rcases h' with ⟨k, ⟨_, a, cp, h1, h2, _⟩ | ⟨h1, _⟩⟩
      · exact ⟨a, cp, h1, h2, k⟩
      · exact absurd hin h1)
    clear HC HFW hi CS
    generalize ins8 x i = y at *
    unfold atV insV at HC2
    go_upto_region 2 with (go_at_call 42; refine HC2.out.mono ?_; rintro e w3 ⟨aa, ac, rfl, hz3, k3⟩)
    have ka := Keeps.alloc [] w3 (.cells #[.int .i64 y.op, .int .i64 y.dst, .int .i64 y.a, .int .i64 y.b, .int .i64 y.n, .slice aa y.args.length ac] 65)
    have hci := heap_new w3 (.cells #[.int .i64 y.op, .int .i64 y.dst, .int .i64 y.a, .int .i64 y.b, .int .i64 y.n, .slice aa y.args.length ac] 65)
    have HK3 := hid (KA.out.quiet (k3.quiet ka))
    have HU := hid (vuse_any y aa ac _ (hz3.kept ka (fun _ _ _ => by simp)) (by omega))
    have i0 := hcell hci 0
    have i1 := hcell hci 1
    have i2 := hcell hci 2
    have i3 := hcell hci 3
    have i4 := hcell hci 4
    have i5 := hcell hci 5
    clear ka hci k3 hz3 p0 p1 p2 HC2 HQ KA
    unfold insV at HU
    generalize w3.alloc (.cells #[.int .i64 y.op, .int .i64 y.dst, .int .i64 y.a, .int .i64 y.b, .int .i64 y.n, .slice aa y.args.length ac] 65) = W3 at *
    generalize w3.heap.size = cb at *
    generalize y.args.length = al at *
    go_wp2_with (go_at_call 62; refine HU.out.mono ?_; rintro e w4 ⟨a4, c4, rfl, hz4, k4⟩)
    go_ret
    rw [HRL.out]
    exact ⟨a4, c4, rfl, hz4, HK3.out.quiet k4⟩
  · rw [if_neg hin] at HRL
    obtain rfl : i = x.code.length := by omega
    have HC2 : Box (Calls Tryd.prog 42 #[.pointer (some ⟨pb, po, none⟩), .agg #[.int .i64 (f : Int), .int .i64 (b : Int), .int .i64 (x.code.length : Int)]] W fun e w' => e = .returned noAt ∧ Keeps [] W w') := hid (HC.out.mono fun e w' h' => by
      rcases h' with ⟨k, ⟨h1, _⟩ | ⟨_, h1⟩⟩
      · exact absurd h1 hin
      · exact ⟨h1, k⟩)
    clear HC HFW hi hin
    unfold noAt insV zero8 at HC2
    go_upto_region 2 with (go_at_call 42; refine HC2.out.mono ?_; rintro e w3 ⟨rfl, k3⟩)
    have ka := Keeps.alloc [] w3 (.cells #[.int .i64 0, .int .i64 0, .int .i64 0, .int .i64 0, .int .i64 0, .slice none 0 0] 65)
    have HK3 := hid (KA.out.quiet (k3.quiet ka))
    have HQ3 := hid (keep_heap HQ.out (k3.quiet ka))
    clear ka k3 p0 p1 p2 HC2 HQ KA
    generalize w3.alloc (.cells #[.int .i64 0, .int .i64 0, .int .i64 0, .int .i64 0, .int .i64 0, .slice none 0 0] 65) = W3 at *
    have p0 := hcell HQ3.out 0
    have p1 := hcell HQ3.out 1
    have p2 := hcell HQ3.out 2
    obtain ⟨l4, l2, lc, n1, n2, n3, n4⟩ := CS.out _ HK3.out
    have kz := Keeps.alloc [] W3 (.cells #[.slice none 0 0, .int .i64 0, .int .i64 0, .int .i64 0, .int .i64 0] 63)
    have t0 := cell_stays kz p0
    have t1 := cell_stays kz p1
    have t4 := cell_stays kz l4
    have t2 := cell_stays kz l2
    have tc := cell_stays kz lc
    have s1 := cell_stays kz n1
    have s2 := cell_stays kz n2
    have s3 := cell_stays kz n3
    have s4 := cell_stays kz n4
    clear kz
    go_upto_region 4 with fail
    go_region
    clear t0 t1 t2 t4 tc s1 s2 s3 s4
    go_upto_region 5 with fail
    have hu : ((W3.alloc (.cells #[.slice ca x.code.length ccp, .int .i64 x.fin, .int .i64 x.reg, .int .i64 x.to, .int .i64 x.els] 63)).drew).heap[W3.heap.size]? = some (.cells #[.slice ca x.code.length ccp, .int .i64 x.fin, .int .i64 x.reg, .int .i64 x.to, .int .i64 x.els] 63 (0, 0)) := heap_new W3 _
    have kk : Keeps [] W3 ((W3.alloc (.cells #[.slice ca x.code.length ccp, .int .i64 x.fin, .int .i64 x.reg, .int .i64 x.to, .int .i64 x.els] 63)).drew) := (Keeps.alloc [] _ _).quiet (Keeps.drew [] _)
    have HQ4 := hid (keep_heap HQ3.out kk)
    have HK4 := hid (HK3.out.quiet kk)
    generalize (W3.alloc (.cells #[.slice ca x.code.length ccp, .int .i64 x.fin, .int .i64 x.reg, .int .i64 x.to, .int .i64 x.els] 63)).drew = W4 at *
    generalize W3.heap.size = u at *
    clear kk HQ3 HK3 p0 p1 p2 l4 l2 lc n1 n2 n3 n4 CS
    have r2 := hcell HQ4.out 2
    have z0 := hcell hu 0
    have z1 := hcell hu 1
    have z2 := hcell hu 2
    by_cases f2 : x.fin = 2
    · rw [if_pos (.inl f2)] at HRL
      rw [f2] at z1
      clear f2
      go_wp2_with fail
      go_ret
      rw [HRL.out]
      exact ⟨_, _, rfl, lit1 _ _ rfl _, HK4.out.quiet (Keeps.alloc [] _ _)⟩
    by_cases f3 : x.fin = 3
    · rw [if_pos (.inr f3)] at HRL
      rw [f3] at z1
      clear f2 f3
      go_wp2_with fail
      go_ret
      rw [HRL.out]
      exact ⟨_, _, rfl, lit1 _ _ rfl _, HK4.out.quiet (Keeps.alloc [] _ _)⟩
    rw [if_neg (fun h => h.elim f2 f3)] at HRL
    have o2 : (x.fin == 2) = false := by simpa using f2
    have o3 : (x.fin == 3) = false := by simpa using f3
    clear f2 f3
    go_wp2_with fail
    go_ret
    rw [HRL.out]
    exact ⟨none, 0, rfl, .inl rfl, HK4.out⟩
end Go.Proofs.YtmebkeidpklcbaaDoor

namespace Go.Proofs.YtmebkeidpklcbaaDoor
open Go.RowKit

/-- The first m blocks of function f, by their first points; those of the first k functions. -/
def bkF (f m : Nat) : List (Nat × Nat × Nat) := (List.range m).map fun b => (f, b, 0)
def bkP (P : Pr8) (k : Nat) : List (Nat × Nat × Nat) := (List.range k).flatMap fun f => bkF f (fun8 P f).blocks.length
def bks (P : Pr8) : List (Nat × Nat × Nat) := bkP P P.funcs.length
def lostP (P : Pr8) (q : Nat × Nat × Nat) : Bool := !rch (flowF (fun8 P q.1)) [0] q.2.1
theorem bkF_succ (f m : Nat) : bkF f (m + 1) = bkF f m ++ [(f, m, 0)] := by unfold bkF; rw [List.range_succ, List.map_append]; rfl
theorem bkP_succ (P : Pr8) (k : Nat) : bkP P (k + 1) = bkP P k ++ bkF k (fun8 P k).blocks.length := by unfold bkP; rw [List.range_succ, List.flatMap_append, List.flatMap_singleton]
theorem bkF_split (f : Nat) : ∀ {b m : Nat}, b < m → ∃ r, bkF f m = bkF f b ++ ((f, b, 0) :: r)
  | b, 0, h => absurd h (Nat.not_lt_zero _)
  | b, m + 1, h => by
    by_cases e : b = m
    · subst e
      exact ⟨[], by rw [bkF_succ]⟩
    · obtain ⟨r, hr⟩ := bkF_split f (b := b) (m := m) (by omega)
      exact ⟨r ++ [(f, m, 0)], by rw [bkF_succ, hr]; simp⟩
theorem bkP_cut (P : Pr8) : ∀ {f m : Nat}, f < m → ∃ r, bkP P m = bkP P f ++ (bkF f (fun8 P f).blocks.length ++ r)
  | f, 0, h => absurd h (Nat.not_lt_zero _)
  | f, m + 1, h => by
    by_cases e : f = m
    · subst e
      exact ⟨[], by rw [bkP_succ, List.append_nil]⟩
    · obtain ⟨r, hr⟩ := bkP_cut P (f := f) (m := m) (by omega)
      exact ⟨r ++ bkF m (fun8 P m).blocks.length, by rw [bkP_succ, hr]; simp [List.append_assoc]⟩
theorem bks_at {P : Pr8} {f b : Nat} (hf : f < P.funcs.length) (hb : b < (fun8 P f).blocks.length) (hw : Well (lostP P) (bkP P f ++ bkF f b)) (h : lostP P (f, b, 0) = true) : (bks P).find? (lostP P) = some (f, b, 0) := by
  obtain ⟨r1, h1⟩ := bkP_cut P hf
  obtain ⟨r2, h2⟩ := bkF_split f hb
  have e : bks P = (bkP P f ++ bkF f b) ++ (f, b, 0) :: (r2 ++ r1) := by
    unfold bks
    rw [h1, h2]
    simp [List.append_assoc]
  rw [e, List.find?_append, List.find?_eq_none.2 (fun q hq => by simp [hw q hq]), List.find?_cons_of_pos h]
  rfl
theorem bks_none {P : Pr8} (hw : Well (lostP P) (bkP P P.funcs.length)) : (bks P).find? (lostP P) = none := List.find?_eq_none.2 fun q hq => by simp [hw q hq]
theorem Well.one {B : Nat × Nat × Nat → Bool} {q : Nat × Nat × Nat} (h : B q = false) : Well B [q] := fun x hx => by rw [List.mem_singleton.1 hx]; exact h
end Go.Proofs.YtmebkeidpklcbaaDoor
