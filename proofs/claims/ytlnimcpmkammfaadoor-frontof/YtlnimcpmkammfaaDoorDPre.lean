/-
  Plain: the search in depth by places, its tree; who stands above whom, by nodes.
-/
import Derived.Test.YtlnimcpmkammfaaDoorDSem
namespace Go.Proofs.YtlnimcpmkammfaaDoor

/-- The search in depth: nodes as they are found, and the places from which. -/
def dfs (g : List (List Nat)) : Nat → Nat → Nat → List Nat × List Nat → List Nat × List Nat
  | 0, _, _, st => st
  | f + 1, n, q, st => (nb g n).foldl (fun s m => if m ∈ s.1 then s else dfs g f m st.1.length s) (st.1 ++ [n], st.2 ++ [q])
def dfsL (g : List (List Nat)) (f k : Nat) (ns : List Nat) (st : List Nat × List Nat) : List Nat × List Nat := ns.foldl (fun s m => if m ∈ s.1 then s else dfs g f m k s) st
theorem dfs_succ (g : List (List Nat)) (f n q : Nat) (st : List Nat × List Nat) : dfs g (f + 1) n q st = dfsL g f st.1.length (nb g n) (st.1 ++ [n], st.2 ++ [q]) := rfl
theorem dfsL_cons (g : List (List Nat)) (f k m : Nat) (ns : List Nat) (st : List Nat × List Nat) : dfsL g f k (m :: ns) st = dfsL g f k ns (if m ∈ st.1 then st else dfs g f m k st) := rfl
theorem dfsL_snoc (g : List (List Nat)) (f k m : Nat) (ns : List Nat) (st : List Nat × List Nat) : dfsL g f k (ns ++ [m]) st = if m ∈ (dfsL g f k ns st).1 then dfsL g f k ns st else dfs g f m k (dfsL g f k ns st) := by
  unfold dfsL
  rw [List.foldl_append]
  rfl
def inB (N : List Nat) : Nat → Bool := fun m => decide (m ∈ N)
theorem un_snoc {g : List (List Nat)} {N : List Nat} {n : Nat} (hn : n ∉ N) (hl : n < g.length) : un g (inB (N ++ [n])) + 1 = un g (inB N) := by
  have h := un_ins g (inB N) n (by simp [inB, hn]) hl
  have e : ins (inB N) n = inB (N ++ [n]) := by
    funext m
    unfold ins inB
    by_cases h1 : m ∈ N <;> by_cases h2 : m = n <;> simp [h1, h2]
  rw [e] at h
  exact h
theorem un_in_mono {g : List (List Nat)} {N M : List Nat} (h : ∀ m, m ∈ N → m ∈ M) : un g (inB M) ≤ un g (inB N) :=
  un_mono g _ _ fun m hm => by simp [inB] at hm ⊢; exact h m hm

/-- The lists in the midst of the search. -/
structure Wf (g : List (List Nat)) (st : List Nat × List Nat) : Prop where
  len : st.1.length = st.2.length
  nodup : st.1.Nodup
  lt : ∀ m, m ∈ st.1 → m < g.length
def Agr (l : List Nat) (f : Nat → Nat) : Prop := ∀ k, k < l.length → f k = l.getD k 0
theorem Agr.left {l x : List Nat} {f : Nat → Nat} (h : Agr (l ++ x) f) : Agr l f := by
  intro k hk
  rw [h k (by rw [List.length_append]; omega), List.getD_eq_getElem?_getD, List.getD_eq_getElem?_getD, List.getElem?_append_left hk]
theorem Agr.at {l x : List Nat} {a : Nat} {f : Nat → Nat} (h : Agr (l ++ a :: x) f) : f l.length = a := by
  rw [h l.length (by simp), List.getD_eq_getElem?_getD, List.getElem?_append_right (Nat.le_refl _)]
  simp
theorem Agr.mem {l : List Nat} {f : Nat → Nat} (h : Agr l f) {m : Nat} (hm : m ∈ l) : ∃ j, j < l.length ∧ f j = m := by
  obtain ⟨j, hj, e⟩ := List.mem_iff_getElem.1 hm
  exact ⟨j, hj, by rw [h j hj, List.getD_eq_getElem?_getD, List.getElem?_eq_getElem hj, Option.getD_some, e]⟩
theorem Agr.inj {l : List Nat} {f : Nat → Nat} (h : Agr l f) (hn : l.Nodup) {a b : Nat} (ha : a < l.length) (hb : b < l.length) (e : f a = f b) : a = b := by
  rw [h a ha, h b hb, List.getD_eq_getElem?_getD, List.getD_eq_getElem?_getD, List.getElem?_eq_getElem ha, List.getElem?_eq_getElem hb] at e
  rw [Option.getD_some, Option.getD_some] at e
  exact (List.getElem_inj hn).1 e

/-- What a search has found from place k0 on, up to k1; from c on all edges lead to what is found. -/
structure Post (g : List (List Nat)) (nd p : Nat → Nat) (k0 k1 c : Nat) : Prop where
  par : ∀ k, k0 < k → k < k1 → k0 ≤ p k ∧ p k < k ∧ Anc p (p k) (k - 1) ∧ nd k ∈ nb g (nd (p k))
  desc : ∀ k, k0 ≤ k → k < k1 → Anc p k0 k
  clo : ∀ k, c ≤ k → k < k1 → ∀ m, m ∈ nb g (nd k) → ∃ j, j < k1 ∧ nd j = m
  edge : ∀ a b, k0 ≤ a → a < k1 → b < k1 → a < b → nd b ∈ nb g (nd a) → Anc p a b
theorem Post.one (g : List (List Nat)) (nd p : Nat → Nat) (k0 : Nat) : Post g nd p k0 (k0 + 1) (k0 + 1) :=
  ⟨fun k h1 h2 => by omega, fun k h1 h2 => by rw [show k = k0 by omega]; exact Anc.refl p k0, fun k h1 h2 => by omega, fun a b h1 h2 h3 h4 => by omega⟩
theorem Post.join {g : List (List Nat)} {nd p : Nat → Nat} {k0 k1 k2 : Nat} (h : Post g nd p k0 k1 (k0 + 1)) (k : Post g nd p k1 k2 k1) (h01 : k0 < k1) (h12 : k1 ≤ k2) (hp : p k1 = k0) (he : nd k1 ∈ nb g (nd k0)) (hi : ∀ a b, a < k2 → b < k2 → nd a = nd b → a = b) : Post g nd p k0 k2 (k0 + 1) := by
  have hdesc : ∀ x, k0 ≤ x → x < k2 → Anc p k0 x := by
    intro x h1 h2
    by_cases e : x < k1
    · exact h.desc x h1 e
    · have h3 : Anc p k0 k1 := by have := Anc.par p k1; rw [hp] at this; exact this
      exact h3.trans (k.desc x (by omega) h2)
  refine ⟨fun x h1 h2 => ?_, hdesc, fun x h1 h2 m hm => ?_, fun a b h1 h2 h3 h4 h5 => ?_⟩
  · by_cases e : x < k1
    · exact h.par x h1 e
    · by_cases e2 : x = k1
      · subst e2
        rw [hp]
        exact ⟨Nat.le_refl _, h01, h.desc (x - 1) (by omega) (by omega), he⟩
      · obtain ⟨q1, q2, q3, q4⟩ := k.par x (by omega) h2
        exact ⟨by omega, q2, q3, q4⟩
  · by_cases e : x < k1
    · obtain ⟨j, hj, ej⟩ := h.clo x h1 e m hm
      exact ⟨j, by omega, ej⟩
    · exact k.clo x (by omega) h2 m hm
  · by_cases e : a = k0
    · subst e; exact hdesc b (by omega) h3
    · by_cases e1 : a < k1
      · obtain ⟨j, hj, ej⟩ := h.clo a (by omega) e1 _ h5
        have := hi j b (by omega) h3 ej
        subst this
        exact h.edge a j h1 e1 hj h4 h5
      · exact k.edge a b (by omega) h2 h3 h4 h5

/-- What a visit of n, found from place q, has made of the lists. -/
structure Vis (g : List (List Nat)) (n q : Nat) (st st' : List Nat × List Nat) : Prop where
  wf : Wf g st'
  ex : ∃ X Y, st'.1 = st.1 ++ n :: X ∧ st'.2 = st.2 ++ q :: Y
  post : ∀ nd p, Agr st'.1 nd → Agr st'.2 p → Post g nd p st.1.length st'.1.length st.1.length
/-- What the rounds of a visit at place k0 have made of the lists. -/
structure VisL (g : List (List Nat)) (k0 : Nat) (ns : List Nat) (st st' : List Nat × List Nat) : Prop where
  wf : Wf g st'
  ex : ∃ X Y, st'.1 = st.1 ++ X ∧ st'.2 = st.2 ++ Y
  all : ∀ m, m ∈ ns → m ∈ st'.1
  post : ∀ nd p, Agr st'.1 nd → Agr st'.2 p → Post g nd p k0 st.1.length (k0 + 1) → Post g nd p k0 st'.1.length (k0 + 1)
theorem Vis.sub {g : List (List Nat)} {n q : Nat} {st st' : List Nat × List Nat} (h : Vis g n q st st') : (∀ m, m ∈ st.1 → m ∈ st'.1) ∧ n ∈ st'.1 ∧ st.1.length < st'.1.length := by
  obtain ⟨X, Y, h1, h2⟩ := h.ex
  rw [h1]
  exact ⟨fun m hm => List.mem_append_left _ hm, by simp, by simp⟩
theorem VisL.nil {g : List (List Nat)} {k0 : Nat} {st : List Nat × List Nat} (h : Wf g st) : VisL g k0 [] st st :=
  ⟨h, ⟨[], [], by simp, by simp⟩, fun m hm => absurd hm List.not_mem_nil, fun _ _ _ _ hp => hp⟩
theorem VisL.snoc_in {g : List (List Nat)} {k0 m : Nat} {ns : List Nat} {st s1 : List Nat × List Nat} (h : VisL g k0 ns st s1) (hm : m ∈ s1.1) : VisL g k0 (ns ++ [m]) st s1 :=
  ⟨h.wf, h.ex, fun x hx => by
    rcases List.mem_append.1 hx with h1 | h1
    · exact h.all x h1
    · rw [List.mem_singleton.1 h1]; exact hm, h.post⟩
theorem VisL.snoc_out {g : List (List Nat)} {k0 m n : Nat} {ns : List Nat} {st s1 s2 : List Nat × List Nat} (h : VisL g k0 ns st s1) (hv : Vis g m k0 s1 s2) (hk : k0 < st.1.length) (hn : st.1.getD k0 0 = n) (hmn : m ∈ nb g n) : VisL g k0 (ns ++ [m]) st s2 := by
  obtain ⟨X, Y, e1, e2⟩ := h.ex
  obtain ⟨X', Y', f1, f2⟩ := hv.ex
  refine ⟨hv.wf, ⟨X ++ m :: X', Y ++ k0 :: Y', by rw [f1, e1, List.append_assoc], by rw [f2, e2, List.append_assoc]⟩, fun x hx => ?_, fun nd p h1 h2 h3 => ?_⟩
  · rcases List.mem_append.1 hx with q | q
    · exact hv.sub.1 x (h.all x q)
    · rw [List.mem_singleton.1 q]; exact hv.sub.2.1
  · have h1' := h1
    have h2' := h2
    rw [f1] at h1'
    rw [f2] at h2'
    have hp := h.post nd p h1'.left h2'.left h3
    have hq := hv.post nd p h1 h2
    have l1 : st.1.length ≤ s1.1.length := by rw [e1, List.length_append]; omega
    have hnk : nd k0 = n := by
      have h9 := h1'.left
      rw [e1] at h9
      rw [h9.left k0 hk, hn]
    have hpk : p s1.1.length = k0 := by rw [h.wf.len]; exact h2'.at
    refine hp.join hq (by omega) (by have := hv.sub.2.2; omega) hpk ?_ (fun a b ha hb e => h1.inj hv.wf.nodup ha hb e)
    rw [hnk, h1'.at]
    exact hmn
theorem dfsL_take (g : List (List Nat)) (hg : Ok g) (f n k0 : Nat) (s0 : List Nat × List Nat) (ih : ∀ (m q : Nat) (st : List Nat × List Nat), Wf g st → m ∉ st.1 → m < g.length → un g (inB st.1) < f → Vis g m q st (dfs g f m q st))
    (hw0 : Wf g s0) (hk0 : k0 < s0.1.length) (hnn : s0.1.getD k0 0 = n) (hu : un g (inB s0.1) < f) : ∀ (k : Nat), VisL g k0 ((nb g n).take k) s0 (dfsL g f k0 ((nb g n).take k) s0)
  | 0 => VisL.nil hw0
  | k + 1 => by
    have ihk := dfsL_take g hg f n k0 s0 ih hw0 hk0 hnn hu k
    by_cases hk : k < (nb g n).length
    · have e : (nb g n).take (k + 1) = (nb g n).take k ++ [(nb g n)[k]] := by rw [List.take_succ_eq_append_getElem hk]
      have hm : (nb g n)[k] ∈ nb g n := List.getElem_mem hk
      generalize (nb g n)[k] = m at e hm
      rw [e, dfsL_snoc]
      by_cases h1 : m ∈ (dfsL g f k0 ((nb g n).take k) s0).1
      · rw [if_pos h1]; exact ihk.snoc_in h1
      · rw [if_neg h1]
        obtain ⟨X, Y, e1, _⟩ := ihk.ex
        have hu2 : un g (inB (dfsL g f k0 ((nb g n).take k) s0).1) < f := by
          refine Nat.lt_of_le_of_lt (un_in_mono (N := s0.1) fun x hx => ?_) hu
          rw [e1]
          exact List.mem_append_left _ hx
        exact ihk.snoc_out (ih m k0 _ ihk.wf h1 (hg n m hm) hu2) hk0 hnn hm
    · have e : (nb g n).take (k + 1) = (nb g n).take k := by rw [List.take_of_length_le (by omega), List.take_of_length_le (by omega)]
      rw [e]; exact ihk
theorem wf_snoc {g : List (List Nat)} {st : List Nat × List Nat} {n q : Nat} (hw : Wf g st) (hn : n ∉ st.1) (hl : n < g.length) : Wf g (st.1 ++ [n], st.2 ++ [q]) := by
  refine ⟨by simp [hw.len], ?_, fun m hm => ?_⟩
  · show (st.1 ++ [n]).Nodup
    rw [List.nodup_append]
    refine ⟨hw.nodup, by simp, fun a ha b hb => ?_⟩
    rw [List.mem_singleton.1 hb]
    exact fun e => hn (e ▸ ha)
  · have hm' : m ∈ st.1 ++ [n] := hm
    rcases List.mem_append.1 hm' with h1 | h1
    · exact hw.lt m h1
    · rw [List.mem_singleton.1 h1]; exact hl
theorem dfs_spec (g : List (List Nat)) (hg : Ok g) : ∀ (f n q : Nat) (st : List Nat × List Nat), Wf g st → n ∉ st.1 → n < g.length → un g (inB st.1) < f → Vis g n q st (dfs g f n q st)
  | 0, _, _, _, _, _, _, h => by omega
  | f + 1, n, q, st, hw, hn, hl, hu => by
    have hs := un_snoc hn hl
    have hw0 : Wf g (st.1 ++ [n], st.2 ++ [q]) := wf_snoc hw hn hl
    have hk0 : st.1.length < (st.1 ++ [n], st.2 ++ [q]).1.length := by simp
    have hnn : (st.1 ++ [n], st.2 ++ [q]).1.getD st.1.length 0 = n := by simp
    have loop := dfsL_take g hg f n st.1.length (st.1 ++ [n], st.2 ++ [q]) (fun m q st => dfs_spec g hg f m q st) hw0 hk0 hnn (show un g (inB (st.1 ++ [n])) < f by omega)
    have h := loop (nb g n).length
    rw [List.take_length] at h
    rw [dfs_succ]
    generalize dfsL g f st.1.length (nb g n) (st.1 ++ [n], st.2 ++ [q]) = s' at h
    obtain ⟨X, Y, e1, e2⟩ := h.ex
    have e1' : s'.1 = st.1 ++ n :: X := by rw [e1, List.append_assoc]; rfl
    have e2' : s'.2 = st.2 ++ q :: Y := by rw [e2, List.append_assoc]; rfl
    refine ⟨h.wf, ⟨X, Y, e1', e2'⟩, fun nd p h1 h2 => ?_⟩
    have l0 : (st.1 ++ [n], st.2 ++ [q]).1.length = st.1.length + 1 := by simp
    have hp := h.post nd p h1 h2 (by rw [l0]; exact Post.one g nd p _)
    have hnd : nd st.1.length = n := by
      have h9 := h1
      rw [e1'] at h9
      exact h9.at
    refine ⟨hp.par, hp.desc, fun k hk1 hk2 m hm => ?_, hp.edge⟩
    by_cases e : k = st.1.length
    · subst e
      rw [hnd] at hm
      exact h1.mem (h.all m hm)
    · exact hp.clo k (by omega) hk2 m hm

/-- The whole search from r. -/
def dsr (g : List (List Nat)) (r : Nat) : List Nat × List Nat := dfs g (g.length + 1) r 0 ([], [])
def ndd (g : List (List Nat)) (r k : Nat) : Nat := (dsr g r).1.getD k 0
def prr (g : List (List Nat)) (r k : Nat) : Nat := (dsr g r).2.getD k 0
def Eg (g : List (List Nat)) (r a b : Nat) : Prop := a < (dsr g r).1.length ∧ b < (dsr g r).1.length ∧ ndd g r b ∈ nb g (ndd g r a)
/-- The search from r: its tree, and what it finds. -/
structure Srd (g : List (List Nat)) (r : Nat) : Prop where
  tr : Tr (dsr g r).1.length (Eg g r) (prr g r)
  len : (dsr g r).1.length = (dsr g r).2.length
  lt : ∀ k, k < (dsr g r).1.length → ndd g r k < g.length
  inj : ∀ a b, a < (dsr g r).1.length → b < (dsr g r).1.length → ndd g r a = ndd g r b → a = b
  zero : ndd g r 0 = r
  clo : ∀ k, k < (dsr g r).1.length → ∀ m, m ∈ nb g (ndd g r k) → ∃ j, j < (dsr g r).1.length ∧ ndd g r j = m
theorem dsr_spec (g : List (List Nat)) (hg : Ok g) {r : Nat} (hr : r < g.length) : Srd g r := by
  have h := dfs_spec g hg (g.length + 1) r 0 ([], []) ⟨rfl, List.nodup_nil, fun m hm => absurd hm List.not_mem_nil⟩ List.not_mem_nil hr (Nat.lt_succ_of_le (un_le g _))
  have a1 : Agr (dsr g r).1 (ndd g r) := fun k _ => rfl
  have a2 : Agr (dsr g r).2 (prr g r) := fun k _ => rfl
  have hp := h.post (ndd g r) (prr g r) a1 a2
  obtain ⟨X, Y, e1, e2⟩ := h.ex
  have hs := h.sub
  have hd : dfs g (g.length + 1) r 0 ([], []) = dsr g r := rfl
  rw [hd] at h hp hs e1 e2
  have p0 : prr g r 0 = 0 := by unfold prr; rw [e2]; rfl
  have n0 : ndd g r 0 = r := by unfold ndd; rw [e1]; rfl
  have hpos : 0 < (dsr g r).1.length := hs.2.2
  refine ⟨⟨hpos, p0, fun k h0 hk => (hp.par k h0 hk).2.1, fun k h0 hk => (hp.par k h0 hk).2.2.1, fun k h0 hk => ?_, fun a b he hlt => hp.edge a b (Nat.zero_le _) he.1 he.2.1 hlt he.2.2, fun a b he => ⟨he.1, he.2.1⟩⟩, h.wf.len, fun k hk => ?_, fun a b ha hb e => a1.inj h.wf.nodup ha hb e, n0, fun k hk m hm => hp.clo k (Nat.zero_le _) hk m hm⟩
  · have q := hp.par k h0 hk
    exact ⟨by have := q.2.1; omega, hk, q.2.2.2⟩
  · refine h.wf.lt _ ?_
    unfold ndd
    rw [List.getD_eq_getElem?_getD, List.getElem?_eq_getElem hk]
    exact List.getElem_mem hk

/-- Is m not the node a? -/
def eqB (a : Nat) : Nat → Bool := fun m => m == a
theorem eqB_false {a m : Nat} : eqB a m = false ↔ m ≠ a := by unfold eqB; simp
/-- a stands on each way from r to b, which is reached. -/
def Dom (g : List (List Nat)) (r a b : Nat) : Prop := Pth g noS r b ∧ ¬ Pth g (eqB a) r b
theorem Srd.way {g : List (List Nat)} {r : Nat} (h : Srd g r) {s : Nat → Bool} {C : Nat → Prop} (hC : ∀ k, C k → s (ndd g r k) = false) : ∀ {k a b : Nat}, Wy (Eg g r) C k a b → Pth g s (ndd g r a) (ndd g r b)
  | 0, a, b, w => by rw [← w.2]; exact Pth.refl (hC a w.1)
  | k + 1, a, b, w => by
    obtain ⟨h1, c, hc, hw⟩ := w
    exact Pth.cons (hC a h1) hc.2.2 (h.way hC hw)
theorem Srd.yaw {g : List (List Nat)} {r : Nat} (h : Srd g r) {s : Nat → Bool} {C : Nat → Prop} (hC : ∀ k, k < (dsr g r).1.length → s (ndd g r k) = false → C k) : ∀ {k a b : Nat}, a < (dsr g r).1.length → Wk g s k (ndd g r a) b → ∃ j, j < (dsr g r).1.length ∧ ndd g r j = b ∧ Wy (Eg g r) C k a j
  | 0, a, b, ha, w => ⟨a, ha, w.2, hC a ha w.1, rfl⟩
  | k + 1, a, b, ha, w => by
    obtain ⟨h1, c, hc, hw⟩ := w
    obtain ⟨i, hi, rfl⟩ := h.clo a ha c hc
    obtain ⟨j, hj, e, w2⟩ := h.yaw hC hi hw
    exact ⟨j, hj, e, hC a ha h1, i, ⟨ha, hi, hc⟩, w2⟩
theorem Srd.reach {g : List (List Nat)} {r : Nat} (h : Srd g r) (b : Nat) : Pth g noS r b ↔ ∃ j, j < (dsr g r).1.length ∧ ndd g r j = b := by
  constructor
  · rintro ⟨k, w⟩
    rw [← h.zero] at w
    obtain ⟨j, hj, e, _⟩ := h.yaw (C := fun _ => True) (fun _ _ _ => trivial) h.tr.pos w
    exact ⟨j, hj, e⟩
  · rintro ⟨j, hj, rfl⟩
    obtain ⟨k, w⟩ := h.tr.down j j (Nat.le_refl _) hj (h.tr.root j j (Nat.le_refl _) hj)
    have := h.way (s := noS) (fun _ _ => rfl) w
    rw [h.zero] at this
    exact this
theorem Srd.dom {g : List (List Nat)} {r : Nat} (h : Srd g r) {i j : Nat} (hi : i < (dsr g r).1.length) (hj : j < (dsr g r).1.length) : Dom g r (ndd g r i) (ndd g r j) ↔ Dm (dsr g r).1.length (Eg g r) i j := by
  constructor
  · rintro ⟨_, h2⟩
    refine ⟨hj, fun k w => h2 ?_⟩
    have := h.way (s := eqB (ndd g r i)) (C := fun x => x < (dsr g r).1.length ∧ x ≠ i) (fun x hx => eqB_false.2 fun e => hx.2 (h.inj x i hx.1 hi e)) (k := k) (a := 0) (b := j) (by
      have hb : ∀ {k a : Nat}, a < (dsr g r).1.length → Wy (Eg g r) (fun x => x ≠ i) k a j → Wy (Eg g r) (fun x => x < (dsr g r).1.length ∧ x ≠ i) k a j := by
        intro k
        induction k with
        | zero => intro a ha w; exact ⟨⟨ha, w.1⟩, w.2⟩
        | succ k ih =>
          intro a ha w
          obtain ⟨h1, c, hc, hw⟩ := w
          exact ⟨⟨ha, h1⟩, c, hc, ih hc.2.1 hw⟩
      exact hb h.tr.pos w)
    rw [h.zero] at this
    exact this
  · rintro ⟨_, h2⟩
    refine ⟨(h.reach _).2 ⟨j, hj, rfl⟩, ?_⟩
    rintro ⟨k, w⟩
    have w' : Wk g (eqB (ndd g r i)) k (ndd g r 0) (ndd g r j) := by rw [h.zero]; exact w
    obtain ⟨j', hj', e, w2⟩ := h.yaw (C := fun x => x ≠ i) (fun x hx hs => fun e => eqB_false.1 hs (by rw [e])) h.tr.pos w'
    rw [h.inj j' j hj' hj e] at w2
    exact h2 k w2
theorem Dom.on {g : List (List Nat)} {r a b : Nat} (h : Dom g r a b) : Pth g noS r a := by
  rcases h.1.split (t := eqB a) (x := a) (fun u hu _ => eqB_false.2 hu) with h1 | h1
  · exact absurd h1 h.2
  · exact h1
theorem Dom.refl {g : List (List Nat)} {r a : Nat} (h : Pth g noS r a) : Dom g r a a := ⟨h, fun p => eqB_false.1 p.stop rfl⟩
theorem Dom.root {g : List (List Nat)} {r b : Nat} (h : Pth g noS r b) : Dom g r r b := ⟨h, fun p => eqB_false.1 p.start rfl⟩
theorem Dom.trans {g : List (List Nat)} {r a b c : Nat} (h : Dom g r a b) (k : Dom g r b c) : Dom g r a c := by
  refine ⟨k.1, fun p => ?_⟩
  rcases p.split (t := fun x => eqB a x || eqB b x) (x := b) (fun u hu hs => by show (eqB a u || eqB b u) = false; rw [hs, eqB_false.2 hu]; rfl) with h1 | h1
  · exact k.2 (h1.mono fun x hx => by
      cases h2 : eqB b x with
      | false => rfl
      | true => rw [h2] at hx; simp at hx)
  · exact h.2 h1
theorem Dom.anti {g : List (List Nat)} (hg : Ok g) {r a b : Nat} (hr : r < g.length) (h : Dom g r a b) (k : Dom g r b a) : a = b := by
  have S := dsr_spec g hg hr
  obtain ⟨i, hi, rfl⟩ := (S.reach a).1 k.1
  obtain ⟨j, hj, rfl⟩ := (S.reach b).1 h.1
  have h1 := S.tr.dm_le ((S.dom hi hj).1 h)
  have h2 := S.tr.dm_le ((S.dom hj hi).1 k)
  rw [show i = j by omega]
/-- Of two that stand above one, one stands above the other. -/
theorem Dom.line {g : List (List Nat)} (hg : Ok g) {r a b c : Nat} (hr : r < g.length) (h : Dom g r a c) (k : Dom g r b c) : Dom g r a b ∨ Dom g r b a := by
  have S := dsr_spec g hg hr
  obtain ⟨i, hi, rfl⟩ := (S.reach a).1 h.on
  obtain ⟨j, hj, rfl⟩ := (S.reach b).1 k.on
  obtain ⟨l, hl, rfl⟩ := (S.reach c).1 h.1
  have h1 := (S.dom hi hl).1 h
  have h2 := (S.dom hj hl).1 k
  have go : ∀ {x y : Nat}, y < (dsr g r).1.length → x ≤ y → Dm (dsr g r).1.length (Eg g r) x l → Dm (dsr g r).1.length (Eg g r) y l → Dm (dsr g r).1.length (Eg g r) x y := by
    intro x y hy hxy q1 q2
    by_cases e : x = y
    · subst e; exact Dm.refl hy
    · refine ⟨hy, fun m w => ?_⟩
      obtain ⟨n, wd⟩ := S.tr.down l l (Nat.le_refl _) hl (S.tr.dm_anc q2)
      exact q1.2 _ (Wy.trans (wd.mono (D := fun v => v ≠ x) fun v hv => by have := hv.1; omega) w)
  by_cases hle : i ≤ j
  · exact .inl ((S.dom hi hj).2 (go hj hle h1 h2))
  · exact .inr ((S.dom hj hi).2 (go hi (by omega) h2 h1))

/-- Who stands next above each node: what Up tells. -/
structure UpOf (g : List (List Nat)) (r : Nat) (U : Nat → Int) : Prop where
  out : ∀ b, b < g.length → ¬ Pth g noS r b → U b = -1
  root : U r = (r : Int)
  next : ∀ b, b < g.length → Pth g noS r b → b ≠ r → ∃ a : Nat, U b = (a : Int) ∧ a ≠ b ∧ Dom g r a b ∧ ∀ c, c ≠ b → Dom g r c b → Dom g r c a
end Go.Proofs.YtlnimcpmkammfaaDoor
