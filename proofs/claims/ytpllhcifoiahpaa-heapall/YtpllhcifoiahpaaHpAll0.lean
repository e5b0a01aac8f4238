/-
  HeapAll: the heap beside the document's objects; plain facts.
-/
import Derived.Test.YtpllhcifoiahpaaHpPc
import Derived.Test.YtpllhcifoiahpaaXDetF
import Derived.Test.YtpllhcifoiahpaaHpOpen
import Derived.Deep.CutBlock
namespace Go.Proofs.Ytpllhcifoiahpaa
open Go.RowKit

def obR (o : Ob) : Value × Value × Value := (.int .i64 o.site, o.fs, .bool o.free)
/-- The heap's objects, and the document's. -/
structure Sim (os ms : List Ob) : Prop where
  len : os.length = ms.length
  same : ∀ (j : Nat) (o m : Ob), os[j]? = some o → ms[j]? = some m → o.site = m.site ∧ o.free = m.free ∧ (o.free = false → o.vs = m.vs)
theorem Sim.at {os ms : List Ob} (h : Sim os ms) {j : Nat} {m : Ob} (hm : ms[j]? = some m) : ∃ o, os[j]? = some o ∧ o.site = m.site ∧ o.free = m.free ∧ (o.free = false → o.vs = m.vs) := by
  have hj := (List.getElem?_eq_some_iff.1 hm).1
  obtain ⟨o, ho⟩ : ∃ o, os[j]? = some o := ⟨_, List.getElem?_eq_getElem (by rw [h.len]; exact hj)⟩
  exact ⟨o, ho, h.same j o m ho hm⟩
theorem Sim.nil : Sim [] [] := ⟨rfl, fun j o m h => by simp at h⟩
theorem Sim.push {os ms : List Ob} (h : Sim os ms) (s : Int) (fs gs : Value) (vs : List V3) : Sim (os ++ [⟨s, false, fs, vs⟩]) (ms ++ [⟨s, false, gs, vs⟩]) := by
  refine ⟨by simp [h.len], fun j o m ho hm => ?_⟩
  rcases Nat.lt_or_ge j os.length with hl | hl
  · rw [List.getElem?_append_left hl] at ho
    rw [List.getElem?_append_left (by rw [← h.len]; exact hl)] at hm
    exact h.same j o m ho hm
  · rw [List.getElem?_append_right hl] at ho
    rw [List.getElem?_append_right (by rw [← h.len]; exact hl)] at hm
    have e : j - os.length = 0 := by
      apply Classical.byContradiction
      intro e
      rw [List.getElem?_eq_none (by simp; omega)] at ho
      cases ho
    rw [e] at ho
    rw [show j - ms.length = 0 by rw [← h.len]; exact e] at hm
    simp at ho hm
    subst ho hm
    exact ⟨rfl, rfl, fun _ => rfl⟩
theorem Sim.set {os ms : List Ob} (h : Sim os ms) {j : Nat} {o' m' : Ob} (hs : o'.site = m'.site ∧ o'.free = m'.free ∧ (o'.free = false → o'.vs = m'.vs)) : Sim (os.set j o') (ms.set j m') := by
  refine ⟨by simp [h.len], fun i o m ho hm => ?_⟩
  by_cases e : j = i
  · subst e
    have hl : j < os.length := by
      have := (List.getElem?_eq_some_iff.1 ho).1
      simpa using this
    rw [List.getElem?_set_self hl] at ho
    rw [List.getElem?_set_self (by rw [← h.len]; exact hl)] at hm
    simp at ho hm
    subst ho hm
    exact hs
  · rw [List.getElem?_set_ne e] at ho hm
    exact h.same i o m ho hm
/-- What an operation may: 0, or why not. -/
def wantZ (ms : List Ob) (kind o f : Int) : Int := if kind = 1 ∨ kind = 2 then slW ms o f else foW ms o
theorem Sim.fo {os ms : List Ob} (h : Sim os ms) (o : Int) : foW os o = foW ms o := by
  rcases foW_cases ms o with ho | ⟨j, m, rfl, hm⟩
  · rw [foW_out ho, foW_out (by rw [h.len]; exact ho)]
  · obtain ⟨x, hx, _, h2, _⟩ := h.at hm
    rw [foW_in hm, foW_in hx, h2]
theorem Sim.sl {os ms : List Ob} (h : Sim os ms) (o f : Int) : slW os o f = slW ms o f := by
  by_cases h0 : foW ms o = 0
  · obtain ⟨j, m, rfl, hm, hf⟩ := foW_ok h0
    obtain ⟨x, hx, _, h2, h3⟩ := h.at hm
    rw [slW_live f hm hf, slW_live f hx (by rw [h2]; exact hf), h3 (by rw [h2]; exact hf)]
  · rw [slW_bad f h0, slW_bad f (by rw [h.fo]; exact h0), h.fo]
theorem Sim.get {os ms : List Ob} (h : Sim os ms) (o f : Int) : getV os o f = getV ms o f := by
  by_cases h0 : slW ms o f = 0
  · rcases slW_cases ms o f with ⟨h1, _⟩ | ⟨_, _, _, _, _, _, h1⟩ | ⟨j, i, m, v, rfl, rfl, hm, hf, hv, _⟩
    · exact absurd h0 h1
    · omega
    · obtain ⟨x, hx, _, h2, h3⟩ := h.at hm
      rw [getV_in hm hv h0, getV_in hx (by rw [h3 (by rw [h2]; exact hf)]; exact hv) (by rw [h.sl]; exact h0)]
  · unfold getV
    rw [if_neg h0, if_neg (by rw [h.sl]; exact h0)]
/-- The heap and the document's objects in memory. -/
structure Hs (w0 w : World) (hp : Nat) (os : List Ob) (F : List Nat) (mv : Value) (ms : List Ob) (G : List Nat) : Prop where
  mine : Mine w0 w hp os F
  doc : Obs w 34 obR mv ms G
  young : ∀ x, x ∈ G → w0.heap.size ≤ x
  apart : ∀ x, x ∈ F → x ∉ G
theorem Hs.quiet {w0 w w' : World} {hp : Nat} {os ms : List Ob} {F G : List Nat} {mv : Value} (h : Hs w0 w hp os F mv ms G) (k : Keeps [] w w') : Hs w0 w' hp os F mv ms G := ⟨h.mine.quiet k, h.doc.quiet k, h.young, h.apart⟩
theorem Hs.heap {w0 w w' : World} {hp : Nat} {os os' ms : List Ob} {F F' G : List Nat} {mv : Value} (h : Hs w0 w hp os F mv ms G) (h' : Hp w' hp os' F') (k : Keeps F w w') (n : Near w F F') : Hs w0 w' hp os' F' mv ms G :=
  ⟨h.mine.more h' k n, h.doc.kept k (fun x hx hf => h.apart x hf hx), h.young, fun x hx hg => by
    rcases n x hx with e | e
    · exact h.apart x e hg
    · have := h.doc.lt x hg
      omega⟩
theorem Hs.turn {w0 w w' : World} {hp : Nat} {os ms ms' : List Ob} {F G G' : List Nat} {mv mv' : Value} (h : Hs w0 w hp os F mv ms G) (h' : Obs w' 34 obR mv' ms' G') (k : Keeps G w w') (n : Near w G G') : Hs w0 w' hp os F mv' ms' G' :=
  ⟨⟨h.mine.has.kept k (fun x hx hg => h.apart x hx hg), h.mine.keeps.young k h.young, h.mine.young⟩, h', n.young h.mine.keeps h.young, fun x hx hg => by
    rcases n x hg with e | e
    · exact h.apart x hx e
    · have := h.mine.has.lt x hx
      omega⟩
/-- Beside an operation's own copy. -/
structure Rd (w0 w : World) (ob : Nat) (cs : Array Value) (hp : Nat) (os : List Ob) (F : List Nat) (mv : Value) (ms : List Ob) (G : List Nat) : Prop where
  hs : Hs w0 w hp os F mv ms G
  blk : w.heap[ob]? = some (.cells cs 31 (0, 0))
  oF : ob ∉ F
  oG : ob ∉ G
theorem Rd.quiet {w0 w w' : World} {ob hp : Nat} {cs : Array Value} {os ms : List Ob} {F G : List Nat} {mv : Value} (h : Rd w0 w ob cs hp os F mv ms G) (k : Keeps [] w w') : Rd w0 w' ob cs hp os F mv ms G := ⟨h.hs.quiet k, keep_heap h.blk k, h.oF, h.oG⟩
theorem near_off {w : World} {F F' : List Nat} (n : Near w F F') {b : Nat} (hb : b < w.heap.size) (hx : b ∉ F) : b ∉ F' := fun hm => by
  rcases n b hm with e | e
  · exact hx e
  · omega
theorem Near.refl (w : World) (F : List Nat) : Near w F F := fun _ hx => .inl hx
theorem Rd.heap {w0 w w' : World} {ob hp : Nat} {cs : Array Value} {os os' ms : List Ob} {F F' G : List Nat} {mv : Value} (h : Rd w0 w ob cs hp os F mv ms G) (h' : Hp w' hp os' F') (k : Keeps F w w') (n : Near w F F') : Rd w0 w' ob cs hp os' F' mv ms G :=
  ⟨h.hs.heap h' k n, (k.block ob (heap_lt h.blk) h.oF).trans h.blk, near_off n (heap_lt h.blk) h.oF, h.oG⟩
theorem Rd.turn {w0 w w' : World} {ob hp : Nat} {cs : Array Value} {os ms ms' : List Ob} {F G G' : List Nat} {mv mv' : Value} (h : Rd w0 w ob cs hp os F mv ms G) (h' : Obs w' 34 obR mv' ms' G') (k : Keeps G w w') (n : Near w G G') : Rd w0 w' ob cs hp os F mv' ms' G' :=
  ⟨h.hs.turn h' k n, (k.block ob (heap_lt h.blk) h.oG).trans h.blk, h.oF, near_off n (heap_lt h.blk) h.oG⟩
theorem Obs.fslen {w : World} {T : TypeId} {f : Ob → Value × Value × Value} {sv : Value} {os : List Ob} {F : List Nat} (h : Obs w T f sv os F) {j : Nat} {o : Ob} (hj : os[j]? = some o) : ∃ a cap, o.fs = .slice a o.vs.length cap := by
  rcases (h.fld j o hj).2 with ⟨hv, h0⟩ | ⟨g, cap, cur, hv, _, _, _, _⟩
  · exact ⟨none, 0, by rw [hv, h0]⟩
  · exact ⟨_, cap, hv⟩
theorem cell_far {w w' : World} {fb : Nat} {p : Addr} {v : Value} (h : w.cell? p = some v) (hb : p.block ≠ fb) (k : Keeps [fb] w w') : w'.cell? p = some v := by
  rw [k.cell (block_lt_of_cell h) (by simpa using hb)]
  exact h
/-- A block is written by the si-th operation, behind all others. -/
structure StE (wd : World) (si : Nat) (g : World → World) (l : Array Bool) (w : World) : Prop where
  old : l.getD si false = false → Keeps [] wd w
  new : l.getD si false = true → ∃ w0, Keeps [] wd w0 ∧ w = g w0
theorem StE.keep {wd : World} {si k : Nat} {g : World → World} {l : Array Bool} {w : World} (h : StE wd si g l w) (hk : k ≠ si) : StE wd si g (l.setIfInBounds k true) w := by
  have e := bit_ne' (l := l) hk
  exact ⟨fun x => h.old (by rw [← e]; exact x), fun x => h.new (by rw [← e]; exact x)⟩
theorem StE.start {wd : World} {si n : Nat} {g : World → World} {w : World} (h : Keeps [] wd w) : StE wd si g (Array.replicate n false) w := by
  have : (Array.replicate n false).getD si false = false := by
    by_cases hn : si < n <;> simp [Array.getD, hn]
  exact ⟨fun _ => h, fun e => (by rw [this] at e; cases e)⟩
theorem StE.put {wd : World} {si : Nat} {g : World → World} {l : Array Bool} {w : World} (h : StE wd si g l w) (hs : l.getD si false = false) (hi : si < l.size) : StE wd si g (l.setIfInBounds si true) (g w) := by
  have e := bit_self' hi
  exact ⟨fun x => (by rw [e] at x; cases x), fun _ => ⟨w, h.old hs, rfl⟩⟩
theorem pc_st3c {w : World} {mb o : Nat} {k n : Int} {t : Bool} {ev : Operand → Value} {oi : Oper} {x y : Operand} {u0 u1 u2 : Value} (h0 : w.cell? ⟨mb, o, none⟩ = some u0) (h1 : w.cell? ⟨mb, o + 1, none⟩ = some u1) (h2 : w.cell? ⟨mb, o + 2, none⟩ = some u2) (hz : ∀ i, w.frozen? ⟨mb, i, none⟩ = false) (ho : oi.op = .store 29 x y) (hx : ev x = .pointer (some ⟨mb, o, none⟩)) (hy : ev y = .agg #[.int .i64 k, .int .i64 n, .bool t]) : (execOp ev oi).run Try.prog w = .ok .skip (((w.setCell ⟨mb, o, none⟩ (.int .i64 k)).setCell ⟨mb, o + 1, none⟩ (.int .i64 n)).setCell ⟨mb, o + 2, none⟩ (.bool t)) := by
  have z0 := hz o
  have z1 := hz (o + 1)
  have z2 := hz (o + 2)
  simp [execOp, ho, hx, hy, go_sem, h0, h1, h2, z0, z1, z2]
theorem keepsB (w : World) (mb o1 o2 o3 : Nat) (u1 u2 u3 : Value) : Keeps [mb] w (((w.setCell ⟨mb, o1, none⟩ u1).setCell ⟨mb, o2, none⟩ u2).setCell ⟨mb, o3, none⟩ u3) :=
  ((Keeps.setCell [mb] _ _ _ (List.mem_singleton.2 rfl)).step (Keeps.setCell [mb] _ _ _ (List.mem_singleton.2 rfl))).step (Keeps.setCell [mb] _ _ _ (List.mem_singleton.2 rfl))
/-- A field's cells, whatever has been made since. -/
theorem Obs.fieldAt {w : World} {T : TypeId} {f : Ob → Value × Value × Value} {sv : Value} {os : List Ob} {F : List Nat} (h : Obs w T f sv os F) {j : Nat} {o : Ob} (hj : os[j]? = some o) {i : Nat} {v : V3} (hi : o.vs[i]? = some v) :
    ∃ b cap, o.fs = .slice (some ⟨b, 0, none⟩) o.vs.length cap ∧ b ∈ F ∧ ∀ w', Keeps [] w w' → w'.cell? ⟨b, i * 3, none⟩ = some (.int .i64 v.1) ∧ w'.cell? ⟨b, i * 3 + 1, none⟩ = some (.int .i64 v.2.1) ∧ w'.cell? ⟨b, i * 3 + 2, none⟩ = some (.bool v.2.2) ∧ ∀ k, w'.frozen? ⟨b, k, none⟩ = false := by
  obtain ⟨b, cap, e, hb, _⟩ := h.field hj hi
  refine ⟨b, cap, e, hb, fun w' k => ?_⟩
  obtain ⟨b', cap', e', _, c0, c1, c2, hz⟩ := (h.quiet k).field hj hi
  rw [e] at e'
  simp at e'
  obtain ⟨rfl, _⟩ := e'
  exact ⟨c0, c1, c2, hz⟩
section
variable {P : Program} {ops : Array Oper} {Q : Exit → Act → World → Prop} {md : Region.Mode} {S : World → Prop}
/-- One of two may come up. -/
theorem tk_two {i j : Nat} {fuel : Nat} {listed : Array Bool} {a : Act} {w : World} (hr : Region.ready md ops listed = [i, j])
    (h1 : wpOp P ops Q i (fun a' w' => S w' ∧ wpAnyH P md ops Q S fuel (listed.setIfInBounds i true) a' w') a w)
    (h2 : wpOp P ops Q j (fun a' w' => S w' ∧ wpAnyH P md ops Q S fuel (listed.setIfInBounds j true) a' w') a w) : wpAnyH P md ops Q S (fuel + 1) listed a w :=
  wpAnyH_all hr (by simp) (fun x hx => by
    rcases List.mem_cons.1 hx with rfl | hx
    · exact h1
    · obtain rfl := List.mem_singleton.1 hx
      exact h2)
/-- One alone may come up. -/
theorem tk_one {i : Nat} {fuel : Nat} {listed : Array Bool} {a : Act} {w : World} (hr : Region.ready md ops listed = [i])
    (h1 : wpOp P ops Q i (fun a' w' => S w' ∧ wpAnyH P md ops Q S fuel (listed.setIfInBounds i true) a' w') a w) : wpAnyH P md ops Q S (fuel + 1) listed a w :=
  wpAnyH_all hr (by simp) (fun x hx => by
    obtain rfl := List.mem_singleton.1 hx
    exact h1)
end
theorem one_vl (u : V3) : ∀ x ∈ [(v3 u).1, (v3 u).2.1, (v3 u).2.2], x.oneCell' = true := by
  intro x hx
  simp [v3] at hx
  rcases hx with rfl | rfl | rfl <;> rfl
/-- A value is appended onto a row of one's own. -/
theorem tk_appv {ops : Array Oper} {Q : Exit → Act → World → Prop} {i d : Nat} {oi : Oper} {K : Act → World → Prop} {a : Act} {w : World} (hi : ops.toList[i]? = some oi) (hd : oi.dst = some d) (hgd : oi.guard = none) (s x : Operand) (ho : oi.op = .call { callee := .builtin .append, args := #[s, x], argTypes := #[32, 32] })
    {base n b : Nat} {fv : Value} {xs : List Value} (hs : a.eval s = fv) (own : w.ownsRow base 29 3 fv n xs) (hx : a.eval x = .slice (some ⟨b, 0, none⟩) 1 1) (u : V3) (hb : w.heap[b]? = some (.cells #[.int .i64 u.1, .int .i64 u.2.1, .bool u.2.2] 29 (0, 0))) (hn : n ≤ 1000) (hbase : base ≤ w.heap.size)
    (h : ∀ g cap w', w'.ownsRow base 29 3 (.slice (some ⟨g, 0, none⟩) (n + 1) cap) (n + 1) (xs ++ [(v3 u).1, (v3 u).2.1, (v3 u).2.2]) → w.grownBy w' fv.ownBlock → K (a.put (some d) (.slice (some ⟨g, 0, none⟩) (n + 1) cap)) w') : wpOp Try.prog ops Q i K a w := by
  rw [Array.getElem?_toList] at hi
  rw [← hd] at h
  refine wpOp_step hi (fun K' hK => ?_)
  exact step_append_lies w hgd s x _ ho base 29 Try.t29 (.agg #[.int .i64 0, .int .i64 0, .bool false]) 3 24 under_vls info_vl zero_vl size_vl bytes_vl rfl (by decide) fv n xs hs own ⟨b, 0, none⟩ 1 1 [(v3 u).1, (v3 u).2.1, (v3 u).2.2] hx rfl (World.news_of_block hb) (one_vl u) (by omega) (by unfold maxLen; omega) (by omega) hbase w.heap.size rfl (fun g cap w' h1 h2 _ _ => hK _ _ (h g cap w' h1 h2))
theorem hb_bs1 {w : World} {k n : Int} {t : Bool} {ev : Operand → Value} {oi : Oper} {x : Operand} (ho : oi.op = .buildSlice 32 1 #[(0, x)]) (hx : ev x = .agg #[.int .i64 k, .int .i64 n, .bool t]) : (execOp ev oi).run Try.prog w = .ok (.value (.slice (some ⟨w.heap.size, 0, none⟩) 1 1)) (w.alloc (.cells #[.int .i64 k, .int .i64 n, .bool t] 29)) := by
  simp [execOp, ho, hx, go_sem]
theorem hst_vls {w : World} {ad : Addr} {u : Value} {g : Option Addr} {n c : Nat} {ev : Operand → Value} {oi : Oper} {x y : Operand} (hc : w.cell? ad = some u) (hz : w.frozen? ad = false) (ho : oi.op = .store 32 x y) (hx : ev x = .pointer (some ad)) (hy : ev y = .slice g n c) : (execOp ev oi).run Try.prog w = .ok .skip (w.setCell ad (.slice g n c)) := by
  simp [execOp, ho, hx, hy, go_sem, hc, hz]
/-- A new object's record while its fields are laid. -/
structure XS (wd w : World) (xb : Nat) (s : Int) (fv : Value) (vs : List V3) : Prop where
  box : w.heap[xb]? = some (.cells #[.int .i64 s, fv, .bool false] 34 (0, 0))
  own : w.ownsRow wd.heap.size 29 3 fv vs.length (row3 v3 vs)
  keeps : Keeps [] wd w
  new : wd.heap.size ≤ xb
theorem XS.quiet {wd w w' : World} {xb : Nat} {s : Int} {fv : Value} {vs : List V3} (h : XS wd w xb s fv vs) (k : Keeps [] w w') : XS wd w' xb s fv vs := ⟨keep_heap h.box k, ownsRow_keeps h.own k (fun _ _ => by simp), h.keeps.quiet k, h.new⟩
theorem XS.off {wd w : World} {xb : Nat} {s : Int} {fv : Value} {vs : List V3} (h : XS wd w xb s fv vs) : fv.ownBlock ≠ some xb ∧ ∀ b, fv.ownBlock = some b → wd.heap.size ≤ b := by
  have hb := h.box
  rcases h.own.2 with ⟨rfl, _⟩ | ⟨g, cap, cur, rfl, hge, hg, _⟩
  · exact ⟨by simp [Value.ownBlock], fun b e => by simp [Value.ownBlock] at e⟩
  · refine ⟨fun e => ?_, fun b e => ?_⟩
    · simp [Value.ownBlock] at e
      subst e
      rw [hg] at hb
      simp at hb
    · simp [Value.ownBlock] at e
      subst e
      exact hge
theorem XS.push {wd w w' : World} {xb : Nat} {s : Int} {fv : Value} {vs : List V3} {u : V3} {g cap : Nat} (h : XS wd w xb s fv vs) (own : w'.ownsRow wd.heap.size 29 3 (.slice (some ⟨g, 0, none⟩) (vs.length + 1) cap) (vs.length + 1) (row3 v3 vs ++ [(v3 u).1, (v3 u).2.1, (v3 u).2.2])) (hg : w.grownBy w' fv.ownBlock) :
    w'.heap[xb]? = some (.cells #[.int .i64 s, fv, .bool false] 34 (0, 0)) ∧ Keeps [] wd w' ∧ XS wd (w'.setCell ⟨xb, 1, none⟩ (.slice (some ⟨g, 0, none⟩) (vs.length + 1) cap)) xb s (.slice (some ⟨g, 0, none⟩) (vs.length + 1) cap) (vs ++ [u]) := by
  obtain ⟨o1, o2⟩ := h.off
  have hb : w'.heap[xb]? = some (.cells #[.int .i64 s, fv, .bool false] 34 (0, 0)) := (hg.block xb (heap_lt h.box) (fun e => o1 e.symm)).trans h.box
  have kg : Keeps fv.ownBlock.toList w w' := Keeps.grown _ hg (fun k hk => by simp [hk])
  have k8 : Keeps [] wd w' := h.keeps.trans kg (fun x hx hl => by
    have := o2 x (by simpa using hx)
    omega)
  have ks : Keeps [xb] w' (w'.setCell ⟨xb, 1, none⟩ (.slice (some ⟨g, 0, none⟩) (vs.length + 1) cap)) := Keeps.setCell _ _ _ _ (List.mem_singleton.2 rfl)
  refine ⟨hb, k8, ⟨heap_setCell_same _ xb 1 _ _ _ hb, ?_, k8.trans ks (fun x hx hl => by
    rw [List.mem_singleton.1 hx] at hl
    have := h.new
    omega), h.new⟩⟩
  rw [row3_snoc, List.length_append]
  refine ownsRow_keeps own ks (fun b e hm => ?_)
  rw [List.mem_singleton.1 hm] at e
  simp [Value.ownBlock] at e
  subst e
  rcases own.2 with ⟨e, _⟩ | ⟨g', cap', cur, e, _, hg', _⟩
  · simp at e
  · simp at e
    obtain ⟨rfl, _⟩ := e
    rw [hg'] at hb
    simp at hb
theorem rows_take {α : Type} {w : World} {c : Nat} {R : World → Nat → Nat → α → Prop} {a : Option Addr} {l : List α} (h : RowsAt w c R a l) (n : Nat) : RowsAt w c R a (l.take n) := by
  rcases h with h | ⟨b, off, h1, h2⟩
  · exact .inl (by rw [h]; simp)
  · refine .inr ⟨b, off, h1, fun j y hy => h2 j y ?_⟩
    rw [List.getElem?_take] at hy
    split at hy
    · exact hy
    · cases hy
theorem take_snoc {l : List (Int × Int)} {q : Nat} {t : Int × Int} (h : l[q]? = some t) : (l.take (q + 1)).map zeroV = (l.take q).map zeroV ++ [zeroV t] := by
  rw [List.take_add_one, h]
  simp
theorem info_robj : Try.prog.info? 34 = some Try.t34 := by kernel_rfl
theorem under_robjs : Try.prog.underlying 26 = some (.slice 34) := by kernel_rfl
theorem zero_robj : Try.t34.zero = some (.agg #[.int .i64 0, .slice none 0 0, .bool false]) := by kernel_rfl
theorem size_robj : Try.t34.size = 3 := by kernel_rfl
theorem bytes_robj : Try.t34.bytes = 40 := by kernel_rfl
theorem own_zero {w : World} {base : Nat} {e : TypeId} {size : Nat} {v : Value} {n : Nat} {xs : List Value} (h : w.ownsRow base e size v n xs) : w.ownsRow 0 e size v n xs := by
  refine ⟨h.1, ?_⟩
  rcases h.2 with hn | ⟨g, cap, cur, rfl, _, rest⟩
  · exact .inl hn
  · exact .inr ⟨g, cap, cur, rfl, Nat.zero_le _, rest⟩
theorem three_robj (site : Int) (fs : Value) (h : fs.oneCell' = true) : ∀ u ∈ [Value.int .i64 site, fs, .bool false], u.oneCell' = true := by
  intro u hu
  simp at hu
  rcases hu with rfl | rfl | rfl
  · rfl
  · exact h
  · rfl
theorem own_one {w : World} {base : Nat} {e : TypeId} {size : Nat} {v : Value} {n : Nat} {xs : List Value} (h : w.ownsRow base e size v n xs) : v.oneCell' = true := by
  rcases h.2 with ⟨rfl, _⟩ | ⟨g, cap, cur, rfl, _⟩ <;> rfl
/-- The document's new object. -/
theorem Rd.more {w0 wc wr w5 : World} {ob hp xb g5 cap5 M mc : Nat} {cs : Array Value} {os ms : List Ob} {F G : List Nat} {ma : Option Addr} {zn : Int} {fv : Value} {vs : List V3} {o : Obj} (h : Rd w0 wc ob cs hp os F (.slice ma M mc) ms G) (x : XS wc wr xb zn fv vs) (hM : M = ms.length)
    (own : w5.ownsRow 0 34 3 (.slice (some ⟨g5, 0, none⟩) (M + 1) cap5) (M + 1) (row3 obR ms ++ [.int .i64 zn, fv, .bool false])) (hg : (wr.alloc o).grownBy w5 (Value.slice ma M mc).ownBlock) (hat : (Value.slice ma M mc).ownBlock = some g5 ∨ g5 = wr.heap.size + 1) :
    ∃ G', Rd w0 w5 ob cs hp os F (.slice (some ⟨g5, 0, none⟩) (M + 1) cap5) (ms ++ [⟨zn, false, fv, vs⟩]) G' := by
  have ka := Keeps.alloc [] wr o
  have D := (h.hs.doc.quiet x.keeps).push (o := ⟨zn, false, fv, vs⟩) (sv' := .slice (some ⟨g5, 0, none⟩) (M + 1) cap5) (by decide) ka (ownsRow_keeps (own_zero x.own) ka (fun _ _ => by simp)) (fun k hk hx => by
    have h1 := x.off.2 k hk
    have h2 := h.hs.doc.lt k hx
    omega) (by rw [row3_snoc, ← hM]; exact own) hg
  have K : Keeps G wc w5 := ((x.keeps.quiet ka).mono (L' := G) (fun x hx => by cases hx)).step (Keeps.grown G hg (fun k hk => h.hs.doc.row k hk))
  refine ⟨_, h.turn D K (fun y hy => ?_)⟩
  rcases List.mem_append.1 hy with hy | hy
  · exact .inl hy
  · rcases List.mem_append.1 hy with hy | hy
    · simp [Value.ownBlock] at hy
      subst hy
      rcases hat with e | e
      · exact .inl (h.hs.doc.row _ e)
      · have := x.keeps.size
        exact .inr (by omega)
    · exact .inr (x.off.2 y (by simpa using hy))
end Go.Proofs.Ytpllhcifoiahpaa
