/-
  HeapApart: what is written into one object is in no other one.
-/
import Derived.Test.YtpllhcifoiahpaaHpPc
import Derived.Test.YtpllhcifoiahpaaXDetF
import Derived.Deep.CutBlock
namespace Go.Proofs.Ytpllhcifoiahpaa
open Go.RowKit

abbrev z3 : V3 := (0, 0, false)
/-- What the array holds of the objects. -/
structure Fits (os : List Ob) (ms : List V3) (n : Nat) : Prop where
  len : os.length = n
  sz : ms.length = 40
  at' : ∀ (j : Nat) (o : Ob), os[j]? = some o → o.free = false ∧ o.vs = [ms.getD (2 * j) z3, ms.getD (2 * j + 1) z3]
def Zs (os : List Ob) (n : Nat) : Prop := os.length = n ∧ ∀ (j : Nat) (o : Ob), os[j]? = some o → o.free = false ∧ o.vs = [(0, 0, false), (1, 0, false)]
theorem Zs.push {os : List Ob} {n : Nat} (h : Zs os n) (s : Int) (fs : Value) : Zs (os ++ [⟨s, false, fs, [(0, 0, false), (1, 0, false)]⟩]) (n + 1) := by
  refine ⟨by simp [h.1], fun j o hj => ?_⟩
  rcases Nat.lt_or_ge j os.length with hl | hl
  · rw [List.getElem?_append_left hl] at hj
    exact h.2 j o hj
  · rw [List.getElem?_append_right hl] at hj
    by_cases e : j - os.length = 0
    · rw [e] at hj
      simp at hj
      subst hj
      exact ⟨rfl, rfl⟩
    · rw [List.getElem?_eq_none (by simp; omega)] at hj
      cases hj
/-- The array while it is laid. -/
def ini (k : Nat) : List V3 := (List.range 40).map fun i => if i < 2 * k ∧ i % 2 = 1 then (1, 0, false) else (0, 0, false)
theorem ini_len (k : Nat) : (ini k).length = 40 := by simp [ini]
theorem ini_zero : ini 0 = List.replicate 40 (0, 0, false) := by decide +kernel
theorem ini_step : ∀ k, k < 20 → ((ini k).set (2 * k) (0, 0, false)).set (2 * k + 1) (1, 0, false) = ini (k + 1) := by decide +kernel
theorem ini_all : ((List.range 20).all fun j => (List.range 21).all fun n => !decide (j < n) || (decide ((ini n).getD (2 * j) z3 = (0, 0, false)) && decide ((ini n).getD (2 * j + 1) z3 = (1, 0, false)))) = true := by decide +kernel
theorem ini_at (j : Nat) (hj : j < 20) (n : Nat) (hn : n < 21) (h : j < n) : (ini n).getD (2 * j) z3 = (0, 0, false) ∧ (ini n).getD (2 * j + 1) z3 = (1, 0, false) := by
  have := List.all_eq_true.1 (List.all_eq_true.1 ini_all j (List.mem_range.2 hj)) n (List.mem_range.2 hn)
  simpa [h] using this
theorem Zs.fits {os : List Ob} {n : Nat} (h : Zs os n) (hn : n ≤ 20) : Fits os (ini n) n := by
  refine ⟨h.1, ini_len n, fun j o hj => ?_⟩
  have hl : j < n := by rw [← h.1]; exact (List.getElem?_eq_some_iff.1 hj).1
  obtain ⟨h1, h2⟩ := ini_at j (by omega) n (by omega) hl
  rw [h1, h2]
  exact h.2 j o hj
theorem Fits.slot {os : List Ob} {ms : List V3} {n : Nat} (h : Fits os ms n) {j f : Nat} (hj : j < n) (hf : f < 2) : ∃ o v, os[j]? = some o ∧ o.vs[f]? = some v ∧ ms[2 * j + f]? = some v ∧ slW os ((j : Int) + 1) (f : Int) = 0 ∨ 40 ≤ 2 * j + f := by
  rcases Nat.lt_or_ge (2 * j + f) 40 with hl | hl
  · obtain ⟨o, ho⟩ : ∃ o, os[j]? = some o := ⟨_, List.getElem?_eq_getElem (by rw [h.len]; exact hj)⟩
    obtain ⟨h1, h2⟩ := h.at' j o ho
    obtain ⟨v, hv⟩ : ∃ v, ms[2 * j + f]? = some v := ⟨_, List.getElem?_eq_getElem (by rw [h.sz]; exact hl)⟩
    refine ⟨o, v, .inl ⟨ho, ?_, hv, ?_⟩⟩
    · rw [h2]
      match f, hf with
      | 0, _ =>
        have : ms[2 * j]? = some v := hv
        simp [List.getD_eq_getElem?_getD, this]
      | 1, _ => simp [List.getD_eq_getElem?_getD, hv]
    · rw [slW_live _ ho h1, if_neg]
      rw [h2]
      simp
      omega
  · exact ⟨obZ, z3, .inr hl⟩
theorem Fits.get {os : List Ob} {ms : List V3} {n : Nat} (h : Fits os ms n) {j f : Nat} (hj : j < n) (hn : n ≤ 20) (hf : f < 2) : slW os ((j : Int) + 1) (f : Int) = 0 ∧ ms[2 * j + f]? = some (getV os ((j : Int) + 1) (f : Int)) := by
  obtain ⟨o, v, ⟨h1, h2, h3, h4⟩ | h5⟩ := h.slot hj hf
  · exact ⟨h4, by rw [getV_in h1 h2 h4]; exact h3⟩
  · omega
theorem Fits.set {os : List Ob} {ms : List V3} {n : Nat} (h : Fits os ms n) {j f : Nat} (hj : j < n) (hn : n ≤ 20) (hf : f < 2) (u : V3) : slW os ((j : Int) + 1) (f : Int) = 0 ∧ Fits (setO os ((j : Int) + 1) (f : Int) u) (ms.set (2 * j + f) u) n := by
  obtain ⟨o, v, ⟨h1, h2, h3, h4⟩ | h5⟩ := h.slot hj hf
  · refine ⟨h4, ?_⟩
    rw [setO_in u h1 h4]
    refine ⟨by rw [List.length_set]; exact h.len, by rw [List.length_set]; exact h.sz, fun i p hp => ?_⟩
    have hjl := (List.getElem?_eq_some_iff.1 h1).1
    have hsz := h.sz
    by_cases e : j = i
    · subst e
      rw [List.getElem?_set_self hjl] at hp
      have hp : { o with vs := o.vs.set f u } = p := by simpa using hp
      subst hp
      obtain ⟨g1, g2⟩ := h.at' j o h1
      refine ⟨g1, ?_⟩
      show o.vs.set f u = _
      rw [g2]
      match f, hf with
      | 0, _ => simp [List.getD_eq_getElem?_getD, show 2 * j < ms.length by omega]
      | 1, _ => simp [List.getD_eq_getElem?_getD, show 2 * j + 1 < ms.length by omega]
    · rw [List.getElem?_set_ne e] at hp
      obtain ⟨g1, g2⟩ := h.at' i p hp
      refine ⟨g1, ?_⟩
      rw [g2]
      simp only [List.getD_eq_getElem?_getD]
      rw [List.getElem?_set_ne (by omega), List.getElem?_set_ne (by omega)]
  · omega
/-- The heap, beside what is read. -/
structure Apt (w0 w : World) (hp rb xb : Nat) (x : V3) (os : List Ob) (F : List Nat) : Prop where
  mine : Mine w0 w hp os F
  lit : w.heap[rb]? = some (.cells #[.int .i64 0, .int .i64 0, .int .i64 1, .int .i64 0] 37 (0, 0))
  val : w.heap[xb]? = some (.cells #[.int .i64 x.1, .int .i64 x.2.1, .bool x.2.2] 29 (0, 0))
  rF : rb ∉ F
  xF : xb ∉ F
theorem Apt.quiet {w0 w w' : World} {hp rb xb : Nat} {x : V3} {os : List Ob} {F : List Nat} (h : Apt w0 w hp rb xb x os F) (k : Keeps [] w w') : Apt w0 w' hp rb xb x os F :=
  ⟨h.mine.quiet k, keep_heap h.lit k, keep_heap h.val k, h.rF, h.xF⟩
theorem Apt.step {w0 w w' : World} {hp rb xb : Nat} {x : V3} {os os' : List Ob} {F : List Nat} (h : Apt w0 w hp rb xb x os F) (h' : Hp w' hp os' F) (k : Keeps F w w') : Apt w0 w' hp rb xb x os' F :=
  ⟨h.mine.step h' k, (k.block rb (heap_lt h.lit) h.rF).trans h.lit, (k.block xb (heap_lt h.val) h.xF).trans h.val, h.rF, h.xF⟩
theorem Apt.more {w0 w w' : World} {hp rb xb : Nat} {x : V3} {os os' : List Ob} {F F' : List Nat} (h : Apt w0 w hp rb xb x os F) (h' : Hp w' hp os' F') (k : Keeps F w w') (n : Near w F F') : Apt w0 w' hp rb xb x os' F' := by
  have off : ∀ b, b < w.heap.size → b ∉ F → b ∉ F' := fun b hb hx hm => by
    rcases n b hm with e | e
    · exact hx e
    · omega
  exact ⟨h.mine.more h' k n, (k.block rb (heap_lt h.lit) h.rF).trans h.lit, (k.block xb (heap_lt h.val) h.xF).trans h.val, off rb (heap_lt h.lit) h.rF, off xb (heap_lt h.val) h.xF⟩
theorem Apt.other {w0 w w' : World} {hp rb xb mb : Nat} {x : V3} {os : List Ob} {F : List Nat} (h : Apt w0 w hp rb xb x os F) (k : Keeps [mb] w w') (hm : mb ∉ F) (hr : rb ≠ mb) (hx : xb ≠ mb) (h0 : w0.heap.size ≤ mb) : Apt w0 w' hp rb xb x os F :=
  ⟨⟨h.mine.has.kept k (fun y hy e => hm (by rw [List.mem_singleton.1 e] at hy; exact hy)), h.mine.keeps.young k (fun y hy => by rw [List.mem_singleton.1 hy]; exact h0), h.mine.young⟩, (k.block rb (heap_lt h.lit) (by simpa using hr)).trans h.lit, (k.block xb (heap_lt h.val) (by simpa using hx)).trans h.val, h.rF, h.xF⟩
/-- The array's block. -/
def ArrAt (w : World) (mb : Nat) (ms : List V3) : Prop := w.heap[mb]? = some (.cells (row3 v3 ms).toArray 52 (0, 0))
/-- The array is written by the si-th operation. -/
def PutE (mb si : Nat) (ms ns : List V3) (l : Array Bool) (w : World) : Prop := ArrAt w mb (bif l.getD si false then ns else ms)
theorem PutE.keep {mb si k : Nat} {ms ns : List V3} {l : Array Bool} {w : World} (h : PutE mb si ms ns l w) (hk : k ≠ si) : PutE mb si ms ns (l.setIfInBounds k true) w := by
  unfold PutE at *
  rwa [bit_ne' (l := l) hk]
theorem PutE.start {mb si n : Nat} {ms ns : List V3} {w : World} (h : ArrAt w mb ms) : PutE mb si ms ns (Array.replicate n false) w := by
  unfold PutE
  have : (Array.replicate n false).getD si false = false := by
    by_cases hn : si < n <;> simp [Array.getD, hn]
  rw [this]
  exact h
theorem PutE.old {mb si : Nat} {ms ns : List V3} {l : Array Bool} {w : World} (h : PutE mb si ms ns l w) (hs : l.getD si false = false) : ArrAt w mb ms := by
  unfold PutE at h
  rwa [hs] at h
theorem PutE.new {mb si : Nat} {ms ns : List V3} {l : Array Bool} {w : World} (h : ArrAt w mb ns) (hs : si < l.size) : PutE mb si ms ns (l.setIfInBounds si true) w := by
  unfold PutE
  rw [bit_self' hs]
  exact h
theorem PutE.done {mb si : Nat} {ms ns : List V3} {l : Array Bool} {w : World} (h : PutE mb si ms ns l w) (hs : l.getD si false = true) : ArrAt w mb ns := by
  unfold PutE at h
  rwa [hs] at h
theorem PutE.kept {mb si : Nat} {ms ns : List V3} {l : Array Bool} {w w' : World} (h : PutE mb si ms ns l w) (k : Keeps [] w w') : PutE mb si ms ns l w' := keep_heap h k
theorem arr_set6 {w : World} {mb k : Nat} {ms : List V3} (h : ArrAt w mb ms) (hk : 2 * k + 1 < ms.length) (u v : V3) : ArrAt ((((((w.setCell ⟨mb, k * 6, none⟩ (v3 u).1).setCell ⟨mb, k * 6 + 1, none⟩ (v3 u).2.1).setCell ⟨mb, k * 6 + 2, none⟩ (v3 u).2.2).setCell ⟨mb, k * 6 + 3, none⟩ (v3 v).1).setCell ⟨mb, k * 6 + 4, none⟩ (v3 v).2.1).setCell ⟨mb, k * 6 + 5, none⟩ (v3 v).2.2) mb ((ms.set (2 * k) u).set (2 * k + 1) v) := by
  have := arr_set3 (arr_set3 (j := 2 * k) h (by omega) u) (j := 2 * k + 1) (by rw [List.length_set]; exact hk) v
  rw [show 2 * k * 3 = k * 6 by omega, show (2 * k + 1) * 3 = k * 6 + 3 by omega] at this
  exact this
theorem keeps6 (w : World) (mb o1 o2 o3 o4 o5 o6 : Nat) (u1 u2 u3 u4 u5 u6 : Value) : Keeps [mb] w ((((((w.setCell ⟨mb, o1, none⟩ u1).setCell ⟨mb, o2, none⟩ u2).setCell ⟨mb, o3, none⟩ u3).setCell ⟨mb, o4, none⟩ u4).setCell ⟨mb, o5, none⟩ u5).setCell ⟨mb, o6, none⟩ u6) :=
  (((((Keeps.setCell [mb] _ _ _ (List.mem_singleton.2 rfl)).step (Keeps.setCell [mb] _ _ _ (List.mem_singleton.2 rfl))).step (Keeps.setCell [mb] _ _ _ (List.mem_singleton.2 rfl))).step (Keeps.setCell [mb] _ _ _ (List.mem_singleton.2 rfl))).step (Keeps.setCell [mb] _ _ _ (List.mem_singleton.2 rfl))).step (Keeps.setCell [mb] _ _ _ (List.mem_singleton.2 rfl))
theorem keepsR (w : World) (mb o1 o2 o3 : Nat) (u1 u2 u3 : Value) : Keeps [mb] w (((w.setCell ⟨mb, o1, none⟩ u1).setCell ⟨mb, o2, none⟩ u2).setCell ⟨mb, o3, none⟩ u3) :=
  ((Keeps.setCell [mb] _ _ _ (List.mem_singleton.2 rfl)).step (Keeps.setCell [mb] _ _ _ (List.mem_singleton.2 rfl))).step (Keeps.setCell [mb] _ _ _ (List.mem_singleton.2 rfl))
theorem far_block {w w' : World} {mb b : Nat} {cs : Array Value} {T : TypeId} (h : w.heap[b]? = some (.cells cs T (0, 0))) (hb : b ≠ mb) (k : Keeps [mb] w w') : w'.heap[b]? = some (.cells cs T (0, 0)) := (k.block b (heap_lt h) (by simpa using hb)).trans h
theorem types_ne {w : World} {b c : Nat} {cs ds : Array Value} {T U : TypeId} (h : w.heap[b]? = some (.cells cs T (0, 0))) (h' : w.heap[c]? = some (.cells ds U (0, 0))) (hne : T ≠ U) : b ≠ c := fun e => by
  subst e
  rw [h] at h'
  simp at h'
  exact hne h'.2
end Go.Proofs.Ytpllhcifoiahpaa
