/-
  A list of work beside a slice of the statement's own.
-/
import Derived.Test.YtjfemabgbmadfaaWBegun
import Derived.Deep.DeepCutAuto
import Derived.Maps.AppendAt
namespace Go.Proofs.Ytjfemabgbmadfaa
open Go.RowKit

theorem ownsRow_keeps {w w' : World} {F : List Nat} {base : Nat} {e : TypeId} {size : Nat} {v : Value} {n : Nat} {xs : List Value} (h : w.ownsRow base e size v n xs) (k : Keeps F w w') (hF : ∀ b, v.ownBlock = some b → b ∉ F) : w'.ownsRow base e size v n xs := by
  refine ⟨h.1, ?_⟩
  rcases h.2 with hn | ⟨g, cap, cur, rfl, hb, hg, rest⟩
  · exact .inl hn
  · refine .inr ⟨g, cap, cur, rfl, hb, ?_, rest⟩
    rw [k.block g (Array.getElem?_eq_some_iff.1 hg).1 (hF g rfl)]
    exact hg

/-- The list alone, all that it has younger than w. -/
structure Lone (w wr : World) (p : Nat) (F : List Nat) (picks line : List Int) (pops : Nat) : Prop where
  has : Has wr p F picks line pops
  keep : Keeps [] w wr
  young : ∀ x, x ∈ F → w.heap.size ≤ x
theorem Lone.quiet {w wr w1 : World} {p : Nat} {F : List Nat} {picks line : List Int} {pops : Nat} (h : Lone w wr p F picks line pops) (k : Keeps [] wr w1) : Lone w w1 p F picks line pops :=
  ⟨h.has.kept k (by simp), h.keep.quiet k, h.young⟩
theorem Lone.far {w wr w1 : World} {p : Nat} {F L : List Nat} {picks line : List Int} {pops : Nat} (h : Lone w wr p F picks line pops) (k : Keeps L wr w1) (hL : ∀ x, x ∈ L → x ∉ F ∧ w.heap.size ≤ x) : Lone w w1 p F picks line pops :=
  ⟨h.has.kept k (fun x hx => (hL x hx).1), h.keep.young k (fun x hx => (hL x hx).2), h.young⟩
theorem Lone.on {w wr w1 : World} {p : Nat} {F F' : List Nat} {picks line line' : List Int} {pops pops' : Nat} (h : Lone w wr p F picks line pops) (hh : Has w1 p F' picks line' pops') (k : Keeps F wr w1) (n : Near wr F F') : Lone w w1 p F' picks line' pops' :=
  ⟨hh, h.keep.young k h.young, n.young h.keep h.young⟩
theorem Near.refl (w : World) (F : List Nat) : Near w F F := fun _ hx => Or.inl hx

/-- And the numbers of a slice that lies apart. -/
structure Two (w wr : World) (p : Nat) (F : List Nat) (picks line : List Int) (pops : Nat) (m : Value) (ml : List Int) : Prop where
  lone : Lone w wr p F picks line pops
  own : wr.ownsRow w.heap.size 3 1 m ml.length (nums ml)
  far : ∀ b, m.ownBlock = some b → b ∉ F
theorem Two.quiet {w wr w1 : World} {p : Nat} {F : List Nat} {picks line : List Int} {pops : Nat} {m : Value} {ml : List Int} (h : Two w wr p F picks line pops m ml) (k : Keeps [] wr w1) : Two w w1 p F picks line pops m ml :=
  ⟨h.lone.quiet k, ownsRow_keeps h.own k (by simp), h.far⟩
theorem Two.on {w wr w1 : World} {p : Nat} {F F' : List Nat} {picks line line' : List Int} {pops pops' : Nat} {m : Value} {ml : List Int} (h : Two w wr p F picks line pops m ml) (hh : Has w1 p F' picks line' pops') (k : Keeps F wr w1) (n : Near wr F F') : Two w w1 p F' picks line' pops' m ml := by
  refine ⟨h.lone.on hh k n, ownsRow_keeps h.own k h.far, fun b hb hx => ?_⟩
  rcases n b hx with e | e
  · exact h.far b hb e
  · have := (h.own.lt b hb).2; omega
theorem Two.append {w wr w1 w3 : World} {p : Nat} {F : List Nat} {picks line : List Int} {pops : Nat} {m m' : Value} {ml : List Int} {x : Int} (h : Two w wr p F picks line pops m ml) (k : Keeps [] wr w1)
    (ho : w3.ownsRow w.heap.size 3 1 m' (ml.length + 1) (nums ml ++ [.int .i64 x])) (hg : w1.grownBy w3 m.ownBlock) {N : Nat} (hat : m'.ownBlock = m.ownBlock ∨ m'.ownBlock = some N) (hN : w1.heap.size = N) : Two w w3 p F picks line pops m' (ml ++ [x]) := by
  have h1 := h.quiet k
  have hk : Keeps m.ownBlock.toList w1 w3 := Keeps.grown _ hg (fun b hb => by rw [hb]; simp)
  refine ⟨h1.lone.far hk (fun b hb => ?_), ?_, fun b hb hx => ?_⟩
  · have hb' : m.ownBlock = some b := by
      cases hm : m.ownBlock with
      | none => rw [hm] at hb; simp at hb
      | some q => rw [hm] at hb; simp at hb; rw [hb]
    exact ⟨h1.far b hb', (h1.own.lt b hb').1⟩
  · rw [show nums (ml ++ [x]) = nums ml ++ [.int .i64 x] by unfold nums; rw [List.map_append]; rfl, List.length_append]
    exact ho
  · rcases hat with e | e
    · exact h1.far b (e ▸ hb) hx
    · rw [e] at hb
      have := h1.lone.has.lt b hx
      simp at hb
      omega

/-- The list beside a slice that is read alone. -/
structure Bes (w wr : World) (p : Nat) (F : List Nat) (picks line : List Int) (pops : Nat) (am : Option Addr) (ml : List Int) : Prop where
  lone : Lone w wr p F picks line pops
  ints : IntsAt wr am ml
  far : ∀ b off, am = some ⟨b, off, none⟩ → b ∉ F ∧ b < wr.heap.size
theorem Bes.on {w wr w1 : World} {p : Nat} {F F' : List Nat} {picks line line' : List Int} {pops pops' : Nat} {am : Option Addr} {ml : List Int} (h : Bes w wr p F picks line pops am ml) (hh : Has w1 p F' picks line' pops') (k : Keeps F wr w1) (n : Near wr F F') : Bes w w1 p F' picks line' pops' am ml := by
  refine ⟨h.lone.on hh k n, h.ints.kept k (fun b off e => (h.far b off e).1), fun b off e => ⟨fun hx => ?_, Nat.lt_of_lt_of_le (h.far b off e).2 k.size⟩⟩
  rcases n b hx with e2 | e2
  · exact (h.far b off e).1 e2
  · have := (h.far b off e).2; omega
theorem Two.bes {w wr : World} {p : Nat} {F : List Nat} {picks line : List Int} {pops : Nat} {m : Value} {ml : List Int} (h : Two w wr p F picks line pops m ml) : ∃ am cm, m = .slice am ml.length cm ∧ Bes w wr p F picks line pops am ml := by
  obtain ⟨am, cm, rfl, h1, _, h2⟩ := ints_of_owns h.own
  exact ⟨am, cm, rfl, h.lone, h1, fun b off e => ⟨h.far b (by rw [e]; rfl), (h2 b off e).2⟩⟩

theorem IntsAt.take {w : World} {a : Option Addr} {zs : List Int} (h : IntsAt w a zs) (n : Nat) : IntsAt w a (zs.take n) := by
  rcases h with rfl | ⟨b, off, rfl, h⟩
  · left; simp
  · refine Or.inr ⟨b, off, rfl, fun i hi => ?_⟩
    rw [List.length_take] at hi
    rw [getD_take zs n i (by omega)]
    exact h i (by omega)

theorem pushed_in {l : List Int} {x : Int} (h : x ∈ l) : pushed l x = l := if_pos h
theorem pushed_out {l : List Int} {x : Int} (h : x ∉ l) : pushed l x = l ++ [x] := if_neg h
theorem placeOf_nil (pops n : Nat) : placeOf [] pops n = 0 := by unfold placeOf pickI; simp

/-- The line turns by one. -/
theorem turn_tail (ml : List Int) (i : Nat) (h : i < ml.length) : (ml.drop i ++ ml.take i).getD 0 0 = ml.getD i 0 ∧ (ml.drop i ++ ml.take i).eraseIdx 0 ++ [ml.getD i 0] = ml.drop (i + 1) ++ ml.take (i + 1) := by
  have e : ml.drop i = ml.getD i 0 :: ml.drop (i + 1) := by
    rw [List.drop_eq_getElem_cons h, List.getD_eq_getElem?_getD, List.getElem?_eq_getElem h]
    rfl
  have e2 : ml.take (i + 1) = ml.take i ++ [ml.getD i 0] := by
    rw [List.take_add_one, List.getD_eq_getElem?_getD, List.getElem?_eq_getElem h]
    rfl
  constructor
  · rw [e]; rfl
  · rw [e, e2]
    simp
theorem turn_new (ml : List Int) (i : Nat) (h : i < ml.length) (hn : (ml.drop i ++ ml.take i).Nodup) : ml.getD i 0 ∉ (ml.drop i ++ ml.take i).eraseIdx 0 := by
  have e := (turn_tail ml i h).1
  intro hm
  have hl : 0 < (ml.drop i ++ ml.take i).length := by simp; omega
  have := (mem_erase _ 0 hl hn (ml.getD i 0)).1 hm
  exact this.2 e.symm
theorem Has.nodup {w : World} {p : Nat} {F : List Nat} {picks line : List Int} {pops : Nat} (h : Has w p F picks line pops) : line.Nodup := by
  obtain ⟨_, _, _, _, _, _, r, _⟩ := h
  exact r.nodup
theorem Has.wf {w : World} {p : Nat} {F : List Nat} {picks line : List Int} {pops : Nat} (h : Has w p F picks line pops) : ∀ x, x ∈ line → wfI x := by
  obtain ⟨_, _, _, _, _, _, r, _⟩ := h
  exact r.wf
end Go.Proofs.Ytjfemabgbmadfaa
