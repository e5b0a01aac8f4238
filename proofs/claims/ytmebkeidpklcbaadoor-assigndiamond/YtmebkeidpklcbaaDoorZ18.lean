/-
  A map whose keys are points: a point is looked up, a new one is put in.
-/
import Derived.Maps.OwnSet
import Derived.Test.YtmebkeidpklcbaaDoorZ01

namespace Go.Proofs.YtmebkeidpklcbaaDoor
open Go.RowKit

def pkV (q : Int × Int × Int) : Value := .agg #[.int .i64 q.1, .int .i64 q.2.1, .int .i64 q.2.2]
def ptEq (q r : Int × Int × Int) : Bool := q.1 == r.1 && (q.2.1 == r.2.1 && q.2.2 == r.2.2)
theorem ptEq_iff (q r : Int × Int × Int) : ptEq q r = true ↔ q = r := by
  obtain ⟨a, b, c⟩ := q
  obtain ⟨a', b', c'⟩ := r
  unfold ptEq
  simp
theorem eql_pt (q r : Int × Int × Int) (w : World) : (Op.equal 43 (pkV q) (pkV r)).run Tryd.prog w = .ok (ptEq q r) w := by
  have hi : ∀ (d : Nat) (x y : Int), (Op.equalIn (d + 1) 3 (.int .i64 x) (.int .i64 y)).run Tryd.prog w = .ok (x == y) w := fun d x y => by
    simp [Op.equalIn, run_underlying Tryd.underlying3]
  have hs : Tryd.prog.stoodInHeld 43 = false := by kernel_rfl
  have p0 : ∀ (x y z : Int), (part 3 #[.int .i64 x, .int .i64 y, .int .i64 z] 0).run Tryd.prog w = .ok (.int .i64 x) w := fun _ _ _ => by kernel_rfl
  have p1 : ∀ (x y z : Int), (part 3 #[.int .i64 x, .int .i64 y, .int .i64 z] 1).run Tryd.prog w = .ok (.int .i64 y) w := fun _ _ _ => by kernel_rfl
  have p2 : ∀ (x y z : Int), (part 3 #[.int .i64 x, .int .i64 y, .int .i64 z] 2).run Tryd.prog w = .ok (.int .i64 z) w := fun _ _ _ => by kernel_rfl
  have h : ∀ d : Nat, (Op.equalIn (d + 2) 43 (pkV q) (pkV r)).run Tryd.prog w = .ok (ptEq q r) w := fun d => by
    unfold pkV ptEq
    rw [Op.equalIn]
    simp [run_underlying Tryd.underlying43, hs, p0, hi, Result.andThen]
    by_cases h1 : q.1 = r.1
    · by_cases h2 : q.2.1 = r.2.1
      · by_cases h3 : q.2.2 = r.2.2
        · simp [h1, h2, h3, p1, p2, hi, Result.andThen]
        · simp [h1, h2, h3, p1, p2, hi, Result.andThen]
      · simp [h1, h2, p1, hi, Result.andThen]
    · simp [h1]
  exact h 9998
theorem find_pt_asking (q : Int × Int × Int) (w : World) : ∀ (es : List MapEntry) (ks : List (Int × Int × Int)) (i : Nat), es.map (fun e => (e.key, e.val)) = ks.map (fun k => (pkV k, Value.bool true)) →
    ∃ j, (Instr.findAsking 43 (pkV q) es i).run Tryd.prog w = .ok (if q ∈ ks then some (j, Value.bool true) else none) w
  | [], [], i, _ => ⟨0, by simp [Instr.findAsking]⟩
  | [], k :: ks, i, h => by simp at h
  | e :: es, [], i, h => by simp at h
  | e :: es, k :: ks, i, h => by
    simp only [List.map_cons, List.cons.injEq, Prod.mk.injEq] at h
    by_cases hq : q = k
    · subst hq
      exact ⟨i, by simp [Instr.findAsking, h.1.1, h.1.2, eql_pt, (ptEq_iff q q).2 rfl]⟩
    · obtain ⟨j, ih⟩ := find_pt_asking q w es ks (i + 1) h.2
      refine ⟨j, ?_⟩
      have hn : ptEq q k = false := by
        cases e : ptEq q k with
        | false => rfl
        | true => exact absurd ((ptEq_iff q k).1 e) hq
      simp [Instr.findAsking, h.1.1, eql_pt, hn, ih, hq]
theorem find_pt (q : Int × Int × Int) (w : World) (es : List MapEntry) (ks : List (Int × Int × Int)) (h : es.map (fun e => (e.key, e.val)) = ks.map (fun k => (pkV k, Value.bool true))) :
    ∃ j, (Instr.findKey 43 (pkV q) es).run Tryd.prog w = .ok (if q ∈ ks then some (j, Value.bool true) else none) w := by
  obtain ⟨j, hj⟩ := find_pt_asking q w es ks 0 h
  rcases es with _ | ⟨e, es⟩
  · rcases ks with _ | ⟨k, ks⟩
    · exact ⟨0, by simp [Instr.findKey, run_underlying Tryd.underlying43, Instr.findNow]⟩
    · simp at h
  · rcases ks with _ | ⟨k, ks⟩
    · simp at h
    · simp only [List.map_cons, List.cons.injEq, Prod.mk.injEq] at h
      refine ⟨j, ?_⟩
      have e1 : ∀ fs, Instr.findNow (TypeDesc.struct fs) (pkV q) (e :: es) 0 = none := fun fs => by
        simp [Instr.findNow, Instr.sameNow]
      rw [Instr.findKey]
      simp only [Sem.run_bind, run_underlying Tryd.underlying43, Result.andThen_ok, e1]
      exact hj
theorem check_pt (b : Bool) (q : Int × Int × Int) (w : World) : (Instr.checkKey b 10000 43 (pkV q)).run Tryd.prog w = .ok () w := by
  have hi : ∀ (d : Nat) (x : Int), (Instr.checkKey b (d + 1) 3 (.int .i64 x)).run Tryd.prog w = .ok () w := fun d x => by
    simp [Instr.checkKey, run_underlying Tryd.underlying3]
  have p0 : ∀ (x y z : Int), (part 3 #[.int .i64 x, .int .i64 y, .int .i64 z] 0).run Tryd.prog w = .ok (.int .i64 x) w := fun _ _ _ => by kernel_rfl
  have p1 : ∀ (x y z : Int), (part 3 #[.int .i64 x, .int .i64 y, .int .i64 z] 1).run Tryd.prog w = .ok (.int .i64 y) w := fun _ _ _ => by kernel_rfl
  have p2 : ∀ (x y z : Int), (part 3 #[.int .i64 x, .int .i64 y, .int .i64 z] 2).run Tryd.prog w = .ok (.int .i64 z) w := fun _ _ _ => by kernel_rfl
  have h : ∀ d : Nat, (Instr.checkKey b (d + 2) 43 (pkV q)).run Tryd.prog w = .ok () w := fun d => by
    unfold pkV
    rw [Instr.checkKey]
    simp [run_underlying Tryd.underlying43, p0, p1, p2, hi, Result.andThen]
  exact h 9998
/-- Block M is a map of the points of ks, each marked. -/
structure PSeen (w : World) (M : Nat) (ks : List (Int × Int × Int)) : Prop where
  heap : ∃ es clock, w.heap[M]? = some (.map es clock) ∧ es.toList.map (fun e => (e.key, e.val)) = ks.map (fun k => (pkV k, Value.bool true))
theorem PSeen.look {w : World} {M : Nat} {ks : List (Int × Int × Int)} (h : PSeen w M ks) (q : Int × Int × Int) :
    (Instr.lookup 87 (.map (some M)) (pkV q) false).run Tryd.prog w = .ok (.bool (decide (q ∈ ks))) w := by
  obtain ⟨es, clock, hM, hk⟩ := h.heap
  obtain ⟨j, hf⟩ := find_pt q w es.toList ks hk
  have hz : (zeroValue 4).run Tryd.prog w = .ok (.bool false) w := by kernel_rfl
  have hck := check_pt es.isEmpty q w
  by_cases hq : q ∈ ks
  · rw [if_pos hq] at hf
    simp [Instr.lookup, run_underlying Tryd.underlying87, MapKept.run_getObj_map hM, hck, hf, Result.andThen, hq]
  · rw [if_neg hq] at hf
    simp [Instr.lookup, run_underlying Tryd.underlying87, MapKept.run_getObj_map hM, hck, hf, hz, Result.andThen, hq]
theorem PSeen.put {w : World} {M : Nat} {ks : List (Int × Int × Int)} (h : PSeen w M ks) (q : Int × Int × Int) (hn : q ∉ ks) :
    ∃ w', (Instr.mapUpdate 87 (.map (some M)) (pkV q) (.bool true)).run Tryd.prog w = .ok () w' ∧ PSeen w' M (ks ++ [q]) ∧ Keeps [M] w w' := by
  obtain ⟨es, clock, hM, hk⟩ := h.heap
  obtain ⟨j, hf⟩ := find_pt q w es.toList ks hk
  rw [if_neg hn] at hf
  have hck := check_pt false q w
  have hrun : (Instr.mapUpdate 87 (.map (some M)) (pkV q) (.bool true)).run Tryd.prog w = .ok () (ChangeMaps.setBlock w M (.map (es.push ⟨pkV q, .bool true, clock⟩) (clock + 1))) := by
    simp [Instr.mapUpdate, run_underlying Tryd.underlying87, MapKept.run_getObj_map hM, hck, hf, MapKept.run_setObj_map _ hM, Result.andThen, ChangeMaps.setBlock]
  have hkeep : Keeps [M] w (ChangeMaps.setBlock w M (.map (es.push ⟨pkV q, .bool true, clock⟩) (clock + 1))) :=
    ⟨rfl, rfl, rfl, by simp [ChangeMaps.setBlock], fun i _ hi => ChangeMaps.heap_setBlock_other hM _ (fun e => hi (by simp [e]))⟩
  refine ⟨_, hrun, ⟨_, _, ChangeMaps.heap_setBlock_same hM _, ?_⟩, hkeep⟩
  simp [hk]
theorem PSeen.lt {w : World} {M : Nat} {ks : List (Int × Int × Int)} (h : PSeen w M ks) : M < w.heap.size := by
  obtain ⟨es, clock, hm, _⟩ := h.heap
  exact (Array.getElem?_eq_some_iff.1 hm).1
theorem PSeen.kept {w w' : World} {L : List Nat} {M : Nat} {ks : List (Int × Int × Int)} (h : PSeen w M ks) (k : Keeps L w w') (hM : M ∉ L) : PSeen w' M ks := by
  have hlt := h.lt
  obtain ⟨es, clock, hm, hk⟩ := h.heap
  exact ⟨es, clock, (k.block M hlt hM).trans hm, hk⟩
theorem PSeen.made (w : World) : PSeen (w.alloc (.map #[] 0)) w.heap.size [] := ⟨#[], 0, heap_alloc_new _ _, rfl⟩
end Go.Proofs.YtmebkeidpklcbaaDoor
