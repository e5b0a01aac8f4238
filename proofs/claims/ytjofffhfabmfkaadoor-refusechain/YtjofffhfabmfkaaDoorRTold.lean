/-
  A map whose keys are pointers: a key that is not in it is not found, and is put in.
-/
import Derived.Test.YtjofffhfabmfkaaDoorRLeads
import Derived.Maps.OwnSet
namespace Go.Proofs.YtjofffhfabmfkaaDoor
open Go.RowKit

def keyV (p : Nat) : Value := .pointer (some ⟨p, 0, none⟩)

/-- Block M is a map whose keys are the pointers of ks. -/
structure ToldAt (w : World) (M : Nat) (ks : List Nat) : Prop where
  heap : ∃ es clock, w.heap[M]? = some (.map es clock) ∧ es.toList.map (·.key) = ks.map keyV
  cells : ∀ p, p ∈ ks → ∃ cs T, w.heap[p]? = some (.cells cs T (0, 0))

theorem eql_ptr_other {a b : Nat} {ca cb : Array Value} {ta tb : TypeId} {w : World} (hne : a ≠ b) (ha : w.heap[a]? = some (.cells ca ta (0, 0))) (hb : w.heap[b]? = some (.cells cb tb (0, 0))) :
    (Op.equal 33 (keyV a) (keyV b)).run Tryd.prog w = .ok false w := by
  have hs : ∀ w, (Go.sizeOf 44).run Tryd.prog w = .ok 5 w := fun w => by kernel_rfl
  have hn : (⟨a, 0, none⟩ : Addr) ≠ ⟨b, 0, none⟩ := fun e => hne (congrArg Addr.block e)
  have h : ∀ d : Nat, (Op.equalIn (d + 1) 33 (.pointer (some ⟨a, 0, none⟩)) (.pointer (some ⟨b, 0, none⟩))).run Tryd.prog w = .ok false w := fun d => by
    simp [Op.equalIn, run_underlying Tryd.underlying33, hs, run_sameAddr_other w hn ha hb]
  exact h 9999

theorem find_asking {p : Nat} {cs : Array Value} {T : TypeId} {w : World} (hp : w.heap[p]? = some (.cells cs T (0, 0))) : ∀ (es : List MapEntry) (ks : List Nat) (i : Nat), es.map (·.key) = ks.map keyV → (∀ q, q ∈ ks → ∃ cs T, w.heap[q]? = some (.cells cs T (0, 0))) → (∀ q, q ∈ ks → p ≠ q) →
    (Instr.findAsking 33 (keyV p) es i).run Tryd.prog w = .ok none w
  | [], _, _, _, _, _ => by simp [Instr.findAsking]
  | e :: es, [], i, h, _, _ => by simp at h
  | e :: es, q :: ks, i, h, hc, hn => by
    simp only [List.map_cons, List.cons.injEq] at h
    obtain ⟨cs', T', hq⟩ := hc q (by simp)
    have ih := find_asking hp es ks (i + 1) h.2 (fun x hx => hc x (by simp [hx])) (fun x hx => hn x (by simp [hx]))
    simp [Instr.findAsking, h.1, eql_ptr_other (hn q (by simp)) hp hq, ih]

theorem find_none {p : Nat} {cs : Array Value} {T : TypeId} {w : World} (hp : w.heap[p]? = some (.cells cs T (0, 0))) (es : List MapEntry) (ks : List Nat) (h : es.map (·.key) = ks.map keyV) (hc : ∀ q, q ∈ ks → ∃ cs T, w.heap[q]? = some (.cells cs T (0, 0))) (hn : ∀ q, q ∈ ks → p ≠ q) :
    (Instr.findKey 33 (keyV p) es).run Tryd.prog w = .ok none w := by
  rcases es with _ | ⟨e, es⟩
  · simp [Instr.findKey, run_underlying Tryd.underlying33, Instr.findNow]
  · rcases ks with _ | ⟨q, ks⟩
    · simp at h
    · have h' := h
      simp only [List.map_cons, List.cons.injEq] at h
      have e1 : Instr.findNow (TypeDesc.pointer 44) (keyV p) (e :: es) 0 = none := by
        simp [Instr.findNow, Instr.sameNow]
      simp [Instr.findKey, run_underlying Tryd.underlying33, e1, find_asking hp _ _ 0 h' hc hn]

theorem check_key (b : Bool) (p : Nat) (w : World) : (Instr.checkKey b 10000 33 (keyV p)).run Tryd.prog w = .ok () w := by
  have h : ∀ d : Nat, (Instr.checkKey b (d + 1) 33 (.pointer (some ⟨p, 0, none⟩))).run Tryd.prog w = .ok () w := fun d => by
    simp [Instr.checkKey, run_underlying Tryd.underlying33]
  exact h 9999

theorem ToldAt.look {w : World} {M : Nat} {ks : List Nat} (h : ToldAt w M ks) {p : Nat} {cs : Array Value} {T : TypeId} (hp : w.heap[p]? = some (.cells cs T (0, 0))) (hn : ∀ q, q ∈ ks → p ≠ q) :
    (Instr.lookup 58 (.map (some M)) (.pointer (some ⟨p, 0, none⟩)) true).run Tryd.prog w = .ok (.tuple #[.agg #[], .bool false]) w := by
  obtain ⟨es, clock, hM, hk⟩ := h.heap
  have hf := find_none hp es.toList ks hk h.cells hn
  have hz : (zeroValue 60).run Tryd.prog w = .ok (.agg #[]) w := by kernel_rfl
  have hck := check_key es.isEmpty p w
  unfold keyV at hf hck
  simp [Instr.lookup, run_underlying Tryd.underlying58, MapKept.run_getObj_map hM, hck, hf, hz, Result.andThen]

theorem ToldAt.put {w : World} {M : Nat} {ks : List Nat} (h : ToldAt w M ks) {p : Nat} {cs : Array Value} {T : TypeId} (hp : w.heap[p]? = some (.cells cs T (0, 0))) (hn : ∀ q, q ∈ ks → p ≠ q) :
    ∃ w', (Instr.mapUpdate 58 (.map (some M)) (.pointer (some ⟨p, 0, none⟩)) (.agg #[])).run Tryd.prog w = .ok () w' ∧ ToldAt w' M (ks ++ [p]) ∧ Keeps [M] w w' := by
  obtain ⟨es, clock, hM, hk⟩ := h.heap
  have hf := find_none hp es.toList ks hk h.cells hn
  have hck := check_key false p w
  unfold keyV at hf hck
  have hrun : (Instr.mapUpdate 58 (.map (some M)) (.pointer (some ⟨p, 0, none⟩)) (.agg #[])).run Tryd.prog w = .ok () (ChangeMaps.setBlock w M (.map (es.push ⟨.pointer (some ⟨p, 0, none⟩), .agg #[], clock⟩) (clock + 1))) := by
    simp [Instr.mapUpdate, run_underlying Tryd.underlying58, MapKept.run_getObj_map hM, hck, hf, MapKept.run_setObj_map _ hM, Result.andThen, ChangeMaps.setBlock]
  have hkeep : Keeps [M] w (ChangeMaps.setBlock w M (.map (es.push ⟨.pointer (some ⟨p, 0, none⟩), .agg #[], clock⟩) (clock + 1))) :=
    ⟨rfl, rfl, rfl, by simp [ChangeMaps.setBlock], fun i _ hi => ChangeMaps.heap_setBlock_other hM _ (fun e => hi (by simp [e]))⟩
  refine ⟨_, hrun, ⟨⟨_, _, ChangeMaps.heap_setBlock_same hM _, ?_⟩, fun q hq => ?_⟩, hkeep⟩
  · simp [hk, keyV]
  · have hm : ∀ r c t, w.heap[r]? = some (.cells c t (0, 0)) → r ∉ [M] := fun r c t hx e => by simp at e; subst e; rw [hM] at hx; cases hx
    rcases List.mem_append.1 hq with hq | hq
    · obtain ⟨c, t, hc⟩ := h.cells q hq
      exact ⟨c, t, (hkeep.block q (heap_lt hc) (hm _ _ _ hc)).trans hc⟩
    · obtain rfl := List.mem_singleton.1 hq
      exact ⟨cs, T, (hkeep.block q (heap_lt hp) (hm _ _ _ hp)).trans hp⟩

theorem ToldAt.kept {w w' : World} {L : List Nat} {M : Nat} {ks : List Nat} (h : ToldAt w M ks) (k : Keeps L w w') (hM : M ∉ L) (hn : ∀ q, q ∈ ks → q ∉ L) : ToldAt w' M ks := by
  obtain ⟨es, clock, hm, hk⟩ := h.heap
  refine ⟨⟨es, clock, (k.block M (heap_lt hm) hM).trans hm, hk⟩, fun q hq => ?_⟩
  obtain ⟨c, t, hc⟩ := h.cells q hq
  exact ⟨c, t, (k.block q (heap_lt hc) (hn q hq)).trans hc⟩
theorem ToldAt.made (w : World) : ToldAt (w.alloc (.map #[] 0)) w.heap.size [] := ⟨⟨#[], 0, heap_new _ _, rfl⟩, fun _ h => by cases h⟩
end Go.Proofs.YtjofffhfabmfkaaDoor
