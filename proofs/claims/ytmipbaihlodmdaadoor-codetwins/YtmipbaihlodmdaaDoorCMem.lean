/-
  Bytes in memory: in a slice that came in, in a slice that a call has made by append.
-/
import Derived.Test.YtmipbaihlodmdaaDoorIRow
import Derived.Test.YtmipbaihlodmdaaDoorCPr
import Derived.Deep.AppendLies
import Derived.Lib.UnsafeStr
import Derived.Laws.BitsAllLaws
namespace Go.Proofs.YtmipbaihlodmdaaDoor
open Go.RowKit

/-- The bytes of a slice. -/
def BytesAt (w : World) (a : Option Addr) (L : List UInt8) : Prop :=
  L = [] ∨ ∃ b off, a = some ⟨b, off, none⟩ ∧ ∀ i, i < L.length → w.cell? ⟨b, off + i, none⟩ = some (.int .u8 ((L.getD i 0).toNat : Int))
theorem BytesAt.kept {w w' : World} {a : Option Addr} {L : List UInt8} {F : List Nat} (h : BytesAt w a L) (k : Keeps F w w') (hn : ∀ b off, a = some ⟨b, off, none⟩ → b ∉ F) : BytesAt w' a L := by
  rcases h with h | ⟨b, off, rfl, h⟩
  · exact Or.inl h
  · refine Or.inr ⟨b, off, rfl, fun i hi => ?_⟩
    have hc := h i hi
    rw [k.cell (p := ⟨b, off + i, none⟩) (block_lt_of_cell hc) (hn b off rfl)]
    exact hc
theorem BytesAt.quiet {w w' : World} {a : Option Addr} {L : List UInt8} (h : BytesAt w a L) (k : Keeps [] w w') : BytesAt w' a L := h.kept k (fun _ _ _ => by simp)
theorem zero_u8 : Tryd.t5.zero = some (.int .u8 0) := by kernel_rfl
theorem size_u8 : Tryd.t5.size = 1 := by kernel_rfl
theorem bytes_u8 : Tryd.t5.bytes = 1 := by kernel_rfl
theorem info_u8 : Tryd.prog.info? 5 = some Tryd.t5 := by kernel_rfl
theorem under_bytes : Tryd.prog.underlying 25 = some (.slice 5) := by kernel_rfl
theorem cells_get {L : List UInt8} {j : Nat} {u : Value} (h : (Lib.byteCells L)[j]? = some u) : j < L.length ∧ u = .int .u8 ((L.getD j 0).toNat : Int) := by
  unfold Lib.byteCells at h
  rw [List.getElem?_map] at h
  by_cases hj : j < L.length
  · refine ⟨hj, ?_⟩
    rw [List.getElem?_eq_getElem hj] at h
    simp at h
    rw [← h, List.getD_eq_getElem?_getD, List.getElem?_eq_getElem hj]
    rfl
  · rw [List.getElem?_eq_none (by omega)] at h
    cases h
theorem bytes_one (l : List UInt8) : ∀ u ∈ Lib.byteCells l, u.oneCell' = true := by
  intro u hu
  unfold Lib.byteCells at hu
  rw [List.mem_map] at hu
  obtain ⟨z, _, rfl⟩ := hu
  rfl
theorem add_off (b off j : Nat) : (⟨b, off, none⟩ : Addr).add j = ⟨b, off + j, none⟩ := by unfold Addr.add; by_cases e : j = 0 <;> simp [e]
theorem bytes_news {w : World} {b off : Nat} {L : List UInt8} (h : ∀ i, i < L.length → w.cell? ⟨b, off + i, none⟩ = some (.int .u8 ((L.getD i 0).toNat : Int))) : ∀ j u, (Lib.byteCells L)[j]? = some u → w.cell? ((⟨b, off, none⟩ : Addr).add j) = some u := by
  intro j u hu
  obtain ⟨hj, rfl⟩ := cells_get hu
  rw [add_off]
  exact h j hj
/-- Bytes that a call has made since w0. -/
structure OB (w0 w : World) (v : Value) (B : List UInt8) : Prop where
  own : w.ownsRow w0.heap.size 5 1 v B.length (Lib.byteCells B)
  keeps : Keeps [] w0 w
theorem OB.nil {w0 w : World} (k : Keeps [] w0 w) : OB w0 w (.slice none 0 0) [] := ⟨World.ownsRow_nil _ _ _ _, k⟩
theorem OB.open {w0 w : World} {v : Value} {B : List UInt8} (h : OB w0 w v B) : ∃ a cp, v = .slice a B.length cp ∧ BytesAt w a B ∧ B.length ≤ cp ∧ ∀ b off, a = some ⟨b, off, none⟩ → w0.heap.size ≤ b ∧ off = 0 := by
  rcases h.own.2 with ⟨rfl, h0⟩ | ⟨g, cap, cur, rfl, hbs, hg, hle, _, hs, ht⟩
  · rw [h0]
    exact ⟨none, 0, rfl, .inl (List.eq_nil_of_length_eq_zero h0), Nat.le_refl _, fun _ _ e => by cases e⟩
  · refine ⟨_, cap, rfl, .inr ⟨g, 0, rfl, fun i hi => ?_⟩, hle, fun b off e => by cases e; exact ⟨hbs, rfl⟩⟩
    rw [Nat.zero_add, cell_of_row w g i cur _ _ hg]
    have e2 : (cur.toList.take (B.length * 1))[i]? = cur.toList[i]? := by rw [List.getElem?_take, if_pos (by omega)]
    have e1 : cur[i]? = cur.toList[i]? := by simp
    rw [e1, ← e2, ht]
    unfold Lib.byteCells
    rw [List.getElem?_map, List.getElem?_eq_getElem hi, List.getD_eq_getElem?_getD, List.getElem?_eq_getElem hi]
    rfl
theorem OB.quiet {w0 w w' : World} {v : Value} {B : List UInt8} (h : OB w0 w v B) (k : Keeps [] w w') : OB w0 w' v B :=
  ⟨ownsRow_keeps h.own k (fun _ _ => by simp), h.keeps.quiet k⟩
theorem OB.base {w0 w1 w : World} {v : Value} {B : List UInt8} (h : OB w1 w v B) (k : Keeps [] w0 w1) : OB w0 w v B :=
  ⟨ownsRow_base h.own k.size, k.quiet h.keeps⟩
/-- Bytes are appended. -/
theorem app_b {ops : Array Oper} {rest : List Oper} {o : Oper} {a : Act} {Q : Exit → Act → World → Prop} (hgd : o.guard = none) (s x : Operand) (ho : o.op = .call { callee := .builtin .append, args := #[s, x], argTypes := #[25, 25] })
    {w0 w : World} {v : Value} {B : List UInt8} (hs : a.eval s = v) (hB : OB w0 w v B) {b off m c : Nat} {T : List UInt8} (hx : a.eval x = .slice (some ⟨b, off, none⟩) m c) (hm : m = T.length) (hT : 0 < T.length) (hnews : ∀ i, i < T.length → w.cell? ⟨b, off + i, none⟩ = some (.int .u8 ((T.getD i 0).toNat : Int)))
    (hlen : B.length + T.length ≤ 140737488355328)
    (h : ∀ g cap N w', Box (N = (B ++ T).length) → OB w0 w' (.slice (some ⟨g, 0, none⟩) N cap) (B ++ T) → w.grownBy w' v.ownBlock → wpList Tryd.prog ops Q rest (a.put o.dst (.slice (some ⟨g, 0, none⟩) N cap)) w') : wpList Tryd.prog ops Q (o :: rest) a w := by
  subst hm
  refine wpList_append_lies w hgd s x 25 ho w0.heap.size 5 Tryd.t5 (.int .u8 0) 1 1 under_bytes info_u8 zero_u8 size_u8 bytes_u8 rfl (by decide) v B.length (Lib.byteCells B) hs hB.own ⟨b, off, none⟩ T.length c (Lib.byteCells T) hx (by rw [Lib.byteCells_length]; omega) (bytes_news hnews) (bytes_one T) hT (by unfold maxLen; omega) (by omega) hB.keeps.size w.heap.size rfl ?_
  intro g cap w' h1 h2 _ _
  have e := h g cap (B.length + T.length) w' (hid List.length_append.symm) ⟨by rw [List.length_append, Lib.byteCells_append]; exact h1, (Keeps.refl [] w0).quiet (hB.keeps.appended hB.own h2 (Nat.le_refl _))⟩ h2
  exact e
end Go.Proofs.YtmipbaihlodmdaaDoor
