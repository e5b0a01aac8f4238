/-
  code's writer: full, fold, number.
-/
import Derived.Test.YtmipbaihlodmdaaDoorCMem
import Derived.Deep.Fields
namespace Go.Proofs.YtmipbaihlodmdaaDoor
open Go.RowKit

theorem heap_new (w : World) (o : Obj) : (w.alloc o).heap[w.heap.size]? = some o := by
  show (w.heap.push o)[w.heap.size]? = some o
  simp
theorem hcell {w : World} {b : Nat} {cs : Array Value} {t : TypeId} (h : w.heap[b]? = some (.cells cs t (0, 0))) (k : Nat) : w.cell? ⟨b, k, none⟩ = cs[k]? := cell_of_row w b k cs _ _ h
theorem heap_lt {w : World} {p : Nat} {o : Obj} (h : w.heap[p]? = some o) : p < w.heap.size := by
  rw [Array.getElem?_eq_some_iff] at h
  exact h.1
theorem keep_heap {w w' : World} {b : Nat} {o : Obj} (h : w.heap[b]? = some o) (k : Keeps [] w w') : w'.heap[b]? = some o := by
  rw [k.block b (heap_lt h) (by simp)]
  exact h
/-- A writer that a call has made since w0: it holds the bytes B; what was there at w0 is as it was. -/
structure WrW (w0 w : World) (wb : Nat) (B : List UInt8) : Prop where
  ex : ∃ v, w.heap[wb]? = some (.cells #[v] 69 (0, 0)) ∧ OB w0 w v B
  ge : w0.heap.size ≤ wb
  len : B.length ≤ 20010
theorem WrW.keeps {w0 w : World} {wb : Nat} {B : List UInt8} (h : WrW w0 w wb B) : Keeps [] w0 w := by
  obtain ⟨v, _, h⟩ := h.ex
  exact h.keeps
theorem WrW.ne {w : World} {wb base n : Nat} {v u : Value} {xs : List Value} (h : w.heap[wb]? = some (.cells #[u] 69 (0, 0))) (ho : w.ownsRow base 5 1 v n xs) : v.ownBlock ≠ some wb := by
  intro e
  rcases ho.2 with ⟨rfl, _⟩ | ⟨g, cap, cur, rfl, _, hg, _⟩
  · simp [Value.ownBlock] at e
  · simp [Value.ownBlock] at e
    subst e
    rw [hg] at h
    simp at h
/-- The bytes are written back. -/
theorem WrW.put {w0 w w' : World} {wb : Nat} {B' : List UInt8} {u v v' : Value} (hg : w0.heap.size ≤ wb) (hh : w.heap[wb]? = some (.cells #[u] 69 (0, 0))) (hu : v.ownBlock ≠ some wb) (h : OB w0 w' v' B') (hgr : w.grownBy w' v.ownBlock) (hl : B'.length ≤ 20010) : WrW w0 (w'.setCell ⟨wb, 0, none⟩ v') wb B' := by
  have h1 : w'.heap[wb]? = some (.cells #[u] 69 (0, 0)) := by
    rw [hgr.block wb (heap_lt hh) (fun e => hu e.symm)]
    exact hh
  have k1 : Keeps [wb] w' (w'.setCell ⟨wb, 0, none⟩ v') := Keeps.setCell [wb] _ _ _ (List.mem_singleton.2 rfl)
  have hne := WrW.ne h1 h.own
  refine ⟨⟨v', ?_, ownsRow_keeps h.own k1 (fun b hb hm => ?_), h.keeps.trans k1 (fun x hx hlt => ?_)⟩, hg, hl⟩
  · rw [heap_setCell_same _ wb 0 _ _ _ h1]
    rfl
  · rw [List.mem_singleton] at hm
    rw [hm] at hb
    exact hne hb
  · rw [List.mem_singleton] at hx
    omega

theorem full_any {w0 w : World} {wb : Nat} {B : List UInt8} (h : WrW w0 w wb B) : Calls Tryd.prog 24 #[.pointer (some ⟨wb, 0, none⟩)] w fun e w' => e = .returned (.bool (decide (20000 < B.length))) ∧ w' = w := by
  obtain ⟨v, h1, h2⟩ := h.ex
  obtain ⟨a, cp, rfl, _⟩ := h2.open
  have c0 := hcell h1 0
  have hd : (decide ((20000 : Int) < (B.length : Int))) = decide (20000 < B.length) := by
    congr 1
    exact propext ⟨fun h => by omega, fun h => by omega⟩
  clear h h1 h2
  generalize B.length = n at *
  go_enter Tryd.func24, Tryd.ntmps24
  go_wp2_with fail
  go_ret
  exact ⟨by first | rw [hd] | rfl | simp, rfl⟩

theorem fold_any (n : Int) (hn : b64 n) (w : World) : Calls Tryd.prog 63 #[.int .i64 n] w fun e w' => e = .returned (.int .u64 (foldN n : Int)) ∧ w' = w := by
  obtain ⟨l, r⟩ := hn
  by_cases h : n < 0
  · have e := foldN_neg h
    have hb : bits BinOp.or IntKind.u64 (-(n + 1) * 2) 1 = (foldN n : Int) := by
      rw [show -(n + 1) * 2 = 2 * (-(n + 1)) by omega]
      have := u64_or_nat (2 * (-(n + 1))).toNat 1 (by omega) (by omega)
      rw [show (((2 * (-(n + 1))).toNat : Nat) : Int) = 2 * (-(n + 1)) by omega] at this
      refine this.trans ?_
      have h2 : (2 * (-(n + 1))).toNat = 2 * (-(n + 1)).toNat := by omega
      rw [h2, show 2 * (-(n + 1)).toNat ||| 1 = 2 * (-(n + 1)).toNat + 1 from ?_, e]
      · omega
      · have := Nat.shiftLeft_add_eq_or_of_lt (i := 1) (b := 1) (by omega) (-(n + 1)).toNat
        rw [Nat.shiftLeft_eq, Nat.pow_one, Nat.mul_comm] at this
        exact this.symm
    have HE := hid e
    generalize foldN n = u at *
    clear e
    go_enter Tryd.func63, Tryd.ntmps63
    go_wp2_with fail
    go_ret
    exact ⟨rfl, rfl⟩
  · have e := foldN_pos h
    have HE := hid e
    generalize foldN n = u at *
    clear e
    go_enter Tryd.func63, Tryd.ntmps63
    go_wp2_with fail
    go_ret
    exact ⟨by rw [HE.out]; go_num, rfl⟩

theorem pfrozen {w : World} {p : Nat} {cs : Array Value} {t : TypeId} (h : w.heap[p]? = some (.cells cs t (0, 0))) (k : Nat) : w.frozen? ⟨p, k, none⟩ = false := by
  unfold World.frozen?
  simp [h]
theorem wr_after {wr w' : World} {o : Obj} {wb : Nat} {u : Value} {bl : Option Nat} (hv : wr.heap[wb]? = some (.cells #[u] 69 (0, 0))) (hgr : (wr.alloc o).grownBy w' bl) (hne : bl ≠ some wb) : w'.heap[wb]? = some (.cells #[u] 69 (0, 0)) := by
  have h1 := keep_heap hv (Keeps.alloc [] wr o)
  rw [hgr.block wb (heap_lt h1) (fun e => hne e.symm)]
  exact h1
/-- A byte's list. -/
theorem one_news {w : World} {b : Nat} {c : UInt8} {t : TypeId} {x : Int} (h : w.heap[b]? = some (.cells #[.int .u8 x] t (0, 0))) (hx : x = (c.toNat : Int)) : ∀ i, i < [c].length → w.cell? ⟨b, 0 + i, none⟩ = some (.int .u8 (([c].getD i 0).toNat : Int)) := by
  intro i hi
  obtain rfl : i = 0 := by simpa using hi
  rw [Nat.zero_add, hcell h 0, hx]
  rfl
theorem and127 (u : Nat) (h : u < 18446744073709551616) : bits BinOp.and IntKind.u64 (u : Int) 127 = ((u % 128 : Nat) : Int) := by
  have := u64_and_nat u 127 h (by omega)
  rw [show u &&& 127 = u % 128 from Nat.and_two_pow_sub_one_eq_mod u 7] at this
  exact this
theorem or128 (x : Nat) (h : x < 128) : bits BinOp.or IntKind.u8 (x : Int) 128 = ((x + 128 : Nat) : Int) := by
  have := u8_or_nat x 128 (by omega) (by omega)
  rw [show x ||| 128 = x + 128 from ?_] at this
  · exact this
  · have := Nat.shiftLeft_add_eq_or_of_lt (i := 7) (b := x) (by omega) 1
    rw [show 1 <<< 7 = 128 from rfl] at this
    rw [Nat.or_comm, ← this, Nat.add_comm]

/-- Blocks that are neither bytes nor a writer have not turned. -/
def Bxs (w w' : World) : Prop := ∀ (k : Nat) (cs : Array Value) (t : TypeId), w.heap[k]? = some (.cells cs t (0, 0)) → t ≠ 5 → t ≠ 69 → w'.heap[k]? = some (.cells cs t (0, 0))
theorem Bxs.refl (w : World) : Bxs w w := fun _ _ _ h _ _ => h
theorem Bxs.trans {a b c : World} (h : Bxs a b) (k : Bxs b c) : Bxs a c := fun i cs t e n m => k i cs t (h i cs t e n m) n m
theorem Bxs.quiet {a b : World} (k : Keeps [] a b) : Bxs a b := fun _ _ _ e _ _ => keep_heap e k
theorem Bxs.put {w0 wr w3 : World} {o : Obj} {wb : Nat} {v u v' : Value} {B1 : List UInt8} (hv : wr.heap[wb]? = some (.cells #[u] 69 (0, 0))) (hO : OB w0 wr v B1) (hgr : (wr.alloc o).grownBy w3 v.ownBlock) : Bxs wr (w3.setCell ⟨wb, 0, none⟩ v') := by
  intro k cs t e h1 h2
  have e1 := keep_heap e (Keeps.alloc [] wr o)
  have n1 : v.ownBlock ≠ some k := by
    intro e9
    rcases hO.own.2 with ⟨rfl, _⟩ | ⟨g, cap, cur, rfl, _, hg, _⟩
    · simp [Value.ownBlock] at e9
    · simp [Value.ownBlock] at e9
      subst e9
      rw [hg] at e
      simp at e
      exact h1 e.2.symm
  have n2 : k ≠ wb := by
    intro e9
    subst e9
    rw [hv] at e
    simp at e
    exact h2 e.2.symm
  have e2 : w3.heap[k]? = some (.cells cs t (0, 0)) := by
    rw [hgr.block k (heap_lt e1) (fun e9 => n1 e9.symm)]
    exact e1
  rw [(Keeps.setCell [wb] w3 ⟨wb, 0, none⟩ v' (List.mem_singleton.2 rfl)).block k (heap_lt e2) (by simpa using n2)]
  exact e2
/-- What a writer's step tells. -/
def NumPost (w0 w : World) (wb : Nat) (B T : List UInt8) (e : Ending) (w' : World) : Prop := e = .returned (.tuple #[]) ∧ ∃ B', WrW w0 w' wb B' ∧ Adds B T B' ∧ Bxs w w'
set_option maxRecDepth 20000 in
set_option maxHeartbeats 4000000 in
theorem number_any {w0 w : World} {wb : Nat} {B : List UInt8} (h : WrW w0 w wb B) (n : Int) (hn : b64 n) : Calls Tryd.prog 42 #[.pointer (some ⟨wb, 0, none⟩), .int .i64 n] w (NumPost w0 w wb B (numE n)) := by
  have HF := hid (full_any h)
  have HD := hid (fold_any n hn w)
  have HW := hid h
  by_cases hf : 20000 < B.length
  · rw [decide_eq_true hf] at HF
    clear h hn
    go_enter Tryd.func42, Tryd.ntmps42
    go_wp2_with fail
    refine HF.out.mono ?_
    rintro e w1 ⟨rfl, rfl⟩
    go_wp2_with fail
    go_end0
    exact ⟨rfl, B, HW.out, Adds.full _ hf, Bxs.refl _⟩
  · rw [decide_eq_false hf] at HF
    have hlt := foldN_lt hn
    have hlen := numE_len hn
    have HN : Box (B ++ seven (foldN n) = B ++ numE n ∧ (numE n).length ≤ 10 ∧ B.length ≤ 20000) := hid ⟨rfl, hlen, by omega⟩
    have hge := h.ge
    clear h hn hlen hf
    generalize foldN n = u0 at *
    go_enter Tryd.func42, Tryd.ntmps42
    go_wp2_with fail
    refine HF.out.mono ?_
    rintro e w1 ⟨rfl, rfl⟩
    go_wp2_with fail
    refine HD.out.mono ?_
    rintro e w2 ⟨rfl, rfl⟩
    go_wp2_with fail
    clear HF HD
    go_loopw [4] (fun uv wr => ∃ u : Nat, u < 18446744073709551616 ∧ uv = .int .u64 (u : Int) ∧ Box (∃ B1, WrW w0 wr wb B1 ∧ B1 ++ seven u = B ++ numE n ∧ Bxs w2 wr)) (fun uv _ => (intOf uv).toNat)
    case atStart => exact ⟨u0, hlt, rfl, hid ⟨B, HW.out, HN.out.1, Bxs.refl _⟩⟩
    case round =>
      obtain ⟨u, hu, rfl, HB⟩ := hrel
      clear HW
      obtain ⟨B1, hB1, hE, hX⟩ := HB.out
      have HX := hid hX
      obtain ⟨v, hv, hO⟩ := hB1.ex
      have hne := WrW.ne hv hO.own
      obtain ⟨a, cp, hva, _⟩ := hO.open
      have c0 := hcell hv 0
      have hlenE := congrArg List.length hE
      rw [List.length_append, List.length_append] at hlenE
      have hN1 := HN.out.2
      have hwr := heap_lt hv
      have HE := hid hE
      have HV := hid hv
      have HO := hid hO
      have HNE := hid hne
      clear hE HB hB1 hv hO hne hX
      by_cases hg : 127 < u
      · have hg' : (127 : Int) < (u : Int) := by omega
        have ea : bits BinOp.and IntKind.u64 (u : Int) 127 = (u : Int) % 128 := (and127 u hu).trans (by omega)
        have eo : bits BinOp.or IntKind.u8 ((u : Int) % 128) 128 = (u : Int) % 128 + 128 := by
          have := or128 (u % 128) (by omega)
          rw [show ((u % 128 : Nat) : Int) = (u : Int) % 128 by omega] at this
          exact this.trans (by omega)
        have e7 := seven_ge (show ¬ u < 128 by omega)
        have hsz := seven_pos (u / 128)
        have HE2 : Box ((B1 ++ [UInt8.ofNat (u % 128 + 128)]) ++ seven (u / 128) = B ++ numE n) := hid (by rw [← HE.out, e7, List.append_assoc]; rfl)
        rw [e7, List.length_cons] at hlenE
        have hbl : Box (B1.length + 1 ≤ 20010) := hid (by omega)
        have hch : (UInt8.ofNat (u % 128 + 128)).toNat = u % 128 + 128 := u8_small (by omega)
        have HCH : Box ((u : Int) % 128 + 128 = ((UInt8.ofNat (u % 128 + 128)).toNat : Int)) := hid (by rw [hch]; omega)
        generalize UInt8.ofNat (u % 128 + 128) = ch at *
        have hdv : ((u / 128 : Nat) : Int) = (u : Int) / 128 := by omega
        have HDV := hid hdv
        have hlt8 : Box (u / 128 < u) := hid (by omega)
        clear hlenE hN1 e7 hsz hch hdv
        subst hva
        go_wp2_with (at_builtin; go_must (refine app_b rfl _ _ rfl rfl (HO.out.quiet (Keeps.alloc [] wr _)) rfl rfl (T := [ch]) (by simp) (one_news (heap_new wr _) HCH.out) (by have := hbl.out; simp; omega) ?_; intro g cap N3 w3 hN3 hob hgr; have hob' := hid hob; have hgr' := hid hgr; have hw3 := wr_after HV.out hgr HNE.out; have d0 := hcell hw3 0; have d1 := pfrozen hw3 0; clear hob hgr hw3))
        go_roundw
        case rel => exact ⟨u / 128, by have := hlt8.out; omega, by rw [HDV.out], hid ⟨_, WrW.put hge (keep_heap HV.out (Keeps.alloc [] wr _)) HNE.out hob'.out hgr'.out (by have := hbl.out; simp; omega), HE2.out, HX.out.trans (Bxs.put HV.out HO.out hgr'.out)⟩⟩
        case measure => have := hlt8.out; simp [intOf]; omega
      · have hg' : ¬ (127 : Int) < (u : Int) := by omega
        have e7 := seven_lt (show u < 128 by omega)
        have HE2 : Box (B1 ++ [UInt8.ofNat u] = B ++ numE n) := hid (by rw [← HE.out, e7])
        rw [e7] at hlenE
        have hbl : Box (B1.length + 1 ≤ 20010) := hid (by simp at hlenE; omega)
        have hch : (UInt8.ofNat u).toNat = u := u8_small (by omega)
        have HCH : Box ((u : Int) = ((UInt8.ofNat u).toNat : Int)) := hid (by rw [hch])
        have hu8 : u < 256 := by omega
        have hu9 : (u : Int) < 256 := by omega
        generalize UInt8.ofNat u = ch at *
        clear hlenE hN1 e7 hch
        subst hva
        go_wp2_with (at_builtin; go_must (refine app_b rfl _ _ rfl rfl (HO.out.quiet (Keeps.alloc [] wr _)) rfl rfl (T := [ch]) (by simp) (one_news (heap_new wr _) (by first | exact HCH.out | (rw [← HCH.out]; go_num))) (by have := hbl.out; simp; omega) ?_; intro g cap N3 w3 hN3 hob hgr; have hob' := hid hob; have hgr' := hid hgr; have hw3 := wr_after HV.out hgr HNE.out; have d0 := hcell hw3 0; have d1 := pfrozen hw3 0; clear hob hgr hw3))
        go_end0
        refine ⟨rfl, _, WrW.put hge (keep_heap HV.out (Keeps.alloc [] wr _)) HNE.out hob'.out hgr'.out (by have := hbl.out; simp; omega), ?_⟩
        rw [HE2.out]
        exact ⟨Adds.just _ _, HX.out.trans (Bxs.put HV.out HO.out hgr'.out)⟩
end Go.Proofs.YtmipbaihlodmdaaDoor
