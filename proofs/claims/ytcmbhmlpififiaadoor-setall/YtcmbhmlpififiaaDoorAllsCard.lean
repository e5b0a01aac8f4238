/-
  For every list of operations, SetAll(ops) returns true and leaves its argument as it was: numbers come and go, one by one and by sets; what is told is rising (P1.1).
  Conditions: the library's table math/bits.deBruijn64tab holds what the program's text lays (the card ties it); the tie speaks of the pruned copy of the project that this seat loads.
-/
import Derived.Test.YtcmbhmlpififiaaDoorCard
import Derived.Test.YtcmbhmlpififiaaDoorAlls
import Derived.Deep.Slices
import Derived.Deep.Strs
namespace Go.Proofs.YtcmbhmlpififiaaDoor
open Go.ChangeShapes Go.WideShapes Go.ChangeAt Go.RowKit

theorem alls_table {W : World} (h : laidMetH Tryd.prog Rows.setAllRow.laid W) : TabAt W := by
  have ht : Lib.TabIs Tryd.prog W "math/bits.deBruijn64tab" .u8 tabInts := Lib.tabIs_of_head (rest := []) gTab gTabType Tryd.underlying50 Tryd.underlying5 cellsU8 cellsTab h
  intro j hj
  have hc := ht.cell gTab j hj
  rw [tab_eq j hj] at hc
  exact hc

theorem cellsOp : Tryd.prog.cellsOf 31 = 3 := by kernel_rfl
theorem cellsInt : Tryd.prog.cellsOf 3 = 1 := by kernel_rfl
theorem cellsInts : Tryd.prog.cellsOf 29 = 1 := by kernel_rfl

/-- One operation, read. -/
def OpIs (W : World) (a : Addr) (k n : Int) (al : Option Addr) (zs : List Int) (c : Nat) : Prop :=
  W.cell? a = some (.int .i64 k) ∧ W.cell? (a.add 1) = some (.int .i64 n) ∧ W.cell? (a.add 2) = some (.slice al zs.length c) ∧ IntsAt W al zs ∧ zs.length ≤ maxLen ∧ zs.length ≤ c

theorem op_open {H : Type} {enc : TypeId × Value → H} {W : World} {n : Nat} {a : Addr} {cs : List Value} {x : DataW H × List MemPlace} (h1 : W.cells? 0 a 3 = some cs) (h2 : DataW.trod enc Tryd.prog W 0 (fun _ => true) true n 31 cs = some x) :
    ∃ k n al zs c, OpIs W a k n al zs c := by
  obtain ⟨_, hlen, hcell⟩ := World.cells?_some h1
  obtain ⟨y0, y1, y2, n', _, _, g0, g1, g2⟩ := Go.Deep.trod_struct3 Tryd.underlying31 h2
  match cs, hlen with
  | [c0, c1, c2], _ =>
    simp [cellsInt, cellsInts] at g0 g1 g2
    have e0 := hcell 0 (by omega)
    have e1 := hcell 1 (by omega)
    have e2 := hcell 2 (by omega)
    simp at e0 e1 e2
    obtain ⟨k, hk, _, _⟩ := DataW.trod_int Tryd.underlying3 g0
    obtain ⟨m, hm, _, _⟩ := DataW.trod_int Tryd.underlying3 g1
    simp at hk hm
    subst hk hm
    have e0' : W.cell? a = some (.int .i64 k) := by simpa [Addr.add] using e0
    rcases open_ints Tryd.underlying29 Tryd.underlying3 (by kernel_rfl) g2 with ⟨hcs, _⟩ | ⟨xa, l, c, zs, hcs, _, hl, hmx, hz, _, hc, _⟩
    · simp at hcs
      subst hcs
      exact ⟨k, m, none, [], 0, e0', e1, e2, Or.inl rfl, by simp, by simp⟩
    · simp at hcs
      subst hcs
      obtain ⟨ys, hy, hi, hle, hlc⟩ := ints_open hl hmx (by simpa using hz) hc
      subst hy
      exact ⟨k, m, some xa, ys, c, e0', e1, e2, hi, hle, hlc⟩

theorem ops_open {W : World} {x : Addr} {len : Nat} (hpos : 0 < len) (h : ∀ i, i < len → ∃ k n al zs c, OpIs W (x.add (i * 3)) k n al zs c) :
    ∃ b off K N A Z C, x = ⟨b, off, none⟩ ∧ Ops W b off len K N A Z C := by
  have hch : ∀ i, i < len → ∃ q : Int × Int × Option Addr × List Int × Nat, OpIs W (x.add (i * 3)) q.1 q.2.1 q.2.2.1 q.2.2.2.1 q.2.2.2.2 := fun i hi => by
    obtain ⟨k, n, al, zs, c, hh⟩ := h i hi
    exact ⟨(k, n, al, zs, c), hh⟩
  obtain ⟨f, hf⟩ := Go.Deep.choose_lt hch
  obtain ⟨b, off, spot⟩ := x
  have h0 := (hf 0 hpos).1
  have hspot : spot = none := by simpa [Addr.add] using World.cell?_spot h0
  subst hspot
  refine ⟨b, off, fun i => (f i).1, fun i => (f i).2.1, fun i => (f i).2.2.1, fun i => (f i).2.2.2.1, fun i => (f i).2.2.2.2, rfl, ?_⟩
  refine ⟨fun i hi => ?_, fun i hi => ?_, fun i hi => ?_, fun i hi => ?_⟩
  · have := (hf i hi).1
    rw [addr_add] at this
    exact this
  · have := (hf i hi).2.1
    rw [addr_add, addr_add] at this
    exact this
  · have := (hf i hi).2.2.1
    rw [addr_add, addr_add] at this
    exact this
  · exact (hf i hi).2.2.2

theorem alls_contract (H : Type) (enc : TypeId × Value → H) (W : World) (base : Nat) (args : Array Value) (ds gs : List (DataW H)) (before : List MemPlace)
    (hval : ∀ (j : Nat) t v, Tryd.f3.params[j]? = some t → args[j]? = some v → Value.okWide Tryd.prog W .any base t v)
    (hW : DataW.Whole enc Tryd.prog Tryd.f3.params.toList Rows.setAllSpec.vars false W args.toList ds gs before) (hL : laidMetH Tryd.prog Rows.setAllRow.laid W) :
    Calls Tryd.prog 3 args W fun e W' => ∃ v, e = .returned v ∧ Rows.setAllSpec.post enc Tryd.prog Tryd.f3 false true false false W args v W' := by
  have hW' := hW
  obtain ⟨p, q, hA0, hV, rfl, hfz, hnd⟩ := hW
  have hA : DataW.TrodAll enc Tryd.prog W 0 (fun _ => true) true Tryd.f3.params.toList args.toList ds p := hA0
  rw [Tryd.params3] at hA hval
  obtain ⟨v0, vs0, d0, ds0, p0, q0, hargs, rfl, rfl, h0, r0⟩ := trodAll_cons hA
  obtain ⟨rfl, rfl, rfl⟩ := trodAll_nil r0
  obtain rfl : args = #[v0] := by cases args; simp_all
  obtain ⟨rfl, rfl⟩ := trodVars_none hV
  obtain ⟨a0, len0, cap0, rfl⟩ := okWide_slice Tryd.underlying22 (hval 0 22 v0 rfl rfl)
  have k0 := h0
  have lt0 : ∀ x ∈ p0, x.block < W.heap.size := by obtain ⟨m, hm⟩ := k0; exact DataW.trod_lt m _ _ _ hm
  obtain ⟨fuel, hf⟩ := h0
  have hwalk : Calls Tryd.prog 3 #[.slice a0 len0 cap0] W fun e W' => e = .returned (.bool true) ∧ Keeps [] W W' := by
    rcases Go.Deep.open_slice Tryd.underlying22 hf with ⟨hcs, _⟩ | ⟨x, l, c, m, n, D, Pl, hcs, _, hl, hm, hmm, _, hel⟩
    · simp [Value.cells] at hcs
      obtain ⟨rfl, rfl, rfl⟩ := hcs
      exact alls_zero none 0 W (alls_table hL)
    · simp [Value.cells] at hcs
      obtain ⟨rfl, rfl, rfl⟩ := hcs
      by_cases h0 : len0 = 0
      · subst h0
        exact alls_zero _ cap0 W (alls_table hL)
      · have hlm : len0 ≤ m := by rw [hmm]; simp; omega
        obtain ⟨b, off, K, N, A, Z, C, rfl, ho⟩ := ops_open (W := W) (x := x) (len := len0) (by omega) (fun i hi => by
          obtain ⟨cs', h1, h2⟩ := hel i (by omega)
          rw [cellsOp] at h1
          exact op_open h1 h2)
        exact alls_core b off len0 cap0 K N A Z C W (alls_table hL) ho (by omega)
  clear hA0
  refine hwalk.mono fun e W' ⟨he, hk⟩ => ?_
  subst he
  have bel : Below W.heap.size W W' := hk.below (Nat.le_refl _) (by simp)
  exact ⟨_, rfl, _, _, _, [], _, [], hW', trodAll_mk1 (shut_bool Tryd.underlying4 _), (trodAll_cons_mk (Below.trod laidOut (by kernel_rfl) (of_decide_eq_true (by kernel_rfl)) k0 bel lt0) trodAll_mk0), rfl, bel.frame _, fun h => by cases h⟩

theorem alls_laid_met (os : Os) : laidMet Tryd.prog Rows.setAllRow.laid ((laidWorld Tryd.prog os).forCall (fun _ _ => 0) ⟨#[], #[.slice none 0 0], []⟩).memory :=
  laidMet_of_run' 8 (by kernel_rfl) (by kernel_rfl)
theorem alls_reads (os : Os) {H : Type} (enc : TypeId × Value → H) : ∃ places, DataW.whole enc Tryd.prog ((laidWorld Tryd.prog os).forCall (fun _ _ => 0) ⟨#[], #[.slice none 0 0], []⟩).memory Tryd.f3.params.toList Rows.setAllSpec.vars false (#[Value.slice none 0 0] : Array Value).toList 8 = some ([.nil], [], places) :=
  ⟨[], by kernel_rfl⟩

set_option maxRecDepth 100000 in
theorem alls_lifted (os : Os) (started : os.Started) (H : Type) (enc : TypeId × Value → H) (F : Stop.Interp) :
    ReturnsInHanded {} Tryd.checked os 3 .any ((OpenSpec.ofChange Rows.setAllSpec).preRow enc Tryd.prog Tryd.f3 Rows.setAllRow.domain false Rows.setAllRow.laid) (((OpenSpec.ofChange Rows.setAllSpec).at F).post enc Tryd.prog Tryd.f3 false true false false) := by
  obtain ⟨places, hx⟩ := alls_reads os enc
  refine returnsInHanded_of_row (C := Tryd.checked) (s := OpenSpec.ofChange Rows.setAllSpec) own started (by kernel_rfl) Tryd.func3
    (witness_row_at (enc := enc) (C := Tryd.checked) false (laidWorld Tryd.prog os) (#[Value.slice none 0 0] : Array Value) rfl (by kernel_rfl) (by kernel_rfl) (by kernel_rfl)
      (OpenSpec.preRow_of_cond 8 hx (by kernel_rfl) (fun k hk => by cases hk) (by kernel_rfl) (alls_laid_met os))) ?_
  intro W base args ds gs before hval hW _ _ _ hL _ _
  exact alls_contract H enc W base args ds gs before hval hW hL

theorem alls_said : Rows.SetAllSaid :=
  OpenClaim.holds_of_cond 3 Tryd.f3 rfl rfl rfl rfl rfl rfl rfl ⟨rfl, rfl, rfl, rfl, rfl⟩ rfl rfl rfl rfl rfl (by kernel_rfl) Tryd.func3 (by kernel_rfl)
    (of_decide_eq_true (by kernel_rfl)) (by unfold Func.isWrapper; first | (rw [if_pos (by decide +kernel)]; kernel_rfl) | (rw [if_neg (by decide +kernel)]; exact ⟨rfl, rfl⟩))
    (fun os started H enc _ F => by rw [OpenClaim.pre_eq_preRow]; exact alls_lifted os started H enc F)

theorem alls_plain (f : FuncId) (fn : Func) (hf : Tryd.pinned.checked.prog.funcNamed "haruspex/haruspexlaw1.SetAll" = some f) (hfn : Tryd.pinned.checked.prog.funcs[f]? = some fn) :
    false = Tryd.pinned.checked.prog.looks [] ∧ ∀ (j : Nat) t, fn.params[j]? = some t → Tryd.pinned.checked.prog.wantsStandIn t = false := by
  obtain rfl : f = 3 := Option.some.inj ((show Tryd.prog.funcNamed "haruspex/haruspexlaw1.SetAll" = some 3 by kernel_rfl).symm.trans hf) |>.symm
  obtain rfl : fn = Tryd.f3 := (Option.some.inj (Tryd.func3.symm.trans hfn)).symm
  refine ⟨by kernel_rfl, fun j t ht => ?_⟩
  rw [Tryd.params3] at ht
  obtain rfl : t = 22 := by simpa using Array.mem_of_getElem? ht
  exact (show Tryd.prog.wantsStandIn 22 = false by kernel_rfl)

/-- The card. -/
theorem setAll_card : Rows.SetAllCardSaid :=
  Claim7.holds_tied_plain_at .later [] _ _ _ _ alls_said (fun _ h => by cases h) (by kernel_rfl) (fun _ h => by cases h) setAll_row_tie rfl ⟨rfl, rfl⟩ (by kernel_rfl) rfl alls_plain (by kernel_rfl)
#print axioms setAll_card
end Go.Proofs.YtcmbhmlpififiaaDoor
