/-
  One refusal: errors.As at it (Go's own text of errors.As and errors.as is walked), refuse.Why, refuse.Where, types.refused, types.refusedAt (out of QAs).
-/
import Derived.Test.YtmebkeidpklcbaaDoorRows
import Derived.WalkKit
import Derived.WalkSpells
import Derived.WalkLawsBesides
import Derived.OwnWalk
import Derived.Deep.QuietTactic
import Derived.BigQuiet
import Derived.Maps.AppendAt
import Derived.Lib.Builder
import Derived.Deep.OwnRows
import Derived.Deep.DeepCutAuto
import Derived.Deep.AppendLies
import Derived.LaidEql
import Derived.Stop.Asserts
import Derived.RowKitTokens
import Derived.Defers
import Derived.Recover
import Derived.Test.YtmebkeidpklcbaaDoorZ04

namespace Go.Proofs.YtmebkeidpklcbaaDoor
open Go.RowKit Go.Extern.Stop Go.Stop Go.Extern

theorem pfrozen {w : World} {p : Nat} {cs : Array Value} {t : TypeId} (h : w.heap[p]? = some (.cells cs t (0, 0))) (k : Nat) : w.frozen? ⟨p, k, none⟩ = false := hfrozen h k
/-- The library's variable holds what the program's text lays. -/
structure Glob (w : World) : Prop where
  et : w.cell? ⟨1, 0, none⟩ = some (.iface 139 (.agg #[.pointer (some ⟨2, 47, none⟩)]))
theorem Glob.quiet {w w' : World} (g : Glob w) (k : Keeps [] w w') : Glob w' := ⟨cell_stays k g.et⟩
theorem pcell {w : World} {p : Nat} {cs : Array Value} {T : TypeId} (h : w.heap[p]? = some (.cells cs T (0, 0))) (k : Nat) : w.cell? ⟨p, k, none⟩ = cs[k]? := cell_of_row w p k _ _ _ h
theorem f_valueOfPP (t : Addr) (w : World) : (ReflectliteValue.unpack (.iface 121 (.pointer (some t)))).run Tryd.prog w
    = .ok (.agg #[.pointer (some ⟨2, 121, none⟩), .pointer (some ⟨w.heap.size, 0, none⟩), .int .u64 150]) (w.alloc (.cells #[.pointer (some t)] 121)) := by kernel_rfl
theorem f_typePP (a : Addr) (w : World) : (ReflectliteValue.methodAny (ReflectliteValue.valueError "reflectlite.Value.Type" 0) (fun t _ _ _ => ReflectliteType.toType t) #[.agg #[.pointer (some ⟨2, 121, none⟩), .pointer (some a), .int .u64 150]]).run Tryd.prog w
    = .ok (.iface 139 (.agg #[.pointer (some ⟨2, 121, none⟩)])) w := by kernel_rfl
theorem f_methodKind (h : Value) (w : World) : (Go.method 282 139 (.agg #[h]) "Kind").run Tryd.prog w = .ok (90, h) w := by kernel_rfl
theorem f_kindPP (w : World) : ((ReflectliteType.abiMethod fun t => (fun a : Nat => Value.int IntKind.u8 (a : Int)) <$> Rtype.kind t) #[.pointer (some ⟨2, 121, none⟩)]).run Tryd.prog w = .ok (.int .u8 22) w := by kernel_rfl
theorem f_kindP (w : World) : ((ReflectliteType.abiMethod fun t => (fun a : Nat => Value.int IntKind.u8 (a : Int)) <$> Rtype.kind t) #[.pointer (some ⟨2, 103, none⟩)]).run Tryd.prog w = .ok (.int .u8 22) w := by kernel_rfl
theorem f_partsPP (a : Addr) (w : World) : (ReflectliteValue.parts (.agg #[.pointer (some ⟨2, 121, none⟩), .pointer (some a), .int .u64 150])).run Tryd.prog w = .ok (some (121, a, 150)) w := by kernel_rfl
theorem f_isNilPP (a p : Addr) (W : World) (ha : W.cell? a = some (.pointer (some p))) :
    (ReflectliteValue.method (ReflectliteValue.valueError "reflectlite.Value.IsNil" 0) ReflectliteValue.isNil #[.agg #[.pointer (some ⟨2, 121, none⟩), .pointer (some a), .int .u64 150]]).run Tryd.prog W = .ok (.bool false) W := by
  change Sem.run _ (ReflectliteValue.parts (.agg #[.pointer (some ⟨2, 121, none⟩), .pointer (some a), .int .u64 150]) >>= _) W = _
  simp only [Sem.run_bind, f_partsPP, Result.andThen]
  simp [ReflectliteValue.isNil, loadVar, isAgg, underlying, Tryd.underlying121, ha, Result.andThen]
theorem f_methodElem (h : Value) (w : World) : (Go.method 282 139 (.agg #[h]) "Elem").run Tryd.prog w = .ok (102, .agg #[h]) w := by kernel_rfl
theorem f_methodImplements (h : Value) (w : World) : (Go.method 282 139 (.agg #[h]) "Implements").run Tryd.prog w = .ok (103, .agg #[h]) w := by kernel_rfl
theorem f_methodAssignableTo (h : Value) (w : World) : (Go.method 282 139 (.agg #[h]) "AssignableTo").run Tryd.prog w = .ok (100, .agg #[h]) w := by kernel_rfl
theorem f_elemPP (w : World) : (ReflectliteType.method ReflectliteType.elem #[.agg #[.pointer (some ⟨2, 121, none⟩)]]).run Tryd.prog w = .ok (.iface 139 (.agg #[.pointer (some ⟨2, 103, none⟩)])) w := by kernel_rfl
theorem f_implementsP (w : World) : (ReflectliteType.relation "Implements" ReflectliteType.implements_ #[.agg #[.pointer (some ⟨2, 103, none⟩)], .iface 139 (.agg #[.pointer (some ⟨2, 47, none⟩)])]).run Tryd.prog w = .ok (.bool true) w := by kernel_rfl
theorem f_typeOfP (v : Value) (w : World) : (ReflectliteType.typeOf #[.iface 103 v]).run Tryd.prog w = .ok (.iface 139 (.agg #[.pointer (some ⟨2, 103, none⟩)])) w := by kernel_rfl
theorem f_assignableP (w : World) : (ReflectliteType.relation "AssignableTo" ReflectliteType.assignableTo #[.agg #[.pointer (some ⟨2, 103, none⟩)], .iface 139 (.agg #[.pointer (some ⟨2, 103, none⟩)])]).run Tryd.prog w = .ok (.bool true) w := by kernel_rfl
theorem f_valueOfP (e : Addr) (w : World) : (ReflectliteValue.unpack (.iface 103 (.pointer (some e)))).run Tryd.prog w
    = .ok (.agg #[.pointer (some ⟨2, 103, none⟩), .pointer (some ⟨w.heap.size, 0, none⟩), .int .u64 150]) (w.alloc (.cells #[.pointer (some e)] 103)) := by kernel_rfl
theorem f_elemOfPP (w : World) : (Rtype.elem? 121).run Tryd.prog w = .ok (some 103) w := by kernel_rfl
theorem f_mkP (p : Addr) (w : World) : (ReflectliteValue.mk 103 p ReflectliteValue.flagAddr).run Tryd.prog w = .ok (.agg #[.pointer (some ⟨2, 103, none⟩), .pointer (some p), .int .u64 406]) w := by kernel_rfl
theorem f_elemVPP (a p : Addr) (W : World) (ha : W.cell? a = some (.pointer (some p))) :
    (ReflectliteValue.method (ReflectliteValue.valueError "reflectlite.Value.Elem" 0) ReflectliteValue.elem #[.agg #[.pointer (some ⟨2, 121, none⟩), .pointer (some a), .int .u64 150]]).run Tryd.prog W
      = .ok (.agg #[.pointer (some ⟨2, 103, none⟩), .pointer (some p), .int .u64 406]) W := by
  change Sem.run _ (ReflectliteValue.parts (.agg #[.pointer (some ⟨2, 121, none⟩), .pointer (some a), .int .u64 150]) >>= _) W = _
  simp only [Sem.run_bind, f_partsPP, Result.andThen]
  simp [ReflectliteValue.elem, loadVar, isAgg, underlying, Tryd.underlying121, ha, Result.andThen, f_elemOfPP, f_mkP]
theorem f_partsPa (a : Addr) (w : World) : (ReflectliteValue.parts (.agg #[.pointer (some ⟨2, 103, none⟩), .pointer (some a), .int .u64 406])).run Tryd.prog w = .ok (some (103, a, 406)) w := by kernel_rfl
theorem f_partsP (a : Addr) (w : World) : (ReflectliteValue.parts (.agg #[.pointer (some ⟨2, 103, none⟩), .pointer (some a), .int .u64 150])).run Tryd.prog w = .ok (some (103, a, 150)) w := by kernel_rfl
theorem f_directP (w : World) : (Rtype.directlyAssignable 103 103).run Tryd.prog w = .ok true w := by kernel_rfl
theorem f_setP (ta b e : Addr) (old : Value) (W : World) (hb : W.cell? b = some (.pointer (some e))) (ht : W.cell? ta = some old) (hf : W.frozen? ta = false) :
    (ReflectliteValue.set #[.agg #[.pointer (some ⟨2, 103, none⟩), .pointer (some ta), .int .u64 406], .agg #[.pointer (some ⟨2, 103, none⟩), .pointer (some b), .int .u64 150]]).run Tryd.prog W
      = .ok (.tuple #[]) (W.setCell ta (.pointer (some e))) := by
  change Sem.run _ (ReflectliteValue.parts (.agg #[.pointer (some ⟨2, 103, none⟩), .pointer (some ta), .int .u64 406]) >>= fun r => ReflectliteValue.parts (.agg #[.pointer (some ⟨2, 103, none⟩), .pointer (some b), .int .u64 150]) >>= fun s => _) W = _
  simp only [Sem.run_bind, f_partsPa, f_partsP, Result.andThen]
  simp [ReflectliteValue.flagAddr, loadVar, isAgg, underlying, Tryd.underlying103, hb, Result.andThen, f_directP, storeVar, Value.cells, storeCells, Addr.add]
  rw [run_store Tryd.prog W ta _ _ (by rfl)]
  simp [ht, hf]
abbrev errV (p : Nat) : Value := .iface 103 (.pointer (some ⟨p, 0, none⟩))
set_option maxHeartbeats 4000000 in
theorem as_ref (p t a : Nat) (w : World) (ht : w.heap[t]? = some (.cells #[.pointer none] 103 (0, 0))) (ha : w.heap[a]? = some (.cells #[.pointer (some ⟨t, 0, none⟩)] 121 (0, 0))) :
    Calls Tryd.prog 72 #[errV p, .iface 121 (.pointer (some ⟨t, 0, none⟩)), .agg #[.pointer (some ⟨2, 121, none⟩), .pointer (some ⟨a, 0, none⟩), .int .u64 150], .iface 139 (.agg #[.pointer (some ⟨2, 103, none⟩)])] w
      fun e w' => e = .returned (.bool true) ∧ Keeps [t] w w' ∧ w'.heap[t]? = some (.cells #[.pointer (some ⟨p, 0, none⟩)] 103 (0, 0)) := by
  have h26 := @run_callFunc_extern Tryd.prog 69 _ (fun args => ReflectliteValue.unpack (args.getD 0 (.tuple #[]))) Tryd.func69 (by kernel_rfl) (by kernel_rfl) (by kernel_rfl) (by kernel_rfl)
  have h32 := @run_callFunc_extern Tryd.prog 73 _ ReflectliteType.typeOf Tryd.func73 (by kernel_rfl) (by kernel_rfl) (by kernel_rfl) (by kernel_rfl)
  have h76 := @run_callFunc_extern Tryd.prog 100 _ (ReflectliteType.relation "AssignableTo" ReflectliteType.assignableTo) Tryd.func100 (by kernel_rfl) (by kernel_rfl) (by kernel_rfl) (by kernel_rfl)
  have h37 := @run_callFunc_extern Tryd.prog 74 _ (ReflectliteValue.method (ReflectliteValue.valueError "reflectlite.Value.Elem" 0) ReflectliteValue.elem) Tryd.func74 (by kernel_rfl) (by kernel_rfl) (by kernel_rfl) (by kernel_rfl)
  have h38 := @run_callFunc_extern Tryd.prog 75 _ ReflectliteValue.set Tryd.func75 (by kernel_rfl) (by kernel_rfl) (by kernel_rfl) (by kernel_rfl)
  have f1 := f_typeOfP
  have f3 := f_methodAssignableTo
  have f4 := f_assignableP
  have f6 := f_valueOfP
  have htl := heap_lt ht
  have hal := heap_lt ha
  have k1 : Keeps [t] w (w.alloc (.cells #[.pointer (some ⟨2, 121, none⟩), .pointer (some ⟨a, 0, none⟩), .int .u64 150] 129)) := Keeps.alloc _ _ _
  have b1 := (Keeps.alloc [] w (.cells #[.pointer (some ⟨2, 121, none⟩), .pointer (some ⟨a, 0, none⟩), .int .u64 150] 129)).block
  have hb1 : (w.alloc (.cells #[.pointer (some ⟨2, 121, none⟩), .pointer (some ⟨a, 0, none⟩), .int .u64 150] 129)).heap[w.heap.size]? = some (.cells #[.pointer (some ⟨2, 121, none⟩), .pointer (some ⟨a, 0, none⟩), .int .u64 150] 129 (0, 0)) := heap_new _ _
  have ht1 := hid ((b1 t htl (by simp)).trans ht)
  have ha1 := hid ((b1 a hal (by simp)).trans ha)
  go_enter Tryd.func72, Tryd.ntmps72
  go_wp2
  clear ht ha b1
  generalize w.alloc (.cells #[.pointer (some ⟨2, 121, none⟩), .pointer (some ⟨a, 0, none⟩), .int .u64 150] 129) = w1 at *
  have c0 : w1.cell? ⟨w.heap.size, 0, none⟩ = some (.pointer (some ⟨2, 121, none⟩)) := pcell hb1 0
  have c1 : w1.cell? ⟨w.heap.size, 1, none⟩ = some (.pointer (some ⟨a, 0, none⟩)) := pcell hb1 1
  have c2 : w1.cell? ⟨w.heap.size, 2, none⟩ = some (.int .u64 150) := pcell hb1 2
  have HB := hid hb1
  clear hb1
  generalize w.heap.size = q at *
  have K1 := hid k1
  clear k1
  go_loop [0] (fun v => v = errV p) (fun _ => 0)
  case atStart => rfl
  case round =>
    subst hrel
    have el := f_elemVPP ⟨a, 0, none⟩ ⟨t, 0, none⟩ w1 (pcell ha1.out 0)
    have htl1 := heap_lt ht1.out
    have st := f_setP ⟨t, 0, none⟩ ⟨w1.heap.size, 0, none⟩ ⟨p, 0, none⟩ (.pointer none) (w1.alloc (.cells #[.pointer (some ⟨p, 0, none⟩)] 103)) (by simp) (by rw [World.cell?_alloc_lt _ _ ⟨t, 0, none⟩ htl1]; exact pcell ht1.out 0)
      (by rw [World.frozen?_alloc_old _ _ ⟨t, 0, none⟩ (Nat.ne_of_lt htl1)]; exact pfrozen ht1.out 0)
    go_wp2
    go_ret
    have ks : Keeps [t] w1 (w1.setCell ⟨t, 0, none⟩ (.pointer (some ⟨p, 0, none⟩))) := Keeps.setCell [t] _ _ _ (List.mem_singleton.2 rfl)
    refine ⟨rfl, (K1.out.step ks).step (Keeps.alloc [t] _ _), ?_⟩
    rw [(Keeps.alloc [] _ _).block t (Nat.lt_of_lt_of_le htl1 ks.size) (by simp), heap_setCell_same _ t 0 _ _ _ ht1.out]
    rfl
set_option maxHeartbeats 4000000 in
theorem As_ref (p t : Nat) (w : World) (hg : Glob w) (ht : w.heap[t]? = some (.cells #[.pointer none] 103 (0, 0))) :
    Calls Tryd.prog 66 #[errV p, .iface 121 (.pointer (some ⟨t, 0, none⟩))] w
      fun e w' => e = .returned (.bool true) ∧ Keeps [t] w w' ∧ w'.heap[t]? = some (.cells #[.pointer (some ⟨p, 0, none⟩)] 103 (0, 0)) := by
  have h26 := @run_callFunc_extern Tryd.prog 69 _ (fun args => ReflectliteValue.unpack (args.getD 0 (.tuple #[]))) Tryd.func69 (by kernel_rfl) (by kernel_rfl) (by kernel_rfl) (by kernel_rfl)
  have h27 := @run_callFunc_extern Tryd.prog 70 _ (ReflectliteValue.methodAny (ReflectliteValue.valueError "reflectlite.Value.Type" 0) (fun t _ _ _ => ReflectliteType.toType t)) Tryd.func70 (by kernel_rfl) (by kernel_rfl) (by kernel_rfl) (by kernel_rfl)
  have h28 := @run_callFunc_extern Tryd.prog 71 _ (ReflectliteValue.method (ReflectliteValue.valueError "reflectlite.Value.IsNil" 0) ReflectliteValue.isNil) Tryd.func71 (by kernel_rfl) (by kernel_rfl) (by kernel_rfl) (by kernel_rfl)
  have h67 := @run_callFunc_extern Tryd.prog 90 _ (ReflectliteType.abiMethod fun t => do pure (.int .u8 (← Rtype.kind t))) Tryd.func90 (by kernel_rfl) (by kernel_rfl) (by kernel_rfl) (by kernel_rfl)
  have h78 := @run_callFunc_extern Tryd.prog 102 _ (ReflectliteType.method ReflectliteType.elem) Tryd.func102 (by kernel_rfl) (by kernel_rfl) (by kernel_rfl) (by kernel_rfl)
  have h79 := @run_callFunc_extern Tryd.prog 103 _ (ReflectliteType.relation "Implements" ReflectliteType.implements_) Tryd.func103 (by kernel_rfl) (by kernel_rfl) (by kernel_rfl) (by kernel_rfl)
  have f1 := f_valueOfPP
  have f2 := f_typePP
  have f3 := f_methodKind
  have f4 := f_kindPP
  have f5 := f_kindP
  have f6 := f_methodElem
  have f7 := f_methodImplements
  have f8 := f_elemPP
  have f9 := f_implementsP
  have n8 := f_isNilPP ⟨w.heap.size, 0, none⟩ ⟨t, 0, none⟩ ((w.alloc (.cells #[.pointer (some ⟨t, 0, none⟩)] 121)).alloc (.cells #[.pointer (some ⟨2, 121, none⟩), .pointer (some ⟨w.heap.size, 0, none⟩), .int .u64 150] 129)) (by simp)
  have k2 := ((Keeps.refl [] w).step (Keeps.alloc [] w (.cells #[.pointer (some ⟨t, 0, none⟩)] 121))).step (Keeps.alloc [] _ (.cells #[.pointer (some ⟨2, 121, none⟩), .pointer (some ⟨w.heap.size, 0, none⟩), .int .u64 150] 129))
  have g2 := (hg.quiet k2).et
  have HA := hid (as_ref p t w.heap.size ((w.alloc (.cells #[.pointer (some ⟨t, 0, none⟩)] 121)).alloc (.cells #[.pointer (some ⟨2, 121, none⟩), .pointer (some ⟨w.heap.size, 0, none⟩), .int .u64 150] 129))
    ((k2.block t (heap_lt ht) (by simp)).trans ht) (by rw [(Keeps.alloc [] _ _).block _ (by simp) (by simp)]; exact heap_new _ _))
  have K2 := hid k2
  clear k2
  go_enter Tryd.func66, Tryd.ntmps66
  go_wp2_with (go_at_call 72; refine HA.out.mono ?_; rintro e w' ⟨rfl, hk, hh⟩)
  go_ret
  exact ⟨rfl, (K2.out.mono (by simp)).step hk, hh⟩
theorem first1_idle (p q : Addr) (w : World) :
    CallsD Tryd.prog 65 #[.pointer (some p), .pointer (some q)] .returning w fun e u' w' => e = .returned (.tuple #[]) ∧ u' = .returning ∧ w' = w := by
  refine callsD_of_wpS Tryd.func65 rfl fun c₀ cs hu => ?_
  apply wpS_seq
  apply wpS_region
  simp [wpOpsS, go_sem, recoverD, hu, Tryd.ntmps65, Exit.thenS]
  refine wpS_cond (t := false) (by simp [Act.eval, Array.replicate]) ?_
  simp only [Bool.false_eq_true, if_false]
  refine wpS_of_wp (wp_skip ?_)
  cases c₀
  simp_all [bodyPostS, results, Tryd.results65]
theorem set_cell {w : World} {b : Nat} {x : Value} {T : TypeId} (h : w.heap[b]? = some (.cells #[x] T (0, 0))) (u : Value) : (w.setCell ⟨b, 0, none⟩ u).cell? ⟨b, 0, none⟩ = some u := by
  rw [cell_of_row _ b 0 _ _ _ (heap_setCell_same w b 0 _ _ u h)]
  rfl
set_option maxHeartbeats 1000000 in
theorem first_ref (p : Nat) (w : World) (hg : Glob w) :
    Calls Tryd.prog 50 #[errV p] w fun e w' => e = .returned (.tuple #[.pointer (some ⟨p, 0, none⟩), .bool true]) ∧ Keeps [] w w' := by
  have hmf : ∀ (fn : Fn) (first cap : Array Value) (w : World), (Instr.makeFunc fn first cap).run Tryd.prog w = .ok (.func fn first cap) w := fun _ _ _ _ => rfl
  have k2 := ((Keeps.refl [] w).step (Keeps.alloc [] w (.cells #[.pointer none] 103))).step (Keeps.alloc [] _ (.cells #[.bool false] 4))
  have hA := hid (As_ref p w.heap.size ((w.alloc (.cells #[.pointer none] 103)).alloc (.cells #[.bool false] 4)) (hg.quiet k2) (by rw [(Keeps.alloc [] _ _).block _ (by simp) (by simp)]; exact heap_new _ _))
  have hb : ((w.alloc (.cells #[.pointer none] 103)).alloc (.cells #[.bool false] 4)).heap[w.heap.size + 1]? = some (.cells #[.bool false] 4 (0, 0)) := by
    have := heap_new (w.alloc (.cells #[.pointer none] 103)) (.cells #[.bool false] 4)
    simpa using this
  have HB := hid hb
  have K := hid k2
  clear k2 hg hb
  have hfin : ∀ w1 u v x y, Keeps [w.heap.size] ((w.alloc (.cells #[.pointer none] 103)).alloc (.cells #[.bool false] 4)) w1 → Keeps [] w ((w1.setCell ⟨w.heap.size, x, none⟩ u).setCell ⟨w.heap.size + 1, y, none⟩ v) := by
    intro w1 u v x y h
    refine ((K.out.trans h ?_).trans (Keeps.setCell [w.heap.size] _ _ _ (List.mem_singleton.2 rfl)) ?_).trans (Keeps.setCell [w.heap.size + 1] _ _ _ (List.mem_singleton.2 rfl)) ?_
    all_goals (intro x hx hl; simp at hx; omega)
  go_enter_defers Tryd.func50, Tryd.ntmps50
  go_wp2_with (go_at_call 66; refine hA.out.mono ?_; rintro e w' ⟨rfl, hk, hh⟩; have c0 := pcell hh 0; have z0 := pfrozen hh 0; have hh1 := (hk.block (w.heap.size + 1) (by simp) (by simp)).trans HB.out; have c1 := pcell hh1 0; have z1 := pfrozen hh1 0; have HK := hid hk; have HH := hid hh; have HH1 := hid hh1; clear hh hh1 hk)
  refine leaves_cons (f := 65) (args := #[.pointer (some ⟨w.heap.size, 0, none⟩), .pointer (some ⟨w.heap.size + 1, 0, none⟩)]) (by simp) (by simp [go_sem]) ?_
  refine (first1_idle ⟨w.heap.size, 0, none⟩ ⟨w.heap.size + 1, 0, none⟩ _).mono ?_
  rintro e u' w'' ⟨rfl, rfl, rfl⟩
  simp [Leaves, settle, results, Tryd.results50, go_sem]
  have e0 : ∀ u, (w'.setCell ⟨w.heap.size, 0, none⟩ u).cell? ⟨w.heap.size, 0, none⟩ = some u := fun u => set_cell HH.out u
  have e1 : ∀ u v, ((w'.setCell ⟨w.heap.size, 0, none⟩ v).setCell ⟨w.heap.size + 1, 0, none⟩ u).cell? ⟨w.heap.size + 1, 0, none⟩ = some u := fun u v =>
    set_cell (by rw [heap_setCell_other _ _ _ _ (by simp)]; exact HH1.out) u
  simp [e0, e1]
  exact hfin _ _ _ _ _ HK.out
theorem placed_any (p : Nat) (y f b i : Int) (v : Value) (w : World) (h : w.heap[p]? = some (.cells #[.int .i64 y, .int .i64 f, .int .i64 b, .int .i64 i, v] 107 (0, 0))) :
    Calls Tryd.prog 57 #[.pointer (some ⟨p, 0, none⟩)] w fun e w' => e = .returned (.bool (decide (0 ≤ f))) ∧ w' = w := by
  have h0 : w.cell? ⟨p, 0, none⟩ = some (.int .i64 y) := pcell h 0
  have h1 : w.cell? ⟨p, 1, none⟩ = some (.int .i64 f) := pcell h 1
  have hd : ∀ w, (binOp .geq 3 (.int .i64 f) (.int .i64 0)).run Tryd.prog w = .ok (.bool (decide (0 ≤ f))) w := fun w => by kernel_rfl
  clear h
  go_enter Tryd.func57, Tryd.ntmps57
  go_wp2
  go_ret
  exact ⟨rfl, rfl⟩
/-- A refusal that wraps nothing: why, where. -/
def RefAt (w : World) (p : Nat) (y f b i : Int) : Prop := w.heap[p]? = some (.cells #[.int .i64 y, .int .i64 f, .int .i64 b, .int .i64 i, .nilIface] 107 (0, 0))
theorem RefAt.quiet {w w' : World} {p : Nat} {y f b i : Int} (h : RefAt w p y f b i) (k : Keeps [] w w') : RefAt w' p y f b i := keep_heap h k
theorem why_ref {p : Nat} {y f b i : Int} {w : World} (hg : Glob w) (h : RefAt w p y f b i) : Calls Tryd.prog 23 #[errV p] w fun e w' => e = .returned (.int .i64 y) ∧ Keeps [] w w' := by
  have hf := hid (first_ref p w hg)
  have HH := hid h
  clear hg h
  go_enter Tryd.func23, Tryd.ntmps23
  go_wp2_with (go_at_call 50; refine hf.out.mono ?_; rintro e w' ⟨rfl, hk⟩; have c0 := pcell ((hk.block p (heap_lt HH.out) (by simp)).trans HH.out) 0; have HK := hid hk; clear hk)
  go_ret
  exact ⟨rfl, HK.out⟩
set_option maxHeartbeats 1000000 in
theorem where_no {p : Nat} {y f b i : Int} {w : World} (hg : Glob w) (h : RefAt w p y f b i) (hn : ¬ 0 ≤ f) :
    Calls Tryd.prog 34 #[errV p] w fun e w' => e = .returned (.tuple #[.agg #[.int .i64 0, .int .i64 0, .int .i64 0], .bool false]) ∧ Keeps [] w w' := by
  have ka := Keeps.alloc [] w (.cells #[.int .i64 0, .int .i64 0, .int .i64 0] 43)
  have hn0 := hid (heap_new w (.cells #[.int .i64 0, .int .i64 0, .int .i64 0] 43))
  have hf := hid (first_ref p _ (hg.quiet ka))
  have HH := hid (keep_heap h ka)
  have KA := hid ka
  have hd : decide ((0 : Int) ≤ f) = false := by simpa using hn
  clear ka hg h
  go_enter Tryd.func34, Tryd.ntmps34
  go_wp2_with (first | (go_at_call 50; refine hf.out.mono ?_; rintro e w' ⟨rfl, hk⟩; have hb := (hk.block w.heap.size (by simp) (by simp)).trans hn0.out; have z0 := pfrozen hb 0; have z1 := pfrozen hb 1; have z2 := pfrozen hb 2; have c0 := pcell hb 0; have c1 := pcell hb 1; have c2 := pcell hb 2; have HK := hid hk; have HB := hid hb; have hq := (hk.block p (heap_lt HH.out) (by simp)).trans HH.out; have HP := hid (placed_any p _ _ _ _ _ _ hq); have d0 := pcell hq 0; have d1 := pcell hq 1; have d2 := pcell hq 2; have d3 := pcell hq 3; clear hk hb hq) | (go_at_call 57; refine HP.out.mono ?_; rintro e w' ⟨rfl, rfl⟩; rw [hd]))
  have h3 := set3 HB.out (.int .i64 0) (.int .i64 0) (.int .i64 0)
  have e0 := pcell h3 0
  have e1 := pcell h3 1
  have e2 := pcell h3 2
  exact bodyPost_ret (v := .tuple #[.agg #[.int .i64 0, .int .i64 0, .int .i64 0], .bool false]) (by simp [results, Tryd.results34, go_sem, e0, e1, e2]) rfl ⟨rfl, (KA.out.step HK.out).trans (keeps3 _ _ _ _ _) (fun x hx hl => by simp at hx; omega)⟩
set_option maxHeartbeats 1000000 in
theorem where_yes {p : Nat} {y f b i : Int} {w : World} (hg : Glob w) (h : RefAt w p y f b i) (hn : 0 ≤ f) :
    Calls Tryd.prog 34 #[errV p] w fun e w' => e = .returned (.tuple #[.agg #[.int .i64 f, .int .i64 b, .int .i64 i], .bool true]) ∧ Keeps [] w w' := by
  have ka := Keeps.alloc [] w (.cells #[.int .i64 0, .int .i64 0, .int .i64 0] 43)
  have hn0 := hid (heap_new w (.cells #[.int .i64 0, .int .i64 0, .int .i64 0] 43))
  have hf := hid (first_ref p _ (hg.quiet ka))
  have HH := hid (keep_heap h ka)
  have KA := hid ka
  have hd : decide ((0 : Int) ≤ f) = true := by simpa using hn
  clear ka hg h
  go_enter Tryd.func34, Tryd.ntmps34
  go_wp2_with (first | (go_at_call 50; refine hf.out.mono ?_; rintro e w' ⟨rfl, hk⟩; have hb := (hk.block w.heap.size (by simp) (by simp)).trans hn0.out; have z0 := pfrozen hb 0; have z1 := pfrozen hb 1; have z2 := pfrozen hb 2; have c0 := pcell hb 0; have c1 := pcell hb 1; have c2 := pcell hb 2; have HK := hid hk; have HB := hid hb; have hq := (hk.block p (heap_lt HH.out) (by simp)).trans HH.out; have HP := hid (placed_any p _ _ _ _ _ _ hq); have d0 := pcell hq 0; have d1 := pcell hq 1; have d2 := pcell hq 2; have d3 := pcell hq 3; clear hk hb hq) | (go_at_call 57; refine HP.out.mono ?_; rintro e w' ⟨rfl, rfl⟩; rw [hd]))
  have h3 := set3 HB.out (.int .i64 f) (.int .i64 b) (.int .i64 i)
  have e0 := pcell h3 0
  have e1 := pcell h3 1
  have e2 := pcell h3 2
  exact bodyPost_ret (v := .tuple #[.agg #[.int .i64 f, .int .i64 b, .int .i64 i], .bool true]) (by simp [results, Tryd.results34, go_sem, e0, e1, e2]) rfl ⟨rfl, (KA.out.step HK.out).trans (keeps3 _ _ _ _ _) (fun x hx hl => by simp at hx; omega)⟩
end Go.Proofs.YtmebkeidpklcbaaDoor
