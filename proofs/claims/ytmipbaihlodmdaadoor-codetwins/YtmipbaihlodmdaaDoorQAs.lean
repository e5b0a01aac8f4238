/-
  One refusal: errors.As at it (Go's own text of errors.As and errors.as is walked), refuse.Why, refuse.Where, code.refused.
-/
import Derived.Test.YtmipbaihlodmdaaDoorCWr
import Derived.LaidEql
import Derived.Stop.Asserts
import Derived.RowKitTokens
import Derived.Defers
import Derived.Recover
namespace Go.Proofs.YtmipbaihlodmdaaDoor
open Go.RowKit Go.Extern.Stop Go.Stop Go.Extern

/-- The library's variable holds what the program's text lays. -/
structure Glob (w : World) : Prop where
  et : w.cell? ⟨0, 0, none⟩ = some (.iface 161 (.agg #[.pointer (some ⟨1, 28, none⟩)]))
theorem Glob.quiet {w w' : World} (g : Glob w) (k : Keeps [] w w') : Glob w' := ⟨cell_stays k g.et⟩
theorem pcell {w : World} {p : Nat} {cs : Array Value} {T : TypeId} (h : w.heap[p]? = some (.cells cs T (0, 0))) (k : Nat) : w.cell? ⟨p, k, none⟩ = cs[k]? := cell_of_row w p k _ _ _ h

theorem f_valueOfPP (t : Addr) (w : World) : (ReflectliteValue.unpack (.iface 107 (.pointer (some t)))).run Tryd.prog w
    = .ok (.agg #[.pointer (some ⟨1, 107, none⟩), .pointer (some ⟨w.heap.size, 0, none⟩), .int .u64 150]) (w.alloc (.cells #[.pointer (some t)] 107)) := by kernel_rfl
theorem f_typePP (a : Addr) (w : World) : (ReflectliteValue.methodAny (ReflectliteValue.valueError "reflectlite.Value.Type" 0) (fun t _ _ _ => ReflectliteType.toType t) #[.agg #[.pointer (some ⟨1, 107, none⟩), .pointer (some a), .int .u64 150]]).run Tryd.prog w
    = .ok (.iface 161 (.agg #[.pointer (some ⟨1, 107, none⟩)])) w := by kernel_rfl
theorem f_methodKind (h : Value) (w : World) : (Go.method 307 161 (.agg #[h]) "Kind").run Tryd.prog w = .ok (99, h) w := by kernel_rfl
theorem f_kindPP (w : World) : ((ReflectliteType.abiMethod fun t => (fun a : Nat => Value.int IntKind.u8 (a : Int)) <$> Rtype.kind t) #[.pointer (some ⟨1, 107, none⟩)]).run Tryd.prog w = .ok (.int .u8 22) w := by kernel_rfl
theorem f_kindP (w : World) : ((ReflectliteType.abiMethod fun t => (fun a : Nat => Value.int IntKind.u8 (a : Int)) <$> Rtype.kind t) #[.pointer (some ⟨1, 71, none⟩)]).run Tryd.prog w = .ok (.int .u8 22) w := by kernel_rfl
theorem f_partsPP (a : Addr) (w : World) : (ReflectliteValue.parts (.agg #[.pointer (some ⟨1, 107, none⟩), .pointer (some a), .int .u64 150])).run Tryd.prog w = .ok (some (107, a, 150)) w := by kernel_rfl
theorem f_isNilPP (a p : Addr) (W : World) (ha : W.cell? a = some (.pointer (some p))) :
    (ReflectliteValue.method (ReflectliteValue.valueError "reflectlite.Value.IsNil" 0) ReflectliteValue.isNil #[.agg #[.pointer (some ⟨1, 107, none⟩), .pointer (some a), .int .u64 150]]).run Tryd.prog W = .ok (.bool false) W := by
  change Sem.run _ (ReflectliteValue.parts (.agg #[.pointer (some ⟨1, 107, none⟩), .pointer (some a), .int .u64 150]) >>= _) W = _
  simp only [Sem.run_bind, f_partsPP, Result.andThen]
  simp [ReflectliteValue.isNil, loadVar, isAgg, underlying, Tryd.underlying107, ha, Result.andThen]
theorem f_methodElem (h : Value) (w : World) : (Go.method 307 161 (.agg #[h]) "Elem").run Tryd.prog w = .ok (110, .agg #[h]) w := by kernel_rfl
theorem f_methodImplements (h : Value) (w : World) : (Go.method 307 161 (.agg #[h]) "Implements").run Tryd.prog w = .ok (111, .agg #[h]) w := by kernel_rfl
theorem f_methodAssignableTo (h : Value) (w : World) : (Go.method 307 161 (.agg #[h]) "AssignableTo").run Tryd.prog w = .ok (108, .agg #[h]) w := by kernel_rfl
theorem f_elemPP (w : World) : (ReflectliteType.method ReflectliteType.elem #[.agg #[.pointer (some ⟨1, 107, none⟩)]]).run Tryd.prog w = .ok (.iface 161 (.agg #[.pointer (some ⟨1, 71, none⟩)])) w := by kernel_rfl
theorem f_implementsP (w : World) : (ReflectliteType.relation "Implements" ReflectliteType.implements_ #[.agg #[.pointer (some ⟨1, 71, none⟩)], .iface 161 (.agg #[.pointer (some ⟨1, 28, none⟩)])]).run Tryd.prog w = .ok (.bool true) w := by kernel_rfl
theorem f_typeOfP (v : Value) (w : World) : (ReflectliteType.typeOf #[.iface 71 v]).run Tryd.prog w = .ok (.iface 161 (.agg #[.pointer (some ⟨1, 71, none⟩)])) w := by kernel_rfl
theorem f_assignableP (w : World) : (ReflectliteType.relation "AssignableTo" ReflectliteType.assignableTo #[.agg #[.pointer (some ⟨1, 71, none⟩)], .iface 161 (.agg #[.pointer (some ⟨1, 71, none⟩)])]).run Tryd.prog w = .ok (.bool true) w := by kernel_rfl
theorem f_valueOfP (e : Addr) (w : World) : (ReflectliteValue.unpack (.iface 71 (.pointer (some e)))).run Tryd.prog w
    = .ok (.agg #[.pointer (some ⟨1, 71, none⟩), .pointer (some ⟨w.heap.size, 0, none⟩), .int .u64 150]) (w.alloc (.cells #[.pointer (some e)] 71)) := by kernel_rfl
theorem f_elemOfPP (w : World) : (Rtype.elem? 107).run Tryd.prog w = .ok (some 71) w := by kernel_rfl
theorem f_mkP (p : Addr) (w : World) : (ReflectliteValue.mk 71 p ReflectliteValue.flagAddr).run Tryd.prog w = .ok (.agg #[.pointer (some ⟨1, 71, none⟩), .pointer (some p), .int .u64 406]) w := by kernel_rfl
theorem f_elemVPP (a p : Addr) (W : World) (ha : W.cell? a = some (.pointer (some p))) :
    (ReflectliteValue.method (ReflectliteValue.valueError "reflectlite.Value.Elem" 0) ReflectliteValue.elem #[.agg #[.pointer (some ⟨1, 107, none⟩), .pointer (some a), .int .u64 150]]).run Tryd.prog W
      = .ok (.agg #[.pointer (some ⟨1, 71, none⟩), .pointer (some p), .int .u64 406]) W := by
  change Sem.run _ (ReflectliteValue.parts (.agg #[.pointer (some ⟨1, 107, none⟩), .pointer (some a), .int .u64 150]) >>= _) W = _
  simp only [Sem.run_bind, f_partsPP, Result.andThen]
  simp [ReflectliteValue.elem, loadVar, isAgg, underlying, Tryd.underlying107, ha, Result.andThen, f_elemOfPP, f_mkP]
theorem f_partsPa (a : Addr) (w : World) : (ReflectliteValue.parts (.agg #[.pointer (some ⟨1, 71, none⟩), .pointer (some a), .int .u64 406])).run Tryd.prog w = .ok (some (71, a, 406)) w := by kernel_rfl
theorem f_partsP (a : Addr) (w : World) : (ReflectliteValue.parts (.agg #[.pointer (some ⟨1, 71, none⟩), .pointer (some a), .int .u64 150])).run Tryd.prog w = .ok (some (71, a, 150)) w := by kernel_rfl
theorem f_directP (w : World) : (Rtype.directlyAssignable 71 71).run Tryd.prog w = .ok true w := by kernel_rfl
theorem f_setP (ta b e : Addr) (old : Value) (W : World) (hb : W.cell? b = some (.pointer (some e))) (ht : W.cell? ta = some old) (hf : W.frozen? ta = false) :
    (ReflectliteValue.set #[.agg #[.pointer (some ⟨1, 71, none⟩), .pointer (some ta), .int .u64 406], .agg #[.pointer (some ⟨1, 71, none⟩), .pointer (some b), .int .u64 150]]).run Tryd.prog W
      = .ok (.tuple #[]) (W.setCell ta (.pointer (some e))) := by
  change Sem.run _ (ReflectliteValue.parts (.agg #[.pointer (some ⟨1, 71, none⟩), .pointer (some ta), .int .u64 406]) >>= fun r => ReflectliteValue.parts (.agg #[.pointer (some ⟨1, 71, none⟩), .pointer (some b), .int .u64 150]) >>= fun s => _) W = _
  simp only [Sem.run_bind, f_partsPa, f_partsP, Result.andThen]
  simp [ReflectliteValue.flagAddr, loadVar, isAgg, underlying, Tryd.underlying71, hb, Result.andThen, f_directP, storeVar, Value.cells, storeCells, Addr.add]
  rw [run_store Tryd.prog W ta _ _ (by rfl)]
  simp [ht, hf]

/-- A refusal for bytes, nowhere, that wraps nothing. -/
def RefAt (w : World) (p : Nat) : Prop := w.heap[p]? = some (.cells #[.int .i64 1, .int .i64 (-1), .int .i64 0, .int .i64 0, .nilIface] 77 (0, 0))
abbrev errV (p : Nat) : Value := .iface 71 (.pointer (some ⟨p, 0, none⟩))

set_option maxHeartbeats 4000000 in
theorem as_ref (p t a : Nat) (w : World) (ht : w.heap[t]? = some (.cells #[.pointer none] 71 (0, 0))) (ha : w.heap[a]? = some (.cells #[.pointer (some ⟨t, 0, none⟩)] 107 (0, 0))) :
    Calls Tryd.prog 67 #[errV p, .iface 107 (.pointer (some ⟨t, 0, none⟩)), .agg #[.pointer (some ⟨1, 107, none⟩), .pointer (some ⟨a, 0, none⟩), .int .u64 150], .iface 161 (.agg #[.pointer (some ⟨1, 71, none⟩)])] w
      fun e w' => e = .returned (.bool true) ∧ Keeps [t] w w' ∧ w'.heap[t]? = some (.cells #[.pointer (some ⟨p, 0, none⟩)] 71 (0, 0)) := by
  have h26 := @run_callFunc_extern Tryd.prog 64 _ (fun args => ReflectliteValue.unpack (args.getD 0 (.tuple #[]))) Tryd.func64 (by kernel_rfl) (by kernel_rfl) (by kernel_rfl) (by kernel_rfl)
  have h32 := @run_callFunc_extern Tryd.prog 79 _ ReflectliteType.typeOf Tryd.func79 (by kernel_rfl) (by kernel_rfl) (by kernel_rfl) (by kernel_rfl)
  have h76 := @run_callFunc_extern Tryd.prog 108 _ (ReflectliteType.relation "AssignableTo" ReflectliteType.assignableTo) Tryd.func108 (by kernel_rfl) (by kernel_rfl) (by kernel_rfl) (by kernel_rfl)
  have h37 := @run_callFunc_extern Tryd.prog 80 _ (ReflectliteValue.method (ReflectliteValue.valueError "reflectlite.Value.Elem" 0) ReflectliteValue.elem) Tryd.func80 (by kernel_rfl) (by kernel_rfl) (by kernel_rfl) (by kernel_rfl)
  have h38 := @run_callFunc_extern Tryd.prog 81 _ ReflectliteValue.set Tryd.func81 (by kernel_rfl) (by kernel_rfl) (by kernel_rfl) (by kernel_rfl)
  have f1 := f_typeOfP
  have f3 := f_methodAssignableTo
  have f4 := f_assignableP
  have f6 := f_valueOfP
  have htl := heap_lt ht
  have hal := heap_lt ha
  have k1 : Keeps [t] w (w.alloc (.cells #[.pointer (some ⟨1, 107, none⟩), .pointer (some ⟨a, 0, none⟩), .int .u64 150] 138)) := Keeps.alloc _ _ _
  have b1 := (Keeps.alloc [] w (.cells #[.pointer (some ⟨1, 107, none⟩), .pointer (some ⟨a, 0, none⟩), .int .u64 150] 138)).block
  have hb1 : (w.alloc (.cells #[.pointer (some ⟨1, 107, none⟩), .pointer (some ⟨a, 0, none⟩), .int .u64 150] 138)).heap[w.heap.size]? = some (.cells #[.pointer (some ⟨1, 107, none⟩), .pointer (some ⟨a, 0, none⟩), .int .u64 150] 138 (0, 0)) := heap_new _ _
  have ht1 := hid ((b1 t htl (by simp)).trans ht)
  have ha1 := hid ((b1 a hal (by simp)).trans ha)
  go_enter Tryd.func67, Tryd.ntmps67
  go_wp2
  clear ht ha b1
  generalize w.alloc (.cells #[.pointer (some ⟨1, 107, none⟩), .pointer (some ⟨a, 0, none⟩), .int .u64 150] 138) = w1 at *
  have c0 : w1.cell? ⟨w.heap.size, 0, none⟩ = some (.pointer (some ⟨1, 107, none⟩)) := pcell hb1 0
  have c1 : w1.cell? ⟨w.heap.size, 1, none⟩ = some (.pointer (some ⟨a, 0, none⟩)) := pcell hb1 1
  have c2 : w1.cell? ⟨w.heap.size, 2, none⟩ = some (.int .u64 150) := pcell hb1 2
  have HB := hid hb1
  clear hb1
  generalize w.heap.size = q at *
  have K1 := hid k1
  clear k1
  go_loop [0] (fun v => v = errV p) (fun _ => 0)
  case atStart => rfl
  case round =>
    subst hrel
    have el := f_elemVPP ⟨a, 0, none⟩ ⟨t, 0, none⟩ w1 (pcell ha1.out 0)
    have htl1 := heap_lt ht1.out
    have st := f_setP ⟨t, 0, none⟩ ⟨w1.heap.size, 0, none⟩ ⟨p, 0, none⟩ (.pointer none) (w1.alloc (.cells #[.pointer (some ⟨p, 0, none⟩)] 71)) (by simp) (by rw [World.cell?_alloc_lt _ _ ⟨t, 0, none⟩ htl1]; exact pcell ht1.out 0)
      (by rw [World.frozen?_alloc_old _ _ ⟨t, 0, none⟩ (Nat.ne_of_lt htl1)]; exact pfrozen ht1.out 0)
    go_wp2
    go_ret
    have ks : Keeps [t] w1 (w1.setCell ⟨t, 0, none⟩ (.pointer (some ⟨p, 0, none⟩))) := Keeps.setCell [t] _ _ _ (List.mem_singleton.2 rfl)
    refine ⟨rfl, (K1.out.step ks).step (Keeps.alloc [t] _ _), ?_⟩
    rw [(Keeps.alloc [] _ _).block t (Nat.lt_of_lt_of_le htl1 ks.size) (by simp), heap_setCell_same _ t 0 _ _ _ ht1.out]
    rfl

set_option maxHeartbeats 4000000 in
theorem As_ref (p t : Nat) (w : World) (hg : Glob w) (ht : w.heap[t]? = some (.cells #[.pointer none] 71 (0, 0))) :
    Calls Tryd.prog 44 #[errV p, .iface 107 (.pointer (some ⟨t, 0, none⟩))] w
      fun e w' => e = .returned (.bool true) ∧ Keeps [t] w w' ∧ w'.heap[t]? = some (.cells #[.pointer (some ⟨p, 0, none⟩)] 71 (0, 0)) := by
  have h26 := @run_callFunc_extern Tryd.prog 64 _ (fun args => ReflectliteValue.unpack (args.getD 0 (.tuple #[]))) Tryd.func64 (by kernel_rfl) (by kernel_rfl) (by kernel_rfl) (by kernel_rfl)
  have h27 := @run_callFunc_extern Tryd.prog 65 _ (ReflectliteValue.methodAny (ReflectliteValue.valueError "reflectlite.Value.Type" 0) (fun t _ _ _ => ReflectliteType.toType t)) Tryd.func65 (by kernel_rfl) (by kernel_rfl) (by kernel_rfl) (by kernel_rfl)
  have h28 := @run_callFunc_extern Tryd.prog 66 _ (ReflectliteValue.method (ReflectliteValue.valueError "reflectlite.Value.IsNil" 0) ReflectliteValue.isNil) Tryd.func66 (by kernel_rfl) (by kernel_rfl) (by kernel_rfl) (by kernel_rfl)
  have h67 := @run_callFunc_extern Tryd.prog 99 _ (ReflectliteType.abiMethod fun t => do pure (.int .u8 (← Rtype.kind t))) Tryd.func99 (by kernel_rfl) (by kernel_rfl) (by kernel_rfl) (by kernel_rfl)
  have h78 := @run_callFunc_extern Tryd.prog 110 _ (ReflectliteType.method ReflectliteType.elem) Tryd.func110 (by kernel_rfl) (by kernel_rfl) (by kernel_rfl) (by kernel_rfl)
  have h79 := @run_callFunc_extern Tryd.prog 111 _ (ReflectliteType.relation "Implements" ReflectliteType.implements_) Tryd.func111 (by kernel_rfl) (by kernel_rfl) (by kernel_rfl) (by kernel_rfl)
  have f1 := f_valueOfPP
  have f2 := f_typePP
  have f3 := f_methodKind
  have f4 := f_kindPP
  have f5 := f_kindP
  have f6 := f_methodElem
  have f7 := f_methodImplements
  have f8 := f_elemPP
  have f9 := f_implementsP
  have n8 := f_isNilPP ⟨w.heap.size, 0, none⟩ ⟨t, 0, none⟩ ((w.alloc (.cells #[.pointer (some ⟨t, 0, none⟩)] 107)).alloc (.cells #[.pointer (some ⟨1, 107, none⟩), .pointer (some ⟨w.heap.size, 0, none⟩), .int .u64 150] 138)) (by simp)
  have k2 := ((Keeps.refl [] w).step (Keeps.alloc [] w (.cells #[.pointer (some ⟨t, 0, none⟩)] 107))).step (Keeps.alloc [] _ (.cells #[.pointer (some ⟨1, 107, none⟩), .pointer (some ⟨w.heap.size, 0, none⟩), .int .u64 150] 138))
  have g2 := (hg.quiet k2).et
  have HA := hid (as_ref p t w.heap.size ((w.alloc (.cells #[.pointer (some ⟨t, 0, none⟩)] 107)).alloc (.cells #[.pointer (some ⟨1, 107, none⟩), .pointer (some ⟨w.heap.size, 0, none⟩), .int .u64 150] 138))
    ((k2.block t (heap_lt ht) (by simp)).trans ht) (by rw [(Keeps.alloc [] _ _).block _ (by simp) (by simp)]; exact heap_new _ _))
  have K2 := hid k2
  clear k2
  go_enter Tryd.func44, Tryd.ntmps44
  go_wp2_with (go_at_call 67; refine HA.out.mono ?_; rintro e w' ⟨rfl, hk, hh⟩)
  go_ret
  exact ⟨rfl, (K2.out.mono (by simp)).step hk, hh⟩

theorem first1_idle (p q : Addr) (w : World) :
    CallsD Tryd.prog 43 #[.pointer (some p), .pointer (some q)] .returning w fun e u' w' => e = .returned (.tuple #[]) ∧ u' = .returning ∧ w' = w := by
  refine callsD_of_wpS Tryd.func43 rfl fun c₀ cs hu => ?_
  apply wpS_seq
  apply wpS_region
  simp [wpOpsS, go_sem, recoverD, hu, Tryd.ntmps43, Exit.thenS]
  refine wpS_cond (t := false) (by simp [Act.eval, Array.replicate]) ?_
  simp only [Bool.false_eq_true, if_false]
  refine wpS_of_wp (wp_skip ?_)
  cases c₀
  simp_all [bodyPostS, results, Tryd.results43]

theorem set_cell {w : World} {b : Nat} {x : Value} {T : TypeId} (h : w.heap[b]? = some (.cells #[x] T (0, 0))) (u : Value) : (w.setCell ⟨b, 0, none⟩ u).cell? ⟨b, 0, none⟩ = some u := by
  rw [cell_of_row _ b 0 _ _ _ (heap_setCell_same w b 0 _ _ u h)]
  rfl
set_option maxHeartbeats 1000000 in
theorem first_ref (p : Nat) (w : World) (hg : Glob w) :
    Calls Tryd.prog 25 #[errV p] w fun e w' => e = .returned (.tuple #[.pointer (some ⟨p, 0, none⟩), .bool true]) ∧ Keeps [] w w' := by
  have hmf : ∀ (fn : Fn) (first cap : Array Value) (w : World), (Instr.makeFunc fn first cap).run Tryd.prog w = .ok (.func fn first cap) w := fun _ _ _ _ => rfl
  have k2 := ((Keeps.refl [] w).step (Keeps.alloc [] w (.cells #[.pointer none] 71))).step (Keeps.alloc [] _ (.cells #[.bool false] 4))
  have hA := hid (As_ref p w.heap.size ((w.alloc (.cells #[.pointer none] 71)).alloc (.cells #[.bool false] 4)) (hg.quiet k2) (by rw [(Keeps.alloc [] _ _).block _ (by simp) (by simp)]; exact heap_new _ _))
  have hb : ((w.alloc (.cells #[.pointer none] 71)).alloc (.cells #[.bool false] 4)).heap[w.heap.size + 1]? = some (.cells #[.bool false] 4 (0, 0)) := by
    have := heap_new (w.alloc (.cells #[.pointer none] 71)) (.cells #[.bool false] 4)
    simpa using this
  have HB := hid hb
  have K := hid k2
  clear k2 hg hb
  have hfin : ∀ w1 u v x y, Keeps [w.heap.size] ((w.alloc (.cells #[.pointer none] 71)).alloc (.cells #[.bool false] 4)) w1 → Keeps [] w ((w1.setCell ⟨w.heap.size, x, none⟩ u).setCell ⟨w.heap.size + 1, y, none⟩ v) := by
    intro w1 u v x y h
    refine ((K.out.trans h ?_).trans (Keeps.setCell [w.heap.size] _ _ _ (List.mem_singleton.2 rfl)) ?_).trans (Keeps.setCell [w.heap.size + 1] _ _ _ (List.mem_singleton.2 rfl)) ?_
    all_goals (intro x hx hl; simp at hx; omega)
  go_enter_defers Tryd.func25, Tryd.ntmps25
  go_wp2_with (go_at_call 44; refine hA.out.mono ?_; rintro e w' ⟨rfl, hk, hh⟩; have c0 := pcell hh 0; have z0 := pfrozen hh 0; have hh1 := (hk.block (w.heap.size + 1) (by simp) (by simp)).trans HB.out; have c1 := pcell hh1 0; have z1 := pfrozen hh1 0; have HK := hid hk; have HH := hid hh; have HH1 := hid hh1; clear hh hh1 hk)
  refine leaves_cons (f := 43) (args := #[.pointer (some ⟨w.heap.size, 0, none⟩), .pointer (some ⟨w.heap.size + 1, 0, none⟩)]) (by simp) (by simp [go_sem]) ?_
  refine (first1_idle ⟨w.heap.size, 0, none⟩ ⟨w.heap.size + 1, 0, none⟩ _).mono ?_
  rintro e u' w'' ⟨rfl, rfl, rfl⟩
  simp [Leaves, settle, results, Tryd.results25, go_sem]
  have e0 : ∀ u, (w'.setCell ⟨w.heap.size, 0, none⟩ u).cell? ⟨w.heap.size, 0, none⟩ = some u := fun u => set_cell HH.out u
  have e1 : ∀ u v, ((w'.setCell ⟨w.heap.size, 0, none⟩ v).setCell ⟨w.heap.size + 1, 0, none⟩ u).cell? ⟨w.heap.size + 1, 0, none⟩ = some u := fun u v =>
    set_cell (by rw [heap_setCell_other _ _ _ _ (by simp)]; exact HH1.out) u
  simp [e0, e1]
  exact hfin _ _ _ _ _ HK.out

theorem placed_any (p : Nat) (y f b i : Int) (v : Value) (w : World) (h : w.heap[p]? = some (.cells #[.int .i64 y, .int .i64 f, .int .i64 b, .int .i64 i, v] 77 (0, 0))) :
    Calls Tryd.prog 56 #[.pointer (some ⟨p, 0, none⟩)] w fun e w' => e = .returned (.bool (decide (0 ≤ f))) ∧ w' = w := by
  have h0 : w.cell? ⟨p, 0, none⟩ = some (.int .i64 y) := pcell h 0
  have h1 : w.cell? ⟨p, 1, none⟩ = some (.int .i64 f) := pcell h 1
  have hd : ∀ w, (binOp .geq 3 (.int .i64 f) (.int .i64 0)).run Tryd.prog w = .ok (.bool (decide (0 ≤ f))) w := fun w => by kernel_rfl
  clear h
  go_enter Tryd.func56, Tryd.ntmps56
  go_wp2
  go_ret
  exact ⟨rfl, rfl⟩
theorem why_ref (p : Nat) (w : World) (hg : Glob w) (h : RefAt w p) : Calls Tryd.prog 13 #[errV p] w fun e w' => e = .returned (.int .i64 1) ∧ Keeps [] w w' := by
  have hf := hid (first_ref p w hg)
  have HH := hid h
  clear hg h
  go_enter Tryd.func13, Tryd.ntmps13
  go_wp2_with (go_at_call 25; refine hf.out.mono ?_; rintro e w' ⟨rfl, hk⟩; have c0 := pcell ((hk.block p (heap_lt HH.out) (by simp)).trans HH.out) 0; have HK := hid hk; clear hk)
  go_ret
  exact ⟨rfl, HK.out⟩
theorem set3 {w : World} {b : Nat} {x y z : Value} {T : TypeId} (h : w.heap[b]? = some (.cells #[x, y, z] T (0, 0))) (u0 u1 u2 : Value) :
    (((w.setCell ⟨b, 0, none⟩ u0).setCell ⟨b, 1, none⟩ u1).setCell ⟨b, 2, none⟩ u2).heap[b]? = some (.cells #[u0, u1, u2] T (0, 0)) :=
  heap_setCell_same _ b 2 _ _ u2 (heap_setCell_same _ b 1 _ _ u1 (heap_setCell_same w b 0 _ _ u0 h))
theorem keeps3 (w : World) (b : Nat) (u0 u1 u2 : Value) : Keeps [b] w (((w.setCell ⟨b, 0, none⟩ u0).setCell ⟨b, 1, none⟩ u1).setCell ⟨b, 2, none⟩ u2) :=
  ((Keeps.setCell [b] _ _ _ (List.mem_singleton.2 rfl)).step (Keeps.setCell [b] _ _ _ (List.mem_singleton.2 rfl))).step (Keeps.setCell [b] _ _ _ (List.mem_singleton.2 rfl))

set_option maxHeartbeats 1000000 in
theorem where_ref (p : Nat) (w : World) (hg : Glob w) (h : RefAt w p) :
    Calls Tryd.prog 27 #[errV p] w fun e w' => e = .returned (.tuple #[.agg #[.int .i64 0, .int .i64 0, .int .i64 0], .bool false]) ∧ Keeps [] w w' := by
  have ka := Keeps.alloc [] w (.cells #[.int .i64 0, .int .i64 0, .int .i64 0] 75)
  have hn := hid (heap_new w (.cells #[.int .i64 0, .int .i64 0, .int .i64 0] 75))
  have hf := hid (first_ref p _ (hg.quiet ka))
  have HH := hid (keep_heap h ka)
  have KA := hid ka
  have hd : decide ((0 : Int) ≤ -1) = false := by decide
  clear ka hg h
  go_enter Tryd.func27, Tryd.ntmps27
  go_wp2_with (first | (go_at_call 25; refine hf.out.mono ?_; rintro e w' ⟨rfl, hk⟩; have hb := (hk.block w.heap.size (by simp) (by simp)).trans hn.out; have z0 := pfrozen hb 0; have z1 := pfrozen hb 1; have z2 := pfrozen hb 2; have c0 := pcell hb 0; have c1 := pcell hb 1; have c2 := pcell hb 2; have HK := hid hk; have HB := hid hb; have hq := (hk.block p (heap_lt HH.out) (by simp)).trans HH.out; have HP := hid (placed_any p _ _ _ _ _ _ hq); have d0 := pcell hq 0; have d1 := pcell hq 1; have d2 := pcell hq 2; have d3 := pcell hq 3; clear hk hb hq) | (go_at_call 56; refine HP.out.mono ?_; rintro e w' ⟨rfl, rfl⟩))
  have h3 := set3 HB.out (.int .i64 0) (.int .i64 0) (.int .i64 0)
  have e0 := pcell h3 0
  have e1 := pcell h3 1
  have e2 := pcell h3 2
  exact bodyPost_ret (v := .tuple #[.agg #[.int .i64 0, .int .i64 0, .int .i64 0], .bool false]) (by simp [results, Tryd.results27, go_sem, e0, e1, e2]) rfl ⟨rfl, (KA.out.step HK.out).trans (keeps3 _ _ _ _ _) (fun x hx hl => by simp at hx; omega)⟩
theorem refused_any (w : World) : Calls Tryd.prog 22 #[] w fun e w' => ∃ p, e = .returned (errV p) ∧ RefAt w' p ∧ Keeps [] w w' := by
  have hnew : Calls Tryd.prog 31 #[.int .i64 1, .agg #[.int .i64 (-1), .int .i64 0, .int .i64 0], .nilIface] w fun e w' => ∃ p, e = .returned (errV p) ∧ RefAt w' p ∧ Keeps [] w w' := by
    have k2 := ((Keeps.refl [] w).step (Keeps.alloc [] w (.cells #[.int .i64 (-1), .int .i64 0, .int .i64 0] 75))).step (Keeps.alloc [] _ (.cells #[.int .i64 1, .int .i64 (-1), .int .i64 0, .int .i64 0, .nilIface] 77))
    have hn := heap_new (w.alloc (.cells #[.int .i64 (-1), .int .i64 0, .int .i64 0] 75)) (.cells #[.int .i64 1, .int .i64 (-1), .int .i64 0, .int .i64 0, .nilIface] 77)
    rw [World.size_alloc] at hn
    have H := hid (show RefAt _ (w.heap.size + 1) from hn)
    have K := hid k2
    clear k2 hn
    go_enter Tryd.func31, Tryd.ntmps31
    go_wp2
    go_ret
    exact ⟨w.heap.size + 1, rfl, H.out, K.out⟩
  have H := hid hnew
  clear hnew
  go_enter Tryd.func22, Tryd.ntmps22
  go_wp2_with fail
  refine H.out.mono ?_
  rintro e w1 ⟨p, rfl, h1, h2⟩
  go_wp2_with fail
  go_ret
  exact ⟨p, rfl, h1, h2⟩
end Go.Proofs.YtmipbaihlodmdaaDoor
