import Derived.LaidEql
import Derived.Stop.Asserts
import Derived.RowKitTokens
import Derived.Defers
import Derived.Recover
import Derived.Test.YtkgoimokgbdgfaaGreatDoorV04

namespace Go.Proofs.YtkgoimokgbdgfaaGreatDoor
open Go.RowKit
open Go.Value (int pointer agg)
open Go.IntKind (i64)
set_option maxHeartbeats 8000000
set_option maxRecDepth 20000
variable {B c g n o p rb:Nat}{T:TypeId}{b f i y:Int}{v:Value}{w w':World}
section
open Go.Extern.Stop Go.Stop Go.Extern
theorem zL{cs:Array Value}{t:TypeId}(h:w.heap[p]? = some (.cells cs t (0,0)))(k:Nat):w.frozen? ⟨p,k,none⟩=false:=zi h k
structure JX (w:World):Prop where
 et:w.cell? ⟨0,0,none⟩=some (.iface 220 (agg #[pointer (some ⟨2,51,none⟩)]))
theorem JX.quiet(g:JX w)(k:zc [] w w'):JX w':=⟨za k g.et⟩
theorem ja{cs:Array Value}(h:w.heap[p]? = some (.cells cs T (0,0)))(k:Nat):w.cell? ⟨p,k,none⟩=cs[k]? := cell_of_row w p k _ _ _ h
theorem zeq(t:Addr)(w:World):(ReflectliteValue.unpack (.iface 118 (.pointer (some t)))).run Tryz.prog w
  = .ok (agg #[pointer (some ⟨2,118,none⟩),pointer (some ⟨w.heap.size,0,none⟩),.int .u64 150]) (w.alloc (.cells #[.pointer (some t)] 118)):=by kernel_rfl
theorem zj3(a:Addr)(w:World):(ReflectliteValue.methodAny (ReflectliteValue.valueError "reflectlite.Value.Type" 0) (fun t _ _ _=>ReflectliteType.toType t) #[agg #[pointer (some ⟨2,118,none⟩),.pointer (some a),.int .u64 150]]).run Tryz.prog w
  = .ok (.iface 220 (agg #[pointer (some ⟨2,118,none⟩)])) w:=by kernel_rfl
theorem zdi(h:Value)(w:World):(Go.method 381 220 (agg #[h]) "Kind").run Tryz.prog w=.ok (191,h) w:=by kernel_rfl
theorem zjv(w:World):((ReflectliteType.abiMethod fun t=>(fun a:Nat=>Value.int IntKind.u8 (a:Int)) <$> Rtype.kind t) #[pointer (some ⟨2,118,none⟩)]).run Tryz.prog w=.ok (.int .u8 22) w:=by kernel_rfl
theorem znb(w:World):((ReflectliteType.abiMethod fun t=>(fun a:Nat=>Value.int IntKind.u8 (a:Int)) <$> Rtype.kind t) #[pointer (some ⟨2,82,none⟩)]).run Tryz.prog w=.ok (.int .u8 22) w:=by kernel_rfl
theorem zdq(a:Addr)(w:World):(ReflectliteValue.parts (agg #[pointer (some ⟨2,118,none⟩),.pointer (some a),.int .u64 150])).run Tryz.prog w=.ok (some (118,a,150)) w:=by kernel_rfl
theorem zil(a p:Addr)(W:World)(ha:W.cell? a=some (.pointer (some p))):
  (ReflectliteValue.method (ReflectliteValue.valueError "reflectlite.Value.IsNil" 0) ReflectliteValue.isNil #[agg #[pointer (some ⟨2,118,none⟩),.pointer (some a),.int .u64 150]]).run Tryz.prog W=.ok (.bool false) W:=by
 change Sem.run _ (ReflectliteValue.parts (agg #[pointer (some ⟨2,118,none⟩),.pointer (some a),.int .u64 150]) >>= _) W=_;simp only[Sem.run_bind,zdq,Result.andThen];simp[ReflectliteValue.isNil,loadVar,isAgg,underlying,Tryz.underlying118,ha,Result.andThen]
theorem zd7(h:Value)(w:World):(Go.method 381 220 (agg #[h]) "Elem").run Tryz.prog w=.ok (203,agg #[h]) w:=by kernel_rfl
theorem JM(h:Value)(w:World):(Go.method 381 220 (agg #[h]) "Implements").run Tryz.prog w=.ok (204,agg #[h]) w:=by kernel_rfl
theorem Jd(h:Value)(w:World):(Go.method 381 220 (agg #[h]) "AssignableTo").run Tryz.prog w=.ok (201,agg #[h]) w:=by kernel_rfl
theorem zjY(w:World):(ReflectliteType.method ReflectliteType.elem #[agg #[pointer (some ⟨2,118,none⟩)]]).run Tryz.prog w=.ok (.iface 220 (agg #[pointer (some ⟨2,82,none⟩)])) w:=by kernel_rfl
theorem zcr(w:World):(ReflectliteType.relation "Implements" ReflectliteType.implements_ #[agg #[pointer (some ⟨2,82,none⟩)],.iface 220 (agg #[pointer (some ⟨2,51,none⟩)])]).run Tryz.prog w=.ok (.bool true) w:=by kernel_rfl
theorem zhk(v:Value)(w:World):(ReflectliteType.typeOf #[.iface 82 v]).run Tryz.prog w=.ok (.iface 220 (agg #[pointer (some ⟨2,82,none⟩)])) w:=by kernel_rfl
theorem zcK(w:World):(ReflectliteType.relation "AssignableTo" ReflectliteType.assignableTo #[agg #[pointer (some ⟨2,82,none⟩)],.iface 220 (agg #[pointer (some ⟨2,82,none⟩)])]).run Tryz.prog w=.ok (.bool true) w:=by kernel_rfl
theorem zgB(e:Addr)(w:World):(ReflectliteValue.unpack (.iface 82 (.pointer (some e)))).run Tryz.prog w
  = .ok (agg #[pointer (some ⟨2,82,none⟩),pointer (some ⟨w.heap.size,0,none⟩),.int .u64 150]) (w.alloc (.cells #[.pointer (some e)] 82)):=by kernel_rfl
theorem zga(w:World):(Rtype.elem? 118).run Tryz.prog w=.ok (some 82) w:=by kernel_rfl
theorem zpn(p:Addr)(w:World):(ReflectliteValue.mk 82 p ReflectliteValue.flagAddr).run Tryz.prog w=.ok (agg #[pointer (some ⟨2,82,none⟩),.pointer (some p),.int .u64 406]) w:=by kernel_rfl
theorem zhj(a p:Addr)(W:World)(ha:W.cell? a=some (.pointer (some p))):
  (ReflectliteValue.method (ReflectliteValue.valueError "reflectlite.Value.Elem" 0) ReflectliteValue.elem #[agg #[pointer (some ⟨2,118,none⟩),.pointer (some a),.int .u64 150]]).run Tryz.prog W
   = .ok (agg #[pointer (some ⟨2,82,none⟩),.pointer (some p),.int .u64 406]) W:=by
 change Sem.run _ (ReflectliteValue.parts (agg #[pointer (some ⟨2,118,none⟩),.pointer (some a),.int .u64 150]) >>= _) W=_;simp only[Sem.run_bind,zdq,Result.andThen];simp[ReflectliteValue.elem,loadVar,isAgg,underlying,Tryz.underlying118,ha,Result.andThen,zga,zpn]
theorem zic(a:Addr)(w:World):(ReflectliteValue.parts (agg #[pointer (some ⟨2,82,none⟩),.pointer (some a),.int .u64 406])).run Tryz.prog w=.ok (some (82,a,406)) w:=by kernel_rfl
theorem zk7(a:Addr)(w:World):(ReflectliteValue.parts (agg #[pointer (some ⟨2,82,none⟩),.pointer (some a),.int .u64 150])).run Tryz.prog w=.ok (some (82,a,150)) w:=by kernel_rfl
theorem ziH(w:World):(Rtype.directlyAssignable 82 82).run Tryz.prog w=.ok true w:=by kernel_rfl
theorem znD(ta b e:Addr)(old:Value)(W:World)(hb:W.cell? b=some (.pointer (some e)))(ht:W.cell? ta=some old)(hf:W.frozen? ta=false):
  (ReflectliteValue.set #[agg #[pointer (some ⟨2,82,none⟩),.pointer (some ta),.int .u64 406],agg #[pointer (some ⟨2,82,none⟩),.pointer (some b),.int .u64 150]]).run Tryz.prog W
   = .ok (.tuple #[]) (W.setCell ta (.pointer (some e))):=by
 change Sem.run _ (ReflectliteValue.parts (agg #[pointer (some ⟨2,82,none⟩),.pointer (some ta),.int .u64 406]) >>= fun r=>ReflectliteValue.parts (agg #[pointer (some ⟨2,82,none⟩),.pointer (some b),.int .u64 150]) >>= fun s=>_) W=_;simp only[Sem.run_bind,zic,zk7,Result.andThen];simp[ReflectliteValue.flagAddr,loadVar,isAgg,underlying,Tryz.underlying82,hb,Result.andThen,ziH,storeVar,Value.cells,storeCells,Addr.add];rw[run_store Tryz.prog W ta _ _ (by rfl)];simp[ht,hf]
abbrev Zj (p:Nat):Value:=.iface 82 (pointer (some ⟨p,0,none⟩))
theorem zot(p t a:Nat)(w:World)(ht:w.heap[t]? = some (.cells #[.pointer none] 82 (0,0)))(ha:w.heap[a]? = some (.cells #[pointer (some ⟨t,0,none⟩)] 118 (0,0))):
  Calls Tryz.prog 125 #[Zj p,.iface 118 (pointer (some ⟨t,0,none⟩)),agg #[pointer (some ⟨2,118,none⟩),pointer (some ⟨a,0,none⟩),.int .u64 150],.iface 220 (agg #[pointer (some ⟨2,82,none⟩)])] w
   fun e w'=>e=.returned (.bool true)∧zc [t] w w'∧w'.heap[t]? = some (.cells #[pointer (some ⟨p,0,none⟩)] 82 (0,0)):=by
 have h26:= @run_callFunc_extern Tryz.prog 122 _ (fun args=>ReflectliteValue.unpack (args.getD 0 (.tuple #[]))) Tryz.func122 (by kernel_rfl) (by kernel_rfl) (by kernel_rfl) (by kernel_rfl);have h32:= @run_callFunc_extern Tryz.prog 156 _ ReflectliteType.typeOf Tryz.func156 (by kernel_rfl) (by kernel_rfl) (by kernel_rfl) (by kernel_rfl);have h76:= @run_callFunc_extern Tryz.prog 201 _ (ReflectliteType.relation "AssignableTo" ReflectliteType.assignableTo) Tryz.func201 (by kernel_rfl) (by kernel_rfl) (by kernel_rfl) (by kernel_rfl);have h37:= @run_callFunc_extern Tryz.prog 157 _ (ReflectliteValue.method (ReflectliteValue.valueError "reflectlite.Value.Elem" 0) ReflectliteValue.elem) Tryz.func157 (by kernel_rfl) (by kernel_rfl) (by kernel_rfl) (by kernel_rfl);have h38:= @run_callFunc_extern Tryz.prog 158 _ ReflectliteValue.set Tryz.func158 (by kernel_rfl) (by kernel_rfl) (by kernel_rfl) (by kernel_rfl);have f1:=zhk;have f3:=Jd;have f4:=zcK;have f6:=zgB;have htl:=z8 ht;have hal:=z8 ha;have k1:zc [t] w (w.alloc (.cells #[pointer (some ⟨2,118,none⟩),pointer (some ⟨a,0,none⟩),.int .u64 150] 178)):=zc.alloc _ _ _;have b1:=(zc.alloc [] w (.cells #[pointer (some ⟨2,118,none⟩),pointer (some ⟨a,0,none⟩),.int .u64 150] 178)).block;have hb1:(w.alloc (.cells #[pointer (some ⟨2,118,none⟩),pointer (some ⟨a,0,none⟩),.int .u64 150] 178)).heap[w.heap.size]? = some (.cells #[pointer (some ⟨2,118,none⟩),pointer (some ⟨a,0,none⟩),.int .u64 150] 178 (0,0)):=zf _ _;have ht1:=hid ((b1 t htl (by simp)).trans ht);have ha1:=hid ((b1 a hal (by simp)).trans ha);go_enter Tryz.func125,Tryz.ntmps125;go_wp2;clear ht ha b1;generalize w.alloc (.cells #[pointer (some ⟨2,118,none⟩),pointer (some ⟨a,0,none⟩),.int .u64 150] 178)=w1 at *;have c0:w1.cell? ⟨w.heap.size,0,none⟩=some (pointer (some ⟨2,118,none⟩)):=ja hb1 0;have c1:w1.cell? ⟨w.heap.size,1,none⟩=some (pointer (some ⟨a,0,none⟩)):=ja hb1 1;have c2:w1.cell? ⟨w.heap.size,2,none⟩=some (.int .u64 150):=ja hb1 2;have HB:=hid hb1;clear hb1;generalize w.heap.size=q at *;have K1:=hid k1;clear k1
 go_loop [0] (fun v=>v=Zj p) (fun _=>0)
 case atStart=>rfl
 case round=>
  subst hrel;have el:=zhj ⟨a,0,none⟩ ⟨t,0,none⟩ w1 (ja ha1.o 0);have htl1:=z8 ht1.o;have st:=znD ⟨t,0,none⟩ ⟨w1.heap.size,0,none⟩ ⟨p,0,none⟩ (.pointer none) (w1.alloc (.cells #[pointer (some ⟨p,0,none⟩)] 82)) (by simp) (by rw[World.cell?_alloc_lt _ _ ⟨t,0,none⟩ htl1];exact ja ht1.o 0)
   (by rw[World.frozen?_alloc_old _ _ ⟨t,0,none⟩ (Nat.ne_of_lt htl1)];exact zL ht1.o 0)
  go_wp2;go_ret;have ks:zc [t] w1 (w1.setCell ⟨t,0,none⟩ (pointer (some ⟨p,0,none⟩))):=zc.setCell [t] _ _ _ (List.mem_singleton.2 rfl);refine ⟨rfl,(K1.o.step ks).step (zc.alloc [t] _ _),?_⟩;rw[(zc.alloc [] _ _).block t (Nat.lt_of_lt_of_le htl1 ks.size) (by simp),heap_setCell_same _ t 0 _ _ _ ht1.o];rfl
theorem zlt(p t:Nat)(w:World)(hg:JX w)(ht:w.heap[t]? = some (.cells #[.pointer none] 82 (0,0))):
  Calls Tryz.prog 63 #[Zj p,.iface 118 (pointer (some ⟨t,0,none⟩))] w
   fun e w'=>e=.returned (.bool true)∧zc [t] w w'∧w'.heap[t]? = some (.cells #[pointer (some ⟨p,0,none⟩)] 82 (0,0)):=by
 have h26:= @run_callFunc_extern Tryz.prog 122 _ (fun args=>ReflectliteValue.unpack (args.getD 0 (.tuple #[]))) Tryz.func122 (by kernel_rfl) (by kernel_rfl) (by kernel_rfl) (by kernel_rfl);have h27:= @run_callFunc_extern Tryz.prog 123 _ (ReflectliteValue.methodAny (ReflectliteValue.valueError "reflectlite.Value.Type" 0) (fun t _ _ _=>ReflectliteType.toType t)) Tryz.func123 (by kernel_rfl) (by kernel_rfl) (by kernel_rfl) (by kernel_rfl);have h28:= @run_callFunc_extern Tryz.prog 124 _ (ReflectliteValue.method (ReflectliteValue.valueError "reflectlite.Value.IsNil" 0) ReflectliteValue.isNil) Tryz.func124 (by kernel_rfl) (by kernel_rfl) (by kernel_rfl) (by kernel_rfl);have h67:= @run_callFunc_extern Tryz.prog 191 _ (ReflectliteType.abiMethod fun t=>do pure (.int .u8 (← Rtype.kind t))) Tryz.func191 (by kernel_rfl) (by kernel_rfl) (by kernel_rfl) (by kernel_rfl);have h78:= @run_callFunc_extern Tryz.prog 203 _ (ReflectliteType.method ReflectliteType.elem) Tryz.func203 (by kernel_rfl) (by kernel_rfl) (by kernel_rfl) (by kernel_rfl);have h79:= @run_callFunc_extern Tryz.prog 204 _ (ReflectliteType.relation "Implements" ReflectliteType.implements_) Tryz.func204 (by kernel_rfl) (by kernel_rfl) (by kernel_rfl) (by kernel_rfl);have f1:=zeq;have f2:=zj3;have f3:=zdi;have f4:=zjv;have f5:=znb;have f6:=zd7;have f7:=JM;have f8:=zjY;have f9:=zcr;have n8:=zil ⟨w.heap.size,0,none⟩ ⟨t,0,none⟩ ((w.alloc (.cells #[pointer (some ⟨t,0,none⟩)] 118)).alloc (.cells #[pointer (some ⟨2,118,none⟩),pointer (some ⟨w.heap.size,0,none⟩),.int .u64 150] 178)) (by simp);have k2:=((zc.refl [] w).step (zc.alloc [] w (.cells #[pointer (some ⟨t,0,none⟩)] 118))).step (zc.alloc [] _ (.cells #[pointer (some ⟨2,118,none⟩),pointer (some ⟨w.heap.size,0,none⟩),.int .u64 150] 178));have g2:=(hg.quiet k2).et
 have HA:=hid (zot p t w.heap.size ((w.alloc (.cells #[pointer (some ⟨t,0,none⟩)] 118)).alloc (.cells #[pointer (some ⟨2,118,none⟩),pointer (some ⟨w.heap.size,0,none⟩),.int .u64 150] 178))
  ((k2.block t (z8 ht) (by simp)).trans ht) (by rw[(zc.alloc [] _ _).block _ (by simp) (by simp)];exact zf _ _))
 have K2:=hid k2;clear k2;go_enter Tryz.func63,Tryz.ntmps63;go_wp2_with (go_at_call 125;refine HA.o.mono ?_;rintro e w' ⟨rfl,hk,hh⟩);go_ret;exact ⟨rfl,(K2.o.mono (by simp)).step hk,hh⟩
theorem ze9(p q:Addr)(w:World):
  CallsD Tryz.prog 84 #[.pointer (some p),.pointer (some q)] .returning w fun e u' w'=>e=.returned (.tuple #[])∧u'=.returning∧w'=w:=by
 refine callsD_of_wpS Tryz.func84 rfl fun c₀ cs hu=> ?_;apply wpS_seq;apply wpS_region;simp[wpOpsS,go_sem,recoverD,hu,Tryz.ntmps84,Exit.thenS];refine wpS_cond (t:=false) (by simp[Act.eval,Array.replicate]) ?_;simp only[Bool.false_eq_true,if_false];refine wpS_of_wp (wp_skip ?_);cases c₀;simp_all [bodyPostS,results,Tryz.results84]
theorem zeX{b:Nat}{x:Value}(h:w.heap[b]? = some (.cells #[x] T (0,0)))(u:Value):(w.setCell ⟨b,0,none⟩ u).cell? ⟨b,0,none⟩=some u:=by
 rw[cell_of_row _ b 0 _ _ _ (heap_setCell_same w b 0 _ _ u h)];rfl
theorem JE(p:Nat)(w:World)(hg:JX w):
  Calls Tryz.prog 45 #[Zj p] w fun e w'=>e=.returned (.tuple #[pointer (some ⟨p,0,none⟩),.bool true])∧zc [] w w':=by
 have hmf:∀ (fn:Fn) (first cap:Array Value) (w:World),(Instr.makeFunc fn first cap).run Tryz.prog w=.ok (.func fn first cap) w:=fun _ _ _ _=>rfl;have k2:=((zc.refl [] w).step (zc.alloc [] w (.cells #[.pointer none] 82))).step (zc.alloc [] _ (.cells #[.bool false] 4));have hA:=hid (zlt p w.heap.size ((w.alloc (.cells #[.pointer none] 82)).alloc (.cells #[.bool false] 4)) (hg.quiet k2) (by rw[(zc.alloc [] _ _).block _ (by simp) (by simp)];exact zf _ _));have hb:((w.alloc (.cells #[.pointer none] 82)).alloc (.cells #[.bool false] 4)).heap[w.heap.size+1]? = some (.cells #[.bool false] 4 (0,0)):=by
  have:=zf (w.alloc (.cells #[.pointer none] 82)) (.cells #[.bool false] 4);simpa using this
 have HB:=hid hb;have K:=hid k2;clear k2 hg hb;have hfin:∀ w1 u v x y,zc [w.heap.size] ((w.alloc (.cells #[.pointer none] 82)).alloc (.cells #[.bool false] 4)) w1→zc [] w ((w1.setCell ⟨w.heap.size,x,none⟩ u).setCell ⟨w.heap.size+1,y,none⟩ v):=by
  intro w1 u v x y h;refine ((K.o.trans h ?_).trans (zc.setCell [w.heap.size] _ _ _ (List.mem_singleton.2 rfl)) ?_).trans (zc.setCell [w.heap.size+1] _ _ _ (List.mem_singleton.2 rfl)) ?_
  all_goals (intro x hx hl;simp at hx;omega)
 go_enter_defers Tryz.func45,Tryz.ntmps45
 go_wp2_with (go_at_call 63;refine hA.o.mono ?_;rintro e w' ⟨rfl,hk,hh⟩;have c0:=ja hh 0;have z0:=zL hh 0;have hh1:=(hk.block (w.heap.size+1) (by simp) (by simp)).trans HB.o;have c1:=ja hh1 0;have z1:=zL hh1 0;have HK:=hid hk;have HH:=hid hh;have HH1:=hid hh1;clear hh hh1 hk);refine leaves_cons (f:=84) (args:=#[pointer (some ⟨w.heap.size,0,none⟩),pointer (some ⟨w.heap.size+1,0,none⟩)]) (by simp) (by simp[go_sem]) ?_;refine (ze9 ⟨w.heap.size,0,none⟩ ⟨w.heap.size+1,0,none⟩ _).mono ?_;rintro e u' w'' ⟨rfl,rfl,rfl⟩;simp[Leaves,settle,results,Tryz.results45,go_sem];have e0:∀ u,(w'.setCell ⟨w.heap.size,0,none⟩ u).cell? ⟨w.heap.size,0,none⟩=some u:=fun u=>zeX HH.o u;have e1:∀ u v,((w'.setCell ⟨w.heap.size,0,none⟩ v).setCell ⟨w.heap.size+1,0,none⟩ u).cell? ⟨w.heap.size+1,0,none⟩=some u:=fun u v=>
  zeX (by rw[heap_setCell_other _ _ _ _ (by simp)];exact HH1.o) u
 simp[e0,e1];exact hfin _ _ _ _ _ HK.o
theorem zbH(p:Nat)(y f b i:Int)(v:Value)(w:World)(h:w.heap[p]? = some (.cells #[int i64 y,int i64 f,int i64 b,int i64 i,v] 85 (0,0))):
  Calls Tryz.prog 66 #[pointer (some ⟨p,0,none⟩)] w fun e w'=>e=.returned (.bool (decide (0≤f)))∧w'=w:=by
 have h0:w.cell? ⟨p,0,none⟩=some (int i64 y):=ja h 0;have h1:w.cell? ⟨p,1,none⟩=some (int i64 f):=ja h 1;have hd:∀ w,(binOp .geq 3 (int i64 f) (int i64 0)).run Tryz.prog w=.ok (.bool (decide (0≤f))) w:=fun w=>by kernel_rfl
 clear h;go_enter Tryz.func66,Tryz.ntmps66;go_wp2;go_ret;exact ⟨rfl,rfl⟩
def zb5(w:World)(p:Nat)(y f b i:Int)(v:Value):Prop:=w.heap[p]? = some (.cells #[int i64 y,int i64 f,int i64 b,int i64 i,v] 85 (0,0))
theorem zb5.quiet(h:zb5 w p y f b i v)(k:zc [] w w'):zb5 w' p y f b i v:=ze h k
def Ji(w:World)(p:Nat)(y f b i:Int):Prop:=zb5 w p y f b i .nilIface
theorem Ji.quiet(h:Ji w p y f b i)(k:zc [] w w'):Ji w' p y f b i:=zb5.quiet h k
theorem Jz(hg:JX w)(h:zb5 w p y f b i v):Calls Tryz.prog 22 #[Zj p] w fun e w'=>e=.returned (int i64 y)∧zc [] w w':=by
 have hf:=hid (JE p w hg);have HH:=hid h;clear hg h;go_enter Tryz.func22,Tryz.ntmps22;go_wp2_with (go_at_call 45;refine hf.o.mono ?_;rintro e w' ⟨rfl,hk⟩;have c0:=ja ((hk.block p (z8 HH.o) (by simp)).trans HH.o) 0;have HK:=hid hk;clear hk);go_ret;exact ⟨rfl,HK.o⟩
theorem zku(hg:JX w)(h:zb5 w p y f b i v)(hn:¬ 0≤f):
  Calls Tryz.prog 33 #[Zj p] w fun e w'=>e=.returned (.tuple #[agg #[int i64 0,int i64 0,int i64 0],.bool false])∧zc [] w w':=by
 have ka:=zc.alloc [] w (.cells #[int i64 0,int i64 0,int i64 0] 55);have hn0:=hid (zf w (.cells #[int i64 0,int i64 0,int i64 0] 55));have hf:=hid (JE p _ (hg.quiet ka));have HH:=hid (ze h ka);have KA:=hid ka;have hd:decide ((0:Int)≤f)=false:=by simpa using hn
 clear ka hg h;go_enter Tryz.func33,Tryz.ntmps33;go_wp2_with (first | (go_at_call 45;refine hf.o.mono ?_;rintro e w' ⟨rfl,hk⟩;have hb:=(hk.block w.heap.size (by simp) (by simp)).trans hn0.o;have z0:=zL hb 0;have z1:=zL hb 1;have z2:=zL hb 2;have c0:=ja hb 0;have c1:=ja hb 1;have c2:=ja hb 2;have HK:=hid hk;have HB:=hid hb;have hq:=(hk.block p (z8 HH.o) (by simp)).trans HH.o;have HP:=hid (zbH p _ _ _ _ _ _ hq);have d0:=ja hq 0;have d1:=ja hq 1;have d2:=ja hq 2;have d3:=ja hq 3;clear hk hb hq) | (go_at_call 66;refine HP.o.mono ?_;rintro e w' ⟨rfl,rfl⟩;rw[hd]));have h3:=ZC HB.o (int i64 0) (int i64 0) (int i64 0);have e0:=ja h3 0;have e1:=ja h3 1;have e2:=ja h3 2;exact bodyPost_ret (v:=.tuple #[agg #[int i64 0,int i64 0,int i64 0],.bool false]) (by simp[results,Tryz.results33,go_sem,e0,e1,e2]) rfl ⟨rfl,(KA.o.step HK.o).trans (jd _ _ _ _ _) (fun x hx hl=>by simp at hx;omega)⟩
theorem ziX(hg:JX w)(h:zb5 w p y f b i v)(hn:0≤f):
  Calls Tryz.prog 33 #[Zj p] w fun e w'=>e=.returned (.tuple #[agg #[int i64 f,int i64 b,int i64 i],.bool true])∧zc [] w w':=by
 have ka:=zc.alloc [] w (.cells #[int i64 0,int i64 0,int i64 0] 55);have hn0:=hid (zf w (.cells #[int i64 0,int i64 0,int i64 0] 55));have hf:=hid (JE p _ (hg.quiet ka));have HH:=hid (ze h ka);have KA:=hid ka;have hd:decide ((0:Int)≤f)=true:=by simpa using hn
 clear ka hg h;go_enter Tryz.func33,Tryz.ntmps33;go_wp2_with (first | (go_at_call 45;refine hf.o.mono ?_;rintro e w' ⟨rfl,hk⟩;have hb:=(hk.block w.heap.size (by simp) (by simp)).trans hn0.o;have z0:=zL hb 0;have z1:=zL hb 1;have z2:=zL hb 2;have c0:=ja hb 0;have c1:=ja hb 1;have c2:=ja hb 2;have HK:=hid hk;have HB:=hid hb;have hq:=(hk.block p (z8 HH.o) (by simp)).trans HH.o;have HP:=hid (zbH p _ _ _ _ _ _ hq);have d0:=ja hq 0;have d1:=ja hq 1;have d2:=ja hq 2;have d3:=ja hq 3;clear hk hb hq) | (go_at_call 66;refine HP.o.mono ?_;rintro e w' ⟨rfl,rfl⟩;rw[hd]));have h3:=ZC HB.o (int i64 f) (int i64 b) (int i64 i);have e0:=ja h3 0;have e1:=ja h3 1;have e2:=ja h3 2;exact bodyPost_ret (v:=.tuple #[agg #[int i64 f,int i64 b,int i64 i],.bool true]) (by simp[results,Tryz.results33,go_sem,e0,e1,e2]) rfl ⟨rfl,(KA.o.step HK.o).trans (jd _ _ _ _ _) (fun x hx hl=>by simp at hx;omega)⟩
theorem zen(y f b i:Int)(w:World):Calls Tryz.prog 60 #[int i64 y,agg #[int i64 f,int i64 b,int i64 i],.nilIface] w fun e w'=>∃ p,e=.returned (Zj p)∧Ji w' p y f b i∧zc [] w w':=by
 have k2:=((zc.refl [] w).step (zc.alloc [] w (.cells #[int i64 f,int i64 b,int i64 i] 55))).step (zc.alloc [] _ (.cells #[int i64 y,int i64 f,int i64 b,int i64 i,.nilIface] 85));have hn:=zf (w.alloc (.cells #[int i64 f,int i64 b,int i64 i] 55)) (.cells #[int i64 y,int i64 f,int i64 b,int i64 i,.nilIface] 85);rw[World.size_alloc] at hn;have H:=hid (show Ji _ (w.heap.size+1) y f b i from hn);have K:=hid k2;clear k2 hn;go_enter Tryz.func60,Tryz.ntmps60;go_wp2;go_ret;exact ⟨w.heap.size+1,rfl,H.o,K.o⟩
def Jt(y f b i:Int)(w:World)(e:Ending)(w':World):Prop:=∃ p,e=.returned (Zj p)∧Ji w' p y f b i∧zc [] w w'
theorem Qj(y f b i:Int)(w:World):Calls Tryz.prog 54 #[int i64 y,agg #[int i64 f,int i64 b,int i64 i]] w (Jt y f b i w):=by
 have H:=hid fun (w':World)=>zen y f b i w';go_enter Tryz.func54,Tryz.ntmps54;go_wp2_with fail;refine (H.o _).mono ?_;rintro e w1 ⟨p,rfl,h1,h2⟩;go_wp2_with fail;go_ret;exact ⟨p,rfl,h1,(zc.alloc [] _ _).quiet h2⟩
theorem Z9(y:Int)(w:World):Calls Tryz.prog 47 #[int i64 y] w (Jt y (-1) 0 0 w):=by
 have H:=hid fun (w':World)=>Qj y (-1) 0 0 w';go_enter Tryz.func47,Tryz.ntmps47;go_wp2_with fail;refine (H.o _).mono ?_;rintro e w1 ⟨p,rfl,h1,h2⟩;go_wp2_with fail;go_ret;exact ⟨p,rfl,h1,h2⟩
end
theorem zbd{pb po:Nat}{P:Pr8}(h:PrC w pb po P)(hs:Sm8 P):Calls Tryz.prog 73 #[pointer (some ⟨pb,po,none⟩)] w fun e w'=>∃ a cp,e=.returned (.slice a (pts P).length cp)∧zy w' 3 PtC a (pts P)∧zc [] w w':=by
 have HS:=hid hs;obtain ⟨fa,fcp,H⟩:=h.fns;have h4:=H.cell;have hN:=hs.fn;obtain ⟨N,hNN⟩:∃ N,N=P.funcs.length:=⟨_,rfl⟩;have HN:=hid hNN;rw[← hNN] at h4 hN
 have H4:Box (∀ w',zc [] w w'→w'.cell? ⟨pb,po+4,none⟩=some (.slice fa N fcp)):=hid (by
  have h4':=h4;intro w' k
  exact za k h4')
 have HF:=hid H;have HR0:Box (w.ownsRow w.heap.size 55 3 (.slice none 0 0) (ptP P 0).length (Qf (ptP P 0))):=hid (World.ownsRow_nil _ _ _ _);clear h hs H hNN h4;go_enter Tryz.func73,Tryz.ntmps73;go_wp2_with fail
 go_loopw [3,4] (fun lv fv wr=>∃ k:Nat,k≤N∧fv=int i64 (k:Int)∧Box (wr.ownsRow w.heap.size 55 3 lv (ptP P k).length (Qf (ptP P k)))∧Box (zc [] w wr)) (fun _ fv _=>N - (intOf fv).toNat)
 case atStart=>exact ⟨0,by omega,rfl,HR0,hid (zc.refl _ _)⟩
 case round=>
  obtain ⟨k,hk,rfl,HR,HK⟩:=hrel;clear HR0;have g4:=H4.o _ HK.o;by_cases hlt:k<N
  ·have hlt':(k:Int)<(N:Int):=by omega
   have hkf:k<P.funcs.length:=by rw[← HN.o];exact hlt
   obtain ⟨fb,fo,ba,bcp,rfl,B⟩:=HF.o.at hkf;have hM:=HS.o.bk k hkf;have HBk:=hid B;obtain ⟨M,hMM⟩:∃ M,M=(zg P k).blocks.length:=⟨_,rfl⟩;have HM:=hid hMM;rw[← hMM] at hM
   have G2:Box (∀ w',zc [] w w'→w'.cell? ⟨fb,fo+k * 3+2,none⟩=some (.slice ba M bcp)):=hid (by
    have h2':=B.cell;rw[← hMM] at h2';intro w' kk
    exact za kk h2')
   have HR1:Box (wr.ownsRow w.heap.size 55 3 u3 (ptP P k ++ ptF (zg P k) k 0).length (Qf (ptP P k ++ ptF (zg P k) k 0))):=hid (by rw[zcR,List.append_nil];exact HR.o);have hcap:Box (∀ b,b<M→zgK P k+zfF (zg P k) (b+1)≤150):=hid fun b hb=>HS.o.cntF hkf (by rw[← HM.o];omega);clear B hMM HR;go_wp2_with fail;have HK0:=HK;clear HK g4
   go_loopw [3,5] (fun lv bv wr=>∃ b:Nat,b≤M∧bv=int i64 (b:Int)∧Box (wr.ownsRow w.heap.size 55 3 lv (ptP P k ++ ptF (zg P k) k b).length (Qf (ptP P k ++ ptF (zg P k) k b)))∧Box (zc [] w wr)) (fun _ bv _=>M - (intOf bv).toNat)
   case atStart=>exact ⟨0,by omega,rfl,HR1,HK0⟩
   case round=>
    obtain ⟨b,hb,rfl,HR,HK⟩:=hrel;clear HR1 HK0;have g4:=H4.o _ HK.o;have g2:=G2.o _ HK.o;by_cases hlb:b<M
    ·have hlb':(b:Int)<(M:Int):=by omega
     have hbf:b<(zg P k).blocks.length:=by rw[← HM.o];exact hlb
     obtain ⟨bb,bo,rfl,L⟩:=HBk.o.at hbf;obtain ⟨ca,ccp,hcc,_⟩:=L.c0;obtain ⟨c,hc0⟩:∃ c,c=(zr (zg P k) b).code.length:=⟨_,rfl⟩;have HCC:=hid hc0;rw[← hc0] at hcc
     have CC:Box (∀ w',zc [] w w'→w'.cell? ⟨bb,bo+b * 5,none⟩=some (.slice ca c ccp)):=hid (by
      have h2':=hcc;intro w' kk
      exact za kk h2')
     have hcp:=hcap.o b hlb;rw[Qa, ← hc0] at hcp;have HR2:Box (wr.ownsRow w.heap.size 55 3 u3 (ptP P k ++ ptF (zg P k) k b ++ ptB k b 0).length (Qf (ptP P k ++ ptF (zg P k) k b ++ ptB k b 0))):=hid (by rw[J9,List.append_nil];exact HR.o);have HL:Box (∀ i,(ptP P k ++ ptF (zg P k) k b ++ ptB k b i).length=zgK P k+zfF (zg P k) b+i):=hid fun i=>by
      rw[List.length_append,List.length_append,zbo,zeh];rfl
     clear HR L hc0 hcc;go_wp2_with fail;have HK2:=HK;clear HK g4 g2
     go_loopw [3,6] (fun lv iv wr=>∃ i:Nat,i≤c+1∧iv=int i64 (i:Int)∧Box (wr.ownsRow w.heap.size 55 3 lv (ptP P k ++ ptF (zg P k) k b ++ ptB k b i).length (Qf (ptP P k ++ ptF (zg P k) k b ++ ptB k b i)))∧Box (zc [] w wr)) (fun _ iv _=>c+1 - (intOf iv).toNat)
     case atStart=>exact ⟨0,by omega,rfl,HR2,HK2⟩
     case round=>
      obtain ⟨i,hi,rfl,HR,HK⟩:=hrel;clear HR2 HK2;have g4:=H4.o _ HK.o;have g2:=G2.o _ HK.o;have g5:=CC.o _ HK.o;by_cases hli:i<c+1
      ·have hli':(i:Int)≤(c:Int):=by omega
       have hn:Box ((ptP P k ++ ptF (zg P k) k b ++ ptB k b (i+1)).length=(ptP P k ++ ptF (zg P k) k b ++ ptB k b i).length+1∧Qf (ptP P k ++ ptF (zg P k) k b ++ ptB k b (i+1))=Qf (ptP P k ++ ptF (zg P k) k b ++ ptB k b i) ++ [int i64 (k:Int),int i64 (b:Int),int i64 (i:Int)]):=hid (by
        rw[HL.o,HL.o,Zm, ← List.append_assoc,zby]
        exact ⟨by omega,rfl⟩)
       have hle:=HL.o i;have hks:=HK.o.size;generalize (ptP P k ++ ptF (zg P k) k b ++ ptB k b i).length=nn at HR hn hle;generalize Qf (ptP P k ++ ptF (zg P k) k b ++ ptB k b i)=xs at HR hn;go_wp2_with (at_builtin;go_must (refine wpList_append_own _ rfl _ _ 101 rfl w.heap.size 55 Tryz.t55 (agg #[int i64 0,int i64 0,int i64 0]) 3 24 Q9 zbn zcE QJ zaC rfl (by decide) _ nn xs rfl (HR.o.alloc _) ⟨wr.heap.size,0,none⟩ 1 1 [int i64 (k:Int),int i64 (b:Int),int i64 (i:Int)] rfl rfl (World.news_of_block (cs:=#[int i64 (k:Int),int i64 (b:Int),int i64 (i:Int)]) (t:=55) (fr:=(0,0)) (heap_alloc_new wr _)) (JP _ _ _) (by unfold maxLen;omega) (by omega) (by simp;omega) ?_;intro v' w3 hown3 hgrow3 hnil3));have hk3:zc [] w w3:=(HK.o.quiet (zc.alloc [] wr _)).appended HR.o hgrow3 (Nat.le_refl _);have HO3:=hid hown3;have HK3:=hid hk3;clear hgrow3 hnil3 hown3 hk3 HR HK g4 g2 g5;go_wp2_with fail;go_roundw
       case rel=>exact ⟨i+1,by omega,by go_num,hid (by rw[hn.o.1,hn.o.2];exact HO3.o),HK3⟩
       case measure=>simp[intOf];omega
      ·obtain rfl:i=c+1:=by omega
       have hli':¬ ((c+1:Nat):Int)≤(c:Int):=by omega
       have HR3:Box (wr.ownsRow w.heap.size 55 3 u3 (ptP P k ++ ptF (zg P k) k (b+1)).length (Qf (ptP P k ++ ptF (zg P k) k (b+1)))):=hid (by
        rw[jw, ← HCC.o, ← List.append_assoc]
        exact HR.o)
       clear HR;go_wp2_with fail;go_roundw
       case rel=>exact ⟨b+1,by omega,by go_num,HR3,HK⟩
       case measure=>simp[intOf];omega
    ·obtain rfl:b=M:=by omega
     have HR3:Box (wr.ownsRow w.heap.size 55 3 u3 (ptP P (k+1)).length (Qf (ptP P (k+1)))):=hid (by
      rw[Qi, ← HM.o]
      exact HR.o)
     clear HR;go_wp2_with fail;go_roundw
     case rel=>exact ⟨k+1,by omega,by go_num,HR3,HK⟩
     case measure=>simp[intOf];omega
  ·obtain rfl:k=N:=by omega
   go_wp2_with fail;go_ret;obtain ⟨a,cp,e1,e2,e3,_⟩:=zcI HR.o;have e5:ptP P k=pts P:=by unfold pts;rw[HN.o]
   rw[e5] at e1 e3;exact ⟨a,cp,congrArg Ending.returned e1,e3,HK.o⟩
theorem zh7(a:Int)(w:World):
  Calls Tryz.prog 109 #[int i64 a] w fun e w'=>e=.returned (.bool (decide (0≤a∧a<5000)))∧w'=w:=by
 by_cases h0:0≤a <;> by_cases h1:a<5000 <;> (go_enter Tryz.func109,Tryz.ntmps109;go_wp2;go_ret;exact ⟨by simp[h0,h1],rfl⟩)
theorem zem(n:Nat)(w:World)(h:n<5000):
  Calls Tryz.prog 109 #[int i64 (n:Int)] w fun e w'=>e=.returned (.bool true)∧w'=w:=
 (zh7 n w).mono fun e w' ⟨he,hw⟩=>⟨by rw[he];simp;omega,hw⟩
theorem zln(a:Int)(w:World)(h:¬ (0≤a∧a<5000)):
  Calls Tryz.prog 109 #[int i64 a] w fun e w'=>e=.returned (.bool false)∧w'=w:=
 (zh7 a w).mono fun e w' ⟨he,hw⟩=>⟨by rw[he];simp;omega,hw⟩
theorem zhN(n:Nat)(w:World)(h1:n<5000):
  Calls Tryz.prog 110 #[int i64 n] w fun e w'=>e=.returned (.tuple #[int i64 ((n:Int) / 64),.int .u64 (IntKind.u64.wrap (2 ^ ((n:Int) % 64).toNat))])∧∃ m,w'=w.drewN m:=by
 go_enter Tryz.func110,Tryz.ntmps110;go_wp2;go_quiet (fail);go_wp2
 go_ret2
 exact ⟨rfl,_,rfl⟩
theorem zdt(n:Nat)(w:World)(h1:n<5000):
  Calls Tryz.prog 110 #[int i64 n] w fun e w'=>∃ k p:Nat,e=.returned (.tuple #[int i64 k,.int .u64 p])∧k<79∧p<18446744073709551616∧Box (k=n / 64∧p=2 ^ (n % 64))∧∃ m,w'=w.drewN m:=by
 refine (zhN n w h1).mono fun e w' ⟨he,hw⟩=> ?_;have hp:2 ^ (n % 64)<18446744073709551616:=QR (Nat.mod_lt _ (by decide));refine ⟨n / 64,2 ^ (n % 64),?_,by omega,hp,hid ⟨rfl,rfl⟩,hw⟩;have e1:((n:Int) % 64).toNat=n % 64:=by omega
 have e2:IntKind.u64.wrap (2 ^ (n % 64))=((2 ^ (n % 64):Nat):Int):=by
  rw[IntKind.wrap_u64];have:((2 ^ (n % 64):Nat):Int)=(2:Int) ^ (n % 64):=by simp
  rw[← this];generalize 2 ^ (n % 64)=q at hp;omega
 rw[he,e1,e2];rfl
theorem zmn(b:Nat)(a:Int)(w:World)(h:¬ (0≤a∧a<5000)):
  Calls Tryz.prog 59 #[pointer (some ⟨b,0,none⟩),int i64 a] w fun e w'=>e=.returned (.bool false)∧w'=w:=by
 have H:=hid h;clear h;go_enter Tryz.func59,Tryz.ntmps59;go_wp2_with (go_at_call 109;refine (zln _ _ H.o).mono ?_;rintro e w' ⟨rfl,rfl⟩);go_ret;exact ⟨rfl,rfl⟩
theorem zj0(b n k p x y:Nat)(w:World)(h:n<5000)(hk:k<79)(hy:bits BinOp.and IntKind.u64 (x:Int) (p:Int)=(y:Int))(hc:w.cell? ⟨b,k,none⟩=some (.int .u64 x))
  (hpl:∀ w1,Calls Tryz.prog 110 #[int i64 n] w1 fun e w'=>e=.returned (.tuple #[int i64 k,.int .u64 p])∧∃ m,w'=w1.drewN m):
  Calls Tryz.prog 59 #[pointer (some ⟨b,0,none⟩),int i64 n] w fun e w'=>e=.returned (.bool ((y:Int) != 0))∧∃ m,w'=w.drewN m:=by
 have H:=hid hpl;clear hpl;go_enter Tryz.func59,Tryz.ntmps59;go_wp2_with fail;refine (zem n _ h).mono ?_;rintro e w' ⟨rfl,rfl⟩;go_wp2_with fail;refine (H.o _).mono ?_;rintro e w' ⟨rfl,m,rfl⟩;go_wp2;go_ret;exact ⟨rfl,_,rfl⟩
theorem Jx(b:Nat)(s:Nat→Bool)(a:Int)(w:World)(hs:zV w b s)(hf:Fit s):
  Calls Tryz.prog 59 #[pointer (some ⟨b,0,none⟩),int i64 a] w fun e w'=>e=.returned (.bool (Q6 s a))∧∃ m,w'=w.drewN m:=by
 by_cases h:0≤a∧a<5000
 ·obtain ⟨n,rfl⟩:=Int.eq_ofNat_of_zero_le h.1
  have hn:n<5000:=by omega
  have hp:2 ^ (n % 64)<18446744073709551616:=QR (Nat.mod_lt _ (by decide));have hc:=hs.cell (k:=n / 64) (by omega);refine (zj0 b n (n / 64) (2 ^ (n % 64)) (wd s (n / 64)) (wd s (n / 64) &&& 2 ^ (n % 64)) w hn (by omega) (u64_and_nat _ _ (zec s _) hp) hc (fun w1=> ?_)).mono fun e w' ⟨he,hw⟩=>⟨?_,hw⟩
  ·refine (zdt n w1 hn).mono ?_
   rintro e w' ⟨k,p,he,_,_,hh,hw⟩;obtain ⟨rfl,rfl⟩:=hh.o;exact ⟨he,hw⟩
  ·rw[he]
   have hb:=zlL s n;have e2:Q6 s (n:Int)=s n:=by simp[Q6]
   rw[e2];generalize wd s (n / 64) &&& 2 ^ (n % 64)=y at hb;cases hsn:s n
   ·rw[hsn] at hb
    have:y=0:=by simpa using hb
    subst this;rfl
   ·rw[hsn] at hb
    have:y≠0:=hb.2 rfl;simp;omega
 ·refine (zmn b a w h).mono fun e w' ⟨he,hw⟩=>⟨?_,0,hw⟩
  rw[he];have:Q6 s a=false:=by
   unfold Q6;by_cases h0:0≤a
   ·simp[h0,hf a.toNat (by omega)]
   ·simp[h0]
  rw[this]
def Sub(w w':World):Prop:=∀ p v,w.cell? p=some v→w'.cell? p=some v
theorem Sub.of(k:zc [] w w'):Sub w w':=fun _ _ h=>za k h
def ze2{α:Type}(R:World→Nat→Nat→α→Prop):Prop:=∀ w w' b o y,Sub w w'→R w b o y→R w' b o y
theorem zy.sub{α:Type}{R:World→Nat→Nat→α→Prop}{a:Option Addr}{l:List α}(h:zy w c R a l)(hR:ze2 R)(k:Sub w w'):zy w' c R a l:=by
 rcases h with h | ⟨b,off,h1,h2⟩
 ·exact .inl h
 ·exact .inr ⟨b,off,h1,fun j y hy=>hR w w' b _ y k (h2 j y hy)⟩
theorem qF.sub:ze2 qF:=fun _ _ _ _ _ k h=>⟨k _ _ h.1,h.2⟩
theorem SlC.sub{α:Type}{R:World→Nat→Nat→α→Prop}(hR:ze2 R):ze2 (SlC c R):=by
 rintro w w' b o l k ⟨a,cp,h1,h2,h3⟩;exact ⟨a,cp,k _ _ h1,h2.sub hR k,h3⟩
theorem ZO.sub:ze2 ZO:=SlC.sub qF.sub
theorem TyC.sub:ze2 TyC:=fun _ _ _ _ _ k h=>⟨qF.sub _ _ _ _ _ k h.c0,qF.sub _ _ _ _ _ k h.c1⟩
theorem TysC.sub:ze2 (SlC 2 TyC):=SlC.sub TyC.sub
theorem InC.sub:ze2 InC:=fun _ _ _ _ _ k h=>⟨qF.sub _ _ _ _ _ k h.c0,qF.sub _ _ _ _ _ k h.c1,qF.sub _ _ _ _ _ k h.c2,qF.sub _ _ _ _ _ k h.c3,qF.sub _ _ _ _ _ k h.c4,ZO.sub _ _ _ _ _ k h.c5⟩
theorem BlC.sub:ze2 BlC:=fun _ _ _ _ _ k h=>⟨SlC.sub InC.sub _ _ _ _ _ k h.c0,qF.sub _ _ _ _ _ k h.c1,qF.sub _ _ _ _ _ k h.c2,qF.sub _ _ _ _ _ k h.c3,qF.sub _ _ _ _ _ k h.c4⟩
theorem FuC.sub:ze2 FuC:=fun _ _ _ _ _ k h=>⟨qF.sub _ _ _ _ _ k h.c0,TysC.sub _ _ _ _ _ k h.c1,SlC.sub BlC.sub _ _ _ _ _ k h.c2⟩
theorem SgC.sub:ze2 SgC:=fun _ _ _ _ _ k h=>⟨TysC.sub _ _ _ _ _ k h.c0,qF.sub _ _ _ _ _ k h.c1,qF.sub _ _ _ _ _ k h.c2⟩
theorem ImC.sub:ze2 ImC:=fun _ _ _ _ _ k h=>⟨qF.sub _ _ _ _ _ k h.c0,qF.sub _ _ _ _ _ k h.c1,ZO.sub _ _ _ _ _ k h.c2⟩
theorem PrC.sub:ze2 PrC:=fun _ _ _ _ _ k h=>⟨SlC.sub TysC.sub _ _ _ _ _ k h.c0,SlC.sub SgC.sub _ _ _ _ _ k h.c1,SlC.sub ZO.sub _ _ _ _ _ k h.c2,SlC.sub ImC.sub _ _ _ _ _ k h.c3,SlC.sub FuC.sub _ _ _ _ _ k h.c4,qF.sub _ _ _ _ _ k h.c5⟩
def jB(B:Nat)(w:World):World:={ w with heap:=w.heap.mapIdx fun i o=>if i<B then .cells #[] 0 (0,0) else o }
theorem zbD(B:Nat)(w:World)(k:Nat):(jB B w).heap[k]? = (w.heap[k]?).map fun o=>if k<B then Obj.cells #[] 0 (0,0) else o:=by
 unfold jB;rw[Array.getElem?_mapIdx]
theorem zaH{k:Nat}(h:B≤k):(jB B w).heap[k]? = w.heap[k]? := by
 rw[zbD];have:¬ k<B:=by omega
 simp[this]
theorem QW{p:Addr}(h:(jB B w).cell? p=some v):B≤p.block∧w.cell? p=some v:=by
 by_cases hb:p.block<B
 ·exfalso
  unfold World.cell? at h;rw[zbD] at h;cases e:w.heap[p.block]? with
  | none=>rw[e] at h;simp at h
  | some o=>rw[e] at h;simp[hb] at h
 ·refine ⟨by omega,?_⟩
  rw[← World.cell?_of_block (w:=w) (zaH (show B≤p.block by omega))];exact h
theorem zda{p:Addr}(hb:B≤p.block)(h:w.cell? p=some v):(jB B w).cell? p=some v:=by
 rw[World.cell?_of_block (w:=w) (zaH hb)];exact h
theorem Sub.down{B':Nat}(w:World)(h:B'≤B):Sub (jB B w) (jB B' w):=fun _ _ e=>zda (Nat.le_trans h (QW e).1) (QW e).2
theorem Sub.all(B:Nat)(w:World):Sub (jB B w) w:=fun _ _ e=>(QW e).2
theorem Sub.kept{L:List Nat}(k:zc L w w')(h:∀ x,x∈L→x<B):Sub (jB B w) (jB B w'):=fun p _ e=>by
 obtain ⟨h1,h2⟩:=QW e;refine zda h1 ?_;rw[k.cell (block_lt_of_cell h2) (fun hm=>by have:=h _ hm;omega)];exact h2
theorem Sub.trans{a b c:World}(h:Sub a b)(k:Sub b c):Sub a c:=fun p v e=>k p v (h p v e)
def zdy{α:Type}(V:World→Value→α→Prop):Prop:=∀ w w' v y,Sub w w'→V w v y→V w' v y
theorem zek.sub:zdy zek:=fun _ _ _ _ _ h=>h
theorem TyV.sub:zdy TyV:=fun _ _ _ _ _ h=>h
theorem SlV.sub{α:Type}{R:World→Nat→Nat→α→Prop}(hR:ze2 R):zdy (SlV c R):=by
 rintro w w' v l k ⟨a,cp,h1,h2,h3⟩;exact ⟨a,cp,h1,h2.sub hR k,h3⟩
theorem za8.sub:zdy za8:=SlV.sub qF.sub
theorem zb9.sub:zdy zb9:=SlV.sub TyC.sub
theorem zn1.sub:zdy zn1:=SlV.sub InC.sub
theorem zny.sub:zdy zny:=SlV.sub BlC.sub
theorem SgV.sub:zdy SgV:=by
 rintro w w' v x k ⟨a,cp,h1,h2,h3⟩;exact ⟨a,cp,h1,zb9.sub _ _ _ _ k h2,h3⟩
theorem IfV.sub:zdy IfV:=by
 rintro w w' v x k ⟨a,cp,h1,h2⟩;exact ⟨a,cp,h1,za8.sub _ _ _ _ k h2⟩
theorem ImV.sub:zdy ImV:=by
 rintro w w' v x k ⟨a,cp,h1,h2,h3,h4⟩;exact ⟨a,cp,h1,h2,h3,za8.sub _ _ _ _ k h4⟩
theorem InV.sub:zdy InV:=by
 rintro w w' v x k ⟨a,cp,h1,h2,h3,h4,h5,h6,h7⟩;exact ⟨a,cp,h1,h2,h3,h4,h5,h6,za8.sub _ _ _ _ k h7⟩
theorem BlV.sub:zdy BlV:=by
 rintro w w' v x k ⟨a,cp,h1,h2,h3⟩;exact ⟨a,cp,h1,zn1.sub _ _ _ _ k h2,h3⟩
theorem FuV.sub:zdy FuV:=by
 rintro w w' v x k ⟨a,cp,a',cp',h1,h2,h3,h4⟩;exact ⟨a,cp,a',cp',h1,h2,zb9.sub _ _ _ _ k h3,zny.sub _ _ _ _ k h4⟩
def zbA{α:Type}(c:Nat)(V:World→Value→α→Prop)(R:World→Nat→Nat→α→Prop):Prop:=
 ∀ w v y b o,V w v y→v.cells.size=c∧((∀ i,i<c→w.cell? ⟨b,o+i,none⟩=v.cells[i]?)→R w b o y)
theorem zek.links:zbA 1 zek qF:=by
 rintro w v y b o ⟨rfl,h⟩;exact ⟨rfl,fun hc=>⟨hc 0 (by omega),h⟩⟩
theorem TyV.links:zbA 2 TyV TyC:=by
 rintro w v y b o ⟨rfl,h1,h2⟩;exact ⟨rfl,fun hc=>⟨⟨hc 0 (by omega),h1⟩,⟨hc 1 (by omega),h2⟩⟩⟩
theorem SlV.links{α:Type}{R:World→Nat→Nat→α→Prop}:zbA 1 (SlV c R) (SlC c R):=by
 rintro w v y b o ⟨a,cp,rfl,h⟩;exact ⟨rfl,fun hc=>⟨a,cp,hc 0 (by omega),h⟩⟩
theorem SlV.cell{α:Type}{R:World→Nat→Nat→α→Prop}{a:Option Addr}{cp b:Nat}{l:List α}(h:SlV c R w (.slice a l.length cp) l)(hc:w.cell? ⟨b,o,none⟩=some (.slice a l.length cp)):SlC c R w b o l:=by
 obtain ⟨_,h1⟩:=h.slice;exact ⟨a,cp,hc,h1⟩
theorem SgV.links:zbA 3 SgV SgC:=by
 rintro w v y b o ⟨a,cp,rfl,h1,h2,h3⟩;exact ⟨rfl,fun hc=>⟨SlV.cell h1 (hc 0 (by omega)),⟨hc 1 (by omega),h2⟩,⟨hc 2 (by omega),h3⟩⟩⟩
theorem IfV.links:zbA 1 IfV ZO:=by
 rintro w v y b o ⟨a,cp,rfl,h1⟩;exact ⟨rfl,fun hc=>SlV.cell h1 (hc 0 (by omega))⟩
theorem ImV.links:zbA 3 ImV ImC:=by
 rintro w v y b o ⟨a,cp,rfl,h1,h2,h3⟩;exact ⟨rfl,fun hc=>⟨⟨hc 0 (by omega),h1⟩,⟨hc 1 (by omega),h2⟩,SlV.cell h3 (hc 2 (by omega))⟩⟩
theorem InV.links:zbA 6 InV InC:=by
 rintro w v y b o ⟨a,cp,rfl,h1,h2,h3,h4,h5,h6⟩;exact ⟨rfl,fun hc=>⟨⟨hc 0 (by omega),h1⟩,⟨hc 1 (by omega),h2⟩,⟨hc 2 (by omega),h3⟩,⟨hc 3 (by omega),h4⟩,⟨hc 4 (by omega),h5⟩,SlV.cell h6 (hc 5 (by omega))⟩⟩
theorem BlV.links:zbA 5 BlV BlC:=by
 rintro w v y b o ⟨a,cp,rfl,h1,h2,h3,h4,h5⟩;exact ⟨rfl,fun hc=>⟨SlV.cell h1 (hc 0 (by omega)),⟨hc 1 (by omega),h2⟩,⟨hc 2 (by omega),h3⟩,⟨hc 3 (by omega),h4⟩,⟨hc 4 (by omega),h5⟩⟩⟩
theorem FuV.links:zbA 3 FuV FuC:=by
 rintro w v y b o ⟨a,cp,a',cp',rfl,h1,h2,h3⟩;exact ⟨rfl,fun hc=>⟨⟨hc 0 (by omega),h1⟩,SlV.cell h2 (hc 1 (by omega)),SlV.cell h3 (hc 2 (by omega))⟩⟩
def qt(w:World)(rb:Nat):Option (List UInt8)→Prop
 | none=>w.heap[rb]? = some (.cells #[.slice none 0 0,.bool true] 137 (0,0))
 | some L=>∃ a cp,w.heap[rb]? = some (.cells #[.slice a L.length cp,.bool false] 137 (0,0))∧qi w a L∧L.length≤cp∧L.length≤20000∧(L≠[]→∀ b off,a=some ⟨b,off,none⟩→b<rb)
theorem qt.lt{s:Option (List UInt8)}(h:qt w rb s):rb<w.heap.size:=by
 cases s with
 | none=>exact z8 h
 | some L=>
  obtain ⟨_,_,h1,_⟩:=h;exact z8 h1
theorem qt.kept{s:Option (List UInt8)}(h:qt w rb s){F:List Nat}(k:zc F w w')(hF:∀ x,x∈F→rb<x):qt w' rb s:=by
 have hn:rb ∉ F:=fun hm=>by have:=hF rb hm;omega
 cases s with
 | none=>
  have h':w.heap[rb]? = _:=h;show w'.heap[rb]? = _;rw[k.block rb (z8 h') hn];exact h'
 | some L=>
  obtain ⟨a,cp,h1,h2,h3,h4,h5⟩:=h;refine ⟨a,cp,?_,?_,h3,h4,h5⟩
  ·rw[k.block rb (z8 h1) hn]
   exact h1
  ·by_cases e:L=[]
   ·exact .inl e
   ·exact h2.kept k (fun b off e9 hm=>by have:=h5 e b off e9;have:=hF b hm;omega)
theorem qt.quiet{s:Option (List UInt8)}(h:qt w rb s)(k:zc [] w w'):qt w' rb s:=h.kept k (fun x hx=>by cases hx)
def j8{α:Type}(V:World→Value→α→Prop)(E:α→List UInt8)(ok:α→Prop)(w:World)(rb:Nat)(s:Option (List UInt8))(e:Ending)(w':World):Prop:=
 ∃ v x s',e=.returned v∧V (jB w.heap.size w') v x∧Stp E ok s x s'∧qt w' rb s'∧zc [rb] w w'
structure LM {α:Type}(V:World→Value→α→Prop) (w:World) (g n c:Nat) (T:TypeId) (l:List α):Prop where
 ex:∃ cur:Array Value,w.heap[g]? = some (.cells cur T (0,0))∧cur.size=n * c∧∀ j y,l[j]? = some y→∃ v,V (jB (g+1) w) v y∧∀ i,i<c→cur[j * c+i]? = v.cells[i]?
theorem LM.kept{α:Type}{V:World→Value→α→Prop}{l:List α}(hV:zdy V)(h:LM V w g n c T l)(k:zc [rb] w w')(hr:rb<g):LM V w' g n c T l:=by
 obtain ⟨cur,h1,h2,h3⟩:=h.ex;refine ⟨cur,?_,h2,fun j y hy=> ?_⟩
 ·rw[k.block g (z8 h1) (by simp;omega)]
  exact h1
 ·obtain ⟨v,h4,h5⟩:=h3 j y hy
  exact ⟨v,hV _ _ _ _ (Sub.kept k (fun x hx=>by rw[List.mem_singleton] at hx;omega)) h4,h5⟩
def Zc(w:World)(g o:Nat):Nat→List Value→World
 | _,[]=>w
 | i,v :: vs=>Zc (w.setCell ⟨g,o+i,none⟩ v) g o (i+1) vs
def zjL(cur:Array Value)(o:Nat):Nat→List Value→Array Value
 | _,[]=>cur
 | i,v :: vs=>zjL (cur.setIfInBounds (o+i) v) o (i+1) vs
theorem jN{g o:Nat}{T:TypeId}:∀ (vs:List Value) (i:Nat) (w:World) (cur:Array Value),w.heap[g]? = some (.cells cur T (0,0))→(Zc w g o i vs).heap[g]? = some (.cells (zjL cur o i vs) T (0,0))
 | [],_,_,_,h=>h
 | v :: vs,i,w,cur,h=>jN vs (i+1) _ _ (heap_setCell_same w g (o+i) cur T v h)
theorem zS{g o:Nat}:∀ (vs:List Value) (i:Nat) (w:World),zc [g] w (Zc w g o i vs)
 | [],_,_=>zc.refl _ _
 | v :: vs,i,w=>(zc.setCell [g] w ⟨g,o+i,none⟩ v (List.mem_singleton.2 rfl)).step (zS vs (i+1) _)
theorem zdE(o:Nat):∀ (vs:List Value) (i:Nat) (cur:Array Value),(zjL cur o i vs).size=cur.size
 | [],_,_=>rfl
 | v :: vs,i,cur=>by rw[zjL,zdE o vs,Array.size_setIfInBounds]
theorem zcV(o:Nat):∀ (vs:List Value) (i:Nat) (cur:Array Value) (k:Nat),k<o+i∨o+i+vs.length≤k→(zjL cur o i vs)[k]? = cur[k]?
 | [],_,_,_,_=>rfl
 | v :: vs,i,cur,k,h=>by
  rw[List.length_cons] at h;rw[zjL,zcV o vs (i+1) _ k (by omega),Array.getElem?_setIfInBounds,if_neg (by omega)]
theorem ziF(o:Nat):∀ (vs:List Value) (i:Nat) (cur:Array Value) (k:Nat),o+i+vs.length≤cur.size→k<vs.length→(zjL cur o i vs)[o+i+k]? = vs[k]?
 | [],_,_,_,_,h=>by simp at h
 | v :: vs,i,cur,k,hs,h=>by
  rw[List.length_cons] at hs h;rw[zjL];cases k with
  | zero=>
   show (zjL (cur.setIfInBounds (o+i) v) o (i+1) vs)[o+i]? = some v;rw[zcV o vs (i+1) _ (o+i) (by omega),Array.getElem?_setIfInBounds,if_pos rfl,if_pos (by omega)]
  | succ k=>
   have:=ziF o vs (i+1) (cur.setIfInBounds (o+i) v) k (by rw[Array.size_setIfInBounds];omega) (by omega);rw[show o+i+(k+1)=o+(i+1)+k by omega,this];rfl
theorem LM.put{α:Type}{V:World→Value→α→Prop}{l:List α}(hV:zdy V)(h:LM V w g n c T l)(hl:l.length<n){y:α}(hv:V (jB (g+1) w) v y)(hc:v.cells.toList.length=c):LM V (Zc w g (l.length * c) 0 v.cells.toList) g n c T (l ++ [y]):=by
 obtain ⟨cur,h1,h2,h3⟩:=h.ex;have hfit:l.length * c+c≤n * c:=by
  rw[← Nat.succ_mul];exact Nat.mul_le_mul_right c hl
 have hs:=Sub.kept (B:=g+1) (zS (g:=g) (o:=l.length * c) v.cells.toList 0 w) (fun x hx=>by rw[List.mem_singleton] at hx;omega);refine ⟨_,jN v.cells.toList 0 w cur h1,by rw[zdE,h2],fun j z hz=> ?_⟩;by_cases hj:j<l.length
 ·rw[List.getElem?_append_left hj] at hz
  obtain ⟨u,h4,h5⟩:=h3 j z hz;refine ⟨u,hV _ _ _ _ hs h4,fun i hi=> ?_⟩
  rw[zcV _ _ _ _ _ (.inl (by
   have:j * c+c≤l.length * c:=by rw[← Nat.succ_mul];exact Nat.mul_le_mul_right c hj
   omega))]
  exact h5 i hi
 ·rw[List.getElem?_append_right (by omega)] at hz
  have e0:j - l.length=0:=by
   apply Classical.byContradiction;intro hne;rw[List.getElem?_eq_none (by simp;omega)] at hz;cases hz
  rw[e0] at hz;simp at hz;subst hz;obtain rfl:j=l.length:=by omega
  refine ⟨v,hV _ _ _ _ hs hv,fun i hi=> ?_⟩;have:=ziF (l.length * c) v.cells.toList 0 cur i (by rw[h2,hc];omega) (by omega);rw[Nat.add_zero] at this;rw[this,Array.getElem?_toList]
theorem LM.rows{α:Type}{V:World→Value→α→Prop}{R:World→Nat→Nat→α→Prop}{l:List α}(hV:zdy V)(hL:zbA c V R)(h:LM V w g n c T l)(hB:B≤g):zy (jB B w) c R (some ⟨g,0,none⟩) l:=by
 obtain ⟨cur,h1,h2,h3⟩:=h.ex;refine .inr ⟨g,0,rfl,fun j y hy=> ?_⟩;obtain ⟨v,h4,h5⟩:=h3 j y hy;have h6:=hV _ _ _ _ (Sub.down w (show B≤g+1 by omega)) h4;refine (hL _ v y g (0+j * c) h6).2 (fun i hi=> ?_);rw[Nat.zero_add, ← h5 i hi];rw[World.cell?_of_block (w:=w) (zaH hB)];exact zd h1 _
theorem LM.new{α:Type}{V:World→Value→α→Prop}{cur:Array Value}(h:w.heap[g]? = some (.cells cur T (0,0)))(hs:cur.size=n * c):LM V w g n c T ([]:List α):=
 ⟨cur,h,hs,fun j y hy=>by simp at hy⟩
theorem LM.cell{α:Type}{V:World→Value→α→Prop}{l:List α}(h:LM V w g n c T l){k i:Nat}(hk:k<n)(hi:i<c):(∃ u,w.cell? ⟨g,k * c+i,none⟩=some u)∧w.frozen? ⟨g,k * c+i,none⟩=false:=by
 obtain ⟨cur,h1,h2,h3⟩:=h.ex;have hfit:k * c+c≤n * c:=by
  rw[← Nat.succ_mul];exact Nat.mul_le_mul_right c hk
 refine ⟨?_,zL h1 _⟩;rw[zd h1];exact ⟨_,Array.getElem?_eq_getElem (by omega)⟩
def QK(l:List Nat):List Value:=l.map fun n:Nat=>int i64 (n:Int)
theorem Zn:Tryz.t3.zero=some (int i64 0):=by kernel_rfl
theorem Zi:Tryz.t3.size=1:=by kernel_rfl
theorem jI:Tryz.t3.bytes=8:=by kernel_rfl
theorem qW:Tryz.prog.info? 3=some Tryz.t3:=by kernel_rfl
theorem qn:Tryz.prog.underlying 37=some (.slice 3):=by kernel_rfl
theorem zch{s:Option (List UInt8)}(h:qt w rb s):Calls Tryz.prog 166 #[pointer (some ⟨rb,0,none⟩)] w fun e w'=>e=.returned (.tuple #[])∧qt w' rb none∧zc [rb] w w':=by
 obtain ⟨x,y,hx⟩:∃ x y,w.heap[rb]? = some (.cells #[x,y] 137 (0,0)):=by
  cases s with
  | none=>exact ⟨_,_,h⟩
  | some L=>
   obtain ⟨a,cp,h1,_⟩:=h;exact ⟨_,_,h1⟩
 have c0:=zd hx 0;have c1:=zd hx 1;have z0:=zL hx 0;have z1:=zL hx 1;have hfin:qt ((w.setCell ⟨rb,0,none⟩ (.slice none 0 0)).setCell ⟨rb,1,none⟩ (.bool true)) rb none:=heap_setCell_same _ rb 1 _ _ _ (heap_setCell_same _ rb 0 _ _ _ hx);have hk:zc [rb] w ((w.setCell ⟨rb,0,none⟩ (.slice none 0 0)).setCell ⟨rb,1,none⟩ (.bool true)):=(zc.setCell [rb] _ _ _ (List.mem_singleton.2 rfl)).step (zc.setCell [rb] _ _ _ (List.mem_singleton.2 rfl));have HF:=hid hfin;have HK:=hid hk;clear h hx hfin hk;go_enter Tryz.func166,Tryz.ntmps166;go_wp2_with fail
 go_end0
 exact ⟨rfl,HF.o,HK.o⟩
theorem zaa(u:Nat)(hu:u<18446744073709551616)(w:World):Calls Tryz.prog 165 #[.int .u64 (u:Int)] w fun e w'=>e=.returned (int i64 (zcN u))∧w'=w:=by
 have ea:bits BinOp.and IntKind.u64 (u:Int) 1=(u:Int) % 2:=by
  have:=u64_and_nat u 1 hu (by omega);rw[Nat.and_one_is_mod] at this;exact this.trans (by omega)
 by_cases h:u % 2=1
 ·have e:zcN u= -((u:Int) / 2) - 1:=by rw[zcN,if_pos h];omega
  have h':(u:Int) % 2=1:=by omega
  have HE:=hid e;clear h e;go_enter Tryz.func165,Tryz.ntmps165;go_wp2_with fail;go_ret;exact ⟨by rw[HE.o];go_num,rfl⟩
 ·have e:zcN u=(u:Int) / 2:=by rw[zcN,if_neg h];omega
  have h':¬ (u:Int) % 2=1:=by omega
  have HE:=hid e;clear h e;go_enter Tryz.func165,Tryz.ntmps165;go_wp2_with fail;go_ret;exact ⟨by rw[HE.o];go_num,rfl⟩
abbrev zlp (w:World) (p:Nat):Prop:=Ji w p 1 (-1) 0 0
theorem zd1(w:World):Calls Tryz.prog 82 #[] w fun e w'=>∃ p,e=.returned (Zj p)∧zlp w' p∧zc [] w w':=by
 have H:=hid fun (w':World)=>zen 1 (-1) 0 0 w';go_enter Tryz.func82,Tryz.ntmps82;go_wp2_with fail;refine (H.o _).mono ?_;rintro e w1 ⟨p,rfl,h1,h2⟩;go_wp2_with fail;go_ret;exact ⟨p,rfl,h1,h2⟩
end Go.Proofs.YtkgoimokgbdgfaaGreatDoor
