import Derived.Maps.OwnSet
import Derived.ChangeKeysEq
import Derived.Test.YthflgjkmbakedaaGreatDoorCards
import Derived.Test.YthflgjkmbakedaaGreatDoorTie
import Derived.ProofKit
import Derived.OpenShut
import Derived.ChangeOld
import Derived.Deep.DeepHandedRow
import Derived.Lib.LaidTab
import Derived.LaidHandle
import Derived.Stop.LaidErr
import Derived.Test.YthflgjkmbakedaaGreatDoorN04

namespace Go.Proofs.YthflgjkmbakedaaGreatDoor
open Go.RowKit
open Go.Value (int pointer agg)
open Go.IntKind (i64)
set_option maxHeartbeats 4000000
variable {A a:Act}{M f p s:Nat}{P:Pr8}{W0 w w':World}{ev:Operand→Value}{ks:List (Int × Int)}{o oi:Oper}{v:Value}{vs:List Value}{x:Operand}
def kkV(q:Int × Int):Value:=agg #[int i64 q.1,int i64 q.2]
theorem zkd(w:World)(d:Nat)(x y:Int):(Op.equalIn (d+1) 3 (int i64 x) (int i64 y)).run Tryz.prog w=.ok (x == y) w:=by
 simp[Op.equalIn,run_underlying Tryz.underlying3]
theorem ziN(w:World)(x y:Int):(part 3 #[int i64 x,int i64 y] 0).run Tryz.prog w=.ok (int i64 x) w:=by kernel_rfl
theorem ziE(w:World)(x y:Int):(part 3 #[int i64 x,int i64 y] 1).run Tryz.prog w=.ok (int i64 y) w:=by kernel_rfl
theorem zkm:Tryz.prog.cellsOf 3=1:=by kernel_rfl
theorem zdH(q r:Int × Int)(w:World):(Op.equal 260 (kkV q) (kkV r)).run Tryz.prog w=.ok (decide (q=r)) w:=by
 have h:∀ d:Nat,(Op.equalIn (d+2) 260 (kkV q) (kkV r)).run Tryz.prog w=.ok (decide (q=r)) w:=fun d=>by
  unfold kkV;rw[run_equalIn_array w (d+1) _ _ Tryz.underlying260 (show Tryz.prog.info? 3=some Tryz.t3 by kernel_rfl),zkm];have er:List.range 2=[0,1]:=rfl;rw[er];simp only[Op.eqItems,Sem.run_bind,Nat.zero_mul,Nat.one_mul,ziN,zkd,Result.andThen_ok];obtain ⟨a,b⟩:=q;obtain ⟨c,e⟩:=r;by_cases h1:a=c <;> by_cases h2:b=e <;> simp[h1,h2,ziE,zkd,Result.andThen]
 exact h 9998
theorem jC(q:Int × Int)(w:World):∀ (es:List MapEntry) (ks:List (Int × Int)) (i:Nat),es.map (·.key)=ks.map kkV→
  (q∈ks→∃ j u,i≤j∧j<i+es.length∧es[j - i]?.map (·.key)=some (kkV q)∧(Instr.findAsking 260 (kkV q) es i).run Tryz.prog w=.ok (some (j,u)) w)∧(q ∉ ks→(Instr.findAsking 260 (kkV q) es i).run Tryz.prog w=.ok none w)
 | [],[],i,_=>⟨(fun h=>by cases h),fun _=>by simp[Instr.findAsking]⟩
 | [],k :: ks,i,h=>by simp at h
 | e :: es,[],i,h=>by simp at h
 | e :: es,k :: ks,i,h=>by
  simp only[List.map_cons,List.cons.injEq] at h;by_cases hq:q=k
  ·subst hq
   exact ⟨fun _=>⟨i,e.val,Nat.le_refl _,by simp,by simp[h.1],by simp[Instr.findAsking,h.1,zdH]⟩,fun hn=>absurd (List.mem_cons_self ..) hn⟩
  ·obtain ⟨ih1,ih2⟩:=jC q w es ks (i+1) h.2
   refine ⟨fun hm=> ?_,fun hn=> ?_⟩
   ·rcases List.mem_cons.1 hm with rfl | hm
    ·exact absurd rfl hq
    ·obtain ⟨j,u,h1,h2,h3,h4⟩:=ih1 hm
     refine ⟨j,u,by omega,by simp;omega,?_,by simp[Instr.findAsking,h.1,zdH,hq,h4]⟩;rw[show j - i=(j - (i+1))+1 by omega,List.getElem?_cons_succ];exact h3
   ·have:=ih2 (fun hm=>hn (List.mem_cons_of_mem _ hm))
    simp[Instr.findAsking,h.1,zdH,hq,this]
theorem zgS(q:Int × Int)(w:World)(es:List MapEntry)(ks:List (Int × Int))(h:es.map (·.key)=ks.map kkV):
  (q∈ks→∃ j u,j<es.length∧es[j]?.map (·.key)=some (kkV q)∧(Instr.findKey 260 (kkV q) es).run Tryz.prog w=.ok (some (j,u)) w)∧(q ∉ ks→(Instr.findKey 260 (kkV q) es).run Tryz.prog w=.ok none w):=by
 obtain ⟨h1,h2⟩:=jC q w es ks 0 h;rcases es with _ | ⟨e,es⟩
 ·rcases ks with _ | ⟨k,ks⟩
  ·exact ⟨(fun h=>by cases h),fun _=>by simp[Instr.findKey,run_underlying Tryz.underlying260,Instr.findNow]⟩
  ·simp at h
 ·rcases ks with _ | ⟨k,ks⟩
  ·simp at h
  ·simp only[List.map_cons,List.cons.injEq] at h
   have e1:∀ n t,Instr.findNow (TypeDesc.array n t) (kkV q) (e :: es) 0=none:=fun n t=>by
    simp[Instr.findNow,Instr.sameNow]
   have e2:(Instr.findKey 260 (kkV q) (e :: es)).run Tryz.prog w=(Instr.findAsking 260 (kkV q) (e :: es) 0).run Tryz.prog w:=by
    rw[Instr.findKey];simp only[Sem.run_bind,run_underlying Tryz.underlying260,Result.andThen_ok,e1]
   rw[e2];refine ⟨fun hm=> ?_,h2⟩;obtain ⟨j,u,a1,a2,a3,a4⟩:=h1 hm;exact ⟨j,u,by omega,a3,a4⟩
theorem zfG(b:Bool)(q:Int × Int)(w:World):(Instr.checkKey b 10000 260 (kkV q)).run Tryz.prog w=.ok () w:=by
 have hi:∀ (d:Nat) (x:Int),(Instr.checkKey b (d+1) 3 (int i64 x)).run Tryz.prog w=.ok () w:=fun d x=>by
  simp[Instr.checkKey,run_underlying Tryz.underlying3]
 have hs:(Go.sizeOf 3).run Tryz.prog w=.ok 1 w:=by kernel_rfl
 have h:∀ d:Nat,(Instr.checkKey b (d+2) 260 (kkV q)).run Tryz.prog w=.ok () w:=fun d=>by
  unfold kkV;rw[Instr.checkKey];simp only[Sem.run_bind,run_underlying Tryz.underlying260,Result.andThen_ok];simp[Std.Legacy.Range.forIn_eq_forIn_range',Std.Legacy.Range.size,List.range',hs,ziN,ziE,hi,Result.andThen]
 exact h 9998
theorem zhb(q:Int × Int):Instr.sameBits 10000 (kkV q) (kkV q)=true:=by
 have:∀ n,Instr.sameBits (n+2) (kkV q) (kkV q)=true:=fun n=>by simp[Instr.sameBits,kkV]
 exact this 9998
structure ji (w:World) (M:Nat) (ks:List (Int × Int)):Prop where
 heap:∃ es clock,w.heap[M]? = some (.map es clock)∧es.toList.map (·.key)=ks.map kkV
 nodup:ks.Nodup
theorem ji.lt(h:ji w M ks):M<w.heap.size:=by
 obtain ⟨es,clock,hm,_⟩:=h.heap;exact (Array.getElem?_eq_some_iff.1 hm).1
theorem ji.put(h:ji w M ks)(q:Int × Int):
  ∃ w',(Instr.mapUpdate 258 (.map (some M)) (kkV q) (agg #[])).run Tryz.prog w=.ok () w'∧ji w' M (if q∈ks then ks else ks ++ [q])∧za [M] w w':=by
 obtain ⟨es,clock,hM,hk⟩:=h.heap;obtain ⟨f1,f2⟩:=zgS q w es.toList ks hk;have hck:=zfG false q w;have hkeep:∀ o,za [M] w (ChangeMaps.setBlock w M o):=fun o=>
  ⟨rfl,rfl,rfl,by simp[ChangeMaps.setBlock],fun i _ hi=>ChangeMaps.heap_setBlock_other hM _ (fun e=>hi (by simp[e]))⟩
 by_cases hq:q∈ks
 ·obtain ⟨j,u,hj,hkj,hf⟩:=f1 hq
  rw[if_pos hq];have hj':j<es.size:=by simpa using hj
  obtain ⟨e,he⟩:∃ e,es[j]? = some e:=⟨_,Array.getElem?_eq_getElem hj'⟩;have hke:e.key=kkV q:=by
   have:=hkj;rw[Array.getElem?_toList,he] at this;simpa using this
  have hst:(Instr.keyThatStays (kkV q) (kkV q)).run Tryz.prog w=.ok (kkV q) w:=by
   have:Instr.sameBits 10000 (kkV q) (kkV q)=true:=zhb q;simp[Instr.keyThatStays,this]
  have hrun:∃ es',(Instr.mapUpdate 258 (.map (some M)) (kkV q) (agg #[])).run Tryz.prog w=.ok () (ChangeMaps.setBlock w M (.map es' clock))∧es'.toList.map (·.key)=es.toList.map (·.key):=by
   refine ⟨es.modify j (fun e=>{ e with key:=kkV q,val:=agg #[] }),?_,?_⟩
   ·simp[Instr.mapUpdate,run_underlying Tryz.underlying258,MapKept.run_getObj_map hM,hck,hf,he,hke,hst,MapKept.run_setObj_map _ hM,Result.andThen,ChangeMaps.setBlock]
   ·apply List.ext_getElem?
    intro i;simp only[List.getElem?_map,Array.getElem?_toList,Array.getElem?_modify];by_cases hi:j=i
    ·subst hi
     rw[if_pos rfl,he];simp[hke]
    ·rw[if_neg hi]
  obtain ⟨es',hr,hes⟩:=hrun;exact ⟨_,hr,⟨⟨_,_,ChangeMaps.heap_setBlock_same hM _,hes.trans hk⟩,h.nodup⟩,hkeep _⟩
 ·have hf:=f2 hq
  rw[if_neg hq];have hrun:(Instr.mapUpdate 258 (.map (some M)) (kkV q) (agg #[])).run Tryz.prog w=.ok () (ChangeMaps.setBlock w M (.map (es.push ⟨kkV q,agg #[],clock⟩) (clock+1))):=by
   simp[Instr.mapUpdate,run_underlying Tryz.underlying258,MapKept.run_getObj_map hM,hck,hf,MapKept.run_setObj_map _ hM,Result.andThen,ChangeMaps.setBlock]
  refine ⟨_,hrun,⟨⟨_,_,ChangeMaps.heap_setBlock_same hM _,by simp[hk]⟩,?_⟩,hkeep _⟩;rw[List.nodup_append];exact ⟨h.nodup,by simp,fun a ha b hb=>by simp at hb;subst hb;exact fun e=>hq (e ▸ ha)⟩
theorem ji.kept{L:List Nat}(h:ji w M ks)(k:za L w w')(hM:M ∉ L):ji w' M ks:=by
 have hlt:=h.lt;obtain ⟨es,clock,hm,hk⟩:=h.heap;exact ⟨⟨es,clock,(k.block M hlt hM).trans hm,hk⟩,h.nodup⟩
theorem ji.made(w:World):ji (w.alloc (.map #[] 0)) w.heap.size []:=⟨⟨#[],0,heap_alloc_new _ _,rfl⟩,by simp⟩
theorem ji.size(h:ji w M ks):∃ es clock,w.heap[M]? = some (.map es clock)∧es.size=ks.length:=by
 obtain ⟨es,clock,hm,hk⟩:=h.heap;refine ⟨es,clock,hm,?_⟩;have:=congrArg List.length hk;simpa using this
section
open Go.Extern.Stop Go.Stop Go.Extern
theorem zgX{cs:Array Value}{t:TypeId}(h:w.heap[p]? = some (.cells cs t (0,0)))(k:Nat):w.frozen? ⟨p,k,none⟩=false:=zg h k
structure zbZ (w:World):Prop where
 et:w.cell? ⟨0,0,none⟩=some (.iface 323 (agg #[pointer (some ⟨2,105,none⟩)]))
theorem zbZ.quiet(g:zbZ w)(k:za [] w w'):zbZ w':=⟨zb k g.et⟩
theorem zd1{cs:Array Value}{T:TypeId}(h:w.heap[p]? = some (.cells cs T (0,0)))(k:Nat):w.cell? ⟨p,k,none⟩=cs[k]? := cell_of_row w p k _ _ _ h
theorem zac(t:Addr)(w:World):(ReflectliteValue.unpack (.iface 206 (.pointer (some t)))).run Tryz.prog w
  = .ok (agg #[pointer (some ⟨2,206,none⟩),pointer (some ⟨w.heap.size,0,none⟩),.int .u64 150]) (w.alloc (.cells #[.pointer (some t)] 206)):=by kernel_rfl
theorem zfn(a:Addr)(w:World):(ReflectliteValue.methodAny (ReflectliteValue.valueError "reflectlite.Value.Type" 0) (fun t _ _ _=>ReflectliteType.toType t) #[agg #[pointer (some ⟨2,206,none⟩),.pointer (some a),.int .u64 150]]).run Tryz.prog w
  = .ok (.iface 323 (agg #[pointer (some ⟨2,206,none⟩)])) w:=by kernel_rfl
theorem Jr(h:Value)(w:World):(Go.method 476 323 (agg #[h]) "Kind").run Tryz.prog w=.ok (274,h) w:=by kernel_rfl
theorem zfw(w:World):((ReflectliteType.abiMethod fun t=>(fun a:Nat=>Value.int IntKind.u8 (a:Int)) <$> Rtype.kind t) #[pointer (some ⟨2,206,none⟩)]).run Tryz.prog w=.ok (.int .u8 22) w:=by kernel_rfl
theorem zh4(w:World):((ReflectliteType.abiMethod fun t=>(fun a:Nat=>Value.int IntKind.u8 (a:Int)) <$> Rtype.kind t) #[pointer (some ⟨2,204,none⟩)]).run Tryz.prog w=.ok (.int .u8 22) w:=by kernel_rfl
theorem Jd(a:Addr)(w:World):(ReflectliteValue.parts (agg #[pointer (some ⟨2,206,none⟩),.pointer (some a),.int .u64 150])).run Tryz.prog w=.ok (some (206,a,150)) w:=by kernel_rfl
theorem zcE(a p:Addr)(W:World)(ha:W.cell? a=some (.pointer (some p))):
  (ReflectliteValue.method (ReflectliteValue.valueError "reflectlite.Value.IsNil" 0) ReflectliteValue.isNil #[agg #[pointer (some ⟨2,206,none⟩),.pointer (some a),.int .u64 150]]).run Tryz.prog W=.ok (.bool false) W:=by
 change Sem.run _ (ReflectliteValue.parts (agg #[pointer (some ⟨2,206,none⟩),.pointer (some a),.int .u64 150]) >>= _) W=_;simp only[Sem.run_bind,Jd,Result.andThen];simp[ReflectliteValue.isNil,loadVar,isAgg,underlying,Tryz.underlying206,ha,Result.andThen]
theorem QY(h:Value)(w:World):(Go.method 476 323 (agg #[h]) "Elem").run Tryz.prog w=.ok (287,agg #[h]) w:=by kernel_rfl
theorem Ze(h:Value)(w:World):(Go.method 476 323 (agg #[h]) "Implements").run Tryz.prog w=.ok (288,agg #[h]) w:=by kernel_rfl
theorem j9(h:Value)(w:World):(Go.method 476 323 (agg #[h]) "AssignableTo").run Tryz.prog w=.ok (285,agg #[h]) w:=by kernel_rfl
theorem zfe(w:World):(ReflectliteType.method ReflectliteType.elem #[agg #[pointer (some ⟨2,206,none⟩)]]).run Tryz.prog w=.ok (.iface 323 (agg #[pointer (some ⟨2,204,none⟩)])) w:=by kernel_rfl
theorem Q3(w:World):(ReflectliteType.relation "Implements" ReflectliteType.implements_ #[agg #[pointer (some ⟨2,204,none⟩)],.iface 323 (agg #[pointer (some ⟨2,105,none⟩)])]).run Tryz.prog w=.ok (.bool true) w:=by kernel_rfl
theorem zdj(v:Value)(w:World):(ReflectliteType.typeOf #[.iface 204 v]).run Tryz.prog w=.ok (.iface 323 (agg #[pointer (some ⟨2,204,none⟩)])) w:=by kernel_rfl
theorem QN(w:World):(ReflectliteType.relation "AssignableTo" ReflectliteType.assignableTo #[agg #[pointer (some ⟨2,204,none⟩)],.iface 323 (agg #[pointer (some ⟨2,204,none⟩)])]).run Tryz.prog w=.ok (.bool true) w:=by kernel_rfl
theorem zbu(e:Addr)(w:World):(ReflectliteValue.unpack (.iface 204 (.pointer (some e)))).run Tryz.prog w
  = .ok (agg #[pointer (some ⟨2,204,none⟩),pointer (some ⟨w.heap.size,0,none⟩),.int .u64 150]) (w.alloc (.cells #[.pointer (some e)] 204)):=by kernel_rfl
theorem zbL(w:World):(Rtype.elem? 206).run Tryz.prog w=.ok (some 204) w:=by kernel_rfl
theorem zjw(p:Addr)(w:World):(ReflectliteValue.mk 204 p ReflectliteValue.flagAddr).run Tryz.prog w=.ok (agg #[pointer (some ⟨2,204,none⟩),.pointer (some p),.int .u64 406]) w:=by kernel_rfl
theorem zdF(a p:Addr)(W:World)(ha:W.cell? a=some (.pointer (some p))):
  (ReflectliteValue.method (ReflectliteValue.valueError "reflectlite.Value.Elem" 0) ReflectliteValue.elem #[agg #[pointer (some ⟨2,206,none⟩),.pointer (some a),.int .u64 150]]).run Tryz.prog W
   = .ok (agg #[pointer (some ⟨2,204,none⟩),.pointer (some p),.int .u64 406]) W:=by
 change Sem.run _ (ReflectliteValue.parts (agg #[pointer (some ⟨2,206,none⟩),.pointer (some a),.int .u64 150]) >>= _) W=_;simp only[Sem.run_bind,Jd,Result.andThen];simp[ReflectliteValue.elem,loadVar,isAgg,underlying,Tryz.underlying206,ha,Result.andThen,zbL,zjw]
theorem zcl(a:Addr)(w:World):(ReflectliteValue.parts (agg #[pointer (some ⟨2,204,none⟩),.pointer (some a),.int .u64 406])).run Tryz.prog w=.ok (some (204,a,406)) w:=by kernel_rfl
theorem zeB(a:Addr)(w:World):(ReflectliteValue.parts (agg #[pointer (some ⟨2,204,none⟩),.pointer (some a),.int .u64 150])).run Tryz.prog w=.ok (some (204,a,150)) w:=by kernel_rfl
theorem zec(w:World):(Rtype.directlyAssignable 204 204).run Tryz.prog w=.ok true w:=by kernel_rfl
theorem ziu(ta b e:Addr)(old:Value)(W:World)(hb:W.cell? b=some (.pointer (some e)))(ht:W.cell? ta=some old)(hf:W.frozen? ta=false):
  (ReflectliteValue.set #[agg #[pointer (some ⟨2,204,none⟩),.pointer (some ta),.int .u64 406],agg #[pointer (some ⟨2,204,none⟩),.pointer (some b),.int .u64 150]]).run Tryz.prog W
   = .ok (.tuple #[]) (W.setCell ta (.pointer (some e))):=by
 change Sem.run _ (ReflectliteValue.parts (agg #[pointer (some ⟨2,204,none⟩),.pointer (some ta),.int .u64 406]) >>= fun r=>ReflectliteValue.parts (agg #[pointer (some ⟨2,204,none⟩),.pointer (some b),.int .u64 150]) >>= fun s=>_) W=_;simp only[Sem.run_bind,zcl,zeB,Result.andThen];simp[ReflectliteValue.flagAddr,loadVar,isAgg,underlying,Tryz.underlying204,hb,Result.andThen,zec,storeVar,Value.cells,storeCells,Addr.add];rw[run_store Tryz.prog W ta _ _ (by rfl)];simp[ht,hf]
abbrev Zx (p:Nat):Value:=.iface 204 (pointer (some ⟨p,0,none⟩))
theorem zij(p t a:Nat)(w:World)(ht:w.heap[t]? = some (.cells #[.pointer none] 204 (0,0)))(ha:w.heap[a]? = some (.cells #[pointer (some ⟨t,0,none⟩)] 206 (0,0))):
  Calls Tryz.prog 219 #[Zx p,.iface 206 (pointer (some ⟨t,0,none⟩)),agg #[pointer (some ⟨2,206,none⟩),pointer (some ⟨a,0,none⟩),.int .u64 150],.iface 323 (agg #[pointer (some ⟨2,204,none⟩)])] w
   fun e w'=>e=.returned (.bool true)∧za [t] w w'∧w'.heap[t]? = some (.cells #[pointer (some ⟨p,0,none⟩)] 204 (0,0)):=by
 have h26:= @run_callFunc_extern Tryz.prog 216 _ (fun args=>ReflectliteValue.unpack (args.getD 0 (.tuple #[]))) Tryz.func216 (by kernel_rfl) (by kernel_rfl) (by kernel_rfl) (by kernel_rfl);have h32:= @run_callFunc_extern Tryz.prog 246 _ ReflectliteType.typeOf Tryz.func246 (by kernel_rfl) (by kernel_rfl) (by kernel_rfl) (by kernel_rfl);have h76:= @run_callFunc_extern Tryz.prog 285 _ (ReflectliteType.relation "AssignableTo" ReflectliteType.assignableTo) Tryz.func285 (by kernel_rfl) (by kernel_rfl) (by kernel_rfl) (by kernel_rfl);have h37:= @run_callFunc_extern Tryz.prog 247 _ (ReflectliteValue.method (ReflectliteValue.valueError "reflectlite.Value.Elem" 0) ReflectliteValue.elem) Tryz.func247 (by kernel_rfl) (by kernel_rfl) (by kernel_rfl) (by kernel_rfl);have h38:= @run_callFunc_extern Tryz.prog 248 _ ReflectliteValue.set Tryz.func248 (by kernel_rfl) (by kernel_rfl) (by kernel_rfl) (by kernel_rfl);have f1:=zdj;have f3:=j9;have f4:=QN;have f6:=zbu;have htl:=zx ht;have hal:=zx ha;have k1:za [t] w (w.alloc (.cells #[pointer (some ⟨2,206,none⟩),pointer (some ⟨a,0,none⟩),.int .u64 150] 282)):=za.alloc _ _ _;have b1:=(za.alloc [] w (.cells #[pointer (some ⟨2,206,none⟩),pointer (some ⟨a,0,none⟩),.int .u64 150] 282)).block;have hb1:(w.alloc (.cells #[pointer (some ⟨2,206,none⟩),pointer (some ⟨a,0,none⟩),.int .u64 150] 282)).heap[w.heap.size]? = some (.cells #[pointer (some ⟨2,206,none⟩),pointer (some ⟨a,0,none⟩),.int .u64 150] 282 (0,0)):=zd _ _;have ht1:=hid ((b1 t htl (by simp)).trans ht);have ha1:=hid ((b1 a hal (by simp)).trans ha);go_enter Tryz.func219,Tryz.ntmps219;go_wp2;clear ht ha b1;generalize w.alloc (.cells #[pointer (some ⟨2,206,none⟩),pointer (some ⟨a,0,none⟩),.int .u64 150] 282)=w1 at *;have c0:w1.cell? ⟨w.heap.size,0,none⟩=some (pointer (some ⟨2,206,none⟩)):=zd1 hb1 0;have c1:w1.cell? ⟨w.heap.size,1,none⟩=some (pointer (some ⟨a,0,none⟩)):=zd1 hb1 1;have c2:w1.cell? ⟨w.heap.size,2,none⟩=some (.int .u64 150):=zd1 hb1 2;have HB:=hid hb1;clear hb1;generalize w.heap.size=q at *;have K1:=hid k1;clear k1
 go_loop [0] (fun v=>v=Zx p) (fun _=>0)
 case atStart=>rfl
 case round=>
  subst hrel;have el:=zdF ⟨a,0,none⟩ ⟨t,0,none⟩ w1 (zd1 ha1.o 0);have htl1:=zx ht1.o;have st:=ziu ⟨t,0,none⟩ ⟨w1.heap.size,0,none⟩ ⟨p,0,none⟩ (.pointer none) (w1.alloc (.cells #[pointer (some ⟨p,0,none⟩)] 204)) (by simp) (by rw[World.cell?_alloc_lt _ _ ⟨t,0,none⟩ htl1];exact zd1 ht1.o 0)
   (by rw[World.frozen?_alloc_old _ _ ⟨t,0,none⟩ (Nat.ne_of_lt htl1)];exact zgX ht1.o 0)
  go_wp2;go_ret;have ks:za [t] w1 (w1.setCell ⟨t,0,none⟩ (pointer (some ⟨p,0,none⟩))):=za.setCell [t] _ _ _ (List.mem_singleton.2 rfl);refine ⟨rfl,(K1.o.step ks).step (za.alloc [t] _ _),?_⟩;rw[(za.alloc [] _ _).block t (Nat.lt_of_lt_of_le htl1 ks.size) (by simp),heap_setCell_same _ t 0 _ _ _ ht1.o];rfl
theorem zi3(p t:Nat)(w:World)(hg:zbZ w)(ht:w.heap[t]? = some (.cells #[.pointer none] 204 (0,0))):
  Calls Tryz.prog 138 #[Zx p,.iface 206 (pointer (some ⟨t,0,none⟩))] w
   fun e w'=>e=.returned (.bool true)∧za [t] w w'∧w'.heap[t]? = some (.cells #[pointer (some ⟨p,0,none⟩)] 204 (0,0)):=by
 have h26:= @run_callFunc_extern Tryz.prog 216 _ (fun args=>ReflectliteValue.unpack (args.getD 0 (.tuple #[]))) Tryz.func216 (by kernel_rfl) (by kernel_rfl) (by kernel_rfl) (by kernel_rfl);have h27:= @run_callFunc_extern Tryz.prog 217 _ (ReflectliteValue.methodAny (ReflectliteValue.valueError "reflectlite.Value.Type" 0) (fun t _ _ _=>ReflectliteType.toType t)) Tryz.func217 (by kernel_rfl) (by kernel_rfl) (by kernel_rfl) (by kernel_rfl);have h28:= @run_callFunc_extern Tryz.prog 218 _ (ReflectliteValue.method (ReflectliteValue.valueError "reflectlite.Value.IsNil" 0) ReflectliteValue.isNil) Tryz.func218 (by kernel_rfl) (by kernel_rfl) (by kernel_rfl) (by kernel_rfl);have h67:= @run_callFunc_extern Tryz.prog 274 _ (ReflectliteType.abiMethod fun t=>do pure (.int .u8 (← Rtype.kind t))) Tryz.func274 (by kernel_rfl) (by kernel_rfl) (by kernel_rfl) (by kernel_rfl);have h78:= @run_callFunc_extern Tryz.prog 287 _ (ReflectliteType.method ReflectliteType.elem) Tryz.func287 (by kernel_rfl) (by kernel_rfl) (by kernel_rfl) (by kernel_rfl);have h79:= @run_callFunc_extern Tryz.prog 288 _ (ReflectliteType.relation "Implements" ReflectliteType.implements_) Tryz.func288 (by kernel_rfl) (by kernel_rfl) (by kernel_rfl) (by kernel_rfl);have f1:=zac;have f2:=zfn;have f3:=Jr;have f4:=zfw;have f5:=zh4;have f6:=QY;have f7:=Ze;have f8:=zfe;have f9:=Q3;have n8:=zcE ⟨w.heap.size,0,none⟩ ⟨t,0,none⟩ ((w.alloc (.cells #[pointer (some ⟨t,0,none⟩)] 206)).alloc (.cells #[pointer (some ⟨2,206,none⟩),pointer (some ⟨w.heap.size,0,none⟩),.int .u64 150] 282)) (by simp);have k2:=((za.refl [] w).step (za.alloc [] w (.cells #[pointer (some ⟨t,0,none⟩)] 206))).step (za.alloc [] _ (.cells #[pointer (some ⟨2,206,none⟩),pointer (some ⟨w.heap.size,0,none⟩),.int .u64 150] 282));have g2:=(hg.quiet k2).et
 have HA:=hid (zij p t w.heap.size ((w.alloc (.cells #[pointer (some ⟨t,0,none⟩)] 206)).alloc (.cells #[pointer (some ⟨2,206,none⟩),pointer (some ⟨w.heap.size,0,none⟩),.int .u64 150] 282))
  ((k2.block t (zx ht) (by simp)).trans ht) (by rw[(za.alloc [] _ _).block _ (by simp) (by simp)];exact zd _ _))
 have K2:=hid k2;clear k2;go_enter Tryz.func138,Tryz.ntmps138;go_wp2_with (go_at_call 219;refine HA.o.mono ?_;rintro e w' ⟨rfl,hk,hh⟩);go_ret;exact ⟨rfl,(K2.o.mono (by simp)).step hk,hh⟩
def zcX(w:World)(p:Nat)(y f b i:Int)(v:Value):Prop:=w.heap[p]? = some (.cells #[int i64 y,int i64 f,int i64 b,int i64 i,v] 208 (0,0))
theorem zcX.quiet{y f b i:Int}(h:zcX w p y f b i v)(k:za [] w w'):zcX w' p y f b i v:=ze h k
def Zz(w:World)(p:Nat)(y f b i:Int):Prop:=zcX w p y f b i .nilIface
theorem Zz.quiet{y f b i:Int}(h:Zz w p y f b i)(k:za [] w w'):Zz w' p y f b i:=zcX.quiet h k
theorem zdc(y f b i:Int)(w:World):Calls Tryz.prog 135 #[int i64 y,agg #[int i64 f,int i64 b,int i64 i],.nilIface] w fun e w'=>∃ p,e=.returned (Zx p)∧Zz w' p y f b i∧za [] w w':=by
 have k2:=((za.refl [] w).step (za.alloc [] w (.cells #[int i64 f,int i64 b,int i64 i] 99))).step (za.alloc [] _ (.cells #[int i64 y,int i64 f,int i64 b,int i64 i,.nilIface] 208));have hn:=zd (w.alloc (.cells #[int i64 f,int i64 b,int i64 i] 99)) (.cells #[int i64 y,int i64 f,int i64 b,int i64 i,.nilIface] 208);rw[World.size_alloc] at hn;have H:=hid (show Zz _ (w.heap.size+1) y f b i from hn);have K:=hid k2;clear k2 hn;go_enter Tryz.func135,Tryz.ntmps135;go_wp2;go_ret;exact ⟨w.heap.size+1,rfl,H.o,K.o⟩
def jt(y f b i:Int)(w:World)(e:Ending)(w':World):Prop:=∃ p,e=.returned (Zx p)∧Zz w' p y f b i∧za [] w w'
theorem je(y f b i:Int)(w:World):Calls Tryz.prog 129 #[int i64 y,agg #[int i64 f,int i64 b,int i64 i]] w (jt y f b i w):=by
 have H:=hid fun (w':World)=>zdc y f b i w';go_enter Tryz.func129,Tryz.ntmps129;go_wp2_with fail;refine (H.o _).mono ?_;rintro e w1 ⟨p,rfl,h1,h2⟩;go_wp2_with fail;go_ret;exact ⟨p,rfl,h1,(za.alloc [] _ _).quiet h2⟩
theorem qx(y:Int)(w:World):Calls Tryz.prog 120 #[int i64 y] w (jt y (-1) 0 0 w):=by
 have H:=hid fun (w':World)=>je y (-1) 0 0 w';go_enter Tryz.func120,Tryz.ntmps120;go_wp2_with fail;refine (H.o _).mono ?_;rintro e w1 ⟨p,rfl,h1,h2⟩;go_wp2_with fail;go_ret;exact ⟨p,rfl,h1,h2⟩
end
section
variable {P:Program}{ops:Array Oper}{Q:Exit→Act→World→Prop}
def zE:List Oper→List Value→Act→Act
 | o :: os,v :: vs,a=>zE os vs (a.put o.dst v)
 | _,_,a=>a
theorem jS(a:Act)(d:Option Tmp)(v:Value):(a.put d v).tmps.size=a.tmps.size:=by cases d <;> simp[Act.put]
theorem j6(a:Act)(d:Option Tmp)(v:Value):(a.put d v).defers=a.defers:=by cases d <;> rfl
theorem q8{a:Act}{d:Option Tmp}{v:Value}{s:Nat}(h:d≠some s):(a.put d v).tmps[s]? = a.tmps[s]? := by
 cases d with
 | none=>rfl
 | some d=>
  have hne:d≠s:=fun e=>h (e ▸ rfl);simp[Act.put,Array.getElem?_setIfInBounds_ne hne]
theorem zaG{a:Act}{s:Nat}{v:Value}(h:s<a.tmps.size):(a.put (some s) v).tmps[s]? = some v:=by
 simp[Act.put,Array.getElem?_setIfInBounds_self_of_lt h]
theorem zat:∀ (os:List Oper) (vs:List Value) (a:Act),(zE os vs a).tmps.size=a.tmps.size
 | [],_,_=>rfl
 | _ :: _,[],_=>rfl
 | o :: os,v :: vs,a=>by
  show (zE os vs (a.put o.dst v)).tmps.size=_;rw[zat os vs,jS]
theorem qn:∀ (os:List Oper) (vs:List Value) (a:Act),(zE os vs a).defers=a.defers
 | [],_,_=>rfl
 | _ :: _,[],_=>rfl
 | o :: os,v :: vs,a=>by
  show (zE os vs (a.put o.dst v)).defers=_;rw[qn os vs,j6]
theorem qj{s:Nat}:∀ (os:List Oper) (vs:List Value) (a:Act),(∀ (k:Nat) (o:Oper),os[k]? = some o→o.dst≠some s)→(zE os vs a).tmps[s]? = a.tmps[s]?
 | [],_,_,_=>rfl
 | _ :: _,[],_,_=>rfl
 | o :: os,v :: vs,a,h=>by
  show (zE os vs (a.put o.dst v)).tmps[s]? = _;rw[qj os vs _ (fun k x hx=>h (k+1) x (by simpa using hx)),q8 (h 0 o rfl)]
theorem Zg{s:Nat}{v0:Value}{o0:Oper}:∀ (os:List Oper) (vs:List Value) (a:Act) (k:Nat),os[k]? = some o0→vs[k]? = some v0→o0.dst=some s→s<a.tmps.size→(∀ (j:Nat) (o:Oper),j≠k→os[j]? = some o→o.dst≠some s)→(zE os vs a).tmps[s]? = some v0
 | [],_,_,k,h,_,_,_,_=>by simp at h
 | _ :: _,[],_,k,_,h,_,_,_=>by simp at h
 | o :: os,v :: vs,a,0,ho,hv,hd,hs,hn=>by
  simp at ho hv;subst ho hv;show (zE os vs (a.put o.dst v)).tmps[s]? = _;rw[qj os vs _ (fun k x hx=>hn (k+1) x (by omega) (by simpa using hx)),hd];exact zaG hs
 | o :: os,v :: vs,a,k+1,ho,hv,hd,hs,hn=>by
  show (zE os vs (a.put o.dst v)).tmps[s]? = _;exact Zg os vs _ k (by simpa using ho) (by simpa using hv) hd (by rw[jS];exact hs) (fun j x hj hx=>hn (j+1) x (by omega) (by simpa using hx))
def qc(ops:Array Oper)(n i j:Nat):Bool:=
 match ops[i]?,ops[j]? with
 | some oi,some oj=>(i == j || oi.dst.isNone || oi.dst != oj.dst) && (match oj.dst with
  | some d=>decide (d<n) && (!(oi.looksAt ops).contains d || oi.after.any fun e=>Region.binds .any e && e.on == j)
  | none=>true)
 | _,_=>false
def zb0(ops:Array Oper)(n:Nat):Bool:=
 Region.noSelect ops && ((List.range ops.size).all (fun i=>(List.range ops.size).all fun j=>qc ops n i j) &&
  (List.range ops.size).all (fun i=>(ops[i]?).isSome && ((ops[i]?).map (fun o=>o.after.all fun e=> !Region.binds .any e || decide (e.on<i))).getD false))
def zhL (P : Program) (ops : Array Oper) (A : Act) (W0 : World) (o : Oper) (v : Value) : Prop :=
  (Region.wanted o (yielded ops A.tmps) = true ∧ ∀ w, za [] W0 w →
    ((∃ w', (execOp A.eval o).run P w = .ok (.value v) w' ∧ za [] w w') ∨
     (∃ f args, (execOp A.eval o).run P w = .ok (.enter f args) w ∧ Calls P f args w fun e w' => e = .returned v ∧ za [] w w'))) ∨
  (Region.wanted o (yielded ops A.tmps) = false ∧ v = undef)
theorem Qi{A:Act}{W0:World}{o:Oper}{v:Value}(hw:Region.wanted o (yielded ops A.tmps)=true)(h:∀ w,za [] W0 w→(execOp A.eval o).run P w=.ok (.value v) w):zhL P ops A W0 o v:=
 .inl ⟨hw,fun w k=>.inl ⟨w,h w k,za.refl _ _⟩⟩
theorem zc2{A:Act}{W0:World}{o:Oper}(hw:Region.wanted o (yielded ops A.tmps)=false):zhL P ops A W0 o undef:=.inr ⟨hw,rfl⟩
theorem zD{A:Act}{W0:World}{o:Oper}{v:Value}(hw:Region.wanted o (yielded ops A.tmps)=true)(f:Nat)(args:Array Value)(he:∀ w,(execOp A.eval o).run P w=.ok (.enter f args) w)
  (hc:∀ w,za [] W0 w→Calls P f args w fun e w'=>e=.returned v∧za [] w w'):zhL P ops A W0 o v:=
 .inl ⟨hw,fun w k=>.inr ⟨f,args,he w,hc w k⟩⟩
def zm(P:Program)(ops:Array Oper)(A:Act)(W0:World):List Oper→List Value→Prop
 | o :: os,v :: vs=>zhL P ops A W0 o v∧zm P ops A W0 os vs
 | [],[]=>True
 | _,_=>False
theorem zm.at{A:Act}{W0:World}:∀ {os:List Oper}{vs:List Value},zm P ops A W0 os vs→∀ {k:Nat}{o:Oper},os[k]? = some o→∃ v,vs[k]? = some v∧zhL P ops A W0 o v
 | [],_,_,k,o,ho=>by simp at ho
 | _ :: _,[],h,_,_,_=>by cases h
 | o :: os,v :: vs,h,0,o',ho=>by
  simp at ho;subst ho;exact ⟨v,rfl,h.1⟩
 | o :: os,v :: vs,h,k+1,o',ho=>by
  obtain ⟨u,hu,hg⟩:=zm.at h.2 (k:=k) (by simpa using ho);exact ⟨u,by simpa using hu,hg⟩
structure zkb (ops:Array Oper) (W0:World) (a A:Act) (l:Array Bool) (a':Act) (w:World):Prop where
 size:l.size=ops.size
 kept:za [] W0 w
 sz:a'.tmps.size=a.tmps.size
 df:a'.defers=a.defers
 on:∀ (i:Nat) (oi:Oper) (d:Nat),ops[i]? = some oi→oi.dst=some d→l.getD i false=true→a'.tmps[d]? = A.tmps[d]?
 off:∀ d:Nat,(∀ (i:Nat) (oi:Oper),ops[i]? = some oi→oi.dst=some d→l.getD i false=false)→a'.tmps[d]? = a.tmps[d]?
theorem js{l:Array Bool}{i j:Nat}(h:i≠j):(l.setIfInBounds i true).getD j false=l.getD j false:=getD_set_ne false h
theorem jj{l:Array Bool}{i:Nat}(h:i<l.size):(l.setIfInBounds i true).getD i false=true:=by
 rw[Array.getD_eq_getD_getElem?,Array.getElem?_setIfInBounds_self_of_lt h];rfl
theorem zp{id:Nat}{a:Act}{w W0:World}(n:Nat)(vs:List Value)(hm:P.follows .mixedOrders=true)(hn:a.tmps.size=n)(hok:zb0 ops n=true)(hk:za [] W0 w)
  (h:∀ A,zE ops.toList vs a=A→zm P ops A W0 ops.toList vs∧∀ w',za [] W0 w'→Q .normal A w'):(Code.region id ops true).wp P Q a w:=by
 obtain ⟨A,hA⟩:∃ A,zE ops.toList vs a=A:=⟨_,rfl⟩;obtain ⟨hg,hQ⟩:=h A hA;unfold zb0 at hok;rw[Bool.and_eq_true,Bool.and_eq_true] at hok;obtain ⟨hsel,hp,hall⟩:=hok;have pair:∀ (i j:Nat) (oi oj:Oper),ops[i]? = some oi→ops[j]? = some oj→qc ops n i j=true:=fun i j oi oj hi hj=>by
  have h1:=List.all_eq_true.1 hp i (List.mem_range.2 (Array.getElem?_eq_some_iff.1 hi).1);exact List.all_eq_true.1 h1 j (List.mem_range.2 (Array.getElem?_eq_some_iff.1 hj).1)
 have dist:∀ (i j:Nat) (oi oj:Oper) (d:Nat),ops[i]? = some oi→ops[j]? = some oj→i≠j→oi.dst=some d→oj.dst≠some d:=fun i j oi oj d hi hj hij hd he=>by
  have:=pair i j oi oj hi hj;unfold qc at this;rw[hi,hj] at this;simp[hij,hd,he] at this
 have lt:∀ (i:Nat) (oi:Oper) (d:Nat),ops[i]? = some oi→oi.dst=some d→d<n:=fun i oi d hi hd=>by
  have:=pair i i oi oi hi hi;unfold qc at this;rw[hi] at this;simp only[hd,Bool.and_eq_true,decide_eq_true_eq] at this;exact this.2.1
 have waits:∀ (i j:Nat) (oi oj:Oper) (d:Nat),ops[i]? = some oi→ops[j]? = some oj→oj.dst=some d→d∈oi.looksAt ops→oi.after.any (fun e=>Region.binds .any e && e.on == j)=true:=fun i j oi oj d hi hj hd hm=>by
  have:=pair i j oi oj hi hj;unfold qc at this;rw[hi,hj] at this;simp only[hd,Bool.and_eq_true,Bool.or_eq_true,Bool.not_eq_true',decide_eq_true_eq] at this;rcases this.2.2 with h0 | h0
  ·rw[List.contains_iff_mem.2 hm] at h0
   cases h0
  ·exact h0
 have aOther:∀ d:Nat,(∀ (i:Nat) (oi:Oper),ops[i]? = some oi→oi.dst≠some d)→A.tmps[d]? = a.tmps[d]? := fun d hd=>by
  rw[← hA];exact qj _ _ _ (fun k o ho=>hd k o (by rw[← Array.getElem?_toList];exact ho))
 have aAt:∀ (i:Nat) (oi:Oper) (d:Nat) (v:Value),ops[i]? = some oi→oi.dst=some d→vs[i]? = some v→A.tmps[d]? = some v:=fun i oi d v hi hd hv=>by
  rw[← hA];exact Zg _ _ _ i (by rw[Array.getElem?_toList];exact hi) hv hd (by rw[hn];exact lt i oi d hi hd) (fun j oj hj ho=>dist i j oi oj d hi (by rw[← Array.getElem?_toList];exact ho) (Ne.symm hj) hd)
 refine wp_region_held_drew (S:=fun w'=>za [] W0 w') hm (hk.quiet (za.drew [] w)) (fun hS=> ?_);refine qN (zkb ops W0 a A) (fun _ _ _ h=>h.kept) (fun l a' w' hI hr=> ?_) (fun l a' w' i hI hr=> ?_) _ _ _ _ ?_ ?_
 ·have hl:=jz (md:=.any) (ops:=ops) hI.size hr hall
  have e:a'=A:=by
   have ht:a'.tmps=A.tmps:=by
    apply Array.ext_getElem?;intro d;by_cases hx:∃ (i:Nat) (oi:Oper),ops[i]? = some oi∧oi.dst=some d
    ·obtain ⟨i,oi,hi,hd⟩:=hx
     exact hI.on i oi d hi hd (hl i (Array.getElem?_eq_some_iff.1 hi).1)
    ·have hno:∀ (i:Nat) (oi:Oper),ops[i]? = some oi→oi.dst≠some d:=fun i oi hi hd=>hx ⟨i,oi,hi,hd⟩
     rw[hI.off d (fun i oi hi hd=>absurd hd (hno i oi hi)),aOther d hno]
   have hdf:a'.defers=A.defers:=by rw[hI.df, ← hA,qn]
   cases a';cases A;simp only at ht hdf;rw[ht,hdf]
  rw[e];exact hQ w' hI.kept
 ·obtain ⟨hun,oi,hi,hw8⟩:=mem_ready.1 hr
  have hil:i<l.size:=by rw[hI.size];exact (Array.getElem?_eq_some_iff.1 hi).1
  obtain ⟨v,hv,hgv⟩:=hg.at (k:=i) (by rw[Array.getElem?_toList];exact hi);have agree:∀ t,t∈oi.looksAt ops→a'.tmps[t]? = A.tmps[t]? := fun t ht=>by
   by_cases hx:∃ (j:Nat) (oj:Oper),ops[j]? = some oj∧oj.dst=some t
   ·obtain ⟨j,oj,hj,hd⟩:=hx
    have:=waits i j oi oj t hi hj hd ht;rw[Array.any_eq_true'] at this;obtain ⟨e,he,h1⟩:=this;rw[Bool.and_eq_true,beq_iff_eq] at h1;have h2:=hw8 e he h1.1;rw[h1.2] at h2;exact hI.on j oj t hj hd h2
   ·have hno:∀ (i:Nat) (oi:Oper),ops[i]? = some oi→oi.dst≠some t:=fun i oi hi hd=>hx ⟨i,oi,hi,hd⟩
    rw[hI.off t (fun i oi hi hd=>absurd hd (hno i oi hi)),aOther t hno]
  have hex:execOp a'.eval oi=execOp A.eval oi:=execOp_congr oi (fun cs b=>by
    exact Region.noSelect_spec hsel i oi cs b hi) (fun x hx=>by
   cases x with
   | tmp t=>
    have:=agree t (List.mem_append_left _ (List.mem_filterMap.2 ⟨.tmp t,by simpa using hx,rfl⟩));simp only[Act.eval,Array.getD_eq_getD_getElem?,this]
   | const v=>rfl
   | global g=>rfl
   | func f=>rfl)
  have hwt:Region.wanted oi (yielded ops a'.tmps)=Region.wanted oi (yielded ops A.tmps):=by
   unfold Region.wanted;cases hgd:oi.guard with
   | none=>rfl
   | some gw=>
    obtain ⟨g,want⟩:=gw;have hy:yielded ops a'.tmps g=yielded ops A.tmps g:=by
     unfold yielded;cases ht:(ops[g]?).bind (·.dst) with
     | none=>rfl
     | some t=>
      have:=agree t (by simp[Oper.looksAt,hgd,ht]);simp[this]
    simp only[hy]
  have next:∀ w2,za [] w' w2→zkb ops W0 a A (l.setIfInBounds i true) (a'.put oi.dst v) w2:=fun w2 k2=>by
   refine ⟨by simpa using hI.size,hI.kept.quiet k2,by rw[jS,hI.sz],by rw[j6,hI.df],fun j oj d hj hd hl=> ?_,fun d hd=> ?_⟩
   ·by_cases hij:i=j
    ·subst hij
     rw[hi] at hj;cases hj;rw[hd,zaG (by rw[hI.sz,hn];exact lt i oi d hi hd),aAt i oi d v hi hd hv]
    ·rw[q8 (dist j i oj oi d hj hi (Ne.symm hij) hd)]
     rw[js hij] at hl;exact hI.on j oj d hj hd hl
   ·have h1:oi.dst≠some d:=fun e=>by
     have:=hd i oi hi e;rw[jj hil] at this;cases this
    rw[q8 h1];refine hI.off d (fun j oj hj hdj=> ?_);have:=hd j oj hj hdj;by_cases hij:i=j
    ·subst hij
     rw[hi] at hj;cases hj;exact absurd hdj h1
    ·rw[js hij] at this
     exact this
  refine wpOp_step hi (fun K' hK=> ?_);rw[hwt];rcases hgv with ⟨hw1,hr1⟩ | ⟨hw1,rfl⟩
  ·rw[if_pos hw1]
   unfold Oper.wp;rw[hex];rcases hr1 w' hI.kept with ⟨w2,he,k2⟩ | ⟨f,args,he,hc⟩
   ·rw[he]
    exact hK _ _ (next w2 k2)
   ·rw[he]
    simp only[Oper.upon];refine Calls.mono hc (fun e w2=> ?_);rintro ⟨rfl,k2⟩;exact hK _ _ (next w2 k2)
  ·rw[if_neg (by rw[hw1];simp)]
   exact hK _ _ (next w' (za.refl _ _))
 ·refine ⟨by simp,hS,rfl,rfl,fun i oi d hi hd hl=> ?_,fun d hd=>rfl⟩
  exfalso;rw[Array.getD_eq_getD_getElem?] at hl;by_cases hlt:i<ops.size
  ·rw[Array.getElem?_replicate,if_pos hlt] at hl
   cases hl
  ·rw[Array.getElem?_replicate,if_neg hlt] at hl
   cases hl
 ·unfold left
  exact Nat.le_trans List.countP_le_length (by simp)
end
section
variable {P:Program}{ops:Array Oper}{A:Act}{W0:World}
theorem zm.cons{o:Oper}{v:Value}{os:List Oper}{vs:List Value}(h:zhL P ops A W0 o v)(t:zm P ops A W0 os vs):zm P ops A W0 (o :: os) (v :: vs):=⟨h,t⟩
theorem zm.nil:zm P ops A W0 [] []:=trivial
theorem gY{o:Oper}{v:Value}{os:List Oper}{vs:List Value}(h:∀ w,za [] W0 w→(execOp A.eval o).run P w=.ok (.value v) w)(t:zm P ops A W0 os vs)(hw:Region.wanted o (yielded ops A.tmps)=true:=by rfl):zm P ops A W0 (o :: os) (v :: vs):=⟨Qi hw h,t⟩
theorem gR{o:Oper}{v:Value}{os:List Oper}{vs:List Value}(t:zm P ops A W0 os vs)(h:∀ w,za [] W0 w→(execOp A.eval o).run P w=.ok (.value v) w:=by exact fun _ _=>rfl)(hw:Region.wanted o (yielded ops A.tmps)=true:=by rfl):zm P ops A W0 (o :: os) (v :: vs):=⟨Qi hw h,t⟩
theorem gP{o:Oper}{os:List Oper}{vs:List Value}(t:zm P ops A W0 os vs)(hw:Region.wanted o (yielded ops A.tmps)=false:=by rfl):zm P ops A W0 (o :: os) (undef :: vs):=⟨zc2 hw,t⟩
theorem zhN{ev:Operand→Value}{oi:Oper}{f:Nat}{x:Operand}{ts:Array TypeId}{v:Value}{w:World}(ho:oi.op=.call { callee:=.value (.func f),args:=#[x],argTypes:=ts })(hf:ev (.func f)=.func (.func f) #[] #[])(hx:ev x=v)(hc:(callFunc f #[v]).run P w=.ok (.enter f #[v]) w):(execOp ev oi).run P w=.ok (.enter f #[v]) w:=by
 subst hx;simp[execOp,ho,hf,go_sem,hc]
theorem zhK{ev:Operand→Value}{oi:Oper}{f:Nat}{x y z:Operand}{ts:Array TypeId}{v u t:Value}{w:World}(ho:oi.op=.call { callee:=.value (.func f),args:=#[x,y,z],argTypes:=ts })(hf:ev (.func f)=.func (.func f) #[] #[])(hx:ev x=v)(hy:ev y=u)(hz:ev z=t)(hc:(callFunc f #[v,u,t]).run P w=.ok (.enter f #[v,u,t]) w):(execOp ev oi).run P w=.ok (.enter f #[v,u,t]) w:=by
 subst hx hy hz;simp[execOp,ho,hf,go_sem,hc]
theorem zhQ{ev:Operand→Value}{oi:Oper}{f:Nat}{x y z p:Operand}{ts:Array TypeId}{v u t s:Value}{w:World}(ho:oi.op=.call { callee:=.value (.func f),args:=#[x,y,z,p],argTypes:=ts })(hf:ev (.func f)=.func (.func f) #[] #[])(hx:ev x=v)(hy:ev y=u)(hz:ev z=t)(hp:ev p=s)(hc:(callFunc f #[v,u,t,s]).run P w=.ok (.enter f #[v,u,t,s]) w):(execOp ev oi).run P w=.ok (.enter f #[v,u,t,s]) w:=by
 subst hx hy hz hp;simp[execOp,ho,hf,go_sem,hc]
end
theorem zo(k:Int)(n:Nat)(w:World):Calls Tryz.prog 123 #[int i64 k,int i64 (n:Int)] w fun e w'=>e=.returned (.bool (inB k n))∧w'=w:=by
 by_cases h1:0≤k
 ·by_cases h2:k<(n:Int)
  ·rw[JQ h1 h2]
   go_enter Tryz.func123,Tryz.ntmps123;go_wp2;go_ret;exact ⟨rfl,rfl⟩
  ·rw[zaS (fun h=>h2 h.2)]
   have hd:decide (k<(n:Int))=false:=decide_eq_false h2;clear h2;go_enter Tryz.func123,Tryz.ntmps123;go_wp2;go_ret;exact ⟨rfl,rfl⟩
 ·rw[zaS (fun h=>h1 h.1)]
  have hd:decide (0≤k)=false:=decide_eq_false h1;go_enter Tryz.func123,Tryz.ntmps123;go_wp2;go_ret;exact ⟨rfl,rfl⟩
theorem zhq{t:Int × Int}(h:t.1=0):tyB P t=decide (t.2=0):=by unfold tyB;rw[if_pos h]
theorem zgT{t:Int × Int}(h:t.1=1):tyB P t=inB t.2 P.recs.length:=by unfold tyB;rw[if_neg (by omega),if_pos h]
theorem zh1{t:Int × Int}(h:t.1=2):tyB P t=inB t.2 P.sigs.length:=by unfold tyB;rw[if_neg (by omega),if_neg (by omega),if_pos h]
theorem zhw{t:Int × Int}(h:t.1=3):tyB P t=inB t.2 P.ifs.length:=by unfold tyB;rw[if_neg (by omega),if_neg (by omega),if_neg (by omega),if_pos h]
theorem zgQ{t:Int × Int}(h0:t.1≠0)(h1:t.1≠1)(h2:t.1≠2)(h3:t.1≠3):tyB P t=false:=by unfold tyB;rw[if_neg h0,if_neg h1,if_neg h2,if_neg h3]
abbrev tyV (t:Int × Int):Value:=agg #[int i64 t.1,int i64 t.2]
theorem Zm{pb po:Nat}(h:PrC w pb po P)(t:Int × Int):Calls Tryz.prog 190 #[pointer (some ⟨pb,po,none⟩),tyV t] w fun e w'=>e=.returned (.bool (tyB P t))∧za [] w w':=by
 obtain ⟨a0,p0,c0,_⟩:=h.c0;obtain ⟨a1,p1,c1,_⟩:=h.c1;obtain ⟨a2,p2,c2,_⟩:=h.c2;have ka:=za.alloc [] w (.cells #[int i64 t.1,int i64 t.2] 52);replace c0:=zb ka c0;replace c1:=zb ka c1;replace c2:=zb ka c2;have KA:=hid ka;have HW:=hid fun (k:Int) (n:Nat) (w:World)=>zo k n w;have i0:=zhq (P:=P) (t:=t);have i1:=zgT (P:=P) (t:=t);have i2:=zh1 (P:=P) (t:=t);have i3:=zhw (P:=P) (t:=t);have i4:=zgQ (P:=P) (t:=t);clear h ka;generalize tyB P t=res at *;generalize P.recs.length=n0 at *;generalize P.sigs.length=n1 at *;generalize P.ifs.length=n2 at *;obtain ⟨k,n⟩:=t;simp only at *;by_cases h0:k=0
 ·have HE:=hid (i0 h0)
  subst h0;clear i0 i1 i2 i3 i4;have hd:(n == 0)=decide (n=0):=rfl;go_enter Tryz.func190,Tryz.ntmps190;go_wp2_with fail;go_ret;exact ⟨by rw[HE.o];rfl,KA.o⟩
 by_cases h1:k=1
 ·have HE:=hid (i1 h1)
  subst h1;clear i0 i1 i2 i3 i4;go_enter Tryz.func190,Tryz.ntmps190;go_upto_region 5 with fail;go_quiet ((go_at_call 123;exact Calls.quiet_of_same (HW.o _ _ _)));go_wp2_with fail;go_ret;exact ⟨by rw[HE.o];rfl,KA.o.quiet (za.drewN _ _ _)⟩
 by_cases h2:k=2
 ·have HE:=hid (i2 h2)
  subst h2;clear i0 i1 i2 i3 i4;go_enter Tryz.func190,Tryz.ntmps190;go_upto_region 7 with fail;go_quiet ((go_at_call 123;exact Calls.quiet_of_same (HW.o _ _ _)));go_wp2_with fail;go_ret;exact ⟨by rw[HE.o];rfl,KA.o.quiet (za.drewN _ _ _)⟩
 by_cases h3:k=3
 ·have HE:=hid (i3 h3)
  subst h3;clear i0 i1 i2 i3 i4;go_enter Tryz.func190,Tryz.ntmps190;go_upto_region 9 with fail;go_quiet ((go_at_call 123;exact Calls.quiet_of_same (HW.o _ _ _)));go_wp2_with fail;go_ret;exact ⟨by rw[HE.o];rfl,KA.o.quiet (za.drewN _ _ _)⟩
 have HE:=hid (i4 h0 h1 h2 h3);have o0:=neb h0;have o1:=neb h1;have o2:=neb h2;have o3:=neb h3;clear i0 i1 i2 i3 i4 h0 h1 h2 h3;go_enter Tryz.func190,Tryz.ntmps190;go_wp2_with fail;go_ret;exact ⟨by rw[HE.o];rfl,KA.o⟩
theorem Zw{pb po:Nat}(h:PrC w pb po P){l:List (Int × Int)}(hv:zeh w v l):Calls Tryz.prog 189 #[pointer (some ⟨pb,po,none⟩),v] w fun e w'=>e=.returned (.bool (JI P l))∧za [] w w':=by
 obtain ⟨a,cp,rfl,hr,_,hl⟩:=hv;have HP:=hid h;have HR:=hid hr;have HT:=hid fun (w':World) (k:za [] w w') (t:Int × Int)=>Zm (PrC.stays _ _ _ _ _ k h) t;obtain ⟨n,hn⟩:∃ n,n=l.length:=⟨_,rfl⟩;rw[← hn];have HL:=hid hn;have hn1:(n:Int)≤9223372036854775807:=by unfold maxLen at hl;omega
 clear h hr hl hn;go_enter Tryz.func189,Tryz.ntmps189;go_wp2_with fail
 go_loopw [9] (fun kv wr=>∃ k:Nat,k≤n∧kv=int i64 (k:Int)∧Box (za [] w wr∧∀ j y,j<k→l[j]? = some y→tyB P y=true)) (fun kv _=>n - (intOf kv).toNat)
 case atStart=>exact ⟨0,by omega,rfl,hid ⟨za.refl _ _,fun j y hj=>by omega⟩⟩
 case round=>
  obtain ⟨k,hk,rfl,HB⟩:=hrel;have HK:=hid HB.o.1;by_cases hlt:k<n
  ·have hlt':(k:Int)<(n:Int):=by omega
   obtain ⟨y,hy⟩:∃ y,l[k]? = some y:=⟨_,List.getElem?_eq_getElem (by rw[← HL.o];exact hlt)⟩;obtain ⟨b,off,rfl,hc⟩:=HR.o.at hy;have d0:=zb HK.o hc.c0.1;have d1:=zb HK.o hc.c1.1;have HC:=hid (HT.o _ (HK.o.quiet (za.alloc [] wr (.cells #[int i64 y.1,int i64 y.2] 52))) y);have HKA:=hid (HK.o.quiet (za.alloc [] wr (.cells #[int i64 y.1,int i64 y.2] 52)));have HY:=hid hy;clear hc hy;cases hgy:tyB P y with
   | true=>
    rw[hgy] at HC;have HG:=hid hgy;clear hgy;go_wp2_with fail;refine HC.o.mono ?_;rintro e w3 ⟨rfl,k3⟩;have K3:=hid (HKA.o.quiet k3);clear k3;go_wp2_with fail;go_roundw
    case rel=>exact ⟨k+1,by omega,by go_num,hid ⟨K3.o,fun j z hj hz=>by
     by_cases e:j<k
     ·exact HB.o.2 j z e hz
     ·obtain rfl:j=k:=by omega
      rw[HY.o] at hz;cases hz
      exact HG.o⟩⟩
    case measure=>simp[intOf];omega
   | false=>
    rw[hgy] at HC;have HE:Box (JI P l=false):=hid (qy HY.o hgy);clear hgy;go_wp2_with fail;refine HC.o.mono ?_;rintro e w3 ⟨rfl,k3⟩;have K3:=hid (HKA.o.quiet k3);clear k3;go_wp2_with fail;go_ret;exact ⟨by rw[HE.o];rfl,K3.o⟩
  ·obtain rfl:k=n:=by omega
   have HE:Box (JI P l=true):=hid (qG (fun j y hy=>HB.o.2 j y (by rw[HL.o];exact (List.getElem?_eq_some_iff.1 hy).1) hy));go_wp2_with fail;go_ret;exact ⟨by rw[HE.o];rfl,HK.o⟩
theorem jV{a:Option Addr}{cp:Nat}{l:List Int}(hz:zw w a l)(hl:l.length≤maxLen)(m:Nat):Calls Tryz.prog 191 #[.slice a l.length cp,int i64 (m:Int)] w fun e w'=>e=.returned (.bool (J1 l m))∧w'=w:=by
 have HZ:=hid hz;have HW:=hid fun (k:Int) (n:Nat) (w:World)=>zo k n w;obtain ⟨n,hn⟩:∃ n,n=l.length:=⟨_,rfl⟩;rw[← hn];have HL:=hid hn;have hn1:(n:Int)≤9223372036854775807:=by unfold maxLen at hl;omega
 clear hz hl hn;go_enter Tryz.func191,Tryz.ntmps191;go_wp2_with fail
 go_loop [9] (fun kv=>∃ k:Nat,k≤n∧kv=int i64 (k:Int)∧Box (∀ j y,j<k→l[j]? = some y→inB y m=true)) (fun kv=>n - (intOf kv).toNat)
 case atStart=>exact ⟨0,by omega,rfl,hid fun j y hj=>by omega⟩
 case round=>
  obtain ⟨k,hk,rfl,HB⟩:=hrel;by_cases hlt:k<n
  ·have hlt':(k:Int)<(n:Int):=by omega
   have hkl:k<l.length:=by rw[← HL.o];exact hlt
   obtain ⟨y,hy⟩:∃ y,l[k]? = some y:=⟨_,List.getElem?_eq_getElem hkl⟩;obtain ⟨b,off,rfl,hc⟩:∃ b off,a=some ⟨b,off,none⟩∧w.cell? ⟨b,off+k,none⟩=some (int i64 y):=by
    rcases HZ.o with e | ⟨b,off,e,h⟩
    ·rw[e] at hy;simp at hy
    ·refine ⟨b,off,e,?_⟩
     rw[h k hkl,List.getD_eq_getElem?_getD,hy];rfl
   have HC:=hid (HW.o y m w);have HY:=hid hy;clear hy hkl;cases hgy:inB y m with
   | true=>
    rw[hgy] at HC;have HG:=hid hgy;clear hgy;go_wp2_with fail;refine HC.o.mono ?_;rintro e w3 ⟨rfl,hw3⟩;rw[hw3];clear hw3;go_wp2_with fail
    go_round
    case rel=>exact ⟨k+1,by omega,by go_num,hid fun j z hj hz=>by
     by_cases e:j<k
     ·exact HB.o j z e hz
     ·obtain rfl:j=k:=by omega
      rw[HY.o] at hz;cases hz
      exact HG.o⟩
    case measure=>simp[intOf];omega
   | false=>
    rw[hgy] at HC;have HE:Box (J1 l m=false):=hid (qy HY.o hgy);clear hgy;go_wp2_with fail;refine HC.o.mono ?_;rintro e w3 ⟨rfl,hw3⟩;rw[hw3];clear hw3;go_wp2_with fail;go_ret;exact ⟨by rw[HE.o];rfl,rfl⟩
  ·obtain rfl:k=n:=by omega
   have HE:Box (J1 l m=true):=hid (qG (fun j y hy=>HB.o j y (by rw[HL.o];exact (List.getElem?_eq_some_iff.1 hy).1) hy));go_wp2_with fail;go_ret;exact ⟨by rw[HE.o];rfl,rfl⟩
section
open Go.ChangeShapes Go.WideShapes Go.ChangeAt
theorem za.below{L:List Nat}(h:za L w w'){B:Nat}(hB:B≤w.heap.size)(hL:∀ x,x∈L→B≤x):Below B w w':=
 ⟨h.os,h.tape,h.output,h.size,fun k hk=>h.block k (by omega) (fun hx=>by have:=hL k hx;omega)⟩
theorem own:ownKnob Tryz.prog.godebug=none:=by kernel_rfl
theorem zjF:Tryz.prog.globalNamed "errors.errorType" = some 0:=by kernel_rfl
theorem zeP:(Tryz.prog.cutTypes.find? (·.1 == "internal/reflectlite.rtype")).map (·.2)=some 323:=by kernel_rfl
theorem zdk:Tryz.prog.types.size=376:=by kernel_rfl
theorem zeI:((List.range 376).filter fun t=>Tryz.prog.rowNamed t [101,114,114,111,114])=[105]:=by kernel_rfl
theorem zjS:Tryz.prog.globalNamed "math/bits.deBruijn64tab" = some 1:=by kernel_rfl
theorem zfi:(Tryz.prog.globals[1]?).map (·.type)=some 347:=by kernel_rfl
theorem zfc:Tryz.prog.cellsOf 347=64:=by kernel_rfl
theorem zgK:Tryz.prog.cellsOf 5=1:=by kernel_rfl
def JN:List Int:=[0,1,56,2,57,49,28,3,61,58,42,50,38,29,17,4,62,47,59,36,45,43,51,22,53,39,33,30,24,18,12,5,63,55,48,27,60,41,37,16,46,35,44,21,52,32,23,11,54,26,40,15,34,20,31,10,25,14,19,9,13,8,7,6]
theorem ziS:∀ j,j<64→JN.getD j 0=((Go.Lib.deBruijn64tab.getD j 0:Nat):Int):=by decide +kernel
theorem J0{W:World}(h:laidMetH Tryz.prog [("math/bits.deBruijn64tab",Rows.laid_math_bits_deBruijn64tab),("errors.errorType",Rows.laid_errors_errorType)] W):zbZ W:=by
 have h':laidMet Tryz.prog [("math/bits.deBruijn64tab",Rows.laid_math_bits_deBruijn64tab)] W∧handlesMet Tryz.prog [("errors.errorType",Rows.laid_errors_errorType)] W:=h;constructor;obtain ⟨name,u,ty,e1,e2,e3,e4,e5⟩:=h'.2 _ (List.mem_singleton.2 rfl);have en:name=[101,114,114,111,114]:=(Option.some.inj e1).symm;subst en;obtain rfl:=Option.some.inj (zeP.symm.trans e2);have hm:ty∈(List.range 376).filter fun t=>Tryz.prog.rowNamed t [101,114,114,111,114]:=List.mem_filter.2 ⟨List.mem_range.2 (by rw[← zdk];exact e3),e4⟩;rw[zeI] at hm;obtain rfl:=List.mem_singleton.1 hm;have hh:typeHandle Tryz.prog 105=pointer (some ⟨2,105,none⟩):=by kernel_rfl
 rw[hh] at e5;simpa using World.var?_cell zjF e5 0
theorem QJ{W:World}(h:laidMetH Tryz.prog [("math/bits.deBruijn64tab",Rows.laid_math_bits_deBruijn64tab),("errors.errorType",Rows.laid_errors_errorType)] W):jf W:=by
 have h':laidMet Tryz.prog [("math/bits.deBruijn64tab",Rows.laid_math_bits_deBruijn64tab)] W∧handlesMet Tryz.prog [("errors.errorType",Rows.laid_errors_errorType)] W:=h;have ht:Lib.TabIs Tryz.prog W "math/bits.deBruijn64tab" .u8 JN:=Lib.tabIs_of_head (rest:=[]) zjS zfi Tryz.underlying347 Tryz.underlying5 zgK zfc h'.1;intro j hj;have hc:=ht.cell zjS j hj;rw[ziS j hj] at hc;exact hc
def zbg(cs:Array Value):Obj→Obj
 | .cells _ t frozen=>.cells cs t frozen
 | o=>o
def ZP(P:Program)(os:Os):World:=
 { World.holding P os ⟨#[],#[],[]⟩ with heap:=((World.holding P os ⟨#[],#[],[]⟩).heap.modify 0 (zbg #[.iface 323 (agg #[pointer (some ⟨2,105,none⟩)])])).modify 1 (zbg (JN.map fun n=>Value.int .u8 n).toArray) }
end
end Go.Proofs.YthflgjkmbakedaaGreatDoor
