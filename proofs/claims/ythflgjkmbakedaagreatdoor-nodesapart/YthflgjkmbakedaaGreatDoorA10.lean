import Derived.Maps.OwnSet
import Derived.Test.YthflgjkmbakedaaGreatDoorA09

namespace Go.Proofs.YthflgjkmbakedaaGreatDoor
open Go.RowKit
open Go.Value (int pointer agg)
open Go.IntKind (i64)
set_option maxHeartbeats 4000000
set_option maxRecDepth 20000
variable {M b c fb fo j n o pb po:Nat}{P:Pr8}{a:Option Addr}{ad:Addr}{ev:Operand→Value}{f:Fu8}{oi:Oper}{r:Bool}{v v0 v1 v2:Value}{w w':World}{x x0 x1 y:Operand}
def pkV(q:Int × Int × Int):Value:=agg #[int i64 q.1,int i64 q.2.1,int i64 q.2.2]
def zkQ(q r:Int × Int × Int):Bool:=q.1 == r.1 && (q.2.1 == r.2.1 && q.2.2 == r.2.2)
theorem zdJ(q r:Int × Int × Int):zkQ q r=true ↔ q=r:=by
 obtain ⟨a,b,c⟩:=q;obtain ⟨a',b',c'⟩:=r;unfold zkQ;simp
theorem zjy(q r:Int × Int × Int)(w:World):(Op.equal 99 (pkV q) (pkV r)).run Tryz.prog w=.ok (zkQ q r) w:=by
 have hi:∀ (d:Nat) (x y:Int),(Op.equalIn (d+1) 3 (int i64 x) (int i64 y)).run Tryz.prog w=.ok (x == y) w:=fun d x y=>by
  simp[Op.equalIn,run_underlying Tryz.underlying3]
 have hs:Tryz.prog.stoodInHeld 99=false:=by kernel_rfl
 have p0:∀ (x y z:Int),(part 3 #[int i64 x,int i64 y,int i64 z] 0).run Tryz.prog w=.ok (int i64 x) w:=fun _ _ _=>by kernel_rfl
 have p1:∀ (x y z:Int),(part 3 #[int i64 x,int i64 y,int i64 z] 1).run Tryz.prog w=.ok (int i64 y) w:=fun _ _ _=>by kernel_rfl
 have p2:∀ (x y z:Int),(part 3 #[int i64 x,int i64 y,int i64 z] 2).run Tryz.prog w=.ok (int i64 z) w:=fun _ _ _=>by kernel_rfl
 have h:∀ d:Nat,(Op.equalIn (d+2) 99 (pkV q) (pkV r)).run Tryz.prog w=.ok (zkQ q r) w:=fun d=>by
  unfold pkV zkQ;rw[Op.equalIn];simp[run_underlying Tryz.underlying99,hs,p0,hi,Result.andThen];by_cases h1:q.1=r.1
  ·by_cases h2:q.2.1=r.2.1
   ·by_cases h3:q.2.2=r.2.2
    ·simp[h1,h2,h3,p1,p2,hi,Result.andThen]
    ·simp[h1,h2,h3,p1,p2,hi,Result.andThen]
   ·simp[h1,h2,p1,hi,Result.andThen]
  ·simp[h1]
 exact h 9998
theorem Q0(q:Int × Int × Int)(w:World):∀ (es:List MapEntry) (ks:List (Int × Int × Int)) (i:Nat),es.map (fun e=>(e.key,e.val))=ks.map (fun k=>(pkV k,Value.bool true))→
  ∃ j,(Instr.findAsking 99 (pkV q) es i).run Tryz.prog w=.ok (if q∈ks then some (j,Value.bool true) else none) w
 | [],[],i,_=>⟨0,by simp[Instr.findAsking]⟩
 | [],k :: ks,i,h=>by simp at h
 | e :: es,[],i,h=>by simp at h
 | e :: es,k :: ks,i,h=>by
  simp only[List.map_cons,List.cons.injEq,Prod.mk.injEq] at h;by_cases hq:q=k
  ·subst hq
   exact ⟨i,by simp[Instr.findAsking,h.1.1,h.1.2,zjy,(zdJ q q).2 rfl]⟩
  ·obtain ⟨j,ih⟩:=Q0 q w es ks (i+1) h.2
   refine ⟨j,?_⟩;have hn:zkQ q k=false:=by
    cases e:zkQ q k with
    | false=>rfl
    | true=>exact absurd ((zdJ q k).1 e) hq
   simp[Instr.findAsking,h.1.1,zjy,hn,ih,hq]
theorem zfV(q:Int × Int × Int)(w:World)(es:List MapEntry)(ks:List (Int × Int × Int))(h:es.map (fun e=>(e.key,e.val))=ks.map (fun k=>(pkV k,Value.bool true))):
  ∃ j,(Instr.findKey 99 (pkV q) es).run Tryz.prog w=.ok (if q∈ks then some (j,Value.bool true) else none) w:=by
 obtain ⟨j,hj⟩:=Q0 q w es ks 0 h;rcases es with _ | ⟨e,es⟩
 ·rcases ks with _ | ⟨k,ks⟩
  ·exact ⟨0,by simp[Instr.findKey,run_underlying Tryz.underlying99,Instr.findNow]⟩
  ·simp at h
 ·rcases ks with _ | ⟨k,ks⟩
  ·simp at h
  ·simp only[List.map_cons,List.cons.injEq,Prod.mk.injEq] at h
   refine ⟨j,?_⟩;have e1:∀ fs,Instr.findNow (TypeDesc.struct fs) (pkV q) (e :: es) 0=none:=fun fs=>by
    simp[Instr.findNow,Instr.sameNow]
   rw[Instr.findKey];simp only[Sem.run_bind,run_underlying Tryz.underlying99,Result.andThen_ok,e1];exact hj
theorem zdp(b:Bool)(q:Int × Int × Int)(w:World):(Instr.checkKey b 10000 99 (pkV q)).run Tryz.prog w=.ok () w:=by
 have hi:∀ (d:Nat) (x:Int),(Instr.checkKey b (d+1) 3 (int i64 x)).run Tryz.prog w=.ok () w:=fun d x=>by
  simp[Instr.checkKey,run_underlying Tryz.underlying3]
 have p0:∀ (x y z:Int),(part 3 #[int i64 x,int i64 y,int i64 z] 0).run Tryz.prog w=.ok (int i64 x) w:=fun _ _ _=>by kernel_rfl
 have p1:∀ (x y z:Int),(part 3 #[int i64 x,int i64 y,int i64 z] 1).run Tryz.prog w=.ok (int i64 y) w:=fun _ _ _=>by kernel_rfl
 have p2:∀ (x y z:Int),(part 3 #[int i64 x,int i64 y,int i64 z] 2).run Tryz.prog w=.ok (int i64 z) w:=fun _ _ _=>by kernel_rfl
 have h:∀ d:Nat,(Instr.checkKey b (d+2) 99 (pkV q)).run Tryz.prog w=.ok () w:=fun d=>by
  unfold pkV;rw[Instr.checkKey];simp[run_underlying Tryz.underlying99,p0,p1,p2,hi,Result.andThen]
 exact h 9998
structure Q8 (w:World) (M:Nat) (ks:List (Int × Int × Int)):Prop where
 heap:∃ es clock,w.heap[M]? = some (.map es clock)∧es.toList.map (fun e=>(e.key,e.val))=ks.map (fun k=>(pkV k,Value.bool true))
theorem Q8.look{ks:List (Int × Int × Int)}(h:Q8 w M ks)(q:Int × Int × Int):
  (Instr.lookup 241 (.map (some M)) (pkV q) false).run Tryz.prog w=.ok (.bool (decide (q∈ks))) w:=by
 obtain ⟨es,clock,hM,hk⟩:=h.heap;obtain ⟨j,hf⟩:=zfV q w es.toList ks hk;have hz:(zeroValue 4).run Tryz.prog w=.ok (.bool false) w:=by kernel_rfl
 have hck:=zdp es.isEmpty q w;by_cases hq:q∈ks
 ·rw[if_pos hq] at hf
  simp[Instr.lookup,run_underlying Tryz.underlying241,MapKept.run_getObj_map hM,hck,hf,Result.andThen,hq]
 ·rw[if_neg hq] at hf
  simp[Instr.lookup,run_underlying Tryz.underlying241,MapKept.run_getObj_map hM,hck,hf,hz,Result.andThen,hq]
theorem Q8.put{ks:List (Int × Int × Int)}(h:Q8 w M ks)(q:Int × Int × Int)(hn:q ∉ ks):
  ∃ w',(Instr.mapUpdate 241 (.map (some M)) (pkV q) (.bool true)).run Tryz.prog w=.ok () w'∧Q8 w' M (ks ++ [q])∧zc [M] w w':=by
 obtain ⟨es,clock,hM,hk⟩:=h.heap;obtain ⟨j,hf⟩:=zfV q w es.toList ks hk;rw[if_neg hn] at hf;have hck:=zdp false q w;have hrun:(Instr.mapUpdate 241 (.map (some M)) (pkV q) (.bool true)).run Tryz.prog w=.ok () (ChangeMaps.setBlock w M (.map (es.push ⟨pkV q,.bool true,clock⟩) (clock+1))):=by
  simp[Instr.mapUpdate,run_underlying Tryz.underlying241,MapKept.run_getObj_map hM,hck,hf,MapKept.run_setObj_map _ hM,Result.andThen,ChangeMaps.setBlock]
 have hkeep:zc [M] w (ChangeMaps.setBlock w M (.map (es.push ⟨pkV q,.bool true,clock⟩) (clock+1))):=
  ⟨rfl,rfl,rfl,by simp[ChangeMaps.setBlock],fun i _ hi=>ChangeMaps.heap_setBlock_other hM _ (fun e=>hi (by simp[e]))⟩
 refine ⟨_,hrun,⟨_,_,ChangeMaps.heap_setBlock_same hM _,?_⟩,hkeep⟩;simp[hk]
theorem Q8.lt{ks:List (Int × Int × Int)}(h:Q8 w M ks):M<w.heap.size:=by
 obtain ⟨es,clock,hm,_⟩:=h.heap;exact (Array.getElem?_eq_some_iff.1 hm).1
theorem Q8.kept{L:List Nat}{ks:List (Int × Int × Int)}(h:Q8 w M ks)(k:zc L w w')(hM:M ∉ L):Q8 w' M ks:=by
 have hlt:=h.lt;obtain ⟨es,clock,hm,hk⟩:=h.heap;exact ⟨es,clock,(k.block M hlt hM).trans hm,hk⟩
theorem Q8.made(w:World):Q8 (w.alloc (.map #[] 0)) w.heap.size []:=⟨#[],0,heap_alloc_new _ _,rfl⟩
abbrev Rg:Type:=V3 × Bool
def rg0:Rg:=((0,0,false),false)
structure Fr where
 f:Nat
 b:Nat
 i:Nat
 rs:List Rg
structure Ma where
 bot:List Fr
 top:Fr
 hp:List Ob
 rc:List Int
 ora:List Int
 lc:Bool
 lf:Int
 sk:Bool
 res:V3
def Fr.get(x:Fr)(r:Int):V3:=(x.rs.getD r.toNat rg0).1
def Fr.set(x:Fr)(r:Int)(v:V3):Fr:={ x with rs:=x.rs.set r.toNat (v,true) }
def Fr.go(x:Fr)(b:Nat):Fr:={ x with b:=b,i:=0 }
def Fr.next(x:Fr):Fr:={ x with i:=x.i+1 }
def Ma.put(m:Ma)(r:Int)(v:V3):Ma:={ m with top:=m.top.set r v }
def Fr.blk(P:Pr8)(x:Fr):Bl8:=zr (zf P x.f) x.b
def Fr.ins(P:Pr8)(x:Fr):In8:=zT (x.blk P) x.i
def zjH(v:V3):Int:=if v.1=2 then v.2.1 else 0
def zj4(P:Pr8)(x:Fr)(r:Int):Int × Int:=(zf P x.f).regs.getD r.toNat (0,0)
def znK(P:Pr8)(n:Int):List (Int × Int):=P.recs.getD n.toNat []
def zoi(o:Ob):Ob:=⟨o.site,o.free,.slice none 0 0,o.vs⟩
def zo5(P:Pr8)(m:Ma)(x:In8):Int × Ma:=
 if x.op=1 then (0,m.put x.dst (0,x.n,false))
 else if x.op=2 then (0,m.put x.dst (zof (m.top.get x.a) (m.top.get x.b)))
 else if x.op=3 then (0,{ m with ora:=m.ora.tail }.put x.dst (0,m.ora.headD 0,true))
 else if x.op=4 then (0,m.put x.dst (1,0,false))
 else if x.op=5 then
  if 400≤m.hp.length then (6,m)
  else (0,{ m with hp:=m.hp ++ [Ob.mk (znS P m.top.f m.top.b m.top.i:Int) false (.slice none 0 0) ((znK P (zj4 P m.top x.dst).2).map zj7)],rc:=m.rc ++ [(zj4 P m.top x.dst).2] }.put x.dst (2,(m.hp.length:Int)+1,false))
 else if x.op=6∨x.op=11 then (0,m.put x.dst (m.top.get x.a))
 else if x.op=7 then
  if slW m.hp (zjH (m.top.get x.a)) x.n=0 then (0,m.put x.dst (zoj m.hp (zjH (m.top.get x.a)) x.n)) else (slW m.hp (zjH (m.top.get x.a)) x.n,m)
 else if x.op=8 then (slW m.hp (zjH (m.top.get x.a)) x.n,{ m with hp:=zoe m.hp (zjH (m.top.get x.a)) x.n (m.top.get x.b) })
 else if x.op=9 then (foW m.hp (zjH (m.top.get x.a)),{ m with hp:=zn4 m.hp (zjH (m.top.get x.a)) })
 else if x.op=10 then (0,m.put x.dst (3,x.n,false))
 else if x.op=15 then (0,{ m with sk:=(m.top.get x.a).2.2 })
 else (0,m)
def znt(P:Pr8)(rec iface:Int):Option (Int × Int × List Int):=P.ims.find? fun q=>q.1 == rec && q.2.1 == iface
def callee(P:Pr8)(m:Ma)(x:In8):Option Int:=
 if x.op=12 then some x.n
 else if (m.top.get x.a).1=3 then some (m.top.get x.a).2.1
 else if (m.top.get x.a).1=2 then (znt P (m.rc.getD ((m.top.get x.a).2.1 - 1).toNat 0) (zj4 P m.top x.a).2).map fun q=>q.2.2.getD x.n.toNat 0
 else none
def zop(P:Pr8)(m:Ma)(v:V3):Int × Ma:=
 match m.bot.getLast? with
 | none=>(4,{ m with res:=v })
 | some y=>(0,{ m with bot:=m.bot.dropLast,top:=(y.set (y.ins P).dst v).next })
def Jf(P:Pr8)(r i:Int):Bool:=P.ims.any fun m=>m.1 == r && m.2.1 == i
theorem zhS(h:PrC w pb po P)(r i:Int):Calls Tryz.prog 257 #[pointer (some ⟨pb,po,none⟩),int i64 r,int i64 i] w fun e w'=>e=.returned (.bool (Jf P r i))∧w'=w:=by
 obtain ⟨a,cp,c3,hr,_,hm⟩:=h.c3;have HR:=hid hr;obtain ⟨n,hn⟩:∃ n,n=P.ims.length:=⟨_,rfl⟩;rw[← hn] at c3 hm;have HL:=hid hn;have hn1:(n:Int)≤9223372036854775807:=by unfold maxLen at hm;omega
 clear h hr hn hm;go_enter Tryz.func257,Tryz.ntmps257;go_wp2_with fail
 go_loop [13] (fun kv=>∃ k:Nat,k≤n∧kv=int i64 (k:Int)∧Box (∀ j y,j<k→P.ims[j]? = some y→(y.1 == r && y.2.1 == i)=false)) (fun kv=>n - (intOf kv).toNat)
 case atStart=>exact ⟨0,by omega,rfl,hid fun j y hj=>by omega⟩
 case round=>
  obtain ⟨k,hk,rfl,HB⟩:=hrel;by_cases hlt:k<n
  ·have hlt':(k:Int)<(n:Int):=by omega
   have HY:=hid (zg (l:=P.ims) (k:=k) (d:=(0,0,[])) (by rw[← HL.o];exact hlt));obtain ⟨b,off,rfl,hc⟩:=HR.o.at HY.o;have d0:=hc.c0.1;have d1:=hc.c1.1;have NEXT:Box (∀ y,P.ims[k]? = some y→(y.1 == r && y.2.1 == i)=false→∀ j z,j<k+1→P.ims[j]? = some z→(z.1 == r && z.2.1 == i)=false):=hid fun y hy hg j z hj hz=>by
    by_cases e:j<k
    ·exact HB.o j z e hz
    ·obtain rfl:j=k:=by omega
     rw[hy] at hz;cases hz;exact hg
   clear hc HB;generalize P.ims.getD k (0,0,[])=y at *;by_cases e1:y.1=r
   ·have q1:(y.1 == r)=true:=eqb e1
    by_cases e2:y.2.1=i
    ·have q2:(y.2.1 == i)=true:=eqb e2
     have HT:Box (Jf P r i=true):=hid (List.any_eq_true.2 ⟨y,List.mem_of_getElem? HY.o,by rw[q1,q2];rfl⟩);clear e1 e2 NEXT;go_wp2_with fail;go_ret;exact ⟨by rw[HT.o];rfl,rfl⟩
    ·have q2:(y.2.1 == i)=false:=neb e2
     have HN:=hid (NEXT.o y HY.o (by rw[q1,q2];rfl));clear e1 e2 NEXT;go_wp2_with fail
     go_round
     case rel=>exact ⟨k+1,by omega,by go_num,HN⟩
     case measure=>simp[intOf];omega
   ·have q1:(y.1 == r)=false:=neb e1
    have HN:=hid (NEXT.o y HY.o (by rw[q1];rfl));clear e1 NEXT;go_wp2_with fail
    go_round
    case rel=>exact ⟨k+1,by omega,by go_num,HN⟩
    case measure=>simp[intOf];omega
  ·obtain rfl:n=k:=by omega
   have HF:Box (Jf P r i=false):=hid (List.any_eq_false.2 fun y hy=>by
    obtain ⟨j,hj,e⟩:=List.getElem_of_mem hy;have:=HB.o j y (by rw[HL.o];exact hj) (by rw[List.getElem?_eq_getElem hj,e]);rw[this]
    simp)
   go_wp2_with fail;go_ret;exact ⟨by rw[HF.o];rfl,rfl⟩
def qL(f:Fu8)(l:List Int)(ps:List (Int × Int)):Bool:=decide (l.length=ps.length) && (List.range l.length).all fun k=>tyE (zq f (l.getD k 0)) (ps.getD k (0,0))
theorem zaM(hf:FuC w fb fo f){cp:Nat}{l:List Int}(hz:zw w a l)(hl:l.length≤1000){pa:Option Addr}{pp:Nat}{ps:List (Int × Int)}(hp:z7 w 2 TyC pa ps):Calls Tryz.prog 259 #[pointer (some ⟨fb,fo,none⟩),.slice a l.length cp,.slice pa ps.length pp] w fun e w'=>e=.returned (.bool (qL f l ps))∧zc [] w w':=by
 have HZ:=hid hz;have HP:=hid hp;have HRT:=hid fun (r:Int) (w':World) (k:zc [] w w')=>zz (FuC.stays _ _ _ _ _ k hf) r;have HE:Box (qL f l ps=(decide (l.length=ps.length) && (List.range l.length).all fun k=>tyE (zq f (l.getD k 0)) (ps.getD k (0,0)))):=hid rfl;obtain ⟨n,hn⟩:∃ n,n=l.length:=⟨_,rfl⟩;obtain ⟨m,hm⟩:∃ m,m=ps.length:=⟨_,rfl⟩;rw[← hn, ← hm] at HE;rw[← hn, ← hm];have HL:=hid hn;have HM:=hid hm;have hn1:(n:Int)≤9223372036854775807:=by omega
 clear hf hz hl hp hn hm;by_cases hnm:n=m
 case neg=>
  have q1:((n:Int) != (m:Int))=true:=QB (by omega);have HF:Box (qL f l ps=false):=hid (by rw[HE.o];simp[hnm]);clear hnm HE;go_enter Tryz.func259,Tryz.ntmps259;go_wp2_with fail;go_ret;exact ⟨by rw[HF.o];rfl,zc.refl _ _⟩
 obtain rfl:m=n:=hnm.symm;have q1:((m:Int) != (m:Int))=false:=QS rfl;have HG:Box (qL f l ps=(List.range m).all fun k=>tyE (zq f (l.getD k 0)) (ps.getD k (0,0))):=hid (by rw[HE.o];simp);clear hnm HE;go_enter Tryz.func259,Tryz.ntmps259;go_wp2_with fail
 go_loopw [16] (fun kv wr=>∃ k:Nat,k≤m∧kv=int i64 (k:Int)∧Box (zc [] w wr)∧Box (∀ j,j<k→tyE (zq f (l.getD j 0)) (ps.getD j (0,0))=true)) (fun kv _=>m - (intOf kv).toNat)
 case atStart=>exact ⟨0,by omega,rfl,hid (zc.refl _ _),hid fun j hj=>by omega⟩
 case round=>
  obtain ⟨k,hk,rfl,HK,HA⟩:=hrel;by_cases hlt:k<m
  ·have hlt':(k:Int)<(m:Int):=by omega
   obtain ⟨b,off,rfl,hc⟩:∃ b off,a=some ⟨b,off,none⟩∧w.cell? ⟨b,off+k,none⟩=some (int i64 (l.getD k 0)):=by
    rcases HZ.o with e | ⟨b,off,e,h⟩
    ·rw[e] at HL;have:=HL.o;simp at this;omega
    ·exact ⟨b,off,e,h k (by rw[← HL.o];exact hlt)⟩
   obtain ⟨b',off',rfl,hc'⟩:=HP.o.at (zg (l:=ps) (k:=k) (d:=(0,0)) (by rw[← HM.o];exact hlt));have d:=za HK.o hc;have d0:=za HK.o hc'.c0.1;have d1:=za HK.o hc'.c1.1;have HC:=hid (HRT.o (l.getD k 0));have REL:Box (tyE (zq f (l.getD k 0)) (ps.getD k (0,0))=true→∀ j,j<k+1→tyE (zq f (l.getD j 0)) (ps.getD j (0,0))=true):=hid fun hg j hj=>by
    by_cases e:j<k
    ·exact HA.o j e
    ·obtain rfl:j=k:=by omega
     exact hg
   have BAD:Box (tyE (zq f (l.getD k 0)) (ps.getD k (0,0))=false→qL f l ps=false):=hid fun hg=>by
    rw[HG.o,List.all_eq_false];exact ⟨k,List.mem_range.2 hlt,by rw[hg];simp⟩
   clear hc hc';generalize zq f (l.getD k 0)=U at *;generalize l.getD k 0=r at *;generalize ps.getD k (0,0)=T at *;have rn:=fun w'=>zfT U.1 U.2 T.1 T.2 w';unfold tyV at HC;cases hg:tyE U T with
   | true=>
    have hg':tyE (U.1,U.2) (T.1,T.2)=true:=hg;rw[hg'] at rn;have HR2:=hid (REL.o hg);clear hg hg' REL BAD;go_upto_region 6 with fail
    go_region_held3 (fun w'=>w'.cell? ⟨b',off'+k * 2,none⟩=some (int i64 T.1)∧w'.cell? ⟨b',off'+k * 2+1,none⟩=some (int i64 T.2)) (go_keep) (first | (go_at_call 242;refine (HC.o _ (HK.o.quiet (zc.drew [] _))).mono ?_;rintro e w5 ⟨rfl,k5⟩;have e0:=za ((zc.drew [] _).quiet k5) d0;have e1:=za ((zc.drew [] _).quiet k5) d1;have K5:=hid ((HK.o.quiet (zc.drew [] _)).quiet k5);clear k5))
    go_wp2_with fail;go_roundw
    case rel=>exact ⟨k+1,by omega,by go_num,K5,HR2⟩
    case measure=>simp[intOf];omega
   | false=>
    have hg':tyE (U.1,U.2) (T.1,T.2)=false:=hg;rw[hg'] at rn;have HF:=hid (BAD.o hg);clear hg hg' REL BAD;go_upto_region 6 with fail
    go_region_held3 (fun w'=>w'.cell? ⟨b',off'+k * 2,none⟩=some (int i64 T.1)∧w'.cell? ⟨b',off'+k * 2+1,none⟩=some (int i64 T.2)) (go_keep) (first | (go_at_call 242;refine (HC.o _ (HK.o.quiet (zc.drew [] _))).mono ?_;rintro e w5 ⟨rfl,k5⟩;have e0:=za ((zc.drew [] _).quiet k5) d0;have e1:=za ((zc.drew [] _).quiet k5) d1;have K5:=hid ((HK.o.quiet (zc.drew [] _)).quiet k5);clear k5))
    go_wp2_with fail;go_ret;exact ⟨by rw[HF.o];rfl,K5.o⟩
  ·obtain rfl:m=k:=by omega
   have HF:Box (qL f l ps=true):=hid (by rw[HG.o,List.all_eq_true];exact fun j hj=>HA.o j (List.mem_range.1 hj));go_wp2_with fail;go_ret;exact ⟨by rw[HF.o];rfl,HK.o⟩
theorem qw.yes{O:Option (List (Int × Int) × Int × Int)}{s:List (Int × Int) × Int × Int}{w0:World}(h:O=some s)(k:zc [] w w')(hv:SgV w0 v s):qw O w0 w (.returned (.tuple #[v,.bool true])) w':=by
 subst h;exact ⟨k,v,rfl,hv⟩
theorem qw.no{O:Option (List (Int × Int) × Int × Int)}{w0:World}(h:O=none)(k:zc [] w w'):qw O w0 w (.returned (.tuple #[agg #[.slice none 0 0,int i64 0,int i64 0],.bool false])) w':=by
 subst h;exact ⟨k,rfl⟩
theorem zgw(h:PrC w pb po P)(hf:FuC w fb fo f)(x:In8)(ar:Value)(hop:x.op=13):Calls Tryz.prog 258 #[pointer (some ⟨pb,po,none⟩),pointer (some ⟨fb,fo,none⟩),z8 x ar] w (qw (if (zq f x.a).1=2 then Qp P (zq f x.a).2 else none) w w):=by
 unfold z8;rw[hop];obtain ⟨O,hO⟩:∃ O,O=if (zq f x.a).1=2 then Qp P (zq f x.a).2 else none:=⟨_,rfl⟩
 rw[← hO];have HO:=hid hO;clear hO;obtain ⟨W,hW⟩:∃ W,W=(w.alloc (.cells #[int i64 13,int i64 x.dst,int i64 x.a,int i64 x.b,int i64 x.n,ar] 54)).alloc (.cells #[.slice none 0 0,int i64 0,int i64 0] 59):=⟨_,rfl⟩;have k2:zc [] w W:=by rw[hW];exact (zc.alloc [] w _).quiet (zc.alloc [] _ _)
 have hn1:W.heap[w.heap.size]? = some (.cells #[int i64 13,int i64 x.dst,int i64 x.a,int i64 x.b,int i64 x.n,ar] 54 (0,0)):=by rw[hW];exact ze (zh w _) (zc.alloc [] _ _)
 have hn2:W.heap[w.heap.size+1]? = some (.cells #[.slice none 0 0,int i64 0,int i64 0] 59 (0,0)):=by
  have:=zh (w.alloc (.cells #[int i64 13,int i64 x.dst,int i64 x.a,int i64 x.b,int i64 x.n,ar] 54)) (.cells #[.slice none 0 0,int i64 0,int i64 0] 59);rw[World.size_alloc] at this;rw[hW];exact this
 have HRT:=hid (zz (FuC.stays _ _ _ _ _ k2 hf) x.a);have K2:=hid k2;have HN1:=hid hn1;have HN2:=hid hn2;have HWE:=hid hW;have HP:=hid h;have i2:=zd hn1 2;have fin:∀ W' u0 u1 u2,zc [] W W'→zc [] w (((W'.setCell ⟨w.heap.size+1,0,none⟩ u0).setCell ⟨w.heap.size+1,1,none⟩ u1).setCell ⟨w.heap.size+1,2,none⟩ u2):=fun W' u0 u1 u2 k=>(K2.o.quiet k).trans (jc _ (w.heap.size+1) _ _ _) (fun x hx hl=>by simp at hx;omega);have FIN:=hid fin;have HSG:=hid fun (w':World) (k:zc [] w w')=>Jk HP.o k (zq f x.a).2;clear hW k2 hn1 hn2 fin hop h hf;generalize zq f x.a=T at *;unfold tyV at HRT;go_enter Tryz.func258,Tryz.ntmps258;go_upto_region 1 with fail;rw[← HWE.o];clear HWE;generalize w.heap.size=q at *;go_wp2_with fail;refine HRT.o.mono ?_;rintro e w1 ⟨rfl,k1⟩;have KT:=k1.quiet (zc.alloc [] w1 (.cells #[int i64 T.1,int i64 T.2] 52));have j1:=ze HN1.o KT;have j2:=ze HN2.o KT;have j3:=zh w1 (.cells #[int i64 T.1,int i64 T.2] 52);have KW:=hid KT;have J2:=hid j2;have a0:=zd j1 0;have a4:=zd j1 4;have t0:=zd j3 0;have t1:=zd j3 1;clear k1 i2 KT j1 HRT HN1 HN2;go_upto_region 2 with fail;have Z3:=hid j3;clear j3 j2;generalize w1.alloc (.cells #[int i64 T.1,int i64 T.2] 52)=W2 at *;generalize w1.heap.size=q2 at *;go_quiet (fail);have KDR:Box (zc [] W2 (W2.drewN nq)):=hid (zc.drewN _ _ _);generalize W2.drewN nq=W3 at *;replace a0:=za KDR.o a0;replace a4:=za KDR.o a4;replace t0:=za KDR.o t0;replace t1:=za KDR.o t1;by_cases hT:T.1=2
 ·replace HO:=hid (HO.o.trans (if_pos hT))
  have o1:=eqb hT;clear hT;go_wp2_with fail;cases hs:Qp P T.2 with
  | none=>
   have HOO:Box (O=none):=hid (HO.o.trans hs);rw[hs] at HSG;clear HO hs;refine (HSG.o _ ((K2.o.quiet KW.o).quiet KDR.o)).mono ?_;rintro e w5 ⟨k5,rfl⟩;have hb5:=ze J2.o (KDR.o.quiet k5);have K5:=hid ((KW.o.quiet KDR.o).quiet k5);have y0:=zi hb5 0;have y1:=zi hb5 1;have y2:=zi hb5 2;have x0:=zd hb5 0;have x1:=zd hb5 1;have x2:=zd hb5 2;have HB5:=hid hb5;clear hb5 k5;go_wp2_with fail;have h3:=jZ HB5.o (.slice none 0 0) (int i64 0) (int i64 0);have e0:=zd h3 0;have e1:=zd h3 1;have e2:=zd h3 2;exact bodyPost_ret (v:=.tuple #[agg #[.slice none 0 0,int i64 0,int i64 0],.bool false]) (by simp[results,Tryz.results258,go_sem,e0,e1,e2]) rfl (qw.no HOO.o (FIN.o _ _ _ _ K5.o))
  | some sg=>
   have HOO:Box (O=some sg):=hid (HO.o.trans hs);rw[hs] at HSG;clear HO hs;refine (HSG.o _ ((K2.o.quiet KW.o).quiet KDR.o)).mono ?_;rintro e w5 ⟨k5,v5,rfl,ga,gp,rfl,hv6⟩;have hb5:=ze J2.o (KDR.o.quiet k5);have K5:=hid ((KW.o.quiet KDR.o).quiet k5);have HV6:=hid hv6;have y0:=zi hb5 0;have y1:=zi hb5 1;have y2:=zi hb5 2;have x0:=zd hb5 0;have x1:=zd hb5 1;have x2:=zd hb5 2;have HB5:=hid hb5;clear hb5 k5 hv6;go_wp2_with fail;have h3:=jZ HB5.o (.slice ga sg.1.length gp) (int i64 sg.2.1) (int i64 sg.2.2);have e0:=zd h3 0;have e1:=zd h3 1;have e2:=zd h3 2;exact bodyPost_ret (v:=.tuple #[agg #[.slice ga sg.1.length gp,int i64 sg.2.1,int i64 sg.2.2],.bool true]) (by simp[results,Tryz.results258,go_sem,e0,e1,e2]) rfl (qw.yes HOO.o (FIN.o _ _ _ _ K5.o) ⟨ga,gp,rfl,HV6.o⟩)
 ·have HOO:Box (O=none):=hid (HO.o.trans (if_neg hT))
  clear HO;have o1:=neb hT;have hb5:=ze J2.o KDR.o;have y0:=zi hb5 0;have y1:=zi hb5 1;have y2:=zi hb5 2;have x0:=zd hb5 0;have x1:=zd hb5 1;have x2:=zd hb5 2;have HB5:=hid hb5;have K5:=hid (KW.o.quiet KDR.o);clear hT HSG hb5;go_wp2_with fail;have h3:=jZ HB5.o (.slice none 0 0) (int i64 0) (int i64 0);have e0:=zd h3 0;have e1:=zd h3 1;have e2:=zd h3 2;exact bodyPost_ret (v:=.tuple #[agg #[.slice none 0 0,int i64 0,int i64 0],.bool false]) (by simp[results,Tryz.results258,go_sem,e0,e1,e2]) rfl (qw.no HOO.o (FIN.o _ _ _ _ K5.o))
theorem zeZ(h:PrC w pb po P)(hf:FuC w fb fo f)(x:In8)(ar:Value)(hop:x.op=14):Calls Tryz.prog 258 #[pointer (some ⟨pb,po,none⟩),pointer (some ⟨fb,fo,none⟩),z8 x ar] w (qw (jM P (zq f x.a) x.n) w w):=by
 unfold z8;rw[hop];obtain ⟨O,hO⟩:∃ O,O=jM P (zq f x.a) x.n:=⟨_,rfl⟩;rw[← hO];have HO:=hid hO;clear hO;obtain ⟨W,hW⟩:∃ W,W=(w.alloc (.cells #[int i64 14,int i64 x.dst,int i64 x.a,int i64 x.b,int i64 x.n,ar] 54)).alloc (.cells #[.slice none 0 0,int i64 0,int i64 0] 59):=⟨_,rfl⟩;have k2:zc [] w W:=by rw[hW];exact (zc.alloc [] w _).quiet (zc.alloc [] _ _)
 have hn1:W.heap[w.heap.size]? = some (.cells #[int i64 14,int i64 x.dst,int i64 x.a,int i64 x.b,int i64 x.n,ar] 54 (0,0)):=by rw[hW];exact ze (zh w _) (zc.alloc [] _ _)
 have hn2:W.heap[w.heap.size+1]? = some (.cells #[.slice none 0 0,int i64 0,int i64 0] 59 (0,0)):=by
  have:=zh (w.alloc (.cells #[int i64 14,int i64 x.dst,int i64 x.a,int i64 x.b,int i64 x.n,ar] 54)) (.cells #[.slice none 0 0,int i64 0,int i64 0] 59);rw[World.size_alloc] at this;rw[hW];exact this
 have HRT:=hid (zz (FuC.stays _ _ _ _ _ k2 hf) x.a);have K2:=hid k2;have HN1:=hid hn1;have HN2:=hid hn2;have HWE:=hid hW;have HP:=hid h;have i2:=zd hn1 2;have fin:∀ W' u0 u1 u2,zc [] W W'→zc [] w (((W'.setCell ⟨w.heap.size+1,0,none⟩ u0).setCell ⟨w.heap.size+1,1,none⟩ u1).setCell ⟨w.heap.size+1,2,none⟩ u2):=fun W' u0 u1 u2 k=>(K2.o.quiet k).trans (jc _ (w.heap.size+1) _ _ _) (fun x hx hl=>by simp at hx;omega);have FIN:=hid fin;have HSG:=hid fun (w':World) (k:zc [] w w')=>zaD HP.o k (zq f x.a) x.n;clear hW k2 hn1 hn2 fin hop h hf;generalize zq f x.a=T at *;unfold tyV at HRT;go_enter Tryz.func258,Tryz.ntmps258;go_upto_region 1 with fail;rw[← HWE.o];clear HWE;generalize w.heap.size=q at *;go_wp2_with fail;refine HRT.o.mono ?_;rintro e w1 ⟨rfl,k1⟩;have KT:=k1.quiet (zc.alloc [] w1 (.cells #[int i64 T.1,int i64 T.2] 52));have j1:=ze HN1.o KT;have j2:=ze HN2.o KT;have j3:=zh w1 (.cells #[int i64 T.1,int i64 T.2] 52);have KW:=hid KT;have J2:=hid j2;have a0:=zd j1 0;have a4:=zd j1 4;have t0:=zd j3 0;have t1:=zd j3 1;clear k1 i2 KT j1 HRT HN1 HN2;go_upto_region 2 with fail;have Z3:=hid j3;clear j3 j2;generalize w1.alloc (.cells #[int i64 T.1,int i64 T.2] 52)=W2 at *;generalize w1.heap.size=q2 at *;go_quiet (fail);have KDR:Box (zc [] W2 (W2.drewN nq)):=hid (zc.drewN _ _ _);generalize W2.drewN nq=W3 at *;replace a0:=za KDR.o a0;replace a4:=za KDR.o a4;replace t0:=za KDR.o t0;replace t1:=za KDR.o t1;go_wp2_with fail;cases hs:jM P T x.n with
 | none=>
  have HOO:Box (O=none):=hid (HO.o.trans hs);rw[hs] at HSG;clear HO hs;refine (HSG.o _ ((K2.o.quiet KW.o).quiet KDR.o)).mono ?_;rintro e w5 ⟨k5,rfl⟩;have hb5:=ze J2.o (KDR.o.quiet k5);have K5:=hid ((KW.o.quiet KDR.o).quiet k5);have y0:=zi hb5 0;have y1:=zi hb5 1;have y2:=zi hb5 2;have x0:=zd hb5 0;have x1:=zd hb5 1;have x2:=zd hb5 2;have HB5:=hid hb5;clear hb5 k5;go_wp2_with fail;have h3:=jZ HB5.o (.slice none 0 0) (int i64 0) (int i64 0);have e0:=zd h3 0;have e1:=zd h3 1;have e2:=zd h3 2;exact bodyPost_ret (v:=.tuple #[agg #[.slice none 0 0,int i64 0,int i64 0],.bool false]) (by simp[results,Tryz.results258,go_sem,e0,e1,e2]) rfl (qw.no HOO.o (FIN.o _ _ _ _ K5.o))
 | some sg=>
  have HOO:Box (O=some sg):=hid (HO.o.trans hs);rw[hs] at HSG;clear HO hs;refine (HSG.o _ ((K2.o.quiet KW.o).quiet KDR.o)).mono ?_;rintro e w5 ⟨k5,v5,rfl,ga,gp,rfl,hv6⟩;have hb5:=ze J2.o (KDR.o.quiet k5);have K5:=hid ((KW.o.quiet KDR.o).quiet k5);have HV6:=hid hv6;have y0:=zi hb5 0;have y1:=zi hb5 1;have y2:=zi hb5 2;have x0:=zd hb5 0;have x1:=zd hb5 1;have x2:=zd hb5 2;have HB5:=hid hb5;clear hb5 k5 hv6;go_wp2_with fail;have h3:=jZ HB5.o (.slice ga sg.1.length gp) (int i64 sg.2.1) (int i64 sg.2.2);have e0:=zd h3 0;have e1:=zd h3 1;have e2:=zd h3 2;exact bodyPost_ret (v:=.tuple #[agg #[.slice ga sg.1.length gp,int i64 sg.2.1,int i64 sg.2.2],.bool true]) (by simp[results,Tryz.results258,go_sem,e0,e1,e2]) rfl (qw.yes HOO.o (FIN.o _ _ _ _ K5.o) ⟨ga,gp,rfl,HV6.o⟩)
theorem zfk(h:PrC w pb po P)(hf:FuC w fb fo f)(x:In8)(ar:Value)(hop:x.op=12)(hn:inB x.n P.funcs.length=true):Calls Tryz.prog 258 #[pointer (some ⟨pb,po,none⟩),pointer (some ⟨fb,fo,none⟩),z8 x ar] w (qw (Qp P (zf P x.n.toNat).sig) w w):=by
 unfold z8;rw[hop];obtain ⟨O,hO⟩:∃ O,O=Qp P (zf P x.n.toNat).sig:=⟨_,rfl⟩;rw[← hO];have HO:=hid hO;clear hO;obtain ⟨W,hW⟩:∃ W,W=(w.alloc (.cells #[int i64 12,int i64 x.dst,int i64 x.a,int i64 x.b,int i64 x.n,ar] 54)).alloc (.cells #[.slice none 0 0,int i64 0,int i64 0] 59):=⟨_,rfl⟩;have k2:zc [] w W:=by rw[hW];exact (zc.alloc [] w _).quiet (zc.alloc [] _ _)
 have hn1:W.heap[w.heap.size]? = some (.cells #[int i64 12,int i64 x.dst,int i64 x.a,int i64 x.b,int i64 x.n,ar] 54 (0,0)):=by rw[hW];exact ze (zh w _) (zc.alloc [] _ _)
 have hn2:W.heap[w.heap.size+1]? = some (.cells #[.slice none 0 0,int i64 0,int i64 0] 59 (0,0)):=by
  have:=zh (w.alloc (.cells #[int i64 12,int i64 x.dst,int i64 x.a,int i64 x.b,int i64 x.n,ar] 54)) (.cells #[.slice none 0 0,int i64 0,int i64 0] 59);rw[World.size_alloc] at this;rw[hW];exact this
 have HRT:=hid (zz (FuC.stays _ _ _ _ _ k2 hf) x.a);have K2:=hid k2;have HN1:=hid hn1;have HN2:=hid hn2;have HWE:=hid hW;have HP:=hid h;have i2:=zd hn1 2;have fin:∀ W' u0 u1 u2,zc [] W W'→zc [] w (((W'.setCell ⟨w.heap.size+1,0,none⟩ u0).setCell ⟨w.heap.size+1,1,none⟩ u1).setCell ⟨w.heap.size+1,2,none⟩ u2):=fun W' u0 u1 u2 k=>(K2.o.quiet k).trans (jc _ (w.heap.size+1) _ _ _) (fun x hx hl=>by simp at hx;omega);have FIN:=hid fin;obtain ⟨g0,g1⟩:=zt.1 hn;obtain ⟨m,hm⟩:∃ m:Nat,x.n=(m:Int):=⟨x.n.toNat,by omega⟩;rw[hm] at g1;have HW:Box (∀ w,Calls Tryz.prog 123 #[int i64 x.n,int i64 (P.funcs.length:Int)] w fun e w'=>e=.returned (.bool true)∧w'=w):=hid fun w=>by rw[← hn];exact z6 _ _ w
 obtain ⟨fa,fp,c4,r4,_⟩:=h.c4;obtain ⟨gb,go,rfl,hfu0⟩:=r4.at (zg (l:=P.funcs) (k:=m) (d:=⟨0,[],[]⟩) (by omega));have HC4:Box (∀ w',zc [] w w'→w'.cell? ⟨pb,po+4,none⟩=some (.slice (some ⟨gb,go,none⟩) P.funcs.length fp)∧w'.cell? ⟨gb,go+m * 3,none⟩=some (int i64 (zf P m).sig)):=hid fun w' k=>⟨za k c4,za k hfu0.c0.1⟩;have HSG:=hid fun (w':World) (k:zc [] w w')=>Jk HP.o k (zf P m).sig;have em:x.n.toNat=m:=by omega
 rw[em] at HO;have hmm:=hid hm;clear c4 r4 hfu0 hn g0 em hm;clear hW k2 hn1 hn2 fin hop h hf;generalize zq f x.a=T at *;unfold tyV at HRT;go_enter Tryz.func258,Tryz.ntmps258;go_upto_region 1 with fail;rw[← HWE.o];clear HWE;generalize w.heap.size=q at *;go_wp2_with fail;refine HRT.o.mono ?_;rintro e w1 ⟨rfl,k1⟩;have KT:=k1.quiet (zc.alloc [] w1 (.cells #[int i64 T.1,int i64 T.2] 52));have j1:=ze HN1.o KT;have j2:=ze HN2.o KT;have j3:=zh w1 (.cells #[int i64 T.1,int i64 T.2] 52);have KW:=hid KT;have J2:=hid j2;have a0:=zd j1 0;have a4:=zd j1 4;have t0:=zd j3 0;have t1:=zd j3 1;clear k1 i2 KT j1 HRT HN1 HN2;go_upto_region 2 with fail;have Z3:=hid j3;clear j3 j2;generalize w1.alloc (.cells #[int i64 T.1,int i64 T.2] 52)=W2 at *;generalize w1.heap.size=q2 at *;rw[hmm.o] at a4 HW;clear hmm;obtain ⟨f4,f5⟩:=HC4.o _ (K2.o.quiet KW.o);generalize (zf P m).sig=sn at *;generalize P.funcs.length=FN at *;go_quiet ((go_at_call 123;exact Calls.quiet_of_same (HW.o _)));have KDR:Box (zc [] W2 (W2.drewN nq)):=hid (zc.drewN _ _ _);go_upto_region 3 with fail;generalize W2.drewN nq=W3 at *;replace a4:=za KDR.o a4;replace f4:=za KDR.o f4;replace f5:=za KDR.o f5;clear a0 t0 t1;cases hs:Qp P sn with
 | none=>
  have HOO:Box (O=none):=hid (HO.o.trans hs);rw[hs] at HSG;clear HO hs
  go_region_with (go_at_call 196;refine (HSG.o _ (((K2.o.quiet KW.o).quiet KDR.o).quiet (zc.drew [] _))).mono ?_;rintro e w5 ⟨k5,rfl⟩;have kk:=(zc.drew [] W3).quiet k5;have g4:=za kk f4;have g5:=za kk f5;have g6:=za kk a4;have hb5:=ze J2.o (KDR.o.quiet kk);have K5:=hid ((KW.o.quiet KDR.o).quiet kk);have y0:=zi hb5 0;have y1:=zi hb5 1;have y2:=zi hb5 2;have x0:=zd hb5 0;have x1:=zd hb5 1;have x2:=zd hb5 2;have HB5:=hid hb5;clear hb5 k5 kk)
  all_goals (
   go_wp2_with fail;have h3:=jZ HB5.o (.slice none 0 0) (int i64 0) (int i64 0);have e0:=zd h3 0;have e1:=zd h3 1;have e2:=zd h3 2
   exact bodyPost_ret (v:=.tuple #[agg #[.slice none 0 0,int i64 0,int i64 0],.bool false]) (by simp[results,Tryz.results258,go_sem,e0,e1,e2]) rfl (qw.no HOO.o (FIN.o _ _ _ _ K5.o)))
 | some sg=>
  have HOO:Box (O=some sg):=hid (HO.o.trans hs);rw[hs] at HSG;clear HO hs
  go_region_with (go_at_call 196;refine (HSG.o _ (((K2.o.quiet KW.o).quiet KDR.o).quiet (zc.drew [] _))).mono ?_;rintro e w5 ⟨k5,v5,rfl,ga,gp,rfl,hv6⟩;have kk:=(zc.drew [] W3).quiet k5;have g4:=za kk f4;have g5:=za kk f5;have g6:=za kk a4;have hb5:=ze J2.o (KDR.o.quiet kk);have K5:=hid ((KW.o.quiet KDR.o).quiet kk);have y0:=zi hb5 0;have y1:=zi hb5 1;have y2:=zi hb5 2;have x0:=zd hb5 0;have x1:=zd hb5 1;have x2:=zd hb5 2;have HB5:=hid hb5;have HV6:=hid hv6;clear hb5 k5 kk hv6)
  all_goals (
   go_wp2_with fail;have h3:=jZ HB5.o (.slice ga sg.1.length gp) (int i64 sg.2.1) (int i64 sg.2.2);have e0:=zd h3 0;have e1:=zd h3 1;have e2:=zd h3 2
   exact bodyPost_ret (v:=.tuple #[agg #[.slice ga sg.1.length gp,int i64 sg.2.1,int i64 sg.2.2],.bool true]) (by simp[results,Tryz.results258,go_sem,e0,e1,e2]) rfl (qw.yes HOO.o (FIN.o _ _ _ _ K5.o) ⟨ga,gp,rfl,HV6.o⟩))
theorem J4{b:Bool}(ho:oi.op=.unOp .not 4 x)(hx:ev x=.bool b)(hr:(!b)=r:=by rfl):(execOp ev oi).run Tryz.prog w=.ok (.value (.bool r)) w:=by
 subst hr;simp[execOp,ho,hx,go_sem]
theorem zI(hc:w.cell? ad=some v)(ho:oi.op=.load 3 y)(hy:ev y=.pointer (some ad)):(execOp ev oi).run Tryz.prog w=.ok (.value v) w:=by simp[execOp,ho,hy,go_sem,hc]
theorem zH(hc:w.cell? ad=some v)(ho:oi.op=.load 47 y)(hy:ev y=.pointer (some ad)):(execOp ev oi).run Tryz.prog w=.ok (.value v) w:=by simp[execOp,ho,hy,go_sem,hc]
theorem jx(ho:oi.op=.indexAddr 47 x y)(hx:ev x=.slice (some ⟨b,o,none⟩) n c)(hy:ev y=int i64 (j:Int))(hj:(j:Int)<(n:Int)):(execOp ev oi).run Tryz.prog w=.ok (.value (pointer (some ⟨b,o+j * 2,none⟩))) w:=by
 simp[execOp,ho,hx,hy,go_sem];intro h';omega
theorem qy(ho:oi.op=.call { callee:=.builtin .len,args:=#[x],argTypes:=#[47] })(hx:ev x=.slice a n c):(execOp ev oi).run Tryz.prog w=.ok (.value (int i64 (n:Int))) w:=by
 obtain ⟨dst,op,type,pos,after,guard⟩:=oi;simp only at ho;subst ho;simp[hx,go_sem]
theorem zbp(hc:w.cell? ad=some v)(ho:oi.op=.load 40 y)(hy:ev y=.pointer (some ad)):(execOp ev oi).run Tryz.prog w=.ok (.value v) w:=by simp[execOp,ho,hy,go_sem,hc]
theorem JS(ho:oi.op=.call { callee:=.builtin .len,args:=#[x],argTypes:=#[40] })(hx:ev x=.slice a n c):(execOp ev oi).run Tryz.prog w=.ok (.value (int i64 (n:Int))) w:=by
 obtain ⟨dst,op,type,pos,after,guard⟩:=oi;simp only at ho;subst ho;simp[hx,go_sem]
theorem q7(hc:w.cell? ad=some v)(ho:oi.op=.load 41 y)(hy:ev y=.pointer (some ad)):(execOp ev oi).run Tryz.prog w=.ok (.value v) w:=by simp[execOp,ho,hy,go_sem,hc]
theorem jH(ho:oi.op=.indexAddr 41 x y)(hx:ev x=.slice (some ⟨b,o,none⟩) n c)(hy:ev y=int i64 (j:Int))(hj:(j:Int)<(n:Int)):(execOp ev oi).run Tryz.prog w=.ok (.value (pointer (some ⟨b,o+j * 3,none⟩))) w:=by
 simp[execOp,ho,hx,hy,go_sem];intro h';omega
theorem ZQ(ho:oi.op=.call { callee:=.builtin .len,args:=#[x],argTypes:=#[41] })(hx:ev x=.slice a n c):(execOp ev oi).run Tryz.prog w=.ok (.value (int i64 (n:Int))) w:=by
 obtain ⟨dst,op,type,pos,after,guard⟩:=oi;simp only at ho;subst ho;simp[hx,go_sem]
theorem zaO(hc:w.cell? ad=some v)(ho:oi.op=.load 39 y)(hy:ev y=.pointer (some ad)):(execOp ev oi).run Tryz.prog w=.ok (.value v) w:=by simp[execOp,ho,hy,go_sem,hc]
theorem zfr(ho:oi.op=.indexAddr 39 x y)(hx:ev x=.slice (some ⟨b,o,none⟩) n c)(hy:ev y=int i64 (j:Int))(hj:(j:Int)<(n:Int)):(execOp ev oi).run Tryz.prog w=.ok (.value (pointer (some ⟨b,o+j,none⟩))) w:=by
 simp[execOp,ho,hx,hy,go_sem];intro h';omega
theorem zdI(ho:oi.op=.call { callee:=.builtin .len,args:=#[x],argTypes:=#[39] })(hx:ev x=.slice a n c):(execOp ev oi).run Tryz.prog w=.ok (.value (int i64 (n:Int))) w:=by
 obtain ⟨dst,op,type,pos,after,guard⟩:=oi;simp only at ho;subst ho;simp[hx,go_sem]
theorem zfx(ho:oi.op=.indexAddr 42 x y)(hx:ev x=.slice (some ⟨b,o,none⟩) n c)(hy:ev y=int i64 (j:Int))(hj:(j:Int)<(n:Int)):(execOp ev oi).run Tryz.prog w=.ok (.value (pointer (some ⟨b,o+j * 3,none⟩))) w:=by
 simp[execOp,ho,hx,hy,go_sem];intro h';omega
theorem ja(hc:w.cell? ad=some v)(ho:oi.op=.load 43 y)(hy:ev y=.pointer (some ad)):(execOp ev oi).run Tryz.prog w=.ok (.value v) w:=by simp[execOp,ho,hy,go_sem,hc]
theorem jO(ho:oi.op=.indexAddr 43 x y)(hx:ev x=.slice (some ⟨b,o,none⟩) n c)(hy:ev y=int i64 (j:Int))(hj:(j:Int)<(n:Int)):(execOp ev oi).run Tryz.prog w=.ok (.value (pointer (some ⟨b,o+j * 3,none⟩))) w:=by
 simp[execOp,ho,hx,hy,go_sem];intro h';omega
theorem JI(ho:oi.op=.call { callee:=.builtin .len,args:=#[x],argTypes:=#[43] })(hx:ev x=.slice a n c):(execOp ev oi).run Tryz.prog w=.ok (.value (int i64 (n:Int))) w:=by
 obtain ⟨dst,op,type,pos,after,guard⟩:=oi;simp only at ho;subst ho;simp[hx,go_sem]
theorem J9(hc:w.cell? ad=some v)(ho:oi.op=.load 36 y)(hy:ev y=.pointer (some ad)):(execOp ev oi).run Tryz.prog w=.ok (.value v) w:=by simp[execOp,ho,hy,go_sem,hc]
theorem QZ(ho:oi.op=.indexAddr 36 x y)(hx:ev x=.slice (some ⟨b,o,none⟩) n c)(hy:ev y=int i64 (j:Int))(hj:(j:Int)<(n:Int)):(execOp ev oi).run Tryz.prog w=.ok (.value (pointer (some ⟨b,o+j,none⟩))) w:=by
 simp[execOp,ho,hx,hy,go_sem];intro h';omega
theorem zlm(hc:w.cell? ad=some v)(ho:oi.op=.load 48 y)(hy:ev y=.pointer (some ad)):(execOp ev oi).run Tryz.prog w=.ok (.value v) w:=by simp[execOp,ho,hy,go_sem,hc]
theorem zkY(ho:oi.op=.indexAddr 48 x y)(hx:ev x=.slice (some ⟨b,o,none⟩) n c)(hy:ev y=int i64 (j:Int))(hj:(j:Int)<(n:Int)):(execOp ev oi).run Tryz.prog w=.ok (.value (pointer (some ⟨b,o+j * 5,none⟩))) w:=by
 simp[execOp,ho,hx,hy,go_sem];intro h';omega
theorem zfs(ho:oi.op=.indexAddr 100 x y)(hx:ev x=.slice (some ⟨b,o,none⟩) n c)(hy:ev y=int i64 (j:Int))(hj:(j:Int)<(n:Int)):(execOp ev oi).run Tryz.prog w=.ok (.value (pointer (some ⟨b,o+j * 3,none⟩))) w:=by
 simp[execOp,ho,hx,hy,go_sem];intro h';omega
theorem zZ(h0:w.cell? ⟨b,o+0,none⟩=some v0)(h1:w.cell? ⟨b,o+1,none⟩=some v1)(ho:oi.op=.load 52 y)(hy:ev y=pointer (some ⟨b,o,none⟩)):(execOp ev oi).run Tryz.prog w=.ok (.value (agg #[v0,v1])) w:=by
 rw[Nat.add_zero] at h0;simp[execOp,ho,hy,go_sem,h0,h1]
theorem zlH(h0:w.cell? ⟨b,o+0,none⟩=some v0)(h1:w.cell? ⟨b,o+1,none⟩=some v1)(h2:w.cell? ⟨b,o+2,none⟩=some v2)(ho:oi.op=.load 50 y)(hy:ev y=pointer (some ⟨b,o,none⟩)):(execOp ev oi).run Tryz.prog w=.ok (.value (agg #[v0,v1,v2])) w:=by
 rw[Nat.add_zero] at h0;simp[execOp,ho,hy,go_sem,h0,h1,h2]
theorem zck(h0:w.cell? ⟨b,o+0,none⟩=some v0)(h1:w.cell? ⟨b,o+1,none⟩=some v1)(h2:w.cell? ⟨b,o+2,none⟩=some v2)(ho:oi.op=.load 59 y)(hy:ev y=pointer (some ⟨b,o,none⟩)):(execOp ev oi).run Tryz.prog w=.ok (.value (agg #[v0,v1,v2])) w:=by
 rw[Nat.add_zero] at h0;simp[execOp,ho,hy,go_sem,h0,h1,h2]
theorem zmO{v3 v4:Value}(h0:w.cell? ⟨b,o+0,none⟩=some v0)(h1:w.cell? ⟨b,o+1,none⟩=some v1)(h2:w.cell? ⟨b,o+2,none⟩=some v2)(h3:w.cell? ⟨b,o+3,none⟩=some v3)(h4:w.cell? ⟨b,o+4,none⟩=some v4)(ho:oi.op=.load 57 y)(hy:ev y=pointer (some ⟨b,o,none⟩)):(execOp ev oi).run Tryz.prog w=.ok (.value (agg #[v0,v1,v2,v3,v4])) w:=by
 rw[Nat.add_zero] at h0;simp[execOp,ho,hy,go_sem,h0,h1,h2,h3,h4]
theorem zmE(h0:w.cell? ⟨b,o+0,none⟩=some v0)(h1:w.cell? ⟨b,o+1,none⟩=some v1)(h2:w.cell? ⟨b,o+2,none⟩=some v2)(ho:oi.op=.load 99 y)(hy:ev y=pointer (some ⟨b,o,none⟩)):(execOp ev oi).run Tryz.prog w=.ok (.value (agg #[v0,v1,v2])) w:=by
 rw[Nat.add_zero] at h0;simp[execOp,ho,hy,go_sem,h0,h1,h2]
theorem zgR{a b:Int}(ho:oi.op=.binOp .eql 3 x y 3)(hx:ev x=int i64 a)(hy:ev y=int i64 b)(hr:(a == b)=r):(execOp ev oi).run Tryz.prog w=.ok (.value (.bool r)) w:=by
 simp[execOp,ho,hx,hy,go_sem,hr]
theorem zdA{a b:Int}(ho:oi.op=.binOp .neq 3 x y 3)(hx:ev x=int i64 a)(hy:ev y=int i64 b)(hr:(a != b)=r):(execOp ev oi).run Tryz.prog w=.ok (.value (.bool r)) w:=by
 simp[execOp,ho,hx,hy,go_sem,hr]
theorem zd7{a b:Int}(ho:oi.op=.binOp .gtr 3 x y 3)(hx:ev x=int i64 a)(hy:ev y=int i64 b)(hr:decide (b<a)=r):(execOp ev oi).run Tryz.prog w=.ok (.value (.bool r)) w:=by
 simp[execOp,ho,hx,hy,go_sem,hr]
theorem zjx{P:Program}{f:Nat}{ts:Array TypeId}(ho:oi.op=.call { callee:=.value (.func f),args:=#[],argTypes:=ts })(hf:ev (.func f)=.func (.func f) #[] #[])(hc:(callFunc f #[]).run P w=.ok (.enter f #[]) w):(execOp ev oi).run P w=.ok (.enter f #[]) w:=by
 skip
 simp[execOp,ho,hf,go_sem,hc]
theorem qq{P:Program}{f:Nat}{ts:Array TypeId}(ho:oi.op=.call { callee:=.value (.func f),args:=#[x0,x1],argTypes:=ts })(hf:ev (.func f)=.func (.func f) #[] #[])(h0:ev x0=v0)(h1:ev x1=v1)(hc:(callFunc f #[v0,v1]).run P w=.ok (.enter f #[v0,v1]) w):(execOp ev oi).run P w=.ok (.enter f #[v0,v1]) w:=by
 subst h0 h1;simp[execOp,ho,hf,go_sem,hc]
theorem zmz{P:Program}{f:Nat}{x2:Operand}{ts:Array TypeId}(ho:oi.op=.call { callee:=.value (.func f),args:=#[x0,x1,x2],argTypes:=ts })(hf:ev (.func f)=.func (.func f) #[] #[])(h0:ev x0=v0)(h1:ev x1=v1)(h2:ev x2=v2)(hc:(callFunc f #[v0,v1,v2]).run P w=.ok (.enter f #[v0,v1,v2]) w):(execOp ev oi).run P w=.ok (.enter f #[v0,v1,v2]) w:=by
 subst h0 h1 h2;simp[execOp,ho,hf,go_sem,hc]
theorem zmf{P:Program}{f:Nat}{x2 x3:Operand}{ts:Array TypeId}{v3:Value}(ho:oi.op=.call { callee:=.value (.func f),args:=#[x0,x1,x2,x3],argTypes:=ts })(hf:ev (.func f)=.func (.func f) #[] #[])(h0:ev x0=v0)(h1:ev x1=v1)(h2:ev x2=v2)(h3:ev x3=v3)(hc:(callFunc f #[v0,v1,v2,v3]).run P w=.ok (.enter f #[v0,v1,v2,v3]) w):(execOp ev oi).run P w=.ok (.enter f #[v0,v1,v2,v3]) w:=by
 subst h0 h1 h2 h3;simp[execOp,ho,hf,go_sem,hc]
theorem zif{a b c d:Int}(ho:oi.op=.binOp .eql 52 x y 52)(hx:ev x=agg #[int i64 a,int i64 b])(hy:ev y=agg #[int i64 c,int i64 d])(hr:tyE (a,b) (c,d)=r):(execOp ev oi).run Tryz.prog w=.ok (.value (.bool r)) w:=by
 subst hr;simp[execOp,ho,hx,hy,go_sem];unfold tyE;by_cases h:a=c <;> by_cases h':b=d <;> simp[h,h']
theorem zjh{a b c d:Int}(ho:oi.op=.binOp .neq 52 x y 52)(hx:ev x=agg #[int i64 a,int i64 b])(hy:ev y=agg #[int i64 c,int i64 d])(hr:tyE (a,b) (c,d)=r):(execOp ev oi).run Tryz.prog w=.ok (.value (.bool (!r))) w:=by
 subst hr;simp[execOp,ho,hx,hy,go_sem];unfold tyE;by_cases h:a=c <;> by_cases h':b=d <;> simp[h,h']
theorem znO{p m:Nat}{ad:Option Addr}{k:Operand}(ho:oi.op=.slice 47 x (some k) none none)(hx:ev x=.slice (some ⟨b,o,none⟩) n p)(hk:ev k=int i64 1)(hn:n=m+1)(hp:p=c+1)(had:ad=if c=0 then some ⟨b,o,none⟩ else some ⟨b,o+2,none⟩):(execOp ev oi).run Tryz.prog w=.ok (.value (.slice ad m c)) w:=by
 subst hn hp had;have h1:(1:Int)≤(m:Int)+1:=by omega
 simp[execOp,ho,hx,hk,go_sem,h1]
theorem zlu(ho:oi.op=.indexAddr 47 x y)(hx:ev x=.slice (some ⟨b,o,none⟩) n c)(hy:ev y=int i64 0)(hj:(0:Int)<(n:Int)):(execOp ev oi).run Tryz.prog w=.ok (.value (pointer (some ⟨b,o,none⟩))) w:=by
 simp[execOp,ho,hx,hy,go_sem];omega
theorem qk(v u:Value)(w:World):(callFunc 194 #[v,u]).run Tryz.prog w=.ok (.enter 194 #[v,u]) w:=by go_simp
theorem zbP(v u:Value)(w:World):(callFunc 239 #[v,u]).run Tryz.prog w=.ok (.enter 239 #[v,u]) w:=by go_simp
def rgC(r:Rg):List Value:=[int i64 r.1.1,int i64 r.1.2.1,.bool r.1.2.2,.bool r.2]
def frC(x:Fr):List Value:=int i64 x.f :: int i64 x.b :: int i64 x.i :: x.rs.flatMap rgC
structure znG (w:World) (fv:Value) (l:List Fr):Prop where
 own:w.ownsRow 0 114 67 fv l.length (l.flatMap frC)
 sz:∀ x,x∈l→x.rs.length=16
abbrev zku (m:Ma) (pp hb fg fc:Nat) (rv:Value) (oa:Option Addr) (oc:Nat):Array Value:=
 #[pointer (some ⟨pp,0,none⟩),.slice oa m.ora.length oc,pointer (some ⟨hb,0,none⟩),rv,.slice (some ⟨fg,0,none⟩) (m.bot.length+1) fc,.bool m.lc,int i64 m.lf,.bool m.sk,int i64 m.res.1,int i64 m.res.2.1,.bool m.res.2.2]
structure MaS (W0 w:World) (mp pp fg:Nat) (P:Pr8) (m:Ma) (F:List Nat) (hb fc:Nat) (rv:Value) (oa:Option Addr) (oc:Nat) (os:List Ob) (Fh:List Nat):Prop where
 box:w.heap[mp]? = some (.cells (zku m pp hb fg fc rv oa oc) 119 (0,0))
 frs:znG w (.slice (some ⟨fg,0,none⟩) (m.bot.length+1) fc) (m.bot ++ [m.top])
 rcs:w.ownsRow 0 3 1 rv m.rc.length (JA m.rc)
 hp:Hp w hb os Fh
 bar:os.map zoi=m.hp
 mp_in:mp∈F
 fg_in:fg∈F
 rv_in:∀ b,rv.ownBlock=some b→b∈F
 fh_in:∀ x,x∈Fh→x∈F
 off:∀ x,x∈Fh→x≠mp∧x≠fg∧rv.ownBlock≠some x
 prc:PrC W0 pp 0 P
 orc:z7 W0 1 ji oa m.ora
 sub:∀ u,zc F w u→Sub W0 u
 ocap:m.ora.length≤oc∧m.ora.length≤maxLen
 lt:∀ x,x∈F→x<w.heap.size
section
variable {W0 w w':World}{mp pp fg:Nat}{P:Pr8}{m:Ma}{F:List Nat}{hb fc:Nat}{rv:Value}{oa:Option Addr}{oc:Nat}{os:List Ob}{Fh:List Nat}
theorem qM{w:World}{base n c b:Nat}{v:Value}{xs:List Value}{T U:TypeId}{cs:Array Value}(h:w.ownsRow base T c v n xs)(hb:w.heap[b]? = some (.cells cs U (0,0)))(hne:T≠U):v.ownBlock≠some b:=by
 intro e;rcases h.2 with ⟨rfl,_⟩ | ⟨g,cap,cur,rfl,_,hg,_⟩
 ·simp[Value.ownBlock] at e
 ·simp[Value.ownBlock] at e
  subst e;rw[hg] at hb;simp at hb;exact hne hb.2
end
end Go.Proofs.YthflgjkmbakedaaGreatDoor
