import Derived.Lib.UnsafeStr
import Derived.Deep.Fields
import Derived.Maps.OwnSet
import Derived.ChangeKeysEq
import Derived.Test.YtgmbkiagdhjpnaaGreatDoorU03
import Derived.Test.YtgmbkiagdhjpnaaGreatDoorU05

namespace Go.Proofs.YtgmbkiagdhjpnaaGreatDoor
open Go.RowKit
open Go.Value (int pointer agg)
open Go.IntKind (i64)
set_option maxRecDepth 20000
set_option maxHeartbeats 2000000
variable {B M b c d fuel i n:Nat}{L:List Nat}{a:Act}{ks:List (Int × Int)}{l listed:Array Bool}{oi:Oper}{v x y:Value}{w w':World}
def Sub(w w':World):Prop:=∀ p v,w.cell? p=some v→w'.cell? p=some v
theorem Sub.of(k:za [] w w'):Sub w w':=fun _ _ h=>zb k h
def zbC{α:Type}(R:World→Nat→Nat→α→Prop):Prop:=∀ w w' b o y,Sub w w'→R w b o y→R w' b o y
theorem zq.sub{α:Type}{R:World→Nat→Nat→α→Prop}{a:Option Addr}{l:List α}(h:zq w c R a l)(hR:zbC R)(k:Sub w w'):zq w' c R a l:=by
 rcases h with h | ⟨b,off,h1,h2⟩
 ·exact .inl h
 ·exact .inr ⟨b,off,h1,fun j y hy=>hR w w' b _ y k (h2 j y hy)⟩
theorem zI.sub:zbC zI:=fun _ _ _ _ _ k h=>⟨k _ _ h.1,h.2⟩
theorem SlC.sub{α:Type}{R:World→Nat→Nat→α→Prop}(hR:zbC R):zbC (SlC c R):=by
 rintro w w' b o l k ⟨a,cp,h1,h2,h3⟩;exact ⟨a,cp,k _ _ h1,h2.sub hR k,h3⟩
theorem jH.sub:zbC jH:=SlC.sub zI.sub
theorem TyC.sub:zbC TyC:=fun _ _ _ _ _ k h=>⟨zI.sub _ _ _ _ _ k h.c0,zI.sub _ _ _ _ _ k h.c1⟩
theorem TysC.sub:zbC (SlC 2 TyC):=SlC.sub TyC.sub
theorem InC.sub:zbC InC:=fun _ _ _ _ _ k h=>⟨zI.sub _ _ _ _ _ k h.c0,zI.sub _ _ _ _ _ k h.c1,zI.sub _ _ _ _ _ k h.c2,zI.sub _ _ _ _ _ k h.c3,zI.sub _ _ _ _ _ k h.c4,jH.sub _ _ _ _ _ k h.c5⟩
theorem BlC.sub:zbC BlC:=fun _ _ _ _ _ k h=>⟨SlC.sub InC.sub _ _ _ _ _ k h.c0,zI.sub _ _ _ _ _ k h.c1,zI.sub _ _ _ _ _ k h.c2,zI.sub _ _ _ _ _ k h.c3,zI.sub _ _ _ _ _ k h.c4⟩
theorem FuC.sub:zbC FuC:=fun _ _ _ _ _ k h=>⟨zI.sub _ _ _ _ _ k h.c0,TysC.sub _ _ _ _ _ k h.c1,SlC.sub BlC.sub _ _ _ _ _ k h.c2⟩
theorem SgC.sub:zbC SgC:=fun _ _ _ _ _ k h=>⟨TysC.sub _ _ _ _ _ k h.c0,zI.sub _ _ _ _ _ k h.c1,zI.sub _ _ _ _ _ k h.c2⟩
theorem ImC.sub:zbC ImC:=fun _ _ _ _ _ k h=>⟨zI.sub _ _ _ _ _ k h.c0,zI.sub _ _ _ _ _ k h.c1,jH.sub _ _ _ _ _ k h.c2⟩
theorem PrC.sub:zbC PrC:=fun _ _ _ _ _ k h=>⟨SlC.sub TysC.sub _ _ _ _ _ k h.c0,SlC.sub SgC.sub _ _ _ _ _ k h.c1,SlC.sub jH.sub _ _ _ _ _ k h.c2,SlC.sub ImC.sub _ _ _ _ _ k h.c3,SlC.sub FuC.sub _ _ _ _ _ k h.c4,zI.sub _ _ _ _ _ k h.c5⟩
def zQ(B:Nat)(w:World):World:={ w with heap:=w.heap.mapIdx fun i o=>if i<B then .cells #[] 0 (0,0) else o }
theorem Jr(B:Nat)(w:World)(k:Nat):(zQ B w).heap[k]? = (w.heap[k]?).map fun o=>if k<B then Obj.cells #[] 0 (0,0) else o:=by
 unfold zQ;rw[Array.getElem?_mapIdx]
theorem Qs{k:Nat}(h:B≤k):(zQ B w).heap[k]? = w.heap[k]? := by
 rw[Jr];have:¬ k<B:=by omega
 simp[this]
theorem Za{p:Addr}(h:(zQ B w).cell? p=some v):B≤p.block∧w.cell? p=some v:=by
 by_cases hb:p.block<B
 ·exfalso
  unfold World.cell? at h;rw[Jr] at h;cases e:w.heap[p.block]? with
  | none=>rw[e] at h;simp at h
  | some o=>rw[e] at h;simp[hb] at h
 ·refine ⟨by omega,?_⟩
  rw[← World.cell?_of_block (w:=w) (Qs (show B≤p.block by omega))];exact h
theorem Q7{p:Addr}(hb:B≤p.block)(h:w.cell? p=some v):(zQ B w).cell? p=some v:=by
 rw[World.cell?_of_block (w:=w) (Qs hb)];exact h
theorem Sub.kept(k:za L w w')(h:∀ x,x∈L→x<B):Sub (zQ B w) (zQ B w'):=fun p _ e=>by
 obtain ⟨h1,h2⟩:=Za e;refine Q7 h1 ?_;rw[k.cell (block_lt_of_cell h2) (fun hm=>by have:=h _ hm;omega)];exact h2
theorem Sub.trans{a b c:World}(h:Sub a b)(k:Sub b c):Sub a c:=fun p v e=>k p v (h p v e)
def JK{α:Type}(V:World→Value→α→Prop):Prop:=∀ w w' v y,Sub w w'→V w v y→V w' v y
theorem SlV.sub{α:Type}{R:World→Nat→Nat→α→Prop}(hR:zbC R):JK (SlV c R):=by
 rintro w w' v l k ⟨a,cp,h1,h2,h3⟩;exact ⟨a,cp,h1,h2.sub hR k,h3⟩
theorem jO.sub:JK jO:=SlV.sub zI.sub
theorem QO.sub:JK QO:=SlV.sub TyC.sub
theorem zjF.sub:JK zjF:=SlV.sub InC.sub
theorem zia.sub:JK zia:=SlV.sub BlC.sub
theorem SgV.sub:JK SgV:=by
 rintro w w' v x k ⟨a,cp,h1,h2,h3⟩;exact ⟨a,cp,h1,QO.sub _ _ _ _ k h2,h3⟩
theorem IfV.sub:JK IfV:=by
 rintro w w' v x k ⟨a,cp,h1,h2⟩;exact ⟨a,cp,h1,jO.sub _ _ _ _ k h2⟩
theorem ImV.sub:JK ImV:=by
 rintro w w' v x k ⟨a,cp,h1,h2,h3,h4⟩;exact ⟨a,cp,h1,h2,h3,jO.sub _ _ _ _ k h4⟩
theorem InV.sub:JK InV:=by
 rintro w w' v x k ⟨a,cp,h1,h2,h3,h4,h5,h6,h7⟩;exact ⟨a,cp,h1,h2,h3,h4,h5,h6,jO.sub _ _ _ _ k h7⟩
theorem BlV.sub:JK BlV:=by
 rintro w w' v x k ⟨a,cp,h1,h2,h3⟩;exact ⟨a,cp,h1,zjF.sub _ _ _ _ k h2,h3⟩
theorem FuV.sub:JK FuV:=by
 rintro w w' v x k ⟨a,cp,a',cp',h1,h2,h3,h4⟩;exact ⟨a,cp,a',cp',h1,h2,QO.sub _ _ _ _ k h3,zia.sub _ _ _ _ k h4⟩
theorem SlV.cell{α:Type}{R:World→Nat→Nat→α→Prop}{a:Option Addr}{cp o:Nat}{l:List α}(h:SlV c R w (.slice a l.length cp) l)(hc:w.cell? ⟨b,o,none⟩=some (.slice a l.length cp)):SlC c R w b o l:=by
 obtain ⟨_,h1⟩:=h.slice;exact ⟨a,cp,hc,h1⟩
structure ql (w:World) (b:Nat) (x y:Value):Prop where
 heap:w.heap[b]? = some (.cells #[x,y] 182 (0,0))
theorem ql.c0(h:ql w b x y):w.cell? ⟨b,0,none⟩=some x:=by rw[cell_of_row w b 0 _ _ _ h.heap];rfl
theorem ql.c1(h:ql w b x y):w.cell? ⟨b,1,none⟩=some y:=by rw[cell_of_row w b 1 _ _ _ h.heap];rfl
theorem ql.frozen(h:ql w b x y)(k:Nat):w.frozen? ⟨b,k,none⟩=false:=frozen_of_row w b k _ _ h.heap
theorem ql.lt(h:ql w b x y):b<w.heap.size:=(Array.getElem?_eq_some_iff.1 h.heap).1
theorem ql.kept(h:ql w b x y)(k:za L w w')(hb:b ∉ L):ql w' b x y:=⟨by rw[k.block b h.lt hb];exact h.heap⟩
theorem ql.new(w:World)(x y:Value):ql (w.alloc (.cells #[x,y] 182)) w.heap.size x y:=⟨heap_alloc_new w _⟩
section
variable {P:Program}{ops:Array Oper}{Q:Exit→Act→World→Prop}{md:Region.Mode}{S:World→Prop}
theorem zev{i d:Nat}{oi:Oper}{v:Value}{fuel:Nat}{listed:Array Bool}{a:Act}{w:World}(hi:ops.toList[i]? = some oi)(hd:oi.dst=some d)
  (hs:Region.noSelect ops=true) (hf:Region.free md ops listed i=true) (hr:(Region.ready md ops listed).contains i=true)
  (hQ:∀ c a w,Q (.panic c) (a.put (some d) v) w→Q (.panic c) a w) (hw:Region.wanted oi (yielded ops a.tmps)=true) (hS:S w)
  (hy:∀ w,S w→(execOp a.eval oi).run P w=.ok (.value v) w)
  (h:wpAnyH P md ops Q S fuel (listed.setIfInBounds i true) (a.put (some d) v) w):wpAnyH P md ops Q S (fuel+1) listed a w:=by
 rw[Array.getElem?_toList] at hi;rw[← hd] at hQ h;exact wpAnyH_take hi hs hf hr hQ (Or.inl ⟨hw,hy⟩) hS h
theorem znf{i d:Nat}{oi:Oper}{v:Value}{fuel:Nat}{listed:Array Bool}{a:Act}{w:World}(hi:ops.toList[i]? = some oi)(hd:oi.dst=some d)
  (hc:(Region.noSelect ops && (Region.free md ops listed i && (Region.ready md ops listed).contains i))=true)
  (hQ:∀ c a w,Q (.panic c) (a.put (some d) v) w→Q (.panic c) a w) (hw:Region.wanted oi (yielded ops a.tmps)=true) (hS:S w)
  (hy:∀ w,S w→(execOp a.eval oi).run P w=.ok (.value v) w)
  (h:wpAnyH P md ops Q S fuel (listed.setIfInBounds i true) (a.put (some d) v) w):wpAnyH P md ops Q S (fuel+1) listed a w:=by
 rw[Bool.and_eq_true,Bool.and_eq_true] at hc;exact zev hi hd hc.1 hc.2.1 hc.2.2 hQ hw hS hy h
theorem zbU{i j:Nat}{fuel:Nat}{listed:Array Bool}{a:Act}{w:World}(hr:Region.ready md ops listed=[i,j])
  (h1:wpOp P ops Q i (fun a' w'=>S w'∧wpAnyH P md ops Q S fuel (listed.setIfInBounds i true) a' w') a w)
  (h2:wpOp P ops Q j (fun a' w'=>S w'∧wpAnyH P md ops Q S fuel (listed.setIfInBounds j true) a' w') a w):wpAnyH P md ops Q S (fuel+1) listed a w:=
 wpAnyH_all hr (by simp) (fun x hx=>by
  rcases List.mem_cons.1 hx with rfl | hx
  ·exact h1
  ·obtain rfl:=List.mem_singleton.1 hx
   exact h2)
theorem zL{i:Nat}{fuel:Nat}{listed:Array Bool}{a:Act}{w:World}(hr:Region.ready md ops listed=[i])
  (h1:wpOp P ops Q i (fun a' w'=>S w'∧wpAnyH P md ops Q S fuel (listed.setIfInBounds i true) a' w') a w):wpAnyH P md ops Q S (fuel+1) listed a w:=
 wpAnyH_all hr (by simp) (fun x hx=>by
  obtain rfl:=List.mem_singleton.1 hx
  exact h1)
theorem zlU{i d:Nat}{oi:Oper}{K:Act→World→Prop}{a:Act}{w:World}(hi:ops.toList[i]? = some oi)(hd:oi.dst=some d)
  (hw:Region.wanted oi (yielded ops a.tmps)=true) (f:Nat) (args:Array Value) (he:(execOp a.eval oi).run P w=.ok (.enter f args) w) {R:Value→World→Prop}
  (hc:Calls P f args w fun e w'=>∃ v,e=.returned v∧R v w') (h:∀ v w',R v w'→K (a.put (some d) v) w'):wpOp P ops Q i K a w:=by
 rw[Array.getElem?_toList] at hi;rw[← hd] at h;refine wpOp_step hi (fun K' hK=> ?_);rw[if_pos hw];unfold Oper.wp;rw[he];simp only[Oper.upon];refine Calls.mono hc (fun e w'=> ?_);rintro ⟨v,rfl,hs⟩;exact hK _ _ (h v w' hs)
theorem qM{ev:Operand→Value}{oi:Oper}{f:Nat}{x:Operand}{ts:Array TypeId}{v:Value}{w:World}(ho:oi.op=.call { callee:=.value (.func f),args:=#[x],argTypes:=ts })(hf:ev (.func f)=.func (.func f) #[] #[])(hx:ev x=v)(hc:(callFunc f #[v]).run P w=.ok (.enter f #[v]) w):(execOp ev oi).run P w=.ok (.enter f #[v]) w:=by
 subst hx;simp[execOp,ho,hf,go_sem,hc]
theorem zl9{f g:Operand→Value}{oi:Oper}{w:World}{r:Result Next}(h:execOp f oi=execOp g oi)(k:(execOp g oi).run P w=r):(execOp f oi).run P w=r:=by rw[h];exact k
end
def kkV(q:Int × Int):Value:=agg #[int i64 q.1,int i64 q.2]
theorem zng(w:World)(d:Nat)(x y:Int):(Op.equalIn (d+1) 3 (int i64 x) (int i64 y)).run Tryz.prog w=.ok (x == y) w:=by
 simp[Op.equalIn,run_underlying Tryz.underlying3]
theorem zkw(w:World)(x y:Int):(part 3 #[int i64 x,int i64 y] 0).run Tryz.prog w=.ok (int i64 x) w:=by kernel_rfl
theorem zkO(w:World)(x y:Int):(part 3 #[int i64 x,int i64 y] 1).run Tryz.prog w=.ok (int i64 y) w:=by kernel_rfl
theorem zns:Tryz.prog.cellsOf 3=1:=by kernel_rfl
theorem zdS(q r:Int × Int)(w:World):(Op.equal 237 (kkV q) (kkV r)).run Tryz.prog w=.ok (decide (q=r)) w:=by
 have h:∀ d:Nat,(Op.equalIn (d+2) 237 (kkV q) (kkV r)).run Tryz.prog w=.ok (decide (q=r)) w:=fun d=>by
  unfold kkV;rw[run_equalIn_array w (d+1) _ _ Tryz.underlying237 (show Tryz.prog.info? 3=some Tryz.t3 by kernel_rfl),zns];have er:List.range 2=[0,1]:=rfl;rw[er];simp only[Op.eqItems,Sem.run_bind,Nat.zero_mul,Nat.one_mul,zkw,zng,Result.andThen_ok];obtain ⟨a,b⟩:=q;obtain ⟨c,e⟩:=r;by_cases h1:a=c <;> by_cases h2:b=e <;> simp[h1,h2,zkO,zng,Result.andThen]
 exact h 9998
theorem Zg(q:Int × Int)(w:World):∀ (es:List MapEntry) (ks:List (Int × Int)) (i:Nat),es.map (·.key)=ks.map kkV→
  (q∈ks→∃ j u,i≤j∧j<i+es.length∧es[j - i]?.map (·.key)=some (kkV q)∧(Instr.findAsking 237 (kkV q) es i).run Tryz.prog w=.ok (some (j,u)) w)∧(q ∉ ks→(Instr.findAsking 237 (kkV q) es i).run Tryz.prog w=.ok none w)
 | [],[],i,_=>⟨(fun h=>by cases h),fun _=>by simp[Instr.findAsking]⟩
 | [],k :: ks,i,h=>by simp at h
 | e :: es,[],i,h=>by simp at h
 | e :: es,k :: ks,i,h=>by
  simp only[List.map_cons,List.cons.injEq] at h;by_cases hq:q=k
  ·subst hq
   exact ⟨fun _=>⟨i,e.val,Nat.le_refl _,by simp,by simp[h.1],by simp[Instr.findAsking,h.1,zdS]⟩,fun hn=>absurd (List.mem_cons_self ..) hn⟩
  ·obtain ⟨ih1,ih2⟩:=Zg q w es ks (i+1) h.2
   refine ⟨fun hm=> ?_,fun hn=> ?_⟩
   ·rcases List.mem_cons.1 hm with rfl | hm
    ·exact absurd rfl hq
    ·obtain ⟨j,u,h1,h2,h3,h4⟩:=ih1 hm
     refine ⟨j,u,by omega,by simp;omega,?_,by simp[Instr.findAsking,h.1,zdS,hq,h4]⟩;rw[show j - i=(j - (i+1))+1 by omega,List.getElem?_cons_succ];exact h3
   ·have:=ih2 (fun hm=>hn (List.mem_cons_of_mem _ hm))
    simp[Instr.findAsking,h.1,zdS,hq,this]
theorem zj7(q:Int × Int)(w:World)(es:List MapEntry)(ks:List (Int × Int))(h:es.map (·.key)=ks.map kkV):
  (q∈ks→∃ j u,j<es.length∧es[j]?.map (·.key)=some (kkV q)∧(Instr.findKey 237 (kkV q) es).run Tryz.prog w=.ok (some (j,u)) w)∧(q ∉ ks→(Instr.findKey 237 (kkV q) es).run Tryz.prog w=.ok none w):=by
 obtain ⟨h1,h2⟩:=Zg q w es ks 0 h;rcases es with _ | ⟨e,es⟩
 ·rcases ks with _ | ⟨k,ks⟩
  ·exact ⟨(fun h=>by cases h),fun _=>by simp[Instr.findKey,run_underlying Tryz.underlying237,Instr.findNow]⟩
  ·simp at h
 ·rcases ks with _ | ⟨k,ks⟩
  ·simp at h
  ·simp only[List.map_cons,List.cons.injEq] at h
   have e1:∀ n t,Instr.findNow (TypeDesc.array n t) (kkV q) (e :: es) 0=none:=fun n t=>by
    simp[Instr.findNow,Instr.sameNow]
   have e2:(Instr.findKey 237 (kkV q) (e :: es)).run Tryz.prog w=(Instr.findAsking 237 (kkV q) (e :: es) 0).run Tryz.prog w:=by
    rw[Instr.findKey];simp only[Sem.run_bind,run_underlying Tryz.underlying237,Result.andThen_ok,e1]
   rw[e2];refine ⟨fun hm=> ?_,h2⟩;obtain ⟨j,u,a1,a2,a3,a4⟩:=h1 hm;exact ⟨j,u,by omega,a3,a4⟩
theorem zhk(b:Bool)(q:Int × Int)(w:World):(Instr.checkKey b 10000 237 (kkV q)).run Tryz.prog w=.ok () w:=by
 have hi:∀ (d:Nat) (x:Int),(Instr.checkKey b (d+1) 3 (int i64 x)).run Tryz.prog w=.ok () w:=fun d x=>by
  simp[Instr.checkKey,run_underlying Tryz.underlying3]
 have hs:(Go.sizeOf 3).run Tryz.prog w=.ok 1 w:=by kernel_rfl
 have h:∀ d:Nat,(Instr.checkKey b (d+2) 237 (kkV q)).run Tryz.prog w=.ok () w:=fun d=>by
  unfold kkV;rw[Instr.checkKey];simp only[Sem.run_bind,run_underlying Tryz.underlying237,Result.andThen_ok];simp[Std.Legacy.Range.forIn_eq_forIn_range',Std.Legacy.Range.size,List.range',hs,zkw,zkO,hi,Result.andThen]
 exact h 9998
theorem zit(q:Int × Int):Instr.sameBits 10000 (kkV q) (kkV q)=true:=by
 have:∀ n,Instr.sameBits (n+2) (kkV q) (kkV q)=true:=fun n=>by simp[Instr.sameBits,kkV]
 exact this 9998
structure jF (w:World) (M:Nat) (ks:List (Int × Int)):Prop where
 heap:∃ es clock,w.heap[M]? = some (.map es clock)∧es.toList.map (·.key)=ks.map kkV
 nodup:ks.Nodup
theorem jF.lt(h:jF w M ks):M<w.heap.size:=by
 obtain ⟨es,clock,hm,_⟩:=h.heap;exact (Array.getElem?_eq_some_iff.1 hm).1
theorem jF.put(h:jF w M ks)(q:Int × Int):
  ∃ w',(Instr.mapUpdate 235 (.map (some M)) (kkV q) (agg #[])).run Tryz.prog w=.ok () w'∧jF w' M (if q∈ks then ks else ks ++ [q])∧za [M] w w':=by
 obtain ⟨es,clock,hM,hk⟩:=h.heap;obtain ⟨f1,f2⟩:=zj7 q w es.toList ks hk;have hck:=zhk false q w;have hkeep:∀ o,za [M] w (ChangeMaps.setBlock w M o):=fun o=>
  ⟨rfl,rfl,rfl,by simp[ChangeMaps.setBlock],fun i _ hi=>ChangeMaps.heap_setBlock_other hM _ (fun e=>hi (by simp[e]))⟩
 by_cases hq:q∈ks
 ·obtain ⟨j,u,hj,hkj,hf⟩:=f1 hq
  rw[if_pos hq];have hj':j<es.size:=by simpa using hj
  obtain ⟨e,he⟩:∃ e,es[j]? = some e:=⟨_,Array.getElem?_eq_getElem hj'⟩;have hke:e.key=kkV q:=by
   have:=hkj;rw[Array.getElem?_toList,he] at this;simpa using this
  have hst:(Instr.keyThatStays (kkV q) (kkV q)).run Tryz.prog w=.ok (kkV q) w:=by
   have:Instr.sameBits 10000 (kkV q) (kkV q)=true:=zit q;simp[Instr.keyThatStays,this]
  have hrun:∃ es',(Instr.mapUpdate 235 (.map (some M)) (kkV q) (agg #[])).run Tryz.prog w=.ok () (ChangeMaps.setBlock w M (.map es' clock))∧es'.toList.map (·.key)=es.toList.map (·.key):=by
   refine ⟨es.modify j (fun e=>{ e with key:=kkV q,val:=agg #[] }),?_,?_⟩
   ·simp[Instr.mapUpdate,run_underlying Tryz.underlying235,MapKept.run_getObj_map hM,hck,hf,he,hke,hst,MapKept.run_setObj_map _ hM,Result.andThen,ChangeMaps.setBlock]
   ·apply List.ext_getElem?
    intro i;simp only[List.getElem?_map,Array.getElem?_toList,Array.getElem?_modify];by_cases hi:j=i
    ·subst hi
     rw[if_pos rfl,he];simp[hke]
    ·rw[if_neg hi]
  obtain ⟨es',hr,hes⟩:=hrun;exact ⟨_,hr,⟨⟨_,_,ChangeMaps.heap_setBlock_same hM _,hes.trans hk⟩,h.nodup⟩,hkeep _⟩
 ·have hf:=f2 hq
  rw[if_neg hq];have hrun:(Instr.mapUpdate 235 (.map (some M)) (kkV q) (agg #[])).run Tryz.prog w=.ok () (ChangeMaps.setBlock w M (.map (es.push ⟨kkV q,agg #[],clock⟩) (clock+1))):=by
   simp[Instr.mapUpdate,run_underlying Tryz.underlying235,MapKept.run_getObj_map hM,hck,hf,MapKept.run_setObj_map _ hM,Result.andThen,ChangeMaps.setBlock]
  refine ⟨_,hrun,⟨⟨_,_,ChangeMaps.heap_setBlock_same hM _,by simp[hk]⟩,?_⟩,hkeep _⟩;rw[List.nodup_append];exact ⟨h.nodup,by simp,fun a ha b hb=>by simp at hb;subst hb;exact fun e=>hq (e ▸ ha)⟩
theorem jF.kept(h:jF w M ks)(k:za L w w')(hM:M ∉ L):jF w' M ks:=by
 have hlt:=h.lt;obtain ⟨es,clock,hm,hk⟩:=h.heap;exact ⟨⟨es,clock,(k.block M hlt hM).trans hm,hk⟩,h.nodup⟩
theorem jF.made(w:World):jF (w.alloc (.map #[] 0)) w.heap.size []:=⟨⟨#[],0,heap_alloc_new _ _,rfl⟩,by simp⟩
theorem jF.size(h:jF w M ks):∃ es clock,w.heap[M]? = some (.map es clock)∧es.size=ks.length:=by
 obtain ⟨es,clock,hm,hk⟩:=h.heap;refine ⟨es,clock,hm,?_⟩;have:=congrArg List.length hk;simpa using this
theorem Sub.down{B':Nat}(w:World)(h:B'≤B):Sub (zQ B w) (zQ B' w):=fun _ _ e=>Q7 (Nat.le_trans h (Za e).1) (Za e).2
def zbj{α:Type}(c:Nat)(V:World→Value→α→Prop)(R:World→Nat→Nat→α→Prop):Prop:=
 ∀ w v y b o,V w v y→v.cells.size=c∧((∀ i,i<c→w.cell? ⟨b,o+i,none⟩=v.cells[i]?)→R w b o y)
theorem SlV.links{α:Type}{R:World→Nat→Nat→α→Prop}:zbj 1 (SlV c R) (SlC c R):=by
 rintro w v y b o ⟨a,cp,rfl,h⟩;exact ⟨rfl,fun hc=>⟨a,cp,hc 0 (by omega),h⟩⟩
theorem ImV.links:zbj 3 ImV ImC:=by
 rintro w v y b o ⟨a,cp,rfl,h1,h2,h3⟩;exact ⟨rfl,fun hc=>⟨⟨hc 0 (by omega),h1⟩,⟨hc 1 (by omega),h2⟩,SlV.cell h3 (hc 2 (by omega))⟩⟩
theorem InV.links:zbj 6 InV InC:=by
 rintro w v y b o ⟨a,cp,rfl,h1,h2,h3,h4,h5,h6⟩;exact ⟨rfl,fun hc=>⟨⟨hc 0 (by omega),h1⟩,⟨hc 1 (by omega),h2⟩,⟨hc 2 (by omega),h3⟩,⟨hc 3 (by omega),h4⟩,⟨hc 4 (by omega),h5⟩,SlV.cell h6 (hc 5 (by omega))⟩⟩
theorem BlV.links:zbj 5 BlV BlC:=by
 rintro w v y b o ⟨a,cp,rfl,h1,h2,h3,h4,h5⟩;exact ⟨rfl,fun hc=>⟨SlV.cell h1 (hc 0 (by omega)),⟨hc 1 (by omega),h2⟩,⟨hc 2 (by omega),h3⟩,⟨hc 3 (by omega),h4⟩,⟨hc 4 (by omega),h5⟩⟩⟩
theorem FuV.links:zbj 3 FuV FuC:=by
 rintro w v y b o ⟨a,cp,a',cp',rfl,h1,h2,h3⟩;exact ⟨rfl,fun hc=>⟨⟨hc 0 (by omega),h1⟩,SlV.cell h2 (hc 1 (by omega)),SlV.cell h3 (hc 2 (by omega))⟩⟩
def tgB(n:Nat)(x:Bl8):List Nat:=
 (if (x.fin=1∨x.fin=2)∧inB x.to n=true then [x.to.toNat] else []) ++ (if x.fin=2∧x.els≠x.to∧inB x.els n=true then [x.els.toNat] else [])
theorem zln{x:Bl8}:∀ u,u∈tgB n x→u<n:=by
 intro u hu;unfold tgB at hu;rcases List.mem_append.1 hu with h | h
 ·split at h
  ·next c=>rw[List.mem_singleton] at h;have:=zm.1 c.2;omega
  ·cases h
 ·split at h
  ·next c=>rw[List.mem_singleton] at h;have:=zm.1 c.2.2;omega
  ·cases h
theorem zjR{x:Bl8}:(tgB n x).length≤2:=by
 unfold tgB;rw[List.length_append];split <;> split <;> simp
def zw(F:Fu8):List (List Nat):=F.blocks.map (tgB F.blocks.length)
theorem qe(F:Fu8):(zw F).length=F.blocks.length:=by unfold zw;rw[List.length_map]
theorem zbK{g:List (List Nat)}(h:¬ b<g.length):nb g b=[]:=by
 unfold nb;rw[List.getD_eq_getElem?_getD,List.getElem?_eq_none (by omega)];rfl
theorem JL{F:Fu8}(h:b<F.blocks.length):nb (zw F) b=tgB F.blocks.length (zA F b):=by
 unfold nb zw zA;rw[List.getD_eq_getElem?_getD,List.getD_eq_getElem?_getD,List.getElem?_map,List.getElem?_eq_getElem h];rfl
theorem jC{F:Fu8}(h:F.blocks.length≤600):Sm (zw F):=by
 refine ⟨fun j y hy=> ?_,by rw[qe];exact h,fun j=> ?_⟩
 ·rw[qe]
  by_cases hj:j<F.blocks.length
  ·rw[JL hj] at hy
   exact zln y hy
  ·rw[zbK (by rw[qe];exact hj)] at hy
   cases hy
 ·by_cases hj:j<F.blocks.length
  ·rw[JL hj]
   exact Nat.le_trans zjR (by decide)
  ·rw[zbK (by rw[qe];exact hj)]
   simp
theorem qa(k:Int)(n:Nat)(w:World):Calls Tryz.prog 176 #[int i64 k,int i64 (n:Int)] w fun e w'=>e=.returned (.bool (inB k n))∧w'=w:=by
 unfold inB;by_cases h0:0≤k
 ·by_cases h1:k<(n:Int)
  ·go_enter Tryz.func176,Tryz.ntmps176
   go_wp2;go_ret;simp[h0,h1]
  ·go_enter Tryz.func176,Tryz.ntmps176
   go_wp2;go_ret;simp[h1]
 ·have e:=hid (show (decide (0≤k) && decide (k<(n:Int)))=false by rw[decide_eq_false h0];rfl)
  go_enter Tryz.func176,Tryz.ntmps176;go_wp2;go_ret;exact ⟨by rw[e.o];rfl,rfl⟩
theorem zeC(w wa:World)(k:za [] w wa)(v:Value)(l:List Nat)(x:Nat)(hv:wa.ownsRow w.heap.size 3 1 v l.length (Qf l))(ty:TypeId)(b c:Nat)(hb:wa.cell? ⟨b,0,none⟩=some (int i64 (x:Int)))(hl:l.length<1000):
  ∃ v' w',(Builtin.append_ #[63,63] ty #[v,.slice (some ⟨b,0,none⟩) 1 c]).run Tryz.prog wa=.ok v' w'∧w'.ownsRow w.heap.size 3 1 v' (l ++ [x]).length (Qf (l ++ [x]))∧za [] w w':=by
 obtain ⟨v',w',hr,ho,hg,_⟩:=run_append_own (P:=Tryz.prog) wa w.heap.size 63 ty 3 Tryz.t3 (int i64 0) 1 8 zU q7 j8 jv qT rfl (by decide) v l.length (Qf l) hv ⟨b,0,none⟩ 1 c [int i64 (x:Int)] rfl (fun j u e=>by
  cases j with
  | zero=>simp at e;subst e;exact hb
  | succ j=>simp at e) (fun u hu=>by simp at hu;subst hu;rfl) (by unfold maxLen;omega) (by omega) k.size
 refine ⟨v',w',hr,?_,k.appended hv hg (Nat.le_refl _)⟩;have e:Qf (l ++ [x])=Qf l ++ [int i64 (x:Int)]:=by unfold Qf;rw[List.map_append];rfl
 rw[e,List.length_append];exact ho
theorem qw{ops:Array Oper}{rest:List Oper}{o:Oper}{Q:Exit→Act→World→Prop}(w0 w:World)(hgd:o.guard=none)(s x':Operand)
  (ho:o.op=.call { callee:=.builtin .append,args:=#[s,x'],argTypes:=#[63,63] })
  (l:List Nat) (x:Nat) (v:Value) (hs:a.eval s=v) (hv:w.ownsRow w0.heap.size 3 1 v l.length (Qf l)) (k:za [] w0 w) (z:Int) (hz:z=(x:Int))
  (b c:Nat) (hx:a.eval x'=.slice (some ⟨b,0,none⟩) 1 c) (hb:w.cell? ⟨b,0,none⟩=some (int i64 z)) (hl:l.length<1000)
  (h:∀ v' w',w'.ownsRow w0.heap.size 3 1 v' (l ++ [x]).length (Qf (l ++ [x]))→za [] w0 w'→wpList Tryz.prog ops Q rest (a.put o.dst v') w'):
  wpList Tryz.prog ops Q (o :: rest) a w:=by
 refine wpList_plain hgd fun K hK=> ?_;obtain ⟨v',w',hr,h2,h3⟩:=zeC w0 w k v l x hv o.type b c (hz ▸ hb) hl;unfold Oper.wp execOp;simp only[ho,resolve,invoke,builtin,Sem.run_bind,Sem.run_pure,Result.andThen_ok,List.map_toArray,List.map_cons,List.map_nil,hs,hx,hr];exact hK _ _ (h v' w' h2 h3)
def zlP(w w':World)(v:Value)(l:List Nat):Prop:=w'.ownsRow w.heap.size 3 1 v l.length (Qf l)
theorem zb8{q o:Nat}{x:Bl8}(h:BlC w q o x)(n:Nat):
  Calls Tryz.prog 177 #[pointer (some ⟨q,o,none⟩),int i64 (n:Int)] w fun e w'=>∃ v,e=.returned v∧zlP w w' v (tgB n x)∧za [] w w':=by
 have c1:=h.c1.1;have c3:=h.c3.1;have c4:=h.c4.1;clear h;have HW:Box (∀ k w,Calls Tryz.prog 176 #[int i64 k,int i64 (n:Int)] w fun e w'=>e=.returned (.bool (inB k n))∧w'=w):=hid fun k w=>qa k n w;have HA:=hid (zeC w);have HNIL:Box (w.ownsRow w.heap.size 3 1 (.slice none 0 0) 0 (Qf [])):=hid (World.ownsRow_nil w _ _ _);have ct:Box (∀ v,(w.alloc (.cells #[v] 3)).cell? ⟨w.heap.size,0,none⟩=some v):=hid fun v=>by rw[World.cell?_alloc_at _ _ _ _ rfl];rfl
 unfold zlP tgB;by_cases f1:x.fin=1
 ·rw[f1] at c1
  by_cases t1:inB x.to n=true
  ·have e:=hid (show (if (x.fin=1∨x.fin=2)∧inB x.to n=true then [x.to.toNat] else []) ++ (if x.fin=2∧x.els≠x.to∧inB x.els n=true then [x.els.toNat] else [])=[] ++ [x.to.toNat] by simp[f1,t1])
   have ht:=hid (show x.to=(x.to.toNat:Int) by have:=zm.1 t1;omega);rw[e.o];clear e f1;go_enter Tryz.func177,Tryz.ntmps177;go_upto_region 4 with (go_at_call 176;refine (HW.o _ _).mono ?_;rintro e w3 ⟨rfl,rfl⟩;rw[t1])
   generalize Value.slice none 0 0=v0 at HNIL ⊢;go_wp2_with (at_builtin;go_must (refine qw w3 _ rfl _ _ rfl [] x.to.toNat v0 rfl (HNIL.o.alloc _) (za.alloc [] _ _) x.to ht.o _ _ rfl (ct.o _) (by simp) ?_;intro v1 w4 ho4 hk4));have d1:=zb hk4 c1;have d3:=zb hk4 c3;have d4:=zb hk4 c4;clear c1 c3 c4;have HO4:=hid ho4;have HK4:=hid hk4;clear ho4 hk4;go_quiet (fail);go_wp2;go_ret;exact ⟨_,rfl,HO4.o,HK4.o.quiet (za.drewN [] _ _)⟩
  ·rw[Bool.not_eq_true] at t1
   have e:=hid (show (if (x.fin=1∨x.fin=2)∧inB x.to n=true then [x.to.toNat] else []) ++ (if x.fin=2∧x.els≠x.to∧inB x.els n=true then [x.els.toNat] else [])=[] by simp[f1,t1]);rw[e.o];clear e f1;go_enter Tryz.func177,Tryz.ntmps177;go_upto_region 5 with (go_at_call 176;refine (HW.o _ _).mono ?_;rintro e w3 ⟨rfl,rfl⟩;rw[t1])
   go_quiet (fail);go_wp2;go_ret;exact ⟨_,rfl,HNIL.o,(za.refl [] w3).quiet (za.drewN [] _ _)⟩
 by_cases f2:x.fin=2
 ·rw[f2] at c1
  by_cases t1:inB x.to n=true
  ·by_cases e1:x.els=x.to
   ·have e:=hid (show (if (x.fin=1∨x.fin=2)∧inB x.to n=true then [x.to.toNat] else []) ++ (if x.fin=2∧x.els≠x.to∧inB x.els n=true then [x.els.toNat] else [])=[] ++ [x.to.toNat] by simp[f2,t1,e1])
    have ht:=hid (show x.to=(x.to.toNat:Int) by have:=zm.1 t1;omega);rw[e.o];have o3:(x.els != x.to)=false:=by simpa using e1
    clear e f1 f2 e1;go_enter Tryz.func177,Tryz.ntmps177;go_upto_region 4 with (go_at_call 176;refine (HW.o _ _).mono ?_;rintro e w3 ⟨rfl,rfl⟩;rw[t1])
    generalize Value.slice none 0 0=v0 at HNIL ⊢;go_wp2_with (at_builtin;go_must (refine qw w3 _ rfl _ _ rfl [] x.to.toNat v0 rfl (HNIL.o.alloc _) (za.alloc [] _ _) x.to ht.o _ _ rfl (ct.o _) (by simp) ?_;intro v1 w4 ho4 hk4));have d1:=zb hk4 c1;have d3:=zb hk4 c3;have d4:=zb hk4 c4;clear c1 c3 c4;have HO4:=hid ho4;have HK4:=hid hk4;clear ho4 hk4;go_quiet (fail);go_wp2;go_ret;exact ⟨_,rfl,HO4.o,HK4.o.quiet (za.drewN [] _ _)⟩
   by_cases u1:inB x.els n=true
   ·have e:=hid (show (if (x.fin=1∨x.fin=2)∧inB x.to n=true then [x.to.toNat] else []) ++ (if x.fin=2∧x.els≠x.to∧inB x.els n=true then [x.els.toNat] else [])=([] ++ [x.to.toNat]) ++ [x.els.toNat] by simp[f2,t1,e1,u1])
    have ht:=hid (show x.to=(x.to.toNat:Int) by have:=zm.1 t1;omega);have hu:=hid (show x.els=(x.els.toNat:Int) by have:=zm.1 u1;omega);rw[e.o];have o3:(x.els != x.to)=true:=by simpa using e1
    clear e f1 f2 e1;have HWU:Box (∀ w,Calls Tryz.prog 176 #[int i64 x.els,int i64 (n:Int)] w fun e w'=>e=.returned (.bool true)∧w'=w):=hid fun w=>by have:=qa x.els n w;rw[u1] at this;exact this
    go_enter Tryz.func177,Tryz.ntmps177;go_upto_region 4 with (go_at_call 176;refine (HW.o _ _).mono ?_;rintro e w3 ⟨rfl,rfl⟩;rw[t1])
    generalize Value.slice none 0 0=v0 at HNIL ⊢;go_wp2_with (at_builtin;go_must (refine qw w3 _ rfl _ _ rfl [] x.to.toNat v0 rfl (HNIL.o.alloc _) (za.alloc [] _ _) x.to ht.o _ _ rfl (ct.o _) (by simp) ?_;intro v1 w4 ho4 hk4));have d1:=zb hk4 c1;have d3:=zb hk4 c3;have d4:=zb hk4 c4;clear c1 c3 c4;have HO4:=hid ho4;have HK4:=hid hk4;clear ho4 hk4;go_quiet ((go_at_call 176;exact Calls.quiet_of_same (HWU.o _)));have ct2:Box (∀ v,((w4.drewN nq).alloc (.cells #[v] 3)).cell? ⟨(w4.drewN nq).heap.size,0,none⟩=some v):=hid fun v=>by rw[World.cell?_alloc_at _ _ _ _ rfl];rfl
    have HO5:Box ((w4.drewN nq).ownsRow w3.heap.size 3 1 v1 ([] ++ [x.to.toNat]).length (Qf ([] ++ [x.to.toNat]))):=hid HO4.o;have HK5:Box (za [] w3 (w4.drewN nq)):=hid (HK4.o.quiet (za.drewN [] _ _));go_wp2_with (at_builtin;go_must (refine qw w3 _ rfl _ _ rfl ([] ++ [x.to.toNat]) x.els.toNat v1 rfl (HO5.o.alloc _) (HK5.o.quiet (za.alloc [] _ _)) x.els hu.o _ _ rfl (ct2.o _) (by simp) ?_;intro v2 w5 ho5 hk5));go_ret;exact ⟨_,rfl,ho5,hk5⟩
   ·rw[Bool.not_eq_true] at u1
    have e:=hid (show (if (x.fin=1∨x.fin=2)∧inB x.to n=true then [x.to.toNat] else []) ++ (if x.fin=2∧x.els≠x.to∧inB x.els n=true then [x.els.toNat] else [])=[] ++ [x.to.toNat] by simp[f2,t1,e1,u1]);have ht:=hid (show x.to=(x.to.toNat:Int) by have:=zm.1 t1;omega);rw[e.o];have o3:(x.els != x.to)=true:=by simpa using e1
    clear e f1 f2 e1;have HWU:Box (∀ w,Calls Tryz.prog 176 #[int i64 x.els,int i64 (n:Int)] w fun e w'=>e=.returned (.bool false)∧w'=w):=hid fun w=>by have:=qa x.els n w;rw[u1] at this;exact this
    go_enter Tryz.func177,Tryz.ntmps177;go_upto_region 4 with (go_at_call 176;refine (HW.o _ _).mono ?_;rintro e w3 ⟨rfl,rfl⟩;rw[t1])
    generalize Value.slice none 0 0=v0 at HNIL ⊢;go_wp2_with (at_builtin;go_must (refine qw w3 _ rfl _ _ rfl [] x.to.toNat v0 rfl (HNIL.o.alloc _) (za.alloc [] _ _) x.to ht.o _ _ rfl (ct.o _) (by simp) ?_;intro v1 w4 ho4 hk4));have d1:=zb hk4 c1;have d3:=zb hk4 c3;have d4:=zb hk4 c4;clear c1 c3 c4;have HO4:=hid ho4;have HK4:=hid hk4;clear ho4 hk4;go_quiet ((go_at_call 176;exact Calls.quiet_of_same (HWU.o _)));go_wp2;go_ret;exact ⟨_,rfl,HO4.o,HK4.o.quiet (za.drewN [] _ _)⟩
  ·rw[Bool.not_eq_true] at t1
   by_cases e1:x.els=x.to
   ·have e:=hid (show (if (x.fin=1∨x.fin=2)∧inB x.to n=true then [x.to.toNat] else []) ++ (if x.fin=2∧x.els≠x.to∧inB x.els n=true then [x.els.toNat] else [])=[] by simp[f2,t1,e1])
    rw[e.o];have o3:(x.els != x.to)=false:=by simpa using e1
    clear e f1 f2 e1;go_enter Tryz.func177,Tryz.ntmps177;go_upto_region 5 with (go_at_call 176;refine (HW.o _ _).mono ?_;rintro e w3 ⟨rfl,rfl⟩;rw[t1])
    go_quiet (fail);go_wp2;go_ret;exact ⟨_,rfl,HNIL.o,(za.refl [] w3).quiet (za.drewN [] _ _)⟩
   by_cases u1:inB x.els n=true
   ·have e:=hid (show (if (x.fin=1∨x.fin=2)∧inB x.to n=true then [x.to.toNat] else []) ++ (if x.fin=2∧x.els≠x.to∧inB x.els n=true then [x.els.toNat] else [])=[] ++ [x.els.toNat] by simp[f2,t1,e1,u1])
    have hu:=hid (show x.els=(x.els.toNat:Int) by have:=zm.1 u1;omega);rw[e.o];have o3:(x.els != x.to)=true:=by simpa using e1
    clear e f1 f2 e1;have HWU:Box (∀ w,Calls Tryz.prog 176 #[int i64 x.els,int i64 (n:Int)] w fun e w'=>e=.returned (.bool true)∧w'=w):=hid fun w=>by have:=qa x.els n w;rw[u1] at this;exact this
    go_enter Tryz.func177,Tryz.ntmps177;go_upto_region 5 with (go_at_call 176;refine (HW.o _ _).mono ?_;rintro e w3 ⟨rfl,rfl⟩;rw[t1])
    go_quiet ((go_at_call 176;exact Calls.quiet_of_same (HWU.o _)));generalize Value.slice none 0 0=v0 at HNIL ⊢;have ct2:Box (∀ v,((w3.drewN nq).alloc (.cells #[v] 3)).cell? ⟨(w3.drewN nq).heap.size,0,none⟩=some v):=hid fun v=>by rw[World.cell?_alloc_at _ _ _ _ rfl];rfl
    have HO5:Box ((w3.drewN nq).ownsRow w3.heap.size 3 1 v0 ([]:List Nat).length (Qf ([]:List Nat))):=hid HNIL.o;have HK5:Box (za [] w3 (w3.drewN nq)):=hid ((za.refl [] w3).quiet (za.drewN [] _ _));go_wp2_with (at_builtin;go_must (refine qw w3 _ rfl _ _ rfl ([]:List Nat) x.els.toNat v0 rfl (HO5.o.alloc _) (HK5.o.quiet (za.alloc [] _ _)) x.els hu.o _ _ rfl (ct2.o _) (by simp) ?_;intro v2 w5 ho5 hk5));go_ret;exact ⟨_,rfl,ho5,hk5⟩
   ·rw[Bool.not_eq_true] at u1
    have e:=hid (show (if (x.fin=1∨x.fin=2)∧inB x.to n=true then [x.to.toNat] else []) ++ (if x.fin=2∧x.els≠x.to∧inB x.els n=true then [x.els.toNat] else [])=[] by simp[f2,t1,e1,u1]);rw[e.o];have o3:(x.els != x.to)=true:=by simpa using e1
    clear e f1 f2 e1;have HWU:Box (∀ w,Calls Tryz.prog 176 #[int i64 x.els,int i64 (n:Int)] w fun e w'=>e=.returned (.bool false)∧w'=w):=hid fun w=>by have:=qa x.els n w;rw[u1] at this;exact this
    go_enter Tryz.func177,Tryz.ntmps177;go_upto_region 5 with (go_at_call 176;refine (HW.o _ _).mono ?_;rintro e w3 ⟨rfl,rfl⟩;rw[t1])
    go_quiet ((go_at_call 176;exact Calls.quiet_of_same (HWU.o _)));go_wp2;go_ret;exact ⟨_,rfl,HNIL.o,(za.refl [] w3).quiet (za.drewN [] _ _)⟩
 have e:=hid (show (if (x.fin=1∨x.fin=2)∧inB x.to n=true then [x.to.toNat] else []) ++ (if x.fin=2∧x.els≠x.to∧inB x.els n=true then [x.els.toNat] else [])=[] by simp[f1,f2]);rw[e.o];have o1:=(show (x.fin == 1)=false by simpa using f1);have o2:=(show (x.fin == 2)=false by simpa using f2);clear e f1 f2;go_enter Tryz.func177,Tryz.ntmps177;go_upto_region 5 with fail;go_quiet (fail);go_wp2;go_ret;exact ⟨_,rfl,HNIL.o,(za.refl [] w).quiet (za.drewN [] _ _)⟩
section
variable {P:Program}{ops:Array Oper}{Q:Exit→Act→World→Prop}{md:Region.Mode}{S:World→Prop}
theorem zC{i d:Nat}{oi:Oper}{v:Value}{fuel:Nat}{listed:Array Bool}{a:Act}{w:World}(hi:ops.toList[i]? = some oi)(hd:oi.dst=some d)
  (hs:Region.noSelect ops=true) (hf:Region.free md ops listed i=true) (hr:(Region.ready md ops listed).contains i=true)
  (hQ:∀ c a w,Q (.panic c) (a.put (some d) v) w→Q (.panic c) a w) (hw:Region.wanted oi (yielded ops a.tmps)=true) (hS:S w)
  (hy:∀ w,S w→(execOp a.eval oi).run P w=.ok (.value v) w)
  (h:wpAnyH P md ops Q S fuel (listed.setIfInBounds i true) (a.put (some d) v) w):wpAnyH P md ops Q S (fuel+1) listed a w:=by
 rw[Array.getElem?_toList] at hi;rw[← hd] at hQ h;exact wpAnyH_take hi hs hf hr hQ (Or.inl ⟨hw,hy⟩) hS h
def left(l:Array Bool):Nat:=l.toList.countP fun b=> !b
theorem zbR{l:Array Bool}{i:Nat}(h:l.getD i true=false):left (l.setIfInBounds i true)+1=left l:=by
 have hi:i<l.size:=by
  rcases Nat.lt_or_ge i l.size with h' | h'
  ·exact h'
  ·rw[Array.getD_eq_getD_getElem?,Array.getElem?_eq_none h'] at h
   cases h
 have hv:l.toList[i]'(by simpa using hi)=false:=by
  rw[Array.getD_eq_getD_getElem?,Array.getElem?_eq_getElem hi] at h;simpa using h
 unfold left;rw[Array.toList_setIfInBounds,List.countP_set (by simpa using hi),hv];have hp:0<l.toList.countP fun b=> !b:=List.countP_pos_iff.2 ⟨false,by rw[← hv];exact List.getElem_mem _,rfl⟩;simp only[Bool.not_false,if_true,Bool.not_true,Bool.false_eq_true,if_false];omega
theorem jo(I:Array Bool→Act→World→Prop)(hS:∀ l a w,I l a w→S w)(hd:∀ l a w,I l a w→Region.ready md ops l=[]→Q .normal a w)
  (hstep:∀ l a w i,I l a w→i∈Region.ready md ops l→wpOp P ops Q i (I (l.setIfInBounds i true)) a w):
  ∀ (fuel:Nat) (l:Array Bool) (a:Act) (w:World),I l a w→left l≤fuel→wpAnyH P md ops Q S fuel l a w
 | 0,l,a,w,h,hf=>by
  have hr:Region.ready md ops l=[]:=by
   apply List.eq_nil_iff_forall_not_mem.2;intro i hi;have:=zbR (mem_ready.1 hi).1;omega
  exact ⟨hr,hd l a w h hr⟩
 | fuel+1,l,a,w,h,hf=>⟨hd l a w h,fun i hi=>wpOp_mono (fun a' w' h'=>⟨hS _ _ _ h',jo I hS hd hstep fuel _ a' w' h' (by have:=zbR (mem_ready.1 hi).1;omega)⟩) (hstep l a w i h hi)⟩
theorem qx{l:Array Bool}{i:Nat}(h:i∈Region.ready md ops l)(k:Nat)(hk:(ops[i]?).map (fun o=>o.after.toList.any fun e=>Region.binds md e && e.on == k)=some true):l.getD k false=true:=by
 obtain ⟨_,o,ho,hall⟩:=mem_ready.1 h;rw[ho] at hk;simp only[Option.map_some,Option.some.injEq,List.any_eq_true,Bool.and_eq_true,beq_iff_eq] at hk;obtain ⟨e,he,hb,rfl⟩:=hk;exact hall e (Array.mem_toList_iff.1 he) hb
theorem zh9{l:Array Bool}{i:Nat}(h:i∈Region.ready md ops l):i<ops.size:=by
 obtain ⟨_,o,ho,_⟩:=mem_ready.1 h;exact (Array.getElem?_eq_some_iff.1 ho).1
theorem Zb{l:Array Bool}{n:Nat}(hl:l.size=n)(h:Region.ready md ops l=[])(hc:(List.range n).all (fun i=>(ops[i]?).isSome && ((ops[i]?).map (fun o=>o.after.all fun e=> !Region.binds md e || decide (e.on<i))).getD false)=true):∀ i,i<n→l.getD i false=true:=by
 intro i
 induction i using Nat.strongRecOn with
 | _ i ih=>
  intro hi;cases hv:l.getD i false with
  | true=>rfl
  | false=>
   exfalso;have hm:i∈Region.ready md ops l:=by
    rw[mem_ready];have h1:=List.all_eq_true.1 hc i (List.mem_range.2 hi);rw[Bool.and_eq_true] at h1;obtain ⟨o,ho⟩:=Option.isSome_iff_exists.1 h1.1;refine ⟨?_,o,ho,fun e he hb=> ?_⟩
    ·rw[Array.getD_eq_getD_getElem?,Array.getElem?_eq_getElem (by omega)] at hv ⊢
     exact hv
    ·have h2:=h1.2
     rw[ho] at h2;have h3:=Array.all_eq_true_iff_forall_mem.1 h2 e he;rw[hb] at h3;exact ih e.on (by simpa using h3) (Nat.lt_trans (by simpa using h3) hi)
   rw[h] at hm;cases hm
theorem qB{i d:Nat}{oi:Oper}{K:Act→World→Prop}{a:Act}{w:World}(hi:ops.toList[i]? = some oi)(hd:oi.dst=some d)
  (hw:Region.wanted oi (yielded ops a.tmps)=true) (f:Nat) (args:Array Value) (he:(execOp a.eval oi).run P w=.ok (.enter f args) w) {R:Value→World→Prop}
  (hc:Calls P f args w fun e w'=>∃ v,e=.returned v∧R v w') (h:∀ v w',R v w'→K (a.put (some d) v) w'):wpOp P ops Q i K a w:=by
 rw[Array.getElem?_toList] at hi;rw[← hd] at h;refine wpOp_step hi (fun K' hK=> ?_);rw[if_pos hw];unfold Oper.wp;rw[he];simp only[Oper.upon];refine Calls.mono hc (fun e w'=> ?_);rintro ⟨v,rfl,hs⟩;exact hK _ _ (h v w' hs)
theorem zR{i:Nat}{oi:Oper}{K:Act→World→Prop}{a:Act}{w w':World}{v:Value}(hi:ops.toList[i]? = some oi)(hw:Region.wanted oi (yielded ops a.tmps)=true)
  (he:(execOp a.eval oi).run P w=.ok (.value v) w') (h:K (a.put oi.dst v) w'):wpOp P ops Q i K a w:=by
 rw[Array.getElem?_toList] at hi;refine wpOp_step hi (fun K' hK=> ?_);rw[if_pos hw];unfold Oper.wp;rw[he];exact hK _ _ h
theorem QF{i:Nat}{oi:Oper}{K:Act→World→Prop}{a:Act}{w w':World}(hi:ops.toList[i]? = some oi)(hw:Region.wanted oi (yielded ops a.tmps)=true)
  (he:(execOp a.eval oi).run P w=.ok .skip w') (h:K (a.put oi.dst undef) w'):wpOp P ops Q i K a w:=by
 rw[Array.getElem?_toList] at hi;refine wpOp_step hi (fun K' hK=> ?_);rw[if_pos hw];unfold Oper.wp;rw[he];exact hK _ _ h
theorem ZY{ev:Operand→Value}{oi:Oper}{f:Nat}{x y:Operand}{ts:Array TypeId}{v u:Value}{w:World}(ho:oi.op=.call { callee:=.value (.func f),args:=#[x,y],argTypes:=ts })(hf:ev (.func f)=.func (.func f) #[] #[])(hx:ev x=v)(hy:ev y=u)(hc:(callFunc f #[v,u]).run P w=.ok (.enter f #[v,u]) w):(execOp ev oi).run P w=.ok (.enter f #[v,u]) w:=by
 subst hx;subst hy;simp[execOp,ho,hf,go_sem,hc]
end
end Go.Proofs.YtgmbkiagdhjpnaaGreatDoor
