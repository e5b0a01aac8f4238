import Derived.Deep.RegionHeld
import Derived.ProofKit
import Derived.OpenShut
import Derived.ChangeOld
import Derived.Deep.DeepHandedRow
import Derived.Deep.Slices
import Derived.Deep.Fields
import Derived.SizedLaws
import Derived.Shelf.Strconv.Itoa3
import Derived.RegionTactic
import Derived.ChangeAlike
import Derived.Laws.Bits64b
import Derived.Laws.Bits128
import Derived.Test.YtkgoimokgbdgfaaGreatDoorV03

namespace Go.Proofs.YtkgoimokgbdgfaaGreatDoor
open Go.RowKit
open Go.Value (int pointer agg)
open Go.IntKind (i64)
set_option maxHeartbeats 400000
variable {A a:Act}{P:Pr8}{T e t:TypeId}{W0 w w':World}{b c f fuel i m n o s:Nat}{l:Array Bool}{oi:Oper}{v:Value}
section
variable {P:Program}{ops:Array Oper}{Q:Exit→Act→World→Prop}{md:Region.Mode}{S:World→Prop}
theorem Zh{i d:Nat}{oi:Oper}{v:Value}{fuel:Nat}{listed:Array Bool}{a:Act}{w:World}(hi:ops.toList[i]? = some oi)(hd:oi.dst=some d)
  (hs:Region.noSelect ops=true) (hf:Region.free md ops listed i=true) (hr:(Region.ready md ops listed).contains i=true)
  (hQ:∀ c a w,Q (.panic c) (a.put (some d) v) w→Q (.panic c) a w) (hw:Region.wanted oi (yielded ops a.tmps)=true) (hS:S w)
  (hy:∀ w,S w→(execOp a.eval oi).run P w=.ok (.value v) w)
  (h:wpAnyH P md ops Q S fuel (listed.setIfInBounds i true) (a.put (some d) v) w):wpAnyH P md ops Q S (fuel+1) listed a w:=by
 rw[Array.getElem?_toList] at hi;rw[← hd] at hQ h;exact wpAnyH_take hi hs hf hr hQ (Or.inl ⟨hw,hy⟩) hS h
def left(l:Array Bool):Nat:=l.toList.countP fun b=> !b
theorem zf5{l:Array Bool}{i:Nat}(h:l.getD i true=false):left (l.setIfInBounds i true)+1=left l:=by
 have hi:i<l.size:=by
  rcases Nat.lt_or_ge i l.size with h' | h'
  ·exact h'
  ·rw[Array.getD_eq_getD_getElem?,Array.getElem?_eq_none h'] at h
   cases h
 have hv:l.toList[i]'(by simpa using hi)=false:=by
  rw[Array.getD_eq_getD_getElem?,Array.getElem?_eq_getElem hi] at h;simpa using h
 unfold left;rw[Array.toList_setIfInBounds,List.countP_set (by simpa using hi),hv];have hp:0<l.toList.countP fun b=> !b:=List.countP_pos_iff.2 ⟨false,by rw[← hv];exact List.getElem_mem _,rfl⟩;simp only[Bool.not_false,if_true,Bool.not_true,Bool.false_eq_true,if_false];omega
theorem Zs(I:Array Bool→Act→World→Prop)(hS:∀ l a w,I l a w→S w)(hd:∀ l a w,I l a w→Region.ready md ops l=[]→Q .normal a w)
  (hstep:∀ l a w i,I l a w→i∈Region.ready md ops l→wpOp P ops Q i (I (l.setIfInBounds i true)) a w):
  ∀ (fuel:Nat) (l:Array Bool) (a:Act) (w:World),I l a w→left l≤fuel→wpAnyH P md ops Q S fuel l a w
 | 0,l,a,w,h,hf=>by
  have hr:Region.ready md ops l=[]:=by
   apply List.eq_nil_iff_forall_not_mem.2;intro i hi;have:=zf5 (mem_ready.1 hi).1;omega
  exact ⟨hr,hd l a w h hr⟩
 | fuel+1,l,a,w,h,hf=>⟨hd l a w h,fun i hi=>wpOp_mono (fun a' w' h'=>⟨hS _ _ _ h',Zs I hS hd hstep fuel _ a' w' h' (by have:=zf5 (mem_ready.1 hi).1;omega)⟩) (hstep l a w i h hi)⟩
theorem jT{l:Array Bool}{i:Nat}(h:i∈Region.ready md ops l)(k:Nat)(hk:(ops[i]?).map (fun o=>o.after.toList.any fun e=>Region.binds md e && e.on == k)=some true):l.getD k false=true:=by
 obtain ⟨_,o,ho,hall⟩:=mem_ready.1 h;rw[ho] at hk;simp only[Option.map_some,Option.some.injEq,List.any_eq_true,Bool.and_eq_true,beq_iff_eq] at hk;obtain ⟨e,he,hb,rfl⟩:=hk;exact hall e (Array.mem_toList_iff.1 he) hb
theorem zki{l:Array Bool}{i:Nat}(h:i∈Region.ready md ops l):i<ops.size:=by
 obtain ⟨_,o,ho,_⟩:=mem_ready.1 h;exact (Array.getElem?_eq_some_iff.1 ho).1
theorem Qb{l:Array Bool}{n:Nat}(hl:l.size=n)(h:Region.ready md ops l=[])(hc:(List.range n).all (fun i=>(ops[i]?).isSome && ((ops[i]?).map (fun o=>o.after.all fun e=> !Region.binds md e || decide (e.on<i))).getD false)=true):∀ i,i<n→l.getD i false=true:=by
 intro i
 induction i using Nat.strongRecOn with
 | _ i ih=>
  intro hi;cases hv:l.getD i false with
  | true=>rfl
  | false=>
   exfalso;have hm:i∈Region.ready md ops l:=by
    rw[mem_ready];have h1:=List.all_eq_true.1 hc i (List.mem_range.2 hi);rw[Bool.and_eq_true] at h1;obtain ⟨o,ho⟩:=Option.isSome_iff_exists.1 h1.1;refine ⟨?_,o,ho,fun e he hb=> ?_⟩
    ·rw[Array.getD_eq_getD_getElem?,Array.getElem?_eq_getElem (by omega)] at hv ⊢
     exact hv
    ·have h2:=h1.2
     rw[ho] at h2;have h3:=Array.all_eq_true_iff_forall_mem.1 h2 e he;rw[hb] at h3;exact ih e.on (by simpa using h3) (Nat.lt_trans (by simpa using h3) hi)
   rw[h] at hm;cases hm
theorem zel{i d:Nat}{oi:Oper}{K:Act→World→Prop}{a:Act}{w:World}(hi:ops.toList[i]? = some oi)(hd:oi.dst=some d)
  (hw:Region.wanted oi (yielded ops a.tmps)=true) (f:Nat) (args:Array Value) (he:(execOp a.eval oi).run P w=.ok (.enter f args) w) {R:Value→World→Prop}
  (hc:Calls P f args w fun e w'=>∃ v,e=.returned v∧R v w') (h:∀ v w',R v w'→K (a.put (some d) v) w'):wpOp P ops Q i K a w:=by
 rw[Array.getElem?_toList] at hi;rw[← hd] at h;refine wpOp_step hi (fun K' hK=> ?_);rw[if_pos hw];unfold Oper.wp;rw[he];simp only[Oper.upon];refine Calls.mono hc (fun e w'=> ?_);rintro ⟨v,rfl,hs⟩;exact hK _ _ (h v w' hs)
theorem zha{i:Nat}{oi:Oper}{K:Act→World→Prop}{a:Act}{w w':World}{v:Value}(hi:ops.toList[i]? = some oi)(hw:Region.wanted oi (yielded ops a.tmps)=true)
  (he:(execOp a.eval oi).run P w=.ok (.value v) w') (h:K (a.put oi.dst v) w'):wpOp P ops Q i K a w:=by
 rw[Array.getElem?_toList] at hi;refine wpOp_step hi (fun K' hK=> ?_);rw[if_pos hw];unfold Oper.wp;rw[he];exact hK _ _ h
theorem zeb{i:Nat}{oi:Oper}{K:Act→World→Prop}{a:Act}{w w':World}(hi:ops.toList[i]? = some oi)(hw:Region.wanted oi (yielded ops a.tmps)=true)
  (he:(execOp a.eval oi).run P w=.ok .skip w') (h:K (a.put oi.dst undef) w'):wpOp P ops Q i K a w:=by
 rw[Array.getElem?_toList] at hi;refine wpOp_step hi (fun K' hK=> ?_);rw[if_pos hw];unfold Oper.wp;rw[he];exact hK _ _ h
theorem zt{ev:Operand→Value}{oi:Oper}{f:Nat}{x y:Operand}{ts:Array TypeId}{v u:Value}{w:World}(ho:oi.op=.call { callee:=.value (.func f),args:=#[x,y],argTypes:=ts })(hf:ev (.func f)=.func (.func f) #[] #[])(hx:ev x=v)(hy:ev y=u)(hc:(callFunc f #[v,u]).run P w=.ok (.enter f #[v,u]) w):(execOp ev oi).run P w=.ok (.enter f #[v,u]) w:=by
 subst hx;subst hy;simp[execOp,ho,hf,go_sem,hc]
end
def zg(p:Pr8)(f:Nat):Fu8:=p.funcs.getD f ⟨0,[],[]⟩
def zr(x:Fu8)(b:Nat):Bl8:=x.blocks.getD b ⟨[],0,0,0,0⟩
def qQ(x:Bl8)(i:Nat):In8:=x.code.getD i ⟨0,0,0,0,0,[]⟩
def ptB(f b n:Nat):List (Nat × Nat × Nat):=(List.range n).map fun i=>(f,b,i)
def ptF(x:Fu8)(f m:Nat):List (Nat × Nat × Nat):=(List.range m).flatMap fun b=>ptB f b ((zr x b).code.length+1)
def ptP(p:Pr8)(k:Nat):List (Nat × Nat × Nat):=(List.range k).flatMap fun f=>ptF (zg p f) f (zg p f).blocks.length
def pts(p:Pr8):List (Nat × Nat × Nat):=ptP p p.funcs.length
theorem J9(f b:Nat):ptB f b 0=[]:=rfl
theorem Zm(f b n:Nat):ptB f b (n+1)=ptB f b n ++ [(f,b,n)]:=by
 unfold ptB;rw[List.range_succ,List.map_append];rfl
theorem zcR(x:Fu8)(f:Nat):ptF x f 0=[]:=rfl
theorem jw(x:Fu8)(f m:Nat):ptF x f (m+1)=ptF x f m ++ ptB f m ((zr x m).code.length+1):=by
 unfold ptF;rw[List.range_succ,List.flatMap_append,List.flatMap_singleton]
theorem Qi(p:Pr8)(k:Nat):ptP p (k+1)=ptP p k ++ ptF (zg p k) k (zg p k).blocks.length:=by
 unfold ptP;rw[List.range_succ,List.flatMap_append,List.flatMap_singleton]
theorem zbo(f b n:Nat):(ptB f b n).length=n:=by unfold ptB;rw[List.length_map,List.length_range]
theorem zhD{q:Nat × Nat × Nat}:q∈ptB f b n ↔ ∃ i,i<n∧q=(f,b,i):=by
 unfold ptB;rw[List.mem_map];constructor
 ·rintro ⟨i,h1,h2⟩
  exact ⟨i,List.mem_range.1 h1,h2.symm⟩
 ·rintro ⟨i,h1,h2⟩
  exact ⟨i,List.mem_range.2 h1,h2.symm⟩
theorem zeG{x:Fu8}{q:Nat × Nat × Nat}:q∈ptF x f m ↔ ∃ b i,b<m∧i≤(zr x b).code.length∧q=(f,b,i):=by
 unfold ptF;rw[List.mem_flatMap];constructor
 ·rintro ⟨b,h1,h2⟩
  obtain ⟨i,h3,h4⟩:=zhD.1 h2;exact ⟨b,i,List.mem_range.1 h1,by omega,h4⟩
 ·rintro ⟨b,i,h1,h2,h3⟩
  exact ⟨b,List.mem_range.2 h1,zhD.2 ⟨i,by omega,h3⟩⟩
def J1(p:Pr8)(f b i:Nat):Prop:=f<p.funcs.length∧b<(zg p f).blocks.length∧i≤(zr (zg p f) b).code.length
theorem zc8{p:Pr8}:((f,b,i):Nat × Nat × Nat)∈pts p ↔ J1 p f b i:=by
 unfold pts ptP J1;rw[List.mem_flatMap];constructor
 ·rintro ⟨f',h1,h2⟩
  obtain ⟨b',i',h3,h4,h5⟩:=zeG.1 h2;have e1:f=f':=congrArg Prod.fst h5;have e2:b=b':=congrArg (fun q:Nat × Nat × Nat=>q.2.1) h5;have e3:i=i':=congrArg (fun q:Nat × Nat × Nat=>q.2.2) h5;subst e1 e2 e3;exact ⟨List.mem_range.1 h1,h3,h4⟩
 ·rintro ⟨h1,h2,h3⟩
  exact ⟨f,List.mem_range.2 h1,zeG.2 ⟨b,i,h2,h3,rfl⟩⟩
theorem zbh(x:Fu8)(f:Nat):∀ {b m:Nat},b<m→∃ r,ptF x f m=ptF x f b ++ (ptB f b ((zr x b).code.length+1) ++ r)
 | b,0,h=>absurd h (Nat.not_lt_zero _)
 | b,m+1,h=>by
  by_cases e:b=m
  ·subst e
   exact ⟨[],by rw[jw,List.append_nil]⟩
  ·obtain ⟨r,hr⟩:=zbh x f (b:=b) (m:=m) (by omega)
   exact ⟨r ++ ptB f m ((zr x m).code.length+1),by rw[jw,hr];simp[List.append_assoc]⟩
theorem zeV{p:Pr8}(h:n<(pts p).length):∃ f b i,J1 p f b i∧(pts p)[n]? = some (f,b,i):=by
 have hm:(pts p)[n]∈pts p:=List.getElem_mem h;obtain ⟨f,b,i,e⟩:∃ f b i,(pts p)[n]=(f,b,i):=⟨(pts p)[n].1,(pts p)[n].2.1,(pts p)[n].2.2,rfl⟩;rw[e] at hm;exact ⟨f,b,i,zc8.1 hm,by rw[List.getElem?_eq_getElem h,e]⟩
theorem zjO(x:Bl8):(zcM x).length≤2:=by
 unfold zcM;split
 ·simp
 ·split
  ·split <;> simp
  ·simp
section
open Go.ChangeShapes Go.WideShapes Go.ChangeAt
theorem zlh{n:Int}(h:(Lit.int .i64 n).wf=true):b64 n:=by
 have h1:(decide (IntKind.i64.min≤n) && decide (n≤IntKind.i64.max))=true:=h;have a:IntKind.i64.min= -9223372036854775808:=by decide
 have b:IntKind.i64.max=9223372036854775807:=by decide
 rw[a,b] at h1;simpa [b64] using h1
theorem zgV{α:Type}{Q:Nat→α→Prop}:∀ n,(∀ j,j<n→∃ y,Q j y)→∃ l:List α,l.length=n∧∀ j y,l[j]? = some y→Q j y
 | 0,_=>⟨[],rfl,fun j y h=>by simp at h⟩
 | n+1,h=>by
  obtain ⟨l,h1,h2⟩:=zgV n (fun j hj=>h j (by omega));obtain ⟨y,hy⟩:=h n (by omega);refine ⟨l ++ [y],by simp[h1],fun j z hz=> ?_⟩;by_cases e:j<l.length
  ·rw[List.getElem?_append_left e] at hz
   exact h2 j z hz
  ·rw[List.getElem?_append_right (by omega)] at hz
   have e0:j - l.length=0:=by
    apply Classical.byContradiction;intro hne;rw[List.getElem?_eq_none (by simp;omega)] at hz;cases hz
   rw[e0] at hz;simp at hz;rw[← hz,show j=n by omega];exact hy
section
variable {H:Type}{enc:TypeId × Value→H}{P:Program}{w:World}{spare:Nat→Bool}{held:Bool}{G:TypeId→DataW H→Prop}
structure ZS (P:Program) (G:TypeId→DataW H→Prop):Prop where
 slice:∀ {t e:TypeId}{elems rest:List (DataW H)}{d:DataW H},P.underlying t=some (.slice e)→G t (.slice elems rest)→d∈elems→G e d
 struct:∀ {t:TypeId}{fs:Array Field}{parts:List (DataW H)}{i:Nat}{f:Field}{d:DataW H},P.underlying t=some (.struct fs)→G t (.agg parts)→fs[i]? = some f→parts[i]? = some d→G f.type d
 ptr:∀ {t e:TypeId}{d:DataW H},P.underlying t=some (.pointer e)→G t (.ptr d)→G e d
def ZD{α:Type}(enc:TypeId × Value→H)(P:Program)(w:World)(spare:Nat→Bool)(held:Bool)(G:TypeId→DataW H→Prop)(e:TypeId)(R:World→Nat→Nat→α→Prop)(Q:α→Prop):Prop:=
 ∀ (fuel b o:Nat) (cs:List Value) (x:DataW H × List MemPlace),(∀ i,i<P.cellsOf e→w.cell? ⟨b,o+i,none⟩=cs[i]?)→DataW.trod enc P w 0 spare held fuel e cs=some x→G e x.1→∃ y:α,R w b o y∧Q y
theorem zhB{t:TypeId}(ht:P.underlying t=some (.int .i64))(hc:P.cellsOf t=1):ZD enc P w spare held G t qF (fun _=>True):=by
 intro fuel b o cs x hcell h _;obtain ⟨n,rfl,_,hw⟩:=DataW.trod_int ht h;refine ⟨n,⟨?_,zlh hw⟩,trivial⟩;have:=hcell 0 (by omega);rw[Nat.add_zero] at this;rw[this];rfl
theorem zbg{α:Type}{t e:TypeId}{R:World→Nat→Nat→α→Prop}{Q:α→Prop}(hG:ZS P G)(ht:P.underlying t=some (.slice e))(hpos:0<P.cellsOf e)(hR:ZD enc P w spare held G e R Q){fuel:Nat}{cs:List Value}{x:DataW H × List MemPlace}(h:DataW.trod enc P w 0 spare held fuel t cs=some x)(hg:G t x.1):
  ∃ (a:Option Addr) (cp:Nat) (l:List α),cs=[.slice a l.length cp]∧zy w (P.cellsOf e) R a l∧l.length≤cp∧l.length≤maxLen∧(a=none→cp=0)∧(∀ (j:Nat) (y:α),l[j]? = some y→Q y)∧(l=[]∨∃ elems rest,x.1=.slice elems rest∧elems.length=l.length):=by
 rcases Deep.open_slice ht h with ⟨h1,_⟩ | ⟨a,len,cap,m,n,D,Pl,h1,_,h3,h4,h5,hx,h7⟩
 ·exact ⟨none,0,[],h1,.inl rfl,by simp,by simp,(fun _=>rfl),(fun j y hy=>by simp at hy),.inl rfl⟩
 ·have hm:len≤m:=by rw[h5];split <;> omega
  by_cases h0:len=0
  ·subst h0
   exact ⟨some a,cap,[],h1,.inl rfl,by simp,by simp,(fun e=>by cases e),(fun j y hy=>by simp at hy),.inl rfl⟩
  ·obtain ⟨b,off,spot⟩:=a
   obtain ⟨c0,g0,_⟩:=h7 0 (by omega);obtain ⟨_,gl,g1⟩:=World.cells?_some g0;have g2:=g1 0 hpos;rw[List.getElem?_eq_getElem (by omega)] at g2;have hspot:spot=none:=by simpa [Addr.add] using World.cell?_spot g2
   subst hspot;have hx1:x.1=.slice ((List.range len).map D) ((List.range (m - len)).map fun j=>D (len+j)):=by rw[hx]
   obtain ⟨l,hl,hq⟩:=zgV (Q:=fun j y=>R w b (off+j * P.cellsOf e) y∧Q y) len (fun j hj=>by
    obtain ⟨cj,g3,g4⟩:=h7 j (by omega);obtain ⟨_,g5,g6⟩:=World.cells?_some g3;refine hR n b (off+j * P.cellsOf e) cj _ (fun i hi=> ?_) g4 ?_
    ·have:=g6 i hi
     rw[add_plain,add_plain] at this;exact this
    ·rw[hx1] at hg
     exact hG.slice ht hg (List.mem_map.2 ⟨j,List.mem_range.2 hj,rfl⟩))
   exact ⟨some ⟨b,off,none⟩,cap,l,by rw[hl];exact h1,.inr ⟨b,off,rfl,fun j y hy=>(hq j y hy).1⟩,by omega,by omega,(fun e=>by cases e),(fun j y hy=>(hq j y hy).2),.inr ⟨_,_,hx1,by rw[List.length_map,List.length_range,hl]⟩⟩
theorem jz{α:Type}{t e:TypeId}{R:World→Nat→Nat→α→Prop}{Q:α→Prop}{c:Nat}(hG:ZS P G)(ht:P.underlying t=some (.slice e))(hc:P.cellsOf e=c)(hpos:0<c)(h1:P.cellsOf t=1)(hR:ZD enc P w spare held G e R Q):ZD enc P w spare held G t (SlC c R) (fun l=>∀ (j:Nat) (y:α),l[j]? = some y→Q y):=by
 subst hc;intro fuel b o cs x hcell h hg;obtain ⟨a,cp,l,rfl,h2,h3,h4,_,h5,_⟩:=zbg hG ht hpos hR h hg;refine ⟨l,⟨a,cp,?_,h2,h3,h4⟩,h5⟩;have:=hcell 0 (by omega);rw[Nat.add_zero] at this;rw[this];rfl
theorem zdf{α:Type}{t e:TypeId}{R:World→Nat→Nat→α→Prop}{Q:α→Prop}{c N:Nat}(hG:ZS P G)(hN:∀ elems rest,G t (.slice elems rest)→elems.length≤N)(ht:P.underlying t=some (.slice e))(hc:P.cellsOf e=c)(hpos:0<c)(h1:P.cellsOf t=1)(hR:ZD enc P w spare held G e R Q):ZD enc P w spare held G t (SlC c R) (fun l=>l.length≤N):=by
 subst hc;intro fuel b o cs x hcell h hg;obtain ⟨a,cp,l,rfl,h2,h3,h4,_,_,h5⟩:=zbg hG ht hpos hR h hg;refine ⟨l,⟨a,cp,?_,h2,h3,h4⟩,?_⟩
 ·have:=hcell 0 (by omega)
  rw[Nat.add_zero] at this;rw[this];rfl
 ·rcases h5 with e | ⟨elems,rest,e1,e2⟩
  ·rw[e];exact Nat.zero_le _
  ·rw[e1] at hg
   rw[← e2];exact hN _ _ hg
theorem jc(hG:ZS P G){e:TypeId}{fs:Array Field}(hs:P.underlying e=some (.struct fs)){fuel b o:Nat}{cs:List Value}{x:DataW H × List MemPlace}(hcell:∀ i,i<P.cellsOf e→w.cell? ⟨b,o+i,none⟩=cs[i]?)(h:DataW.trod enc P w 0 spare held fuel e cs=some x)(hg:G e x.1):
  ∀ (i:Nat) (f:Field),fs[i]? = some f→f.offset+P.cellsOf f.type≤P.cellsOf e→∀ {α:Type}{R:World→Nat→Nat→α→Prop}{Q:α→Prop},ZD enc P w spare held G f.type R Q→∃ y:α,R w b (o+f.offset) y∧Q y:=by
 intro i f hf hle α R Q hR;obtain ⟨xs,n,_,hxx,hl,hxl,hx⟩:=DataW.trod_struct hs h;have hlt:i<fs.size:=(Array.getElem?_eq_some_iff.1 hf).1;have g:=hx i f hf;rw[List.getElem?_eq_getElem (by omega)] at g;refine hR n b (o+f.offset) _ _ (fun j hj=> ?_) g ?_
 ·rw[Nat.add_assoc,hcell (f.offset+j) (by omega),List.getElem?_take,if_pos hj,List.getElem?_drop]
 ·have hx1:x.1=.agg (xs.map (·.1)):=by rw[hxx]
  rw[hx1] at hg;refine hG.struct hs hg hf ?_;rw[List.getElem?_map,List.getElem?_eq_getElem (by omega)];rfl
end
end
def Q6(s:Nat→Bool)(a:Int):Bool:=decide (0≤a) && s a.toNat
def zdY(s:Nat→Bool)(a:Int):Nat→Bool:=fun m=>s m || (decide (a<5000) && decide ((m:Int)=a))
def zjF(s:Nat→Bool)(a:Int):Nat→Bool:=fun m=>s m && !decide ((m:Int)=a)
def Fit(s:Nat→Bool):Prop:=∀ n,5000≤n→s n=false
theorem Fit.ins{s:Nat→Bool}(h:Fit s)(a:Int):Fit (zdY s a):=by
 intro n hn;unfold zdY;rw[h n hn];simp;omega
theorem zkJ(s:Nat→Bool)(a:Int)(h:¬ (0≤a∧a<5000)):zdY s a=s:=by
 funext m
 unfold zdY;by_cases h1:a<5000
 ·have:¬ (m:Int)=a:=by omega
  simp[this]
 ·simp[h1]
theorem zlR(s:Nat→Bool)(n:Nat)(h:s n=true):zdY s (n:Int)=s:=by
 funext m
 unfold zdY;by_cases h1:(m:Int)=n
 ·have:m=n:=by omega
  subst this;simp[h]
 ·simp[h1]
theorem zf7(s:Nat→Bool)(n:Nat)(h:n<5000):zdY s (n:Int)=ins s n:=by
 funext m
 unfold zdY ins;have:(n:Int)<5000:=by omega
 by_cases hm:m=n
 ·subst hm;simp[this]
 ·have:¬ (m:Int)=n:=by omega
  simp[this,hm]
theorem zkQ(s:Nat→Bool)(n:Nat):zjF s (n:Int)=del s n:=by
 funext m
 unfold zjF del;by_cases hm:m=n
 ·subst hm;simp
 ·have:¬ (m:Int)=n:=by omega
  simp[this,hm]
theorem zjK(s:Nat→Bool)(a:Int)(h:Q6 s a=false):zjF s a=s:=by
 funext m
 unfold zjF;by_cases h1:(m:Int)=a
 ·subst h1
  have:s m=false:=by simpa [Q6] using h
  simp[this]
 ·simp[h1]
def row(s:Nat→Bool):Array Value:=Array.ofFn (n:=79) fun k=>Value.int .u64 (wd s k:Nat)
theorem JQ(s:Nat→Bool):(row s).size=79:=by simp[row]
theorem zc7(s:Nat→Bool)(k:Nat)(h:k<79):(row s)[k]? = some (.int .u64 (wd s k:Nat)):=by simp[row,h]
theorem zm2(s t:Nat→Bool)(k:Nat)(v:Nat)(h:∀ j,j≠k→wd t j=wd s j)(hv:v=wd t k):(row s).setIfInBounds k (.int .u64 (v:Nat))=row t:=by
 rw[hv];apply Array.ext_getElem?;intro i;rw[Array.getElem?_setIfInBounds];by_cases hi:i<79
 ·rw[zc7 t i hi,zc7 s i hi,JQ]
  by_cases hk:k=i
  ·subst hk;simp[hi]
  ·rw[if_neg hk,h i (fun e=>hk e.symm)]
 ·have e1:(row t)[i]? = none:=by simp[JQ];omega
  have e2:(row s)[i]? = none:=by simp[JQ];omega
  rw[e1,e2,JQ];by_cases hk:k=i
  ·subst hk;simp[hi]
  ·rw[if_neg hk]
structure zV (w:World) (b:Nat) (s:Nat→Bool):Prop where
 heap:w.heap[b]? = some (.cells (row s) 164 (0,0))
theorem zV.cell{s:Nat→Bool}(h:zV w b s){k:Nat}(hk:k<79):w.cell? ⟨b,k,none⟩=some (.int .u64 (wd s k:Nat)):=by
 rw[cell_of_row w b k _ _ _ h.heap,zc7 s k hk]
theorem zV.frozen{s:Nat→Bool}(h:zV w b s)(k:Nat):w.frozen? ⟨b,k,none⟩=false:=frozen_of_row w b k _ _ h.heap
theorem zV.lt{s:Nat→Bool}(h:zV w b s):b<w.heap.size:=by
 have:=h.heap;rw[Array.getElem?_eq_some_iff] at this;exact this.1
theorem zV.put{s:Nat→Bool}(h:zV w b s)(t:Nat→Bool)(k v:Nat)(ht:∀ j,j≠k→wd t j=wd s j)(hv:v=wd t k):zV (w.setCell ⟨b,k,none⟩ (.int .u64 (v:Nat))) b t:=
 ⟨by rw[heap_setCell_same w b k (row s) _ _ h.heap,zm2 s t k v ht hv]⟩
theorem zV.kept{s:Nat→Bool}{L:List Nat}(h:zV w b s)(k:zc L w w')(hb:b ∉ L):zV w' b s:=
 ⟨by rw[k.block b h.lt hb];exact h.heap⟩
theorem zV.drewN{s:Nat→Bool}(h:zV w b s)(n:Nat):zV (w.drewN n) b s:=⟨h.heap⟩
def jS(w:World):Prop:=∀ j,j<64→w.cell? ⟨1,j,none⟩=some (.int .u8 (Go.Lib.deBruijn64tab.getD j 0))
theorem jS.kept{L:List Nat}(h:jS w)(k:zc L w w')(hn:1 ∉ L):jS w':=by
 intro j hj;have hc:=h j hj;rw[k.cell (p:=⟨1,j,none⟩) (block_lt_of_cell hc) hn];exact hc
theorem jS.drewN(h:jS w)(n:Nat):jS (w.drewN n):=h
structure zp9 (w:World) (pb po:Nat) (P:Pr8) (fa:Option Addr) (fcp:Nat):Prop where
 cell:w.cell? ⟨pb,po+4,none⟩=some (.slice fa P.funcs.length fcp)
 rows:zy w 3 FuC fa P.funcs
 cap:P.funcs.length≤fcp
 len:P.funcs.length≤maxLen
theorem PrC.fns{pb po:Nat}(h:PrC w pb po P):∃ fa fcp,zp9 w pb po P fa fcp:=by
 obtain ⟨fa,fcp,h1,h2,h3,h4⟩:=h.c4;exact ⟨fa,fcp,h1,h2,h3,h4⟩
structure zj1 (w:World) (fb fo:Nat) (P:Pr8) (f:Nat) (ba:Option Addr) (bcp:Nat):Prop where
 cell:w.cell? ⟨fb,fo+f * 3+2,none⟩=some (.slice ba (zg P f).blocks.length bcp)
 rows:zy w 5 BlC ba (zg P f).blocks
 cap:(zg P f).blocks.length≤bcp
 len:(zg P f).blocks.length≤maxLen
theorem zh{α:Type}{l:List α}{k:Nat}{d:α}(h:k<l.length):l[k]? = some (l.getD k d):=by
 rw[List.getD_eq_getElem?_getD,List.getElem?_eq_getElem h];rfl
theorem zp9.at{pb po:Nat}{fa:Option Addr}{fcp:Nat}(h:zp9 w pb po P fa fcp)(hf:f<P.funcs.length):∃ fb fo ba bcp,fa=some ⟨fb,fo,none⟩∧zj1 w fb fo P f ba bcp:=by
 obtain ⟨fb,fo,h1,h2⟩:=h.rows.at (zh (d:=⟨0,[],[]⟩) hf);obtain ⟨ba,bcp,g1,g2,g3,g4⟩:=h2.c2;exact ⟨fb,fo,ba,bcp,h1,g1,g2,g3,g4⟩
theorem zj1.at{fb fo:Nat}{ba:Option Addr}{bcp:Nat}(h:zj1 w fb fo P f ba bcp)(hb:b<(zg P f).blocks.length):∃ bb bo,ba=some ⟨bb,bo,none⟩∧BlC w bb (bo+b * 5) (zr (zg P f) b):=by
 have e:(zg P f).blocks[b]? = some (zr (zg P f) b):=zh hb;exact h.rows.at e
theorem zkE(bb o n cp:Nat)(a:Option Addr)(w:World)(h:w.cell? ⟨bb,o,none⟩=some (.slice a n cp))(hn:n≤1000):
  Calls Tryz.prog 102 #[pointer (some ⟨bb,o,none⟩)] w fun e w'=>e=.returned (int i64 ((n+1:Nat):Int))∧w'=w:=by
 have h1:(n:Int)≤1000:=by omega
 go_enter Tryz.func102,Tryz.ntmps102;go_wp2;go_ret;exact ⟨by go_num,rfl⟩
def zfF(x:Fu8)(m:Nat):Nat:=(ptF x 0 m).length
theorem zeh(x:Fu8)(f m:Nat):(ptF x f m).length=zfF x m:=by
 unfold zfF
 induction m with
 | zero=>rfl
 | succ m ih=>rw[jw,jw,List.length_append,List.length_append,zbo,zbo,ih]
theorem Qa(x:Fu8)(m:Nat):zfF x (m+1)=zfF x m+((zr x m).code.length+1):=by
 unfold zfF;rw[jw,List.length_append,zbo]
theorem zh6(x:Fu8)(h:m≤n):zfF x m≤zfF x n:=by
 induction n with
 | zero=>rw[show m=0 by omega];exact Nat.le_refl _
 | succ n ih=>
  by_cases e:m=n+1
  ·rw[e];exact Nat.le_refl _
  ·have:=ih (by omega)
   rw[Qa];omega
def zgK(P:Pr8)(k:Nat):Nat:=(ptP P k).length
theorem JH(P:Pr8)(k:Nat):zgK P (k+1)=zgK P k+zfF (zg P k) (zg P k).blocks.length:=by
 unfold zgK;rw[Qi,List.length_append,zeh]
theorem zhM(P:Pr8)(h:m≤n):zgK P m≤zgK P n:=by
 induction n with
 | zero=>rw[show m=0 by omega];exact Nat.le_refl _
 | succ n ih=>
  by_cases e:m=n+1
  ·rw[e];exact Nat.le_refl _
  ·have:=ih (by omega)
   rw[JH];omega
theorem zev(P:Pr8):(pts P).length=zgK P P.funcs.length:=rfl
theorem SlC.len{α:Type}{R:World→Nat→Nat→α→Prop}{l:List α}(h:SlC c R w b o l):∃ a cp,w.cell? ⟨b,o,none⟩=some (.slice a l.length cp):=by
 obtain ⟨a,cp,h1,_⟩:=h;exact ⟨a,cp,h1⟩
theorem z8{p:Nat}{o:Obj}(h:w.heap[p]? = some o):p<w.heap.size:=by
 rw[Array.getElem?_eq_some_iff] at h;exact h.1
theorem zf(w:World)(o:Obj):(w.alloc o).heap[w.heap.size]? = some o:=heap_alloc_new w o
theorem ze{o:Obj}(h:w.heap[s]? = some o)(k:zc [] w w'):w'.heap[s]? = some o:=(k.block s (z8 h) (by simp)).trans h
theorem zd{cs:Array Value}(h:w.heap[b]? = some (.cells cs T (0,0)))(j:Nat):w.cell? ⟨b,j,none⟩=cs[j]? := Lib.cell_of_heap h j
theorem zi{cs:Array Value}(h:w.heap[b]? = some (.cells cs T (0,0)))(j:Nat):w.frozen? ⟨b,j,none⟩=false:=Lib.frozen_of_heap h j
theorem ZC{x y z:Value}(h:w.heap[b]? = some (.cells #[x,y,z] T (0,0)))(u0 u1 u2:Value):
  (((w.setCell ⟨b,0,none⟩ u0).setCell ⟨b,1,none⟩ u1).setCell ⟨b,2,none⟩ u2).heap[b]? = some (.cells #[u0,u1,u2] T (0,0)):=
 heap_setCell_same _ b 2 _ _ u2 (heap_setCell_same _ b 1 _ _ u1 (heap_setCell_same w b 0 _ _ u0 h))
theorem jd(w:World)(b:Nat)(u0 u1 u2:Value):zc [b] w (((w.setCell ⟨b,0,none⟩ u0).setCell ⟨b,1,none⟩ u1).setCell ⟨b,2,none⟩ u2):=
 ((zc.setCell [b] _ _ _ (List.mem_singleton.2 rfl)).step (zc.setCell [b] _ _ _ (List.mem_singleton.2 rfl))).step (zc.setCell [b] _ _ _ (List.mem_singleton.2 rfl))
structure PtC (w:World) (b o:Nat) (q:Nat × Nat × Nat):Prop where
 c0:w.cell? ⟨b,o,none⟩=some (int i64 (q.1:Int))
 c1:w.cell? ⟨b,o+1,none⟩=some (int i64 (q.2.1:Int))
 c2:w.cell? ⟨b,o+2,none⟩=some (int i64 (q.2.2:Int))
def Qf(l:List (Nat × Nat × Nat)):List Value:=l.flatMap fun q=>[int i64 (q.1:Int),int i64 (q.2.1:Int),int i64 (q.2.2:Int)]
theorem zby(l:List (Nat × Nat × Nat))(f b i:Nat):Qf (l ++ [(f,b,i)])=Qf l ++ [int i64 (f:Int),int i64 (b:Int),int i64 (i:Int)]:=by
 unfold Qf;rw[List.flatMap_append];rfl
theorem zk2(l:List (Nat × Nat × Nat)):(Qf l).length=l.length * 3:=by
 induction l with
 | nil=>rfl
 | cons q l ih=>
  have:Qf (q :: l)=[int i64 (q.1:Int),int i64 (q.2.1:Int),int i64 (q.2.2:Int)] ++ Qf l:=rfl;rw[this,List.length_append,ih,List.length_cons];show 3+l.length * 3=(l.length+1) * 3;omega
theorem zla(l:List (Nat × Nat × Nat)):∀ (j:Nat) (q:Nat × Nat × Nat),l[j]? = some q→(Qf l)[j * 3]? = some (int i64 (q.1:Int))∧(Qf l)[j * 3+1]? = some (int i64 (q.2.1:Int))∧(Qf l)[j * 3+2]? = some (int i64 (q.2.2:Int)):=by
 induction l with
 | nil=>intro j q h;simp at h
 | cons p l ih=>
  intro j q h;have e:Qf (p :: l)=[int i64 (p.1:Int),int i64 (p.2.1:Int),int i64 (p.2.2:Int)] ++ Qf l:=rfl;cases j with
  | zero=>
   simp at h;subst h;rw[e];exact ⟨rfl,rfl,rfl⟩
  | succ j=>
   have h':=ih j q (by simpa using h);rw[e,show (j+1) * 3=j * 3+3 by omega];refine ⟨?_,?_,?_⟩ <;> rw[List.getElem?_append_right (by simp)]
   ·exact h'.1
   ·rw[show j * 3+3+1 - [Value.int .i64 (p.1:Int),int i64 (p.2.1:Int),int i64 (p.2.2:Int)].length=j * 3+1 by simp]
    exact h'.2.1
   ·rw[show j * 3+3+2 - [Value.int .i64 (p.1:Int),int i64 (p.2.1:Int),int i64 (p.2.2:Int)].length=j * 3+2 by simp]
    exact h'.2.2
theorem zcI{base:Nat}{l:List (Nat × Nat × Nat)}(h:w.ownsRow base 55 3 v n (Qf l)):∃ a cp,v=.slice a n cp∧n=l.length∧zy w 3 PtC a l∧l.length≤cp:=by
 have hl:n=l.length:=by have:=h.1;rw[zk2] at this;omega
 rcases h.2 with ⟨rfl,h0⟩ | ⟨g,cap,cur,rfl,_,hg,hle,_,hs,ht⟩
 ·subst h0
  exact ⟨none,0,rfl,hl,.inl (List.eq_nil_of_length_eq_zero hl.symm),by omega⟩
 ·refine ⟨_,cap,rfl,hl,.inr ⟨g,0,rfl,fun j q hq=> ?_⟩,by omega⟩
  have hj:j<l.length:=by
   rcases Nat.lt_or_ge j l.length with h | h
   ·exact h
   ·rw[List.getElem?_eq_none h] at hq;cases hq
  have key:∀ i,i<n * 3→w.cell? ⟨g,i,none⟩=(Qf l)[i]? := fun i hi=>by
   rw[cell_of_row w g i cur _ _ hg, ← ht,List.getElem?_take,if_pos hi];simp
  obtain ⟨g0,g1,g2⟩:=zla l j q hq;rw[Nat.zero_add];exact ⟨(key _ (by omega)).trans g0,(key _ (by omega)).trans g1,(key _ (by omega)).trans g2⟩
theorem zcE:Tryz.t55.zero=some (agg #[int i64 0,int i64 0,int i64 0]):=by kernel_rfl
theorem QJ:Tryz.t55.size=3:=by kernel_rfl
theorem zaC:Tryz.t55.bytes=24:=by kernel_rfl
theorem zbn:Tryz.prog.info? 55=some Tryz.t55:=by kernel_rfl
theorem Q9:Tryz.prog.underlying 101=some (.slice 55):=by kernel_rfl
theorem JP(x y z:Int):∀ u∈[Value.int .i64 x,int i64 y,int i64 z],u.oneCell'=true:=by
 intro u hu;simp at hu;rcases hu with rfl | rfl | rfl <;> rfl
def zbl(l:List Int):List Value:=l.map fun z=>int i64 z
theorem Qo(l:List Int):(zbl l).length=l.length:=by unfold zbl;rw[List.length_map]
theorem QQ(l:List Int):∀ u∈zbl l,u.oneCell'=true:=by
 intro u hu;unfold zbl at hu;rw[List.mem_map] at hu;obtain ⟨z,_,rfl⟩:=hu;rfl
theorem Z8{base:Nat}{l:List Int}(h:w.ownsRow base 3 1 v n (zbl l)):∃ a cp,v=.slice a n cp∧n=l.length∧zw w a l∧n≤cp∧∀ b off,a=some ⟨b,off,none⟩→base≤b:=by
 have hl:n=l.length:=by have:=h.1;rw[Qo] at this;omega
 rcases h.2 with ⟨rfl,h0⟩ | ⟨g,cap,cur,rfl,hbs,hg,hle,_,hs,ht⟩
 ·subst h0
  exact ⟨none,0,rfl,hl,.inl (List.eq_nil_of_length_eq_zero hl.symm),by omega,fun _ _ e=>by cases e⟩
 ·refine ⟨_,cap,rfl,hl,.inr ⟨g,0,rfl,fun i hi=> ?_⟩,hle,fun b off e=>by cases e;assumption⟩
  rw[Nat.zero_add,cell_of_row w g i cur _ _ hg];have e2:(cur.toList.take (n * 1))[i]? = cur.toList[i]? := by rw[List.getElem?_take,if_pos (by omega)]
  have e1:cur[i]? = cur.toList[i]? := by simp
  rw[e1, ← e2,ht];unfold zbl;rw[List.getElem?_map,List.getElem?_eq_getElem hi,List.getD_eq_getElem?_getD,List.getElem?_eq_getElem hi];rfl
theorem zgT{off:Nat}{l:List Int}(h:∀ i,i<l.length→w.cell? ⟨b,off+i,none⟩=some (int i64 (l.getD i 0))):∀ j u,(zbl l)[j]? = some u→w.cell? ((⟨b,off,none⟩:Addr).add j)=some u:=by
 intro j u hu;have hadd:(⟨b,off,none⟩:Addr).add j=⟨b,off+j,none⟩:=by unfold Addr.add;by_cases e:j=0 <;> simp[e]
 unfold zbl at hu;rw[List.getElem?_map] at hu;by_cases hj:j<l.length
 ·rw[hadd,h j hj]
  rw[List.getElem?_eq_getElem hj] at hu;simp at hu;rw[List.getD_eq_getElem?_getD,List.getElem?_eq_getElem hj, ← hu];rfl
 ·rw[List.getElem?_eq_none (by omega)] at hu
  cases hu
def ptV(f b i:Int):Value:=agg #[int i64 f,int i64 b,int i64 i]
abbrev zn2 (n:Int):Prop:=b64 n
def zD(x:In8)(ar:Value):Value:=agg #[int i64 x.op,int i64 x.dst,int i64 x.a,int i64 x.b,int i64 x.n,ar]
structure InW (w:World) (q:Nat) (x:In8) (ar:Value):Prop where
 c0:w.cell? ⟨q,0,none⟩=some (int i64 x.op)
 c1:w.cell? ⟨q,1,none⟩=some (int i64 x.dst)
 c2:w.cell? ⟨q,2,none⟩=some (int i64 x.a)
 c3:w.cell? ⟨q,3,none⟩=some (int i64 x.b)
 c4:w.cell? ⟨q,4,none⟩=some (int i64 x.n)
 c5:w.cell? ⟨q,5,none⟩=some ar
structure zpI (x:In8):Prop where
 op:zn2 x.op
 dst:zn2 x.dst
 a:zn2 x.a
 b:zn2 x.b
 n:zn2 x.n
 args:∀ z,z∈x.args→zn2 z
theorem eqb{a b:Int}(h:a=b):(a == b)=true:=by simpa using h
theorem neb{a b:Int}(h:a≠b):(a == b)=false:=by simpa using h
theorem InC.open{x:In8}(h:InC w b o x):zpI x∧∃ ar cp,w.cell? ⟨b,o+5,none⟩=some (.slice ar x.args.length cp)∧zw w ar x.args∧x.args.length≤cp:=by
 obtain ⟨ar,cp,h1,h2,h3,_⟩:=h.c5;refine ⟨⟨h.c0.2,h.c1.2,h.c2.2,h.c3.2,h.c4.2,fun z hz=> ?_⟩,ar,cp,h1,Zw h2,h3⟩;obtain ⟨i,hi,e⟩:=List.getElem_of_mem hz;obtain ⟨_,_,_,h9⟩:=h2.at (j:=i) (y:=z) (by rw[List.getElem?_eq_getElem hi,e]);exact h9.2
theorem zm0{x:Bl8}(h:i<x.code.length):x.code[i]? = some (qQ x i):=by
 unfold qQ;rw[List.getD_eq_getElem?_getD,List.getElem?_eq_getElem h];rfl
section
open Go.Shelf
def ziw:In8:=⟨0,0,0,0,0,[]⟩
def zlM:Value:=.tuple #[zD ziw (.slice none 0 0),.bool false]
theorem zpR{x0 x1 x2 x3 x4 x5:Value}(h:w.heap[b]? = some (.cells #[x0,x1,x2,x3,x4,x5] T (0,0)))(u0 u1 u2 u3 u4 u5:Value):
  ((((((w.setCell ⟨b,0,none⟩ u0).setCell ⟨b,1,none⟩ u1).setCell ⟨b,2,none⟩ u2).setCell ⟨b,3,none⟩ u3).setCell ⟨b,4,none⟩ u4).setCell ⟨b,5,none⟩ u5).heap[b]? = some (.cells #[u0,u1,u2,u3,u4,u5] T (0,0)):=
 heap_setCell_same _ b 5 _ _ u5 (heap_setCell_same _ b 4 _ _ u4 (heap_setCell_same _ b 3 _ _ u3 (heap_setCell_same _ b 2 _ _ u2 (heap_setCell_same _ b 1 _ _ u1 (heap_setCell_same w b 0 _ _ u0 h)))))
theorem zlu(w:World)(b:Nat)(u0 u1 u2 u3 u4 u5:Value):zc [b] w ((((((w.setCell ⟨b,0,none⟩ u0).setCell ⟨b,1,none⟩ u1).setCell ⟨b,2,none⟩ u2).setCell ⟨b,3,none⟩ u3).setCell ⟨b,4,none⟩ u4).setCell ⟨b,5,none⟩ u5):=
 (((((zc.setCell [b] _ _ _ (List.mem_singleton.2 rfl)).step (zc.setCell [b] _ _ _ (List.mem_singleton.2 rfl))).step (zc.setCell [b] _ _ _ (List.mem_singleton.2 rfl))).step (zc.setCell [b] _ _ _ (List.mem_singleton.2 rfl))).step (zc.setCell [b] _ _ _ (List.mem_singleton.2 rfl))).step (zc.setCell [b] _ _ _ (List.mem_singleton.2 rfl))
def atV(x:In8)(ar:Value):Value:=.tuple #[zD x ar,.bool true]
end
section
variable {P:Program}{ops:Array Oper}{Q:Exit→Act→World→Prop}
def zu:List Oper→List Value→Act→Act
 | o :: os,v :: vs,a=>zu os vs (a.put o.dst v)
 | _,_,a=>a
theorem QT(a:Act)(d:Option Tmp)(v:Value):(a.put d v).tmps.size=a.tmps.size:=by cases d <;> simp[Act.put]
theorem Qd(a:Act)(d:Option Tmp)(v:Value):(a.put d v).defers=a.defers:=by cases d <;> rfl
theorem jE{a:Act}{d:Option Tmp}{v:Value}{s:Nat}(h:d≠some s):(a.put d v).tmps[s]? = a.tmps[s]? := by
 cases d with
 | none=>rfl
 | some d=>
  have hne:d≠s:=fun e=>h (e ▸ rfl);simp[Act.put,Array.getElem?_setIfInBounds_ne hne]
theorem zdz{a:Act}{s:Nat}{v:Value}(h:s<a.tmps.size):(a.put (some s) v).tmps[s]? = some v:=by
 simp[Act.put,Array.getElem?_setIfInBounds_self_of_lt h]
theorem zeu:∀ (os:List Oper) (vs:List Value) (a:Act),(zu os vs a).tmps.size=a.tmps.size
 | [],_,_=>rfl
 | _ :: _,[],_=>rfl
 | o :: os,v :: vs,a=>by
  show (zu os vs (a.put o.dst v)).tmps.size=_;rw[zeu os vs,QT]
theorem jL:∀ (os:List Oper) (vs:List Value) (a:Act),(zu os vs a).defers=a.defers
 | [],_,_=>rfl
 | _ :: _,[],_=>rfl
 | o :: os,v :: vs,a=>by
  show (zu os vs (a.put o.dst v)).defers=_;rw[jL os vs,Qd]
theorem jA{s:Nat}:∀ (os:List Oper) (vs:List Value) (a:Act),(∀ (k:Nat) (o:Oper),os[k]? = some o→o.dst≠some s)→(zu os vs a).tmps[s]? = a.tmps[s]?
 | [],_,_,_=>rfl
 | _ :: _,[],_,_=>rfl
 | o :: os,v :: vs,a,h=>by
  show (zu os vs (a.put o.dst v)).tmps[s]? = _;rw[jA os vs _ (fun k x hx=>h (k+1) x (by simpa using hx)),jE (h 0 o rfl)]
theorem QA{s:Nat}{v0:Value}{o0:Oper}:∀ (os:List Oper) (vs:List Value) (a:Act) (k:Nat),os[k]? = some o0→vs[k]? = some v0→o0.dst=some s→s<a.tmps.size→(∀ (j:Nat) (o:Oper),j≠k→os[j]? = some o→o.dst≠some s)→(zu os vs a).tmps[s]? = some v0
 | [],_,_,k,h,_,_,_,_=>by simp at h
 | _ :: _,[],_,k,_,h,_,_,_=>by simp at h
 | o :: os,v :: vs,a,0,ho,hv,hd,hs,hn=>by
  simp at ho hv;subst ho hv;show (zu os vs (a.put o.dst v)).tmps[s]? = _;rw[jA os vs _ (fun k x hx=>hn (k+1) x (by omega) (by simpa using hx)),hd];exact zdz hs
 | o :: os,v :: vs,a,k+1,ho,hv,hd,hs,hn=>by
  show (zu os vs (a.put o.dst v)).tmps[s]? = _;exact QA os vs _ k (by simpa using ho) (by simpa using hv) hd (by rw[QT];exact hs) (fun j x hj hx=>hn (j+1) x (by omega) (by simpa using hx))
def jb(ops:Array Oper)(n i j:Nat):Bool:=
 match ops[i]?,ops[j]? with
 | some oi,some oj=>(i == j || oi.dst.isNone || oi.dst != oj.dst) && (match oj.dst with
  | some d=>decide (d<n) && (!(oi.looksAt ops).contains d || oi.after.any fun e=>Region.binds .any e && e.on == j)
  | none=>true)
 | _,_=>false
def zdB(ops:Array Oper)(n:Nat):Bool:=
 Region.noSelect ops && ((List.range ops.size).all (fun i=>(List.range ops.size).all fun j=>jb ops n i j) &&
  (List.range ops.size).all (fun i=>(ops[i]?).isSome && ((ops[i]?).map (fun o=>o.after.all fun e=> !Region.binds .any e || decide (e.on<i))).getD false))
def zn0 (P : Program) (ops : Array Oper) (A : Act) (W0 : World) (o : Oper) (v : Value) : Prop :=
  (Region.wanted o (yielded ops A.tmps) = true ∧ ∀ w, zc [] W0 w →
    ((∃ w', (execOp A.eval o).run P w = .ok (.value v) w' ∧ zc [] w w') ∨
     (∃ f args, (execOp A.eval o).run P w = .ok (.enter f args) w ∧ Calls P f args w fun e w' => e = .returned v ∧ zc [] w w'))) ∨
  (Region.wanted o (yielded ops A.tmps) = false ∧ v = undef)
theorem zca{A:Act}{W0:World}{o:Oper}{v:Value}(hw:Region.wanted o (yielded ops A.tmps)=true)(h:∀ w,zc [] W0 w→(execOp A.eval o).run P w=.ok (.value v) w):zn0 P ops A W0 o v:=
 .inl ⟨hw,fun w k=>.inl ⟨w,h w k,zc.refl _ _⟩⟩
theorem zhL{A:Act}{W0:World}{o:Oper}(hw:Region.wanted o (yielded ops A.tmps)=false):zn0 P ops A W0 o undef:=.inr ⟨hw,rfl⟩
theorem zm{A:Act}{W0:World}{o:Oper}{v:Value}(hw:Region.wanted o (yielded ops A.tmps)=true)(f:Nat)(args:Array Value)(he:∀ w,(execOp A.eval o).run P w=.ok (.enter f args) w)
  (hc:∀ w,zc [] W0 w→Calls P f args w fun e w'=>e=.returned v∧zc [] w w'):zn0 P ops A W0 o v:=
 .inl ⟨hw,fun w k=>.inr ⟨f,args,he w,hc w k⟩⟩
def zj(P:Program)(ops:Array Oper)(A:Act)(W0:World):List Oper→List Value→Prop
 | o :: os,v :: vs=>zn0 P ops A W0 o v∧zj P ops A W0 os vs
 | [],[]=>True
 | _,_=>False
theorem zj.at{A:Act}{W0:World}:∀ {os:List Oper}{vs:List Value},zj P ops A W0 os vs→∀ {k:Nat}{o:Oper},os[k]? = some o→∃ v,vs[k]? = some v∧zn0 P ops A W0 o v
 | [],_,_,k,o,ho=>by simp at ho
 | _ :: _,[],h,_,_,_=>by cases h
 | o :: os,v :: vs,h,0,o',ho=>by
  simp at ho;subst ho;exact ⟨v,rfl,h.1⟩
 | o :: os,v :: vs,h,k+1,o',ho=>by
  obtain ⟨u,hu,hg⟩:=zj.at h.2 (k:=k) (by simpa using ho);exact ⟨u,by simpa using hu,hg⟩
structure zpO (ops:Array Oper) (W0:World) (a A:Act) (l:Array Bool) (a':Act) (w:World):Prop where
 size:l.size=ops.size
 kept:zc [] W0 w
 sz:a'.tmps.size=a.tmps.size
 df:a'.defers=a.defers
 on:∀ (i:Nat) (oi:Oper) (d:Nat),ops[i]? = some oi→oi.dst=some d→l.getD i false=true→a'.tmps[d]? = A.tmps[d]?
 off:∀ d:Nat,(∀ (i:Nat) (oi:Oper),ops[i]? = some oi→oi.dst=some d→l.getD i false=false)→a'.tmps[d]? = a.tmps[d]?
theorem zX{l:Array Bool}{i j:Nat}(h:i≠j):(l.setIfInBounds i true).getD j false=l.getD j false:=getD_set_ne false h
theorem q8{l:Array Bool}{i:Nat}(h:i<l.size):(l.setIfInBounds i true).getD i false=true:=by
 rw[Array.getD_eq_getD_getElem?,Array.getElem?_setIfInBounds_self_of_lt h];rfl
theorem zk{id:Nat}{a:Act}{w W0:World}(n:Nat)(vs:List Value)(hm:P.follows .mixedOrders=true)(hn:a.tmps.size=n)(hok:zdB ops n=true)(hk:zc [] W0 w)
  (h:∀ A,zu ops.toList vs a=A→zj P ops A W0 ops.toList vs∧∀ w',zc [] W0 w'→Q .normal A w'):(Code.region id ops true).wp P Q a w:=by
 obtain ⟨A,hA⟩:∃ A,zu ops.toList vs a=A:=⟨_,rfl⟩;obtain ⟨hg,hQ⟩:=h A hA;unfold zdB at hok;rw[Bool.and_eq_true,Bool.and_eq_true] at hok;obtain ⟨hsel,hp,hall⟩:=hok;have pair:∀ (i j:Nat) (oi oj:Oper),ops[i]? = some oi→ops[j]? = some oj→jb ops n i j=true:=fun i j oi oj hi hj=>by
  have h1:=List.all_eq_true.1 hp i (List.mem_range.2 (Array.getElem?_eq_some_iff.1 hi).1);exact List.all_eq_true.1 h1 j (List.mem_range.2 (Array.getElem?_eq_some_iff.1 hj).1)
 have dist:∀ (i j:Nat) (oi oj:Oper) (d:Nat),ops[i]? = some oi→ops[j]? = some oj→i≠j→oi.dst=some d→oj.dst≠some d:=fun i j oi oj d hi hj hij hd he=>by
  have:=pair i j oi oj hi hj;unfold jb at this;rw[hi,hj] at this;simp[hij,hd,he] at this
 have lt:∀ (i:Nat) (oi:Oper) (d:Nat),ops[i]? = some oi→oi.dst=some d→d<n:=fun i oi d hi hd=>by
  have:=pair i i oi oi hi hi;unfold jb at this;rw[hi] at this;simp only[hd,Bool.and_eq_true,decide_eq_true_eq] at this;exact this.2.1
 have waits:∀ (i j:Nat) (oi oj:Oper) (d:Nat),ops[i]? = some oi→ops[j]? = some oj→oj.dst=some d→d∈oi.looksAt ops→oi.after.any (fun e=>Region.binds .any e && e.on == j)=true:=fun i j oi oj d hi hj hd hm=>by
  have:=pair i j oi oj hi hj;unfold jb at this;rw[hi,hj] at this;simp only[hd,Bool.and_eq_true,Bool.or_eq_true,Bool.not_eq_true',decide_eq_true_eq] at this;rcases this.2.2 with h0 | h0
  ·rw[List.contains_iff_mem.2 hm] at h0
   cases h0
  ·exact h0
 have aOther:∀ d:Nat,(∀ (i:Nat) (oi:Oper),ops[i]? = some oi→oi.dst≠some d)→A.tmps[d]? = a.tmps[d]? := fun d hd=>by
  rw[← hA];exact jA _ _ _ (fun k o ho=>hd k o (by rw[← Array.getElem?_toList];exact ho))
 have aAt:∀ (i:Nat) (oi:Oper) (d:Nat) (v:Value),ops[i]? = some oi→oi.dst=some d→vs[i]? = some v→A.tmps[d]? = some v:=fun i oi d v hi hd hv=>by
  rw[← hA];exact QA _ _ _ i (by rw[Array.getElem?_toList];exact hi) hv hd (by rw[hn];exact lt i oi d hi hd) (fun j oj hj ho=>dist i j oi oj d hi (by rw[← Array.getElem?_toList];exact ho) (Ne.symm hj) hd)
 refine wp_region_held_drew (S:=fun w'=>zc [] W0 w') hm (hk.quiet (zc.drew [] w)) (fun hS=> ?_);refine Zs (zpO ops W0 a A) (fun _ _ _ h=>h.kept) (fun l a' w' hI hr=> ?_) (fun l a' w' i hI hr=> ?_) _ _ _ _ ?_ ?_
 ·have hl:=Qb (md:=.any) (ops:=ops) hI.size hr hall
  have e:a'=A:=by
   have ht:a'.tmps=A.tmps:=by
    apply Array.ext_getElem?;intro d;by_cases hx:∃ (i:Nat) (oi:Oper),ops[i]? = some oi∧oi.dst=some d
    ·obtain ⟨i,oi,hi,hd⟩:=hx
     exact hI.on i oi d hi hd (hl i (Array.getElem?_eq_some_iff.1 hi).1)
    ·have hno:∀ (i:Nat) (oi:Oper),ops[i]? = some oi→oi.dst≠some d:=fun i oi hi hd=>hx ⟨i,oi,hi,hd⟩
     rw[hI.off d (fun i oi hi hd=>absurd hd (hno i oi hi)),aOther d hno]
   have hdf:a'.defers=A.defers:=by rw[hI.df, ← hA,jL]
   cases a';cases A;simp only at ht hdf;rw[ht,hdf]
  rw[e];exact hQ w' hI.kept
 ·obtain ⟨hun,oi,hi,hw8⟩:=mem_ready.1 hr
  have hil:i<l.size:=by rw[hI.size];exact (Array.getElem?_eq_some_iff.1 hi).1
  obtain ⟨v,hv,hgv⟩:=hg.at (k:=i) (by rw[Array.getElem?_toList];exact hi);have agree:∀ t,t∈oi.looksAt ops→a'.tmps[t]? = A.tmps[t]? := fun t ht=>by
   by_cases hx:∃ (j:Nat) (oj:Oper),ops[j]? = some oj∧oj.dst=some t
   ·obtain ⟨j,oj,hj,hd⟩:=hx
    have:=waits i j oi oj t hi hj hd ht;rw[Array.any_eq_true'] at this;obtain ⟨e,he,h1⟩:=this;rw[Bool.and_eq_true,beq_iff_eq] at h1;have h2:=hw8 e he h1.1;rw[h1.2] at h2;exact hI.on j oj t hj hd h2
   ·have hno:∀ (i:Nat) (oi:Oper),ops[i]? = some oi→oi.dst≠some t:=fun i oi hi hd=>hx ⟨i,oi,hi,hd⟩
    rw[hI.off t (fun i oi hi hd=>absurd hd (hno i oi hi)),aOther t hno]
  have hex:execOp a'.eval oi=execOp A.eval oi:=execOp_congr oi (fun cs b=>by
    exact Region.noSelect_spec hsel i oi cs b hi) (fun x hx=>by
   cases x with
   | tmp t=>
    have:=agree t (List.mem_append_left _ (List.mem_filterMap.2 ⟨.tmp t,by simpa using hx,rfl⟩));simp only[Act.eval,Array.getD_eq_getD_getElem?,this]
   | const v=>rfl
   | global g=>rfl
   | func f=>rfl)
  have hwt:Region.wanted oi (yielded ops a'.tmps)=Region.wanted oi (yielded ops A.tmps):=by
   unfold Region.wanted;cases hgd:oi.guard with
   | none=>rfl
   | some gw=>
    obtain ⟨g,want⟩:=gw;have hy:yielded ops a'.tmps g=yielded ops A.tmps g:=by
     unfold yielded;cases ht:(ops[g]?).bind (·.dst) with
     | none=>rfl
     | some t=>
      have:=agree t (by simp[Oper.looksAt,hgd,ht]);simp[this]
    simp only[hy]
  have next:∀ w2,zc [] w' w2→zpO ops W0 a A (l.setIfInBounds i true) (a'.put oi.dst v) w2:=fun w2 k2=>by
   refine ⟨by simpa using hI.size,hI.kept.quiet k2,by rw[QT,hI.sz],by rw[Qd,hI.df],fun j oj d hj hd hl=> ?_,fun d hd=> ?_⟩
   ·by_cases hij:i=j
    ·subst hij
     rw[hi] at hj;cases hj;rw[hd,zdz (by rw[hI.sz,hn];exact lt i oi d hi hd),aAt i oi d v hi hd hv]
    ·rw[jE (dist j i oj oi d hj hi (Ne.symm hij) hd)]
     rw[zX hij] at hl;exact hI.on j oj d hj hd hl
   ·have h1:oi.dst≠some d:=fun e=>by
     have:=hd i oi hi e;rw[q8 hil] at this;cases this
    rw[jE h1];refine hI.off d (fun j oj hj hdj=> ?_);have:=hd j oj hj hdj;by_cases hij:i=j
    ·subst hij
     rw[hi] at hj;cases hj;exact absurd hdj h1
    ·rw[zX hij] at this
     exact this
  refine wpOp_step hi (fun K' hK=> ?_);rw[hwt];rcases hgv with ⟨hw1,hr1⟩ | ⟨hw1,rfl⟩
  ·rw[if_pos hw1]
   unfold Oper.wp;rw[hex];rcases hr1 w' hI.kept with ⟨w2,he,k2⟩ | ⟨f,args,he,hc⟩
   ·rw[he]
    exact hK _ _ (next w2 k2)
   ·rw[he]
    simp only[Oper.upon];refine Calls.mono hc (fun e w2=> ?_);rintro ⟨rfl,k2⟩;exact hK _ _ (next w2 k2)
  ·rw[if_neg (by rw[hw1];simp)]
   exact hK _ _ (next w' (zc.refl _ _))
 ·refine ⟨by simp,hS,rfl,rfl,fun i oi d hi hd hl=> ?_,fun d hd=>rfl⟩
  exfalso;rw[Array.getD_eq_getD_getElem?] at hl;by_cases hlt:i<ops.size
  ·rw[Array.getElem?_replicate,if_pos hlt] at hl
   cases hl
  ·rw[Array.getElem?_replicate,if_neg hlt] at hl
   cases hl
 ·unfold left
  exact Nat.le_trans List.countP_le_length (by simp)
end
def zek(_:World)(v:Value)(n:Int):Prop:=v=int i64 n∧b64 n
def TyV(_:World)(v:Value)(t:Int × Int):Prop:=v=agg #[int i64 t.1,int i64 t.2]∧b64 t.1∧b64 t.2
def SlV{α:Type}(c:Nat)(R:World→Nat→Nat→α→Prop)(w:World)(v:Value)(l:List α):Prop:=
 ∃ a cp,v=.slice a l.length cp∧zy w c R a l∧l.length≤cp∧l.length≤maxLen
def za8:World→Value→List Int→Prop:=SlV 1 qF
def zb9:World→Value→List (Int × Int)→Prop:=SlV 2 TyC
def SgV(w:World)(v:Value)(x:List (Int × Int) × Int × Int):Prop:=
 ∃ a cp,v=agg #[.slice a x.1.length cp,int i64 x.2.1,int i64 x.2.2]∧zb9 w (.slice a x.1.length cp) x.1∧b64 x.2.1∧b64 x.2.2
def IfV(w:World)(v:Value)(x:List Int):Prop:=∃ a cp,v=agg #[.slice a x.length cp]∧za8 w (.slice a x.length cp) x
def ImV(w:World)(v:Value)(x:Int × Int × List Int):Prop:=
 ∃ a cp,v=agg #[int i64 x.1,int i64 x.2.1,.slice a x.2.2.length cp]∧b64 x.1∧b64 x.2.1∧za8 w (.slice a x.2.2.length cp) x.2.2
def InV(w:World)(v:Value)(x:In8):Prop:=
 ∃ a cp,v=agg #[int i64 x.op,int i64 x.dst,int i64 x.a,int i64 x.b,int i64 x.n,.slice a x.args.length cp]∧b64 x.op∧b64 x.dst∧b64 x.a∧b64 x.b∧b64 x.n∧za8 w (.slice a x.args.length cp) x.args
def zn1:World→Value→List In8→Prop:=SlV 6 InC
def BlV(w:World)(v:Value)(x:Bl8):Prop:=
 ∃ a cp,v=agg #[.slice a x.code.length cp,int i64 x.fin,int i64 x.reg,int i64 x.to,int i64 x.els]∧zn1 w (.slice a x.code.length cp) x.code∧b64 x.fin∧b64 x.reg∧b64 x.to∧b64 x.els
def zny:World→Value→List Bl8→Prop:=SlV 5 BlC
def FuV(w:World)(v:Value)(x:Fu8):Prop:=
 ∃ a cp a' cp',v=agg #[int i64 x.sig,.slice a x.regs.length cp,.slice a' x.blocks.length cp']∧b64 x.sig∧zb9 w (.slice a x.regs.length cp) x.regs∧zny w (.slice a' x.blocks.length cp') x.blocks
theorem SlC.val{α:Type}{R:World→Nat→Nat→α→Prop}{l:List α}(h:SlC c R w b o l):∃ a cp,w.cell? ⟨b,o,none⟩=some (.slice a l.length cp)∧SlV c R w (.slice a l.length cp) l:=by
 obtain ⟨a,cp,h1,h2⟩:=h;exact ⟨a,cp,h1,a,cp,rfl,h2⟩
theorem SlV.slice{α:Type}{R:World→Nat→Nat→α→Prop}{a:Option Addr}{cp:Nat}{l:List α}(h:SlV c R w (.slice a n cp) l):n=l.length∧zy w c R a l∧l.length≤cp∧l.length≤maxLen:=by
 obtain ⟨a',cp',e,h1,h2⟩:=h;simp only[Value.slice.injEq] at e;obtain ⟨rfl,rfl,rfl⟩:=e;exact ⟨rfl,h1,h2⟩
structure Sm8 (P:Pr8):Prop where
 fn:P.funcs.length≤12
 bk:∀ f,f<P.funcs.length→(zg P f).blocks.length≤14
 pt:(pts P).length≤150
theorem Sm8.cntF(h:Sm8 P)(hf:f<P.funcs.length)(hb:b≤(zg P f).blocks.length):zgK P f+Go.Proofs.YtkgoimokgbdgfaaGreatDoor.zfF (zg P f) b≤150:=by
 have h1:=h.pt;rw[zev] at h1;have h2:=zhM P (show f+1≤P.funcs.length by omega);rw[JH] at h2;have h3:=zh6 (zg P f) hb;omega
theorem Sm8.code(h:Sm8 P)(hf:f<P.funcs.length)(hb:b<(zg P f).blocks.length):(zr (zg P f) b).code.length≤149:=by
 have:=h.cntF hf (show b+1≤_ by omega);rw[Qa] at this;omega
theorem zlP(x k idx:Nat)(w:World)(hx0:((x:Int) == 0)=false)
  (key:IntKind.u64.wrap (bits BinOp.and IntKind.u64 (x:Int) (IntKind.u64.wrap (-(x:Int))) * 285870213051353865) / 288230376151711744=(idx:Int))
  (hi:idx<64) (hk:k<64) (hcell:w.cell? ⟨1,idx,none⟩=some (.int .u8 k)):
  Calls Tryz.prog 154 #[.int .u64 x] w fun e w'=>e=.returned (int i64 k)∧w'=w:=by
 go_enter Tryz.func154,Tryz.ntmps154;go_wp2_with (simp only[key]);go_ret;exact ⟨rfl,rfl⟩
theorem znY(x a:Nat)(hx:x<18446744073709551616)(hx0:x≠0)(hlow:x &&& (18446744073709551616 - x)=a):
  IntKind.u64.wrap (bits BinOp.and IntKind.u64 (x:Int) (IntKind.u64.wrap (-(x:Int))) * 285870213051353865) / 288230376151711744=((a * 285870213051353865 % 18446744073709551616 / 288230376151711744:Nat):Int):=by
 have e1:IntKind.u64.wrap (-(x:Int))=((18446744073709551616 - x:Nat):Int):=by rw[IntKind.wrap_u64];omega
 rw[e1,u64_and_nat x _ hx (by omega),hlow,IntKind.wrap_u64];omega
theorem zoH(x:Nat)(w:World)(hx:x<18446744073709551616)(hx0:x≠0)(hT:jS w):
  Calls Tryz.prog 154 #[.int .u64 (x:Int)] w fun e w'=>e=.returned (int i64 (Go.Lib.ctz 64 x:Nat))∧w'=w:=by
 obtain ⟨hlow,hk⟩:=Go.Lib.lowest_bit 64 x hx0 hx;obtain ⟨hi,htab⟩:=Go.Lib.deBruijn64_at _ hk;have hc:=hT _ hi;rw[htab] at hc;exact zlP x _ _ w (by simp;omega) (znY x _ hx hx0 hlow) hi hk hc
end Go.Proofs.YtkgoimokgbdgfaaGreatDoor
