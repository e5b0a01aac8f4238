import Derived.OwnWalk
import Derived.Deep.QuietTactic
import Derived.BigQuiet
import Derived.Maps.AppendAt
import Derived.Lib.Builder
import Derived.Deep.OwnRows
import Derived.Deep.DeepCutAuto
import Derived.Deep.AppendLies
import Derived.Test.YtgmbkiagdhjpnaaGreatDoorU01

namespace Go.Proofs.YtgmbkiagdhjpnaaGreatDoor
open Go.Value (int pointer agg)
open Go.IntKind (i64)
variable {T:TypeId}{b base f k m n p:Nat}{w:World}
def zf(p:Pr8)(f:Nat):Fu8:=p.funcs.getD f ⟨0,[],[]⟩
def zA(x:Fu8)(b:Nat):Bl8:=x.blocks.getD b ⟨[],0,0,0,0⟩
def jI(x:Bl8)(i:Nat):In8:=x.code.getD i ⟨0,0,0,0,0,[]⟩
def ptB(f b n:Nat):List (Nat × Nat × Nat):=(List.range n).map fun i=>(f,b,i)
def ptF(x:Fu8)(f m:Nat):List (Nat × Nat × Nat):=(List.range m).flatMap fun b=>ptB f b ((zA x b).code.length+1)
def ptP(p:Pr8)(k:Nat):List (Nat × Nat × Nat):=(List.range k).flatMap fun f=>ptF (zf p f) f (zf p f).blocks.length
def pts(p:Pr8):List (Nat × Nat × Nat):=ptP p p.funcs.length
theorem zbG(f b:Nat):ptB f b 0=[]:=rfl
theorem ZI(f b n:Nat):ptB f b (n+1)=ptB f b n ++ [(f,b,n)]:=by
 unfold ptB;rw[List.range_succ,List.map_append];rfl
theorem zgW(x:Fu8)(f:Nat):ptF x f 0=[]:=rfl
theorem qF(x:Fu8)(f m:Nat):ptF x f (m+1)=ptF x f m ++ ptB f m ((zA x m).code.length+1):=by
 unfold ptF;rw[List.range_succ,List.flatMap_append,List.flatMap_singleton]
theorem j5(p:Pr8)(k:Nat):ptP p (k+1)=ptP p k ++ ptF (zf p k) k (zf p k).blocks.length:=by
 unfold ptP;rw[List.range_succ,List.flatMap_append,List.flatMap_singleton]
theorem QT(f b n:Nat):(ptB f b n).length=n:=by unfold ptB;rw[List.length_map,List.length_range]
theorem zfA{q:Nat × Nat × Nat}:q∈ptB f b n ↔ ∃ i,i<n∧q=(f,b,i):=by
 unfold ptB;rw[List.mem_map];constructor
 ·rintro ⟨i,h1,h2⟩
  exact ⟨i,List.mem_range.1 h1,h2.symm⟩
 ·rintro ⟨i,h1,h2⟩
  exact ⟨i,List.mem_range.2 h1,h2.symm⟩
theorem zfF{x:Fu8}{q:Nat × Nat × Nat}:q∈ptF x f m ↔ ∃ b i,b<m∧i≤(zA x b).code.length∧q=(f,b,i):=by
 unfold ptF;rw[List.mem_flatMap];constructor
 ·rintro ⟨b,h1,h2⟩
  obtain ⟨i,h3,h4⟩:=zfA.1 h2;exact ⟨b,i,List.mem_range.1 h1,by omega,h4⟩
 ·rintro ⟨b,i,h1,h2,h3⟩
  exact ⟨b,List.mem_range.2 h1,zfA.2 ⟨i,by omega,h3⟩⟩
def ZM(p:Pr8)(f b i:Nat):Prop:=f<p.funcs.length∧b<(zf p f).blocks.length∧i≤(zA (zf p f) b).code.length
theorem J7{p:Pr8}{i:Nat}:((f,b,i):Nat × Nat × Nat)∈pts p ↔ ZM p f b i:=by
 unfold pts ptP ZM;rw[List.mem_flatMap];constructor
 ·rintro ⟨f',h1,h2⟩
  obtain ⟨b',i',h3,h4,h5⟩:=zfF.1 h2;have e1:f=f':=congrArg Prod.fst h5;have e2:b=b':=congrArg (fun q:Nat × Nat × Nat=>q.2.1) h5;have e3:i=i':=congrArg (fun q:Nat × Nat × Nat=>q.2.2) h5;subst e1 e2 e3;exact ⟨List.mem_range.1 h1,h3,h4⟩
 ·rintro ⟨h1,h2,h3⟩
  exact ⟨f,List.mem_range.2 h1,zfF.2 ⟨b,i,h2,h3,rfl⟩⟩
theorem ZC(x:Fu8)(f:Nat):∀ {b m:Nat},b<m→∃ r,ptF x f m=ptF x f b ++ (ptB f b ((zA x b).code.length+1) ++ r)
 | b,0,h=>absurd h (Nat.not_lt_zero _)
 | b,m+1,h=>by
  by_cases e:b=m
  ·subst e
   exact ⟨[],by rw[qF,List.append_nil]⟩
  ·obtain ⟨r,hr⟩:=ZC x f (b:=b) (m:=m) (by omega)
   exact ⟨r ++ ptB f m ((zA x m).code.length+1),by rw[qF,hr];simp[List.append_assoc]⟩
theorem zch{p:Pr8}(h:n<(pts p).length):∃ f b i,ZM p f b i∧(pts p)[n]? = some (f,b,i):=by
 have hm:(pts p)[n]∈pts p:=List.getElem_mem h;obtain ⟨f,b,i,e⟩:∃ f b i,(pts p)[n]=(f,b,i):=⟨(pts p)[n].1,(pts p)[n].2.1,(pts p)[n].2.2,rfl⟩;rw[e] at hm;exact ⟨f,b,i,J7.1 hm,by rw[List.getElem?_eq_getElem h,e]⟩
section
open Go.RowKit
def SlV{α:Type}(c:Nat)(R:World→Nat→Nat→α→Prop)(w:World)(v:Value)(l:List α):Prop:=
 ∃ a cp,v=.slice a l.length cp∧zq w c R a l∧l.length≤cp∧l.length≤maxLen
def jO:World→Value→List Int→Prop:=SlV 1 zI
def QO:World→Value→List (Int × Int)→Prop:=SlV 2 TyC
def SgV(w:World)(v:Value)(x:List (Int × Int) × Int × Int):Prop:=
 ∃ a cp,v=agg #[.slice a x.1.length cp,int i64 x.2.1,int i64 x.2.2]∧QO w (.slice a x.1.length cp) x.1∧b64 x.2.1∧b64 x.2.2
def IfV(w:World)(v:Value)(x:List Int):Prop:=∃ a cp,v=agg #[.slice a x.length cp]∧jO w (.slice a x.length cp) x
def ImV(w:World)(v:Value)(x:Int × Int × List Int):Prop:=
 ∃ a cp,v=agg #[int i64 x.1,int i64 x.2.1,.slice a x.2.2.length cp]∧b64 x.1∧b64 x.2.1∧jO w (.slice a x.2.2.length cp) x.2.2
def InV(w:World)(v:Value)(x:In8):Prop:=
 ∃ a cp,v=agg #[int i64 x.op,int i64 x.dst,int i64 x.a,int i64 x.b,int i64 x.n,.slice a x.args.length cp]∧b64 x.op∧b64 x.dst∧b64 x.a∧b64 x.b∧b64 x.n∧jO w (.slice a x.args.length cp) x.args
def zjF:World→Value→List In8→Prop:=SlV 6 InC
def BlV(w:World)(v:Value)(x:Bl8):Prop:=
 ∃ a cp,v=agg #[.slice a x.code.length cp,int i64 x.fin,int i64 x.reg,int i64 x.to,int i64 x.els]∧zjF w (.slice a x.code.length cp) x.code∧b64 x.fin∧b64 x.reg∧b64 x.to∧b64 x.els
def zia:World→Value→List Bl8→Prop:=SlV 5 BlC
def FuV(w:World)(v:Value)(x:Fu8):Prop:=
 ∃ a cp a' cp',v=agg #[int i64 x.sig,.slice a x.regs.length cp,.slice a' x.blocks.length cp']∧b64 x.sig∧QO w (.slice a x.regs.length cp) x.regs∧zia w (.slice a' x.blocks.length cp') x.blocks
theorem SlC.val{α:Type}{c:Nat}{R:World→Nat→Nat→α→Prop}{o:Nat}{l:List α}(h:SlC c R w b o l):∃ a cp,w.cell? ⟨b,o,none⟩=some (.slice a l.length cp)∧SlV c R w (.slice a l.length cp) l:=by
 obtain ⟨a,cp,h1,h2⟩:=h;exact ⟨a,cp,h1,a,cp,rfl,h2⟩
theorem SlV.slice{α:Type}{c:Nat}{R:World→Nat→Nat→α→Prop}{a:Option Addr}{cp:Nat}{l:List α}(h:SlV c R w (.slice a n cp) l):n=l.length∧zq w c R a l∧l.length≤cp∧l.length≤maxLen:=by
 obtain ⟨a',cp',e,h1,h2⟩:=h;simp only[Value.slice.injEq] at e;obtain ⟨rfl,rfl,rfl⟩:=e;exact ⟨rfl,h1,h2⟩
end
section
open Go.RowKit
theorem zh{w':World}{F:List Nat}{e:TypeId}{size:Nat}{v:Value}{xs:List Value}(h:w.ownsRow base e size v n xs)(k:za F w w')(hF:∀ b,v.ownBlock=some b→b ∉ F):w'.ownsRow base e size v n xs:=by
 refine ⟨h.1,?_⟩;rcases h.2 with hn | ⟨g,cap,cur,rfl,hb,hg,rest⟩
 ·exact .inl hn
 ·refine .inr ⟨g,cap,cur,rfl,hb,?_,rest⟩
  rw[k.block g (Array.getElem?_eq_some_iff.1 hg).1 (hF g rfl)];exact hg
structure qu (w:World) (base p n:Nat) (T:TypeId) (c:Nat→Value):Prop where
 row:w.ownsRow base T 1 (.slice (some ⟨p,0,none⟩) n n) n ((List.range n).map c)
theorem qu.cell{c:Nat→Value}(h:qu w base p n T c)(hk:k<n):w.cell? ⟨p,k,none⟩=some (c k):=by
 rw[h.row.cellAt k (by omega),List.getElem?_map,List.getElem?_range hk];rfl
theorem qu.frozen{c:Nat→Value}(h:qu w base p n T c)(k:Nat):w.frozen? ⟨p,k,none⟩=false:=h.row.frozenAt k
theorem qu.lt{c:Nat→Value}(h:qu w base p n T c):base≤p∧p<w.heap.size:=h.row.lt p rfl
theorem qu.heap{c:Nat→Value}(h:qu w base p n T c):∃ cur,w.heap[p]? = some (.cells cur T (0,0)):=by
 rcases h.row.2 with ⟨h',_⟩ | ⟨g',cap',cur,h',_,hg,_⟩
 ·simp at h'
 ·simp only[Value.slice.injEq,Option.some.injEq,Addr.mk.injEq,and_true,true_and] at h'
  obtain ⟨rfl,rfl⟩:=h';exact ⟨cur,hg⟩
theorem qu.kept{w':World}{c:Nat→Value}{L:List Nat}(h:qu w base p n T c)(k:za L w w')(hp:p ∉ L):qu w' base p n T c:=
 ⟨zh h.row k (fun b hb=>by simp[Value.ownBlock] at hb;subst hb;exact hp)⟩
theorem qu.put{c:Nat→Value}(h:qu w base p n T c)(k:Nat)(v:Value):qu (w.setCell ⟨p,k,none⟩ v) base p n T (fun i=>if i=k then v else c i):=by
 refine ⟨?_⟩;have h1:=(h.row.stored k v).1;have e:((List.range n).map c).set k v=(List.range n).map (fun i=>if i=k then v else c i):=by
  apply List.ext_getElem?;intro i;rw[List.getElem?_set,List.getElem?_map,List.getElem?_map,List.length_map,List.length_range];by_cases hi:i<n
  ·rw[List.getElem?_range hi]
   by_cases e:k=i
   ·subst e;simp[hi]
   ·have:¬ i=k:=fun h=>e h.symm
    simp[e,this]
  ·rw[List.getElem?_eq_none (by simp;omega)]
   by_cases e:k=i
   ·subst e;simp[hi]
   ·simp[e]
 rw[e] at h1;exact h1
theorem qu.congr{c d:Nat→Value}(h:qu w base p n T c)(e:∀ i,i<n→c i=d i):qu w base p n T d:=by
 refine ⟨?_⟩;have:(List.range n).map c=(List.range n).map d:=List.map_congr_left fun i hi=>e i (List.mem_range.1 hi);rw[← this];exact h.row
theorem zg3(z:Value)(n:Nat)(hz:z.cells=#[z]):(madeCells z.cells (n * 1)).toList=(List.range n).map fun _=>z:=by
 rw[hz,Nat.mul_one];apply List.ext_getElem?;intro i;rw[List.getElem?_map];by_cases hi:i<n
 ·rw[List.getElem?_range hi]
  simp[madeCells,hi,Nat.mod_one]
 ·rw[List.getElem?_eq_none (by rw[Array.length_toList,size_madeCells];omega),List.getElem?_eq_none (by rw[List.length_range];omega)]
  rfl
theorem qu.made{z:Value}(h:w.ownsRow base T 1 (.slice (some ⟨p,0,none⟩) n n) n (madeCells z.cells (n * 1)).toList)(hz:z.cells=#[z]):qu w base p n T (fun _=>z):=by
 rw[zg3 z n hz] at h;exact ⟨h⟩
theorem za.fresh{L:List Nat}{a b c:World}(h:za [] a b)(k:za L b c)(hL:∀ x,x∈L→a.heap.size≤x):za [] a c:=
 h.trans k fun x hx hl=>absurd (hL x hx) (by omega)
end
def inB(k:Int)(n:Nat):Bool:=decide (0≤k) && decide (k<(n:Int))
theorem zb9{k:Int}(h1:0≤k)(h2:k<(n:Int)):inB k n=true:=by unfold inB;simp[h1,h2]
theorem zct{k:Int}(h:¬ (0≤k∧k<(n:Int))):inB k n=false:=by
 unfold inB;by_cases h1:0≤k
 ·have h2:¬ k<(n:Int):=fun h2=>h ⟨h1,h2⟩
  simp[h2]
 ·simp[h1]
theorem zm{k:Int}:inB k n=true ↔ 0≤k∧k<(n:Int):=by unfold inB;simp
def qA{α:Type}(l:List α)(m:Nat)(g:α→Bool):Bool:=decide (l.length≤m) && l.all g
theorem qR{α:Type}{l:List α}{g:α→Bool}(h:m<l.length):qA l m g=false:=by
 unfold qA;have:¬ l.length≤m:=by omega
 simp[this]
theorem jx{α:Type}{l:List α}{g:α→Bool}{y:α}(hy:l[k]? = some y)(hg:g y=false):qA l m g=false:=by
 unfold qA;have h1:l.all g=false:=by
  rw[List.all_eq_false];exact ⟨y,List.mem_of_getElem? hy,by simp[hg]⟩
 rw[h1,Bool.and_false]
theorem qV{α:Type}{l:List α}{g:α→Bool}(h:l.length≤m)(hg:∀ (k:Nat) (y:α),l[k]? = some y→g y=true):qA l m g=true:=by
 unfold qA;have h1:l.all g=true:=by
  rw[List.all_eq_true];intro y hy;obtain ⟨k,hk⟩:=List.getElem?_of_mem hy;exact hg k y hk
 simp[h,h1]
theorem qI{α:Type}{l:List α}{g:α→Bool}(h:qA l m g=true):l.length≤m:=by
 unfold qA at h;simp at h;exact h.1
theorem j6{α:Type}{l:List α}{g:α→Bool}(h:qA l m g=true){y:α}(hy:l[k]? = some y):g y=true:=by
 unfold qA at h;rw[Bool.and_eq_true] at h;exact List.all_eq_true.1 h.2 y (List.mem_of_getElem? hy)
theorem qO{α:Type}{l:List α}{g:α→Bool}{y:α}(hy:l[k]? = some y)(hg:g y=false):l.all g=false:=by
 rw[List.all_eq_false];exact ⟨y,List.mem_of_getElem? hy,by simp[hg]⟩
theorem jg{α:Type}{l:List α}{g:α→Bool}(hg:∀ (k:Nat) (y:α),l[k]? = some y→g y=true):l.all g=true:=by
 rw[List.all_eq_true];intro y hy;obtain ⟨k,hk⟩:=List.getElem?_of_mem hy;exact hg k y hk
def zfU(i:In8):Bool:=decide (i.args.length≤4)
def zfT(b:Bl8):Bool:=qA b.code 30 zfU
def fnB(f:Fu8):Bool:=decide (f.regs.length≤16) && (decide (0<f.blocks.length) && qA f.blocks 12 zfT)
def zhO(r:List (Int × Int)):Bool:=decide (r.length≤4)
def zhV(s:List (Int × Int) × Int × Int):Bool:=decide (s.1.length≤4)
def ifB(f:List Int):Bool:=decide (f.length≤3)
def imB(m:Int × Int × List Int):Bool:=decide (m.2.2.length≤3)
def zio(P:Pr8):Bool:=decide (0<P.funcs.length) && (qA P.recs 6 zhO && (qA P.sigs 10 zhV && (qA P.ifs 4 ifB && (qA P.ims 12 imB && qA P.funcs 12 fnB))))
def zdP(P:Pr8)(q:Nat × Nat × Nat):Bool:=decide (q.2.2<(zA (zf P q.1) q.2.1).code.length) && decide ((jI (zA (zf P q.1) q.2.1) q.2.2).op=5)
def je(P:Pr8)(l:List (Nat × Nat × Nat)):Nat:=l.countP (zdP P)
theorem za8(P:Pr8)(l:List (Nat × Nat × Nat)):je P l≤l.length:=List.countP_le_length
theorem zb6(P:Pr8)(l:List (Nat × Nat × Nat))(q:Nat × Nat × Nat):je P (l ++ [q])=je P l+(if zdP P q then 1 else 0):=by
 unfold je;rw[List.countP_append,List.countP_singleton]
def Qi(P:Pr8):Bool:=zio P && (decide ((pts P).length≤600) && decide (je P (pts P)≤40))
def tyB(P:Pr8)(t:Int × Int):Bool:=
 if t.1=0 then decide (t.2=0) else if t.1=1 then inB t.2 P.recs.length else if t.1=2 then inB t.2 P.sigs.length else if t.1=3 then inB t.2 P.ifs.length else false
def zaZ(P:Pr8)(l:List (Int × Int)):Bool:=l.all (tyB P)
def zaj(l:List Int)(n:Nat):Bool:=l.all fun k=>inB k n
def zij(P:Pr8)(s:List (Int × Int) × Int × Int):Bool:=zaZ P s.1 && tyB P s.2
def zih(P:Pr8)(m:Int × Int × List Int):Bool:=inB m.1 P.recs.length && (inB m.2.1 P.ifs.length && zaj m.2.2 P.funcs.length)
def zE(P:Pr8):Bool:=P.recs.all (zaZ P) && (P.sigs.all (zij P) && (P.ifs.all (fun l=>zaj l P.sigs.length) && P.ims.all (zih P)))
end Go.Proofs.YtgmbkiagdhjpnaaGreatDoor
