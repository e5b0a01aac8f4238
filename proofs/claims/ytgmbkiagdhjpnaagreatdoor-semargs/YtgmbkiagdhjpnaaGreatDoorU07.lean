import Derived.Laws.OwnMore
import Derived.Deep.RegionLaw
import Derived.OneCell
import Derived.LaidEql
import Derived.Stop.Asserts
import Derived.RowKitTokens
import Derived.Defers
import Derived.Recover
import Derived.Test.YtgmbkiagdhjpnaaGreatDoorU05

namespace Go.Proofs.YtgmbkiagdhjpnaaGreatDoor
open Go.RowKit
open Go.Value (int pointer agg)
open Go.IntKind (i64)
set_option maxHeartbeats 8000000
set_option maxRecDepth 20000
variable {F L:List Nat}{P:Pr8}{T:TypeId}{b base f hp i j m n p pb po:Nat}{cs:Array Value}{sv v:Value}{w w':World}
structure zms (w:World) (pb po:Nat) (P:Pr8) (fa:Option Addr) (fcp:Nat):Prop where
 cell:w.cell? ⟨pb,po+4,none⟩=some (.slice fa P.funcs.length fcp)
 rows:zq w 3 FuC fa P.funcs
 cap:P.funcs.length≤fcp
 len:P.funcs.length≤maxLen
theorem PrC.fns(h:PrC w pb po P):∃ fa fcp,zms w pb po P fa fcp:=by
 obtain ⟨fa,fcp,h1,h2,h3,h4⟩:=h.c4;exact ⟨fa,fcp,h1,h2,h3,h4⟩
structure zhp (w:World) (fb fo:Nat) (P:Pr8) (f:Nat) (ba:Option Addr) (bcp:Nat):Prop where
 cell:w.cell? ⟨fb,fo+f * 3+2,none⟩=some (.slice ba (zf P f).blocks.length bcp)
 rows:zq w 5 BlC ba (zf P f).blocks
 cap:(zf P f).blocks.length≤bcp
 len:(zf P f).blocks.length≤maxLen
theorem zi{α:Type}{l:List α}{k:Nat}{d:α}(h:k<l.length):l[k]? = some (l.getD k d):=by
 rw[List.getD_eq_getElem?_getD,List.getElem?_eq_getElem h];rfl
theorem zms.at{fa:Option Addr}{fcp:Nat}(h:zms w pb po P fa fcp)(hf:f<P.funcs.length):∃ fb fo ba bcp,fa=some ⟨fb,fo,none⟩∧zhp w fb fo P f ba bcp:=by
 obtain ⟨fb,fo,h1,h2⟩:=h.rows.at (zi (d:=⟨0,[],[]⟩) hf);obtain ⟨ba,bcp,g1,g2,g3,g4⟩:=h2.c2;exact ⟨fb,fo,ba,bcp,h1,g1,g2,g3,g4⟩
theorem zhp.at{fb fo:Nat}{ba:Option Addr}{bcp:Nat}(h:zhp w fb fo P f ba bcp)(hb:b<(zf P f).blocks.length):∃ bb bo,ba=some ⟨bb,bo,none⟩∧BlC w bb (bo+b * 5) (zA (zf P f) b):=by
 have e:(zf P f).blocks[b]? = some (zA (zf P f) b):=zi hb;exact h.rows.at e
theorem Ql(bb o n cp:Nat)(a:Option Addr)(w:World)(h:w.cell? ⟨bb,o,none⟩=some (.slice a n cp))(hn:n≤1000):
  Calls Tryz.prog 88 #[pointer (some ⟨bb,o,none⟩)] w fun e w'=>e=.returned (int i64 ((n+1:Nat):Int))∧w'=w:=by
 have h1:(n:Int)≤1000:=by omega
 go_enter Tryz.func88,Tryz.ntmps88;go_wp2;go_ret;exact ⟨by go_num,rfl⟩
def QY(x:Fu8)(m:Nat):Nat:=(ptF x 0 m).length
theorem zb2(x:Fu8)(f m:Nat):(ptF x f m).length=QY x m:=by
 unfold QY
 induction m with
 | zero=>rfl
 | succ m ih=>rw[qF,qF,List.length_append,List.length_append,QT,QT,ih]
theorem jr(x:Fu8)(m:Nat):QY x (m+1)=QY x m+((zA x m).code.length+1):=by
 unfold QY;rw[qF,List.length_append,QT]
theorem za1(x:Fu8)(h:m≤n):QY x m≤QY x n:=by
 induction n with
 | zero=>rw[show m=0 by omega];exact Nat.le_refl _
 | succ n ih=>
  by_cases e:m=n+1
  ·rw[e];exact Nat.le_refl _
  ·have:=ih (by omega)
   rw[jr];omega
def zaV(P:Pr8)(k:Nat):Nat:=(ptP P k).length
theorem ZJ(P:Pr8)(k:Nat):zaV P (k+1)=zaV P k+QY (zf P k) (zf P k).blocks.length:=by
 unfold zaV;rw[j5,List.length_append,zb2]
theorem zal(P:Pr8)(h:m≤n):zaV P m≤zaV P n:=by
 induction n with
 | zero=>rw[show m=0 by omega];exact Nat.le_refl _
 | succ n ih=>
  by_cases e:m=n+1
  ·rw[e];exact Nat.le_refl _
  ·have:=ih (by omega)
   rw[ZJ];omega
theorem zbn(P:Pr8):(pts P).length=zaV P P.funcs.length:=rfl
theorem SlC.len{α:Type}{c:Nat}{R:World→Nat→Nat→α→Prop}{o:Nat}{l:List α}(h:SlC c R w b o l):∃ a cp,w.cell? ⟨b,o,none⟩=some (.slice a l.length cp):=by
 obtain ⟨a,cp,h1,_⟩:=h;exact ⟨a,cp,h1⟩
theorem zt{o:Obj}(h:w.heap[p]? = some o):p<w.heap.size:=by
 rw[Array.getElem?_eq_some_iff] at h;exact h.1
theorem ze(w:World)(o:Obj):(w.alloc o).heap[w.heap.size]? = some o:=heap_alloc_new w o
theorem zd{s:Nat}{o:Obj}(h:w.heap[s]? = some o)(k:za [] w w'):w'.heap[s]? = some o:=(k.block s (zt h) (by simp)).trans h
theorem zc(h:w.heap[b]? = some (.cells cs T (0,0)))(j:Nat):w.cell? ⟨b,j,none⟩=cs[j]? := Lib.cell_of_heap h j
theorem zg(h:w.heap[b]? = some (.cells cs T (0,0)))(j:Nat):w.frozen? ⟨b,j,none⟩=false:=Lib.frozen_of_heap h j
theorem Jt{x y z:Value}(h:w.heap[b]? = some (.cells #[x,y,z] T (0,0)))(u0 u1 u2:Value):
  (((w.setCell ⟨b,0,none⟩ u0).setCell ⟨b,1,none⟩ u1).setCell ⟨b,2,none⟩ u2).heap[b]? = some (.cells #[u0,u1,u2] T (0,0)):=
 heap_setCell_same _ b 2 _ _ u2 (heap_setCell_same _ b 1 _ _ u1 (heap_setCell_same w b 0 _ _ u0 h))
theorem jh(w:World)(b:Nat)(u0 u1 u2:Value):za [b] w (((w.setCell ⟨b,0,none⟩ u0).setCell ⟨b,1,none⟩ u1).setCell ⟨b,2,none⟩ u2):=
 ((za.setCell [b] _ _ _ (List.mem_singleton.2 rfl)).step (za.setCell [b] _ _ _ (List.mem_singleton.2 rfl))).step (za.setCell [b] _ _ _ (List.mem_singleton.2 rfl))
structure PtC (w:World) (b o:Nat) (q:Nat × Nat × Nat):Prop where
 c0:w.cell? ⟨b,o,none⟩=some (int i64 (q.1:Int))
 c1:w.cell? ⟨b,o+1,none⟩=some (int i64 (q.2.1:Int))
 c2:w.cell? ⟨b,o+2,none⟩=some (int i64 (q.2.2:Int))
theorem PtC.stays:ZA PtC:=fun _ _ _ _ _ k h=>⟨zb k h.c0,zb k h.c1,zb k h.c2⟩
def Qk(l:List (Nat × Nat × Nat)):List Value:=l.flatMap fun q=>[int i64 (q.1:Int),int i64 (q.2.1:Int),int i64 (q.2.2:Int)]
theorem zdA(l:List (Nat × Nat × Nat))(f b i:Nat):Qk (l ++ [(f,b,i)])=Qk l ++ [int i64 (f:Int),int i64 (b:Int),int i64 (i:Int)]:=by
 unfold Qk;rw[List.flatMap_append];rfl
theorem zgp(l:List (Nat × Nat × Nat)):(Qk l).length=l.length * 3:=by
 induction l with
 | nil=>rfl
 | cons q l ih=>
  have:Qk (q :: l)=[int i64 (q.1:Int),int i64 (q.2.1:Int),int i64 (q.2.2:Int)] ++ Qk l:=rfl;rw[this,List.length_append,ih,List.length_cons];show 3+l.length * 3=(l.length+1) * 3;omega
theorem zgD(l:List (Nat × Nat × Nat)):∀ (j:Nat) (q:Nat × Nat × Nat),l[j]? = some q→(Qk l)[j * 3]? = some (int i64 (q.1:Int))∧(Qk l)[j * 3+1]? = some (int i64 (q.2.1:Int))∧(Qk l)[j * 3+2]? = some (int i64 (q.2.2:Int)):=by
 induction l with
 | nil=>intro j q h;simp at h
 | cons p l ih=>
  intro j q h;have e:Qk (p :: l)=[int i64 (p.1:Int),int i64 (p.2.1:Int),int i64 (p.2.2:Int)] ++ Qk l:=rfl;cases j with
  | zero=>
   simp at h;subst h;rw[e];exact ⟨rfl,rfl,rfl⟩
  | succ j=>
   have h':=ih j q (by simpa using h);rw[e,show (j+1) * 3=j * 3+3 by omega];refine ⟨?_,?_,?_⟩ <;> rw[List.getElem?_append_right (by simp)]
   ·exact h'.1
   ·rw[show j * 3+3+1 - [Value.int .i64 (p.1:Int),int i64 (p.2.1:Int),int i64 (p.2.2:Int)].length=j * 3+1 by simp]
    exact h'.2.1
   ·rw[show j * 3+3+2 - [Value.int .i64 (p.1:Int),int i64 (p.2.1:Int),int i64 (p.2.2:Int)].length=j * 3+2 by simp]
    exact h'.2.2
theorem zgJ{l:List (Nat × Nat × Nat)}(h:w.ownsRow base 46 3 v n (Qk l)):∃ a cp,v=.slice a n cp∧n=l.length∧zq w 3 PtC a l∧l.length≤cp:=by
 have hl:n=l.length:=by have:=h.1;rw[zgp] at this;omega
 rcases h.2 with ⟨rfl,h0⟩ | ⟨g,cap,cur,rfl,_,hg,hle,_,hs,ht⟩
 ·subst h0
  exact ⟨none,0,rfl,hl,.inl (List.eq_nil_of_length_eq_zero hl.symm),by omega⟩
 ·refine ⟨_,cap,rfl,hl,.inr ⟨g,0,rfl,fun j q hq=> ?_⟩,by omega⟩
  have hj:j<l.length:=by
   rcases Nat.lt_or_ge j l.length with h | h
   ·exact h
   ·rw[List.getElem?_eq_none h] at hq;cases hq
  have key:∀ i,i<n * 3→w.cell? ⟨g,i,none⟩=(Qk l)[i]? := fun i hi=>by
   rw[cell_of_row w g i cur _ _ hg, ← ht,List.getElem?_take,if_pos hi];simp
  obtain ⟨g0,g1,g2⟩:=zgD l j q hq;rw[Nat.zero_add];exact ⟨(key _ (by omega)).trans g0,(key _ (by omega)).trans g1,(key _ (by omega)).trans g2⟩
theorem zjG:Tryz.t46.zero=some (agg #[int i64 0,int i64 0,int i64 0]):=by kernel_rfl
theorem zi5:Tryz.t46.size=3:=by kernel_rfl
theorem zgR:Tryz.t46.bytes=24:=by kernel_rfl
theorem zji:Tryz.prog.info? 46=some Tryz.t46:=by kernel_rfl
theorem zdM:Tryz.prog.underlying 43=some (.slice 46):=by kernel_rfl
theorem zdR(x y z:Int):∀ u∈[Value.int .i64 x,int i64 y,int i64 z],u.oneCell'=true:=by
 intro u hu;simp at hu;rcases hu with rfl | rfl | rfl <;> rfl
def Qd(l:List Int):List Value:=l.map fun z=>int i64 z
theorem Z0(l:List Int):(Qd l).length=l.length:=by unfold Qd;rw[List.length_map]
theorem Qn(l:List Int):∀ u∈Qd l,u.oneCell'=true:=by
 intro u hu;unfold Qd at hu;rw[List.mem_map] at hu;obtain ⟨z,_,rfl⟩:=hu;rfl
theorem Zx{l:List Int}(h:w.ownsRow base 3 1 v n (Qd l)):∃ a cp,v=.slice a n cp∧n=l.length∧zv w a l∧n≤cp∧∀ b off,a=some ⟨b,off,none⟩→base≤b:=by
 have hl:n=l.length:=by have:=h.1;rw[Z0] at this;omega
 rcases h.2 with ⟨rfl,h0⟩ | ⟨g,cap,cur,rfl,hbs,hg,hle,_,hs,ht⟩
 ·subst h0
  exact ⟨none,0,rfl,hl,.inl (List.eq_nil_of_length_eq_zero hl.symm),by omega,fun _ _ e=>by cases e⟩
 ·refine ⟨_,cap,rfl,hl,.inr ⟨g,0,rfl,fun i hi=> ?_⟩,hle,fun b off e=>by cases e;assumption⟩
  rw[Nat.zero_add,cell_of_row w g i cur _ _ hg];have e2:(cur.toList.take (n * 1))[i]? = cur.toList[i]? := by rw[List.getElem?_take,if_pos (by omega)]
  have e1:cur[i]? = cur.toList[i]? := by simp
  rw[e1, ← e2,ht];unfold Qd;rw[List.getElem?_map,List.getElem?_eq_getElem hi,List.getD_eq_getElem?_getD,List.getElem?_eq_getElem hi];rfl
theorem zf5{off:Nat}{l:List Int}(h:∀ i,i<l.length→w.cell? ⟨b,off+i,none⟩=some (int i64 (l.getD i 0))):∀ j u,(Qd l)[j]? = some u→w.cell? ((⟨b,off,none⟩:Addr).add j)=some u:=by
 intro j u hu;have hadd:(⟨b,off,none⟩:Addr).add j=⟨b,off+j,none⟩:=by unfold Addr.add;by_cases e:j=0 <;> simp[e]
 unfold Qd at hu;rw[List.getElem?_map] at hu;by_cases hj:j<l.length
 ·rw[hadd,h j hj]
  rw[List.getElem?_eq_getElem hj] at hu;simp at hu;rw[List.getD_eq_getElem?_getD,List.getElem?_eq_getElem hj, ← hu];rfl
 ·rw[List.getElem?_eq_none (by omega)] at hu
  cases hu
def ptV(f b i:Int):Value:=agg #[int i64 f,int i64 b,int i64 i]
abbrev zkd (n:Int):Prop:=b64 n
def zu(x:In8)(ar:Value):Value:=agg #[int i64 x.op,int i64 x.dst,int i64 x.a,int i64 x.b,int i64 x.n,ar]
structure InW (w:World) (q:Nat) (x:In8) (ar:Value):Prop where
 c0:w.cell? ⟨q,0,none⟩=some (int i64 x.op)
 c1:w.cell? ⟨q,1,none⟩=some (int i64 x.dst)
 c2:w.cell? ⟨q,2,none⟩=some (int i64 x.a)
 c3:w.cell? ⟨q,3,none⟩=some (int i64 x.b)
 c4:w.cell? ⟨q,4,none⟩=some (int i64 x.n)
 c5:w.cell? ⟨q,5,none⟩=some ar
theorem InW.stays{q:Nat}{x:In8}{ar:Value}(h:InW w q x ar)(k:za [] w w'):InW w' q x ar:=
 ⟨zb k h.c0,zb k h.c1,zb k h.c2,zb k h.c3,zb k h.c4,zb k h.c5⟩
theorem InW.new(w:World)(x:In8)(ar:Value)(t:TypeId):InW (w.alloc (.cells #[int i64 x.op,int i64 x.dst,int i64 x.a,int i64 x.b,int i64 x.n,ar] t)) w.heap.size x ar:=by
 constructor <;> rw[World.cell?_alloc_at _ _ _ _ rfl] <;> rfl
structure znr (x:In8):Prop where
 op:zkd x.op
 dst:zkd x.dst
 a:zkd x.a
 b:zkd x.b
 n:zkd x.n
 args:∀ z,z∈x.args→zkd z
theorem eqb{a b:Int}(h:a=b):(a == b)=true:=by simpa using h
theorem neb{a b:Int}(h:a≠b):(a == b)=false:=by simpa using h
theorem InC.open{o:Nat}{x:In8}(h:InC w b o x):znr x∧∃ ar cp,w.cell? ⟨b,o+5,none⟩=some (.slice ar x.args.length cp)∧zv w ar x.args∧x.args.length≤cp:=by
 obtain ⟨ar,cp,h1,h2,h3,_⟩:=h.c5;refine ⟨⟨h.c0.2,h.c1.2,h.c2.2,h.c3.2,h.c4.2,fun z hz=> ?_⟩,ar,cp,h1,q8 h2,h3⟩;obtain ⟨i,hi,e⟩:=List.getElem_of_mem hz;obtain ⟨_,_,_,h9⟩:=h2.at (j:=i) (y:=z) (by rw[List.getElem?_eq_getElem hi,e]);exact h9.2
def Z6{α:Type}(f:α→Value × Value × Value)(l:List α):List Value:=l.flatMap fun x=>[(f x).1,(f x).2.1,(f x).2.2]
theorem jT{α:Type}(f:α→Value × Value × Value)(x:α)(l:List α):Z6 f (x :: l)=[(f x).1,(f x).2.1,(f x).2.2] ++ Z6 f l:=rfl
theorem zeT{α:Type}(f:α→Value × Value × Value)(l:List α)(x:α):Z6 f (l ++ [x])=Z6 f l ++ [(f x).1,(f x).2.1,(f x).2.2]:=by
 unfold Z6;rw[List.flatMap_append];rfl
theorem zg5{α:Type}(f:α→Value × Value × Value)(l:List α):(Z6 f l).length=l.length * 3:=by
 induction l with
 | nil=>rfl
 | cons q l ih=>
  rw[jT,List.length_append,ih,List.length_cons];show 3+l.length * 3=(l.length+1) * 3;omega
theorem jZ{α:Type}(f:α→Value × Value × Value)(l:List α):∀ (j:Nat) (x:α),l[j]? = some x→(Z6 f l)[j * 3]? = some (f x).1∧(Z6 f l)[j * 3+1]? = some (f x).2.1∧(Z6 f l)[j * 3+2]? = some (f x).2.2:=by
 induction l with
 | nil=>intro j q h;simp at h
 | cons p l ih=>
  intro j x h;cases j with
  | zero=>
   simp at h;subst h;rw[jT];exact ⟨rfl,rfl,rfl⟩
  | succ j=>
   have h':=ih j x (by simpa using h);rw[jT,show (j+1) * 3=j * 3+3 by omega];refine ⟨?_,?_,?_⟩ <;> rw[List.getElem?_append_right (by simp)]
   ·exact h'.1
   ·rw[show j * 3+3+1 - [(f p).1,(f p).2.1,(f p).2.2].length=j * 3+1 by simp]
    exact h'.2.1
   ·rw[show j * 3+3+2 - [(f p).1,(f p).2.1,(f p).2.2].length=j * 3+2 by simp]
    exact h'.2.2
theorem Qo{α:Type}(f:α→Value × Value × Value)(l:List α):∀ (j:Nat) (x y:α),l[j]? = some x→Z6 f (l.set j y)=(((Z6 f l).set (j * 3) (f y).1).set (j * 3+1) (f y).2.1).set (j * 3+2) (f y).2.2:=by
 induction l with
 | nil=>intro j x y h;simp at h
 | cons p l ih=>
  intro j x y h;cases j with
  | zero=>rfl
  | succ j=>
   rw[List.set_cons_succ,jT,jT,ih j x y (by simpa using h),show (j+1) * 3=j * 3+3 by omega];simp[List.set_cons_succ]
theorem Qx{l:List Value}(h:l[i]? = some v):l.set i v=l:=by
 apply List.ext_getElem?;intro k;rw[List.getElem?_set];split
 ·rename_i e
  subst e;split
  ·exact h.symm
  ·rename_i hn
   rw[List.getElem?_eq_none (by omega)]
 ·rfl
theorem zeN{α:Type}(f:α→Value × Value × Value){l:List α}{x y:α}(h:l[j]? = some x)(e:f y=f x):Z6 f (l.set j y)=Z6 f l:=by
 obtain ⟨h0,h1,h2⟩:=jZ f l j x h;rw[Qo f l j x y h,e,Qx h0,Qx h1,Qx h2]
abbrev V3:Type:=Int × Int × Bool
def v3(x:V3):Value × Value × Value:=(int i64 x.1,int i64 x.2.1,.bool x.2.2)
abbrev vlV (x:V3):Value:=agg #[int i64 x.1,int i64 x.2.1,.bool x.2.2]
structure Ob where
 site:Int
 free:Bool
 fs:Value
 vs:List V3
def ob3(o:Ob):Value × Value × Value:=(int i64 o.site,.bool o.free,o.fs)
structure Obs (w:World) (T:TypeId) (f:Ob→Value × Value × Value) (sv:Value) (os:List Ob) (F:List Nat):Prop where
 own:w.ownsRow 0 T 3 sv os.length (Z6 f os)
 fld:∀ (j:Nat) (o:Ob),os[j]? = some o→w.ownsRow 0 39 3 o.fs o.vs.length (Z6 v3 o.vs)
 apart:∀ (i j:Nat) (o p:Ob) (k:Nat),os[i]? = some o→os[j]? = some p→o.fs.ownBlock=some k→p.fs.ownBlock=some k→i=j
 row:∀ k,sv.ownBlock=some k→k∈F
 fin:∀ (j:Nat) (o:Ob) (k:Nat),os[j]? = some o→o.fs.ownBlock=some k→k∈F
 lt:∀ x,x∈F→x<w.heap.size
theorem Obs.kept{f:Ob→Value × Value × Value}{os:List Ob}(h:Obs w T f sv os F)(k:za L w w')(hL:∀ x,x∈F→x ∉ L):Obs w' T f sv os F:=
 ⟨zh h.own k (fun b hb=>hL b (h.row b hb)),fun j o hj=>zh (h.fld j o hj) k (fun b hb=>hL b (h.fin j o b hj hb)),h.apart,h.row,h.fin,fun x hx=>Nat.lt_of_lt_of_le (h.lt x hx) k.size⟩
theorem Obs.quiet{f:Ob→Value × Value × Value}{os:List Ob}(h:Obs w T f sv os F)(k:za [] w w'):Obs w' T f sv os F:=h.kept k fun _ _=>by simp
theorem Obs.nil(w:World)(T:TypeId)(f:Ob→Value × Value × Value)(hF:∀ x,x∈F→x<w.heap.size):Obs w T f (.slice none 0 0) [] F:=
 ⟨World.ownsRow_nil w _ _ _,fun j o h=>by simp at h,fun i j o p k h=>by simp at h,fun k h=>by simp[Value.ownBlock] at h,fun j o k h=>by simp at h,hF⟩
theorem Obs.at{f:Ob→Value × Value × Value}{os:List Ob}(h:Obs w T f sv os F){o:Ob}(hj:os[j]? = some o):
  ∃ g cap,sv=.slice (some ⟨g,0,none⟩) os.length cap∧os.length≤cap∧j<os.length∧w.cell? ⟨g,j * 3,none⟩=some (f o).1∧w.cell? ⟨g,j * 3+1,none⟩=some (f o).2.1∧w.cell? ⟨g,j * 3+2,none⟩=some (f o).2.2∧(∀ i,w.frozen? ⟨g,i,none⟩=false)∧g<w.heap.size:=by
 have hlt:=(List.getElem?_eq_some_iff.1 hj).1;rcases h.own.2 with ⟨_,h0⟩ | ⟨g,cap,cur,hv,_,hg,hn,_⟩
 ·omega
 ·have own:=h.own
  rw[hv] at own;obtain ⟨g0,g1,g2⟩:=jZ f os j o hj;exact ⟨g,cap,hv,hn,hlt,(own.cellAt _ (by omega)).trans g0,(own.cellAt _ (by omega)).trans g1,(own.cellAt _ (by omega)).trans g2,own.frozenAt,zt hg⟩
theorem Obs.field{f:Ob→Value × Value × Value}{os:List Ob}(h:Obs w T f sv os F){o:Ob}(hj:os[j]? = some o){v:V3}(hi:o.vs[i]? = some v):
  ∃ b cap,o.fs=.slice (some ⟨b,0,none⟩) o.vs.length cap∧b∈F∧w.cell? ⟨b,i * 3,none⟩=some (v3 v).1∧w.cell? ⟨b,i * 3+1,none⟩=some (v3 v).2.1∧w.cell? ⟨b,i * 3+2,none⟩=some (v3 v).2.2∧(∀ i,w.frozen? ⟨b,i,none⟩=false):=by
 have hlt:=(List.getElem?_eq_some_iff.1 hi).1;have own:=h.fld j o hj;rcases own.2 with ⟨_,h0⟩ | ⟨g,cap,cur,hv,_,hg,hn,_⟩
 ·omega
 ·have hin:=h.fin j o g hj (by rw[hv];rfl)
  rw[hv] at own;obtain ⟨g0,g1,g2⟩:=jZ v3 o.vs i v hi;exact ⟨g,cap,hv,hin,(own.cellAt _ (by omega)).trans g0,(own.cellAt _ (by omega)).trans g1,(own.cellAt _ (by omega)).trans g2,own.frozenAt⟩
theorem Obs.len{f:Ob→Value × Value × Value}{os:List Ob}(h:Obs w T f sv os F):∃ a cap,sv=.slice a os.length cap∧os.length≤cap:=by
 rcases h.own.2 with ⟨hv,h0⟩ | ⟨g,cap,cur,hv,_,_,hn,_⟩
 ·exact ⟨none,0,by rw[hv,h0],by omega⟩
 ·exact ⟨_,cap,hv,hn⟩
theorem zeL{base':Nat}{U:TypeId}{c c':Nat}{u:Value}{xs ys:List Value}(h:w.ownsRow base T c v n xs)(h':w.ownsRow base' U c' u m ys)(hne:T≠U){k:Nat}(hv:v.ownBlock=some k):u.ownBlock≠some k:=by
 intro hu;rcases h.2 with ⟨rfl,_⟩ | ⟨g,cap,cur,rfl,_,hg,_⟩
 ·simp[Value.ownBlock] at hv
 ·rcases h'.2 with ⟨rfl,_⟩ | ⟨g',cap',cur',rfl,_,hg',_⟩
  ·simp[Value.ownBlock] at hu
  ·simp[Value.ownBlock] at hv hu
   subst hv;subst hu;rw[hg] at hg';simp at hg';exact hne hg'.2
theorem Obs.put{f:Ob→Value × Value × Value}{os:List Ob}(h:Obs w T f sv os F)(hT:39≠T)(hf:∀ o vs,f { o with vs:=vs }=f o){o:Ob}(hj:os[j]? = some o){v:V3}(hi:o.vs[i]? = some v){cap:Nat}(hb:o.fs=.slice (some ⟨b,0,none⟩) o.vs.length cap)(u:V3):
  Obs (((w.setCell ⟨b,i * 3,none⟩ (v3 u).1).setCell ⟨b,i * 3+1,none⟩ (v3 u).2.1).setCell ⟨b,i * 3+2,none⟩ (v3 u).2.2) T f sv (os.set j { o with vs:=o.vs.set i u }) F:=by
 have own:=h.fld j o hj;have hob:o.fs.ownBlock=some b:=by rw[hb];rfl
 have hjl:=(List.getElem?_eq_some_iff.1 hj).1;have kk:za [b] w (((w.setCell ⟨b,i * 3,none⟩ (v3 u).1).setCell ⟨b,i * 3+1,none⟩ (v3 u).2.1).setCell ⟨b,i * 3+2,none⟩ (v3 u).2.2):=
  ((za.setCell [b] _ _ _ (List.mem_singleton.2 rfl)).step (za.setCell [b] _ _ _ (List.mem_singleton.2 rfl))).step (za.setCell [b] _ _ _ (List.mem_singleton.2 rfl))
 have own':=own;rw[hb] at own';have o3:=(((own'.stored (i * 3) (v3 u).1).1.stored (i * 3+1) (v3 u).2.1).1.stored (i * 3+2) (v3 u).2.2).1;rw[← Qo v3 o.vs i v u hi, ← hb] at o3;have each:∀ (m:Nat) (p:Ob),(os.set j { o with vs:=o.vs.set i u })[m]? = some p→(m=j∧p={ o with vs:=o.vs.set i u })∨(m≠j∧os[m]? = some p):=fun m p hm=>by
  by_cases e:j=m
  ·subst e
   rw[List.getElem?_set_self hjl] at hm;exact .inl ⟨rfl,by simpa using hm.symm⟩
  ·rw[List.getElem?_set_ne e] at hm
   exact .inr ⟨fun e'=>e e'.symm,hm⟩
 refine ⟨?_,fun m p hm=> ?_,fun m n p q k hm hn h1 h2=> ?_,h.row,fun m p k hm hk=> ?_,fun x hx=>Nat.lt_of_lt_of_le (h.lt x hx) kk.size⟩
 ·rw[List.length_set,zeN f hj (hf o _)]
  exact zh h.own kk (fun c hc hm=>by
   rw[List.mem_singleton] at hm;subst hm
   exact zeL own h.own hT hob hc)
 ·rcases each m p hm with ⟨rfl,rfl⟩ | ⟨hne,hp⟩
  ·rw[List.length_set]
   exact o3
  ·exact zh (h.fld m p hp) kk (fun c hc hx=>by
    rw[List.mem_singleton] at hx;subst hx
    exact hne (h.apart m j p o c hp hj hc hob))
 ·have back:∀ (m:Nat) (p:Ob),(os.set j { o with vs:=o.vs.set i u })[m]? = some p→∃ q,os[m]? = some q∧q.fs=p.fs:=fun m p hm=>by
   rcases each m p hm with ⟨rfl,rfl⟩ | ⟨_,hp⟩
   ·exact ⟨o,hj,rfl⟩
   ·exact ⟨p,hp,rfl⟩
  obtain ⟨p',a1,a2⟩:=back m p hm;obtain ⟨q',b1,b2⟩:=back n q hn;exact h.apart m n p' q' k a1 b1 (by rw[a2];exact h1) (by rw[b2];exact h2)
 ·rcases each m p hm with ⟨rfl,rfl⟩ | ⟨_,hp⟩
  ·exact h.fin m o k hj hk
  ·exact h.fin m p k hp hk
theorem Obs.turn{f:Ob→Value × Value × Value}{os:List Ob}(h:Obs w T f sv os F)(hT:T≠39){o o':Ob}(hj:os[j]? = some o)(k:za sv.ownBlock.toList w w')(own:w'.ownsRow 0 T 3 sv os.length (Z6 f (os.set j o')))(hf:(o'.fs=o.fs∧o'.vs=o.vs)∨(o'.fs=.slice none 0 0∧o'.vs=[])):Obs w' T f sv (os.set j o') F:=by
 have hjl:=(List.getElem?_eq_some_iff.1 hj).1;have each:∀ (m:Nat) (p:Ob),(os.set j o')[m]? = some p→(m=j∧p=o')∨(m≠j∧os[m]? = some p):=fun m p hm=>by
  by_cases e:j=m
  ·subst e
   rw[List.getElem?_set_self hjl] at hm;exact .inl ⟨rfl,by simpa using hm.symm⟩
  ·rw[List.getElem?_set_ne e] at hm
   exact .inr ⟨fun e'=>e e'.symm,hm⟩
 have back:∀ (m:Nat) (p:Ob) (c:Nat),(os.set j o')[m]? = some p→p.fs.ownBlock=some c→∃ q,os[m]? = some q∧q.fs=p.fs∧q.vs=p.vs:=fun m p c hm hc=>by
  rcases each m p hm with ⟨rfl,rfl⟩ | ⟨_,hp⟩
  ·rcases hf with ⟨e1,e2⟩ | ⟨e1,_⟩
   ·exact ⟨o,hj,e1.symm,e2.symm⟩
   ·rw[e1] at hc
    simp[Value.ownBlock] at hc
  ·exact ⟨p,hp,rfl,rfl⟩
 have fkeep:∀ (m:Nat) (p:Ob),os[m]? = some p→w'.ownsRow 0 39 3 p.fs p.vs.length (Z6 v3 p.vs):=fun m p hp=>
  zh (h.fld m p hp) k (fun c hc hx=>zeL h.own (h.fld m p hp) hT (by simpa using hx) hc)
 refine ⟨by rw[List.length_set];exact own,fun m p hm=> ?_,fun m n p q c hm hn h1 h2=> ?_,h.row,fun m p c hm hc=> ?_,fun x hx=>Nat.lt_of_lt_of_le (h.lt x hx) k.size⟩
 ·rcases each m p hm with ⟨rfl,rfl⟩ | ⟨_,hp⟩
  ·rcases hf with ⟨e1,e2⟩ | ⟨e1,e2⟩
   ·rw[e1,e2]
    exact fkeep m o hj
   ·rw[e1,e2]
    exact World.ownsRow_nil _ _ _ _
  ·exact fkeep m p hp
 ·obtain ⟨p',a1,a2,_⟩:=back m p c hm h1
  obtain ⟨q',b1,b2,_⟩:=back n q c hn h2;exact h.apart m n p' q' c a1 b1 (by rw[a2];exact h1) (by rw[b2];exact h2)
 ·obtain ⟨p',a1,a2,_⟩:=back m p c hm hc
  exact h.fin m p' c a1 (by rw[a2];exact hc)
theorem Obs.push{wa:World}{f:Ob→Value × Value × Value}{sv':Value}{os:List Ob}(h:Obs w T f sv os F)(hT:T≠39)(ka:za [] w wa){o:Ob}(ho:wa.ownsRow 0 39 3 o.fs o.vs.length (Z6 v3 o.vs))(hnew:∀ k,o.fs.ownBlock=some k→k ∉ F)(own:w'.ownsRow 0 T 3 sv' (os.length+1) (Z6 f (os ++ [o])))(hg:wa.grownBy w' sv.ownBlock):
  Obs w' T f sv' (os ++ [o]) (F ++ (sv'.ownBlock.toList ++ o.fs.ownBlock.toList)):=by
 have h1:=h.quiet ka;have kk:za sv.ownBlock.toList wa w':=za.grown _ hg (fun x hx=>by rw[hx];simp);have each:∀ (m:Nat) (p:Ob),(os ++ [o])[m]? = some p→(m=os.length∧p=o)∨os[m]? = some p:=fun m p hm=>by
  by_cases e:m<os.length
  ·rw[List.getElem?_append_left e] at hm
   exact .inr hm
  ·rw[List.getElem?_append_right (by omega)] at hm
   have e0:m - os.length=0:=by
    apply Classical.byContradiction;intro hne;rw[List.getElem?_eq_none (by simp;omega)] at hm;cases hm
   rw[e0] at hm;exact .inl ⟨by omega,by simpa using hm.symm⟩
 have hown':∀ {v:Value}{n:Nat}{xs:List Value},wa.ownsRow 0 39 3 v n xs→w'.ownsRow 0 39 3 v n xs:=fun hv=>
  zh hv kk (fun c hc hx=>zeL h1.own hv hT (by simpa using hx) hc)
 refine ⟨by rw[List.length_append];exact own,fun m p hm=> ?_,fun m n p q c hm hn a1 a2=> ?_,fun k hk=>by simp[hk],fun m p c hm hc=> ?_,fun x hx=> ?_⟩
 ·rcases each m p hm with ⟨_,rfl⟩ | hp
  ·exact hown' ho
  ·exact hown' (h1.fld m p hp)
 ·rcases each m p hm with ⟨e1,rfl⟩ | hp
  ·rcases each n q hn with ⟨e2,_⟩ | hq
   ·omega
   ·exact absurd (h.fin n q c hq a2) (hnew c a1)
  ·rcases each n q hn with ⟨e2,rfl⟩ | hq
   ·exact absurd (h.fin m p c hp a1) (hnew c a2)
   ·exact h.apart m n p q c hp hq a1 a2
 ·rcases each m p hm with ⟨_,rfl⟩ | hp
  ·simp[hc]
  ·exact List.mem_append_left _ (h.fin m p c hp hc)
 ·rcases List.mem_append.1 hx with hx | hx
  ·exact Nat.lt_of_lt_of_le (h1.lt x hx) kk.size
  ·rcases List.mem_append.1 hx with hx | hx
   ·exact (own.lt x (by simpa using hx)).2
   ·exact Nat.lt_of_lt_of_le (ho.lt x (by simpa using hx)).2 kk.size
structure HpV (w:World) (hp:Nat) (sv:Value) (os:List Ob) (F:List Nat):Prop where
 box:w.heap[hp]? = some (.cells #[sv] 111 (0,0))
 hin:hp∈F
 obs:Obs w 158 ob3 sv os F
def Hp(w:World)(hp:Nat)(os:List Ob)(F:List Nat):Prop:=∃ sv,HpV w hp sv os F
theorem HpV.kept{os:List Ob}(h:HpV w hp sv os F)(k:za L w w')(hL:∀ x,x∈F→x ∉ L):HpV w' hp sv os F:=
 ⟨by rw[k.block hp (zt h.box) (hL hp h.hin)];exact h.box,h.hin,h.obs.kept k hL⟩
theorem Hp.kept{os:List Ob}(h:Hp w hp os F)(k:za L w w')(hL:∀ x,x∈F→x ∉ L):Hp w' hp os F:=by
 obtain ⟨sv,h⟩:=h;exact ⟨sv,h.kept k hL⟩
theorem Hp.quiet{os:List Ob}(h:Hp w hp os F)(k:za [] w w'):Hp w' hp os F:=h.kept k fun _ _=>by simp
theorem Hp.lt{os:List Ob}(h:Hp w hp os F):∀ x,x∈F→x<w.heap.size:=by
 obtain ⟨sv,h⟩:=h;exact h.obs.lt
def ja(w:World)(F F':List Nat):Prop:=∀ x,x∈F'→x∈F∨w.heap.size≤x
section
open Go.Extern.Stop Go.Stop Go.Extern
theorem zjg{t:TypeId}(h:w.heap[p]? = some (.cells cs t (0,0)))(k:Nat):w.frozen? ⟨p,k,none⟩=false:=zg h k
structure zbq (w:World):Prop where
 et:w.cell? ⟨0,0,none⟩=some (.iface 282 (agg #[pointer (some ⟨2,92,none⟩)]))
theorem zbq.quiet(g:zbq w)(k:za [] w w'):zbq w':=⟨zb k g.et⟩
theorem ze1(h:w.heap[p]? = some (.cells cs T (0,0)))(k:Nat):w.cell? ⟨p,k,none⟩=cs[k]? := cell_of_row w p k _ _ _ h
theorem zbB(t:Addr)(w:World):(ReflectliteValue.unpack (.iface 193 (.pointer (some t)))).run Tryz.prog w
  = .ok (agg #[pointer (some ⟨2,193,none⟩),pointer (some ⟨w.heap.size,0,none⟩),.int .u64 150]) (w.alloc (.cells #[.pointer (some t)] 193)):=by kernel_rfl
theorem zgv(a:Addr)(w:World):(ReflectliteValue.methodAny (ReflectliteValue.valueError "reflectlite.Value.Type" 0) (fun t _ _ _=>ReflectliteType.toType t) #[agg #[pointer (some ⟨2,193,none⟩),.pointer (some a),.int .u64 150]]).run Tryz.prog w
  = .ok (.iface 282 (agg #[pointer (some ⟨2,193,none⟩)])) w:=by kernel_rfl
theorem zaC(h:Value)(w:World):(Go.method 432 282 (agg #[h]) "Kind").run Tryz.prog w=.ok (235,h) w:=by kernel_rfl
theorem zfV(w:World):((ReflectliteType.abiMethod fun t=>(fun a:Nat=>Value.int IntKind.u8 (a:Int)) <$> Rtype.kind t) #[pointer (some ⟨2,193,none⟩)]).run Tryz.prog w=.ok (.int .u8 22) w:=by kernel_rfl
theorem zjX(w:World):((ReflectliteType.abiMethod fun t=>(fun a:Nat=>Value.int IntKind.u8 (a:Int)) <$> Rtype.kind t) #[pointer (some ⟨2,191,none⟩)]).run Tryz.prog w=.ok (.int .u8 22) w:=by kernel_rfl
theorem zau(a:Addr)(w:World):(ReflectliteValue.parts (agg #[pointer (some ⟨2,193,none⟩),.pointer (some a),.int .u64 150])).run Tryz.prog w=.ok (some (193,a,150)) w:=by kernel_rfl
theorem ze0(a p:Addr)(W:World)(ha:W.cell? a=some (.pointer (some p))):
  (ReflectliteValue.method (ReflectliteValue.valueError "reflectlite.Value.IsNil" 0) ReflectliteValue.isNil #[agg #[pointer (some ⟨2,193,none⟩),.pointer (some a),.int .u64 150]]).run Tryz.prog W=.ok (.bool false) W:=by
 change Sem.run _ (ReflectliteValue.parts (agg #[pointer (some ⟨2,193,none⟩),.pointer (some a),.int .u64 150]) >>= _) W=_;simp only[Sem.run_bind,zau,Result.andThen];simp[ReflectliteValue.isNil,loadVar,isAgg,underlying,Tryz.underlying193,ha,Result.andThen]
theorem zay(h:Value)(w:World):(Go.method 432 282 (agg #[h]) "Elem").run Tryz.prog w=.ok (247,agg #[h]) w:=by kernel_rfl
theorem ZE(h:Value)(w:World):(Go.method 432 282 (agg #[h]) "Implements").run Tryz.prog w=.ok (248,agg #[h]) w:=by kernel_rfl
theorem Zd(h:Value)(w:World):(Go.method 432 282 (agg #[h]) "AssignableTo").run Tryz.prog w=.ok (245,agg #[h]) w:=by kernel_rfl
theorem zhC(w:World):(ReflectliteType.method ReflectliteType.elem #[agg #[pointer (some ⟨2,193,none⟩)]]).run Tryz.prog w=.ok (.iface 282 (agg #[pointer (some ⟨2,191,none⟩)])) w:=by kernel_rfl
theorem JR(w:World):(ReflectliteType.relation "Implements" ReflectliteType.implements_ #[agg #[pointer (some ⟨2,191,none⟩)],.iface 282 (agg #[pointer (some ⟨2,92,none⟩)])]).run Tryz.prog w=.ok (.bool true) w:=by kernel_rfl
theorem zf9(v:Value)(w:World):(ReflectliteType.typeOf #[.iface 191 v]).run Tryz.prog w=.ok (.iface 282 (agg #[pointer (some ⟨2,191,none⟩)])) w:=by kernel_rfl
theorem JI(w:World):(ReflectliteType.relation "AssignableTo" ReflectliteType.assignableTo #[agg #[pointer (some ⟨2,191,none⟩)],.iface 282 (agg #[pointer (some ⟨2,191,none⟩)])]).run Tryz.prog w=.ok (.bool true) w:=by kernel_rfl
theorem zdm(e:Addr)(w:World):(ReflectliteValue.unpack (.iface 191 (.pointer (some e)))).run Tryz.prog w
  = .ok (agg #[pointer (some ⟨2,191,none⟩),pointer (some ⟨w.heap.size,0,none⟩),.int .u64 150]) (w.alloc (.cells #[.pointer (some e)] 191)):=by kernel_rfl
theorem zdx(w:World):(Rtype.elem? 193).run Tryz.prog w=.ok (some 191) w:=by kernel_rfl
theorem zm0(p:Addr)(w:World):(ReflectliteValue.mk 191 p ReflectliteValue.flagAddr).run Tryz.prog w=.ok (agg #[pointer (some ⟨2,191,none⟩),.pointer (some p),.int .u64 406]) w:=by kernel_rfl
theorem zdL(a p:Addr)(W:World)(ha:W.cell? a=some (.pointer (some p))):
  (ReflectliteValue.method (ReflectliteValue.valueError "reflectlite.Value.Elem" 0) ReflectliteValue.elem #[agg #[pointer (some ⟨2,193,none⟩),.pointer (some a),.int .u64 150]]).run Tryz.prog W
   = .ok (agg #[pointer (some ⟨2,191,none⟩),.pointer (some p),.int .u64 406]) W:=by
 change Sem.run _ (ReflectliteValue.parts (agg #[pointer (some ⟨2,193,none⟩),.pointer (some a),.int .u64 150]) >>= _) W=_;simp only[Sem.run_bind,zau,Result.andThen];simp[ReflectliteValue.elem,loadVar,isAgg,underlying,Tryz.underlying193,ha,Result.andThen,zdx,zm0]
theorem zfE(a:Addr)(w:World):(ReflectliteValue.parts (agg #[pointer (some ⟨2,191,none⟩),.pointer (some a),.int .u64 406])).run Tryz.prog w=.ok (some (191,a,406)) w:=by kernel_rfl
theorem zhn(a:Addr)(w:World):(ReflectliteValue.parts (agg #[pointer (some ⟨2,191,none⟩),.pointer (some a),.int .u64 150])).run Tryz.prog w=.ok (some (191,a,150)) w:=by kernel_rfl
theorem zfn(w:World):(Rtype.directlyAssignable 191 191).run Tryz.prog w=.ok true w:=by kernel_rfl
theorem zlH(ta b e:Addr)(old:Value)(W:World)(hb:W.cell? b=some (.pointer (some e)))(ht:W.cell? ta=some old)(hf:W.frozen? ta=false):
  (ReflectliteValue.set #[agg #[pointer (some ⟨2,191,none⟩),.pointer (some ta),.int .u64 406],agg #[pointer (some ⟨2,191,none⟩),.pointer (some b),.int .u64 150]]).run Tryz.prog W
   = .ok (.tuple #[]) (W.setCell ta (.pointer (some e))):=by
 change Sem.run _ (ReflectliteValue.parts (agg #[pointer (some ⟨2,191,none⟩),.pointer (some ta),.int .u64 406]) >>= fun r=>ReflectliteValue.parts (agg #[pointer (some ⟨2,191,none⟩),.pointer (some b),.int .u64 150]) >>= fun s=>_) W=_;simp only[Sem.run_bind,zfE,zhn,Result.andThen];simp[ReflectliteValue.flagAddr,loadVar,isAgg,underlying,Tryz.underlying191,hb,Result.andThen,zfn,storeVar,Value.cells,storeCells,Addr.add];rw[run_store Tryz.prog W ta _ _ (by rfl)];simp[ht,hf]
abbrev Qj (p:Nat):Value:=.iface 191 (pointer (some ⟨p,0,none⟩))
theorem zli(p t a:Nat)(w:World)(ht:w.heap[t]? = some (.cells #[.pointer none] 191 (0,0)))(ha:w.heap[a]? = some (.cells #[pointer (some ⟨t,0,none⟩)] 193 (0,0))):
  Calls Tryz.prog 196 #[Qj p,.iface 193 (pointer (some ⟨t,0,none⟩)),agg #[pointer (some ⟨2,193,none⟩),pointer (some ⟨a,0,none⟩),.int .u64 150],.iface 282 (agg #[pointer (some ⟨2,191,none⟩)])] w
   fun e w'=>e=.returned (.bool true)∧za [t] w w'∧w'.heap[t]? = some (.cells #[pointer (some ⟨p,0,none⟩)] 191 (0,0)):=by
 have h26:= @run_callFunc_extern Tryz.prog 193 _ (fun args=>ReflectliteValue.unpack (args.getD 0 (.tuple #[]))) Tryz.func193 (by kernel_rfl) (by kernel_rfl) (by kernel_rfl) (by kernel_rfl);have h32:= @run_callFunc_extern Tryz.prog 211 _ ReflectliteType.typeOf Tryz.func211 (by kernel_rfl) (by kernel_rfl) (by kernel_rfl) (by kernel_rfl);have h76:= @run_callFunc_extern Tryz.prog 245 _ (ReflectliteType.relation "AssignableTo" ReflectliteType.assignableTo) Tryz.func245 (by kernel_rfl) (by kernel_rfl) (by kernel_rfl) (by kernel_rfl);have h37:= @run_callFunc_extern Tryz.prog 212 _ (ReflectliteValue.method (ReflectliteValue.valueError "reflectlite.Value.Elem" 0) ReflectliteValue.elem) Tryz.func212 (by kernel_rfl) (by kernel_rfl) (by kernel_rfl) (by kernel_rfl);have h38:= @run_callFunc_extern Tryz.prog 213 _ ReflectliteValue.set Tryz.func213 (by kernel_rfl) (by kernel_rfl) (by kernel_rfl) (by kernel_rfl);have f1:=zf9;have f3:=Zd;have f4:=JI;have f6:=zdm;have htl:=zt ht;have hal:=zt ha;have k1:za [t] w (w.alloc (.cells #[pointer (some ⟨2,193,none⟩),pointer (some ⟨a,0,none⟩),.int .u64 150] 260)):=za.alloc _ _ _;have b1:=(za.alloc [] w (.cells #[pointer (some ⟨2,193,none⟩),pointer (some ⟨a,0,none⟩),.int .u64 150] 260)).block;have hb1:(w.alloc (.cells #[pointer (some ⟨2,193,none⟩),pointer (some ⟨a,0,none⟩),.int .u64 150] 260)).heap[w.heap.size]? = some (.cells #[pointer (some ⟨2,193,none⟩),pointer (some ⟨a,0,none⟩),.int .u64 150] 260 (0,0)):=ze _ _;have ht1:=hid ((b1 t htl (by simp)).trans ht);have ha1:=hid ((b1 a hal (by simp)).trans ha);go_enter Tryz.func196,Tryz.ntmps196;go_wp2;clear ht ha b1;generalize w.alloc (.cells #[pointer (some ⟨2,193,none⟩),pointer (some ⟨a,0,none⟩),.int .u64 150] 260)=w1 at *;have c0:w1.cell? ⟨w.heap.size,0,none⟩=some (pointer (some ⟨2,193,none⟩)):=ze1 hb1 0;have c1:w1.cell? ⟨w.heap.size,1,none⟩=some (pointer (some ⟨a,0,none⟩)):=ze1 hb1 1;have c2:w1.cell? ⟨w.heap.size,2,none⟩=some (.int .u64 150):=ze1 hb1 2;have HB:=hid hb1;clear hb1;generalize w.heap.size=q at *;have K1:=hid k1;clear k1
 go_loop [0] (fun v=>v=Qj p) (fun _=>0)
 case atStart=>rfl
 case round=>
  subst hrel;have el:=zdL ⟨a,0,none⟩ ⟨t,0,none⟩ w1 (ze1 ha1.o 0);have htl1:=zt ht1.o;have st:=zlH ⟨t,0,none⟩ ⟨w1.heap.size,0,none⟩ ⟨p,0,none⟩ (.pointer none) (w1.alloc (.cells #[pointer (some ⟨p,0,none⟩)] 191)) (by simp) (by rw[World.cell?_alloc_lt _ _ ⟨t,0,none⟩ htl1];exact ze1 ht1.o 0)
   (by rw[World.frozen?_alloc_old _ _ ⟨t,0,none⟩ (Nat.ne_of_lt htl1)];exact zjg ht1.o 0)
  go_wp2;go_ret;have ks:za [t] w1 (w1.setCell ⟨t,0,none⟩ (pointer (some ⟨p,0,none⟩))):=za.setCell [t] _ _ _ (List.mem_singleton.2 rfl);refine ⟨rfl,(K1.o.step ks).step (za.alloc [t] _ _),?_⟩;rw[(za.alloc [] _ _).block t (Nat.lt_of_lt_of_le htl1 ks.size) (by simp),heap_setCell_same _ t 0 _ _ _ ht1.o];rfl
theorem zl0(p t:Nat)(w:World)(hg:zbq w)(ht:w.heap[t]? = some (.cells #[.pointer none] 191 (0,0))):
  Calls Tryz.prog 129 #[Qj p,.iface 193 (pointer (some ⟨t,0,none⟩))] w
   fun e w'=>e=.returned (.bool true)∧za [t] w w'∧w'.heap[t]? = some (.cells #[pointer (some ⟨p,0,none⟩)] 191 (0,0)):=by
 have h26:= @run_callFunc_extern Tryz.prog 193 _ (fun args=>ReflectliteValue.unpack (args.getD 0 (.tuple #[]))) Tryz.func193 (by kernel_rfl) (by kernel_rfl) (by kernel_rfl) (by kernel_rfl);have h27:= @run_callFunc_extern Tryz.prog 194 _ (ReflectliteValue.methodAny (ReflectliteValue.valueError "reflectlite.Value.Type" 0) (fun t _ _ _=>ReflectliteType.toType t)) Tryz.func194 (by kernel_rfl) (by kernel_rfl) (by kernel_rfl) (by kernel_rfl);have h28:= @run_callFunc_extern Tryz.prog 195 _ (ReflectliteValue.method (ReflectliteValue.valueError "reflectlite.Value.IsNil" 0) ReflectliteValue.isNil) Tryz.func195 (by kernel_rfl) (by kernel_rfl) (by kernel_rfl) (by kernel_rfl);have h67:= @run_callFunc_extern Tryz.prog 235 _ (ReflectliteType.abiMethod fun t=>do pure (.int .u8 (← Rtype.kind t))) Tryz.func235 (by kernel_rfl) (by kernel_rfl) (by kernel_rfl) (by kernel_rfl);have h78:= @run_callFunc_extern Tryz.prog 247 _ (ReflectliteType.method ReflectliteType.elem) Tryz.func247 (by kernel_rfl) (by kernel_rfl) (by kernel_rfl) (by kernel_rfl);have h79:= @run_callFunc_extern Tryz.prog 248 _ (ReflectliteType.relation "Implements" ReflectliteType.implements_) Tryz.func248 (by kernel_rfl) (by kernel_rfl) (by kernel_rfl) (by kernel_rfl);have f1:=zbB;have f2:=zgv;have f3:=zaC;have f4:=zfV;have f5:=zjX;have f6:=zay;have f7:=ZE;have f8:=zhC;have f9:=JR;have n8:=ze0 ⟨w.heap.size,0,none⟩ ⟨t,0,none⟩ ((w.alloc (.cells #[pointer (some ⟨t,0,none⟩)] 193)).alloc (.cells #[pointer (some ⟨2,193,none⟩),pointer (some ⟨w.heap.size,0,none⟩),.int .u64 150] 260)) (by simp);have k2:=((za.refl [] w).step (za.alloc [] w (.cells #[pointer (some ⟨t,0,none⟩)] 193))).step (za.alloc [] _ (.cells #[pointer (some ⟨2,193,none⟩),pointer (some ⟨w.heap.size,0,none⟩),.int .u64 150] 260));have g2:=(hg.quiet k2).et
 have HA:=hid (zli p t w.heap.size ((w.alloc (.cells #[pointer (some ⟨t,0,none⟩)] 193)).alloc (.cells #[pointer (some ⟨2,193,none⟩),pointer (some ⟨w.heap.size,0,none⟩),.int .u64 150] 260))
  ((k2.block t (zt ht) (by simp)).trans ht) (by rw[(za.alloc [] _ _).block _ (by simp) (by simp)];exact ze _ _))
 have K2:=hid k2;clear k2;go_enter Tryz.func129,Tryz.ntmps129;go_wp2_with (go_at_call 196;refine HA.o.mono ?_;rintro e w' ⟨rfl,hk,hh⟩);go_ret;exact ⟨rfl,(K2.o.mono (by simp)).step hk,hh⟩
def zer(w:World)(p:Nat)(y f b i:Int)(v:Value):Prop:=w.heap[p]? = some (.cells #[int i64 y,int i64 f,int i64 b,int i64 i,v] 195 (0,0))
theorem zer.quiet{y f b i:Int}(h:zer w p y f b i v)(k:za [] w w'):zer w' p y f b i v:=zd h k
def Qh(w:World)(p:Nat)(y f b i:Int):Prop:=zer w p y f b i .nilIface
theorem Qh.quiet{y f b i:Int}(h:Qh w p y f b i)(k:za [] w w'):Qh w' p y f b i:=zer.quiet h k
theorem zfr(y f b i:Int)(w:World):Calls Tryz.prog 126 #[int i64 y,agg #[int i64 f,int i64 b,int i64 i],.nilIface] w fun e w'=>∃ p,e=.returned (Qj p)∧Qh w' p y f b i∧za [] w w':=by
 have k2:=((za.refl [] w).step (za.alloc [] w (.cells #[int i64 f,int i64 b,int i64 i] 46))).step (za.alloc [] _ (.cells #[int i64 y,int i64 f,int i64 b,int i64 i,.nilIface] 195));have hn:=ze (w.alloc (.cells #[int i64 f,int i64 b,int i64 i] 46)) (.cells #[int i64 y,int i64 f,int i64 b,int i64 i,.nilIface] 195);rw[World.size_alloc] at hn;have H:=hid (show Qh _ (w.heap.size+1) y f b i from hn);have K:=hid k2;clear k2 hn;go_enter Tryz.func126,Tryz.ntmps126;go_wp2;go_ret;exact ⟨w.heap.size+1,rfl,H.o,K.o⟩
def jM(y f b i:Int)(w:World)(e:Ending)(w':World):Prop:=∃ p,e=.returned (Qj p)∧Qh w' p y f b i∧za [] w w'
theorem jA(y f b i:Int)(w:World):Calls Tryz.prog 120 #[int i64 y,agg #[int i64 f,int i64 b,int i64 i]] w (jM y f b i w):=by
 have H:=hid fun (w':World)=>zfr y f b i w';go_enter Tryz.func120,Tryz.ntmps120;go_wp2_with fail;refine (H.o _).mono ?_;rintro e w1 ⟨p,rfl,h1,h2⟩;go_wp2_with fail;go_ret;exact ⟨p,rfl,h1,(za.alloc [] _ _).quiet h2⟩
theorem qQ(y:Int)(w:World):Calls Tryz.prog 110 #[int i64 y] w (jM y (-1) 0 0 w):=by
 have H:=hid fun (w':World)=>jA y (-1) 0 0 w';go_enter Tryz.func110,Tryz.ntmps110;go_wp2_with fail;refine (H.o _).mono ?_;rintro e w1 ⟨p,rfl,h1,h2⟩;go_wp2_with fail;go_ret;exact ⟨p,rfl,h1,h2⟩
end
structure zd2 (P:Pr8):Prop where
 fn:P.funcs.length≤12
 bk:∀ f,f<P.funcs.length→(zf P f).blocks.length≤12
 code:∀ {f b},f<P.funcs.length→b<(zf P f).blocks.length→(zA (zf P f) b).code.length≤30
theorem zd2.cnt1{P:Pr8}(h:zd2 P){f:Nat}(hf:f<P.funcs.length):∀ b,b≤(zf P f).blocks.length→Go.Proofs.YtgmbkiagdhjpnaaGreatDoor.QY (zf P f) b≤31 * b
 | 0,_=>Nat.zero_le _
 | b+1,hb=>by
  have h1:=h.cnt1 hf b (by omega);have h2:=h.code hf (show b<_ by omega);rw[jr];omega
theorem zd2.cntP{P:Pr8}(h:zd2 P):∀ k,k≤P.funcs.length→Go.Proofs.YtgmbkiagdhjpnaaGreatDoor.zaV P k≤372 * k
 | 0,_=>Nat.zero_le _
 | k+1,hk=>by
  have h1:=h.cntP k (by omega);have h2:=h.cnt1 (f:=k) (by omega) _ (Nat.le_refl _);have h3:=h.bk k (by omega);rw[ZJ];omega
theorem zd2.cntF(h:zd2 P)(hf:f<P.funcs.length)(hb:b≤(zf P f).blocks.length):Go.Proofs.YtgmbkiagdhjpnaaGreatDoor.zaV P f+Go.Proofs.YtgmbkiagdhjpnaaGreatDoor.QY (zf P f) b≤4500:=by
 have h1:=h.cntP f (by omega);have h2:=h.cnt1 hf b hb;have h3:=h.bk f hf;have h4:=h.fn;omega
theorem zd2.pts(h:zd2 P):(Go.Proofs.YtgmbkiagdhjpnaaGreatDoor.pts P).length≤4500:=by
 have h1:=h.cntP _ (Nat.le_refl _);have h4:=h.fn;rw[zbn];omega
theorem ZN(h:PrC w pb po P)(hs:zd2 P):Calls Tryz.prog 118 #[pointer (some ⟨pb,po,none⟩)] w fun e w'=>∃ a cp,e=.returned (.slice a (pts P).length cp)∧zq w' 3 PtC a (pts P)∧za [] w w':=by
 have HP:=hid h;have HS:=hid hs;obtain ⟨fa,fcp,H⟩:=h.fns;have h4:=H.cell;have hN:=hs.fn;obtain ⟨N,hNN⟩:∃ N,N=P.funcs.length:=⟨_,rfl⟩;have HN:=hid hNN;rw[← hNN] at h4 hN
 have H4:Box (∀ w',za [] w w'→w'.cell? ⟨pb,po+4,none⟩=some (.slice fa N fcp)):=hid (by
  have h4':=h4;intro w' k
  exact zb k h4')
 have HF:=hid H;have HR0:Box (w.ownsRow w.heap.size 46 3 (.slice none 0 0) (ptP P 0).length (Qk (ptP P 0))):=hid (World.ownsRow_nil _ _ _ _);clear h hs H hNN;go_enter Tryz.func118,Tryz.ntmps118;go_wp2_with fail
 go_loopw [3,14] (fun lv fv wr=>∃ k:Nat,k≤N∧fv=int i64 (k:Int)∧Box (wr.ownsRow w.heap.size 46 3 lv (ptP P k).length (Qk (ptP P k)))∧Box (za [] w wr)) (fun _ fv _=>N - (intOf fv).toNat)
 case atStart=>exact ⟨0,by omega,rfl,HR0,hid (za.refl _ _)⟩
 case round=>
  obtain ⟨k,hk,rfl,HR,HK⟩:=hrel;clear HR0;by_cases hlt:k<N
  ·have hlt':(k:Int)<(N:Int):=by omega
   have g4:=H4.o _ HK.o;obtain ⟨fb,fo,ba,bcp,rfl,B⟩:=HF.o.at (f:=k) (by rw[← HN.o];exact hlt);have g2:=zb HK.o B.cell;have hM:=HS.o.bk k (by rw[← HN.o];exact hlt);obtain ⟨M,hMM⟩:∃ M,M=(zf P k).blocks.length:=⟨_,rfl⟩;have HM:=hid hMM;rw[← hMM] at g2 hM
   have G2:Box (∀ w',za [] w w'→w'.cell? ⟨fb,fo+k * 3+2,none⟩=some (.slice ba M bcp)):=hid (by
    have h2':=B.cell;rw[← hMM] at h2';intro w' kk
    exact zb kk h2')
   have hsz:Box (∀ b,b<M→∃ bb bo c,ba=some ⟨bb,bo,none⟩∧c≤30∧Box (c=(zA (zf P k) b).code.length)∧∀ w',za [] w w'→Calls Tryz.prog 88 #[pointer (some ⟨bb,bo+b * 5,none⟩)] w' fun e w2=>e=.returned (int i64 ((c+1:Nat):Int))∧w2=w'):=hid fun b hb=>by
    obtain ⟨bb,bo,e,L⟩:=B.at (b:=b) (by rw[← HM.o];exact hb);obtain ⟨ca,ccp,hc,_⟩:=L.c0;have h9:=HS.o.code (f:=k) (b:=b) (by rw[← HN.o];exact hlt) (by rw[← HM.o];exact hb);exact ⟨bb,bo,_,e,h9,hid rfl,fun w' kk=>Ql bb (bo+b * 5) _ ccp ca w' (zb kk hc) (by omega)⟩
   have HR1:Box (wr.ownsRow w.heap.size 46 3 u3 (ptP P k ++ ptF (zf P k) k 0).length (Qk (ptP P k ++ ptF (zf P k) k 0))):=hid (by rw[zgW,List.append_nil];exact HR.o);have hcap:Box (∀ b,b<M→zaV P k+QY (zf P k) (b+1)≤4500):=hid fun b hb=>HS.o.cntF (f:=k) (by rw[← HN.o];exact hlt) (by rw[← HM.o];omega);clear B hMM HR;go_wp2_with fail;have HK0:=HK;clear HK
   go_loopw [3,26] (fun lv bv wr=>∃ b:Nat,b≤M∧bv=int i64 (b:Int)∧Box (wr.ownsRow w.heap.size 46 3 lv (ptP P k ++ ptF (zf P k) k b).length (Qk (ptP P k ++ ptF (zf P k) k b)))∧Box (za [] w wr)) (fun _ bv _=>M - (intOf bv).toNat)
   case atStart=>exact ⟨0,by omega,rfl,HR1,HK0⟩
   case round=>
    obtain ⟨b,hb,rfl,HR,HK⟩:=hrel;clear HR1 HK0 g2 g4;by_cases hlb:b<M
    ·have hlb':(b:Int)<(M:Int):=by omega
     have g4:=H4.o _ HK.o;have g2:=G2.o _ HK.o;obtain ⟨bb,bo,c,rfl,hc9,HCC,hcl⟩:=hsz.o b hlb;have HCL:=hid hcl;have hcall:=hid (hcl _ HK.o);have hcp:=hcap.o b hlb;rw[jr, ← HCC.o] at hcp;have HR2:Box (wr.ownsRow w.heap.size 46 3 u3 (ptP P k ++ ptF (zf P k) k b ++ ptB k b 0).length (Qk (ptP P k ++ ptF (zf P k) k b ++ ptB k b 0))):=hid (by rw[zbG,List.append_nil];exact HR.o);have HL:Box (∀ i,(ptP P k ++ ptF (zf P k) k b ++ ptB k b i).length=zaV P k+QY (zf P k) b+i):=hid fun i=>by
      rw[List.length_append,List.length_append,QT,zb2];rfl
     clear hcl HR;have hc1:(c:Int)+1≤4500:=by omega
     go_wp2_with (go_at_call 88;refine hcall.o.mono ?_;rintro e w' ⟨rfl,hw⟩;rw[hw];clear hw);have HK2:=HK;clear HK hcall
     go_loopw [3,40] (fun lv iv wr=>∃ i:Nat,i≤c+1∧iv=int i64 (i:Int)∧Box (wr.ownsRow w.heap.size 46 3 lv (ptP P k ++ ptF (zf P k) k b ++ ptB k b i).length (Qk (ptP P k ++ ptF (zf P k) k b ++ ptB k b i)))∧Box (za [] w wr)) (fun _ iv _=>c+1 - (intOf iv).toNat)
     case atStart=>exact ⟨0,by omega,rfl,HR2,HK2⟩
     case round=>
      obtain ⟨i,hi,rfl,HR,HK⟩:=hrel;clear HR2 HK2 g2 g4;by_cases hli:i<c+1
      ·have hli':(i:Int)<(c:Int)+1:=by omega
       have hn:Box ((ptP P k ++ ptF (zf P k) k b ++ ptB k b (i+1)).length=(ptP P k ++ ptF (zf P k) k b ++ ptB k b i).length+1∧Qk (ptP P k ++ ptF (zf P k) k b ++ ptB k b (i+1))=Qk (ptP P k ++ ptF (zf P k) k b ++ ptB k b i) ++ [int i64 (k:Int),int i64 (b:Int),int i64 (i:Int)]):=hid (by
        rw[HL.o,HL.o,ZI, ← List.append_assoc,zdA]
        exact ⟨by omega,rfl⟩)
       have hle:=HL.o i;have hks:=HK.o.size;generalize (ptP P k ++ ptF (zf P k) k b ++ ptB k b i).length=nn at HR hn hle;generalize Qk (ptP P k ++ ptF (zf P k) k b ++ ptB k b i)=xs at HR hn;go_wp2_with (at_builtin;go_must (refine wpList_append_own _ rfl _ _ 43 rfl w.heap.size 46 Tryz.t46 (agg #[int i64 0,int i64 0,int i64 0]) 3 24 zdM zji zjG zi5 zgR rfl (by decide) _ nn xs rfl (HR.o.alloc _) ⟨wr.heap.size,0,none⟩ 1 1 [int i64 (k:Int),int i64 (b:Int),int i64 (i:Int)] rfl rfl (World.news_of_block (cs:=#[int i64 (k:Int),int i64 (b:Int),int i64 (i:Int)]) (t:=46) (fr:=(0,0)) (heap_alloc_new wr _)) (zdR _ _ _) (by unfold maxLen;omega) (by omega) (by simp;omega) ?_;intro v' w3 hown3 hgrow3 hnil3));have hk3:za [] w w3:=(HK.o.quiet (za.alloc [] wr _)).appended HR.o hgrow3 (Nat.le_refl _);have HO3:=hid hown3;have HK3:=hid hk3;clear hgrow3 hnil3 hown3 hk3 HR HK;go_wp2_with fail;go_roundw
       case rel=>exact ⟨i+1,by omega,by go_num,hid (by rw[hn.o.1,hn.o.2];exact HO3.o),HK3⟩
       case measure=>simp[intOf];omega
      ·obtain rfl:i=c+1:=by omega
       have HR3:Box (wr.ownsRow w.heap.size 46 3 u3 (ptP P k ++ ptF (zf P k) k (b+1)).length (Qk (ptP P k ++ ptF (zf P k) k (b+1)))):=hid (by
        rw[qF, ← HCC.o, ← List.append_assoc]
        exact HR.o)
       clear HR;go_wp2_with fail;go_roundw
       case rel=>exact ⟨b+1,by omega,by go_num,HR3,HK⟩
       case measure=>simp[intOf];omega
    ·obtain rfl:b=M:=by omega
     have HR3:Box (wr.ownsRow w.heap.size 46 3 u3 (ptP P (k+1)).length (Qk (ptP P (k+1)))):=hid (by
      rw[j5, ← HM.o]
      exact HR.o)
     clear HR;go_wp2_with fail;go_roundw
     case rel=>exact ⟨k+1,by omega,by go_num,HR3,HK⟩
     case measure=>simp[intOf];omega
  ·obtain rfl:k=N:=by omega
   go_wp2_with fail;go_ret;obtain ⟨a,cp,e1,e2,e3,_⟩:=zgJ HR.o;have e5:ptP P k=pts P:=by unfold pts;rw[HN.o]
   rw[e5] at e1 e3;exact ⟨a,cp,congrArg Ending.returned e1,e3,HK.o⟩
structure Sm8 (P:Pr8):Prop where
 fn:P.funcs.length≤12
 bk:∀ f,f<P.funcs.length→(zf P f).blocks.length≤14
 pt:(pts P).length≤150
theorem Sm8.cntF(h:Sm8 P)(hf:f<P.funcs.length)(hb:b≤(zf P f).blocks.length):zaV P f+Go.Proofs.YtgmbkiagdhjpnaaGreatDoor.QY (zf P f) b≤150:=by
 have h1:=h.pt;rw[zbn] at h1;have h2:=zal P (show f+1≤P.funcs.length by omega);rw[ZJ] at h2;have h3:=za1 (zf P f) hb;omega
theorem Sm8.code(h:Sm8 P)(hf:f<P.funcs.length)(hb:b<(zf P f).blocks.length):(zA (zf P f) b).code.length≤149:=by
 have:=h.cntF hf (show b+1≤_ by omega);rw[jr] at this;omega
end Go.Proofs.YtgmbkiagdhjpnaaGreatDoor
