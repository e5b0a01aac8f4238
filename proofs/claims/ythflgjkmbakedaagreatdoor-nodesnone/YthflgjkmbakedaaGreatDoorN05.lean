import Derived.Laws.OwnMore
import Derived.OneCell
import Derived.Test.YthflgjkmbakedaaGreatDoorN04

namespace Go.Proofs.YthflgjkmbakedaaGreatDoor
open Go.RowKit
open Go.Value (int pointer agg)
open Go.IntKind (i64)
set_option maxHeartbeats 4000000
set_option maxRecDepth 20000
variable {F L:List Nat}{P:Pr8}{T:TypeId}{b hp i j n pb po tb:Nat}{f:Int}{sv:Value}{w w':World}
structure Sm8 (P:Pr8):Prop where
 fn:P.funcs.length≤12
 bk:∀ f,f<P.funcs.length→(zf P f).blocks.length≤14
 pt:(pts P).length≤150
theorem zeR(pb po fb fo fcp bb bo bcp N M f b:Nat)(w:World)(h4:w.cell? ⟨pb,po+4,none⟩=some (.slice (some ⟨fb,fo,none⟩) N fcp))(hf:f<N)(h2:w.cell? ⟨fb,fo+f * 3+2,none⟩=some (.slice (some ⟨bb,bo,none⟩) M bcp))(hb:b<M):
  Calls Tryz.prog 98 #[pointer (some ⟨pb,po,none⟩),int i64 (f:Int),int i64 (b:Int)] w fun e w'=>e=.returned (pointer (some ⟨bb,bo+b * 5,none⟩))∧w'=w:=by
 have g1:¬ (f:Int)<0:=by omega
 have g2:¬ (b:Int)<0:=by omega
 have g3:(f:Int)<(N:Int):=by omega
 have g4:(b:Int)<(M:Int):=by omega
 go_enter Tryz.func98,Tryz.ntmps98;go_wp2;go_ret;exact ⟨rfl,rfl⟩
theorem zbn(pb po fcp N:Nat)(fa:Option Addr)(f b:Int)(w:World)(h4:w.cell? ⟨pb,po+4,none⟩=some (.slice fa N fcp))(hf:f<0∨(N:Int)≤f):
  Calls Tryz.prog 98 #[pointer (some ⟨pb,po,none⟩),int i64 f,int i64 b] w fun e w'=>e=.returned (.pointer none)∧w'=w:=by
 by_cases g:f<0
 ·clear hf
  go_enter Tryz.func98,Tryz.ntmps98;go_wp2;go_ret;exact ⟨rfl,rfl⟩
 ·have g2:(N:Int)≤f:=by omega
  clear hf;go_enter Tryz.func98,Tryz.ntmps98;go_wp2;go_ret;exact ⟨rfl,rfl⟩
theorem zbO(pb po fb fo fcp bcp N M f:Nat)(ba:Option Addr)(b:Int)(w:World)(h4:w.cell? ⟨pb,po+4,none⟩=some (.slice (some ⟨fb,fo,none⟩) N fcp))(hf:f<N)(h2:w.cell? ⟨fb,fo+f * 3+2,none⟩=some (.slice ba M bcp))(hb:b<0∨(M:Int)≤b):
  Calls Tryz.prog 98 #[pointer (some ⟨pb,po,none⟩),int i64 (f:Int),int i64 b] w fun e w'=>e=.returned (.pointer none)∧w'=w:=by
 have g1:¬ (f:Int)<0:=by omega
 have g3:(f:Int)<(N:Int):=by omega
 by_cases g:b<0
 ·clear hb
  go_enter Tryz.func98,Tryz.ntmps98;go_wp2;go_ret;exact ⟨rfl,rfl⟩
 ·have g2:(M:Int)≤b:=by omega
  clear hb;go_enter Tryz.func98,Tryz.ntmps98;go_wp2;go_ret;exact ⟨rfl,rfl⟩
abbrev zhP (P:Pr8) (f b:Int):Prop:=0≤f∧f<(P.funcs.length:Int)∧0≤b∧b<((zf P f.toNat).blocks.length:Int)
theorem J9(h:PrC w pb po P){b:Int}(hb:zhP P f b):∃ q o,BlC w q o (zq (zf P f.toNat) b.toNat)∧Calls Tryz.prog 98 #[pointer (some ⟨pb,po,none⟩),int i64 f,int i64 b] w fun e w'=>e=.returned (pointer (some ⟨q,o,none⟩))∧w'=w:=by
 obtain ⟨h1,h2,h3,h4⟩:=hb;obtain ⟨fa,fcp,H⟩:=h.fns;obtain ⟨fb,fo,ba,bcp,rfl,B⟩:=H.at (f:=f.toNat) (by omega);obtain ⟨bb,bo,rfl,L⟩:=B.at (b:=b.toNat) (by omega);refine ⟨bb,bo+b.toNat * 5,L,?_⟩;have:=zeR pb po fb fo fcp bb bo bcp _ _ f.toNat b.toNat w H.cell (by omega) B.cell (by omega);rw[show ((f.toNat:Nat):Int)=f by omega,show ((b.toNat:Nat):Int)=b by omega] at this;exact this
theorem zeX(h:PrC w pb po P){b:Int}(hb:¬ zhP P f b):Calls Tryz.prog 98 #[pointer (some ⟨pb,po,none⟩),int i64 f,int i64 b] w fun e w'=>e=.returned (.pointer none)∧w'=w:=by
 obtain ⟨fa,fcp,H⟩:=h.fns;by_cases hf:f<0∨(P.funcs.length:Int)≤f
 ·exact zbn pb po fcp _ fa f b w H.cell hf
 ·obtain ⟨fb,fo,ba,bcp,rfl,B⟩:=H.at (f:=f.toNat) (by omega)
  have hb':b<0∨(((zf P f.toNat).blocks.length:Nat):Int)≤b:=by
   apply Classical.byContradiction;intro hn;exact hb ⟨by omega,by omega,by omega,by omega⟩
  have:=zbO pb po fb fo fcp bcp _ _ f.toNat ba b w H.cell (by omega) B.cell hb';rw[show ((f.toNat:Nat):Int)=f by omega] at this;exact this
theorem Sm8.cntF(h:Sm8 P){f:Nat}(hf:f<P.funcs.length)(hb:b≤(zf P f).blocks.length):JG P f+Go.Proofs.YthflgjkmbakedaaGreatDoor.ZZ (zf P f) b≤150:=by
 have h1:=h.pt;rw[zaf] at h1;have h2:=Js P (show f+1≤P.funcs.length by omega);rw[jR] at h2;have h3:=Jf (zf P f) hb;omega
theorem Sm8.code(h:Sm8 P){f:Nat}(hf:f<P.funcs.length)(hb:b<(zf P f).blocks.length):(zq (zf P f) b).code.length≤149:=by
 have:=h.cntF hf (show b+1≤_ by omega);rw[qO] at this;omega
theorem Jg(x:Fu8)(ba:Option Addr)(n cp:Nat)(w:World)(hr:zv w 5 BlC ba x.blocks)(hn:n≤x.blocks.length)(hs:ZZ x n≤150):
  Calls Tryz.prog 153 #[.slice ba n cp] w fun e w'=>e=.returned (int i64 (ZZ x n:Int))∧w'=w:=by
 have HR:=hid hr;have HN:=hid hn;have HS:=hid hs;have hm:n≤150:=by
  have:∀ m,m≤ZZ x m:=by
   intro m
   induction m with
   | zero=>exact Nat.zero_le _
   | succ m ih=>rw[qO];omega
  have:=this n;omega
 have hm1:(n:Int)≤150:=by omega
 clear hr hn hs;go_enter Tryz.func153,Tryz.ntmps153;go_wp2
 go_loop [3,7] (fun s i=>∃ k:Nat,k≤n∧i=int i64 (k:Int)∧s=int i64 (ZZ x k:Int)) (fun _ i=>n - (intOf i).toNat)
 case atStart=>exact ⟨0,by omega,rfl,rfl⟩
 case round=>
  obtain ⟨k,hk,rfl,rfl⟩:=hrel;by_cases hlt:k<n
  ·have hlt':(k:Int)<(n:Int):=by omega
   have hk0:(0:Int)≤(k:Int):=by omega
   have e0:x.blocks[k]? = some (zq x k):=zi (by have:=HN.o;omega);obtain ⟨bb,bo,rfl,L⟩:=HR.o.at e0;obtain ⟨ca,ccp,hc,_⟩:=L.c0;have hs:=qO x k;have hle:ZZ x (k+1)≤150:=Nat.le_trans (Jf x (by omega)) HS.o;have hcall:=hid (Z1 bb (bo+k * 5) _ ccp ca w hc (by omega));clear L e0 hc;generalize (zq x k).code.length=c at hs hcall;generalize hA:ZZ x k=A at *;generalize hB:ZZ x (k+1)=B at *;have HB:=hid hB;have HS2:=hid hs;have w1:((A:Nat):Int)+((c+1:Nat):Int)=((B:Nat):Int):=by omega
   have w2:(B:Int)≤150:=by omega
   have w3:(0:Int)≤(B:Int):=by omega
   have w4:IntKind.i64.wrap ((A:Int)+((c+1:Nat):Int))=(B:Int):=by rw[w1];exact IntWalk.i64_in _ (by omega)
   clear hB hs hA;go_wp2_with (go_at_call 99;refine hcall.o.mono ?_;rintro e w' ⟨rfl,rfl⟩)
   go_round
   case rel=>exact ⟨k+1,by omega,by go_num,by rw[HB.o];first | rfl | go_num | (congr 1;omega)⟩
   case measure=>simp[intOf];omega
  ·obtain rfl:k=n:=by omega
   go_wp2;go_ret;exact ⟨rfl,rfl⟩
def Za{α:Type}(f:α→Value × Value × Value)(l:List α):List Value:=l.flatMap fun x=>[(f x).1,(f x).2.1,(f x).2.2]
theorem jq{α:Type}(f:α→Value × Value × Value)(x:α)(l:List α):Za f (x :: l)=[(f x).1,(f x).2.1,(f x).2.2] ++ Za f l:=rfl
theorem zdz{α:Type}(f:α→Value × Value × Value)(l:List α)(x:α):Za f (l ++ [x])=Za f l ++ [(f x).1,(f x).2.1,(f x).2.2]:=by
 unfold Za;rw[List.flatMap_append];rfl
theorem ze0{α:Type}(f:α→Value × Value × Value)(l:List α):(Za f l).length=l.length * 3:=by
 induction l with
 | nil=>rfl
 | cons q l ih=>
  rw[jq,List.length_append,ih,List.length_cons];show 3+l.length * 3=(l.length+1) * 3;omega
theorem jv{α:Type}(f:α→Value × Value × Value)(l:List α):∀ (j:Nat) (x:α),l[j]? = some x→(Za f l)[j * 3]? = some (f x).1∧(Za f l)[j * 3+1]? = some (f x).2.1∧(Za f l)[j * 3+2]? = some (f x).2.2:=by
 induction l with
 | nil=>intro j q h;simp at h
 | cons p l ih=>
  intro j x h;cases j with
  | zero=>
   simp at h;subst h;rw[jq];exact ⟨rfl,rfl,rfl⟩
  | succ j=>
   have h':=ih j x (by simpa using h);rw[jq,show (j+1) * 3=j * 3+3 by omega];refine ⟨?_,?_,?_⟩ <;> rw[List.getElem?_append_right (by simp)]
   ·exact h'.1
   ·rw[show j * 3+3+1 - [(f p).1,(f p).2.1,(f p).2.2].length=j * 3+1 by simp]
    exact h'.2.1
   ·rw[show j * 3+3+2 - [(f p).1,(f p).2.1,(f p).2.2].length=j * 3+2 by simp]
    exact h'.2.2
theorem ZA{α:Type}(f:α→Value × Value × Value)(l:List α):∀ (j:Nat) (x y:α),l[j]? = some x→Za f (l.set j y)=(((Za f l).set (j * 3) (f y).1).set (j * 3+1) (f y).2.1).set (j * 3+2) (f y).2.2:=by
 induction l with
 | nil=>intro j x y h;simp at h
 | cons p l ih=>
  intro j x y h;cases j with
  | zero=>rfl
  | succ j=>
   rw[List.set_cons_succ,jq,jq,ih j x y (by simpa using h),show (j+1) * 3=j * 3+3 by omega];simp[List.set_cons_succ]
theorem Z6{l:List Value}{v:Value}(h:l[i]? = some v):l.set i v=l:=by
 apply List.ext_getElem?;intro k;rw[List.getElem?_set];split
 ·rename_i e
  subst e;split
  ·exact h.symm
  ·rename_i hn
   rw[List.getElem?_eq_none (by omega)]
 ·rfl
theorem zd6{α:Type}(f:α→Value × Value × Value){l:List α}{x y:α}(h:l[j]? = some x)(e:f y=f x):Za f (l.set j y)=Za f l:=by
 obtain ⟨h0,h1,h2⟩:=jv f l j x h;rw[ZA f l j x y h,e,Z6 h0,Z6 h1,Z6 h2]
abbrev V3:Type:=Int × Int × Bool
def v3(x:V3):Value × Value × Value:=(int i64 x.1,int i64 x.2.1,.bool x.2.2)
abbrev vlV (x:V3):Value:=agg #[int i64 x.1,int i64 x.2.1,.bool x.2.2]
structure Ob where
 site:Int
 free:Bool
 fs:Value
 vs:List V3
def ob3(o:Ob):Value × Value × Value:=(int i64 o.site,.bool o.free,o.fs)
structure Obs (w:World) (T:TypeId) (f:Ob→Value × Value × Value) (sv:Value) (os:List Ob) (F:List Nat):Prop where
 own:w.ownsRow 0 T 3 sv os.length (Za f os)
 fld:∀ (j:Nat) (o:Ob),os[j]? = some o→w.ownsRow 0 30 3 o.fs o.vs.length (Za v3 o.vs)
 apart:∀ (i j:Nat) (o p:Ob) (k:Nat),os[i]? = some o→os[j]? = some p→o.fs.ownBlock=some k→p.fs.ownBlock=some k→i=j
 row:∀ k,sv.ownBlock=some k→k∈F
 fin:∀ (j:Nat) (o:Ob) (k:Nat),os[j]? = some o→o.fs.ownBlock=some k→k∈F
 lt:∀ x,x∈F→x<w.heap.size
theorem Obs.kept{f:Ob→Value × Value × Value}{os:List Ob}(h:Obs w T f sv os F)(k:za L w w')(hL:∀ x,x∈F→x ∉ L):Obs w' T f sv os F:=
 ⟨zh h.own k (fun b hb=>hL b (h.row b hb)),fun j o hj=>zh (h.fld j o hj) k (fun b hb=>hL b (h.fin j o b hj hb)),h.apart,h.row,h.fin,fun x hx=>Nat.lt_of_lt_of_le (h.lt x hx) k.size⟩
theorem Obs.quiet{f:Ob→Value × Value × Value}{os:List Ob}(h:Obs w T f sv os F)(k:za [] w w'):Obs w' T f sv os F:=h.kept k fun _ _=>by simp
theorem Obs.at{f:Ob→Value × Value × Value}{os:List Ob}(h:Obs w T f sv os F){o:Ob}(hj:os[j]? = some o):
  ∃ g cap,sv=.slice (some ⟨g,0,none⟩) os.length cap∧os.length≤cap∧j<os.length∧w.cell? ⟨g,j * 3,none⟩=some (f o).1∧w.cell? ⟨g,j * 3+1,none⟩=some (f o).2.1∧w.cell? ⟨g,j * 3+2,none⟩=some (f o).2.2∧(∀ i,w.frozen? ⟨g,i,none⟩=false)∧g<w.heap.size:=by
 have hlt:=(List.getElem?_eq_some_iff.1 hj).1;rcases h.own.2 with ⟨_,h0⟩ | ⟨g,cap,cur,hv,_,hg,hn,_⟩
 ·omega
 ·have own:=h.own
  rw[hv] at own;obtain ⟨g0,g1,g2⟩:=jv f os j o hj;exact ⟨g,cap,hv,hn,hlt,(own.cellAt _ (by omega)).trans g0,(own.cellAt _ (by omega)).trans g1,(own.cellAt _ (by omega)).trans g2,own.frozenAt,zx hg⟩
theorem Obs.field{f:Ob→Value × Value × Value}{os:List Ob}(h:Obs w T f sv os F){o:Ob}(hj:os[j]? = some o){v:V3}(hi:o.vs[i]? = some v):
  ∃ b cap,o.fs=.slice (some ⟨b,0,none⟩) o.vs.length cap∧b∈F∧w.cell? ⟨b,i * 3,none⟩=some (v3 v).1∧w.cell? ⟨b,i * 3+1,none⟩=some (v3 v).2.1∧w.cell? ⟨b,i * 3+2,none⟩=some (v3 v).2.2∧(∀ i,w.frozen? ⟨b,i,none⟩=false):=by
 have hlt:=(List.getElem?_eq_some_iff.1 hi).1;have own:=h.fld j o hj;rcases own.2 with ⟨_,h0⟩ | ⟨g,cap,cur,hv,_,hg,hn,_⟩
 ·omega
 ·have hin:=h.fin j o g hj (by rw[hv];rfl)
  rw[hv] at own;obtain ⟨g0,g1,g2⟩:=jv v3 o.vs i v hi;exact ⟨g,cap,hv,hin,(own.cellAt _ (by omega)).trans g0,(own.cellAt _ (by omega)).trans g1,(own.cellAt _ (by omega)).trans g2,own.frozenAt⟩
theorem Obs.len{f:Ob→Value × Value × Value}{os:List Ob}(h:Obs w T f sv os F):∃ a cap,sv=.slice a os.length cap∧os.length≤cap:=by
 rcases h.own.2 with ⟨hv,h0⟩ | ⟨g,cap,cur,hv,_,_,hn,_⟩
 ·exact ⟨none,0,by rw[hv,h0],by omega⟩
 ·exact ⟨_,cap,hv,hn⟩
theorem zd2{base base':Nat}{U:TypeId}{c c':Nat}{v u:Value}{m:Nat}{xs ys:List Value}(h:w.ownsRow base T c v n xs)(h':w.ownsRow base' U c' u m ys)(hne:T≠U){k:Nat}(hv:v.ownBlock=some k):u.ownBlock≠some k:=by
 intro hu;rcases h.2 with ⟨rfl,_⟩ | ⟨g,cap,cur,rfl,_,hg,_⟩
 ·simp[Value.ownBlock] at hv
 ·rcases h'.2 with ⟨rfl,_⟩ | ⟨g',cap',cur',rfl,_,hg',_⟩
  ·simp[Value.ownBlock] at hu
  ·simp[Value.ownBlock] at hv hu
   subst hv;subst hu;rw[hg] at hg';simp at hg';exact hne hg'.2
theorem Obs.put{f:Ob→Value × Value × Value}{os:List Ob}(h:Obs w T f sv os F)(hT:30≠T)(hf:∀ o vs,f { o with vs:=vs }=f o){o:Ob}(hj:os[j]? = some o){v:V3}(hi:o.vs[i]? = some v){cap:Nat}(hb:o.fs=.slice (some ⟨b,0,none⟩) o.vs.length cap)(u:V3):
  Obs (((w.setCell ⟨b,i * 3,none⟩ (v3 u).1).setCell ⟨b,i * 3+1,none⟩ (v3 u).2.1).setCell ⟨b,i * 3+2,none⟩ (v3 u).2.2) T f sv (os.set j { o with vs:=o.vs.set i u }) F:=by
 have own:=h.fld j o hj;have hob:o.fs.ownBlock=some b:=by rw[hb];rfl
 have hjl:=(List.getElem?_eq_some_iff.1 hj).1;have kk:za [b] w (((w.setCell ⟨b,i * 3,none⟩ (v3 u).1).setCell ⟨b,i * 3+1,none⟩ (v3 u).2.1).setCell ⟨b,i * 3+2,none⟩ (v3 u).2.2):=
  ((za.setCell [b] _ _ _ (List.mem_singleton.2 rfl)).step (za.setCell [b] _ _ _ (List.mem_singleton.2 rfl))).step (za.setCell [b] _ _ _ (List.mem_singleton.2 rfl))
 have own':=own;rw[hb] at own';have o3:=(((own'.stored (i * 3) (v3 u).1).1.stored (i * 3+1) (v3 u).2.1).1.stored (i * 3+2) (v3 u).2.2).1;rw[← ZA v3 o.vs i v u hi, ← hb] at o3;have each:∀ (m:Nat) (p:Ob),(os.set j { o with vs:=o.vs.set i u })[m]? = some p→(m=j∧p={ o with vs:=o.vs.set i u })∨(m≠j∧os[m]? = some p):=fun m p hm=>by
  by_cases e:j=m
  ·subst e
   rw[List.getElem?_set_self hjl] at hm;exact .inl ⟨rfl,by simpa using hm.symm⟩
  ·rw[List.getElem?_set_ne e] at hm
   exact .inr ⟨fun e'=>e e'.symm,hm⟩
 refine ⟨?_,fun m p hm=> ?_,fun m n p q k hm hn h1 h2=> ?_,h.row,fun m p k hm hk=> ?_,fun x hx=>Nat.lt_of_lt_of_le (h.lt x hx) kk.size⟩
 ·rw[List.length_set,zd6 f hj (hf o _)]
  exact zh h.own kk (fun c hc hm=>by
   rw[List.mem_singleton] at hm;subst hm
   exact zd2 own h.own hT hob hc)
 ·rcases each m p hm with ⟨rfl,rfl⟩ | ⟨hne,hp⟩
  ·rw[List.length_set]
   exact o3
  ·exact zh (h.fld m p hp) kk (fun c hc hx=>by
    rw[List.mem_singleton] at hx;subst hx
    exact hne (h.apart m j p o c hp hj hc hob))
 ·have back:∀ (m:Nat) (p:Ob),(os.set j { o with vs:=o.vs.set i u })[m]? = some p→∃ q,os[m]? = some q∧q.fs=p.fs:=fun m p hm=>by
   rcases each m p hm with ⟨rfl,rfl⟩ | ⟨_,hp⟩
   ·exact ⟨o,hj,rfl⟩
   ·exact ⟨p,hp,rfl⟩
  obtain ⟨p',a1,a2⟩:=back m p hm;obtain ⟨q',b1,b2⟩:=back n q hn;exact h.apart m n p' q' k a1 b1 (by rw[a2];exact h1) (by rw[b2];exact h2)
 ·rcases each m p hm with ⟨rfl,rfl⟩ | ⟨_,hp⟩
  ·exact h.fin m o k hj hk
  ·exact h.fin m p k hp hk
theorem Obs.turn{f:Ob→Value × Value × Value}{os:List Ob}(h:Obs w T f sv os F)(hT:T≠30){o o':Ob}(hj:os[j]? = some o)(k:za sv.ownBlock.toList w w')(own:w'.ownsRow 0 T 3 sv os.length (Za f (os.set j o')))(hf:(o'.fs=o.fs∧o'.vs=o.vs)∨(o'.fs=.slice none 0 0∧o'.vs=[])):Obs w' T f sv (os.set j o') F:=by
 have hjl:=(List.getElem?_eq_some_iff.1 hj).1;have each:∀ (m:Nat) (p:Ob),(os.set j o')[m]? = some p→(m=j∧p=o')∨(m≠j∧os[m]? = some p):=fun m p hm=>by
  by_cases e:j=m
  ·subst e
   rw[List.getElem?_set_self hjl] at hm;exact .inl ⟨rfl,by simpa using hm.symm⟩
  ·rw[List.getElem?_set_ne e] at hm
   exact .inr ⟨fun e'=>e e'.symm,hm⟩
 have back:∀ (m:Nat) (p:Ob) (c:Nat),(os.set j o')[m]? = some p→p.fs.ownBlock=some c→∃ q,os[m]? = some q∧q.fs=p.fs∧q.vs=p.vs:=fun m p c hm hc=>by
  rcases each m p hm with ⟨rfl,rfl⟩ | ⟨_,hp⟩
  ·rcases hf with ⟨e1,e2⟩ | ⟨e1,_⟩
   ·exact ⟨o,hj,e1.symm,e2.symm⟩
   ·rw[e1] at hc
    simp[Value.ownBlock] at hc
  ·exact ⟨p,hp,rfl,rfl⟩
 have fkeep:∀ (m:Nat) (p:Ob),os[m]? = some p→w'.ownsRow 0 30 3 p.fs p.vs.length (Za v3 p.vs):=fun m p hp=>
  zh (h.fld m p hp) k (fun c hc hx=>zd2 h.own (h.fld m p hp) hT (by simpa using hx) hc)
 refine ⟨by rw[List.length_set];exact own,fun m p hm=> ?_,fun m n p q c hm hn h1 h2=> ?_,h.row,fun m p c hm hc=> ?_,fun x hx=>Nat.lt_of_lt_of_le (h.lt x hx) k.size⟩
 ·rcases each m p hm with ⟨rfl,rfl⟩ | ⟨_,hp⟩
  ·rcases hf with ⟨e1,e2⟩ | ⟨e1,e2⟩
   ·rw[e1,e2]
    exact fkeep m o hj
   ·rw[e1,e2]
    exact World.ownsRow_nil _ _ _ _
  ·exact fkeep m p hp
 ·obtain ⟨p',a1,a2,_⟩:=back m p c hm h1
  obtain ⟨q',b1,b2,_⟩:=back n q c hn h2;exact h.apart m n p' q' c a1 b1 (by rw[a2];exact h1) (by rw[b2];exact h2)
 ·obtain ⟨p',a1,a2,_⟩:=back m p c hm hc
  exact h.fin m p' c a1 (by rw[a2];exact hc)
theorem Obs.push{wa:World}{f:Ob→Value × Value × Value}{sv':Value}{os:List Ob}(h:Obs w T f sv os F)(hT:T≠30)(ka:za [] w wa){o:Ob}(ho:wa.ownsRow 0 30 3 o.fs o.vs.length (Za v3 o.vs))(hnew:∀ k,o.fs.ownBlock=some k→k ∉ F)(own:w'.ownsRow 0 T 3 sv' (os.length+1) (Za f (os ++ [o])))(hg:wa.grownBy w' sv.ownBlock):
  Obs w' T f sv' (os ++ [o]) (F ++ (sv'.ownBlock.toList ++ o.fs.ownBlock.toList)):=by
 have h1:=h.quiet ka;have kk:za sv.ownBlock.toList wa w':=za.grown _ hg (fun x hx=>by rw[hx];simp);have each:∀ (m:Nat) (p:Ob),(os ++ [o])[m]? = some p→(m=os.length∧p=o)∨os[m]? = some p:=fun m p hm=>by
  by_cases e:m<os.length
  ·rw[List.getElem?_append_left e] at hm
   exact .inr hm
  ·rw[List.getElem?_append_right (by omega)] at hm
   have e0:m - os.length=0:=by
    apply Classical.byContradiction;intro hne;rw[List.getElem?_eq_none (by simp;omega)] at hm;cases hm
   rw[e0] at hm;exact .inl ⟨by omega,by simpa using hm.symm⟩
 have hown':∀ {v:Value}{n:Nat}{xs:List Value},wa.ownsRow 0 30 3 v n xs→w'.ownsRow 0 30 3 v n xs:=fun hv=>
  zh hv kk (fun c hc hx=>zd2 h1.own hv hT (by simpa using hx) hc)
 refine ⟨by rw[List.length_append];exact own,fun m p hm=> ?_,fun m n p q c hm hn a1 a2=> ?_,fun k hk=>by simp[hk],fun m p c hm hc=> ?_,fun x hx=> ?_⟩
 ·rcases each m p hm with ⟨_,rfl⟩ | hp
  ·exact hown' ho
  ·exact hown' (h1.fld m p hp)
 ·rcases each m p hm with ⟨e1,rfl⟩ | hp
  ·rcases each n q hn with ⟨e2,_⟩ | hq
   ·omega
   ·exact absurd (h.fin n q c hq a2) (hnew c a1)
  ·rcases each n q hn with ⟨e2,rfl⟩ | hq
   ·exact absurd (h.fin m p c hp a1) (hnew c a2)
   ·exact h.apart m n p q c hp hq a1 a2
 ·rcases each m p hm with ⟨_,rfl⟩ | hp
  ·simp[hc]
  ·exact List.mem_append_left _ (h.fin m p c hp hc)
 ·rcases List.mem_append.1 hx with hx | hx
  ·exact Nat.lt_of_lt_of_le (h1.lt x hx) kk.size
  ·rcases List.mem_append.1 hx with hx | hx
   ·exact (own.lt x (by simpa using hx)).2
   ·exact Nat.lt_of_lt_of_le (ho.lt x (by simpa using hx)).2 kk.size
structure HpV (w:World) (hp:Nat) (sv:Value) (os:List Ob) (F:List Nat):Prop where
 box:w.heap[hp]? = some (.cells #[sv] 161 (0,0))
 hin:hp∈F
 obs:Obs w 304 ob3 sv os F
def Hp(w:World)(hp:Nat)(os:List Ob)(F:List Nat):Prop:=∃ sv,HpV w hp sv os F
theorem HpV.kept{os:List Ob}(h:HpV w hp sv os F)(k:za L w w')(hL:∀ x,x∈F→x ∉ L):HpV w' hp sv os F:=
 ⟨by rw[k.block hp (zx h.box) (hL hp h.hin)];exact h.box,h.hin,h.obs.kept k hL⟩
theorem Hp.kept{os:List Ob}(h:Hp w hp os F)(k:za L w w')(hL:∀ x,x∈F→x ∉ L):Hp w' hp os F:=by
 obtain ⟨sv,h⟩:=h;exact ⟨sv,h.kept k hL⟩
theorem Hp.quiet{os:List Ob}(h:Hp w hp os F)(k:za [] w w'):Hp w' hp os F:=h.kept k fun _ _=>by simp
theorem Hp.lt{os:List Ob}(h:Hp w hp os F):∀ x,x∈F→x<w.heap.size:=by
 obtain ⟨sv,h⟩:=h;exact h.obs.lt
def jx(w:World)(F F':List Nat):Prop:=∀ x,x∈F'→x∈F∨w.heap.size≤x
theorem zeU(h:PrC w pb po P)(hs:Sm8 P)(f b:Nat)(hf:f<P.funcs.length)(hb:b<(zf P f).blocks.length):
  Calls Tryz.prog 100 #[pointer (some ⟨pb,po,none⟩),int i64 (f:Int),int i64 (b:Int)] w fun e w'=>e=.returned (int i64 (J4 P f b 0:Int))∧w'=w:=by
 obtain ⟨fa,fcp,H⟩:=h.fns;obtain ⟨fb,fo,ba,bcp,rfl,B⟩:=H.at hf;obtain ⟨bb,bo,rfl,L⟩:=B.at hb;have h4:=H.cell;have h2:=B.cell;have hN:=hs.fn;have hM:=hs.bk f hf;have hsum:=hs.cntF hf (show b≤_ by omega);have hlast:=hid (Jg (zf P f) (some ⟨bb,bo,none⟩) b bcp w B.rows (by omega) (by omega));have hpos:J4 P f b 0=JG P f+ZZ (zf P f) b:=by rw[zeN];rfl
 have hcap:=B.cap;have hmid:Box (∀ k,k<f→∃ ka kcp,w.cell? ⟨fb,fo+k * 3+2,none⟩=some (.slice ka (zf P k).blocks.length kcp)∧Calls Tryz.prog 153 #[.slice ka (zf P k).blocks.length kcp] w fun e w'=>e=.returned (int i64 (ZZ (zf P k) (zf P k).blocks.length:Int))∧w'=w):=hid fun k hk=>by
  obtain ⟨fb',fo',ka,kcp,e,K⟩:=H.at (f:=k) (by omega);simp only[Option.some.injEq,Addr.mk.injEq,and_true] at e;obtain ⟨rfl,rfl⟩:=e;exact ⟨ka,kcp,K.cell,Jg (zf P k) ka _ kcp w K.rows (Nat.le_refl _) (by have:=hs.cntF (f:=k) (by omega) (Nat.le_refl _);omega)⟩
 have hall:Box (∀ k,k<f→JG P (k+1)≤150):=hid fun k hk=>by
  have h1:=hs.pt;rw[zaf] at h1;exact Nat.le_trans (Js P (by omega)) h1
 rw[hpos];clear hpos h H B L hs;generalize hfn:P.funcs.length=N at *;generalize hbn:(zf P f).blocks.length=M at *;clear hfn hbn;have gf:(f:Int)<(N:Int):=by omega
 have gf0:(0:Int)≤(f:Int):=by omega
 have gN:(f:Int)≤12:=by omega
 have gb:(b:Int)≤(M:Int):=by omega
 have gb0:(0:Int)≤(b:Int):=by omega
 have gM:(b:Int)≤14:=by omega
 have gc:(b:Int)≤(bcp:Int):=by omega
 go_enter Tryz.func100,Tryz.ntmps100;go_wp2
 go_loop [7,10] (fun s i=>∃ k:Nat,k≤f∧i=int i64 (k:Int)∧s=int i64 (JG P k:Int)) (fun _ i=>f - (intOf i).toNat)
 case atStart=>exact ⟨0,by omega,rfl,rfl⟩
 case round=>
  obtain ⟨k,hk,rfl,rfl⟩:=hrel;by_cases hlt:k<f
  ·have hlt':(k:Int)<(f:Int):=by omega
   have hlN:k<N:=by omega
   have hlN':(k:Int)<(N:Int):=by omega
   obtain ⟨ka,kcp,hc,hcl⟩:=hmid.o k hlt;have hcall:=hid hcl;have hs:=jR P k;have hle:=hall.o k hlt;clear hcl;generalize (zf P k).blocks.length=m at *;generalize ZZ (zf P k) m=c at hs hcall;generalize hA:JG P k=A at *;generalize hB:JG P (k+1)=B at *;have HB:=hid hB;have w1:((A:Nat):Int)+((c:Nat):Int)=((B:Nat):Int):=by omega
   have w2:(B:Int)≤150:=by omega
   have w3:(0:Int)≤(B:Int):=by omega
   have w4:IntKind.i64.wrap ((A:Int)+(c:Int))=(B:Int):=by rw[w1];exact IntWalk.i64_in _ (by omega)
   clear hB hs hA hle;go_wp2_with (go_at_call 153;refine hcall.o.mono ?_;rintro e w' ⟨rfl,rfl⟩)
   go_round
   case rel=>exact ⟨k+1,by omega,by go_num,by rw[HB.o]⟩
   case measure=>simp[intOf];omega
  ·obtain rfl:k=f:=by omega
   generalize hC:ZZ (zf P k) b=c at *;generalize hA:JG P k=A at *;have HC:=hid hC;have HA:=hid hA;clear hC hA;have w2:((A+c:Nat):Int)≤150:=by omega
   have w3:(0:Int)≤((A+c:Nat):Int):=by omega
   have w4:IntKind.i64.wrap ((A:Int)+(c:Int))=((A+c:Nat):Int):=by rw[show (A:Int)+(c:Int)=((A+c:Nat):Int) by omega];exact IntWalk.i64_in _ (by omega)
   go_wp2_with (go_at_call 153;refine hlast.o.mono ?_;rintro e w' ⟨rfl,rfl⟩);go_ret;exact ⟨by rw[HC.o,HA.o,Int.natCast_add];rfl,rfl⟩
def zjj(P:Pr8)(f b i:Int):Int:=if zhP P f b then (if 0≤i∧i≤((zq (zf P f.toNat) b.toNat).code.length:Int) then (J4 P f.toNat b.toNat i.toNat:Int) else -1) else -1
theorem zdV(h:PrC w pb po P)(o:Obj):PrC (w.alloc o) pb po P:=PrC.stays _ _ _ _ _ (za.alloc [] w o) h
theorem zdq(h:PrC w pb po P)(f b i:Int)(hn:¬ zhP P f b):Calls Tryz.prog 60 #[pointer (some ⟨pb,po,none⟩),ptV f b i] w fun e w'=>e=.returned (int i64 (-1))∧za [] w w':=by
 have hb:=hid fun o=>zeX (zdV h o) hn;unfold ptV;clear h hn;go_enter Tryz.func60,Tryz.ntmps60;go_wp2_with (go_at_call 98;refine (hb.o _).mono ?_;rintro e w' ⟨rfl,rfl⟩);go_quiet (fail);go_wp2_with fail;go_ret;exact ⟨rfl,(za.alloc [] _ _).quiet (za.drewN [] _ _)⟩
theorem zbG(h:PrC w pb po P)(hs:Sm8 P)(f b i:Int)(hb:zhP P f b)(hi:¬ (0≤i∧i≤((zq (zf P f.toNat) b.toNat).code.length:Int))):Calls Tryz.prog 60 #[pointer (some ⟨pb,po,none⟩),ptV f b i] w fun e w'=>e=.returned (int i64 (-1))∧za [] w w':=by
 unfold ptV;obtain ⟨W,hW⟩:∃ W,W=w.alloc (.cells #[int i64 f,int i64 b,int i64 i] 99):=⟨_,rfl⟩;have K0:=hid (show za [] w W by rw[hW];exact za.alloc _ _ _);have hP:PrC W pb po P:=PrC.stays _ _ _ _ _ K0.o h;have c0:W.cell? ⟨w.heap.size,0,none⟩=some (int i64 f):=by rw[hW,World.cell?_alloc_at _ _ _ _ rfl];rfl
 have c1:W.cell? ⟨w.heap.size,1,none⟩=some (int i64 b):=by rw[hW,World.cell?_alloc_at _ _ _ _ rfl];rfl
 have c2:W.cell? ⟨w.heap.size,2,none⟩=some (int i64 i):=by rw[hW,World.cell?_alloc_at _ _ _ _ rfl];rfl
 obtain ⟨q,o,L,hc⟩:=J9 hP hb;have hblk:=hid hc;obtain ⟨ca,ccp,hcc,_⟩:=L.c0;have hcode:=hs.code (f:=f.toNat) (b:=b.toNat) (by have:=hb.1;have:=hb.2.1;omega) (by have:=hb.2.2;omega);generalize (zq (zf P f.toNat) b.toNat).code.length=n at *;have hsz:=hid fun (w':World) (e:w'.cell? ⟨q,o,none⟩=some (.slice ca n ccp))=>Z1 q o n ccp ca w' e (by omega);have HW:=hid hW;clear h hs hb hP L hc hW;have g3:((n+1:Nat):Int)≤150:=by omega
 by_cases g:i<0
 ·clear hi
  go_enter Tryz.func60,Tryz.ntmps60;go_wp2_with fail;rw[← HW.o];clear HW;generalize w.heap.size=z at *;go_wp2_with (go_at_call 98;refine hblk.o.mono ?_;rintro e w' ⟨rfl,rfl⟩);go_quiet (fail);go_wp2_with fail;go_ret;exact ⟨rfl,K0.o.quiet (za.drewN [] _ _)⟩
 ·have g2:((n+1:Nat):Int)≤i:=by omega
  have g4:(n:Int)+1≤i:=by omega
  clear hi;go_enter Tryz.func60,Tryz.ntmps60;go_wp2_with fail;rw[← HW.o];clear HW;generalize w.heap.size=z at *;go_wp2_with (go_at_call 98;refine hblk.o.mono ?_;rintro e w' ⟨rfl,rfl⟩);go_quiet ((go_at_call 99;exact Calls.quiet_of_same (hsz.o _ hcc)));go_wp2_with fail;go_ret;exact ⟨rfl,K0.o.quiet (za.drewN [] _ _)⟩
theorem zds(h:PrC w pb po P)(hs:Sm8 P)(f b i:Nat)(hp:ZB P f b i):Calls Tryz.prog 60 #[pointer (some ⟨pb,po,none⟩),ptV f b i] w fun e w'=>e=.returned (int i64 (J4 P f b i:Int))∧za [] w w':=by
 unfold ptV;obtain ⟨W,hW⟩:∃ W,W=w.alloc (.cells #[int i64 (f:Int),int i64 (b:Int),int i64 (i:Int)] 99):=⟨_,rfl⟩;have K0:=hid (show za [] w W by rw[hW];exact za.alloc _ _ _);have hP:PrC W pb po P:=PrC.stays _ _ _ _ _ K0.o h;have c0:W.cell? ⟨w.heap.size,0,none⟩=some (int i64 (f:Int)):=by rw[hW,World.cell?_alloc_at _ _ _ _ rfl];rfl
 have c1:W.cell? ⟨w.heap.size,1,none⟩=some (int i64 (b:Int)):=by rw[hW,World.cell?_alloc_at _ _ _ _ rfl];rfl
 have c2:W.cell? ⟨w.heap.size,2,none⟩=some (int i64 (i:Int)):=by rw[hW,World.cell?_alloc_at _ _ _ _ rfl];rfl
 obtain ⟨p1,p2,p3⟩:=hp;obtain ⟨q,o,L,hc⟩:=J9 hP (f:=(f:Int)) (b:=(b:Int)) ⟨by omega,by omega,by omega,by simpa using p2⟩;rw[Int.toNat_natCast,Int.toNat_natCast] at L;have hblk:=hid hc;have hfst:=hid fun (w':World) (k:PrC w' pb po P)=>zeU k hs f b p1 p2;have HP:=hid hP;obtain ⟨ca,ccp,hcc,_⟩:=L.c0;have hcode:=hs.code p1 p2;have hle:J4 P f b i≤150:=by have:=hs.pt;have:=zgt (p:=P) ⟨p1,p2,p3⟩;omega
 have hpos:J4 P f b i=J4 P f b 0+i:=rfl;generalize (zq (zf P f) b).code.length=n at *;have hsz:=hid fun (w':World) (e:w'.cell? ⟨q,o,none⟩=some (.slice ca n ccp))=>Z1 q o n ccp ca w' e (by omega);generalize J4 P f b 0=A at *;rw[hpos];rw[hpos] at hle;have HW:=hid hW;clear h hs hP L hc hW hpos p1 p2;have g1:¬ (i:Int)<0:=by omega
 have g2:(i:Int)<(n:Int)+1:=by omega
 have g4:(A:Int)+(i:Int)≤150:=by omega
 have w4:IntKind.i64.wrap ((A:Int)+(i:Int))=(A:Int)+(i:Int):=IntWalk.i64_in _ (by omega);go_enter Tryz.func60,Tryz.ntmps60;go_wp2_with fail;rw[← HW.o];clear HW;generalize w.heap.size=z at *;go_wp2_with (go_at_call 98;refine hblk.o.mono ?_;rintro e w' ⟨rfl,rfl⟩);go_quiet ((go_at_call 99;exact Calls.quiet_of_same (hsz.o _ hcc)));go_wp2_with fail;have K2:=hid (K0.o.quiet (za.drewN [] w' nq));have HP2:=hid (PrC.stays _ _ _ _ _ (za.drewN [] w' nq) HP.o);have d0:(w'.drewN nq).cell? ⟨z,0,none⟩=some (int i64 (f:Int)):=c0;have d1:(w'.drewN nq).cell? ⟨z,1,none⟩=some (int i64 (b:Int)):=c1;have d2:(w'.drewN nq).cell? ⟨z,2,none⟩=some (int i64 (i:Int)):=c2;generalize w'.drewN nq=w2 at *;clear c0 c1 c2 hcc;go_quiet ((go_at_call 100;exact Calls.quiet_of_same (hfst.o _ (PrC.stays _ _ _ _ _ (za.drewN [] _ _) HP2.o))));go_wp2_with fail;go_ret;exact ⟨by rw[Int.natCast_add];rfl,K2.o.quiet (za.drewN [] _ _)⟩
theorem zbP(h:PrC w pb po P)(hs:Sm8 P)(f b i:Int):Calls Tryz.prog 60 #[pointer (some ⟨pb,po,none⟩),ptV f b i] w fun e w'=>e=.returned (int i64 (zjj P f b i))∧za [] w w':=by
 unfold zjj;by_cases hb:zhP P f b
 ·rw[if_pos hb]
  by_cases hi:0≤i∧i≤((zq (zf P f.toNat) b.toNat).code.length:Int)
  ·rw[if_pos hi]
   have:=zds h hs f.toNat b.toNat i.toNat ⟨by have:=hb.1;have:=hb.2.1;omega,by have:=hb.2.2;omega,by omega⟩;rw[show ((f.toNat:Nat):Int)=f by have:=hb.1;omega,show ((b.toNat:Nat):Int)=b by have:=hb.2.2;omega,show ((i.toNat:Nat):Int)=i by omega] at this;exact this
  ·rw[if_neg hi]
   exact zbG h hs f b i hb hi
 ·rw[if_neg hb]
  exact zdq h f b i hb
theorem PrC.ok{o:Nat}(h:PrC w b o P):zkp P:=by
 have hlen:∀ {n:Nat},n≤maxLen→b64 (n:Int):=fun h=>by unfold b64;unfold maxLen at h;omega
 have lst:∀ {α:Type}{c:Nat}{R:World→Nat→Nat→α→Prop}{ok:α→Prop}(hR:∀ b o x,R w b o x→ok x) {b o:Nat}{l:List α},SlC c R w b o l→qC ok l:=fun {α c R ok} hR {b o l} h=>by
  obtain ⟨a,cp,_,h2,_,h4⟩:=h;refine ⟨hlen h4,fun x hx=> ?_⟩;obtain ⟨i,hi,e⟩:=List.getElem_of_mem hx;obtain ⟨_,_,_,h9⟩:=h2.at (j:=i) (y:=x) (by rw[List.getElem?_eq_getElem hi,e]);exact hR _ _ _ h9
 have i1:∀ b o x,zH w b o x→b64 x:=fun _ _ _ h=>h.2;have t1:∀ b o x,TyC w b o x→zjC x:=fun _ _ _ h=>⟨h.c0.2,h.c1.2⟩;have is:∀ b o x,j7 w b o x→Jh x:=fun _ _ _ h=>lst i1 h;have ts:∀ b o x,SlC 2 TyC w b o x→zfm x:=fun _ _ _ h=>lst t1 h;have s1:∀ b o x,SgC w b o x→zjR x:=fun _ _ _ h=>⟨ts _ _ _ h.c0,h.c1.2,h.c2.2⟩;have m1:∀ b o x,ImC w b o x→zjq x:=fun _ _ _ h=>⟨h.c0.2,h.c1.2,is _ _ _ h.c2⟩;have n1:∀ b o x,InC w b o x→zj4 x:=fun _ _ _ h=>⟨h.c0.2,h.c1.2,h.c2.2,h.c3.2,h.c4.2,is _ _ _ h.c5⟩;have b1:∀ b o x,BlC w b o x→zkc x:=fun _ _ _ h=>⟨lst n1 h.c0,h.c1.2,h.c2.2,h.c3.2,h.c4.2⟩;have f1:∀ b o x,FuC w b o x→zjT x:=fun _ _ _ h=>⟨h.c0.2,ts _ _ _ h.c1,lst b1 h.c2⟩;exact ⟨lst ts h.c0,lst s1 h.c1,lst is h.c2,lst m1 h.c3,lst f1 h.c4,h.c5.2⟩
theorem zfr(w:World)(f:Int):Calls Tryz.prog 42 #[.pointer none,int i64 f] w fun e w'=>e=.returned (int i64 (-1))∧w'=w:=by
 go_enter Tryz.func42,Tryz.ntmps42;go_wp2_with fail;refine (zax w f).mono ?_;rintro e w1 ⟨rfl,rfl⟩;go_wp2_with fail;go_ret;exact ⟨rfl,rfl⟩
theorem zcR(g:isF P f=true):∃ k:Nat,f=(k:Int)∧k<P.funcs.length:=by
 unfold isF at g;rw[Bool.and_eq_true] at g;have g1:=of_decide_eq_true g.1;have g2:=of_decide_eq_true g.2;exact ⟨f.toNat,by omega,by omega⟩
theorem zfb(h:TbC w tb P)(hs:SmN P)(f:Int):Calls Tryz.prog 42 #[pointer (some ⟨tb,0,none⟩),int i64 f] w fun e w'=>e=.returned (int i64 (zhF P f))∧w'=w:=by
 have hc:=hid (zan h hs f);unfold zhF;by_cases g:isF P f=true
 ·rw[if_pos g]
  rw[g] at hc;obtain ⟨k,rfl,hk⟩:=zcR g;obtain ⟨a,cp,h1, -⟩:=h.ss;have h4:=hs.fn;have h5:=hs.st;clear h hs g;generalize P.funcs.length=m at *;generalize (zcf P).length=n at *;go_enter Tryz.func42,Tryz.ntmps42;go_wp2_with fail;refine hc.o.mono ?_;rintro e w1 ⟨rfl,rfl⟩;go_wp2_with fail;go_ret;exact ⟨rfl,rfl⟩
 ·rw[if_neg g]
  rw[Bool.not_eq_true] at g;rw[g] at hc;clear h hs;go_enter Tryz.func42,Tryz.ntmps42;go_wp2_with fail;refine hc.o.mono ?_;rintro e w1 ⟨rfl,rfl⟩;go_wp2_with fail;go_ret;exact ⟨rfl,rfl⟩
theorem zeG(w:World)(t:Int):Calls Tryz.prog 44 #[.pointer none,int i64 t] w fun e w'=>e=.returned (int i64 (-1))∧za [] w w':=by
 go_enter Tryz.func44,Tryz.ntmps44;go_wp2_with fail;refine (Jk w t).mono ?_;rintro e w1 ⟨rfl,k1⟩;have K1:=hid k1;clear k1;go_wp2_with fail;go_ret;exact ⟨rfl,K1.o.quiet (za.alloc _ _ _)⟩
theorem zfs(w:World)(f r:Int):Calls Tryz.prog 38 #[.pointer none,int i64 f,int i64 r] w fun e w'=>e=.returned (int i64 (-1))∧za [] w w':=by
 have HC:=hid fun w'=>zax w' f;go_enter Tryz.func38,Tryz.ntmps38;go_upto_region 1 with fail;go_quiet ((go_at_call 73;exact Calls.quiet_of_same (HC.o _)));go_wp2_with fail;go_ret;exact ⟨rfl,za.drewN _ _ _⟩
theorem zaT(h:TbC w tb P)(hs:SmN P)(f r:Int):Calls Tryz.prog 38 #[pointer (some ⟨tb,0,none⟩),int i64 f,int i64 r] w fun e w'=>e=.returned (int i64 (zeZ P f r))∧za [] w w':=by
 have hc:=hid fun w' (k:za [] w w')=>zan (h.quiet k) hs f;have hc2:=hid fun w' (k:za [] w w')=>zaK (h.quiet k) hs f;unfold zeZ;by_cases g:isF P f=true
 ·by_cases g0:0≤r
  ·rw[g] at hc
   unfold zeS at hc2;rw[if_pos g] at hc2;obtain ⟨k,rfl,hk⟩:=zcR g;obtain ⟨b,o,cp,h1,h2⟩:=h.beg;have h3:=h2 k (by omega);have h5:=hs.beg (k:=k) (by omega);have h6:=hs.rg k hk;have h4:=hs.fn;rw[Int.toNat_natCast] at hc2 ⊢;have HG:=hid g;clear h h2 hs g;generalize jQ P k=x at *;generalize (zf P k).regs.length=y at *;have hk9:(k:Int)<((P.funcs.length+1:Nat):Int):=by omega
   have g0':¬ r<0:=by omega
   generalize P.funcs.length=n at *;by_cases g1:r<(y:Int)
   ·rw[if_pos ⟨HG.o,g0,g1⟩]
    have g2:¬ ((x:Int)+(y:Int) - (x:Int)≤r):=by omega
    clear HG;go_enter Tryz.func38,Tryz.ntmps38;go_upto_region 1 with fail;go_quiet (first | (go_at_call 73;exact Calls.quiet_of_same (hc.o _ (za.drewN _ _ _))) | (go_at_call 40;exact Calls.quiet_of_same (hc2.o _ (za.drewN _ _ _))));go_wp2_with fail;go_ret;exact ⟨rfl,za.drewN _ _ _⟩
   ·rw[if_neg (fun q=>g1 q.2.2)]
    have g2:(x:Int)+(y:Int) - (x:Int)≤r:=by omega
    clear HG;go_enter Tryz.func38,Tryz.ntmps38;go_upto_region 1 with fail;go_quiet (first | (go_at_call 73;exact Calls.quiet_of_same (hc.o _ (za.drewN _ _ _))) | (go_at_call 40;exact Calls.quiet_of_same (hc2.o _ (za.drewN _ _ _))));go_wp2_with fail;go_ret;exact ⟨rfl,za.drewN _ _ _⟩
  ·rw[if_neg (fun q=>g0 q.2.1)]
   rw[g] at hc;have g1:r<0:=by omega
   clear h hs hc2 g g0;go_enter Tryz.func38,Tryz.ntmps38;go_upto_region 1 with fail;go_quiet (first | (go_at_call 73;exact Calls.quiet_of_same (hc.o _ (za.drewN _ _ _))));go_wp2_with fail;go_ret;exact ⟨rfl,za.drewN _ _ _⟩
 ·rw[if_neg (fun q=>g q.1)]
  rw[Bool.not_eq_true] at g;rw[g] at hc;clear h hs hc2 g;go_enter Tryz.func38,Tryz.ntmps38;go_upto_region 1 with fail;go_quiet (first | (go_at_call 73;exact Calls.quiet_of_same (hc.o _ (za.drewN _ _ _))));go_wp2_with fail;go_ret;exact ⟨rfl,za.drewN _ _ _⟩
theorem zdC(w:World)(s f:Int):Calls Tryz.prog 46 #[.pointer none,agg #[int i64 s,int i64 f]] w fun e w'=>e=.returned (int i64 (-1))∧za [] w w':=by
 have K:=hid (za.alloc [] w (.cells #[int i64 s,int i64 f] 91));go_enter Tryz.func46,Tryz.ntmps46;go_wp2_with fail;refine (Jk _ s).mono ?_;rintro e w1 ⟨rfl,k1⟩;have K1:=hid (K.o.quiet k1);clear k1;go_wp2_with fail;go_ret;exact ⟨rfl,K1.o.quiet (za.alloc _ _ _)⟩
theorem zeK(w:World)(o:Int):Calls Tryz.prog 48 #[.pointer none,int i64 o] w fun e w'=>e=.returned (.tuple #[int i64 (-1),.bool false])∧w'=w:=by
 go_enter Tryz.func48,Tryz.ntmps48;go_wp2_with fail
 go_ret2
 exact ⟨rfl,rfl⟩
def stP(P:Pr8):List Nat:=(zcf P).map fun s=>s.p
theorem zd7(l:List Nat)(x:Nat):jB (l ++ [x])=jB l ++ [int i64 (x:Int)]:=by
 unfold jB;rw[List.map_append];rfl
theorem zbS(w:World):Calls Tryz.prog 37 #[.pointer none] w fun e w'=>e=.returned (.slice none 0 0)∧w'=w:=by
 go_enter Tryz.func37,Tryz.ntmps37;go_wp2_with fail;go_ret;exact ⟨rfl,rfl⟩
theorem zbB(h:TbC w tb P)(hs:SmN P):Calls Tryz.prog 37 #[pointer (some ⟨tb,0,none⟩)] w fun e w'=>za [] w w'∧∃ v,e=.returned v∧w'.ownsRow w.heap.size 3 1 v (stP P).length (jB (stP P)):=by
 obtain ⟨a,cp,h1,h2⟩:=h.ss;have hn:=hs.st;have HR:=hid h2;have H0:Box (w.ownsRow w.heap.size 3 1 (.slice none 0 0) 0 (jB ((stP P).take 0))):=hid (World.ownsRow_nil _ _ _ _);obtain ⟨n,hN⟩:∃ n,n=(zcf P).length:=⟨_,rfl⟩;have HN:=hid hN;rw[← hN] at h1 hn;have HS:Box (∀ k s,(zcf P)[k]? = some s→(stP P).take (k+1)=(stP P).take k ++ [s.p]):=hid fun k s h=>by
  rw[List.take_add_one];unfold stP;rw[List.getElem?_map,h];rfl
 clear h hs h2 hN;go_enter Tryz.func37,Tryz.ntmps37;go_wp2_with fail
 go_loopw [3,13] (fun lv kv wr=>∃ k:Nat,k≤n∧kv=int i64 (k:Int)∧Box (wr.ownsRow w.heap.size 3 1 lv k (jB ((stP P).take k)))∧Box (za [] w wr)) (fun _ kv _=>n - (intOf kv).toNat)
 case atStart=>exact ⟨0,by omega,rfl,H0,hid (za.refl _ _)⟩
 case round=>
  obtain ⟨k,hk,rfl,HO,HK⟩:=hrel;clear H0 h1;by_cases hlt:k<n
  ·have hlt':(k:Int)<(n:Int):=by omega
   obtain ⟨s,hs⟩:∃ s,(zcf P)[k]? = some s:=⟨_,List.getElem?_eq_getElem (by rw[← HN.o];exact hlt)⟩;have HT:=hid (HS.o k s hs);obtain ⟨rb,ro,rfl,hc⟩:=(HR.o.quiet StC.stays HK.o).at hs;have c0:=hc.c0;have c1:=hc.c1;have c2:=hc.c2;have c3:=hc.c3;clear hc hs;generalize (s.c:Int)=sc at *;generalize (s.n:Int)=sn at *;generalize s.r=sr at *;generalize s.p=sp at *;have hks:=HK.o.size;have KA:=za.alloc [] wr (.cells #[int i64 (sp:Int),int i64 sr,int i64 sc,int i64 sn] 144);have n0:=zc (zd wr (.cells #[int i64 (sp:Int),int i64 sr,int i64 sc,int i64 sn] 144)) 0;have HO5:=hid (HO.o.alloc (.cells #[int i64 (sp:Int),int i64 sr,int i64 sc,int i64 sn] 144));have HK5:=hid (HK.o.quiet KA);clear HO HK;go_upto_region 7 with fail;generalize wr.alloc (.cells #[int i64 (sp:Int),int i64 sr,int i64 sc,int i64 sn] 144)=w5 at *;have hs5:=HK5.o.size;have hq5:=block_lt_of_cell n0;generalize wr.heap.size=q at *;clear KA hks;go_wp2_with (at_builtin;go_must (refine wpList_append_own_at _ rfl _ _ 36 rfl w.heap.size 3 Tryz.t3 (int i64 0) 1 8 zL qg qF qI qi rfl (by decide) _ _ _ rfl (HO5.o.alloc _) _ 1 1 [int i64 (sp:Int)] rfl rfl (cell_one_new _ _ _) (fun x hx=>by simp at hx;subst hx;rfl) (by unfold maxLen;omega) (by omega) (by simp;omega) ?_;intro v8 w8 hown8 hgrow8 hnil8 hat8))
   have HO8:Box (w8.ownsRow w.heap.size 3 1 v8 (k+1) (jB ((stP P).take (k+1)))):=hid (by
    rw[HT.o,zd7]
    exact hown8)
   have HK8:Box (za [] w w8):=hid ((HK5.o.quiet (za.alloc [] _ _)).appended HO5.o hgrow8 (Nat.le_refl _));clear hown8 hgrow8 hnil8 hat8 HO5 HK5;go_wp2_with fail;go_roundw
   case rel=>exact ⟨k+1,by omega,by go_num,HO8,HK8⟩
   case measure=>simp[intOf];omega
  ·obtain rfl:k=n:=by omega
   go_wp2_with fail;go_ret;refine ⟨HK.o,_,rfl,?_⟩;have hl:(stP P).length=k:=by unfold stP;rw[List.length_map];exact HN.o.symm
   have:=HO.o;rw[List.take_of_length_le (by omega)] at this;rw[hl];exact this
def tgB(n:Nat)(x:Bl8):List Nat:=
 (if (x.fin=1∨x.fin=2)∧inB x.to n=true then [x.to.toNat] else []) ++ (if x.fin=2∧x.els≠x.to∧inB x.els n=true then [x.els.toNat] else [])
theorem zi8{x:Bl8}:∀ u,u∈tgB n x→u<n:=by
 intro u hu;unfold tgB at hu;rcases List.mem_append.1 hu with h | h
 ·split at h
  ·next c=>rw[List.mem_singleton] at h;have:=z6.1 c.2;omega
  ·cases h
 ·split at h
  ·next c=>rw[List.mem_singleton] at h;have:=z6.1 c.2.2;omega
  ·cases h
theorem zg8{x:Bl8}:(tgB n x).length≤2:=by
 unfold tgB;rw[List.length_append];split <;> split <;> simp
def zr(F:Fu8):List (List Nat):=F.blocks.map (tgB F.blocks.length)
theorem zS(F:Fu8):(zr F).length=F.blocks.length:=by unfold zr;rw[List.length_map]
theorem zaN{g:List (List Nat)}(h:¬ b<g.length):nb g b=[]:=by
 unfold nb;rw[List.getD_eq_getElem?_getD,List.getElem?_eq_none (by omega)];rfl
theorem Qy{F:Fu8}(h:b<F.blocks.length):nb (zr F) b=tgB F.blocks.length (zq F b):=by
 unfold nb zr zq;rw[List.getD_eq_getElem?_getD,List.getD_eq_getElem?_getD,List.getElem?_map,List.getElem?_eq_getElem h];rfl
theorem ja{F:Fu8}(h:F.blocks.length≤600):Sm (zr F):=by
 refine ⟨fun j y hy=> ?_,by rw[zS];exact h,fun j=> ?_⟩
 ·rw[zS]
  by_cases hj:j<F.blocks.length
  ·rw[Qy hj] at hy
   exact zi8 y hy
  ·rw[zaN (by rw[zS];exact hj)] at hy
   cases hy
 ·by_cases hj:j<F.blocks.length
  ·rw[Qy hj]
   exact Nat.le_trans zg8 (by decide)
  ·rw[zaN (by rw[zS];exact hj)]
   simp
end Go.Proofs.YthflgjkmbakedaaGreatDoor
