import Derived.Test.YthflgjkmbakedaaGreatDoorA17
import Derived.Test.YthflgjkmbakedaaGreatDoorA26

namespace Go.Proofs.YthflgjkmbakedaaGreatDoor
open Go.RowKit
open Go.Value (int pointer agg)
open Go.IntKind (i64)
set_option maxRecDepth 20000
set_option maxHeartbeats 8000000
variable {F:Fu8}{M b f i k m n r:Nat}{P:Pr8}{W w w' wr:World}{a:Option Addr}{lv v:Value}{x:Bl8}
def zjR(l:List St):Nat:=(l.map fun s=>s.n).sum
theorem zch(l:List St)(s:St):zjR (l ++ [s])=zjR l+s.n:=by
 unfold zjR;rw[List.map_append,List.sum_append];simp
theorem zcy(P:Pr8):∀ k,(stN P k).2=jv P P.funcs.length+zjR (stN P k).1
 | 0=>rfl
 | k+1=>by
  have h1:=zcy P k;cases h:Qq P (ZT P k) with
  | true=>rw[j6 h,zch, ← Nat.add_assoc, ← h1]
  | false=>rw[ZV h,h1]
theorem zmL(P:Pr8):∀ k i s,(stN P k).1[i]? = some s→s.c=jv P P.funcs.length+zjR ((stN P k).1.take i)
 | 0,i,s,h=>by simp[stN] at h
 | k+1,i,s,h=>by
  have h1:=zmL P k i s;cases h2:Qq P (ZT P k) with
  | true=>
   rw[j6 h2] at h ⊢
   dsimp only at h ⊢
   rcases Nat.lt_trichotomy i (stN P k).1.length with h3 | h3 | h3
   ·rw[List.getElem?_append_left h3] at h
    rw[List.take_append_of_le_length (Nat.le_of_lt h3)];exact h1 h
   ·subst h3
    rw[List.getElem?_append_right (Nat.le_refl _),Nat.sub_self] at h;have:=Option.some.inj h;subst this;rw[List.take_append_of_le_length (Nat.le_refl _),List.take_length, ← zcy]
   ·have:=(List.getElem?_eq_some_iff.1 h).1
    rw[List.length_append] at this;simp at this;omega
  | false=>
   rw[ZV h2] at h ⊢;exact h1 h
theorem za5{s:St}(h:s∈qG P):zaP P (s.p:Int)=s.r:=by
 unfold zaP;rw[J8 h]
def QE(l:List Int):List Value:=l.map fun n=>int i64 n
theorem zab(l:List Int)(x:Int):QE (l ++ [x])=QE l ++ [int i64 x]:=by
 unfold QE;rw[List.map_append];rfl
def zeo(P:Pr8)(k:Nat):List Int:=(List.range k).map fun f=>(jv P f:Int)
theorem zhe(P:Pr8)(k:Nat):zeo P (k+1)=zeo P k ++ [(jv P k:Int)]:=by
 unfold zeo;rw[List.range_succ,List.map_append];rfl
theorem ziF(P:Pr8)(k:Nat):(zeo P k).length=k:=by unfold zeo;rw[List.length_map,List.length_range]
theorem zkv(P:Pr8)(h:f<k):(zeo P k)[f]? = some (jv P f:Int):=by
 unfold zeo;rw[List.getElem?_map,List.getElem?_range h];rfl
def zhv(P:Pr8)(k:Nat):List Int:=((qG P).take k).map fun s=>s.r
def zhy(P:Pr8)(k:Nat):List Int:=((qG P).take k).map fun s=>(s.c:Int)
theorem zgp{s:St}(h:(qG P)[k]? = some s):zhv P (k+1)=zhv P k ++ [s.r]:=by
 unfold zhv;rw[List.take_add_one,h,List.map_append];rfl
theorem zgz{s:St}(h:(qG P)[k]? = some s):zhy P (k+1)=zhy P k ++ [(s.c:Int)]:=by
 unfold zhy;rw[List.take_add_one,h,List.map_append];rfl
def ndS(P:Pr8)(k:Nat):Nat:=jv P P.funcs.length+zjR ((qG P).take k)
theorem zlN{s:St}(h:(qG P)[k]? = some s):ndS P k=s.c∧ndS P (k+1)=s.c+s.n:=by
 have h1:=zmL P _ k s h;unfold ndS;rw[List.take_add_one,h];show _∧jv P P.funcs.length+zjR (List.take k (qG P) ++ [s])=_;rw[zch, ← Nat.add_assoc];unfold qG;rw[← h1];exact ⟨rfl,rfl⟩
theorem zjG(P:Pr8):ndS P (qG P).length=zaj P:=by
 unfold ndS zaj;rw[List.take_length,zcy];rfl
structure znX (C:Nat) (w w5:World) (T:TypeId) (rt i m:Nat) (cs:Array Value) (v v5:Value) (xs':List Value):Prop where
 mid:w5.heap[rt]? = some (.cells cs T (0,0))
 box:(w5.setCell ⟨rt,i,none⟩ v5).heap[rt]? = some (.cells (cs.setIfInBounds i v5) T (0,0))
 row:(w5.setCell ⟨rt,i,none⟩ v5).ownsRow C 3 1 v5 m xs'
 keep:∀ {wS:World},wS.heap.size=C→zc [rt] wS w→zc [rt] wS (w5.setCell ⟨rt,i,none⟩ v5)
 oth:∀ {D k:Nat}{v2:Value}{ys:List Value},w.ownsRow D 3 1 v2 k ys→(∀ b,v2.ownBlock=some b→v.ownBlock≠some b)→(w5.setCell ⟨rt,i,none⟩ v5).ownsRow D 3 1 v2 k ys
theorem zcR{T:TypeId}{C:Nat}{wa w5:World}{rt:Nat}{cs:Array Value}{v5:Value}{xs xs':List Value}(hT:3≠T)(box:w.heap[rt]? = some (.cells cs T (0,0)))(hr:w.ownsRow C 3 1 v n xs)(ka:zc [] w wa)(hg:wa.grownBy w5 v.ownBlock)(ho:w5.ownsRow C 3 1 v5 m xs'):znX C w w5 T rt i m cs v v5 xs':=by
 have b9:=ze box ka;have r9:=zj hr ka (fun _ _=>by simp);have kg:zc v.ownBlock.toList wa w5:=zc.grown _ hg (fun k hk=>by rw[hk];simp);have mid:w5.heap[rt]? = some (.cells cs T (0,0)):=by
  rw[kg.block rt (zQ b9) (fun hm=>qM r9 b9 hT (by simpa using hm))];exact b9
 have ks:zc [rt] w5 (w5.setCell ⟨rt,i,none⟩ v5):=zc.setCell _ _ _ _ (List.mem_singleton.2 rfl);refine ⟨mid,heap_setCell_same _ _ i _ _ _ mid,zj ho ks (fun b hc hm=>qM ho mid hT (by rw[hc,List.mem_singleton.1 hm])),fun {wS} hS k=> ?_,fun {D k v2 ys} h2 hap=> ?_⟩
 ·refine ((k.quiet ka).trans kg (fun x hx hl=> ?_)).step ks
  have:=zfH r9 (b:=x) (by simpa using hx);omega
 ·have h9:=zj h2 ka (fun _ _=>by simp)
  have h5:w5.ownsRow D 3 1 v2 k ys:=zj h9 kg (fun b hb hm=>hap b hb (by simpa using hm));exact zj h5 ks (fun b hc hm=>qM h5 mid hT (by rw[hc,List.mem_singleton.1 hm]))
structure SzP (P:Pr8):Prop where
 fn:P.funcs.length≤1000
 bk0:∀ f,f<P.funcs.length→0<(zf P f).blocks.length
 bk:∀ f,f<P.funcs.length→(zf P f).blocks.length≤600
 rg:∀ f,f<P.funcs.length→(zf P f).regs.length≤1000
 code:∀ f b,f<P.funcs.length→(zr (zf P f) b).code.length≤1000000
 few:∀ f b k,f<P.funcs.length→k<(zr (zf P f) b).code.length→(zT (zr (zf P f) b) k).args.length≤1000
def za0(P:Pr8)(q:Nat × Nat × Nat):Bool:=rch (zy (zf P q.1)) [0] q.2.1 && ZU (zr (zf P q.1) q.2.1) (inS P (zf P q.1) q.2.1) q.2.2
def ZK(B:Nat × Nat × Nat→Bool)(l:List (Nat × Nat × Nat)):Prop:=∀ q,q∈l→B q=false
theorem ZK.nil(B:Nat × Nat × Nat→Bool):ZK B []:=fun q hq=>by cases hq
theorem ZK.app{B:Nat × Nat × Nat→Bool}{l m:List (Nat × Nat × Nat)}(h:ZK B l)(k:ZK B m):ZK B (l ++ m):=fun q hq=>by
 rcases List.mem_append.1 hq with h1 | h1
 ·exact h q h1
 ·exact k q h1
theorem zg5(P:Pr8):∀ {f m:Nat},f<m→∃ r,ptP P m=ptP P f ++ (ptF (zf P f) f (zf P f).blocks.length ++ r)
 | f,0,h=>absurd h (Nat.not_lt_zero _)
 | f,m+1,h=>by
  by_cases e:f=m
  ·subst e
   exact ⟨[],by rw[Z8,List.append_nil]⟩
  ·obtain ⟨r,hr⟩:=zg5 P (f:=f) (m:=m) (by omega)
   exact ⟨r ++ ptF (zf P m) m (zf P m).blocks.length,by rw[Z8,hr];simp[List.append_assoc]⟩
theorem zcm(f b:Nat):∀ {i n:Nat},i<n→∃ r,ptB f b n=ptB f b i ++ ((f,b,i) :: r)
 | i,0,h=>absurd h (Nat.not_lt_zero _)
 | i,n+1,h=>by
  by_cases e:i=n
  ·subst e
   exact ⟨[],by rw[jB]⟩
  ·obtain ⟨r,hr⟩:=zcm f b (i:=i) (n:=n) (by omega)
   exact ⟨r ++ [(f,b,n)],by rw[jB,hr];simp⟩
theorem zhi(h:Zh P f b i):∃ r,pts P=(ptP P f ++ (ptF (zf P f) f b ++ ptB f b i)) ++ (f,b,i) :: r:=by
 obtain ⟨r1,h1⟩:=zg5 P h.1;obtain ⟨r2,h2⟩:=JX (zf P f) f h.2.1;obtain ⟨r3,h3⟩:=zcm f b (i:=i) (n:=(zr (zf P f) b).code.length+1) (by have:=h.2.2;omega);refine ⟨r3 ++ r2 ++ r1,?_⟩;unfold pts;rw[h1,h2,h3];simp[List.append_assoc]
theorem ze0{B:Nat × Nat × Nat→Bool}(h:Zh P f b i)(hw:ZK B (ptP P f ++ (ptF (zf P f) f b ++ ptB f b i)))(hb:B (f,b,i)=true):(pts P).find? B=some (f,b,i):=by
 obtain ⟨r,hr⟩:=zhi h;rw[hr,List.find?_append,List.find?_eq_none.2 (fun q hq=>by simp[hw q hq]),List.find?_cons_of_pos hb];rfl
theorem ZN{B:Nat × Nat × Nat→Bool}(hw:ZK B (pts P)):(pts P).find? B=none:=List.find?_eq_none.2 fun q hq=>by simp[hw q hq]
theorem zil(h:rch (zy (zf P f)) [0] b=false)(n:Nat):ZK (za0 P) (ptB f b n):=fun q hq=>by
 unfold ptB at hq;obtain ⟨i,_,rfl⟩:=List.mem_map.1 hq;show (rch (zy (zf P f)) [0] b && _)=false;rw[h];rfl
theorem zfz(h:∀ i,i<n→ZU (zr (zf P f) b) (inS P (zf P f) b) i=false):ZK (za0 P) (ptB f b n):=fun q hq=>by
 unfold ptB at hq;obtain ⟨i,hi,rfl⟩:=List.mem_map.1 hq;show (_ && ZU (zr (zf P f) b) (inS P (zf P f) b) i)=false;rw[h i (List.mem_range.1 hi),Bool.and_false]
def Zs(o:Option (Nat × Nat × Nat))(y:Int)(w:World)(e:Ending)(w':World):Prop:=match o with
 | none=>e=.returned .nilIface∧zc [] w w'
 | some q=>zji y (q.1:Int) (q.2.1:Int) (q.2.2:Int) w e w'
def Jy(c:In8)(r:Nat):Bool:=zD c && decide (c.dst=(r:Int))
def zex(x:Bl8)(r i:Nat):Bool:=(x.code.take i).all fun c=> !Jy c r
theorem zbe:∀ (c:List In8) (s:Nat→Bool) (r:Nat),r<5000→dfS c s r=(s r || c.any fun i=>Jy i r)
 | [],s,r,_=>by simp[dfS]
 | i :: c,s,r,h=>by
  show dfS c (if zD i then zct s i.dst else s) r=_;rw[zbe c _ r h,List.any_cons];unfold Jy;cases zD i with
  | false=>simp
  | true=>
   rw[if_pos rfl];unfold zct;by_cases e:i.dst=(r:Int)
   ·have e2:(r:Int)<5000:=by omega
    simp[e,e2]
   ·have e':¬ ((r:Int)=i.dst):=fun h=>e h.symm
    simp[e,e']
theorem zkP(hr:r<5000)(h:zex x r x.code.length=true):dfS x.code zM r=false:=by
 rw[zbe _ _ _ hr];unfold zex at h;rw[List.take_length] at h;have:(x.code.any fun i=>Jy i r)=false:=by
  rw[List.any_eq_false];intro c hc;have:=(List.all_eq_true.1 h) c hc;simpa using this
 rw[this];rfl
theorem zkd(hr:r<5000)(h:dfS x.code zM r=false)(i:Nat):zex x r i=true:=by
 rw[zbe _ _ _ hr] at h;have h2:(x.code.any fun i=>Jy i r)=false:=by
  cases e:(x.code.any fun i=>Jy i r) with
  | false=>rfl
  | true=>rw[e,Bool.or_true] at h;cases h
 unfold zex;rw[List.all_eq_true];intro c hc;have:=(List.any_eq_false.1 h2) c (List.mem_of_mem_take hc);simpa using this
theorem zdj(x:Bl8)(r:Nat):zex x r 0=true:=by unfold zex;simp
theorem zdk(h:i<x.code.length):zex x r (i+1)=(zex x r i && !Jy (zT x i) r):=by
 unfold zex;rw[show x.code.take (i+1)=x.code.take i ++ [zT x i] from qe x.code i ⟨0,0,0,0,0,[]⟩ h,List.all_append];simp
def QK(P:Pr8)(f r b i:Nat):Bool:=decide (i<(zr (zf P f) b).code.length) && Jy (zT (zr (zf P f) b) i) r
def frB(P:Pr8)(f r b i:Nat):Bool:=js (zf P f) r b && zex (zr (zf P f) b) r i
theorem zf7{u:Nat}:u∈tgB n x ↔ ∃ z,z∈zbl x∧inB z n=true∧z.toNat=u:=by
 unfold tgB zbl;rw[List.mem_append];by_cases f1:x.fin=1
 ·have f2:¬ x.fin=2:=by omega
  simp[f1];exact fun _=>eq_comm
 ·by_cases f2:x.fin=2
  ·by_cases e:x.els=x.to
   ·simp[f2,e]
    exact fun _=>eq_comm
   ·simp[f2,e]
    constructor
    ·rintro (⟨h1,h2⟩ | ⟨h1,h2⟩)
     ·exact .inl ⟨h1,h2.symm⟩
     ·exact .inr ⟨h1,h2.symm⟩
    ·rintro (⟨h1,h2⟩ | ⟨h1,h2⟩)
     ·exact .inl ⟨h1,h2.symm⟩
     ·exact .inr ⟨h1,h2.symm⟩
  ·simp[f1,f2]
theorem zdv{q:Nat × Nat × Nat}:q∈QI P f (zbl (zr (zf P f) b)) ↔ ∃ u,u∈tgB (zf P f).blocks.length (zr (zf P f) b)∧q=(f,u,0):=by
 unfold QI;rw[List.mem_map];constructor
 ·rintro ⟨z,hz,rfl⟩
  rw[List.mem_filter] at hz;have h9:=of_decide_eq_true hz.2;exact ⟨z.toNat,zf7.2 ⟨z,hz.1,zt.2 h9,rfl⟩,rfl⟩
 ·rintro ⟨u,hu,rfl⟩
  obtain ⟨z,h1,h2,h3⟩:=zf7.1 hu;exact ⟨z,List.mem_filter.2 ⟨h1,decide_eq_true (zt.1 h2)⟩,by rw[h3]⟩
theorem QM(hb:F.blocks.length≤600)(h0:0<F.blocks.length)(r b:Nat):js F r b=true ↔ Pth (Zn (zy F) (fun b=>dfS (zr F b).code zM) r) noS 0 b:=by
 unfold js;rw[zcO (zaK (jk hb) _ r).ok];constructor
 ·rintro ⟨z,hz,p⟩
  have:=(Zc.1 hz).1;have e:(z:Int)=0:=by simpa using this
  obtain rfl:z=0:=by omega
  exact p
 ·intro p
  exact ⟨0,Zc.2 ⟨by simp,by rw[qR,zO];exact h0⟩,p⟩
theorem zcS(hb:b<F.blocks.length):nb (Zn (zy F) (fun b=>dfS (zr F b).code zM) r) b=if dfS (zr F b).code zM r then [] else tgB F.blocks.length (zr F b):=by
 rw[JH (by rw[zO];exact hb),Ql hb]
theorem ziR(r:Nat)(hb:(zf P f).blocks.length≤600)(h0:0<(zf P f).blocks.length):frB P f r 0 0=true:=by
 unfold frB;rw[zdj,Bool.and_true,QM hb h0];exact Pth.refl rfl
theorem zjV(hr:r<5000)(hb:(zf P f).blocks.length≤600)(h0:0<(zf P f).blocks.length)(hp:Zh P f b i)(h:frB P f r b i=true)(hd:QK P f r b i=false){q:Nat × Nat × Nat}(hq:q∈Jb P f b i):
  q.1=f∧frB P f r q.2.1 q.2.2=true:=by
 unfold frB at h;rw[Bool.and_eq_true] at h;unfold Jb at hq;by_cases hi:i<(zr (zf P f) b).code.length
 ·rw[if_pos hi] at hq
  obtain rfl:=List.mem_singleton.1 hq;unfold QK at hd;rw[decide_eq_true hi,Bool.true_and] at hd;refine ⟨rfl,?_⟩;show frB P f r b (i+1)=true;unfold frB;rw[h.1,zdk hi,h.2,hd];rfl
 ·rw[if_neg hi] at hq
  obtain ⟨u,hu,rfl⟩:=zdv.1 hq;refine ⟨rfl,?_⟩;show frB P f r u 0=true;unfold frB;rw[zdj,Bool.and_true,QM hb h0];have hi2:i=(zr (zf P f) b).code.length:=by have:=hp.2.2;omega
  have hn:=zkP hr (by rw[← hi2];exact h.2);refine Pth.snoc ((QM hb h0 r b).1 h.1) ?_ rfl;rw[zcS hp.2.1,hn];exact hu
theorem zmo(hr:r<5000)(hf:f<P.funcs.length)(hb:(zf P f).blocks.length≤600)(h0:0<(zf P f).blocks.length){S:Nat × Nat × Nat→Prop}(s0:S (f,0,0))(st:∀ b i,Zh P f b i→S (f,b,i)→QK P f r b i=false→∀ q,q∈Jb P f b i→S q)(hp:Zh P f b i)(h:frB P f r b i=true):S (f,b,i):=by
 have up:∀ b,b<(zf P f).blocks.length→S (f,b,0)→∀ i,i≤(zr (zf P f) b).code.length→zex (zr (zf P f) b) r i=true→S (f,b,i):=by
  intro b hb' hs i
  induction i with
  | zero=>intro _ _;exact hs
  | succ i ih=>
   intro hi hc;have hi':i<(zr (zf P f) b).code.length:=hi;rw[zdk hi',Bool.and_eq_true] at hc;refine st b i ⟨hf,hb',by omega⟩ (ih (by omega) hc.1) ?_ _ ?_
   ·unfold QK
    rw[decide_eq_true hi',Bool.true_and];simpa using hc.2
   ·unfold Jb
    rw[if_pos hi'];exact List.mem_singleton.2 rfl
 unfold frB at h;rw[Bool.and_eq_true] at h;refine up b hp.2.1 ?_ i hp.2.2 h.2;have key:b<(zf P f).blocks.length∧S (f,b,0):=by
  refine ((QM hb h0 r b).1 h.1).carry (C:=fun u=>u<(zf P f).blocks.length∧S (f,u,0)) ?_ ⟨h0,s0⟩;intro u hu _ v hv _;rw[zcS hu.1] at hv;cases hd:dfS (zr (zf P f) u).code zM r with
  | true=>rw[hd,if_pos rfl] at hv;cases hv
  | false=>
   rw[hd,if_neg (by decide)] at hv;refine ⟨zhc v hv,?_⟩;have h1:=up u hu.1 hu.2 _ (Nat.le_refl _) (zkd hr hd _);refine st u _ ⟨hf,hu.1,Nat.le_refl _⟩ h1 ?_ _ ?_
   ·unfold QK
    rw[decide_eq_false (by omega)];rfl
   ·unfold Jb
    rw[if_neg (by omega)];exact zdv.2 ⟨v,hv,rfl⟩
 exact key.2
def Zo(P:Pr8)(f r b i:Nat):Bool:=decide (zeO P (zf P f)≤r) && frB P f r b i
theorem zki{q r:Nat × Nat × Nat}(h:ptI q=ptI r):q=r:=by
 obtain ⟨a,b,c⟩:=q;obtain ⟨a',b',c'⟩:=r;unfold ptI at h;simp only[Prod.mk.injEq] at h;obtain ⟨h1,h2,h3⟩:=h;simp only[Prod.mk.injEq];omega
theorem zfb{S:List (Nat × Nat × Nat)}{q:Nat × Nat × Nat}:ptI q∈S.map ptI ↔ q∈S:=by
 rw[List.mem_map];exact ⟨fun ⟨r,h1,h2⟩=>zki h2 ▸ h1,fun h=>⟨q,h,rfl⟩⟩
structure FrS (P:Pr8) (f r b i:Nat) (S:List (Nat × Nat × Nat)) (k:Nat):Prop where
 start:(f,0,0)∈S
 nd:S.Nodup
 good:∀ q,q∈S→q.1=f∧Zh P q.1 q.2.1 q.2.2∧frB P f r q.2.1 q.2.2=true
 done:∀ j q,j<k→S[j]? = some q→q≠(f,b,i)∧(QK P f r q.2.1 q.2.2=false→∀ q',q'∈Jb P f q.2.1 q.2.2→q'∈S)
 le:k≤S.length
theorem FrS.begin(hf:f<P.funcs.length)(hb:(zf P f).blocks.length≤600)(h0:0<(zf P f).blocks.length):FrS P f r b i [(f,0,0)] 0:=
 ⟨by simp,by simp,fun q hq=>by
  rw[List.mem_singleton.1 hq]
  exact ⟨rfl,⟨hf,h0,Nat.zero_le _⟩,ziR r hb h0⟩,fun j q hj=>by omega,Nat.zero_le _⟩
theorem FrS.len{S:List (Nat × Nat × Nat)}(h:FrS P f r b i S k):S.length≤(pts P).length:=
 List.Nodup.length_le_of_subset h.nd (fun q hq=>by
  obtain ⟨a,c,d⟩:=q
  exact jQ.2 (h.good _ hq).2.1)
theorem FrS.pass{S:List (Nat × Nat × Nat)}(h:FrS P f r b i S k){q:Nat × Nat × Nat}(hq:S[k]? = some q)(hne:q≠(f,b,i))(hd:QK P f r q.2.1 q.2.2=true):FrS P f r b i S (k+1):=
 ⟨h.start,h.nd,h.good,fun j x hj hx=>by
  by_cases e:j=k
  ·subst e
   rw[hq] at hx;obtain rfl:=Option.some.inj hx;exact ⟨hne,fun h0=>by rw[hd] at h0;cases h0⟩
  ·exact h.done j x (by omega) hx,by
  have:=(List.getElem?_eq_some_iff.1 hq).1
  omega⟩
structure FrM (P:Pr8) (f r b i:Nat) (S:List (Nat × Nat × Nat)) (k:Nat) (q:Nat × Nat × Nat) (m:Nat):Prop where
 base:FrS P f r b i S k
 at':S[k]? = some q
 ne:q≠(f,b,i)
 nd:QK P f r q.2.1 q.2.2=false
 seen:∀ x,x∈(Jb P f q.2.1 q.2.2).take m→x∈S
theorem FrM.go{S:List (Nat × Nat × Nat)}{q x:Nat × Nat × Nat}(h:FrM P f r b i S k q m)(hm:m<(Jb P f q.2.1 q.2.2).length)(hx:(Jb P f q.2.1 q.2.2).getD m (0,0,0)=x)(hin:x∈S):FrM P f r b i S k q (m+1):=
 ⟨h.base,h.at',h.ne,h.nd,fun y hy=>by
  rw[qe _ m (0,0,0) hm,hx] at hy;rcases List.mem_append.1 hy with h1 | h1
  ·exact h.seen y h1
  ·rw[List.mem_singleton.1 h1];exact hin⟩
theorem FrM.add{S:List (Nat × Nat × Nat)}{q x:Nat × Nat × Nat}(hr:r<5000)(hb:(zf P f).blocks.length≤600)(h0:0<(zf P f).blocks.length)(h:FrM P f r b i S k q m)(hm:m<(Jb P f q.2.1 q.2.2).length)(hx:(Jb P f q.2.1 q.2.2).getD m (0,0,0)=x)(hin:x ∉ S):FrM P f r b i (S ++ [x]) k q (m+1):=by
 have hxm:x∈Jb P f q.2.1 q.2.2:=by
  rw[← hx];exact qg _ m (0,0,0) hm
 have hqS:q∈S:=List.mem_of_getElem? h.at';obtain ⟨hq1,hq2,hq3⟩:=h.base.good q hqS;have hq2':Zh P f q.2.1 q.2.2:=by rw[← hq1];rw[hq1] at hq2 ⊢;exact hq2
 have hst:=zjV hr hb h0 hq2' hq3 h.nd hxm;have hpt:=zlA hq2' x hxm;have hk:k<S.length:=(List.getElem?_eq_some_iff.1 h.at').1;refine ⟨⟨List.mem_append_left _ h.base.start,?_,fun y hy=> ?_,fun j y hj hy=> ?_,by rw[List.length_append];have:=h.base.le;omega⟩,by rw[List.getElem?_append_left hk];exact h.at',h.ne,h.nd,fun y hy=> ?_⟩
 ·rw[List.nodup_append]
  exact ⟨h.base.nd,by simp,fun a ha c hc e=>hin (by rw[List.mem_singleton.1 hc] at e;exact e ▸ ha)⟩
 ·rcases List.mem_append.1 hy with h1 | h1
  ·exact h.base.good y h1
  ·rw[List.mem_singleton.1 h1]
   exact ⟨hst.1,hpt,hst.2⟩
 ·rw[List.getElem?_append_left (by omega)] at hy
  obtain ⟨h1,h2⟩:=h.base.done j y hj hy;exact ⟨h1,fun h3 q' hq'=>List.mem_append_left _ (h2 h3 q' hq')⟩
 ·rw[qe _ m (0,0,0) hm,hx] at hy
  rcases List.mem_append.1 hy with h1 | h1
  ·exact List.mem_append_left _ (h.seen y h1)
  ·exact List.mem_append_right _ h1
theorem FrM.end{S:List (Nat × Nat × Nat)}{q:Nat × Nat × Nat}(h:FrM P f r b i S k q m)(hm:(Jb P f q.2.1 q.2.2).length≤m):FrS P f r b i S (k+1):=
 ⟨h.base.start,h.base.nd,h.base.good,fun j x hj hx=>by
  by_cases e:j=k
  ·subst e
   rw[h.at'] at hx;obtain rfl:=Option.some.inj hx;exact ⟨h.ne,fun _ y hy=>h.seen y (by rw[List.take_of_length_le hm];exact hy)⟩
  ·exact h.base.done j x (by omega) hx,by
  have:=(List.getElem?_eq_some_iff.1 h.at').1
  omega⟩
theorem FrS.none{S:List (Nat × Nat × Nat)}(hr:r<5000)(hb:(zf P f).blocks.length≤600)(hp:Zh P f b i)(h:FrS P f r b i S k)(hk:S.drop k=[]):frB P f r b i=false:=by
 cases e:frB P f r b i with
 | false=>rfl
 | true=>
  exfalso;have hlen:S.length≤k:=by
   have:=congrArg List.length hk;rw[List.length_drop] at this;simp at this;omega
  have hmem:(f,b,i)∈S:=zmo hr hp.1 hb (by have:=hp.2.1;omega) (S:=fun q=>q∈S) h.start (fun b' i' hp' hs hd q hq=>by
   obtain ⟨j,hj⟩:=List.getElem?_of_mem hs;have hjl:=(List.getElem?_eq_some_iff.1 hj).1
   exact (h.done j (f,b',i') (by omega) hj).2 hd q hq) hp e
  obtain ⟨j,hj⟩:=List.getElem?_of_mem hmem;have hjl:=(List.getElem?_eq_some_iff.1 hj).1;exact (h.done j (f,b,i) (by omega) hj).1 rfl
theorem FrS.yes{S:List (Nat × Nat × Nat)}(h:FrS P f r b i S k)(hq:S[k]? = some (f,b,i)):frB P f r b i=true:=(h.good _ (List.mem_of_getElem? hq)).2.2
theorem PtC.kept{g o:Nat}{q:Nat × Nat × Nat}{F:List Nat}(h:PtC w g o q)(k:zc F w w')(hn:g ∉ F):PtC w' g o q:=by
 have hl:=block_lt_of_cell h.c0;exact ⟨by rw[k.cell (p:=⟨g,o,none⟩) hl hn];exact h.c0,by rw[k.cell (p:=⟨g,o+1,none⟩) hl hn];exact h.c1,by rw[k.cell (p:=⟨g,o+2,none⟩) hl hn];exact h.c2⟩
def NX(w:World)(M:Nat)(lv:Value)(a:Option Addr)(L:List (Nat × Nat × Nat)):Prop:=
 L=[]∨∃ g o,a=some ⟨g,o,none⟩∧(∀ j q,L[j]? = some q→PtC w g (o+j * 3) q)∧g≠M∧g<w.heap.size∧lv.ownBlock≠some g
theorem NX.put{L:List (Nat × Nat × Nat)}(h:NX w M lv a L)(k:zc [M] w w'):NX w' M lv a L:=by
 rcases h with h | ⟨g,o,h1,h2,h3,h4,h5⟩
 ·exact .inl h
 ·exact .inr ⟨g,o,h1,fun j q hq=>(h2 j q hq).kept k (by simpa using h3),h3,Nat.lt_of_lt_of_le h4 k.size,h5⟩
theorem NX.quiet{L:List (Nat × Nat × Nat)}(h:NX w M lv a L)(k:zc [] w w'):NX w' M lv a L:=by
 rcases h with h | ⟨g,o,h1,h2,h3,h4,h5⟩
 ·exact .inl h
 ·exact .inr ⟨g,o,h1,fun j q hq=>(h2 j q hq).kept k (by simp),h3,Nat.lt_of_lt_of_le h4 k.size,h5⟩
theorem NX.push{v':Value}{L:List (Nat × Nat × Nat)}(h:NX w M lv a L)(k:zc lv.ownBlock.toList w w')(hv:v'.ownBlock=lv.ownBlock∨∃ g,v'.ownBlock=some g∧w.heap.size≤g):NX w' M v' a L:=by
 rcases h with h | ⟨g,o,h1,h2,h3,h4,h5⟩
 ·exact .inl h
 ·refine .inr ⟨g,o,h1,fun j q hq=>(h2 j q hq).kept k (fun hx=>h5 (by simpa using hx)),h3,Nat.lt_of_lt_of_le h4 k.size,?_⟩
  rcases hv with hv | ⟨g',hv,hg'⟩
  ·rw[hv];exact h5
  ·rw[hv]
   intro e;have:=Option.some.inj e;omega
theorem NX.at{L:List (Nat × Nat × Nat)}(h:NX w M lv a L){j:Nat}{q:Nat × Nat × Nat}(hq:L[j]? = some q):∃ g o,a=some ⟨g,o,none⟩∧PtC w g (o+j * 3) q:=by
 rcases h with h | ⟨g,o,h1,h2,_⟩
 ·rw[h] at hq;simp at hq
 ·exact ⟨g,o,h1,h2 j q hq⟩
theorem NX.begin{w0:World}{L:List (Nat × Nat × Nat)}(h:z7 w 3 PtC a L)(hn:∀ g o,a=some ⟨g,o,none⟩→w0.heap.size≤g)(hM:M<w0.heap.size)(hl:∀ x,lv.ownBlock=some x→x<w0.heap.size):NX w M lv a L:=by
 rcases h with h | ⟨g,o,h1,h2⟩
 ·exact .inl h
 ·cases L with
  | nil=>exact .inl rfl
  | cons q L=>
   have h3:=hn g o h1;have h4:=block_lt_of_cell (h2 0 q rfl).c0;exact .inr ⟨g,o,h1,h2,by omega,h4,fun e=>by have:=hl g e;omega⟩
theorem zg0(w:World)(base:Nat)(x y z:Int)(hb:base≤w.heap.size):Zf (w.alloc (.cells #[int i64 x,int i64 y,int i64 z] 99)) base (.slice (some ⟨w.heap.size,0,none⟩) 1 1) [(x,y,z)]:=by
 have hn:=zh w (.cells #[int i64 x,int i64 y,int i64 z] 99);refine ⟨w.heap.size,0,1,rfl,hb,⟨fun i hi=> ?_,fun k hk=>⟨?_,zi hn (0+k)⟩,by simp[zbH],by simp⟩,by unfold maxLen;omega,Nat.le_refl _⟩
 ·rw[zd hn (0+i),Nat.zero_add]
  have hi':i<3:=hi
  match i,hi' with
  | 0,_=>rfl
  | 1,_=>rfl
  | 2,_=>rfl
 ·rw[zd hn (0+k),Nat.zero_add]
  have hk':k<3:=hk
  match k,hk' with
  | 0,_=>rfl
  | 1,_=>rfl
  | 2,_=>rfl
theorem zg3{e:Ending}(h:Qm w P f b i e w'):∃ (x:In8) (ok:Bool) (ar:Value),e=.returned (.tuple #[z8 x ar,.bool ok])∧zc [] w w'∧(∃ a n c,ar=.slice a n c)∧∀ r:Nat,QK P f r b i=(ok && Jy x r):=by
 obtain ⟨k,⟨h1,a,cp,rfl,_⟩ | ⟨h1,rfl⟩⟩:=h
 ·exact ⟨_,true,_,rfl,k,⟨_,_,_,rfl⟩,fun r=>by unfold QK;rw[decide_eq_true h1]⟩
 ·exact ⟨zfl,false,_,rfl,k,⟨_,_,_,rfl⟩,fun r=>by unfold QK;rw[decide_eq_false h1];rfl⟩
theorem zgM{α:Type}{S:List α}{q:α}{l:List α}(h:S.drop k=q :: l):S[k]? = some q∧S.drop (k+1)=l:=by
 have h1:(S.drop k)[0]? = some q:=by rw[h];rfl
 rw[List.getElem?_drop,Nat.add_zero] at h1;refine ⟨h1,?_⟩;have:(S.drop k).drop 1=l:=by rw[h];rfl
 rw[List.drop_drop] at this;exact this
structure FQ (W wr:World) (M:Nat) (v:Value) (S:List (Nat × Nat × Nat)) (k:Nat):Prop where
 seen:Q8 wr M (S.map ptI)
 line:Zf wr (M+1) v ((S.drop k).map ptI)
 keep:zc [] W wr
theorem FQ.quiet{wy:World}{S:List (Nat × Nat × Nat)}(h:FQ W wr M v S k)(q:zc [] wr wy):FQ W wy M v S k:=
 ⟨h.seen.kept q (by simp),h.line.kept q (by simp),h.keep.quiet q⟩
theorem FQ.own{S:List (Nat × Nat × Nat)}(h:FQ W wr M v S k):∀ x,v.ownBlock=some x→M+1≤x∧x<wr.heap.size:=by
 intro x hx;obtain ⟨g,h1,h2,h3⟩:=h.line.own;rw[h1] at hx;have:=Option.some.inj hx;omega
theorem FQ.add{w1 wa w2:World}{v':Value}{S:List (Nat × Nat × Nat)}{q:Nat × Nat × Nat}(h:FQ W wr M v S k)(hM:W.heap.size≤M)(hk:k≤S.length)(hs:Q8 w1 M (S.map ptI ++ [ptI q]))(k1:zc [M] wr w1)(ka:zc [] w1 wa)(hl:Zf w2 (M+1) v' ((S.drop k).map ptI ++ [ptI q]))(k2:zc v.ownBlock.toList wa w2):FQ W w2 M v' (S ++ [q]) k:=by
 have hv:M ∉ v.ownBlock.toList:=fun hx=>by
  have:=h.own M (by simpa using hx);omega
 refine ⟨?_,?_,?_⟩
 ·rw[List.map_append]
  exact (hs.kept ka (by simp)).kept k2 hv
 ·rw[List.drop_append_of_le_length hk,List.map_append]
  exact hl
 ·refine ((h.keep.fresh k1 (fun x hx=>by simp at hx;omega)).quiet ka).fresh k2 (fun x hx=> ?_)
  have:=h.own x (by simpa using hx);omega
theorem zgN(hb:F.blocks.length≤600)(r m:Nat)(h:F.blocks.length≤m):js F r m=false:=
 zkm (zaK (jk hb) _ r).ok [0] m (by rw[qR,zO];exact h)
theorem zmX{j:Nat}{v:Int}(hj:j<k)(h:v= -1∨∃ i:Nat,v=(i:Int)∧j<i∧i<k):(if intOf (int i64 v)<0 then 0 else k+1 - (intOf (int i64 v)).toNat)<(if intOf (int i64 (j:Int))<0 then 0 else k+1 - (intOf (int i64 (j:Int))).toNat):=by
 show (if v<0 then 0 else k+1 - v.toNat)<(if (j:Int)<0 then 0 else k+1 - (j:Int).toNat);rw[if_neg (by omega:¬ ((j:Int)<0))];rcases h with rfl | ⟨i,rfl,h1,h2⟩
 ·rw[if_pos (by omega)]
  omega
 ·rw[if_neg (by omega)]
  omega
def zgl(w:World)(P:Pr8)(F:Fu8)(e:Ending)(w':World):Prop:=∃ p d q,e=.returned (.slice (some ⟨p,0,none⟩) F.blocks.length F.blocks.length)∧HS w' w.heap.size q p F.blocks.length F.blocks.length d (inS P F)∧p<q∧w.heap.size≤p∧zc [] w w'
theorem zm3{pb po:Nat}(h:PrC w pb po P)(hT:Ze w)(hf:f<P.funcs.length)(hb0:0<(zf P f).blocks.length)(hb:(zf P f).blocks.length≤600)(hr:(zf P f).regs.length≤1000)(hc:∀ b,(zr (zf P f) b).code.length≤1000000):
  Calls Tryz.prog 136 #[pointer (some ⟨pb,po,none⟩),int i64 (f:Int)] w (zgl w P (zf P f)):=by
 have HFL:=hid fun (w':World) (k:zc [] w w')=>zby (PrC.stays _ _ _ _ _ k h) hf hb;obtain ⟨fa,fcp,H⟩:=h.fns;have h4:=H.cell;have C4:Box (∀ w',zc [] w w'→w'.cell? ⟨pb,po+4,none⟩=some (.slice fa P.funcs.length fcp)):=hid fun w' k=>za k h4;obtain ⟨fb,fo,rfl,hfu0⟩:=H.rows.at (zg (d:=⟨0,[],[]⟩) hf);have hfu:FuC w fb (fo+f * 3) (zf P f):=hfu0;obtain ⟨fb',fo',ba,bcp,e,BB⟩:=H.at hf;simp only[Option.some.injEq,Addr.mk.injEq,and_true] at e;obtain ⟨rfl,rfl⟩:=e;have h2:=BB.cell;have C2:Box (∀ w',zc [] w w'→w'.cell? ⟨fb,fo+f * 3+2,none⟩=some (.slice ba (zf P f).blocks.length bcp)):=hid fun w' k=>za k h2;have BA:Box (∀ b,b<(zf P f).blocks.length→∃ bb bo,ba=some ⟨bb,bo,none⟩∧∀ w',zc [] w w'→Calls Tryz.prog 206 #[pointer (some ⟨bb,bo+b * 5,none⟩)] w' fun e w''=>∃ b',e=.returned (pointer (some ⟨b',0,none⟩))∧zJ w'' b' (dfS (zr (zf P f) b).code zM)∧zc [] w' w''∧w'.heap.size≤b'):=hid fun b hb=>by
  obtain ⟨bb,bo,e,hbl⟩:=BB.at hb;exact ⟨bb,bo,e,fun w' k=>zcD (BlC.stays _ _ _ _ _ k hbl) (hc b)⟩
 have HRS:=hid fun (w':World) (k:zc [] w w')=>zb0 (FuC.stays _ _ _ _ _ k hfu) (show (zf P f).regs.length≤5000 by omega);have HRG:=hid fun (w':World) (k:zc [] w w')=>zdw (FuC.stays _ _ _ _ _ k hfu) (show (zf P f).regs.length≤5000 by omega);have HPA:=hid fun (w':World) (k:zc [] w w')=>zeE (PrC.stays _ _ _ _ _ k h) (FuC.stays _ _ _ _ _ k hfu);have HTB:Box (∀ w',zc [] w w'→Ze w'):=hid fun w' k=>hT.kept k (by simp);have HSM:=hid (jk hb);have HBO:=hid (zgN hb);have HMY:=hid fun (a:Option Addr) (cap B:Nat) (w':World) (hG:GAt w' B a (zy (zf P f)))=>zbv (zy (zf P f)) HSM.o a cap B w' hG;rw[zO] at HFL HMY;unfold zgl;have HRK:=hid fun (par r c b:Nat)=>zlk (show (zf P f).regs.length≤5000 by omega) par r c b;clear h h4 hfu hfu0 BB H h2 hc hT;have gf:(f:Int)<(P.funcs.length:Int):=by omega
 generalize P.funcs.length=N at *;have HFN:=hid (zO (zf P f));generalize zf P f=F at *;generalize F.blocks.length=n at *;have hmk:=zjJ n (by omega);have hb0':¬ ((n:Int)=0):=by omega
 have hbe:((n:Int) == 0)=false:=by simpa using hb0'
 go_enter Tryz.func136,Tryz.ntmps136;go_upto_region 2 with (go_at_call 131;refine (HFL.o _ (zc.refl _ _)).mono ?_;rintro e w1 ⟨a,rfl,hg1,k1⟩)
 have ka:=zc.alloc [] w1 (.cells #[int i64 (n:Int),.slice a n n] 195);have HBX:=hid (jg.new w1 (int i64 (n:Int)) (.slice a n n));have HGR:Box (GAt (w1.alloc (.cells #[int i64 (n:Int),.slice a n n] 195)) w1.heap.size a (zy F)):=hid (hg1.quiet ka);have HK1:=hid (k1.quiet ka);have HSZ:Box ((w1.alloc (.cells #[int i64 (n:Int),.slice a n n] 195)).heap.size=w1.heap.size+1):=hid (by simp);have HW1:=hid k1.size;clear ka hg1 k1 HFL;generalize w1.alloc (.cells #[int i64 (n:Int),.slice a n n] 195)=W1 at *;generalize w1.heap.size=gb at *;have c0:=HBX.o.c0;have c1:=HBX.o.c1;go_upto_region 4 with (go_at_call 132;refine (HMY.o a n gb _ HGR.o).mono ?_;rintro e w2 ⟨rfl,k2⟩;have HBX2:=hid (HBX.o.kept k2 (by simp));have d0:=HBX2.o.c0;have d1:=HBX2.o.c1;have d4:=C4.o _ (HK1.o.quiet k2))
 clear d1 c0 c1 HMY;have HK2:=hid (HK1.o.quiet k2);have HGR2:=hid (HGR.o.quiet k2);have HS2:Box (gb<w2.heap.size):=hid HBX2.o.lt;clear HBX HGR HK1 HSZ k2;have hm1:Box (∀ wa,zc [] w2 wa→IM w ((wa.alloc (.cells (madeCells #[zdx] n) 198)).alloc (.cells (madeCells #[zdx] n) 198)) (wa.heap.size+2) wa.heap.size (wa.heap.size+1) n 0 0 (fun _=>0) (fun _=>0) (fun _=>zM) (fun _=>zM) gb a (zy F) gb):=hid fun wa ka=>by
  have k3:=zc.alloc [] wa (.cells (madeCells #[zdx] n) 198);have k4:=zc.alloc [] (wa.alloc (.cells (madeCells #[zdx] n) 198)) (.cells (madeCells #[zdx] n) 198);have s1:=(HK2.o.quiet ka).size;have r1:=(zfd wa n w.heap.size s1 (by unfold maxLen;omega)).kept k4 (by simp);have r2:=zfd (wa.alloc (.cells (madeCells #[zdx] n) 198)) n w.heap.size (by simp;omega) (by unfold maxLen;omega);rw[World.size_alloc] at r2;exact ⟨⟨r1,fun i hi=>by omega,fun i hi=>by omega,fun i j hi=>by omega⟩,⟨r2,fun i hi=>by omega,fun i hi=>by omega,fun i j hi=>by omega⟩,fun i j hi=>by omega,((HK2.o.quiet ka).quiet k3).quiet k4,((HBX2.o.kept ka (by simp)).kept k3 (by simp)).kept k4 (by simp),((HGR2.o.quiet ka).quiet k3).quiet k4⟩
 have hm2:Box (∀ wa,zc [] w2 wa→IM w ((wa.alloc (.cells (madeCells #[zdx] n) 198)).alloc (.cells (madeCells #[zdx] n) 198)) (wa.heap.size+2) (wa.heap.size+1) wa.heap.size n 0 0 (fun _=>0) (fun _=>0) (fun _=>zM) (fun _=>zM) gb a (zy F) gb):=hid fun wa ka=>by
  have:=hm1.o wa ka;exact ⟨this.h2,this.h1,fun i j hi=>by omega,this.keep,this.box,this.gr⟩
 have d0a:=za (zc.alloc [] w2 (.cells (madeCells #[zdx] n) 198)) d0;go_upto_region 5 with fail
 go_cut [7,8] (fun t7 t8 wz=>∃ p1 p2 q,t7=.slice (some ⟨p1,0,none⟩) n n∧t8=.slice (some ⟨p2,0,none⟩) n n∧Box (IM w wz q p1 p2 n 0 0 (fun _=>0) (fun _=>0) (fun _=>zM) (fun _=>zM) gb a (zy F) gb)∧Box (IL w q p1 p2 gb gb)∧Box (q≤wz.heap.size))
 case first=>
  go_region
  all_goals
   go_wp2_with fail;go_meet;have s1:=HK2.o.size;have s2:=HS2.o
   first
    | exact ⟨_,_,w2.heap.size+2,rfl,rfl,hid ((hm1.o w2 (zc.refl _ _)).quiet (zc.drew [] _)),hid ⟨by omega,by omega,by omega,by omega,by omega,by omega,by omega,by omega,by omega,by omega,by omega⟩,hid (by simp)⟩
    | exact ⟨_,_,w2.heap.size+2,rfl,rfl,hid ((hm2.o w2 (zc.refl _ _)).quiet (zc.drew [] _)),hid ⟨by omega,by omega,by omega,by omega,by omega,by omega,by omega,by omega,by omega,by omega,by omega⟩,hid (by simp)⟩
 case rest=>
  clear hm1 hm2 d0a d0 d4 HK2 HGR2 HS2 HBX2;obtain ⟨p1,p2,q,rfl,rfl,HM,HL,HQ⟩:=hcut;have c0:=HM.o.box.c0;go_wp2_with fail;clear c0
  go_loopw [38] (fun i wr=>∃ (k:Nat) (d1 d2:Nat→Nat),k≤n∧i=int i64 (k:Int)∧Box (IM w wr q p1 p2 n k k d1 d2 (fun _=>zet F.regs.length) (fun b=>dfS (zr F b).code zM) gb a (zy F) gb)∧Box (q≤wr.heap.size)) (fun i _=>n - (intOf i).toNat)
  case atStart=>exact ⟨0,_,_,by omega,rfl,hid ⟨HM.o.h1.congr (fun i hi=>by omega),HM.o.h2.congr (fun i hi=>by omega),HM.o.cross,HM.o.keep,HM.o.box,HM.o.gr⟩,HQ⟩
  case round=>
   clear HM HQ;obtain ⟨k,d1,d2,hk,rfl,HM,HQ⟩:=hrel;by_cases hlt:k<n
   ·have hlt':(k:Int)<(n:Int):=by omega
    obtain ⟨bb,bo,rfl,hdf⟩:=BA.o k hlt;have HDF:=hid hdf;clear hdf;have cz:=HM.o.h1.row.cell hlt;have fz:=HM.o.h1.row.frozen k;go_upto_region 9 with fail;go_upto_region 10 with (go_at_call 205;refine (HRS.o _ HM.o.keep).mono ?_;rintro e w5 ⟨b5,rfl,h5,k5,n5⟩;have cz':=za k5 cz;have fz':=(HM.o.h1.row.kept k5 (by simp)).frozen k)
    have HM1:=hid (HM.o.put1 HL.o k5 h5 HQ.o n5);have HQ1:Box (q≤(w5.setCell ⟨p1,k,none⟩ (pointer (some ⟨b5,0,none⟩))).heap.size):=hid (by have:=HQ.o;have:=k5.size;simp[World.setCell];omega);clear HM HQ cz fz cz' fz' k5 n5 h5;generalize w5.setCell ⟨p1,k,none⟩ (pointer (some ⟨b5,0,none⟩))=w6 at *;have c2:=C2.o _ HM1.o.keep;have cz:=HM1.o.h2.row.cell hlt;have fz:=HM1.o.h2.row.frozen k;go_wp2_with (go_at_call 206;refine (HDF.o _ HM1.o.keep).mono ?_;rintro e w7 ⟨b7,rfl,h7,k7,n7⟩;have cz':=za k7 cz;have fz':=(HM1.o.h2.row.kept k7 (by simp)).frozen k);have HM2:=hid (HM1.o.put2 HL.o k7 h7 HQ1.o n7);have HQ2:Box (q≤(w7.setCell ⟨p2,k,none⟩ (pointer (some ⟨b7,0,none⟩))).heap.size):=hid (by have:=HQ1.o;have:=k7.size;simp[World.setCell];omega);go_roundw
    case rel=>exact ⟨k+1,_,_,by omega,by go_num,hid ⟨HM2.o.h1.congr (fun i hi=>by split <;> rfl),HM2.o.h2.congr (fun i hi=>by
     split
     ·next e=>rw[e]
     ·rfl),HM2.o.cross,HM2.o.keep,HM2.o.box,HM2.o.gr⟩,HQ2⟩
    case measure=>simp[intOf];omega
   ·obtain rfl:k=n:=by omega
    clear HRS BA C2 C4;go_upto_region 13 with (go_at_call 207;refine (HPA.o _ HM.o.keep).mono ?_;rintro e w5 ⟨rfl,k5⟩)
    have HM0:Box (IM w w5 q p1 p2 k k k d1 d2 (inK F (zeO P F) (zeO P F)) (fun b=>dfS (zr F b).code zM) gb a (zy F) gb):=hid (by
     have h5:=HM.o.quiet k5
     exact ⟨h5.h1.congr (fun i _=>(zfi F _ i).symm),h5.h2,h5.cross,h5.keep,h5.box,h5.gr⟩)
    have HQ0:Box (q≤w5.heap.size):=hid (Nat.le_trans HQ.o k5.size);have HEND:=hid fun (r b:Nat) (h:F.regs.length≤r)=>zli (P:=P) h b;clear HM HQ k5 HPA;generalize zeO P F=par at *;have HST:Box (∀ (w':World) (r:Nat) (D1:Nat→Nat→Bool),IM w w' q p1 p2 k k k d1 d2 D1 (fun b=>dfS (zr F b).code zM) gb a (zy F) gb→Calls Tryz.prog 209 #[agg #[int i64 (k:Int),.slice a k k],.slice (some ⟨p2,0,none⟩) k k,int i64 (r:Int)] w' fun e w''=>∃ a',e=.returned (agg #[int i64 (k:Int),.slice a' k k])∧GAt w'' w''.heap.size a' (Zn (zy F) (fun b=>dfS (zr F b).code zM) r)∧zc [] w' w''):=hid fun w' r D1 hM=>by
     have:=zcH (zy F) HSM.o a k gb w' hM.gr (by have:=hM.box.lt;omega) (base:=w.heap.size) (p:=p2) (d:=d2) (D:=fun b=>dfS (zr F b).code zM) (by rw[HFN.o];exact hM.h2.ps) (fun i=>zaY _ _ QV) r;rw[qR,HFN.o] at this;exact this
    have HRE:Box (∀ (w':World) (r:Nat) (a':Option Addr),GAt w' w'.heap.size a' (Zn (zy F) (fun b=>dfS (zr F b).code zM) r)→Calls Tryz.prog 133 #[agg #[int i64 (k:Int),.slice a' k k]] w' fun e w''=>∃ b,e=.returned (pointer (some ⟨b,0,none⟩))∧zJ w'' b (js F r)∧zc [] w' w''∧w'.heap.size≤b):=hid fun w' r a' hG=>by
     have:=Q7 (Zn (zy F) (fun b=>dfS (zr F b).code zM) r) (zaK HSM.o _ r) a' k w'.heap.size w' hG (Nat.le_refl _);rw[qR,HFN.o] at this;exact this
    have HBF:Box (∀ r,Fit (js F r)):=hid fun r m hm=>HBO.o r m (by omega);obtain ⟨R,hR⟩:∃ R,F.regs.length=R:=⟨_,rfl⟩;rw[hR] at HRG hr HEND;clear hR HSM HFN
    go_loopw [10] (fun i wr=>∃ r:Nat,par≤r∧(r≤R∨r=par)∧i=int i64 (r:Int)∧Box (IM w wr q p1 p2 k k k d1 d2 (inK F par r) (fun b=>dfS (zr F b).code zM) gb a (zy F) gb)∧Box (q≤wr.heap.size)) (fun i _=>R - (intOf i).toNat)
    case atStart=>exact ⟨par,Nat.le_refl _,.inr rfl,rfl,HM0,HQ0⟩
    case round=>
     clear HM0 HQ0;obtain ⟨r,hpr,hrR,rfl,HM,HQ⟩:=hrel;by_cases hlt:r<R
     ·have hlt':(r:Int)<(R:Int):=by omega
      have c0:=HM.o.box.c0;have c1:=HM.o.box.c1
      go_upto_region 16 with (first
       | (go_at_call 208;refine (HRG.o _ HM.o.keep).mono ?_;rintro e w6 ⟨rfl,rfl⟩)
       | (go_at_call 209;refine (HST.o _ r _ HM.o).mono ?_;rintro e w6 ⟨a6,rfl,g6,k6⟩)
       | (go_at_call 133;refine (HRE.o _ r a6 g6).mono ?_;rintro e w7 ⟨b7,rfl,h7,k7,n7⟩))
      have HNE:Box (∀ i,i<k→d1 i≠b7):=hid fun i hi e=>by
       have:=(HM.o.h1.set i hi).lt';have:=k6.size;omega
      have HM7:=hid ((HM.o.quiet k6).quiet k7);have HQ7:Box (q≤w7.heap.size):=hid (Nat.le_trans HQ.o (Nat.le_trans k6.size k7.size));have H7:=hid h7;clear HM HQ c0 c1 g6 k6 h7 k7 n7 HST HRE HRG;have HFI:Box (∀ (w':World) (c:Nat),zc [] w w'→zJ w' b7 (js F r)→Calls Tryz.prog 210 #[pointer (some ⟨b7,0,none⟩),int i64 (c:Int)] w' fun e w''=>∃ v:Int,e=.returned (int i64 v)∧((v= -1∧∀ m,c≤m→js F r m=false)∨∃ j:Nat,v=(j:Int)∧c≤j∧j<k∧js F r j=true∧∀ m,c≤m→m<j→js F r m=false)∧∃ m,w''=w'.drewN m):=hid fun w' c kw hset=>by
       refine (zfw b7 (js F r) (c:Int) w' hset (HBF.o r) (HTB.o _ kw)).mono ?_;rintro e w'' ⟨rfl,m,rfl⟩;refine ⟨_,rfl,?_,m,rfl⟩;rcases ZC (js F r) (c:Int) with ⟨h1,h2⟩ | ⟨j,h1,h2,h3,h4,h5⟩
       ·refine .inl ⟨h1,fun m hm=> ?_⟩
        by_cases hk5:m<5000
        ·exact h2 m hk5 (by omega)
        ·exact HBF.o r m (by omega)
       ·refine .inr ⟨j,h1,by omega,?_,h4,fun m hm hj=>h5 m hj (by omega)⟩
        rcases Nat.lt_or_ge j k with h6 | h6
        ·exact h6
        ·rw[HBO.o r j h6] at h4
         cases h4
      go_wp2_with (go_at_call 210;refine (HFI.o _ 0 HM7.o.keep H7.o).mono ?_;rintro e w8 ⟨v8,rfl,hv8,m8,rfl⟩);have kd:=zc.drewN [] w7 m8
      have HM8:Box (IM w (w7.drewN m8) q p1 p2 k k k d1 d2 (inC F par r 0) (fun b=>dfS (zr F b).code zM) gb a (zy F) gb):=hid (by
       have h5:=HM7.o.quiet kd
       exact ⟨h5.h1.congr (fun i _=>(zhT F _ _ i).symm),h5.h2,h5.cross,h5.keep,h5.box,h5.gr⟩)
      have H8:=hid (H7.o.kept kd (by simp));have HQ8:Box (q≤(w7.drewN m8).heap.size):=hid HQ7.o;have HV8:=hid hv8;have hkk:(k:Int)≤600:=by omega
      clear HM7 H7 HQ7 kd hv8
      go_loopw [12] (fun i wr=>∃ (c:Nat) (v:Int),i=int i64 v∧c≤k∧Box ((v= -1∧∀ m,c≤m→js F r m=false)∨∃ j:Nat,v=(j:Int)∧c≤j∧j<k∧js F r j=true∧∀ m,c≤m→m<j→js F r m=false)∧Box (IM w wr q p1 p2 k k k d1 d2 (inC F par r c) (fun b=>dfS (zr F b).code zM) gb a (zy F) gb)∧Box (zJ wr b7 (js F r))∧Box (q≤wr.heap.size)) (fun i _=>if intOf i<0 then 0 else k+1 - (intOf i).toNat)
      case atStart=>exact ⟨0,v8,rfl,by omega,HV8,HM8,H8,HQ8⟩
      case round=>
       clear HM8 H8 HQ8 HV8;obtain ⟨c,v,rfl,hc,HV,HM,H7,HQ⟩:=hrel;rcases HV.o with ⟨rfl,hno⟩ | ⟨j,rfl,hcj,hjk,hbj,hno⟩
       ·have HNO:=hid hno
        clear HV hno;go_wp2;go_roundw
        case rel=>exact ⟨r+1,by omega,.inl (by omega),by go_num,hid ⟨HM.o.h1.congr (fun i hi=>by
         rw[zd1 (c':=k) hc (fun j h1 _=>HNO.o j h1)]
         exact zi6 hpr hi),HM.o.h2,HM.o.cross,HM.o.keep,HM.o.box,HM.o.gr⟩,HQ⟩
        case measure=>simp[intOf];omega
       ·have HJ:Box (IM w wr q p1 p2 k k k d1 d2 (inC F par r j) (fun b=>dfS (zr F b).code zM) gb a (zy F) gb):=hid ⟨HM.o.h1.congr (fun i hi=>zd1 hcj hno),HM.o.h2,HM.o.cross,HM.o.keep,HM.o.box,HM.o.gr⟩
        have HB:=hid hbj;have hj0:(0:Int)≤(j:Int):=by omega
        have hjk':(j:Int)<(k:Int):=by omega
        have hj6:(j:Int)<600:=by omega
        have cz:=HJ.o.h1.row.cell hjk;unfold pv at cz;rw[if_pos hjk] at cz;have HRM:=hid (zkH (d1 j) (inC F par r j j) (r:Int) wr (HJ.o.h1.set j hjk) (HRK.o par r j j));clear HM HV hno hbj
        go_wp2_with (first
         | (go_at_call 211;refine HRM.o.mono ?_;rintro e w9 ⟨rfl,h9,k9⟩;have HM9:=hid (HJ.o.turn HL.o hjk k9 h9);have H9:=hid (H7.o.kept k9 (by have:=HNE.o j hjk;simp;omega));have HQ9:Box (q≤w9.heap.size):=hid (Nat.le_trans HQ.o k9.size))
         | (go_at_call 210;refine (HFI.o _ (j+1) HM9.o.keep H9.o).mono ?_;rintro e w10 ⟨v10,rfl,hv10,m10,rfl⟩))
        have kd:=zc.drewN [] w9 m10;go_roundw
        case rel=>exact ⟨j+1,v10,rfl,by omega,hid hv10,hid (by
         have h5:=HM9.o.quiet kd
         exact ⟨h5.h1.congr (fun i _=>zlQ HB.o i),h5.h2,h5.cross,h5.keep,h5.box,h5.gr⟩),hid (H9.o.kept kd (by simp)),hid HQ9.o⟩
        case measure=>
         refine zmX hjk ?_;rcases hv10 with ⟨h0,_⟩ | ⟨i,h0,h1,h2,_⟩
         ·exact .inl h0
         ·exact .inr ⟨i,h0,by omega,h2⟩
     ·go_wp2_with (go_at_call 208;refine (HRG.o _ HM.o.keep).mono ?_;rintro e w6 ⟨rfl,rfl⟩)
      go_ret;exact ⟨p1,d1,q,rfl,HM.o.h1.congr (fun i _=>HEND.o r i (by omega)),HL.o.q1,HL.o.l1,HM.o.keep⟩
structure Rt (P:Pr8):Prop where
 bnd:qJ P=true
 sm:Sm8 P
 nm:zB P=none
theorem Rt.few(h:Rt P):zjI P:=Jp h.bnd
theorem zaA(h:qJ P=true)(hf:f<P.funcs.length):(zf P f).regs.length≤16∧0<(zf P f).blocks.length∧(zf P f).blocks.length≤12:=by
 have h1:fnB (zf P f)=true:=Za (ZE h) (zg hf);unfold fnB at h1;simp only[Bool.and_eq_true,decide_eq_true_eq] at h1;exact ⟨h1.1,h1.2.1,jD h1.2.2⟩
theorem Rt.sz(h:Rt P):SzP P:=by
 have sm10:=Zy (ZE h.bnd);refine ⟨Nat.le_trans h.sm.fn (by decide),fun f hf=>(zaA h.bnd hf).2.1,fun f hf=>Nat.le_trans (zaA h.bnd hf).2.2 (by decide),fun f hf=>Nat.le_trans (zaA h.bnd hf).1 (by decide),fun f b hf=> ?_,fun f b k hf hk=> ?_⟩
 ·by_cases hb:b<(zf P f).blocks.length
  ·exact Nat.le_trans (sm10.code hf hb) (by decide)
  ·unfold zr
   rw[QR hb];simp
 ·by_cases hb:b<(zf P f).blocks.length
  ·exact h.few f b k hf hb hk
  ·unfold zr at hk
   rw[QR hb] at hk;simp at hk
end Go.Proofs.YthflgjkmbakedaaGreatDoor
