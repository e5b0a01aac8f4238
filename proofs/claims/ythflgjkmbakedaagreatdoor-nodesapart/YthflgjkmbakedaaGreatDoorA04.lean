import Derived.Deep.RegionLaw
import Derived.Deep.RegionLawGrows
import Derived.ArgAppend
import Derived.Laws.OwnMore
import Derived.OneCell
import Derived.Deep.RegionHeld3
import Derived.Shelf.Strconv.Itoa3
import Derived.Test.YthflgjkmbakedaaGreatDoorA03

namespace Go.Proofs.YthflgjkmbakedaaGreatDoor
open Go.RowKit
open Go.Value (int pointer agg)
open Go.IntKind (i64)
set_option maxHeartbeats 8000000
set_option maxRecDepth 20000
variable {B b c f k n o pb po:Nat}{L:List Nat}{P:Pr8}{T:TypeId}{a:Option Addr}{w w':World}{x y:Value}
structure zn2 (w:World) (pb po:Nat) (P:Pr8) (fa:Option Addr) (fcp:Nat):Prop where
 cell:w.cell? ⟨pb,po+4,none⟩=some (.slice fa P.funcs.length fcp)
 rows:z7 w 3 FuC fa P.funcs
 cap:P.funcs.length≤fcp
 len:P.funcs.length≤maxLen
theorem PrC.fns(h:PrC w pb po P):∃ fa fcp,zn2 w pb po P fa fcp:=by
 obtain ⟨fa,fcp,h1,h2,h3,h4⟩:=h.c4;exact ⟨fa,fcp,h1,h2,h3,h4⟩
structure zh1 (w:World) (fb fo:Nat) (P:Pr8) (f:Nat) (ba:Option Addr) (bcp:Nat):Prop where
 cell:w.cell? ⟨fb,fo+f * 3+2,none⟩=some (.slice ba (zf P f).blocks.length bcp)
 rows:z7 w 5 BlC ba (zf P f).blocks
 cap:(zf P f).blocks.length≤bcp
 len:(zf P f).blocks.length≤maxLen
theorem zg{α:Type}{l:List α}{d:α}(h:k<l.length):l[k]? = some (l.getD k d):=by
 rw[List.getD_eq_getElem?_getD,List.getElem?_eq_getElem h];rfl
theorem zn2.at{fa:Option Addr}{fcp:Nat}(h:zn2 w pb po P fa fcp)(hf:f<P.funcs.length):∃ fb fo ba bcp,fa=some ⟨fb,fo,none⟩∧zh1 w fb fo P f ba bcp:=by
 obtain ⟨fb,fo,h1,h2⟩:=h.rows.at (zg (d:=⟨0,[],[]⟩) hf);obtain ⟨ba,bcp,g1,g2,g3,g4⟩:=h2.c2;exact ⟨fb,fo,ba,bcp,h1,g1,g2,g3,g4⟩
theorem zh1.at{fb fo:Nat}{ba:Option Addr}{bcp:Nat}(h:zh1 w fb fo P f ba bcp)(hb:b<(zf P f).blocks.length):∃ bb bo,ba=some ⟨bb,bo,none⟩∧BlC w bb (bo+b * 5) (zr (zf P f) b):=by
 have e:(zf P f).blocks[b]? = some (zr (zf P f) b):=zg hb;exact h.rows.at e
theorem zih(bb o n cp:Nat)(a:Option Addr)(w:World)(h:w.cell? ⟨bb,o,none⟩=some (.slice a n cp))(hn:n≤1000):
  Calls Tryz.prog 99 #[pointer (some ⟨bb,o,none⟩)] w fun e w'=>e=.returned (int i64 ((n+1:Nat):Int))∧w'=w:=by
 have h1:(n:Int)≤1000:=by omega
 go_enter Tryz.func99,Tryz.ntmps99;go_wp2;go_ret;exact ⟨by go_num,rfl⟩
def zeg(x:Fu8)(m:Nat):Nat:=(ptF x 0 m).length
theorem zdd(x:Fu8)(f m:Nat):(ptF x f m).length=zeg x m:=by
 unfold zeg
 induction m with
 | zero=>rfl
 | succ m ih=>rw[qX,qX,List.length_append,List.length_append,zad,zad,ih]
theorem Zj(x:Fu8)(m:Nat):zeg x (m+1)=zeg x m+((zr x m).code.length+1):=by
 unfold zeg;rw[qX,List.length_append,zad]
theorem zhu(x:Fu8){m:Nat}(h:m≤n):zeg x m≤zeg x n:=by
 induction n with
 | zero=>rw[show m=0 by omega];exact Nat.le_refl _
 | succ n ih=>
  by_cases e:m=n+1
  ·rw[e];exact Nat.le_refl _
  ·have:=ih (by omega)
   rw[Zj];omega
def zeR(P:Pr8)(k:Nat):Nat:=(ptP P k).length
theorem QW(P:Pr8)(k:Nat):zeR P (k+1)=zeR P k+zeg (zf P k) (zf P k).blocks.length:=by
 unfold zeR;rw[Z8,List.length_append,zdd]
theorem zgv(P:Pr8){m:Nat}(h:m≤n):zeR P m≤zeR P n:=by
 induction n with
 | zero=>rw[show m=0 by omega];exact Nat.le_refl _
 | succ n ih=>
  by_cases e:m=n+1
  ·rw[e];exact Nat.le_refl _
  ·have:=ih (by omega)
   rw[QW];omega
theorem zcB(P:Pr8):(pts P).length=zeR P P.funcs.length:=rfl
theorem SlC.len{α:Type}{R:World→Nat→Nat→α→Prop}{l:List α}(h:SlC c R w b o l):∃ a cp,w.cell? ⟨b,o,none⟩=some (.slice a l.length cp):=by
 obtain ⟨a,cp,h1,_⟩:=h;exact ⟨a,cp,h1⟩
theorem zQ{p:Nat}{o:Obj}(h:w.heap[p]? = some o):p<w.heap.size:=by
 rw[Array.getElem?_eq_some_iff] at h;exact h.1
theorem zh(w:World)(o:Obj):(w.alloc o).heap[w.heap.size]? = some o:=heap_alloc_new w o
theorem ze{s:Nat}{o:Obj}(h:w.heap[s]? = some o)(k:zc [] w w'):w'.heap[s]? = some o:=(k.block s (zQ h) (by simp)).trans h
theorem zd{cs:Array Value}(h:w.heap[b]? = some (.cells cs T (0,0)))(j:Nat):w.cell? ⟨b,j,none⟩=cs[j]? := Lib.cell_of_heap h j
theorem zi{cs:Array Value}(h:w.heap[b]? = some (.cells cs T (0,0)))(j:Nat):w.frozen? ⟨b,j,none⟩=false:=Lib.frozen_of_heap h j
theorem jZ{z:Value}(h:w.heap[b]? = some (.cells #[x,y,z] T (0,0)))(u0 u1 u2:Value):
  (((w.setCell ⟨b,0,none⟩ u0).setCell ⟨b,1,none⟩ u1).setCell ⟨b,2,none⟩ u2).heap[b]? = some (.cells #[u0,u1,u2] T (0,0)):=
 heap_setCell_same _ b 2 _ _ u2 (heap_setCell_same _ b 1 _ _ u1 (heap_setCell_same w b 0 _ _ u0 h))
theorem jc(w:World)(b:Nat)(u0 u1 u2:Value):zc [b] w (((w.setCell ⟨b,0,none⟩ u0).setCell ⟨b,1,none⟩ u1).setCell ⟨b,2,none⟩ u2):=
 ((zc.setCell [b] _ _ _ (List.mem_singleton.2 rfl)).step (zc.setCell [b] _ _ _ (List.mem_singleton.2 rfl))).step (zc.setCell [b] _ _ _ (List.mem_singleton.2 rfl))
structure PtC (w:World) (b o:Nat) (q:Nat × Nat × Nat):Prop where
 c0:w.cell? ⟨b,o,none⟩=some (int i64 (q.1:Int))
 c1:w.cell? ⟨b,o+1,none⟩=some (int i64 (q.2.1:Int))
 c2:w.cell? ⟨b,o+2,none⟩=some (int i64 (q.2.2:Int))
theorem PtC.stays:Q4 PtC:=fun _ _ _ _ _ k h=>⟨za k h.c0,za k h.c1,za k h.c2⟩
def Zt(l:List (Nat × Nat × Nat)):List Value:=l.flatMap fun q=>[int i64 (q.1:Int),int i64 (q.2.1:Int),int i64 (q.2.2:Int)]
theorem JU(l:List (Nat × Nat × Nat))(f b i:Nat):Zt (l ++ [(f,b,i)])=Zt l ++ [int i64 (f:Int),int i64 (b:Int),int i64 (i:Int)]:=by
 unfold Zt;rw[List.flatMap_append];rfl
theorem ziK(l:List (Nat × Nat × Nat)):(Zt l).length=l.length * 3:=by
 induction l with
 | nil=>rfl
 | cons q l ih=>
  have:Zt (q :: l)=[int i64 (q.1:Int),int i64 (q.2.1:Int),int i64 (q.2.2:Int)] ++ Zt l:=rfl;rw[this,List.length_append,ih,List.length_cons];show 3+l.length * 3=(l.length+1) * 3;omega
theorem ziW(l:List (Nat × Nat × Nat)):∀ (j:Nat) (q:Nat × Nat × Nat),l[j]? = some q→(Zt l)[j * 3]? = some (int i64 (q.1:Int))∧(Zt l)[j * 3+1]? = some (int i64 (q.2.1:Int))∧(Zt l)[j * 3+2]? = some (int i64 (q.2.2:Int)):=by
 induction l with
 | nil=>intro j q h;simp at h
 | cons p l ih=>
  intro j q h;have e:Zt (p :: l)=[int i64 (p.1:Int),int i64 (p.2.1:Int),int i64 (p.2.2:Int)] ++ Zt l:=rfl;cases j with
  | zero=>
   simp at h;subst h;rw[e];exact ⟨rfl,rfl,rfl⟩
  | succ j=>
   have h':=ih j q (by simpa using h);rw[e,show (j+1) * 3=j * 3+3 by omega];refine ⟨?_,?_,?_⟩ <;> rw[List.getElem?_append_right (by simp)]
   ·exact h'.1
   ·rw[show j * 3+3+1 - [Value.int .i64 (p.1:Int),int i64 (p.2.1:Int),int i64 (p.2.2:Int)].length=j * 3+1 by simp]
    exact h'.2.1
   ·rw[show j * 3+3+2 - [Value.int .i64 (p.1:Int),int i64 (p.2.1:Int),int i64 (p.2.2:Int)].length=j * 3+2 by simp]
    exact h'.2.2
theorem zbk{base:Nat}{v:Value}{l:List (Nat × Nat × Nat)}(h:w.ownsRow base 99 3 v n (Zt l)):∃ a cp,v=.slice a n cp∧n=l.length∧z7 w 3 PtC a l∧l.length≤cp:=by
 have hl:n=l.length:=by have:=h.1;rw[ziK] at this;omega
 rcases h.2 with ⟨rfl,h0⟩ | ⟨g,cap,cur,rfl,_,hg,hle,_,hs,ht⟩
 ·subst h0
  exact ⟨none,0,rfl,hl,.inl (List.eq_nil_of_length_eq_zero hl.symm),by omega⟩
 ·refine ⟨_,cap,rfl,hl,.inr ⟨g,0,rfl,fun j q hq=> ?_⟩,by omega⟩
  have hj:j<l.length:=by
   rcases Nat.lt_or_ge j l.length with h | h
   ·exact h
   ·rw[List.getElem?_eq_none h] at hq;cases hq
  have key:∀ i,i<n * 3→w.cell? ⟨g,i,none⟩=(Zt l)[i]? := fun i hi=>by
   rw[cell_of_row w g i cur _ _ hg, ← ht,List.getElem?_take,if_pos hi];simp
  obtain ⟨g0,g1,g2⟩:=ziW l j q hq;rw[Nat.zero_add];exact ⟨(key _ (by omega)).trans g0,(key _ (by omega)).trans g1,(key _ (by omega)).trans g2⟩
theorem zaS:Tryz.t99.zero=some (agg #[int i64 0,int i64 0,int i64 0]):=by kernel_rfl
theorem ZR:Tryz.t99.size=3:=by kernel_rfl
theorem JG:Tryz.t99.bytes=24:=by kernel_rfl
theorem zac:Tryz.prog.info? 99=some Tryz.t99:=by kernel_rfl
theorem ZO:Tryz.prog.underlying 100=some (.slice 99):=by kernel_rfl
theorem QL(x y z:Int):∀ u∈[Value.int .i64 x,int i64 y,int i64 z],u.oneCell'=true:=by
 intro u hu;simp at hu;rcases hu with rfl | rfl | rfl <;> rfl
def JA(l:List Int):List Value:=l.map fun z=>int i64 z
theorem ZF(l:List Int):(JA l).length=l.length:=by unfold JA;rw[List.length_map]
theorem Qh(l:List Int):∀ u∈JA l,u.oneCell'=true:=by
 intro u hu;unfold JA at hu;rw[List.mem_map] at hu;obtain ⟨z,_,rfl⟩:=hu;rfl
theorem jN{base:Nat}{v:Value}{l:List Int}(h:w.ownsRow base 3 1 v n (JA l)):∃ a cp,v=.slice a n cp∧n=l.length∧zw w a l∧n≤cp∧∀ b off,a=some ⟨b,off,none⟩→base≤b:=by
 have hl:n=l.length:=by have:=h.1;rw[ZF] at this;omega
 rcases h.2 with ⟨rfl,h0⟩ | ⟨g,cap,cur,rfl,hbs,hg,hle,_,hs,ht⟩
 ·subst h0
  exact ⟨none,0,rfl,hl,.inl (List.eq_nil_of_length_eq_zero hl.symm),by omega,fun _ _ e=>by cases e⟩
 ·refine ⟨_,cap,rfl,hl,.inr ⟨g,0,rfl,fun i hi=> ?_⟩,hle,fun b off e=>by cases e;assumption⟩
  rw[Nat.zero_add,cell_of_row w g i cur _ _ hg];have e2:(cur.toList.take (n * 1))[i]? = cur.toList[i]? := by rw[List.getElem?_take,if_pos (by omega)]
  have e1:cur[i]? = cur.toList[i]? := by simp
  rw[e1, ← e2,ht];unfold JA;rw[List.getElem?_map,List.getElem?_eq_getElem hi,List.getD_eq_getElem?_getD,List.getElem?_eq_getElem hi];rfl
theorem zf0{off:Nat}{l:List Int}(h:∀ i,i<l.length→w.cell? ⟨b,off+i,none⟩=some (int i64 (l.getD i 0))):∀ j u,(JA l)[j]? = some u→w.cell? ((⟨b,off,none⟩:Addr).add j)=some u:=by
 intro j u hu;have hadd:(⟨b,off,none⟩:Addr).add j=⟨b,off+j,none⟩:=by unfold Addr.add;by_cases e:j=0 <;> simp[e]
 unfold JA at hu;rw[List.getElem?_map] at hu;by_cases hj:j<l.length
 ·rw[hadd,h j hj]
  rw[List.getElem?_eq_getElem hj] at hu;simp at hu;rw[List.getD_eq_getElem?_getD,List.getElem?_eq_getElem hj, ← hu];rfl
 ·rw[List.getElem?_eq_none (by omega)] at hu
  cases hu
def ptV(f b i:Int):Value:=agg #[int i64 f,int i64 b,int i64 i]
abbrev zls (n:Int):Prop:=b64 n
def z8(x:In8)(ar:Value):Value:=agg #[int i64 x.op,int i64 x.dst,int i64 x.a,int i64 x.b,int i64 x.n,ar]
structure InW (w:World) (q:Nat) (x:In8) (ar:Value):Prop where
 c0:w.cell? ⟨q,0,none⟩=some (int i64 x.op)
 c1:w.cell? ⟨q,1,none⟩=some (int i64 x.dst)
 c2:w.cell? ⟨q,2,none⟩=some (int i64 x.a)
 c3:w.cell? ⟨q,3,none⟩=some (int i64 x.b)
 c4:w.cell? ⟨q,4,none⟩=some (int i64 x.n)
 c5:w.cell? ⟨q,5,none⟩=some ar
structure zn5 (x:In8):Prop where
 op:zls x.op
 dst:zls x.dst
 a:zls x.a
 b:zls x.b
 n:zls x.n
 args:∀ z,z∈x.args→zls z
theorem eqb{a b:Int}(h:a=b):(a == b)=true:=by simpa using h
theorem neb{a b:Int}(h:a≠b):(a == b)=false:=by simpa using h
theorem InC.open{x:In8}(h:InC w b o x):zn5 x∧∃ ar cp,w.cell? ⟨b,o+5,none⟩=some (.slice ar x.args.length cp)∧zw w ar x.args∧x.args.length≤cp:=by
 obtain ⟨ar,cp,h1,h2,h3,_⟩:=h.c5;refine ⟨⟨h.c0.2,h.c1.2,h.c2.2,h.c3.2,h.c4.2,fun z hz=> ?_⟩,ar,cp,h1,jL h2,h3⟩;obtain ⟨i,hi,e⟩:=List.getElem_of_mem hz;obtain ⟨_,_,_,h9⟩:=h2.at (j:=i) (y:=z) (by rw[List.getElem?_eq_getElem hi,e]);exact h9.2
theorem zj3{x:Bl8}{i:Nat}(h:i<x.code.length):x.code[i]? = some (zT x i):=by
 unfold zT;rw[List.getD_eq_getElem?_getD,List.getElem?_eq_getElem h];rfl
theorem zkX(b:Nat)(a:Int)(w:World)(h:¬ (0≤a∧a<5000)):
  Calls Tryz.prog 215 #[pointer (some ⟨b,0,none⟩),int i64 a] w fun e w'=>e=.returned (.bool false)∧w'=w:=by
 have H:=hid h;clear h;go_enter Tryz.func215,Tryz.ntmps215;go_wp2_with (go_at_call 203;refine (zjr _ _ H.o).mono ?_;rintro e w' ⟨rfl,rfl⟩);go_ret;exact ⟨rfl,rfl⟩
theorem zl2(b n:Nat)(w:World)(h:n<5000)
  (hh:∀ w1,w1=w→Calls Tryz.prog 134 #[pointer (some ⟨b,0,none⟩),int i64 n] w1 fun e w'=>e=.returned (.bool true)∧∃ m,w'=w1.drewN m):
  Calls Tryz.prog 215 #[pointer (some ⟨b,0,none⟩),int i64 n] w fun e w'=>e=.returned (.bool false)∧∃ m,w'=w.drewN m:=by
 have H:=hid hh;clear hh;go_enter Tryz.func215,Tryz.ntmps215;go_wp2_with fail;refine (zc8 n _ h).mono ?_;rintro e w' ⟨rfl,rfl⟩;go_wp2_with fail;refine (H.o _ rfl).mono ?_;rintro e w' ⟨rfl,m,rfl⟩;go_wp2;go_ret;exact ⟨rfl,_,rfl⟩
theorem ziO(b n k p x z:Nat)(w:World)(h:n<5000)(hk:k<79)(hz:bits BinOp.or IntKind.u64 (x:Int) (p:Int)=(z:Int))(hc:w.cell? ⟨b,k,none⟩=some (.int .u64 x))(hfz:w.frozen? ⟨b,k,none⟩=false)
  (hh:∀ w1,w1=w→Calls Tryz.prog 134 #[pointer (some ⟨b,0,none⟩),int i64 n] w1 fun e w'=>e=.returned (.bool false)∧∃ m,w'=w1.drewN m)
  (hpl:∀ w1,Calls Tryz.prog 204 #[int i64 n] w1 fun e w'=>e=.returned (.tuple #[int i64 k,.int .u64 p])∧∃ m,w'=w1.drewN m):
  Calls Tryz.prog 215 #[pointer (some ⟨b,0,none⟩),int i64 n] w fun e w'=>e=.returned (.bool true)∧∃ m,w'=(w.setCell ⟨b,k,none⟩ (.int .u64 z)).drewN m:=by
 have H:=hid hh;have H2:=hid hpl;clear hh hpl;go_enter Tryz.func215,Tryz.ntmps215;go_wp2_with fail;refine (zc8 n _ h).mono ?_;rintro e w' ⟨rfl,rfl⟩;go_wp2_with fail;refine (H.o _ rfl).mono ?_;rintro e w' ⟨rfl,m,rfl⟩;go_wp2_with fail;refine (H2.o _).mono ?_;rintro e w' ⟨rfl,m2,rfl⟩;go_wp2
 go_region
 go_wp2;go_ret;exact ⟨rfl,_,rfl⟩
theorem zaZ(n:Nat)(hn:n<5000)(w1:World):Calls Tryz.prog 204 #[int i64 (n:Int)] w1 fun e w'=>e=.returned (.tuple #[int i64 ((n / 64:Nat):Int),.int .u64 ((2 ^ (n % 64):Nat):Int)])∧∃ m,w'=w1.drewN m:=by
 refine (zbV n w1 hn).mono ?_;rintro e w' ⟨k,p,he,_,_,hh,hw⟩;obtain ⟨rfl,rfl⟩:=hh.o;exact ⟨he,hw⟩
theorem zbt(b:Nat)(s:Nat→Bool)(a:Int)(w:World)(hs:zJ w b s)(hf:Fit s):
  Calls Tryz.prog 215 #[pointer (some ⟨b,0,none⟩),int i64 a] w fun e w'=>e=.returned (.bool (decide (0≤a∧a<5000) && !ZL s a))∧zJ w' b (zct s a)∧zc [b] w w':=by
 by_cases h:0≤a∧a<5000
 ·have hd:decide (0≤a∧a<5000)=true:=by simpa using h
  rw[hd];obtain ⟨n,rfl⟩:=Int.eq_ofNat_of_zero_le h.1;have hn:n<5000:=by omega
  have e2:ZL s (n:Int)=s n:=by simp[ZL]
  rw[e2];have hh:∀ w1,w1=w→Calls Tryz.prog 134 #[pointer (some ⟨b,0,none⟩),int i64 (n:Int)] w1 fun e w'=>e=.returned (.bool (s n))∧∃ m,w'=w1.drewN m:=by
   intro w1 hw;subst hw;have:=Q3 b s n w1 hs hf;rw[e2] at this;exact this
  cases hsn:s n
  ·have hp:2 ^ (n % 64)<18446744073709551616:=Qk (Nat.mod_lt _ (by decide))
   have hc:=hs.cell (k:=n / 64) (by omega);rw[hsn] at hh;refine (ziO b n (n / 64) (2 ^ (n % 64)) (wd s (n / 64)) (wd s (n / 64) ||| 2 ^ (n % 64)) w hn (by omega) (u64_or_nat _ _ (zcN s _) hp) hc (hs.frozen _) hh (zaZ n hn)).mono ?_;rintro e w' ⟨he,m,hw⟩;subst hw;refine ⟨by rw[he];rfl,?_,?_⟩
   ·rw[zdt s n hn]
    exact (hs.put (ins s n) (n / 64) _ (fun j hj=>zdX s n j hj) (zfA s n)).drewN m
   ·exact (zc.setCell [b] w ⟨b,n / 64,none⟩ _ (by simp)).quiet (zc.drewN _ _ m)
  ·rw[hsn] at hh
   refine (zl2 b n w hn hh).mono ?_;rintro e w' ⟨he,m,hw⟩;subst hw;exact ⟨by rw[he];rfl,by rw[zjQ s n hsn];exact hs.drewN m,zc.drewN _ _ m⟩
 ·have hd:decide (0≤a∧a<5000)=false:=by simpa using h
  rw[hd];refine (zkX b a w h).mono ?_;rintro e w' ⟨he,hw⟩;subst hw;exact ⟨by rw[he];rfl,by rw[zhA s a h];exact hs,zc.refl _ _⟩
theorem zkc(pv:Value)(a:Int)(w:World)
  (hh:Calls Tryz.prog 134 #[pv,int i64 a] w fun e w'=>e=.returned (.bool false)∧∃ m,w'=w.drewN m):
  Calls Tryz.prog 211 #[pv,int i64 a] w fun e w'=>e=.returned (.bool false)∧∃ m,w'=w.drewN m:=by
 have H:=hid hh;clear hh;go_enter Tryz.func211,Tryz.ntmps211;go_wp2_with fail;refine H.o.mono ?_;rintro e w' ⟨rfl,m,rfl⟩;go_wp2;go_ret;exact ⟨rfl,_,rfl⟩
theorem zhI(b n k p x z:Nat)(w:World)(hk:k<79)(hz:bits BinOp.andNot IntKind.u64 (x:Int) (p:Int)=(z:Int))(hc:w.cell? ⟨b,k,none⟩=some (.int .u64 x))(hfz:w.frozen? ⟨b,k,none⟩=false)
  (hh:Calls Tryz.prog 134 #[pointer (some ⟨b,0,none⟩),int i64 n] w fun e w'=>e=.returned (.bool true)∧∃ m,w'=w.drewN m)
  (hpl:∀ w1,Calls Tryz.prog 204 #[int i64 n] w1 fun e w'=>e=.returned (.tuple #[int i64 k,.int .u64 p])∧∃ m,w'=w1.drewN m):
  Calls Tryz.prog 211 #[pointer (some ⟨b,0,none⟩),int i64 n] w fun e w'=>e=.returned (.bool true)∧∃ m,w'=(w.setCell ⟨b,k,none⟩ (.int .u64 z)).drewN m:=by
 have H:=hid hh;have H2:=hid hpl;clear hh hpl;go_enter Tryz.func211,Tryz.ntmps211;go_wp2_with fail;refine H.o.mono ?_;rintro e w' ⟨rfl,m,rfl⟩;go_wp2_with fail;refine (H2.o _).mono ?_;rintro e w' ⟨rfl,m2,rfl⟩;go_wp2
 go_region
 go_wp2;go_ret;exact ⟨rfl,_,rfl⟩
theorem zkH(b:Nat)(s:Nat→Bool)(a:Int)(w:World)(hs:zJ w b s)(hf:Fit s):
  Calls Tryz.prog 211 #[pointer (some ⟨b,0,none⟩),int i64 a] w fun e w'=>e=.returned (.bool (ZL s a))∧zJ w' b (zi5 s a)∧zc [b] w w':=by
 have hh:=Q3 b s a w hs hf;cases hsn:ZL s a
 ·rw[hsn] at hh
  refine (zkc _ a w hh).mono ?_;rintro e w' ⟨he,m,hw⟩;subst hw;exact ⟨by rw[he],by rw[zh4 s a hsn];exact hs.drewN m,zc.drewN _ _ m⟩
 ·rw[hsn] at hh
  have h0:0≤a:=by
   by_cases h0:0≤a
   ·exact h0
   ·simp[ZL,h0] at hsn
  obtain ⟨n,rfl⟩:=Int.eq_ofNat_of_zero_le h0;have hsn':s n=true:=by simpa [ZL] using hsn
  have hn:n<5000:=by
   apply Nat.lt_of_not_le;intro hle;rw[hf n hle] at hsn';cases hsn'
  have hp:2 ^ (n % 64)<18446744073709551616:=Qk (Nat.mod_lt _ (by decide));have hc:=hs.cell (k:=n / 64) (by omega);refine (zhI b n (n / 64) (2 ^ (n % 64)) (wd s (n / 64)) (wd s (n / 64) &&& (18446744073709551615 - 2 ^ (n % 64))) w (by omega) (u64_andNot_nat _ _ (zcN s _) hp) hc (hs.frozen _) hh (zaZ n hn)).mono ?_;rintro e w' ⟨he,m,hw⟩;subst hw;refine ⟨by rw[he],?_,?_⟩
  ·rw[zie s n]
   exact (hs.put (del s n) (n / 64) _ (fun j hj=>ze1 s n j hj) (zgC s n)).drewN m
  ·exact (zc.setCell [b] w ⟨b,n / 64,none⟩ _ (by simp)).quiet (zc.drewN _ _ m)
def j5(l:List Nat):List Int:=l.map fun n:Nat=>(n:Int)
def JW(L:List (List Nat)):List (List Int):=L.map j5
theorem zY(l:List Nat):(j5 l).length=l.length:=by unfold j5;rw[List.length_map]
theorem jK(L:List (List Nat)):(JW L).length=L.length:=by unfold JW;rw[List.length_map]
theorem jd(L:List (List Nat))(j:Nat):(JW L).getD j []=j5 (nb L j):=by
 unfold JW nb;rw[List.getD_eq_getElem?_getD,List.getD_eq_getElem?_getD,List.getElem?_map];cases L[j]? <;> rfl
theorem zag(l:List Nat)(j:Nat):(j5 l).getD j 0=((l.getD j 0:Nat):Int):=by
 unfold j5;rw[List.getD_eq_getElem?_getD,List.getD_eq_getElem?_getD,List.getElem?_map];cases l[j]? <;> rfl
def GAt(w:World)(B:Nat)(a:Option Addr)(g:List (List Nat)):Prop:=ze6 w B a (JW g)
theorem GAt.kept{g:List (List Nat)}(h:GAt w B a g)(k:zc L w w')(hL:∀ x,x∈L→B≤x):GAt w' B a g:=ze6.kept h k hL
theorem GAt.quiet{g:List (List Nat)}(h:GAt w B a g)(k:zc [] w w'):GAt w' B a g:=ze6.quiet h k
def NAt(w:World)(B:Nat)(a:Option Addr)(l:List Nat):Prop:=zbc w B a (j5 l)
theorem NAt.kept{l:List Nat}(h:NAt w B a l)(k:zc L w w')(hL:∀ x,x∈L→B≤x):NAt w' B a l:=zbc.kept h k hL
theorem GAt.at{g:List (List Nat)}(h:GAt w B a g)(hk:k<g.length):∃ b off ai ci,a=some ⟨b,off,none⟩∧w.cell? ⟨b,off+k,none⟩=some (.slice ai (nb g k).length ci)∧NAt w B ai (nb g k):=by
 obtain ⟨b,off,ai,ci,h1,h2,h3⟩:=ze6.at h (k:=k) (by rw[jK];exact hk);rw[jd,zY] at h2;rw[jd] at h3;exact ⟨b,off,ai,ci,h1,h2,h3⟩
theorem NAt.at{l:List Nat}(h:NAt w B a l)(hk:k<l.length):∃ b off,a=some ⟨b,off,none⟩∧w.cell? ⟨b,off+k,none⟩=some (int i64 ((l.getD k 0:Nat):Int)):=by
 obtain ⟨b,off,h1,h2⟩:=zbc.at h (k:=k) (by rw[zY];exact hk);rw[zag] at h2;exact ⟨b,off,h1,h2⟩
theorem qe{α:Type}(l:List α)(k:Nat)(d:α)(h:k<l.length):l.take (k+1)=l.take k ++ [l.getD k d]:=by
 rw[List.take_succ_eq_append_getElem h,List.getD_eq_getElem?_getD,List.getElem?_eq_getElem h];rfl
theorem qg{α:Type}(l:List α)(k:Nat)(d:α)(h:k<l.length):l.getD k d∈l:=by
 rw[List.getD_eq_getElem?_getD,List.getElem?_eq_getElem h];exact List.getElem_mem h
theorem zd3(g:List (List Nat)):∀ (f n:Nat) (st:(Nat→Bool) × List Nat) (m:Nat),st.1 m=true→(vis g f n st).1 m=true
 | 0,_,_,_,h=>h
 | f+1,n,st,m,h=>by
  cases hs:st.1 n with
  | true=>rw[zca g (f+1) n st hs];exact h
  | false=>
   rw[zaf g f n st hs];have go:∀ (ns:List Nat) (t:(Nat→Bool) × List Nat),t.1 m=true→(JO g f ns t).1 m=true:=by
    intro ns
    induction ns with
    | nil=>intro t ht;exact ht
    | cons a ns ih=>intro t ht;rw[jR];exact ih _ (zd3 g f a t m ht)
   exact go _ _ (by show (st.1 m || (m == n))=true;rw[h];rfl)
theorem zcn(g:List (List Nat))(f:Nat):∀ (ns:List Nat) (st:(Nat→Bool) × List Nat) (m:Nat),st.1 m=true→(JO g f ns st).1 m=true
 | [],_,_,h=>h
 | a :: ns,st,m,h=>by rw[jR];exact zcn g f ns _ m (zd3 g f a st m h)
theorem J7(g:List (List Nat))(hg:Ok g):∀ (f n:Nat) (st:(Nat→Bool) × List Nat) (m:Nat),n<g.length→(vis g f n st).1 m=true→st.1 m=true∨m<g.length
 | 0,_,_,_,_,h=>.inl h
 | f+1,n,st,m,hn,h=>by
  cases hs:st.1 n with
  | true=>rw[zca g (f+1) n st hs] at h;exact .inl h
  | false=>
   rw[zaf g f n st hs] at h;have go:∀ (ns:List Nat) (t:(Nat→Bool) × List Nat),(∀ a,a∈ns→a<g.length)→(JO g f ns t).1 m=true→t.1 m=true∨m<g.length:=by
    intro ns
    induction ns with
    | nil=>intro t _ ht;exact .inl ht
    | cons a ns ih=>
     intro t hns ht;rw[jR] at ht;rcases ih _ (fun x hx=>hns x (by simp[hx])) ht with h1 | h1
     ·exact J7 g hg f a t m (hns a (by simp)) h1
     ·exact .inr h1
   rcases go _ _ (fun a ha=>hg n a ha) h with h1 | h1
   ·have h2:(st.1 m || (m == n))=true:=h1
    rw[Bool.or_eq_true,beq_iff_eq] at h2;rcases h2 with h2 | h2
    ·exact .inl h2
    ·exact .inr (h2 ▸ hn)
   ·exact .inr h1
theorem zb8(g:List (List Nat))(hg:Ok g)(f:Nat):∀ (ns:List Nat) (st:(Nat→Bool) × List Nat) (m:Nat),(∀ a,a∈ns→a<g.length)→(JO g f ns st).1 m=true→st.1 m=true∨m<g.length
 | [],_,_,_,h=>.inl h
 | a :: ns,st,m,hns,h=>by
  rw[jR] at h;rcases zb8 g hg f ns _ m (fun x hx=>hns x (by simp[hx])) h with h1 | h1
  ·exact J7 g hg f a st m (hns a (by simp)) h1
  ·exact .inr h1
theorem zg1(g:List (List Nat))(hg:Ok g):∀ (f n:Nat) (st:(Nat→Bool) × List Nat),n<g.length→(vis g f n st).2.length+un g (vis g f n st).1≤st.2.length+un g st.1
 | 0,_,_,_=>Nat.le_refl _
 | f+1,n,st,hn=>by
  cases hs:st.1 n with
  | true=>rw[zca g (f+1) n st hs];exact Nat.le_refl _
  | false=>
   rw[zaf g f n st hs];have hu:=zdB g st.1 n hs hn;have go:∀ (ns:List Nat) (t:(Nat→Bool) × List Nat),(∀ a,a∈ns→a<g.length)→(JO g f ns t).2.length+un g (JO g f ns t).1≤t.2.length+un g t.1:=by
    intro ns
    induction ns with
    | nil=>intro t _;exact Nat.le_refl _
    | cons a ns ih=>
     intro t hns;rw[jR];exact Nat.le_trans (ih _ (fun x hx=>hns x (by simp[hx]))) (zg1 g hg f a t (hns a (by simp)))
   have:=go (nb g n) (ins st.1 n,st.2) (fun a ha=>hg n a ha);generalize JO g f (nb g n) (ins st.1 n,st.2)=A at this ⊢;have e:A.2.length+un g A.1≤st.2.length+un g (ins st.1 n):=this;show (A.2 ++ [n]).length+un g A.1≤_;rw[List.length_append];have e1:[n].length=1:=rfl;omega
theorem zbr(g:List (List Nat))(hg:Ok g)(f:Nat):∀ (ns:List Nat) (st:(Nat→Bool) × List Nat),(∀ a,a∈ns→a<g.length)→(JO g f ns st).2.length+un g (JO g f ns st).1≤st.2.length+un g st.1
 | [],_,_=>Nat.le_refl _
 | a :: ns,st,hns=>by
  rw[jR];exact Nat.le_trans (zbr g hg f ns _ (fun x hx=>hns x (by simp[hx]))) (zg1 g hg f a st (hns a (by simp)))
structure Sm (g:List (List Nat)):Prop where
 ok:Ok g
 len:g.length≤600
 short:∀ j,(nb g j).length≤1000
theorem Sm.inner{g:List (List Nat)}(h:Sm g)(j:Nat):(nb g j).length≤1000000:=Nat.le_trans (h.short j) (by decide)
theorem Sm.may{g:List (List Nat)}(h:Sm g):zn7 (g.length:Int) (JW g):=by
 refine ⟨by omega,by have:=h.len;omega,by rw[jK],fun j _ i hi=> ?_⟩;rw[jd] at hi ⊢;rw[zY] at hi;rw[zag];have:=h.ok j _ (qg (nb g j) i 0 hi);omega
theorem zbv(g:List (List Nat))(hs:Sm g)(a:Option Addr)(cap B:Nat)(w:World)(hG:GAt w B a g):
  Calls Tryz.prog 132 #[agg #[int i64 (g.length:Int),.slice a g.length cap]] w fun e w'=>e=.returned (.bool true)∧zc [] w w':=by
 refine (zib (g.length:Int) a g.length cap B (JW g) w hG (jK g) (by omega) (by have:=hs.len;omega) rfl (fun j=>by rw[jd,zY];exact hs.inner j)).mono ?_;rintro e w' ⟨h | h,hk⟩
 ·exact ⟨h.1,hk⟩
 ·exact absurd hs.may h.2
theorem zjT(w:World)(base:Nat):w.ownsRow base 3 1 (.slice none 0 0) ([]:List Nat).length (jE []):=World.ownsRow_nil w _ _ _
structure jg (w:World) (b:Nat) (x y:Value):Prop where
 heap:w.heap[b]? = some (.cells #[x,y] 195 (0,0))
theorem jg.c0(h:jg w b x y):w.cell? ⟨b,0,none⟩=some x:=by rw[cell_of_row w b 0 _ _ _ h.heap];rfl
theorem jg.c1(h:jg w b x y):w.cell? ⟨b,1,none⟩=some y:=by rw[cell_of_row w b 1 _ _ _ h.heap];rfl
theorem jg.frozen(h:jg w b x y)(k:Nat):w.frozen? ⟨b,k,none⟩=false:=frozen_of_row w b k _ _ h.heap
theorem jg.lt(h:jg w b x y):b<w.heap.size:=(Array.getElem?_eq_some_iff.1 h.heap).1
theorem jg.kept(h:jg w b x y)(k:zc L w w')(hb:b ∉ L):jg w' b x y:=⟨by rw[k.block b h.lt hb];exact h.heap⟩
theorem jg.new(w:World)(x y:Value):jg (w.alloc (.cells #[x,y] 195)) w.heap.size x y:=⟨heap_alloc_new w _⟩
def znd{α:Type}(f:α→Value × Value × Value)(l:List α):List Value:=l.flatMap fun x=>[(f x).1,(f x).2.1,(f x).2.2]
abbrev V3:Type:=Int × Int × Bool
def v3(x:V3):Value × Value × Value:=(int i64 x.1,int i64 x.2.1,.bool x.2.2)
abbrev vlV (x:V3):Value:=agg #[int i64 x.1,int i64 x.2.1,.bool x.2.2]
structure Ob where
 site:Int
 free:Bool
 fs:Value
 vs:List V3
def ob3(o:Ob):Value × Value × Value:=(int i64 o.site,.bool o.free,o.fs)
structure Obs (w:World) (T:TypeId) (f:Ob→Value × Value × Value) (sv:Value) (os:List Ob) (F:List Nat):Prop where
 own:w.ownsRow 0 T 3 sv os.length (znd f os)
 fld:∀ (j:Nat) (o:Ob),os[j]? = some o→w.ownsRow 0 30 3 o.fs o.vs.length (znd v3 o.vs)
 apart:∀ (i j:Nat) (o p:Ob) (k:Nat),os[i]? = some o→os[j]? = some p→o.fs.ownBlock=some k→p.fs.ownBlock=some k→i=j
 row:∀ k,sv.ownBlock=some k→k∈F
 fin:∀ (j:Nat) (o:Ob) (k:Nat),os[j]? = some o→o.fs.ownBlock=some k→k∈F
 lt:∀ x,x∈F→x<w.heap.size
structure HpV (w:World) (hp:Nat) (sv:Value) (os:List Ob) (F:List Nat):Prop where
 box:w.heap[hp]? = some (.cells #[sv] 161 (0,0))
 hin:hp∈F
 obs:Obs w 304 ob3 sv os F
def Hp(w:World)(hp:Nat)(os:List Ob)(F:List Nat):Prop:=∃ sv,HpV w hp sv os F
def znR(w:World)(F F':List Nat):Prop:=∀ x,x∈F'→x∈F∨w.heap.size≤x
section
open Go.Shelf
def zfl:In8:=⟨0,0,0,0,0,[]⟩
def zko:Value:=.tuple #[z8 zfl (.slice none 0 0),.bool false]
theorem znN{x0 x1 x2 x3 x4 x5:Value}(h:w.heap[b]? = some (.cells #[x0,x1,x2,x3,x4,x5] T (0,0)))(u0 u1 u2 u3 u4 u5:Value):
  ((((((w.setCell ⟨b,0,none⟩ u0).setCell ⟨b,1,none⟩ u1).setCell ⟨b,2,none⟩ u2).setCell ⟨b,3,none⟩ u3).setCell ⟨b,4,none⟩ u4).setCell ⟨b,5,none⟩ u5).heap[b]? = some (.cells #[u0,u1,u2,u3,u4,u5] T (0,0)):=
 heap_setCell_same _ b 5 _ _ u5 (heap_setCell_same _ b 4 _ _ u4 (heap_setCell_same _ b 3 _ _ u3 (heap_setCell_same _ b 2 _ _ u2 (heap_setCell_same _ b 1 _ _ u1 (heap_setCell_same w b 0 _ _ u0 h)))))
theorem zjv(w:World)(b:Nat)(u0 u1 u2 u3 u4 u5:Value):zc [b] w ((((((w.setCell ⟨b,0,none⟩ u0).setCell ⟨b,1,none⟩ u1).setCell ⟨b,2,none⟩ u2).setCell ⟨b,3,none⟩ u3).setCell ⟨b,4,none⟩ u4).setCell ⟨b,5,none⟩ u5):=
 (((((zc.setCell [b] _ _ _ (List.mem_singleton.2 rfl)).step (zc.setCell [b] _ _ _ (List.mem_singleton.2 rfl))).step (zc.setCell [b] _ _ _ (List.mem_singleton.2 rfl))).step (zc.setCell [b] _ _ _ (List.mem_singleton.2 rfl))).step (zc.setCell [b] _ _ _ (List.mem_singleton.2 rfl))).step (zc.setCell [b] _ _ _ (List.mem_singleton.2 rfl))
def atV(x:In8)(ar:Value):Value:=.tuple #[z8 x ar,.bool true]
end
structure Sm8 (P:Pr8):Prop where
 fn:P.funcs.length≤12
 bk:∀ f,f<P.funcs.length→(zf P f).blocks.length≤14
 pt:(pts P).length≤150
abbrev znZ (P:Pr8) (f b:Int):Prop:=0≤f∧f<(P.funcs.length:Int)∧0≤b∧b<((zf P f.toNat).blocks.length:Int)
theorem Sm8.cntF(h:Sm8 P)(hf:f<P.funcs.length)(hb:b≤(zf P f).blocks.length):zeR P f+Go.Proofs.YthflgjkmbakedaaGreatDoor.zeg (zf P f) b≤150:=by
 have h1:=h.pt;rw[zcB] at h1;have h2:=zgv P (show f+1≤P.funcs.length by omega);rw[QW] at h2;have h3:=zhu (zf P f) hb;omega
theorem Sm8.code(h:Sm8 P)(hf:f<P.funcs.length)(hb:b<(zf P f).blocks.length):(zr (zf P f) b).code.length≤149:=by
 have:=h.cntF hf (show b+1≤_ by omega);rw[Zj] at this;omega
theorem Z1(h:PrC w pb po P)(hs:Sm8 P):Calls Tryz.prog 51 #[pointer (some ⟨pb,po,none⟩)] w fun e w'=>∃ a cp,e=.returned (.slice a (pts P).length cp)∧z7 w' 3 PtC a (pts P)∧zc [] w w':=by
 have HS:=hid hs;obtain ⟨fa,fcp,H⟩:=h.fns;have h4:=H.cell;have hN:=hs.fn;obtain ⟨N,hNN⟩:∃ N,N=P.funcs.length:=⟨_,rfl⟩;have HN:=hid hNN;rw[← hNN] at h4 hN
 have H4:Box (∀ w',zc [] w w'→w'.cell? ⟨pb,po+4,none⟩=some (.slice fa N fcp)):=hid (by
  have h4':=h4;intro w' k
  exact za k h4')
 have HF:=hid H;have HR0:Box (w.ownsRow w.heap.size 99 3 (.slice none 0 0) (ptP P 0).length (Zt (ptP P 0))):=hid (World.ownsRow_nil _ _ _ _);clear h hs H hNN h4;go_enter Tryz.func51,Tryz.ntmps51;go_wp2_with fail
 go_loopw [3,4] (fun lv fv wr=>∃ k:Nat,k≤N∧fv=int i64 (k:Int)∧Box (wr.ownsRow w.heap.size 99 3 lv (ptP P k).length (Zt (ptP P k)))∧Box (zc [] w wr)) (fun _ fv _=>N - (intOf fv).toNat)
 case atStart=>exact ⟨0,by omega,rfl,HR0,hid (zc.refl _ _)⟩
 case round=>
  obtain ⟨k,hk,rfl,HR,HK⟩:=hrel;clear HR0;have g4:=H4.o _ HK.o;by_cases hlt:k<N
  ·have hlt':(k:Int)<(N:Int):=by omega
   have hkf:k<P.funcs.length:=by rw[← HN.o];exact hlt
   obtain ⟨fb,fo,ba,bcp,rfl,B⟩:=HF.o.at hkf;have hM:=HS.o.bk k hkf;have HBk:=hid B;obtain ⟨M,hMM⟩:∃ M,M=(zf P k).blocks.length:=⟨_,rfl⟩;have HM:=hid hMM;rw[← hMM] at hM
   have G2:Box (∀ w',zc [] w w'→w'.cell? ⟨fb,fo+k * 3+2,none⟩=some (.slice ba M bcp)):=hid (by
    have h2':=B.cell;rw[← hMM] at h2';intro w' kk
    exact za kk h2')
   have HR1:Box (wr.ownsRow w.heap.size 99 3 u3 (ptP P k ++ ptF (zf P k) k 0).length (Zt (ptP P k ++ ptF (zf P k) k 0))):=hid (by rw[zaV,List.append_nil];exact HR.o);have hcap:Box (∀ b,b<M→zeR P k+zeg (zf P k) (b+1)≤150):=hid fun b hb=>HS.o.cntF hkf (by rw[← HM.o];omega);clear B hMM HR;go_wp2_with fail;have HK0:=HK;clear HK g4
   go_loopw [3,5] (fun lv bv wr=>∃ b:Nat,b≤M∧bv=int i64 (b:Int)∧Box (wr.ownsRow w.heap.size 99 3 lv (ptP P k ++ ptF (zf P k) k b).length (Zt (ptP P k ++ ptF (zf P k) k b)))∧Box (zc [] w wr)) (fun _ bv _=>M - (intOf bv).toNat)
   case atStart=>exact ⟨0,by omega,rfl,HR1,HK0⟩
   case round=>
    obtain ⟨b,hb,rfl,HR,HK⟩:=hrel;clear HR1 HK0;have g4:=H4.o _ HK.o;have g2:=G2.o _ HK.o;by_cases hlb:b<M
    ·have hlb':(b:Int)<(M:Int):=by omega
     have hbf:b<(zf P k).blocks.length:=by rw[← HM.o];exact hlb
     obtain ⟨bb,bo,rfl,L⟩:=HBk.o.at hbf;obtain ⟨ca,ccp,hcc,_⟩:=L.c0;obtain ⟨c,hc0⟩:∃ c,c=(zr (zf P k) b).code.length:=⟨_,rfl⟩;have HCC:=hid hc0;rw[← hc0] at hcc
     have CC:Box (∀ w',zc [] w w'→w'.cell? ⟨bb,bo+b * 5,none⟩=some (.slice ca c ccp)):=hid (by
      have h2':=hcc;intro w' kk
      exact za kk h2')
     have hcp:=hcap.o b hlb;rw[Zj, ← hc0] at hcp;have HR2:Box (wr.ownsRow w.heap.size 99 3 u3 (ptP P k ++ ptF (zf P k) k b ++ ptB k b 0).length (Zt (ptP P k ++ ptF (zf P k) k b ++ ptB k b 0))):=hid (by rw[QN,List.append_nil];exact HR.o);have HL:Box (∀ i,(ptP P k ++ ptF (zf P k) k b ++ ptB k b i).length=zeR P k+zeg (zf P k) b+i):=hid fun i=>by
      rw[List.length_append,List.length_append,zad,zdd];rfl
     clear HR L hc0 hcc;go_wp2_with fail;have HK2:=HK;clear HK g4 g2
     go_loopw [3,6] (fun lv iv wr=>∃ i:Nat,i≤c+1∧iv=int i64 (i:Int)∧Box (wr.ownsRow w.heap.size 99 3 lv (ptP P k ++ ptF (zf P k) k b ++ ptB k b i).length (Zt (ptP P k ++ ptF (zf P k) k b ++ ptB k b i)))∧Box (zc [] w wr)) (fun _ iv _=>c+1 - (intOf iv).toNat)
     case atStart=>exact ⟨0,by omega,rfl,HR2,HK2⟩
     case round=>
      obtain ⟨i,hi,rfl,HR,HK⟩:=hrel;clear HR2 HK2;have g4:=H4.o _ HK.o;have g2:=G2.o _ HK.o;have g5:=CC.o _ HK.o;by_cases hli:i<c+1
      ·have hli':(i:Int)≤(c:Int):=by omega
       have hn:Box ((ptP P k ++ ptF (zf P k) k b ++ ptB k b (i+1)).length=(ptP P k ++ ptF (zf P k) k b ++ ptB k b i).length+1∧Zt (ptP P k ++ ptF (zf P k) k b ++ ptB k b (i+1))=Zt (ptP P k ++ ptF (zf P k) k b ++ ptB k b i) ++ [int i64 (k:Int),int i64 (b:Int),int i64 (i:Int)]):=hid (by
        rw[HL.o,HL.o,jB, ← List.append_assoc,JU]
        exact ⟨by omega,rfl⟩)
       have hle:=HL.o i;have hks:=HK.o.size;generalize (ptP P k ++ ptF (zf P k) k b ++ ptB k b i).length=nn at HR hn hle;generalize Zt (ptP P k ++ ptF (zf P k) k b ++ ptB k b i)=xs at HR hn;go_wp2_with (at_builtin;go_must (refine wpList_append_own _ rfl _ _ 100 rfl w.heap.size 99 Tryz.t99 (agg #[int i64 0,int i64 0,int i64 0]) 3 24 ZO zac zaS ZR JG rfl (by decide) _ nn xs rfl (HR.o.alloc _) ⟨wr.heap.size,0,none⟩ 1 1 [int i64 (k:Int),int i64 (b:Int),int i64 (i:Int)] rfl rfl (World.news_of_block (cs:=#[int i64 (k:Int),int i64 (b:Int),int i64 (i:Int)]) (t:=99) (fr:=(0,0)) (heap_alloc_new wr _)) (QL _ _ _) (by unfold maxLen;omega) (by omega) (by simp;omega) ?_;intro v' w3 hown3 hgrow3 hnil3));have hk3:zc [] w w3:=(HK.o.quiet (zc.alloc [] wr _)).appended HR.o hgrow3 (Nat.le_refl _);have HO3:=hid hown3;have HK3:=hid hk3;clear hgrow3 hnil3 hown3 hk3 HR HK g4 g2 g5;go_wp2_with fail;go_roundw
       case rel=>exact ⟨i+1,by omega,by go_num,hid (by rw[hn.o.1,hn.o.2];exact HO3.o),HK3⟩
       case measure=>simp[intOf];omega
      ·obtain rfl:i=c+1:=by omega
       have hli':¬ ((c+1:Nat):Int)≤(c:Int):=by omega
       have HR3:Box (wr.ownsRow w.heap.size 99 3 u3 (ptP P k ++ ptF (zf P k) k (b+1)).length (Zt (ptP P k ++ ptF (zf P k) k (b+1)))):=hid (by
        rw[qX, ← HCC.o, ← List.append_assoc]
        exact HR.o)
       clear HR;go_wp2_with fail;go_roundw
       case rel=>exact ⟨b+1,by omega,by go_num,HR3,HK⟩
       case measure=>simp[intOf];omega
    ·obtain rfl:b=M:=by omega
     have HR3:Box (wr.ownsRow w.heap.size 99 3 u3 (ptP P (k+1)).length (Zt (ptP P (k+1)))):=hid (by
      rw[Z8, ← HM.o]
      exact HR.o)
     clear HR;go_wp2_with fail;go_roundw
     case rel=>exact ⟨k+1,by omega,by go_num,HR3,HK⟩
     case measure=>simp[intOf];omega
  ·obtain rfl:k=N:=by omega
   go_wp2_with fail;go_ret;obtain ⟨a,cp,e1,e2,e3,_⟩:=zbk HR.o;have e5:ptP P k=pts P:=by unfold pts;rw[HN.o]
   rw[e5] at e1 e3;exact ⟨a,cp,congrArg Ending.returned e1,e3,HK.o⟩
def wF(x:Fu8):Nat→Nat
 | 0=>0
 | m+1=>wF x m+(1+min 1000 (zr x m).code.length)
def wP(P:Pr8):Nat→Nat
 | 0=>0
 | k+1=>wP P k+wF (zf P k) (zf P k).blocks.length
theorem zia(x:Fu8):∀ m,wF x m≤1001 * m
 | 0=>Nat.zero_le _
 | m+1=>by
  have:=zia x m;rw[wF];omega
theorem zmv(x:Fu8):∀ m,wF x m≤150→zeg x m=wF x m
 | 0,_=>rfl
 | m+1,h=>by
  rw[wF] at h;have:=zmv x m (by omega);rw[Zj,wF,this];omega
theorem zm8(P:Pr8):∀ k,wP P k≤150→zeR P k=wP P k
 | 0,_=>rfl
 | k+1,h=>by
  rw[wP] at h;have h1:=zm8 P k (by omega);have h2:=zmv (zf P k) (zf P k).blocks.length (by omega);rw[QW,wP,h1,h2]
def jv(P:Pr8):Nat→Nat
 | 0=>0
 | f+1=>jv P f+((zf P f).regs.length+1)
def ziv(P:Pr8)(k:Nat):List Int:=(List.range (k+1)).map fun f=>(jv P f:Int)
def Qq(P:Pr8)(q:Nat × Nat × Nat):Bool:=decide (q.2.2<(zr (zf P q.1) q.2.1).code.length) && decide ((zT (zr (zf P q.1) q.2.1) q.2.2).op=5)
def mkR(P:Pr8)(q:Nat × Nat × Nat):Int:=((zf P q.1).regs.getD (zT (zr (zf P q.1) q.2.1) q.2.2).dst.toNat (0,0)).2
def ZT(P:Pr8)(k:Nat):Nat × Nat × Nat:=(pts P).getD k (0,0,0)
def zcx(P:Pr8)(r:Int):Nat:=(P.recs.getD r.toNat []).length
structure St where
 p:Nat
 r:Int
 c:Nat
 n:Nat
def stN(P:Pr8):Nat→List St × Nat
 | 0=>([],jv P P.funcs.length)
 | k+1=>if Qq P (ZT P k)=true then ((stN P k).1 ++ [⟨k,mkR P (ZT P k),(stN P k).2,zcx P (mkR P (ZT P k))⟩],(stN P k).2+zcx P (mkR P (ZT P k))) else stN P k
def qG(P:Pr8):List St:=(stN P (pts P).length).1
def zaj(P:Pr8):Nat:=(stN P (pts P).length).2
theorem zbo(P:Pr8)(k:Nat):(ziv P k).length=k+1:=by unfold ziv;rw[List.length_map,List.length_range]
theorem zg7(P:Pr8)(k:Nat):ziv P (k+1)=ziv P k ++ [(jv P (k+1):Int)]:=by
 unfold ziv;rw[List.range_succ,List.map_append];rfl
theorem zc3(P:Pr8)(h:f≤k):(ziv P k)[f]? = some (jv P f:Int):=by
 unfold ziv;rw[List.getElem?_map,List.getElem?_range (by omega)];rfl
theorem zgE(P:Pr8){B:Nat}(h:∀ f,f<P.funcs.length→(zf P f).regs.length≤B):∀ k,k≤P.funcs.length→jv P k≤(B+1) * k
 | 0,_=>Nat.zero_le _
 | k+1,hk=>by
  have h1:=zgE P h k (by omega);have h2:=h k (by omega);rw[Nat.mul_add];show jv P k+_≤_;omega
theorem j6(h:Qq P (ZT P k)=true):stN P (k+1)=((stN P k).1 ++ [⟨k,mkR P (ZT P k),(stN P k).2,zcx P (mkR P (ZT P k))⟩],(stN P k).2+zcx P (mkR P (ZT P k))):=if_pos h
theorem ZV(h:Qq P (ZT P k)=false):stN P (k+1)=stN P k:=if_neg (by rw[h];decide)
theorem zbx(P:Pr8):∀ k,(stN P k).1.length≤k
 | 0=>Nat.le_refl 0
 | k+1=>by
  have h1:=zbx P k;cases h:Qq P (ZT P k) with
  | true=>rw[j6 h,List.length_append];exact Nat.succ_le_succ h1
  | false=>rw[ZV h];omega
theorem zju(P:Pr8){B:Nat}(h:∀ r,zcx P r≤B):∀ k,(stN P k).2≤jv P P.funcs.length+B * k
 | 0=>Nat.le_refl _
 | k+1=>by
  have h1:=zju P h k;have h2:=h (mkR P (ZT P k));rw[Nat.mul_add];cases h3:Qq P (ZT P k) with
  | true=>rw[j6 h3];show _+_≤_;omega
  | false=>rw[ZV h3];omega
structure znL (P:Pr8) (k:Nat) (s:St):Prop where
 lt:s.p<k
 is:Qq P (ZT P s.p)=true
 r:s.r=mkR P (ZT P s.p)
 n:s.n=zcx P s.r
 c:s.c+s.n≤(stN P k).2
theorem zlG(P:Pr8)(k:Nat):(stN P k).2≤(stN P (k+1)).2:=by
 cases h:Qq P (ZT P k) with
 | true=>rw[j6 h];exact Nat.le_add_right _ _
 | false=>rw[ZV h];exact Nat.le_refl _
theorem Jx(P:Pr8):∀ k,∀ s,s∈(stN P k).1→znL P k s
 | 0,s,h=>by simp[stN] at h
 | k+1,s,h=>by
  have up:=zlG P k;have old:∀ s,s∈(stN P k).1→znL P (k+1) s:=fun s hs=>by
   have g:=Jx P k s hs;exact ⟨by have:=g.lt;omega,g.is,g.r,g.n,Nat.le_trans g.c up⟩
  cases h3:Qq P (ZT P k) with
  | true=>
   rw[j6 h3] at h;rcases List.mem_append.1 h with h | h
   ·exact old s h
   ·rw[List.mem_singleton.1 h]
    exact ⟨Nat.lt_succ_self k,h3,rfl,rfl,by rw[j6 h3];exact Nat.le_refl _⟩
  | false=>
   rw[ZV h3] at h;exact old s h
theorem zfI(P:Pr8):∀ k j,j<k→Qq P (ZT P j)=true→∃ s,s∈(stN P k).1∧s.p=j
 | 0,j,h,_=>by omega
 | k+1,j,h,hm=>by
  by_cases hj:j=k
  ·subst hj
   rw[j6 hm];exact ⟨_,List.mem_append_right _ (List.mem_singleton.2 rfl),rfl⟩
  ·obtain ⟨s,h1,h2⟩:=zfI P k j (by omega) hm
   cases h3:Qq P (ZT P k) with
   | true=>rw[j6 h3];exact ⟨s,List.mem_append_left _ h1,h2⟩
   | false=>rw[ZV h3];exact ⟨s,h1,h2⟩
theorem zaT(P:Pr8):∀ k,(stN P k).1.Pairwise fun s t=>s.p<t.p∧s.c+s.n≤t.c
 | 0=>List.Pairwise.nil
 | k+1=>by
  have h1:=zaT P k;cases h3:Qq P (ZT P k) with
  | true=>
   rw[j6 h3];refine List.pairwise_append.2 ⟨h1,List.pairwise_singleton _ _,fun s hs t ht=> ?_⟩;rw[List.mem_singleton.1 ht];have g:=Jx P k s hs;exact ⟨g.lt,g.c⟩
  | false=>rw[ZV h3];exact h1
def za3(P:Pr8)(a:Int):Option St:=(qG P).find? fun s=>decide ((s.p:Int)=a)
theorem jT{a:Int}{s:St}(h:za3 P a=some s):s∈qG P∧(s.p:Int)=a:=by
 unfold za3 at h;have h2:=List.find?_some h;exact ⟨List.mem_of_find?_eq_some h,of_decide_eq_true h2⟩
theorem zgJ{a:Int}(h:za3 P a=none){s:St}(hs:s∈qG P):(s.p:Int)≠a:=by
 unfold za3 at h;have:=List.find?_eq_none.1 h s hs;intro e;exact this (decide_eq_true e)
theorem zfW{s t:St}(hs:s∈qG P)(ht:t∈qG P)(e:s.p=t.p):s=t:=by
 obtain ⟨i,hi,rfl⟩:=List.mem_iff_getElem.1 hs;obtain ⟨j,hj,rfl⟩:=List.mem_iff_getElem.1 ht;have R:=List.pairwise_iff_getElem.1 (zaT P (pts P).length);rcases Nat.lt_trichotomy i j with h | h | h
 ·have:=(R i j hi hj h).1
  unfold qG at e;omega
 ·subst h;rfl
 ·have:=(R j i hj hi h).1
  unfold qG at e;omega
theorem J8{s:St}(hs:s∈qG P):za3 P (s.p:Int)=some s:=by
 cases h:za3 P (s.p:Int) with
 | none=>exact absurd rfl (zgJ h hs)
 | some t=>
  obtain ⟨h1,h2⟩:=jT h;rw[zfW h1 hs (by omega)]
def isF(P:Pr8)(f:Int):Bool:=decide (0≤f) && decide (f<(P.funcs.length:Int))
def zcF(P:Pr8)(f r:Int):Int:=if isF P f=true∧0≤r∧r<((zf P f.toNat).regs.length:Int) then (jv P f.toNat:Int)+r else -1
def zcW(P:Pr8)(f:Int):Int:=if isF P f=true then (jv P f.toNat:Int)+((zf P f.toNat).regs.length:Int) else -1
def Qw(P:Pr8)(s f:Int):Int:=match za3 P s with
 | none=> -1
 | some x=>if 0≤f∧f<(x.n:Int) then (x.c:Int)+f else -1
def ze9(P:Pr8)(f:Int):Int:=if isF P f=true then ((qG P).length:Int)+f else -1
def zaP(P:Pr8)(s:Int):Int:=match za3 P s with
 | none=> -1
 | some x=>x.r
def zao(P:Pr8)(o:Int):Int × Bool:=
 if o<0 then (-1,false) else if o<((qG P).length:Int) then (((qG P).getD o.toNat ⟨0,0,0,0⟩).p,true) else if isF P (o - ((qG P).length:Int))=true then (o - ((qG P).length:Int),false) else (-1,false)
def SlV{α:Type}(c:Nat)(R:World→Nat→Nat→α→Prop)(w:World)(v:Value)(l:List α):Prop:=
 ∃ a cp,v=.slice a l.length cp∧z7 w c R a l∧l.length≤cp∧l.length≤maxLen
def zkL:World→Value→List Int→Prop:=SlV 1 ji
def zlv:World→Value→List (Int × Int)→Prop:=SlV 2 TyC
def SgV(w:World)(v:Value)(x:List (Int × Int) × Int × Int):Prop:=
 ∃ a cp,v=agg #[.slice a x.1.length cp,int i64 x.2.1,int i64 x.2.2]∧zlv w (.slice a x.1.length cp) x.1∧b64 x.2.1∧b64 x.2.2
def IfV(w:World)(v:Value)(x:List Int):Prop:=∃ a cp,v=agg #[.slice a x.length cp]∧zkL w (.slice a x.length cp) x
def ImV(w:World)(v:Value)(x:Int × Int × List Int):Prop:=
 ∃ a cp,v=agg #[int i64 x.1,int i64 x.2.1,.slice a x.2.2.length cp]∧b64 x.1∧b64 x.2.1∧zkL w (.slice a x.2.2.length cp) x.2.2
def InV(w:World)(v:Value)(x:In8):Prop:=
 ∃ a cp,v=agg #[int i64 x.op,int i64 x.dst,int i64 x.a,int i64 x.b,int i64 x.n,.slice a x.args.length cp]∧b64 x.op∧b64 x.dst∧b64 x.a∧b64 x.b∧b64 x.n∧zkL w (.slice a x.args.length cp) x.args
def znH:World→Value→List In8→Prop:=SlV 6 InC
def BlV(w:World)(v:Value)(x:Bl8):Prop:=
 ∃ a cp,v=agg #[.slice a x.code.length cp,int i64 x.fin,int i64 x.reg,int i64 x.to,int i64 x.els]∧znH w (.slice a x.code.length cp) x.code∧b64 x.fin∧b64 x.reg∧b64 x.to∧b64 x.els
def znV:World→Value→List Bl8→Prop:=SlV 5 BlC
def FuV(w:World)(v:Value)(x:Fu8):Prop:=
 ∃ a cp a' cp',v=agg #[int i64 x.sig,.slice a x.regs.length cp,.slice a' x.blocks.length cp']∧b64 x.sig∧zlv w (.slice a x.regs.length cp) x.regs∧znV w (.slice a' x.blocks.length cp') x.blocks
theorem SlC.val{α:Type}{R:World→Nat→Nat→α→Prop}{l:List α}(h:SlC c R w b o l):∃ a cp,w.cell? ⟨b,o,none⟩=some (.slice a l.length cp)∧SlV c R w (.slice a l.length cp) l:=by
 obtain ⟨a,cp,h1,h2⟩:=h;exact ⟨a,cp,h1,a,cp,rfl,h2⟩
theorem SlV.slice{α:Type}{R:World→Nat→Nat→α→Prop}{cp:Nat}{l:List α}(h:SlV c R w (.slice a n cp) l):n=l.length∧z7 w c R a l∧l.length≤cp∧l.length≤maxLen:=by
 obtain ⟨a',cp',e,h1,h2⟩:=h;simp only[Value.slice.injEq] at e;obtain ⟨rfl,rfl,rfl⟩:=e;exact ⟨rfl,h1,h2⟩
end Go.Proofs.YthflgjkmbakedaaGreatDoor
