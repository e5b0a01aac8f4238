import Derived.Deep.RegionHeld3
import Derived.Test.YtgmbkiagdhjpnaaGreatDoorU07

namespace Go.Proofs.YtgmbkiagdhjpnaaGreatDoor
open Go.RowKit
open Go.Value (int pointer agg)
open Go.IntKind (i64)
set_option maxHeartbeats 4000000
variable {F:List Nat}{P:Pr8}{b cap g hp i j pb po:Nat}{f o y:Int}{pv sv:Value}{w:World}
theorem zp(k:Int)(n:Nat)(w:World):Calls Tryz.prog 113 #[int i64 k,int i64 (n:Int)] w fun e w'=>e=.returned (.bool (inB k n))∧w'=w:=by
 by_cases h1:0≤k
 ·by_cases h2:k<(n:Int)
  ·rw[zb9 h1 h2]
   go_enter Tryz.func113,Tryz.ntmps113;go_wp2;go_ret;exact ⟨rfl,rfl⟩
  ·rw[zct (fun h=>h2 h.2)]
   have hd:decide (k<(n:Int))=false:=decide_eq_false h2;clear h2;go_enter Tryz.func113,Tryz.ntmps113;go_wp2;go_ret;exact ⟨rfl,rfl⟩
 ·rw[zct (fun h=>h1 h.1)]
  have hd:decide (0≤k)=false:=decide_eq_false h1;go_enter Tryz.func113,Tryz.ntmps113;go_wp2;go_ret;exact ⟨rfl,rfl⟩
theorem ziX{t:Int × Int}(h:t.1=0):tyB P t=decide (t.2=0):=by unfold tyB;rw[if_pos h]
theorem zjC{t:Int × Int}(h:t.1=1):tyB P t=inB t.2 P.recs.length:=by unfold tyB;rw[if_neg (by omega),if_pos h]
theorem zi3{t:Int × Int}(h:t.1=2):tyB P t=inB t.2 P.sigs.length:=by unfold tyB;rw[if_neg (by omega),if_neg (by omega),if_pos h]
theorem zjy{t:Int × Int}(h:t.1=3):tyB P t=inB t.2 P.ifs.length:=by unfold tyB;rw[if_neg (by omega),if_neg (by omega),if_neg (by omega),if_pos h]
theorem ziY{t:Int × Int}(h0:t.1≠0)(h1:t.1≠1)(h2:t.1≠2)(h3:t.1≠3):tyB P t=false:=by unfold tyB;rw[if_neg h0,if_neg h1,if_neg h2,if_neg h3]
abbrev tyV (t:Int × Int):Value:=agg #[int i64 t.1,int i64 t.2]
theorem ZU(h:PrC w pb po P)(t:Int × Int):Calls Tryz.prog 167 #[pointer (some ⟨pb,po,none⟩),tyV t] w fun e w'=>e=.returned (.bool (tyB P t))∧za [] w w':=by
 obtain ⟨a0,p0,c0,_⟩:=h.c0;obtain ⟨a1,p1,c1,_⟩:=h.c1;obtain ⟨a2,p2,c2,_⟩:=h.c2;have ka:=za.alloc [] w (.cells #[int i64 t.1,int i64 t.2] 60);replace c0:=zb ka c0;replace c1:=zb ka c1;replace c2:=zb ka c2;have KA:=hid ka;have HW:=hid fun (k:Int) (n:Nat) (w:World)=>zp k n w;have i0:=ziX (P:=P) (t:=t);have i1:=zjC (P:=P) (t:=t);have i2:=zi3 (P:=P) (t:=t);have i3:=zjy (P:=P) (t:=t);have i4:=ziY (P:=P) (t:=t);clear h ka;generalize tyB P t=res at *;generalize P.recs.length=n0 at *;generalize P.sigs.length=n1 at *;generalize P.ifs.length=n2 at *;obtain ⟨k,n⟩:=t;simp only at *;by_cases h0:k=0
 ·have HE:=hid (i0 h0)
  subst h0;clear i0 i1 i2 i3 i4;have hd:(n == 0)=decide (n=0):=rfl;go_enter Tryz.func167,Tryz.ntmps167;go_wp2_with fail;go_ret;exact ⟨by rw[HE.o];rfl,KA.o⟩
 by_cases h1:k=1
 ·have HE:=hid (i1 h1)
  subst h1;clear i0 i1 i2 i3 i4;go_enter Tryz.func167,Tryz.ntmps167;go_upto_region 5 with fail;go_quiet ((go_at_call 113;exact Calls.quiet_of_same (HW.o _ _ _)));go_wp2_with fail;go_ret;exact ⟨by rw[HE.o];rfl,KA.o.quiet (za.drewN _ _ _)⟩
 by_cases h2:k=2
 ·have HE:=hid (i2 h2)
  subst h2;clear i0 i1 i2 i3 i4;go_enter Tryz.func167,Tryz.ntmps167;go_upto_region 7 with fail;go_quiet ((go_at_call 113;exact Calls.quiet_of_same (HW.o _ _ _)));go_wp2_with fail;go_ret;exact ⟨by rw[HE.o];rfl,KA.o.quiet (za.drewN _ _ _)⟩
 by_cases h3:k=3
 ·have HE:=hid (i3 h3)
  subst h3;clear i0 i1 i2 i3 i4;go_enter Tryz.func167,Tryz.ntmps167;go_upto_region 9 with fail;go_quiet ((go_at_call 113;exact Calls.quiet_of_same (HW.o _ _ _)));go_wp2_with fail;go_ret;exact ⟨by rw[HE.o];rfl,KA.o.quiet (za.drewN _ _ _)⟩
 have HE:=hid (i4 h0 h1 h2 h3);have o0:=neb h0;have o1:=neb h1;have o2:=neb h2;have o3:=neb h3;clear i0 i1 i2 i3 i4 h0 h1 h2 h3;go_enter Tryz.func167,Tryz.ntmps167;go_wp2_with fail;go_ret;exact ⟨by rw[HE.o];rfl,KA.o⟩
theorem Qe(h:PrC w pb po P){v:Value}{l:List (Int × Int)}(hv:QO w v l):Calls Tryz.prog 166 #[pointer (some ⟨pb,po,none⟩),v] w fun e w'=>e=.returned (.bool (zaZ P l))∧za [] w w':=by
 obtain ⟨a,cp,rfl,hr,_,hl⟩:=hv;have HP:=hid h;have HR:=hid hr;have HT:=hid fun (w':World) (k:za [] w w') (t:Int × Int)=>ZU (PrC.stays _ _ _ _ _ k h) t;obtain ⟨n,hn⟩:∃ n,n=l.length:=⟨_,rfl⟩;rw[← hn];have HL:=hid hn;have hn1:(n:Int)≤9223372036854775807:=by unfold maxLen at hl;omega
 clear h hr hl hn;go_enter Tryz.func166,Tryz.ntmps166;go_wp2_with fail
 go_loopw [9] (fun kv wr=>∃ k:Nat,k≤n∧kv=int i64 (k:Int)∧Box (za [] w wr∧∀ j y,j<k→l[j]? = some y→tyB P y=true)) (fun kv _=>n - (intOf kv).toNat)
 case atStart=>exact ⟨0,by omega,rfl,hid ⟨za.refl _ _,fun j y hj=>by omega⟩⟩
 case round=>
  obtain ⟨k,hk,rfl,HB⟩:=hrel;have HK:=hid HB.o.1;by_cases hlt:k<n
  ·have hlt':(k:Int)<(n:Int):=by omega
   obtain ⟨y,hy⟩:∃ y,l[k]? = some y:=⟨_,List.getElem?_eq_getElem (by rw[← HL.o];exact hlt)⟩;obtain ⟨b,off,rfl,hc⟩:=HR.o.at hy;have d0:=zb HK.o hc.c0.1;have d1:=zb HK.o hc.c1.1;have HC:=hid (HT.o _ (HK.o.quiet (za.alloc [] wr (.cells #[int i64 y.1,int i64 y.2] 60))) y);have HKA:=hid (HK.o.quiet (za.alloc [] wr (.cells #[int i64 y.1,int i64 y.2] 60)));have HY:=hid hy;clear hc hy;cases hgy:tyB P y with
   | true=>
    rw[hgy] at HC;have HG:=hid hgy;clear hgy;go_wp2_with fail;refine HC.o.mono ?_;rintro e w3 ⟨rfl,k3⟩;have K3:=hid (HKA.o.quiet k3);clear k3;go_wp2_with fail;go_roundw
    case rel=>exact ⟨k+1,by omega,by go_num,hid ⟨K3.o,fun j z hj hz=>by
     by_cases e:j<k
     ·exact HB.o.2 j z e hz
     ·obtain rfl:j=k:=by omega
      rw[HY.o] at hz;cases hz
      exact HG.o⟩⟩
    case measure=>simp[intOf];omega
   | false=>
    rw[hgy] at HC;have HE:Box (zaZ P l=false):=hid (qO HY.o hgy);clear hgy;go_wp2_with fail;refine HC.o.mono ?_;rintro e w3 ⟨rfl,k3⟩;have K3:=hid (HKA.o.quiet k3);clear k3;go_wp2_with fail;go_ret;exact ⟨by rw[HE.o];rfl,K3.o⟩
  ·obtain rfl:k=n:=by omega
   have HE:Box (zaZ P l=true):=hid (jg (fun j y hy=>HB.o.2 j y (by rw[HL.o];exact (List.getElem?_eq_some_iff.1 hy).1) hy));go_wp2_with fail;go_ret;exact ⟨by rw[HE.o];rfl,HK.o⟩
theorem Z7{a:Option Addr}{cp:Nat}{l:List Int}(hz:zv w a l)(hl:l.length≤maxLen)(m:Nat):Calls Tryz.prog 168 #[.slice a l.length cp,int i64 (m:Int)] w fun e w'=>e=.returned (.bool (zaj l m))∧w'=w:=by
 have HZ:=hid hz;have HW:=hid fun (k:Int) (n:Nat) (w:World)=>zp k n w;obtain ⟨n,hn⟩:∃ n,n=l.length:=⟨_,rfl⟩;rw[← hn];have HL:=hid hn;have hn1:(n:Int)≤9223372036854775807:=by unfold maxLen at hl;omega
 clear hz hl hn;go_enter Tryz.func168,Tryz.ntmps168;go_wp2_with fail
 go_loop [9] (fun kv=>∃ k:Nat,k≤n∧kv=int i64 (k:Int)∧Box (∀ j y,j<k→l[j]? = some y→inB y m=true)) (fun kv=>n - (intOf kv).toNat)
 case atStart=>exact ⟨0,by omega,rfl,hid fun j y hj=>by omega⟩
 case round=>
  obtain ⟨k,hk,rfl,HB⟩:=hrel;by_cases hlt:k<n
  ·have hlt':(k:Int)<(n:Int):=by omega
   have hkl:k<l.length:=by rw[← HL.o];exact hlt
   obtain ⟨y,hy⟩:∃ y,l[k]? = some y:=⟨_,List.getElem?_eq_getElem hkl⟩;obtain ⟨b,off,rfl,hc⟩:∃ b off,a=some ⟨b,off,none⟩∧w.cell? ⟨b,off+k,none⟩=some (int i64 y):=by
    rcases HZ.o with e | ⟨b,off,e,h⟩
    ·rw[e] at hy;simp at hy
    ·refine ⟨b,off,e,?_⟩
     rw[h k hkl,List.getD_eq_getElem?_getD,hy];rfl
   have HC:=hid (HW.o y m w);have HY:=hid hy;clear hy hkl;cases hgy:inB y m with
   | true=>
    rw[hgy] at HC;have HG:=hid hgy;clear hgy;go_wp2_with fail;refine HC.o.mono ?_;rintro e w3 ⟨rfl,hw3⟩;rw[hw3];clear hw3;go_wp2_with fail
    go_round
    case rel=>exact ⟨k+1,by omega,by go_num,hid fun j z hj hz=>by
     by_cases e:j<k
     ·exact HB.o j z e hz
     ·obtain rfl:j=k:=by omega
      rw[HY.o] at hz;cases hz
      exact HG.o⟩
    case measure=>simp[intOf];omega
   | false=>
    rw[hgy] at HC;have HE:Box (zaj l m=false):=hid (qO HY.o hgy);clear hgy;go_wp2_with fail;refine HC.o.mono ?_;rintro e w3 ⟨rfl,hw3⟩;rw[hw3];clear hw3;go_wp2_with fail;go_ret;exact ⟨by rw[HE.o];rfl,rfl⟩
  ·obtain rfl:k=n:=by omega
   have HE:Box (zaj l m=true):=hid (jg (fun j y hy=>HB.o j y (by rw[HL.o];exact (List.getElem?_eq_some_iff.1 hy).1) hy));go_wp2_with fail;go_ret;exact ⟨by rw[HE.o];rfl,rfl⟩
def zae(p:Pr8)(f b i:Nat):Nat:=(ptP p f).length+(ptF (zf p f) f b).length+i
theorem za4(p:Pr8):∀ {f k:Nat},f<k→∃ r,ptP p k=ptP p f ++ (ptF (zf p f) f (zf p f).blocks.length ++ r)
 | f,0,h=>absurd h (Nat.not_lt_zero _)
 | f,k+1,h=>by
  by_cases e:f=k
  ·subst e
   exact ⟨[],by rw[j5,List.append_nil]⟩
  ·obtain ⟨r,hr⟩:=za4 p (f:=f) (k:=k) (by omega)
   exact ⟨r ++ ptF (zf p k) k (zf p k).blocks.length,by rw[j5,hr];simp[List.append_assoc]⟩
theorem zlr{p:Pr8}{f:Nat}(h:ZM p f b i):(pts p)[zae p f b i]? = some (f,b,i):=by
 obtain ⟨r1,h1⟩:=za4 p h.1;obtain ⟨r2,h2⟩:=ZC (zf p f) f h.2.1;have h3:=h.2.2;unfold pts zae;rw[h1,h2];rw[List.getElem?_append_right (by omega)];rw[show (ptP p f).length+(ptF (zf p f) f b).length+i - (ptP p f).length=(ptF (zf p f) f b).length+i by omega];rw[List.append_assoc,List.getElem?_append_right (by omega)];rw[show (ptF (zf p f) f b).length+i - (ptF (zf p f) f b).length=i by omega];rw[List.append_assoc,List.getElem?_append_left (by rw[QT];omega)];unfold ptB;rw[List.getElem?_map,List.getElem?_range (by omega)];rfl
theorem ziP{p:Pr8}{f:Nat}(h:ZM p f b i):zae p f b i<(pts p).length:=(List.getElem?_eq_some_iff.1 (zlr h)).1
theorem zgL(pb po fb fo fcp bb bo bcp N M f b:Nat)(w:World)(h4:w.cell? ⟨pb,po+4,none⟩=some (.slice (some ⟨fb,fo,none⟩) N fcp))(hf:f<N)(h2:w.cell? ⟨fb,fo+f * 3+2,none⟩=some (.slice (some ⟨bb,bo,none⟩) M bcp))(hb:b<M):
  Calls Tryz.prog 87 #[pointer (some ⟨pb,po,none⟩),int i64 (f:Int),int i64 (b:Int)] w fun e w'=>e=.returned (pointer (some ⟨bb,bo+b * 5,none⟩))∧w'=w:=by
 have g1:¬ (f:Int)<0:=by omega
 have g2:¬ (b:Int)<0:=by omega
 have g3:(f:Int)<(N:Int):=by omega
 have g4:(b:Int)<(M:Int):=by omega
 go_enter Tryz.func87,Tryz.ntmps87;go_wp2;go_ret;exact ⟨rfl,rfl⟩
theorem zds(pb po fcp N:Nat)(fa:Option Addr)(f b:Int)(w:World)(h4:w.cell? ⟨pb,po+4,none⟩=some (.slice fa N fcp))(hf:f<0∨(N:Int)≤f):
  Calls Tryz.prog 87 #[pointer (some ⟨pb,po,none⟩),int i64 f,int i64 b] w fun e w'=>e=.returned (.pointer none)∧w'=w:=by
 by_cases g:f<0
 ·clear hf
  go_enter Tryz.func87,Tryz.ntmps87;go_wp2;go_ret;exact ⟨rfl,rfl⟩
 ·have g2:(N:Int)≤f:=by omega
  clear hf;go_enter Tryz.func87,Tryz.ntmps87;go_wp2;go_ret;exact ⟨rfl,rfl⟩
theorem zcK(pb po fb fo fcp bcp N M f:Nat)(ba:Option Addr)(b:Int)(w:World)(h4:w.cell? ⟨pb,po+4,none⟩=some (.slice (some ⟨fb,fo,none⟩) N fcp))(hf:f<N)(h2:w.cell? ⟨fb,fo+f * 3+2,none⟩=some (.slice ba M bcp))(hb:b<0∨(M:Int)≤b):
  Calls Tryz.prog 87 #[pointer (some ⟨pb,po,none⟩),int i64 (f:Int),int i64 b] w fun e w'=>e=.returned (.pointer none)∧w'=w:=by
 have g1:¬ (f:Int)<0:=by omega
 have g3:(f:Int)<(N:Int):=by omega
 by_cases g:b<0
 ·clear hb
  go_enter Tryz.func87,Tryz.ntmps87;go_wp2;go_ret;exact ⟨rfl,rfl⟩
 ·have g2:(M:Int)≤b:=by omega
  clear hb;go_enter Tryz.func87,Tryz.ntmps87;go_wp2;go_ret;exact ⟨rfl,rfl⟩
abbrev zkf (P:Pr8) (f b:Int):Prop:=0≤f∧f<(P.funcs.length:Int)∧0≤b∧b<((zf P f.toNat).blocks.length:Int)
theorem zaS(h:PrC w pb po P){b:Int}(hb:zkf P f b):∃ q o,BlC w q o (zA (zf P f.toNat) b.toNat)∧Calls Tryz.prog 87 #[pointer (some ⟨pb,po,none⟩),int i64 f,int i64 b] w fun e w'=>e=.returned (pointer (some ⟨q,o,none⟩))∧w'=w:=by
 obtain ⟨h1,h2,h3,h4⟩:=hb;obtain ⟨fa,fcp,H⟩:=h.fns;obtain ⟨fb,fo,ba,bcp,rfl,B⟩:=H.at (f:=f.toNat) (by omega);obtain ⟨bb,bo,rfl,L⟩:=B.at (b:=b.toNat) (by omega);refine ⟨bb,bo+b.toNat * 5,L,?_⟩;have:=zgL pb po fb fo fcp bb bo bcp _ _ f.toNat b.toNat w H.cell (by omega) B.cell (by omega);rw[show ((f.toNat:Nat):Int)=f by omega,show ((b.toNat:Nat):Int)=b by omega] at this;exact this
theorem zgB(h:PrC w pb po P){b:Int}(hb:¬ zkf P f b):Calls Tryz.prog 87 #[pointer (some ⟨pb,po,none⟩),int i64 f,int i64 b] w fun e w'=>e=.returned (.pointer none)∧w'=w:=by
 obtain ⟨fa,fcp,H⟩:=h.fns;by_cases hf:f<0∨(P.funcs.length:Int)≤f
 ·exact zds pb po fcp _ fa f b w H.cell hf
 ·obtain ⟨fb,fo,ba,bcp,rfl,B⟩:=H.at (f:=f.toNat) (by omega)
  have hb':b<0∨(((zf P f.toNat).blocks.length:Nat):Int)≤b:=by
   apply Classical.byContradiction;intro hn;exact hb ⟨by omega,by omega,by omega,by omega⟩
  have:=zcK pb po fb fo fcp bcp _ _ f.toNat ba b w H.cell (by omega) B.cell hb';rw[show ((f.toNat:Nat):Int)=f by omega] at this;exact this
theorem zhG(P:Pr8)(f b i:Nat):zae P f b i=zaV P f+QY (zf P f) b+i:=by
 unfold zae;rw[zb2];rfl
theorem zaJ(x:Fu8)(ba:Option Addr)(n cp:Nat)(w:World)(hr:zq w 5 BlC ba x.blocks)(hn:n≤x.blocks.length)(hs:QY x n≤150):
  Calls Tryz.prog 142 #[.slice ba n cp] w fun e w'=>e=.returned (int i64 (QY x n:Int))∧w'=w:=by
 have HR:=hid hr;have HN:=hid hn;have HS:=hid hs;have hm:n≤150:=by
  have:∀ m,m≤QY x m:=by
   intro m
   induction m with
   | zero=>exact Nat.zero_le _
   | succ m ih=>rw[jr];omega
  have:=this n;omega
 have hm1:(n:Int)≤150:=by omega
 clear hr hn hs;go_enter Tryz.func142,Tryz.ntmps142;go_wp2
 go_loop [3,7] (fun s i=>∃ k:Nat,k≤n∧i=int i64 (k:Int)∧s=int i64 (QY x k:Int)) (fun _ i=>n - (intOf i).toNat)
 case atStart=>exact ⟨0,by omega,rfl,rfl⟩
 case round=>
  obtain ⟨k,hk,rfl,rfl⟩:=hrel;by_cases hlt:k<n
  ·have hlt':(k:Int)<(n:Int):=by omega
   have hk0:(0:Int)≤(k:Int):=by omega
   have e0:x.blocks[k]? = some (zA x k):=zi (by have:=HN.o;omega);obtain ⟨bb,bo,rfl,L⟩:=HR.o.at e0;obtain ⟨ca,ccp,hc,_⟩:=L.c0;have hs:=jr x k;have hle:QY x (k+1)≤150:=Nat.le_trans (za1 x (by omega)) HS.o;have hcall:=hid (Ql bb (bo+k * 5) _ ccp ca w hc (by omega));clear L e0 hc;generalize (zA x k).code.length=c at hs hcall;generalize hA:QY x k=A at *;generalize hB:QY x (k+1)=B at *;have HB:=hid hB;have HS2:=hid hs;have w1:((A:Nat):Int)+((c+1:Nat):Int)=((B:Nat):Int):=by omega
   have w2:(B:Int)≤150:=by omega
   have w3:(0:Int)≤(B:Int):=by omega
   have w4:IntKind.i64.wrap ((A:Int)+((c+1:Nat):Int))=(B:Int):=by rw[w1];exact IntWalk.i64_in _ (by omega)
   clear hB hs hA;go_wp2_with (go_at_call 88;refine hcall.o.mono ?_;rintro e w' ⟨rfl,rfl⟩)
   go_round
   case rel=>exact ⟨k+1,by omega,by go_num,by rw[HB.o];first | rfl | go_num | (congr 1;omega)⟩
   case measure=>simp[intOf];omega
  ·obtain rfl:k=n:=by omega
   go_wp2;go_ret;exact ⟨rfl,rfl⟩
def zhP(P:Pr8)(f b i:Int):Int:=if zkf P f b then (if 0≤i∧i≤((zA (zf P f.toNat) b.toNat).code.length:Int) then (zae P f.toNat b.toNat i.toNat:Int) else -1) else -1
theorem zdQ(h:PrC w pb po P)(o:Obj):PrC (w.alloc o) pb po P:=PrC.stays _ _ _ _ _ (za.alloc [] w o) h
theorem zeB(h:PrC w pb po P)(f b i:Int)(hn:¬ zkf P f b):Calls Tryz.prog 51 #[pointer (some ⟨pb,po,none⟩),ptV f b i] w fun e w'=>e=.returned (int i64 (-1))∧za [] w w':=by
 have hb:=hid fun o=>zgB (zdQ h o) hn;unfold ptV;clear h hn;go_enter Tryz.func51,Tryz.ntmps51;go_wp2_with (go_at_call 87;refine (hb.o _).mono ?_;rintro e w' ⟨rfl,rfl⟩);go_quiet (fail);go_wp2_with fail;go_ret;exact ⟨rfl,(za.alloc [] _ _).quiet (za.drewN [] _ _)⟩
theorem zdv(h:PrC w pb po P)(hs:Sm8 P)(f b i:Int)(hb:zkf P f b)(hi:¬ (0≤i∧i≤((zA (zf P f.toNat) b.toNat).code.length:Int))):Calls Tryz.prog 51 #[pointer (some ⟨pb,po,none⟩),ptV f b i] w fun e w'=>e=.returned (int i64 (-1))∧za [] w w':=by
 unfold ptV;obtain ⟨W,hW⟩:∃ W,W=w.alloc (.cells #[int i64 f,int i64 b,int i64 i] 46):=⟨_,rfl⟩;have K0:=hid (show za [] w W by rw[hW];exact za.alloc _ _ _);have hP:PrC W pb po P:=PrC.stays _ _ _ _ _ K0.o h;have c0:W.cell? ⟨w.heap.size,0,none⟩=some (int i64 f):=by rw[hW,World.cell?_alloc_at _ _ _ _ rfl];rfl
 have c1:W.cell? ⟨w.heap.size,1,none⟩=some (int i64 b):=by rw[hW,World.cell?_alloc_at _ _ _ _ rfl];rfl
 have c2:W.cell? ⟨w.heap.size,2,none⟩=some (int i64 i):=by rw[hW,World.cell?_alloc_at _ _ _ _ rfl];rfl
 obtain ⟨q,o,L,hc⟩:=zaS hP hb;have hblk:=hid hc;obtain ⟨ca,ccp,hcc,_⟩:=L.c0;have hcode:=hs.code (f:=f.toNat) (b:=b.toNat) (by have:=hb.1;have:=hb.2.1;omega) (by have:=hb.2.2;omega);generalize (zA (zf P f.toNat) b.toNat).code.length=n at *;have hsz:=hid fun (w':World) (e:w'.cell? ⟨q,o,none⟩=some (.slice ca n ccp))=>Ql q o n ccp ca w' e (by omega);have HW:=hid hW;clear h hs hb hP L hc hW;have g3:((n+1:Nat):Int)≤150:=by omega
 by_cases g:i<0
 ·clear hi
  go_enter Tryz.func51,Tryz.ntmps51;go_wp2_with fail;rw[← HW.o];clear HW;generalize w.heap.size=z at *;go_wp2_with (go_at_call 87;refine hblk.o.mono ?_;rintro e w' ⟨rfl,rfl⟩);go_quiet (fail);go_wp2_with fail;go_ret;exact ⟨rfl,K0.o.quiet (za.drewN [] _ _)⟩
 ·have g2:((n+1:Nat):Int)≤i:=by omega
  have g4:(n:Int)+1≤i:=by omega
  clear hi;go_enter Tryz.func51,Tryz.ntmps51;go_wp2_with fail;rw[← HW.o];clear HW;generalize w.heap.size=z at *;go_wp2_with (go_at_call 87;refine hblk.o.mono ?_;rintro e w' ⟨rfl,rfl⟩);go_quiet ((go_at_call 88;exact Calls.quiet_of_same (hsz.o _ hcc)));go_wp2_with fail;go_ret;exact ⟨rfl,K0.o.quiet (za.drewN [] _ _)⟩
theorem zfZ(h:PrC w pb po P)(hs:Sm8 P)(f b:Nat)(hf:f<P.funcs.length)(hb:b<(zf P f).blocks.length):
  Calls Tryz.prog 89 #[pointer (some ⟨pb,po,none⟩),int i64 (f:Int),int i64 (b:Int)] w fun e w'=>e=.returned (int i64 (zae P f b 0:Int))∧w'=w:=by
 obtain ⟨fa,fcp,H⟩:=h.fns;obtain ⟨fb,fo,ba,bcp,rfl,B⟩:=H.at hf;obtain ⟨bb,bo,rfl,L⟩:=B.at hb;have h4:=H.cell;have h2:=B.cell;have hN:=hs.fn;have hM:=hs.bk f hf;have hsum:=hs.cntF hf (show b≤_ by omega);have hlast:=hid (zaJ (zf P f) (some ⟨bb,bo,none⟩) b bcp w B.rows (by omega) (by omega));have hpos:zae P f b 0=zaV P f+QY (zf P f) b:=by rw[zhG];rfl
 have hcap:=B.cap;have hmid:Box (∀ k,k<f→∃ ka kcp,w.cell? ⟨fb,fo+k * 3+2,none⟩=some (.slice ka (zf P k).blocks.length kcp)∧Calls Tryz.prog 142 #[.slice ka (zf P k).blocks.length kcp] w fun e w'=>e=.returned (int i64 (QY (zf P k) (zf P k).blocks.length:Int))∧w'=w):=hid fun k hk=>by
  obtain ⟨fb',fo',ka,kcp,e,K⟩:=H.at (f:=k) (by omega);simp only[Option.some.injEq,Addr.mk.injEq,and_true] at e;obtain ⟨rfl,rfl⟩:=e;exact ⟨ka,kcp,K.cell,zaJ (zf P k) ka _ kcp w K.rows (Nat.le_refl _) (by have:=hs.cntF (f:=k) (by omega) (Nat.le_refl _);omega)⟩
 have hall:Box (∀ k,k<f→zaV P (k+1)≤150):=hid fun k hk=>by
  have h1:=hs.pt;rw[zbn] at h1;exact Nat.le_trans (zal P (by omega)) h1
 rw[hpos];clear hpos h H B L hs;generalize hfn:P.funcs.length=N at *;generalize hbn:(zf P f).blocks.length=M at *;clear hfn hbn;have gf:(f:Int)<(N:Int):=by omega
 have gf0:(0:Int)≤(f:Int):=by omega
 have gN:(f:Int)≤12:=by omega
 have gb:(b:Int)≤(M:Int):=by omega
 have gb0:(0:Int)≤(b:Int):=by omega
 have gM:(b:Int)≤14:=by omega
 have gc:(b:Int)≤(bcp:Int):=by omega
 go_enter Tryz.func89,Tryz.ntmps89;go_wp2
 go_loop [7,10] (fun s i=>∃ k:Nat,k≤f∧i=int i64 (k:Int)∧s=int i64 (zaV P k:Int)) (fun _ i=>f - (intOf i).toNat)
 case atStart=>exact ⟨0,by omega,rfl,rfl⟩
 case round=>
  obtain ⟨k,hk,rfl,rfl⟩:=hrel;by_cases hlt:k<f
  ·have hlt':(k:Int)<(f:Int):=by omega
   have hlN:k<N:=by omega
   have hlN':(k:Int)<(N:Int):=by omega
   obtain ⟨ka,kcp,hc,hcl⟩:=hmid.o k hlt;have hcall:=hid hcl;have hs:=ZJ P k;have hle:=hall.o k hlt;clear hcl;generalize (zf P k).blocks.length=m at *;generalize QY (zf P k) m=c at hs hcall;generalize hA:zaV P k=A at *;generalize hB:zaV P (k+1)=B at *;have HB:=hid hB;have w1:((A:Nat):Int)+((c:Nat):Int)=((B:Nat):Int):=by omega
   have w2:(B:Int)≤150:=by omega
   have w3:(0:Int)≤(B:Int):=by omega
   have w4:IntKind.i64.wrap ((A:Int)+(c:Int))=(B:Int):=by rw[w1];exact IntWalk.i64_in _ (by omega)
   clear hB hs hA hle;go_wp2_with (go_at_call 142;refine hcall.o.mono ?_;rintro e w' ⟨rfl,rfl⟩)
   go_round
   case rel=>exact ⟨k+1,by omega,by go_num,by rw[HB.o]⟩
   case measure=>simp[intOf];omega
  ·obtain rfl:k=f:=by omega
   generalize hC:QY (zf P k) b=c at *;generalize hA:zaV P k=A at *;have HC:=hid hC;have HA:=hid hA;clear hC hA;have w2:((A+c:Nat):Int)≤150:=by omega
   have w3:(0:Int)≤((A+c:Nat):Int):=by omega
   have w4:IntKind.i64.wrap ((A:Int)+(c:Int))=((A+c:Nat):Int):=by rw[show (A:Int)+(c:Int)=((A+c:Nat):Int) by omega];exact IntWalk.i64_in _ (by omega)
   go_wp2_with (go_at_call 142;refine hlast.o.mono ?_;rintro e w' ⟨rfl,rfl⟩);go_ret;exact ⟨by rw[HC.o,HA.o,Int.natCast_add];rfl,rfl⟩
theorem zeM(h:PrC w pb po P)(hs:Sm8 P)(f b i:Nat)(hp:ZM P f b i):Calls Tryz.prog 51 #[pointer (some ⟨pb,po,none⟩),ptV f b i] w fun e w'=>e=.returned (int i64 (zae P f b i:Int))∧za [] w w':=by
 unfold ptV;obtain ⟨W,hW⟩:∃ W,W=w.alloc (.cells #[int i64 (f:Int),int i64 (b:Int),int i64 (i:Int)] 46):=⟨_,rfl⟩;have K0:=hid (show za [] w W by rw[hW];exact za.alloc _ _ _);have hP:PrC W pb po P:=PrC.stays _ _ _ _ _ K0.o h;have c0:W.cell? ⟨w.heap.size,0,none⟩=some (int i64 (f:Int)):=by rw[hW,World.cell?_alloc_at _ _ _ _ rfl];rfl
 have c1:W.cell? ⟨w.heap.size,1,none⟩=some (int i64 (b:Int)):=by rw[hW,World.cell?_alloc_at _ _ _ _ rfl];rfl
 have c2:W.cell? ⟨w.heap.size,2,none⟩=some (int i64 (i:Int)):=by rw[hW,World.cell?_alloc_at _ _ _ _ rfl];rfl
 obtain ⟨p1,p2,p3⟩:=hp;obtain ⟨q,o,L,hc⟩:=zaS hP (f:=(f:Int)) (b:=(b:Int)) ⟨by omega,by omega,by omega,by simpa using p2⟩;rw[Int.toNat_natCast,Int.toNat_natCast] at L;have hblk:=hid hc;have hfst:=hid fun (w':World) (k:PrC w' pb po P)=>zfZ k hs f b p1 p2;have HP:=hid hP;obtain ⟨ca,ccp,hcc,_⟩:=L.c0;have hcode:=hs.code p1 p2;have hle:zae P f b i≤150:=by have:=hs.pt;have:=ziP (p:=P) ⟨p1,p2,p3⟩;omega
 have hpos:zae P f b i=zae P f b 0+i:=rfl;generalize (zA (zf P f) b).code.length=n at *;have hsz:=hid fun (w':World) (e:w'.cell? ⟨q,o,none⟩=some (.slice ca n ccp))=>Ql q o n ccp ca w' e (by omega);generalize zae P f b 0=A at *;rw[hpos];rw[hpos] at hle;have HW:=hid hW;clear h hs hP L hc hW hpos p1 p2;have g1:¬ (i:Int)<0:=by omega
 have g2:(i:Int)<(n:Int)+1:=by omega
 have g4:(A:Int)+(i:Int)≤150:=by omega
 have w4:IntKind.i64.wrap ((A:Int)+(i:Int))=(A:Int)+(i:Int):=IntWalk.i64_in _ (by omega);go_enter Tryz.func51,Tryz.ntmps51;go_wp2_with fail;rw[← HW.o];clear HW;generalize w.heap.size=z at *;go_wp2_with (go_at_call 87;refine hblk.o.mono ?_;rintro e w' ⟨rfl,rfl⟩);go_quiet ((go_at_call 88;exact Calls.quiet_of_same (hsz.o _ hcc)));go_wp2_with fail;have K2:=hid (K0.o.quiet (za.drewN [] w' nq));have HP2:=hid (PrC.stays _ _ _ _ _ (za.drewN [] w' nq) HP.o);have d0:(w'.drewN nq).cell? ⟨z,0,none⟩=some (int i64 (f:Int)):=c0;have d1:(w'.drewN nq).cell? ⟨z,1,none⟩=some (int i64 (b:Int)):=c1;have d2:(w'.drewN nq).cell? ⟨z,2,none⟩=some (int i64 (i:Int)):=c2;generalize w'.drewN nq=w2 at *;clear c0 c1 c2 hcc;go_quiet ((go_at_call 89;exact Calls.quiet_of_same (hfst.o _ (PrC.stays _ _ _ _ _ (za.drewN [] _ _) HP2.o))));go_wp2_with fail;go_ret;exact ⟨by rw[Int.natCast_add];rfl,K2.o.quiet (za.drewN [] _ _)⟩
theorem Ji(h:PrC w pb po P)(hs:Sm8 P)(f b i:Int):Calls Tryz.prog 51 #[pointer (some ⟨pb,po,none⟩),ptV f b i] w fun e w'=>e=.returned (int i64 (zhP P f b i))∧za [] w w':=by
 unfold zhP;by_cases hb:zkf P f b
 ·rw[if_pos hb]
  by_cases hi:0≤i∧i≤((zA (zf P f.toNat) b.toNat).code.length:Int)
  ·rw[if_pos hi]
   have:=zeM h hs f.toNat b.toNat i.toNat ⟨by have:=hb.1;have:=hb.2.1;omega,by have:=hb.2.2;omega,by omega⟩;rw[show ((f.toNat:Nat):Int)=f by have:=hb.1;omega,show ((b.toNat:Nat):Int)=b by have:=hb.2.2;omega,show ((i.toNat:Nat):Int)=i by omega] at this;exact this
  ·rw[if_neg hi]
   exact zdv h hs f b i hb hi
 ·rw[if_neg hb]
  exact zeB h f b i hb
def qX(t:Int × Int):V3:=if t.1=0 then (0,0,false) else (1,0,false)
theorem zci(w:World):Calls Tryz.prog 48 #[] w fun e w'=>e=.returned (pointer (some ⟨w.heap.size,0,none⟩))∧Hp w' w.heap.size [] [w.heap.size]∧za [] w w':=by
 go_enter Tryz.func48,Tryz.ntmps48;go_wp2;go_ret;refine ⟨rfl,⟨.slice none 0 0,ze w _,List.mem_singleton.2 rfl,Obs.nil _ _ _ (fun x hx=> ?_)⟩,za.alloc [] w _⟩;rw[List.mem_singleton.1 hx];exact zt (ze w _)
theorem zg0(t:Int × Int)(w:World):Calls Tryz.prog 143 #[tyV t] w fun e w'=>e=.returned (vlV (qX t))∧za [] w w':=by
 obtain ⟨k,n⟩:=t;by_cases h:k=0
 ·subst h
  go_enter Tryz.func143,Tryz.ntmps143;go_wp2;exact bodyPost_ret (v:=vlV (0,0,false)) (by simp[results,Tryz.results143,go_sem]) rfl ⟨rfl,(za.alloc [] _ _).quiet (za.alloc [] _ _)⟩
 ·have hz:qX (k,n)=(1,0,false):=if_neg h
  rw[hz];go_enter Tryz.func143,Tryz.ntmps143;go_wp2;exact bodyPost_ret (v:=vlV (1,0,false)) (by simp[results,Tryz.results143,go_sem]) rfl ⟨rfl,(za.alloc [] _ _).quiet (za.alloc [] _ _)⟩
theorem HpV.le{os:List Ob}(h:HpV w hp sv os F):os.length≤9223372036854775807:=by
 rcases h.obs.own.2 with ⟨_,h0⟩ | ⟨_,c,_,_,_,_,h1,h2,_⟩
 ·omega
 ·unfold maxLen at h2
  omega
theorem zeE{os:List Ob}(h:HpV w hp sv os F)(hs:sv=.slice (some ⟨g,0,none⟩) os.length cap)(hj:j<os.length):
  Calls Tryz.prog 97 #[pointer (some ⟨hp,0,none⟩),int i64 ((j:Int)+1)] w fun e w'=>e=.returned (pointer (some ⟨g,j * 3,none⟩))∧za [] w w':=by
 have p0:=zc h.box 0;rw[hs] at p0;have hle:=h.le;have h1:¬ (j:Int)+1<1:=by omega
 have h2:¬ (os.length:Int)<(j:Int)+1:=by omega
 generalize os.length=n at *;clear h hs;go_enter Tryz.func97,Tryz.ntmps97;go_wp2;go_ret;exact ⟨rfl,za.refl _ _⟩
theorem zgm{os:List Ob}(h:HpV w hp sv os F)(ho:o<1∨(os.length:Int)<o):
  Calls Tryz.prog 97 #[pointer (some ⟨hp,0,none⟩),int i64 o] w fun e w'=>e=.returned (.pointer none)∧za [] w w':=by
 obtain ⟨a,cap,hs,_⟩:=h.obs.len;have p0:=zc h.box 0;rw[hs] at p0;generalize os.length=n at *;by_cases h1:o<1
 ·clear h hs ho
  go_enter Tryz.func97,Tryz.ntmps97;go_wp2;go_ret;exact ⟨rfl,za.refl _ _⟩
 ·have h2:(n:Int)<o:=by omega
  clear h hs ho;go_enter Tryz.func97,Tryz.ntmps97;go_wp2;go_ret;exact ⟨rfl,za.refl _ _⟩
theorem zhr(w:World)(o:Int):Calls Tryz.prog 97 #[.pointer none,int i64 o] w fun e w'=>e=.returned (.pointer none)∧za [] w w':=by
 go_enter Tryz.func97,Tryz.ntmps97;go_wp2;go_ret;exact ⟨rfl,za.refl _ _⟩
def znc(w:World)(pv:Value)(o:Int):Prop:=pv=.pointer none∨∃ hp sv os F,pv=pointer (some ⟨hp,0,none⟩)∧HpV w hp sv os F∧(o<1∨(os.length:Int)<o)
theorem zj0(h:znc w pv o):Calls Tryz.prog 97 #[pv,int i64 o] w fun e w'=>e=.returned (.pointer none)∧za [] w w':=by
 rcases h with rfl | ⟨hp,sv,os,F,rfl,h,ho⟩
 ·exact zhr w o
 ·exact zgm h ho
theorem zfb(h:znc w pv o):Calls Tryz.prog 144 #[pv,int i64 o] w fun e w'=>e=.returned (.tuple #[.pointer none,int i64 1])∧za [] w w':=by
 have H:=hid (zj0 h);clear h;go_enter Tryz.func144,Tryz.ntmps144;go_wp2_with fail;refine H.o.mono ?_;rintro e w1 ⟨rfl,k1⟩;have K1:=hid k1;clear k1 H;go_wp2_with fail
 go_ret2
 exact ⟨rfl,K1.o⟩
theorem Zp{os:List Ob}(h:HpV w hp sv os F)(hs:sv=.slice (some ⟨g,0,none⟩) os.length cap){o:Ob}(hj:os[j]? = some o)(hfr:o.free=false):
  Calls Tryz.prog 144 #[pointer (some ⟨hp,0,none⟩),int i64 ((j:Int)+1)] w fun e w'=>e=.returned (.tuple #[pointer (some ⟨g,j * 3,none⟩),int i64 0])∧za [] w w':=by
 have hjl:=(List.getElem?_eq_some_iff.1 hj).1;have H:=hid (zeE h hs hjl);obtain ⟨g',cap',hs',_,_,_,c1,_⟩:=h.obs.at hj;rw[hs] at hs';simp at hs';obtain ⟨rfl,_⟩:=hs';unfold ob3 at c1;rw[hfr] at c1;have C1:=hid c1;clear h hs hj c1 hfr;go_enter Tryz.func144,Tryz.ntmps144;go_wp2_with fail;refine H.o.mono ?_;rintro e w1 ⟨rfl,k1⟩;have K1:=hid k1;have p1:=zb k1 C1.o;clear k1 H C1;go_wp2_with fail
 go_ret2
 exact ⟨rfl,K1.o⟩
theorem zbp{os:List Ob}(h:HpV w hp sv os F)(hs:sv=.slice (some ⟨g,0,none⟩) os.length cap){o:Ob}(hj:os[j]? = some o)(hfr:o.free=true):
  Calls Tryz.prog 144 #[pointer (some ⟨hp,0,none⟩),int i64 ((j:Int)+1)] w fun e w'=>e=.returned (.tuple #[.pointer none,int i64 2])∧za [] w w':=by
 have hjl:=(List.getElem?_eq_some_iff.1 hj).1;have H:=hid (zeE h hs hjl);obtain ⟨g',cap',hs',_,_,_,c1,_⟩:=h.obs.at hj;rw[hs] at hs';simp at hs';obtain ⟨rfl,_⟩:=hs';unfold ob3 at c1;rw[hfr] at c1;have C1:=hid c1;clear h hs hj c1 hfr;go_enter Tryz.func144,Tryz.ntmps144;go_wp2_with fail;refine H.o.mono ?_;rintro e w1 ⟨rfl,k1⟩;have K1:=hid k1;have p1:=zb k1 C1.o;clear k1 H C1;go_wp2_with fail
 go_ret2
 exact ⟨rfl,K1.o⟩
def foW(os:List Ob)(o:Int):Int:=if o<1∨(os.length:Int)<o then 1 else if (os.getD (o - 1).toNat ⟨0,false,.slice none 0 0,[]⟩).free=true then 2 else 0
theorem zea{os:List Ob}(h:o<1∨(os.length:Int)<o):foW os o=1:=if_pos h
theorem zfz{os:List Ob}{x:Ob}(h:os[j]? = some x):foW os ((j:Int)+1)=if x.free=true then 2 else 0:=by
 have hj:=(List.getElem?_eq_some_iff.1 h).1;unfold foW;rw[if_neg (by omega),show ((j:Int)+1 - 1).toNat=j by omega,List.getD_eq_getElem?_getD,h];rfl
theorem zaD(os:List Ob)(o:Int):(o<1∨(os.length:Int)<o)∨∃ (j:Nat) (x:Ob),o=(j:Int)+1∧os[j]? = some x:=by
 by_cases h:o<1∨(os.length:Int)<o
 ·exact .inl h
 ·exact .inr ⟨(o - 1).toNat,_,by omega,List.getElem?_eq_getElem (by omega)⟩
theorem zic{os:List Ob}(h:foW os o=0):∃ (j:Nat) (x:Ob),o=(j:Int)+1∧os[j]? = some x∧x.free=false:=by
 rcases zaD os o with ho | ⟨j,x,rfl,hx⟩
 ·rw[zea ho] at h
  omega
 ·rw[zfz hx] at h
  refine ⟨j,x,rfl,hx,?_⟩;cases hf:x.free
  ·rfl
  ·rw[hf] at h
   simp at h
theorem ZQ{os:List Ob}(h:HpV w hp sv os F)(hw:foW os o≠0):
  Calls Tryz.prog 144 #[pointer (some ⟨hp,0,none⟩),int i64 o] w fun e w'=>e=.returned (.tuple #[.pointer none,int i64 (foW os o)])∧za [] w w':=by
 rcases zaD os o with ho | ⟨j,x,rfl,hx⟩
 ·rw[zea ho]
  exact zfb (.inr ⟨hp,sv,os,F,rfl,h,ho⟩)
 ·obtain ⟨g,cap,hs,_⟩:=h.obs.at hx
  rw[zfz hx] at hw ⊢;cases hf:x.free
  ·rw[hf] at hw
   simp at hw
  ·exact zbp h hs hx hf
theorem zbY(f:Int)(H:Calls Tryz.prog 144 #[pv,int i64 o] w fun e w'=>e=.returned (.tuple #[.pointer none,int i64 y])∧za [] w w')(hy:y≠0):
  Calls Tryz.prog 98 #[pv,int i64 o,int i64 f] w fun e w'=>e=.returned (.tuple #[.pointer none,int i64 y])∧za [] w w':=by
 have H:=hid H;go_enter Tryz.func98,Tryz.ntmps98;go_wp2_with fail;refine H.o.mono ?_;rintro e w1 ⟨rfl,k1⟩;have K1:=hid k1;clear k1 H;go_wp2_with fail
 go_ret2
 exact ⟨rfl,K1.o⟩
theorem zcq{os:List Ob}(h:HpV w hp sv os F){x:Ob}(hx:os[j]? = some x)(hf:x.free=false)(ho:f<0∨(x.vs.length:Int)≤f):
  Calls Tryz.prog 98 #[pointer (some ⟨hp,0,none⟩),int i64 ((j:Int)+1),int i64 f] w fun e w'=>e=.returned (.tuple #[.pointer none,int i64 1])∧za [] w w':=by
 obtain ⟨g,cap,hs,_,_,_,_,c2,_⟩:=h.obs.at hx;have H:=hid (Zp h hs hx hf);obtain ⟨fa,fc,hv,_⟩:∃ a c,x.fs=.slice a x.vs.length c∧True:=by
  rcases (h.obs.fld j x hx).2 with ⟨hv,h0⟩ | ⟨b,c,_,hv,_⟩
  ·exact ⟨none,0,by rw[hv,h0],trivial⟩
  ·exact ⟨_,c,hv,trivial⟩
 unfold ob3 at c2;rw[hv] at c2;have C2:=hid c2;generalize x.vs.length=n at *;clear h hs c2 hx hf;by_cases h0:f<0
 ·go_enter Tryz.func98,Tryz.ntmps98
  go_wp2_with fail;refine H.o.mono ?_;rintro e w1 ⟨rfl,k1⟩;have K1:=hid k1;have p2:=zb k1 C2.o;clear k1 H C2 ho;go_wp2_with fail
  go_ret2
  exact ⟨rfl,K1.o⟩
 ·have h1:(n:Int)≤f:=by omega
  go_enter Tryz.func98,Tryz.ntmps98;go_wp2_with fail;refine H.o.mono ?_;rintro e w1 ⟨rfl,k1⟩;have K1:=hid k1;have p2:=zb k1 C2.o;clear k1 H C2 ho;go_wp2_with fail
  go_ret2
  exact ⟨rfl,K1.o⟩
theorem zfe{os:List Ob}(h:HpV w hp sv os F){x:Ob}(hx:os[j]? = some x)(hf:x.free=false)(hi:i<x.vs.length)(hb:x.fs=.slice (some ⟨b,0,none⟩) x.vs.length cap):
  Calls Tryz.prog 98 #[pointer (some ⟨hp,0,none⟩),int i64 ((j:Int)+1),int i64 (i:Int)] w fun e w'=>e=.returned (.tuple #[pointer (some ⟨b,i * 3,none⟩),int i64 0])∧za [] w w':=by
 obtain ⟨g,cap',hs,_,_,_,_,c2,_⟩:=h.obs.at hx;have H:=hid (Zp h hs hx hf);unfold ob3 at c2;rw[hb] at c2;have C2:=hid c2;have hle:x.vs.length≤9223372036854775807:=by
  rcases (h.obs.fld j x hx).2 with ⟨_,h0⟩ | ⟨_,c,_,_,_,_,h1,h2,_⟩
  ·omega
  ·unfold maxLen at h2
   omega
 generalize x.vs.length=n at *;clear h hs c2 hx hf hb;have h0:¬ (i:Int)<0:=by omega
 have h1:¬ (n:Int)≤(i:Int):=by omega
 go_enter Tryz.func98,Tryz.ntmps98;go_wp2_with fail;refine H.o.mono ?_;rintro e w1 ⟨rfl,k1⟩;have K1:=hid k1;have p2:=zb k1 C2.o;clear k1 H C2;go_wp2_with fail
 go_ret2
 exact ⟨rfl,K1.o⟩
def obZ:Ob:=⟨0,false,.slice none 0 0,[]⟩
def slW(os:List Ob)(o f:Int):Int:=if foW os o≠0 then foW os o else if f<0∨((os.getD (o - 1).toNat obZ).vs.length:Int)≤f then 1 else 0
theorem zfm{os:List Ob}(f:Int)(h:foW os o≠0):slW os o f=foW os o:=if_pos h
theorem zcw{os:List Ob}{x:Ob}(f:Int)(h:os[j]? = some x)(hf:x.free=false):slW os ((j:Int)+1) f=if f<0∨(x.vs.length:Int)≤f then 1 else 0:=by
 have h0:foW os ((j:Int)+1)=0:=by rw[zfz h,hf];rfl
 unfold slW;rw[if_neg (by omega),show ((j:Int)+1 - 1).toNat=j by omega,List.getD_eq_getElem?_getD,h];rfl
theorem za9(os:List Ob)(o f:Int):(slW os o f≠0∧foW os o≠0∧slW os o f=foW os o)∨(∃ (j:Nat) (x:Ob),o=(j:Int)+1∧os[j]? = some x∧x.free=false∧(f<0∨(x.vs.length:Int)≤f)∧slW os o f=1)∨∃ (j i:Nat) (x:Ob) (v:V3),o=(j:Int)+1∧f=(i:Int)∧os[j]? = some x∧x.free=false∧x.vs[i]? = some v∧slW os o f=0:=by
 by_cases h:foW os o=0
 ·obtain ⟨j,x,rfl,hx,hf⟩:=zic h
  by_cases ho:f<0∨(x.vs.length:Int)≤f
  ·exact .inr (.inl ⟨j,x,rfl,hx,hf,ho,by rw[zcw f hx hf,if_pos ho]⟩)
  ·exact .inr (.inr ⟨j,f.toNat,x,_,rfl,by omega,hx,hf,List.getElem?_eq_getElem (by omega),by rw[zcw f hx hf,if_neg ho]⟩)
 ·exact .inl ⟨by rw[zfm f h];exact h,h,zfm f h⟩
def zd4(os:List Ob)(o f:Int):V3:=if slW os o f=0 then (os.getD (o - 1).toNat obZ).vs.getD f.toNat (0,0,false) else (0,0,false)
theorem zj1{os:List Ob}{x:Ob}{v:V3}(hx:os[j]? = some x)(hv:x.vs[i]? = some v)(h:slW os ((j:Int)+1) (i:Int)=0):zd4 os ((j:Int)+1) (i:Int)=v:=by
 unfold zd4;have e:os.getD j obZ=x:=by rw[List.getD_eq_getElem?_getD,hx];rfl
 rw[if_pos h,show ((j:Int)+1 - 1).toNat=j by omega,e,show ((i:Int)).toNat=i by omega,List.getD_eq_getElem?_getD,hv];rfl
theorem zfi(H:Calls Tryz.prog 98 #[pv,int i64 o,int i64 f] (w.alloc (.cells #[int i64 0,int i64 0,.bool false] 39)) fun e w'=>e=.returned (.tuple #[.pointer none,int i64 y])∧za [] (w.alloc (.cells #[int i64 0,int i64 0,.bool false] 39)) w')(hy:y≠0):
  Calls Tryz.prog 62 #[pv,int i64 o,int i64 f] w fun e w'=>e=.returned (.tuple #[vlV (0,0,false),int i64 y])∧za [] w w':=by
 have H:=hid H;have hn:=ze w (.cells #[int i64 0,int i64 0,.bool false] 39);have HN:=hid hn;have KA:=hid (za.alloc [] w (.cells #[int i64 0,int i64 0,.bool false] 39));clear hn;go_enter Tryz.func62,Tryz.ntmps62;go_wp2_with fail;refine H.o.mono ?_;rintro e w1 ⟨rfl,k1⟩;have K1:=hid k1;have hb:=zd HN.o k1;have HB:=hid hb;have c0:=zc hb 0;have c1:=zc hb 1;have c2:=zc hb 2;have z0:=zg hb 0;have z1:=zg hb 1;have z2:=zg hb 2;have KK:=hid (KA.o.quiet k1);clear k1 H hb HN;go_wp2_with fail;have HS:=Jt HB.o (int i64 0) (int i64 0) (.bool false);have K3:=hid (KK.o.trans (jh w1 w.heap.size (int i64 0) (int i64 0) (.bool false)) (fun x hx hl=>by rw[List.mem_singleton.1 hx] at hl;omega));generalize ((w1.setCell ⟨w.heap.size,0,none⟩ (int i64 0)).setCell ⟨w.heap.size,1,none⟩ (int i64 0)).setCell ⟨w.heap.size,2,none⟩ (.bool false)=w2 at *;have r0:=zc HS 0;have r1:=zc HS 1;have r2:=zc HS 2;exact bodyPost_ret (v:=.tuple #[vlV (0,0,false),int i64 y]) (by simp[results,Tryz.results62,go_sem,r0,r1,r2]) rfl ⟨rfl,K3.o⟩
theorem zkR{os:List Ob}(h:HpV w hp sv os F){x:Ob}{v:V3}(hx:os[j]? = some x)(hf:x.free=false)(hv:x.vs[i]? = some v):
  Calls Tryz.prog 62 #[pointer (some ⟨hp,0,none⟩),int i64 ((j:Int)+1),int i64 (i:Int)] w fun e w'=>e=.returned (.tuple #[vlV v,int i64 0])∧za [] w w':=by
 obtain ⟨b,cap,hb,_,d0,d1,d2,_⟩:=h.obs.field hx hv;have KA:=hid (za.alloc [] w (.cells #[int i64 0,int i64 0,.bool false] 39));have H:=hid (zfe (h.kept KA.o (fun _ _=>by simp)) hx hf (List.getElem?_eq_some_iff.1 hv).1 hb);have HN:=hid (ze w (.cells #[int i64 0,int i64 0,.bool false] 39));have D:=hid (And.intro (zb KA.o d0) (And.intro (zb KA.o d1) (zb KA.o d2)));clear h hx hf hv hb d0 d1 d2;obtain ⟨vk,vn,vt⟩:=v;unfold v3 at D;go_enter Tryz.func62,Tryz.ntmps62;go_wp2_with fail;refine H.o.mono ?_;rintro e w1 ⟨rfl,k1⟩;have HB:=hid (zd HN.o k1);have c0:=zc HB.o 0;have c1:=zc HB.o 1;have c2:=zc HB.o 2;have z0:=zg HB.o 0;have z1:=zg HB.o 1;have z2:=zg HB.o 2;have d0:=zb k1 D.o.1;have d1:=zb k1 D.o.2.1;have d2:=zb k1 D.o.2.2;have KK:=hid (KA.o.quiet k1);clear k1 H HN;go_wp2_with fail;have HS:=Jt HB.o (int i64 vk) (int i64 vn) (.bool vt);have K3:=hid (KK.o.trans (jh w1 w.heap.size (int i64 vk) (int i64 vn) (.bool vt)) (fun x hx hl=>by rw[List.mem_singleton.1 hx] at hl;omega));generalize ((w1.setCell ⟨w.heap.size,0,none⟩ (int i64 vk)).setCell ⟨w.heap.size,1,none⟩ (int i64 vn)).setCell ⟨w.heap.size,2,none⟩ (.bool vt)=w2 at *;have r0:=zc HS 0;have r1:=zc HS 1;have r2:=zc HS 2;exact bodyPost_ret (v:=.tuple #[vlV (vk,vn,vt),int i64 0]) (by simp[results,Tryz.results62,go_sem,r0,r1,r2]) rfl ⟨rfl,K3.o⟩
theorem zjE{os:List Ob}(h:Hp w hp os F)(o f:Int):
  Calls Tryz.prog 62 #[pointer (some ⟨hp,0,none⟩),int i64 o,int i64 f] w fun e w'=>e=.returned (.tuple #[vlV (zd4 os o f),int i64 (slW os o f)])∧za [] w w':=by
 obtain ⟨sv,h⟩:=h;have ka:=za.alloc [] w (.cells #[int i64 0,int i64 0,.bool false] 39);have h':=h.kept ka (fun _ _=>by simp);rcases za9 os o f with ⟨h0,h1,h2⟩ | ⟨j,x,rfl,hx,hf,ho,hs⟩ | ⟨j,i,x,v,rfl,rfl,hx,hf,hv,hs⟩
 ·have e:zd4 os o f=(0,0,false):=if_neg h0
  rw[e,h2];exact zfi (zbY f (ZQ h' h1) h1) h1
 ·have e:zd4 os ((j:Int)+1) f=(0,0,false):=if_neg (by omega)
  rw[e,hs];exact zfi (zcq h' hx hf ho) (by omega)
 ·rw[zj1 hx hv hs,hs]
  exact zkR h hx hf hv
def zdd(os:List Ob)(o f:Int)(v:V3):List Ob:=if slW os o f=0 then os.set (o - 1).toNat { os.getD (o - 1).toNat obZ with vs:=(os.getD (o - 1).toNat obZ).vs.set f.toNat v } else os
theorem zjB{os:List Ob}{x:Ob}(u:V3)(hx:os[j]? = some x)(h:slW os ((j:Int)+1) (i:Int)=0):zdd os ((j:Int)+1) (i:Int) u=os.set j { x with vs:=x.vs.set i u }:=by
 have e:os.getD j obZ=x:=by rw[List.getD_eq_getElem?_getD,hx];rfl
 unfold zdd;rw[if_pos h,show ((j:Int)+1 - 1).toNat=j by omega,e,show ((i:Int)).toNat=i by omega]
theorem ze3(u:V3)(H:Calls Tryz.prog 98 #[pv,int i64 o,int i64 f] (w.alloc (.cells #[int i64 u.1,int i64 u.2.1,.bool u.2.2] 39)) fun e w'=>e=.returned (.tuple #[.pointer none,int i64 y])∧za [] (w.alloc (.cells #[int i64 u.1,int i64 u.2.1,.bool u.2.2] 39)) w')(hy:y≠0):
  Calls Tryz.prog 91 #[pv,int i64 o,int i64 f,vlV u] w fun e w'=>e=.returned (int i64 y)∧za [] w w':=by
 have H:=hid H;have KA:=hid (za.alloc [] w (.cells #[int i64 u.1,int i64 u.2.1,.bool u.2.2] 39));go_enter Tryz.func91,Tryz.ntmps91;go_wp2_with fail;refine H.o.mono ?_;rintro e w1 ⟨rfl,k1⟩;have KK:=hid (KA.o.quiet k1);clear k1 H;go_wp2_with fail;go_ret;exact ⟨rfl,KK.o⟩
theorem zkt{os:List Ob}(h:HpV w hp sv os F){x:Ob}{v:V3}(hx:os[j]? = some x)(hf:x.free=false)(hv:x.vs[i]? = some v)(u:V3):
  Calls Tryz.prog 91 #[pointer (some ⟨hp,0,none⟩),int i64 ((j:Int)+1),int i64 (i:Int),vlV u] w fun e w'=>e=.returned (int i64 0)∧Hp w' hp (os.set j { x with vs:=x.vs.set i u }) F∧za F w w':=by
 obtain ⟨b,cap,hb,hbF,d0,d1,d2,hz⟩:=h.obs.field hx hv;have KA:=hid (za.alloc [] w (.cells #[int i64 u.1,int i64 u.2.1,.bool u.2.2] 39));have HA:=hid (h.kept KA.o (fun _ _=>by simp));have H:=hid (zfe HA.o hx hf (List.getElem?_eq_some_iff.1 hv).1 hb);have HN:=hid (ze w (.cells #[int i64 u.1,int i64 u.2.1,.bool u.2.2] 39));have HX:=hid hx;have HV:=hid hv;have HBB:=hid hb;have HF:=hid hbF;clear h hx hf hv hb d0 d1 d2 hz hbF;go_enter Tryz.func91,Tryz.ntmps91;go_wp2_with fail;refine H.o.mono ?_;rintro e w1 ⟨rfl,k1⟩;have HB:=hid (zd HN.o k1);have c0:=zc HB.o 0;have c1:=zc HB.o 1;have c2:=zc HB.o 2;have KK:=hid (KA.o.quiet k1);have H1:=hid (HA.o.kept k1 (fun _ _=>by simp));obtain ⟨b',cap',hb',_,d0,d1,d2,hz⟩:=H1.o.obs.field HX.o HV.o;have e:=HBB.o;rw[hb'] at e;simp at e;obtain ⟨rfl,rfl⟩:=e;have z0:=hz (i * 3);have z1:=hz (i * 3+1);have z2:=hz (i * 3+2);clear k1 H HN hz hb';go_wp2_with fail;go_ret;have hp1:=H1.o.obs.put (by decide) (fun _ _=>rfl) HX.o HV.o HBB.o u;have k3:za [b'] w1 (((w1.setCell ⟨b',i * 3,none⟩ (v3 u).1).setCell ⟨b',i * 3+1,none⟩ (v3 u).2.1).setCell ⟨b',i * 3+2,none⟩ (v3 u).2.2):=((za.setCell [b'] _ _ _ (List.mem_singleton.2 rfl)).step (za.setCell [b'] _ _ _ (List.mem_singleton.2 rfl))).step (za.setCell [b'] _ _ _ (List.mem_singleton.2 rfl));refine ⟨rfl,⟨sv,?_,H1.o.hin,hp1⟩,(KK.o.mono (L':=F) (fun x hx=>by cases hx)).step (k3.mono (fun x hx=>by rw[List.mem_singleton.1 hx];exact HF.o))⟩;have hne:hp≠b':=fun e=>by
  subst e;have own:=H1.o.obs.fld j x HX.o;rw[HBB.o] at own;rcases own.2 with ⟨h',_⟩ | ⟨g,_,cur,h',_,hg,_⟩
  ·simp at h'
  ·simp at h'
   obtain ⟨rfl,_⟩:=h';rw[H1.o.box] at hg;simp at hg
 exact (k3.block hp (zt H1.o.box) (by simpa using hne)).trans H1.o.box
theorem zis{os:List Ob}(h:Hp w hp os F)(o f:Int)(u:V3):
  Calls Tryz.prog 91 #[pointer (some ⟨hp,0,none⟩),int i64 o,int i64 f,vlV u] w fun e w'=>e=.returned (int i64 (slW os o f))∧Hp w' hp (zdd os o f u) F∧za F w w':=by
 obtain ⟨sv,h⟩:=h;have ka:=za.alloc [] w (.cells #[int i64 u.1,int i64 u.2.1,.bool u.2.2] 39);have h':=h.kept ka (fun _ _=>by simp);have still:∀ {w':World} ,za [] w w'→Hp w' hp os F∧za F w w':=fun k=>⟨⟨sv,h.kept k (fun _ _=>by simp)⟩,k.mono (fun x hx=>by cases hx)⟩;rcases za9 os o f with ⟨h0,h1,h2⟩ | ⟨j,x,rfl,hx,hf,ho,hs⟩ | ⟨j,i,x,v,rfl,rfl,hx,hf,hv,hs⟩
 ·have e:zdd os o f u=os:=if_neg h0
  rw[e,h2];refine (ze3 u (zbY f (ZQ h' h1) h1) h1).mono ?_;rintro e w1 ⟨rfl,k1⟩;exact ⟨rfl,still k1⟩
 ·have e:zdd os ((j:Int)+1) f u=os:=if_neg (by omega)
  rw[e,hs];refine (ze3 u (zcq h' hx hf ho) (by omega)).mono ?_;rintro e w1 ⟨rfl,k1⟩;exact ⟨rfl,still k1⟩
 ·rw[zjB u hx hs,hs]
  exact zkt h hx hf hv u
def QD(os:List Ob)(o:Int):List Ob:=if foW os o=0 then os.set (o - 1).toNat ⟨(os.getD (o - 1).toNat obZ).site,true,.slice none 0 0,[]⟩ else os
theorem zgI{os:List Ob}{x:Ob}(hx:os[j]? = some x)(h:foW os ((j:Int)+1)=0):QD os ((j:Int)+1)=os.set j ⟨x.site,true,.slice none 0 0,[]⟩:=by
 have e:os.getD j obZ=x:=by rw[List.getD_eq_getElem?_getD,hx];rfl
 unfold QD;rw[if_pos h,show ((j:Int)+1 - 1).toNat=j by omega,e]
theorem zgg(H:Calls Tryz.prog 144 #[pv,int i64 o] w fun e w'=>e=.returned (.tuple #[.pointer none,int i64 y])∧za [] w w')(hy:y≠0):
  Calls Tryz.prog 92 #[pv,int i64 o] w fun e w'=>e=.returned (int i64 y)∧za [] w w':=by
 have H:=hid H;go_enter Tryz.func92,Tryz.ntmps92;go_wp2_with fail;refine H.o.mono ?_;rintro e w1 ⟨rfl,k1⟩;have KK:=hid k1;clear k1 H;go_wp2_with fail;go_ret;exact ⟨rfl,KK.o⟩
theorem zjz{os:List Ob}(h:HpV w hp sv os F){x:Ob}(hx:os[j]? = some x)(hf:x.free=false):
  Calls Tryz.prog 92 #[pointer (some ⟨hp,0,none⟩),int i64 ((j:Int)+1)] w fun e w'=>e=.returned (int i64 0)∧Hp w' hp (os.set j ⟨x.site,true,.slice none 0 0,[]⟩) F∧za F w w':=by
 obtain ⟨g,cap,hs,_⟩:=h.obs.at hx;have H:=hid (Zp h hs hx hf);have HA:=hid h;have HX:=hid hx;have HS:=hid hs;clear h hx hf hs;go_enter Tryz.func92,Tryz.ntmps92;go_wp2_with fail;refine H.o.mono ?_;rintro e w1 ⟨rfl,k1⟩;have KK:=hid k1;have H1:=hid (HA.o.kept k1 (fun _ _=>by simp));obtain ⟨g',cap',hs',_,_,d0,d1,d2,hz,hg⟩:=H1.o.obs.at HX.o;rw[HS.o] at hs';simp at hs';obtain ⟨rfl,rfl⟩:=hs';have D0:=hid d0;have z1:=hz (j * 3+1);have z2:=hz (j * 3+2);clear k1 H hz d0;go_wp2_with fail;go_ret;have own:=H1.o.obs.own;rw[HS.o] at own;have o2:=((own.stored (j * 3+1) (.bool true)).1.stored (j * 3+2) (.slice none 0 0)).1;have er:Z6 ob3 (os.set j ⟨x.site,true,.slice none 0 0,[]⟩)=((Z6 ob3 os).set (j * 3+1) (.bool true)).set (j * 3+2) (.slice none 0 0):=by
  have h0:(Z6 ob3 os)[j * 3]? = some (int i64 x.site):=(jZ ob3 os j x HX.o).1;rw[Qo ob3 os j x _ HX.o];show (((Z6 ob3 os).set (j * 3) (int i64 x.site)).set (j * 3+1) (.bool true)).set (j * 3+2) (.slice none 0 0)=_;rw[Qx h0]
 rw[← er, ← HS.o] at o2;have k2:za [g] w1 ((w1.setCell ⟨g,j * 3+1,none⟩ (.bool true)).setCell ⟨g,j * 3+2,none⟩ (.slice none 0 0)):=(za.setCell [g] _ _ _ (List.mem_singleton.2 rfl)).step (za.setCell [g] _ _ _ (List.mem_singleton.2 rfl));have hob:sv.ownBlock=some g:=by rw[HS.o];rfl
 have hgF:=H1.o.obs.row g hob;refine ⟨rfl,⟨sv,?_,H1.o.hin,H1.o.obs.turn (by decide) HX.o (by rw[hob];exact k2) o2 (.inr ⟨rfl,rfl⟩)⟩,(KK.o.mono (L':=F) (fun x hx=>by cases hx)).step (k2.mono (fun x hx=>by rw[List.mem_singleton.1 hx];exact hgF))⟩;have hne:hp≠g:=fun e=>by
  subst e;rcases own.2 with ⟨h',_⟩ | ⟨g,_,cur,h',_,hg,_⟩
  ·simp at h'
  ·simp at h'
   obtain ⟨rfl,_⟩:=h';rw[H1.o.box] at hg;simp at hg
 exact (k2.block hp (zt H1.o.box) (by simpa using hne)).trans H1.o.box
theorem zhs{os:List Ob}(h:Hp w hp os F)(o:Int):
  Calls Tryz.prog 92 #[pointer (some ⟨hp,0,none⟩),int i64 o] w fun e w'=>e=.returned (int i64 (foW os o))∧Hp w' hp (QD os o) F∧za F w w':=by
 obtain ⟨sv,h⟩:=h;by_cases hw:foW os o=0
 ·obtain ⟨j,x,rfl,hx,hf⟩:=zic hw
  rw[zgI hx hw,hw];exact zjz h hx hf
 ·have e:QD os o=os:=if_neg hw
  rw[e];refine (zgg (ZQ h hw) hw).mono ?_;rintro e w1 ⟨rfl,k1⟩;exact ⟨rfl,⟨sv,h.kept k1 (fun _ _=>by simp)⟩,k1.mono (fun x hx=>by cases hx)⟩
theorem zh1(w:World):Calls Tryz.prog 25 #[.pointer none] w fun e w'=>e=.returned (int i64 0)∧za [] w w':=by
 go_enter Tryz.func25,Tryz.ntmps25;go_wp2;go_ret;exact ⟨rfl,za.refl _ _⟩
end Go.Proofs.YtgmbkiagdhjpnaaGreatDoor
