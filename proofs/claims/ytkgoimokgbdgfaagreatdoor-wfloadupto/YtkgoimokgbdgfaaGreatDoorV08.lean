import Derived.Test.YtkgoimokgbdgfaaGreatDoorV07

namespace Go.Proofs.YtkgoimokgbdgfaaGreatDoor
open Go.RowKit
open Go.Value (int pointer agg)
open Go.IntKind (i64)
set_option maxHeartbeats 4000000
set_option maxRecDepth 20000
variable {P:Pr8}{pb po:Nat}{v:Value}{w w':World}{x:Fu8}
theorem zC(k:Int)(n:Nat)(w:World):Calls Tryz.prog 50 #[int i64 k,int i64 (n:Int)] w fun e w'=>e=.returned (.bool (inB k n))∧w'=w:=by
 by_cases h1:0≤k
 ·by_cases h2:k<(n:Int)
  ·rw[zeD h1 h2]
   go_enter Tryz.func50,Tryz.ntmps50;go_wp2;go_ret;exact ⟨rfl,rfl⟩
  ·rw[zeS (fun h=>h2 h.2)]
   have hd:decide (k<(n:Int))=false:=decide_eq_false h2;clear h2;go_enter Tryz.func50,Tryz.ntmps50;go_wp2;go_ret;exact ⟨rfl,rfl⟩
 ·rw[zeS (fun h=>h1 h.1)]
  have hd:decide (0≤k)=false:=decide_eq_false h1;go_enter Tryz.func50,Tryz.ntmps50;go_wp2;go_ret;exact ⟨rfl,rfl⟩
theorem zlQ{t:Int × Int}(h:t.1=0):tyB P t=decide (t.2=0):=by unfold tyB;rw[if_pos h]
theorem zmL{t:Int × Int}(h:t.1=1):tyB P t=inB t.2 P.recs.length:=by unfold tyB;rw[if_neg (by omega),if_pos h]
theorem zl3{t:Int × Int}(h:t.1=2):tyB P t=inB t.2 P.sigs.length:=by unfold tyB;rw[if_neg (by omega),if_neg (by omega),if_pos h]
theorem zmA{t:Int × Int}(h:t.1=3):tyB P t=inB t.2 P.ifs.length:=by unfold tyB;rw[if_neg (by omega),if_neg (by omega),if_neg (by omega),if_pos h]
theorem zlW{t:Int × Int}(h0:t.1≠0)(h1:t.1≠1)(h2:t.1≠2)(h3:t.1≠3):tyB P t=false:=by unfold tyB;rw[if_neg h0,if_neg h1,if_neg h2,if_neg h3]
abbrev tyV (t:Int × Int):Value:=agg #[int i64 t.1,int i64 t.2]
theorem zai(h:PrC w pb po P)(t:Int × Int):Calls Tryz.prog 97 #[pointer (some ⟨pb,po,none⟩),tyV t] w fun e w'=>e=.returned (.bool (tyB P t))∧zc [] w w':=by
 obtain ⟨a0,p0,c0,_⟩:=h.c0;obtain ⟨a1,p1,c1,_⟩:=h.c1;obtain ⟨a2,p2,c2,_⟩:=h.c2;have ka:=zc.alloc [] w (.cells #[int i64 t.1,int i64 t.2] 34);replace c0:=za ka c0;replace c1:=za ka c1;replace c2:=za ka c2;have KA:=hid ka;have HW:=hid fun (k:Int) (n:Nat) (w:World)=>zC k n w;have i0:=zlQ (P:=P) (t:=t);have i1:=zmL (P:=P) (t:=t);have i2:=zl3 (P:=P) (t:=t);have i3:=zmA (P:=P) (t:=t);have i4:=zlW (P:=P) (t:=t);clear h ka;generalize tyB P t=res at *;generalize P.recs.length=n0 at *;generalize P.sigs.length=n1 at *;generalize P.ifs.length=n2 at *;obtain ⟨k,n⟩:=t;simp only at *;by_cases h0:k=0
 ·have HE:=hid (i0 h0)
  subst h0;clear i0 i1 i2 i3 i4;have hd:(n == 0)=decide (n=0):=rfl;go_enter Tryz.func97,Tryz.ntmps97;go_wp2_with fail;go_ret;exact ⟨by rw[HE.o];rfl,KA.o⟩
 by_cases h1:k=1
 ·have HE:=hid (i1 h1)
  subst h1;clear i0 i1 i2 i3 i4;go_enter Tryz.func97,Tryz.ntmps97;go_upto_region 5 with fail;go_quiet ((go_at_call 50;exact Calls.quiet_of_same (HW.o _ _ _)));go_wp2_with fail;go_ret;exact ⟨by rw[HE.o];rfl,KA.o.quiet (zc.drewN _ _ _)⟩
 by_cases h2:k=2
 ·have HE:=hid (i2 h2)
  subst h2;clear i0 i1 i2 i3 i4;go_enter Tryz.func97,Tryz.ntmps97;go_upto_region 7 with fail;go_quiet ((go_at_call 50;exact Calls.quiet_of_same (HW.o _ _ _)));go_wp2_with fail;go_ret;exact ⟨by rw[HE.o];rfl,KA.o.quiet (zc.drewN _ _ _)⟩
 by_cases h3:k=3
 ·have HE:=hid (i3 h3)
  subst h3;clear i0 i1 i2 i3 i4;go_enter Tryz.func97,Tryz.ntmps97;go_upto_region 9 with fail;go_quiet ((go_at_call 50;exact Calls.quiet_of_same (HW.o _ _ _)));go_wp2_with fail;go_ret;exact ⟨by rw[HE.o];rfl,KA.o.quiet (zc.drewN _ _ _)⟩
 have HE:=hid (i4 h0 h1 h2 h3);have o0:=neb h0;have o1:=neb h1;have o2:=neb h2;have o3:=neb h3;clear i0 i1 i2 i3 i4 h0 h1 h2 h3;go_enter Tryz.func97,Tryz.ntmps97;go_wp2_with fail;go_ret;exact ⟨by rw[HE.o];rfl,KA.o⟩
theorem zaz(h:PrC w pb po P){l:List (Int × Int)}(hv:zb9 w v l):Calls Tryz.prog 96 #[pointer (some ⟨pb,po,none⟩),v] w fun e w'=>e=.returned (.bool (J5 P l))∧zc [] w w':=by
 obtain ⟨a,cp,rfl,hr,_,hl⟩:=hv;have HP:=hid h;have HR:=hid hr;have HT:=hid fun (w':World) (k:zc [] w w') (t:Int × Int)=>zai (PrC.stays _ _ _ _ _ k h) t;obtain ⟨n,hn⟩:∃ n,n=l.length:=⟨_,rfl⟩;rw[← hn];have HL:=hid hn;have hn1:(n:Int)≤9223372036854775807:=by unfold maxLen at hl;omega
 clear h hr hl hn;go_enter Tryz.func96,Tryz.ntmps96;go_wp2_with fail
 go_loopw [9] (fun kv wr=>∃ k:Nat,k≤n∧kv=int i64 (k:Int)∧Box (zc [] w wr∧∀ j y,j<k→l[j]? = some y→tyB P y=true)) (fun kv _=>n - (intOf kv).toNat)
 case atStart=>exact ⟨0,by omega,rfl,hid ⟨zc.refl _ _,fun j y hj=>by omega⟩⟩
 case round=>
  obtain ⟨k,hk,rfl,HB⟩:=hrel;have HK:=hid HB.o.1;by_cases hlt:k<n
  ·have hlt':(k:Int)<(n:Int):=by omega
   obtain ⟨y,hy⟩:∃ y,l[k]? = some y:=⟨_,List.getElem?_eq_getElem (by rw[← HL.o];exact hlt)⟩;obtain ⟨b,off,rfl,hc⟩:=HR.o.at hy;have d0:=za HK.o hc.c0.1;have d1:=za HK.o hc.c1.1;have HC:=hid (HT.o _ (HK.o.quiet (zc.alloc [] wr (.cells #[int i64 y.1,int i64 y.2] 34))) y);have HKA:=hid (HK.o.quiet (zc.alloc [] wr (.cells #[int i64 y.1,int i64 y.2] 34)));have HY:=hid hy;clear hc hy;cases hgy:tyB P y with
   | true=>
    rw[hgy] at HC;have HG:=hid hgy;clear hgy;go_wp2_with fail;refine HC.o.mono ?_;rintro e w3 ⟨rfl,k3⟩;have K3:=hid (HKA.o.quiet k3);clear k3;go_wp2_with fail;go_roundw
    case rel=>exact ⟨k+1,by omega,by go_num,hid ⟨K3.o,fun j z hj hz=>by
     by_cases e:j<k
     ·exact HB.o.2 j z e hz
     ·obtain rfl:j=k:=by omega
      rw[HY.o] at hz;cases hz
      exact HG.o⟩⟩
    case measure=>simp[intOf];omega
   | false=>
    rw[hgy] at HC;have HE:Box (J5 P l=false):=hid (Zd HY.o hgy);clear hgy;go_wp2_with fail;refine HC.o.mono ?_;rintro e w3 ⟨rfl,k3⟩;have K3:=hid (HKA.o.quiet k3);clear k3;go_wp2_with fail;go_ret;exact ⟨by rw[HE.o];rfl,K3.o⟩
  ·obtain rfl:k=n:=by omega
   have HE:Box (J5 P l=true):=hid (jx (fun j y hy=>HB.o.2 j y (by rw[HL.o];exact (List.getElem?_eq_some_iff.1 hy).1) hy));go_wp2_with fail;go_ret;exact ⟨by rw[HE.o];rfl,HK.o⟩
theorem JS{a:Option Addr}{cp:Nat}{l:List Int}(hz:zw w a l)(hl:l.length≤maxLen)(m:Nat):Calls Tryz.prog 98 #[.slice a l.length cp,int i64 (m:Int)] w fun e w'=>e=.returned (.bool (Qe l m))∧w'=w:=by
 have HZ:=hid hz;have HW:=hid fun (k:Int) (n:Nat) (w:World)=>zC k n w;obtain ⟨n,hn⟩:∃ n,n=l.length:=⟨_,rfl⟩;rw[← hn];have HL:=hid hn;have hn1:(n:Int)≤9223372036854775807:=by unfold maxLen at hl;omega
 clear hz hl hn;go_enter Tryz.func98,Tryz.ntmps98;go_wp2_with fail
 go_loop [9] (fun kv=>∃ k:Nat,k≤n∧kv=int i64 (k:Int)∧Box (∀ j y,j<k→l[j]? = some y→inB y m=true)) (fun kv=>n - (intOf kv).toNat)
 case atStart=>exact ⟨0,by omega,rfl,hid fun j y hj=>by omega⟩
 case round=>
  obtain ⟨k,hk,rfl,HB⟩:=hrel;by_cases hlt:k<n
  ·have hlt':(k:Int)<(n:Int):=by omega
   have hkl:k<l.length:=by rw[← HL.o];exact hlt
   obtain ⟨y,hy⟩:∃ y,l[k]? = some y:=⟨_,List.getElem?_eq_getElem hkl⟩;obtain ⟨b,off,rfl,hc⟩:∃ b off,a=some ⟨b,off,none⟩∧w.cell? ⟨b,off+k,none⟩=some (int i64 y):=by
    rcases HZ.o with e | ⟨b,off,e,h⟩
    ·rw[e] at hy;simp at hy
    ·refine ⟨b,off,e,?_⟩
     rw[h k hkl,List.getD_eq_getElem?_getD,hy];rfl
   have HC:=hid (HW.o y m w);have HY:=hid hy;clear hy hkl;cases hgy:inB y m with
   | true=>
    rw[hgy] at HC;have HG:=hid hgy;clear hgy;go_wp2_with fail;refine HC.o.mono ?_;rintro e w3 ⟨rfl,hw3⟩;rw[hw3];clear hw3;go_wp2_with fail
    go_round
    case rel=>exact ⟨k+1,by omega,by go_num,hid fun j z hj hz=>by
     by_cases e:j<k
     ·exact HB.o j z e hz
     ·obtain rfl:j=k:=by omega
      rw[HY.o] at hz;cases hz
      exact HG.o⟩
    case measure=>simp[intOf];omega
   | false=>
    rw[hgy] at HC;have HE:Box (Qe l m=false):=hid (Zd HY.o hgy);clear hgy;go_wp2_with fail;refine HC.o.mono ?_;rintro e w3 ⟨rfl,hw3⟩;rw[hw3];clear hw3;go_wp2_with fail;go_ret;exact ⟨by rw[HE.o];rfl,rfl⟩
  ·obtain rfl:k=n:=by omega
   have HE:Box (Qe l m=true):=hid (jx (fun j y hy=>HB.o j y (by rw[HL.o];exact (List.getElem?_eq_some_iff.1 hy).1) hy));go_wp2_with fail;go_ret;exact ⟨by rw[HE.o];rfl,rfl⟩
theorem zfL{l:List In8}(hx:zn1 w v l)(m:Nat)(g:In8→Bool)(hm:m≤100)(hg:∀ w' v y,zc [] w w'→InV w v y→Calls Tryz.prog 168 #[v] w' fun e w2=>e=.returned (.bool (g y))∧zc [] w' w2):
  Calls Tryz.prog 167 #[v,int i64 (m:Int),.func (.func 168) #[] #[]] w fun e w'=>e=.returned (.bool (ji l m g))∧zc [] w w':=by
 obtain ⟨a,cp,rfl,hr,_,hl⟩:=hx;have HP:=hid hg;have HR:=hid hr;obtain ⟨n,hn⟩:∃ n,n=l.length:=⟨_,rfl⟩;rw[← hn];have HL:=hid hn;clear hg hr hl hn;by_cases hlong:m<n
 ·have hl':(m:Int)<(n:Int):=by omega
  have HE:=hid (qz (g:=g) (show m<l.length by rw[← HL.o];exact hlong));generalize ji l m g=res at *;clear hlong;go_enter Tryz.func167,Tryz.ntmps167;go_wp2;go_ret;exact ⟨by rw[HE.o];rfl,zc.refl _ _⟩
 ·have hl':¬ (m:Int)<(n:Int):=by omega
  have hn1:(n:Int)≤100:=by omega
  have HM:Box (l.length≤m):=hid (by rw[← HL.o];omega);clear hlong;go_enter Tryz.func167,Tryz.ntmps167;go_wp2_with fail
  go_loopw [14] (fun kv wr=>∃ k:Nat,k≤n∧kv=int i64 (k:Int)∧Box (zc [] w wr∧∀ j y,j<k→l[j]? = some y→g y=true)) (fun kv _=>n - (intOf kv).toNat)
  case atStart=>exact ⟨0,by omega,rfl,hid ⟨zc.refl _ _,fun j y hj=>by omega⟩⟩
  case round=>
   obtain ⟨k,hk,rfl,HB⟩:=hrel;have HK:=hid HB.o.1;by_cases hlt:k<n
   ·have hlt':(k:Int)<(n:Int):=by omega
    obtain ⟨y,hy⟩:∃ y,l[k]? = some y:=⟨_,List.getElem?_eq_getElem (by rw[← HL.o];exact hlt)⟩;obtain ⟨b,off,rfl,hc⟩:=HR.o.at hy
    skip
    obtain ⟨ar,acp,h5,q5⟩:=SlC.val hc.c5;have d0:=za HK.o hc.c0.1;have d1:=za HK.o hc.c1.1;have d2:=za HK.o hc.c2.1;have d3:=za HK.o hc.c3.1;have d4:=za HK.o hc.c4.1;have d5:=za HK.o h5;have HC:=hid (HP.o wr (agg #[int i64 y.op,int i64 y.dst,int i64 y.a,int i64 y.b,int i64 y.n,.slice ar y.args.length acp]) y HK.o (⟨ar,acp,rfl,hc.c0.2,hc.c1.2,hc.c2.2,hc.c3.2,hc.c4.2,q5⟩));have HY:=hid hy;clear hc hy h5 q5;cases hgy:g y with
    | true=>
     rw[hgy] at HC;have HG:=hid hgy;clear hgy;go_wp2_with fail;refine HC.o.mono ?_;rintro e w3 ⟨rfl,k3⟩;have K3:=hid (HK.o.quiet k3);clear k3;go_wp2_with fail;go_roundw
     case rel=>exact ⟨k+1,by omega,by go_num,hid ⟨K3.o,fun j z hj hz=>by
      by_cases e:j<k
      ·exact HB.o.2 j z e hz
      ·obtain rfl:j=k:=by omega
       rw[HY.o] at hz;cases hz
       exact HG.o⟩⟩
     case measure=>simp[intOf];omega
    | false=>
     rw[hgy] at HC;have HE:=hid (qM (m:=m) HY.o hgy);clear hgy;go_wp2_with fail;refine HC.o.mono ?_;rintro e w3 ⟨rfl,k3⟩;have K3:=hid (HK.o.quiet k3);clear k3;go_wp2_with fail;go_ret;exact ⟨by rw[HE.o];rfl,K3.o⟩
   ·obtain rfl:k=n:=by omega
    have HE:=hid (qB (g:=g) HM.o (fun j y hy=>HB.o.2 j y (by rw[HL.o];exact (List.getElem?_eq_some_iff.1 hy).1) hy));go_wp2_with fail;go_ret;exact ⟨by rw[HE.o];rfl,HK.o⟩
theorem zgG{l:List Bl8}(hx:zny w v l)(m:Nat)(g:Bl8→Bool)(hm:m≤100)(hg:∀ w' v y,zc [] w w'→BlV w v y→Calls Tryz.prog 145 #[v] w' fun e w2=>e=.returned (.bool (g y))∧zc [] w' w2):
  Calls Tryz.prog 144 #[v,int i64 (m:Int),.func (.func 145) #[] #[]] w fun e w'=>e=.returned (.bool (ji l m g))∧zc [] w w':=by
 obtain ⟨a,cp,rfl,hr,_,hl⟩:=hx;have HP:=hid hg;have HR:=hid hr;obtain ⟨n,hn⟩:∃ n,n=l.length:=⟨_,rfl⟩;rw[← hn];have HL:=hid hn;clear hg hr hl hn;by_cases hlong:m<n
 ·have hl':(m:Int)<(n:Int):=by omega
  have HE:=hid (qz (g:=g) (show m<l.length by rw[← HL.o];exact hlong));generalize ji l m g=res at *;clear hlong;go_enter Tryz.func144,Tryz.ntmps144;go_wp2;go_ret;exact ⟨by rw[HE.o];rfl,zc.refl _ _⟩
 ·have hl':¬ (m:Int)<(n:Int):=by omega
  have hn1:(n:Int)≤100:=by omega
  have HM:Box (l.length≤m):=hid (by rw[← HL.o];omega);clear hlong;go_enter Tryz.func144,Tryz.ntmps144;go_wp2_with fail
  go_loopw [14] (fun kv wr=>∃ k:Nat,k≤n∧kv=int i64 (k:Int)∧Box (zc [] w wr∧∀ j y,j<k→l[j]? = some y→g y=true)) (fun kv _=>n - (intOf kv).toNat)
  case atStart=>exact ⟨0,by omega,rfl,hid ⟨zc.refl _ _,fun j y hj=>by omega⟩⟩
  case round=>
   obtain ⟨k,hk,rfl,HB⟩:=hrel;have HK:=hid HB.o.1;by_cases hlt:k<n
   ·have hlt':(k:Int)<(n:Int):=by omega
    obtain ⟨y,hy⟩:∃ y,l[k]? = some y:=⟨_,List.getElem?_eq_getElem (by rw[← HL.o];exact hlt)⟩;obtain ⟨b,off,rfl,hc⟩:=HR.o.at hy
    skip
    obtain ⟨ar,acp,h5,q5⟩:=hc.c0.val;have d0:=za HK.o hc.c1.1;have d1:=za HK.o hc.c2.1;have d2:=za HK.o hc.c3.1;have d3:=za HK.o hc.c4.1;have d4:=za HK.o h5;have HC:=hid (HP.o wr (agg #[.slice ar y.code.length acp,int i64 y.fin,int i64 y.reg,int i64 y.to,int i64 y.els]) y HK.o (⟨ar,acp,rfl,q5,hc.c1.2,hc.c2.2,hc.c3.2,hc.c4.2⟩));have HY:=hid hy;clear hc hy h5 q5;cases hgy:g y with
    | true=>
     rw[hgy] at HC;have HG:=hid hgy;clear hgy;go_wp2_with fail;refine HC.o.mono ?_;rintro e w3 ⟨rfl,k3⟩;have K3:=hid (HK.o.quiet k3);clear k3;go_wp2_with fail;go_roundw
     case rel=>exact ⟨k+1,by omega,by go_num,hid ⟨K3.o,fun j z hj hz=>by
      by_cases e:j<k
      ·exact HB.o.2 j z e hz
      ·obtain rfl:j=k:=by omega
       rw[HY.o] at hz;cases hz
       exact HG.o⟩⟩
     case measure=>simp[intOf];omega
    | false=>
     rw[hgy] at HC;have HE:=hid (qM (m:=m) HY.o hgy);clear hgy;go_wp2_with fail;refine HC.o.mono ?_;rintro e w3 ⟨rfl,k3⟩;have K3:=hid (HK.o.quiet k3);clear k3;go_wp2_with fail;go_ret;exact ⟨by rw[HE.o];rfl,K3.o⟩
   ·obtain rfl:k=n:=by omega
    have HE:=hid (qB (g:=g) HM.o (fun j y hy=>HB.o.2 j y (by rw[HL.o];exact (List.getElem?_eq_some_iff.1 hy).1) hy));go_wp2_with fail;go_ret;exact ⟨by rw[HE.o];rfl,HK.o⟩
theorem zhw{l:List Fu8}(hx:SlV 3 FuC w v l)(m:Nat)(g:Fu8→Bool)(hm:m≤100)(hg:∀ w' v y,zc [] w w'→FuV w v y→Calls Tryz.prog 94 #[v] w' fun e w2=>e=.returned (.bool (g y))∧zc [] w' w2):
  Calls Tryz.prog 93 #[v,int i64 (m:Int),.func (.func 94) #[] #[]] w fun e w'=>e=.returned (.bool (ji l m g))∧zc [] w w':=by
 obtain ⟨a,cp,rfl,hr,_,hl⟩:=hx;have HP:=hid hg;have HR:=hid hr;obtain ⟨n,hn⟩:∃ n,n=l.length:=⟨_,rfl⟩;rw[← hn];have HL:=hid hn;clear hg hr hl hn;by_cases hlong:m<n
 ·have hl':(m:Int)<(n:Int):=by omega
  have HE:=hid (qz (g:=g) (show m<l.length by rw[← HL.o];exact hlong));generalize ji l m g=res at *;clear hlong;go_enter Tryz.func93,Tryz.ntmps93;go_wp2;go_ret;exact ⟨by rw[HE.o];rfl,zc.refl _ _⟩
 ·have hl':¬ (m:Int)<(n:Int):=by omega
  have hn1:(n:Int)≤100:=by omega
  have HM:Box (l.length≤m):=hid (by rw[← HL.o];omega);clear hlong;go_enter Tryz.func93,Tryz.ntmps93;go_wp2_with fail
  go_loopw [14] (fun kv wr=>∃ k:Nat,k≤n∧kv=int i64 (k:Int)∧Box (zc [] w wr∧∀ j y,j<k→l[j]? = some y→g y=true)) (fun kv _=>n - (intOf kv).toNat)
  case atStart=>exact ⟨0,by omega,rfl,hid ⟨zc.refl _ _,fun j y hj=>by omega⟩⟩
  case round=>
   obtain ⟨k,hk,rfl,HB⟩:=hrel;have HK:=hid HB.o.1;by_cases hlt:k<n
   ·have hlt':(k:Int)<(n:Int):=by omega
    obtain ⟨y,hy⟩:∃ y,l[k]? = some y:=⟨_,List.getElem?_eq_getElem (by rw[← HL.o];exact hlt)⟩;obtain ⟨b,off,rfl,hc⟩:=HR.o.at hy
    skip
    obtain ⟨ar,acp,h5,q5⟩:=hc.c1.val;obtain ⟨br,bcp,h6,q6⟩:=hc.c2.val;have d0:=za HK.o hc.c0.1;have d1:=za HK.o h5;have d2:=za HK.o h6;have HC:=hid (HP.o wr (agg #[int i64 y.sig,.slice ar y.regs.length acp,.slice br y.blocks.length bcp]) y HK.o (⟨ar,acp,br,bcp,rfl,hc.c0.2,q5,q6⟩));have HY:=hid hy;clear hc hy h5 q5 h6 q6;cases hgy:g y with
    | true=>
     rw[hgy] at HC;have HG:=hid hgy;clear hgy;go_wp2_with fail;refine HC.o.mono ?_;rintro e w3 ⟨rfl,k3⟩;have K3:=hid (HK.o.quiet k3);clear k3;go_wp2_with fail;go_roundw
     case rel=>exact ⟨k+1,by omega,by go_num,hid ⟨K3.o,fun j z hj hz=>by
      by_cases e:j<k
      ·exact HB.o.2 j z e hz
      ·obtain rfl:j=k:=by omega
       rw[HY.o] at hz;cases hz
       exact HG.o⟩⟩
     case measure=>simp[intOf];omega
    | false=>
     rw[hgy] at HC;have HE:=hid (qM (m:=m) HY.o hgy);clear hgy;go_wp2_with fail;refine HC.o.mono ?_;rintro e w3 ⟨rfl,k3⟩;have K3:=hid (HK.o.quiet k3);clear k3;go_wp2_with fail;go_ret;exact ⟨by rw[HE.o];rfl,K3.o⟩
   ·obtain rfl:k=n:=by omega
    have HE:=hid (qB (g:=g) HM.o (fun j y hy=>HB.o.2 j y (by rw[HL.o];exact (List.getElem?_eq_some_iff.1 hy).1) hy));go_wp2_with fail;go_ret;exact ⟨by rw[HE.o];rfl,HK.o⟩
theorem zkz{l:List (List (Int × Int))}(hx:SlV 1 (SlC 2 TyC) w v l)(m:Nat)(g:(List (Int × Int))→Bool)(hm:m≤100)(hg:∀ w' v y,zc [] w w'→zb9 w v y→Calls Tryz.prog 86 #[v] w' fun e w2=>e=.returned (.bool (g y))∧zc [] w' w2):
  Calls Tryz.prog 85 #[v,int i64 (m:Int),.func (.func 86) #[] #[]] w fun e w'=>e=.returned (.bool (ji l m g))∧zc [] w w':=by
 obtain ⟨a,cp,rfl,hr,_,hl⟩:=hx;have HP:=hid hg;have HR:=hid hr;obtain ⟨n,hn⟩:∃ n,n=l.length:=⟨_,rfl⟩;rw[← hn];have HL:=hid hn;clear hg hr hl hn;by_cases hlong:m<n
 ·have hl':(m:Int)<(n:Int):=by omega
  have HE:=hid (qz (g:=g) (show m<l.length by rw[← HL.o];exact hlong));generalize ji l m g=res at *;clear hlong;go_enter Tryz.func85,Tryz.ntmps85;go_wp2;go_ret;exact ⟨by rw[HE.o];rfl,zc.refl _ _⟩
 ·have hl':¬ (m:Int)<(n:Int):=by omega
  have hn1:(n:Int)≤100:=by omega
  have HM:Box (l.length≤m):=hid (by rw[← HL.o];omega);clear hlong;go_enter Tryz.func85,Tryz.ntmps85;go_wp2_with fail
  go_loopw [14] (fun kv wr=>∃ k:Nat,k≤n∧kv=int i64 (k:Int)∧Box (zc [] w wr∧∀ j y,j<k→l[j]? = some y→g y=true)) (fun kv _=>n - (intOf kv).toNat)
  case atStart=>exact ⟨0,by omega,rfl,hid ⟨zc.refl _ _,fun j y hj=>by omega⟩⟩
  case round=>
   obtain ⟨k,hk,rfl,HB⟩:=hrel;have HK:=hid HB.o.1;by_cases hlt:k<n
   ·have hlt':(k:Int)<(n:Int):=by omega
    obtain ⟨y,hy⟩:∃ y,l[k]? = some y:=⟨_,List.getElem?_eq_getElem (by rw[← HL.o];exact hlt)⟩;obtain ⟨b,off,rfl,hc⟩:=HR.o.at hy;rw[Nat.mul_one] at hc;obtain ⟨ar,acp,h5,q5⟩:=hc.val;have d0:=za HK.o h5;have HC:=hid (HP.o wr (.slice ar y.length acp) y HK.o (q5));have HY:=hid hy;clear hc hy h5 q5;cases hgy:g y with
    | true=>
     rw[hgy] at HC;have HG:=hid hgy;clear hgy;go_wp2_with fail;refine HC.o.mono ?_;rintro e w3 ⟨rfl,k3⟩;have K3:=hid (HK.o.quiet k3);clear k3;go_wp2_with fail;go_roundw
     case rel=>exact ⟨k+1,by omega,by go_num,hid ⟨K3.o,fun j z hj hz=>by
      by_cases e:j<k
      ·exact HB.o.2 j z e hz
      ·obtain rfl:j=k:=by omega
       rw[HY.o] at hz;cases hz
       exact HG.o⟩⟩
     case measure=>simp[intOf];omega
    | false=>
     rw[hgy] at HC;have HE:=hid (qM (m:=m) HY.o hgy);clear hgy;go_wp2_with fail;refine HC.o.mono ?_;rintro e w3 ⟨rfl,k3⟩;have K3:=hid (HK.o.quiet k3);clear k3;go_wp2_with fail;go_ret;exact ⟨by rw[HE.o];rfl,K3.o⟩
   ·obtain rfl:k=n:=by omega
    have HE:=hid (qB (g:=g) HM.o (fun j y hy=>HB.o.2 j y (by rw[HL.o];exact (List.getElem?_eq_some_iff.1 hy).1) hy));go_wp2_with fail;go_ret;exact ⟨by rw[HE.o];rfl,HK.o⟩
theorem zkG{l:List (List (Int × Int) × Int × Int)}(hx:SlV 3 SgC w v l)(m:Nat)(g:(List (Int × Int) × Int × Int)→Bool)(hm:m≤100)(hg:∀ w' v y,zc [] w w'→SgV w v y→Calls Tryz.prog 88 #[v] w' fun e w2=>e=.returned (.bool (g y))∧zc [] w' w2):
  Calls Tryz.prog 87 #[v,int i64 (m:Int),.func (.func 88) #[] #[]] w fun e w'=>e=.returned (.bool (ji l m g))∧zc [] w w':=by
 obtain ⟨a,cp,rfl,hr,_,hl⟩:=hx;have HP:=hid hg;have HR:=hid hr;obtain ⟨n,hn⟩:∃ n,n=l.length:=⟨_,rfl⟩;rw[← hn];have HL:=hid hn;clear hg hr hl hn;by_cases hlong:m<n
 ·have hl':(m:Int)<(n:Int):=by omega
  have HE:=hid (qz (g:=g) (show m<l.length by rw[← HL.o];exact hlong));generalize ji l m g=res at *;clear hlong;go_enter Tryz.func87,Tryz.ntmps87;go_wp2;go_ret;exact ⟨by rw[HE.o];rfl,zc.refl _ _⟩
 ·have hl':¬ (m:Int)<(n:Int):=by omega
  have hn1:(n:Int)≤100:=by omega
  have HM:Box (l.length≤m):=hid (by rw[← HL.o];omega);clear hlong;go_enter Tryz.func87,Tryz.ntmps87;go_wp2_with fail
  go_loopw [14] (fun kv wr=>∃ k:Nat,k≤n∧kv=int i64 (k:Int)∧Box (zc [] w wr∧∀ j y,j<k→l[j]? = some y→g y=true)) (fun kv _=>n - (intOf kv).toNat)
  case atStart=>exact ⟨0,by omega,rfl,hid ⟨zc.refl _ _,fun j y hj=>by omega⟩⟩
  case round=>
   obtain ⟨k,hk,rfl,HB⟩:=hrel;have HK:=hid HB.o.1;by_cases hlt:k<n
   ·have hlt':(k:Int)<(n:Int):=by omega
    obtain ⟨y,hy⟩:∃ y,l[k]? = some y:=⟨_,List.getElem?_eq_getElem (by rw[← HL.o];exact hlt)⟩;obtain ⟨b,off,rfl,hc⟩:=HR.o.at hy
    skip
    obtain ⟨ar,acp,h5,q5⟩:=hc.c0.val;have d0:=za HK.o hc.c1.1;have d1:=za HK.o hc.c2.1;have d2:=za HK.o h5;have HC:=hid (HP.o wr (agg #[.slice ar y.1.length acp,int i64 y.2.1,int i64 y.2.2]) y HK.o (⟨ar,acp,rfl,q5,hc.c1.2,hc.c2.2⟩));have HY:=hid hy;clear hc hy h5 q5;cases hgy:g y with
    | true=>
     rw[hgy] at HC;have HG:=hid hgy;clear hgy;go_wp2_with fail;refine HC.o.mono ?_;rintro e w3 ⟨rfl,k3⟩;have K3:=hid (HK.o.quiet k3);clear k3;go_wp2_with fail;go_roundw
     case rel=>exact ⟨k+1,by omega,by go_num,hid ⟨K3.o,fun j z hj hz=>by
      by_cases e:j<k
      ·exact HB.o.2 j z e hz
      ·obtain rfl:j=k:=by omega
       rw[HY.o] at hz;cases hz
       exact HG.o⟩⟩
     case measure=>simp[intOf];omega
    | false=>
     rw[hgy] at HC;have HE:=hid (qM (m:=m) HY.o hgy);clear hgy;go_wp2_with fail;refine HC.o.mono ?_;rintro e w3 ⟨rfl,k3⟩;have K3:=hid (HK.o.quiet k3);clear k3;go_wp2_with fail;go_ret;exact ⟨by rw[HE.o];rfl,K3.o⟩
   ·obtain rfl:k=n:=by omega
    have HE:=hid (qB (g:=g) HM.o (fun j y hy=>HB.o.2 j y (by rw[HL.o];exact (List.getElem?_eq_some_iff.1 hy).1) hy));go_wp2_with fail;go_ret;exact ⟨by rw[HE.o];rfl,HK.o⟩
theorem zgo{l:List (List Int)}(hx:SlV 1 ZO w v l)(m:Nat)(g:(List Int)→Bool)(hm:m≤100)(hg:∀ w' v y,zc [] w w'→IfV w v y→Calls Tryz.prog 90 #[v] w' fun e w2=>e=.returned (.bool (g y))∧zc [] w' w2):
  Calls Tryz.prog 89 #[v,int i64 (m:Int),.func (.func 90) #[] #[]] w fun e w'=>e=.returned (.bool (ji l m g))∧zc [] w w':=by
 obtain ⟨a,cp,rfl,hr,_,hl⟩:=hx;have HP:=hid hg;have HR:=hid hr;obtain ⟨n,hn⟩:∃ n,n=l.length:=⟨_,rfl⟩;rw[← hn];have HL:=hid hn;clear hg hr hl hn;by_cases hlong:m<n
 ·have hl':(m:Int)<(n:Int):=by omega
  have HE:=hid (qz (g:=g) (show m<l.length by rw[← HL.o];exact hlong));generalize ji l m g=res at *;clear hlong;go_enter Tryz.func89,Tryz.ntmps89;go_wp2;go_ret;exact ⟨by rw[HE.o];rfl,zc.refl _ _⟩
 ·have hl':¬ (m:Int)<(n:Int):=by omega
  have hn1:(n:Int)≤100:=by omega
  have HM:Box (l.length≤m):=hid (by rw[← HL.o];omega);clear hlong;go_enter Tryz.func89,Tryz.ntmps89;go_wp2_with fail
  go_loopw [14] (fun kv wr=>∃ k:Nat,k≤n∧kv=int i64 (k:Int)∧Box (zc [] w wr∧∀ j y,j<k→l[j]? = some y→g y=true)) (fun kv _=>n - (intOf kv).toNat)
  case atStart=>exact ⟨0,by omega,rfl,hid ⟨zc.refl _ _,fun j y hj=>by omega⟩⟩
  case round=>
   obtain ⟨k,hk,rfl,HB⟩:=hrel;have HK:=hid HB.o.1;by_cases hlt:k<n
   ·have hlt':(k:Int)<(n:Int):=by omega
    obtain ⟨y,hy⟩:∃ y,l[k]? = some y:=⟨_,List.getElem?_eq_getElem (by rw[← HL.o];exact hlt)⟩;obtain ⟨b,off,rfl,hc⟩:=HR.o.at hy;rw[Nat.mul_one] at hc;obtain ⟨ar,acp,h5,q5⟩:=SlC.val hc;have d0:=za HK.o h5;have HC:=hid (HP.o wr (agg #[.slice ar y.length acp]) y HK.o (⟨ar,acp,rfl,q5⟩));have HY:=hid hy;clear hc hy h5 q5;cases hgy:g y with
    | true=>
     rw[hgy] at HC;have HG:=hid hgy;clear hgy;go_wp2_with fail;refine HC.o.mono ?_;rintro e w3 ⟨rfl,k3⟩;have K3:=hid (HK.o.quiet k3);clear k3;go_wp2_with fail;go_roundw
     case rel=>exact ⟨k+1,by omega,by go_num,hid ⟨K3.o,fun j z hj hz=>by
      by_cases e:j<k
      ·exact HB.o.2 j z e hz
      ·obtain rfl:j=k:=by omega
       rw[HY.o] at hz;cases hz
       exact HG.o⟩⟩
     case measure=>simp[intOf];omega
    | false=>
     rw[hgy] at HC;have HE:=hid (qM (m:=m) HY.o hgy);clear hgy;go_wp2_with fail;refine HC.o.mono ?_;rintro e w3 ⟨rfl,k3⟩;have K3:=hid (HK.o.quiet k3);clear k3;go_wp2_with fail;go_ret;exact ⟨by rw[HE.o];rfl,K3.o⟩
   ·obtain rfl:k=n:=by omega
    have HE:=hid (qB (g:=g) HM.o (fun j y hy=>HB.o.2 j y (by rw[HL.o];exact (List.getElem?_eq_some_iff.1 hy).1) hy));go_wp2_with fail;go_ret;exact ⟨by rw[HE.o];rfl,HK.o⟩
theorem zgN{l:List (Int × Int × List Int)}(hx:SlV 3 ImC w v l)(m:Nat)(g:(Int × Int × List Int)→Bool)(hm:m≤100)(hg:∀ w' v y,zc [] w w'→ImV w v y→Calls Tryz.prog 92 #[v] w' fun e w2=>e=.returned (.bool (g y))∧zc [] w' w2):
  Calls Tryz.prog 91 #[v,int i64 (m:Int),.func (.func 92) #[] #[]] w fun e w'=>e=.returned (.bool (ji l m g))∧zc [] w w':=by
 obtain ⟨a,cp,rfl,hr,_,hl⟩:=hx;have HP:=hid hg;have HR:=hid hr;obtain ⟨n,hn⟩:∃ n,n=l.length:=⟨_,rfl⟩;rw[← hn];have HL:=hid hn;clear hg hr hl hn;by_cases hlong:m<n
 ·have hl':(m:Int)<(n:Int):=by omega
  have HE:=hid (qz (g:=g) (show m<l.length by rw[← HL.o];exact hlong));generalize ji l m g=res at *;clear hlong;go_enter Tryz.func91,Tryz.ntmps91;go_wp2;go_ret;exact ⟨by rw[HE.o];rfl,zc.refl _ _⟩
 ·have hl':¬ (m:Int)<(n:Int):=by omega
  have hn1:(n:Int)≤100:=by omega
  have HM:Box (l.length≤m):=hid (by rw[← HL.o];omega);clear hlong;go_enter Tryz.func91,Tryz.ntmps91;go_wp2_with fail
  go_loopw [14] (fun kv wr=>∃ k:Nat,k≤n∧kv=int i64 (k:Int)∧Box (zc [] w wr∧∀ j y,j<k→l[j]? = some y→g y=true)) (fun kv _=>n - (intOf kv).toNat)
  case atStart=>exact ⟨0,by omega,rfl,hid ⟨zc.refl _ _,fun j y hj=>by omega⟩⟩
  case round=>
   obtain ⟨k,hk,rfl,HB⟩:=hrel;have HK:=hid HB.o.1;by_cases hlt:k<n
   ·have hlt':(k:Int)<(n:Int):=by omega
    obtain ⟨y,hy⟩:∃ y,l[k]? = some y:=⟨_,List.getElem?_eq_getElem (by rw[← HL.o];exact hlt)⟩;obtain ⟨b,off,rfl,hc⟩:=HR.o.at hy
    skip
    obtain ⟨ar,acp,h5,q5⟩:=SlC.val hc.c2;have d0:=za HK.o hc.c0.1;have d1:=za HK.o hc.c1.1;have d2:=za HK.o h5;have HC:=hid (HP.o wr (agg #[int i64 y.1,int i64 y.2.1,.slice ar y.2.2.length acp]) y HK.o (⟨ar,acp,rfl,hc.c0.2,hc.c1.2,q5⟩));have HY:=hid hy;clear hc hy h5 q5;cases hgy:g y with
    | true=>
     rw[hgy] at HC;have HG:=hid hgy;clear hgy;go_wp2_with fail;refine HC.o.mono ?_;rintro e w3 ⟨rfl,k3⟩;have K3:=hid (HK.o.quiet k3);clear k3;go_wp2_with fail;go_roundw
     case rel=>exact ⟨k+1,by omega,by go_num,hid ⟨K3.o,fun j z hj hz=>by
      by_cases e:j<k
      ·exact HB.o.2 j z e hz
      ·obtain rfl:j=k:=by omega
       rw[HY.o] at hz;cases hz
       exact HG.o⟩⟩
     case measure=>simp[intOf];omega
    | false=>
     rw[hgy] at HC;have HE:=hid (qM (m:=m) HY.o hgy);clear hgy;go_wp2_with fail;refine HC.o.mono ?_;rintro e w3 ⟨rfl,k3⟩;have K3:=hid (HK.o.quiet k3);clear k3;go_wp2_with fail;go_ret;exact ⟨by rw[HE.o];rfl,K3.o⟩
   ·obtain rfl:k=n:=by omega
    have HE:=hid (qB (g:=g) HM.o (fun j y hy=>HB.o.2 j y (by rw[HL.o];exact (List.getElem?_eq_some_iff.1 hy).1) hy));go_wp2_with fail;go_ret;exact ⟨by rw[HE.o];rfl,HK.o⟩
theorem zg7{α:Type}{l:List α}{k:Nat}{y:α}(h:l[k]? = some y):l.take (k+1)=l.take k ++ [y]:=by
 rw[List.take_add_one,h];rfl
theorem zig(h:PrC w pb po P)(hs:zfX P):Calls Tryz.prog 95 #[pointer (some ⟨pb,po,none⟩)] w fun e w'=>e=.returned (int i64 (Zf P (pts P):Int))∧zc [] w w':=by
 have HP:=hid h;have HC:=hid (zay h hs);have HS:=hid hs.pts;clear h hs;go_enter Tryz.func95,Tryz.ntmps95;go_wp2_with fail;refine HC.o.mono ?_;rintro e w1 ⟨a,cp,rfl,hr,k1⟩;have HR:=hid hr;have HK1:=hid k1;clear hr k1 HC;obtain ⟨N,hN⟩:∃ N,N=(pts P).length:=⟨_,rfl⟩;rw[← hN];have HN:=hid hN;have hN9:(N:Int)≤4500:=by have:=HS.o;omega
 clear hN;go_wp2_with fail
 go_loopw [3,10] (fun nv kv wr=>∃ k:Nat,k≤N∧kv=int i64 (k:Int)∧nv=int i64 (Zf P ((pts P).take k):Int)∧Box (zc [] w1 wr)) (fun _ kv _=>N - (intOf kv).toNat)
 case atStart=>exact ⟨0,by omega,rfl,rfl,hid (zc.refl _ _)⟩
 case round=>
  obtain ⟨k,hk,rfl,rfl,HK⟩:=hrel;by_cases hlt:k<N
  ·have hlt':(k:Int)<(N:Int):=by omega
   obtain ⟨f,b,i,hpt,hq⟩:=zeV (p:=P) (n:=k) (by rw[← HN.o];exact hlt);obtain ⟨lb,lo,rfl,hc⟩:=HR.o.at hq;have d0:=za HK.o hc.c0;have d1:=za HK.o hc.c1;have d2:=za HK.o hc.c2;have HQ:=hid (zaW P ((pts P).take k) (f,b,i));rw[← zg7 hq] at HQ;have hle:=zb0 P ((pts P).take k);rw[List.length_take] at hle;have hle9:Zf P ((pts P).take k)≤4500:=by omega
   have HPT:=hid hpt;clear hc hq hpt hle;generalize Zf P ((pts P).take k)=S at *;generalize hS2:Zf P ((pts P).take (k+1))=S2 at *;have HS2:=hid hS2;clear hS2;go_upto_region 5 with fail;have h3:=zf wr (.cells #[int i64 (f:Int),int i64 (b:Int),int i64 (i:Int)] 55);have k3:=zc.alloc [] wr (.cells #[int i64 (f:Int),int i64 (b:Int),int i64 (i:Int)] 55);have HK3:=hid (HK.o.quiet k3);generalize wr.alloc (.cells #[int i64 (f:Int),int i64 (b:Int),int i64 (i:Int)] 55)=w3 at *;generalize wr.heap.size=q at *;have e0:=zd h3 0;have e1:=zd h3 1;have e2:=zd h3 2;have pr:=PrC.stays _ _ _ _ _ (HK1.o.quiet HK3.o) HP.o;obtain ⟨fa,fcp,H⟩:=pr.fns;have g4:=H.cell;obtain ⟨fb,fo,ba,bcp,rfl,B⟩:=H.at HPT.o.1;have g2:=B.cell;obtain ⟨bb,bo,rfl,L⟩:=B.at HPT.o.2.1;obtain ⟨ca,ccp,g0,hrows,hccp,_⟩:=L.c0;have hff:f<P.funcs.length:=HPT.o.1;have hbb:b<(zg P f).blocks.length:=HPT.o.2.1;have hii:i≤(zr (zg P f) b).code.length:=HPT.o.2.2;have HRW:=hid hrows;have hsite:za3 P (f,b,i)=(decide (i<(zr (zg P f) b).code.length) && decide ((qQ (zr (zg P f) b) i).op=5)):=rfl;rw[hsite] at HQ;have hff':(f:Int)<(P.funcs.length:Int):=by omega
   have hbb':(b:Int)<((zg P f).blocks.length:Int):=by omega
   clear pr H B L hrows h3 k3 hsite d0 d1 d2;have HCL:Box (∃ c,c=(zr (zg P f) b).code.length):=hid ⟨_,rfl⟩;obtain ⟨c,hcc⟩:=HCL.o;have HCC:=hid hcc;rw[← hcc] at g0 HQ hii;clear hcc HCL;generalize P.funcs.length=FN at *;generalize (zg P f).blocks.length=BN at *
   go_region
   by_cases hic:i<c
   ·have hic':(i:Int)<(c:Int):=by omega
    obtain ⟨cb,co,rfl,LI⟩:=HRW.o.at (show (zr (zg P f) b).code[i]? = some (qQ (zr (zg P f) b) i) from zh (by rw[← HCC.o];exact hic));have l0:=LI.c0.1;clear LI;generalize (qQ (zr (zg P f) b) i).op=op at *;by_cases hop:op=5
    ·have hop':=eqb hop
     have HE:Box (S2=S+1):=hid (by rw[HQ.o];simp[hic,hop]);clear HQ hop;go_wp2_with fail;go_roundw
     case rel=>exact ⟨k+1,by omega,by go_num,by rw[HS2.o,HE.o];go_num,hid (HK3.o.quiet (zc.drew _ _))⟩
     case measure=>simp[intOf];omega
    ·have hop':=neb hop
     have HE:Box (S2=S):=hid (by rw[HQ.o];simp[hop]);clear HQ hop;go_wp2_with fail;go_roundw
     case rel=>exact ⟨k+1,by omega,by go_num,by rw[HS2.o,HE.o],hid (HK3.o.quiet (zc.drew _ _))⟩
     case measure=>simp[intOf];omega
   ·have hic':¬ (i:Int)<(c:Int):=by omega
    have HE:Box (S2=S):=hid (by rw[HQ.o];simp[hic]);clear HQ;go_wp2_with fail;go_roundw
    case rel=>exact ⟨k+1,by omega,by go_num,by rw[HS2.o,HE.o],hid (HK3.o.quiet (zc.drew _ _))⟩
    case measure=>simp[intOf];omega
  ·obtain rfl:k=N:=by omega
   have HE:Box (Zf P ((pts P).take k)=Zf P (pts P)):=hid (by rw[HN.o,List.take_length]);go_wp2_with fail;go_ret;exact ⟨by rw[HE.o];rfl,HK1.o.quiet HK.o⟩
theorem zfN{y:In8}(h:InV w v y):Calls Tryz.prog 168 #[v] w' fun e w2=>e=.returned (.bool (zfD y))∧zc [] w' w2:=by
 obtain ⟨a,cp,rfl,_⟩:=h;have hd:(decide ((y.args.length:Int)≤4))=zfD y:=by
  show _=decide _
  congr 1
  exact propext ⟨fun h=>by omega,fun h=>by omega⟩
 have HD:=hid hd;clear hd;generalize zfD y=res at *;generalize y.args.length=n at *;go_enter Tryz.func168,Tryz.ntmps168;go_wp2;go_ret;exact ⟨by first | (rw[← HD.o];rfl) | (rw[← HD.o];simp),by first | exact zc.refl _ _ | exact zc.alloc _ _ _⟩
theorem zjR{y:List (Int × Int)}(h:zb9 w v y):Calls Tryz.prog 86 #[v] w' fun e w2=>e=.returned (.bool (zed y))∧zc [] w' w2:=by
 obtain ⟨a,cp,rfl,_⟩:=h;have hd:(decide ((y.length:Int)≤4))=zed y:=by
  show _=decide _
  congr 1
  exact propext ⟨fun h=>by omega,fun h=>by omega⟩
 have HD:=hid hd;clear hd;generalize zed y=res at *;generalize y.length=n at *;go_enter Tryz.func86,Tryz.ntmps86;go_wp2;go_ret;exact ⟨by first | (rw[← HD.o];rfl) | (rw[← HD.o];simp),by first | exact zc.refl _ _ | exact zc.alloc _ _ _⟩
theorem zkt{y:(List (Int × Int) × Int × Int)}(h:SgV w v y):Calls Tryz.prog 88 #[v] w' fun e w2=>e=.returned (.bool (zdO y))∧zc [] w' w2:=by
 obtain ⟨a,cp,rfl,_⟩:=h;have hd:(decide ((y.1.length:Int)≤4))=zdO y:=by
  show _=decide _
  congr 1
  exact propext ⟨fun h=>by omega,fun h=>by omega⟩
 have HD:=hid hd;clear hd;generalize zdO y=res at *;generalize y.1.length=n at *;go_enter Tryz.func88,Tryz.ntmps88;go_wp2;go_ret;exact ⟨by first | (rw[← HD.o];rfl) | (rw[← HD.o];simp),by first | exact zc.refl _ _ | exact zc.alloc _ _ _⟩
theorem zfR{y:List Int}(h:IfV w v y):Calls Tryz.prog 90 #[v] w' fun e w2=>e=.returned (.bool (ifB y))∧zc [] w' w2:=by
 obtain ⟨a,cp,rfl,_⟩:=h;have hd:(decide ((y.length:Int)≤3))=ifB y:=by
  show _=decide _
  congr 1
  exact propext ⟨fun h=>by omega,fun h=>by omega⟩
 have HD:=hid hd;clear hd;generalize ifB y=res at *;generalize y.length=n at *;go_enter Tryz.func90,Tryz.ntmps90;go_wp2;go_ret;exact ⟨by first | (rw[← HD.o];rfl) | (rw[← HD.o];simp),by first | exact zc.refl _ _ | exact zc.alloc _ _ _⟩
theorem zhy{y:(Int × Int × List Int)}(h:ImV w v y):Calls Tryz.prog 92 #[v] w' fun e w2=>e=.returned (.bool (imB y))∧zc [] w' w2:=by
 obtain ⟨a,cp,rfl,_⟩:=h;have hd:(decide ((y.2.2.length:Int)≤3))=imB y:=by
  show _=decide _
  congr 1
  exact propext ⟨fun h=>by omega,fun h=>by omega⟩
 have HD:=hid hd;clear hd;generalize imB y=res at *;generalize y.2.2.length=n at *;go_enter Tryz.func92,Tryz.ntmps92;go_wp2;go_ret;exact ⟨by first | (rw[← HD.o];rfl) | (rw[← HD.o];simp),by first | exact zc.refl _ _ | exact zc.alloc _ _ _⟩
theorem SlV.keeps{α:Type}{c:Nat}{R:World→Nat→Nat→α→Prop}{l:List α}(hR:zan R)(h:SlV c R w v l)(k:zc [] w w'):SlV c R w' v l:=by
 obtain ⟨a,cp,h1,h2,h3⟩:=h;exact ⟨a,cp,h1,h2.quiet hR k,h3⟩
theorem zgn{y:Bl8}(hk:zc [] w w')(h:BlV w v y):Calls Tryz.prog 145 #[v] w' fun e w2=>e=.returned (.bool (zdj y))∧zc [] w' w2:=by
 obtain ⟨a,cp,rfl,hc,h1,h2,h3,h4⟩:=h;have ka:=zc.alloc [] w' (.cells #[.slice a y.code.length cp,int i64 y.fin,int i64 y.reg,int i64 y.to,int i64 y.els] 42);have HC:=hid (zfL (hc.keeps InC.stays (hk.quiet ka)) 30 zfD (by omega) fun w3 v z _ hv=>zfN hv);have HK:=hid ka;clear hc ka hk;go_enter Tryz.func145,Tryz.ntmps145;go_wp2_with fail;refine HC.o.mono ?_;rintro e w3 ⟨rfl,k3⟩;have K3:=hid (HK.o.quiet k3);clear k3;have HB:Box (ji y.code 30 zfD=zdj y):=hid rfl;rw[HB.o];go_wp2_with fail;go_ret;exact ⟨rfl,K3.o⟩
theorem zjl{y:Fu8}(hk:zc [] w w')(h:FuV w v y):Calls Tryz.prog 94 #[v] w' fun e w2=>e=.returned (.bool (fnB y))∧zc [] w' w2:=by
 obtain ⟨a,cp,a',cp',rfl,h1,h2,h3⟩:=h;have ka:=zc.alloc [] w' (.cells #[int i64 y.sig,.slice a y.regs.length cp,.slice a' y.blocks.length cp'] 45);have HC:=hid (zgG (h3.keeps BlC.stays (hk.quiet ka)) 12 zdj (by omega) fun w3 v z k hv=>zgn k hv);have HK:=hid ka;have HE:Box (fnB y=(decide (y.regs.length≤16) && (decide (0<y.blocks.length) && ji y.blocks 12 zdj))):=hid rfl;clear h2 h3 ka hk h1;generalize fnB y=res at *;generalize ji y.blocks 12 zdj=r2 at *;generalize y.regs.length=n at *;generalize y.blocks.length=m at *;by_cases g1:n≤16
 ·have g1':(n:Int)≤16:=by omega
  by_cases g2:0<m
  ·have g2':(0:Int)<(m:Int):=by omega
   have HR:Box (res=r2):=hid (by rw[HE.o];simp[g1,g2]);clear HE;go_enter Tryz.func94,Tryz.ntmps94;go_wp2_with fail;refine HC.o.mono ?_;rintro e w3 ⟨rfl,k3⟩;have K3:=hid (HK.o.quiet k3);clear k3;go_wp2_with fail;go_ret;exact ⟨by rw[HR.o];rfl,K3.o⟩
  ·have g2':¬ (0:Int)<(m:Int):=by omega
   have HR:Box (res=false):=hid (by rw[HE.o];simp[g2]);clear HE;go_enter Tryz.func94,Tryz.ntmps94;go_wp2_with fail;go_ret;exact ⟨by rw[HR.o];rfl,HK.o⟩
 ·have g1':¬ (n:Int)≤16:=by omega
  have HR:Box (res=false):=hid (by rw[HE.o];simp[g1]);clear HE;go_enter Tryz.func94,Tryz.ntmps94;go_wp2_with fail;go_ret;exact ⟨by rw[HR.o];rfl,HK.o⟩
theorem Jr(h:ji P.funcs 12 fnB=true):zfX P:=by
 have hf:∀ f,f<P.funcs.length→fnB (zg P f)=true:=fun f hf=>qS h (zh hf);have hb:∀ f,f<P.funcs.length→ji (zg P f).blocks 12 zdj=true:=fun f h1=>by
  have:=hf f h1;unfold fnB at this;simp only[Bool.and_eq_true] at this;exact this.2.2
 refine ⟨zaJ h,fun f h1=>zaJ (hb f h1),fun {f b} h1 h2=> ?_⟩;have h3:=qS (hb f h1) (show (zg P f).blocks[b]? = some (zr (zg P f) b) from zh h2);unfold zdj at h3;exact zaJ h3
theorem qh(w:World):Calls Tryz.prog 13 #[] w fun e w'=>e=.returned (agg #[int i64 (-1),int i64 0,int i64 0])∧zc [] w w':=by
 go_enter Tryz.func13,Tryz.ntmps13;go_wp2_with fail;exact bodyPost_ret (v:=agg #[int i64 (-1),int i64 0,int i64 0]) (by simp[results,Tryz.results13,go_sem]) rfl ⟨rfl,zc.alloc _ _ _⟩
theorem zf6{p:Nat}{y:Int}(hg:JX w)(h:zb5 w p y (-1) 0 0 v)(hy:y≠0):Calls Tryz.prog 12 #[Zj p,int i64 y,agg #[int i64 (-1),int i64 0,int i64 0]] w fun e w'=>e=.returned (.bool true)∧zc [] w w':=by
 have ka:=zc.alloc [] w (.cells #[int i64 (-1),int i64 0,int i64 0] 55);have hn:=zf w (.cells #[int i64 (-1),int i64 0,int i64 0] 55);have H1:=hid (zku (hg.quiet ka) (h.quiet ka) (by decide));have H2:=hid fun (w':World) (k:zc [] w w')=>Jz (hg.quiet k) (h.quiet k);have KA:=hid ka;have HN:=hid hn;have o0:=neb hy;have hd:decide ((0:Int)≤ -1)=false:=by decide
 have on:(y != y)=false:=by simp
 clear hg h ka hn hy;go_enter Tryz.func12,Tryz.ntmps12;go_wp2_with fail;generalize w.alloc (.cells #[int i64 (-1),int i64 0,int i64 0] 55)=WA at *;generalize w.heap.size=q at *;refine H1.o.mono ?_;rintro e w1 ⟨rfl,k1⟩;have K1:=hid ((KA.o.quiet k1).quiet (zc.alloc [] w1 (.cells #[int i64 0,int i64 0,int i64 0] 55)));have HN1:=hid (ze HN.o (k1.quiet (zc.alloc [] w1 (.cells #[int i64 0,int i64 0,int i64 0] 55))));clear k1;go_upto_region 6 with fail;generalize w1.alloc (.cells #[int i64 0,int i64 0,int i64 0] 55)=w2 at *;go_wp2_with fail;refine (H2.o _ K1.o).mono ?_;rintro e w3 ⟨rfl,k3⟩;have K3:=hid (K1.o.quiet k3);have h3:=ze HN1.o k3;have q0:=zd h3 0;clear k3 h3;go_wp2_with fail;go_ret;exact ⟨rfl,K3.o⟩
def zm4(w:World)(rb:Nat)(s:Option (List UInt8))(e:Ending)(w':World):Prop:=∃ n s',e=.returned (int i64 ((n:Nat):Int))∧n≤20000∧zbP s n s'∧qt w' rb s'∧zc [rb] w w'
theorem qN{rb:Nat}{s:Option (List UInt8)}(h:qt w rb s):Calls Tryz.prog 159 #[pointer (some ⟨rb,0,none⟩)] w (zm4 w rb s):=by
 have HN:=hid (zH h);clear h;go_enter Tryz.func159,Tryz.ntmps159;go_wp2_with fail;refine HN.o.mono ?_;rintro e w1 ⟨v,x,s1,rfl,⟨rfl,hx⟩,h1,h2,h3⟩;have HF:=hid (zch h2);have HS:=hid h1;have HK:=hid h3;have HR:=hid h2;cases s1 with
 | none=>
  have h':w1.heap[rb]? = _:=h2;have c0:=zd h' 0;clear h' h2 h1 h3 HN;by_cases hx0:x<0
  ·clear hx
   go_wp2_with fail;refine HF.o.mono ?_;rintro e w2 ⟨rfl,h4,h5⟩;go_wp2_with fail;go_ret;refine ⟨0,none,rfl,by omega,⟨fun _=>rfl,fun _=>rfl,(fun _ _ _ e=>by cases e),fun L e1 _ m R hm e=> ?_⟩,h4,HK.o.step h5⟩;exact absurd e (HS.o.2.2.2 L e1 rfl _ R hm)
  ·by_cases hx1:0<x
   ·clear hx
    go_wp2_with fail;refine HF.o.mono ?_;rintro e w2 ⟨rfl,h4,h5⟩;go_wp2_with fail;go_ret;refine ⟨0,none,rfl,by omega,⟨fun _=>rfl,fun _=>rfl,(fun _ _ _ e=>by cases e),fun L e1 _ m R hm e=> ?_⟩,h4,HK.o.step h5⟩;exact absurd e (HS.o.2.2.2 L e1 rfl _ R hm)
   ·have hx2:x=0:=by omega
    subst hx2;clear hx;go_wp2_with fail;go_ret;refine ⟨0,none,rfl,by omega,⟨fun _=>rfl,fun _=>rfl,(fun _ _ _ e=>by cases e),fun L e1 _ m R hm e=> ?_⟩,HR.o,HK.o⟩;exact absurd e (HS.o.2.2.2 L e1 rfl _ R hm)
 | some R=>
  obtain ⟨a,cp,h',_,_,hl,_⟩:=h2;have c0:=zd h' 0;obtain ⟨n,hn⟩:∃ n,n=R.length:=⟨_,rfl⟩;have HL:=hid hn;rw[← hn] at c0 hl;clear h' h1 h3 HN hn;by_cases hx0:x<0
  ·clear hx
   go_wp2_with fail;refine HF.o.mono ?_;rintro e w2 ⟨rfl,h4,h5⟩;go_wp2_with fail;go_ret;exact ⟨0,none,rfl,by omega,zbP.bad HS.o (.inl hx0),h4,HK.o.step h5⟩
  ·by_cases hx1:(n:Int)<x
   ·clear hx
    go_wp2_with fail;refine HF.o.mono ?_;rintro e w2 ⟨rfl,h4,h5⟩;go_wp2_with fail;go_ret;exact ⟨0,none,rfl,by omega,zbP.bad HS.o (.inr (by rw[← HL.o];exact hx1)),h4,HK.o.step h5⟩
   ·clear hx
    go_wp2_with fail;go_ret;refine ⟨x.toNat,some R,by rw[Int.toNat_of_nonneg (by omega)];rfl,by omega,zbP.of HS.o (fun R' e=> ?_) (fun e=>by cases e),HR.o,HK.o⟩;cases e;rw[← HL.o];omega
def zp(x:Fu8)(r:Int):Int × Int:=if inB r x.regs.length then x.regs.getD r.toNat (0,0) else (-1,0)
theorem ZN{r:Int}(h:inB r x.regs.length=true):zp x r=x.regs.getD r.toNat (0,0):=by unfold zp;rw[h];rfl
theorem zjJ{r:Int}(h:inB r x.regs.length=false):zp x r=(-1,0):=by unfold zp;rw[h];rfl
theorem zp2{b:Nat}{x y:Value}{T:TypeId}(h:w.heap[b]? = some (.cells #[x,y] T (0,0)))(u0 u1:Value):
  ((w.setCell ⟨b,0,none⟩ u0).setCell ⟨b,1,none⟩ u1).heap[b]? = some (.cells #[u0,u1] T (0,0)):=
 heap_setCell_same _ b 1 _ _ u1 (heap_setCell_same w b 0 _ _ u0 h)
theorem zdM(w:World)(b:Nat)(u0 u1:Value):zc [b] w ((w.setCell ⟨b,0,none⟩ u0).setCell ⟨b,1,none⟩ u1):=
 (zc.setCell [b] _ _ _ (List.mem_singleton.2 rfl)).step (zc.setCell [b] _ _ _ (List.mem_singleton.2 rfl))
theorem zA{fb fo:Nat}(h:FuC w fb fo x)(r:Int):Calls Tryz.prog 151 #[pointer (some ⟨fb,fo,none⟩),int i64 r] w fun e w'=>e=.returned (tyV (zp x r))∧zc [] w w':=by
 obtain ⟨a,cp,c1,hr,_⟩:=h.c1;have ka:=zc.alloc [] w (.cells #[int i64 0,int i64 0] 34);replace c1:=za ka c1;have hn:=zf w (.cells #[int i64 0,int i64 0] 34);have HW:=hid fun (w:World)=>zC r x.regs.length w;have KA:=hid ka;have HR:=hid hr;have HN:=hid hn;have z0:=zi hn 0;have z1:=zi hn 1;have q0:=zd hn 0;have q1:=zd hn 1;cases hin:inB r x.regs.length with
 | true=>
  have HT:=hid (ZN hin);rw[hin] at HW;obtain ⟨h0,h1⟩:=zq.1 hin;obtain ⟨b,off,rfl,hc⟩:=HR.o.at (zh (l:=x.regs) (k:=r.toNat) (d:=(0,0)) (by omega));obtain ⟨k,rfl⟩:∃ k:Nat,r=(k:Int):=⟨r.toNat,by omega⟩;have ek:((k:Int)).toNat=k:=by omega
  rw[ek] at hc HT;have d0:=za ka hc.c0.1;have d1:=za ka hc.c1.1;generalize x.regs.getD k (0,0)=t at *;generalize zp x (k:Int)=T at *;generalize x.regs.length=n at *;clear h hr ka hn hc hin ek;go_enter Tryz.func151,Tryz.ntmps151;go_wp2_with fail;refine (HW.o _).mono ?_;rintro e w1 ⟨rfl,hw1⟩;rw[hw1];clear hw1;go_wp2_with fail;exact bodyPost_ret (v:=tyV t) (by simp[results,Tryz.results151,go_sem]) rfl ⟨by rw[HT.o],zc.alloc _ _ _⟩
 | false=>
  have HT:=hid (zjJ hin);rw[hin] at HW;generalize zp x r=T at *;generalize x.regs.length=n at *;clear h hr ka hn hin;go_enter Tryz.func151,Tryz.ntmps151;go_wp2_with fail;refine (HW.o _).mono ?_;rintro e w1 ⟨rfl,hw1⟩;rw[hw1];clear hw1;go_wp2_with fail;exact bodyPost_ret (v:=tyV (-1,0)) (by simp[results,Tryz.results151,go_sem]) rfl ⟨by rw[HT.o],zc.alloc _ _ _⟩
def qR(o:Option (List (Int × Int) × Int × Int))(w0 w:World)(e:Ending)(w':World):Prop:=
 zc [] w w'∧match o with
  | some s=>∃ v,e=.returned (.tuple #[v,.bool true])∧SgV w0 v s
  | none=>e=.returned (.tuple #[agg #[.slice none 0 0,int i64 0,int i64 0],.bool false])
def Jh(P:Pr8)(n:Int):Option (List (Int × Int) × Int × Int):=if inB n P.sigs.length then some (P.sigs.getD n.toNat ([],0,0)) else none
theorem QF{n:Int}(h:inB n P.sigs.length=true):Jh P n=some (P.sigs.getD n.toNat ([],0,0)):=by unfold Jh;rw[h];rfl
theorem zkY{n:Int}(h:inB n P.sigs.length=false):Jh P n=none:=by unfold Jh;rw[h];rfl
theorem zad{w0:World}(h:PrC w0 pb po P)(k0:zc [] w0 w)(r:Int):Calls Tryz.prog 101 #[pointer (some ⟨pb,po,none⟩),int i64 r] w (qR (Jh P r) w0 w):=by
 obtain ⟨a,cp,c1,hr,_⟩:=h.c1;have ka:=zc.alloc [] w (.cells #[.slice none 0 0,int i64 0,int i64 0] 36);replace c1:=za (k0.quiet ka) c1;have hn:=zf w (.cells #[.slice none 0 0,int i64 0,int i64 0] 36);have HW:=hid fun (w:World)=>zC r P.sigs.length w;have KA:=hid ka;have HR:=hid hr;have HN:=hid hn;have z0:=zi hn 0;have z1:=zi hn 1;have z2:=zi hn 2;have q0:=zd hn 0;have q1:=zd hn 1;have q2:=zd hn 2;cases hin:inB r P.sigs.length with
 | true=>
  rw[QF hin];rw[hin] at HW;obtain ⟨h0,h1⟩:=zq.1 hin;obtain ⟨b,off,rfl,hc⟩:=HR.o.at (zh (l:=P.sigs) (k:=r.toNat) (d:=([],0,0)) (by omega));obtain ⟨k,rfl⟩:∃ k:Nat,r=(k:Int):=⟨r.toNat,by omega⟩;have ek:((k:Int)).toNat=k:=by omega
  rw[ek] at hc ⊢;obtain ⟨ga,gp,g0,q5⟩:=hc.c0.val;have HV:Box (SgV w0 (agg #[.slice ga (P.sigs.getD k ([],0,0)).1.length gp,int i64 (P.sigs.getD k ([],0,0)).2.1,int i64 (P.sigs.getD k ([],0,0)).2.2]) (P.sigs.getD k ([],0,0))):=hid ⟨ga,gp,rfl,q5,hc.c1.2,hc.c2.2⟩;have d0:=za (k0.quiet ka) g0;have d1:=za (k0.quiet ka) hc.c1.1;have d2:=za (k0.quiet ka) hc.c2.1;generalize P.sigs.getD k ([],0,0)=t at *;generalize P.sigs.length=n at *;clear h hr ka k0 hn hc hin ek g0 q5;go_enter Tryz.func101,Tryz.ntmps101;go_wp2_with fail;refine (HW.o _).mono ?_;rintro e w1 ⟨rfl,hw1⟩;rw[hw1];clear hw1;go_wp2_with fail;exact bodyPost_ret (v:=.tuple #[agg #[.slice ga t.1.length gp,int i64 t.2.1,int i64 t.2.2],.bool true]) (by simp[results,Tryz.results101,go_sem]) rfl ⟨zc.alloc _ _ _,_,rfl,HV.o⟩
 | false=>
  rw[zkY hin];rw[hin] at HW;generalize P.sigs.length=n at *;clear h hr ka k0 hn hin;go_enter Tryz.func101,Tryz.ntmps101;go_wp2_with fail;refine (HW.o _).mono ?_;rintro e w1 ⟨rfl,hw1⟩;rw[hw1];clear hw1;go_wp2_with fail;exact bodyPost_ret (v:=.tuple #[agg #[.slice none 0 0,int i64 0,int i64 0],.bool false]) (by simp[results,Tryz.results101,go_sem]) rfl ⟨zc.alloc _ _ _,rfl⟩
end Go.Proofs.YtkgoimokgbdgfaaGreatDoor
