import Derived.Test.YtkgoimokgbdgfaaGreatDoorV14
import Derived.Test.YtkgoimokgbdgfaaGreatDoorV21

namespace Go.Proofs.YtkgoimokgbdgfaaGreatDoor
open Go.RowKit
open Go.Value (int pointer agg)
open Go.IntKind (i64)
set_option maxHeartbeats 4000000
set_option maxRecDepth 20000
variable {P:Pr8}{a:Option Addr}{cp fb fo pb po rb:Nat}{f:Fu8}{w:World}
def Zp(R:Nat)(x:In8):Bool:=(!zP x || inB x.dst R) && Qe (qd x) R
theorem ZZ(x:In8):(qd x).length≤x.args.length+2:=by
 unfold qd
 repeat' split
 all_goals (try simp)
 all_goals omega
theorem zbG(x:In8):(zP x=true∧J6 x=.tuple #[int i64 x.dst,.bool true])∨(zP x=false∧J6 x=.tuple #[int i64 0,.bool false]):=by
 cases h:zP x with
 | true=>exact .inl ⟨rfl,qI h⟩
 | false=>exact .inr ⟨rfl,QE h⟩
theorem zi3(h:FuC w fb fo f)(x:In8)(hz:zw w a x.args)(hl:x.args.length≤1000):Calls Tryz.prog 147 #[pointer (some ⟨fb,fo,none⟩),zD x (.slice a x.args.length cp)] w fun e w'=>e=.returned (.bool (Zp f.regs.length x))∧zc [] w w':=by
 obtain ⟨ra,rp,c1,_⟩:=h.c1;have ka:=zc.alloc [] w (.cells #[int i64 x.op,int i64 x.dst,int i64 x.a,int i64 x.b,int i64 x.n,.slice a x.args.length cp] 39);have hn:=zf w (.cells #[int i64 x.op,int i64 x.dst,int i64 x.a,int i64 x.b,int i64 x.n,.slice a x.args.length cp] 39);have HD:=hid fun (w':World)=>zcs x (.slice a x.args.length cp) w';have C1:Box (∀ w',zc [] w w'→w'.cell? ⟨fb,fo+1,none⟩=some (.slice ra f.regs.length rp)):=hid fun w' k=>za k c1;have HU:=hid fun (w':World) (k:zc [] w w')=>zcH x a cp w' (hz.kept k (fun _ _ _=>by simp)) (by omega);have hul:=ZZ x;have HA:=hid fun (w':World) (a1:Option Addr) (p1:Nat) (h1:zw w' a1 (qd x))=>JS (cp:=p1) h1 (by unfold maxLen;omega) f.regs.length;have HWI:=hid fun (w':World)=>zC x.dst f.regs.length w';have IN:Box (∀ w',zc [] (w.alloc (.cells #[int i64 x.op,int i64 x.dst,int i64 x.a,int i64 x.b,int i64 x.n,.slice a x.args.length cp] 39)) w'→InW w' w.heap.size x (.slice a x.args.length cp)):=hid fun w' k=>by
  have:=ze hn k;exact ⟨zd this 0,zd this 1,zd this 2,zd this 3,zd this 4,zd this 5⟩
 have KA:=hid ka;have HE:Box (Zp f.regs.length x=((!zP x || inB x.dst f.regs.length) && Qe (qd x) f.regs.length)):=hid rfl;have i0:=IN.o _ (zc.refl _ _);obtain ⟨d0,d1,d2,d3,d4,d5⟩:=i0;clear h c1 ka hn hz hl hul;unfold zD at *;generalize Zp f.regs.length x=res at *;generalize Qe (qd x) f.regs.length=r2 at *;generalize hN:f.regs.length=N at *;generalize hul:qd x=ul at *;clear hN hul;generalize hWA:w.alloc (.cells #[int i64 x.op,int i64 x.dst,int i64 x.a,int i64 x.b,int i64 x.n,.slice a x.args.length cp] 39)=WA at *;have HWA:=hid hWA;clear hWA;rcases zbG x with ⟨hd,hv⟩ | ⟨hd,hv⟩
 ·rw[hv] at HD
  cases hin:inB x.dst N with
  | false=>
   rw[hin] at HWI;have HR:Box (res=false):=hid (by rw[HE.o,hd,hin];rfl);clear HE hd hv hin;go_enter Tryz.func147,Tryz.ntmps147;go_upto_region 1 with fail;rw[HWA.o];clear HWA;generalize w.heap.size=q at *;go_wp2_with fail;refine (HD.o _).mono ?_;rintro e w1 ⟨rfl,k1⟩;have K1:=hid (KA.o.quiet k1);have c1:=C1.o _ K1.o;go_wp2_with fail;refine (HWI.o _).mono ?_;rintro e w2 ⟨rfl,hw2⟩;rw[hw2];clear hw2;go_wp2_with fail;go_ret;exact ⟨by rw[HR.o];rfl,K1.o⟩
  | true=>
   rw[hin] at HWI;have HR:Box (res=r2):=hid (by rw[HE.o,hd,hin];rfl);clear HE hd hv hin;go_enter Tryz.func147,Tryz.ntmps147;go_upto_region 1 with fail;rw[HWA.o];clear HWA;generalize w.heap.size=q at *;go_wp2_with fail;refine (HD.o _).mono ?_;rintro e w1 ⟨rfl,k1⟩;have K1:=hid (KA.o.quiet k1);have c1:=C1.o _ K1.o;go_wp2_with fail;refine (HWI.o _).mono ?_;rintro e w2 ⟨rfl,hw2⟩;rw[hw2];clear hw2;obtain ⟨b0,b1,b2,b3,b4,b5⟩:=IN.o _ k1;have KW:=hid k1;clear d0 d1 d2 d3 d4 d5 k1;go_upto_region 4 with fail
   go_region_held3 (fun w'=>w'.cell? ⟨fb,fo+1,none⟩=some (.slice ra N rp)∧w'.cell? ⟨q,0,none⟩=some (int i64 x.op)∧w'.cell? ⟨q,1,none⟩=some (int i64 x.dst)∧w'.cell? ⟨q,2,none⟩=some (int i64 x.a)∧w'.cell? ⟨q,3,none⟩=some (int i64 x.b)∧w'.cell? ⟨q,4,none⟩=some (int i64 x.n)∧w'.cell? ⟨q,5,none⟩=some (.slice a x.args.length cp)) (go_keep) (first
    | (go_at_call 119;refine (HU.o _ (K1.o.quiet (zc.drew [] _))).mono ?_;rintro e w5 ⟨a1,p1,rfl,h1,k5⟩;have K5:=(K1.o.quiet (zc.drew [] _)).quiet k5;have H1:=hid h1;have c5:=C1.o _ K5;have KW5:=(KW.o.quiet (zc.drew [] _)).quiet k5;obtain ⟨f50,f51,f52,f53,f54,f55⟩:=IN.o _ KW5;clear h1 k5)
    | (go_at_call 98;refine (HA.o _ _ _ H1.o).mono ?_;rintro e w6 ⟨rfl,hw6⟩;have K6:zc [] w w6:=(by rw[hw6];exact K5);have c6:=C1.o _ K6;have KW6:zc [] WA w6:=(by rw[hw6];exact KW5);obtain ⟨f60,f61,f62,f63,f64,f65⟩:=IN.o _ KW6;clear hw6))
   go_wp2_with fail;go_ret;exact ⟨by rw[HR.o];rfl,K6⟩
 ·rw[hv] at HD
  have HR:Box (res=r2):=hid (by rw[HE.o,hd];rfl);clear HE hd hv HWI;go_enter Tryz.func147,Tryz.ntmps147;go_upto_region 1 with fail;rw[HWA.o];clear HWA;generalize w.heap.size=q at *;go_wp2_with fail;refine (HD.o _).mono ?_;rintro e w1 ⟨rfl,k1⟩;have K1:=hid (KA.o.quiet k1);have c1:=C1.o _ K1.o;obtain ⟨b0,b1,b2,b3,b4,b5⟩:=IN.o _ k1;have KW:=hid k1;clear d0 d1 d2 d3 d4 d5 k1;go_upto_region 4 with fail
  go_region_held3 (fun w'=>w'.cell? ⟨fb,fo+1,none⟩=some (.slice ra N rp)∧w'.cell? ⟨q,0,none⟩=some (int i64 x.op)∧w'.cell? ⟨q,1,none⟩=some (int i64 x.dst)∧w'.cell? ⟨q,2,none⟩=some (int i64 x.a)∧w'.cell? ⟨q,3,none⟩=some (int i64 x.b)∧w'.cell? ⟨q,4,none⟩=some (int i64 x.n)∧w'.cell? ⟨q,5,none⟩=some (.slice a x.args.length cp)) (go_keep) (first
   | (go_at_call 119;refine (HU.o _ (K1.o.quiet (zc.drew [] _))).mono ?_;rintro e w5 ⟨a1,p1,rfl,h1,k5⟩;have K5:=(K1.o.quiet (zc.drew [] _)).quiet k5;have H1:=hid h1;have c5:=C1.o _ K5;have KW5:=(KW.o.quiet (zc.drew [] _)).quiet k5;obtain ⟨f50,f51,f52,f53,f54,f55⟩:=IN.o _ KW5;clear h1 k5)
   | (go_at_call 98;refine (HA.o _ _ _ H1.o).mono ?_;rintro e w6 ⟨rfl,hw6⟩;have K6:zc [] w w6:=(by rw[hw6];exact K5);have c6:=C1.o _ K6;have KW6:zc [] WA w6:=(by rw[hw6];exact KW5);obtain ⟨f60,f61,f62,f63,f64,f65⟩:=IN.o _ KW6;clear hw6))
  go_wp2_with fail;go_ret;exact ⟨by rw[HR.o];rfl,K6⟩
def rtB(P:Pr8)(f:Fu8)(x:In8):Bool:=(!zP x || tyB P (zp f x.dst)) && (qd x).all fun r=>tyB P (zp f r)
theorem zgg(h:PrC w pb po P)(hf:FuC w fb fo f)(x:In8)(hz:zw w a x.args)(hl:x.args.length≤1000):Calls Tryz.prog 149 #[pointer (some ⟨pb,po,none⟩),pointer (some ⟨fb,fo,none⟩),zD x (.slice a x.args.length cp)] w fun e w'=>e=.returned (.bool (rtB P f x))∧zc [] w w':=by
 have ka:=zc.alloc [] w (.cells #[int i64 x.op,int i64 x.dst,int i64 x.a,int i64 x.b,int i64 x.n,.slice a x.args.length cp] 39);have hn:=zf w (.cells #[int i64 x.op,int i64 x.dst,int i64 x.a,int i64 x.b,int i64 x.n,.slice a x.args.length cp] 39);have HD:=hid fun (w':World)=>zcs x (.slice a x.args.length cp) w';have HU:=hid fun (w':World) (k:zc [] w w')=>zcH x a cp w' (hz.kept k (fun _ _ _=>by simp)) (by omega);have hul:=ZZ x;have HRT:=hid fun (r:Int) (w':World) (k:zc [] w w')=>zA (FuC.stays _ _ _ _ _ k hf) r;have HTN:=hid fun (t:Int × Int) (w':World) (k:zc [] w w')=>zai (PrC.stays _ _ _ _ _ k h) t;have IN:Box (∀ w',zc [] (w.alloc (.cells #[int i64 x.op,int i64 x.dst,int i64 x.a,int i64 x.b,int i64 x.n,.slice a x.args.length cp] 39)) w'→InW w' w.heap.size x (.slice a x.args.length cp)):=hid fun w' k=>by
  have:=ze hn k;exact ⟨zd this 0,zd this 1,zd this 2,zd this 3,zd this 4,zd this 5⟩
 have KA:=hid ka;have HE:Box (rtB P f x=((!zP x || tyB P (zp f x.dst)) && (qd x).all fun r=>tyB P (zp f r))):=hid rfl;obtain ⟨d0,d1,d2,d3,d4,d5⟩:=IN.o _ (zc.refl _ _);obtain ⟨N,hN⟩:∃ N,N=(qd x).length:=⟨_,rfl⟩;have HN:=hid hN;have hN9:(N:Int)≤2000:=by omega
 rw[← hN] at HU;clear h hf ka hn hz hl hul hN;unfold zD at *;generalize rtB P f x=res at *;generalize hWA:w.alloc (.cells #[int i64 x.op,int i64 x.dst,int i64 x.a,int i64 x.b,int i64 x.n,.slice a x.args.length cp] 39)=WA at *;have HWA:=hid hWA;clear hWA;by_cases hdd:zP x=true∧tyB P (zp f x.dst)=false
 ·obtain ⟨hd,ht⟩:=hdd
  rw[qI hd] at HD;have HR:Box (res=false):=hid (by rw[HE.o,hd,ht];rfl);have HC:=hid fun (w':World) (k:zc [] w w')=>HTN.o (zp f x.dst) w' k;rw[ht] at HC;clear HE hd ht;go_enter Tryz.func149,Tryz.ntmps149;go_upto_region 1 with fail;rw[HWA.o];clear HWA;generalize w.heap.size=q at *;go_wp2_with fail;refine (HD.o _).mono ?_;rintro e w1 ⟨rfl,k1⟩;have K1:=hid (KA.o.quiet k1);go_wp2_with fail;refine (HRT.o _ _ K1.o).mono ?_;rintro e w2 ⟨rfl,k2⟩;have K2:=hid (K1.o.quiet k2);go_wp2_with fail;refine (HC.o _ K2.o).mono ?_;rintro e w3 ⟨rfl,k3⟩;have K3:=hid (K2.o.quiet k3);clear k1 k2 k3;go_wp2_with fail;go_ret;exact ⟨by rw[HR.o];rfl,K3.o⟩
 ·have HR:Box (res=(qd x).all fun r=>tyB P (zp f r)):=hid (by
   rw[HE.o];cases hd:zP x with
   | false=>simp
   | true=>
    cases ht:tyB P (zp f x.dst) with
    | true=>simp
    | false=>exact absurd ⟨hd,ht⟩ hdd)
  clear HE;go_enter Tryz.func149,Tryz.ntmps149;go_upto_region 1 with fail;rw[HWA.o];clear HWA;generalize w.heap.size=q at *;go_wp2_with fail;refine (HD.o _).mono ?_;rintro e w1 ⟨rfl,k1⟩;have K1:=hid (KA.o.quiet k1);have KW1:=hid k1;clear k1 d0 d1 d2 d3 d4 d5;rcases zbG x with ⟨hd,hv⟩ | ⟨hd,hv⟩
  ·rw[hv]
   have ht:tyB P (zp f x.dst)=true:=by
    cases ht:tyB P (zp f x.dst) with
    | true=>rfl
    | false=>exact absurd ⟨hd,ht⟩ hdd
   have HC:=hid fun (w':World) (k:zc [] w w')=>HTN.o (zp f x.dst) w' k;rw[ht] at HC;clear ht hd hv hdd;go_wp2_with fail;refine (HRT.o _ _ K1.o).mono ?_;rintro e w2 ⟨rfl,k2⟩;have K2:=hid (K1.o.quiet k2);go_wp2_with fail;refine (HC.o _ K2.o).mono ?_;rintro e w3 ⟨rfl,k3⟩;have K3:=hid (K2.o.quiet k3);obtain ⟨d0,d1,d2,d3,d4,d5⟩:=IN.o _ ((KW1.o.quiet k2).quiet k3);clear k2 k3;go_wp2_with fail;refine (HU.o _ K3.o).mono ?_;rintro e w4 ⟨ua,up,rfl,hu,k4⟩;have K4:=hid (K3.o.quiet k4);have HUU:=hid hu;clear hu k4 d0 d1 d2 d3 d4 d5;go_wp2_with fail
   go_loopw [28] (fun kv wr=>∃ k:Nat,k≤N∧kv=int i64 (k:Int)∧Box (zc [] w4 wr)∧Box (∀ j y,j<k→(qd x)[j]? = some y→tyB P (zp f y)=true)) (fun kv _=>N - (intOf kv).toNat)
   case atStart=>exact ⟨0,by omega,rfl,hid (zc.refl _ _),hid fun j y hj=>by omega⟩
   case round=>
    obtain ⟨k,hk,rfl,HK,HB⟩:=hrel;by_cases hlt:k<N
    ·have hlt':(k:Int)<(N:Int):=by omega
     have hkl:k<(qd x).length:=by rw[← HN.o];exact hlt
     obtain ⟨y,hy⟩:∃ y,(qd x)[k]? = some y:=⟨_,List.getElem?_eq_getElem hkl⟩;obtain ⟨b,off,rfl,hc⟩:∃ b off,ua=some ⟨b,off,none⟩∧w4.cell? ⟨b,off+k,none⟩=some (int i64 y):=by
      rcases HUU.o with e | ⟨b,off,e,h⟩
      ·rw[e] at hy;simp at hy
      ·refine ⟨b,off,e,?_⟩
       rw[h k hkl,List.getD_eq_getElem?_getD,hy];rfl
     replace hc:=za HK.o hc;have KK:=hid (K4.o.quiet HK.o);have HY:=hid hy;clear hy hkl;cases hg:tyB P (zp f y) with
     | true=>
      have HC:=hid fun (w':World) (k:zc [] w w')=>HTN.o (zp f y) w' k;rw[hg] at HC;have HG:=hid hg;clear hg;go_wp2_with fail;refine (HRT.o _ _ KK.o).mono ?_;rintro e w5 ⟨rfl,k5⟩;have K5:=hid (KK.o.quiet k5);go_wp2_with fail;refine (HC.o _ K5.o).mono ?_;rintro e w6 ⟨rfl,k6⟩;have K6:=hid ((HK.o.quiet k5).quiet k6);clear k5 k6;go_wp2_with fail;go_roundw
      case rel=>exact ⟨k+1,by omega,by go_num,K6,hid fun j z hj hz=>by
       by_cases e:j<k
       ·exact HB.o j z e hz
       ·obtain rfl:j=k:=by omega
        rw[HY.o] at hz;cases hz
        exact HG.o⟩
      case measure=>simp[intOf];omega
     | false=>
      have HC:=hid fun (w':World) (k:zc [] w w')=>HTN.o (zp f y) w' k;rw[hg] at HC;have HF:Box (res=false):=hid (by rw[HR.o];exact Zd HY.o hg);clear hg;go_wp2_with fail;refine (HRT.o _ _ KK.o).mono ?_;rintro e w5 ⟨rfl,k5⟩;have K5:=hid (KK.o.quiet k5);go_wp2_with fail;refine (HC.o _ K5.o).mono ?_;rintro e w6 ⟨rfl,k6⟩;have K6:=hid (K5.o.quiet k6);clear k5 k6;go_wp2_with fail;go_ret;exact ⟨by rw[HF.o];rfl,K6.o⟩
    ·obtain rfl:N=k:=by omega
     have HF:Box (res=true):=hid (by rw[HR.o];exact jx (fun j y hy=>HB.o j y (by rw[HN.o];exact (List.getElem?_eq_some_iff.1 hy).1) hy));go_wp2_with fail;go_ret;exact ⟨by rw[HF.o];rfl,K4.o.quiet HK.o⟩
  ·rw[hv]
   clear hd hv hdd;have K3:=K1;obtain ⟨d0,d1,d2,d3,d4,d5⟩:=IN.o _ KW1.o;go_wp2_with fail;refine (HU.o _ K3.o).mono ?_;rintro e w4 ⟨ua,up,rfl,hu,k4⟩;have K4:=hid (K3.o.quiet k4);have HUU:=hid hu;clear hu k4 d0 d1 d2 d3 d4 d5;go_wp2_with fail
   go_loopw [28] (fun kv wr=>∃ k:Nat,k≤N∧kv=int i64 (k:Int)∧Box (zc [] w4 wr)∧Box (∀ j y,j<k→(qd x)[j]? = some y→tyB P (zp f y)=true)) (fun kv _=>N - (intOf kv).toNat)
   case atStart=>exact ⟨0,by omega,rfl,hid (zc.refl _ _),hid fun j y hj=>by omega⟩
   case round=>
    obtain ⟨k,hk,rfl,HK,HB⟩:=hrel;by_cases hlt:k<N
    ·have hlt':(k:Int)<(N:Int):=by omega
     have hkl:k<(qd x).length:=by rw[← HN.o];exact hlt
     obtain ⟨y,hy⟩:∃ y,(qd x)[k]? = some y:=⟨_,List.getElem?_eq_getElem hkl⟩;obtain ⟨b,off,rfl,hc⟩:∃ b off,ua=some ⟨b,off,none⟩∧w4.cell? ⟨b,off+k,none⟩=some (int i64 y):=by
      rcases HUU.o with e | ⟨b,off,e,h⟩
      ·rw[e] at hy;simp at hy
      ·refine ⟨b,off,e,?_⟩
       rw[h k hkl,List.getD_eq_getElem?_getD,hy];rfl
     replace hc:=za HK.o hc;have KK:=hid (K4.o.quiet HK.o);have HY:=hid hy;clear hy hkl;cases hg:tyB P (zp f y) with
     | true=>
      have HC:=hid fun (w':World) (k:zc [] w w')=>HTN.o (zp f y) w' k;rw[hg] at HC;have HG:=hid hg;clear hg;go_wp2_with fail;refine (HRT.o _ _ KK.o).mono ?_;rintro e w5 ⟨rfl,k5⟩;have K5:=hid (KK.o.quiet k5);go_wp2_with fail;refine (HC.o _ K5.o).mono ?_;rintro e w6 ⟨rfl,k6⟩;have K6:=hid ((HK.o.quiet k5).quiet k6);clear k5 k6;go_wp2_with fail;go_roundw
      case rel=>exact ⟨k+1,by omega,by go_num,K6,hid fun j z hj hz=>by
       by_cases e:j<k
       ·exact HB.o j z e hz
       ·obtain rfl:j=k:=by omega
        rw[HY.o] at hz;cases hz
        exact HG.o⟩
      case measure=>simp[intOf];omega
     | false=>
      have HC:=hid fun (w':World) (k:zc [] w w')=>HTN.o (zp f y) w' k;rw[hg] at HC;have HF:Box (res=false):=hid (by rw[HR.o];exact Zd HY.o hg);clear hg;go_wp2_with fail;refine (HRT.o _ _ KK.o).mono ?_;rintro e w5 ⟨rfl,k5⟩;have K5:=hid (KK.o.quiet k5);go_wp2_with fail;refine (HC.o _ K5.o).mono ?_;rintro e w6 ⟨rfl,k6⟩;have K6:=hid (K5.o.quiet k6);clear k5 k6;go_wp2_with fail;go_ret;exact ⟨by rw[HF.o];rfl,K6.o⟩
    ·obtain rfl:N=k:=by omega
     have HF:Box (res=true):=hid (by rw[HR.o];exact jx (fun j y hy=>HB.o j y (by rw[HN.o];exact (List.getElem?_eq_some_iff.1 hy).1) hy));go_wp2_with fail;go_ret;exact ⟨by rw[HF.o];rfl,K4.o.quiet HK.o⟩
theorem ze8(n:Nat)(hn:n≤20000)(w:World):∃ cur:Array Value,cur.size=n * 3∧(Instr.makeSlice 30 (int i64 (n:Int)) (int i64 (n:Int))).run Tryz.prog w=.ok (.slice (some ⟨w.heap.size,0,none⟩) n n) (w.alloc (.cells cur 45)):=by
 obtain ⟨z,hz⟩:∃ z,Tryz.t45.zero=some z:=Option.isSome_iff_exists.1 (by kernel_rfl);have hb:Tryz.t45.bytes≤200:=of_decide_eq_true (by kernel_rfl);have hs:Tryz.t45.size=3:=by kernel_rfl
 have h1:((Tryz.t45.bytes:Nat):Int) * (n:Int)≤281474976710656:=by
  have:Tryz.t45.bytes * n≤200 * 20000:=Nat.mul_le_mul hb hn;have h2:((Tryz.t45.bytes * n:Nat):Int)≤4000000:=by omega
  rw[Int.natCast_mul] at h2;omega
 have hr:=run_make (P:=Tryz.prog) w 30 45 Tryz.t45 z Tryz.underlying30 (by kernel_rfl) hz .i64 .i64 (n:Int) (n:Int) (by omega) (Int.le_refl _) h1 (by omega);simp only[Int.toNat_natCast,hs] at hr;exact ⟨_,size_madeCells _ _,hr⟩
theorem zjZ{s:Option (List UInt8)}(h:qt w rb s):Calls Tryz.prog 141 #[pointer (some ⟨rb,0,none⟩),.func (.func 142) #[] #[]] w (j8 (SlV 3 FuC) zi1 zmX w rb s):=by
 have HL:=hid (qN h);have HP:=hid fun (w':World) (s':Option (List UInt8)) (h:qt w' rb s')=>ziP h;have hrb:=h.lt;clear h;go_enter Tryz.func141,Tryz.ntmps141;go_wp2_with fail;refine HL.o.mono ?_;rintro e w1 ⟨n,s1,rfl,hn,h1,h2,h3⟩;have HS:=hid h1;have HR:=hid h2;have HK:=hid h3;clear HL h1 h2 h3;by_cases hn0:n=0
 ·have HN:=hid hn0
  have e0:((n:Int) == 0)=true:=by rw[hn0];rfl
  clear hn0;go_wp2_with fail;go_ret;refine ⟨_,[],s1,rfl,⟨none,0,rfl,.inl rfl,by simp,by simp⟩,?_,HR.o,HK.o⟩;have:=HS.o;rw[HN.o] at this;exact zbP.empty Cd.fu.pos this
 ·have HS0:=hid (Q2.start (E:=fuE) (ok:=znw) HS.o hn0)
  have e0:((n:Int) == 0)=false:=by rw[beq_eq_false_iff_ne];omega
  have hn1:(n:Int)≤20000:=by omega
  have hn2:(0:Int)≤(n:Int):=by omega
  have HNb:Box (b64 (n:Int)∧n≤maxLen):=hid ⟨by unfold b64;omega,by unfold maxLen;omega⟩;obtain ⟨cur,hcur,hmk⟩:=ze8 n hn w1;have HM0:=hid (LM.new (V:=FuV) (zf w1 (.cells cur 45)) hcur);have HR0:=hid (HR.o.quiet (zc.alloc [] w1 (.cells cur 45)));have HK0:Box (zc [rb] w (w1.alloc (.cells cur 45))):=hid (HK.o.step (zc.alloc [rb] w1 _));have HG:Box (w.heap.size≤w1.heap.size):=hid HK.o.size;clear HS HR HK hcur hn0 hn;go_wp2_with fail;obtain ⟨w2,HW2⟩:∃ w2,Box (w2=w1.alloc (.cells cur 45)):=⟨_,hid rfl⟩;rw[← HW2.o] at HM0 HR0 HK0 ⊢;clear HW2 hmk;generalize w1.heap.size=g at *
  go_loopw [16] (fun kv wr=>∃ k:Nat,k≤n∧kv=int i64 (k:Int)∧Box (∃ l sk,Q2 fuE znw s n k l sk∧LM FuV wr g n 3 45 l∧qt wr rb sk∧zc [rb] w wr)) (fun kv _=>n - (intOf kv).toNat)
  case atStart=>exact ⟨0,by omega,rfl,hid ⟨[],s1,HS0.o,HM0.o,HR0.o,HK0.o⟩⟩
  case round=>
   obtain ⟨k,hk,rfl,HB⟩:=hrel;clear HS0 HM0 HR0 HK0;obtain ⟨l,sk,m1,m2,m3,m4⟩:=HB.o;have HMS:=hid m1;have HLM:=hid m2;have HRD:=hid m3;have HKK:=hid m4
   have hg9:Box (g<wr.heap.size):=hid (by
    obtain ⟨_,e,_⟩:=m2.ex
    exact z8 e)
   clear HB m1 m2 m3 m4;by_cases hlt:k<n
   ·have hlt':(k:Int)<(n:Int):=by omega
    go_wp2_with fail;refine (HP.o _ _ HRD.o).mono ?_;rintro e w3 ⟨v,y,s3,rfl,hv,hst,hr3,hk3⟩;have HM2:=hid (HLM.o.kept FuV.sub hk3 (by have:=HG.o;omega));have hv2:FuV (jB (g+1) w3) v y:=FuV.sub _ _ _ _ (Sub.down w3 (by have:=hg9.o;omega)) hv;have HV:=hid hv2;have HST:=hid hst;have HR3:=hid hr3;have HK3:=hid hk3;obtain ⟨⟨y0,t0⟩,z0⟩:=HM2.o.cell (k:=k) (i:=0) hlt (by decide);obtain ⟨⟨y1,t1⟩,z1⟩:=HM2.o.cell (k:=k) (i:=1) hlt (by decide);obtain ⟨⟨y2,t2⟩,z2⟩:=HM2.o.cell (k:=k) (i:=2) hlt (by decide);rw[Nat.add_zero] at t0 z0;obtain ⟨ya,ycp,yb,ycq,rfl,_⟩:=hv2;obtain ⟨w4,HW4⟩:∃ w4,Box (w4=Zc w3 g (k * 3) 0 [int i64 y.sig,.slice ya y.regs.length ycp,.slice yb y.blocks.length ycq]):=⟨_,hid rfl⟩;have hk4:zc [g] w3 w4:=by rw[HW4.o];exact zS _ _ _
    have hr4:=hr3.kept hk4 (fun x hx=>by rw[List.mem_singleton] at hx;have:=HG.o;omega);have HR4:=hid hr4;have HK4:Box (zc [rb] w w4):=hid ((HKK.o.step hk3).trans hk4 (fun x hx hlt=>by rw[List.mem_singleton] at hx;have:=HG.o;omega))
    have HM4:Box (LM FuV w4 g n 3 45 (l ++ [_])):=hid (by
     have:=HM2.o.put FuV.sub (by rw[HMS.o.1];exact hlt) HV.o rfl;rw[HMS.o.1] at this;rw[HW4.o]
     exact this)
    have HW5:Box (Zc w3 g (k * 3) 0 [int i64 y.sig,.slice ya y.regs.length ycp,.slice yb y.blocks.length ycq]=w4):=hid HW4.o.symm;simp only[Zc,Nat.add_zero,Nat.zero_add,Nat.reduceAdd] at HW5;clear hv hst hk3 hk4 hr3 HV HW4;cases s3 with
    | none=>
     have h9:w4.heap[rb]? = _:=hr4;have f1:=zd h9 1;clear hr4 h9;go_upto_region 9 with fail;rw[HW5.o];go_wp2_with fail;go_ret;exact ⟨_,[],none,rfl,⟨none,0,rfl,.inl rfl,by simp,by simp⟩,Q2.fail Cd.fu HMS.o hlt HST.o,HR4.o,HK4.o⟩
    | some R=>
     obtain ⟨ra,rcp,h9,_⟩:=hr4;have f1:=zd h9 1;clear h9;go_upto_region 9 with fail;rw[HW5.o];go_wp2_with fail;go_roundw
     case rel=>exact ⟨k+1,by omega,by go_num,hid ⟨_,_,HMS.o.next HST.o (by simp),HM4.o,HR4.o,HK4.o⟩⟩
     case measure=>simp[intOf];omega
   ·obtain rfl:k=n:=by omega
    go_wp2_with fail;go_ret;refine ⟨_,l,sk,rfl,⟨some ⟨g,0,none⟩,k,by rw[HMS.o.1];rfl,HLM.o.rows FuV.sub FuV.links HG.o,by rw[HMS.o.1];exact Nat.le_refl _,by rw[HMS.o.1];exact HNb.o.2⟩,HMS.o.done HNb.o.1,HRD.o,HKK.o⟩
theorem zdd(n:Nat)(hn:n≤20000)(w:World):∃ cur:Array Value,cur.size=n * 1∧(Instr.makeSlice 26 (int i64 (n:Int)) (int i64 (n:Int))).run Tryz.prog w=.ok (.slice (some ⟨w.heap.size,0,none⟩) n n) (w.alloc (.cells cur 25)):=by
 obtain ⟨z,hz⟩:∃ z,Tryz.t25.zero=some z:=Option.isSome_iff_exists.1 (by kernel_rfl);have hb:Tryz.t25.bytes≤200:=of_decide_eq_true (by kernel_rfl);have hs:Tryz.t25.size=1:=by kernel_rfl
 have h1:((Tryz.t25.bytes:Nat):Int) * (n:Int)≤281474976710656:=by
  have:Tryz.t25.bytes * n≤200 * 20000:=Nat.mul_le_mul hb hn;have h2:((Tryz.t25.bytes * n:Nat):Int)≤4000000:=by omega
  rw[Int.natCast_mul] at h2;omega
 have hr:=run_make (P:=Tryz.prog) w 26 25 Tryz.t25 z Tryz.underlying26 (by kernel_rfl) hz .i64 .i64 (n:Int) (n:Int) (by omega) (Int.le_refl _) h1 (by omega);simp only[Int.toNat_natCast,hs] at hr;exact ⟨_,size_madeCells _ _,hr⟩
theorem zih{s:Option (List UInt8)}(h:qt w rb s):Calls Tryz.prog 133 #[pointer (some ⟨rb,0,none⟩),.func (.func 134) #[] #[]] w (j8 (SlV 1 (SlC 2 TyC)) zbf zid w rb s):=by
 have HL:=hid (qN h);have HP:=hid fun (w':World) (s':Option (List UInt8)) (h:qt w' rb s')=>zal h;have hrb:=h.lt;clear h;go_enter Tryz.func133,Tryz.ntmps133;go_wp2_with fail;refine HL.o.mono ?_;rintro e w1 ⟨n,s1,rfl,hn,h1,h2,h3⟩;have HS:=hid h1;have HR:=hid h2;have HK:=hid h3;clear HL h1 h2 h3;by_cases hn0:n=0
 ·have HN:=hid hn0
  have e0:((n:Int) == 0)=true:=by rw[hn0];rfl
  clear hn0;go_wp2_with fail;go_ret;refine ⟨_,[],s1,rfl,⟨none,0,rfl,.inl rfl,by simp,by simp⟩,?_,HR.o,HK.o⟩;have:=HS.o;rw[HN.o] at this;exact zbP.empty Cd.tys.pos this
 ·have HS0:=hid (Q2.start (E:=ZE) (ok:=zc5) HS.o hn0)
  have e0:((n:Int) == 0)=false:=by rw[beq_eq_false_iff_ne];omega
  have hn1:(n:Int)≤20000:=by omega
  have hn2:(0:Int)≤(n:Int):=by omega
  have HNb:Box (b64 (n:Int)∧n≤maxLen):=hid ⟨by unfold b64;omega,by unfold maxLen;omega⟩;obtain ⟨cur,hcur,hmk⟩:=zdd n hn w1;have HM0:=hid (LM.new (V:=zb9) (zf w1 (.cells cur 25)) hcur);have HR0:=hid (HR.o.quiet (zc.alloc [] w1 (.cells cur 25)));have HK0:Box (zc [rb] w (w1.alloc (.cells cur 25))):=hid (HK.o.step (zc.alloc [rb] w1 _));have HG:Box (w.heap.size≤w1.heap.size):=hid HK.o.size;clear HS HR HK hcur hn0 hn;go_wp2_with fail;obtain ⟨w2,HW2⟩:∃ w2,Box (w2=w1.alloc (.cells cur 25)):=⟨_,hid rfl⟩;rw[← HW2.o] at HM0 HR0 HK0 ⊢;clear HW2 hmk;generalize w1.heap.size=g at *
  go_loopw [16] (fun kv wr=>∃ k:Nat,k≤n∧kv=int i64 (k:Int)∧Box (∃ l sk,Q2 ZE zc5 s n k l sk∧LM zb9 wr g n 1 25 l∧qt wr rb sk∧zc [rb] w wr)) (fun kv _=>n - (intOf kv).toNat)
  case atStart=>exact ⟨0,by omega,rfl,hid ⟨[],s1,HS0.o,HM0.o,HR0.o,HK0.o⟩⟩
  case round=>
   obtain ⟨k,hk,rfl,HB⟩:=hrel;clear HS0 HM0 HR0 HK0;obtain ⟨l,sk,m1,m2,m3,m4⟩:=HB.o;have HMS:=hid m1;have HLM:=hid m2;have HRD:=hid m3;have HKK:=hid m4
   have hg9:Box (g<wr.heap.size):=hid (by
    obtain ⟨_,e,_⟩:=m2.ex
    exact z8 e)
   clear HB m1 m2 m3 m4;by_cases hlt:k<n
   ·have hlt':(k:Int)<(n:Int):=by omega
    go_wp2_with fail;refine (HP.o _ _ HRD.o).mono ?_;rintro e w3 ⟨v,y,s3,rfl,hv,hst,hr3,hk3⟩;have HM2:=hid (HLM.o.kept zb9.sub hk3 (by have:=HG.o;omega));have hv2:zb9 (jB (g+1) w3) v y:=zb9.sub _ _ _ _ (Sub.down w3 (by have:=hg9.o;omega)) hv;have HV:=hid hv2;have HST:=hid hst;have HR3:=hid hr3;have HK3:=hid hk3;obtain ⟨⟨y0,t0⟩,z0⟩:=HM2.o.cell (k:=k) (i:=0) hlt (by decide);rw[Nat.mul_one,Nat.add_zero] at t0 z0;obtain ⟨ya,ycp,rfl,_⟩:=hv2;obtain ⟨w4,HW4⟩:∃ w4,Box (w4=Zc w3 g (k * 1) 0 [.slice ya y.length ycp]):=⟨_,hid rfl⟩;have hk4:zc [g] w3 w4:=by rw[HW4.o];exact zS _ _ _
    have hr4:=hr3.kept hk4 (fun x hx=>by rw[List.mem_singleton] at hx;have:=HG.o;omega);have HR4:=hid hr4;have HK4:Box (zc [rb] w w4):=hid ((HKK.o.step hk3).trans hk4 (fun x hx hlt=>by rw[List.mem_singleton] at hx;have:=HG.o;omega))
    have HM4:Box (LM zb9 w4 g n 1 25 (l ++ [_])):=hid (by
     have:=HM2.o.put zb9.sub (by rw[HMS.o.1];exact hlt) HV.o rfl;rw[HMS.o.1] at this;rw[HW4.o]
     exact this)
    have HW5:Box (Zc w3 g (k * 1) 0 [.slice ya y.length ycp]=w4):=hid HW4.o.symm;simp only[Zc,Nat.add_zero,Nat.mul_one] at HW5;clear hv hst hk3 hk4 hr3 HV HW4;cases s3 with
    | none=>
     have h9:w4.heap[rb]? = _:=hr4;have f1:=zd h9 1;clear hr4 h9;go_upto_region 9 with fail;rw[HW5.o];go_wp2_with fail;go_ret;exact ⟨_,[],none,rfl,⟨none,0,rfl,.inl rfl,by simp,by simp⟩,Q2.fail Cd.tys HMS.o hlt HST.o,HR4.o,HK4.o⟩
    | some R=>
     obtain ⟨ra,rcp,h9,_⟩:=hr4;have f1:=zd h9 1;clear h9;go_upto_region 9 with fail;rw[HW5.o];go_wp2_with fail;go_roundw
     case rel=>exact ⟨k+1,by omega,by go_num,hid ⟨_,_,HMS.o.next HST.o (by simp),HM4.o,HR4.o,HK4.o⟩⟩
     case measure=>simp[intOf];omega
   ·obtain rfl:k=n:=by omega
    go_wp2_with fail;go_ret;refine ⟨_,l,sk,rfl,⟨some ⟨g,0,none⟩,k,by rw[HMS.o.1];rfl,HLM.o.rows zb9.sub SlV.links HG.o,by rw[HMS.o.1];exact Nat.le_refl _,by rw[HMS.o.1];exact HNb.o.2⟩,HMS.o.done HNb.o.1,HRD.o,HKK.o⟩
theorem zeO(n:Nat)(hn:n≤20000)(w:World):∃ cur:Array Value,cur.size=n * 3∧(Instr.makeSlice 27 (int i64 (n:Int)) (int i64 (n:Int))).run Tryz.prog w=.ok (.slice (some ⟨w.heap.size,0,none⟩) n n) (w.alloc (.cells cur 36)):=by
 obtain ⟨z,hz⟩:∃ z,Tryz.t36.zero=some z:=Option.isSome_iff_exists.1 (by kernel_rfl);have hb:Tryz.t36.bytes≤200:=of_decide_eq_true (by kernel_rfl);have hs:Tryz.t36.size=3:=by kernel_rfl
 have h1:((Tryz.t36.bytes:Nat):Int) * (n:Int)≤281474976710656:=by
  have:Tryz.t36.bytes * n≤200 * 20000:=Nat.mul_le_mul hb hn;have h2:((Tryz.t36.bytes * n:Nat):Int)≤4000000:=by omega
  rw[Int.natCast_mul] at h2;omega
 have hr:=run_make (P:=Tryz.prog) w 27 36 Tryz.t36 z Tryz.underlying27 (by kernel_rfl) hz .i64 .i64 (n:Int) (n:Int) (by omega) (Int.le_refl _) h1 (by omega);simp only[Int.toNat_natCast,hs] at hr;exact ⟨_,size_madeCells _ _,hr⟩
theorem zj7{s:Option (List UInt8)}(h:qt w rb s):Calls Tryz.prog 135 #[pointer (some ⟨rb,0,none⟩),.func (.func 136) #[] #[]] w (j8 (SlV 3 SgC) ziV zlZ w rb s):=by
 have HL:=hid (qN h);have HP:=hid fun (w':World) (s':Option (List UInt8)) (h:qt w' rb s')=>zj5 h;have hrb:=h.lt;clear h;go_enter Tryz.func135,Tryz.ntmps135;go_wp2_with fail;refine HL.o.mono ?_;rintro e w1 ⟨n,s1,rfl,hn,h1,h2,h3⟩;have HS:=hid h1;have HR:=hid h2;have HK:=hid h3;clear HL h1 h2 h3;by_cases hn0:n=0
 ·have HN:=hid hn0
  have e0:((n:Int) == 0)=true:=by rw[hn0];rfl
  clear hn0;go_wp2_with fail;go_ret;refine ⟨_,[],s1,rfl,⟨none,0,rfl,.inl rfl,by simp,by simp⟩,?_,HR.o,HK.o⟩;have:=HS.o;rw[HN.o] at this;exact zbP.empty Cd.sg.pos this
 ·have HS0:=hid (Q2.start (E:=sgE) (ok:=zn3) HS.o hn0)
  have e0:((n:Int) == 0)=false:=by rw[beq_eq_false_iff_ne];omega
  have hn1:(n:Int)≤20000:=by omega
  have hn2:(0:Int)≤(n:Int):=by omega
  have HNb:Box (b64 (n:Int)∧n≤maxLen):=hid ⟨by unfold b64;omega,by unfold maxLen;omega⟩;obtain ⟨cur,hcur,hmk⟩:=zeO n hn w1;have HM0:=hid (LM.new (V:=SgV) (zf w1 (.cells cur 36)) hcur);have HR0:=hid (HR.o.quiet (zc.alloc [] w1 (.cells cur 36)));have HK0:Box (zc [rb] w (w1.alloc (.cells cur 36))):=hid (HK.o.step (zc.alloc [rb] w1 _));have HG:Box (w.heap.size≤w1.heap.size):=hid HK.o.size;clear HS HR HK hcur hn0 hn;go_wp2_with fail;obtain ⟨w2,HW2⟩:∃ w2,Box (w2=w1.alloc (.cells cur 36)):=⟨_,hid rfl⟩;rw[← HW2.o] at HM0 HR0 HK0 ⊢;clear HW2 hmk;generalize w1.heap.size=g at *
  go_loopw [16] (fun kv wr=>∃ k:Nat,k≤n∧kv=int i64 (k:Int)∧Box (∃ l sk,Q2 sgE zn3 s n k l sk∧LM SgV wr g n 3 36 l∧qt wr rb sk∧zc [rb] w wr)) (fun kv _=>n - (intOf kv).toNat)
  case atStart=>exact ⟨0,by omega,rfl,hid ⟨[],s1,HS0.o,HM0.o,HR0.o,HK0.o⟩⟩
  case round=>
   obtain ⟨k,hk,rfl,HB⟩:=hrel;clear HS0 HM0 HR0 HK0;obtain ⟨l,sk,m1,m2,m3,m4⟩:=HB.o;have HMS:=hid m1;have HLM:=hid m2;have HRD:=hid m3;have HKK:=hid m4
   have hg9:Box (g<wr.heap.size):=hid (by
    obtain ⟨_,e,_⟩:=m2.ex
    exact z8 e)
   clear HB m1 m2 m3 m4;by_cases hlt:k<n
   ·have hlt':(k:Int)<(n:Int):=by omega
    go_wp2_with fail;refine (HP.o _ _ HRD.o).mono ?_;rintro e w3 ⟨v,y,s3,rfl,hv,hst,hr3,hk3⟩;have HM2:=hid (HLM.o.kept SgV.sub hk3 (by have:=HG.o;omega));have hv2:SgV (jB (g+1) w3) v y:=SgV.sub _ _ _ _ (Sub.down w3 (by have:=hg9.o;omega)) hv;have HV:=hid hv2;have HST:=hid hst;have HR3:=hid hr3;have HK3:=hid hk3;obtain ⟨⟨y0,t0⟩,z0⟩:=HM2.o.cell (k:=k) (i:=0) hlt (by decide);obtain ⟨⟨y1,t1⟩,z1⟩:=HM2.o.cell (k:=k) (i:=1) hlt (by decide);obtain ⟨⟨y2,t2⟩,z2⟩:=HM2.o.cell (k:=k) (i:=2) hlt (by decide);rw[Nat.add_zero] at t0 z0;obtain ⟨ya,ycp,rfl,_⟩:=hv2;obtain ⟨w4,HW4⟩:∃ w4,Box (w4=Zc w3 g (k * 3) 0 [.slice ya y.1.length ycp,int i64 y.2.1,int i64 y.2.2]):=⟨_,hid rfl⟩;have hk4:zc [g] w3 w4:=by rw[HW4.o];exact zS _ _ _
    have hr4:=hr3.kept hk4 (fun x hx=>by rw[List.mem_singleton] at hx;have:=HG.o;omega);have HR4:=hid hr4;have HK4:Box (zc [rb] w w4):=hid ((HKK.o.step hk3).trans hk4 (fun x hx hlt=>by rw[List.mem_singleton] at hx;have:=HG.o;omega))
    have HM4:Box (LM SgV w4 g n 3 36 (l ++ [_])):=hid (by
     have:=HM2.o.put SgV.sub (by rw[HMS.o.1];exact hlt) HV.o rfl;rw[HMS.o.1] at this;rw[HW4.o]
     exact this)
    have HW5:Box (Zc w3 g (k * 3) 0 [.slice ya y.1.length ycp,int i64 y.2.1,int i64 y.2.2]=w4):=hid HW4.o.symm;simp only[Zc,Nat.add_zero,Nat.zero_add,Nat.reduceAdd] at HW5;clear hv hst hk3 hk4 hr3 HV HW4;cases s3 with
    | none=>
     have h9:w4.heap[rb]? = _:=hr4;have f1:=zd h9 1;clear hr4 h9;go_upto_region 9 with fail;rw[HW5.o];go_wp2_with fail;go_ret;exact ⟨_,[],none,rfl,⟨none,0,rfl,.inl rfl,by simp,by simp⟩,Q2.fail Cd.sg HMS.o hlt HST.o,HR4.o,HK4.o⟩
    | some R=>
     obtain ⟨ra,rcp,h9,_⟩:=hr4;have f1:=zd h9 1;clear h9;go_upto_region 9 with fail;rw[HW5.o];go_wp2_with fail;go_roundw
     case rel=>exact ⟨k+1,by omega,by go_num,hid ⟨_,_,HMS.o.next HST.o (by simp),HM4.o,HR4.o,HK4.o⟩⟩
     case measure=>simp[intOf];omega
   ·obtain rfl:k=n:=by omega
    go_wp2_with fail;go_ret;refine ⟨_,l,sk,rfl,⟨some ⟨g,0,none⟩,k,by rw[HMS.o.1];rfl,HLM.o.rows SgV.sub SgV.links HG.o,by rw[HMS.o.1];exact Nat.le_refl _,by rw[HMS.o.1];exact HNb.o.2⟩,HMS.o.done HNb.o.1,HRD.o,HKK.o⟩
theorem zeN(n:Nat)(hn:n≤20000)(w:World):∃ cur:Array Value,cur.size=n * 1∧(Instr.makeSlice 28 (int i64 (n:Int)) (int i64 (n:Int))).run Tryz.prog w=.ok (.slice (some ⟨w.heap.size,0,none⟩) n n) (w.alloc (.cells cur 47)):=by
 obtain ⟨z,hz⟩:∃ z,Tryz.t47.zero=some z:=Option.isSome_iff_exists.1 (by kernel_rfl);have hb:Tryz.t47.bytes≤200:=of_decide_eq_true (by kernel_rfl);have hs:Tryz.t47.size=1:=by kernel_rfl
 have h1:((Tryz.t47.bytes:Nat):Int) * (n:Int)≤281474976710656:=by
  have:Tryz.t47.bytes * n≤200 * 20000:=Nat.mul_le_mul hb hn;have h2:((Tryz.t47.bytes * n:Nat):Int)≤4000000:=by omega
  rw[Int.natCast_mul] at h2;omega
 have hr:=run_make (P:=Tryz.prog) w 28 47 Tryz.t47 z Tryz.underlying28 (by kernel_rfl) hz .i64 .i64 (n:Int) (n:Int) (by omega) (Int.le_refl _) h1 (by omega);simp only[Int.toNat_natCast,hs] at hr;exact ⟨_,size_madeCells _ _,hr⟩
theorem zkf{s:Option (List UInt8)}(h:qt w rb s):Calls Tryz.prog 137 #[pointer (some ⟨rb,0,none⟩),.func (.func 138) #[] #[]] w (j8 (SlV 1 ZO) ziS zlE w rb s):=by
 have HL:=hid (qN h);have HP:=hid fun (w':World) (s':Option (List UInt8)) (h:qt w' rb s')=>zgE h;have hrb:=h.lt;clear h;go_enter Tryz.func137,Tryz.ntmps137;go_wp2_with fail;refine HL.o.mono ?_;rintro e w1 ⟨n,s1,rfl,hn,h1,h2,h3⟩;have HS:=hid h1;have HR:=hid h2;have HK:=hid h3;clear HL h1 h2 h3;by_cases hn0:n=0
 ·have HN:=hid hn0
  have e0:((n:Int) == 0)=true:=by rw[hn0];rfl
  clear hn0;go_wp2_with fail;go_ret;refine ⟨_,[],s1,rfl,⟨none,0,rfl,.inl rfl,by simp,by simp⟩,?_,HR.o,HK.o⟩;have:=HS.o;rw[HN.o] at this;exact zbP.empty Cd.ints.pos this
 ·have HS0:=hid (Q2.start (E:=qE) (ok:=Jm) HS.o hn0)
  have e0:((n:Int) == 0)=false:=by rw[beq_eq_false_iff_ne];omega
  have hn1:(n:Int)≤20000:=by omega
  have hn2:(0:Int)≤(n:Int):=by omega
  have HNb:Box (b64 (n:Int)∧n≤maxLen):=hid ⟨by unfold b64;omega,by unfold maxLen;omega⟩;obtain ⟨cur,hcur,hmk⟩:=zeN n hn w1;have HM0:=hid (LM.new (V:=IfV) (zf w1 (.cells cur 47)) hcur);have HR0:=hid (HR.o.quiet (zc.alloc [] w1 (.cells cur 47)));have HK0:Box (zc [rb] w (w1.alloc (.cells cur 47))):=hid (HK.o.step (zc.alloc [rb] w1 _));have HG:Box (w.heap.size≤w1.heap.size):=hid HK.o.size;clear HS HR HK hcur hn0 hn;go_wp2_with fail;obtain ⟨w2,HW2⟩:∃ w2,Box (w2=w1.alloc (.cells cur 47)):=⟨_,hid rfl⟩;rw[← HW2.o] at HM0 HR0 HK0 ⊢;clear HW2 hmk;generalize w1.heap.size=g at *
  go_loopw [16] (fun kv wr=>∃ k:Nat,k≤n∧kv=int i64 (k:Int)∧Box (∃ l sk,Q2 qE Jm s n k l sk∧LM IfV wr g n 1 47 l∧qt wr rb sk∧zc [rb] w wr)) (fun kv _=>n - (intOf kv).toNat)
  case atStart=>exact ⟨0,by omega,rfl,hid ⟨[],s1,HS0.o,HM0.o,HR0.o,HK0.o⟩⟩
  case round=>
   obtain ⟨k,hk,rfl,HB⟩:=hrel;clear HS0 HM0 HR0 HK0;obtain ⟨l,sk,m1,m2,m3,m4⟩:=HB.o;have HMS:=hid m1;have HLM:=hid m2;have HRD:=hid m3;have HKK:=hid m4
   have hg9:Box (g<wr.heap.size):=hid (by
    obtain ⟨_,e,_⟩:=m2.ex
    exact z8 e)
   clear HB m1 m2 m3 m4;by_cases hlt:k<n
   ·have hlt':(k:Int)<(n:Int):=by omega
    go_wp2_with fail;refine (HP.o _ _ HRD.o).mono ?_;rintro e w3 ⟨v,y,s3,rfl,hv,hst,hr3,hk3⟩;have HM2:=hid (HLM.o.kept IfV.sub hk3 (by have:=HG.o;omega));have hv2:IfV (jB (g+1) w3) v y:=IfV.sub _ _ _ _ (Sub.down w3 (by have:=hg9.o;omega)) hv;have HV:=hid hv2;have HST:=hid hst;have HR3:=hid hr3;have HK3:=hid hk3;obtain ⟨⟨y0,t0⟩,z0⟩:=HM2.o.cell (k:=k) (i:=0) hlt (by decide);rw[Nat.mul_one,Nat.add_zero] at t0 z0;obtain ⟨ya,ycp,rfl,_⟩:=hv2;obtain ⟨w4,HW4⟩:∃ w4,Box (w4=Zc w3 g (k * 1) 0 [.slice ya y.length ycp]):=⟨_,hid rfl⟩;have hk4:zc [g] w3 w4:=by rw[HW4.o];exact zS _ _ _
    have hr4:=hr3.kept hk4 (fun x hx=>by rw[List.mem_singleton] at hx;have:=HG.o;omega);have HR4:=hid hr4;have HK4:Box (zc [rb] w w4):=hid ((HKK.o.step hk3).trans hk4 (fun x hx hlt=>by rw[List.mem_singleton] at hx;have:=HG.o;omega))
    have HM4:Box (LM IfV w4 g n 1 47 (l ++ [_])):=hid (by
     have:=HM2.o.put IfV.sub (by rw[HMS.o.1];exact hlt) HV.o rfl;rw[HMS.o.1] at this;rw[HW4.o]
     exact this)
    have HW5:Box (Zc w3 g (k * 1) 0 [.slice ya y.length ycp]=w4):=hid HW4.o.symm;simp only[Zc,Nat.add_zero,Nat.mul_one] at HW5;clear hv hst hk3 hk4 hr3 HV HW4;cases s3 with
    | none=>
     have h9:w4.heap[rb]? = _:=hr4;have f1:=zd h9 1;clear hr4 h9;go_upto_region 9 with fail;rw[HW5.o];go_wp2_with fail;go_ret;exact ⟨_,[],none,rfl,⟨none,0,rfl,.inl rfl,by simp,by simp⟩,Q2.fail Cd.ints HMS.o hlt HST.o,HR4.o,HK4.o⟩
    | some R=>
     obtain ⟨ra,rcp,h9,_⟩:=hr4;have f1:=zd h9 1;clear h9;go_upto_region 9 with fail;rw[HW5.o];go_wp2_with fail;go_roundw
     case rel=>exact ⟨k+1,by omega,by go_num,hid ⟨_,_,HMS.o.next HST.o (by simp),HM4.o,HR4.o,HK4.o⟩⟩
     case measure=>simp[intOf];omega
   ·obtain rfl:k=n:=by omega
    go_wp2_with fail;go_ret;refine ⟨_,l,sk,rfl,⟨some ⟨g,0,none⟩,k,by rw[HMS.o.1];rfl,HLM.o.rows IfV.sub IfV.links HG.o,by rw[HMS.o.1];exact Nat.le_refl _,by rw[HMS.o.1];exact HNb.o.2⟩,HMS.o.done HNb.o.1,HRD.o,HKK.o⟩
theorem zeg(n:Nat)(hn:n≤20000)(w:World):∃ cur:Array Value,cur.size=n * 3∧(Instr.makeSlice 29 (int i64 (n:Int)) (int i64 (n:Int))).run Tryz.prog w=.ok (.slice (some ⟨w.heap.size,0,none⟩) n n) (w.alloc (.cells cur 49)):=by
 obtain ⟨z,hz⟩:∃ z,Tryz.t49.zero=some z:=Option.isSome_iff_exists.1 (by kernel_rfl);have hb:Tryz.t49.bytes≤200:=of_decide_eq_true (by kernel_rfl);have hs:Tryz.t49.size=3:=by kernel_rfl
 have h1:((Tryz.t49.bytes:Nat):Int) * (n:Int)≤281474976710656:=by
  have:Tryz.t49.bytes * n≤200 * 20000:=Nat.mul_le_mul hb hn;have h2:((Tryz.t49.bytes * n:Nat):Int)≤4000000:=by omega
  rw[Int.natCast_mul] at h2;omega
 have hr:=run_make (P:=Tryz.prog) w 29 49 Tryz.t49 z Tryz.underlying29 (by kernel_rfl) hz .i64 .i64 (n:Int) (n:Int) (by omega) (Int.le_refl _) h1 (by omega);simp only[Int.toNat_natCast,hs] at hr;exact ⟨_,size_madeCells _ _,hr⟩
theorem zkS{s:Option (List UInt8)}(h:qt w rb s):Calls Tryz.prog 139 #[pointer (some ⟨rb,0,none⟩),.func (.func 140) #[] #[]] w (j8 (SlV 3 ImC) zhV zmQ w rb s):=by
 have HL:=hid (qN h);have HP:=hid fun (w':World) (s':Option (List UInt8)) (h:qt w' rb s')=>zfU h;have hrb:=h.lt;clear h;go_enter Tryz.func139,Tryz.ntmps139;go_wp2_with fail;refine HL.o.mono ?_;rintro e w1 ⟨n,s1,rfl,hn,h1,h2,h3⟩;have HS:=hid h1;have HR:=hid h2;have HK:=hid h3;clear HL h1 h2 h3;by_cases hn0:n=0
 ·have HN:=hid hn0
  have e0:((n:Int) == 0)=true:=by rw[hn0];rfl
  clear hn0;go_wp2_with fail;go_ret;refine ⟨_,[],s1,rfl,⟨none,0,rfl,.inl rfl,by simp,by simp⟩,?_,HR.o,HK.o⟩;have:=HS.o;rw[HN.o] at this;exact zbP.empty Cd.im.pos this
 ·have HS0:=hid (Q2.start (E:=imE) (ok:=znu) HS.o hn0)
  have e0:((n:Int) == 0)=false:=by rw[beq_eq_false_iff_ne];omega
  have hn1:(n:Int)≤20000:=by omega
  have hn2:(0:Int)≤(n:Int):=by omega
  have HNb:Box (b64 (n:Int)∧n≤maxLen):=hid ⟨by unfold b64;omega,by unfold maxLen;omega⟩;obtain ⟨cur,hcur,hmk⟩:=zeg n hn w1;have HM0:=hid (LM.new (V:=ImV) (zf w1 (.cells cur 49)) hcur);have HR0:=hid (HR.o.quiet (zc.alloc [] w1 (.cells cur 49)));have HK0:Box (zc [rb] w (w1.alloc (.cells cur 49))):=hid (HK.o.step (zc.alloc [rb] w1 _));have HG:Box (w.heap.size≤w1.heap.size):=hid HK.o.size;clear HS HR HK hcur hn0 hn;go_wp2_with fail;obtain ⟨w2,HW2⟩:∃ w2,Box (w2=w1.alloc (.cells cur 49)):=⟨_,hid rfl⟩;rw[← HW2.o] at HM0 HR0 HK0 ⊢;clear HW2 hmk;generalize w1.heap.size=g at *
  go_loopw [16] (fun kv wr=>∃ k:Nat,k≤n∧kv=int i64 (k:Int)∧Box (∃ l sk,Q2 imE znu s n k l sk∧LM ImV wr g n 3 49 l∧qt wr rb sk∧zc [rb] w wr)) (fun kv _=>n - (intOf kv).toNat)
  case atStart=>exact ⟨0,by omega,rfl,hid ⟨[],s1,HS0.o,HM0.o,HR0.o,HK0.o⟩⟩
  case round=>
   obtain ⟨k,hk,rfl,HB⟩:=hrel;clear HS0 HM0 HR0 HK0;obtain ⟨l,sk,m1,m2,m3,m4⟩:=HB.o;have HMS:=hid m1;have HLM:=hid m2;have HRD:=hid m3;have HKK:=hid m4
   have hg9:Box (g<wr.heap.size):=hid (by
    obtain ⟨_,e,_⟩:=m2.ex
    exact z8 e)
   clear HB m1 m2 m3 m4;by_cases hlt:k<n
   ·have hlt':(k:Int)<(n:Int):=by omega
    go_wp2_with fail;refine (HP.o _ _ HRD.o).mono ?_;rintro e w3 ⟨v,y,s3,rfl,hv,hst,hr3,hk3⟩;have HM2:=hid (HLM.o.kept ImV.sub hk3 (by have:=HG.o;omega));have hv2:ImV (jB (g+1) w3) v y:=ImV.sub _ _ _ _ (Sub.down w3 (by have:=hg9.o;omega)) hv;have HV:=hid hv2;have HST:=hid hst;have HR3:=hid hr3;have HK3:=hid hk3;obtain ⟨⟨y0,t0⟩,z0⟩:=HM2.o.cell (k:=k) (i:=0) hlt (by decide);obtain ⟨⟨y1,t1⟩,z1⟩:=HM2.o.cell (k:=k) (i:=1) hlt (by decide);obtain ⟨⟨y2,t2⟩,z2⟩:=HM2.o.cell (k:=k) (i:=2) hlt (by decide);rw[Nat.add_zero] at t0 z0;obtain ⟨ya,ycp,rfl,_⟩:=hv2;obtain ⟨w4,HW4⟩:∃ w4,Box (w4=Zc w3 g (k * 3) 0 [int i64 y.1,int i64 y.2.1,.slice ya y.2.2.length ycp]):=⟨_,hid rfl⟩;have hk4:zc [g] w3 w4:=by rw[HW4.o];exact zS _ _ _
    have hr4:=hr3.kept hk4 (fun x hx=>by rw[List.mem_singleton] at hx;have:=HG.o;omega);have HR4:=hid hr4;have HK4:Box (zc [rb] w w4):=hid ((HKK.o.step hk3).trans hk4 (fun x hx hlt=>by rw[List.mem_singleton] at hx;have:=HG.o;omega))
    have HM4:Box (LM ImV w4 g n 3 49 (l ++ [_])):=hid (by
     have:=HM2.o.put ImV.sub (by rw[HMS.o.1];exact hlt) HV.o rfl;rw[HMS.o.1] at this;rw[HW4.o]
     exact this)
    have HW5:Box (Zc w3 g (k * 3) 0 [int i64 y.1,int i64 y.2.1,.slice ya y.2.2.length ycp]=w4):=hid HW4.o.symm;simp only[Zc,Nat.add_zero,Nat.zero_add,Nat.reduceAdd] at HW5;clear hv hst hk3 hk4 hr3 HV HW4;cases s3 with
    | none=>
     have h9:w4.heap[rb]? = _:=hr4;have f1:=zd h9 1;clear hr4 h9;go_upto_region 9 with fail;rw[HW5.o];go_wp2_with fail;go_ret;exact ⟨_,[],none,rfl,⟨none,0,rfl,.inl rfl,by simp,by simp⟩,Q2.fail Cd.im HMS.o hlt HST.o,HR4.o,HK4.o⟩
    | some R=>
     obtain ⟨ra,rcp,h9,_⟩:=hr4;have f1:=zd h9 1;clear h9;go_upto_region 9 with fail;rw[HW5.o];go_wp2_with fail;go_roundw
     case rel=>exact ⟨k+1,by omega,by go_num,hid ⟨_,_,HMS.o.next HST.o (by simp),HM4.o,HR4.o,HK4.o⟩⟩
     case measure=>simp[intOf];omega
   ·obtain rfl:k=n:=by omega
    go_wp2_with fail;go_ret;refine ⟨_,l,sk,rfl,⟨some ⟨g,0,none⟩,k,by rw[HMS.o.1];rfl,HLM.o.rows ImV.sub ImV.links HG.o,by rw[HMS.o.1];exact Nat.le_refl _,by rw[HMS.o.1];exact HNb.o.2⟩,HMS.o.done HNb.o.1,HRD.o,HKK.o⟩
def qG(P:Pr8)(f:Fu8)(x:In8):Bool:=zn x && (Zp f.regs.length x && jn P f x)
theorem zi8(h:PrC w pb po P)(hf:FuC w fb fo f)(x:In8)(hz:zw w a x.args)(hl:x.args.length≤1000):Calls Tryz.prog 99 #[pointer (some ⟨pb,po,none⟩),pointer (some ⟨fb,fo,none⟩),zD x (.slice a x.args.length cp)] w fun e w'=>e=.returned (.bool (qG P f x))∧zc [] w w':=by
 have ka:=zc.alloc [] w (.cells #[int i64 x.op,int i64 x.dst,int i64 x.a,int i64 x.b,int i64 x.n,.slice a x.args.length cp] 39);have hn:=zf w (.cells #[int i64 x.op,int i64 x.dst,int i64 x.a,int i64 x.b,int i64 x.n,.slice a x.args.length cp] 39);have H1:=hid fun (w':World)=>zju x a cp w';have H2:=hid fun (w':World) (k:zc [] w w')=>zi3 (cp:=cp) (FuC.stays _ _ _ _ _ k hf) x (hz.kept k (fun _ _ _=>by simp)) hl;have H3:=hid fun (w':World) (k:zc [] w w')=>znp (PrC.stays _ _ _ _ _ k h) (FuC.stays _ _ _ _ _ k hf) x (.slice a x.args.length cp);have HE:Box (qG P f x=(zn x && (Zp f.regs.length x && jn P f x))):=hid rfl;have IN:Box (∀ w',zc [] (w.alloc (.cells #[int i64 x.op,int i64 x.dst,int i64 x.a,int i64 x.b,int i64 x.n,.slice a x.args.length cp] 39)) w'→InW w' w.heap.size x (.slice a x.args.length cp)):=hid fun w' k=>by
  have:=ze hn k;exact ⟨zd this 0,zd this 1,zd this 2,zd this 3,zd this 4,zd this 5⟩
 have KA:=hid ka;clear h hf hz hl ka hn;unfold zD at *;generalize qG P f x=res at *;generalize zn x=r1 at *;generalize Zp f.regs.length x=r2 at *;generalize jn P f x=r3 at *;go_enter Tryz.func99,Tryz.ntmps99;go_upto_region 1 with fail;generalize w.alloc (.cells #[int i64 x.op,int i64 x.dst,int i64 x.a,int i64 x.b,int i64 x.n,.slice a x.args.length cp] 39)=WA at *;generalize w.heap.size=q at *;obtain ⟨d0,d1,d2,d3,d4,d5⟩:=IN.o _ (zc.refl _ _);go_wp2_with fail;refine (H1.o _).mono ?_;rintro e w1 ⟨rfl,k1⟩;have K1:=hid (KA.o.quiet k1);clear d0 d1 d2 d3 d4 d5;cases r1 with
 | false=>
  have HR:Box (res=false):=hid (by rw[HE.o];rfl);clear HE k1;go_wp2_with fail;go_ret;exact ⟨by rw[HR.o];rfl,K1.o⟩
 | true=>
  obtain ⟨d0,d1,d2,d3,d4,d5⟩:=IN.o _ k1;have KW1:=hid k1;clear k1;go_wp2_with fail;refine (H2.o _ K1.o).mono ?_;rintro e w2 ⟨rfl,k2⟩;have K2:=hid (K1.o.quiet k2);clear d0 d1 d2 d3 d4 d5;cases r2 with
  | false=>
   have HR:Box (res=false):=hid (by rw[HE.o];rfl);clear HE k2;go_wp2_with fail;go_ret;exact ⟨by rw[HR.o];rfl,K2.o⟩
  | true=>
   obtain ⟨d0,d1,d2,d3,d4,d5⟩:=IN.o _ (KW1.o.quiet k2);clear k2;go_wp2_with fail;refine (H3.o _ K2.o).mono ?_;rintro e w3 ⟨rfl,k3⟩;have K3:=hid (K2.o.quiet k3);clear k3;have HR:Box (res=r3):=hid (by rw[HE.o];rfl);clear HE;go_wp2_with fail;go_ret;exact ⟨by rw[HR.o];rfl,K3.o⟩
theorem zmd(h:PrC w pb po P){f:Nat}(hf:f<P.funcs.length)(x:In8)(hz:zw w a x.args)(hl:x.args.length≤1000)(r:Bool)
  (H:qG P (zg P f) x=true→∀ (fb fo:Nat) (w':World),zc [] w w'→PrC w' pb po P→FuC w' fb fo (zg P f)→Calls Tryz.prog 150 #[pointer (some ⟨pb,po,none⟩),pointer (some ⟨fb,fo,none⟩),zD x (.slice a x.args.length cp)] w' fun e w2=>e=.returned (.bool r)∧zc [] w' w2):
  Calls Tryz.prog 103 #[pointer (some ⟨pb,po,none⟩),int i64 (f:Int),zD x (.slice a x.args.length cp)] w fun e w'=>e=.returned (.bool (qG P (zg P f) x && (rtB P (zg P f) x && r)))∧zc [] w w':=by
 obtain ⟨fa,fp,c4,r4,_⟩:=h.c4;obtain ⟨fb,fo,rfl,hfu0⟩:=r4.at (zh (d:=⟨0,[],[]⟩) hf);have hfu:FuC w fb (fo+f * 3) (zg P f):=hfu0;have ka:=zc.alloc [] w (.cells #[int i64 x.op,int i64 x.dst,int i64 x.a,int i64 x.b,int i64 x.n,.slice a x.args.length cp] 39);have hn:=zf w (.cells #[int i64 x.op,int i64 x.dst,int i64 x.a,int i64 x.b,int i64 x.n,.slice a x.args.length cp] 39);have HW:=hid fun (w':World)=>zC (f:Int) P.funcs.length w';rw[zeD (by omega) (by omega)] at HW;have H0:=hid fun (w':World) (k:zc [] w w')=>zi8 (cp:=cp) (PrC.stays _ _ _ _ _ k h) (FuC.stays _ _ _ _ _ k hfu) x (hz.kept k (fun _ _ _=>by simp)) hl;have H1:=hid fun (w':World) (k:zc [] w w')=>zgg (cp:=cp) (PrC.stays _ _ _ _ _ k h) (FuC.stays _ _ _ _ _ k hfu) x (hz.kept k (fun _ _ _=>by simp)) hl;have H2:=hid fun (hok:qG P (zg P f) x=true) (w':World) (k:zc [] w w')=>H hok fb (fo+f * 3) w' k (PrC.stays _ _ _ _ _ k h) (FuC.stays _ _ _ _ _ k hfu);have IN:Box (∀ w',zc [] (w.alloc (.cells #[int i64 x.op,int i64 x.dst,int i64 x.a,int i64 x.b,int i64 x.n,.slice a x.args.length cp] 39)) w'→InW w' w.heap.size x (.slice a x.args.length cp)):=hid fun w' k=>by
  have:=ze hn k;exact ⟨zd this 0,zd this 1,zd this 2,zd this 3,zd this 4,zd this 5⟩
 have KA:=hid ka;have c4':=za ka c4;have hf':(f:Int)<(P.funcs.length:Int):=by omega
 clear h r4 hfu0 hfu ka hn hz hl H c4 hf;unfold zD at *;generalize rtB P (zg P f) x=r1 at *;generalize qG P (zg P f) x=r0 at *;generalize P.funcs.length=FN at *;go_enter Tryz.func103,Tryz.ntmps103;go_upto_region 1 with fail;generalize w.alloc (.cells #[int i64 x.op,int i64 x.dst,int i64 x.a,int i64 x.b,int i64 x.n,.slice a x.args.length cp] 39)=WA at *;generalize w.heap.size=q at *;obtain ⟨d0,d1,d2,d3,d4,d5⟩:=IN.o _ (zc.refl _ _);go_wp2_with fail;refine (HW.o _).mono ?_;rintro e w1 ⟨rfl,hw1⟩;rw[hw1];clear hw1;go_wp2_with fail;refine (H0.o _ KA.o).mono ?_;rintro e w5 ⟨rfl,k5⟩;have K5:=hid (KA.o.quiet k5);have KW5:=hid k5;clear d0 d1 d2 d3 d4 d5 k5;cases r0 with
 | false=>
  clear H2;go_wp2_with fail;go_ret;exact ⟨rfl,K5.o⟩
 | true=>
  obtain ⟨d0,d1,d2,d3,d4,d5⟩:=IN.o _ KW5.o;go_wp2_with fail;refine (H1.o _ K5.o).mono ?_;rintro e w2 ⟨rfl,k2⟩;have K2:=hid (K5.o.quiet k2);clear d0 d1 d2 d3 d4 d5;cases r1 with
  | false=>
   clear k2 H2;go_wp2_with fail;go_ret;exact ⟨rfl,K2.o⟩
  | true=>
   obtain ⟨d0,d1,d2,d3,d4,d5⟩:=IN.o _ (KW5.o.quiet k2);clear k2;go_wp2_with fail;refine (H2.o trivial _ K2.o).mono ?_;rintro e w3 ⟨rfl,k3⟩;have K3:=hid (K2.o.quiet k3);clear k3 H2;go_wp2_with fail;go_ret;exact ⟨by cases r <;> rfl,K3.o⟩
end Go.Proofs.YtkgoimokgbdgfaaGreatDoor
