import Derived.Test.YthflgjkmbakedaaGreatDoorA12
import Derived.Test.YthflgjkmbakedaaGreatDoorA15

namespace Go.Proofs.YthflgjkmbakedaaGreatDoor
open Go.RowKit
open Go.Value (int pointer agg)
open Go.IntKind (i64)
set_option maxRecDepth 20000
set_option maxHeartbeats 4000000
variable {A:Act}{P:Pr8}{a:Option Addr}{b c cp i n pb po q:Nat}{ev:Operand→Value}{f:Fu8}{l:Array Bool}{o oi:Oper}{v:Value}{vs:List Value}{w:World}{x y:Operand}
def rtB(P:Pr8)(f:Fu8)(x:In8):Bool:=(!zD x || tyB P (zq f x.dst)) && (zN x).all fun r=>tyB P (zq f r)
theorem zeN{fb fo:Nat}(h:PrC w pb po P)(hf:FuC w fb fo f)(x:In8)(hz:zw w a x.args)(hl:x.args.length≤1000):Calls Tryz.prog 240 #[pointer (some ⟨pb,po,none⟩),pointer (some ⟨fb,fo,none⟩),z8 x (.slice a x.args.length cp)] w fun e w'=>e=.returned (.bool (rtB P f x))∧zc [] w w':=by
 have ka:=zc.alloc [] w (.cells #[int i64 x.op,int i64 x.dst,int i64 x.a,int i64 x.b,int i64 x.n,.slice a x.args.length cp] 54);have hn:=zh w (.cells #[int i64 x.op,int i64 x.dst,int i64 x.a,int i64 x.b,int i64 x.n,.slice a x.args.length cp] 54);have HD:=hid fun (w':World)=>zaL x (.slice a x.args.length cp) w';have HU:=hid fun (w':World) (k:zc [] w w')=>zbq x a cp w' (hz.kept k (fun _ _ _=>by simp)) (by omega);have hul:=Zm x;have HRT:=hid fun (r:Int) (w':World) (k:zc [] w w')=>zz (FuC.stays _ _ _ _ _ k hf) r;have HTN:=hid fun (t:Int × Int) (w':World) (k:zc [] w w')=>Jm (PrC.stays _ _ _ _ _ k h) t;have IN:Box (∀ w',zc [] (w.alloc (.cells #[int i64 x.op,int i64 x.dst,int i64 x.a,int i64 x.b,int i64 x.n,.slice a x.args.length cp] 54)) w'→InW w' w.heap.size x (.slice a x.args.length cp)):=hid fun w' k=>by
  have:=ze hn k;exact ⟨zd this 0,zd this 1,zd this 2,zd this 3,zd this 4,zd this 5⟩
 have KA:=hid ka;have HE:Box (rtB P f x=((!zD x || tyB P (zq f x.dst)) && (zN x).all fun r=>tyB P (zq f r))):=hid rfl;obtain ⟨d0,d1,d2,d3,d4,d5⟩:=IN.o _ (zc.refl _ _);obtain ⟨N,hN⟩:∃ N,N=(zN x).length:=⟨_,rfl⟩;have HN:=hid hN;have hN9:(N:Int)≤2000:=by omega
 rw[← hN] at HU;clear h hf ka hn hz hl hul hN;unfold z8 at *;generalize rtB P f x=res at *;generalize hWA:w.alloc (.cells #[int i64 x.op,int i64 x.dst,int i64 x.a,int i64 x.b,int i64 x.n,.slice a x.args.length cp] 54)=WA at *;have HWA:=hid hWA;clear hWA;by_cases hdd:zD x=true∧tyB P (zq f x.dst)=false
 ·obtain ⟨hd,ht⟩:=hdd
  rw[qm hd] at HD;have HR:Box (res=false):=hid (by rw[HE.o,hd,ht];rfl);have HC:=hid fun (w':World) (k:zc [] w w')=>HTN.o (zq f x.dst) w' k;rw[ht] at HC;clear HE hd ht;go_enter Tryz.func240,Tryz.ntmps240;go_upto_region 1 with fail;rw[HWA.o];clear HWA;generalize w.heap.size=q at *;go_wp2_with fail;refine (HD.o _).mono ?_;rintro e w1 ⟨rfl,k1⟩;have K1:=hid (KA.o.quiet k1);go_wp2_with fail;refine (HRT.o _ _ K1.o).mono ?_;rintro e w2 ⟨rfl,k2⟩;have K2:=hid (K1.o.quiet k2);go_wp2_with fail;refine (HC.o _ K2.o).mono ?_;rintro e w3 ⟨rfl,k3⟩;have K3:=hid (K2.o.quiet k3);clear k1 k2 k3;go_wp2_with fail;go_ret;exact ⟨by rw[HR.o];rfl,K3.o⟩
 ·have HR:Box (res=(zN x).all fun r=>tyB P (zq f r)):=hid (by
   rw[HE.o];cases hd:zD x with
   | false=>simp
   | true=>
    cases ht:tyB P (zq f x.dst) with
    | true=>simp
    | false=>exact absurd ⟨hd,ht⟩ hdd)
  clear HE;go_enter Tryz.func240,Tryz.ntmps240;go_upto_region 1 with fail;rw[HWA.o];clear HWA;generalize w.heap.size=q at *;go_wp2_with fail;refine (HD.o _).mono ?_;rintro e w1 ⟨rfl,k1⟩;have K1:=hid (KA.o.quiet k1);have KW1:=hid k1;clear k1 d0 d1 d2 d3 d4 d5;rcases zaz x with ⟨hd,hv⟩ | ⟨hd,hv⟩
  ·rw[hv]
   have ht:tyB P (zq f x.dst)=true:=by
    cases ht:tyB P (zq f x.dst) with
    | true=>rfl
    | false=>exact absurd ⟨hd,ht⟩ hdd
   have HC:=hid fun (w':World) (k:zc [] w w')=>HTN.o (zq f x.dst) w' k;rw[ht] at HC;clear ht hd hv hdd;go_wp2_with fail;refine (HRT.o _ _ K1.o).mono ?_;rintro e w2 ⟨rfl,k2⟩;have K2:=hid (K1.o.quiet k2);go_wp2_with fail;refine (HC.o _ K2.o).mono ?_;rintro e w3 ⟨rfl,k3⟩;have K3:=hid (K2.o.quiet k3);obtain ⟨d0,d1,d2,d3,d4,d5⟩:=IN.o _ ((KW1.o.quiet k2).quiet k3);clear k2 k3;go_wp2_with fail;refine (HU.o _ K3.o).mono ?_;rintro e w4 ⟨ua,up,rfl,hu,k4⟩;have K4:=hid (K3.o.quiet k4);have HUU:=hid hu;clear hu k4 d0 d1 d2 d3 d4 d5;go_wp2_with fail
   go_loopw [28] (fun kv wr=>∃ k:Nat,k≤N∧kv=int i64 (k:Int)∧Box (zc [] w4 wr)∧Box (∀ j y,j<k→(zN x)[j]? = some y→tyB P (zq f y)=true)) (fun kv _=>N - (intOf kv).toNat)
   case atStart=>exact ⟨0,by omega,rfl,hid (zc.refl _ _),hid fun j y hj=>by omega⟩
   case round=>
    obtain ⟨k,hk,rfl,HK,HB⟩:=hrel;by_cases hlt:k<N
    ·have hlt':(k:Int)<(N:Int):=by omega
     have hkl:k<(zN x).length:=by rw[← HN.o];exact hlt
     obtain ⟨y,hy⟩:∃ y,(zN x)[k]? = some y:=⟨_,List.getElem?_eq_getElem hkl⟩;obtain ⟨b,off,rfl,hc⟩:∃ b off,ua=some ⟨b,off,none⟩∧w4.cell? ⟨b,off+k,none⟩=some (int i64 y):=by
      rcases HUU.o with e | ⟨b,off,e,h⟩
      ·rw[e] at hy;simp at hy
      ·refine ⟨b,off,e,?_⟩
       rw[h k hkl,List.getD_eq_getElem?_getD,hy];rfl
     replace hc:=za HK.o hc;have KK:=hid (K4.o.quiet HK.o);have HY:=hid hy;clear hy hkl;cases hg:tyB P (zq f y) with
     | true=>
      have HC:=hid fun (w':World) (k:zc [] w w')=>HTN.o (zq f y) w' k;rw[hg] at HC;have HG:=hid hg;clear hg;go_wp2_with fail;refine (HRT.o _ _ KK.o).mono ?_;rintro e w5 ⟨rfl,k5⟩;have K5:=hid (KK.o.quiet k5);go_wp2_with fail;refine (HC.o _ K5.o).mono ?_;rintro e w6 ⟨rfl,k6⟩;have K6:=hid ((HK.o.quiet k5).quiet k6);clear k5 k6;go_wp2_with fail;go_roundw
      case rel=>exact ⟨k+1,by omega,by go_num,K6,hid fun j z hj hz=>by
       by_cases e:j<k
       ·exact HB.o j z e hz
       ·obtain rfl:j=k:=by omega
        rw[HY.o] at hz;cases hz
        exact HG.o⟩
      case measure=>simp[intOf];omega
     | false=>
      have HC:=hid fun (w':World) (k:zc [] w w')=>HTN.o (zq f y) w' k;rw[hg] at HC;have HF:Box (res=false):=hid (by rw[HR.o];exact j7 HY.o hg);clear hg;go_wp2_with fail;refine (HRT.o _ _ KK.o).mono ?_;rintro e w5 ⟨rfl,k5⟩;have K5:=hid (KK.o.quiet k5);go_wp2_with fail;refine (HC.o _ K5.o).mono ?_;rintro e w6 ⟨rfl,k6⟩;have K6:=hid (K5.o.quiet k6);clear k5 k6;go_wp2_with fail;go_ret;exact ⟨by rw[HF.o];rfl,K6.o⟩
    ·obtain rfl:N=k:=by omega
     have HF:Box (res=true):=hid (by rw[HR.o];exact qW (fun j y hy=>HB.o j y (by rw[HN.o];exact (List.getElem?_eq_some_iff.1 hy).1) hy));go_wp2_with fail;go_ret;exact ⟨by rw[HF.o];rfl,K4.o.quiet HK.o⟩
  ·rw[hv]
   clear hd hv hdd;have K3:=K1;obtain ⟨d0,d1,d2,d3,d4,d5⟩:=IN.o _ KW1.o;go_wp2_with fail;refine (HU.o _ K3.o).mono ?_;rintro e w4 ⟨ua,up,rfl,hu,k4⟩;have K4:=hid (K3.o.quiet k4);have HUU:=hid hu;clear hu k4 d0 d1 d2 d3 d4 d5;go_wp2_with fail
   go_loopw [28] (fun kv wr=>∃ k:Nat,k≤N∧kv=int i64 (k:Int)∧Box (zc [] w4 wr)∧Box (∀ j y,j<k→(zN x)[j]? = some y→tyB P (zq f y)=true)) (fun kv _=>N - (intOf kv).toNat)
   case atStart=>exact ⟨0,by omega,rfl,hid (zc.refl _ _),hid fun j y hj=>by omega⟩
   case round=>
    obtain ⟨k,hk,rfl,HK,HB⟩:=hrel;by_cases hlt:k<N
    ·have hlt':(k:Int)<(N:Int):=by omega
     have hkl:k<(zN x).length:=by rw[← HN.o];exact hlt
     obtain ⟨y,hy⟩:∃ y,(zN x)[k]? = some y:=⟨_,List.getElem?_eq_getElem hkl⟩;obtain ⟨b,off,rfl,hc⟩:∃ b off,ua=some ⟨b,off,none⟩∧w4.cell? ⟨b,off+k,none⟩=some (int i64 y):=by
      rcases HUU.o with e | ⟨b,off,e,h⟩
      ·rw[e] at hy;simp at hy
      ·refine ⟨b,off,e,?_⟩
       rw[h k hkl,List.getD_eq_getElem?_getD,hy];rfl
     replace hc:=za HK.o hc;have KK:=hid (K4.o.quiet HK.o);have HY:=hid hy;clear hy hkl;cases hg:tyB P (zq f y) with
     | true=>
      have HC:=hid fun (w':World) (k:zc [] w w')=>HTN.o (zq f y) w' k;rw[hg] at HC;have HG:=hid hg;clear hg;go_wp2_with fail;refine (HRT.o _ _ KK.o).mono ?_;rintro e w5 ⟨rfl,k5⟩;have K5:=hid (KK.o.quiet k5);go_wp2_with fail;refine (HC.o _ K5.o).mono ?_;rintro e w6 ⟨rfl,k6⟩;have K6:=hid ((HK.o.quiet k5).quiet k6);clear k5 k6;go_wp2_with fail;go_roundw
      case rel=>exact ⟨k+1,by omega,by go_num,K6,hid fun j z hj hz=>by
       by_cases e:j<k
       ·exact HB.o j z e hz
       ·obtain rfl:j=k:=by omega
        rw[HY.o] at hz;cases hz
        exact HG.o⟩
      case measure=>simp[intOf];omega
     | false=>
      have HC:=hid fun (w':World) (k:zc [] w w')=>HTN.o (zq f y) w' k;rw[hg] at HC;have HF:Box (res=false):=hid (by rw[HR.o];exact j7 HY.o hg);clear hg;go_wp2_with fail;refine (HRT.o _ _ KK.o).mono ?_;rintro e w5 ⟨rfl,k5⟩;have K5:=hid (KK.o.quiet k5);go_wp2_with fail;refine (HC.o _ K5.o).mono ?_;rintro e w6 ⟨rfl,k6⟩;have K6:=hid (K5.o.quiet k6);clear k5 k6;go_wp2_with fail;go_ret;exact ⟨by rw[HF.o];rfl,K6.o⟩
    ·obtain rfl:N=k:=by omega
     have HF:Box (res=true):=hid (by rw[HR.o];exact qW (fun j y hy=>HB.o j y (by rw[HN.o];exact (List.getElem?_eq_some_iff.1 hy).1) hy));go_wp2_with fail;go_ret;exact ⟨by rw[HF.o];rfl,K4.o.quiet HK.o⟩
def g1(P:Pr8)(f:Fu8)(x:In8):Bool:=zW P f x && (rtB P f x && ((zq f x.dst).1 == 0))
theorem zm5(sg:Int)(ra:Option Addr)(R rp:Nat)(ba:Option Addr)(B bp:Nat)(cv:Value)(reg tt els:Int)(w:World):Calls Tryz.prog 111 #[agg #[int i64 sg,.slice ra R rp,.slice ba B bp],agg #[cv,int i64 1,int i64 reg,int i64 tt,int i64 els]] w fun e w'=>e=.returned (.bool (qH R B 1 reg tt els))∧zc [] w w':=by
 obtain ⟨W,hW⟩:∃ W,W=(w.alloc (.cells #[int i64 sg,.slice ra R rp,.slice ba B bp] 50)).alloc (.cells #[cv,int i64 1,int i64 reg,int i64 tt,int i64 els] 57):=⟨_,rfl⟩;have k2:zc [] w W:=by rw[hW];exact (zc.alloc [] w _).quiet (zc.alloc [] _ _)
 have hn1:W.heap[w.heap.size]? = some (.cells #[int i64 sg,.slice ra R rp,.slice ba B bp] 50 (0,0)):=by rw[hW];exact ze (zh w _) (zc.alloc [] _ _)
 have hn2:W.heap[w.heap.size+1]? = some (.cells #[cv,int i64 1,int i64 reg,int i64 tt,int i64 els] 57 (0,0)):=by
  have:=zh (w.alloc (.cells #[int i64 sg,.slice ra R rp,.slice ba B bp] 50)) (.cells #[cv,int i64 1,int i64 reg,int i64 tt,int i64 els] 57);rw[World.size_alloc] at this;rw[hW];exact this
 have HN1:=hid hn1;have HN2:=hid hn2;have HIN:=hid fun (k:Int) (n:Nat) (w:World)=>jp k n w;have HQ:=hid (jp reg R);have HWE:=hid hW;have HK:=hid k2;clear k2 hn1 hn2 hW;have HE:Box (qH R B 1 reg tt els=(decide (reg=0) && (inB tt B && decide (els=0)))):=hid rfl;generalize qH R B 1 reg tt els=res at *;go_enter Tryz.func111,Tryz.ntmps111;go_upto_region 1 with fail;rw[← HWE.o];clear HWE;generalize w.heap.size=q at *;have f1:=zd HN1.o 1;have f2:=zd HN1.o 2;have b2:=zd HN2.o 2;generalize inB reg R=rb at *;go_quiet ((go_at_call 109;exact Calls.quiet_of_same (HQ.o _)));have KD:Box (zc [] W (W.drewN nq)):=hid (zc.drewN _ _ _);generalize W.drewN nq=W3 at *;have j2:=ze HN2.o KD.o;have KZ:=hid (HK.o.quiet KD.o);clear f1 f2 b2;have b1:=zd j2 1;have b2:=zd j2 2;have b3:=zd j2 3;have b4:=zd j2 4;clear j2;by_cases h0:reg=0
 case neg=>
  have q0:=neb h0;have HF:Box (res=false):=hid (by rw[HE.o];simp[h0]);clear h0 HE;go_wp2_with fail;go_ret;exact ⟨by rw[HF.o];rfl,KZ.o⟩
 have q0:=eqb h0;by_cases h4:els=0
 case neg=>
  have q4:=neb h4;have HF:Box (res=false):=hid (by rw[HE.o];simp[h4]);clear h0 h4 HE;go_wp2_with fail;go_ret;exact ⟨by rw[HF.o];rfl,KZ.o⟩
 have q4:=eqb h4;have HF:Box (res=inB tt B):=hid (by rw[HE.o];simp[h0,h4]);clear h0 h4 HE;go_wp2_with fail;refine (HIN.o _ _ _).mono ?_;rintro e w5 ⟨rfl,hw5⟩;rw[hw5];clear hw5;go_wp2_with fail;go_ret;exact ⟨by rw[HF.o];rfl,KZ.o⟩
theorem zlI(sg:Int)(ra:Option Addr)(R rp:Nat)(ba:Option Addr)(B bp:Nat)(cv:Value)(reg tt els:Int)(w:World):Calls Tryz.prog 111 #[agg #[int i64 sg,.slice ra R rp,.slice ba B bp],agg #[cv,int i64 2,int i64 reg,int i64 tt,int i64 els]] w fun e w'=>e=.returned (.bool (qH R B 2 reg tt els))∧zc [] w w':=by
 obtain ⟨W,hW⟩:∃ W,W=(w.alloc (.cells #[int i64 sg,.slice ra R rp,.slice ba B bp] 50)).alloc (.cells #[cv,int i64 2,int i64 reg,int i64 tt,int i64 els] 57):=⟨_,rfl⟩;have k2:zc [] w W:=by rw[hW];exact (zc.alloc [] w _).quiet (zc.alloc [] _ _)
 have hn1:W.heap[w.heap.size]? = some (.cells #[int i64 sg,.slice ra R rp,.slice ba B bp] 50 (0,0)):=by rw[hW];exact ze (zh w _) (zc.alloc [] _ _)
 have hn2:W.heap[w.heap.size+1]? = some (.cells #[cv,int i64 2,int i64 reg,int i64 tt,int i64 els] 57 (0,0)):=by
  have:=zh (w.alloc (.cells #[int i64 sg,.slice ra R rp,.slice ba B bp] 50)) (.cells #[cv,int i64 2,int i64 reg,int i64 tt,int i64 els] 57);rw[World.size_alloc] at this;rw[hW];exact this
 have HN1:=hid hn1;have HN2:=hid hn2;have HIN:=hid fun (k:Int) (n:Nat) (w:World)=>jp k n w;have HQ:=hid (jp reg R);have HWE:=hid hW;have HK:=hid k2;clear k2 hn1 hn2 hW;have HE:Box (qH R B 2 reg tt els=(inB reg R && (inB tt B && inB els B))):=hid rfl;generalize qH R B 2 reg tt els=res at *;go_enter Tryz.func111,Tryz.ntmps111;go_upto_region 1 with fail;rw[← HWE.o];clear HWE;generalize w.heap.size=q at *;have f1:=zd HN1.o 1;have f2:=zd HN1.o 2;have b2:=zd HN2.o 2;generalize inB reg R=rb at *;go_quiet ((go_at_call 109;exact Calls.quiet_of_same (HQ.o _)));have KD:Box (zc [] W (W.drewN nq)):=hid (zc.drewN _ _ _);generalize W.drewN nq=W3 at *;have j2:=ze HN2.o KD.o;have KZ:=hid (HK.o.quiet KD.o);clear f1 f2 b2;have b1:=zd j2 1;have b2:=zd j2 2;have b3:=zd j2 3;have b4:=zd j2 4;clear j2;cases rb with
 | false=>
  have HF:Box (res=false):=hid (by rw[HE.o];rfl);clear HE;go_wp2_with fail;go_ret;exact ⟨by rw[HF.o];rfl,KZ.o⟩
 | true=>
  go_wp2_with fail;refine (HIN.o _ _ _).mono ?_;rintro e w5 ⟨rfl,hw5⟩;rw[hw5];clear hw5;have HE2:Box (res=(inB tt B && inB els B)):=hid (by rw[HE.o,Bool.true_and]);clear HE;generalize inB tt B=tb at *;cases tb with
  | false=>
   have HF:Box (res=false):=hid (by rw[HE2.o];rfl);go_wp2_with fail;go_ret;exact ⟨by rw[HF.o];rfl,KZ.o⟩
  | true=>
   have HF:Box (res=inB els B):=hid (by rw[HE2.o];rfl);go_wp2_with fail;refine (HIN.o _ _ _).mono ?_;rintro e w5 ⟨rfl,hw5⟩;rw[hw5];clear hw5;go_wp2_with fail;go_ret;exact ⟨by rw[HF.o];rfl,KZ.o⟩
theorem zmt(sg:Int)(ra:Option Addr)(R rp:Nat)(ba:Option Addr)(B bp:Nat)(cv:Value)(reg tt els:Int)(w:World):Calls Tryz.prog 111 #[agg #[int i64 sg,.slice ra R rp,.slice ba B bp],agg #[cv,int i64 3,int i64 reg,int i64 tt,int i64 els]] w fun e w'=>e=.returned (.bool (qH R B 3 reg tt els))∧zc [] w w':=by
 obtain ⟨W,hW⟩:∃ W,W=(w.alloc (.cells #[int i64 sg,.slice ra R rp,.slice ba B bp] 50)).alloc (.cells #[cv,int i64 3,int i64 reg,int i64 tt,int i64 els] 57):=⟨_,rfl⟩;have k2:zc [] w W:=by rw[hW];exact (zc.alloc [] w _).quiet (zc.alloc [] _ _)
 have hn1:W.heap[w.heap.size]? = some (.cells #[int i64 sg,.slice ra R rp,.slice ba B bp] 50 (0,0)):=by rw[hW];exact ze (zh w _) (zc.alloc [] _ _)
 have hn2:W.heap[w.heap.size+1]? = some (.cells #[cv,int i64 3,int i64 reg,int i64 tt,int i64 els] 57 (0,0)):=by
  have:=zh (w.alloc (.cells #[int i64 sg,.slice ra R rp,.slice ba B bp] 50)) (.cells #[cv,int i64 3,int i64 reg,int i64 tt,int i64 els] 57);rw[World.size_alloc] at this;rw[hW];exact this
 have HN1:=hid hn1;have HN2:=hid hn2;have HIN:=hid fun (k:Int) (n:Nat) (w:World)=>jp k n w;have HQ:=hid (jp reg R);have HWE:=hid hW;have HK:=hid k2;clear k2 hn1 hn2 hW;have HE:Box (qH R B 3 reg tt els=(inB reg R && (decide (tt=0) && decide (els=0)))):=hid rfl;generalize qH R B 3 reg tt els=res at *;go_enter Tryz.func111,Tryz.ntmps111;go_upto_region 1 with fail;rw[← HWE.o];clear HWE;generalize w.heap.size=q at *;have f1:=zd HN1.o 1;have f2:=zd HN1.o 2;have b2:=zd HN2.o 2;generalize inB reg R=rb at *;go_quiet ((go_at_call 109;exact Calls.quiet_of_same (HQ.o _)));have KD:Box (zc [] W (W.drewN nq)):=hid (zc.drewN _ _ _);generalize W.drewN nq=W3 at *;have j2:=ze HN2.o KD.o;have KZ:=hid (HK.o.quiet KD.o);clear f1 f2 b2;have b1:=zd j2 1;have b2:=zd j2 2;have b3:=zd j2 3;have b4:=zd j2 4;clear j2;cases rb with
 | false=>
  have HF:Box (res=false):=hid (by rw[HE.o];rfl);clear HE;go_wp2_with fail;go_ret;exact ⟨by rw[HF.o];rfl,KZ.o⟩
 | true=>
  by_cases h3:tt=0
  case neg=>
   have q3:=neb h3;have HF:Box (res=false):=hid (by rw[HE.o];simp[h3]);clear h3 HE;go_wp2_with fail;go_ret;exact ⟨by rw[HF.o];rfl,KZ.o⟩
  have q3:=eqb h3
  have HF:Box (res=(els == 0)):=hid (by
   rw[HE.o,h3]
   by_cases e:els=0 <;> simp[e])
  clear h3 HE;go_wp2_with fail;go_ret;exact ⟨by rw[HF.o];rfl,KZ.o⟩
theorem zlg(sg:Int)(ra:Option Addr)(R rp:Nat)(ba:Option Addr)(B bp:Nat)(cv:Value)(reg tt els:Int)(w:World)(fin:Int)(h1:fin≠1)(h2:fin≠2)(h3:fin≠3):Calls Tryz.prog 111 #[agg #[int i64 sg,.slice ra R rp,.slice ba B bp],agg #[cv,int i64 fin,int i64 reg,int i64 tt,int i64 els]] w fun e w'=>e=.returned (.bool (qH R B fin reg tt els))∧zc [] w w':=by
 obtain ⟨W,hW⟩:∃ W,W=(w.alloc (.cells #[int i64 sg,.slice ra R rp,.slice ba B bp] 50)).alloc (.cells #[cv,int i64 fin,int i64 reg,int i64 tt,int i64 els] 57):=⟨_,rfl⟩;have k2:zc [] w W:=by rw[hW];exact (zc.alloc [] w _).quiet (zc.alloc [] _ _)
 have hn1:W.heap[w.heap.size]? = some (.cells #[int i64 sg,.slice ra R rp,.slice ba B bp] 50 (0,0)):=by rw[hW];exact ze (zh w _) (zc.alloc [] _ _)
 have hn2:W.heap[w.heap.size+1]? = some (.cells #[cv,int i64 fin,int i64 reg,int i64 tt,int i64 els] 57 (0,0)):=by
  have:=zh (w.alloc (.cells #[int i64 sg,.slice ra R rp,.slice ba B bp] 50)) (.cells #[cv,int i64 fin,int i64 reg,int i64 tt,int i64 els] 57);rw[World.size_alloc] at this;rw[hW];exact this
 have HN1:=hid hn1;have HN2:=hid hn2;have HIN:=hid fun (k:Int) (n:Nat) (w:World)=>jp k n w;have HQ:=hid (jp reg R);have HWE:=hid hW;have HK:=hid k2;clear k2 hn1 hn2 hW;have HE:Box (qH R B fin reg tt els=false):=hid (by unfold qH;rw[if_neg h1,if_neg h2,if_neg h3]);have o1:=neb h1;have o2:=neb h2;have o3:=neb h3;clear h1 h2 h3;generalize qH R B fin reg tt els=res at *;go_enter Tryz.func111,Tryz.ntmps111;go_upto_region 1 with fail;rw[← HWE.o];clear HWE;generalize w.heap.size=q at *;have f1:=zd HN1.o 1;have f2:=zd HN1.o 2;have b2:=zd HN2.o 2;generalize inB reg R=rb at *;go_quiet ((go_at_call 109;exact Calls.quiet_of_same (HQ.o _)));have KD:Box (zc [] W (W.drewN nq)):=hid (zc.drewN _ _ _);generalize W.drewN nq=W3 at *;have j2:=ze HN2.o KD.o;have KZ:=hid (HK.o.quiet KD.o);clear f1 f2 b2;have b1:=zd j2 1;have b2:=zd j2 2;have b3:=zd j2 3;have b4:=zd j2 4;clear j2;go_wp2_with fail;go_ret;exact ⟨by rw[HE.o];rfl,KZ.o⟩
theorem ziS(sg:Int)(ra:Option Addr)(R rp:Nat)(ba:Option Addr)(B bp:Nat)(cv:Value)(fin reg tt els:Int)(w:World):Calls Tryz.prog 111 #[agg #[int i64 sg,.slice ra R rp,.slice ba B bp],agg #[cv,int i64 fin,int i64 reg,int i64 tt,int i64 els]] w fun e w'=>e=.returned (.bool (qH R B fin reg tt els))∧zc [] w w':=by
 by_cases h1:fin=1
 ·subst h1;exact zm5 sg ra R rp ba B bp cv reg tt els w
 by_cases h2:fin=2
 ·subst h2;exact zlI sg ra R rp ba B bp cv reg tt els w
 by_cases h3:fin=3
 ·subst h3;exact zmt sg ra R rp ba B bp cv reg tt els w
 exact zlg sg ra R rp ba B bp cv reg tt els w fin h1 h2 h3
section
variable {P:Program}{ops:Array Oper}{Q:Exit→Act→World→Prop}{S:World→Prop}{E:Array Bool→World→Prop}
def zc1 (P : Program) (ops : Array Oper) (A : Act) (S : World → Prop) (E : Array Bool → World → Prop) (i : Nat) (o : Oper) (v : Value) : Prop :=
  (Region.wanted o (yielded ops A.tmps) = true ∧ ∀ l w, i < l.size → S w → E l w →
    ((∃ w', (execOp A.eval o).run P w = .ok (.value v) w' ∧ S w' ∧ E (l.setIfInBounds i true) w') ∨
     (∃ w', (execOp A.eval o).run P w = .ok .skip w' ∧ v = undef ∧ S w' ∧ E (l.setIfInBounds i true) w') ∨
     (∃ f args, (execOp A.eval o).run P w = .ok (.enter f args) w ∧ Calls P f args w fun e w' => e = .returned v ∧ S w' ∧ E (l.setIfInBounds i true) w'))) ∨
  (Region.wanted o (yielded ops A.tmps) = false ∧ v = undef ∧ ∀ l w, S w → E l w → E (l.setIfInBounds i true) w)
theorem JN{A:Act}{i:Nat}{o:Oper}{v:Value}(hw:Region.wanted o (yielded ops A.tmps)=true)(hE:∀ l w,E l w→E (l.setIfInBounds i true) w)(h:∀ w,S w→(execOp A.eval o).run P w=.ok (.value v) w):zc1 P ops A S E i o v:=
 .inl ⟨hw,fun l w _ hs he=>.inl ⟨w,h w hs,hs,hE l w he⟩⟩
theorem Qe{A:Act}{i:Nat}{o:Oper}(hw:Region.wanted o (yielded ops A.tmps)=false)(hE:∀ l w,E l w→E (l.setIfInBounds i true) w):zc1 P ops A S E i o undef:=.inr ⟨hw,rfl,fun l w _ he=>hE l w he⟩
theorem Qc{A:Act}{i:Nat}{o:Oper}(hw:Region.wanted o (yielded ops A.tmps)=true)(h:∀ l w,i<l.size→S w→E l w→∃ w',(execOp A.eval o).run P w=.ok .skip w'∧S w'∧E (l.setIfInBounds i true) w'):zc1 P ops A S E i o undef:=
 .inl ⟨hw,fun l w hi hs he=>by
  obtain ⟨w',h1,h2,h3⟩:=h l w hi hs he
  exact .inr (.inl ⟨w',h1,rfl,h2,h3⟩)⟩
theorem Qf{A:Act}{i:Nat}{o:Oper}{v:Value}(hw:Region.wanted o (yielded ops A.tmps)=true)(f:Nat)(args:Array Value)(he:∀ w,(execOp A.eval o).run P w=.ok (.enter f args) w)
  (hc:∀ l w,i<l.size→S w→E l w→Calls P f args w fun e w'=>e=.returned v∧S w'∧E (l.setIfInBounds i true) w'):zc1 P ops A S E i o v:=
 .inl ⟨hw,fun l w hi hs hE=>.inr (.inr ⟨f,args,he w,hc l w hi hs hE⟩)⟩
def zC(P:Program)(ops:Array Oper)(A:Act)(S:World→Prop)(E:Array Bool→World→Prop):Nat→List Oper→List Value→Prop
 | i,o :: os,v :: vs=>zc1 P ops A S E i o v∧zC P ops A S E (i+1) os vs
 | _,[],[]=>True
 | _,_,_=>False
theorem zC.cons{A:Act}{i:Nat}{o:Oper}{v:Value}{os:List Oper}{vs:List Value}(h:zc1 P ops A S E i o v)(t:zC P ops A S E (i+1) os vs):zC P ops A S E i (o :: os) (v :: vs):=⟨h,t⟩
theorem gER{A:Act}{i:Nat}{o:Oper}{v:Value}{os:List Oper}{vs:List Value}(t:zC P ops A S E (i+1) os vs)(hE:∀ l w,E l w→E (l.setIfInBounds i true) w:=by exact fun _ _ h=>h.keep (by decide))(h:∀ w,S w→(execOp A.eval o).run P w=.ok (.value v) w:=by exact fun _ _=>rfl)(hw:Region.wanted o (yielded ops A.tmps)=true:=by rfl):zC P ops A S E i (o :: os) (v :: vs):=⟨JN hw hE h,t⟩
theorem gEY{A:Act}{i:Nat}{o:Oper}{v:Value}{os:List Oper}{vs:List Value}(h:∀ w,S w→(execOp A.eval o).run P w=.ok (.value v) w)(t:zC P ops A S E (i+1) os vs)(hE:∀ l w,E l w→E (l.setIfInBounds i true) w:=by exact fun _ _ h=>h.keep (by decide))(hw:Region.wanted o (yielded ops A.tmps)=true:=by rfl):zC P ops A S E i (o :: os) (v :: vs):=⟨JN hw hE h,t⟩
theorem zC.nil{A:Act}{i:Nat}:zC P ops A S E i [] []:=trivial
theorem zC.at{A:Act}:∀ {os:List Oper}{vs:List Value}{i:Nat},zC P ops A S E i os vs→∀ {k:Nat}{o:Oper},os[k]? = some o→∃ v,vs[k]? = some v∧zc1 P ops A S E (i+k) o v
 | [],_,_,_,k,o,ho=>by simp at ho
 | _ :: _,[],_,h,_,_,_=>by cases h
 | o :: os,v :: vs,i,h,0,o',ho=>by
  simp at ho;subst ho;exact ⟨v,rfl,h.1⟩
 | o :: os,v :: vs,i,h,k+1,o',ho=>by
  obtain ⟨u,hu,hg⟩:=zC.at h.2 (k:=k) (by simpa using ho);exact ⟨u,by simpa using hu,by rw[show i+(k+1)=i+1+k by omega];exact hg⟩
structure znQ (ops:Array Oper) (S:World→Prop) (E:Array Bool→World→Prop) (a A:Act) (l:Array Bool) (a':Act) (w:World):Prop where
 size:l.size=ops.size
 kept:S w
 told:E l w
 sz:a'.tmps.size=a.tmps.size
 df:a'.defers=a.defers
 on:∀ (i:Nat) (oi:Oper) (d:Nat),ops[i]? = some oi→oi.dst=some d→l.getD i false=true→a'.tmps[d]? = A.tmps[d]?
 off:∀ d:Nat,(∀ (i:Nat) (oi:Oper),ops[i]? = some oi→oi.dst=some d→l.getD i false=false)→a'.tmps[d]? = a.tmps[d]?
theorem jy{id:Nat}{a:Act}{w:World}(S:World→Prop)(E:Array Bool→World→Prop)(n:Nat)(vs:List Value)(hm:P.follows .mixedOrders=true)(hn:a.tmps.size=n)(hok:zbJ ops n=true)(hk:S w.drew)(he:E (Array.replicate ops.size false) w.drew)
  (h:∀ A,zv ops.toList vs a=A→zC P ops A S E 0 ops.toList vs∧∀ l w',(∀ i,i<ops.size→l.getD i false=true)→S w'→E l w'→Q .normal A w'):(Code.region id ops true).wp P Q a w:=by
 obtain ⟨A,hA⟩:∃ A,zv ops.toList vs a=A:=⟨_,rfl⟩;obtain ⟨hg,hQ⟩:=h A hA;unfold zbJ at hok;rw[Bool.and_eq_true,Bool.and_eq_true] at hok;obtain ⟨hsel,hp,hall⟩:=hok;have pair:∀ (i j:Nat) (oi oj:Oper),ops[i]? = some oi→ops[j]? = some oj→qD ops n i j=true:=fun i j oi oj hi hj=>by
  have h1:=List.all_eq_true.1 hp i (List.mem_range.2 (Array.getElem?_eq_some_iff.1 hi).1);exact List.all_eq_true.1 h1 j (List.mem_range.2 (Array.getElem?_eq_some_iff.1 hj).1)
 have dist:∀ (i j:Nat) (oi oj:Oper) (d:Nat),ops[i]? = some oi→ops[j]? = some oj→i≠j→oi.dst=some d→oj.dst≠some d:=fun i j oi oj d hi hj hij hd he=>by
  have:=pair i j oi oj hi hj;unfold qD at this;rw[hi,hj] at this;simp[hij,hd,he] at this
 have lt:∀ (i:Nat) (oi:Oper) (d:Nat),ops[i]? = some oi→oi.dst=some d→d<n:=fun i oi d hi hd=>by
  have:=pair i i oi oi hi hi;unfold qD at this;rw[hi] at this;simp only[hd,Bool.and_eq_true,decide_eq_true_eq] at this;exact this.2.1
 have waits:∀ (i j:Nat) (oi oj:Oper) (d:Nat),ops[i]? = some oi→ops[j]? = some oj→oj.dst=some d→d∈oi.looksAt ops→oi.after.any (fun e=>Region.binds .any e && e.on == j)=true:=fun i j oi oj d hi hj hd hm=>by
  have:=pair i j oi oj hi hj;unfold qD at this;rw[hi,hj] at this;simp only[hd,Bool.and_eq_true,Bool.or_eq_true,Bool.not_eq_true',decide_eq_true_eq] at this;rcases this.2.2 with h0 | h0
  ·rw[List.contains_iff_mem.2 hm] at h0
   cases h0
  ·exact h0
 have aOther:∀ d:Nat,(∀ (i:Nat) (oi:Oper),ops[i]? = some oi→oi.dst≠some d)→A.tmps[d]? = a.tmps[d]? := fun d hd=>by
  rw[← hA];exact jb _ _ _ (fun k o ho=>hd k o (by rw[← Array.getElem?_toList];exact ho))
 have aAt:∀ (i:Nat) (oi:Oper) (d:Nat) (v:Value),ops[i]? = some oi→oi.dst=some d→vs[i]? = some v→A.tmps[d]? = some v:=fun i oi d v hi hd hv=>by
  rw[← hA];exact ZY _ _ _ i (by rw[Array.getElem?_toList];exact hi) hv hd (by rw[hn];exact lt i oi d hi hd) (fun j oj hj ho=>dist i j oi oj d hi (by rw[← Array.getElem?_toList];exact ho) (Ne.symm hj) hd)
 refine wp_region_held_drew (S:=S) hm hk (fun hS=> ?_);refine jJ (znQ ops S E a A) (fun _ _ _ h=>h.kept) (fun l a' w' hI hr=> ?_) (fun l a' w' i hI hr=> ?_) _ _ _ _ ?_ ?_
 ·have hl:=Zk (md:=.any) (ops:=ops) hI.size hr hall
  have e:a'=A:=by
   have ht:a'.tmps=A.tmps:=by
    apply Array.ext_getElem?;intro d;by_cases hx:∃ (i:Nat) (oi:Oper),ops[i]? = some oi∧oi.dst=some d
    ·obtain ⟨i,oi,hi,hd⟩:=hx
     exact hI.on i oi d hi hd (hl i (Array.getElem?_eq_some_iff.1 hi).1)
    ·have hno:∀ (i:Nat) (oi:Oper),ops[i]? = some oi→oi.dst≠some d:=fun i oi hi hd=>hx ⟨i,oi,hi,hd⟩
     rw[hI.off d (fun i oi hi hd=>absurd hd (hno i oi hi)),aOther d hno]
   have hdf:a'.defers=A.defers:=by rw[hI.df, ← hA,jj]
   cases a';cases A;simp only at ht hdf;rw[ht,hdf]
  rw[e];exact hQ l w' hl hI.kept hI.told
 ·obtain ⟨hun,oi,hi,hw8⟩:=mem_ready.1 hr
  have hil:i<l.size:=by rw[hI.size];exact (Array.getElem?_eq_some_iff.1 hi).1
  obtain ⟨v,hv,hgv⟩:=hg.at (k:=i) (by rw[Array.getElem?_toList];exact hi);rw[Nat.zero_add] at hgv;have agree:∀ t,t∈oi.looksAt ops→a'.tmps[t]? = A.tmps[t]? := fun t ht=>by
   by_cases hx:∃ (j:Nat) (oj:Oper),ops[j]? = some oj∧oj.dst=some t
   ·obtain ⟨j,oj,hj,hd⟩:=hx
    have:=waits i j oi oj t hi hj hd ht;rw[Array.any_eq_true'] at this;obtain ⟨e,he,h1⟩:=this;rw[Bool.and_eq_true,beq_iff_eq] at h1;have h2:=hw8 e he h1.1;rw[h1.2] at h2;exact hI.on j oj t hj hd h2
   ·have hno:∀ (i:Nat) (oi:Oper),ops[i]? = some oi→oi.dst≠some t:=fun i oi hi hd=>hx ⟨i,oi,hi,hd⟩
    rw[hI.off t (fun i oi hi hd=>absurd hd (hno i oi hi)),aOther t hno]
  have hex:execOp a'.eval oi=execOp A.eval oi:=execOp_congr oi (fun cs b=>by
    exact Region.noSelect_spec hsel i oi cs b hi) (fun x hx=>by
   cases x with
   | tmp t=>
    have:=agree t (List.mem_append_left _ (List.mem_filterMap.2 ⟨.tmp t,by simpa using hx,rfl⟩));simp only[Act.eval,Array.getD_eq_getD_getElem?,this]
   | const v=>rfl
   | global g=>rfl
   | func f=>rfl)
  have hwt:Region.wanted oi (yielded ops a'.tmps)=Region.wanted oi (yielded ops A.tmps):=by
   unfold Region.wanted;cases hgd:oi.guard with
   | none=>rfl
   | some gw=>
    obtain ⟨g,want⟩:=gw;have hy:yielded ops a'.tmps g=yielded ops A.tmps g:=by
     unfold yielded;cases ht:(ops[g]?).bind (·.dst) with
     | none=>rfl
     | some t=>
      have:=agree t (by simp[Oper.looksAt,hgd,ht]);simp[this]
    simp only[hy]
  have next:∀ w2,S w2→E (l.setIfInBounds i true) w2→znQ ops S E a A (l.setIfInBounds i true) (a'.put oi.dst v) w2:=fun w2 k2 e2=>by
   refine ⟨by simpa using hI.size,k2,e2,by rw[Qj,hI.sz],by rw[Zi,hI.df],fun j oj d hj hd hl=> ?_,fun d hd=> ?_⟩
   ·by_cases hij:i=j
    ·subst hij
     rw[hi] at hj;cases hj;rw[hd,zbO (by rw[hI.sz,hn];exact lt i oi d hi hd),aAt i oi d v hi hd hv]
    ·rw[jl (dist j i oj oi d hj hi (Ne.symm hij) hd)]
     rw[zL hij] at hl;exact hI.on j oj d hj hd hl
   ·have h1:oi.dst≠some d:=fun e=>by
     have:=hd i oi hi e;rw[qf hil] at this;cases this
    rw[jl h1];refine hI.off d (fun j oj hj hdj=> ?_);have:=hd j oj hj hdj;by_cases hij:i=j
    ·subst hij
     rw[hi] at hj;cases hj;exact absurd hdj h1
    ·rw[zL hij] at this
     exact this
  refine wpOp_step hi (fun K' hK=> ?_);rw[hwt];rcases hgv with ⟨hw1,hr1⟩ | ⟨hw1,rfl,hpass⟩
  ·rw[if_pos hw1]
   unfold Oper.wp;rw[hex];rcases hr1 l w' hil hI.kept hI.told with ⟨w2,he,k2,e2⟩ | ⟨w2,he,rfl,k2,e2⟩ | ⟨f,args,he,hc⟩
   ·rw[he]
    exact hK _ _ (next w2 k2 e2)
   ·rw[he]
    exact hK _ _ (next w2 k2 e2)
   ·rw[he]
    simp only[Oper.upon];refine Calls.mono hc (fun e w2=> ?_);rintro ⟨rfl,k2,e2⟩;exact hK _ _ (next w2 k2 e2)
  ·rw[if_neg (by rw[hw1];simp)]
   exact hK _ _ (next w' hI.kept (hpass l w' hI.kept hI.told))
 ·refine ⟨by simp,hS,he,rfl,rfl,fun i oi d hi hd hl=> ?_,fun d hd=>rfl⟩
  exfalso;rw[Array.getD_eq_getD_getElem?] at hl;by_cases hlt:i<ops.size
  ·rw[Array.getElem?_replicate,if_pos hlt] at hl
   cases hl
  ·rw[Array.getElem?_replicate,if_neg hlt] at hl
   cases hl
 ·unfold left
  exact Nat.le_trans List.countP_le_length (by simp)
end
theorem zbs{a b:Int}{r:Bool}(ho:oi.op=.binOp .lss 3 x y 3)(hx:ev x=int i64 a)(hy:ev y=int i64 b)(hr:decide (a<b)=r):(execOp ev oi).run Tryz.prog w=.ok (.value (.bool r)) w:=by
 simp[execOp,ho,hx,hy,go_sem,hr]
theorem zap(v u t:Value)(w:World):(callFunc 110 #[v,u,t]).run Tryz.prog w=.ok (.enter 110 #[v,u,t]) w:=by go_simp
theorem Jt(v u:Value)(w:World):(callFunc 111 #[v,u]).run Tryz.prog w=.ok (.enter 111 #[v,u]) w:=by go_simp
theorem ZM{ad:Addr}(hc:w.cell? ad=some v)(ho:oi.op=.load 48 y)(hy:ev y=.pointer (some ad)):(execOp ev oi).run Tryz.prog w=.ok (.value v) w:=by simp[execOp,ho,hy,go_sem,hc]
theorem Zu{ad:Addr}(hc:w.cell? ad=some v)(ho:oi.op=.load 55 y)(hy:ev y=.pointer (some ad)):(execOp ev oi).run Tryz.prog w=.ok (.value v) w:=by simp[execOp,ho,hy,go_sem,hc]
theorem zmr{o:Nat}{v0 v1 v2 v3 v4:Value}(h0:w.cell? ⟨b,o+0,none⟩=some v0)(h1:w.cell? ⟨b,o+1,none⟩=some v1)(h2:w.cell? ⟨b,o+2,none⟩=some v2)(h3:w.cell? ⟨b,o+3,none⟩=some v3)(h4:w.cell? ⟨b,o+4,none⟩=some v4)(ho:oi.op=.load 57 y)(hy:ev y=pointer (some ⟨b,o,none⟩)):(execOp ev oi).run Tryz.prog w=.ok (.value (agg #[v0,v1,v2,v3,v4])) w:=by
 rw[Nat.add_zero] at h0;simp[execOp,ho,hy,go_sem,h0,h1,h2,h3,h4]
theorem ZZ{o j:Nat}(ho:oi.op=.indexAddr 48 x y)(hx:ev x=.slice (some ⟨b,o,none⟩) n c)(hy:ev y=int i64 (j:Int))(hj:(j:Int)<(n:Int)):(execOp ev oi).run Tryz.prog w=.ok (.value (pointer (some ⟨b,o+j * 5,none⟩))) w:=by
 simp[execOp,ho,hx,hy,go_sem];intro h';omega
theorem zgL{o j:Nat}(ho:oi.op=.indexAddr 55 x y)(hx:ev x=.slice (some ⟨b,o,none⟩) n c)(hy:ev y=int i64 (j:Int))(hj:(j:Int)<(n:Int)):(execOp ev oi).run Tryz.prog w=.ok (.value (pointer (some ⟨b,o+j * 6,none⟩))) w:=by
 simp[execOp,ho,hx,hy,go_sem];intro h';omega
theorem Z4(ho:oi.op=.call { callee:=.builtin .len,args:=#[x],argTypes:=#[55] })(hx:ev x=.slice a n c):(execOp ev oi).run Tryz.prog w=.ok (.value (int i64 (n:Int))) w:=by
 obtain ⟨dst,op,type,pos,after,guard⟩:=oi;simp only at ho;subst ho;simp[hx,go_sem]
theorem zkb(ho:oi.op=.call { callee:=.builtin .len,args:=#[x],argTypes:=#[43] })(hx:ev x=.slice a n c):(execOp ev oi).run Tryz.prog w=.ok (.value (int i64 (n:Int))) w:=by
 obtain ⟨dst,op,type,pos,after,guard⟩:=oi;simp only at ho;subst ho;simp[hx,go_sem]
theorem zdY{P:Program}{f:Nat}{ts:Array TypeId}(ho:oi.op=.call { callee:=.value (.func f),args:=#[],argTypes:=ts })(hf:ev (.func f)=.func (.func f) #[] #[])(hc:(callFunc f #[]).run P w=.ok (.enter f #[]) w):(execOp ev oi).run P w=.ok (.enter f #[]) w:=by
 simp[execOp,ho,hf,go_sem,hc]
theorem Z9(w:World):(callFunc 75 #[]).run Tryz.prog w=.ok (.enter 75 #[]) w:=by go_simp
theorem ziA(v u:Value)(w:World):(callFunc 109 #[v,u]).run Tryz.prog w=.ok (.enter 109 #[v,u]) w:=by go_simp
theorem zlB{z0 z1 z2:Value}{u0 u1 u2:Int}{z:Operand}(h:w.heap[q]? = some (.cells #[z0,z1,z2] 99 (0,0)))(ho:oi.op=.store 99 y z)(hy:ev y=pointer (some ⟨q,0,none⟩))(hz:ev z=agg #[int i64 u0,int i64 u1,int i64 u2]):(execOp ev oi).run Tryz.prog w=.ok .skip (((w.setCell ⟨q,0,none⟩ (int i64 u0)).setCell ⟨q,1,none⟩ (int i64 u1)).setCell ⟨q,2,none⟩ (int i64 u2)):=by
 have y0:=zi h 0;have y1:=zi h 1;have y2:=zi h 2;have x0:=zd h 0;have x1:=zd h 1;have x2:=zd h 2;simp[execOp,ho,hy,hz,go_sem,y0,y1,y2,x0,x1,x2]
def ptE(q:Nat)(l:Array Bool)(w:World):Prop:=w.heap[q]? = some (.cells (bif l.getD 11 false then #[int i64 (-1),int i64 0,int i64 0] else #[int i64 0,int i64 0,int i64 0]) 99 (0,0))
theorem ptE.keep(h:ptE q l w)(hi:i≠11):ptE q (l.setIfInBounds i true) w:=by
 unfold ptE;rw[zL hi];exact h
theorem ptE.quiet{w':World}(h:ptE q l w)(k:zc [] w w'):ptE q l w':=ze h k
theorem ptE.put(h:ptE q l w)(hi:11<l.size){z:Operand}(ho:oi.op=.store 99 y z)(hy:ev y=pointer (some ⟨q,0,none⟩))(hz:ev z=agg #[int i64 (-1),int i64 0,int i64 0]):(execOp ev oi).run Tryz.prog w=.ok .skip (((w.setCell ⟨q,0,none⟩ (int i64 (-1))).setCell ⟨q,1,none⟩ (int i64 0)).setCell ⟨q,2,none⟩ (int i64 0))∧ptE q (l.setIfInBounds 11 true) (((w.setCell ⟨q,0,none⟩ (int i64 (-1))).setCell ⟨q,1,none⟩ (int i64 0)).setCell ⟨q,2,none⟩ (int i64 0)):=by
 unfold ptE at h ⊢;rw[qf hi];cases hl:l.getD 11 false with
 | true=>
  rw[hl] at h;exact ⟨zlB h ho hy hz,jZ h _ _ _⟩
 | false=>
  rw[hl] at h;exact ⟨zlB h ho hy hz,jZ h _ _ _⟩
theorem ptE.put2(h:ptE q l w)(hi:11<l.size):ptE q (l.setIfInBounds 11 true) (((w.setCell ⟨q,0,none⟩ (int i64 (-1))).setCell ⟨q,1,none⟩ (int i64 0)).setCell ⟨q,2,none⟩ (int i64 0)):=by
 unfold ptE at h ⊢;rw[qf hi];cases hl:l.getD 11 false with
 | true=>
  rw[hl] at h;exact jZ h _ _ _
 | false=>
  rw[hl] at h;exact jZ h _ _ _
theorem ptE.all(h:ptE q l w)(hl:l.getD 11 false=true):w.heap[q]? = some (.cells #[int i64 (-1),int i64 0,int i64 0] 99 (0,0)):=by
 unfold ptE at h;rw[hl] at h;exact h
theorem ptE.start(h:w.heap[q]? = some (.cells #[int i64 0,int i64 0,int i64 0] 99 (0,0))):ptE q (Array.replicate n false) w:=by
 unfold ptE;have:(Array.replicate n false).getD 11 false=false:=by
  rw[Array.getD_eq_getD_getElem?,Array.getElem?_replicate];split <;> rfl
 rw[this];exact h
def zau{α:Type}(l:List α)(g:α→Bool)(k:Nat):Bool:=(l.take k).all g
theorem jm{α:Type}(l:List α)(g:α→Bool):zau l g 0=true:=by unfold zau;simp
theorem jn{α:Type}{l:List α}{g:α→Bool}{k:Nat}{y:α}(hy:l[k]? = some y):zau l g (k+1)=(zau l g k && g y):=by
 unfold zau;rw[List.take_add_one,hy];simp
theorem jo{α:Type}{l:List α}{g:α→Bool}{k:Nat}(h:k=l.length):zau l g k=l.all g:=by unfold zau;rw[h,List.take_length]
theorem zks(h:PrC w pb po P){f:Nat}(hf:f<P.funcs.length)(x:In8)(hz:zw w a x.args)(hl:x.args.length≤1000)(r:Bool)
  (H:zW P (zf P f) x=true→∀ (fb fo:Nat) (w':World),zc [] w w'→PrC w' pb po P→FuC w' fb fo (zf P f)→Calls Tryz.prog 241 #[pointer (some ⟨pb,po,none⟩),pointer (some ⟨fb,fo,none⟩),z8 x (.slice a x.args.length cp)] w' fun e w2=>e=.returned (.bool r)∧zc [] w' w2):
  Calls Tryz.prog 197 #[pointer (some ⟨pb,po,none⟩),int i64 (f:Int),z8 x (.slice a x.args.length cp)] w fun e w'=>e=.returned (.bool (zW P (zf P f) x && (rtB P (zf P f) x && r)))∧zc [] w w':=by
 obtain ⟨fa,fp,c4,r4,_⟩:=h.c4;obtain ⟨fb,fo,rfl,hfu0⟩:=r4.at (zg (d:=⟨0,[],[]⟩) hf);have hfu:FuC w fb (fo+f * 3) (zf P f):=hfu0;have ka:=zc.alloc [] w (.cells #[int i64 x.op,int i64 x.dst,int i64 x.a,int i64 x.b,int i64 x.n,.slice a x.args.length cp] 54);have hn:=zh w (.cells #[int i64 x.op,int i64 x.dst,int i64 x.a,int i64 x.b,int i64 x.n,.slice a x.args.length cp] 54);have HW:=hid fun (w':World)=>z6 (f:Int) P.funcs.length w';rw[zcP (by omega) (by omega)] at HW;have H0:=hid fun (w':World) (k:zc [] w w')=>zhr (cp:=cp) (PrC.stays _ _ _ _ _ k h) (FuC.stays _ _ _ _ _ k hfu) x (hz.kept k (fun _ _ _=>by simp)) hl;have H1:=hid fun (w':World) (k:zc [] w w')=>zeN (cp:=cp) (PrC.stays _ _ _ _ _ k h) (FuC.stays _ _ _ _ _ k hfu) x (hz.kept k (fun _ _ _=>by simp)) hl;have H2:=hid fun (hok:zW P (zf P f) x=true) (w':World) (k:zc [] w w')=>H hok fb (fo+f * 3) w' k (PrC.stays _ _ _ _ _ k h) (FuC.stays _ _ _ _ _ k hfu);have IN:Box (∀ w',zc [] (w.alloc (.cells #[int i64 x.op,int i64 x.dst,int i64 x.a,int i64 x.b,int i64 x.n,.slice a x.args.length cp] 54)) w'→InW w' w.heap.size x (.slice a x.args.length cp)):=hid fun w' k=>by
  have:=ze hn k;exact ⟨zd this 0,zd this 1,zd this 2,zd this 3,zd this 4,zd this 5⟩
 have KA:=hid ka;have c4':=za ka c4;have hf':(f:Int)<(P.funcs.length:Int):=by omega
 clear h r4 hfu0 hfu ka hn hz hl H c4 hf;unfold z8 at *;generalize rtB P (zf P f) x=r1 at *;generalize zW P (zf P f) x=r0 at *;generalize P.funcs.length=FN at *;go_enter Tryz.func197,Tryz.ntmps197;go_upto_region 1 with fail;generalize w.alloc (.cells #[int i64 x.op,int i64 x.dst,int i64 x.a,int i64 x.b,int i64 x.n,.slice a x.args.length cp] 54)=WA at *;generalize w.heap.size=q at *;obtain ⟨d0,d1,d2,d3,d4,d5⟩:=IN.o _ (zc.refl _ _);go_wp2_with fail;refine (HW.o _).mono ?_;rintro e w1 ⟨rfl,hw1⟩;rw[hw1];clear hw1;go_wp2_with fail;refine (H0.o _ KA.o).mono ?_;rintro e w5 ⟨rfl,k5⟩;have K5:=hid (KA.o.quiet k5);have KW5:=hid k5;clear d0 d1 d2 d3 d4 d5 k5;cases r0 with
 | false=>
  clear H2;go_wp2_with fail;go_ret;exact ⟨rfl,K5.o⟩
 | true=>
  obtain ⟨d0,d1,d2,d3,d4,d5⟩:=IN.o _ KW5.o;go_wp2_with fail;refine (H1.o _ K5.o).mono ?_;rintro e w2 ⟨rfl,k2⟩;have K2:=hid (K5.o.quiet k2);clear d0 d1 d2 d3 d4 d5;cases r1 with
  | false=>
   clear k2 H2;go_wp2_with fail;go_ret;exact ⟨rfl,K2.o⟩
  | true=>
   obtain ⟨d0,d1,d2,d3,d4,d5⟩:=IN.o _ (KW5.o.quiet k2);clear k2;go_wp2_with fail;refine (H2.o trivial _ K2.o).mono ?_;rintro e w3 ⟨rfl,k3⟩;have K3:=hid (K2.o.quiet k3);clear k3 H2;go_wp2_with fail;go_ret;exact ⟨by cases r <;> rfl,K3.o⟩
def jr(P:Pr8)(f:Fu8)(x:In8):Bool:=
 if x.op=1 then ((zq f x.dst).1 == 0) else
 if x.op=2 then ((zq f x.a).1 == 0 && ((zq f x.b).1 == 0 && (zq f x.dst).1 == 0)) else
 if x.op=3 then ((zq f x.dst).1 == 0) else
 if x.op=4 then ((zq f x.dst).1 != 0) else
 if x.op=5 then ((zq f x.dst).1 == 1) else
 if x.op=6 then (tyE (zq f x.dst) (zq f x.a)) else
 if x.op=7 then (match qd P (zq f x.a) x.n with | none=>false | some t=>tyE t (zq f x.dst)) else
 if x.op=8 then (match qd P (zq f x.a) x.n with | none=>false | some t=>tyE t (zq f x.b)) else
 if x.op=9 then ((zq f x.a).1 == 1) else
 if x.op=10 then (tyE (zq f x.dst) (2,(zf P x.n.toNat).sig)) else
 if x.op=11 then ((zq f x.dst).1 == 3 && ((zq f x.a).1 == 1 && Jf P (zq f x.a).2 (zq f x.dst).2)) else
 if x.op=12 then (match (Qp P (zf P x.n.toNat).sig) with | none=>false | some s=>qL f x.args s.1 && tyE s.2 (zq f x.dst)) else
 if x.op=13 then (match (if (zq f x.a).1=2 then Qp P (zq f x.a).2 else none) with | none=>false | some s=>qL f x.args s.1 && tyE s.2 (zq f x.dst)) else
 if x.op=14 then (match (jM P (zq f x.a) x.n) with | none=>false | some s=>qL f x.args s.1 && tyE s.2 (zq f x.dst)) else
 if x.op=15 then ((zq f x.a).1 == 0) else
 false
theorem zd9{x:In8}(h:zW P f x=true):1≤x.op∧x.op≤15:=by
 unfold zW zp at h;rw[Bool.and_eq_true,Bool.and_eq_true] at h;exact of_decide_eq_true h.1.1
theorem zfc{x:In8}(h:zW P f x=true):qN P f x=true:=by
 unfold zW at h;rw[Bool.and_eq_true,Bool.and_eq_true] at h;exact h.2.2
theorem zd6{x:In8}(h:zW P f x=true)(hop:x.op=10∨x.op=12):inB x.n P.funcs.length=true:=by
 have:=zfc h;unfold qN at this;rw[if_pos hop] at this;exact this
theorem zio(h:PrC w pb po P){f:Nat}(hf:f<P.funcs.length)(x:In8)(hz:zw w a x.args)(hl:x.args.length≤1000):Calls Tryz.prog 197 #[pointer (some ⟨pb,po,none⟩),int i64 (f:Int),z8 x (.slice a x.args.length cp)] w fun e w'=>e=.returned (.bool (zW P (zf P f) x && (rtB P (zf P f) x && jr P (zf P f) x)))∧zc [] w w':=
 zks h hf x hz hl _ fun hok fb fo w' k hp hfu=>by
  have h15:=zd9 hok;have hc:x.op=1∨x.op=2∨x.op=3∨x.op=4∨x.op=5∨x.op=6∨x.op=7∨x.op=8∨x.op=9∨x.op=10∨x.op=11∨x.op=12∨x.op=13∨x.op=14∨x.op=15:=by omega
  have hz':=hz.kept k (fun _ _ _=>by simp);rcases hc with e | e | e | e | e | e | e | e | e | e | e | e | e | e | e
  ·have hB:jr P (zf P f) x=((zq (zf P f) x.dst).1 == 0):=by unfold jr;rw[e];rfl
   rw[hB];exact znc hfu x _ e
  ·have hB:jr P (zf P f) x=((zq (zf P f) x.a).1 == 0 && ((zq (zf P f) x.b).1 == 0 && (zq (zf P f) x.dst).1 == 0)):=by unfold jr;rw[e];rfl
   rw[hB];exact znu hfu x _ e
  ·have hB:jr P (zf P f) x=((zq (zf P f) x.dst).1 == 0):=by unfold jr;rw[e];rfl
   rw[hB];exact znC hfu x _ e
  ·have hB:jr P (zf P f) x=((zq (zf P f) x.dst).1 != 0):=by unfold jr;rw[e];rfl
   rw[hB];exact zn9 hfu x _ e
  ·have hB:jr P (zf P f) x=((zq (zf P f) x.dst).1 == 1):=by unfold jr;rw[e];rfl
   rw[hB];exact znl hfu x _ e
  ·have hB:jr P (zf P f) x=(tyE (zq (zf P f) x.dst) (zq (zf P f) x.a)):=by unfold jr;rw[e];rfl
   rw[hB];exact znB hfu x _ e
  ·have hB:jr P (zf P f) x=(match qd P (zq (zf P f) x.a) x.n with | none=>false | some t=>tyE t (zq (zf P f) x.dst)):=by unfold jr;rw[e];rfl
   rw[hB];exact zns hp hfu x _ e
  ·have hB:jr P (zf P f) x=(match qd P (zq (zf P f) x.a) x.n with | none=>false | some t=>tyE t (zq (zf P f) x.b)):=by unfold jr;rw[e];rfl
   rw[hB];exact znm hp hfu x _ e
  ·have hB:jr P (zf P f) x=((zq (zf P f) x.a).1 == 1):=by unfold jr;rw[e];rfl
   rw[hB];exact znA hfu x _ e
  ·have hB:jr P (zf P f) x=(tyE (zq (zf P f) x.dst) (2,(zf P x.n.toNat).sig)):=by unfold jr;rw[e];rfl
   rw[hB];exact zmJ hp hfu x _ (zd6 hok (.inl e)) e
  ·have hB:jr P (zf P f) x=((zq (zf P f) x.dst).1 == 3 && ((zq (zf P f) x.a).1 == 1 && Jf P (zq (zf P f) x.a).2 (zq (zf P f) x.dst).2)):=by unfold jr;rw[e];rfl
   rw[hB];exact zmx hp hfu x _ e
  ·have hB:jr P (zf P f) x=(match (Qp P (zf P x.n.toNat).sig) with | none=>false | some s=>qL (zf P f) x.args s.1 && tyE s.2 (zq (zf P f) x.dst)):=by unfold jr;rw[e];rfl
   rw[hB];exact zlS hp hfu x _ rfl hz' hl (zd6 hok (.inr e)) e
  ·have hB:jr P (zf P f) x=(match (if (zq (zf P f) x.a).1=2 then Qp P (zq (zf P f) x.a).2 else none) with | none=>false | some s=>qL (zf P f) x.args s.1 && tyE s.2 (zq (zf P f) x.dst)):=by unfold jr;rw[e];rfl
   rw[hB];exact zlF hp hfu x _ rfl hz' hl e
  ·have hB:jr P (zf P f) x=(match (jM P (zq (zf P f) x.a) x.n) with | none=>false | some s=>qL (zf P f) x.args s.1 && tyE s.2 (zq (zf P f) x.dst)):=by unfold jr;rw[e];rfl
   rw[hB];exact zm4 hp hfu x _ rfl hz' hl e
  ·have hB:jr P (zf P f) x=((zq (zf P f) x.a).1 == 0):=by unfold jr;rw[e];rfl
   rw[hB];exact zl3 hfu x _ e
end Go.Proofs.YthflgjkmbakedaaGreatDoor
