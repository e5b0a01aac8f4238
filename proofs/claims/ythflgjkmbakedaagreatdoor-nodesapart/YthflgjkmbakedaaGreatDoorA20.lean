import Derived.Test.YthflgjkmbakedaaGreatDoorA15

namespace Go.Proofs.YthflgjkmbakedaaGreatDoor
open Go.RowKit
open Go.Value (int pointer agg)
open Go.IntKind (i64)
set_option maxRecDepth 20000
set_option maxHeartbeats 8000000
variable {P:Pr8}{R cp pb po:Nat}{a ra:Option Addr}{f:Fu8}{w:World}{x:In8}
theorem zdO(hop:x.op=7∨x.op=8)(ht:(zq f x.a).1=1)(h2:inB (zq f x.a).2 P.recs.length=true):qN P f x=inB x.n (jC P (zq f x.a).2).length:=by
 unfold qN;rw[if_neg (by omega),if_pos hop];unfold qd;cases h3:inB x.n (jC P (zq f x.a).2).length with
 | true=>rw[if_pos ⟨ht,h2,rfl⟩];rfl
 | false=>rw[if_neg (fun h=>by cases h.2.2)];simp[ht]
theorem zjs(hop:x.op=7∨x.op=8)(ht:(zq f x.a).1≠1):qN P f x=true:=by
 unfold qN;rw[if_neg (by omega),if_pos hop];simp[ht]
theorem zfn(hop:x.op=14)(hi:P.ifs.all (fun l=>Zp l P.sigs.length)=true)(ht:(zq f x.a).1=3)(h2:inB (zq f x.a).2 P.ifs.length=true):qN P f x=inB x.n (JD P (zq f x.a).2).length:=by
 unfold qN;rw[if_neg (by omega),if_neg (by omega),if_pos hop];unfold jM;cases h3:inB x.n (JD P (zq f x.a).2).length with
 | false=>rw[if_neg (fun h=>by cases h.2.2)];simp[ht]
 | true=>
  rw[if_pos ⟨ht,h2,rfl⟩];obtain ⟨a0,a1⟩:=zt.1 h2;obtain ⟨b0,b1⟩:=zt.1 h3;have e1:Zp (JD P (zq f x.a).2) P.sigs.length=true:=Jv hi (zg (l:=P.ifs) (k:=(zq f x.a).2.toNat) (d:=[]) (by omega));have e2:inB ((JD P (zq f x.a).2).getD x.n.toNat 0) P.sigs.length=true:=Jv e1 (zg (d:=0) (by omega));rw[ZX e2];rfl
theorem zjn(hop:x.op=14)(ht:(zq f x.a).1≠3):qN P f x=true:=by
 unfold qN;rw[if_neg (by omega),if_neg (by omega),if_pos hop];simp[ht]
theorem zA{r:Int}(h:QA P f.regs=true)(hr:inB r f.regs.length=true):tyB P (zq f r)=true:=by
 obtain ⟨a0,a1⟩:=zt.1 hr;rw[Zd hr];exact Jv h (zg (d:=(0,0)) (by omega))
theorem zlr{t:Int × Int}(h:tyB P t=true)(ht:t.1=1):inB t.2 P.recs.length=true:=by unfold tyB at h;rw[if_neg (by omega),if_pos ht] at h;exact h
theorem zoh{t:Int × Int}(h:tyB P t=true)(ht:t.1=2):inB t.2 P.sigs.length=true:=by unfold tyB at h;rw[if_neg (by omega),if_neg (by omega),if_pos ht] at h;exact h
theorem zmS{t:Int × Int}(h:tyB P t=true)(ht:t.1=3):inB t.2 P.ifs.length=true:=by unfold tyB at h;rw[if_neg (by omega),if_neg (by omega),if_neg (by omega),if_pos ht] at h;exact h
theorem zdr(h1:(!zD x || inB x.dst R)=true)(h2:∀ (j:Nat) (y:Int),(zN x)[j]? = some y→inB y R=true):j8 R x=true:=by
 unfold j8 Zp;rw[h1,qW h2];rfl
theorem zdz{k:Nat}{y:Int}(hy:(zN x)[k]? = some y)(h:inB y R=false):j8 R x=false:=by
 unfold j8 Zp;rw[j7 hy h,Bool.and_false]
theorem ZH(h:PrC w pb po P)(hr:z7 w 2 TyC ra f.regs)(hR:R=f.regs.length)(rp:Nat)(bv:Value)(hty:QA P f.regs=true)(hif:P.ifs.all (fun l=>Zp l P.sigs.length)=true)(x:In8)(hz:zw w a x.args)(hl:x.args.length≤1000)(hops:x.op=1∨x.op=2∨x.op=3∨x.op=4∨x.op=5∨x.op=6∨x.op=7∨x.op=10∨x.op=11∨x.op=12∨x.op=13∨x.op=14):Calls Tryz.prog 110 #[pointer (some ⟨pb,po,none⟩),fnV f.sig ra R rp bv,z8 x (.slice a x.args.length cp)] w fun e w'=>e=.returned (.bool (zW P f x))∧zc [] w w':=by
 have HD:=hid fun (w':World)=>zb7 x (.slice a x.args.length cp) w';have HOPS:=hid hops;have or1:¬ x.op<1:=by omega
 have or2:¬ 15<x.op:=by omega
 rw[qm (by unfold zD;rcases HOPS.o with e | e | e | e | e | e | e | e | e | e | e | e <;> (rw[e];rfl))] at HD;have HU:=hid fun (w':World) (k:zc [] w w')=>zaW x a cp w' (hz.kept k (fun _ _ _=>by simp)) (by omega);have HIN:=hid fun (r:Int) (n:Nat) (w':World)=>jp r n w';have hul:=Zm x;have hul9:((zN x).length:Int)≤9223372036854775807:=by omega
 have HE0:Box (zW P f x=(zp x && (j8 R x && qN P f x))):=hid (by rw[hR];rfl);have HRR:=hid hr;have HRL:=hid hR;have HTY:=hid hty;have HIF:=hid hif;have HPR:=hid h;have h15:=hid hl;unfold z8 at HD HU;unfold z8 fnV;obtain ⟨W,hW⟩:∃ W,W=(w.alloc (.cells #[int i64 f.sig,.slice ra R rp,bv] 50)).alloc (.cells #[int i64 x.op,int i64 x.dst,int i64 x.a,int i64 x.b,int i64 x.n,.slice a x.args.length cp] 54):=⟨_,rfl⟩;have k2:zc [] w W:=by rw[hW];exact (zc.alloc [] w _).quiet (zc.alloc [] _ _)
 have hn1:W.heap[w.heap.size]? = some (.cells #[int i64 f.sig,.slice ra R rp,bv] 50 (0,0)):=by rw[hW];exact ze (zh w _) (zc.alloc [] _ _)
 have hn2:W.heap[w.heap.size+1]? = some (.cells #[int i64 x.op,int i64 x.dst,int i64 x.a,int i64 x.b,int i64 x.n,.slice a x.args.length cp] 54 (0,0)):=by
  have:=zh (w.alloc (.cells #[int i64 f.sig,.slice ra R rp,bv] 50)) (.cells #[int i64 x.op,int i64 x.dst,int i64 x.a,int i64 x.b,int i64 x.n,.slice a x.args.length cp] 54);rw[World.size_alloc] at this;rw[hW];exact this
 have B:Box (∀ w',zc [] W w'→w'.cell? ⟨w.heap.size,1,none⟩=some (.slice ra R rp)∧w'.cell? ⟨w.heap.size+1,0,none⟩=some (int i64 x.op)∧w'.cell? ⟨w.heap.size+1,1,none⟩=some (int i64 x.dst)∧w'.cell? ⟨w.heap.size+1,2,none⟩=some (int i64 x.a)∧w'.cell? ⟨w.heap.size+1,3,none⟩=some (int i64 x.b)∧w'.cell? ⟨w.heap.size+1,4,none⟩=some (int i64 x.n)∧w'.cell? ⟨w.heap.size+1,5,none⟩=some (.slice a x.args.length cp)):=hid fun w' k=>⟨zd (ze hn1 k) 1,zd (ze hn2 k) 0,zd (ze hn2 k) 1,zd (ze hn2 k) 2,zd (ze hn2 k) 3,zd (ze hn2 k) 4,zd (ze hn2 k) 5⟩;have HWE:=hid hW;have HK2:=hid k2;clear h hr hR hty hif hz hl hops hul hW k2 hn1 hn2;generalize hres:zW P f x=res at *;clear hres;generalize hul:zN x=ul at *;have HUL:=hid hul;clear hul;go_enter Tryz.func110,Tryz.ntmps110;go_upto_region 1 with fail;rw[← HWE.o];clear HWE;generalize w.heap.size=q at *;obtain ⟨b1,c0,c1,c2,c3,c4,c5⟩:=B.o _ (zc.refl _ _);go_wp2_with fail;refine (HD.o _).mono ?_;rintro e w1 ⟨rfl,k1⟩;have KW1:=hid k1;clear b1 c0 c1 c2 c3 c4 c5 k1;obtain ⟨b1,c0,c1,c2,c3,c4,c5⟩:=B.o _ KW1.o;go_wp2_with fail;refine (HU.o _ (HK2.o.quiet KW1.o)).mono ?_;rintro e w2 ⟨ua,uc,rfl,hu,k2⟩;have KW2:=hid (KW1.o.quiet k2);have HUA:=hid hu;clear b1 c0 c1 c2 c3 c4 c5 k2 hu KW1 HD HU;obtain ⟨b1,c0,c1,c2,c3,c4,c5⟩:=B.o _ KW2.o;have KZ:Box (zc [] w w2):=hid (HK2.o.quiet KW2.o);obtain ⟨U,hU⟩:∃ U,U=ul.length:=⟨_,rfl⟩;rw[← hU] at hul9;rw[← hU];have HUN:=hid hU;clear hU;have HID:Box (zD x=true):=hid (by unfold zD;rcases HOPS.o with e | e | e | e | e | e | e | e | e | e | e | e <;> (rw[e];rfl));go_wp2_with fail;refine (HIN.o _ _ _).mono ?_;rintro e w3 ⟨rfl,hw3⟩;rw[hw3];clear hw3;cases hin:inB x.dst R with
 | false=>
  have HF:Box (res=false):=hid (by
   have:j8 R x=false:=by unfold j8;rw[HID.o,hin];rfl
   rw[HE0.o,this,Bool.false_and,Bool.and_false])
  clear hin;go_wp2_with fail;go_ret;exact ⟨by rw[HF.o];rfl,KZ.o⟩
 | true=>
 have HDI:Box ((!zD x || inB x.dst R)=true):=hid (by rw[HID.o,hin];rfl);have HDB:Box ((qA x.op || decide (x.dst=0))=true):=hid (by rcases HOPS.o with e | e | e | e | e | e | e | e | e | e | e | e <;> (rw[e];rfl));have HDN:=hid hin;clear hin;go_upto_region 8 with fail;go_wp2_with fail
 go_loop [11] (fun kv=>∃ k:Nat,k≤U∧kv=int i64 (k:Int)∧Box (∀ (j:Nat) (y:Int),j<k→ul[j]? = some y→inB y R=true)) (fun kv=>U - (intOf kv).toNat)
 case atStart=>exact ⟨0,by omega,rfl,hid fun j y hj=>by omega⟩
 case round=>
 obtain ⟨k,hk,rfl,HB⟩:=hrel;by_cases hlt:k<U
 case pos=>
  have hlt':(k:Int)<(U:Int):=by omega
  have hkl:k<ul.length:=by rw[← HUN.o];exact hlt
  obtain ⟨y,hy⟩:∃ y,ul[k]? = some y:=⟨_,List.getElem?_eq_getElem hkl⟩;obtain ⟨ub,uo,rfl,hc⟩:∃ b off,ua=some ⟨b,off,none⟩∧w2.cell? ⟨b,off+k,none⟩=some (int i64 y):=by
   rcases HUA.o with e | ⟨b,off,e,h⟩
   ·rw[e] at hy;simp at hy
   ·refine ⟨b,off,e,?_⟩
    rw[h k hkl,List.getD_eq_getElem?_getD,hy];rfl
  have HY:=hid hy;clear hy hkl;go_wp2_with fail;refine (HIN.o _ _ _).mono ?_;rintro e w3 ⟨rfl,hw3⟩;rw[hw3];clear hw3;cases hgy:inB y R with
  | true=>
   have HG:=hid hgy;clear hgy;go_wp2_with fail
   go_round
   case rel=>exact ⟨k+1,by omega,by go_num,hid fun j z hj hz=>by
    by_cases e:j<k
    ·exact HB.o j z e hz
    ·obtain rfl:j=k:=by omega
     rw[HY.o] at hz;cases hz
     exact HG.o⟩
   case measure=>simp[intOf];omega
  | false=>
   have HF:Box (res=false):=hid (by
    rw[HE0.o,zdz (by rw[HUL.o];exact HY.o) hgy,Bool.false_and,Bool.and_false])
   clear hgy;go_wp2_with fail;go_ret;exact ⟨by rw[HF.o];rfl,KZ.o⟩
 obtain rfl:U=k:=by omega
 have HREG:Box (j8 R x=true):=hid (zdr HDI.o (fun j y hy=>HB.o j y (by rw[HUN.o, ← HUL.o];exact (List.getElem?_eq_some_iff.1 hy).1) (by rw[← HUL.o];exact hy)));have HE1:Box (res=(zp x && qN P f x)):=hid (by rw[HE0.o,HREG.o,Bool.true_and]);have HUI:Box (∀ (j:Nat) (y:Int),(zN x)[j]? = some y→inB y R=true):=hid (fun j y hy=>HB.o j y (by rw[HUN.o, ← HUL.o];exact (List.getElem?_eq_some_iff.1 hy).1) (by rw[← HUL.o];exact hy));clear HE0 HB hlt;rcases HOPS.o with hop | hop | hop | hop | hop | hop | hop | hop | hop | hop | hop | hop
 ·have HOP:=hid hop
  rw[hop] at c0;clear hop HOPS;by_cases ha:x.a=0
  case neg=>
   have oa:=QB ha
   have HF:Box (res=false):=hid (by
    have:zp x=false:=by unfold zp;rw[HOP.o];simp[qA,qO,qP,qT,qS,ha]
    rw[HE1.o,this]
    rfl)
   clear ha;go_wp2_with fail;go_ret;exact ⟨by rw[HF.o];rfl,KZ.o⟩
  have oa:=QS ha;have HA0:=hid ha;clear ha;by_cases hb:x.b=0
  case neg=>
   have ob:=QB hb
   have HF:Box (res=false):=hid (by
    have:zp x=false:=by unfold zp;rw[HOP.o];simp[qA,qO,qP,qT,qS,hb]
    rw[HE1.o,this]
    rfl)
   clear hb;go_wp2_with fail;go_ret;exact ⟨by rw[HF.o];rfl,KZ.o⟩
  have ob:=QS hb;have HB0:=hid hb;clear hb;obtain ⟨L,hL⟩:∃ L,L=x.args.length:=⟨_,rfl⟩;rw[← hL] at c5 ⊢;have HLN:=hid hL;clear hL;by_cases hg:L=0
  case neg=>
   have og:decide ((0:Int)<(L:Int))=true:=decide_eq_true (by omega);have og2:(0:Int)<(L:Int):=by omega
   have og3:0<L:=by omega
   have hgx:¬ x.args=[]:=fun e=>hg (by rw[HLN.o,e];rfl)
   have HF:Box (res=false):=hid (by
    have:zp x=false:=by unfold zp;rw[HOP.o];simp[qA,qO,qP,qT,qS,hgx]
    rw[HE1.o,this]
    rfl)
   clear hg hgx;go_wp2_with fail;go_ret;exact ⟨by rw[HF.o];rfl,KZ.o⟩
  have og:¬ (0:Int)<(L:Int):=by omega
  have og3:¬ 0<L:=by omega
  have HG0:Box (x.args.length=0):=hid (by rw[← HLN.o];exact hg);clear hg
  have HF:Box (res=true):=hid (by
   have hrest:zp x=true:=by unfold zp;rw[HOP.o];simp[qA,qO,qP,qT,qS,HA0.o,HB0.o,HG0.o]
   rw[HE1.o,hrest,show qN P f x=true by unfold qN;rw[HOP.o];rfl];rfl)
  go_wp2_with fail;go_ret;exact ⟨by rw[HF.o];rfl,KZ.o⟩
 ·have HOP:=hid hop
  rw[hop] at c0;clear hop HOPS;obtain ⟨L,hL⟩:∃ L,L=x.args.length:=⟨_,rfl⟩;rw[← hL] at c5 ⊢;have HLN:=hid hL;clear hL;by_cases hg:L=0
  case neg=>
   have og:decide ((0:Int)<(L:Int))=true:=decide_eq_true (by omega);have og2:(0:Int)<(L:Int):=by omega
   have og3:0<L:=by omega
   have hgx:¬ x.args=[]:=fun e=>hg (by rw[HLN.o,e];rfl)
   have HF:Box (res=false):=hid (by
    have:zp x=false:=by unfold zp;rw[HOP.o];simp[qA,qO,qP,qT,qS,hgx]
    rw[HE1.o,this]
    rfl)
   clear hg hgx;go_wp2_with fail;go_ret;exact ⟨by rw[HF.o];rfl,KZ.o⟩
  have og:¬ (0:Int)<(L:Int):=by omega
  have og3:¬ 0<L:=by omega
  have HG0:Box (x.args.length=0):=hid (by rw[← HLN.o];exact hg);clear hg
  have HF:Box (res=(x.n == 0)):=hid (by
   have hrest:zp x=(x.n == 0):=by
    have e9:(x.n == 0)=decide (x.n=0):=by by_cases e:x.n=0 <;> simp[e]
    unfold zp;rw[HOP.o,e9];simp[qA,qO,qP,qT,qS,HG0.o]
   rw[HE1.o,hrest,show qN P f x=true by unfold qN;rw[HOP.o];rfl,Bool.and_true])
  go_wp2_with fail;go_ret;exact ⟨by rw[HF.o];rfl,KZ.o⟩
 ·have HOP:=hid hop
  rw[hop] at c0;clear hop HOPS;by_cases ha:x.a=0
  case neg=>
   have oa:=QB ha
   have HF:Box (res=false):=hid (by
    have:zp x=false:=by unfold zp;rw[HOP.o];simp[qA,qO,qP,qT,qS,ha]
    rw[HE1.o,this]
    rfl)
   clear ha;go_wp2_with fail;go_ret;exact ⟨by rw[HF.o];rfl,KZ.o⟩
  have oa:=QS ha;have HA0:=hid ha;clear ha;by_cases hb:x.b=0
  case neg=>
   have ob:=QB hb
   have HF:Box (res=false):=hid (by
    have:zp x=false:=by unfold zp;rw[HOP.o];simp[qA,qO,qP,qT,qS,hb]
    rw[HE1.o,this]
    rfl)
   clear hb;go_wp2_with fail;go_ret;exact ⟨by rw[HF.o];rfl,KZ.o⟩
  have ob:=QS hb;have HB0:=hid hb;clear hb;obtain ⟨L,hL⟩:∃ L,L=x.args.length:=⟨_,rfl⟩;rw[← hL] at c5 ⊢;have HLN:=hid hL;clear hL;by_cases hg:L=0
  case neg=>
   have og:decide ((0:Int)<(L:Int))=true:=decide_eq_true (by omega);have og2:(0:Int)<(L:Int):=by omega
   have og3:0<L:=by omega
   have hgx:¬ x.args=[]:=fun e=>hg (by rw[HLN.o,e];rfl)
   have HF:Box (res=false):=hid (by
    have:zp x=false:=by unfold zp;rw[HOP.o];simp[qA,qO,qP,qT,qS,hgx]
    rw[HE1.o,this]
    rfl)
   clear hg hgx;go_wp2_with fail;go_ret;exact ⟨by rw[HF.o];rfl,KZ.o⟩
  have og:¬ (0:Int)<(L:Int):=by omega
  have og3:¬ 0<L:=by omega
  have HG0:Box (x.args.length=0):=hid (by rw[← HLN.o];exact hg);clear hg
  have HF:Box (res=(x.n == 0)):=hid (by
   have hrest:zp x=(x.n == 0):=by
    have e9:(x.n == 0)=decide (x.n=0):=by by_cases e:x.n=0 <;> simp[e]
    unfold zp;rw[HOP.o,e9];simp[qA,qO,qP,qT,qS,HA0.o,HB0.o,HG0.o]
   rw[HE1.o,hrest,show qN P f x=true by unfold qN;rw[HOP.o];rfl,Bool.and_true])
  go_wp2_with fail;go_ret;exact ⟨by rw[HF.o];rfl,KZ.o⟩
 ·have HOP:=hid hop
  rw[hop] at c0;clear hop HOPS;by_cases ha:x.a=0
  case neg=>
   have oa:=QB ha
   have HF:Box (res=false):=hid (by
    have:zp x=false:=by unfold zp;rw[HOP.o];simp[qA,qO,qP,qT,qS,ha]
    rw[HE1.o,this]
    rfl)
   clear ha;go_wp2_with fail;go_ret;exact ⟨by rw[HF.o];rfl,KZ.o⟩
  have oa:=QS ha;have HA0:=hid ha;clear ha;by_cases hb:x.b=0
  case neg=>
   have ob:=QB hb
   have HF:Box (res=false):=hid (by
    have:zp x=false:=by unfold zp;rw[HOP.o];simp[qA,qO,qP,qT,qS,hb]
    rw[HE1.o,this]
    rfl)
   clear hb;go_wp2_with fail;go_ret;exact ⟨by rw[HF.o];rfl,KZ.o⟩
  have ob:=QS hb;have HB0:=hid hb;clear hb;obtain ⟨L,hL⟩:∃ L,L=x.args.length:=⟨_,rfl⟩;rw[← hL] at c5 ⊢;have HLN:=hid hL;clear hL;by_cases hg:L=0
  case neg=>
   have og:decide ((0:Int)<(L:Int))=true:=decide_eq_true (by omega);have og2:(0:Int)<(L:Int):=by omega
   have og3:0<L:=by omega
   have hgx:¬ x.args=[]:=fun e=>hg (by rw[HLN.o,e];rfl)
   have HF:Box (res=false):=hid (by
    have:zp x=false:=by unfold zp;rw[HOP.o];simp[qA,qO,qP,qT,qS,hgx]
    rw[HE1.o,this]
    rfl)
   clear hg hgx;go_wp2_with fail;go_ret;exact ⟨by rw[HF.o];rfl,KZ.o⟩
  have og:¬ (0:Int)<(L:Int):=by omega
  have og3:¬ 0<L:=by omega
  have HG0:Box (x.args.length=0):=hid (by rw[← HLN.o];exact hg);clear hg
  have HF:Box (res=(x.n == 0)):=hid (by
   have hrest:zp x=(x.n == 0):=by
    have e9:(x.n == 0)=decide (x.n=0):=by by_cases e:x.n=0 <;> simp[e]
    unfold zp;rw[HOP.o,e9];simp[qA,qO,qP,qT,qS,HA0.o,HB0.o,HG0.o]
   rw[HE1.o,hrest,show qN P f x=true by unfold qN;rw[HOP.o];rfl,Bool.and_true])
  go_wp2_with fail;go_ret;exact ⟨by rw[HF.o];rfl,KZ.o⟩
 ·have HOP:=hid hop
  rw[hop] at c0;clear hop HOPS;by_cases ha:x.a=0
  case neg=>
   have oa:=QB ha
   have HF:Box (res=false):=hid (by
    have:zp x=false:=by unfold zp;rw[HOP.o];simp[qA,qO,qP,qT,qS,ha]
    rw[HE1.o,this]
    rfl)
   clear ha;go_wp2_with fail;go_ret;exact ⟨by rw[HF.o];rfl,KZ.o⟩
  have oa:=QS ha;have HA0:=hid ha;clear ha;by_cases hb:x.b=0
  case neg=>
   have ob:=QB hb
   have HF:Box (res=false):=hid (by
    have:zp x=false:=by unfold zp;rw[HOP.o];simp[qA,qO,qP,qT,qS,hb]
    rw[HE1.o,this]
    rfl)
   clear hb;go_wp2_with fail;go_ret;exact ⟨by rw[HF.o];rfl,KZ.o⟩
  have ob:=QS hb;have HB0:=hid hb;clear hb;obtain ⟨L,hL⟩:∃ L,L=x.args.length:=⟨_,rfl⟩;rw[← hL] at c5 ⊢;have HLN:=hid hL;clear hL;by_cases hg:L=0
  case neg=>
   have og:decide ((0:Int)<(L:Int))=true:=decide_eq_true (by omega);have og2:(0:Int)<(L:Int):=by omega
   have og3:0<L:=by omega
   have hgx:¬ x.args=[]:=fun e=>hg (by rw[HLN.o,e];rfl)
   have HF:Box (res=false):=hid (by
    have:zp x=false:=by unfold zp;rw[HOP.o];simp[qA,qO,qP,qT,qS,hgx]
    rw[HE1.o,this]
    rfl)
   clear hg hgx;go_wp2_with fail;go_ret;exact ⟨by rw[HF.o];rfl,KZ.o⟩
  have og:¬ (0:Int)<(L:Int):=by omega
  have og3:¬ 0<L:=by omega
  have HG0:Box (x.args.length=0):=hid (by rw[← HLN.o];exact hg);clear hg
  have HF:Box (res=(x.n == 0)):=hid (by
   have hrest:zp x=(x.n == 0):=by
    have e9:(x.n == 0)=decide (x.n=0):=by by_cases e:x.n=0 <;> simp[e]
    unfold zp;rw[HOP.o,e9];simp[qA,qO,qP,qT,qS,HA0.o,HB0.o,HG0.o]
   rw[HE1.o,hrest,show qN P f x=true by unfold qN;rw[HOP.o];rfl,Bool.and_true])
  go_wp2_with fail;go_ret;exact ⟨by rw[HF.o];rfl,KZ.o⟩
 ·have HOP:=hid hop
  rw[hop] at c0;clear hop HOPS;by_cases hb:x.b=0
  case neg=>
   have ob:=QB hb
   have HF:Box (res=false):=hid (by
    have:zp x=false:=by unfold zp;rw[HOP.o];simp[qA,qO,qP,qT,qS,hb]
    rw[HE1.o,this]
    rfl)
   clear hb;go_wp2_with fail;go_ret;exact ⟨by rw[HF.o];rfl,KZ.o⟩
  have ob:=QS hb;have HB0:=hid hb;clear hb;obtain ⟨L,hL⟩:∃ L,L=x.args.length:=⟨_,rfl⟩;rw[← hL] at c5 ⊢;have HLN:=hid hL;clear hL;by_cases hg:L=0
  case neg=>
   have og:decide ((0:Int)<(L:Int))=true:=decide_eq_true (by omega);have og2:(0:Int)<(L:Int):=by omega
   have og3:0<L:=by omega
   have hgx:¬ x.args=[]:=fun e=>hg (by rw[HLN.o,e];rfl)
   have HF:Box (res=false):=hid (by
    have:zp x=false:=by unfold zp;rw[HOP.o];simp[qA,qO,qP,qT,qS,hgx]
    rw[HE1.o,this]
    rfl)
   clear hg hgx;go_wp2_with fail;go_ret;exact ⟨by rw[HF.o];rfl,KZ.o⟩
  have og:¬ (0:Int)<(L:Int):=by omega
  have og3:¬ 0<L:=by omega
  have HG0:Box (x.args.length=0):=hid (by rw[← HLN.o];exact hg);clear hg
  have HF:Box (res=(x.n == 0)):=hid (by
   have hrest:zp x=(x.n == 0):=by
    have e9:(x.n == 0)=decide (x.n=0):=by by_cases e:x.n=0 <;> simp[e]
    unfold zp;rw[HOP.o,e9];simp[qA,qO,qP,qT,qS,HB0.o,HG0.o]
   rw[HE1.o,hrest,show qN P f x=true by unfold qN;rw[HOP.o];rfl,Bool.and_true])
  go_wp2_with fail;go_ret;exact ⟨by rw[HF.o];rfl,KZ.o⟩
 ·have HOP:=hid hop
  rw[hop] at c0;clear hop HOPS;by_cases hb:x.b=0
  case neg=>
   have ob:=QB hb
   have HF:Box (res=false):=hid (by
    have:zp x=false:=by unfold zp;rw[HOP.o];simp[qA,qO,qP,qT,qS,hb]
    rw[HE1.o,this]
    rfl)
   clear hb;go_wp2_with fail;go_ret;exact ⟨by rw[HF.o];rfl,KZ.o⟩
  have ob:=QS hb;have HB0:=hid hb;clear hb;obtain ⟨L,hL⟩:∃ L,L=x.args.length:=⟨_,rfl⟩;rw[← hL] at c5 ⊢;have HLN:=hid hL;clear hL;by_cases hg:L=0
  case neg=>
   have og:decide ((0:Int)<(L:Int))=true:=decide_eq_true (by omega);have og2:(0:Int)<(L:Int):=by omega
   have og3:0<L:=by omega
   have hgx:¬ x.args=[]:=fun e=>hg (by rw[HLN.o,e];rfl)
   have HF:Box (res=false):=hid (by
    have:zp x=false:=by unfold zp;rw[HOP.o];simp[qA,qO,qP,qT,qS,hgx]
    rw[HE1.o,this]
    rfl)
   clear hg hgx;go_wp2_with fail;go_ret;exact ⟨by rw[HF.o];rfl,KZ.o⟩
  have og:¬ (0:Int)<(L:Int):=by omega
  have og3:¬ 0<L:=by omega
  have HG0:Box (x.args.length=0):=hid (by rw[← HLN.o];exact hg);clear hg;have hrest:Box (zp x=true):=hid (by unfold zp;rw[HOP.o];simp[qA,qO,qP,qT,qS,HB0.o,HG0.o]);have hua:inB x.a R=true:=HUI.o 0 x.a (by unfold zN;rw[HOP.o];rfl);have htn:tyB P (zq f x.a)=true:=zA HTY.o (by rw[← HRL.o];exact hua);obtain ⟨g0,g1⟩:=zt.1 hua;obtain ⟨A,hA⟩:∃ A:Nat,x.a=(A:Int):=⟨x.a.toNat,by omega⟩;have hAr:(A:Int)<(R:Int):=by omega
  obtain ⟨rb,ro,heq,hrc⟩:=HRR.o.at (zg (l:=f.regs) (k:=A) (d:=(0,0)) (by have:=HRL.o;omega));subst heq;have hTA:zq f x.a=f.regs.getD A (0,0):=by rw[hA,Zd (by rw[← HRL.o, ← hA];exact hua)];rfl
  have t0:=za KZ.o hrc.c0.1;have t1:=za KZ.o hrc.c1.1
  have HNUM1:Box ((f.regs.getD A (0,0)).1=1→inB (f.regs.getD A (0,0)).2 P.recs.length=true∧res=inB x.n (jC P (f.regs.getD A (0,0)).2).length):=hid (by
   intro ht;rw[← hTA] at ht ⊢;have h2:=zlr htn ht
   exact ⟨h2,by rw[HE1.o,hrest.o,zdO (by rw[HOP.o];decide) ht h2,Bool.true_and]⟩)
  have HNUM0:Box ((f.regs.getD A (0,0)).1≠1→res=true):=hid (by
   intro ht;rw[← hTA] at ht;rw[HE1.o,hrest.o,zjs (by rw[HOP.o];decide) ht]
   rfl)
  rw[hA] at c2;have HPC:=hid HPR.o.c0;clear hua htn g0 g1 hA hrc hTA HRR;generalize f.regs.getD A (0,0)=T at *;go_upto_region 22 with fail;have hnt:=zh w2 (.cells #[int i64 T.1,int i64 T.2] 52);have KT:Box (zc [] w2 (w2.alloc (.cells #[int i64 T.1,int i64 T.2] 52))):=hid (zc.alloc [] _ _);have n0:=zd hnt 0;have n1:=zd hnt 1;replace c4:=za KT.o c4;clear hnt;generalize w2.alloc (.cells #[int i64 T.1,int i64 T.2] 52)=w5 at *;generalize w2.heap.size=q5 at *;have KY:Box (zc [] w w5):=hid (KZ.o.quiet KT.o);clear KT t0 t1 b1 c0 c1 c2 c3 c5;by_cases ht:T.1=1
  case neg=>
   have HF:=hid (HNUM0.o ht);have ot:=QB ht;clear ht HNUM1 HNUM0 HPC;go_quiet (fail);go_wp2_with fail;go_ret;exact ⟨by rw[HF.o];rfl,KY.o.quiet (zc.drewN _ _ _)⟩
  have h12:=HNUM1.o ht;have ot:=QS ht;obtain ⟨j0,j1⟩:=zt.1 h12.1;have HF0:=hid h12.2;clear ht HNUM1 HNUM0 h12;obtain ⟨J,hJ⟩:∃ J:Nat,T.2=(J:Int):=⟨T.2.toNat,by omega⟩;obtain ⟨pa,pp,pc,prr,_⟩:=HPC.o;obtain ⟨gb,go,rfl,hgc⟩:=prr.at (zg (l:=P.recs) (k:=J) (d:=[]) (by omega));obtain ⟨ga,gp,gc,_⟩:=hgc
  have HF:Box (res=inB x.n (P.recs.getD J []).length):=hid (by
   have:=HF0.o;unfold jC at this;rw[hJ,show ((J:Int)).toNat=J by omega] at this
   exact this)
  have pc5:=za KY.o pc;have gc5:=za KY.o gc;have hJl:(J:Int)<(P.recs.length:Int):=by omega
  rw[hJ] at n1;rw[Nat.mul_one] at gc5;clear pc prr gc HPC HF0 j0 j1 hJ;generalize (P.recs.getD J []).length=M at *;generalize P.recs.length=TN at *;have HQ:=hid (HIN.o x.n M);generalize inB x.n M=RB at *;go_quiet ((go_at_call 109;exact Calls.quiet_of_same (HQ.o _)));go_wp2_with fail;go_ret;exact ⟨by rw[HF.o];rfl,KY.o.quiet (zc.drewN _ _ _)⟩
 ·have HOP:=hid hop
  rw[hop] at c0;clear hop HOPS;by_cases ha:x.a=0
  case neg=>
   have oa:=QB ha
   have HF:Box (res=false):=hid (by
    have:zp x=false:=by unfold zp;rw[HOP.o];simp[qA,qO,qP,qT,qS,ha]
    rw[HE1.o,this]
    rfl)
   clear ha;go_wp2_with fail;go_ret;exact ⟨by rw[HF.o];rfl,KZ.o⟩
  have oa:=QS ha;have HA0:=hid ha;clear ha;by_cases hb:x.b=0
  case neg=>
   have ob:=QB hb
   have HF:Box (res=false):=hid (by
    have:zp x=false:=by unfold zp;rw[HOP.o];simp[qA,qO,qP,qT,qS,hb]
    rw[HE1.o,this]
    rfl)
   clear hb;go_wp2_with fail;go_ret;exact ⟨by rw[HF.o];rfl,KZ.o⟩
  have ob:=QS hb;have HB0:=hid hb;clear hb;obtain ⟨L,hL⟩:∃ L,L=x.args.length:=⟨_,rfl⟩;rw[← hL] at c5 ⊢;have HLN:=hid hL;clear hL;by_cases hg:L=0
  case neg=>
   have og:decide ((0:Int)<(L:Int))=true:=decide_eq_true (by omega);have og2:(0:Int)<(L:Int):=by omega
   have og3:0<L:=by omega
   have hgx:¬ x.args=[]:=fun e=>hg (by rw[HLN.o,e];rfl)
   have HF:Box (res=false):=hid (by
    have:zp x=false:=by unfold zp;rw[HOP.o];simp[qA,qO,qP,qT,qS,hgx]
    rw[HE1.o,this]
    rfl)
   clear hg hgx;go_wp2_with fail;go_ret;exact ⟨by rw[HF.o];rfl,KZ.o⟩
  have og:¬ (0:Int)<(L:Int):=by omega
  have og3:¬ 0<L:=by omega
  have HG0:Box (x.args.length=0):=hid (by rw[← HLN.o];exact hg);clear hg
  have HF:Box (res=inB x.n P.funcs.length):=hid (by
   have hrest:zp x=true:=by unfold zp;rw[HOP.o];simp[qA,qO,qP,qT,qS,HA0.o,HB0.o,HG0.o]
   have hnum:qN P f x=inB x.n P.funcs.length:=by unfold qN;rw[HOP.o];rfl
   rw[HE1.o,hrest,hnum,Bool.true_and])
  obtain ⟨fa,fp,c4f,_⟩:=HPR.o.c4;have c4p:=za KZ.o c4f;clear c4f;generalize P.funcs.length=FN at *;have HQ:=hid (HIN.o x.n FN);generalize inB x.n FN=RB at *;go_upto_region 25 with fail;go_quiet ((go_at_call 109;exact Calls.quiet_of_same (HQ.o _)));go_wp2_with fail;go_ret;exact ⟨by rw[HF.o];rfl,KZ.o.quiet (zc.drewN _ _ _)⟩
 ·have HOP:=hid hop
  rw[hop] at c0;clear hop HOPS;by_cases hb:x.b=0
  case neg=>
   have ob:=QB hb
   have HF:Box (res=false):=hid (by
    have:zp x=false:=by unfold zp;rw[HOP.o];simp[qA,qO,qP,qT,qS,hb]
    rw[HE1.o,this]
    rfl)
   clear hb;go_wp2_with fail;go_ret;exact ⟨by rw[HF.o];rfl,KZ.o⟩
  have ob:=QS hb;have HB0:=hid hb;clear hb;obtain ⟨L,hL⟩:∃ L,L=x.args.length:=⟨_,rfl⟩;rw[← hL] at c5 ⊢;have HLN:=hid hL;clear hL;by_cases hg:L=0
  case neg=>
   have og:decide ((0:Int)<(L:Int))=true:=decide_eq_true (by omega);have og2:(0:Int)<(L:Int):=by omega
   have og3:0<L:=by omega
   have hgx:¬ x.args=[]:=fun e=>hg (by rw[HLN.o,e];rfl)
   have HF:Box (res=false):=hid (by
    have:zp x=false:=by unfold zp;rw[HOP.o];simp[qA,qO,qP,qT,qS,hgx]
    rw[HE1.o,this]
    rfl)
   clear hg hgx;go_wp2_with fail;go_ret;exact ⟨by rw[HF.o];rfl,KZ.o⟩
  have og:¬ (0:Int)<(L:Int):=by omega
  have og3:¬ 0<L:=by omega
  have HG0:Box (x.args.length=0):=hid (by rw[← HLN.o];exact hg);clear hg
  have HF:Box (res=(x.n == 0)):=hid (by
   have hrest:zp x=(x.n == 0):=by
    have e9:(x.n == 0)=decide (x.n=0):=by by_cases e:x.n=0 <;> simp[e]
    unfold zp;rw[HOP.o,e9];simp[qA,qO,qP,qT,qS,HB0.o,HG0.o]
   rw[HE1.o,hrest,show qN P f x=true by unfold qN;rw[HOP.o];rfl,Bool.and_true])
  go_wp2_with fail;go_ret;exact ⟨by rw[HF.o];rfl,KZ.o⟩
 ·have HOP:=hid hop
  rw[hop] at c0;clear hop HOPS;by_cases ha:x.a=0
  case neg=>
   have oa:=QB ha
   have HF:Box (res=false):=hid (by
    have:zp x=false:=by unfold zp;rw[HOP.o];simp[qA,qO,qP,qT,qS,ha]
    rw[HE1.o,this]
    rfl)
   clear ha;go_wp2_with fail;go_ret;exact ⟨by rw[HF.o];rfl,KZ.o⟩
  have oa:=QS ha;have HA0:=hid ha;clear ha;by_cases hb:x.b=0
  case neg=>
   have ob:=QB hb
   have HF:Box (res=false):=hid (by
    have:zp x=false:=by unfold zp;rw[HOP.o];simp[qA,qO,qP,qT,qS,hb]
    rw[HE1.o,this]
    rfl)
   clear hb;go_wp2_with fail;go_ret;exact ⟨by rw[HF.o];rfl,KZ.o⟩
  have ob:=QS hb;have HB0:=hid hb;clear hb;obtain ⟨L,hL⟩:∃ L,L=x.args.length:=⟨_,rfl⟩;rw[← hL] at c5 ⊢;have HLN:=hid hL;clear hL;by_cases hg:0<L
  case neg=>
   have og:¬ (0:Int)<(L:Int):=by omega
   have og3:¬ 0<L:=by omega
   clear hg
   have HF:Box (res=inB x.n P.funcs.length):=hid (by
    have hrest:zp x=true:=by unfold zp;rw[HOP.o];simp[qA,qO,qP,qT,qS,HA0.o,HB0.o]
    have hnum:qN P f x=inB x.n P.funcs.length:=by unfold qN;rw[HOP.o];rfl
    rw[HE1.o,hrest,hnum,Bool.true_and])
   obtain ⟨fa,fp,c4f,_⟩:=HPR.o.c4;have c4p:=za KZ.o c4f;clear c4f;generalize P.funcs.length=FN at *;have HQ:=hid (HIN.o x.n FN);generalize inB x.n FN=RB at *;go_upto_region 25 with fail;go_quiet ((go_at_call 109;exact Calls.quiet_of_same (HQ.o _)));go_wp2_with fail;go_ret;exact ⟨by rw[HF.o];rfl,KZ.o.quiet (zc.drewN _ _ _)⟩
  have og:(0:Int)<(L:Int):=by omega
  have og3:0<L:=hg;clear hg
  have HF:Box (res=inB x.n P.funcs.length):=hid (by
   have hrest:zp x=true:=by unfold zp;rw[HOP.o];simp[qA,qO,qP,qT,qS,HA0.o,HB0.o]
   have hnum:qN P f x=inB x.n P.funcs.length:=by unfold qN;rw[HOP.o];rfl
   rw[HE1.o,hrest,hnum,Bool.true_and])
  obtain ⟨fa,fp,c4f,_⟩:=HPR.o.c4;have c4p:=za KZ.o c4f;clear c4f;generalize P.funcs.length=FN at *;have HQ:=hid (HIN.o x.n FN);generalize inB x.n FN=RB at *;go_upto_region 25 with fail;go_quiet ((go_at_call 109;exact Calls.quiet_of_same (HQ.o _)));go_wp2_with fail;go_ret;exact ⟨by rw[HF.o];rfl,KZ.o.quiet (zc.drewN _ _ _)⟩
 ·have HOP:=hid hop
  rw[hop] at c0;clear hop HOPS;by_cases hb:x.b=0
  case neg=>
   have ob:=QB hb
   have HF:Box (res=false):=hid (by
    have:zp x=false:=by unfold zp;rw[HOP.o];simp[qA,qO,qP,qT,qS,hb]
    rw[HE1.o,this]
    rfl)
   clear hb;go_wp2_with fail;go_ret;exact ⟨by rw[HF.o];rfl,KZ.o⟩
  have ob:=QS hb;have HB0:=hid hb;clear hb;obtain ⟨L,hL⟩:∃ L,L=x.args.length:=⟨_,rfl⟩;rw[← hL] at c5 ⊢;have HLN:=hid hL;clear hL;by_cases hg:0<L
  case neg=>
   have og:¬ (0:Int)<(L:Int):=by omega
   have og3:¬ 0<L:=by omega
   clear hg
   have HF:Box (res=(x.n == 0)):=hid (by
    have hrest:zp x=(x.n == 0):=by
     have e9:(x.n == 0)=decide (x.n=0):=by by_cases e:x.n=0 <;> simp[e]
     unfold zp;rw[HOP.o,e9];simp[qA,qO,qP,qT,qS,HB0.o]
    rw[HE1.o,hrest,show qN P f x=true by unfold qN;rw[HOP.o];rfl,Bool.and_true])
   go_wp2_with fail;go_ret;exact ⟨by rw[HF.o];rfl,KZ.o⟩
  have og:(0:Int)<(L:Int):=by omega
  have og3:0<L:=hg;clear hg
  have HF:Box (res=(x.n == 0)):=hid (by
   have hrest:zp x=(x.n == 0):=by
    have e9:(x.n == 0)=decide (x.n=0):=by by_cases e:x.n=0 <;> simp[e]
    unfold zp;rw[HOP.o,e9];simp[qA,qO,qP,qT,qS,HB0.o]
   rw[HE1.o,hrest,show qN P f x=true by unfold qN;rw[HOP.o];rfl,Bool.and_true])
  go_wp2_with fail;go_ret;exact ⟨by rw[HF.o];rfl,KZ.o⟩
 ·have HOP:=hid hop
  rw[hop] at c0;clear hop HOPS;by_cases hb:x.b=0
  case neg=>
   have ob:=QB hb
   have HF:Box (res=false):=hid (by
    have:zp x=false:=by unfold zp;rw[HOP.o];simp[qA,qO,qP,qT,qS,hb]
    rw[HE1.o,this]
    rfl)
   clear hb;go_wp2_with fail;go_ret;exact ⟨by rw[HF.o];rfl,KZ.o⟩
  have ob:=QS hb;have HB0:=hid hb;clear hb;obtain ⟨L,hL⟩:∃ L,L=x.args.length:=⟨_,rfl⟩;rw[← hL] at c5 ⊢;have HLN:=hid hL;clear hL;by_cases hg:0<L
  case neg=>
   have og:¬ (0:Int)<(L:Int):=by omega
   have og3:¬ 0<L:=by omega
   clear hg;have hrest:Box (zp x=true):=hid (by unfold zp;rw[HOP.o];simp[qA,qO,qP,qT,qS,HB0.o]);have hua:inB x.a R=true:=HUI.o 0 x.a (by unfold zN;rw[HOP.o];rfl);have htn:tyB P (zq f x.a)=true:=zA HTY.o (by rw[← HRL.o];exact hua);obtain ⟨g0,g1⟩:=zt.1 hua;obtain ⟨A,hA⟩:∃ A:Nat,x.a=(A:Int):=⟨x.a.toNat,by omega⟩;have hAr:(A:Int)<(R:Int):=by omega
   obtain ⟨rb,ro,heq,hrc⟩:=HRR.o.at (zg (l:=f.regs) (k:=A) (d:=(0,0)) (by have:=HRL.o;omega));subst heq;have hTA:zq f x.a=f.regs.getD A (0,0):=by rw[hA,Zd (by rw[← HRL.o, ← hA];exact hua)];rfl
   have t0:=za KZ.o hrc.c0.1;have t1:=za KZ.o hrc.c1.1
   have HNUM1:Box ((f.regs.getD A (0,0)).1=3→inB (f.regs.getD A (0,0)).2 P.ifs.length=true∧res=inB x.n (JD P (f.regs.getD A (0,0)).2).length):=hid (by
    intro ht;rw[← hTA] at ht ⊢;have h2:=zmS htn ht
    exact ⟨h2,by rw[HE1.o,hrest.o,zfn HOP.o HIF.o ht h2,Bool.true_and]⟩)
   have HNUM0:Box ((f.regs.getD A (0,0)).1≠3→res=true):=hid (by
    intro ht;rw[← hTA] at ht;rw[HE1.o,hrest.o,zjn HOP.o ht]
    rfl)
   rw[hA] at c2;have HPC:=hid HPR.o.c2;clear hua htn g0 g1 hA hrc hTA HRR;generalize f.regs.getD A (0,0)=T at *;go_upto_region 28 with fail;have hnt:=zh w2 (.cells #[int i64 T.1,int i64 T.2] 52);have KT:Box (zc [] w2 (w2.alloc (.cells #[int i64 T.1,int i64 T.2] 52))):=hid (zc.alloc [] _ _);have n0:=zd hnt 0;have n1:=zd hnt 1;replace c4:=za KT.o c4;clear hnt;generalize w2.alloc (.cells #[int i64 T.1,int i64 T.2] 52)=w5 at *;generalize w2.heap.size=q5 at *;have KY:Box (zc [] w w5):=hid (KZ.o.quiet KT.o);clear KT t0 t1 b1 c0 c1 c2 c3 c5;by_cases ht:T.1=3
   case neg=>
    have HF:=hid (HNUM0.o ht);have ot:=QB ht;clear ht HNUM1 HNUM0 HPC;go_quiet (fail);go_wp2_with fail;go_ret;exact ⟨by rw[HF.o];rfl,KY.o.quiet (zc.drewN _ _ _)⟩
   have h12:=HNUM1.o ht;have ot:=QS ht;obtain ⟨j0,j1⟩:=zt.1 h12.1;have HF0:=hid h12.2;clear ht HNUM1 HNUM0 h12;obtain ⟨J,hJ⟩:∃ J:Nat,T.2=(J:Int):=⟨T.2.toNat,by omega⟩;obtain ⟨pa,pp,pc,prr,_⟩:=HPC.o;obtain ⟨gb,go,rfl,hgc⟩:=prr.at (zg (l:=P.ifs) (k:=J) (d:=[]) (by omega));obtain ⟨ga,gp,gc,_⟩:=hgc
   have HF:Box (res=inB x.n (P.ifs.getD J []).length):=hid (by
    have:=HF0.o;unfold JD at this;rw[hJ,show ((J:Int)).toNat=J by omega] at this
    exact this)
   have pc5:=za KY.o pc;have gc5:=za KY.o gc;have hJl:(J:Int)<(P.ifs.length:Int):=by omega
   rw[hJ] at n1;rw[Nat.mul_one] at gc5;clear pc prr gc HPC HF0 j0 j1 hJ;generalize (P.ifs.getD J []).length=M at *;generalize P.ifs.length=TN at *;have HQ:=hid (HIN.o x.n M);generalize inB x.n M=RB at *;go_quiet ((go_at_call 109;exact Calls.quiet_of_same (HQ.o _)));go_wp2_with fail;go_ret;exact ⟨by rw[HF.o];rfl,KY.o.quiet (zc.drewN _ _ _)⟩
  have og:(0:Int)<(L:Int):=by omega
  have og3:0<L:=hg;clear hg;have hrest:Box (zp x=true):=hid (by unfold zp;rw[HOP.o];simp[qA,qO,qP,qT,qS,HB0.o]);have hua:inB x.a R=true:=HUI.o 0 x.a (by unfold zN;rw[HOP.o];rfl);have htn:tyB P (zq f x.a)=true:=zA HTY.o (by rw[← HRL.o];exact hua);obtain ⟨g0,g1⟩:=zt.1 hua;obtain ⟨A,hA⟩:∃ A:Nat,x.a=(A:Int):=⟨x.a.toNat,by omega⟩;have hAr:(A:Int)<(R:Int):=by omega
  obtain ⟨rb,ro,heq,hrc⟩:=HRR.o.at (zg (l:=f.regs) (k:=A) (d:=(0,0)) (by have:=HRL.o;omega));subst heq;have hTA:zq f x.a=f.regs.getD A (0,0):=by rw[hA,Zd (by rw[← HRL.o, ← hA];exact hua)];rfl
  have t0:=za KZ.o hrc.c0.1;have t1:=za KZ.o hrc.c1.1
  have HNUM1:Box ((f.regs.getD A (0,0)).1=3→inB (f.regs.getD A (0,0)).2 P.ifs.length=true∧res=inB x.n (JD P (f.regs.getD A (0,0)).2).length):=hid (by
   intro ht;rw[← hTA] at ht ⊢;have h2:=zmS htn ht
   exact ⟨h2,by rw[HE1.o,hrest.o,zfn HOP.o HIF.o ht h2,Bool.true_and]⟩)
  have HNUM0:Box ((f.regs.getD A (0,0)).1≠3→res=true):=hid (by
   intro ht;rw[← hTA] at ht;rw[HE1.o,hrest.o,zjn HOP.o ht]
   rfl)
  rw[hA] at c2;have HPC:=hid HPR.o.c2;clear hua htn g0 g1 hA hrc hTA HRR;generalize f.regs.getD A (0,0)=T at *;go_upto_region 28 with fail;have hnt:=zh w2 (.cells #[int i64 T.1,int i64 T.2] 52);have KT:Box (zc [] w2 (w2.alloc (.cells #[int i64 T.1,int i64 T.2] 52))):=hid (zc.alloc [] _ _);have n0:=zd hnt 0;have n1:=zd hnt 1;replace c4:=za KT.o c4;clear hnt;generalize w2.alloc (.cells #[int i64 T.1,int i64 T.2] 52)=w5 at *;generalize w2.heap.size=q5 at *;have KY:Box (zc [] w w5):=hid (KZ.o.quiet KT.o);clear KT t0 t1 b1 c0 c1 c2 c3 c5;by_cases ht:T.1=3
  case neg=>
   have HF:=hid (HNUM0.o ht);have ot:=QB ht;clear ht HNUM1 HNUM0 HPC;go_quiet (fail);go_wp2_with fail;go_ret;exact ⟨by rw[HF.o];rfl,KY.o.quiet (zc.drewN _ _ _)⟩
  have h12:=HNUM1.o ht;have ot:=QS ht;obtain ⟨j0,j1⟩:=zt.1 h12.1;have HF0:=hid h12.2;clear ht HNUM1 HNUM0 h12;obtain ⟨J,hJ⟩:∃ J:Nat,T.2=(J:Int):=⟨T.2.toNat,by omega⟩;obtain ⟨pa,pp,pc,prr,_⟩:=HPC.o;obtain ⟨gb,go,rfl,hgc⟩:=prr.at (zg (l:=P.ifs) (k:=J) (d:=[]) (by omega));obtain ⟨ga,gp,gc,_⟩:=hgc
  have HF:Box (res=inB x.n (P.ifs.getD J []).length):=hid (by
   have:=HF0.o;unfold JD at this;rw[hJ,show ((J:Int)).toNat=J by omega] at this
   exact this)
  have pc5:=za KY.o pc;have gc5:=za KY.o gc;have hJl:(J:Int)<(P.ifs.length:Int):=by omega
  rw[hJ] at n1;rw[Nat.mul_one] at gc5;clear pc prr gc HPC HF0 j0 j1 hJ;generalize (P.ifs.getD J []).length=M at *;generalize P.ifs.length=TN at *;have HQ:=hid (HIN.o x.n M);generalize inB x.n M=RB at *;go_quiet ((go_at_call 109;exact Calls.quiet_of_same (HQ.o _)));go_wp2_with fail;go_ret;exact ⟨by rw[HF.o];rfl,KY.o.quiet (zc.drewN _ _ _)⟩
theorem zfJ(h:PrC w pb po P)(hr:z7 w 2 TyC ra f.regs)(hR:R=f.regs.length)(rp:Nat)(bv:Value)(hty:QA P f.regs=true)(hif:P.ifs.all (fun l=>Zp l P.sigs.length)=true)(x:In8)(hz:zw w a x.args)(hl:x.args.length≤1000)(hops:x.op=8∨x.op=9∨x.op=15):Calls Tryz.prog 110 #[pointer (some ⟨pb,po,none⟩),fnV f.sig ra R rp bv,z8 x (.slice a x.args.length cp)] w fun e w'=>e=.returned (.bool (zW P f x))∧zc [] w w':=by
 have HD:=hid fun (w':World)=>zb7 x (.slice a x.args.length cp) w';have HOPS:=hid hops;have or1:¬ x.op<1:=by omega
 have or2:¬ 15<x.op:=by omega
 rw[ZP (by unfold zD;rcases HOPS.o with e | e | e <;> (rw[e];rfl))] at HD;have HU:=hid fun (w':World) (k:zc [] w w')=>zaW x a cp w' (hz.kept k (fun _ _ _=>by simp)) (by omega);have HIN:=hid fun (r:Int) (n:Nat) (w':World)=>jp r n w';have hul:=Zm x;have hul9:((zN x).length:Int)≤9223372036854775807:=by omega
 have HE0:Box (zW P f x=(zp x && (j8 R x && qN P f x))):=hid (by rw[hR];rfl);have HRR:=hid hr;have HRL:=hid hR;have HTY:=hid hty;have HIF:=hid hif;have HPR:=hid h;have h15:=hid hl;unfold z8 at HD HU;unfold z8 fnV;obtain ⟨W,hW⟩:∃ W,W=(w.alloc (.cells #[int i64 f.sig,.slice ra R rp,bv] 50)).alloc (.cells #[int i64 x.op,int i64 x.dst,int i64 x.a,int i64 x.b,int i64 x.n,.slice a x.args.length cp] 54):=⟨_,rfl⟩;have k2:zc [] w W:=by rw[hW];exact (zc.alloc [] w _).quiet (zc.alloc [] _ _)
 have hn1:W.heap[w.heap.size]? = some (.cells #[int i64 f.sig,.slice ra R rp,bv] 50 (0,0)):=by rw[hW];exact ze (zh w _) (zc.alloc [] _ _)
 have hn2:W.heap[w.heap.size+1]? = some (.cells #[int i64 x.op,int i64 x.dst,int i64 x.a,int i64 x.b,int i64 x.n,.slice a x.args.length cp] 54 (0,0)):=by
  have:=zh (w.alloc (.cells #[int i64 f.sig,.slice ra R rp,bv] 50)) (.cells #[int i64 x.op,int i64 x.dst,int i64 x.a,int i64 x.b,int i64 x.n,.slice a x.args.length cp] 54);rw[World.size_alloc] at this;rw[hW];exact this
 have B:Box (∀ w',zc [] W w'→w'.cell? ⟨w.heap.size,1,none⟩=some (.slice ra R rp)∧w'.cell? ⟨w.heap.size+1,0,none⟩=some (int i64 x.op)∧w'.cell? ⟨w.heap.size+1,1,none⟩=some (int i64 x.dst)∧w'.cell? ⟨w.heap.size+1,2,none⟩=some (int i64 x.a)∧w'.cell? ⟨w.heap.size+1,3,none⟩=some (int i64 x.b)∧w'.cell? ⟨w.heap.size+1,4,none⟩=some (int i64 x.n)∧w'.cell? ⟨w.heap.size+1,5,none⟩=some (.slice a x.args.length cp)):=hid fun w' k=>⟨zd (ze hn1 k) 1,zd (ze hn2 k) 0,zd (ze hn2 k) 1,zd (ze hn2 k) 2,zd (ze hn2 k) 3,zd (ze hn2 k) 4,zd (ze hn2 k) 5⟩;have HWE:=hid hW;have HK2:=hid k2;clear h hr hR hty hif hz hl hops hul hW k2 hn1 hn2;generalize hres:zW P f x=res at *;clear hres;generalize hul:zN x=ul at *;have HUL:=hid hul;clear hul;go_enter Tryz.func110,Tryz.ntmps110;go_upto_region 1 with fail;rw[← HWE.o];clear HWE;generalize w.heap.size=q at *;obtain ⟨b1,c0,c1,c2,c3,c4,c5⟩:=B.o _ (zc.refl _ _);go_wp2_with fail;refine (HD.o _).mono ?_;rintro e w1 ⟨rfl,k1⟩;have KW1:=hid k1;clear b1 c0 c1 c2 c3 c4 c5 k1;obtain ⟨b1,c0,c1,c2,c3,c4,c5⟩:=B.o _ KW1.o;go_wp2_with fail;refine (HU.o _ (HK2.o.quiet KW1.o)).mono ?_;rintro e w2 ⟨ua,uc,rfl,hu,k2⟩;have KW2:=hid (KW1.o.quiet k2);have HUA:=hid hu;clear b1 c0 c1 c2 c3 c4 c5 k2 hu KW1 HD HU;obtain ⟨b1,c0,c1,c2,c3,c4,c5⟩:=B.o _ KW2.o;have KZ:Box (zc [] w w2):=hid (HK2.o.quiet KW2.o);obtain ⟨U,hU⟩:∃ U,U=ul.length:=⟨_,rfl⟩;rw[← hU] at hul9;rw[← hU];have HUN:=hid hU;clear hU;have HID:Box (zD x=false):=hid (by unfold zD;rcases HOPS.o with e | e | e <;> (rw[e];rfl));by_cases hd0:x.dst=0
 case neg=>
  have od:=QB hd0
  have HF:Box (res=false):=hid (by
   have:zp x=false:=by unfold zp;rcases HOPS.o with e | e | e <;> (rw[e];simp[qA,hd0])
   rw[HE0.o,this]
   rfl)
  clear hd0;go_wp2_with fail;go_ret;exact ⟨by rw[HF.o];rfl,KZ.o⟩
 have od:=QS hd0;have HDI:Box ((!zD x || inB x.dst R)=true):=hid (by rw[HID.o];rfl);have HDB:Box ((qA x.op || decide (x.dst=0))=true):=hid (by rcases HOPS.o with e | e | e <;> (rw[e];simp[hd0]));clear hd0;go_upto_region 8 with fail;go_wp2_with fail
 go_loop [11] (fun kv=>∃ k:Nat,k≤U∧kv=int i64 (k:Int)∧Box (∀ (j:Nat) (y:Int),j<k→ul[j]? = some y→inB y R=true)) (fun kv=>U - (intOf kv).toNat)
 case atStart=>exact ⟨0,by omega,rfl,hid fun j y hj=>by omega⟩
 case round=>
 obtain ⟨k,hk,rfl,HB⟩:=hrel;by_cases hlt:k<U
 case pos=>
  have hlt':(k:Int)<(U:Int):=by omega
  have hkl:k<ul.length:=by rw[← HUN.o];exact hlt
  obtain ⟨y,hy⟩:∃ y,ul[k]? = some y:=⟨_,List.getElem?_eq_getElem hkl⟩;obtain ⟨ub,uo,rfl,hc⟩:∃ b off,ua=some ⟨b,off,none⟩∧w2.cell? ⟨b,off+k,none⟩=some (int i64 y):=by
   rcases HUA.o with e | ⟨b,off,e,h⟩
   ·rw[e] at hy;simp at hy
   ·refine ⟨b,off,e,?_⟩
    rw[h k hkl,List.getD_eq_getElem?_getD,hy];rfl
  have HY:=hid hy;clear hy hkl;go_wp2_with fail;refine (HIN.o _ _ _).mono ?_;rintro e w3 ⟨rfl,hw3⟩;rw[hw3];clear hw3;cases hgy:inB y R with
  | true=>
   have HG:=hid hgy;clear hgy;go_wp2_with fail
   go_round
   case rel=>exact ⟨k+1,by omega,by go_num,hid fun j z hj hz=>by
    by_cases e:j<k
    ·exact HB.o j z e hz
    ·obtain rfl:j=k:=by omega
     rw[HY.o] at hz;cases hz
     exact HG.o⟩
   case measure=>simp[intOf];omega
  | false=>
   have HF:Box (res=false):=hid (by
    rw[HE0.o,zdz (by rw[HUL.o];exact HY.o) hgy,Bool.false_and,Bool.and_false])
   clear hgy;go_wp2_with fail;go_ret;exact ⟨by rw[HF.o];rfl,KZ.o⟩
 obtain rfl:U=k:=by omega
 have HREG:Box (j8 R x=true):=hid (zdr HDI.o (fun j y hy=>HB.o j y (by rw[HUN.o, ← HUL.o];exact (List.getElem?_eq_some_iff.1 hy).1) (by rw[← HUL.o];exact hy)));have HE1:Box (res=(zp x && qN P f x)):=hid (by rw[HE0.o,HREG.o,Bool.true_and]);have HUI:Box (∀ (j:Nat) (y:Int),(zN x)[j]? = some y→inB y R=true):=hid (fun j y hy=>HB.o j y (by rw[HUN.o, ← HUL.o];exact (List.getElem?_eq_some_iff.1 hy).1) (by rw[← HUL.o];exact hy));clear HE0 HB hlt;rcases HOPS.o with hop | hop | hop
 ·have HOP:=hid hop
  rw[hop] at c0;clear hop HOPS;obtain ⟨L,hL⟩:∃ L,L=x.args.length:=⟨_,rfl⟩;rw[← hL] at c5 ⊢;have HLN:=hid hL;clear hL;by_cases hg:L=0
  case neg=>
   have og:decide ((0:Int)<(L:Int))=true:=decide_eq_true (by omega);have og2:(0:Int)<(L:Int):=by omega
   have og3:0<L:=by omega
   have hgx:¬ x.args=[]:=fun e=>hg (by rw[HLN.o,e];rfl)
   have HF:Box (res=false):=hid (by
    have:zp x=false:=by unfold zp;rw[HOP.o];simp[qA,qO,qP,qT,qS,hgx]
    rw[HE1.o,this]
    rfl)
   clear hg hgx;go_wp2_with fail;go_ret;exact ⟨by rw[HF.o];rfl,KZ.o⟩
  have og:¬ (0:Int)<(L:Int):=by omega
  have og3:¬ 0<L:=by omega
  have HG0:Box (x.args.length=0):=hid (by rw[← HLN.o];exact hg);clear hg;have hrest:Box (zp x=true):=hid (by unfold zp;rw[HOP.o];have hdb:=HDB.o;rw[HOP.o] at hdb;simp[qA] at hdb;simp[qA,qO,qP,qT,qS,hdb,HG0.o]);have hua:inB x.a R=true:=HUI.o 0 x.a (by unfold zN;rw[HOP.o];rfl);have htn:tyB P (zq f x.a)=true:=zA HTY.o (by rw[← HRL.o];exact hua);obtain ⟨g0,g1⟩:=zt.1 hua;obtain ⟨A,hA⟩:∃ A:Nat,x.a=(A:Int):=⟨x.a.toNat,by omega⟩;have hAr:(A:Int)<(R:Int):=by omega
  obtain ⟨rb,ro,heq,hrc⟩:=HRR.o.at (zg (l:=f.regs) (k:=A) (d:=(0,0)) (by have:=HRL.o;omega));subst heq;have hTA:zq f x.a=f.regs.getD A (0,0):=by rw[hA,Zd (by rw[← HRL.o, ← hA];exact hua)];rfl
  have t0:=za KZ.o hrc.c0.1;have t1:=za KZ.o hrc.c1.1
  have HNUM1:Box ((f.regs.getD A (0,0)).1=1→inB (f.regs.getD A (0,0)).2 P.recs.length=true∧res=inB x.n (jC P (f.regs.getD A (0,0)).2).length):=hid (by
   intro ht;rw[← hTA] at ht ⊢;have h2:=zlr htn ht
   exact ⟨h2,by rw[HE1.o,hrest.o,zdO (by rw[HOP.o];decide) ht h2,Bool.true_and]⟩)
  have HNUM0:Box ((f.regs.getD A (0,0)).1≠1→res=true):=hid (by
   intro ht;rw[← hTA] at ht;rw[HE1.o,hrest.o,zjs (by rw[HOP.o];decide) ht]
   rfl)
  rw[hA] at c2;have HPC:=hid HPR.o.c0;clear hua htn g0 g1 hA hrc hTA HRR;generalize f.regs.getD A (0,0)=T at *;go_upto_region 22 with fail;have hnt:=zh w2 (.cells #[int i64 T.1,int i64 T.2] 52);have KT:Box (zc [] w2 (w2.alloc (.cells #[int i64 T.1,int i64 T.2] 52))):=hid (zc.alloc [] _ _);have n0:=zd hnt 0;have n1:=zd hnt 1;replace c4:=za KT.o c4;clear hnt;generalize w2.alloc (.cells #[int i64 T.1,int i64 T.2] 52)=w5 at *;generalize w2.heap.size=q5 at *;have KY:Box (zc [] w w5):=hid (KZ.o.quiet KT.o);clear KT t0 t1 b1 c0 c1 c2 c3 c5;by_cases ht:T.1=1
  case neg=>
   have HF:=hid (HNUM0.o ht);have ot:=QB ht;clear ht HNUM1 HNUM0 HPC;go_quiet (fail);go_wp2_with fail;go_ret;exact ⟨by rw[HF.o];rfl,KY.o.quiet (zc.drewN _ _ _)⟩
  have h12:=HNUM1.o ht;have ot:=QS ht;obtain ⟨j0,j1⟩:=zt.1 h12.1;have HF0:=hid h12.2;clear ht HNUM1 HNUM0 h12;obtain ⟨J,hJ⟩:∃ J:Nat,T.2=(J:Int):=⟨T.2.toNat,by omega⟩;obtain ⟨pa,pp,pc,prr,_⟩:=HPC.o;obtain ⟨gb,go,rfl,hgc⟩:=prr.at (zg (l:=P.recs) (k:=J) (d:=[]) (by omega));obtain ⟨ga,gp,gc,_⟩:=hgc
  have HF:Box (res=inB x.n (P.recs.getD J []).length):=hid (by
   have:=HF0.o;unfold jC at this;rw[hJ,show ((J:Int)).toNat=J by omega] at this
   exact this)
  have pc5:=za KY.o pc;have gc5:=za KY.o gc;have hJl:(J:Int)<(P.recs.length:Int):=by omega
  rw[hJ] at n1;rw[Nat.mul_one] at gc5;clear pc prr gc HPC HF0 j0 j1 hJ;generalize (P.recs.getD J []).length=M at *;generalize P.recs.length=TN at *;have HQ:=hid (HIN.o x.n M);generalize inB x.n M=RB at *;go_quiet ((go_at_call 109;exact Calls.quiet_of_same (HQ.o _)));go_wp2_with fail;go_ret;exact ⟨by rw[HF.o];rfl,KY.o.quiet (zc.drewN _ _ _)⟩
 ·have HOP:=hid hop
  rw[hop] at c0;clear hop HOPS;by_cases hb:x.b=0
  case neg=>
   have ob:=QB hb
   have HF:Box (res=false):=hid (by
    have:zp x=false:=by unfold zp;rw[HOP.o];simp[qA,qO,qP,qT,qS,hb]
    rw[HE1.o,this]
    rfl)
   clear hb;go_wp2_with fail;go_ret;exact ⟨by rw[HF.o];rfl,KZ.o⟩
  have ob:=QS hb;have HB0:=hid hb;clear hb;obtain ⟨L,hL⟩:∃ L,L=x.args.length:=⟨_,rfl⟩;rw[← hL] at c5 ⊢;have HLN:=hid hL;clear hL;by_cases hg:L=0
  case neg=>
   have og:decide ((0:Int)<(L:Int))=true:=decide_eq_true (by omega);have og2:(0:Int)<(L:Int):=by omega
   have og3:0<L:=by omega
   have hgx:¬ x.args=[]:=fun e=>hg (by rw[HLN.o,e];rfl)
   have HF:Box (res=false):=hid (by
    have:zp x=false:=by unfold zp;rw[HOP.o];simp[qA,qO,qP,qT,qS,hgx]
    rw[HE1.o,this]
    rfl)
   clear hg hgx;go_wp2_with fail;go_ret;exact ⟨by rw[HF.o];rfl,KZ.o⟩
  have og:¬ (0:Int)<(L:Int):=by omega
  have og3:¬ 0<L:=by omega
  have HG0:Box (x.args.length=0):=hid (by rw[← HLN.o];exact hg);clear hg
  have HF:Box (res=(x.n == 0)):=hid (by
   have hrest:zp x=(x.n == 0):=by
    have e9:(x.n == 0)=decide (x.n=0):=by by_cases e:x.n=0 <;> simp[e]
    unfold zp;rw[HOP.o,e9];have hdb:=HDB.o;rw[HOP.o] at hdb;simp[qA] at hdb;simp[qA,qO,qP,qT,qS,hdb,HB0.o,HG0.o]
   rw[HE1.o,hrest,show qN P f x=true by unfold qN;rw[HOP.o];rfl,Bool.and_true])
  go_wp2_with fail;go_ret;exact ⟨by rw[HF.o];rfl,KZ.o⟩
 ·have HOP:=hid hop
  rw[hop] at c0;clear hop HOPS;by_cases hb:x.b=0
  case neg=>
   have ob:=QB hb
   have HF:Box (res=false):=hid (by
    have:zp x=false:=by unfold zp;rw[HOP.o];simp[qA,qO,qP,qT,qS,hb]
    rw[HE1.o,this]
    rfl)
   clear hb;go_wp2_with fail;go_ret;exact ⟨by rw[HF.o];rfl,KZ.o⟩
  have ob:=QS hb;have HB0:=hid hb;clear hb;obtain ⟨L,hL⟩:∃ L,L=x.args.length:=⟨_,rfl⟩;rw[← hL] at c5 ⊢;have HLN:=hid hL;clear hL;by_cases hg:L=0
  case neg=>
   have og:decide ((0:Int)<(L:Int))=true:=decide_eq_true (by omega);have og2:(0:Int)<(L:Int):=by omega
   have og3:0<L:=by omega
   have hgx:¬ x.args=[]:=fun e=>hg (by rw[HLN.o,e];rfl)
   have HF:Box (res=false):=hid (by
    have:zp x=false:=by unfold zp;rw[HOP.o];simp[qA,qO,qP,qT,qS,hgx]
    rw[HE1.o,this]
    rfl)
   clear hg hgx;go_wp2_with fail;go_ret;exact ⟨by rw[HF.o];rfl,KZ.o⟩
  have og:¬ (0:Int)<(L:Int):=by omega
  have og3:¬ 0<L:=by omega
  have HG0:Box (x.args.length=0):=hid (by rw[← HLN.o];exact hg);clear hg
  have HF:Box (res=(x.n == 0)):=hid (by
   have hrest:zp x=(x.n == 0):=by
    have e9:(x.n == 0)=decide (x.n=0):=by by_cases e:x.n=0 <;> simp[e]
    unfold zp;rw[HOP.o,e9];have hdb:=HDB.o;rw[HOP.o] at hdb;simp[qA] at hdb;simp[qA,qO,qP,qT,qS,hdb,HB0.o,HG0.o]
   rw[HE1.o,hrest,show qN P f x=true by unfold qN;rw[HOP.o];rfl,Bool.and_true])
  go_wp2_with fail;go_ret;exact ⟨by rw[HF.o];rfl,KZ.o⟩
theorem zit(v1 v2 v3:Value)(x:In8)(ar:Value)(ho:x.op<1∨(¬ x.op<1∧15<x.op)):Calls Tryz.prog 110 #[pointer (some ⟨pb,po,none⟩),agg #[v1,v2,v3],z8 x ar] w fun e w'=>e=.returned (.bool (zW P f x))∧zc [] w w':=by
 have HF:Box (zW P f x=false):=hid (by
  have:zp x=false:=by
   unfold zp;rw[show decide (1≤x.op∧x.op≤15)=false from decide_eq_false (by omega)];rfl
  unfold zW;rw[this]
  rfl)
 generalize zW P f x=res at *;have HK:Box (zc [] w ((w.alloc (.cells #[v1,v2,v3] 50)).alloc (.cells #[int i64 x.op,int i64 x.dst,int i64 x.a,int i64 x.b,int i64 x.n,ar] 54))):=hid ((zc.alloc [] _ _).quiet (zc.alloc [] _ _));unfold z8;rcases ho with h1 | ⟨h1,h2⟩
 all_goals (
  go_enter Tryz.func110,Tryz.ntmps110;go_wp2_with fail;go_ret
  exact ⟨by rw[HF.o];rfl,HK.o⟩)
theorem zaJ(h:PrC w pb po P)(hr:z7 w 2 TyC ra f.regs)(hR:R=f.regs.length)(rp:Nat)(bv:Value)(hty:QA P f.regs=true)(hif:P.ifs.all (fun l=>Zp l P.sigs.length)=true)(x:In8)(hz:zw w a x.args)(hl:x.args.length≤1000):Calls Tryz.prog 110 #[pointer (some ⟨pb,po,none⟩),fnV f.sig ra R rp bv,z8 x (.slice a x.args.length cp)] w fun e w'=>e=.returned (.bool (zW P f x))∧zc [] w w':=by
 by_cases ho:x.op<1∨(¬ x.op<1∧15<x.op)
 ·exact zit _ _ _ x _ ho
 have h15:x.op=1∨x.op=2∨x.op=3∨x.op=4∨x.op=5∨x.op=6∨x.op=7∨x.op=8∨x.op=9∨x.op=10∨x.op=11∨x.op=12∨x.op=13∨x.op=14∨x.op=15:=by omega
 rcases h15 with e | e | e | e | e | e | e | e | e | e | e | e | e | e | e
 ·exact ZH h hr hR rp bv hty hif x hz hl (by omega)
 ·exact ZH h hr hR rp bv hty hif x hz hl (by omega)
 ·exact ZH h hr hR rp bv hty hif x hz hl (by omega)
 ·exact ZH h hr hR rp bv hty hif x hz hl (by omega)
 ·exact ZH h hr hR rp bv hty hif x hz hl (by omega)
 ·exact ZH h hr hR rp bv hty hif x hz hl (by omega)
 ·exact ZH h hr hR rp bv hty hif x hz hl (by omega)
 ·exact zfJ h hr hR rp bv hty hif x hz hl (by omega)
 ·exact zfJ h hr hR rp bv hty hif x hz hl (by omega)
 ·exact ZH h hr hR rp bv hty hif x hz hl (by omega)
 ·exact ZH h hr hR rp bv hty hif x hz hl (by omega)
 ·exact ZH h hr hR rp bv hty hif x hz hl (by omega)
 ·exact ZH h hr hR rp bv hty hif x hz hl (by omega)
 ·exact ZH h hr hR rp bv hty hif x hz hl (by omega)
 ·exact zfJ h hr hR rp bv hty hif x hz hl (by omega)
end Go.Proofs.YthflgjkmbakedaaGreatDoor
