import Derived.Test.YthflgjkmbakedaaGreatDoorA05

namespace Go.Proofs.YthflgjkmbakedaaGreatDoor
open Go.RowKit
open Go.Value (int pointer agg)
open Go.IntKind (i64)
set_option maxRecDepth 20000
set_option maxHeartbeats 8000000
variable {P:Pr8}{a:Act}{f:Int}{i p pb po tb:Nat}{l:Array Bool}{oi:Oper}{v:Value}{w w':World}
theorem zdg(g:isF P f=true):∃ k:Nat,f=(k:Int)∧k<P.funcs.length:=by
 unfold isF at g;rw[Bool.and_eq_true] at g;have g1:=of_decide_eq_true g.1;have g2:=of_decide_eq_true g.2;exact ⟨f.toNat,by omega,by omega⟩
theorem zdo(h:TbC w tb P)(hs:SmN P)(f:Int):Calls Tryz.prog 42 #[pointer (some ⟨tb,0,none⟩),int i64 f] w fun e w'=>e=.returned (int i64 (ze9 P f))∧w'=w:=by
 have hc:=hid (zbb h hs f);unfold ze9;by_cases g:isF P f=true
 ·rw[if_pos g]
  rw[g] at hc;obtain ⟨k,rfl,hk⟩:=zdg g;obtain ⟨a,cp,h1, -⟩:=h.ss;have h4:=hs.fn;have h5:=hs.st;clear h hs g;generalize P.funcs.length=m at *;generalize (qG P).length=n at *;go_enter Tryz.func42,Tryz.ntmps42;go_wp2_with fail;refine hc.o.mono ?_;rintro e w1 ⟨rfl,rfl⟩;go_wp2_with fail;go_ret;exact ⟨rfl,rfl⟩
 ·rw[if_neg g]
  rw[Bool.not_eq_true] at g;rw[g] at hc;clear h hs;go_enter Tryz.func42,Tryz.ntmps42;go_wp2_with fail;refine hc.o.mono ?_;rintro e w1 ⟨rfl,rfl⟩;go_wp2_with fail;go_ret;exact ⟨rfl,rfl⟩
theorem zi1(h:TbC w tb P)(hs:SmN P)(t:Int):Calls Tryz.prog 44 #[pointer (some ⟨tb,0,none⟩),int i64 t] w fun e w'=>e=.returned (int i64 (zaP P t))∧zc [] w w':=by
 have hc:=hid (zbG h hs t);clear h hs;unfold zaP;cases e:za3 P t with
 | none=>
  rw[e] at hc;clear e;go_enter Tryz.func44,Tryz.ntmps44;go_wp2_with fail;refine hc.o.mono ?_;rintro e w1 ⟨rfl,k1⟩;have K1:=hid k1;unfold siV;clear k1;go_wp2_with fail;go_ret;exact ⟨rfl,K1.o.quiet (zc.alloc _ _ _)⟩
 | some s=>
  rw[e] at hc;clear e;unfold siV stV at hc;go_enter Tryz.func44,Tryz.ntmps44;go_wp2_with fail;refine hc.o.mono ?_;rintro e w1 ⟨rfl,k1⟩;have K1:=hid k1;clear k1;go_wp2_with fail;go_ret;exact ⟨rfl,K1.o.quiet (zc.alloc _ _ _)⟩
theorem zaN(h:TbC w tb P)(hs:SmN P)(f r:Int):Calls Tryz.prog 38 #[pointer (some ⟨tb,0,none⟩),int i64 f,int i64 r] w fun e w'=>e=.returned (int i64 (zcF P f r))∧zc [] w w':=by
 have hc:=hid fun w' (k:zc [] w w')=>zbb (h.quiet k) hs f;have hc2:=hid fun w' (k:zc [] w w')=>zb2 (h.quiet k) hs f;unfold zcF;by_cases g:isF P f=true
 ·by_cases g0:0≤r
  ·rw[g] at hc
   unfold zcW at hc2;rw[if_pos g] at hc2;obtain ⟨k,rfl,hk⟩:=zdg g;obtain ⟨b,o,cp,h1,h2⟩:=h.beg;have h3:=h2 k (by omega);have h5:=hs.beg (k:=k) (by omega);have h6:=hs.rg k hk;have h4:=hs.fn;rw[Int.toNat_natCast] at hc2 ⊢;have HG:=hid g;clear h h2 hs g;generalize jv P k=x at *;generalize (zf P k).regs.length=y at *;have hk9:(k:Int)<((P.funcs.length+1:Nat):Int):=by omega
   have g0':¬ r<0:=by omega
   generalize P.funcs.length=n at *;by_cases g1:r<(y:Int)
   ·rw[if_pos ⟨HG.o,g0,g1⟩]
    have g2:¬ ((x:Int)+(y:Int) - (x:Int)≤r):=by omega
    clear HG;go_enter Tryz.func38,Tryz.ntmps38;go_upto_region 1 with fail;go_quiet (first | (go_at_call 73;exact Calls.quiet_of_same (hc.o _ (zc.drewN _ _ _))) | (go_at_call 40;exact Calls.quiet_of_same (hc2.o _ (zc.drewN _ _ _))));go_wp2_with fail;go_ret;exact ⟨rfl,zc.drewN _ _ _⟩
   ·rw[if_neg (fun q=>g1 q.2.2)]
    have g2:(x:Int)+(y:Int) - (x:Int)≤r:=by omega
    clear HG;go_enter Tryz.func38,Tryz.ntmps38;go_upto_region 1 with fail;go_quiet (first | (go_at_call 73;exact Calls.quiet_of_same (hc.o _ (zc.drewN _ _ _))) | (go_at_call 40;exact Calls.quiet_of_same (hc2.o _ (zc.drewN _ _ _))));go_wp2_with fail;go_ret;exact ⟨rfl,zc.drewN _ _ _⟩
  ·rw[if_neg (fun q=>g0 q.2.1)]
   rw[g] at hc;have g1:r<0:=by omega
   clear h hs hc2 g g0;go_enter Tryz.func38,Tryz.ntmps38;go_upto_region 1 with fail;go_quiet (first | (go_at_call 73;exact Calls.quiet_of_same (hc.o _ (zc.drewN _ _ _))));go_wp2_with fail;go_ret;exact ⟨rfl,zc.drewN _ _ _⟩
 ·rw[if_neg (fun q=>g q.1)]
  rw[Bool.not_eq_true] at g;rw[g] at hc;clear h hs hc2 g;go_enter Tryz.func38,Tryz.ntmps38;go_upto_region 1 with fail;go_quiet (first | (go_at_call 73;exact Calls.quiet_of_same (hc.o _ (zc.drewN _ _ _))));go_wp2_with fail;go_ret;exact ⟨rfl,zc.drewN _ _ _⟩
theorem zog{l:List St}{k:Nat}(h:k<l.length):l[k]? = some (l.getD k ⟨0,0,0,0⟩):=by
 rw[List.getD_eq_getElem?_getD,List.getElem?_eq_getElem h];rfl
theorem zfu(h:TbC w tb P)(hs:SmN P)(s f:Int):Calls Tryz.prog 46 #[pointer (some ⟨tb,0,none⟩),agg #[int i64 s,int i64 f]] w fun e w'=>e=.returned (int i64 (Qw P s f))∧zc [] w w':=by
 have K:=hid (zc.alloc [] w (.cells #[int i64 s,int i64 f] 91));have n0:=zd (zh w (.cells #[int i64 s,int i64 f] 91)) 0;have n1:=zd (zh w (.cells #[int i64 s,int i64 f] 91)) 1;have hc:=hid (zbG (h.quiet K.o) hs s);have HO:Box (∀ x,za3 P s=some x→x.c+x.n≤150204):=hid fun x hx=>Nat.le_trans (Jx P _ x (jT hx).1).c (hs.nodes (Nat.le_refl _));clear h hs;unfold Qw;cases e:za3 P s with
 | none=>
  rw[e] at hc;clear e HO;go_enter Tryz.func46,Tryz.ntmps46;go_upto_region 1 with fail;generalize w.alloc (.cells #[int i64 s,int i64 f] 91)=w1 at *;generalize w.heap.size=q at *;go_wp2_with fail;refine hc.o.mono ?_;rintro e w2 ⟨rfl,k1⟩;have K1:=hid (K.o.quiet k1);unfold siV;clear k1;go_wp2_with fail;go_ret;exact ⟨rfl,K1.o.quiet (zc.alloc _ _ _)⟩
 | some x=>
  rw[e] at hc;have ho:=HO.o x e;clear e HO;unfold siV stV at hc;by_cases g0:0≤f
  ·have g0':¬ f<0:=by omega
   by_cases g1:f<(x.n:Int)
   ·go_enter Tryz.func46,Tryz.ntmps46
    go_upto_region 1 with fail;generalize w.alloc (.cells #[int i64 s,int i64 f] 91)=w1 at *;generalize w.heap.size=q at *;go_wp2_with fail;refine hc.o.mono ?_;rintro e w2 ⟨rfl,k1⟩;have m0:=za k1 n0;have m1:=za k1 n1;have hq2:=block_lt_of_cell m1;have K1:=hid (K.o.quiet k1);clear k1 n0 n1;go_wp2_with fail;go_ret;exact ⟨rfl,K1.o.quiet (zc.alloc _ _ _)⟩
   ·go_enter Tryz.func46,Tryz.ntmps46
    go_upto_region 1 with fail;generalize w.alloc (.cells #[int i64 s,int i64 f] 91)=w1 at *;generalize w.heap.size=q at *;go_wp2_with fail;refine hc.o.mono ?_;rintro e w2 ⟨rfl,k1⟩;have m0:=za k1 n0;have m1:=za k1 n1;have hq2:=block_lt_of_cell m1;have K1:=hid (K.o.quiet k1);clear k1 n0 n1;go_wp2_with fail;go_ret;exact ⟨rfl,K1.o.quiet (zc.alloc _ _ _)⟩
  ·have g0':f<0:=by omega
   go_enter Tryz.func46,Tryz.ntmps46;go_upto_region 1 with fail;generalize w.alloc (.cells #[int i64 s,int i64 f] 91)=w1 at *;generalize w.heap.size=q at *;go_wp2_with fail;refine hc.o.mono ?_;rintro e w2 ⟨rfl,k1⟩;have m0:=za k1 n0;have m1:=za k1 n1;have hq2:=block_lt_of_cell m1;have K1:=hid (K.o.quiet k1);clear k1 n0 n1;go_wp2_with fail;go_ret;exact ⟨rfl,K1.o.quiet (zc.alloc _ _ _)⟩
theorem ziV(h:TbC w tb P)(hs:SmN P)(o:Int)(ho:o≤9223372036854775807):Calls Tryz.prog 48 #[pointer (some ⟨tb,0,none⟩),int i64 o] w fun e w'=>e=.returned (.tuple #[int i64 (zao P o).1,.bool (zao P o).2])∧w'=w:=by
 obtain ⟨a,cp,h1,h2⟩:=h.ss;have h5:=hs.st;unfold zao;by_cases g0:o<0
 ·rw[if_pos g0]
  clear h hs;go_enter Tryz.func48,Tryz.ntmps48;go_wp2_with fail
  go_ret2
  exact ⟨rfl,rfl⟩
 ·rw[if_neg g0]
  by_cases g1:o<((qG P).length:Int)
  ·rw[if_pos g1]
   obtain ⟨k,rfl⟩:∃ k:Nat,o=(k:Int):=⟨o.toNat,by omega⟩;rw[Int.toNat_natCast];have hk:k<(qG P).length:=by omega
   obtain ⟨b,off,rfl,hc⟩:=h2.at (zog hk);have c0:=hc.c0;generalize ((qG P).getD k ⟨0,0,0,0⟩).p=p at *;clear h hs hc h2;generalize (qG P).length=n at *;go_enter Tryz.func48,Tryz.ntmps48;go_wp2_with fail
   go_ret2
   exact ⟨rfl,rfl⟩
  ·rw[if_neg g1]
   have hc:=hid (zbb h hs (o - ((qG P).length:Int)));clear h hs h2;generalize (qG P).length=n at *;by_cases g:isF P (o - (n:Int))=true
   ·rw[if_pos g]
    rw[g] at hc;clear g;go_enter Tryz.func48,Tryz.ntmps48;go_wp2_with fail;refine hc.o.mono ?_;rintro e w1 ⟨rfl,rfl⟩;go_wp2_with fail
    go_ret2
    exact ⟨rfl,rfl⟩
   ·rw[if_neg g]
    rw[Bool.not_eq_true] at g;rw[g] at hc;clear g;go_enter Tryz.func48,Tryz.ntmps48;go_wp2_with fail;refine hc.o.mono ?_;rintro e w1 ⟨rfl,rfl⟩;go_wp2_with fail
    go_ret2
    exact ⟨rfl,rfl⟩
def SmE(P:Pr8):Prop:=P.funcs.length≤12∧P.recs.length≤12∧P.sigs.length≤12∧P.ifs.length≤12∧P.ims.length≤14∧(∀ f,f<P.funcs.length→(zf P f).blocks.length≤14∧(zf P f).regs.length≤20)∧wP P P.funcs.length≤150
theorem SmE.sm(h:SmE P):Sm8 P:=⟨h.1,fun f hf=>(h.2.2.2.2.2.1 f hf).1,by rw[zcB,zm8 P _ h.2.2.2.2.2.2];exact h.2.2.2.2.2.2⟩
def zoa(P:Pr8)(w:World)(e:Ending)(w':World):Prop:=∃ s,e=.returned (.bool s)∧w'=w∧(s=true→SmE P)∧(SmE P→s=true)
theorem zcJ(h:PrC w pb po P):Calls Tryz.prog 12 #[pointer (some ⟨pb,po,none⟩)] w (zoa P w):=by
 obtain ⟨fa,fcp,H⟩:=h.fns;have h4:=H.cell;obtain ⟨a0,p0,h0⟩:=h.c0.len;obtain ⟨a1,p1,h1⟩:=h.c1.len;obtain ⟨a2,p2,h2⟩:=h.c2.len;obtain ⟨a3,p3,h3⟩:=h.c3.len;have HF:=hid H;obtain ⟨N,hNN⟩:∃ N,N=P.funcs.length:=⟨_,rfl⟩;have HN:=hid hNN;have HE:Box (SmE P→P.funcs.length≤12∧P.recs.length≤12∧P.sigs.length≤12∧P.ifs.length≤12∧P.ims.length≤14):=hid fun h=>⟨h.1,h.2.1,h.2.2.1,h.2.2.2.1,h.2.2.2.2.1⟩;have HEF:Box (SmE P→∀ f,f<P.funcs.length→(zf P f).blocks.length≤14∧(zf P f).regs.length≤20):=hid fun h=>h.2.2.2.2.2.1;have HEW:Box (SmE P→wP P P.funcs.length≤150):=hid fun h=>h.2.2.2.2.2.2;have HMK:Box (P.funcs.length≤12→P.recs.length≤12→P.sigs.length≤12→P.ifs.length≤12→P.ims.length≤14→(∀ f,f<P.funcs.length→(zf P f).blocks.length≤14∧(zf P f).regs.length≤20)→wP P P.funcs.length≤150→SmE P):=hid fun h1 h2 h3 h4 h5 h6 h7=>⟨h1,h2,h3,h4,h5,h6,h7⟩;rw[← hNN] at h4;rw[← hNN] at HE HEF HEW HMK;generalize P.recs.length=n0 at *;generalize P.sigs.length=n1 at *;generalize P.ifs.length=n2 at *;generalize P.ims.length=n3 at *;clear h H hNN;by_cases g4:N≤12
 case neg=>
  have g4':(12:Int)<(N:Int):=by omega
  have NG:=hid g4;clear g4;go_enter Tryz.func12,Tryz.ntmps12;go_wp2;go_ret;exact ⟨false,rfl,rfl,(fun e=>by cases e),fun h=>absurd (HE.o h).1 NG.o⟩
 have g4':¬ (12:Int)<(N:Int):=by omega
 by_cases g0:n0≤12
 case neg=>
  have g0':(12:Int)<(n0:Int):=by omega
  have NG:=hid g0;clear g0;go_enter Tryz.func12,Tryz.ntmps12;go_wp2;go_ret;exact ⟨false,rfl,rfl,(fun e=>by cases e),fun h=>absurd (HE.o h).2.1 NG.o⟩
 have g0':¬ (12:Int)<(n0:Int):=by omega
 by_cases g1:n1≤12
 case neg=>
  have g1':(12:Int)<(n1:Int):=by omega
  have NG:=hid g1;clear g1;go_enter Tryz.func12,Tryz.ntmps12;go_wp2;go_ret;exact ⟨false,rfl,rfl,(fun e=>by cases e),fun h=>absurd (HE.o h).2.2.1 NG.o⟩
 have g1':¬ (12:Int)<(n1:Int):=by omega
 by_cases g2:n2≤12
 case neg=>
  have g2':(12:Int)<(n2:Int):=by omega
  have NG:=hid g2;clear g2;go_enter Tryz.func12,Tryz.ntmps12;go_wp2;go_ret;exact ⟨false,rfl,rfl,(fun e=>by cases e),fun h=>absurd (HE.o h).2.2.2.1 NG.o⟩
 have g2':¬ (12:Int)<(n2:Int):=by omega
 by_cases g3:n3≤14
 case neg=>
  have g3':(14:Int)<(n3:Int):=by omega
  have NG:=hid g3;clear g3;go_enter Tryz.func12,Tryz.ntmps12;go_wp2;go_ret;exact ⟨false,rfl,rfl,(fun e=>by cases e),fun h=>absurd (HE.o h).2.2.2.2 NG.o⟩
 have g3':¬ (14:Int)<(n3:Int):=by omega
 go_enter Tryz.func12,Tryz.ntmps12;go_wp2_with fail;have HG0:=hid (HMK.o g4 g0 g1 g2 g3);clear h0 h1 h2 h3 g0 g1 g2 g3 g0' g1' g2' g3' g4' HMK HE
 go_loop [3,4] (fun nv kv=>∃ k:Nat,k≤N∧kv=int i64 (k:Int)∧nv=int i64 (wP P k:Int)∧Box (wP P k≤14014 * k∧∀ f,f<k→(zf P f).blocks.length≤14∧(zf P f).regs.length≤20)) (fun _ kv=>N - (intOf kv).toNat)
 case atStart=>exact ⟨0,by omega,rfl,rfl,hid ⟨Nat.zero_le _,fun f hf=>by omega⟩⟩
 case round=>
  obtain ⟨k,hk,rfl,rfl,HI⟩:=hrel;by_cases hlt:k<N
  ·have hlt':(k:Int)<(N:Int):=by omega
   obtain ⟨fb,fo,hfa,HFU⟩:=HF.o.rows.at (zg (d:=⟨0,[],[]⟩) (show k<P.funcs.length by rw[← HN.o];exact hlt));subst hfa;have hfu:FuC w fb (fo+k * 3) (zf P k):=HFU;obtain ⟨ra,rcp,hr⟩:=hfu.c1.len;obtain ⟨ba,bcp,hb,hrows,_⟩:=hfu.c2;have HRW:=hid hrows;obtain ⟨M,hMM⟩:∃ M,M=(zf P k).blocks.length:=⟨_,rfl⟩;have HM:=hid hMM;have HBK:Box (SmE P→(zf P k).blocks.length≤14):=hid fun h=>(HEF.o h k hlt).1;have HRK:Box (SmE P→(zf P k).regs.length≤20):=hid fun h=>(HEF.o h k hlt).2;have HRE:Box (∀ n,(zf P k).regs.length=n→n≤20→(zf P k).regs.length≤20):=hid fun n e h=>e ▸ h;obtain ⟨rn,hrn0⟩:∃ rn,rn=(zf P k).regs.length:=⟨_,rfl⟩;have HRN:=hid hrn0;rw[← hMM] at hb HBK;rw[← hrn0] at hr HRK;clear hrn0 HRE;clear HFU hfu hrows hMM;by_cases hM:M≤14
   case neg=>
    have hM':(14:Int)<(M:Int):=by omega
    have NG:=hid hM;clear hM;go_wp2_with fail;go_ret;exact ⟨false,rfl,rfl,(fun e=>by cases e),fun h=>absurd (HBK.o h) NG.o⟩
   have hM':¬ (14:Int)<(M:Int):=by omega
   by_cases hrn:rn≤20
   case neg=>
    have hr':(20:Int)<(rn:Int):=by omega
    have NG:=hid hrn;clear hrn;go_wp2_with fail;go_ret;exact ⟨false,rfl,rfl,(fun e=>by cases e),fun h=>absurd (HRK.o h) NG.o⟩
   have hr':¬ (20:Int)<(rn:Int):=by omega
   have hwk:=HI.o.1;go_wp2_with fail;have HR20:Box ((zf P k).regs.length≤20):=hid (by rw[← HRN.o];exact hrn);clear hr hr' hM' hrn HBK HRK HRN
   go_loop [3,5] (fun nv bv=>∃ b:Nat,b≤M∧bv=int i64 (b:Int)∧nv=int i64 ((wP P k+wF (zf P k) b:Nat):Int)) (fun _ bv=>M - (intOf bv).toNat)
   case atStart=>exact ⟨0,by omega,rfl,rfl⟩
   case round=>
    obtain ⟨b,hb9,rfl,rfl⟩:=hrel;by_cases hlb:b<M
    ·have hlb':(b:Int)<(M:Int):=by omega
     obtain ⟨bb,bo,hba,L⟩:=HRW.o.at (show (zf P k).blocks[b]? = some (zr (zf P k) b) from zg (by rw[← HM.o];exact hlb));subst hba;obtain ⟨ca,ccp,hc⟩:=L.c0.len;have hsu:wF (zf P k) (b+1)=wF (zf P k) b+(1+min 1000 (zr (zf P k) b).code.length):=rfl;have hbd:=zia (zf P k) (b+1);clear L;generalize (zr (zf P k) b).code.length=c at *;generalize hA:wP P k+wF (zf P k) b=A at *;generalize hB:wP P k+wF (zf P k) (b+1)=B at *;have HB:=hid hB;have hAB:B=A+(1+min 1000 c):=by omega
     have hA8:A≤200000:=by have:=zia (zf P k) b;omega
     clear hA hB hsu;have hA9:(A:Int)≤200000:=by omega
     have hA0:(0:Int)≤(A:Int):=by omega
     by_cases hcc:c<1000
     ·have hc1:(c:Int)<1000:=by omega
      have hBe:Box (B=A+(1+c)):=hid (by omega);have w4:IntKind.i64.wrap ((A:Int)+(1+(c:Int)))=(A:Int)+(1+(c:Int)):=IntWalk.i64_in _ (by omega);clear hAB hbd hcc;go_wp2_with fail
      go_round
      case rel=>exact ⟨b+1,by omega,by go_num,by rw[HB.o,hBe.o];go_num⟩
      case measure=>simp[intOf];omega
     ·have hc1:¬ (c:Int)<1000:=by omega
      have hBe:Box (B=A+1001):=hid (by omega);have w4:IntKind.i64.wrap ((A:Int)+1001)=(A:Int)+1001:=IntWalk.i64_in _ (by omega);clear hAB hbd hcc;go_wp2_with fail
      go_round
      case rel=>exact ⟨b+1,by omega,by go_num,by rw[HB.o,hBe.o];go_num⟩
      case measure=>simp[intOf];omega
    ·obtain rfl:b=M:=by omega
     have hE:Box (wP P (k+1)=wP P k+wF (zf P k) b):=hid (by rw[wP, ← HM.o]);have hL:=zia (zf P k) b
     have HI2:Box (wP P (k+1)≤14014 * (k+1)∧∀ f,f<k+1→(zf P f).blocks.length≤14∧(zf P f).regs.length≤20):=hid ⟨by rw[hE.o];omega,fun f hf=>by
      by_cases e:f<k
      ·exact HI.o.2 f e
      ·obtain rfl:f=k:=by omega
       exact ⟨by rw[← HM.o];exact hM,HR20.o⟩⟩
     clear hL hwk;generalize wP P k+wF (zf P k) b=A at *;go_wp2_with fail
     go_round
     case rel=>exact ⟨k+1,by omega,by go_num,by rw[hE.o],HI2⟩
     case measure=>simp[intOf];omega
  ·obtain rfl:k=N:=by omega
   have hA:=HI.o.1;have FIN:Box (wP P k≤150→SmE P):=hid fun h9=>HG0.o HI.o.2 h9;have FOUT:Box (SmE P→wP P k≤150):=hid HEW.o;clear HG0 HEW HEF;generalize wP P k=A at *;by_cases h9:A≤150
   ·have h9':(A:Int)≤150:=by omega
    have HS:=hid (FIN.o h9);clear FIN;go_wp2_with fail;go_ret;exact ⟨true,rfl,rfl,fun _=>HS.o,fun _=>rfl⟩
   ·have h9':¬ (A:Int)≤150:=by omega
    clear FIN;go_wp2_with fail;go_ret;exact ⟨false,rfl,rfl,(fun e=>by cases e),fun h=>absurd (FOUT.o h) h9⟩
section
open Go.Extern.Stop Go.Stop Go.Extern
theorem zjS{cs:Array Value}{t:TypeId}(h:w.heap[p]? = some (.cells cs t (0,0)))(k:Nat):w.frozen? ⟨p,k,none⟩=false:=zi h k
structure zeP (w:World):Prop where
 et:w.cell? ⟨0,0,none⟩=some (.iface 323 (agg #[pointer (some ⟨2,105,none⟩)]))
theorem zeP.quiet(g:zeP w)(k:zc [] w w'):zeP w':=⟨za k g.et⟩
theorem zhg{cs:Array Value}{T:TypeId}(h:w.heap[p]? = some (.cells cs T (0,0)))(k:Nat):w.cell? ⟨p,k,none⟩=cs[k]? := cell_of_row w p k _ _ _ h
theorem zcA(t:Addr)(w:World):(ReflectliteValue.unpack (.iface 206 (.pointer (some t)))).run Tryz.prog w
  = .ok (agg #[pointer (some ⟨2,206,none⟩),pointer (some ⟨w.heap.size,0,none⟩),.int .u64 150]) (w.alloc (.cells #[.pointer (some t)] 206)):=by kernel_rfl
theorem ziH(a:Addr)(w:World):(ReflectliteValue.methodAny (ReflectliteValue.valueError "reflectlite.Value.Type" 0) (fun t _ _ _=>ReflectliteType.toType t) #[agg #[pointer (some ⟨2,206,none⟩),.pointer (some a),.int .u64 150]]).run Tryz.prog w
  = .ok (.iface 323 (agg #[pointer (some ⟨2,206,none⟩)])) w:=by kernel_rfl
theorem zcc(h:Value)(w:World):(Go.method 476 323 (agg #[h]) "Kind").run Tryz.prog w=.ok (274,h) w:=by kernel_rfl
theorem zig(w:World):((ReflectliteType.abiMethod fun t=>(fun a:Nat=>Value.int IntKind.u8 (a:Int)) <$> Rtype.kind t) #[pointer (some ⟨2,206,none⟩)]).run Tryz.prog w=.ok (.int .u8 22) w:=by kernel_rfl
theorem zkI(w:World):((ReflectliteType.abiMethod fun t=>(fun a:Nat=>Value.int IntKind.u8 (a:Int)) <$> Rtype.kind t) #[pointer (some ⟨2,204,none⟩)]).run Tryz.prog w=.ok (.int .u8 22) w:=by kernel_rfl
theorem zbX(a:Addr)(w:World):(ReflectliteValue.parts (agg #[pointer (some ⟨2,206,none⟩),.pointer (some a),.int .u64 150])).run Tryz.prog w=.ok (some (206,a,150)) w:=by kernel_rfl
theorem zhd(a p:Addr)(W:World)(ha:W.cell? a=some (.pointer (some p))):
  (ReflectliteValue.method (ReflectliteValue.valueError "reflectlite.Value.IsNil" 0) ReflectliteValue.isNil #[agg #[pointer (some ⟨2,206,none⟩),.pointer (some a),.int .u64 150]]).run Tryz.prog W=.ok (.bool false) W:=by
 change Sem.run _ (ReflectliteValue.parts (agg #[pointer (some ⟨2,206,none⟩),.pointer (some a),.int .u64 150]) >>= _) W=_;simp only[Sem.run_bind,zbX,Result.andThen];simp[ReflectliteValue.isNil,loadVar,isAgg,underlying,Tryz.underlying206,ha,Result.andThen]
theorem zbK(h:Value)(w:World):(Go.method 476 323 (agg #[h]) "Elem").run Tryz.prog w=.ok (287,agg #[h]) w:=by kernel_rfl
theorem Ja(h:Value)(w:World):(Go.method 476 323 (agg #[h]) "Implements").run Tryz.prog w=.ok (288,agg #[h]) w:=by kernel_rfl
theorem Qv(h:Value)(w:World):(Go.method 476 323 (agg #[h]) "AssignableTo").run Tryz.prog w=.ok (285,agg #[h]) w:=by kernel_rfl
theorem zij(w:World):(ReflectliteType.method ReflectliteType.elem #[agg #[pointer (some ⟨2,206,none⟩)]]).run Tryz.prog w=.ok (.iface 323 (agg #[pointer (some ⟨2,204,none⟩)])) w:=by kernel_rfl
theorem zaU(w:World):(ReflectliteType.relation "Implements" ReflectliteType.implements_ #[agg #[pointer (some ⟨2,204,none⟩)],.iface 323 (agg #[pointer (some ⟨2,105,none⟩)])]).run Tryz.prog w=.ok (.bool true) w:=by kernel_rfl
theorem zg9(v:Value)(w:World):(ReflectliteType.typeOf #[.iface 204 v]).run Tryz.prog w=.ok (.iface 323 (agg #[pointer (some ⟨2,204,none⟩)])) w:=by kernel_rfl
theorem zbu(w:World):(ReflectliteType.relation "AssignableTo" ReflectliteType.assignableTo #[agg #[pointer (some ⟨2,204,none⟩)],.iface 323 (agg #[pointer (some ⟨2,204,none⟩)])]).run Tryz.prog w=.ok (.bool true) w:=by kernel_rfl
theorem zee(e:Addr)(w:World):(ReflectliteValue.unpack (.iface 204 (.pointer (some e)))).run Tryz.prog w
  = .ok (agg #[pointer (some ⟨2,204,none⟩),pointer (some ⟨w.heap.size,0,none⟩),.int .u64 150]) (w.alloc (.cells #[.pointer (some e)] 204)):=by kernel_rfl
theorem ze5(w:World):(Rtype.elem? 206).run Tryz.prog w=.ok (some 204) w:=by kernel_rfl
theorem zn3(p:Addr)(w:World):(ReflectliteValue.mk 204 p ReflectliteValue.flagAddr).run Tryz.prog w=.ok (agg #[pointer (some ⟨2,204,none⟩),.pointer (some p),.int .u64 406]) w:=by kernel_rfl
theorem zhf(a p:Addr)(W:World)(ha:W.cell? a=some (.pointer (some p))):
  (ReflectliteValue.method (ReflectliteValue.valueError "reflectlite.Value.Elem" 0) ReflectliteValue.elem #[agg #[pointer (some ⟨2,206,none⟩),.pointer (some a),.int .u64 150]]).run Tryz.prog W
   = .ok (agg #[pointer (some ⟨2,204,none⟩),.pointer (some p),.int .u64 406]) W:=by
 change Sem.run _ (ReflectliteValue.parts (agg #[pointer (some ⟨2,206,none⟩),.pointer (some a),.int .u64 150]) >>= _) W=_;simp only[Sem.run_bind,zbX,Result.andThen];simp[ReflectliteValue.elem,loadVar,isAgg,underlying,Tryz.underlying206,ha,Result.andThen,ze5,zn3]
theorem zgH(a:Addr)(w:World):(ReflectliteValue.parts (agg #[pointer (some ⟨2,204,none⟩),.pointer (some a),.int .u64 406])).run Tryz.prog w=.ok (some (204,a,406)) w:=by kernel_rfl
theorem zhL(a:Addr)(w:World):(ReflectliteValue.parts (agg #[pointer (some ⟨2,204,none⟩),.pointer (some a),.int .u64 150])).run Tryz.prog w=.ok (some (204,a,150)) w:=by kernel_rfl
theorem zg8(w:World):(Rtype.directlyAssignable 204 204).run Tryz.prog w=.ok true w:=by kernel_rfl
theorem zm0(ta b e:Addr)(old:Value)(W:World)(hb:W.cell? b=some (.pointer (some e)))(ht:W.cell? ta=some old)(hf:W.frozen? ta=false):
  (ReflectliteValue.set #[agg #[pointer (some ⟨2,204,none⟩),.pointer (some ta),.int .u64 406],agg #[pointer (some ⟨2,204,none⟩),.pointer (some b),.int .u64 150]]).run Tryz.prog W
   = .ok (.tuple #[]) (W.setCell ta (.pointer (some e))):=by
 change Sem.run _ (ReflectliteValue.parts (agg #[pointer (some ⟨2,204,none⟩),.pointer (some ta),.int .u64 406]) >>= fun r=>ReflectliteValue.parts (agg #[pointer (some ⟨2,204,none⟩),.pointer (some b),.int .u64 150]) >>= fun s=>_) W=_;simp only[Sem.run_bind,zgH,zhL,Result.andThen];simp[ReflectliteValue.flagAddr,loadVar,isAgg,underlying,Tryz.underlying204,hb,Result.andThen,zg8,storeVar,Value.cells,storeCells,Addr.add];rw[run_store Tryz.prog W ta _ _ (by rfl)];simp[ht,hf]
abbrev Jz (p:Nat):Value:=.iface 204 (pointer (some ⟨p,0,none⟩))
theorem zlW(p t a:Nat)(w:World)(ht:w.heap[t]? = some (.cells #[.pointer none] 204 (0,0)))(ha:w.heap[a]? = some (.cells #[pointer (some ⟨t,0,none⟩)] 206 (0,0))):
  Calls Tryz.prog 219 #[Jz p,.iface 206 (pointer (some ⟨t,0,none⟩)),agg #[pointer (some ⟨2,206,none⟩),pointer (some ⟨a,0,none⟩),.int .u64 150],.iface 323 (agg #[pointer (some ⟨2,204,none⟩)])] w
   fun e w'=>e=.returned (.bool true)∧zc [t] w w'∧w'.heap[t]? = some (.cells #[pointer (some ⟨p,0,none⟩)] 204 (0,0)):=by
 have h26:= @run_callFunc_extern Tryz.prog 216 _ (fun args=>ReflectliteValue.unpack (args.getD 0 (.tuple #[]))) Tryz.func216 (by kernel_rfl) (by kernel_rfl) (by kernel_rfl) (by kernel_rfl);have h32:= @run_callFunc_extern Tryz.prog 246 _ ReflectliteType.typeOf Tryz.func246 (by kernel_rfl) (by kernel_rfl) (by kernel_rfl) (by kernel_rfl);have h76:= @run_callFunc_extern Tryz.prog 285 _ (ReflectliteType.relation "AssignableTo" ReflectliteType.assignableTo) Tryz.func285 (by kernel_rfl) (by kernel_rfl) (by kernel_rfl) (by kernel_rfl);have h37:= @run_callFunc_extern Tryz.prog 247 _ (ReflectliteValue.method (ReflectliteValue.valueError "reflectlite.Value.Elem" 0) ReflectliteValue.elem) Tryz.func247 (by kernel_rfl) (by kernel_rfl) (by kernel_rfl) (by kernel_rfl);have h38:= @run_callFunc_extern Tryz.prog 248 _ ReflectliteValue.set Tryz.func248 (by kernel_rfl) (by kernel_rfl) (by kernel_rfl) (by kernel_rfl);have f1:=zg9;have f3:=Qv;have f4:=zbu;have f6:=zee;have htl:=zQ ht;have hal:=zQ ha;have k1:zc [t] w (w.alloc (.cells #[pointer (some ⟨2,206,none⟩),pointer (some ⟨a,0,none⟩),.int .u64 150] 282)):=zc.alloc _ _ _;have b1:=(zc.alloc [] w (.cells #[pointer (some ⟨2,206,none⟩),pointer (some ⟨a,0,none⟩),.int .u64 150] 282)).block;have hb1:(w.alloc (.cells #[pointer (some ⟨2,206,none⟩),pointer (some ⟨a,0,none⟩),.int .u64 150] 282)).heap[w.heap.size]? = some (.cells #[pointer (some ⟨2,206,none⟩),pointer (some ⟨a,0,none⟩),.int .u64 150] 282 (0,0)):=zh _ _;have ht1:=hid ((b1 t htl (by simp)).trans ht);have ha1:=hid ((b1 a hal (by simp)).trans ha);go_enter Tryz.func219,Tryz.ntmps219;go_wp2;clear ht ha b1;generalize w.alloc (.cells #[pointer (some ⟨2,206,none⟩),pointer (some ⟨a,0,none⟩),.int .u64 150] 282)=w1 at *;have c0:w1.cell? ⟨w.heap.size,0,none⟩=some (pointer (some ⟨2,206,none⟩)):=zhg hb1 0;have c1:w1.cell? ⟨w.heap.size,1,none⟩=some (pointer (some ⟨a,0,none⟩)):=zhg hb1 1;have c2:w1.cell? ⟨w.heap.size,2,none⟩=some (.int .u64 150):=zhg hb1 2;have HB:=hid hb1;clear hb1;generalize w.heap.size=q at *;have K1:=hid k1;clear k1
 go_loop [0] (fun v=>v=Jz p) (fun _=>0)
 case atStart=>rfl
 case round=>
  subst hrel;have el:=zhf ⟨a,0,none⟩ ⟨t,0,none⟩ w1 (zhg ha1.o 0);have htl1:=zQ ht1.o;have st:=zm0 ⟨t,0,none⟩ ⟨w1.heap.size,0,none⟩ ⟨p,0,none⟩ (.pointer none) (w1.alloc (.cells #[pointer (some ⟨p,0,none⟩)] 204)) (by simp) (by rw[World.cell?_alloc_lt _ _ ⟨t,0,none⟩ htl1];exact zhg ht1.o 0)
   (by rw[World.frozen?_alloc_old _ _ ⟨t,0,none⟩ (Nat.ne_of_lt htl1)];exact zjS ht1.o 0)
  go_wp2;go_ret;have ks:zc [t] w1 (w1.setCell ⟨t,0,none⟩ (pointer (some ⟨p,0,none⟩))):=zc.setCell [t] _ _ _ (List.mem_singleton.2 rfl);refine ⟨rfl,(K1.o.step ks).step (zc.alloc [t] _ _),?_⟩;rw[(zc.alloc [] _ _).block t (Nat.lt_of_lt_of_le htl1 ks.size) (by simp),heap_setCell_same _ t 0 _ _ _ ht1.o];rfl
theorem zma(p t:Nat)(w:World)(hg:zeP w)(ht:w.heap[t]? = some (.cells #[.pointer none] 204 (0,0))):
  Calls Tryz.prog 138 #[Jz p,.iface 206 (pointer (some ⟨t,0,none⟩))] w
   fun e w'=>e=.returned (.bool true)∧zc [t] w w'∧w'.heap[t]? = some (.cells #[pointer (some ⟨p,0,none⟩)] 204 (0,0)):=by
 have h26:= @run_callFunc_extern Tryz.prog 216 _ (fun args=>ReflectliteValue.unpack (args.getD 0 (.tuple #[]))) Tryz.func216 (by kernel_rfl) (by kernel_rfl) (by kernel_rfl) (by kernel_rfl);have h27:= @run_callFunc_extern Tryz.prog 217 _ (ReflectliteValue.methodAny (ReflectliteValue.valueError "reflectlite.Value.Type" 0) (fun t _ _ _=>ReflectliteType.toType t)) Tryz.func217 (by kernel_rfl) (by kernel_rfl) (by kernel_rfl) (by kernel_rfl);have h28:= @run_callFunc_extern Tryz.prog 218 _ (ReflectliteValue.method (ReflectliteValue.valueError "reflectlite.Value.IsNil" 0) ReflectliteValue.isNil) Tryz.func218 (by kernel_rfl) (by kernel_rfl) (by kernel_rfl) (by kernel_rfl);have h67:= @run_callFunc_extern Tryz.prog 274 _ (ReflectliteType.abiMethod fun t=>do pure (.int .u8 (← Rtype.kind t))) Tryz.func274 (by kernel_rfl) (by kernel_rfl) (by kernel_rfl) (by kernel_rfl);have h78:= @run_callFunc_extern Tryz.prog 287 _ (ReflectliteType.method ReflectliteType.elem) Tryz.func287 (by kernel_rfl) (by kernel_rfl) (by kernel_rfl) (by kernel_rfl);have h79:= @run_callFunc_extern Tryz.prog 288 _ (ReflectliteType.relation "Implements" ReflectliteType.implements_) Tryz.func288 (by kernel_rfl) (by kernel_rfl) (by kernel_rfl) (by kernel_rfl);have f1:=zcA;have f2:=ziH;have f3:=zcc;have f4:=zig;have f5:=zkI;have f6:=zbK;have f7:=Ja;have f8:=zij;have f9:=zaU;have n8:=zhd ⟨w.heap.size,0,none⟩ ⟨t,0,none⟩ ((w.alloc (.cells #[pointer (some ⟨t,0,none⟩)] 206)).alloc (.cells #[pointer (some ⟨2,206,none⟩),pointer (some ⟨w.heap.size,0,none⟩),.int .u64 150] 282)) (by simp);have k2:=((zc.refl [] w).step (zc.alloc [] w (.cells #[pointer (some ⟨t,0,none⟩)] 206))).step (zc.alloc [] _ (.cells #[pointer (some ⟨2,206,none⟩),pointer (some ⟨w.heap.size,0,none⟩),.int .u64 150] 282));have g2:=(hg.quiet k2).et
 have HA:=hid (zlW p t w.heap.size ((w.alloc (.cells #[pointer (some ⟨t,0,none⟩)] 206)).alloc (.cells #[pointer (some ⟨2,206,none⟩),pointer (some ⟨w.heap.size,0,none⟩),.int .u64 150] 282))
  ((k2.block t (zQ ht) (by simp)).trans ht) (by rw[(zc.alloc [] _ _).block _ (by simp) (by simp)];exact zh _ _))
 have K2:=hid k2;clear k2;go_enter Tryz.func138,Tryz.ntmps138;go_wp2_with (go_at_call 219;refine HA.o.mono ?_;rintro e w' ⟨rfl,hk,hh⟩);go_ret;exact ⟨rfl,(K2.o.mono (by simp)).step hk,hh⟩
def zgU(w:World)(p:Nat)(y f b i:Int)(v:Value):Prop:=w.heap[p]? = some (.cells #[int i64 y,int i64 f,int i64 b,int i64 i,v] 208 (0,0))
theorem zgU.quiet{y b i:Int}(h:zgU w p y f b i v)(k:zc [] w w'):zgU w' p y f b i v:=ze h k
def J0(w:World)(p:Nat)(y f b i:Int):Prop:=zgU w p y f b i .nilIface
theorem J0.quiet{y b i:Int}(h:J0 w p y f b i)(k:zc [] w w'):J0 w' p y f b i:=zgU.quiet h k
theorem zeW(y f b i:Int)(w:World):Calls Tryz.prog 135 #[int i64 y,agg #[int i64 f,int i64 b,int i64 i],.nilIface] w fun e w'=>∃ p,e=.returned (Jz p)∧J0 w' p y f b i∧zc [] w w':=by
 have k2:=((zc.refl [] w).step (zc.alloc [] w (.cells #[int i64 f,int i64 b,int i64 i] 99))).step (zc.alloc [] _ (.cells #[int i64 y,int i64 f,int i64 b,int i64 i,.nilIface] 208));have hn:=zh (w.alloc (.cells #[int i64 f,int i64 b,int i64 i] 99)) (.cells #[int i64 y,int i64 f,int i64 b,int i64 i,.nilIface] 208);rw[World.size_alloc] at hn;have H:=hid (show J0 _ (w.heap.size+1) y f b i from hn);have K:=hid k2;clear k2 hn;go_enter Tryz.func135,Tryz.ntmps135;go_wp2;go_ret;exact ⟨w.heap.size+1,rfl,H.o,K.o⟩
def Jj(y f b i:Int)(w:World)(e:Ending)(w':World):Prop:=∃ p,e=.returned (Jz p)∧J0 w' p y f b i∧zc [] w w'
theorem Zx(y f b i:Int)(w:World):Calls Tryz.prog 129 #[int i64 y,agg #[int i64 f,int i64 b,int i64 i]] w (Jj y f b i w):=by
 have H:=hid fun (w':World)=>zeW y f b i w';go_enter Tryz.func129,Tryz.ntmps129;go_wp2_with fail;refine (H.o _).mono ?_;rintro e w1 ⟨p,rfl,h1,h2⟩;go_wp2_with fail;go_ret;exact ⟨p,rfl,h1,(zc.alloc [] _ _).quiet h2⟩
theorem ZB(y:Int)(w:World):Calls Tryz.prog 120 #[int i64 y] w (Jj y (-1) 0 0 w):=by
 have H:=hid fun (w':World)=>Zx y (-1) 0 0 w';go_enter Tryz.func120,Tryz.ntmps120;go_wp2_with fail;refine (H.o _).mono ?_;rintro e w1 ⟨p,rfl,h1,h2⟩;go_wp2_with fail;go_ret;exact ⟨p,rfl,h1,h2⟩
end
section
variable {P:Program}{ops:Array Oper}{Q:Exit→Act→World→Prop}{md:Region.Mode}{S:World→Prop}
theorem jG{i d:Nat}{oi:Oper}{v:Value}{fuel:Nat}{listed:Array Bool}{a:Act}{w:World}(hi:ops.toList[i]? = some oi)(hd:oi.dst=some d)
  (hs:Region.noSelect ops=true) (hf:Region.free md ops listed i=true) (hr:(Region.ready md ops listed).contains i=true)
  (hQ:∀ c a w,Q (.panic c) (a.put (some d) v) w→Q (.panic c) a w) (hw:Region.wanted oi (yielded ops a.tmps)=true) (hS:S w)
  (hy:∀ w,S w→(execOp a.eval oi).run P w=.ok (.value v) w)
  (h:wpAnyH P md ops Q S fuel (listed.setIfInBounds i true) (a.put (some d) v) w):wpAnyH P md ops Q S (fuel+1) listed a w:=by
 rw[Array.getElem?_toList] at hi;rw[← hd] at hQ h;exact wpAnyH_take hi hs hf hr hQ (Or.inl ⟨hw,hy⟩) hS h
def left(l:Array Bool):Nat:=l.toList.countP fun b=> !b
theorem zdq{l:Array Bool}{i:Nat}(h:l.getD i true=false):left (l.setIfInBounds i true)+1=left l:=by
 have hi:i<l.size:=by
  rcases Nat.lt_or_ge i l.size with h' | h'
  ·exact h'
  ·rw[Array.getD_eq_getD_getElem?,Array.getElem?_eq_none h'] at h
   cases h
 have hv:l.toList[i]'(by simpa using hi)=false:=by
  rw[Array.getD_eq_getD_getElem?,Array.getElem?_eq_getElem hi] at h;simpa using h
 unfold left;rw[Array.toList_setIfInBounds,List.countP_set (by simpa using hi),hv];have hp:0<l.toList.countP fun b=> !b:=List.countP_pos_iff.2 ⟨false,by rw[← hv];exact List.getElem_mem _,rfl⟩;simp only[Bool.not_false,if_true,Bool.not_true,Bool.false_eq_true,if_false];omega
theorem jJ(I:Array Bool→Act→World→Prop)(hS:∀ l a w,I l a w→S w)(hd:∀ l a w,I l a w→Region.ready md ops l=[]→Q .normal a w)
  (hstep:∀ l a w i,I l a w→i∈Region.ready md ops l→wpOp P ops Q i (I (l.setIfInBounds i true)) a w):
  ∀ (fuel:Nat) (l:Array Bool) (a:Act) (w:World),I l a w→left l≤fuel→wpAnyH P md ops Q S fuel l a w
 | 0,l,a,w,h,hf=>by
  have hr:Region.ready md ops l=[]:=by
   apply List.eq_nil_iff_forall_not_mem.2;intro i hi;have:=zdq (mem_ready.1 hi).1;omega
  exact ⟨hr,hd l a w h hr⟩
 | fuel+1,l,a,w,h,hf=>⟨hd l a w h,fun i hi=>wpOp_mono (fun a' w' h'=>⟨hS _ _ _ h',jJ I hS hd hstep fuel _ a' w' h' (by have:=zdq (mem_ready.1 hi).1;omega)⟩) (hstep l a w i h hi)⟩
theorem jw{l:Array Bool}{i:Nat}(h:i∈Region.ready md ops l)(k:Nat)(hk:(ops[i]?).map (fun o=>o.after.toList.any fun e=>Region.binds md e && e.on == k)=some true):l.getD k false=true:=by
 obtain ⟨_,o,ho,hall⟩:=mem_ready.1 h;rw[ho] at hk;simp only[Option.map_some,Option.some.injEq,List.any_eq_true,Bool.and_eq_true,beq_iff_eq] at hk;obtain ⟨e,he,hb,rfl⟩:=hk;exact hall e (Array.mem_toList_iff.1 he) hb
theorem zhF{l:Array Bool}{i:Nat}(h:i∈Region.ready md ops l):i<ops.size:=by
 obtain ⟨_,o,ho,_⟩:=mem_ready.1 h;exact (Array.getElem?_eq_some_iff.1 ho).1
theorem Zk{l:Array Bool}{n:Nat}(hl:l.size=n)(h:Region.ready md ops l=[])(hc:(List.range n).all (fun i=>(ops[i]?).isSome && ((ops[i]?).map (fun o=>o.after.all fun e=> !Region.binds md e || decide (e.on<i))).getD false)=true):∀ i,i<n→l.getD i false=true:=by
 intro i
 induction i using Nat.strongRecOn with
 | _ i ih=>
  intro hi;cases hv:l.getD i false with
  | true=>rfl
  | false=>
   exfalso;have hm:i∈Region.ready md ops l:=by
    rw[mem_ready];have h1:=List.all_eq_true.1 hc i (List.mem_range.2 hi);rw[Bool.and_eq_true] at h1;obtain ⟨o,ho⟩:=Option.isSome_iff_exists.1 h1.1;refine ⟨?_,o,ho,fun e he hb=> ?_⟩
    ·rw[Array.getD_eq_getD_getElem?,Array.getElem?_eq_getElem (by omega)] at hv ⊢
     exact hv
    ·have h2:=h1.2
     rw[ho] at h2;have h3:=Array.all_eq_true_iff_forall_mem.1 h2 e he;rw[hb] at h3;exact ih e.on (by simpa using h3) (Nat.lt_trans (by simpa using h3) hi)
   rw[h] at hm;cases hm
theorem zcC{i d:Nat}{oi:Oper}{K:Act→World→Prop}{a:Act}{w:World}(hi:ops.toList[i]? = some oi)(hd:oi.dst=some d)
  (hw:Region.wanted oi (yielded ops a.tmps)=true) (f:Nat) (args:Array Value) (he:(execOp a.eval oi).run P w=.ok (.enter f args) w) {R:Value→World→Prop}
  (hc:Calls P f args w fun e w'=>∃ v,e=.returned v∧R v w') (h:∀ v w',R v w'→K (a.put (some d) v) w'):wpOp P ops Q i K a w:=by
 rw[Array.getElem?_toList] at hi;rw[← hd] at h;refine wpOp_step hi (fun K' hK=> ?_);rw[if_pos hw];unfold Oper.wp;rw[he];simp only[Oper.upon];refine Calls.mono hc (fun e w'=> ?_);rintro ⟨v,rfl,hs⟩;exact hK _ _ (h v w' hs)
theorem zfM{i:Nat}{oi:Oper}{K:Act→World→Prop}{a:Act}{w w':World}{v:Value}(hi:ops.toList[i]? = some oi)(hw:Region.wanted oi (yielded ops a.tmps)=true)
  (he:(execOp a.eval oi).run P w=.ok (.value v) w') (h:K (a.put oi.dst v) w'):wpOp P ops Q i K a w:=by
 rw[Array.getElem?_toList] at hi;refine wpOp_step hi (fun K' hK=> ?_);rw[if_pos hw];unfold Oper.wp;rw[he];exact hK _ _ h
theorem zc6{i:Nat}{oi:Oper}{K:Act→World→Prop}{a:Act}{w w':World}(hi:ops.toList[i]? = some oi)(hw:Region.wanted oi (yielded ops a.tmps)=true)
  (he:(execOp a.eval oi).run P w=.ok .skip w') (h:K (a.put oi.dst undef) w'):wpOp P ops Q i K a w:=by
 rw[Array.getElem?_toList] at hi;refine wpOp_step hi (fun K' hK=> ?_);rw[if_pos hw];unfold Oper.wp;rw[he];exact hK _ _ h
theorem zu{ev:Operand→Value}{oi:Oper}{f:Nat}{x y:Operand}{ts:Array TypeId}{v u:Value}{w:World}(ho:oi.op=.call { callee:=.value (.func f),args:=#[x,y],argTypes:=ts })(hf:ev (.func f)=.func (.func f) #[] #[])(hx:ev x=v)(hy:ev y=u)(hc:(callFunc f #[v,u]).run P w=.ok (.enter f #[v,u]) w):(execOp ev oi).run P w=.ok (.enter f #[v,u]) w:=by
 subst hx;subst hy;simp[execOp,ho,hf,go_sem,hc]
end
theorem z6(k:Int)(n:Nat)(w:World):Calls Tryz.prog 123 #[int i64 k,int i64 (n:Int)] w fun e w'=>e=.returned (.bool (inB k n))∧w'=w:=by
 by_cases h1:0≤k
 ·by_cases h2:k<(n:Int)
  ·rw[zcP h1 h2]
   go_enter Tryz.func123,Tryz.ntmps123;go_wp2;go_ret;exact ⟨rfl,rfl⟩
  ·rw[zdK (fun h=>h2 h.2)]
   have hd:decide (k<(n:Int))=false:=decide_eq_false h2;clear h2;go_enter Tryz.func123,Tryz.ntmps123;go_wp2;go_ret;exact ⟨rfl,rfl⟩
 ·rw[zdK (fun h=>h1 h.1)]
  have hd:decide (0≤k)=false:=decide_eq_false h1;go_enter Tryz.func123,Tryz.ntmps123;go_wp2;go_ret;exact ⟨rfl,rfl⟩
theorem zj0{t:Int × Int}(h:t.1=0):tyB P t=decide (t.2=0):=by unfold tyB;rw[if_pos h]
theorem zjM{t:Int × Int}(h:t.1=1):tyB P t=inB t.2 P.recs.length:=by unfold tyB;rw[if_neg (by omega),if_pos h]
theorem zkn{t:Int × Int}(h:t.1=2):tyB P t=inB t.2 P.sigs.length:=by unfold tyB;rw[if_neg (by omega),if_neg (by omega),if_pos h]
theorem zkE{t:Int × Int}(h:t.1=3):tyB P t=inB t.2 P.ifs.length:=by unfold tyB;rw[if_neg (by omega),if_neg (by omega),if_neg (by omega),if_pos h]
theorem zka{t:Int × Int}(h0:t.1≠0)(h1:t.1≠1)(h2:t.1≠2)(h3:t.1≠3):tyB P t=false:=by unfold tyB;rw[if_neg h0,if_neg h1,if_neg h2,if_neg h3]
abbrev tyV (t:Int × Int):Value:=agg #[int i64 t.1,int i64 t.2]
theorem Jm(h:PrC w pb po P)(t:Int × Int):Calls Tryz.prog 190 #[pointer (some ⟨pb,po,none⟩),tyV t] w fun e w'=>e=.returned (.bool (tyB P t))∧zc [] w w':=by
 obtain ⟨a0,p0,c0,_⟩:=h.c0;obtain ⟨a1,p1,c1,_⟩:=h.c1;obtain ⟨a2,p2,c2,_⟩:=h.c2;have ka:=zc.alloc [] w (.cells #[int i64 t.1,int i64 t.2] 52);replace c0:=za ka c0;replace c1:=za ka c1;replace c2:=za ka c2;have KA:=hid ka;have HW:=hid fun (k:Int) (n:Nat) (w:World)=>z6 k n w;have i0:=zj0 (P:=P) (t:=t);have i1:=zjM (P:=P) (t:=t);have i2:=zkn (P:=P) (t:=t);have i3:=zkE (P:=P) (t:=t);have i4:=zka (P:=P) (t:=t);clear h ka;generalize tyB P t=res at *;generalize P.recs.length=n0 at *;generalize P.sigs.length=n1 at *;generalize P.ifs.length=n2 at *;obtain ⟨k,n⟩:=t;simp only at *;by_cases h0:k=0
 ·have HE:=hid (i0 h0)
  subst h0;clear i0 i1 i2 i3 i4;have hd:(n == 0)=decide (n=0):=rfl;go_enter Tryz.func190,Tryz.ntmps190;go_wp2_with fail;go_ret;exact ⟨by rw[HE.o];rfl,KA.o⟩
 by_cases h1:k=1
 ·have HE:=hid (i1 h1)
  subst h1;clear i0 i1 i2 i3 i4;go_enter Tryz.func190,Tryz.ntmps190;go_upto_region 5 with fail;go_quiet ((go_at_call 123;exact Calls.quiet_of_same (HW.o _ _ _)));go_wp2_with fail;go_ret;exact ⟨by rw[HE.o];rfl,KA.o.quiet (zc.drewN _ _ _)⟩
 by_cases h2:k=2
 ·have HE:=hid (i2 h2)
  subst h2;clear i0 i1 i2 i3 i4;go_enter Tryz.func190,Tryz.ntmps190;go_upto_region 7 with fail;go_quiet ((go_at_call 123;exact Calls.quiet_of_same (HW.o _ _ _)));go_wp2_with fail;go_ret;exact ⟨by rw[HE.o];rfl,KA.o.quiet (zc.drewN _ _ _)⟩
 by_cases h3:k=3
 ·have HE:=hid (i3 h3)
  subst h3;clear i0 i1 i2 i3 i4;go_enter Tryz.func190,Tryz.ntmps190;go_upto_region 9 with fail;go_quiet ((go_at_call 123;exact Calls.quiet_of_same (HW.o _ _ _)));go_wp2_with fail;go_ret;exact ⟨by rw[HE.o];rfl,KA.o.quiet (zc.drewN _ _ _)⟩
 have HE:=hid (i4 h0 h1 h2 h3);have o0:=neb h0;have o1:=neb h1;have o2:=neb h2;have o3:=neb h3;clear i0 i1 i2 i3 i4 h0 h1 h2 h3;go_enter Tryz.func190,Tryz.ntmps190;go_wp2_with fail;go_ret;exact ⟨by rw[HE.o];rfl,KA.o⟩
theorem Ju(h:PrC w pb po P){l:List (Int × Int)}(hv:zlv w v l):Calls Tryz.prog 189 #[pointer (some ⟨pb,po,none⟩),v] w fun e w'=>e=.returned (.bool (QA P l))∧zc [] w w':=by
 obtain ⟨a,cp,rfl,hr,_,hl⟩:=hv;have HP:=hid h;have HR:=hid hr;have HT:=hid fun (w':World) (k:zc [] w w') (t:Int × Int)=>Jm (PrC.stays _ _ _ _ _ k h) t;obtain ⟨n,hn⟩:∃ n,n=l.length:=⟨_,rfl⟩;rw[← hn];have HL:=hid hn;have hn1:(n:Int)≤9223372036854775807:=by unfold maxLen at hl;omega
 clear h hr hl hn;go_enter Tryz.func189,Tryz.ntmps189;go_wp2_with fail
 go_loopw [9] (fun kv wr=>∃ k:Nat,k≤n∧kv=int i64 (k:Int)∧Box (zc [] w wr∧∀ j y,j<k→l[j]? = some y→tyB P y=true)) (fun kv _=>n - (intOf kv).toNat)
 case atStart=>exact ⟨0,by omega,rfl,hid ⟨zc.refl _ _,fun j y hj=>by omega⟩⟩
 case round=>
  obtain ⟨k,hk,rfl,HB⟩:=hrel;have HK:=hid HB.o.1;by_cases hlt:k<n
  ·have hlt':(k:Int)<(n:Int):=by omega
   obtain ⟨y,hy⟩:∃ y,l[k]? = some y:=⟨_,List.getElem?_eq_getElem (by rw[← HL.o];exact hlt)⟩;obtain ⟨b,off,rfl,hc⟩:=HR.o.at hy;have d0:=za HK.o hc.c0.1;have d1:=za HK.o hc.c1.1;have HC:=hid (HT.o _ (HK.o.quiet (zc.alloc [] wr (.cells #[int i64 y.1,int i64 y.2] 52))) y);have HKA:=hid (HK.o.quiet (zc.alloc [] wr (.cells #[int i64 y.1,int i64 y.2] 52)));have HY:=hid hy;clear hc hy;cases hgy:tyB P y with
   | true=>
    rw[hgy] at HC;have HG:=hid hgy;clear hgy;go_wp2_with fail;refine HC.o.mono ?_;rintro e w3 ⟨rfl,k3⟩;have K3:=hid (HKA.o.quiet k3);clear k3;go_wp2_with fail;go_roundw
    case rel=>exact ⟨k+1,by omega,by go_num,hid ⟨K3.o,fun j z hj hz=>by
     by_cases e:j<k
     ·exact HB.o.2 j z e hz
     ·obtain rfl:j=k:=by omega
      rw[HY.o] at hz;cases hz
      exact HG.o⟩⟩
    case measure=>simp[intOf];omega
   | false=>
    rw[hgy] at HC;have HE:Box (QA P l=false):=hid (j7 HY.o hgy);clear hgy;go_wp2_with fail;refine HC.o.mono ?_;rintro e w3 ⟨rfl,k3⟩;have K3:=hid (HKA.o.quiet k3);clear k3;go_wp2_with fail;go_ret;exact ⟨by rw[HE.o];rfl,K3.o⟩
  ·obtain rfl:k=n:=by omega
   have HE:Box (QA P l=true):=hid (qW (fun j y hy=>HB.o.2 j y (by rw[HL.o];exact (List.getElem?_eq_some_iff.1 hy).1) hy));go_wp2_with fail;go_ret;exact ⟨by rw[HE.o];rfl,HK.o⟩
theorem QF{a:Option Addr}{cp:Nat}{l:List Int}(hz:zw w a l)(hl:l.length≤maxLen)(m:Nat):Calls Tryz.prog 191 #[.slice a l.length cp,int i64 (m:Int)] w fun e w'=>e=.returned (.bool (Zp l m))∧w'=w:=by
 have HZ:=hid hz;have HW:=hid fun (k:Int) (n:Nat) (w:World)=>z6 k n w;obtain ⟨n,hn⟩:∃ n,n=l.length:=⟨_,rfl⟩;rw[← hn];have HL:=hid hn;have hn1:(n:Int)≤9223372036854775807:=by unfold maxLen at hl;omega
 clear hz hl hn;go_enter Tryz.func191,Tryz.ntmps191;go_wp2_with fail
 go_loop [9] (fun kv=>∃ k:Nat,k≤n∧kv=int i64 (k:Int)∧Box (∀ j y,j<k→l[j]? = some y→inB y m=true)) (fun kv=>n - (intOf kv).toNat)
 case atStart=>exact ⟨0,by omega,rfl,hid fun j y hj=>by omega⟩
 case round=>
  obtain ⟨k,hk,rfl,HB⟩:=hrel;by_cases hlt:k<n
  ·have hlt':(k:Int)<(n:Int):=by omega
   have hkl:k<l.length:=by rw[← HL.o];exact hlt
   obtain ⟨y,hy⟩:∃ y,l[k]? = some y:=⟨_,List.getElem?_eq_getElem hkl⟩;obtain ⟨b,off,rfl,hc⟩:∃ b off,a=some ⟨b,off,none⟩∧w.cell? ⟨b,off+k,none⟩=some (int i64 y):=by
    rcases HZ.o with e | ⟨b,off,e,h⟩
    ·rw[e] at hy;simp at hy
    ·refine ⟨b,off,e,?_⟩
     rw[h k hkl,List.getD_eq_getElem?_getD,hy];rfl
   have HC:=hid (HW.o y m w);have HY:=hid hy;clear hy hkl;cases hgy:inB y m with
   | true=>
    rw[hgy] at HC;have HG:=hid hgy;clear hgy;go_wp2_with fail;refine HC.o.mono ?_;rintro e w3 ⟨rfl,hw3⟩;rw[hw3];clear hw3;go_wp2_with fail
    go_round
    case rel=>exact ⟨k+1,by omega,by go_num,hid fun j z hj hz=>by
     by_cases e:j<k
     ·exact HB.o j z e hz
     ·obtain rfl:j=k:=by omega
      rw[HY.o] at hz;cases hz
      exact HG.o⟩
    case measure=>simp[intOf];omega
   | false=>
    rw[hgy] at HC;have HE:Box (Zp l m=false):=hid (j7 HY.o hgy);clear hgy;go_wp2_with fail;refine HC.o.mono ?_;rintro e w3 ⟨rfl,hw3⟩;rw[hw3];clear hw3;go_wp2_with fail;go_ret;exact ⟨by rw[HE.o];rfl,rfl⟩
  ·obtain rfl:k=n:=by omega
   have HE:Box (Zp l m=true):=hid (qW (fun j y hy=>HB.o j y (by rw[HL.o];exact (List.getElem?_eq_some_iff.1 hy).1) hy));go_wp2_with fail;go_ret;exact ⟨by rw[HE.o];rfl,rfl⟩
def zj7(t:Int × Int):V3:=if t.1=0 then (0,0,false) else (1,0,false)
def zo9(w:World)(pv:Value)(o:Int):Prop:=pv=.pointer none∨∃ hp sv os F,pv=pointer (some ⟨hp,0,none⟩)∧HpV w hp sv os F∧(o<1∨(os.length:Int)<o)
def foW(os:List Ob)(o:Int):Int:=if o<1∨(os.length:Int)<o then 1 else if (os.getD (o - 1).toNat ⟨0,false,.slice none 0 0,[]⟩).free=true then 2 else 0
def zom(l:List (Int × Int))(k:Nat):List V3:=(l.take k).map zj7 ++ List.replicate (l.length - k) (0,0,false)
structure Fil (w0 wr:World) (q:Nat) (l:List (Int × Int)) (k:Nat):Prop where
 own:wr.ownsRow 0 30 3 (.slice (some ⟨q,0,none⟩) l.length l.length) l.length (znd v3 (zom l k))
 keeps:zc [] w0 wr
 new:w0.heap.size≤q
def AlP(w:World)(hp:Nat)(os:List Ob)(F:List Nat)(site:Int)(l:List (Int × Int))(e:Ending)(w':World):Prop:=
 e=.returned (int i64 ((os.length:Int)+1))∧∃ fs F',Hp w' hp (os ++ [⟨site,false,fs,l.map zj7⟩]) F'∧zc F w w'∧znR w F F'∧∀ x,x∈F→x∈F'
end Go.Proofs.YthflgjkmbakedaaGreatDoor
