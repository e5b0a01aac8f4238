import Derived.Laws.IdiomCopy
import Derived.Test.YtkgoimokgbdgfaaGreatDoorV09

namespace Go.Proofs.YtkgoimokgbdgfaaGreatDoor
open Go.RowKit
open Go.Value (int pointer agg)
open Go.IntKind (i64)
set_option maxRecDepth 20000
set_option maxHeartbeats 8000000
variable {W0 w w':World}{b i m rb s:Nat}{l:Array Bool}{v:Value}
structure Sz9 (P:Pr8):Prop where
 sm:Sm8 P
 recs:P.recs.length≤12
 sigs:P.sigs.length≤12
 ifs:P.ifs.length≤12
 ims:P.ims.length≤14
 regs:∀ f,f<P.funcs.length→(zg P f).regs.length≤20
def zmN(P:Pr8)(w:World)(e:Ending)(w':World):Prop:=∃ s,e=.returned (.bool s)∧w'=w∧(s=true→Sz9 P)
theorem Ja{pb po:Nat}{P:Pr8}(h:PrC w pb po P):Calls Tryz.prog 15 #[pointer (some ⟨pb,po,none⟩)] w (zmN P w):=by
 obtain ⟨fa,fcp,H⟩:=h.fns;have h4:=H.cell;obtain ⟨a0,p0,h0⟩:=h.c0.len;obtain ⟨a1,p1,h1⟩:=h.c1.len;obtain ⟨a2,p2,h2⟩:=h.c2.len;obtain ⟨a3,p3,h3⟩:=h.c3.len;have HF:=hid H;obtain ⟨N,hNN⟩:∃ N,N=P.funcs.length:=⟨_,rfl⟩;have HN:=hid hNN;rw[← hNN] at h4;obtain ⟨n0,hn0⟩:∃ n,n=P.recs.length:=⟨_,rfl⟩;obtain ⟨n1,hn1⟩:∃ n,n=P.sigs.length:=⟨_,rfl⟩;obtain ⟨n2,hn2⟩:∃ n,n=P.ifs.length:=⟨_,rfl⟩;obtain ⟨n3,hn3⟩:∃ n,n=P.ims.length:=⟨_,rfl⟩;rw[← hn0] at h0;rw[← hn1] at h1;rw[← hn2] at h2;rw[← hn3] at h3;have HN4:=hid (And.intro hn0 (And.intro hn1 (And.intro hn2 hn3)));clear h H hNN hn0 hn1 hn2 hn3;by_cases g4:N≤12
 case neg=>
  have g4':(12:Int)<(N:Int):=by omega
  clear g4;go_enter Tryz.func15,Tryz.ntmps15;go_wp2;go_ret;exact ⟨false,rfl,rfl,fun e=>by cases e⟩
 have g4':¬ (12:Int)<(N:Int):=by omega
 by_cases g0:n0≤12
 case neg=>
  have g0':(12:Int)<(n0:Int):=by omega
  clear g0;go_enter Tryz.func15,Tryz.ntmps15;go_wp2;go_ret;exact ⟨false,rfl,rfl,fun e=>by cases e⟩
 have g0':¬ (12:Int)<(n0:Int):=by omega
 by_cases g1:n1≤12
 case neg=>
  have g1':(12:Int)<(n1:Int):=by omega
  clear g1;go_enter Tryz.func15,Tryz.ntmps15;go_wp2;go_ret;exact ⟨false,rfl,rfl,fun e=>by cases e⟩
 have g1':¬ (12:Int)<(n1:Int):=by omega
 by_cases g2:n2≤12
 case neg=>
  have g2':(12:Int)<(n2:Int):=by omega
  clear g2;go_enter Tryz.func15,Tryz.ntmps15;go_wp2;go_ret;exact ⟨false,rfl,rfl,fun e=>by cases e⟩
 have g2':¬ (12:Int)<(n2:Int):=by omega
 by_cases g3:n3≤14
 case neg=>
  have g3':(14:Int)<(n3:Int):=by omega
  clear g3;go_enter Tryz.func15,Tryz.ntmps15;go_wp2;go_ret;exact ⟨false,rfl,rfl,fun e=>by cases e⟩
 have g3':¬ (14:Int)<(n3:Int):=by omega
 go_enter Tryz.func15,Tryz.ntmps15;go_wp2_with fail;have HG4:=hid (And.intro g0 (And.intro g1 (And.intro g2 g3)));clear h0 h1 h2 h3 g0 g1 g2 g3 g0' g1' g2' g3' g4'
 go_loop [3,4] (fun nv kv=>∃ k:Nat,k≤N∧kv=int i64 (k:Int)∧nv=int i64 (wP P k:Int)∧Box (wP P k≤14014 * k∧(∀ f,f<k→(zg P f).blocks.length≤14)∧∀ f,f<k→(zg P f).regs.length≤20)) (fun _ kv=>N - (intOf kv).toNat)
 case atStart=>exact ⟨0,by omega,rfl,rfl,hid ⟨Nat.zero_le _,(fun f hf=>by omega),fun f hf=>by omega⟩⟩
 case round=>
  obtain ⟨k,hk,rfl,rfl,HI⟩:=hrel;by_cases hlt:k<N
  ·have hlt':(k:Int)<(N:Int):=by omega
   obtain ⟨fb,fo,hfa,HFU⟩:=HF.o.rows.at (zh (d:=⟨0,[],[]⟩) (show k<P.funcs.length by rw[← HN.o];exact hlt));subst hfa;have hfu:FuC w fb (fo+k * 3) (zg P k):=HFU;obtain ⟨ra,rcp,hr⟩:=hfu.c1.len;obtain ⟨ba,bcp,hb,hrows,_⟩:=hfu.c2;have HRW:=hid hrows;obtain ⟨M,hMM⟩:∃ M,M=(zg P k).blocks.length:=⟨_,rfl⟩;have HM:=hid hMM;rw[← hMM] at hb;obtain ⟨rn,hrr⟩:∃ n,n=(zg P k).regs.length:=⟨_,rfl⟩;have HRR:=hid hrr;rw[← hrr] at hr;clear hrr;clear HFU hfu hrows hMM;by_cases hM:M≤14
   case neg=>
    have hM':(14:Int)<(M:Int):=by omega
    clear hM;go_wp2_with fail;go_ret;exact ⟨false,rfl,rfl,fun e=>by cases e⟩
   have hM':¬ (14:Int)<(M:Int):=by omega
   by_cases hrn:rn≤20
   case neg=>
    have hr':(20:Int)<(rn:Int):=by omega
    clear hrn;go_wp2_with fail;go_ret;exact ⟨false,rfl,rfl,fun e=>by cases e⟩
   have hr':¬ (20:Int)<(rn:Int):=by omega
   have hwk:=HI.o.1;go_wp2_with fail;have HRN:=hid hrn;clear hr hr' hM' hrn
   go_loop [3,5] (fun nv bv=>∃ b:Nat,b≤M∧bv=int i64 (b:Int)∧nv=int i64 ((wP P k+wF (zg P k) b:Nat):Int)) (fun _ bv=>M - (intOf bv).toNat)
   case atStart=>exact ⟨0,by omega,rfl,rfl⟩
   case round=>
    obtain ⟨b,hb9,rfl,rfl⟩:=hrel;by_cases hlb:b<M
    ·have hlb':(b:Int)<(M:Int):=by omega
     obtain ⟨bb,bo,hba,L⟩:=HRW.o.at (show (zg P k).blocks[b]? = some (zr (zg P k) b) from zh (by rw[← HM.o];exact hlb));subst hba;obtain ⟨ca,ccp,hc⟩:=L.c0.len;have hsu:wF (zg P k) (b+1)=wF (zg P k) b+(1+min 1000 (zr (zg P k) b).code.length):=rfl;have hbd:=zjI (zg P k) (b+1);clear L;generalize (zr (zg P k) b).code.length=c at *;generalize hA:wP P k+wF (zg P k) b=A at *;generalize hB:wP P k+wF (zg P k) (b+1)=B at *;have HB:=hid hB;have hAB:B=A+(1+min 1000 c):=by omega
     have hA8:A≤200000:=by have:=zjI (zg P k) b;omega
     clear hA hB hsu;have hA9:(A:Int)≤200000:=by omega
     have hA0:(0:Int)≤(A:Int):=by omega
     by_cases hcc:c<1000
     ·have hc1:(c:Int)<1000:=by omega
      have hBe:Box (B=A+(1+c)):=hid (by omega);have w4:IntKind.i64.wrap ((A:Int)+(1+(c:Int)))=(A:Int)+(1+(c:Int)):=IntWalk.i64_in _ (by omega);clear hAB hbd hcc;go_wp2_with fail
      go_round
      case rel=>exact ⟨b+1,by omega,by go_num,by rw[HB.o,hBe.o];go_num⟩
      case measure=>simp[intOf];omega
     ·have hc1:¬ (c:Int)<1000:=by omega
      have hBe:Box (B=A+1001):=hid (by omega);have w4:IntKind.i64.wrap ((A:Int)+1001)=(A:Int)+1001:=IntWalk.i64_in _ (by omega);clear hAB hbd hcc;go_wp2_with fail
      go_round
      case rel=>exact ⟨b+1,by omega,by go_num,by rw[HB.o,hBe.o];go_num⟩
      case measure=>simp[intOf];omega
    ·obtain rfl:b=M:=by omega
     have hE:Box (wP P (k+1)=wP P k+wF (zg P k) b):=hid (by rw[wP, ← HM.o]);have hL:=zjI (zg P k) b
     have HI2:Box (wP P (k+1)≤14014 * (k+1)∧(∀ f,f<k+1→(zg P f).blocks.length≤14)∧∀ f,f<k+1→(zg P f).regs.length≤20):=hid ⟨by rw[hE.o];omega,(fun f hf=>by
      by_cases e:f<k
      ·exact HI.o.2.1 f e
      ·obtain rfl:f=k:=by omega
       rw[← HM.o];exact hM),fun f hf=>by
      by_cases e:f<k
      ·exact HI.o.2.2 f e
      ·obtain rfl:f=k:=by omega
       rw[← HRR.o];exact HRN.o⟩
     clear hL hwk;generalize wP P k+wF (zg P k) b=A at *;go_wp2_with fail
     go_round
     case rel=>exact ⟨k+1,by omega,by go_num,by rw[hE.o],HI2⟩
     case measure=>simp[intOf];omega
  ·obtain rfl:k=N:=by omega
   have hA:=HI.o.1;have FIN:Box (wP P k≤150→Sz9 P):=hid fun h9=>⟨⟨by rw[← HN.o];exact g4,fun f hf=>HI.o.2.1 f (by rw[HN.o];exact hf),by rw[zev, ← HN.o,zo2 P k h9];exact h9⟩,by rw[← HN4.o.1];exact HG4.o.1,by rw[← HN4.o.2.1];exact HG4.o.2.1,by rw[← HN4.o.2.2.1];exact HG4.o.2.2.1,by rw[← HN4.o.2.2.2];exact HG4.o.2.2.2,fun f hf=>HI.o.2.2 f (by rw[HN.o];exact hf)⟩;generalize wP P k=A at *;by_cases h9:A≤150
   ·have h9':(A:Int)≤150:=by omega
    have HS:=hid (FIN.o h9);clear FIN;go_wp2_with fail;go_ret;exact ⟨true,rfl,rfl,fun _=>HS.o⟩
   ·have h9':¬ (A:Int)≤150:=by omega
    clear FIN;go_wp2_with fail;go_ret;exact ⟨false,rfl,rfl,fun e=>by cases e⟩
theorem zeM{s:Option (List UInt8)}(h:qt w rb s):Calls Tryz.prog 176 #[pointer (some ⟨rb,0,none⟩)] w (j8 InV inE znx w rb s):=by
 have hrb:=h.lt;have H1:=hid fun (w':World) (s':Option (List UInt8)) (h:qt w' rb s')=>zH h;have H2:=hid fun (w':World) (s':Option (List UInt8)) (h:qt w' rb s')=>zH h;have H3:=hid fun (w':World) (s':Option (List UInt8)) (h:qt w' rb s')=>zH h;have H4:=hid fun (w':World) (s':Option (List UInt8)) (h:qt w' rb s')=>zH h;have H5:=hid fun (w':World) (s':Option (List UInt8)) (h:qt w' rb s')=>zH h;have H6:=hid fun (w':World) (s':Option (List UInt8)) (h:qt w' rb s')=>QC h;obtain ⟨WA,hWA⟩:∃ WA,WA=w.alloc (.cells #[int i64 0,int i64 0,int i64 0,int i64 0,int i64 0,.slice none 0 0] 39):=⟨_,rfl⟩;have R0:qt WA rb s:=by rw[hWA];exact h.quiet (zc.alloc [] w _)
 have KA:Box (zc [rb] w WA):=hid (by rw[hWA];exact zc.alloc [rb] w _);have hq0:WA.heap[w.heap.size]? = some (.cells #[int i64 0,int i64 0,int i64 0,int i64 0,int i64 0,.slice none 0 0] 39 (0,0)):=by rw[hWA];exact zf w _
 obtain ⟨B,hB⟩:∃ B,B=w.heap.size:=⟨_,rfl⟩;have HB:=hid hB;have SA:Box (rb<B∧B<WA.heap.size):=hid ⟨by rw[hB];exact hrb,by rw[hWA,World.size_alloc,hB];omega⟩;have HWA:=hid hWA;clear h hrb;go_enter Tryz.func176,Tryz.ntmps176;go_wp2_with fail;rw[← hWA, ← hB];rw[← hB] at hq0;clear hWA hB;obtain ⟨q,hq⟩:∃ q,q=B:=⟨_,rfl⟩;rw[← hq] at hq0 ⊢;have HQ:=hid hq;clear hq;refine (H1.o _ _ R0).mono ?_;rintro e w1 ⟨v1,x1,s1,rfl,V1,P1,R1,K1⟩;have Y1:=hid V1;obtain ⟨rfl,_⟩:=V1;have HP1:=hid P1;clear P1 H1;go_wp2_with fail;refine (H2.o _ _ R1).mono ?_;rintro e w2 ⟨v2,x2,s2,rfl,V2,P2,R2,K2⟩;have Y2:=hid V2;obtain ⟨rfl,_⟩:=V2;have HP2:=hid P2;clear P2 H2;go_wp2_with fail;refine (H3.o _ _ R2).mono ?_;rintro e w3 ⟨v3,x3,s3,rfl,V3,P3,R3,K3⟩;have Y3:=hid V3;obtain ⟨rfl,_⟩:=V3;have HP3:=hid P3;clear P3 H3;go_wp2_with fail;refine (H4.o _ _ R3).mono ?_;rintro e w4 ⟨v4,x4,s4,rfl,V4,P4,R4,K4⟩;have Y4:=hid V4;obtain ⟨rfl,_⟩:=V4;have HP4:=hid P4;clear P4 H4;go_wp2_with fail;refine (H5.o _ _ R4).mono ?_;rintro e w5 ⟨v5,x5,s5,rfl,V5,P5,R5,K5⟩;have Y5:=hid V5;obtain ⟨rfl,_⟩:=V5;have HP5:=hid P5;clear P5 H5;go_wp2_with fail;refine (H6.o _ _ R5).mono ?_;rintro e w6 ⟨v6,x6,s6,rfl,V6,P6,R6,K6⟩;have Y6:=hid V6;obtain ⟨a6,m6,rfl,_⟩:=V6;have HP6:=hid P6;clear P6 H6;have HK9:Box (zc [rb] WA w6):=hid (((((K1.step K2).step K3).step K4).step K5).step K6);have hqm:w6.heap[q]? = some (.cells #[int i64 0,int i64 0,int i64 0,int i64 0,int i64 0,.slice none 0 0] 39 (0,0)):=by
  rw[HK9.o.block q (z8 hq0) (by have:=SA.o;have:=HQ.o;simp;omega)];exact hq0
 have c0:=zd hqm 0;have z0:=zL hqm 0;have c1:=zd hqm 1;have z1:=zL hqm 1;have c2:=zd hqm 2;have z2:=zL hqm 2;have c3:=zd hqm 3;have z3:=zL hqm 3;have c4:=zd hqm 4;have z4:=zL hqm 4;have c5:=zd hqm 5;have z5:=zL hqm 5;obtain ⟨wf,HWF⟩:∃ wf,Box (wf=Zc w6 q 0 0 [int i64 x1,int i64 x2,int i64 x3,int i64 x4,int i64 x5,.slice a6 x6.length m6]):=⟨_,hid rfl⟩;have h3:wf.heap[q]? = some (.cells #[int i64 x1,int i64 x2,int i64 x3,int i64 x4,int i64 x5,.slice a6 x6.length m6] 39 (0,0)):=by rw[HWF.o];exact jN _ _ _ _ hqm
 have HWK:Box (zc [q] w6 wf):=hid (by rw[HWF.o];exact zS _ _ _);have HW5:Box (Zc w6 q 0 0 [int i64 x1,int i64 x2,int i64 x3,int i64 x4,int i64 x5,.slice a6 x6.length m6]=wf):=hid HWF.o.symm;simp only[Zc,Nat.add_zero,Nat.zero_add,Nat.reduceAdd] at HW5;have L6:=hid (zlz za8.sub (B:=B) (q:=q) Y6.o (by have:=SA.o;have:=HQ.o;have:=K1.size;have:=K2.size;have:=K3.size;have:=K4.size;have:=K5.size;omega) (by have:=SA.o;have:=HQ.o;have:=K1.size;have:=K2.size;have:=K3.size;have:=K4.size;have:=K5.size;omega) (by have:=SA.o;have:=HQ.o;have:=K1.size;have:=K2.size;have:=K3.size;have:=K4.size;have:=K5.size;omega) ((zc.refl [rb,q] w6).step (HWK.o.mono (by simp))));have HR9:Box (qt wf rb s6):=hid (R6.kept HWK.o (fun x hx=>by rw[List.mem_singleton] at hx;have:=SA.o;have:=HQ.o;omega));have HKF:Box (zc [rb] w wf):=hid ((KA.o.step HK9.o).trans HWK.o (fun x hx hlt=>by rw[List.mem_singleton] at hx;have:=HQ.o;have:=HB.o;omega));have e0:=zd h3 0;have e1:=zd h3 1;have e2:=zd h3 2;have e3:=zd h3 3;have e4:=zd h3 4;have e5:=zd h3 5;clear HWF hqm h3 hq0 K1 R1 K2 R2 K3 R3 K4 R4 K5 R5 K6 R6 R0;go_wp2_with fail;rw[HW5.o];refine bodyPost_ret (v:=agg #[int i64 x1,int i64 x2,int i64 x3,int i64 x4,int i64 x5,.slice a6 x6.length m6]) (by simp[results,Tryz.results176,go_sem,e0,e1,e2,e3,e4,e5]) rfl ⟨_,⟨x1,x2,x3,x4,x5,x6⟩,s6,rfl,?_,(Stp.pair Cd.num HP1.o (Stp.pair Cd.num HP2.o (Stp.pair Cd.num HP3.o (Stp.pair Cd.num HP4.o (Stp.pair Cd.num HP5.o HP6.o))))).map (fun t=>(⟨t.1,t.2.1,t.2.2.1,t.2.2.2.1,t.2.2.2.2.1,t.2.2.2.2.2⟩:In8)) (fun x=>(x.op,x.dst,x.a,x.b,x.n,x.args)) rfl (fun _=>rfl) (fun h=>h) (fun _ h=>h),HR9.o,HKF.o⟩;rw[← HB.o];exact ⟨a6,m6,rfl,Y1.o.2,Y2.o.2,Y3.o.2,Y4.o.2,Y5.o.2,L6.o⟩
theorem zef(n:Nat)(hn:n≤20000)(w:World):∃ cur:Array Value,cur.size=n * 6∧(Instr.makeSlice 40 (int i64 (n:Int)) (int i64 (n:Int))).run Tryz.prog w=.ok (.slice (some ⟨w.heap.size,0,none⟩) n n) (w.alloc (.cells cur 39)):=by
 obtain ⟨z,hz⟩:∃ z,Tryz.t39.zero=some z:=Option.isSome_iff_exists.1 (by kernel_rfl);have hb:Tryz.t39.bytes≤200:=of_decide_eq_true (by kernel_rfl);have hs:Tryz.t39.size=6:=by kernel_rfl
 have h1:((Tryz.t39.bytes:Nat):Int) * (n:Int)≤281474976710656:=by
  have:Tryz.t39.bytes * n≤200 * 20000:=Nat.mul_le_mul hb hn;have h2:((Tryz.t39.bytes * n:Nat):Int)≤4000000:=by omega
  rw[Int.natCast_mul] at h2;omega
 have hr:=run_make (P:=Tryz.prog) w 40 39 Tryz.t39 z Tryz.underlying40 (by kernel_rfl) hz .i64 .i64 (n:Int) (n:Int) (by omega) (Int.le_refl _) h1 (by omega);simp only[Int.toNat_natCast,hs] at hr;exact ⟨_,size_madeCells _ _,hr⟩
theorem zkw{s:Option (List UInt8)}(h:qt w rb s):Calls Tryz.prog 175 #[pointer (some ⟨rb,0,none⟩),.func (.func 176) #[] #[]] w (j8 (SlV 6 InC) zjn ziY w rb s):=by
 have HL:=hid (qN h);have HP:=hid fun (w':World) (s':Option (List UInt8)) (h:qt w' rb s')=>zeM h;have hrb:=h.lt;clear h;go_enter Tryz.func175,Tryz.ntmps175;go_wp2_with fail;refine HL.o.mono ?_;rintro e w1 ⟨n,s1,rfl,hn,h1,h2,h3⟩;have HS:=hid h1;have HR:=hid h2;have HK:=hid h3;clear HL h1 h2 h3;by_cases hn0:n=0
 ·have HN:=hid hn0
  have e0:((n:Int) == 0)=true:=by rw[hn0];rfl
  clear hn0;go_wp2_with fail;go_ret;refine ⟨_,[],s1,rfl,⟨none,0,rfl,.inl rfl,by simp,by simp⟩,?_,HR.o,HK.o⟩;have:=HS.o;rw[HN.o] at this;exact zbP.empty Cd.in.pos this
 ·have HS0:=hid (Q2.start (E:=inE) (ok:=znx) HS.o hn0)
  have e0:((n:Int) == 0)=false:=by rw[beq_eq_false_iff_ne];omega
  have hn1:(n:Int)≤20000:=by omega
  have hn2:(0:Int)≤(n:Int):=by omega
  have HNb:Box (b64 (n:Int)∧n≤maxLen):=hid ⟨by unfold b64;omega,by unfold maxLen;omega⟩;obtain ⟨cur,hcur,hmk⟩:=zef n hn w1;have HM0:=hid (LM.new (V:=InV) (zf w1 (.cells cur 39)) hcur);have HR0:=hid (HR.o.quiet (zc.alloc [] w1 (.cells cur 39)));have HK0:Box (zc [rb] w (w1.alloc (.cells cur 39))):=hid (HK.o.step (zc.alloc [rb] w1 _));have HG:Box (w.heap.size≤w1.heap.size):=hid HK.o.size;clear HS HR HK hcur hn0 hn;go_wp2_with fail;obtain ⟨w2,HW2⟩:∃ w2,Box (w2=w1.alloc (.cells cur 39)):=⟨_,hid rfl⟩;rw[← HW2.o] at HM0 HR0 HK0 ⊢;clear HW2 hmk;generalize w1.heap.size=g at *
  go_loopw [16] (fun kv wr=>∃ k:Nat,k≤n∧kv=int i64 (k:Int)∧Box (∃ l sk,Q2 inE znx s n k l sk∧LM InV wr g n 6 39 l∧qt wr rb sk∧zc [rb] w wr)) (fun kv _=>n - (intOf kv).toNat)
  case atStart=>exact ⟨0,by omega,rfl,hid ⟨[],s1,HS0.o,HM0.o,HR0.o,HK0.o⟩⟩
  case round=>
   obtain ⟨k,hk,rfl,HB⟩:=hrel;clear HS0 HM0 HR0 HK0;obtain ⟨l,sk,m1,m2,m3,m4⟩:=HB.o;have HMS:=hid m1;have HLM:=hid m2;have HRD:=hid m3;have HKK:=hid m4
   have hg9:Box (g<wr.heap.size):=hid (by
    obtain ⟨_,e,_⟩:=m2.ex
    exact z8 e)
   clear HB m1 m2 m3 m4;by_cases hlt:k<n
   ·have hlt':(k:Int)<(n:Int):=by omega
    go_wp2_with fail;refine (HP.o _ _ HRD.o).mono ?_;rintro e w3 ⟨v,y,s3,rfl,hv,hst,hr3,hk3⟩;have HM2:=hid (HLM.o.kept InV.sub hk3 (by have:=HG.o;omega));have hv2:InV (jB (g+1) w3) v y:=InV.sub _ _ _ _ (Sub.down w3 (by have:=hg9.o;omega)) hv;have HV:=hid hv2;have HST:=hid hst;have HR3:=hid hr3;have HK3:=hid hk3;obtain ⟨⟨y0,t0⟩,z0⟩:=HM2.o.cell (k:=k) (i:=0) hlt (by decide);obtain ⟨⟨y1,t1⟩,z1⟩:=HM2.o.cell (k:=k) (i:=1) hlt (by decide);obtain ⟨⟨y2,t2⟩,z2⟩:=HM2.o.cell (k:=k) (i:=2) hlt (by decide);obtain ⟨⟨y3,t3⟩,z3⟩:=HM2.o.cell (k:=k) (i:=3) hlt (by decide);obtain ⟨⟨y4,t4⟩,z4⟩:=HM2.o.cell (k:=k) (i:=4) hlt (by decide);obtain ⟨⟨y5,t5⟩,z5⟩:=HM2.o.cell (k:=k) (i:=5) hlt (by decide);rw[Nat.add_zero] at t0 z0;obtain ⟨ya,ycp,rfl,_⟩:=hv2;obtain ⟨w4,HW4⟩:∃ w4,Box (w4=Zc w3 g (k * 6) 0 [int i64 y.op,int i64 y.dst,int i64 y.a,int i64 y.b,int i64 y.n,.slice ya y.args.length ycp]):=⟨_,hid rfl⟩;have hk4:zc [g] w3 w4:=by rw[HW4.o];exact zS _ _ _
    have hr4:=hr3.kept hk4 (fun x hx=>by rw[List.mem_singleton] at hx;have:=HG.o;omega);have HR4:=hid hr4;have HK4:Box (zc [rb] w w4):=hid ((HKK.o.step hk3).trans hk4 (fun x hx hlt=>by rw[List.mem_singleton] at hx;have:=HG.o;omega))
    have HM4:Box (LM InV w4 g n 6 39 (l ++ [_])):=hid (by
     have:=HM2.o.put InV.sub (by rw[HMS.o.1];exact hlt) HV.o rfl;rw[HMS.o.1] at this;rw[HW4.o]
     exact this)
    have HW5:Box (Zc w3 g (k * 6) 0 [int i64 y.op,int i64 y.dst,int i64 y.a,int i64 y.b,int i64 y.n,.slice ya y.args.length ycp]=w4):=hid HW4.o.symm;simp only[Zc,Nat.add_zero,Nat.zero_add,Nat.reduceAdd] at HW5;clear hv hst hk3 hk4 hr3 HV HW4;cases s3 with
    | none=>
     have h9:w4.heap[rb]? = _:=hr4;have f1:=zd h9 1;clear hr4 h9;go_upto_region 9 with fail;rw[HW5.o];go_wp2_with fail;go_ret;exact ⟨_,[],none,rfl,⟨none,0,rfl,.inl rfl,by simp,by simp⟩,Q2.fail Cd.in HMS.o hlt HST.o,HR4.o,HK4.o⟩
    | some R=>
     obtain ⟨ra,rcp,h9,_⟩:=hr4;have f1:=zd h9 1;clear h9;go_upto_region 9 with fail;rw[HW5.o];go_wp2_with fail;go_roundw
     case rel=>exact ⟨k+1,by omega,by go_num,hid ⟨_,_,HMS.o.next HST.o (by simp),HM4.o,HR4.o,HK4.o⟩⟩
     case measure=>simp[intOf];omega
   ·obtain rfl:k=n:=by omega
    go_wp2_with fail;go_ret;refine ⟨_,l,sk,rfl,⟨some ⟨g,0,none⟩,k,by rw[HMS.o.1];rfl,HLM.o.rows InV.sub InV.links HG.o,by rw[HMS.o.1];exact Nat.le_refl _,by rw[HMS.o.1];exact HNb.o.2⟩,HMS.o.done HNb.o.1,HRD.o,HKK.o⟩
theorem zgm{s:Option (List UInt8)}(h:qt w rb s):Calls Tryz.prog 164 #[pointer (some ⟨rb,0,none⟩)] w (j8 BlV blE znz w rb s):=by
 have hrb:=h.lt;have H1:=hid fun (w':World) (s':Option (List UInt8)) (h:qt w' rb s')=>zkw h;have H2:=hid fun (w':World) (s':Option (List UInt8)) (h:qt w' rb s')=>zH h;have H3:=hid fun (w':World) (s':Option (List UInt8)) (h:qt w' rb s')=>zH h;have H4:=hid fun (w':World) (s':Option (List UInt8)) (h:qt w' rb s')=>zH h;have H5:=hid fun (w':World) (s':Option (List UInt8)) (h:qt w' rb s')=>zH h;obtain ⟨WA,hWA⟩:∃ WA,WA=w.alloc (.cells #[.slice none 0 0,int i64 0,int i64 0,int i64 0,int i64 0] 42):=⟨_,rfl⟩;have R0:qt WA rb s:=by rw[hWA];exact h.quiet (zc.alloc [] w _)
 have KA:Box (zc [rb] w WA):=hid (by rw[hWA];exact zc.alloc [rb] w _);have hq0:WA.heap[w.heap.size]? = some (.cells #[.slice none 0 0,int i64 0,int i64 0,int i64 0,int i64 0] 42 (0,0)):=by rw[hWA];exact zf w _
 obtain ⟨B,hB⟩:∃ B,B=w.heap.size:=⟨_,rfl⟩;have HB:=hid hB;have SA:Box (rb<B∧B<WA.heap.size):=hid ⟨by rw[hB];exact hrb,by rw[hWA,World.size_alloc,hB];omega⟩;have HWA:=hid hWA;clear h hrb;go_enter Tryz.func164,Tryz.ntmps164;go_wp2_with fail;rw[← hWA, ← hB];rw[← hB] at hq0;clear hWA hB;obtain ⟨q,hq⟩:∃ q,q=B:=⟨_,rfl⟩;rw[← hq] at hq0 ⊢;have HQ:=hid hq;clear hq;refine (H1.o _ _ R0).mono ?_;rintro e w1 ⟨v1,x1,s1,rfl,V1,P1,R1,K1⟩;have Y1:=hid V1;obtain ⟨a1,m1,rfl,_⟩:=V1;have HP1:=hid P1;clear P1 H1;go_wp2_with fail;refine (H2.o _ _ R1).mono ?_;rintro e w2 ⟨v2,x2,s2,rfl,V2,P2,R2,K2⟩;have Y2:=hid V2;obtain ⟨rfl,_⟩:=V2;have HP2:=hid P2;clear P2 H2;go_wp2_with fail;refine (H3.o _ _ R2).mono ?_;rintro e w3 ⟨v3,x3,s3,rfl,V3,P3,R3,K3⟩;have Y3:=hid V3;obtain ⟨rfl,_⟩:=V3;have HP3:=hid P3;clear P3 H3;go_wp2_with fail;refine (H4.o _ _ R3).mono ?_;rintro e w4 ⟨v4,x4,s4,rfl,V4,P4,R4,K4⟩;have Y4:=hid V4;obtain ⟨rfl,_⟩:=V4;have HP4:=hid P4;clear P4 H4;go_wp2_with fail;refine (H5.o _ _ R4).mono ?_;rintro e w5 ⟨v5,x5,s5,rfl,V5,P5,R5,K5⟩;have Y5:=hid V5;obtain ⟨rfl,_⟩:=V5;have HP5:=hid P5;clear P5 H5;have HK9:Box (zc [rb] WA w5):=hid ((((K1.step K2).step K3).step K4).step K5);have hqm:w5.heap[q]? = some (.cells #[.slice none 0 0,int i64 0,int i64 0,int i64 0,int i64 0] 42 (0,0)):=by
  rw[HK9.o.block q (z8 hq0) (by have:=SA.o;have:=HQ.o;simp;omega)];exact hq0
 have c0:=zd hqm 0;have z0:=zL hqm 0;have c1:=zd hqm 1;have z1:=zL hqm 1;have c2:=zd hqm 2;have z2:=zL hqm 2;have c3:=zd hqm 3;have z3:=zL hqm 3;have c4:=zd hqm 4;have z4:=zL hqm 4;obtain ⟨wf,HWF⟩:∃ wf,Box (wf=Zc w5 q 0 0 [.slice a1 x1.length m1,int i64 x2,int i64 x3,int i64 x4,int i64 x5]):=⟨_,hid rfl⟩;have h3:wf.heap[q]? = some (.cells #[.slice a1 x1.length m1,int i64 x2,int i64 x3,int i64 x4,int i64 x5] 42 (0,0)):=by rw[HWF.o];exact jN _ _ _ _ hqm
 have HWK:Box (zc [q] w5 wf):=hid (by rw[HWF.o];exact zS _ _ _);have HW5:Box (Zc w5 q 0 0 [.slice a1 x1.length m1,int i64 x2,int i64 x3,int i64 x4,int i64 x5]=wf):=hid HWF.o.symm;simp only[Zc,Nat.add_zero,Nat.zero_add,Nat.reduceAdd] at HW5;have L1:=hid (zlz zn1.sub (B:=B) (q:=q) Y1.o (by have:=SA.o;have:=HQ.o;omega) (by have:=SA.o;have:=HQ.o;omega) (by have:=SA.o;have:=HQ.o;omega) ((((((zc.refl [rb,q] w1).step (K2.mono (by simp))).step (K3.mono (by simp))).step (K4.mono (by simp))).step (K5.mono (by simp))).step (HWK.o.mono (by simp))));have HR9:Box (qt wf rb s5):=hid (R5.kept HWK.o (fun x hx=>by rw[List.mem_singleton] at hx;have:=SA.o;have:=HQ.o;omega));have HKF:Box (zc [rb] w wf):=hid ((KA.o.step HK9.o).trans HWK.o (fun x hx hlt=>by rw[List.mem_singleton] at hx;have:=HQ.o;have:=HB.o;omega));have e0:=zd h3 0;have e1:=zd h3 1;have e2:=zd h3 2;have e3:=zd h3 3;have e4:=zd h3 4;clear HWF hqm h3 hq0 K1 R1 K2 R2 K3 R3 K4 R4 K5 R5 R0;go_wp2_with fail;rw[HW5.o];refine bodyPost_ret (v:=agg #[.slice a1 x1.length m1,int i64 x2,int i64 x3,int i64 x4,int i64 x5]) (by simp[results,Tryz.results164,go_sem,e0,e1,e2,e3,e4]) rfl ⟨_,⟨x1,x2,x3,x4,x5⟩,s5,rfl,?_,(Stp.pair Cd.ins HP1.o (Stp.pair Cd.num HP2.o (Stp.pair Cd.num HP3.o (Stp.pair Cd.num HP4.o HP5.o)))).map (fun t=>(⟨t.1,t.2.1,t.2.2.1,t.2.2.2.1,t.2.2.2.2⟩:Bl8)) (fun x=>(x.code,x.fin,x.reg,x.to,x.els)) rfl (fun _=>rfl) (fun h=>h) (fun _ h=>h),HR9.o,HKF.o⟩;rw[← HB.o];exact ⟨a1,m1,rfl,L1.o,Y2.o.2,Y3.o.2,Y4.o.2,Y5.o.2⟩
theorem zeP(n:Nat)(hn:n≤20000)(w:World):∃ cur:Array Value,cur.size=n * 5∧(Instr.makeSlice 43 (int i64 (n:Int)) (int i64 (n:Int))).run Tryz.prog w=.ok (.slice (some ⟨w.heap.size,0,none⟩) n n) (w.alloc (.cells cur 42)):=by
 obtain ⟨z,hz⟩:∃ z,Tryz.t42.zero=some z:=Option.isSome_iff_exists.1 (by kernel_rfl);have hb:Tryz.t42.bytes≤200:=of_decide_eq_true (by kernel_rfl);have hs:Tryz.t42.size=5:=by kernel_rfl
 have h1:((Tryz.t42.bytes:Nat):Int) * (n:Int)≤281474976710656:=by
  have:Tryz.t42.bytes * n≤200 * 20000:=Nat.mul_le_mul hb hn;have h2:((Tryz.t42.bytes * n:Nat):Int)≤4000000:=by omega
  rw[Int.natCast_mul] at h2;omega
 have hr:=run_make (P:=Tryz.prog) w 43 42 Tryz.t42 z Tryz.underlying43 (by kernel_rfl) hz .i64 .i64 (n:Int) (n:Int) (by omega) (Int.le_refl _) h1 (by omega);simp only[Int.toNat_natCast,hs] at hr;exact ⟨_,size_madeCells _ _,hr⟩
theorem zkk{s:Option (List UInt8)}(h:qt w rb s):Calls Tryz.prog 163 #[pointer (some ⟨rb,0,none⟩),.func (.func 164) #[] #[]] w (j8 (SlV 5 BlC) zgI zlF w rb s):=by
 have HL:=hid (qN h);have HP:=hid fun (w':World) (s':Option (List UInt8)) (h:qt w' rb s')=>zgm h;have hrb:=h.lt;clear h;go_enter Tryz.func163,Tryz.ntmps163;go_wp2_with fail;refine HL.o.mono ?_;rintro e w1 ⟨n,s1,rfl,hn,h1,h2,h3⟩;have HS:=hid h1;have HR:=hid h2;have HK:=hid h3;clear HL h1 h2 h3;by_cases hn0:n=0
 ·have HN:=hid hn0
  have e0:((n:Int) == 0)=true:=by rw[hn0];rfl
  clear hn0;go_wp2_with fail;go_ret;refine ⟨_,[],s1,rfl,⟨none,0,rfl,.inl rfl,by simp,by simp⟩,?_,HR.o,HK.o⟩;have:=HS.o;rw[HN.o] at this;exact zbP.empty Cd.bl.pos this
 ·have HS0:=hid (Q2.start (E:=blE) (ok:=znz) HS.o hn0)
  have e0:((n:Int) == 0)=false:=by rw[beq_eq_false_iff_ne];omega
  have hn1:(n:Int)≤20000:=by omega
  have hn2:(0:Int)≤(n:Int):=by omega
  have HNb:Box (b64 (n:Int)∧n≤maxLen):=hid ⟨by unfold b64;omega,by unfold maxLen;omega⟩;obtain ⟨cur,hcur,hmk⟩:=zeP n hn w1;have HM0:=hid (LM.new (V:=BlV) (zf w1 (.cells cur 42)) hcur);have HR0:=hid (HR.o.quiet (zc.alloc [] w1 (.cells cur 42)));have HK0:Box (zc [rb] w (w1.alloc (.cells cur 42))):=hid (HK.o.step (zc.alloc [rb] w1 _));have HG:Box (w.heap.size≤w1.heap.size):=hid HK.o.size;clear HS HR HK hcur hn0 hn;go_wp2_with fail;obtain ⟨w2,HW2⟩:∃ w2,Box (w2=w1.alloc (.cells cur 42)):=⟨_,hid rfl⟩;rw[← HW2.o] at HM0 HR0 HK0 ⊢;clear HW2 hmk;generalize w1.heap.size=g at *
  go_loopw [16] (fun kv wr=>∃ k:Nat,k≤n∧kv=int i64 (k:Int)∧Box (∃ l sk,Q2 blE znz s n k l sk∧LM BlV wr g n 5 42 l∧qt wr rb sk∧zc [rb] w wr)) (fun kv _=>n - (intOf kv).toNat)
  case atStart=>exact ⟨0,by omega,rfl,hid ⟨[],s1,HS0.o,HM0.o,HR0.o,HK0.o⟩⟩
  case round=>
   obtain ⟨k,hk,rfl,HB⟩:=hrel;clear HS0 HM0 HR0 HK0;obtain ⟨l,sk,m1,m2,m3,m4⟩:=HB.o;have HMS:=hid m1;have HLM:=hid m2;have HRD:=hid m3;have HKK:=hid m4
   have hg9:Box (g<wr.heap.size):=hid (by
    obtain ⟨_,e,_⟩:=m2.ex
    exact z8 e)
   clear HB m1 m2 m3 m4;by_cases hlt:k<n
   ·have hlt':(k:Int)<(n:Int):=by omega
    go_wp2_with fail;refine (HP.o _ _ HRD.o).mono ?_;rintro e w3 ⟨v,y,s3,rfl,hv,hst,hr3,hk3⟩;have HM2:=hid (HLM.o.kept BlV.sub hk3 (by have:=HG.o;omega));have hv2:BlV (jB (g+1) w3) v y:=BlV.sub _ _ _ _ (Sub.down w3 (by have:=hg9.o;omega)) hv;have HV:=hid hv2;have HST:=hid hst;have HR3:=hid hr3;have HK3:=hid hk3;obtain ⟨⟨y0,t0⟩,z0⟩:=HM2.o.cell (k:=k) (i:=0) hlt (by decide);obtain ⟨⟨y1,t1⟩,z1⟩:=HM2.o.cell (k:=k) (i:=1) hlt (by decide);obtain ⟨⟨y2,t2⟩,z2⟩:=HM2.o.cell (k:=k) (i:=2) hlt (by decide);obtain ⟨⟨y3,t3⟩,z3⟩:=HM2.o.cell (k:=k) (i:=3) hlt (by decide);obtain ⟨⟨y4,t4⟩,z4⟩:=HM2.o.cell (k:=k) (i:=4) hlt (by decide);rw[Nat.add_zero] at t0 z0;obtain ⟨ya,ycp,rfl,_⟩:=hv2;obtain ⟨w4,HW4⟩:∃ w4,Box (w4=Zc w3 g (k * 5) 0 [.slice ya y.code.length ycp,int i64 y.fin,int i64 y.reg,int i64 y.to,int i64 y.els]):=⟨_,hid rfl⟩;have hk4:zc [g] w3 w4:=by rw[HW4.o];exact zS _ _ _
    have hr4:=hr3.kept hk4 (fun x hx=>by rw[List.mem_singleton] at hx;have:=HG.o;omega);have HR4:=hid hr4;have HK4:Box (zc [rb] w w4):=hid ((HKK.o.step hk3).trans hk4 (fun x hx hlt=>by rw[List.mem_singleton] at hx;have:=HG.o;omega))
    have HM4:Box (LM BlV w4 g n 5 42 (l ++ [_])):=hid (by
     have:=HM2.o.put BlV.sub (by rw[HMS.o.1];exact hlt) HV.o rfl;rw[HMS.o.1] at this;rw[HW4.o]
     exact this)
    have HW5:Box (Zc w3 g (k * 5) 0 [.slice ya y.code.length ycp,int i64 y.fin,int i64 y.reg,int i64 y.to,int i64 y.els]=w4):=hid HW4.o.symm;simp only[Zc,Nat.add_zero,Nat.zero_add,Nat.reduceAdd] at HW5;clear hv hst hk3 hk4 hr3 HV HW4;cases s3 with
    | none=>
     have h9:w4.heap[rb]? = _:=hr4;have f1:=zd h9 1;clear hr4 h9;go_upto_region 9 with fail;rw[HW5.o];go_wp2_with fail;go_ret;exact ⟨_,[],none,rfl,⟨none,0,rfl,.inl rfl,by simp,by simp⟩,Q2.fail Cd.bl HMS.o hlt HST.o,HR4.o,HK4.o⟩
    | some R=>
     obtain ⟨ra,rcp,h9,_⟩:=hr4;have f1:=zd h9 1;clear h9;go_upto_region 9 with fail;rw[HW5.o];go_wp2_with fail;go_roundw
     case rel=>exact ⟨k+1,by omega,by go_num,hid ⟨_,_,HMS.o.next HST.o (by simp),HM4.o,HR4.o,HK4.o⟩⟩
     case measure=>simp[intOf];omega
   ·obtain rfl:k=n:=by omega
    go_wp2_with fail;go_ret;refine ⟨_,l,sk,rfl,⟨some ⟨g,0,none⟩,k,by rw[HMS.o.1];rfl,HLM.o.rows BlV.sub BlV.links HG.o,by rw[HMS.o.1];exact Nat.le_refl _,by rw[HMS.o.1];exact HNb.o.2⟩,HMS.o.done HNb.o.1,HRD.o,HKK.o⟩
theorem ziP{s:Option (List UInt8)}(h:qt w rb s):Calls Tryz.prog 142 #[pointer (some ⟨rb,0,none⟩)] w (j8 FuV fuE znw w rb s):=by
 have hrb:=h.lt;have H1:=hid fun (w':World) (s':Option (List UInt8)) (h:qt w' rb s')=>zH h;have H2:=hid fun (w':World) (s':Option (List UInt8)) (h:qt w' rb s')=>zal h;have H3:=hid fun (w':World) (s':Option (List UInt8)) (h:qt w' rb s')=>zkk h;obtain ⟨WA,hWA⟩:∃ WA,WA=w.alloc (.cells #[int i64 0,.slice none 0 0,.slice none 0 0] 45):=⟨_,rfl⟩;have R0:qt WA rb s:=by rw[hWA];exact h.quiet (zc.alloc [] w _)
 have KA:Box (zc [rb] w WA):=hid (by rw[hWA];exact zc.alloc [rb] w _);have hq0:WA.heap[w.heap.size]? = some (.cells #[int i64 0,.slice none 0 0,.slice none 0 0] 45 (0,0)):=by rw[hWA];exact zf w _
 obtain ⟨B,hB⟩:∃ B,B=w.heap.size:=⟨_,rfl⟩;have HB:=hid hB;have SA:Box (rb<B∧B<WA.heap.size):=hid ⟨by rw[hB];exact hrb,by rw[hWA,World.size_alloc,hB];omega⟩;have HWA:=hid hWA;clear h hrb;go_enter Tryz.func142,Tryz.ntmps142;go_wp2_with fail;rw[← hWA, ← hB];rw[← hB] at hq0;clear hWA hB;obtain ⟨q,hq⟩:∃ q,q=B:=⟨_,rfl⟩;rw[← hq] at hq0 ⊢;have HQ:=hid hq;clear hq;refine (H1.o _ _ R0).mono ?_;rintro e w1 ⟨v1,x1,s1,rfl,V1,P1,R1,K1⟩;have Y1:=hid V1;obtain ⟨rfl,_⟩:=V1;have HP1:=hid P1;clear P1 H1;go_wp2_with fail;refine (H2.o _ _ R1).mono ?_;rintro e w2 ⟨v2,x2,s2,rfl,V2,P2,R2,K2⟩;have Y2:=hid V2;obtain ⟨a2,m2,rfl,_⟩:=V2;have HP2:=hid P2;clear P2 H2;go_wp2_with fail;refine (H3.o _ _ R2).mono ?_;rintro e w3 ⟨v3,x3,s3,rfl,V3,P3,R3,K3⟩;have Y3:=hid V3;obtain ⟨a3,m3,rfl,_⟩:=V3;have HP3:=hid P3;clear P3 H3;have HK9:Box (zc [rb] WA w3):=hid ((K1.step K2).step K3);have hqm:w3.heap[q]? = some (.cells #[int i64 0,.slice none 0 0,.slice none 0 0] 45 (0,0)):=by
  rw[HK9.o.block q (z8 hq0) (by have:=SA.o;have:=HQ.o;simp;omega)];exact hq0
 have c0:=zd hqm 0;have z0:=zL hqm 0;have c1:=zd hqm 1;have z1:=zL hqm 1;have c2:=zd hqm 2;have z2:=zL hqm 2;obtain ⟨wf,HWF⟩:∃ wf,Box (wf=Zc w3 q 0 0 [int i64 x1,.slice a2 x2.length m2,.slice a3 x3.length m3]):=⟨_,hid rfl⟩;have h3:wf.heap[q]? = some (.cells #[int i64 x1,.slice a2 x2.length m2,.slice a3 x3.length m3] 45 (0,0)):=by rw[HWF.o];exact jN _ _ _ _ hqm
 have HWK:Box (zc [q] w3 wf):=hid (by rw[HWF.o];exact zS _ _ _);have HW5:Box (Zc w3 q 0 0 [int i64 x1,.slice a2 x2.length m2,.slice a3 x3.length m3]=wf):=hid HWF.o.symm;simp only[Zc,Nat.add_zero,Nat.zero_add,Nat.reduceAdd] at HW5;have L2:=hid (zlz zb9.sub (B:=B) (q:=q) Y2.o (by have:=SA.o;have:=HQ.o;have:=K1.size;omega) (by have:=SA.o;have:=HQ.o;have:=K1.size;omega) (by have:=SA.o;have:=HQ.o;have:=K1.size;omega) (((zc.refl [rb,q] w2).step (K3.mono (by simp))).step (HWK.o.mono (by simp))));have L3:=hid (zlz zny.sub (B:=B) (q:=q) Y3.o (by have:=SA.o;have:=HQ.o;have:=K1.size;have:=K2.size;omega) (by have:=SA.o;have:=HQ.o;have:=K1.size;have:=K2.size;omega) (by have:=SA.o;have:=HQ.o;have:=K1.size;have:=K2.size;omega) ((zc.refl [rb,q] w3).step (HWK.o.mono (by simp))));have HR9:Box (qt wf rb s3):=hid (R3.kept HWK.o (fun x hx=>by rw[List.mem_singleton] at hx;have:=SA.o;have:=HQ.o;omega));have HKF:Box (zc [rb] w wf):=hid ((KA.o.step HK9.o).trans HWK.o (fun x hx hlt=>by rw[List.mem_singleton] at hx;have:=HQ.o;have:=HB.o;omega));have e0:=zd h3 0;have e1:=zd h3 1;have e2:=zd h3 2;clear HWF hqm h3 hq0 K1 R1 K2 R2 K3 R3 R0;go_wp2_with fail;rw[HW5.o];refine bodyPost_ret (v:=agg #[int i64 x1,.slice a2 x2.length m2,.slice a3 x3.length m3]) (by simp[results,Tryz.results142,go_sem,e0,e1,e2]) rfl ⟨_,⟨x1,x2,x3⟩,s3,rfl,?_,(Stp.pair Cd.num HP1.o (Stp.pair Cd.tys HP2.o HP3.o)).map (fun t=>(⟨t.1,t.2.1,t.2.2⟩:Fu8)) (fun x=>(x.sig,x.regs,x.blocks)) rfl (fun _=>rfl) (fun h=>h) (fun _ h=>h),HR9.o,HKF.o⟩;rw[← HB.o];exact ⟨a2,m2,a3,m3,rfl,Y1.o.2,L2.o,L3.o⟩
def zdX(l:List Int):List Value:=l.map (Value.int .i64)
theorem JC(l:List Int):(zdX l).length=l.length:=by unfold zdX;rw[List.length_map]
theorem zfk(l:List Int)(i:Nat)(h:i<l.length):(zdX l)[i]? = some (int i64 (l.getD i 0)):=by
 unfold zdX;simp[List.getD,List.getElem?_eq_getElem h]
structure qV (w:World) (g off cap:Nat) (l:List Int):Prop where
 cell:∀ i,i<l.length→w.cell? ⟨g,off+i,none⟩=some (int i64 (l.getD i 0))
 room:∀ k,k<cap→(w.cell? ⟨g,off+k,none⟩).isSome=true∧w.frozen? ⟨g,off+k,none⟩=false
 len:l.length≤cap
 max:cap≤9223372036854775807
 lt:g<w.heap.size
theorem zc.frozen{L:List Nat}(h:zc L w w'){p:Addr}(hp:p.block<w.heap.size)(hn:p.block ∉ L):w'.frozen? p=w.frozen? p:=
 World.frozen?_of_block (w:=w) (h.block p.block hp hn)
theorem qV.kept{g off cap:Nat}{l:List Int}{L:List Nat}(h : qV w g off cap l)(k : zc L w w')(hn : g ∉ L): qV w' g off cap l :=
  ⟨fun i hi => by rw [k.cell (p := ⟨g, off + i, none⟩) h.lt hn]; exact h.cell i hi,
   fun i hi => by rw [k.cell (p := ⟨g, off + i, none⟩) h.lt hn, k.frozen (p := ⟨g, off + i, none⟩) h.lt hn]; exact h.room i hi,
   h.len, h.max, Nat.lt_of_lt_of_le h.lt k.size⟩
theorem qV.of_owns{base:Nat}{n:Nat}{l:List Int}(h:w.ownsRow base 3 1 v n (zdX l))(hv:v≠ .slice none 0 0):
  ∃ g cap,v=.slice (some ⟨g,0,none⟩) n cap∧base≤g∧l.length=n∧qV w g 0 cap l:=by
 have hl:l.length=n:=by have:=h.1;rw[JC] at this;omega
 rcases h.2 with ⟨e,_⟩ | ⟨g,cap,cur,rfl,hb,hg,hnc,hcm,hcs,ht⟩
 ·exact absurd e hv
 ·refine ⟨g,cap,rfl,hb,hl,⟨fun i hi=> ?_,fun k hk=> ?_,by omega,by unfold maxLen at hcm;omega,(Array.getElem?_eq_some_iff.1 hg).1⟩⟩
  ·rw[Nat.zero_add,h.cellAt i (by omega),zfk l i hi]
  ·refine ⟨?_,frozen_of_row w g _ _ _ hg⟩
   rw[cell_of_row w g _ _ _ _ hg,Nat.zero_add,Array.getElem?_eq_getElem (by omega)];rfl
theorem Qg(w:World)(b o k:Nat)(vs:List Value)(ht:∀ j,j<vs.length→(w.cell? ⟨b,o+j,none⟩).isSome=true):
  (w.setCells b o vs).cell? ⟨b,k,none⟩=if o≤k∧k<o+vs.length then vs[k - o]? else w.cell? ⟨b,k,none⟩:=by
 by_cases h:o≤k∧k<o+vs.length
 ·rw[if_pos h]
  have:=World.cell?_setCells_in b vs o w ht (k - o) (by omega);rw[show o+(k - o)=k by omega] at this;rw[this,List.getElem?_eq_getElem]
 ·rw[if_neg h]
  exact World.cell?_setCells_out b vs o w _ (fun _ _=>by show k<o∨o+vs.length≤k;omega)
theorem zc.setCells(g:Nat):∀ (vs:List Value) (o:Nat) (w:World),zc [g] w (w.setCells g o vs)
 | [],_,w=>zc.refl _ _
 | v :: r,o,w=>by
  rw[World.setCells];exact (zc.setCell [g] w ⟨g,o,none⟩ v (by simp)).step (zc.setCells g r (o+1) _)
theorem JU(w:World)(b o k:Nat)(vs:List Value)(ht:∀ j,j<vs.length→(w.cell? ⟨b,o+j,none⟩).isSome=true)(hk:(w.cell? ⟨b,k,none⟩).isSome=true):((w.setCells b o vs).cell? ⟨b,k,none⟩).isSome=true:=by
 rw[Qg w b o k vs ht];by_cases h:o≤k∧k<o+vs.length
 ·rw[if_pos h,List.getElem?_eq_getElem (by omega)];rfl
 ·rw[if_neg h];exact hk
theorem qV.set{g off cap:Nat}{l:List Int}(h:qV w g off cap l)(o:Nat)(vs:List Value)(l':List Int)(ho:o+vs.length≤cap)(hl:l'.length≤cap)
  (hc:∀ i,i<l'.length→(if o≤i∧i<o+vs.length then vs[i - o]? else w.cell? ⟨g,off+i,none⟩)=some (int i64 (l'.getD i 0))):qV (w.setCells g (off+o) vs) g off cap l':=by
 have ht:∀ j,j<vs.length→(w.cell? ⟨g,off+o+j,none⟩).isSome=true:=fun j hj=>by rw[Nat.add_assoc];exact (h.room (o+j) (by omega)).1
 refine ⟨fun i hi=> ?_,fun k hk=>⟨JU w g _ _ vs ht (h.room k hk).1,by rw[World.frozen?_setCells];exact (h.room k hk).2⟩,hl,h.max,Nat.lt_of_lt_of_le h.lt (zc.setCells g vs _ w).size⟩;rw[Qg w g (off+o) (off+i) vs ht, ← hc i hi];by_cases c:o≤i∧i<o+vs.length
 ·rw[if_pos c,if_pos (by omega),show off+i - (off+o)=i - o by omega]
 ·rw[if_neg c,if_neg (by omega)]
theorem zji:(Tryz.prog.info? 3).map (fun i=>(i.zero,i.size,i.bytes))=some (some (int i64 0),1,8):=by kernel_rfl
theorem zi9(l:List Int)(x:Int)(i:Nat)(h:i<l.length+1):(l ++ [x]).getD i 0=if i<l.length then l.getD i 0 else x:=by
 rw[List.getD_eq_getElem?_getD,List.getD_eq_getElem?_getD];by_cases c:i<l.length
 ·rw[if_pos c,List.getElem?_append_left c]
 ·obtain rfl:i=l.length:=by omega
  rw[if_neg c];simp
theorem zbu(w:World)(ty:TypeId)(l:List Int)(x:Int)(lv:Value)
  (hv:(lv=.slice none 0 0∧l=[])∨∃ g off cap,lv=.slice (some ⟨g,off,none⟩) l.length cap∧qV w g off cap l) (ad:Addr) (c:Nat)
  (hnew:∀ j u,[Value.int .i64 x][j]? = some u→w.cell? (ad.add j)=some u) (hb:l.length<1000000):
  ∃ g' off' cap' w',(Builtin.append_ #[37,37] ty #[lv,.slice (some ad) 1 c]).run Tryz.prog w=.ok (.slice (some ⟨g',off',none⟩) (l.length+1) cap') w'∧
   qV w' g' off' cap' (l ++ [x])∧zc lv.ownBlock.toList w w'∧(lv.ownBlock=some g'∨g'=w.heap.size):=by
 obtain ⟨i0,hi,hz0,hz1,hz2⟩:=info_parts zji;have h1:∀ u∈[Value.int .i64 x],u.oneCell'=true:=by intro u hu;simp at hu;subst hu;rfl
 have fresh:∀ (v':Value) (w':World),w'.ownsRow w.heap.size 3 1 v' (l.length+1) (zdX l ++ [Value.int .i64 x])→w.grownBy w' none→w'.heap.size=w.heap.size+1→
   ∃ g' off' cap',v'=.slice (some ⟨g',off',none⟩) (l.length+1) cap'∧qV w' g' off' cap' (l ++ [x])∧zc lv.ownBlock.toList w w'∧(lv.ownBlock=some g'∨g'=w.heap.size):=by
  intro v' w' ho hg hsz;have e:zdX l ++ [Value.int .i64 x]=zdX (l ++ [x]):=by unfold zdX;rw[List.map_append];rfl
  rw[e] at ho
  obtain ⟨g',cap',rfl,hbg,hl,hline⟩:=qV.of_owns ho (by
   intro ev;rcases ho.2 with ⟨_,h0⟩ | ⟨_,_,_,h',_⟩
   ·omega
   ·rw[ev] at h';simp at h')
  have:=hline.lt;exact ⟨g',0,cap',rfl,hline,zc.grown _ hg (fun k hk=>by cases hk),Or.inr (by omega)⟩
 rcases hv with ⟨rfl,rfl⟩ | ⟨g,off,cap,rfl,hline⟩
 ·have hr:=run_append_nil (P:=Tryz.prog) w 37 ty 3 i0 (int i64 0) Tryz.underlying37 hi hz0 ad 1 c [Value.int .i64 x] (by rw[hz1];rfl) hnew (by omega) (by omega) (by rw[hz2];omega)
  have hge:=grownCap_ge w 1 0 3;have hle:=grownCap_le_maxLen w 1 0 3 (by unfold maxLen;omega);have ho:(w.drew.alloc (.cells ([Value.int .i64 x].toArray ++ Builtin.zeroCells (Value.int .i64 0).cells (grownCap w 1 0 3 - 1)) 3)).ownsRow w.heap.size 3 1 (.slice (some ⟨w.heap.size,0,none⟩) 1 (grownCap w 1 0 3)) 1 (zdX [] ++ [Value.int .i64 x]):=by
   refine ⟨rfl,.inr ⟨_,_,_,rfl,Nat.le_refl _,heap_alloc_new w.drew _,hge,hle,?_,?_⟩⟩
   ·simp only[Array.size_append,List.size_toArray,size_zeroCells]
    show 1+(grownCap w 1 0 3 - 1) * 1=_;omega
   ·simp[zdX]
  obtain ⟨g',off',cap',e,r⟩:=fresh _ _ ho ⟨rfl,rfl,rfl,by simp,fun k hk _=>(by first | exact heap_alloc_old w.drew _ hk | exact heap_alloc_old w.drew _ _ hk)⟩ (by simp);exact ⟨g',off',cap',_,by rw[hr, ← e],r⟩
 ·by_cases hroom:l.length+1≤cap
  ·have hr:=run_append_room_cells (P:=Tryz.prog) w 37 ty 3 i0 Tryz.underlying37 hi g off l.length cap ad 1 c [Value.int .i64 x] (by rw[hz1];rfl) hnew h1 hroom
    (fun j hj=>by rw[hz1,Nat.mul_one,Nat.add_assoc];simp at hj;exact (hline.room _ (by omega)).1) (fun j hj=>by rw[hz1,Nat.mul_one,Nat.add_assoc];simp at hj;exact (hline.room _ (by omega)).2)
   rw[hz1,Nat.mul_one] at hr;refine ⟨g,off,cap,_,hr,hline.set l.length _ (l ++ [x]) (by simpa using hroom) (by simpa using hroom) (fun i hi=> ?_),zc.setCells g _ _ w,Or.inl rfl⟩;rw[List.length_append] at hi;simp at hi;rw[zi9 l x i hi];by_cases ci:i<l.length
   ·rw[if_pos ci,if_neg (by omega)];exact hline.cell i ci
   ·obtain rfl:i=l.length:=by omega
    rw[if_neg ci,if_pos (by simp)];simp
  ·have hr0:∃ v' w',(Builtin.append_ #[37,37] ty #[.slice (some ⟨g,off,none⟩) l.length cap,.slice (some ad) 1 c]).run Tryz.prog w=.ok v' w'∧w'.ownsRow w.heap.size 3 1 v' (l.length+1) (zdX l ++ [Value.int .i64 x])∧w.grownBy w' none∧w'.heap.size=w.heap.size+1:=by
    have hlo:(zdX l).length=l.length * i0.size:=by rw[JC,hz1];omega
    have hol:∀ j u,(zdX l)[j]? = some u→w.cell? ((⟨g,off,none⟩:Addr).add j)=some u:=by
     intro j u hu;have hj:j<l.length:=by
      have:=(List.getElem?_eq_some_iff.1 hu).1
      rwa [JC] at this
     rw[zfk l j hj] at hu;rw[Addr.add_lit,hline.cell j hj];exact hu
    have hr:=run_append_grow (P:=Tryz.prog) w 37 ty 3 i0 (int i64 0) Tryz.underlying37 hi hz0 ⟨g,off,none⟩ l.length cap (zdX l) hlo hol ad 1 c [Value.int .i64 x] (by rw[hz1];rfl) hnew (by omega) (by omega) (growslice_fits (by omega) (by rw[hz2];omega));refine ⟨_,_,hr,?_,⟨rfl,rfl,rfl,by simp,fun k hk _=>(by first | exact heap_alloc_old w.drew _ hk | exact heap_alloc_old w.drew _ _ hk)⟩,by simp⟩;have hge:=grownCap_ge w (l.length+1) cap 3;have hle:=grownCap_le_maxLen w (l.length+1) cap 3 (by unfold maxLen;omega);have hll:(zdX l ++ [Value.int .i64 x]).length=l.length+1:=by rw[List.length_append,JC];rfl
    refine ⟨by rw[hll];omega,.inr ⟨_,_,_,rfl,Nat.le_refl _,heap_alloc_new w.drew _,hge,hle,?_,?_⟩⟩
    ·simp only[Array.size_append,List.size_toArray,size_zeroCells,JC]
     show l.length+1+(grownCap w (l.length+1) cap 3 - (l.length+1)) * 1=_;omega
    ·simp only[Array.toList_append,List.append_assoc,Nat.mul_one]
     rw[← List.append_assoc];exact List.take_left' hll
   obtain ⟨v',w',hr,ho,hg,hsz⟩:=hr0;obtain ⟨g',off',cap',rfl,r⟩:=fresh v' w' ho hg hsz;exact ⟨g',off',cap',w',hr,r⟩
theorem ZL{ops:Array Oper}{rest:List Oper}{o:Oper}{a:Act}{Q:Exit→Act→World→Prop}(w:World)(hgd:o.guard=none)(s x':Operand)
  (ho:o.op=.call { callee:=.builtin .append,args:=#[s,x'],argTypes:=#[37,37] })
  (l:List Int) (x:Int) (lv:Value) (hs:a.eval s=lv) (hv:(lv=.slice none 0 0∧l=[])∨∃ g off cap,lv=.slice (some ⟨g,off,none⟩) l.length cap∧qV w g off cap l)
  (ad:Addr) (c:Nat) (hx:a.eval x'=.slice (some ad) 1 c) (hnew:∀ j u,[Value.int .i64 x][j]? = some u→w.cell? (ad.add j)=some u) (hb:l.length<1000000)
  (h:∀ g' off' cap' w',qV w' g' off' cap' (l ++ [x])→zc lv.ownBlock.toList w w'→(lv.ownBlock=some g'∨g'=w.heap.size)→wpList Tryz.prog ops Q rest (a.put o.dst (.slice (some ⟨g',off',none⟩) (l.length+1) cap')) w'):
  wpList Tryz.prog ops Q (o :: rest) a w:=by
 refine wpList_plain hgd fun K hK=> ?_;obtain ⟨g',off',cap',w',hr,h2,h3,h4⟩:=zbu w o.type l x lv hv ad c hnew hb;unfold Oper.wp execOp;simp only[ho,resolve,invoke,builtin,Sem.run_bind,Sem.run_pure,Result.andThen_ok,List.map_toArray,List.map_cons,List.map_nil,hs,hx,hr];exact hK _ _ (h g' off' cap' w' h2 h3 h4)
def jD(w:World)(b:Nat)(t:Int × Int):Prop:=w.heap[b]? = some (.cells #[int i64 t.1,int i64 t.2] 34 (0,0))
theorem jD.quiet{t:Int × Int}(h:jD w b t)(k:zc [] w w'):jD w' b t:=ze h k
theorem jD.far{b':Nat}{t t':Int × Int}(h:jD w b t)(hn:b≠b'):jD ((w.setCell ⟨b',0,none⟩ (int i64 t'.1)).setCell ⟨b',1,none⟩ (int i64 t'.2)) b t:=by
 unfold jD;rw[heap_setCell_other _ _ _ _ hn,heap_setCell_other _ _ _ _ hn];exact h
theorem jD.put{t t':Int × Int}(h:jD w b t):jD ((w.setCell ⟨b,0,none⟩ (int i64 t'.1)).setCell ⟨b,1,none⟩ (int i64 t'.2)) b t':=zp2 h _ _
def zc3(W0 w:World)(l:Array Bool)(m s:Nat)(v:Value)(b:Nat)(t:Int × Int):Prop:=
 l.getD m false=true→v=pointer (some ⟨b,0,none⟩)∧W0.heap.size≤b∧jD w b (if l.getD s false then t else (0,0))
structure zoT (W0:World) (fr:Value→Value→Value→Value→Value→Value→Act) (T1 T2 T3:Int × Int) (l:Array Bool) (a:Act) (w:World):Prop where
 size:l.size=18
 kept:zc [] W0 w
 ex:∃ v7 v8 v9 v19 v23 v27 b7 b8 b9,a=fr v7 v8 v9 v19 v23 v27∧(l.getD 3 false=true→v19=tyV T1)∧(l.getD 7 false=true→v23=tyV T2)∧(l.getD 11 false=true→v27=tyV T3)∧
  zc3 W0 w l 12 15 v7 b7 T1∧zc3 W0 w l 13 16 v8 b8 T2∧zc3 W0 w l 14 17 v9 b9 T3∧
  (l.getD 12 false=true→l.getD 13 false=true→b7≠b8)∧(l.getD 12 false=true→l.getD 14 false=true→b7≠b9)∧(l.getD 13 false=true→l.getD 14 false=true→b8≠b9)
 nine:∀ i,i∈[0,1,2,4,5,6,8,9,10]→l.getD i true=true
 o7:l.getD 15 false=true→l.getD 12 false=true
 o8:l.getD 16 false=true→l.getD 13 false=true
 o9:l.getD 17 false=true→l.getD 14 false=true
theorem zkh(h:i<l.size):(l.setIfInBounds i true).getD i false=true:=by
 rw[Array.getD_eq_getD_getElem?,Array.getElem?_setIfInBounds_self_of_lt h];rfl
theorem zv{j:Nat}(d:Bool)(h:i≠j):(l.setIfInBounds i true).getD j d=l.getD j d:=getD_set_ne d h
theorem zjt{j:Nat}(i:Nat)(h:l.getD j true=true):(l.setIfInBounds i true).getD j true=true:=by
 by_cases e:i=j
 ·subst e
  rcases Nat.lt_or_ge i l.size with h' | h'
  ·rw[Array.getD_eq_getD_getElem?,Array.getElem?_setIfInBounds_self_of_lt h']
   rfl
  ·rw[Array.getD_eq_getD_getElem?,Array.getElem?_eq_none (by simpa using h')]
   rfl
 ·rw[zv true e]
  exact h
theorem Zk(i:Nat)(h:∀ i,i∈[0,1,2,4,5,6,8,9,10]→l.getD i true=true):∀ j,j∈[0,1,2,4,5,6,8,9,10]→(l.setIfInBounds i true).getD j true=true:=fun j hj=>zjt i (h j hj)
theorem qg(i:Nat)(h:l.getD s false=true→l.getD m false=true)(hi:i=s→l.getD m false=true):(l.setIfInBounds i true).getD s false=true→(l.setIfInBounds i true).getD m false=true:=by
 intro hb;apply getD_set_true;by_cases e:i=s
 ·exact hi e
 ·rw[zv false e] at hb
  exact h hb
theorem zc3.quiet{t:Int × Int}(h:zc3 W0 w l m s v b t)(k:zc [] w w')(hm:i≠m)(hs:i≠s):zc3 W0 w' (l.setIfInBounds i true) m s v b t:=by
 intro hb;rw[zv false hm] at hb;rw[zv false hs];obtain ⟨h1,h2,h3⟩:=h hb;exact ⟨h1,h2,h3.quiet k⟩
theorem zc3.new{t:Int × Int}(hk:zc [] W0 w)(hs:l.getD s false=false)(hne:m≠s):zc3 W0 (w.alloc (.cells #[int i64 0,int i64 0] 34)) (l.setIfInBounds m true) m s (pointer (some ⟨w.heap.size,0,none⟩)) w.heap.size t:=by
 intro _;rw[zv false hne,hs];exact ⟨rfl,hk.size,zf w _⟩
theorem zc3.far{b':Nat}{t t':Int × Int}(h:zc3 W0 w l m s v b t)(hn:l.getD m false=true→b≠b')(hm:i≠m)(hs:i≠s):zc3 W0 ((w.setCell ⟨b',0,none⟩ (int i64 t'.1)).setCell ⟨b',1,none⟩ (int i64 t'.2)) (l.setIfInBounds i true) m s v b t:=by
 intro hb;rw[zv false hm] at hb;rw[zv false hs];obtain ⟨h1,h2,h3⟩:=h hb;exact ⟨h1,h2,h3.far (hn hb)⟩
theorem zc3.put{t:Int × Int}(h:zc3 W0 w l m s v b t)(hs:s<l.size)(hne:s≠m):zc3 W0 ((w.setCell ⟨b,0,none⟩ (int i64 t.1)).setCell ⟨b,1,none⟩ (int i64 t.2)) (l.setIfInBounds s true) m s v b t:=by
 intro hb;rw[zv false hne] at hb;rw[zkh hs];obtain ⟨h1,h2,h3⟩:=h hb;exact ⟨h1,h2,h3.put⟩
theorem zc3.lt{t:Int × Int}(h:zc3 W0 w l m s v b t)(hb:l.getD m false=true):b<w.heap.size:=z8 (h hb).2.2
theorem zcT(h:l.getD i true=false):l.getD i false=false:=by
 rw[Array.getD_eq_getD_getElem?] at h ⊢;cases e:l[i]? with
 | none=>rw[e] at h;cases h
 | some b=>rw[e] at h;exact h
end Go.Proofs.YtkgoimokgbdgfaaGreatDoor
