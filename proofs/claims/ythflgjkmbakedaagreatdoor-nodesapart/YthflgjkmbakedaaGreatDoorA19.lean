import Derived.Test.YthflgjkmbakedaaGreatDoorA16

namespace Go.Proofs.YthflgjkmbakedaaGreatDoor
open Go.RowKit
open Go.Value (int pointer agg)
open Go.IntKind (i64)
set_option maxRecDepth 20000
set_option maxHeartbeats 8000000
variable {M n pb po:Nat}{P:Pr8}{a:Option Addr}{ev:Operand→Value}{ks:List (Int × Int)}{l:Array Bool}{oi:Oper}{w:World}
theorem zcL(k:Int)(n:Nat)(w:World):Calls Tryz.prog 194 #[int i64 k,int i64 (n:Int)] w fun e w'=>e=.returned (.bool (inB k n))∧w'=w:=by
 by_cases h1:0≤k
 ·by_cases h2:k<(n:Int)
  ·rw[zcP h1 h2]
   go_enter Tryz.func194,Tryz.ntmps194;go_wp2;go_ret;exact ⟨rfl,rfl⟩
  ·rw[zdK (fun h=>h2 h.2)]
   have hd:decide (k<(n:Int))=false:=decide_eq_false h2;clear h2;go_enter Tryz.func194,Tryz.ntmps194;go_wp2;go_ret;exact ⟨rfl,rfl⟩
 ·rw[zdK (fun h=>h1 h.1)]
  have hd:decide (0≤k)=false:=decide_eq_false h1;go_enter Tryz.func194,Tryz.ntmps194;go_wp2;go_ret;exact ⟨rfl,rfl⟩
theorem qh(k:Int)(n:Nat)(w:World){r:Bool}(hr:inB k n=r):Calls Tryz.prog 194 #[int i64 k,int i64 (n:Int)] w fun e w'=>e=.returned (.bool r)∧zc [] w w':=by
 subst hr;refine (zcL k n w).mono ?_;rintro e w' ⟨rfl,rfl⟩;exact ⟨rfl,zc.refl _ _⟩
theorem zbB{b o c:Nat}{ad:Option Addr}{x:Int × Int}{l:List (Int × Int)}(h:z7 w 2 TyC (some ⟨b,o,none⟩) (x :: l))(had:ad=if c=0 then some ⟨b,o,none⟩ else some ⟨b,o+2,none⟩)(hc:l.length≤c):z7 w 2 TyC ad l:=by
 rcases h with h | ⟨b',o',e,h⟩
 ·cases h
 ·cases e
  by_cases h0:c=0
  ·left
   exact List.length_eq_zero_iff.1 (by omega)
  ·rw[if_neg h0] at had
   refine .inr ⟨b,o+2,had,fun j y hy=> ?_⟩;have:=h (j+1) y (by simpa using hy)
   rwa [show o+(j+1) * 2=o+2+j * 2 by omega] at this
theorem zjF{b:Option Addr}{la lb:List (Int × Int)}(ha:z7 w 2 TyC a la)(hb:z7 w 2 TyC b lb)(ca cb:Nat)(hl:la.length≤maxLen):Calls Tryz.prog 239 #[.slice a la.length ca,.slice b lb.length cb] w fun e w'=>e=.returned (.bool (decide (la=lb)))∧zc [] w w':=by
 by_cases hn:la.length=lb.length
 case neg=>
  have hne:decide (la=lb)=false:=by
   rw[decide_eq_false_iff_not];exact fun e=>hn (by rw[e])
  rw[hne];obtain ⟨n,hn1⟩:∃ n,n=la.length:=⟨_,rfl⟩;obtain ⟨m,hm1⟩:∃ n,n=lb.length:=⟨_,rfl⟩;rw[← hn1, ← hm1] at hn ⊢;have hi:((n:Int) != (m:Int))=true:=by rw[bne_iff_ne];omega
  clear hn1 hm1 ha hb hl hn;go_enter Tryz.func239,Tryz.ntmps239;go_wp2_with fail;go_ret;exact ⟨rfl,zc.refl _ _⟩
 have HE:Box (∀ (x y:Int × Int) (k:Nat),la[k]? = some x→lb[k]? = some y→x≠y→decide (la=lb)=false):=hid fun x y k h1 h2 h3=>by
  rw[decide_eq_false_iff_not];intro e;rw[e] at h1;rw[h1] at h2;exact h3 (Option.some.inj h2)
 have HT:Box ((∀ (k:Nat),k<la.length→la[k]? = lb[k]?)→decide (la=lb)=true):=hid fun h=>by
  rw[decide_eq_true_iff];apply List.ext_getElem?;intro k;by_cases hk:k<la.length
  ·exact h k hk
  ·rw[List.getElem?_eq_none (by omega),List.getElem?_eq_none (by omega)]
 have HA:=hid ha;have HB:=hid hb;have HNL:=hid hn;obtain ⟨n,hn1⟩:∃ n,n=la.length:=⟨_,rfl⟩;have HN:=hid hn1;rw[← hn, ← hn1];rw[← hn1] at hl;unfold maxLen at hl;clear hn hn1 ha hb;have hi:((n:Int) != (n:Int))=false:=by simp
 go_enter Tryz.func239,Tryz.ntmps239;go_wp2_with fail;clear hi
 go_loopw [13] (fun kv wr=>∃ k:Nat,k≤n∧kv=int i64 (k:Int)∧Box (zc [] w wr)∧Box (∀ (j:Nat),j<k→la[j]? = lb[j]?)) (fun kv _=>n - (intOf kv).toNat)
 case atStart=>exact ⟨0,by omega,rfl,hid (zc.refl _ _),hid fun j hj=>by omega⟩
 case round=>
  obtain ⟨k,hk,rfl,HK,HJ⟩:=hrel;by_cases hlt:k<n
  ·have hlt':(k:Int)<(n:Int):=by omega
   have g1:=zg (l:=la) (k:=k) (d:=(0,0)) (by rw[← HN.o];exact hlt);have g2:=zg (l:=lb) (k:=k) (d:=(0,0)) (by rw[← HNL.o, ← HN.o];exact hlt);obtain ⟨b1,o1,rfl,t1⟩:=HA.o.at g1;obtain ⟨b2,o2,rfl,t2⟩:=HB.o.at g2;have c0:=za HK.o t1.c0.1;have c1:=za HK.o t1.c1.1;have d0:=za HK.o t2.c0.1;have d1:=za HK.o t2.c1.1;have HG:=hid (And.intro g1 g2);clear t1 t2 g1 g2;generalize la.getD k (0,0)=x at *;generalize lb.getD k (0,0)=y at *;have hlt_k:(k:Int)<(n:Int):=hlt';have HQ:Box (tyE x y=tyE (x.1,x.2) (y.1,y.2)):=hid rfl;cases hxy:tyE (x.1,x.2) (y.1,y.2) with
   | true=>
    have HXY:Box (x=y):=hid (zjj.1 hxy);go_upto_region 6 with fail;refine zm (W0:=wr) 26 [.slice (some ⟨b1,o1,none⟩) n ca,int i64 (k:Int),pointer (some ⟨b1,o1+k * 2,none⟩),agg #[int i64 x.1,int i64 x.2],.slice (some ⟨b2,o2,none⟩) n cb,int i64 (k:Int),pointer (some ⟨b2,o2+k * 2,none⟩),agg #[int i64 y.1,int i64 y.2],.bool false] (by kernel_rfl) (by rfl) (by kernel_rfl) (zc.refl _ _) (fun A hA=> ?_);simp only[zv,Act.put,sTA,sC0,sCS] at hA;subst hA;refine ⟨gR (gR (gY (fun _ _=>jx rfl rfl rfl hlt_k) (gY (fun _ k9=>zZ (za k9 c0) (za k9 c1) rfl rfl) (gR (gR (gY (fun _ _=>jx rfl rfl rfl hlt_k) (gY (fun _ k9=>zZ (za k9 d0) (za k9 d1) rfl rfl) (gY (fun _ _=>zjh rfl rfl rfl hxy) (zk.nil))))))))),fun w8 k8=> ?_⟩;go_wp2_with fail;go_roundw
    case rel=>
     refine ⟨k+1,by omega,by go_num,hid (HK.o.quiet k8),hid fun j hj=> ?_⟩;by_cases hjk:j=k
     ·subst hjk
      rw[HG.o.1,HG.o.2,HXY.o]
     ·exact HJ.o j (by omega)
    case measure=>simp[intOf];omega
   | false=>
    have HXY:Box (x≠y):=hid fun e=>by
     have:=zjj.2 e;rw[HQ.o,hxy] at this;cases this
    go_upto_region 6 with fail;refine zm (W0:=wr) 26 [.slice (some ⟨b1,o1,none⟩) n ca,int i64 (k:Int),pointer (some ⟨b1,o1+k * 2,none⟩),agg #[int i64 x.1,int i64 x.2],.slice (some ⟨b2,o2,none⟩) n cb,int i64 (k:Int),pointer (some ⟨b2,o2+k * 2,none⟩),agg #[int i64 y.1,int i64 y.2],.bool true] (by kernel_rfl) (by rfl) (by kernel_rfl) (zc.refl _ _) (fun A hA=> ?_);simp only[zv,Act.put,sTA,sC0,sCS] at hA;subst hA;refine ⟨gR (gR (gY (fun _ _=>jx rfl rfl rfl hlt_k) (gY (fun _ k9=>zZ (za k9 c0) (za k9 c1) rfl rfl) (gR (gR (gY (fun _ _=>jx rfl rfl rfl hlt_k) (gY (fun _ k9=>zZ (za k9 d0) (za k9 d1) rfl rfl) (gY (fun _ _=>zjh rfl rfl rfl hxy) (zk.nil))))))))),fun w8 k8=> ?_⟩;go_wp2_with fail;go_ret;exact ⟨by rw[HE.o x y k HG.o.1 HG.o.2 HXY.o];rfl,HK.o.quiet k8⟩
  ·obtain rfl:k=n:=by omega
   go_wp2_with fail;go_ret;exact ⟨by rw[HT.o fun j hj=>HJ.o j (by rw[HN.o];exact hj)];rfl,HK.o⟩
theorem zm1{b:Option Addr}{la lb:List (Int × Int)}(ha:z7 w 2 TyC a la)(hb:z7 w 2 TyC b lb)(ca cb:Nat)(hl:la.length≤maxLen){r:Bool}(hr:decide (la=lb)=r){m:Nat}(hn:n=la.length)(hm:m=lb.length):Calls Tryz.prog 239 #[.slice a n ca,.slice b m cb] w fun e w'=>e=.returned (.bool r)∧zc [] w w':=by
 subst hr hn hm;exact zjF ha hb ca cb hl
theorem zjO(h:PrC w pb po P)(f r n:Int):Calls Tryz.prog 195 #[pointer (some ⟨pb,po,none⟩),int i64 f,agg #[int i64 1,int i64 r],int i64 n] w fun e w'=>e=.returned (.bool (isM P r f n))∧zc [] w w':=by
 have ka:=zc.alloc [] w (.cells #[int i64 1,int i64 r] 52);have hq:=zh w (.cells #[int i64 1,int i64 r] 52);have h':=PrC.stays _ _ _ _ _ ka h;obtain ⟨fa,fp,c4,fr,_⟩:=h'.c4;obtain ⟨sa,sp,c1,sr,_⟩:=h'.c1;obtain ⟨res,hres⟩:∃ x,x=isM P r f n:=⟨_,rfl⟩;rw[← hres];unfold isM at hres;have HRES:=hid hres;have KA:=hid ka;have HFR:=hid fr;have HSR:=hid sr;clear h h' ka hres fr sr;have q0:=zd hq 0;have q1:=zd hq 1;obtain ⟨FN,hFN⟩:∃ x,x=P.funcs.length:=⟨_,rfl⟩;obtain ⟨SN,hSN⟩:∃ x,x=P.sigs.length:=⟨_,rfl⟩;rw[← hFN] at c4 HRES;rw[← hSN] at c1 HRES;have HFN:=hid hFN;have HSN:=hid hSN;clear hFN hSN hq;obtain ⟨W,hW⟩:∃ W,W=w.alloc (.cells #[int i64 1,int i64 r] 52):=⟨_,rfl⟩;have HW:=hid hW;rw[← hW] at c4 c1 q0 q1 KA HFR HSR;clear hW;go_enter Tryz.func195,Tryz.ntmps195;go_upto_region 1 with fail;rw[← HW.o];clear HW;generalize w.heap.size=q at *;cases hf:inB f FN with
 | false=>
  have HR:Box (res=false):=hid (by rw[HRES.o,hf];rfl);refine zm (W0:=W) 104 [int i64 f,pointer (some ⟨pb,po,none⟩),pointer (some ⟨pb,po,none⟩),pointer (some ⟨pb,po+4,none⟩),.slice fa FN fp,int i64 (FN:Int),.bool false,.bool true,.bool true,undef,undef,undef,undef,undef,undef,undef,undef,undef,undef,undef,undef,undef,undef,undef,.bool true,.bool true,undef,undef,undef,undef,undef,undef,undef,undef,.bool true] (by kernel_rfl) (by rfl) (by kernel_rfl) (zc.refl _ _) (fun A hA=> ?_);simp only[zv,Act.put,sTA,sC0,sCS] at hA;subst hA;refine ⟨gR (gR (gR (gR (gY (fun _ k9=>ja (za k9 c4) rfl rfl) (gY (fun _ _=>JI rfl rfl) (zk.cons (zn (by rfl) 194 #[int i64 f,int i64 (FN:Int)] (fun w=>qq rfl rfl rfl rfl (qk _ _ w)) (fun w9 _=>qh f FN w9 hf)) (gY (fun _ _=>J4 rfl rfl) (gR (gP (gP (gP (gP (gP (gP (gP (gP (gP (gP (gP (gP (gP (gP (gP (gR (gR (gP (gP (gP (gP (gP (gP (gP (gP (gR (zk.nil))))))))))))))))))))))))))))))))))),fun w8 k8=> ?_⟩;go_wp2_with fail;go_ret;exact ⟨by rw[HR.o];rfl,KA.o.quiet k8⟩
 | true=>
 obtain ⟨f0,f1⟩:=zt.1 hf;obtain ⟨K,rfl⟩:∃ K:Nat,f=(K:Int):=⟨f.toNat,by omega⟩;have eK:((K:Int)).toNat=K:=by omega
 rw[hf,Bool.true_and,eK] at HRES;have hlt_K:(K:Int)<(FN:Int):=f1;obtain ⟨fb,fo,rfl,hfu⟩:=HFR.o.at (zg (l:=P.funcs) (k:=K) (d:=⟨0,[],[]⟩) (by rw[← HFN.o];omega));have g0:W.cell? ⟨fb,fo+K * 3,none⟩=some (int i64 (zf P K).sig):=hfu.c0.1;clear hfu f0 eK HFN HFR;obtain ⟨sn,hsn⟩:∃ x,x=(zf P K).sig:=⟨_,rfl⟩;rw[← hsn] at g0 HRES;clear hsn;cases hs:inB sn SN with
 | false=>
  have HR:Box (res=false):=hid (by rw[HRES.o,hs];rfl);refine zm (W0:=W) 104 [int i64 (K:Int),pointer (some ⟨pb,po,none⟩),pointer (some ⟨pb,po,none⟩),pointer (some ⟨pb,po+4,none⟩),.slice (some ⟨fb,fo,none⟩) FN fp,int i64 (FN:Int),.bool true,.bool false,.bool false,pointer (some ⟨pb,po,none⟩),pointer (some ⟨pb,po,none⟩),pointer (some ⟨pb,po+4,none⟩),.slice (some ⟨fb,fo,none⟩) FN fp,int i64 (K:Int),pointer (some ⟨fb,fo+K * 3,none⟩),pointer (some ⟨fb,fo+K * 3,none⟩),int i64 sn,pointer (some ⟨pb,po,none⟩),pointer (some ⟨pb,po,none⟩),pointer (some ⟨pb,po+1,none⟩),.slice sa SN sp,int i64 (SN:Int),.bool false,.bool true,.bool true,.bool true,undef,undef,undef,undef,undef,undef,undef,undef,.bool true] (by kernel_rfl) (by rfl) (by kernel_rfl) (zc.refl _ _) (fun A hA=> ?_);simp only[zv,Act.put,sTA,sC0,sCS] at hA;subst hA;refine ⟨gR (gR (gR (gR (gY (fun _ k9=>ja (za k9 c4) rfl rfl) (gY (fun _ _=>JI rfl rfl) (zk.cons (zn (by rfl) 194 #[int i64 (K:Int),int i64 (FN:Int)] (fun w=>qq rfl rfl rfl rfl (qk _ _ w)) (fun w9 _=>qh (K:Int) FN w9 hf)) (gY (fun _ _=>J4 rfl rfl) (gR (gR (gR (gR (gY (fun _ k9=>ja (za k9 c4) rfl rfl) (gR (gY (fun _ _=>jO rfl rfl rfl hlt_K) (gR (gY (fun _ k9=>zI (za k9 g0) rfl rfl) (gR (gR (gR (gY (fun _ k9=>q7 (za k9 c1) rfl rfl) (gY (fun _ _=>ZQ rfl rfl) (zk.cons (zn (by rfl) 194 #[int i64 sn,int i64 (SN:Int)] (fun w=>qq rfl rfl rfl rfl (qk _ _ w)) (fun w9 _=>qh sn SN w9 hs)) (gY (fun _ _=>J4 rfl rfl) (gR (gR (gP (gP (gP (gP (gP (gP (gP (gP (gR (zk.nil))))))))))))))))))))))))))))))))))),fun w8 k8=> ?_⟩;go_wp2_with fail;go_ret;exact ⟨by rw[HR.o];rfl,KA.o.quiet k8⟩
 | true=>
 obtain ⟨s0,s1⟩:=zt.1 hs;obtain ⟨J,rfl⟩:∃ J:Nat,sn=(J:Int):=⟨sn.toNat,by omega⟩;rw[hs,Bool.true_and] at HRES;have hlt_J:(J:Int)<(SN:Int):=s1;cases hn:inB n SN with
 | false=>
  have HR:Box (res=false):=hid (by rw[HRES.o,hn];rfl);refine zm (W0:=W) 104 [int i64 (K:Int),pointer (some ⟨pb,po,none⟩),pointer (some ⟨pb,po,none⟩),pointer (some ⟨pb,po+4,none⟩),.slice (some ⟨fb,fo,none⟩) FN fp,int i64 (FN:Int),.bool true,.bool false,.bool false,pointer (some ⟨pb,po,none⟩),pointer (some ⟨pb,po,none⟩),pointer (some ⟨pb,po+4,none⟩),.slice (some ⟨fb,fo,none⟩) FN fp,int i64 (K:Int),pointer (some ⟨fb,fo+K * 3,none⟩),pointer (some ⟨fb,fo+K * 3,none⟩),int i64 (J:Int),pointer (some ⟨pb,po,none⟩),pointer (some ⟨pb,po,none⟩),pointer (some ⟨pb,po+1,none⟩),.slice sa SN sp,int i64 (SN:Int),.bool true,.bool false,.bool false,.bool false,int i64 n,pointer (some ⟨pb,po,none⟩),pointer (some ⟨pb,po,none⟩),pointer (some ⟨pb,po+1,none⟩),.slice sa SN sp,int i64 (SN:Int),.bool false,.bool true,.bool true] (by kernel_rfl) (by rfl) (by kernel_rfl) (zc.refl _ _) (fun A hA=> ?_);simp only[zv,Act.put,sTA,sC0,sCS] at hA;subst hA;refine ⟨gR (gR (gR (gR (gY (fun _ k9=>ja (za k9 c4) rfl rfl) (gY (fun _ _=>JI rfl rfl) (zk.cons (zn (by rfl) 194 #[int i64 (K:Int),int i64 (FN:Int)] (fun w=>qq rfl rfl rfl rfl (qk _ _ w)) (fun w9 _=>qh (K:Int) FN w9 hf)) (gY (fun _ _=>J4 rfl rfl) (gR (gR (gR (gR (gY (fun _ k9=>ja (za k9 c4) rfl rfl) (gR (gY (fun _ _=>jO rfl rfl rfl hlt_K) (gR (gY (fun _ k9=>zI (za k9 g0) rfl rfl) (gR (gR (gR (gY (fun _ k9=>q7 (za k9 c1) rfl rfl) (gY (fun _ _=>ZQ rfl rfl) (zk.cons (zn (by rfl) 194 #[int i64 (J:Int),int i64 (SN:Int)] (fun w=>qq rfl rfl rfl rfl (qk _ _ w)) (fun w9 _=>qh (J:Int) SN w9 hs)) (gY (fun _ _=>J4 rfl rfl) (gR (gR (gR (gR (gR (gR (gY (fun _ k9=>q7 (za k9 c1) rfl rfl) (gY (fun _ _=>ZQ rfl rfl) (zk.cons (zn (by rfl) 194 #[int i64 n,int i64 (SN:Int)] (fun w=>qq rfl rfl rfl rfl (qk _ _ w)) (fun w9 _=>qh n SN w9 hn)) (gY (fun _ _=>J4 rfl rfl) (gR (zk.nil))))))))))))))))))))))))))))))))))),fun w8 k8=> ?_⟩;go_wp2_with fail;go_ret;exact ⟨by rw[HR.o];rfl,KA.o.quiet k8⟩
 | true=>
 obtain ⟨n0,n1⟩:=zt.1 hn;obtain ⟨I,rfl⟩:∃ I:Nat,n=(I:Int):=⟨n.toNat,by omega⟩;rw[hn,Bool.true_and] at HRES;have hlt_I:(I:Int)<(SN:Int):=n1;obtain ⟨sb,so,rfl,h1⟩:=HSR.o.at (zg (l:=P.sigs) (k:=J) (d:=([],0,0)) (by rw[← HSN.o];omega));obtain ⟨sb',so',e2,h2⟩:=HSR.o.at (zg (l:=P.sigs) (k:=I) (d:=([],0,0)) (by rw[← HSN.o];omega));cases e2;have HRES2:Box (res=mtB r (P.sigs.getD J ([],0,0)) (P.sigs.getD I ([],0,0))):=hid (by rw[HRES.o];unfold Jd;rw[Int.toNat_natCast,Int.toNat_natCast]);clear HRES HSR HSN s0 n0;generalize P.sigs.getD J ([],0,0)=A1 at *;generalize P.sigs.getD I ([],0,0)=A2 at *;obtain ⟨l1,y1,z1⟩:=A1;obtain ⟨l2,y2,z2⟩:=A2;obtain ⟨ta,tp,tc,tr,tl,tm⟩:=h1.c0;obtain ⟨ua,up,uc,ur,_⟩:=h2.c0;have a1:=h1.c1.1;have a2:=h1.c2.1;have b1:=h2.c1.1;have b2:=h2.c2.1;simp only at tc tr tl tm uc ur a1 a2 b1 b2;have HTR:=hid tr;have HUR:=hid ur;have HTL:=hid (And.intro tl tm);clear h1 h2 tr ur tl tm;refine zm (W0:=W) 104 [int i64 (K:Int),pointer (some ⟨pb,po,none⟩),pointer (some ⟨pb,po,none⟩),pointer (some ⟨pb,po+4,none⟩),.slice (some ⟨fb,fo,none⟩) FN fp,int i64 (FN:Int),.bool true,.bool false,.bool false,pointer (some ⟨pb,po,none⟩),pointer (some ⟨pb,po,none⟩),pointer (some ⟨pb,po+4,none⟩),.slice (some ⟨fb,fo,none⟩) FN fp,int i64 (K:Int),pointer (some ⟨fb,fo+K * 3,none⟩),pointer (some ⟨fb,fo+K * 3,none⟩),int i64 (J:Int),pointer (some ⟨pb,po,none⟩),pointer (some ⟨pb,po,none⟩),pointer (some ⟨pb,po+1,none⟩),.slice (some ⟨sb,so,none⟩) SN sp,int i64 (SN:Int),.bool true,.bool false,.bool false,.bool false,int i64 (I:Int),pointer (some ⟨pb,po,none⟩),pointer (some ⟨pb,po,none⟩),pointer (some ⟨pb,po+1,none⟩),.slice (some ⟨sb,so,none⟩) SN sp,int i64 (SN:Int),.bool true,.bool false,.bool false] (by kernel_rfl) (by rfl) (by kernel_rfl) (zc.refl _ _) (fun A hA=> ?_);simp only[zv,Act.put,sTA,sC0,sCS] at hA;subst hA;refine ⟨gR (gR (gR (gR (gY (fun _ k9=>ja (za k9 c4) rfl rfl) (gY (fun _ _=>JI rfl rfl) (zk.cons (zn (by rfl) 194 #[int i64 (K:Int),int i64 (FN:Int)] (fun w=>qq rfl rfl rfl rfl (qk _ _ w)) (fun w9 _=>qh (K:Int) FN w9 hf)) (gY (fun _ _=>J4 rfl rfl) (gR (gR (gR (gR (gY (fun _ k9=>ja (za k9 c4) rfl rfl) (gR (gY (fun _ _=>jO rfl rfl rfl hlt_K) (gR (gY (fun _ k9=>zI (za k9 g0) rfl rfl) (gR (gR (gR (gY (fun _ k9=>q7 (za k9 c1) rfl rfl) (gY (fun _ _=>ZQ rfl rfl) (zk.cons (zn (by rfl) 194 #[int i64 (J:Int),int i64 (SN:Int)] (fun w=>qq rfl rfl rfl rfl (qk _ _ w)) (fun w9 _=>qh (J:Int) SN w9 hs)) (gY (fun _ _=>J4 rfl rfl) (gR (gR (gR (gR (gR (gR (gY (fun _ k9=>q7 (za k9 c1) rfl rfl) (gY (fun _ _=>ZQ rfl rfl) (zk.cons (zn (by rfl) 194 #[int i64 (I:Int),int i64 (SN:Int)] (fun w=>qq rfl rfl rfl rfl (qk _ _ w)) (fun w9 _=>qh (I:Int) SN w9 hn)) (gY (fun _ _=>J4 rfl rfl) (gR (zk.nil))))))))))))))))))))))))))))))))))),fun w3 k3=> ?_⟩;have KZ:=hid (KA.o.quiet k3);have K3:=hid k3;replace c4:=za k3 c4;replace c1:=za k3 c1;replace g0:=za k3 g0;replace q0:=za k3 q0;replace q1:=za k3 q1;replace tc:=za k3 tc;replace uc:=za k3 uc;replace a1:=za k3 a1;replace a2:=za k3 a2;replace b1:=za k3 b1
 replace b2:=za k3 b2;clear k3;go_upto_region 3 with fail;refine zm (W0:=w3) 104 [pointer (some ⟨pb,po,none⟩),pointer (some ⟨pb,po,none⟩),pointer (some ⟨pb,po+1,none⟩),.slice (some ⟨sb,so,none⟩) SN sp,pointer (some ⟨pb,po,none⟩),pointer (some ⟨pb,po,none⟩),pointer (some ⟨pb,po+4,none⟩),.slice (some ⟨fb,fo,none⟩) FN fp,int i64 (K:Int),pointer (some ⟨fb,fo+K * 3,none⟩),pointer (some ⟨fb,fo+K * 3,none⟩),int i64 (J:Int),pointer (some ⟨sb,so+J * 3,none⟩),pointer (some ⟨pb,po,none⟩),pointer (some ⟨pb,po,none⟩),pointer (some ⟨pb,po+1,none⟩),.slice (some ⟨sb,so,none⟩) SN sp,int i64 (I:Int),pointer (some ⟨sb,so+I * 3,none⟩),pointer (some ⟨sb,so+J * 3,none⟩),pointer (some ⟨sb,so+I * 3,none⟩)] (by kernel_rfl) (by rfl) (by kernel_rfl) (zc.refl _ _) (fun A hA=> ?_);simp only[zv,Act.put,sTA,sC0,sCS] at hA;subst hA;refine ⟨gR (gR (gR (gY (fun _ k9=>q7 (za k9 c1) rfl rfl) (gR (gR (gR (gY (fun _ k9=>ja (za k9 c4) rfl rfl) (gR (gY (fun _ _=>jO rfl rfl rfl hlt_K) (gR (gY (fun _ k9=>zI (za k9 g0) rfl rfl) (gY (fun _ _=>jH rfl rfl rfl hlt_J) (gR (gR (gR (gY (fun _ k9=>q7 (za k9 c1) rfl rfl) (gR (gY (fun _ _=>jH rfl rfl rfl hlt_I) (gR (gR (zk.nil))))))))))))))))))))),fun w4 k4=> ?_⟩;have KY:=hid (KZ.o.quiet k4);have K4:=hid (K3.o.quiet k4);replace q0:=za k4 q0;replace q1:=za k4 q1;replace tc:=za k4 tc;replace uc:=za k4 uc;replace a1:=za k4 a1;replace a2:=za k4 a2;replace b1:=za k4 b1;replace b2:=za k4 b2;clear k4 c4 c1 g0 K3 KZ;go_upto_region 4 with fail;cases l1 with
 | nil=>
  have HR:Box (res=false):=hid (by rw[HRES2.o];unfold mtB;simp);clear HRES2;obtain ⟨Z,hZ⟩:∃ Z:Nat,Z=0:=⟨_,rfl⟩;rw[List.length_nil, ← hZ] at tc;have hz:decide ((0:Int)<(Z:Int))=false:=by rw[hZ];decide
  clear hZ;refine zm (W0:=w4) 104 [pointer (some ⟨sb,so+J * 3,none⟩),pointer (some ⟨sb,so+J * 3,none⟩),pointer (some ⟨sb,so+J * 3,none⟩),.slice ta Z tp,int i64 (Z:Int),.bool false,.bool false,undef,undef,undef,undef,undef,undef,undef,undef,.bool false,.bool false,undef,undef,undef,undef,undef,undef,undef,undef,undef,undef,.bool false,.bool false,undef,undef,undef,undef,undef,undef,undef,undef,undef,.bool false,.bool false] (by kernel_rfl) (by rfl) (by kernel_rfl) (zc.refl _ _) (fun A hA=> ?_);simp only[zv,Act.put,sTA,sC0,sCS] at hA;subst hA;refine ⟨gR (gR (gR (gY (fun _ k9=>zH (za k9 tc) rfl rfl) (gY (fun _ _=>qy rfl rfl) (gY (fun _ _=>zd7 rfl rfl rfl hz) (gR (gP (gP (gP (gP (gP (gP (gP (gP (gR (gR (gP (gP (gP (gP (gP (gP (gP (gP (gP (gP (gR (gR (gP (gP (gP (gP (gP (gP (gP (gP (gP (gR (gR (zk.nil)))))))))))))))))))))))))))))))))))))))),fun w8 k8=> ?_⟩;go_wp2_with fail;go_ret;exact ⟨by rw[HR.o];rfl,KY.o.quiet k8⟩
 | cons x l=>
 obtain ⟨L,hL⟩:∃ L,L=l.length:=⟨_,rfl⟩;have HL:=hid hL;rw[List.length_cons, ← hL] at tc;have htl:=HTL.o.1;rw[List.length_cons, ← hL] at htl;obtain ⟨C,hC⟩:∃ C,tp=C+1:=⟨tp - 1,by omega⟩;have hLC:l.length≤C:=by omega
 clear hL htl;have hpos:decide ((0:Int)<((L+1:Nat):Int))=true:=decide_eq_true (by omega);obtain ⟨tb,tq,rfl,tx⟩:=HTR.o.at (j:=0) (y:=x) rfl;obtain ⟨ad,had⟩:∃ ad:Option Addr,ad=if C=0 then some ⟨tb,tq,none⟩ else some ⟨tb,tq+2,none⟩:=⟨_,rfl⟩
 have x0:=za K4.o tx.c0.1;have x1:=za K4.o tx.c1.1;rw[Nat.zero_mul,Nat.add_zero] at x0 x1;clear tx;obtain ⟨x0v,x1v⟩:=x;simp only at x0 x1;have hl0:(0:Int)<((L+1:Nat):Int):=by omega
 obtain ⟨M,hM⟩:∃ M,M=L+1:=⟨_,rfl⟩;rw[← hM] at tc hpos hl0;have HM:=hid hM;cases hx:tyE (x0v,x1v) (1,r) with
 | false=>
  have HR:Box (res=false):=hid (by
   rw[HRES2.o];unfold mtB;rw[Bool.and_eq_false_iff];left;rw[decide_eq_false_iff_not];intro e;have:=(List.cons.inj e).1;rw[zjj.2 this] at hx
   cases hx)
  clear HRES2;refine zm (W0:=w4) 104 [pointer (some ⟨sb,so+J * 3,none⟩),pointer (some ⟨sb,so+J * 3,none⟩),pointer (some ⟨sb,so+J * 3,none⟩),.slice (some ⟨tb,tq,none⟩) M tp,int i64 (M:Int),.bool true,.bool true,pointer (some ⟨sb,so+J * 3,none⟩),pointer (some ⟨sb,so+J * 3,none⟩),pointer (some ⟨sb,so+J * 3,none⟩),.slice (some ⟨tb,tq,none⟩) M tp,pointer (some ⟨tb,tq,none⟩),agg #[int i64 x0v,int i64 x1v],agg #[int i64 1,int i64 r],.bool false,.bool false,.bool false,undef,undef,undef,undef,undef,undef,undef,undef,undef,undef,.bool false,.bool false,undef,undef,undef,undef,undef,undef,undef,undef,undef,.bool false,.bool false] (by kernel_rfl) (by rfl) (by kernel_rfl) (zc.refl _ _) (fun A hA=> ?_);simp only[zv,Act.put,sTA,sC0,sCS] at hA;subst hA;refine ⟨gR (gR (gR (gY (fun _ k9=>zH (za k9 tc) rfl rfl) (gY (fun _ _=>qy rfl rfl) (gY (fun _ _=>zd7 rfl rfl rfl hpos) (gR (gR (gR (gR (gY (fun _ k9=>zH (za k9 tc) rfl rfl) (gY (fun _ _=>zlu rfl rfl rfl hl0) (gY (fun _ k9=>zZ (za k9 x0) (za k9 x1) rfl rfl) (gY (fun _ k9=>zZ (za k9 q0) (za k9 q1) rfl rfl) (gY (fun _ _=>zif rfl rfl rfl hx) (gR (gR (gP (gP (gP (gP (gP (gP (gP (gP (gP (gP (gR (gR (gP (gP (gP (gP (gP (gP (gP (gP (gP (gR (gR (zk.nil)))))))))))))))))))))))))))))))))))))))),fun w8 k8=> ?_⟩;go_wp2_with fail;go_ret;exact ⟨by rw[HR.o];rfl,KY.o.quiet k8⟩
 | true=>
 have HXE:=hid (zjj.1 hx);have hul:=uc;cases he:decide (l=l2) with
 | false=>
  have HR:Box (res=false):=hid (by
   rw[HRES2.o];unfold mtB;rw[Bool.and_eq_false_iff];left;rw[decide_eq_false_iff_not] at he ⊢
   exact fun e=>he (List.cons.inj e).2)
  clear HRES2;have HSQ:=hid fun (w9:World) (k9:zc [] w4 w9)=>zm1 (z7.quiet (zbB HTR.o had hLC) TyC.stays (K4.o.quiet k9)) (z7.quiet HUR.o TyC.stays (K4.o.quiet k9)) C up (by have:=HTL.o.2;simp at this;omega) he HL.o rfl;refine zm (W0:=w4) 104 [pointer (some ⟨sb,so+J * 3,none⟩),pointer (some ⟨sb,so+J * 3,none⟩),pointer (some ⟨sb,so+J * 3,none⟩),.slice (some ⟨tb,tq,none⟩) M tp,int i64 (M:Int),.bool true,.bool true,pointer (some ⟨sb,so+J * 3,none⟩),pointer (some ⟨sb,so+J * 3,none⟩),pointer (some ⟨sb,so+J * 3,none⟩),.slice (some ⟨tb,tq,none⟩) M tp,pointer (some ⟨tb,tq,none⟩),agg #[int i64 x0v,int i64 x1v],agg #[int i64 1,int i64 r],.bool true,.bool true,.bool true,pointer (some ⟨sb,so+J * 3,none⟩),pointer (some ⟨sb,so+J * 3,none⟩),pointer (some ⟨sb,so+J * 3,none⟩),.slice (some ⟨tb,tq,none⟩) M tp,.slice ad L C,pointer (some ⟨sb,so+I * 3,none⟩),pointer (some ⟨sb,so+I * 3,none⟩),pointer (some ⟨sb,so+I * 3,none⟩),.slice ua l2.length up,.bool false,.bool false,.bool false,undef,undef,undef,undef,undef,undef,undef,undef,undef,.bool false,.bool false] (by kernel_rfl) (by rfl) (by kernel_rfl) (zc.refl _ _) (fun A hA=> ?_);simp only[zv,Act.put,sTA,sC0,sCS] at hA;subst hA;refine ⟨gR (gR (gR (gY (fun _ k9=>zH (za k9 tc) rfl rfl) (gY (fun _ _=>qy rfl rfl) (gY (fun _ _=>zd7 rfl rfl rfl hpos) (gR (gR (gR (gR (gY (fun _ k9=>zH (za k9 tc) rfl rfl) (gY (fun _ _=>zlu rfl rfl rfl hl0) (gY (fun _ k9=>zZ (za k9 x0) (za k9 x1) rfl rfl) (gY (fun _ k9=>zZ (za k9 q0) (za k9 q1) rfl rfl) (gY (fun _ _=>zif rfl rfl rfl hx) (gR (gR (gR (gR (gR (gY (fun _ k9=>zH (za k9 tc) rfl rfl) (gY (fun _ _=>znO rfl rfl rfl hM hC had) (gR (gR (gR (gY (fun _ k9=>zH (za k9 uc) rfl rfl) (zk.cons (zn (by rfl) 239 #[.slice ad L C,.slice ua l2.length up] (fun w=>qq rfl rfl rfl rfl (zbP _ _ w)) (fun w9 k9=>HSQ.o w9 k9)) (gR (gR (gP (gP (gP (gP (gP (gP (gP (gP (gP (gR (gR (zk.nil)))))))))))))))))))))))))))))))))))))))),fun w8 k8=> ?_⟩;clear had;go_wp2_with fail;go_ret;exact ⟨by rw[HR.o];rfl,KY.o.quiet k8⟩
 | true=>
  have HSQ:=hid fun (w9:World) (k9:zc [] w4 w9)=>zm1 (z7.quiet (zbB HTR.o had hLC) TyC.stays (K4.o.quiet k9)) (z7.quiet HUR.o TyC.stays (K4.o.quiet k9)) C up (by have:=HTL.o.2;simp at this;omega) he HL.o rfl
  have HR:Box (res=tyE (y1,z1) (y2,z2)):=hid (by
   rw[HRES2.o];unfold mtB;rw[decide_eq_true_eq] at he;rw[HXE.o,he]
   simp)
  clear HRES2;refine zm (W0:=w4) 104 [pointer (some ⟨sb,so+J * 3,none⟩),pointer (some ⟨sb,so+J * 3,none⟩),pointer (some ⟨sb,so+J * 3,none⟩),.slice (some ⟨tb,tq,none⟩) M tp,int i64 (M:Int),.bool true,.bool true,pointer (some ⟨sb,so+J * 3,none⟩),pointer (some ⟨sb,so+J * 3,none⟩),pointer (some ⟨sb,so+J * 3,none⟩),.slice (some ⟨tb,tq,none⟩) M tp,pointer (some ⟨tb,tq,none⟩),agg #[int i64 x0v,int i64 x1v],agg #[int i64 1,int i64 r],.bool true,.bool true,.bool true,pointer (some ⟨sb,so+J * 3,none⟩),pointer (some ⟨sb,so+J * 3,none⟩),pointer (some ⟨sb,so+J * 3,none⟩),.slice (some ⟨tb,tq,none⟩) M tp,.slice ad L C,pointer (some ⟨sb,so+I * 3,none⟩),pointer (some ⟨sb,so+I * 3,none⟩),pointer (some ⟨sb,so+I * 3,none⟩),.slice ua l2.length up,.bool true,.bool true,.bool true,pointer (some ⟨sb,so+J * 3,none⟩),pointer (some ⟨sb,so+J * 3,none⟩),pointer (some ⟨sb,so+J * 3+1,none⟩),agg #[int i64 y1,int i64 z1],pointer (some ⟨sb,so+I * 3,none⟩),pointer (some ⟨sb,so+I * 3,none⟩),pointer (some ⟨sb,so+I * 3+1,none⟩),agg #[int i64 y2,int i64 z2],.bool (tyE (y1,z1) (y2,z2)),.bool (tyE (y1,z1) (y2,z2)),.bool (tyE (y1,z1) (y2,z2))] (by kernel_rfl) (by rfl) (by kernel_rfl) (zc.refl _ _) (fun A hA=> ?_);simp only[zv,Act.put,sTA,sC0,sCS] at hA;subst hA;refine ⟨gR (gR (gR (gY (fun _ k9=>zH (za k9 tc) rfl rfl) (gY (fun _ _=>qy rfl rfl) (gY (fun _ _=>zd7 rfl rfl rfl hpos) (gR (gR (gR (gR (gY (fun _ k9=>zH (za k9 tc) rfl rfl) (gY (fun _ _=>zlu rfl rfl rfl hl0) (gY (fun _ k9=>zZ (za k9 x0) (za k9 x1) rfl rfl) (gY (fun _ k9=>zZ (za k9 q0) (za k9 q1) rfl rfl) (gY (fun _ _=>zif rfl rfl rfl hx) (gR (gR (gR (gR (gR (gY (fun _ k9=>zH (za k9 tc) rfl rfl) (gY (fun _ _=>znO rfl rfl rfl hM hC had) (gR (gR (gR (gY (fun _ k9=>zH (za k9 uc) rfl rfl) (zk.cons (zn (by rfl) 239 #[.slice ad L C,.slice ua l2.length up] (fun w=>qq rfl rfl rfl rfl (zbP _ _ w)) (fun w9 k9=>HSQ.o w9 k9)) (gR (gR (gR (gR (gR (gY (fun _ k9=>zZ (za k9 a1) (za k9 a2) rfl rfl) (gR (gR (gR (gY (fun _ k9=>zZ (za k9 b1) (za k9 b2) rfl rfl) (gY (fun _ _=>zif rfl rfl rfl rfl) (gR (gR (zk.nil)))))))))))))))))))))))))))))))))))))))),fun w8 k8=> ?_⟩;clear had;go_wp2_with fail;go_ret;exact ⟨by rw[HR.o];rfl,KY.o.quiet k8⟩
theorem zgg(v u t s:Value)(w:World):(callFunc 195 #[v,u,t,s]).run Tryz.prog w=.ok (.enter 195 #[v,u,t,s]) w:=by go_simp
theorem zk9{k:Nat}{g:Nat→Bool}(hk:k<n)(h:g k=false):(List.range n).all g=false:=List.all_eq_false.2 ⟨k,List.mem_range.2 hk,by rw[h];simp⟩
theorem zk3{mb mo:Nat}{m:Int × Int × List Int}(h:PrC w pb po P)(hm:ImC w mb mo m):Calls Tryz.prog 126 #[pointer (some ⟨pb,po,none⟩),pointer (some ⟨mb,mo,none⟩)] w fun e w'=>e=.returned (.bool (zai P m))∧zc [] w w':=by
 obtain ⟨rec,ifc,fs⟩:=m;obtain ⟨ra,rp,c0,_⟩:=h.c0;obtain ⟨ia,ip,c2,ir,_⟩:=h.c2;have m0:=hm.c0.1;have m1:=hm.c1.1;obtain ⟨fa,fp,m2,fr,fl,fx⟩:=hm.c2;simp only at m0 m1 m2 fr fl fx;obtain ⟨res,hres⟩:∃ x,x=zai P (rec,ifc,fs):=⟨_,rfl⟩;rw[← hres];unfold zai at hres;simp only at hres;have HRES:=hid hres;have HP:=hid h;have HIR:=hid ir;have HFR:=hid fr;have HFX:=hid fx;clear h hm hres ir fr fl fx;obtain ⟨RN,hRN⟩:∃ x,x=P.recs.length:=⟨_,rfl⟩;obtain ⟨IN,hIN⟩:∃ x,x=P.ifs.length:=⟨_,rfl⟩;obtain ⟨N,hN⟩:∃ x,x=fs.length:=⟨_,rfl⟩;rw[← hRN] at c0 HRES;rw[← hIN] at c2 HRES;rw[← hN] at m2 HRES HFX;have HIN:=hid hIN;have HN:=hid hN;clear hRN hIN hN;go_enter Tryz.func126,Tryz.ntmps126;go_upto_region 1 with fail;cases hr:inB rec RN with
 | false=>
  have HR:Box (res=false):=hid (by rw[HRES.o,hr];rfl);refine zm (W0:=w) 77 [pointer (some ⟨mb,mo,none⟩),pointer (some ⟨mb,mo,none⟩),pointer (some ⟨mb,mo,none⟩),int i64 rec,pointer (some ⟨pb,po,none⟩),pointer (some ⟨pb,po,none⟩),pointer (some ⟨pb,po,none⟩),.slice ra RN rp,int i64 (RN:Int),.bool false,.bool true,.bool true,undef,undef,undef,undef,undef,undef,undef,undef,undef,undef,undef,.bool true] (by kernel_rfl) (by rfl) (by kernel_rfl) (zc.refl _ _) (fun A hA=> ?_);simp only[zv,Act.put,sTA,sC0,sCS] at hA;subst hA;refine ⟨gR (gR (gR (gY (fun _ k9=>zI (za k9 m0) rfl rfl) (gR (gR (gR (gY (fun _ k9=>zbp (za k9 c0) rfl rfl) (gY (fun _ _=>JS rfl rfl) (zk.cons (zn (by rfl) 194 #[int i64 rec,int i64 (RN:Int)] (fun w=>qq rfl rfl rfl rfl (qk _ _ w)) (fun w9 _=>qh rec RN w9 hr)) (gY (fun _ _=>J4 rfl rfl) (gR (gP (gP (gP (gP (gP (gP (gP (gP (gP (gP (gP (gR (zk.nil)))))))))))))))))))))))),fun w8 k8=> ?_⟩;go_wp2_with fail;go_ret;exact ⟨by rw[HR.o];rfl,k8⟩
 | true=>
 rw[hr,Bool.true_and] at HRES;cases hi:inB ifc IN with
 | false=>
  have HR:Box (res=false):=hid (by rw[HRES.o,hi];rfl);refine zm (W0:=w) 77 [pointer (some ⟨mb,mo,none⟩),pointer (some ⟨mb,mo,none⟩),pointer (some ⟨mb,mo,none⟩),int i64 rec,pointer (some ⟨pb,po,none⟩),pointer (some ⟨pb,po,none⟩),pointer (some ⟨pb,po,none⟩),.slice ra RN rp,int i64 (RN:Int),.bool true,.bool false,.bool false,pointer (some ⟨mb,mo,none⟩),pointer (some ⟨mb,mo,none⟩),pointer (some ⟨mb,mo+1,none⟩),int i64 ifc,pointer (some ⟨pb,po,none⟩),pointer (some ⟨pb,po,none⟩),pointer (some ⟨pb,po+2,none⟩),.slice ia IN ip,int i64 (IN:Int),.bool false,.bool true,.bool true] (by kernel_rfl) (by rfl) (by kernel_rfl) (zc.refl _ _) (fun A hA=> ?_);simp only[zv,Act.put,sTA,sC0,sCS] at hA;subst hA;refine ⟨gR (gR (gR (gY (fun _ k9=>zI (za k9 m0) rfl rfl) (gR (gR (gR (gY (fun _ k9=>zbp (za k9 c0) rfl rfl) (gY (fun _ _=>JS rfl rfl) (zk.cons (zn (by rfl) 194 #[int i64 rec,int i64 (RN:Int)] (fun w=>qq rfl rfl rfl rfl (qk _ _ w)) (fun w9 _=>qh rec RN w9 hr)) (gY (fun _ _=>J4 rfl rfl) (gR (gR (gR (gR (gY (fun _ k9=>zI (za k9 m1) rfl rfl) (gR (gR (gR (gY (fun _ k9=>zaO (za k9 c2) rfl rfl) (gY (fun _ _=>zdI rfl rfl) (zk.cons (zn (by rfl) 194 #[int i64 ifc,int i64 (IN:Int)] (fun w=>qq rfl rfl rfl rfl (qk _ _ w)) (fun w9 _=>qh ifc IN w9 hi)) (gY (fun _ _=>J4 rfl rfl) (gR (zk.nil)))))))))))))))))))))))),fun w8 k8=> ?_⟩;go_wp2_with fail;go_ret;exact ⟨by rw[HR.o];rfl,k8⟩
 | true=>
 rw[hi,Bool.true_and] at HRES;obtain ⟨i0,i1⟩:=zt.1 hi;obtain ⟨J,rfl⟩:∃ J:Nat,ifc=(J:Int):=⟨ifc.toNat,by omega⟩;have hlt_J:(J:Int)<(IN:Int):=i1;obtain ⟨ib,io,rfl,h1⟩:=HIR.o.at (zg (l:=P.ifs) (k:=J) (d:=[]) (by rw[← HIN.o];omega));obtain ⟨ga,gp,g0,gr,_⟩:=h1;have HGR:=hid gr;unfold if8 at HRES;rw[Int.toNat_natCast] at HRES;rw[Nat.mul_one] at g0;clear gr i0 HIR HIN;generalize P.ifs.getD J []=ms at *;obtain ⟨M,hM⟩:∃ x,x=ms.length:=⟨_,rfl⟩;rw[← hM] at g0 HRES;have HM:=hid hM;clear hM;refine zm (W0:=w) 77 [pointer (some ⟨mb,mo,none⟩),pointer (some ⟨mb,mo,none⟩),pointer (some ⟨mb,mo,none⟩),int i64 rec,pointer (some ⟨pb,po,none⟩),pointer (some ⟨pb,po,none⟩),pointer (some ⟨pb,po,none⟩),.slice ra RN rp,int i64 (RN:Int),.bool true,.bool false,.bool false,pointer (some ⟨mb,mo,none⟩),pointer (some ⟨mb,mo,none⟩),pointer (some ⟨mb,mo+1,none⟩),int i64 (J:Int),pointer (some ⟨pb,po,none⟩),pointer (some ⟨pb,po,none⟩),pointer (some ⟨pb,po+2,none⟩),.slice (some ⟨ib,io,none⟩) IN ip,int i64 (IN:Int),.bool true,.bool false,.bool false] (by kernel_rfl) (by rfl) (by kernel_rfl) (zc.refl _ _) (fun A hA=> ?_);simp only[zv,Act.put,sTA,sC0,sCS] at hA;subst hA;refine ⟨gR (gR (gR (gY (fun _ k9=>zI (za k9 m0) rfl rfl) (gR (gR (gR (gY (fun _ k9=>zbp (za k9 c0) rfl rfl) (gY (fun _ _=>JS rfl rfl) (zk.cons (zn (by rfl) 194 #[int i64 rec,int i64 (RN:Int)] (fun w=>qq rfl rfl rfl rfl (qk _ _ w)) (fun w9 _=>qh rec RN w9 hr)) (gY (fun _ _=>J4 rfl rfl) (gR (gR (gR (gR (gY (fun _ k9=>zI (za k9 m1) rfl rfl) (gR (gR (gR (gY (fun _ k9=>zaO (za k9 c2) rfl rfl) (gY (fun _ _=>zdI rfl rfl) (zk.cons (zn (by rfl) 194 #[int i64 (J:Int),int i64 (IN:Int)] (fun w=>qq rfl rfl rfl rfl (qk _ _ w)) (fun w9 _=>qh (J:Int) IN w9 hi)) (gY (fun _ _=>J4 rfl rfl) (gR (zk.nil)))))))))))))))))))))))),fun w3 k3=> ?_⟩;have K3:=hid k3;replace c2:=za k3 c2;replace m0:=za k3 m0;replace m1:=za k3 m1;replace m2:=za k3 m2;replace g0:=za k3 g0;clear k3 c0;go_upto_region 3 with fail;refine zm (W0:=w3) 77 [pointer (some ⟨pb,po,none⟩),pointer (some ⟨pb,po,none⟩),pointer (some ⟨pb,po+2,none⟩),.slice (some ⟨ib,io,none⟩) IN ip,pointer (some ⟨mb,mo,none⟩),pointer (some ⟨mb,mo,none⟩),pointer (some ⟨mb,mo+1,none⟩),int i64 (J:Int),pointer (some ⟨ib,io+J,none⟩),pointer (some ⟨ib,io+J,none⟩),.slice ga M gp,.slice ga M gp] (by kernel_rfl) (by rfl) (by kernel_rfl) (zc.refl _ _) (fun A hA=> ?_);simp only[zv,Act.put,sTA,sC0,sCS] at hA;subst hA;refine ⟨gR (gR (gR (gY (fun _ k9=>zaO (za k9 c2) rfl rfl) (gR (gR (gR (gY (fun _ k9=>zI (za k9 m1) rfl rfl) (gY (fun _ _=>zfr rfl rfl rfl hlt_J) (gR (gY (fun _ k9=>J9 (za k9 g0) rfl rfl) (gR (zk.nil)))))))))))),fun w4 k4=> ?_⟩;have K4:=hid (K3.o.quiet k4);replace m0:=za k4 m0;replace m2:=za k4 m2;clear k4 c2 m1 g0 K3 hr hi;by_cases hNM:N=M
 case neg=>
  have hd:((N:Int) != (M:Int))=true:=by rw[bne_iff_ne];omega
  have HR:Box (res=false):=hid (by
   rw[HRES.o,Bool.and_eq_false_iff];left;rw[decide_eq_false_iff_not]
   exact hNM)
  clear HRES hNM;go_wp2_with fail;go_ret;exact ⟨by rw[HR.o];rfl,K4.o⟩
 subst hNM;have HR2:Box (res=(List.range N).all fun k=>isM P rec (fs.getD k 0) (ms.getD k 0)):=hid (by rw[HRES.o];simp);have hd:((N:Int) != (N:Int))=false:=by simp
 clear HRES;go_upto_region 7 with fail;obtain ⟨W,hW⟩:∃ W,W=w4.alloc (.cells #[int i64 1,int i64 rec] 52):=⟨_,rfl⟩;have kb:zc [] w4 W:=by rw[hW];exact zc.alloc [] _ _
 have hq:W.heap[w4.heap.size]? = some (.cells #[int i64 1,int i64 rec] 52 (0,0)):=by rw[hW];exact zh _ _
 replace m0:=za kb m0;replace m2:=za kb m2;have KW:=hid (K4.o.quiet kb);rw[← hW];have HQ:=hid hq;clear hW kb hq K4 hd;generalize w4.heap.size=q at *;go_wp2_with fail;have HM2:=hid m2;clear m0 m2;have hfx:=HFX.o;unfold maxLen at hfx
 go_loopw [62] (fun kv wr=>∃ k:Nat,k≤N∧kv=int i64 (k:Int)∧Box (zc [] W wr)∧Box (∀ j,j<k→isM P rec (fs.getD j 0) (ms.getD j 0)=true)) (fun kv _=>N - (intOf kv).toNat)
 case atStart=>exact ⟨0,by omega,rfl,hid (zc.refl _ _),hid fun j hj=>by omega⟩
 case round=>
  obtain ⟨K,hk,rfl,HK,HJ⟩:=hrel;by_cases hlt:K<N
  ·have hlt':(K:Int)<(N:Int):=by omega
   have hlt_K:(K:Int)<(N:Int):=hlt';obtain ⟨fb,fo,rfl,t1⟩:=HFR.o.at (zg (l:=fs) (k:=K) (d:=0) (by rw[← HN.o];exact hlt));obtain ⟨gb,go',rfl,t2⟩:=HGR.o.at (zg (l:=ms) (k:=K) (d:=0) (by rw[← HM.o];exact hlt));have d0:=za (KW.o.quiet HK.o) t1.1;have e0:=za (KW.o.quiet HK.o) t2.1;rw[Nat.mul_one] at d0 e0;have hqr:=ze HQ.o HK.o;have q0:=zd hqr 0;have q1:=zd hqr 1;have HIS:=hid fun (w9:World) (k9:zc [] wr w9)=>zjO (PrC.stays _ _ _ _ _ (KW.o.quiet (HK.o.quiet k9)) HP.o) (fs.getD K 0) rec (ms.getD K 0);obtain ⟨b,hb⟩:∃ b,b=isM P rec (fs.getD K 0) (ms.getD K 0):=⟨_,rfl⟩;rw[← hb] at HIS;have HB:=hid hb;clear t1 t2 hqr hb;obtain ⟨fn,hfn⟩:∃ z,z=fs.getD K 0:=⟨_,rfl⟩;obtain ⟨sn,hsn⟩:∃ z,z=ms.getD K 0:=⟨_,rfl⟩;rw[← hfn] at d0 HIS;rw[← hsn] at e0 HIS;clear hfn hsn;go_upto_region 10 with fail;refine zm (W0:=wr) 77 [pointer (some ⟨pb,po,none⟩),int i64 fn,agg #[int i64 1,int i64 rec],.slice (some ⟨gb,go',none⟩) N gp,int i64 (K:Int),pointer (some ⟨gb,go'+K,none⟩),int i64 sn,.bool b,.bool (!b)] (by kernel_rfl) (by rfl) (by kernel_rfl) (zc.refl _ _) (fun A hA=> ?_);simp only[zv,Act.put,sTA,sC0,sCS] at hA;subst hA;refine ⟨gR (gR (gY (fun _ k9=>zZ (za k9 q0) (za k9 q1) rfl rfl) (gR (gR (gY (fun _ _=>QZ rfl rfl rfl hlt_K) (gY (fun _ k9=>zI (za k9 e0) rfl rfl) (zk.cons (zn (by rfl) 195 #[pointer (some ⟨pb,po,none⟩),int i64 fn,agg #[int i64 1,int i64 rec],int i64 sn] (fun w=>zmf rfl rfl rfl rfl rfl rfl (zgg _ _ _ _ w)) (fun w9 k9=>HIS.o w9 k9)) (gY (fun _ _=>J4 rfl rfl) (zk.nil))))))))),fun w8 k8=> ?_⟩;cases b with
   | true=>
    go_wp2_with fail;go_roundw
    case rel=>
     refine ⟨K+1,by omega,by go_num,hid (HK.o.quiet k8),hid fun j hj=> ?_⟩;by_cases hjk:j=K
     ·subst hjk
      exact HB.o.symm
     ·exact HJ.o j (by omega)
    case measure=>simp[intOf];omega
   | false=>
    go_wp2_with fail;go_ret;exact ⟨by rw[HR2.o,zk9 hlt HB.o.symm];rfl,KW.o.quiet (HK.o.quiet k8)⟩
  ·obtain rfl:K=N:=by omega
   go_wp2_with fail;go_ret;refine ⟨?_,KW.o.quiet HK.o⟩;rw[HR2.o,List.all_eq_true.2 fun j hj=>HJ.o j (List.mem_range.1 hj)];rfl
theorem zcr(w:World):Calls Tryz.prog 125 #[] w (Jj 7 (-1) 0 0 w):=by
 have H:=hid fun (w':World)=>zeW 7 (-1) 0 0 w';go_enter Tryz.func125,Tryz.ntmps125;go_wp2_with fail;refine (H.o _).mono ?_;rintro e w1 ⟨p,rfl,h1,h2⟩;go_wp2_with fail;go_ret;exact ⟨p,rfl,h1,h2⟩
structure Met (ks l:List (Int × Int)):Prop where
 mem:∀ x,x∈ks ↔ x∈l
 len:ks.length≤l.length
 eq:ks.length=l.length ↔ l.Nodup
theorem Met.nil:Met [] []:=⟨fun _=>Iff.rfl,Nat.le_refl _,by simp⟩
theorem Met.put{l:List (Int × Int)}(h:Met ks l)(q:Int × Int):Met (if q∈ks then ks else ks ++ [q]) (l ++ [q]):=by
 by_cases hq:q∈ks
 ·rw[if_pos hq]
  refine ⟨fun x=> ?_,by rw[List.length_append];have:=h.len;omega,?_⟩
  ·rw[List.mem_append,List.mem_singleton,h.mem]
   exact ⟨fun hx=>.inl hx,fun hx=>hx.elim id fun e=>e ▸ (h.mem q).1 hq⟩
  ·refine ⟨fun e=> ?_,fun hn=> ?_⟩
   ·exfalso
    have:=h.len;simp at e;omega
   ·exfalso
    rw[List.nodup_append] at hn;exact hn.2.2 q ((h.mem q).1 hq) q (by simp) rfl
 ·rw[if_neg hq]
  have hl:q ∉ l:=fun hx=>hq ((h.mem q).2 hx);refine ⟨fun x=>by simp[h.mem],by rw[List.length_append,List.length_append];have:=h.len;simp only[List.length_singleton];omega,?_⟩;rw[List.length_append,List.length_append,List.nodup_append];refine ⟨fun e=>⟨h.eq.1 (by simpa using e),by simp,fun a ha b hb=> ?_⟩,fun hn=>by rw[h.eq.2 hn.1]⟩;rw[List.mem_singleton] at hb;exact fun e=>hl (hb ▸ e ▸ ha)
def kE(M:Nat)(ks:List (Int × Int))(q:Int × Int)(l:Array Bool)(w:World):Prop:=ZJ w M (bif l.getD 13 false then (if q∈ks then ks else ks ++ [q]) else ks)
theorem kE.keep{q:Int × Int}{i:Nat}(h:kE M ks q l w)(hi:i≠13):kE M ks q (l.setIfInBounds i true) w:=by
 unfold kE;rw[zL hi];exact h
theorem kE.put{q:Int × Int}(h:kE M ks q l w)(hi:13<l.size):∃ w',(Instr.mapUpdate 258 (.map (some M)) (kkV q) (agg #[])).run Tryz.prog w=.ok () w'∧kE M ks q (l.setIfInBounds 13 true) w'∧zc [M] w w':=by
 obtain ⟨w',h1,h2,h3⟩:=ZJ.put h q;refine ⟨w',h1,?_,h3⟩;unfold kE;rw[qf hi];cases hb:l.getD 13 false with
 | false=>
  rw[hb] at h2;exact h2
 | true=>
  rw[hb] at h2;have hm:q∈(if q∈ks then ks else ks ++ [q]):=by
   by_cases hq:q∈ks
   ·rw[if_pos hq];exact hq
   ·rw[if_neg hq];simp
  simp only[cond_true] at h2 ⊢
  rwa [if_pos hm] at h2
theorem kE.all{q:Int × Int}(h:kE M ks q l w)(hl:l.getD 13 false=true):ZJ w M (if q∈ks then ks else ks ++ [q]):=by
 unfold kE at h;rw[hl] at h;exact h
theorem kE.start{q:Int × Int}(h:ZJ w M ks):kE M ks q (Array.replicate n false) w:=by
 unfold kE;have:(Array.replicate n false).getD 13 false=false:=by
  by_cases hn:13<n
  ·simp[Array.getD,hn]
  ·simp[Array.getD,hn]
 rw[this];exact h
theorem zkV(ho:oi.op=.build 259 #[]):(execOp ev oi).run Tryz.prog w=.ok (.value (agg #[])) w:=by
 simp[execOp,ho,go_sem]
theorem zjX{a b:Int}{x y:Operand}(ho:oi.op=.build 260 #[(0,x),(1,y)])(hx:ev x=int i64 a)(hy:ev y=int i64 b):(execOp ev oi).run Tryz.prog w=.ok (.value (agg #[int i64 a,int i64 b])) w:=by
 simp[execOp,ho,hx,hy,go_sem]
theorem xmu{w':World}{q:Int × Int}{x y z:Operand}(ho:oi.op=.mapUpdate 258 x y z)(hx:ev x=.map (some M))(hy:ev y=agg #[int i64 q.1,int i64 q.2])(hz:ev z=agg #[])(h:(Instr.mapUpdate 258 (.map (some M)) (kkV q) (agg #[])).run Tryz.prog w=.ok () w'):(execOp ev oi).run Tryz.prog w=.ok .skip w':=by
 unfold kkV at h;simp[execOp,ho,hx,hy,hz,h,Result.andThen]
theorem zfP{cp:Nat}{ims:List (Int × Int × List Int)}(hr:z7 w 3 ImC a ims)(hl:ims.length≤maxLen):Calls Tryz.prog 124 #[.slice a ims.length cp] w fun e w'=>e=.returned (.bool (!decide (ims.map fun m=>(m.1,m.2.1)).Nodup))∧zc [] w w':=by
 have HR:=hid hr;obtain ⟨keys,hkeys⟩:∃ l,l=ims.map fun m=>(m.1,m.2.1):=⟨_,rfl⟩;rw[← hkeys];have HKS:=hid hkeys;obtain ⟨N,hN⟩:∃ n,n=ims.length:=⟨_,rfl⟩;have HN:=hid hN;have HKL:Box (keys.length=N):=hid (by rw[hkeys,hN,List.length_map]);rw[← hN] at hl ⊢;unfold maxLen at hl;have HM0:=hid (ZJ.made w);have HK0:=hid (zc.alloc [] w (.map #[] 0));have hmk:∀ w,(Instr.makeMap 258 none).run Tryz.prog w=.ok (.map (some w.heap.size)) (w.alloc (.map #[] 0)):=fun w=>by kernel_rfl
 clear hr hkeys hN;go_enter Tryz.func124,Tryz.ntmps124;go_wp2_with fail;generalize w.alloc (.map #[] 0)=W at *;obtain ⟨M,hM⟩:∃ M,M=w.heap.size:=⟨_,rfl⟩;have HM:=hid hM;rw[← hM] at HM0 ⊢;clear hM hmk
 go_loopw [8] (fun kv wr=>∃ k:Nat,k≤N∧kv=int i64 (k:Int)∧Box (∃ ks,ZJ wr M ks∧Met ks (keys.take k)∧zc [] w wr)) (fun kv _=>N - (intOf kv).toNat)
 case atStart=>exact ⟨0,by omega,rfl,hid ⟨[],HM0.o,by rw[List.take_zero];exact Met.nil,HK0.o⟩⟩
 case round=>
  obtain ⟨K,hk,rfl,HJ⟩:=hrel;obtain ⟨ks,hs,hmt,hkp⟩:=HJ.o;have HMT:=hid hmt;have HKP:=hid hkp;by_cases hlt:K<N
  ·have hlt':(K:Int)<(N:Int):=by omega
   obtain ⟨b,o,rfl,t1⟩:=HR.o.at (zg (l:=ims) (k:=K) (d:=(0,0,[])) (by rw[← HN.o];exact hlt));have c0:=za hkp t1.c0.1;have c1:=za hkp t1.c1.1
   have HKE:Box (keys.take (K+1)=keys.take K ++ [((ims.getD K (0,0,[])).1,(ims.getD K (0,0,[])).2.1)]):=hid (by
    rw[List.take_add_one,HKS.o,List.getElem?_map,zg (l:=ims) (k:=K) (d:=(0,0,[])) (by rw[← HN.o];exact hlt)]
    rfl)
   have t1':=t1.c0.1;clear t1 HJ hmt hkp;generalize (ims.getD K (0,0,[])).1=x at *;generalize (ims.getD K (0,0,[])).2.1=y at *
   have HBM:Box (b ∉ [M]):=hid (by
    have h1:=block_lt_of_cell t1';have h2:=HM.o;simp only[List.mem_singleton];simp only at h1
    omega)
   have hlt_K:(K:Int)<(N:Int):=hlt';have HS:=hid hs;clear hs t1';go_upto_region 5 with fail;refine jy (fun w'=>w'.cell? ⟨b,o+K * 3,none⟩=some (int i64 x)∧w'.cell? ⟨b,o+K * 3+1,none⟩=some (int i64 y)∧zc [M] wr w') (kE M ks (x,y)) 30 [.map (some M),.slice (some ⟨b,o,none⟩) N cp,int i64 (K:Int),pointer (some ⟨b,o+K * 3,none⟩),pointer (some ⟨b,o+K * 3,none⟩),int i64 x,.slice (some ⟨b,o,none⟩) N cp,int i64 (K:Int),pointer (some ⟨b,o+K * 3,none⟩),pointer (some ⟨b,o+K * 3+1,none⟩),int i64 y,agg #[int i64 x,int i64 y],agg #[],undef] (by kernel_rfl) (by rfl) (by kernel_rfl) ⟨c0,c1,zc.drew [M] _⟩ (kE.start (HS.o.kept (zc.drew [] _) (by simp))) (fun A hA=> ?_);simp only[zv,Act.put,sTA,sC0,sCS] at hA;subst hA;refine ⟨gER (gER (gER (gEY (fun _ _=>zfx rfl rfl rfl hlt_K) (gER (gEY (fun _ s=>zI s.1 rfl rfl) (gER (gER (gEY (fun _ _=>zfx rfl rfl rfl hlt_K) (gER (gEY (fun _ s=>zI s.2.1 rfl rfl) (gEY (fun _ _=>zjX rfl rfl rfl) (gEY (fun _ _=>zkV rfl) (zC.cons (Qc (by rfl) (fun l w9 hi9 hs9 he9=>by obtain ⟨w',h1,h2,h3⟩:=he9.put hi9;exact ⟨w',xmu rfl rfl rfl rfl h1,⟨(h3.cell (block_lt_of_cell hs9.1) (HBM.o)).trans hs9.1,(h3.cell (block_lt_of_cell hs9.2.1) (HBM.o)).trans hs9.2.1,hs9.2.2.step h3⟩,h2⟩)) (zC.nil)))))))))))))),fun l w8 hl8 k8 h8=> ?_⟩;have HS2:=hid (h8.all (hl8 13 (by decide)))
   have K2:Box (zc [] w w8):=hid (HKP.o.trans k8.2.2 (fun z hz hl=>by
    have:=HM.o;simp at hz
    omega))
   clear hl8 k8 h8;go_wp2_with fail;go_roundw
   case rel=>exact ⟨K+1,by omega,by go_num,hid ⟨_,HS2.o,by rw[HKE.o];exact HMT.o.put _,K2.o⟩⟩
   case measure=>simp[intOf];omega
  ·obtain rfl:K=N:=by omega
   obtain ⟨es,clk,hes,hsz⟩:=hs.size
   have HD:Box (decide (es.size<K)= !decide keys.Nodup):=hid (by
    have h1:=HMT.o.len;have h2:=HMT.o.eq;have h3:=HKL.o;rw[List.take_of_length_le (by omega)] at h1 h2;rw[← hsz,h3] at h2;rw[← hsz,h3] at h1;by_cases hd:keys.Nodup
    ·have:=h2.2 hd
     have e1:decide keys.Nodup=true:=decide_eq_true hd;rw[e1];exact decide_eq_false (by omega)
    ·have:¬ es.size=K:=fun e=>hd (h2.1 e)
     have e1:decide keys.Nodup=false:=decide_eq_false hd;rw[e1]
     exact decide_eq_true (by omega))
   have hln:=fun ty=>run_len_map (P:=Tryz.prog) (w:=wr) 258 ty M es clk (by kernel_rfl) hes;clear hs hsz HJ hmt;go_wp2_with fail;go_ret;exact ⟨by rw[← HD.o];rfl,HKP.o⟩
theorem zhW(h:PrC w pb po P):Calls Tryz.prog 83 #[pointer (some ⟨pb,po,none⟩)] w (zgF (zaQ P) 7 (-1) 0 0 w):=by
 obtain ⟨a,cp,c3,hr,_,hx⟩:=h.c3;have HP:=hid h;have HTW:=hid (zfP (cp:=cp) hr hx);have HRF:=hid fun (w':World)=>zcr w';have HR:=hid hr;have C3:Box (∀ w',zc [] w w'→w'.cell? ⟨pb,po+3,none⟩=some (.slice a P.ims.length cp)):=hid fun w' k=>za k c3;have HMB:Box (zaQ P=(decide (P.ims.map fun m=>(m.1,m.2.1)).Nodup && P.ims.all (zai P))):=hid rfl;obtain ⟨N,hN⟩:∃ n,n=P.ims.length:=⟨_,rfl⟩;have HN:=hid hN;rw[← hN] at C3 HTW c3 hx;unfold maxLen at hx;clear h hr hN;go_enter Tryz.func83,Tryz.ntmps83;go_wp2_with fail;refine HTW.o.mono ?_;rintro e w1 ⟨rfl,k1⟩;have K1:=hid k1;clear c3 HTW k1;cases hd:decide (P.ims.map fun m=>(m.1,m.2.1)).Nodup with
 | false=>
  have HF:Box (zaQ P=false):=hid (by rw[HMB.o,hd];rfl);clear HMB hd;go_wp2_with fail;refine (HRF.o _).mono ?_;rintro e w2 ⟨p,rfl,h2,k2⟩;have H2:=hid h2;have K2:=hid (K1.o.quiet k2);clear h2 k2;go_wp2_with fail;go_ret;rw[HF.o];exact ⟨p,rfl,H2.o,K2.o⟩
 | true=>
 rw[hd,Bool.true_and] at HMB;clear hd;have c3:=C3.o _ K1.o;go_wp2_with fail;clear c3
 go_loopw [17] (fun kv wr=>∃ k:Nat,k≤N∧kv=int i64 (k:Int)∧Box (zc [] w wr)∧Box (∀ j,j<k→zai P (im8 P j)=true)) (fun kv _=>N - (intOf kv).toNat)
 case atStart=>exact ⟨0,by omega,rfl,K1,hid fun j hj=>by omega⟩
 case round=>
  obtain ⟨K,hk,rfl,HK,HJ⟩:=hrel;by_cases hlt:K<N
  ·have hlt':(K:Int)<(N:Int):=by omega
   have hKl:K<P.ims.length:=by rw[← HN.o];exact hlt
   obtain ⟨b,o,rfl,t1⟩:=HR.o.at (Z7 hKl);have c3:=C3.o _ HK.o;have HI:=hid (zk3 (PrC.stays _ _ _ _ _ HK.o HP.o) (ImC.stays _ _ _ _ _ HK.o t1));have HME:Box (im8 P K∈P.ims):=hid (List.mem_of_getElem? (Z7 hKl));clear t1 hKl;go_wp2_with fail;refine HI.o.mono ?_;rintro e w3 ⟨rfl,k3⟩;have K3:=hid (HK.o.quiet k3);clear c3 k3 HI;cases hb:zai P (im8 P K) with
   | true=>
    have HB:=hid hb;clear hb;go_wp2_with fail;go_roundw
    case rel=>
     refine ⟨K+1,by omega,by go_num,K3,hid fun j hj=> ?_⟩;by_cases hjk:j=K
     ·subst hjk
      exact HB.o
     ·exact HJ.o j (by omega)
    case measure=>simp[intOf];omega
   | false=>
    have HF:Box (zaQ P=false):=hid (by
     rw[HMB.o]
     exact List.all_eq_false.2 ⟨_,HME.o,by rw[hb];simp⟩)
    clear hb;go_wp2_with fail;refine (HRF.o _).mono ?_;rintro e w4 ⟨p,rfl,h4,k4⟩;have H4:=hid h4;have K4:=hid (K3.o.quiet k4);clear h4 k4;go_wp2_with fail;go_ret;rw[HF.o];exact ⟨p,rfl,H4.o,K4.o⟩
  ·obtain rfl:K=N:=by omega
   have HF:Box (zaQ P=true):=hid (by
    rw[HMB.o,List.all_eq_true];intro x hx;obtain ⟨j,hj,e⟩:=List.getElem_of_mem hx;have:=HJ.o j (by rw[HN.o];exact hj);have e2:im8 P j=x:=by
     have:=Z7 hj;rw[List.getElem?_eq_getElem hj,e] at this;exact (Option.some.inj this).symm
    rwa [e2] at this)
   go_wp2_with fail;go_ret;rw[HF.o];exact ⟨rfl,HK.o⟩
end Go.Proofs.YthflgjkmbakedaaGreatDoor
