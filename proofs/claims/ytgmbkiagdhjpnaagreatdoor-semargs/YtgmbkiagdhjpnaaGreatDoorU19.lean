import Derived.Test.YtgmbkiagdhjpnaaGreatDoorUA1
import Derived.Test.YtgmbkiagdhjpnaaGreatDoorU09
import Derived.Test.YtgmbkiagdhjpnaaGreatDoorU16
import Derived.Test.YtgmbkiagdhjpnaaGreatDoorU18

namespace Go.Proofs.YtgmbkiagdhjpnaaGreatDoor
open Go.RowKit
open Go.Value (int pointer agg)
open Go.IntKind (i64)
set_option maxHeartbeats 8000000
set_option maxRecDepth 20000
variable {A:Act}{P:Pr8}{a:Option Addr}{i pb po:Nat}{o:Oper}{v:Value}{vs:List Value}{w:World}
def jp(P:Pr8)(f:Fu8)(x:In8):Bool:=zy x && (zbv f.regs.length x && Qu P f x)
theorem zeR{fb fo:Nat}{f:Fu8}(h:PrC w pb po P)(hf:FuC w fb fo f)(x:In8){cp:Nat}(hz:zv w a x.args)(hl:x.args.length≤1000):Calls Tryz.prog 169 #[pointer (some ⟨pb,po,none⟩),pointer (some ⟨fb,fo,none⟩),zu x (.slice a x.args.length cp)] w fun e w'=>e=.returned (.bool (jp P f x))∧za [] w w':=by
 have ka:=za.alloc [] w (.cells #[int i64 x.op,int i64 x.dst,int i64 x.a,int i64 x.b,int i64 x.n,.slice a x.args.length cp] 65);have hn:=ze w (.cells #[int i64 x.op,int i64 x.dst,int i64 x.a,int i64 x.b,int i64 x.n,.slice a x.args.length cp] 65);have H1:=hid fun (w':World)=>zh4 x a cp w';have H2:=hid fun (w':World) (k:za [] w w')=>zfJ (cp:=cp) (FuC.stays _ _ _ _ _ k hf) x (hz.kept k (fun _ _ _=>by simp)) hl;have H3:=hid fun (w':World) (k:za [] w w')=>ziI (PrC.stays _ _ _ _ _ k h) (FuC.stays _ _ _ _ _ k hf) x (.slice a x.args.length cp);have HE:Box (jp P f x=(zy x && (zbv f.regs.length x && Qu P f x))):=hid rfl;have IN:Box (∀ w',za [] (w.alloc (.cells #[int i64 x.op,int i64 x.dst,int i64 x.a,int i64 x.b,int i64 x.n,.slice a x.args.length cp] 65)) w'→InW w' w.heap.size x (.slice a x.args.length cp)):=hid fun w' k=>by
  have:=zd hn k;exact ⟨zc this 0,zc this 1,zc this 2,zc this 3,zc this 4,zc this 5⟩
 have KA:=hid ka;clear h hf hz hl ka hn;unfold zu at *;generalize jp P f x=res at *;generalize zy x=r1 at *;generalize zbv f.regs.length x=r2 at *;generalize Qu P f x=r3 at *;go_enter Tryz.func169,Tryz.ntmps169;go_upto_region 1 with fail;generalize w.alloc (.cells #[int i64 x.op,int i64 x.dst,int i64 x.a,int i64 x.b,int i64 x.n,.slice a x.args.length cp] 65)=WA at *;generalize w.heap.size=q at *;obtain ⟨d0,d1,d2,d3,d4,d5⟩:=IN.o _ (za.refl _ _);go_wp2_with fail;refine (H1.o _).mono ?_;rintro e w1 ⟨rfl,k1⟩;have K1:=hid (KA.o.quiet k1);clear d0 d1 d2 d3 d4 d5;cases r1 with
 | false=>
  have HR:Box (res=false):=hid (by rw[HE.o];rfl);clear HE k1;go_wp2_with fail;go_ret;exact ⟨by rw[HR.o];rfl,K1.o⟩
 | true=>
  obtain ⟨d0,d1,d2,d3,d4,d5⟩:=IN.o _ k1;have KW1:=hid k1;clear k1;go_wp2_with fail;refine (H2.o _ K1.o).mono ?_;rintro e w2 ⟨rfl,k2⟩;have K2:=hid (K1.o.quiet k2);clear d0 d1 d2 d3 d4 d5;cases r2 with
  | false=>
   have HR:Box (res=false):=hid (by rw[HE.o];rfl);clear HE k2;go_wp2_with fail;go_ret;exact ⟨by rw[HR.o];rfl,K2.o⟩
  | true=>
   obtain ⟨d0,d1,d2,d3,d4,d5⟩:=IN.o _ (KW1.o.quiet k2);clear k2;go_wp2_with fail;refine (H3.o _ K2.o).mono ?_;rintro e w3 ⟨rfl,k3⟩;have K3:=hid (K2.o.quiet k3);clear k3;have HR:Box (res=r3):=hid (by rw[HE.o];rfl);clear HE;go_wp2_with fail;go_ret;exact ⟨by rw[HR.o];rfl,K3.o⟩
theorem zim(h:PrC w pb po P){f:Nat}(hf:f<P.funcs.length)(x:In8){cp:Nat}(hz:zv w a x.args)(hl:x.args.length≤1000)(r:Bool)
  (H:jp P (zf P f) x=true→∀ (fb fo:Nat) (w':World),za [] w w'→PrC w' pb po P→FuC w' fb fo (zf P f)→Calls Tryz.prog 206 #[pointer (some ⟨pb,po,none⟩),pointer (some ⟨fb,fo,none⟩),zu x (.slice a x.args.length cp)] w' fun e w2=>e=.returned (.bool r)∧za [] w' w2):
  Calls Tryz.prog 174 #[pointer (some ⟨pb,po,none⟩),int i64 (f:Int),zu x (.slice a x.args.length cp)] w fun e w'=>e=.returned (.bool (jp P (zf P f) x && (rtB P (zf P f) x && r)))∧za [] w w':=by
 obtain ⟨fa,fp,c4,r4,_⟩:=h.c4;obtain ⟨fb,fo,rfl,hfu0⟩:=r4.at (zi (d:=⟨0,[],[]⟩) hf);have hfu:FuC w fb (fo+f * 3) (zf P f):=hfu0;have ka:=za.alloc [] w (.cells #[int i64 x.op,int i64 x.dst,int i64 x.a,int i64 x.b,int i64 x.n,.slice a x.args.length cp] 65);have hn:=ze w (.cells #[int i64 x.op,int i64 x.dst,int i64 x.a,int i64 x.b,int i64 x.n,.slice a x.args.length cp] 65);have HW:=hid fun (w':World)=>zp (f:Int) P.funcs.length w';rw[zb9 (by omega) (by omega)] at HW;have H0:=hid fun (w':World) (k:za [] w w')=>zeR (cp:=cp) (PrC.stays _ _ _ _ _ k h) (FuC.stays _ _ _ _ _ k hfu) x (hz.kept k (fun _ _ _=>by simp)) hl;have H1:=hid fun (w':World) (k:za [] w w')=>zda (cp:=cp) (PrC.stays _ _ _ _ _ k h) (FuC.stays _ _ _ _ _ k hfu) x (hz.kept k (fun _ _ _=>by simp)) hl;have H2:=hid fun (hok:jp P (zf P f) x=true) (w':World) (k:za [] w w')=>H hok fb (fo+f * 3) w' k (PrC.stays _ _ _ _ _ k h) (FuC.stays _ _ _ _ _ k hfu);have IN:Box (∀ w',za [] (w.alloc (.cells #[int i64 x.op,int i64 x.dst,int i64 x.a,int i64 x.b,int i64 x.n,.slice a x.args.length cp] 65)) w'→InW w' w.heap.size x (.slice a x.args.length cp)):=hid fun w' k=>by
  have:=zd hn k;exact ⟨zc this 0,zc this 1,zc this 2,zc this 3,zc this 4,zc this 5⟩
 have KA:=hid ka;have c4':=zb ka c4;have hf':(f:Int)<(P.funcs.length:Int):=by omega
 clear h r4 hfu0 hfu ka hn hz hl H c4 hf;unfold zu at *;generalize rtB P (zf P f) x=r1 at *;generalize jp P (zf P f) x=r0 at *;generalize P.funcs.length=FN at *;go_enter Tryz.func174,Tryz.ntmps174;go_upto_region 1 with fail;generalize w.alloc (.cells #[int i64 x.op,int i64 x.dst,int i64 x.a,int i64 x.b,int i64 x.n,.slice a x.args.length cp] 65)=WA at *;generalize w.heap.size=q at *;obtain ⟨d0,d1,d2,d3,d4,d5⟩:=IN.o _ (za.refl _ _);go_wp2_with fail;refine (HW.o _).mono ?_;rintro e w1 ⟨rfl,hw1⟩;rw[hw1];clear hw1;go_wp2_with fail;refine (H0.o _ KA.o).mono ?_;rintro e w5 ⟨rfl,k5⟩;have K5:=hid (KA.o.quiet k5);have KW5:=hid k5;clear d0 d1 d2 d3 d4 d5 k5;cases r0 with
 | false=>
  clear H2;go_wp2_with fail;go_ret;exact ⟨rfl,K5.o⟩
 | true=>
  obtain ⟨d0,d1,d2,d3,d4,d5⟩:=IN.o _ KW5.o;go_wp2_with fail;refine (H1.o _ K5.o).mono ?_;rintro e w2 ⟨rfl,k2⟩;have K2:=hid (K5.o.quiet k2);clear d0 d1 d2 d3 d4 d5;cases r1 with
  | false=>
   clear k2 H2;go_wp2_with fail;go_ret;exact ⟨rfl,K2.o⟩
  | true=>
   obtain ⟨d0,d1,d2,d3,d4,d5⟩:=IN.o _ (KW5.o.quiet k2);clear k2;go_wp2_with fail;refine (H2.o trivial _ K2.o).mono ?_;rintro e w3 ⟨rfl,k3⟩;have K3:=hid (K2.o.quiet k3);clear k3 H2;go_wp2_with fail;go_ret;exact ⟨by cases r <;> rfl,K3.o⟩
theorem zb3(k:Int)(n:Nat)(w:World):Calls Tryz.prog 171 #[int i64 k,int i64 (n:Int)] w fun e w'=>e=.returned (.bool (inB k n))∧w'=w:=by
 by_cases h1:0≤k
 ·by_cases h2:k<(n:Int)
  ·rw[zb9 h1 h2]
   go_enter Tryz.func171,Tryz.ntmps171;go_wp2;go_ret;exact ⟨rfl,rfl⟩
  ·rw[zct (fun h=>h2 h.2)]
   have hd:decide (k<(n:Int))=false:=decide_eq_false h2;clear h2;go_enter Tryz.func171,Tryz.ntmps171;go_wp2;go_ret;exact ⟨rfl,rfl⟩
 ·rw[zct (fun h=>h1 h.1)]
  have hd:decide (0≤k)=false:=decide_eq_false h1;go_enter Tryz.func171,Tryz.ntmps171;go_wp2;go_ret;exact ⟨rfl,rfl⟩
theorem zK(k:Int)(n:Nat)(w:World){r:Bool}(hr:inB k n=r):Calls Tryz.prog 171 #[int i64 k,int i64 (n:Int)] w fun e w'=>e=.returned (.bool r)∧za [] w w':=by
 subst hr;refine (zb3 k n w).mono ?_;rintro e w' ⟨rfl,rfl⟩;exact ⟨rfl,za.refl _ _⟩
theorem zaq{b o c:Nat}{ad:Option Addr}{x:Int × Int}{l:List (Int × Int)}(h:zq w 2 TyC (some ⟨b,o,none⟩) (x :: l))(had:ad=if c=0 then some ⟨b,o,none⟩ else some ⟨b,o+2,none⟩)(hc:l.length≤c):zq w 2 TyC ad l:=by
 rcases h with h | ⟨b',o',e,h⟩
 ·cases h
 ·cases e
  by_cases h0:c=0
  ·left
   exact List.length_eq_zero_iff.1 (by omega)
  ·rw[if_neg h0] at had
   refine .inr ⟨b,o+2,had,fun j y hy=> ?_⟩;have:=h (j+1) y (by simpa using hy)
   rwa [show o+(j+1) * 2=o+2+j * 2 by omega] at this
theorem zjp{b:Option Addr}{la lb:List (Int × Int)}(ha:zq w 2 TyC a la)(hb:zq w 2 TyC b lb)(ca cb:Nat)(hl:la.length≤maxLen):Calls Tryz.prog 204 #[.slice a la.length ca,.slice b lb.length cb] w fun e w'=>e=.returned (.bool (decide (la=lb)))∧za [] w w':=by
 by_cases hn:la.length=lb.length
 case neg=>
  have hne:decide (la=lb)=false:=by
   rw[decide_eq_false_iff_not];exact fun e=>hn (by rw[e])
  rw[hne];obtain ⟨n,hn1⟩:∃ n,n=la.length:=⟨_,rfl⟩;obtain ⟨m,hm1⟩:∃ n,n=lb.length:=⟨_,rfl⟩;rw[← hn1, ← hm1] at hn ⊢;have hi:((n:Int) != (m:Int))=true:=by rw[bne_iff_ne];omega
  clear hn1 hm1 ha hb hl hn;go_enter Tryz.func204,Tryz.ntmps204;go_wp2_with fail;go_ret;exact ⟨rfl,za.refl _ _⟩
 have HE:Box (∀ (x y:Int × Int) (k:Nat),la[k]? = some x→lb[k]? = some y→x≠y→decide (la=lb)=false):=hid fun x y k h1 h2 h3=>by
  rw[decide_eq_false_iff_not];intro e;rw[e] at h1;rw[h1] at h2;exact h3 (Option.some.inj h2)
 have HT:Box ((∀ (k:Nat),k<la.length→la[k]? = lb[k]?)→decide (la=lb)=true):=hid fun h=>by
  rw[decide_eq_true_iff];apply List.ext_getElem?;intro k;by_cases hk:k<la.length
  ·exact h k hk
  ·rw[List.getElem?_eq_none (by omega),List.getElem?_eq_none (by omega)]
 have HA:=hid ha;have HB:=hid hb;have HNL:=hid hn;obtain ⟨n,hn1⟩:∃ n,n=la.length:=⟨_,rfl⟩;have HN:=hid hn1;rw[← hn, ← hn1];rw[← hn1] at hl;unfold maxLen at hl;clear hn hn1 ha hb;have hi:((n:Int) != (n:Int))=false:=by simp
 go_enter Tryz.func204,Tryz.ntmps204;go_wp2_with fail;clear hi
 go_loopw [13] (fun kv wr=>∃ k:Nat,k≤n∧kv=int i64 (k:Int)∧Box (za [] w wr)∧Box (∀ (j:Nat),j<k→la[j]? = lb[j]?)) (fun kv _=>n - (intOf kv).toNat)
 case atStart=>exact ⟨0,by omega,rfl,hid (za.refl _ _),hid fun j hj=>by omega⟩
 case round=>
  obtain ⟨k,hk,rfl,HK,HJ⟩:=hrel;by_cases hlt:k<n
  ·have hlt':(k:Int)<(n:Int):=by omega
   have g1:=zi (l:=la) (k:=k) (d:=(0,0)) (by rw[← HN.o];exact hlt);have g2:=zi (l:=lb) (k:=k) (d:=(0,0)) (by rw[← HNL.o, ← HN.o];exact hlt);obtain ⟨b1,o1,rfl,t1⟩:=HA.o.at g1;obtain ⟨b2,o2,rfl,t2⟩:=HB.o.at g2;have c0:=zb HK.o t1.c0.1;have c1:=zb HK.o t1.c1.1;have d0:=zb HK.o t2.c0.1;have d1:=zb HK.o t2.c1.1;have HG:=hid (And.intro g1 g2);clear t1 t2 g1 g2;generalize la.getD k (0,0)=x at *;generalize lb.getD k (0,0)=y at *;have hlt_k:(k:Int)<(n:Int):=hlt';have HQ:Box (tyE x y=tyE (x.1,x.2) (y.1,y.2)):=hid rfl;cases hxy:tyE (x.1,x.2) (y.1,y.2) with
   | true=>
    have HXY:Box (x=y):=hid (zkW.1 hxy);go_upto_region 6 with fail;refine zr (W0:=wr) 26 [.slice (some ⟨b1,o1,none⟩) n ca,int i64 (k:Int),pointer (some ⟨b1,o1+k * 2,none⟩),agg #[int i64 x.1,int i64 x.2],.slice (some ⟨b2,o2,none⟩) n cb,int i64 (k:Int),pointer (some ⟨b2,o2+k * 2,none⟩),agg #[int i64 y.1,int i64 y.2],.bool false] (by kernel_rfl) (by rfl) (by kernel_rfl) (za.refl _ _) (fun A hA=> ?_);simp only[zH,Act.put,sTA,sC0,sCS] at hA;subst hA;refine ⟨gR (gR (gY (fun _ _=>JH rfl rfl rfl hlt_k) (gY (fun _ k9=>jq (zb k9 c0) (zb k9 c1) rfl rfl) (gR (gR (gY (fun _ _=>JH rfl rfl rfl hlt_k) (gY (fun _ k9=>jq (zb k9 d0) (zb k9 d1) rfl rfl) (gY (fun _ _=>zig rfl rfl rfl hxy) (zn.nil))))))))),fun w8 k8=> ?_⟩;go_wp2_with fail;go_roundw
    case rel=>
     refine ⟨k+1,by omega,by go_num,hid (HK.o.quiet k8),hid fun j hj=> ?_⟩;by_cases hjk:j=k
     ·subst hjk
      rw[HG.o.1,HG.o.2,HXY.o]
     ·exact HJ.o j (by omega)
    case measure=>simp[intOf];omega
   | false=>
    have HXY:Box (x≠y):=hid fun e=>by
     have:=zkW.2 e;rw[HQ.o,hxy] at this;cases this
    go_upto_region 6 with fail;refine zr (W0:=wr) 26 [.slice (some ⟨b1,o1,none⟩) n ca,int i64 (k:Int),pointer (some ⟨b1,o1+k * 2,none⟩),agg #[int i64 x.1,int i64 x.2],.slice (some ⟨b2,o2,none⟩) n cb,int i64 (k:Int),pointer (some ⟨b2,o2+k * 2,none⟩),agg #[int i64 y.1,int i64 y.2],.bool true] (by kernel_rfl) (by rfl) (by kernel_rfl) (za.refl _ _) (fun A hA=> ?_);simp only[zH,Act.put,sTA,sC0,sCS] at hA;subst hA;refine ⟨gR (gR (gY (fun _ _=>JH rfl rfl rfl hlt_k) (gY (fun _ k9=>jq (zb k9 c0) (zb k9 c1) rfl rfl) (gR (gR (gY (fun _ _=>JH rfl rfl rfl hlt_k) (gY (fun _ k9=>jq (zb k9 d0) (zb k9 d1) rfl rfl) (gY (fun _ _=>zig rfl rfl rfl hxy) (zn.nil))))))))),fun w8 k8=> ?_⟩;go_wp2_with fail;go_ret;exact ⟨by rw[HE.o x y k HG.o.1 HG.o.2 HXY.o];rfl,HK.o.quiet k8⟩
  ·obtain rfl:k=n:=by omega
   go_wp2_with fail;go_ret;exact ⟨by rw[HT.o fun j hj=>HJ.o j (by rw[HN.o];exact hj)];rfl,HK.o⟩
theorem zlm{b:Option Addr}{la lb:List (Int × Int)}(ha:zq w 2 TyC a la)(hb:zq w 2 TyC b lb)(ca cb:Nat)(hl:la.length≤maxLen){r:Bool}(hr:decide (la=lb)=r){n m:Nat}(hn:n=la.length)(hm:m=lb.length):Calls Tryz.prog 204 #[.slice a n ca,.slice b m cb] w fun e w'=>e=.returned (.bool r)∧za [] w w':=by
 subst hr hn hm;exact zjp ha hb ca cb hl
theorem zi4(h:PrC w pb po P)(f r n:Int):Calls Tryz.prog 172 #[pointer (some ⟨pb,po,none⟩),int i64 f,agg #[int i64 1,int i64 r],int i64 n] w fun e w'=>e=.returned (.bool (isM P r f n))∧za [] w w':=by
 have ka:=za.alloc [] w (.cells #[int i64 1,int i64 r] 60);have hq:=ze w (.cells #[int i64 1,int i64 r] 60);have h':=PrC.stays _ _ _ _ _ ka h;obtain ⟨fa,fp,c4,fr,_⟩:=h'.c4;obtain ⟨sa,sp,c1,sr,_⟩:=h'.c1;obtain ⟨res,hres⟩:∃ x,x=isM P r f n:=⟨_,rfl⟩;rw[← hres];unfold isM at hres;have HRES:=hid hres;have KA:=hid ka;have HFR:=hid fr;have HSR:=hid sr;clear h h' ka hres fr sr;have q0:=zc hq 0;have q1:=zc hq 1;obtain ⟨FN,hFN⟩:∃ x,x=P.funcs.length:=⟨_,rfl⟩;obtain ⟨SN,hSN⟩:∃ x,x=P.sigs.length:=⟨_,rfl⟩;rw[← hFN] at c4 HRES;rw[← hSN] at c1 HRES;have HFN:=hid hFN;have HSN:=hid hSN;clear hFN hSN hq;obtain ⟨W,hW⟩:∃ W,W=w.alloc (.cells #[int i64 1,int i64 r] 60):=⟨_,rfl⟩;have HW:=hid hW;rw[← hW] at c4 c1 q0 q1 KA HFR HSR;clear hW;go_enter Tryz.func172,Tryz.ntmps172;go_upto_region 1 with fail;rw[← HW.o];clear HW;generalize w.heap.size=q at *;cases hf:inB f FN with
 | false=>
  have HR:Box (res=false):=hid (by rw[HRES.o,hf];rfl);refine zr (W0:=W) 104 [int i64 f,pointer (some ⟨pb,po,none⟩),pointer (some ⟨pb,po,none⟩),pointer (some ⟨pb,po+4,none⟩),.slice fa FN fp,int i64 (FN:Int),.bool false,.bool true,.bool true,undef,undef,undef,undef,undef,undef,undef,undef,undef,undef,undef,undef,undef,undef,undef,.bool true,.bool true,undef,undef,undef,undef,undef,undef,undef,undef,.bool true] (by kernel_rfl) (by rfl) (by kernel_rfl) (za.refl _ _) (fun A hA=> ?_);simp only[zH,Act.put,sTA,sC0,sCS] at hA;subst hA;refine ⟨gR (gR (gR (gR (gY (fun _ k9=>jN (zb k9 c4) rfl rfl) (gY (fun _ _=>Qv rfl rfl) (zn.cons (zG (by rfl) 171 #[int i64 f,int i64 (FN:Int)] (fun w=>qD rfl rfl rfl rfl (zJ _ _ w)) (fun w9 _=>zK f FN w9 hf)) (gY (fun _ _=>zby rfl rfl) (gR (gP (gP (gP (gP (gP (gP (gP (gP (gP (gP (gP (gP (gP (gP (gP (gR (gR (gP (gP (gP (gP (gP (gP (gP (gP (gR (zn.nil))))))))))))))))))))))))))))))))))),fun w8 k8=> ?_⟩;go_wp2_with fail;go_ret;exact ⟨by rw[HR.o];rfl,KA.o.quiet k8⟩
 | true=>
 obtain ⟨f0,f1⟩:=zm.1 hf;obtain ⟨K,rfl⟩:∃ K:Nat,f=(K:Int):=⟨f.toNat,by omega⟩;have eK:((K:Int)).toNat=K:=by omega
 rw[hf,Bool.true_and,eK] at HRES;have hlt_K:(K:Int)<(FN:Int):=f1;obtain ⟨fb,fo,rfl,hfu⟩:=HFR.o.at (zi (l:=P.funcs) (k:=K) (d:=⟨0,[],[]⟩) (by rw[← HFN.o];omega));have g0:W.cell? ⟨fb,fo+K * 3,none⟩=some (int i64 (zf P K).sig):=hfu.c0.1;clear hfu f0 eK HFN HFR;obtain ⟨sn,hsn⟩:∃ x,x=(zf P K).sig:=⟨_,rfl⟩;rw[← hsn] at g0 HRES;clear hsn;cases hs:inB sn SN with
 | false=>
  have HR:Box (res=false):=hid (by rw[HRES.o,hs];rfl);refine zr (W0:=W) 104 [int i64 (K:Int),pointer (some ⟨pb,po,none⟩),pointer (some ⟨pb,po,none⟩),pointer (some ⟨pb,po+4,none⟩),.slice (some ⟨fb,fo,none⟩) FN fp,int i64 (FN:Int),.bool true,.bool false,.bool false,pointer (some ⟨pb,po,none⟩),pointer (some ⟨pb,po,none⟩),pointer (some ⟨pb,po+4,none⟩),.slice (some ⟨fb,fo,none⟩) FN fp,int i64 (K:Int),pointer (some ⟨fb,fo+K * 3,none⟩),pointer (some ⟨fb,fo+K * 3,none⟩),int i64 sn,pointer (some ⟨pb,po,none⟩),pointer (some ⟨pb,po,none⟩),pointer (some ⟨pb,po+1,none⟩),.slice sa SN sp,int i64 (SN:Int),.bool false,.bool true,.bool true,.bool true,undef,undef,undef,undef,undef,undef,undef,undef,.bool true] (by kernel_rfl) (by rfl) (by kernel_rfl) (za.refl _ _) (fun A hA=> ?_);simp only[zH,Act.put,sTA,sC0,sCS] at hA;subst hA;refine ⟨gR (gR (gR (gR (gY (fun _ k9=>jN (zb k9 c4) rfl rfl) (gY (fun _ _=>Qv rfl rfl) (zn.cons (zG (by rfl) 171 #[int i64 (K:Int),int i64 (FN:Int)] (fun w=>qD rfl rfl rfl rfl (zJ _ _ w)) (fun w9 _=>zK (K:Int) FN w9 hf)) (gY (fun _ _=>zby rfl rfl) (gR (gR (gR (gR (gY (fun _ k9=>jN (zb k9 c4) rfl rfl) (gR (gY (fun _ _=>JC rfl rfl rfl hlt_K) (gR (gY (fun _ k9=>qo (zb k9 g0) rfl rfl) (gR (gR (gR (gY (fun _ k9=>j4 (zb k9 c1) rfl rfl) (gY (fun _ _=>jR rfl rfl) (zn.cons (zG (by rfl) 171 #[int i64 sn,int i64 (SN:Int)] (fun w=>qD rfl rfl rfl rfl (zJ _ _ w)) (fun w9 _=>zK sn SN w9 hs)) (gY (fun _ _=>zby rfl rfl) (gR (gR (gP (gP (gP (gP (gP (gP (gP (gP (gR (zn.nil))))))))))))))))))))))))))))))))))),fun w8 k8=> ?_⟩;go_wp2_with fail;go_ret;exact ⟨by rw[HR.o];rfl,KA.o.quiet k8⟩
 | true=>
 obtain ⟨s0,s1⟩:=zm.1 hs;obtain ⟨J,rfl⟩:∃ J:Nat,sn=(J:Int):=⟨sn.toNat,by omega⟩;rw[hs,Bool.true_and] at HRES;have hlt_J:(J:Int)<(SN:Int):=s1;cases hn:inB n SN with
 | false=>
  have HR:Box (res=false):=hid (by rw[HRES.o,hn];rfl);refine zr (W0:=W) 104 [int i64 (K:Int),pointer (some ⟨pb,po,none⟩),pointer (some ⟨pb,po,none⟩),pointer (some ⟨pb,po+4,none⟩),.slice (some ⟨fb,fo,none⟩) FN fp,int i64 (FN:Int),.bool true,.bool false,.bool false,pointer (some ⟨pb,po,none⟩),pointer (some ⟨pb,po,none⟩),pointer (some ⟨pb,po+4,none⟩),.slice (some ⟨fb,fo,none⟩) FN fp,int i64 (K:Int),pointer (some ⟨fb,fo+K * 3,none⟩),pointer (some ⟨fb,fo+K * 3,none⟩),int i64 (J:Int),pointer (some ⟨pb,po,none⟩),pointer (some ⟨pb,po,none⟩),pointer (some ⟨pb,po+1,none⟩),.slice sa SN sp,int i64 (SN:Int),.bool true,.bool false,.bool false,.bool false,int i64 n,pointer (some ⟨pb,po,none⟩),pointer (some ⟨pb,po,none⟩),pointer (some ⟨pb,po+1,none⟩),.slice sa SN sp,int i64 (SN:Int),.bool false,.bool true,.bool true] (by kernel_rfl) (by rfl) (by kernel_rfl) (za.refl _ _) (fun A hA=> ?_);simp only[zH,Act.put,sTA,sC0,sCS] at hA;subst hA;refine ⟨gR (gR (gR (gR (gY (fun _ k9=>jN (zb k9 c4) rfl rfl) (gY (fun _ _=>Qv rfl rfl) (zn.cons (zG (by rfl) 171 #[int i64 (K:Int),int i64 (FN:Int)] (fun w=>qD rfl rfl rfl rfl (zJ _ _ w)) (fun w9 _=>zK (K:Int) FN w9 hf)) (gY (fun _ _=>zby rfl rfl) (gR (gR (gR (gR (gY (fun _ k9=>jN (zb k9 c4) rfl rfl) (gR (gY (fun _ _=>JC rfl rfl rfl hlt_K) (gR (gY (fun _ k9=>qo (zb k9 g0) rfl rfl) (gR (gR (gR (gY (fun _ k9=>j4 (zb k9 c1) rfl rfl) (gY (fun _ _=>jR rfl rfl) (zn.cons (zG (by rfl) 171 #[int i64 (J:Int),int i64 (SN:Int)] (fun w=>qD rfl rfl rfl rfl (zJ _ _ w)) (fun w9 _=>zK (J:Int) SN w9 hs)) (gY (fun _ _=>zby rfl rfl) (gR (gR (gR (gR (gR (gR (gY (fun _ k9=>j4 (zb k9 c1) rfl rfl) (gY (fun _ _=>jR rfl rfl) (zn.cons (zG (by rfl) 171 #[int i64 n,int i64 (SN:Int)] (fun w=>qD rfl rfl rfl rfl (zJ _ _ w)) (fun w9 _=>zK n SN w9 hn)) (gY (fun _ _=>zby rfl rfl) (gR (zn.nil))))))))))))))))))))))))))))))))))),fun w8 k8=> ?_⟩;go_wp2_with fail;go_ret;exact ⟨by rw[HR.o];rfl,KA.o.quiet k8⟩
 | true=>
 obtain ⟨n0,n1⟩:=zm.1 hn;obtain ⟨I,rfl⟩:∃ I:Nat,n=(I:Int):=⟨n.toNat,by omega⟩;rw[hn,Bool.true_and] at HRES;have hlt_I:(I:Int)<(SN:Int):=n1;obtain ⟨sb,so,rfl,h1⟩:=HSR.o.at (zi (l:=P.sigs) (k:=J) (d:=([],0,0)) (by rw[← HSN.o];omega));obtain ⟨sb',so',e2,h2⟩:=HSR.o.at (zi (l:=P.sigs) (k:=I) (d:=([],0,0)) (by rw[← HSN.o];omega));cases e2;have HRES2:Box (res=mtB r (P.sigs.getD J ([],0,0)) (P.sigs.getD I ([],0,0))):=hid (by rw[HRES.o];unfold QW;rw[Int.toNat_natCast,Int.toNat_natCast]);clear HRES HSR HSN s0 n0;generalize P.sigs.getD J ([],0,0)=A1 at *;generalize P.sigs.getD I ([],0,0)=A2 at *;obtain ⟨l1,y1,z1⟩:=A1;obtain ⟨l2,y2,z2⟩:=A2;obtain ⟨ta,tp,tc,tr,tl,tm⟩:=h1.c0;obtain ⟨ua,up,uc,ur,_⟩:=h2.c0;have a1:=h1.c1.1;have a2:=h1.c2.1;have b1:=h2.c1.1;have b2:=h2.c2.1;simp only at tc tr tl tm uc ur a1 a2 b1 b2;have HTR:=hid tr;have HUR:=hid ur;have HTL:=hid (And.intro tl tm);clear h1 h2 tr ur tl tm;refine zr (W0:=W) 104 [int i64 (K:Int),pointer (some ⟨pb,po,none⟩),pointer (some ⟨pb,po,none⟩),pointer (some ⟨pb,po+4,none⟩),.slice (some ⟨fb,fo,none⟩) FN fp,int i64 (FN:Int),.bool true,.bool false,.bool false,pointer (some ⟨pb,po,none⟩),pointer (some ⟨pb,po,none⟩),pointer (some ⟨pb,po+4,none⟩),.slice (some ⟨fb,fo,none⟩) FN fp,int i64 (K:Int),pointer (some ⟨fb,fo+K * 3,none⟩),pointer (some ⟨fb,fo+K * 3,none⟩),int i64 (J:Int),pointer (some ⟨pb,po,none⟩),pointer (some ⟨pb,po,none⟩),pointer (some ⟨pb,po+1,none⟩),.slice (some ⟨sb,so,none⟩) SN sp,int i64 (SN:Int),.bool true,.bool false,.bool false,.bool false,int i64 (I:Int),pointer (some ⟨pb,po,none⟩),pointer (some ⟨pb,po,none⟩),pointer (some ⟨pb,po+1,none⟩),.slice (some ⟨sb,so,none⟩) SN sp,int i64 (SN:Int),.bool true,.bool false,.bool false] (by kernel_rfl) (by rfl) (by kernel_rfl) (za.refl _ _) (fun A hA=> ?_);simp only[zH,Act.put,sTA,sC0,sCS] at hA;subst hA;refine ⟨gR (gR (gR (gR (gY (fun _ k9=>jN (zb k9 c4) rfl rfl) (gY (fun _ _=>Qv rfl rfl) (zn.cons (zG (by rfl) 171 #[int i64 (K:Int),int i64 (FN:Int)] (fun w=>qD rfl rfl rfl rfl (zJ _ _ w)) (fun w9 _=>zK (K:Int) FN w9 hf)) (gY (fun _ _=>zby rfl rfl) (gR (gR (gR (gR (gY (fun _ k9=>jN (zb k9 c4) rfl rfl) (gR (gY (fun _ _=>JC rfl rfl rfl hlt_K) (gR (gY (fun _ k9=>qo (zb k9 g0) rfl rfl) (gR (gR (gR (gY (fun _ k9=>j4 (zb k9 c1) rfl rfl) (gY (fun _ _=>jR rfl rfl) (zn.cons (zG (by rfl) 171 #[int i64 (J:Int),int i64 (SN:Int)] (fun w=>qD rfl rfl rfl rfl (zJ _ _ w)) (fun w9 _=>zK (J:Int) SN w9 hs)) (gY (fun _ _=>zby rfl rfl) (gR (gR (gR (gR (gR (gR (gY (fun _ k9=>j4 (zb k9 c1) rfl rfl) (gY (fun _ _=>jR rfl rfl) (zn.cons (zG (by rfl) 171 #[int i64 (I:Int),int i64 (SN:Int)] (fun w=>qD rfl rfl rfl rfl (zJ _ _ w)) (fun w9 _=>zK (I:Int) SN w9 hn)) (gY (fun _ _=>zby rfl rfl) (gR (zn.nil))))))))))))))))))))))))))))))))))),fun w3 k3=> ?_⟩;have KZ:=hid (KA.o.quiet k3);have K3:=hid k3;replace c4:=zb k3 c4;replace c1:=zb k3 c1;replace g0:=zb k3 g0;replace q0:=zb k3 q0;replace q1:=zb k3 q1;replace tc:=zb k3 tc;replace uc:=zb k3 uc;replace a1:=zb k3 a1;replace a2:=zb k3 a2;replace b1:=zb k3 b1
 replace b2:=zb k3 b2;clear k3;go_upto_region 3 with fail;refine zr (W0:=w3) 104 [pointer (some ⟨pb,po,none⟩),pointer (some ⟨pb,po,none⟩),pointer (some ⟨pb,po+1,none⟩),.slice (some ⟨sb,so,none⟩) SN sp,pointer (some ⟨pb,po,none⟩),pointer (some ⟨pb,po,none⟩),pointer (some ⟨pb,po+4,none⟩),.slice (some ⟨fb,fo,none⟩) FN fp,int i64 (K:Int),pointer (some ⟨fb,fo+K * 3,none⟩),pointer (some ⟨fb,fo+K * 3,none⟩),int i64 (J:Int),pointer (some ⟨sb,so+J * 3,none⟩),pointer (some ⟨pb,po,none⟩),pointer (some ⟨pb,po,none⟩),pointer (some ⟨pb,po+1,none⟩),.slice (some ⟨sb,so,none⟩) SN sp,int i64 (I:Int),pointer (some ⟨sb,so+I * 3,none⟩),pointer (some ⟨sb,so+J * 3,none⟩),pointer (some ⟨sb,so+I * 3,none⟩)] (by kernel_rfl) (by rfl) (by kernel_rfl) (za.refl _ _) (fun A hA=> ?_);simp only[zH,Act.put,sTA,sC0,sCS] at hA;subst hA;refine ⟨gR (gR (gR (gY (fun _ k9=>j4 (zb k9 c1) rfl rfl) (gR (gR (gR (gY (fun _ k9=>jN (zb k9 c4) rfl rfl) (gR (gY (fun _ _=>JC rfl rfl rfl hlt_K) (gR (gY (fun _ k9=>qo (zb k9 g0) rfl rfl) (gY (fun _ _=>zcz rfl rfl rfl hlt_J) (gR (gR (gR (gY (fun _ k9=>j4 (zb k9 c1) rfl rfl) (gR (gY (fun _ _=>zcz rfl rfl rfl hlt_I) (gR (gR (zn.nil))))))))))))))))))))),fun w4 k4=> ?_⟩;have KY:=hid (KZ.o.quiet k4);have K4:=hid (K3.o.quiet k4);replace q0:=zb k4 q0;replace q1:=zb k4 q1;replace tc:=zb k4 tc;replace uc:=zb k4 uc;replace a1:=zb k4 a1;replace a2:=zb k4 a2;replace b1:=zb k4 b1;replace b2:=zb k4 b2;clear k4 c4 c1 g0 K3 KZ;go_upto_region 4 with fail;cases l1 with
 | nil=>
  have HR:Box (res=false):=hid (by rw[HRES2.o];unfold mtB;simp);clear HRES2;obtain ⟨Z,hZ⟩:∃ Z:Nat,Z=0:=⟨_,rfl⟩;rw[List.length_nil, ← hZ] at tc;have hz:decide ((0:Int)<(Z:Int))=false:=by rw[hZ];decide
  clear hZ;refine zr (W0:=w4) 104 [pointer (some ⟨sb,so+J * 3,none⟩),pointer (some ⟨sb,so+J * 3,none⟩),pointer (some ⟨sb,so+J * 3,none⟩),.slice ta Z tp,int i64 (Z:Int),.bool false,.bool false,undef,undef,undef,undef,undef,undef,undef,undef,.bool false,.bool false,undef,undef,undef,undef,undef,undef,undef,undef,undef,undef,.bool false,.bool false,undef,undef,undef,undef,undef,undef,undef,undef,undef,.bool false,.bool false] (by kernel_rfl) (by rfl) (by kernel_rfl) (za.refl _ _) (fun A hA=> ?_);simp only[zH,Act.put,sTA,sC0,sCS] at hA;subst hA;refine ⟨gR (gR (gR (gY (fun _ k9=>qY (zb k9 tc) rfl rfl) (gY (fun _ _=>Qq rfl rfl) (gY (fun _ _=>zcv rfl rfl rfl hz) (gR (gP (gP (gP (gP (gP (gP (gP (gP (gR (gR (gP (gP (gP (gP (gP (gP (gP (gP (gP (gP (gR (gR (gP (gP (gP (gP (gP (gP (gP (gP (gP (gR (gR (zn.nil)))))))))))))))))))))))))))))))))))))))),fun w8 k8=> ?_⟩;go_wp2_with fail;go_ret;exact ⟨by rw[HR.o];rfl,KY.o.quiet k8⟩
 | cons x l=>
 obtain ⟨L,hL⟩:∃ L,L=l.length:=⟨_,rfl⟩;have HL:=hid hL;rw[List.length_cons, ← hL] at tc;have htl:=HTL.o.1;rw[List.length_cons, ← hL] at htl;obtain ⟨C,hC⟩:∃ C,tp=C+1:=⟨tp - 1,by omega⟩;have hLC:l.length≤C:=by omega
 clear hL htl;have hpos:decide ((0:Int)<((L+1:Nat):Int))=true:=decide_eq_true (by omega);obtain ⟨tb,tq,rfl,tx⟩:=HTR.o.at (j:=0) (y:=x) rfl;obtain ⟨ad,had⟩:∃ ad:Option Addr,ad=if C=0 then some ⟨tb,tq,none⟩ else some ⟨tb,tq+2,none⟩:=⟨_,rfl⟩
 have x0:=zb K4.o tx.c0.1;have x1:=zb K4.o tx.c1.1;rw[Nat.zero_mul,Nat.add_zero] at x0 x1;clear tx;obtain ⟨x0v,x1v⟩:=x;simp only at x0 x1;have hl0:(0:Int)<((L+1:Nat):Int):=by omega
 obtain ⟨M,hM⟩:∃ M,M=L+1:=⟨_,rfl⟩;rw[← hM] at tc hpos hl0;have HM:=hid hM;cases hx:tyE (x0v,x1v) (1,r) with
 | false=>
  have HR:Box (res=false):=hid (by
   rw[HRES2.o];unfold mtB;rw[Bool.and_eq_false_iff];left;rw[decide_eq_false_iff_not];intro e;have:=(List.cons.inj e).1;rw[zkW.2 this] at hx
   cases hx)
  clear HRES2;refine zr (W0:=w4) 104 [pointer (some ⟨sb,so+J * 3,none⟩),pointer (some ⟨sb,so+J * 3,none⟩),pointer (some ⟨sb,so+J * 3,none⟩),.slice (some ⟨tb,tq,none⟩) M tp,int i64 (M:Int),.bool true,.bool true,pointer (some ⟨sb,so+J * 3,none⟩),pointer (some ⟨sb,so+J * 3,none⟩),pointer (some ⟨sb,so+J * 3,none⟩),.slice (some ⟨tb,tq,none⟩) M tp,pointer (some ⟨tb,tq,none⟩),agg #[int i64 x0v,int i64 x1v],agg #[int i64 1,int i64 r],.bool false,.bool false,.bool false,undef,undef,undef,undef,undef,undef,undef,undef,undef,undef,.bool false,.bool false,undef,undef,undef,undef,undef,undef,undef,undef,undef,.bool false,.bool false] (by kernel_rfl) (by rfl) (by kernel_rfl) (za.refl _ _) (fun A hA=> ?_);simp only[zH,Act.put,sTA,sC0,sCS] at hA;subst hA;refine ⟨gR (gR (gR (gY (fun _ k9=>qY (zb k9 tc) rfl rfl) (gY (fun _ _=>Qq rfl rfl) (gY (fun _ _=>zcv rfl rfl rfl hpos) (gR (gR (gR (gR (gY (fun _ k9=>qY (zb k9 tc) rfl rfl) (gY (fun _ _=>zmd rfl rfl rfl hl0) (gY (fun _ k9=>jq (zb k9 x0) (zb k9 x1) rfl rfl) (gY (fun _ k9=>jq (zb k9 q0) (zb k9 q1) rfl rfl) (gY (fun _ _=>zgo rfl rfl rfl hx) (gR (gR (gP (gP (gP (gP (gP (gP (gP (gP (gP (gP (gR (gR (gP (gP (gP (gP (gP (gP (gP (gP (gP (gR (gR (zn.nil)))))))))))))))))))))))))))))))))))))))),fun w8 k8=> ?_⟩;go_wp2_with fail;go_ret;exact ⟨by rw[HR.o];rfl,KY.o.quiet k8⟩
 | true=>
 have HXE:=hid (zkW.1 hx);have hul:=uc;cases he:decide (l=l2) with
 | false=>
  have HR:Box (res=false):=hid (by
   rw[HRES2.o];unfold mtB;rw[Bool.and_eq_false_iff];left;rw[decide_eq_false_iff_not] at he ⊢
   exact fun e=>he (List.cons.inj e).2)
  clear HRES2;have HSQ:=hid fun (w9:World) (k9:za [] w4 w9)=>zlm (zq.quiet (zaq HTR.o had hLC) TyC.stays (K4.o.quiet k9)) (zq.quiet HUR.o TyC.stays (K4.o.quiet k9)) C up (by have:=HTL.o.2;simp at this;omega) he HL.o rfl;refine zr (W0:=w4) 104 [pointer (some ⟨sb,so+J * 3,none⟩),pointer (some ⟨sb,so+J * 3,none⟩),pointer (some ⟨sb,so+J * 3,none⟩),.slice (some ⟨tb,tq,none⟩) M tp,int i64 (M:Int),.bool true,.bool true,pointer (some ⟨sb,so+J * 3,none⟩),pointer (some ⟨sb,so+J * 3,none⟩),pointer (some ⟨sb,so+J * 3,none⟩),.slice (some ⟨tb,tq,none⟩) M tp,pointer (some ⟨tb,tq,none⟩),agg #[int i64 x0v,int i64 x1v],agg #[int i64 1,int i64 r],.bool true,.bool true,.bool true,pointer (some ⟨sb,so+J * 3,none⟩),pointer (some ⟨sb,so+J * 3,none⟩),pointer (some ⟨sb,so+J * 3,none⟩),.slice (some ⟨tb,tq,none⟩) M tp,.slice ad L C,pointer (some ⟨sb,so+I * 3,none⟩),pointer (some ⟨sb,so+I * 3,none⟩),pointer (some ⟨sb,so+I * 3,none⟩),.slice ua l2.length up,.bool false,.bool false,.bool false,undef,undef,undef,undef,undef,undef,undef,undef,undef,.bool false,.bool false] (by kernel_rfl) (by rfl) (by kernel_rfl) (za.refl _ _) (fun A hA=> ?_);simp only[zH,Act.put,sTA,sC0,sCS] at hA;subst hA;refine ⟨gR (gR (gR (gY (fun _ k9=>qY (zb k9 tc) rfl rfl) (gY (fun _ _=>Qq rfl rfl) (gY (fun _ _=>zcv rfl rfl rfl hpos) (gR (gR (gR (gR (gY (fun _ k9=>qY (zb k9 tc) rfl rfl) (gY (fun _ _=>zmd rfl rfl rfl hl0) (gY (fun _ k9=>jq (zb k9 x0) (zb k9 x1) rfl rfl) (gY (fun _ k9=>jq (zb k9 q0) (zb k9 q1) rfl rfl) (gY (fun _ _=>zgo rfl rfl rfl hx) (gR (gR (gR (gR (gR (gY (fun _ k9=>qY (zb k9 tc) rfl rfl) (gY (fun _ _=>zne rfl rfl rfl hM hC had) (gR (gR (gR (gY (fun _ k9=>qY (zb k9 uc) rfl rfl) (zn.cons (zG (by rfl) 204 #[.slice ad L C,.slice ua l2.length up] (fun w=>qD rfl rfl rfl rfl (za3 _ _ w)) (fun w9 k9=>HSQ.o w9 k9)) (gR (gR (gP (gP (gP (gP (gP (gP (gP (gP (gP (gR (gR (zn.nil)))))))))))))))))))))))))))))))))))))))),fun w8 k8=> ?_⟩;clear had;go_wp2_with fail;go_ret;exact ⟨by rw[HR.o];rfl,KY.o.quiet k8⟩
 | true=>
  have HSQ:=hid fun (w9:World) (k9:za [] w4 w9)=>zlm (zq.quiet (zaq HTR.o had hLC) TyC.stays (K4.o.quiet k9)) (zq.quiet HUR.o TyC.stays (K4.o.quiet k9)) C up (by have:=HTL.o.2;simp at this;omega) he HL.o rfl
  have HR:Box (res=tyE (y1,z1) (y2,z2)):=hid (by
   rw[HRES2.o];unfold mtB;rw[decide_eq_true_eq] at he;rw[HXE.o,he]
   simp)
  clear HRES2;refine zr (W0:=w4) 104 [pointer (some ⟨sb,so+J * 3,none⟩),pointer (some ⟨sb,so+J * 3,none⟩),pointer (some ⟨sb,so+J * 3,none⟩),.slice (some ⟨tb,tq,none⟩) M tp,int i64 (M:Int),.bool true,.bool true,pointer (some ⟨sb,so+J * 3,none⟩),pointer (some ⟨sb,so+J * 3,none⟩),pointer (some ⟨sb,so+J * 3,none⟩),.slice (some ⟨tb,tq,none⟩) M tp,pointer (some ⟨tb,tq,none⟩),agg #[int i64 x0v,int i64 x1v],agg #[int i64 1,int i64 r],.bool true,.bool true,.bool true,pointer (some ⟨sb,so+J * 3,none⟩),pointer (some ⟨sb,so+J * 3,none⟩),pointer (some ⟨sb,so+J * 3,none⟩),.slice (some ⟨tb,tq,none⟩) M tp,.slice ad L C,pointer (some ⟨sb,so+I * 3,none⟩),pointer (some ⟨sb,so+I * 3,none⟩),pointer (some ⟨sb,so+I * 3,none⟩),.slice ua l2.length up,.bool true,.bool true,.bool true,pointer (some ⟨sb,so+J * 3,none⟩),pointer (some ⟨sb,so+J * 3,none⟩),pointer (some ⟨sb,so+J * 3+1,none⟩),agg #[int i64 y1,int i64 z1],pointer (some ⟨sb,so+I * 3,none⟩),pointer (some ⟨sb,so+I * 3,none⟩),pointer (some ⟨sb,so+I * 3+1,none⟩),agg #[int i64 y2,int i64 z2],.bool (tyE (y1,z1) (y2,z2)),.bool (tyE (y1,z1) (y2,z2)),.bool (tyE (y1,z1) (y2,z2))] (by kernel_rfl) (by rfl) (by kernel_rfl) (za.refl _ _) (fun A hA=> ?_);simp only[zH,Act.put,sTA,sC0,sCS] at hA;subst hA;refine ⟨gR (gR (gR (gY (fun _ k9=>qY (zb k9 tc) rfl rfl) (gY (fun _ _=>Qq rfl rfl) (gY (fun _ _=>zcv rfl rfl rfl hpos) (gR (gR (gR (gR (gY (fun _ k9=>qY (zb k9 tc) rfl rfl) (gY (fun _ _=>zmd rfl rfl rfl hl0) (gY (fun _ k9=>jq (zb k9 x0) (zb k9 x1) rfl rfl) (gY (fun _ k9=>jq (zb k9 q0) (zb k9 q1) rfl rfl) (gY (fun _ _=>zgo rfl rfl rfl hx) (gR (gR (gR (gR (gR (gY (fun _ k9=>qY (zb k9 tc) rfl rfl) (gY (fun _ _=>zne rfl rfl rfl hM hC had) (gR (gR (gR (gY (fun _ k9=>qY (zb k9 uc) rfl rfl) (zn.cons (zG (by rfl) 204 #[.slice ad L C,.slice ua l2.length up] (fun w=>qD rfl rfl rfl rfl (za3 _ _ w)) (fun w9 k9=>HSQ.o w9 k9)) (gR (gR (gR (gR (gR (gY (fun _ k9=>jq (zb k9 a1) (zb k9 a2) rfl rfl) (gR (gR (gR (gY (fun _ k9=>jq (zb k9 b1) (zb k9 b2) rfl rfl) (gY (fun _ _=>zgo rfl rfl rfl rfl) (gR (gR (zn.nil)))))))))))))))))))))))))))))))))))))))),fun w8 k8=> ?_⟩;clear had;go_wp2_with fail;go_ret;exact ⟨by rw[HR.o];rfl,KY.o.quiet k8⟩
section
variable {P:Program}{ops:Array Oper}{Q:Exit→Act→World→Prop}{S:World→Prop}{E:Array Bool→World→Prop}
def zb4 (P : Program) (ops : Array Oper) (A : Act) (S : World → Prop) (E : Array Bool → World → Prop) (i : Nat) (o : Oper) (v : Value) : Prop :=
  (Region.wanted o (yielded ops A.tmps) = true ∧ ∀ l w, i < l.size → S w → E l w →
    ((∃ w', (execOp A.eval o).run P w = .ok (.value v) w' ∧ S w' ∧ E (l.setIfInBounds i true) w') ∨
     (∃ w', (execOp A.eval o).run P w = .ok .skip w' ∧ v = undef ∧ S w' ∧ E (l.setIfInBounds i true) w') ∨
     (∃ f args, (execOp A.eval o).run P w = .ok (.enter f args) w ∧ Calls P f args w fun e w' => e = .returned v ∧ S w' ∧ E (l.setIfInBounds i true) w'))) ∨
  (Region.wanted o (yielded ops A.tmps) = false ∧ v = undef ∧ ∀ l w, S w → E l w → E (l.setIfInBounds i true) w)
theorem QP{A:Act}{i:Nat}{o:Oper}{v:Value}(hw:Region.wanted o (yielded ops A.tmps)=true)(hE:∀ l w,E l w→E (l.setIfInBounds i true) w)(h:∀ w,S w→(execOp A.eval o).run P w=.ok (.value v) w):zb4 P ops A S E i o v:=
 .inl ⟨hw,fun l w _ hs he=>.inl ⟨w,h w hs,hs,hE l w he⟩⟩
theorem zkc{A:Act}{i:Nat}{o:Oper}(hw:Region.wanted o (yielded ops A.tmps)=false)(hE:∀ l w,E l w→E (l.setIfInBounds i true) w):zb4 P ops A S E i o undef:=.inr ⟨hw,rfl,fun l w _ he=>hE l w he⟩
theorem zc9{A:Act}{i:Nat}{o:Oper}(hw:Region.wanted o (yielded ops A.tmps)=true)(h:∀ l w,i<l.size→S w→E l w→∃ w',(execOp A.eval o).run P w=.ok .skip w'∧S w'∧E (l.setIfInBounds i true) w'):zb4 P ops A S E i o undef:=
 .inl ⟨hw,fun l w hi hs he=>by
  obtain ⟨w',h1,h2,h3⟩:=h l w hi hs he
  exact .inr (.inl ⟨w',h1,rfl,h2,h3⟩)⟩
theorem zkj{A:Act}{i:Nat}{o:Oper}{v:Value}(hw:Region.wanted o (yielded ops A.tmps)=true)(f:Nat)(args:Array Value)(he:∀ w,(execOp A.eval o).run P w=.ok (.enter f args) w)
  (hc:∀ l w,i<l.size→S w→E l w→Calls P f args w fun e w'=>e=.returned v∧S w'∧E (l.setIfInBounds i true) w'):zb4 P ops A S E i o v:=
 .inl ⟨hw,fun l w hi hs hE=>.inr (.inr ⟨f,args,he w,hc l w hi hs hE⟩)⟩
def zM(P:Program)(ops:Array Oper)(A:Act)(S:World→Prop)(E:Array Bool→World→Prop):Nat→List Oper→List Value→Prop
 | i,o :: os,v :: vs=>zb4 P ops A S E i o v∧zM P ops A S E (i+1) os vs
 | _,[],[]=>True
 | _,_,_=>False
theorem zM.cons{A:Act}{i:Nat}{o:Oper}{v:Value}{os:List Oper}{vs:List Value}(h:zb4 P ops A S E i o v)(t:zM P ops A S E (i+1) os vs):zM P ops A S E i (o :: os) (v :: vs):=⟨h,t⟩
theorem gER{A:Act}{i:Nat}{o:Oper}{v:Value}{os:List Oper}{vs:List Value}(t:zM P ops A S E (i+1) os vs)(hE:∀ l w,E l w→E (l.setIfInBounds i true) w:=by exact fun _ _ h=>h.keep (by decide))(h:∀ w,S w→(execOp A.eval o).run P w=.ok (.value v) w:=by exact fun _ _=>rfl)(hw:Region.wanted o (yielded ops A.tmps)=true:=by rfl):zM P ops A S E i (o :: os) (v :: vs):=⟨QP hw hE h,t⟩
theorem gEY{A:Act}{i:Nat}{o:Oper}{v:Value}{os:List Oper}{vs:List Value}(h:∀ w,S w→(execOp A.eval o).run P w=.ok (.value v) w)(t:zM P ops A S E (i+1) os vs)(hE:∀ l w,E l w→E (l.setIfInBounds i true) w:=by exact fun _ _ h=>h.keep (by decide))(hw:Region.wanted o (yielded ops A.tmps)=true:=by rfl):zM P ops A S E i (o :: os) (v :: vs):=⟨QP hw hE h,t⟩
theorem zM.nil{A:Act}{i:Nat}:zM P ops A S E i [] []:=trivial
theorem zM.at{A:Act}:∀ {os:List Oper}{vs:List Value}{i:Nat},zM P ops A S E i os vs→∀ {k:Nat}{o:Oper},os[k]? = some o→∃ v,vs[k]? = some v∧zb4 P ops A S E (i+k) o v
 | [],_,_,_,k,o,ho=>by simp at ho
 | _ :: _,[],_,h,_,_,_=>by cases h
 | o :: os,v :: vs,i,h,0,o',ho=>by
  simp at ho;subst ho;exact ⟨v,rfl,h.1⟩
 | o :: os,v :: vs,i,h,k+1,o',ho=>by
  obtain ⟨u,hu,hg⟩:=zM.at h.2 (k:=k) (by simpa using ho);exact ⟨u,by simpa using hu,by rw[show i+(k+1)=i+1+k by omega];exact hg⟩
structure zni (ops:Array Oper) (S:World→Prop) (E:Array Bool→World→Prop) (a A:Act) (l:Array Bool) (a':Act) (w:World):Prop where
 size:l.size=ops.size
 kept:S w
 told:E l w
 sz:a'.tmps.size=a.tmps.size
 df:a'.defers=a.defers
 on:∀ (i:Nat) (oi:Oper) (d:Nat),ops[i]? = some oi→oi.dst=some d→l.getD i false=true→a'.tmps[d]? = A.tmps[d]?
 off:∀ d:Nat,(∀ (i:Nat) (oi:Oper),ops[i]? = some oi→oi.dst=some d→l.getD i false=false)→a'.tmps[d]? = a.tmps[d]?
theorem Ja{id:Nat}{a:Act}{w:World}(S:World→Prop)(E:Array Bool→World→Prop)(n:Nat)(vs:List Value)(hm:P.follows .mixedOrders=true)(hn:a.tmps.size=n)(hok:zdn ops n=true)(hk:S w.drew)(he:E (Array.replicate ops.size false) w.drew)
  (h:∀ A,zH ops.toList vs a=A→zM P ops A S E 0 ops.toList vs∧∀ l w',(∀ i,i<ops.size→l.getD i false=true)→S w'→E l w'→Q .normal A w'):(Code.region id ops true).wp P Q a w:=by
 obtain ⟨A,hA⟩:∃ A,zH ops.toList vs a=A:=⟨_,rfl⟩;obtain ⟨hg,hQ⟩:=h A hA;unfold zdn at hok;rw[Bool.and_eq_true,Bool.and_eq_true] at hok;obtain ⟨hsel,hp,hall⟩:=hok;have pair:∀ (i j:Nat) (oi oj:Oper),ops[i]? = some oi→ops[j]? = some oj→qv ops n i j=true:=fun i j oi oj hi hj=>by
  have h1:=List.all_eq_true.1 hp i (List.mem_range.2 (Array.getElem?_eq_some_iff.1 hi).1);exact List.all_eq_true.1 h1 j (List.mem_range.2 (Array.getElem?_eq_some_iff.1 hj).1)
 have dist:∀ (i j:Nat) (oi oj:Oper) (d:Nat),ops[i]? = some oi→ops[j]? = some oj→i≠j→oi.dst=some d→oj.dst≠some d:=fun i j oi oj d hi hj hij hd he=>by
  have:=pair i j oi oj hi hj;unfold qv at this;rw[hi,hj] at this;simp[hij,hd,he] at this
 have lt:∀ (i:Nat) (oi:Oper) (d:Nat),ops[i]? = some oi→oi.dst=some d→d<n:=fun i oi d hi hd=>by
  have:=pair i i oi oi hi hi;unfold qv at this;rw[hi] at this;simp only[hd,Bool.and_eq_true,decide_eq_true_eq] at this;exact this.2.1
 have waits:∀ (i j:Nat) (oi oj:Oper) (d:Nat),ops[i]? = some oi→ops[j]? = some oj→oj.dst=some d→d∈oi.looksAt ops→oi.after.any (fun e=>Region.binds .any e && e.on == j)=true:=fun i j oi oj d hi hj hd hm=>by
  have:=pair i j oi oj hi hj;unfold qv at this;rw[hi,hj] at this;simp only[hd,Bool.and_eq_true,Bool.or_eq_true,Bool.not_eq_true',decide_eq_true_eq] at this;rcases this.2.2 with h0 | h0
  ·rw[List.contains_iff_mem.2 hm] at h0
   cases h0
  ·exact h0
 have aOther:∀ d:Nat,(∀ (i:Nat) (oi:Oper),ops[i]? = some oi→oi.dst≠some d)→A.tmps[d]? = a.tmps[d]? := fun d hd=>by
  rw[← hA];exact q9 _ _ _ (fun k o ho=>hd k o (by rw[← Array.getElem?_toList];exact ho))
 have aAt:∀ (i:Nat) (oi:Oper) (d:Nat) (v:Value),ops[i]? = some oi→oi.dst=some d→vs[i]? = some v→A.tmps[d]? = some v:=fun i oi d v hi hd hv=>by
  rw[← hA];exact Zv _ _ _ i (by rw[Array.getElem?_toList];exact hi) hv hd (by rw[hn];exact lt i oi d hi hd) (fun j oj hj ho=>dist i j oi oj d hi (by rw[← Array.getElem?_toList];exact ho) (Ne.symm hj) hd)
 refine wp_region_held_drew (S:=S) hm hk (fun hS=> ?_);refine jo (zni ops S E a A) (fun _ _ _ h=>h.kept) (fun l a' w' hI hr=> ?_) (fun l a' w' i hI hr=> ?_) _ _ _ _ ?_ ?_
 ·have hl:=Zb (md:=.any) (ops:=ops) hI.size hr hall
  have e:a'=A:=by
   have ht:a'.tmps=A.tmps:=by
    apply Array.ext_getElem?;intro d;by_cases hx:∃ (i:Nat) (oi:Oper),ops[i]? = some oi∧oi.dst=some d
    ·obtain ⟨i,oi,hi,hd⟩:=hx
     exact hI.on i oi d hi hd (hl i (Array.getElem?_eq_some_iff.1 hi).1)
    ·have hno:∀ (i:Nat) (oi:Oper),ops[i]? = some oi→oi.dst≠some d:=fun i oi hi hd=>hx ⟨i,oi,hi,hd⟩
     rw[hI.off d (fun i oi hi hd=>absurd hd (hno i oi hi)),aOther d hno]
   have hdf:a'.defers=A.defers:=by rw[hI.df, ← hA,qJ]
   cases a';cases A;simp only at ht hdf;rw[ht,hdf]
  rw[e];exact hQ l w' hl hI.kept hI.told
 ·obtain ⟨hun,oi,hi,hw8⟩:=mem_ready.1 hr
  have hil:i<l.size:=by rw[hI.size];exact (Array.getElem?_eq_some_iff.1 hi).1
  obtain ⟨v,hv,hgv⟩:=hg.at (k:=i) (by rw[Array.getElem?_toList];exact hi);rw[Nat.zero_add] at hgv;have agree:∀ t,t∈oi.looksAt ops→a'.tmps[t]? = A.tmps[t]? := fun t ht=>by
   by_cases hx:∃ (j:Nat) (oj:Oper),ops[j]? = some oj∧oj.dst=some t
   ·obtain ⟨j,oj,hj,hd⟩:=hx
    have:=waits i j oi oj t hi hj hd ht;rw[Array.any_eq_true'] at this;obtain ⟨e,he,h1⟩:=this;rw[Bool.and_eq_true,beq_iff_eq] at h1;have h2:=hw8 e he h1.1;rw[h1.2] at h2;exact hI.on j oj t hj hd h2
   ·have hno:∀ (i:Nat) (oi:Oper),ops[i]? = some oi→oi.dst≠some t:=fun i oi hi hd=>hx ⟨i,oi,hi,hd⟩
    rw[hI.off t (fun i oi hi hd=>absurd hd (hno i oi hi)),aOther t hno]
  have hex:execOp a'.eval oi=execOp A.eval oi:=execOp_congr oi (fun cs b=>by
    exact Region.noSelect_spec hsel i oi cs b hi) (fun x hx=>by
   cases x with
   | tmp t=>
    have:=agree t (List.mem_append_left _ (List.mem_filterMap.2 ⟨.tmp t,by simpa using hx,rfl⟩));simp only[Act.eval,Array.getD_eq_getD_getElem?,this]
   | const v=>rfl
   | global g=>rfl
   | func f=>rfl)
  have hwt:Region.wanted oi (yielded ops a'.tmps)=Region.wanted oi (yielded ops A.tmps):=by
   unfold Region.wanted;cases hgd:oi.guard with
   | none=>rfl
   | some gw=>
    obtain ⟨g,want⟩:=gw;have hy:yielded ops a'.tmps g=yielded ops A.tmps g:=by
     unfold yielded;cases ht:(ops[g]?).bind (·.dst) with
     | none=>rfl
     | some t=>
      have:=agree t (by simp[Oper.looksAt,hgd,ht]);simp[this]
    simp only[hy]
  have next:∀ w2,S w2→E (l.setIfInBounds i true) w2→zni ops S E a A (l.setIfInBounds i true) (a'.put oi.dst v) w2:=fun w2 k2 e2=>by
   refine ⟨by simpa using hI.size,k2,e2,by rw[ZB,hI.sz],by rw[jV,hI.df],fun j oj d hj hd hl=> ?_,fun d hd=> ?_⟩
   ·by_cases hij:i=j
    ·subst hij
     rw[hi] at hj;cases hj;rw[hd,zck (by rw[hI.sz,hn];exact lt i oi d hi hd),aAt i oi d v hi hd hv]
    ·rw[qP (dist j i oj oi d hj hi (Ne.symm hij) hd)]
     rw[jP hij] at hl;exact hI.on j oj d hj hd hl
   ·have h1:oi.dst≠some d:=fun e=>by
     have:=hd i oi hi e;rw[jK hil] at this;cases this
    rw[qP h1];refine hI.off d (fun j oj hj hdj=> ?_);have:=hd j oj hj hdj;by_cases hij:i=j
    ·subst hij
     rw[hi] at hj;cases hj;exact absurd hdj h1
    ·rw[jP hij] at this
     exact this
  refine wpOp_step hi (fun K' hK=> ?_);rw[hwt];rcases hgv with ⟨hw1,hr1⟩ | ⟨hw1,rfl,hpass⟩
  ·rw[if_pos hw1]
   unfold Oper.wp;rw[hex];rcases hr1 l w' hil hI.kept hI.told with ⟨w2,he,k2,e2⟩ | ⟨w2,he,rfl,k2,e2⟩ | ⟨f,args,he,hc⟩
   ·rw[he]
    exact hK _ _ (next w2 k2 e2)
   ·rw[he]
    exact hK _ _ (next w2 k2 e2)
   ·rw[he]
    simp only[Oper.upon];refine Calls.mono hc (fun e w2=> ?_);rintro ⟨rfl,k2,e2⟩;exact hK _ _ (next w2 k2 e2)
  ·rw[if_neg (by rw[hw1];simp)]
   exact hK _ _ (next w' hI.kept (hpass l w' hI.kept hI.told))
 ·refine ⟨by simp,hS,he,rfl,rfl,fun i oi d hi hd hl=> ?_,fun d hd=>rfl⟩
  exfalso;rw[Array.getD_eq_getD_getElem?] at hl;by_cases hlt:i<ops.size
  ·rw[Array.getElem?_replicate,if_pos hlt] at hl
   cases hl
  ·rw[Array.getElem?_replicate,if_neg hlt] at hl
   cases hl
 ·unfold left
  exact Nat.le_trans List.countP_le_length (by simp)
end
end Go.Proofs.YtgmbkiagdhjpnaaGreatDoor
