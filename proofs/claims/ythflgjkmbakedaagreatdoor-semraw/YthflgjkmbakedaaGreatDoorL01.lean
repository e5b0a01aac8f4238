import Derived.Test.YthflgjkmbakedaaGreatDoorA19
import Derived.Test.YthflgjkmbakedaaGreatDoorA33
set_option maxRecDepth 20000
set_option maxHeartbeats 8000000
namespace Go.Proofs.YthflgjkmbakedaaGreatDoor
theorem j0a(p:Pr8):∀ {f k:Nat},f<k→∃ r,ptP p k=ptP p f ++ (ptF (zf p f) f (zf p f).blocks.length ++ r)
 | f,0,h=>absurd h (Nat.not_lt_zero _)
 | f,k+1,h=>by
  by_cases e:f=k
  ·subst e
   exact ⟨[],by rw[Z8,List.append_nil]⟩
  ·obtain ⟨r,hr⟩:=j0a p (f:=f) (k:=k) (by omega)
   exact ⟨r ++ ptF (zf p k) k (zf p k).blocks.length,by rw[Z8,hr];simp[List.append_assoc]⟩
theorem j0b{p:Pr8}{f b i:Nat}(h:Zh p f b i):(pts p)[znS p f b i]? = some (f,b,i):=by
 obtain ⟨r1,h1⟩:=j0a p h.1;obtain ⟨r2,h2⟩:=JX (zf p f) f h.2.1;have h3:=h.2.2;unfold pts znS;rw[h1,h2];rw[List.getElem?_append_right (by omega)];rw[show (ptP p f).length+(ptF (zf p f) f b).length+i - (ptP p f).length=(ptF (zf p f) f b).length+i by omega];rw[List.append_assoc,List.getElem?_append_right (by omega)];rw[show (ptF (zf p f) f b).length+i - (ptF (zf p f) f b).length=i by omega];rw[List.append_assoc,List.getElem?_append_left (by rw[zad];omega)];unfold ptB;rw[List.getElem?_map,List.getElem?_range (by omega)];rfl
theorem j0c{p:Pr8}{f b i:Nat}(h:Zh p f b i):znS p f b i<(pts p).length:=(List.getElem?_eq_some_iff.1 (j0b h)).1
end Go.Proofs.YthflgjkmbakedaaGreatDoor
namespace Go.Proofs.YthflgjkmbakedaaGreatDoor
open Go.RowKit
theorem j0d(P:Pr8)(f b i:Nat):znS P f b i=zeR P f+zeg (zf P f) b+i:=by
 unfold znS;rw[zdd];rfl
theorem j0e(w:World):Calls Tryz.prog 81 #[.pointer none] w (Jj 2 (-1) 0 0 w):=by
 have H:=hid (ZB 2 w);go_enter Tryz.func81,Tryz.ntmps81;go_wp2_with fail;refine H.o.mono ?_;rintro e w1 ⟨p,rfl,h1,h2⟩;go_wp2_with fail;go_ret;exact ⟨p,rfl,h1,h2⟩
end Go.Proofs.YthflgjkmbakedaaGreatDoor
namespace Go.Proofs.YthflgjkmbakedaaGreatDoor
open Go.Value (int pointer agg)
open Go.IntKind (i64)
open Go.RowKit
theorem j0f(pb po fb fo fcp bb bo bcp N M f b:Nat)(w:World)(h4:w.cell? ⟨pb,po+4,none⟩=some (.slice (some ⟨fb,fo,none⟩) N fcp))(hf:f<N)(h2:w.cell? ⟨fb,fo+f * 3+2,none⟩=some (.slice (some ⟨bb,bo,none⟩) M bcp))(hb:b<M):
  Calls Tryz.prog 98 #[pointer (some ⟨pb,po,none⟩),int i64 (f:Int),int i64 (b:Int)] w fun e w'=>e=.returned (pointer (some ⟨bb,bo+b * 5,none⟩))∧w'=w:=by
 have g1:¬ (f:Int)<0:=by omega
 have g2:¬ (b:Int)<0:=by omega
 have g3:(f:Int)<(N:Int):=by omega
 have g4:(b:Int)<(M:Int):=by omega
 go_enter Tryz.func98,Tryz.ntmps98;go_wp2;go_ret;exact ⟨rfl,rfl⟩
theorem j0g(pb po fcp N:Nat)(fa:Option Addr)(f b:Int)(w:World)(h4:w.cell? ⟨pb,po+4,none⟩=some (.slice fa N fcp))(hf:f<0∨(N:Int)≤f):
  Calls Tryz.prog 98 #[pointer (some ⟨pb,po,none⟩),int i64 f,int i64 b] w fun e w'=>e=.returned (.pointer none)∧w'=w:=by
 by_cases g:f<0
 ·clear hf
  go_enter Tryz.func98,Tryz.ntmps98;go_wp2;go_ret;exact ⟨rfl,rfl⟩
 ·have g2:(N:Int)≤f:=by omega
  clear hf;go_enter Tryz.func98,Tryz.ntmps98;go_wp2;go_ret;exact ⟨rfl,rfl⟩
theorem j0h(pb po fb fo fcp bcp N M f:Nat)(ba:Option Addr)(b:Int)(w:World)(h4:w.cell? ⟨pb,po+4,none⟩=some (.slice (some ⟨fb,fo,none⟩) N fcp))(hf:f<N)(h2:w.cell? ⟨fb,fo+f * 3+2,none⟩=some (.slice ba M bcp))(hb:b<0∨(M:Int)≤b):
  Calls Tryz.prog 98 #[pointer (some ⟨pb,po,none⟩),int i64 (f:Int),int i64 b] w fun e w'=>e=.returned (.pointer none)∧w'=w:=by
 have g1:¬ (f:Int)<0:=by omega
 have g3:(f:Int)<(N:Int):=by omega
 by_cases g:b<0
 ·clear hb
  go_enter Tryz.func98,Tryz.ntmps98;go_wp2;go_ret;exact ⟨rfl,rfl⟩
 ·have g2:(M:Int)≤b:=by omega
  clear hb;go_enter Tryz.func98,Tryz.ntmps98;go_wp2;go_ret;exact ⟨rfl,rfl⟩
theorem j0i{w:World}{pb po:Nat}{P:Pr8}(h:PrC w pb po P){f b:Int}(hb:znZ P f b):∃ q o,BlC w q o (zr (zf P f.toNat) b.toNat)∧Calls Tryz.prog 98 #[pointer (some ⟨pb,po,none⟩),int i64 f,int i64 b] w fun e w'=>e=.returned (pointer (some ⟨q,o,none⟩))∧w'=w:=by
 obtain ⟨h1,h2,h3,h4⟩:=hb;obtain ⟨fa,fcp,H⟩:=h.fns;obtain ⟨fb,fo,ba,bcp,rfl,B⟩:=H.at (f:=f.toNat) (by omega);obtain ⟨bb,bo,rfl,L⟩:=B.at (b:=b.toNat) (by omega);refine ⟨bb,bo+b.toNat * 5,L,?_⟩;have:=j0f pb po fb fo fcp bb bo bcp _ _ f.toNat b.toNat w H.cell (by omega) B.cell (by omega);rw[show ((f.toNat:Nat):Int)=f by omega,show ((b.toNat:Nat):Int)=b by omega] at this;exact this
theorem j0j{w:World}{pb po:Nat}{P:Pr8}(h:PrC w pb po P){f b:Int}(hb:¬ znZ P f b):Calls Tryz.prog 98 #[pointer (some ⟨pb,po,none⟩),int i64 f,int i64 b] w fun e w'=>e=.returned (.pointer none)∧w'=w:=by
 obtain ⟨fa,fcp,H⟩:=h.fns;by_cases hf:f<0∨(P.funcs.length:Int)≤f
 ·exact j0g pb po fcp _ fa f b w H.cell hf
 ·obtain ⟨fb,fo,ba,bcp,rfl,B⟩:=H.at (f:=f.toNat) (by omega)
  have hb':b<0∨(((zf P f.toNat).blocks.length:Nat):Int)≤b:=by
   apply Classical.byContradiction;intro hn;exact hb ⟨by omega,by omega,by omega,by omega⟩
  have:=j0h pb po fb fo fcp bcp _ _ f.toNat ba b w H.cell (by omega) B.cell hb';rw[show ((f.toNat:Nat):Int)=f by omega] at this;exact this
theorem j0k(x:Fu8)(ba:Option Addr)(n cp:Nat)(w:World)(hr:z7 w 5 BlC ba x.blocks)(hn:n≤x.blocks.length)(hs:zeg x n≤150):
  Calls Tryz.prog 153 #[.slice ba n cp] w fun e w'=>e=.returned (int i64 (zeg x n:Int))∧w'=w:=by
 have HR:=hid hr;have HN:=hid hn;have HS:=hid hs;have hm:n≤150:=by
  have:∀ m,m≤zeg x m:=by
   intro m
   induction m with
   | zero=>exact Nat.zero_le _
   | succ m ih=>rw[Zj];omega
  have:=this n;omega
 have hm1:(n:Int)≤150:=by omega
 clear hr hn hs;go_enter Tryz.func153,Tryz.ntmps153;go_wp2
 go_loop [3,7] (fun s i=>∃ k:Nat,k≤n∧i=int i64 (k:Int)∧s=int i64 (zeg x k:Int)) (fun _ i=>n - (intOf i).toNat)
 case atStart=>exact ⟨0,by omega,rfl,rfl⟩
 case round=>
  obtain ⟨k,hk,rfl,rfl⟩:=hrel;by_cases hlt:k<n
  ·have hlt':(k:Int)<(n:Int):=by omega
   have hk0:(0:Int)≤(k:Int):=by omega
   have e0:x.blocks[k]? = some (zr x k):=zg (by have:=HN.o;omega);obtain ⟨bb,bo,rfl,L⟩:=HR.o.at e0;obtain ⟨ca,ccp,hc,_⟩:=L.c0;have hs:=Zj x k;have hle:zeg x (k+1)≤150:=Nat.le_trans (zhu x (by omega)) HS.o;have hcall:=hid (zih bb (bo+k * 5) _ ccp ca w hc (by omega));clear L e0 hc;generalize (zr x k).code.length=c at hs hcall;generalize hA:zeg x k=A at *;generalize hB:zeg x (k+1)=B at *;have HB:=hid hB;have HS2:=hid hs;have w1:((A:Nat):Int)+((c+1:Nat):Int)=((B:Nat):Int):=by omega
   have w2:(B:Int)≤150:=by omega
   have w3:(0:Int)≤(B:Int):=by omega
   have w4:IntKind.i64.wrap ((A:Int)+((c+1:Nat):Int))=(B:Int):=by rw[w1];exact IntWalk.i64_in _ (by omega)
   clear hB hs hA;go_wp2_with (go_at_call 99;refine hcall.o.mono ?_;rintro e w' ⟨rfl,rfl⟩)
   go_round
   case rel=>exact ⟨k+1,by omega,by go_num,by rw[HB.o];first | rfl | go_num | (congr 1;omega)⟩
   case measure=>simp[intOf];omega
  ·obtain rfl:k=n:=by omega
   go_wp2;go_ret;exact ⟨rfl,rfl⟩
theorem j0l{w:World}{pb po:Nat}{P:Pr8}(h:PrC w pb po P)(hs:Sm8 P)(f b:Nat)(hf:f<P.funcs.length)(hb:b<(zf P f).blocks.length):
  Calls Tryz.prog 100 #[pointer (some ⟨pb,po,none⟩),int i64 (f:Int),int i64 (b:Int)] w fun e w'=>e=.returned (int i64 (znS P f b 0:Int))∧w'=w:=by
 obtain ⟨fa,fcp,H⟩:=h.fns;obtain ⟨fb,fo,ba,bcp,rfl,B⟩:=H.at hf;obtain ⟨bb,bo,rfl,L⟩:=B.at hb;have h4:=H.cell;have h2:=B.cell;have hN:=hs.fn;have hM:=hs.bk f hf;have hsum:=hs.cntF hf (show b≤_ by omega);have hlast:=hid (j0k (zf P f) (some ⟨bb,bo,none⟩) b bcp w B.rows (by omega) (by omega));have hpos:znS P f b 0=zeR P f+zeg (zf P f) b:=by rw[j0d];rfl
 have hcap:=B.cap;have hmid:Box (∀ k,k<f→∃ ka kcp,w.cell? ⟨fb,fo+k * 3+2,none⟩=some (.slice ka (zf P k).blocks.length kcp)∧Calls Tryz.prog 153 #[.slice ka (zf P k).blocks.length kcp] w fun e w'=>e=.returned (int i64 (zeg (zf P k) (zf P k).blocks.length:Int))∧w'=w):=hid fun k hk=>by
  obtain ⟨fb',fo',ka,kcp,e,K⟩:=H.at (f:=k) (by omega);simp only[Option.some.injEq,Addr.mk.injEq,and_true] at e;obtain ⟨rfl,rfl⟩:=e;exact ⟨ka,kcp,K.cell,j0k (zf P k) ka _ kcp w K.rows (Nat.le_refl _) (by have:=hs.cntF (f:=k) (by omega) (Nat.le_refl _);omega)⟩
 have hall:Box (∀ k,k<f→zeR P (k+1)≤150):=hid fun k hk=>by
  have h1:=hs.pt;rw[zcB] at h1;exact Nat.le_trans (zgv P (by omega)) h1
 rw[hpos];clear hpos h H B L hs;generalize hfn:P.funcs.length=N at *;generalize hbn:(zf P f).blocks.length=M at *;clear hfn hbn;have gf:(f:Int)<(N:Int):=by omega
 have gf0:(0:Int)≤(f:Int):=by omega
 have gN:(f:Int)≤12:=by omega
 have gb:(b:Int)≤(M:Int):=by omega
 have gb0:(0:Int)≤(b:Int):=by omega
 have gM:(b:Int)≤14:=by omega
 have gc:(b:Int)≤(bcp:Int):=by omega
 go_enter Tryz.func100,Tryz.ntmps100;go_wp2
 go_loop [7,10] (fun s i=>∃ k:Nat,k≤f∧i=int i64 (k:Int)∧s=int i64 (zeR P k:Int)) (fun _ i=>f - (intOf i).toNat)
 case atStart=>exact ⟨0,by omega,rfl,rfl⟩
 case round=>
  obtain ⟨k,hk,rfl,rfl⟩:=hrel;by_cases hlt:k<f
  ·have hlt':(k:Int)<(f:Int):=by omega
   have hlN:k<N:=by omega
   have hlN':(k:Int)<(N:Int):=by omega
   obtain ⟨ka,kcp,hc,hcl⟩:=hmid.o k hlt;have hcall:=hid hcl;have hs:=QW P k;have hle:=hall.o k hlt;clear hcl;generalize (zf P k).blocks.length=m at *;generalize zeg (zf P k) m=c at hs hcall;generalize hA:zeR P k=A at *;generalize hB:zeR P (k+1)=B at *;have HB:=hid hB;have w1:((A:Nat):Int)+((c:Nat):Int)=((B:Nat):Int):=by omega
   have w2:(B:Int)≤150:=by omega
   have w3:(0:Int)≤(B:Int):=by omega
   have w4:IntKind.i64.wrap ((A:Int)+(c:Int))=(B:Int):=by rw[w1];exact IntWalk.i64_in _ (by omega)
   clear hB hs hA hle;go_wp2_with (go_at_call 153;refine hcall.o.mono ?_;rintro e w' ⟨rfl,rfl⟩)
   go_round
   case rel=>exact ⟨k+1,by omega,by go_num,by rw[HB.o]⟩
   case measure=>simp[intOf];omega
  ·obtain rfl:k=f:=by omega
   generalize hC:zeg (zf P k) b=c at *;generalize hA:zeR P k=A at *;have HC:=hid hC;have HA:=hid hA;clear hC hA;have w2:((A+c:Nat):Int)≤150:=by omega
   have w3:(0:Int)≤((A+c:Nat):Int):=by omega
   have w4:IntKind.i64.wrap ((A:Int)+(c:Int))=((A+c:Nat):Int):=by rw[show (A:Int)+(c:Int)=((A+c:Nat):Int) by omega];exact IntWalk.i64_in _ (by omega)
   go_wp2_with (go_at_call 153;refine hlast.o.mono ?_;rintro e w' ⟨rfl,rfl⟩);go_ret;exact ⟨by rw[HC.o,HA.o,Int.natCast_add];rfl,rfl⟩
def ZG(o:Option (Int × Int × Int × Int))(w:World)(e:Ending)(w':World):Prop:=e=.returned (.tuple #[int i64 (o.getD (0, -1,0,0)).1,agg #[int i64 (o.getD (0, -1,0,0)).2.1,int i64 (o.getD (0, -1,0,0)).2.2.1,int i64 (o.getD (0, -1,0,0)).2.2.2]])∧zc [] w w'
theorem ZG.no{o:Option (Int × Int × Int × Int)}{w w':World}{y a b c:Int}(h:o=some (y,a,b,c))(k:zc [] w w'):ZG o w (.returned (.tuple #[int i64 y,agg #[int i64 a,int i64 b,int i64 c]])) w':=by
 subst h;exact ⟨rfl,k⟩
theorem ZG.yes{o:Option (Int × Int × Int × Int)}{w w':World}(h:o=none)(k:zc [] w w'):ZG o w (.returned (.tuple #[int i64 0,agg #[int i64 (-1),int i64 0,int i64 0]])) w':=by
 subst h;exact ⟨rfl,k⟩
theorem zel{w:World}{pb po:Nat}{P:Pr8}(h:PrC w pb po P)(hs:qJ P=true→Sm8 P):Calls Tryz.prog 52 #[pointer (some ⟨pb,po,none⟩)] w (ZG (wfO P) w):=by
 have ka:=zc.alloc [] w (.cells #[int i64 0,int i64 0,int i64 0] 99);have HN0:=hid (zh w (.cells #[int i64 0,int i64 0,int i64 0] 99));have FIN:=hid fun (W':World) (u0 u1 u2:Value) (k:zc [] (w.alloc (.cells #[int i64 0,int i64 0,int i64 0] 99)) W')=>(ka.quiet k).trans (jc W' w.heap.size u0 u1 u2) (fun x hx hl=>by simp at hx;omega);have HP:=hid (PrC.stays _ _ _ _ _ ka h);have HS:=hid hs;have hbx:w.heap.size<(w.alloc (.cells #[int i64 0,int i64 0,int i64 0] 99)).heap.size:=by rw[World.size_alloc];omega
 have HWF:Box (wfO P=(if qJ P=false then some (2, -1,0,0) else
  match zB P with
  | some q=>some (3,q)
  | none=>if zaQ P=false then some (7, -1,0,0) else
   match ZW P (Zv P) with
   | some q=>some (4,q)
   | none=>match (bks P).find? (jq P) with
    | some q=>some (6,ptI q)
    | none=>match (pts P).find? (za0 P) with
     | some q=>some (5,ptI q)
     | none=>none:Option (Int × Int × Int × Int))):=hid rfl
 clear h hs ka;go_enter Tryz.func52,Tryz.ntmps52;go_upto_region 1 with fail;generalize w.heap.size=bx at *;generalize w.alloc (.cells #[int i64 0,int i64 0,int i64 0] 99)=W at *;have HBX:=hid hbx;clear hbx;go_wp2_with fail;refine (zak HP.o).mono ?_;rintro e w1 ⟨rfl,k1⟩;have K1:=hid k1;clear k1;cases hb:qJ P with
 | false=>
  have HO:Box (wfO P=some (2, -1,0,0)):=hid (by rw[HWF.o,if_pos hb]);clear hb;go_wp2_with (go_at_call 75;refine (zV _).mono ?_;rintro e w6 ⟨rfl,k6⟩;have hb6:=ze HN0.o (K1.o.quiet k6);have K6:=hid (K1.o.quiet k6);have y0:=zi hb6 0;have y1:=zi hb6 1;have y2:=zi hb6 2;have x0:=zd hb6 0;have x1:=zd hb6 1;have x2:=zd hb6 2;have HB6:=hid hb6;clear hb6 k6);have h3:=jZ HB6.o (int i64 (-1)) (int i64 0) (int i64 0);have e0:=zd h3 0;have e1:=zd h3 1;have e2:=zd h3 2;exact bodyPost_ret (v:=.tuple #[int i64 2,agg #[int i64 (-1),int i64 0,int i64 0]]) (by simp[results,Tryz.results52,go_sem,e0,e1,e2]) rfl (ZG.no HO.o (FIN.o _ _ _ _ K6.o))
 | true=>
 have HBN:=hid hb;have HO1:Box (∀ q,zB P=some q→wfO P=some (3,q)):=hid fun q hq=>by rw[HWF.o,if_neg (by rw[hb];simp),hq]
 clear hb;go_wp2_with fail;refine (zea (PrC.stays _ _ _ _ _ K1.o HP.o) (Jp HBN.o) (Zy (ZE HBN.o))).mono ?_;intro e w2 h2;cases hnm:zB P with
 | some q=>
  obtain ⟨qa,qb,qc⟩:=q;have h2':e=.returned (.tuple #[agg #[int i64 qa,int i64 qb,int i64 qc],.bool false])∧zc [] w1 w2:=by
   unfold jW at h2;rw[hnm] at h2;exact h2
  obtain ⟨rfl,k2⟩:=h2';have HO:Box (wfO P=some (3,qa,qb,qc)):=hid (HO1.o _ hnm);have K2:=hid (K1.o.quiet k2);clear h2 k2 hnm;go_upto_region 4 with fail;have kb:=zc.alloc [] w2 (.cells #[int i64 qa,int i64 qb,int i64 qc] 99);have hq4:=zh w2 (.cells #[int i64 qa,int i64 qb,int i64 qc] 99);have K3:=hid (K2.o.quiet kb);clear kb;generalize w2.alloc (.cells #[int i64 qa,int i64 qb,int i64 qc] 99)=w3 at *;generalize w2.heap.size=q4 at *;have hb6:=ze HN0.o K3.o;have K6:=hid K3.o;have y0:=zi hb6 0;have y1:=zi hb6 1;have y2:=zi hb6 2;have x0:=zd hb6 0;have x1:=zd hb6 1;have x2:=zd hb6 2;have v0:=zd hq4 0;have v1:=zd hq4 1;have v2:=zd hq4 2;have HB6:=hid hb6;clear hb6;go_wp2_with fail
  go_region
  all_goals
   have h3:=ze (jZ HB6.o (int i64 qa) (int i64 qb) (int i64 qc)) (zc.drew [] _);have e0:=zd h3 0;have e1:=zd h3 1;have e2:=zd h3 2;go_wp2_with fail;exact bodyPost_ret (v:=.tuple #[int i64 3,agg #[int i64 qa,int i64 qb,int i64 qc]]) (by simp[results,Tryz.results52,go_sem,e0,e1,e2]) rfl (ZG.no HO.o ((FIN.o _ _ _ _ K6.o).quiet (zc.drew [] _)))
 | none=>
 have h2':e=.returned (.tuple #[agg #[int i64 (-1),int i64 0,int i64 0],.bool true])∧zc [] w1 w2:=by
  unfold jW at h2;rw[hnm] at h2;exact h2
 obtain ⟨rfl,k2⟩:=h2';have HRT:Box (Rt P):=hid ⟨HBN.o,HS.o HBN.o,hnm⟩
 have HO2:Box (wfO P=(if zaQ P=false then some (7, -1,0,0) else
   match ZW P (Zv P) with
   | some q=>some (4,q)
   | none=>match (bks P).find? (jq P) with
    | some q=>some (6,ptI q)
    | none=>match (pts P).find? (za0 P) with
     | some q=>some (5,ptI q)
     | none=>none:Option (Int × Int × Int × Int))):=hid (by rw[HWF.o,if_neg (by rw[HBN.o];simp),hnm])
 have K2:=hid (K1.o.quiet k2);have HMS:=hid (zh3 hnm);clear h2 k2 hnm HWF HO1;go_upto_region 4 with fail;have kb:=zc.alloc [] w2 (.cells #[int i64 (-1),int i64 0,int i64 0] 99);have HQ4:=hid (zh w2 (.cells #[int i64 (-1),int i64 0,int i64 0] 99));have K3:=hid (K2.o.quiet kb);have hlw:W.heap.size≤w2.heap.size:=K2.o.size;clear kb;generalize w2.alloc (.cells #[int i64 (-1),int i64 0,int i64 0] 99)=w3 at *;generalize w2.heap.size=q4 at *;have STO:=hid fun (W':World) (u0 u1 u2:Value) (k:zc [] W W')=>k.trans (jc W' q4 u0 u1 u2) (fun x hx hl=>by simp at hx;omega);clear hlw;go_wp2_with fail;refine (zi9 (PrC.stays _ _ _ _ _ K3.o HP.o) (zaC HRT.o.bnd HRT.o.nm)).mono ?_;rintro e w4 ⟨rfl,k4⟩;rw[HMS.o];have K4:=hid (K3.o.quiet k4);have HQ5:=hid (ze HQ4.o k4);clear k4 HQ4;cases hm:zaQ P with
 | false=>
  have HO:Box (wfO P=some (7, -1,0,0)):=hid (by rw[HO2.o,if_pos hm]);clear hm;go_wp2_with (go_at_call 75;refine (zV _).mono ?_;rintro e w6 ⟨rfl,k6⟩;have hb6:=ze HN0.o (K4.o.quiet k6);have K6:=hid (K4.o.quiet k6);have y0:=zi hb6 0;have y1:=zi hb6 1;have y2:=zi hb6 2;have x0:=zd hb6 0;have x1:=zd hb6 1;have x2:=zd hb6 2;have HB6:=hid hb6;clear hb6 k6);have h3:=jZ HB6.o (int i64 (-1)) (int i64 0) (int i64 0);have e0:=zd h3 0;have e1:=zd h3 1;have e2:=zd h3 2;exact bodyPost_ret (v:=.tuple #[int i64 7,agg #[int i64 (-1),int i64 0,int i64 0]]) (by simp[results,Tryz.results52,go_sem,e0,e1,e2]) rfl (ZG.no HO.o (FIN.o _ _ _ _ K6.o))
 | true=>
 have HO3:Box (wfO P=(match ZW P (Zv P) with
   | some q=>some (4,q)
   | none=>match (bks P).find? (jq P) with
    | some q=>some (6,ptI q)
    | none=>match (pts P).find? (za0 P) with
     | some q=>some (5,ptI q)
     | none=>none:Option (Int × Int × Int × Int))):=hid (by rw[HO2.o,if_neg (by rw[hm];simp)])
 clear hm HO2;go_wp2_with fail;refine (zdU (PrC.stays _ _ _ _ _ K4.o HP.o) HRT.o).mono ?_;rintro e w5 ⟨rfl,k5⟩;have K5:=hid (K4.o.quiet k5);have hq5:=ze HQ5.o k5;have HQ6:=hid hq5;have z0:=zi hq5 0;have z1:=zi hq5 1;have z2:=zi hq5 2;have u0:=zd hq5 0;have u1:=zd hq5 1;have u2:=zd hq5 2;clear k5 HQ5 hq5;cases hc:ZW P (Zv P) with
 | some q=>
  obtain ⟨qa,qb,qc⟩:=q;have HO:Box (wfO P=some (4,qa,qb,qc)):=hid (by rw[HO3.o,hc]);clear hc;simp only[Option.getD_some,Option.isNone_some];go_upto_region 9 with fail;have h4:=jZ HQ6.o (int i64 qa) (int i64 qb) (int i64 qc);have K5b:=hid (STO.o w5 (int i64 qa) (int i64 qb) (int i64 qc) K5.o);clear z0 z1 z2 u0 u1 u2;generalize ((w5.setCell ⟨q4,0,none⟩ (int i64 qa)).setCell ⟨q4,1,none⟩ (int i64 qb)).setCell ⟨q4,2,none⟩ (int i64 qc)=w5b at *;have hb6:=ze HN0.o K5b.o;have K6:=hid K5b.o;have y0:=zi hb6 0;have y1:=zi hb6 1;have y2:=zi hb6 2;have x0:=zd hb6 0;have x1:=zd hb6 1;have x2:=zd hb6 2;have v0:=zd h4 0;have v1:=zd h4 1;have v2:=zd h4 2;have HB6:=hid hb6;clear hb6;go_wp2_with fail
  go_region
  all_goals
   have h3:=ze (jZ HB6.o (int i64 qa) (int i64 qb) (int i64 qc)) (zc.drew [] _);have e0:=zd h3 0;have e1:=zd h3 1;have e2:=zd h3 2;go_wp2_with fail;exact bodyPost_ret (v:=.tuple #[int i64 4,agg #[int i64 qa,int i64 qb,int i64 qc]]) (by simp[results,Tryz.results52,go_sem,e0,e1,e2]) rfl (ZG.no HO.o ((FIN.o _ _ _ _ K6.o).quiet (zc.drew [] _)))
 | none=>
 have HO4:Box (wfO P=(match (bks P).find? (jq P) with
    | some q=>some (6,ptI q)
    | none=>match (pts P).find? (za0 P) with
     | some q=>some (5,ptI q)
     | none=>none:Option (Int × Int × Int × Int))):=hid (by rw[HO3.o,hc])
 clear hc HO3;simp only[Option.getD_none,Option.isNone_none];go_upto_region 9 with fail;have HQ7:=hid (jZ HQ6.o (int i64 (-1)) (int i64 0) (int i64 0));have K5b:=hid (STO.o w5 (int i64 (-1)) (int i64 0) (int i64 0) K5.o);clear z0 z1 z2 u0 u1 u2 HQ6;generalize ((w5.setCell ⟨q4,0,none⟩ (int i64 (-1))).setCell ⟨q4,1,none⟩ (int i64 0)).setCell ⟨q4,2,none⟩ (int i64 0)=w5b at *;go_wp2_with fail;refine (ze3 (PrC.stays _ _ _ _ _ K5b.o HP.o) (fun f hf=>HRT.o.ends hf) HRT.o.sz.bk HRT.o.sz.fn).mono ?_;intro e w6 h6;have hq5:∀ w',zc [] w5b w'→w'.heap[q4]? = some (.cells #[int i64 (-1),int i64 0,int i64 0] 99 (0,0)):=fun w' k=>ze HQ7.o k;cases hc:(bks P).find? (jq P) with
 | some q=>
  obtain ⟨f,b,i⟩:=q;rw[hc] at h6;obtain ⟨rfl,k6⟩:=h6;have HO:Box (wfO P=some (6,(f:Int),(b:Int),(i:Int))):=hid (by rw[HO4.o,hc];rfl);have K6:=hid (K5b.o.quiet k6);have hq6:=hq5 _ k6;have HQ8:=hid hq6;have z0:=zi hq6 0;have z1:=zi hq6 1;have z2:=zi hq6 2;have u0:=zd hq6 0;have u1:=zd hq6 1;have u2:=zd hq6 2;clear hc k6 hq6 hq5;go_upto_region 12 with fail;have h4:=jZ HQ8.o (int i64 (f:Int)) (int i64 (b:Int)) (int i64 (i:Int));have K6b:=hid (STO.o w6 (int i64 (f:Int)) (int i64 (b:Int)) (int i64 (i:Int)) K6.o);clear z0 z1 z2 u0 u1 u2;generalize ((w6.setCell ⟨q4,0,none⟩ (int i64 (f:Int))).setCell ⟨q4,1,none⟩ (int i64 (b:Int))).setCell ⟨q4,2,none⟩ (int i64 (i:Int))=w6b at *;have hb6:=ze HN0.o K6b.o;have K6:=hid K6b.o;have y0:=zi hb6 0;have y1:=zi hb6 1;have y2:=zi hb6 2;have x0:=zd hb6 0;have x1:=zd hb6 1;have x2:=zd hb6 2;have v0:=zd h4 0;have v1:=zd h4 1;have v2:=zd h4 2;have HB6:=hid hb6;clear hb6;go_wp2_with fail
  go_region
  all_goals
   have h3:=ze (jZ HB6.o (int i64 (f:Int)) (int i64 (b:Int)) (int i64 (i:Int))) (zc.drew [] _);have e0:=zd h3 0;have e1:=zd h3 1;have e2:=zd h3 2;go_wp2_with fail;exact bodyPost_ret (v:=.tuple #[int i64 6,agg #[int i64 (f:Int),int i64 (b:Int),int i64 (i:Int)]]) (by simp[results,Tryz.results52,go_sem,e0,e1,e2]) rfl (ZG.no HO.o ((FIN.o _ _ _ _ K6.o).quiet (zc.drew [] _)))
 | none=>
 rw[hc] at h6;obtain ⟨rfl,k6⟩:=h6
 have HO5:Box (wfO P=(match (pts P).find? (za0 P) with
     | some q=>some (5,ptI q)
     | none=>none:Option (Int × Int × Int × Int))):=hid (by rw[HO4.o,hc])
 have K6:=hid (K5b.o.quiet k6);have hq6:=hq5 _ k6;have HQ8:=hid hq6;have z0:=zi hq6 0;have z1:=zi hq6 1;have z2:=zi hq6 2;have u0:=zd hq6 0;have u1:=zd hq6 1;have u2:=zd hq6 2;clear hc k6 hq6 hq5 HO4;go_upto_region 12 with fail;have HQ9:=hid (jZ HQ8.o (int i64 (-1)) (int i64 0) (int i64 0));have K6b:=hid (STO.o w6 (int i64 (-1)) (int i64 0) (int i64 0) K6.o);clear z0 z1 z2 u0 u1 u2;generalize ((w6.setCell ⟨q4,0,none⟩ (int i64 (-1))).setCell ⟨q4,1,none⟩ (int i64 0)).setCell ⟨q4,2,none⟩ (int i64 0)=w6b at *;go_wp2_with fail;refine (zdb (PrC.stays _ _ _ _ _ K6b.o HP.o) HRT.o.sm HRT.o.few HRT.o.nm HRT.o.sz.rg).mono ?_;intro e w7 h7;rw[← zg4 HRT.o.nm HRT.o.sz.bk HRT.o.sz.rg] at h7;have hq6:∀ w',zc [] w6b w'→w'.heap[q4]? = some (.cells #[int i64 (-1),int i64 0,int i64 0] 99 (0,0)):=fun w' k=>ze HQ9.o k;cases hc:(pts P).find? (za0 P) with
 | some q=>
  obtain ⟨f,b,i⟩:=q;rw[hc] at h7;obtain ⟨rfl,k7⟩:=h7;have HO:Box (wfO P=some (5,(f:Int),(b:Int),(i:Int))):=hid (by rw[HO5.o,hc];rfl);have K7:=hid (K6b.o.quiet k7);have hq7:=hq6 _ k7;have HQA:=hid hq7;have z0:=zi hq7 0;have z1:=zi hq7 1;have z2:=zi hq7 2;have u0:=zd hq7 0;have u1:=zd hq7 1;have u2:=zd hq7 2;clear hc k7 hq7 hq6;go_upto_region 15 with fail;have h4:=jZ HQA.o (int i64 (f:Int)) (int i64 (b:Int)) (int i64 (i:Int));have K7b:=hid (STO.o w7 (int i64 (f:Int)) (int i64 (b:Int)) (int i64 (i:Int)) K7.o);clear z0 z1 z2 u0 u1 u2;generalize ((w7.setCell ⟨q4,0,none⟩ (int i64 (f:Int))).setCell ⟨q4,1,none⟩ (int i64 (b:Int))).setCell ⟨q4,2,none⟩ (int i64 (i:Int))=w7b at *;have hb6:=ze HN0.o K7b.o;have K6:=hid K7b.o;have y0:=zi hb6 0;have y1:=zi hb6 1;have y2:=zi hb6 2;have x0:=zd hb6 0;have x1:=zd hb6 1;have x2:=zd hb6 2;have v0:=zd h4 0;have v1:=zd h4 1;have v2:=zd h4 2;have HB6:=hid hb6;clear hb6;go_wp2_with fail
  go_region
  all_goals
   have h3:=ze (jZ HB6.o (int i64 (f:Int)) (int i64 (b:Int)) (int i64 (i:Int))) (zc.drew [] _);have e0:=zd h3 0;have e1:=zd h3 1;have e2:=zd h3 2;go_wp2_with fail;exact bodyPost_ret (v:=.tuple #[int i64 5,agg #[int i64 (f:Int),int i64 (b:Int),int i64 (i:Int)]]) (by simp[results,Tryz.results52,go_sem,e0,e1,e2]) rfl (ZG.no HO.o ((FIN.o _ _ _ _ K6.o).quiet (zc.drew [] _)))
 | none=>
  rw[hc] at h7;obtain ⟨rfl,k7⟩:=h7;have HO:Box (wfO P=none):=hid (by rw[HO5.o,hc]);have K7:=hid (K6b.o.quiet k7);have hq7:=hq6 _ k7;have HQA:=hid hq7;have z0:=zi hq7 0;have z1:=zi hq7 1;have z2:=zi hq7 2;have u0:=zd hq7 0;have u1:=zd hq7 1;have u2:=zd hq7 2;clear hc k7 hq7 hq6;go_upto_region 15 with fail;have K7b:=hid (STO.o w7 (int i64 (-1)) (int i64 0) (int i64 0) K7.o);clear z0 z1 z2 u0 u1 u2;generalize ((w7.setCell ⟨q4,0,none⟩ (int i64 (-1))).setCell ⟨q4,1,none⟩ (int i64 0)).setCell ⟨q4,2,none⟩ (int i64 0)=w7b at *;go_wp2_with (go_at_call 75;refine (zV _).mono ?_;rintro e w6 ⟨rfl,k6⟩;have hb6:=ze HN0.o (K7b.o.quiet k6);have K6:=hid (K7b.o.quiet k6);have y0:=zi hb6 0;have y1:=zi hb6 1;have y2:=zi hb6 2;have x0:=zd hb6 0;have x1:=zd hb6 1;have x2:=zd hb6 2;have HB6:=hid hb6;clear hb6 k6);have h3:=jZ HB6.o (int i64 (-1)) (int i64 0) (int i64 0);have e0:=zd h3 0;have e1:=zd h3 1;have e2:=zd h3 2;exact bodyPost_ret (v:=.tuple #[int i64 0,agg #[int i64 (-1),int i64 0,int i64 0]]) (by simp[results,Tryz.results52,go_sem,e0,e1,e2]) rfl (ZG.yes HO.o (FIN.o _ _ _ _ K6.o))
theorem j0m{w:World}{pb po:Nat}{P:Pr8}(h:PrC w pb po P)(o:Obj):PrC (w.alloc o) pb po P:=PrC.stays _ _ _ _ _ (zc.alloc [] w o) h
theorem j0n{w:World}{pb po:Nat}{P:Pr8}(h:PrC w pb po P)(f b i:Int)(hn:¬ znZ P f b):Calls Tryz.prog 60 #[pointer (some ⟨pb,po,none⟩),ptV f b i] w fun e w'=>e=.returned (int i64 (-1))∧zc [] w w':=by
 have hb:=hid fun o=>j0j (j0m h o) hn;unfold ptV;clear h hn;go_enter Tryz.func60,Tryz.ntmps60;go_wp2_with (go_at_call 98;refine (hb.o _).mono ?_;rintro e w' ⟨rfl,rfl⟩);go_quiet (fail);go_wp2_with fail;go_ret;exact ⟨rfl,(zc.alloc [] _ _).quiet (zc.drewN [] _ _)⟩
theorem j0o{w:World}{pb po:Nat}{P:Pr8}(h:PrC w pb po P)(hs:Sm8 P)(f b i:Int)(hb:znZ P f b)(hi:¬ (0≤i∧i≤((zr (zf P f.toNat) b.toNat).code.length:Int))):Calls Tryz.prog 60 #[pointer (some ⟨pb,po,none⟩),ptV f b i] w fun e w'=>e=.returned (int i64 (-1))∧zc [] w w':=by
 unfold ptV;obtain ⟨W,hW⟩:∃ W,W=w.alloc (.cells #[int i64 f,int i64 b,int i64 i] 99):=⟨_,rfl⟩;have K0:=hid (show zc [] w W by rw[hW];exact zc.alloc _ _ _);have hP:PrC W pb po P:=PrC.stays _ _ _ _ _ K0.o h;have c0:W.cell? ⟨w.heap.size,0,none⟩=some (int i64 f):=by rw[hW,World.cell?_alloc_at _ _ _ _ rfl];rfl
 have c1:W.cell? ⟨w.heap.size,1,none⟩=some (int i64 b):=by rw[hW,World.cell?_alloc_at _ _ _ _ rfl];rfl
 have c2:W.cell? ⟨w.heap.size,2,none⟩=some (int i64 i):=by rw[hW,World.cell?_alloc_at _ _ _ _ rfl];rfl
 obtain ⟨q,o,L,hc⟩:=j0i hP hb;have hblk:=hid hc;obtain ⟨ca,ccp,hcc,_⟩:=L.c0;have hcode:=hs.code (f:=f.toNat) (b:=b.toNat) (by have:=hb.1;have:=hb.2.1;omega) (by have:=hb.2.2;omega);generalize (zr (zf P f.toNat) b.toNat).code.length=n at *;have hsz:=hid fun (w':World) (e:w'.cell? ⟨q,o,none⟩=some (.slice ca n ccp))=>zih q o n ccp ca w' e (by omega);have HW:=hid hW;clear h hs hb hP L hc hW;have g3:((n+1:Nat):Int)≤150:=by omega
 by_cases g:i<0
 ·clear hi
  go_enter Tryz.func60,Tryz.ntmps60;go_wp2_with fail;rw[← HW.o];clear HW;generalize w.heap.size=z at *;go_wp2_with (go_at_call 98;refine hblk.o.mono ?_;rintro e w' ⟨rfl,rfl⟩);go_quiet (fail);go_wp2_with fail;go_ret;exact ⟨rfl,K0.o.quiet (zc.drewN [] _ _)⟩
 ·have g2:((n+1:Nat):Int)≤i:=by omega
  have g4:(n:Int)+1≤i:=by omega
  clear hi;go_enter Tryz.func60,Tryz.ntmps60;go_wp2_with fail;rw[← HW.o];clear HW;generalize w.heap.size=z at *;go_wp2_with (go_at_call 98;refine hblk.o.mono ?_;rintro e w' ⟨rfl,rfl⟩);go_quiet ((go_at_call 99;exact Calls.quiet_of_same (hsz.o _ hcc)));go_wp2_with fail;go_ret;exact ⟨rfl,K0.o.quiet (zc.drewN [] _ _)⟩
theorem j0p{w:World}{pb po:Nat}{P:Pr8}(h:PrC w pb po P)(hs:Sm8 P)(f b i:Nat)(hp:Zh P f b i):Calls Tryz.prog 60 #[pointer (some ⟨pb,po,none⟩),ptV f b i] w fun e w'=>e=.returned (int i64 (znS P f b i:Int))∧zc [] w w':=by
 unfold ptV;obtain ⟨W,hW⟩:∃ W,W=w.alloc (.cells #[int i64 (f:Int),int i64 (b:Int),int i64 (i:Int)] 99):=⟨_,rfl⟩;have K0:=hid (show zc [] w W by rw[hW];exact zc.alloc _ _ _);have hP:PrC W pb po P:=PrC.stays _ _ _ _ _ K0.o h;have c0:W.cell? ⟨w.heap.size,0,none⟩=some (int i64 (f:Int)):=by rw[hW,World.cell?_alloc_at _ _ _ _ rfl];rfl
 have c1:W.cell? ⟨w.heap.size,1,none⟩=some (int i64 (b:Int)):=by rw[hW,World.cell?_alloc_at _ _ _ _ rfl];rfl
 have c2:W.cell? ⟨w.heap.size,2,none⟩=some (int i64 (i:Int)):=by rw[hW,World.cell?_alloc_at _ _ _ _ rfl];rfl
 obtain ⟨p1,p2,p3⟩:=hp;obtain ⟨q,o,L,hc⟩:=j0i hP (f:=(f:Int)) (b:=(b:Int)) ⟨by omega,by omega,by omega,by simpa using p2⟩;rw[Int.toNat_natCast,Int.toNat_natCast] at L;have hblk:=hid hc;have hfst:=hid fun (w':World) (k:PrC w' pb po P)=>j0l k hs f b p1 p2;have HP:=hid hP;obtain ⟨ca,ccp,hcc,_⟩:=L.c0;have hcode:=hs.code p1 p2;have hle:znS P f b i≤150:=by have:=hs.pt;have:=j0c (p:=P) ⟨p1,p2,p3⟩;omega
 have hpos:znS P f b i=znS P f b 0+i:=rfl;generalize (zr (zf P f) b).code.length=n at *;have hsz:=hid fun (w':World) (e:w'.cell? ⟨q,o,none⟩=some (.slice ca n ccp))=>zih q o n ccp ca w' e (by omega);generalize znS P f b 0=A at *;rw[hpos];rw[hpos] at hle;have HW:=hid hW;clear h hs hP L hc hW hpos p1 p2;have g1:¬ (i:Int)<0:=by omega
 have g2:(i:Int)<(n:Int)+1:=by omega
 have g4:(A:Int)+(i:Int)≤150:=by omega
 have w4:IntKind.i64.wrap ((A:Int)+(i:Int))=(A:Int)+(i:Int):=IntWalk.i64_in _ (by omega);go_enter Tryz.func60,Tryz.ntmps60;go_wp2_with fail;rw[← HW.o];clear HW;generalize w.heap.size=z at *;go_wp2_with (go_at_call 98;refine hblk.o.mono ?_;rintro e w' ⟨rfl,rfl⟩);go_quiet ((go_at_call 99;exact Calls.quiet_of_same (hsz.o _ hcc)));go_wp2_with fail;have K2:=hid (K0.o.quiet (zc.drewN [] w' nq));have HP2:=hid (PrC.stays _ _ _ _ _ (zc.drewN [] w' nq) HP.o);have d0:(w'.drewN nq).cell? ⟨z,0,none⟩=some (int i64 (f:Int)):=c0;have d1:(w'.drewN nq).cell? ⟨z,1,none⟩=some (int i64 (b:Int)):=c1;have d2:(w'.drewN nq).cell? ⟨z,2,none⟩=some (int i64 (i:Int)):=c2;generalize w'.drewN nq=w2 at *;clear c0 c1 c2 hcc;go_quiet ((go_at_call 100;exact Calls.quiet_of_same (hfst.o _ (PrC.stays _ _ _ _ _ (zc.drewN [] _ _) HP2.o))));go_wp2_with fail;go_ret;exact ⟨by rw[Int.natCast_add];rfl,K2.o.quiet (zc.drewN [] _ _)⟩
theorem j0q{w:World}{pb po:Nat}{P:Pr8}(h:PrC w pb po P)(hs:Sm8 P)(f b i:Int):Calls Tryz.prog 60 #[pointer (some ⟨pb,po,none⟩),ptV f b i] w fun e w'=>e=.returned (int i64 (zo1 P f b i))∧zc [] w w':=by
 unfold zo1;by_cases hb:znZ P f b
 ·rw[if_pos hb]
  by_cases hi:0≤i∧i≤((zr (zf P f.toNat) b.toNat).code.length:Int)
  ·rw[if_pos hi]
   have:=j0p h hs f.toNat b.toNat i.toNat ⟨by have:=hb.1;have:=hb.2.1;omega,by have:=hb.2.2;omega,by omega⟩;rw[show ((f.toNat:Nat):Int)=f by have:=hb.1;omega,show ((b.toNat:Nat):Int)=b by have:=hb.2.2;omega,show ((i.toNat:Nat):Int)=i by omega] at this;exact this
  ·rw[if_neg hi]
   exact j0o h hs f b i hb hi
 ·rw[if_neg hb]
  exact j0n h f b i hb
end Go.Proofs.YthflgjkmbakedaaGreatDoor
namespace Go.Proofs.YthflgjkmbakedaaGreatDoor
open Go.RowKit
theorem z7.sub{α:Type}{w w':World}{c:Nat}{R:World→Nat→Nat→α→Prop}{a:Option Addr}{l:List α}(h:z7 w c R a l)(hR:zo3 R)(k:Sub w w'):z7 w' c R a l:=by
 rcases h with h | ⟨b,off,h1,h2⟩
 ·exact .inl h
 ·exact .inr ⟨b,off,h1,fun j y hy=>hR w w' b _ y k (h2 j y hy)⟩
theorem ji.sub:zo3 ji:=fun _ _ _ _ _ k h=>⟨k _ _ h.1,h.2⟩
theorem SlC.sub{α:Type}{c:Nat}{R:World→Nat→Nat→α→Prop}(hR:zo3 R):zo3 (SlC c R):=by
 rintro w w' b o l k ⟨a,cp,h1,h2,h3⟩;exact ⟨a,cp,k _ _ h1,h2.sub hR k,h3⟩
theorem J6.sub:zo3 J6:=SlC.sub ji.sub
theorem TyC.sub:zo3 TyC:=fun _ _ _ _ _ k h=>⟨ji.sub _ _ _ _ _ k h.c0,ji.sub _ _ _ _ _ k h.c1⟩
theorem TysC.sub:zo3 (SlC 2 TyC):=SlC.sub TyC.sub
theorem InC.sub:zo3 InC:=fun _ _ _ _ _ k h=>⟨ji.sub _ _ _ _ _ k h.c0,ji.sub _ _ _ _ _ k h.c1,ji.sub _ _ _ _ _ k h.c2,ji.sub _ _ _ _ _ k h.c3,ji.sub _ _ _ _ _ k h.c4,J6.sub _ _ _ _ _ k h.c5⟩
theorem BlC.sub:zo3 BlC:=fun _ _ _ _ _ k h=>⟨SlC.sub InC.sub _ _ _ _ _ k h.c0,ji.sub _ _ _ _ _ k h.c1,ji.sub _ _ _ _ _ k h.c2,ji.sub _ _ _ _ _ k h.c3,ji.sub _ _ _ _ _ k h.c4⟩
theorem FuC.sub:zo3 FuC:=fun _ _ _ _ _ k h=>⟨ji.sub _ _ _ _ _ k h.c0,TysC.sub _ _ _ _ _ k h.c1,SlC.sub BlC.sub _ _ _ _ _ k h.c2⟩
theorem SgC.sub:zo3 SgC:=fun _ _ _ _ _ k h=>⟨TysC.sub _ _ _ _ _ k h.c0,ji.sub _ _ _ _ _ k h.c1,ji.sub _ _ _ _ _ k h.c2⟩
theorem ImC.sub:zo3 ImC:=fun _ _ _ _ _ k h=>⟨ji.sub _ _ _ _ _ k h.c0,ji.sub _ _ _ _ _ k h.c1,J6.sub _ _ _ _ _ k h.c2⟩
theorem PrC.sub:zo3 PrC:=fun _ _ _ _ _ k h=>⟨SlC.sub TysC.sub _ _ _ _ _ k h.c0,SlC.sub SgC.sub _ _ _ _ _ k h.c1,SlC.sub J6.sub _ _ _ _ _ k h.c2,SlC.sub ImC.sub _ _ _ _ _ k h.c3,SlC.sub FuC.sub _ _ _ _ _ k h.c4,ji.sub _ _ _ _ _ k h.c5⟩
theorem j0r(B:Nat)(w:World)(k:Nat):(zod B w).heap[k]? = (w.heap[k]?).map fun o=>if k<B then Obj.cells #[] 0 (0,0) else o:=by
 unfold zod;rw[Array.getElem?_mapIdx]
theorem j0s{B:Nat}{w:World}{k:Nat}(h:B≤k):(zod B w).heap[k]? = w.heap[k]? := by
 rw[j0r];have:¬ k<B:=by omega
 simp[this]
theorem j0t{B:Nat}{w:World}{p:Addr}{v:Value}(h:(zod B w).cell? p=some v):B≤p.block∧w.cell? p=some v:=by
 by_cases hb:p.block<B
 ·exfalso
  unfold World.cell? at h;rw[j0r] at h;cases e:w.heap[p.block]? with
  | none=>rw[e] at h;simp at h
  | some o=>rw[e] at h;simp[hb] at h
 ·refine ⟨by omega,?_⟩
  rw[← World.cell?_of_block (w:=w) (j0s (show B≤p.block by omega))];exact h
theorem j0u{B:Nat}{w:World}{p:Addr}{v:Value}(hb:B≤p.block)(h:w.cell? p=some v):(zod B w).cell? p=some v:=by
 rw[World.cell?_of_block (w:=w) (j0s hb)];exact h
theorem Sub.down{B B':Nat}(w:World)(h:B'≤B):Sub (zod B w) (zod B' w):=fun _ _ e=>j0u (Nat.le_trans h (j0t e).1) (j0t e).2
theorem Sub.kept{B:Nat}{L:List Nat}{w w':World}(k:zc L w w')(h:∀ x,x∈L→x<B):Sub (zod B w) (zod B w'):=fun p _ e=>by
 obtain ⟨h1,h2⟩:=j0t e;refine j0u h1 ?_;rw[k.cell (block_lt_of_cell h2) (fun hm=>by have:=h _ hm;omega)];exact h2
theorem Sub.trans{a b c:World}(h:Sub a b)(k:Sub b c):Sub a c:=fun p v e=>k p v (h p v e)
theorem SlV.sub{α:Type}{c:Nat}{R:World→Nat→Nat→α→Prop}(hR:zo3 R):zov (SlV c R):=by
 rintro w w' v l k ⟨a,cp,h1,h2,h3⟩;exact ⟨a,cp,h1,h2.sub hR k,h3⟩
theorem zkL.sub:zov zkL:=SlV.sub ji.sub
theorem zlv.sub:zov zlv:=SlV.sub TyC.sub
theorem znH.sub:zov znH:=SlV.sub InC.sub
theorem znV.sub:zov znV:=SlV.sub BlC.sub
theorem ImV.sub:zov ImV:=by
 rintro w w' v x k ⟨a,cp,h1,h2,h3,h4⟩;exact ⟨a,cp,h1,h2,h3,zkL.sub _ _ _ _ k h4⟩
theorem InV.sub:zov InV:=by
 rintro w w' v x k ⟨a,cp,h1,h2,h3,h4,h5,h6,h7⟩;exact ⟨a,cp,h1,h2,h3,h4,h5,h6,zkL.sub _ _ _ _ k h7⟩
theorem BlV.sub:zov BlV:=by
 rintro w w' v x k ⟨a,cp,h1,h2,h3⟩;exact ⟨a,cp,h1,znH.sub _ _ _ _ k h2,h3⟩
theorem FuV.sub:zov FuV:=by
 rintro w w' v x k ⟨a,cp,a',cp',h1,h2,h3,h4⟩;exact ⟨a,cp,a',cp',h1,h2,zlv.sub _ _ _ _ k h3,znV.sub _ _ _ _ k h4⟩
def Links{α:Type}(c:Nat)(V:World→Value→α→Prop)(R:World→Nat→Nat→α→Prop):Prop:=
 ∀ w v y b o,V w v y→v.cells.size=c∧((∀ i,i<c→w.cell? ⟨b,o+i,none⟩=v.cells[i]?)→R w b o y)
theorem SlV.links{α:Type}{c:Nat}{R:World→Nat→Nat→α→Prop}:Links 1 (SlV c R) (SlC c R):=by
 rintro w v y b o ⟨a,cp,rfl,h⟩;exact ⟨rfl,fun hc=>⟨a,cp,hc 0 (by omega),h⟩⟩
theorem SlV.cell{α:Type}{c:Nat}{R:World→Nat→Nat→α→Prop}{w:World}{a:Option Addr}{cp b o:Nat}{l:List α}(h:SlV c R w (.slice a l.length cp) l)(hc:w.cell? ⟨b,o,none⟩=some (.slice a l.length cp)):SlC c R w b o l:=by
 obtain ⟨_,h1⟩:=h.slice;exact ⟨a,cp,hc,h1⟩
theorem ImV.links:Links 3 ImV ImC:=by
 rintro w v y b o ⟨a,cp,rfl,h1,h2,h3⟩;exact ⟨rfl,fun hc=>⟨⟨hc 0 (by omega),h1⟩,⟨hc 1 (by omega),h2⟩,SlV.cell h3 (hc 2 (by omega))⟩⟩
theorem InV.links:Links 6 InV InC:=by
 rintro w v y b o ⟨a,cp,rfl,h1,h2,h3,h4,h5,h6⟩;exact ⟨rfl,fun hc=>⟨⟨hc 0 (by omega),h1⟩,⟨hc 1 (by omega),h2⟩,⟨hc 2 (by omega),h3⟩,⟨hc 3 (by omega),h4⟩,⟨hc 4 (by omega),h5⟩,SlV.cell h6 (hc 5 (by omega))⟩⟩
theorem BlV.links:Links 5 BlV BlC:=by
 rintro w v y b o ⟨a,cp,rfl,h1,h2,h3,h4,h5⟩;exact ⟨rfl,fun hc=>⟨SlV.cell h1 (hc 0 (by omega)),⟨hc 1 (by omega),h2⟩,⟨hc 2 (by omega),h3⟩,⟨hc 3 (by omega),h4⟩,⟨hc 4 (by omega),h5⟩⟩⟩
theorem FuV.links:Links 3 FuV FuC:=by
 rintro w v y b o ⟨a,cp,a',cp',rfl,h1,h2,h3⟩;exact ⟨rfl,fun hc=>⟨⟨hc 0 (by omega),h1⟩,SlV.cell h2 (hc 1 (by omega)),SlV.cell h3 (hc 2 (by omega))⟩⟩
theorem Obs.kept{w w':World}{T:TypeId}{f:Ob→Value × Value × Value}{sv:Value}{os:List Ob}{F L:List Nat}(h:Obs w T f sv os F)(k:zc L w w')(hL:∀ x,x∈F→x ∉ L):Obs w' T f sv os F:=
 ⟨zj h.own k (fun b hb=>hL b (h.row b hb)),fun j o hj=>zj (h.fld j o hj) k (fun b hb=>hL b (h.fin j o b hj hb)),h.apart,h.row,h.fin,fun x hx=>Nat.lt_of_lt_of_le (h.lt x hx) k.size⟩
theorem Obs.nil(w:World)(T:TypeId)(f:Ob→Value × Value × Value){F:List Nat}(hF:∀ x,x∈F→x<w.heap.size):Obs w T f (.slice none 0 0) [] F:=
 ⟨World.ownsRow_nil w _ _ _,fun j o h=>by simp at h,fun i j o p k h=>by simp at h,fun k h=>by simp[Value.ownBlock] at h,fun j o k h=>by simp at h,hF⟩
theorem HpV.kept{w w':World}{hp:Nat}{sv:Value}{os:List Ob}{F L:List Nat}(h:HpV w hp sv os F)(k:zc L w w')(hL:∀ x,x∈F→x ∉ L):HpV w' hp sv os F:=
 ⟨by rw[k.block hp (zQ h.box) (hL hp h.hin)];exact h.box,h.hin,h.obs.kept k hL⟩
theorem Hp.kept{w w':World}{hp:Nat}{os:List Ob}{F L:List Nat}(h:Hp w hp os F)(k:zc L w w')(hL:∀ x,x∈F→x ∉ L):Hp w' hp os F:=by
 obtain ⟨sv,h⟩:=h;exact ⟨sv,h.kept k hL⟩
theorem Hp.quiet{w w':World}{hp:Nat}{os:List Ob}{F:List Nat}(h:Hp w hp os F)(k:zc [] w w'):Hp w' hp os F:=h.kept k fun _ _=>by simp
theorem Hp.lt{w:World}{hp:Nat}{os:List Ob}{F:List Nat}(h:Hp w hp os F):∀ x,x∈F→x<w.heap.size:=by
 obtain ⟨sv,h⟩:=h;exact h.obs.lt
end Go.Proofs.YthflgjkmbakedaaGreatDoor
namespace Go.Proofs.YthflgjkmbakedaaGreatDoor
open Go.Value (int pointer agg)
open Go.IntKind (i64)
open Go.RowKit
theorem j0v(w:World):Calls Tryz.prog 56 #[] w fun e w'=>e=.returned (pointer (some ⟨w.heap.size,0,none⟩))∧Hp w' w.heap.size [] [w.heap.size]∧zc [] w w':=by
 go_enter Tryz.func56,Tryz.ntmps56;go_wp2;go_ret;refine ⟨rfl,⟨.slice none 0 0,zh w _,List.mem_singleton.2 rfl,Obs.nil _ _ _ (fun x hx=> ?_)⟩,zc.alloc [] w _⟩;rw[List.mem_singleton.1 hx];exact zQ (zh w _)
end Go.Proofs.YthflgjkmbakedaaGreatDoor
namespace Go.Proofs.YthflgjkmbakedaaGreatDoor
open Go.RowKit
def fr0(f:Nat):Fr:=⟨f,0,0,List.replicate 16 rg0⟩
def ma0(P:Pr8)(l:List Int):Ma:=⟨[],fr0 P.main.toNat,[],[],l,false,0,false,(0,0,false)⟩
def passedL(x:In8):List Int:=if x.op=14 then x.a :: x.args else x.args
def fillF(x:Fr)(k:Nat)(y:Fr):List Int→Fr
 | []=>y
 | r :: l=>fillF x (k+1) (y.set (k:Int) (x.get r)) l
def callS(P:Pr8)(m:Ma)(x:In8):Int × Ma:=
 match callee P m x with
 | none=>(1,m)
 | some f=>if 60≤m.bot.length+1 then (6,m) else
  (0,{ m with bot:=m.bot ++ [m.top],top:=fillF m.top 0 (fr0 f.toNat) (passedL x),lc:=true,lf:=f })
def endS(P:Pr8)(m:Ma)(b:Bl8):Int × Ma:=
 if b.fin=3 then zop P m (m.top.get b.reg)
 else if b.fin=2∧(m.top.get b.reg).2.1=0 then (0,{ m with top:=m.top.go b.els.toNat })
 else (0,{ m with top:=m.top.go b.to.toNat })
def isCall(x:In8):Bool:=decide (x.op=12) || decide (x.op=13) || decide (x.op=14)
def doS(P:Pr8)(m:Ma):Int × Ma:=
 if m.top.i=(m.top.blk P).code.length then endS P m (m.top.blk P)
 else if isCall (m.top.ins P) then callS P m (m.top.ins P)
 else if (zo5 P m (m.top.ins P)).1=0 then (0,{ (zo5 P m (m.top.ins P)).2 with top:=(zo5 P m (m.top.ins P)).2.top.next })
 else zo5 P m (m.top.ins P)
def Ma.calm(m:Ma):Ma:={ m with lc:=false,lf:=0,sk:=false }
def stepS(P:Pr8)(m:Ma):Int × Ma:=doS P m.calm
end Go.Proofs.YthflgjkmbakedaaGreatDoor
