import Derived.Test.YthflgjkmbakedaaGreatDoorL04
set_option maxRecDepth 20000
set_option maxHeartbeats 8000000
namespace Go.Proofs.YthflgjkmbakedaaGreatDoor
open Go.Value (int pointer agg)
open Go.IntKind (i64)
open Go.RowKit
theorem zc.up{F:List Nat}{a b:World}(k:zc [] a b):zc F a b:=k.mono fun _ h=>by cases h
section
variable {W0 w:World}{mp pp fg:Nat}{P:Pr8}{m:Ma}{F:List Nat}{hb fc:Nat}{rv:Value}{oa:Option Addr}{oc:Nat}{os:List Ob}{Fh:List Nat}
theorem OpP.of{w1 w2:World}{m':Ma}{r:Int × Ma}{y:Int}{F':List Nat}{rv':Value}{oa':Option Addr}{oc':Nat}{os':List Ob}{Fh':List Nat}(k:zc [] w w1)(M:MaS W0 w2 mp pp fg P m' F' hb fc rv' oa' oc' os' Fh')(k2:zc F w1 w2)(n:znR w1 F F')(e:r=(y,m')):OpP W0 w mp pp fg P F hb fc r (.returned (int i64 y)) w2:=by
 subst e;exact ⟨rfl,F',rv',oa',oc',os',Fh',M,k.up.step k2,fun z hz=>(n z hz).imp id (Nat.le_trans k.size)⟩
theorem j24{w1:World}{x:In8}{ax:Value}{b:Nat}(hn:w1.heap[b]? = some (.cells #[int i64 x.op,int i64 x.dst,int i64 x.a,int i64 x.b,int i64 x.n,ax] 54 (0,0)))(hF:b ∉ F)(w':World)(k:zc F w1 w'):w'.cell? ⟨b,1,none⟩=some (int i64 x.dst)∧w'.cell? ⟨b,2,none⟩=some (int i64 x.a)∧w'.cell? ⟨b,3,none⟩=some (int i64 x.b)∧w'.cell? ⟨b,4,none⟩=some (int i64 x.n):=by
 have h:w'.heap[b]? = _:=(k.block b (zQ hn) hF).trans hn;exact ⟨zd h 1,zd h 2,zd h 3,zd h 4⟩
theorem j25(h:MaS W0 w mp pp fg P m F hb fc rv oa oc os Fh)(x:In8)(ax:Value)(hx:x.op=1)(ok:zo0 x):
  Calls Tryz.prog 97 #[pointer (some ⟨mp,0,none⟩),pointer (some ⟨fg,m.bot.length * 67,none⟩),z8 x ax] w (OpP W0 w mp pp fg P F hb fc (zo5 P m x)):=by
 have E:Box (zo5 P m x=(0,m.put x.dst (0,x.n,false))):=hid (by
  unfold zo5
  rw[if_pos hx])
 have o1:(x.op == 1)=true:=eqb hx;have ka:=zc.alloc [] w (.cells #[int i64 x.op,int i64 x.dst,int i64 x.a,int i64 x.b,int i64 x.n,ax] 54);have KA:=hid ka;have H1:=hid (h.quiet ka);have HS:=hid (j24 (F:=F) (zh w (.cells #[int i64 x.op,int i64 x.dst,int i64 x.a,int i64 x.b,int i64 x.n,ax] 54)) (fun hm=>by have:=h.lt _ hm;omega));have c0:=zd (zh w (.cells #[int i64 x.op,int i64 x.dst,int i64 x.a,int i64 x.b,int i64 x.n,ax] 54)) 0;have OK:=hid ok;clear h hx ok ka;unfold z8;go_enter Tryz.func97,Tryz.ntmps97;go_upto_region 1 with fail;generalize w.alloc (.cells #[int i64 x.op,int i64 x.dst,int i64 x.a,int i64 x.b,int i64 x.n,ax] 54)=w1 at *;obtain ⟨c1,c2,c3,c4⟩:=HS.o w1 (zc.refl _ _);go_wp2_with fail;refine (j1c H1.o (0,x.n,false) OK.o.d0 OK.o.d1).mono ?_;rintro e w2 ⟨rfl,m2,k2⟩;have M2:=hid m2;have K2:=hid (k2.mono fun y hy=>by rw[List.mem_singleton.1 hy];exact H1.o.fg_in:zc F w1 w2);clear m2 k2;go_wp2_with fail;go_ret;exact .of KA.o M2.o K2.o (znR.refl _ _) E.o
end
section
variable {W0 w w':World}{mp pp fg:Nat}{P:Pr8}{m:Ma}{F:List Nat}{hb fc:Nat}{rv:Value}{oa:Option Addr}{oc:Nat}{os:List Ob}{Fh:List Nat}
theorem MaS.done(h:MaS W0 w mp pp fg P m F hb fc rv oa oc os Fh)(v:V3):MaS W0 (((w.setCell ⟨mp,8,none⟩ (int i64 v.1)).setCell ⟨mp,9,none⟩ (int i64 v.2.1)).setCell ⟨mp,10,none⟩ (.bool v.2.2)) mp pp fg P { m with res:=v } F hb fc rv oa oc os Fh:=
 h.bx (((zc.setCell [mp] _ _ _ (List.mem_singleton.2 rfl)).step (zc.setCell [mp] _ _ _ (List.mem_singleton.2 rfl))).step (zc.setCell [mp] _ _ _ (List.mem_singleton.2 rfl))) (heap_setCell_same _ mp 10 _ _ _ (heap_setCell_same _ mp 9 _ _ _ (heap_setCell_same w mp 8 _ _ (int i64 v.1) h.box))) rfl rfl rfl rfl id h.ocap
theorem keeps3m(w:World)(F:List Nat)(b:Nat)(u0 u1 u2:Value)(h:b∈F):zc F w (((w.setCell ⟨b,8,none⟩ u0).setCell ⟨b,9,none⟩ u1).setCell ⟨b,10,none⟩ u2):=((zc.setCell F _ _ _ h).step (zc.setCell F _ _ _ h)).step (zc.setCell F _ _ _ h)
theorem j26(h:MaS W0 w mp pp fg P m F hb fc rv oa oc os Fh)(v:V3)(e:m.bot=[]):
  Calls Tryz.prog 141 #[pointer (some ⟨mp,0,none⟩),vlV v] w (OpP W0 w mp pp fg P F hb fc (zop P m v)):=by
 have E:Box (zop P m v=(4,{ m with res:=v })):=hid (by unfold zop;rw[e];rfl);have ka:=zc.alloc [] w (.cells #[int i64 v.1,int i64 v.2.1,.bool v.2.2] 30);have KA:=hid ka;have HN:=hid (zh w (.cells #[int i64 v.1,int i64 v.2.1,.bool v.2.2] 30));have H1:=hid (h.quiet ka);have c4:(w.alloc (.cells #[int i64 v.1,int i64 v.2.1,.bool v.2.2] 30)).cell? ⟨mp,4,none⟩=some (.slice (some ⟨fg,0,none⟩) 1 fc):=by
  have:=zd H1.o.box 4;rw[this];show some (Value.slice _ (m.bot.length+1) _)=_;rw[e];rfl
 have p8:=zd H1.o.box 8;have p9:=zd H1.o.box 9;have p10:=zd H1.o.box 10;have z8:=zi H1.o.box 8;have z9:=zi H1.o.box 9;have z10:=zi H1.o.box 10;have v0:=zd HN.o 0;have v1:=zd HN.o 1;have v2:=zd HN.o 2;clear h ka e;go_enter Tryz.func141,Tryz.ntmps141;go_upto_region 1 with fail;generalize w.alloc (.cells #[int i64 v.1,int i64 v.2.1,.bool v.2.2] 30)=w1 at *;go_wp2_with fail;go_ret;exact .of KA.o (H1.o.done v) (keeps3m w1 F mp _ _ _ H1.o.mp_in) (znR.refl _ _) E.o
end
end Go.Proofs.YthflgjkmbakedaaGreatDoor
namespace Go.Proofs.YthflgjkmbakedaaGreatDoor
open Go.RowKit
theorem j27:Tryz.prog.info? 114=some Tryz.t114:=by kernel_rfl
theorem j28:Tryz.prog.underlying 115=some (.slice 114):=by kernel_rfl
theorem j29:(Tryz.t114.zero).map (·.cells.size)=some 67:=by kernel_rfl
theorem j3a:Tryz.t114.size=67:=by kernel_rfl
end Go.Proofs.YthflgjkmbakedaaGreatDoor
namespace Go.Proofs.YthflgjkmbakedaaGreatDoor
open Go.Value (int pointer agg)
open Go.IntKind (i64)
open Go.RowKit
def ClP(W0 w:World)(mp pp:Nat)(P:Pr8)(F:List Nat)(hb:Nat)(r:Int × Ma)(e:Ending)(w':World):Prop:=
 e=.returned (int i64 r.1)∧∃ F' fg' fc' rv' oa' oc' os' Fh',MaS W0 w' mp pp fg' P r.2 F' hb fc' rv' oa' oc' os' Fh'∧zc F w w'∧znR w F F'
theorem OpP.cl{W0 w:World}{mp pp fg:Nat}{P:Pr8}{F:List Nat}{hb fc:Nat}{r:Int × Ma}{e:Ending}{w':World}(h:OpP W0 w mp pp fg P F hb fc r e w'):ClP W0 w mp pp P F hb r e w':=by
 obtain ⟨h1,F',rv',oa',oc',os',Fh',h2⟩:=h;exact ⟨h1,F',fg,fc,rv',oa',oc',os',Fh',h2⟩
section
variable {W0 w w':World}{mp pp fg:Nat}{P:Pr8}{m:Ma}{F:List Nat}{hb fc:Nat}{rv:Value}{oa:Option Addr}{oc:Nat}{os:List Ob}{Fh:List Nat}
theorem j3b(w:World)(f:Nat):znG (w.alloc (.cells (frC (fr0 f)).toArray 114)) (.slice (some ⟨w.heap.size,0,none⟩) 1 1) [fr0 f]:=by
 refine ⟨?_,fun z hz=>by rw[List.mem_singleton.1 hz];exact List.length_replicate⟩;have:=World.ownsRow_lit (base:=0) (e:=114) (size:=67) w (frC (fr0 f)).toArray 1 (Nat.zero_le _) (by unfold maxLen;omega) (by rw[List.size_toArray,j00 List.length_replicate]);rw[List.toList_toArray] at this;rw[List.flatMap_singleton];exact this
end
theorem j3c{w:World}{a:Option Addr}{cp:Nat}{l:List Bl8}(h:z7 w 5 BlC a l)(hl:l.length≤1000)(hc:∀ y,y∈l→y.code.length≤1000∧∀ x,x∈y.code→x.args.length≤1000):
  Calls Tryz.prog 93 #[.slice a l.length cp] w fun e w'=>∃ v,e=.returned v∧znV (zod w.heap.size w') v l∧zc [] w w':=by
 have HC:=hid (j2k (cp:=cp) h hl);have HY:=hid hc;have HR:=hid h;obtain ⟨n,hN⟩:∃ n,n=l.length:=⟨_,rfl⟩;have HL:=hid hN;have hNE:n≠0→l≠[]:=fun h0 e=>h0 (by rw[hN,e];rfl);rw[← hN] at HC hl ⊢;clear h hc hN;go_enter Tryz.func93,Tryz.ntmps93;go_wp2_with fail;refine HC.o.mono ?_;rintro e w1 ⟨a1,cap,rfl,d1,k1⟩;have K1:=hid k1;obtain ⟨xs,hx,B0⟩:∃ xs,(n≠0→∃ b off,a=some ⟨b,off,none⟩∧(∀ m u,xs[m]? = some u→w.cell? ⟨b,off+m,none⟩=some u)∧xs.length=n * 5)∧BkI w w1 a1 n cap l 0 xs:=by
  rcases d1 with ⟨e1,e2,e3⟩ | ⟨g,xs,e1,own,hg,hx⟩
  ·exact ⟨[],fun hn=>absurd e2 hn,.inl ⟨e1,e2,e3⟩⟩
  ·exact ⟨xs,fun h0=>hx (hNE h0),.inr ⟨g,xs,e1,⟨own,fun j y hy=>by simp at hy,fun _ _=>rfl⟩,hg⟩⟩
 have HX:=hid hx;have G0:=hid B0;clear HC d1 k1 hx B0;go_wp2_with fail
 go_loopw [11] (fun iv wr=>∃ k:Nat,k≤n∧iv=int i64 (k:Int)∧Box (BkI w wr a1 n cap l k xs)∧Box (zc [] w wr)) (fun iv _=>n - (intOf iv).toNat)
 case atStart=>exact ⟨0,by omega,rfl,G0,K1⟩
 case round=>
  obtain ⟨k,hk,rfl,HB,HK⟩:=hrel;clear G0;obtain ⟨wk,hwk⟩:∃ wk,wk=wr:=⟨_,rfl⟩;subst hwk;by_cases hlt:k<n
  ·have hlt':(k:Int)<(n:Int):=by omega
   rcases HB.o with ⟨_,h0,_⟩ | ⟨g,rs,ha1,KLk,hg⟩
   ·omega
   subst ha1;obtain ⟨y,hy⟩:∃ y,l[k]? = some y:=⟨_,List.getElem?_eq_getElem (by rw[← HL.o];exact hlt)⟩;obtain ⟨sb,so,ha9,bl⟩:=HR.o.at hy;obtain ⟨sb',so',ha8,hxs,hxl⟩:=HX.o (by omega);rw[ha9] at ha8;cases ha8;clear ha9;have hlk:(l.take k).length=k:=by rw[List.length_take, ← HL.o];omega
   obtain ⟨ca,ccp,q0,q1,_⟩:=bl.c0;have hr0:rs[k * 5]? = some (.slice ca y.code.length ccp):=by
    rw[KLk.rest (k * 5) (by rw[hlk];exact Nat.le_refl _)];exact j2g hxl hxs (by omega) q0
   have p0:=(j2e KLk.own hr0).2;have z0:=KLk.own.frozenAt (k * 5);have KLB:=hid KLk;have BLB:=hid bl;have HXS:=hid (And.intro hxs hxl);have HQ1:=hid q1;have YY:=hid (HY.o y (List.mem_of_getElem? hy));have HYK:=hid hy;have HCI:=hid (j2j (cp:=ccp) (q1.quiet InC.stays HK.o) YY.o.1);obtain ⟨m,hm⟩:∃ m,m=y.code.length:=⟨_,rfl⟩;have HM:=hid hm;rw[← hm] at HCI p0;clear hxs hxl bl KLk q0 q1 hr0 hy HB hm;go_wp2_with fail;refine HCI.o.mono ?_;rintro e w2 ⟨a2,cap2,rfl,d2,k2⟩;have K2:=hid k2;have D2:=hid d2;have own2:=zj KLB.o.own k2 (fun _ _=>by simp);have p2:w2.cell? ⟨g,k * 5,none⟩=some (.slice ca m ccp):=za k2 p0;have z2:=own2.frozenAt (k * 5);have OW2:=hid own2;clear HCI d2 k2 p0 z0 own2;go_upto_region 6 with fail;obtain ⟨xs2,hx2,C0⟩:∃ xs2,(m≠0→∃ b off,ca=some ⟨b,off,none⟩∧(∀ m u,xs2[m]? = some u→wk.cell? ⟨b,off+m,none⟩=some u)∧xs2.length=m * 6)∧CdI wk (w2.setCell ⟨g,k * 5,none⟩ (.slice a2 m cap2)) a2 m cap2 y.code 0 xs2:=by
    have glt:g<wk.heap.size:=(KLB.o.own.lt g rfl).2;rcases D2.o with ⟨e1,e2,e3⟩ | ⟨g2,xs2,e1,own,hg2,hx⟩
    ·exact ⟨[],fun hn=>absurd e2 hn,.inl ⟨e1,e2,e3⟩⟩
    ·refine ⟨xs2,fun h0=>hx (fun e=>h0 (by rw[HM.o,e];rfl)),.inr ⟨g2,xs2,e1,⟨zj own (zc.setCell [g] _ _ _ (List.mem_singleton.2 rfl)) (fun b hb hm=> ?_),fun j y hy=>by simp at hy,fun _ _=>rfl⟩,hg2⟩⟩
     simp[Value.ownBlock] at hb;rw[List.mem_singleton] at hm;omega
   have HX2:=hid hx2;have CD0:=hid C0;have O3:=hid (OW2.o.stored (k * 5) (.slice a2 m cap2)).1;have KG:Box (zc [g] wk (w2.setCell ⟨g,k * 5,none⟩ (.slice a2 m cap2))):=hid ((K2.o.mono fun _ hz=>by cases hz).step (zc.setCell _ _ _ _ (List.mem_singleton.2 rfl)));have hrl:k * 5<rs.length:=by rw[KLB.o.own.1];omega
   have HRL:=hid hrl;generalize w2.setCell ⟨g,k * 5,none⟩ (.slice a2 m cap2)=w3 at *;clear p2 z2 OW2 D2 K2 hx2 C0 hrl;have p3:=(j2e O3.o (List.getElem?_set_self HRL.o)).2;have hm1:m≤1000:=by have:=HM.o;have:=YY.o.1;omega
   go_wp2_with fail
   go_loopw [30] (fun iv wq=>∃ i:Nat,i≤m∧iv=int i64 (i:Int)∧Box (CdI wk wq a2 m cap2 y.code i xs2)∧Box (wq.ownsRow w.heap.size 57 5 (.slice (some ⟨g,0,none⟩) n cap) n (rs.set (k * 5) (.slice a2 m cap2)))∧Box (zc [g] wk wq)) (fun iv _=>m - (intOf iv).toNat)
   case atStart=>exact ⟨0,by omega,rfl,CD0,O3,KG⟩
   case round=>
    obtain ⟨i,hi,rfl,HD,HO,HG⟩:=hrel;clear CD0 O3 KG p3;by_cases hli:i<m
    ·have hli':(i:Int)<(m:Int):=by omega
     rcases HD.o with ⟨_,h0,_⟩ | ⟨g2,rs2,ha2,KLi,hg2⟩
     ·omega
     subst ha2;obtain ⟨x,hx⟩:∃ x,y.code[i]? = some x:=⟨_,List.getElem?_eq_getElem (by rw[← HM.o];exact hli)⟩;obtain ⟨ib,io,hca,ic⟩:=HQ1.o.at hx;obtain ⟨ib',io',hca',hxs,hxl⟩:=HX2.o (by omega);rw[hca] at hca';cases hca';clear hca;have hlk2:(y.code.take i).length=i:=by rw[List.length_take, ← HM.o];omega
     obtain ⟨xa,xcp,q5,q6,_⟩:=ic.c5;have cell:∀ (j:Nat) (u:Value),j<6→w.cell? ⟨ib,io+i * 6+j,none⟩=some u→xs2[i * 6+j]? = some u∧wr.cell? ⟨g2,i * 6+j,none⟩=some u:=fun j u hj hu=>by
      have h2:=j2g hxl hxs (m:=i * 6+j) (by omega) (by rw[← Nat.add_assoc];exact za HK.o hu);exact ⟨h2,(j2e KLi.own ((KLi.rest _ (by rw[hlk2];omega)).trans h2)).2⟩
     have x0:=cell 0 _ (by omega) ic.c0.1;have x1:=cell 1 _ (by omega) ic.c1.1;have x2:=cell 2 _ (by omega) ic.c2.1;have x3:=cell 3 _ (by omega) ic.c3.1;have x4:=cell 4 _ (by omega) ic.c4.1;have x5:=cell 5 _ (by omega) q5;have y5:=KLi.own.frozenAt (i * 6+5);have XX:=hid (And.intro x0.1 (And.intro x1.1 (And.intro x2.1 (And.intro x3.1 x4.1))));have HB64:Box (b64 x.op∧b64 x.dst∧b64 x.a∧b64 x.b∧b64 x.n):=hid ⟨ic.c0.2,ic.c1.2,ic.c2.2,ic.c3.2,ic.c4.2⟩;have z0:wr.cell? ⟨g2,i * 6,none⟩=some (int i64 x.op):=x0.2;obtain ⟨-,z1⟩:=x1;obtain ⟨-,z2⟩:=x2;obtain ⟨-,z3⟩:=x3;obtain ⟨-,z4⟩:=x4;obtain ⟨-,z5⟩:=x5;have p3:=(j2e HO.o (List.getElem?_set_self HRL.o)).2;have HGW:Box (zc [] w wr):=hid (HK.o.trans HG.o (fun z hz hl=>by rw[List.mem_singleton.1 hz] at hl;omega));have HCL:=hid fun (w':World) (k9:zc [] wr w')=>j2i (cp:=xcp) (q6.quiet ji.stays (HGW.o.quiet k9)) (YY.o.2 x (List.mem_of_getElem? hx));have KLI:=hid KLi;have HX9:=hid hx;clear cell ic q5 q6 hx hxs hxl KLi HD;go_upto_region 9 with fail;have P9:=hid fun (w':World) (k9:zc [] wr w')=>za k9 p3;have N9:=hid (zh wr (.cells #[int i64 x.op,int i64 x.dst,int i64 x.a,int i64 x.b,int i64 x.n,.slice xa x.args.length xcp] 54));have A9:=hid (zc.alloc [] wr (.cells #[int i64 x.op,int i64 x.dst,int i64 x.a,int i64 x.b,int i64 x.n,.slice xa x.args.length xcp] 54));have Z9:=hid fun (w':World) (k9:zc [] wr w')=>And.intro (za k9 z5) ((zj KLI.o.own k9 (fun _ _=>by simp)).frozenAt (i * 6+5));generalize wr.alloc (.cells #[int i64 x.op,int i64 x.dst,int i64 x.a,int i64 x.b,int i64 x.n,.slice xa x.args.length xcp] 54)=wz at *;have NG:Box (g ∉ [g2]):=hid fun hm=>by
      have h1:=(KLB.o.own.lt g rfl).2;rw[List.mem_singleton.1 hm] at h1;omega
     have NW:Box (wr.heap.size ∉ [g2]):=hid fun hm=>by
      have h1:=(KLI.o.own.lt g2 rfl).2;rw[← List.mem_singleton.1 hm] at h1;omega
     have c5:=zd N9.o 5;have c3:=P9.o wz A9.o;have kd:zc [] wz wz.drew:=zc.drew _ _;clear z0 z1 z2 z3 z4 z5 p3 y5
     go_region_held3 (fun w'=>w'.cell? ⟨g,k * 5,none⟩=some (.slice (some ⟨g2,0,none⟩) m cap2)∧w'.cell? ⟨wr.heap.size,5,none⟩=some (.slice xa x.args.length xcp)) (go_keep) (first
      | (go_at_call 92;refine (HCL.o _ (A9.o.quiet kd)).mono ?_;rintro e5 w5 ⟨v5,rfl,r5,k5⟩;obtain ⟨a5,c55,e5⟩:=j2l r5;subst e5;have R5:=hid r5;have kk5:=kd.quiet k5;have f50:=P9.o _ (A9.o.quiet kk5);have f51:=zd (ze N9.o kk5) 5;obtain ⟨f52,f53⟩:=Z9.o _ (A9.o.quiet kk5);have s50:=((zc.setCell [g2] w5 ⟨g2,i * 6+5,none⟩ (.slice a5 x.args.length c55) (List.mem_singleton.2 rfl)).cell (block_lt_of_cell f50) NG.o).trans f50;have s51:=((zc.setCell [g2] w5 ⟨g2,i * 6+5,none⟩ (.slice a5 x.args.length c55) (List.mem_singleton.2 rfl)).cell (block_lt_of_cell f51) NW.o).trans f51;clear r5 k5))
     all_goals
      have KC:=hid (A9.o.quiet kk5)
      have CD:Box (CdI wk (w5.setCell ⟨g2,i * 6+5,none⟩ (.slice a5 x.args.length c55)) (some ⟨g2,0,none⟩) m cap2 y.code (i+1) xs2):=hid (CdI.step KLI.o hg2 hli HM.o HX9.o KC.o (zkL.sub _ _ _ _ (Sub.down _ A9.o.size) R5.o) (fun j u hu hj=>by
       match j,hj with
       | 0,_=>cases hu;exact XX.o.1
       | 1,_=>cases hu;exact XX.o.2.1
       | 2,_=>cases hu;exact XX.o.2.2.1
       | 3,_=>cases hu;exact XX.o.2.2.2.1
       | 4,_=>cases hu;exact XX.o.2.2.2.2) HB64.o)
      have OD:=hid (zj (zj HO.o KC.o (fun _ _=>by simp)) (zc.setCell [g2] w5 ⟨g2,i * 6+5,none⟩ (.slice a5 x.args.length c55) (List.mem_singleton.2 rfl)) (fun b hb hm=>by
       simp[Value.ownBlock] at hb;subst hb
       exact NG.o hm))
      have GD:Box (zc [g] wk (w5.setCell ⟨g2,i * 6+5,none⟩ (.slice a5 x.args.length c55))):=hid ((HG.o.quiet KC.o).trans (zc.setCell [g2] _ _ _ (List.mem_singleton.2 rfl)) (fun z hz hl=>by rw[List.mem_singleton.1 hz] at hl;omega));clear f50 f51 f52 f53 s50 s51 kk5 kd c5 c3 HO HG;generalize w5.setCell ⟨g2,i * 6+5,none⟩ (.slice a5 x.args.length c55)=w6 at *;go_wp2_with fail;go_roundw
      case rel=>exact ⟨i+1,by omega,by go_num,CD,OD,GD⟩
      case measure=>simp[intOf];omega
    ·obtain rfl:m=i:=by omega
     have CA:=hid (HD.o.all HM.o hm1)
     have BK:Box (BkI w wr (some ⟨g,0,none⟩) n cap l (k+1) xs):=hid (by
      refine .inr ⟨g,rs.set (k * 5) (.slice a2 m cap2),rfl,?_,hg⟩;have hlk:(l.take k).length=k:=by rw[List.length_take, ← HL.o];omega
      rw[List.take_add_one,HYK.o];have glt:g<wk.heap.size:=(KLB.o.own.lt g rfl).2;have cellb:∀ (j:Nat) (u:Value),j<5→w.cell? ⟨sb,so+k * 5+j,none⟩=some u→xs[k * 5+j]? = some u:=fun j u hj hu=>j2g HXS.o.2 HXS.o.1 (by omega) (by rw[← Nat.add_assoc];exact hu);refine KLB.o.next BlV.sub (Nat.lt_succ_self g) HG.o HO.o (fun q hq=> ?_) (v:=agg #[.slice a2 y.code.length cap2,int i64 y.fin,int i64 y.reg,int i64 y.to,int i64 y.els]) ⟨a2,cap2,rfl,znH.sub _ _ _ _ (Sub.down _ glt) CA.o,BLB.o.c1.2,BLB.o.c2.2,BLB.o.c3.2,BLB.o.c4.2⟩ (fun j hj=> ?_)
      ·rw[hlk] at hq
       rw[List.getElem?_set_ne (by omega)]
      ·rw[hlk]
       match j,hj with
       | 0,_=>rw[Nat.add_zero,List.getElem?_set_self HRL.o,HM.o];rfl
       | 1,_=>rw[List.getElem?_set_ne (by omega),KLB.o.rest _ (by rw[hlk];omega),cellb 1 _ (by omega) BLB.o.c1.1];rfl
       | 2,_=>rw[List.getElem?_set_ne (by omega),KLB.o.rest _ (by rw[hlk];omega),cellb 2 _ (by omega) BLB.o.c2.1];rfl
       | 3,_=>rw[List.getElem?_set_ne (by omega),KLB.o.rest _ (by rw[hlk];omega),cellb 3 _ (by omega) BLB.o.c3.1];rfl
       | 4,_=>rw[List.getElem?_set_ne (by omega),KLB.o.rest _ (by rw[hlk];omega),cellb 4 _ (by omega) BLB.o.c4.1];rfl)
     have HKW:Box (zc [] w wr):=hid (HK.o.trans HG.o (fun z hz hl=>by rw[List.mem_singleton.1 hz] at hl;omega));clear HD HO HG CA;go_wp2_with fail;go_roundw
     case rel=>exact ⟨k+1,by omega,by go_num,BK,HKW⟩
     case measure=>simp[intOf];omega
  ·obtain rfl:n=k:=by omega
   have BA:=hid (HB.o.all HL.o hl);have HKW:=hid HK.o;clear HB HK;go_wp2_with fail;go_ret;exact ⟨_,rfl,by rw[← HL.o] at BA;exact BA.o,HKW.o⟩
theorem j3d{w:World}{pp:Nat}{P:Pr8}(h:PrC w pp 0 P)(h1:P.recs.length≤1000)(h2:P.ims.length≤1000)(h3:P.funcs.length≤1000)(r1:∀ r,r∈P.recs→r.length≤1000)(r2:∀ x,x∈P.ims→x.2.2.length≤1000)(r3:∀ f,f∈P.funcs→f.regs.length≤1000∧f.blocks.length≤1000∧∀ y,y∈f.blocks→y.code.length≤1000∧∀ x,x∈y.code→x.args.length≤1000):
  Calls Tryz.prog 54 #[pointer (some ⟨pp,0,none⟩)] w fun e w'=>∃ q,e=.returned (pointer (some ⟨q,0,none⟩))∧PrC (zod w.heap.size w') q 0 { P with sigs:=[],ifs:=[],main:=0 }∧zc [] w w':=by
 obtain ⟨ra,rcp,q0,rows1,_⟩:=h.c0;obtain ⟨ia,icp,q3,rows2,_⟩:=h.c3;obtain ⟨fa,fcp,q4,rows3,_⟩:=h.c4;rw[Nat.zero_add] at q3 q4;have W1:=hid rows1;have W2:=hid rows2;have W3:=hid rows3;have HC1:=hid fun (w':World) (k:zc [] w w')=>j2m (cp:=rcp) (rows1.quiet (SlC.stays TyC.stays) k) h1;have HC2:=hid fun (w':World) (k:zc [] w w')=>j2n (cp:=icp) (rows2.quiet ImC.stays k) h2;have HC3:=hid fun (w':World) (k:zc [] w w')=>j2o (cp:=fcp) (rows3.quiet FuC.stays k) h3;obtain ⟨n1,hn1⟩:∃ n,n=P.recs.length:=⟨_,rfl⟩;obtain ⟨n2,hn2⟩:∃ n,n=P.ims.length:=⟨_,rfl⟩;obtain ⟨n3,hn3⟩:∃ n,n=P.funcs.length:=⟨_,rfl⟩;have N1:=hid hn1;have N2:=hid hn2;have N3:=hid hn3;have R1:=hid r1;have R2:=hid r2;have R3:=hid r3;have E1:n1≠0→P.recs≠[]:=fun h0 e=>h0 (by rw[hn1,e];rfl);have E2:n2≠0→P.ims≠[]:=fun h0 e=>h0 (by rw[hn2,e];rfl);have E3:n3≠0→P.funcs≠[]:=fun h0 e=>h0 (by rw[hn3,e];rfl);rw[← hn1] at q0 HC1 h1;rw[← hn2] at q3 HC2 h2;rw[← hn3] at q4 HC3 h3;have PP:=hid fun (w':World) (k:zc [] w w')=>And.intro (za k q0) (And.intro (za k q3) (za k q4));clear h hn1 hn2 hn3 r1 r2 r3 rows1 rows2 rows3 q0 q3 q4;go_enter Tryz.func54,Tryz.ntmps54;go_upto_region 1 with fail;obtain ⟨c0,c3,c4⟩:=PP.o w (zc.refl _ _);have kd:zc [] w w.drew:=zc.drew _ _;have hS1:w.heap.size≤w.drew.heap.size:=kd.size
 go_region_held3 (fun w'=>w'.cell? ⟨pp,0,none⟩=some (.slice ra n1 rcp)∧w'.cell? ⟨pp,3,none⟩=some (.slice ia n2 icp)∧w'.cell? ⟨pp,4,none⟩=some (.slice fa n3 fcp)) (go_keep) (first
  | (go_at_call 88;refine (HC1.o _ kd).mono ?_;rintro e w5 ⟨a1,m1,rfl,d1,k5⟩;have D1:=hid d1;have K5:=hid k5;have kk5:=kd.quiet k5;obtain ⟨f50,f51,f52⟩:=PP.o _ kk5;clear d1 k5)
  | (go_at_call 89;refine (HC2.o _ kk5).mono ?_;rintro e w6 ⟨a2,m2,rfl,d2,k6⟩;have D2:=hid d2;have K6:=hid k6;have kk6:=kk5.quiet k6;obtain ⟨f60,f61,f62⟩:=PP.o _ kk6;clear d2 k6)
  | (go_at_call 90;refine (HC3.o _ kk6).mono ?_;rintro e w7 ⟨a3,m3,rfl,d3,k7⟩;have D3:=hid d3;have K7:=hid k7;have kk7:=kk6.quiet k7;obtain ⟨f70,f71,f72⟩:=PP.o _ kk7;clear d3 k7))
 all_goals
  obtain ⟨x1,hx1,l1⟩:=LsI.zero (V:=zlv) (w0:=w) (wz:=w7.alloc (.cells #[.slice a1 n1 m1,.slice none 0 0,.slice none 0 0,.slice a2 n2 m2,.slice a3 n3 m3,int i64 0] 45)) (A:=w7.heap.size+1) (l:=P.recs) D1.o hS1 ((K6.o.quiet K7.o).quiet (zc.alloc [] _ _)) (by have:=K6.o.size;have:=K7.o.size;omega);obtain ⟨x2,hx2,l2⟩:=LsI.zero (V:=ImV) (w0:=w) (wz:=w7.alloc (.cells #[.slice a1 n1 m1,.slice none 0 0,.slice none 0 0,.slice a2 n2 m2,.slice a3 n3 m3,int i64 0] 45)) (A:=w7.heap.size+1) (l:=P.ims) D2.o kk5.size (K7.o.quiet (zc.alloc [] _ _)) (by have:=K7.o.size;omega);obtain ⟨x3,hx3,l3⟩:=LsI.zero (V:=FuV) (w0:=w) (wz:=w7.alloc (.cells #[.slice a1 n1 m1,.slice none 0 0,.slice none 0 0,.slice a2 n2 m2,.slice a3 n3 m3,int i64 0] 45)) (A:=w7.heap.size+1) (l:=P.funcs) D3.o kk6.size (zc.alloc [] _ _) (by omega);have S0:Box (KpS w (w7.alloc (.cells #[.slice a1 n1 m1,.slice none 0 0,.slice none 0 0,.slice a2 n2 m2,.slice a3 n3 m3,int i64 0] 45)) (w7.heap.size+1) w7.heap.size P a1 a2 a3 n1 n2 n3 m1 m2 m3 0 0 0 x1 x2 x3):=hid ⟨zh w7 _,l1,l2,l3,kk7.quiet (zc.alloc [] _ _),kk7.size⟩;have X1:=hid fun h0=>j2s kd (hx1 h0 (E1 h0));have X2:=hid fun h0=>j2s kk5 (hx2 h0 (E2 h0));have X3:=hid fun h0=>j2s kk6 (hx3 h0 (E3 h0));generalize w7.alloc (.cells #[.slice a1 n1 m1,.slice none 0 0,.slice none 0 0,.slice a2 n2 m2,.slice a3 n3 m3,int i64 0] 45)=wz at *;generalize w7.heap.size=q at *;clear D1 D2 D3 K5 K6 K7 f50 f51 f52 f60 f61 f62 f70 f71 f72 hx1 hx2 hx3 l1 l2 l3 HC1 HC2 HC3 E1 E2 E3 kd kk5 kk6 kk7 hS1 c0 c3 c4;have p1:=zd S0.o.box 0;go_wp2_with fail
  go_loopw [32] (fun iv wr=>∃ k:Nat,k≤n1∧iv=int i64 (k:Int)∧Box (KpS w wr (q+1) q P a1 a2 a3 n1 n2 n3 m1 m2 m3 k 0 0 x1 x2 x3)) (fun iv _=>n1 - (intOf iv).toNat)
  case atStart=>exact ⟨0,by omega,rfl,S0⟩
  case round=>
   obtain ⟨k,hk,rfl,HB⟩:=hrel;clear S0 p1;by_cases hlt:k<n1
   ·have hlt':(k:Int)<(n1:Int):=by omega
    rcases HB.o.l1 with ⟨_,h0,_⟩ | ⟨g,rs,ha1,KLk,hg,hgA⟩
    ·omega
    subst ha1;obtain ⟨y,hy⟩:∃ y,P.recs[k]? = some y:=⟨_,List.getElem?_eq_getElem (by rw[← N1.o];exact hlt)⟩;obtain ⟨sb,so,ha9,bl⟩:=W1.o.at hy;obtain ⟨sb',so',ha8,hxs⟩:=X1.o (by omega);rw[ha9] at ha8;cases ha8;clear ha9;have hlk:(P.recs.take k).length=k:=by rw[List.length_take, ← N1.o];omega
    obtain ⟨ca,ccp,q0,q1,_⟩:=bl;have hr0:rs[k * 1]? = some (.slice ca y.length ccp):=by
     rw[KLk.rest (k * 1) (by rw[hlk];exact Nat.le_refl _)];exact hxs _ _ (by omega) q0
    rw[Nat.mul_one] at hr0;have p0:=(j2e KLk.own hr0).2;have KLB:=hid KLk;have HG:=hid (And.intro hg hgA);have HYK:=hid hy;have HCL:=hid fun (w':World) (k9:zc [] wr w')=>j2h (cp:=ccp) (q1.quiet TyC.stays (HB.o.keep.quiet k9)) (R1.o y (List.mem_of_getElem? hy));have Z9:=hid fun (w':World) (k9:zc [] wr w')=>And.intro (zd (HB.o.quiet k9).box 0) (And.intro (za k9 p0) ((zj KLB.o.own k9 (fun _ _=>by simp)).frozenAt k));have NQ:Box (q ∉ [g]):=hid (by simpa using j2q KLB.o.own HB.o.box (by decide));clear hxs q0 q1 hr0 hy KLk hg hgA hlk;go_upto_region 5 with fail;have kd:zc [] wr wr.drew:=zc.drew _ _;obtain ⟨b0,b1,b2⟩:=Z9.o wr (zc.refl _ _);clear p0
    go_region_held3 (fun w'=>w'.cell? ⟨q,0,none⟩=some (.slice (some ⟨g,0,none⟩) n1 m1)) (go_keep) (first
     | (go_at_call 91;refine (HCL.o _ kd).mono ?_;rintro e5 w5 ⟨v5,rfl,r5,k5⟩;obtain ⟨a5,c55,e5⟩:=j2l r5;subst e5;have R5:=hid r5;have kk5:=kd.quiet k5;obtain ⟨f50,f51,f52⟩:=Z9.o _ kk5;have s50:=((zc.setCell [g] w5 ⟨g,k,none⟩ (.slice a5 y.length c55) (List.mem_singleton.2 rfl)).cell (block_lt_of_cell f50) NQ.o).trans f50;clear r5 k5))
    all_goals
     have HQ:=zQ HB.o.box;have KW:Box (zc [g] wr (w5.setCell ⟨g,k,none⟩ (.slice a5 y.length c55))):=hid ((kk5.mono fun _ hz=>by cases hz).step (zc.setCell _ _ _ _ (List.mem_singleton.2 rfl)));have O5:=((zj KLB.o.own kk5 (fun _ _=>by simp)).stored k (.slice a5 y.length c55)).1;have TV:zlv (zod (q+1) (w5.setCell ⟨g,k,none⟩ (.slice a5 y.length c55))) (.slice a5 y.length c55) y:=SlV.put TyC.sub (Nat.le_trans HQ kd.size) HG.o.2 R5.o;have HL:k<rs.length:=by rw[KLB.o.own.1];omega
     have KS:Box (KpS w (w5.setCell ⟨g,k,none⟩ (.slice a5 y.length c55)) (q+1) q P (some ⟨g,0,none⟩) a2 a3 n1 n2 n3 m1 m2 m3 (k+1) 0 0 x1 x2 x3):=hid (HB.o.put1 KLB.o.own HG.o.1 HG.o.2 KW.o (LsI.next zlv.sub KLB.o HG.o.1 HG.o.2 HYK.o KW.o O5 (fun m hm=>by rw[List.getElem?_set_ne (by omega)]) TV (fun i hi=>by
      obtain rfl:i=0:=by omega
      rw[show k * 1+0=k by omega,List.getElem?_set_self HL]
      rfl)))
     clear HB O5 TV;go_wp2_with fail;go_roundw
     case rel=>exact ⟨k+1,by omega,by go_num,KS⟩
     case measure=>simp[intOf];omega
   ·obtain rfl:n1=k:=by omega
    have p3:=zd HB.o.box 3;have S1:=hid HB.o;clear HB X1 W1 R1;obtain ⟨wk,hwk⟩:∃ wk,wk=wr:=⟨_,rfl⟩;subst hwk;go_wp2_with fail
    go_loopw [51] (fun iv wr=>∃ k:Nat,k≤n2∧iv=int i64 (k:Int)∧Box (KpS w wr (q+1) q P a1 a2 a3 n1 n2 n3 m1 m2 m3 n1 k 0 x1 x2 x3)) (fun iv _=>n2 - (intOf iv).toNat)
    case atStart=>exact ⟨0,by omega,rfl,S1⟩
    case round=>
     obtain ⟨k,hk,rfl,HB⟩:=hrel;clear S1 p3;by_cases hlt:k<n2
     ·have hlt':(k:Int)<(n2:Int):=by omega
      rcases HB.o.l2 with ⟨_,h0,_⟩ | ⟨g,rs,ha1,KLk,hg,hgA⟩
      ·omega
      subst ha1;obtain ⟨y,hy⟩:∃ y,P.ims[k]? = some y:=⟨_,List.getElem?_eq_getElem (by rw[← N2.o];exact hlt)⟩;obtain ⟨sb,so,ha9,bl⟩:=W2.o.at hy;obtain ⟨sb',so',ha8,hxs⟩:=X2.o (by omega);rw[ha9] at ha8;cases ha8;clear ha9;have hlk:(P.ims.take k).length=k:=by rw[List.length_take, ← N2.o];omega
      obtain ⟨ca,ccp,q0,q1,_⟩:=bl.c2;have cell:∀ (j:Nat) (u:Value),j<3→w.cell? ⟨sb,so+k * 3+j,none⟩=some u→x2[k * 3+j]? = some u∧wr.cell? ⟨g,k * 3+j,none⟩=some u:=fun j u hj hu=>by
       have h2:=hxs (k * 3+j) u (by omega) (by rw[← Nat.add_assoc];exact hu);exact ⟨h2,(j2e KLk.own ((KLk.rest _ (by rw[hlk];omega)).trans h2)).2⟩
      have y0:=cell 0 _ (by omega) bl.c0.1;have y1:=cell 1 _ (by omega) bl.c1.1;have y2:=cell 2 _ (by omega) q0;have XX:=hid (And.intro y0.1 y1.1);have BB:=hid (And.intro bl.c0.2 bl.c1.2);have z0:wr.cell? ⟨g,k * 3,none⟩=some (int i64 y.1):=y0.2;obtain ⟨-,z1⟩:=y1;obtain ⟨-,z2⟩:=y2;have KLB:=hid KLk;have HG:=hid (And.intro hg hgA);have HYK:=hid hy;have HCL:=hid fun (w':World) (k9:zc [] wr w')=>j2i (cp:=ccp) (q1.quiet ji.stays (HB.o.keep.quiet k9)) (R2.o y (List.mem_of_getElem? hy));have Z9:=hid fun (w':World) (k9:zc [] wr w')=>And.intro (zd (HB.o.quiet k9).box 3) (And.intro (za k9 z2) ((zj KLB.o.own k9 (fun _ _=>by simp)).frozenAt (k * 3+2)));have NQ:Box (q ∉ [g]):=hid (by simpa using j2q KLB.o.own HB.o.box (by decide));have NW:Box (wr.heap.size ∉ [g]):=hid (by have:=(KLB.o.own.lt g rfl).2;simp;omega);obtain ⟨xa,xb,xc⟩:=y;clear hxs bl q0 q1 hy KLk hg hgA hlk cell y0;go_upto_region 10 with fail;have N9:=hid (zh wr (.cells #[int i64 xa,int i64 xb,.slice ca xc.length ccp] 61));have A9:=hid (zc.alloc [] wr (.cells #[int i64 xa,int i64 xb,.slice ca xc.length ccp] 61));generalize wr.alloc (.cells #[int i64 xa,int i64 xb,.slice ca xc.length ccp] 61)=wz at *;have kd:zc [] wz wz.drew:=zc.drew _ _;obtain ⟨b0,b1,b2⟩:=Z9.o wz A9.o;have b3:=zd N9.o 2;clear z0 z1 z2
      go_region_held3 (fun w'=>w'.cell? ⟨q,3,none⟩=some (.slice (some ⟨g,0,none⟩) n2 m2)∧w'.cell? ⟨wr.heap.size,2,none⟩=some (.slice ca xc.length ccp)) (go_keep) (first
       | (go_at_call 92;refine (HCL.o _ (A9.o.quiet kd)).mono ?_;rintro e5 w5 ⟨v5,rfl,r5,k5⟩;obtain ⟨a5,c55,e5⟩:=j2l r5;subst e5;have R5:=hid r5;have kk5:=kd.quiet k5;obtain ⟨f50,f51,f52⟩:=Z9.o _ (A9.o.quiet kk5);have f53:=zd (ze N9.o kk5) 2;have s50:=((zc.setCell [g] w5 ⟨g,k * 3+2,none⟩ (.slice a5 xc.length c55) (List.mem_singleton.2 rfl)).cell (block_lt_of_cell f50) NQ.o).trans f50;have s53:=((zc.setCell [g] w5 ⟨g,k * 3+2,none⟩ (.slice a5 xc.length c55) (List.mem_singleton.2 rfl)).cell (block_lt_of_cell f53) NW.o).trans f53;clear r5 k5))
      all_goals
       have HQ:=zQ HB.o.box;have kk6:=A9.o.quiet kk5;have KW:Box (zc [g] wr (w5.setCell ⟨g,k * 3+2,none⟩ (.slice a5 xc.length c55))):=hid ((kk6.mono fun _ hz=>by cases hz).step (zc.setCell _ _ _ _ (List.mem_singleton.2 rfl)));have O5:=((zj KLB.o.own kk6 (fun _ _=>by simp)).stored (k * 3+2) (.slice a5 xc.length c55)).1;have TV:zkL (zod (q+1) (w5.setCell ⟨g,k * 3+2,none⟩ (.slice a5 xc.length c55))) (.slice a5 xc.length c55) xc:=SlV.put ji.sub (Nat.le_trans HQ (A9.o.quiet kd).size) HG.o.2 R5.o;have HL:k * 3+2<rs.length:=by rw[KLB.o.own.1];omega
       have hlk:(P.ims.take k).length=k:=by rw[List.length_take, ← N2.o];omega
       have KS:Box (KpS w (w5.setCell ⟨g,k * 3+2,none⟩ (.slice a5 xc.length c55)) (q+1) q P a1 (some ⟨g,0,none⟩) a3 n1 n2 n3 m1 m2 m3 n1 (k+1) 0 x1 x2 x3):=hid (HB.o.put2 KLB.o.own HG.o.1 HG.o.2 KW.o (LsI.next ImV.sub KLB.o HG.o.1 HG.o.2 HYK.o KW.o O5 (fun m hm=>by rw[List.getElem?_set_ne (by omega)]) (v:=agg #[int i64 xa,int i64 xb,.slice a5 xc.length c55]) ⟨a5,c55,rfl,BB.o.1,BB.o.2,TV⟩ (fun i hi=>by
        match i,hi with
        | 0,_=>rw[List.getElem?_set_ne (by omega),KLB.o.rest _ (by rw[hlk];omega),XX.o.1];rfl
        | 1,_=>rw[List.getElem?_set_ne (by omega),KLB.o.rest _ (by rw[hlk];omega),XX.o.2];rfl
        | 2,_=>rw[List.getElem?_set_self HL];rfl)))
       clear HB O5 TV;go_wp2_with fail;go_roundw
       case rel=>exact ⟨k+1,by omega,by go_num,KS⟩
       case measure=>simp[intOf];omega
     ·obtain rfl:n2=k:=by omega
      have p4:=zd HB.o.box 4;have S2:=hid HB.o;clear HB X2 W2 R2;obtain ⟨wj,hwj⟩:∃ wj,wj=wr:=⟨_,rfl⟩;subst hwj;go_wp2_with fail
      go_loopw [72] (fun iv wr=>∃ k:Nat,k≤n3∧iv=int i64 (k:Int)∧Box (KpS w wr (q+1) q P a1 a2 a3 n1 n2 n3 m1 m2 m3 n1 n2 k x1 x2 x3)) (fun iv _=>n3 - (intOf iv).toNat)
      case atStart=>exact ⟨0,by omega,rfl,S2⟩
      case round=>
       obtain ⟨k,hk,rfl,HB⟩:=hrel;clear S2 p4;by_cases hlt:k<n3
       ·have hlt':(k:Int)<(n3:Int):=by omega
        rcases HB.o.l3 with ⟨_,h0,_⟩ | ⟨g,rs,ha1,KLk,hg,hgA⟩
        ·omega
        subst ha1;obtain ⟨y,hy⟩:∃ y,P.funcs[k]? = some y:=⟨_,List.getElem?_eq_getElem (by rw[← N3.o];exact hlt)⟩;obtain ⟨sb,so,ha9,bl⟩:=W3.o.at hy;obtain ⟨sb',so',ha8,hxs⟩:=X3.o (by omega);rw[ha9] at ha8;cases ha8;clear ha9;have hlk:(P.funcs.take k).length=k:=by rw[List.length_take, ← N3.o];omega
        obtain ⟨ca,ccp,q0,q1,_⟩:=bl.c1;obtain ⟨da,dcp,q2,q3,_⟩:=bl.c2;have cell:∀ (j:Nat) (u:Value),j<3→w.cell? ⟨sb,so+k * 3+j,none⟩=some u→x3[k * 3+j]? = some u∧wr.cell? ⟨g,k * 3+j,none⟩=some u:=fun j u hj hu=>by
         have h2:=hxs (k * 3+j) u (by omega) (by rw[← Nat.add_assoc];exact hu);exact ⟨h2,(j2e KLk.own ((KLk.rest _ (by rw[hlk];omega)).trans h2)).2⟩
        have y0:=cell 0 _ (by omega) bl.c0.1;have y1:=cell 1 _ (by omega) q0;have y2:=cell 2 _ (by omega) q2;have XX:=hid (And.intro y0.1 y2.1);have BB:=hid bl.c0.2;have z0:wr.cell? ⟨g,k * 3,none⟩=some (int i64 y.sig):=y0.2;obtain ⟨-,z1⟩:=y1;obtain ⟨-,z2⟩:=y2;have KLB:=hid KLk;have HG:=hid (And.intro hg hgA);have HYK:=hid hy;have RY:=R3.o y (List.mem_of_getElem? hy);have HCL:=hid fun (w':World) (k9:zc [] w w')=>j2h (cp:=ccp) (q1.quiet TyC.stays k9) RY.1;have HKB:=hid fun (w':World) (k9:zc [] w w')=>j3c (cp:=dcp) (q3.quiet BlC.stays k9) RY.2.1 RY.2.2;have Z9:=hid fun (w':World) (k9:zc [] wr w')=>And.intro (zd (HB.o.quiet k9).box 4) (And.intro (za k9 z1) (And.intro (za k9 z2) (And.intro ((zj KLB.o.own k9 (fun _ _=>by simp)).frozenAt (k * 3+1)) ((zj KLB.o.own k9 (fun _ _=>by simp)).frozenAt (k * 3+2)))));have NQ:Box (q ∉ [g]):=hid (by simpa using j2q KLB.o.own HB.o.box (by decide));have NW:Box (wr.heap.size ∉ [g]):=hid (by have:=(KLB.o.own.lt g rfl).2;simp;omega);obtain ⟨xa,xb,xc⟩:=y;clear hxs bl q0 q1 q2 q3 hy KLk hg hgA hlk cell y0 RY;go_upto_region 15 with fail;have N9:=hid (zh wr (.cells #[int i64 xa,.slice ca xb.length ccp,.slice da xc.length dcp] 50));have A9:=hid (zc.alloc [] wr (.cells #[int i64 xa,.slice ca xb.length ccp,.slice da xc.length dcp] 50));generalize wr.alloc (.cells #[int i64 xa,.slice ca xb.length ccp,.slice da xc.length dcp] 50)=wz at *;have kd:zc [] wz wz.drew:=zc.drew _ _;obtain ⟨b0,b1,b2,b3,b4⟩:=Z9.o wz A9.o;have b5:=zd N9.o 1;clear z0 z1 z2
        go_region_held3 (fun w'=>w'.cell? ⟨q,4,none⟩=some (.slice (some ⟨g,0,none⟩) n3 m3)∧w'.cell? ⟨wr.heap.size,1,none⟩=some (.slice ca xb.length ccp)) (go_keep) (first
         | (go_at_call 91;refine (HCL.o _ (HB.o.keep.quiet (A9.o.quiet kd))).mono ?_;rintro e5 w5 ⟨v5,rfl,r5,k5⟩;obtain ⟨a5,c55,e5⟩:=j2l r5;subst e5;have R5:=hid r5;have kk5:=kd.quiet k5;obtain ⟨f50,f51,f52,f53,f54⟩:=Z9.o _ (A9.o.quiet kk5);have f55:=zd (ze N9.o kk5) 1;have s50:=((zc.setCell [g] w5 ⟨g,k * 3+1,none⟩ (.slice a5 xb.length c55) (List.mem_singleton.2 rfl)).cell (block_lt_of_cell f50) NQ.o).trans f50;have s53:=((zc.setCell [g] w5 ⟨g,k * 3+1,none⟩ (.slice a5 xb.length c55) (List.mem_singleton.2 rfl)).cell (block_lt_of_cell f55) NW.o).trans f55;clear r5 k5))
        all_goals
         have HQ:=zQ HB.o.box;have kk6:=A9.o.quiet kk5;have GW:Box (∀ z,z∈[g]→w.heap.size≤z):=hid fun z hz=>by rw[List.mem_singleton.1 hz];exact HG.o.1
         have KW:Box (zc [g] wr (w5.setCell ⟨g,k * 3+1,none⟩ (.slice a5 xb.length c55))):=hid ((kk6.mono fun _ hz=>by cases hz).step (zc.setCell _ _ _ _ (List.mem_singleton.2 rfl)));have KWW:Box (zc [] w (w5.setCell ⟨g,k * 3+1,none⟩ (.slice a5 xb.length c55))):=hid (HB.o.keep.trans KW.o (fun z hz hl=>by have:=GW.o z hz;omega));have O5:=hid ((zj KLB.o.own kk6 (fun _ _=>by simp)).stored (k * 3+1) (.slice a5 xb.length c55)).1;have TV:Box (zlv (zod (q+1) (w5.setCell ⟨g,k * 3+1,none⟩ (.slice a5 xb.length c55))) (.slice a5 xb.length c55) xb):=hid (SlV.put TyC.sub (by have:=HB.o.keep.size;have:=(A9.o.quiet kd).size;omega) HG.o.2 R5.o);have HL:Box (k * 3+2<rs.length):=hid (by rw[KLB.o.own.1];omega);have BQ:Box ((w5.setCell ⟨g,k * 3+1,none⟩ (.slice a5 xb.length c55)).heap[q]? = some (.cells #[.slice a1 n1 m1,.slice none 0 0,.slice none 0 0,.slice a2 n2 m2,.slice (some ⟨g,0,none⟩) n3 m3,int i64 0] 45 (0,0))):=hid ((KW.o.block q HQ NQ.o).trans HB.o.box);have BM:Box ((w5.setCell ⟨g,k * 3+1,none⟩ (.slice a5 xb.length c55)).heap[wr.heap.size]? = some (.cells #[int i64 xa,.slice ca xb.length ccp,.slice da xc.length dcp] 50 (0,0))):=hid ((((kk5.mono fun _ hz=>by cases hz).step (zc.setCell [g] w5 ⟨g,k * 3+1,none⟩ (.slice a5 xb.length c55) (List.mem_singleton.2 rfl))).block _ (zQ N9.o) NW.o).trans N9.o);generalize w5.setCell ⟨g,k * 3+1,none⟩ (.slice a5 xb.length c55)=wv at *;clear f50 f51 f52 f53 f54 f55 s50 s53 b0 b1 b2 b3 b4 b5 kk5 kk6 kd R5 HCL Z9;have hlk:(P.funcs.take k).length=k:=by rw[List.length_take, ← N3.o];omega
         have hr2:(rs.set (k * 3+1) (.slice a5 xb.length c55))[k * 3+2]? = some (.slice da xc.length dcp):=by
          rw[List.getElem?_set_ne (by omega),KLB.o.rest _ (by rw[hlk];omega)];exact XX.o.2
         have Z8:=hid fun (w':World) (k9:zc [] wv w')=>And.intro (zd (ze BQ.o k9) 4) (And.intro (zd (ze BM.o k9) 2) (And.intro (za k9 (j2e O5.o hr2).2) ((zj O5.o k9 (fun _ _=>by simp)).frozenAt (k * 3+2))));clear hr2 hlk;go_upto_region 16 with fail;obtain ⟨b0,b1,b2,b3⟩:=Z8.o wv (zc.refl _ _);have kd:zc [] wv wv.drew:=zc.drew _ _
         go_region_held3 (fun w'=>w'.cell? ⟨q,4,none⟩=some (.slice (some ⟨g,0,none⟩) n3 m3)∧w'.cell? ⟨wr.heap.size,2,none⟩=some (.slice da xc.length dcp)) (go_keep) (first
          | (go_at_call 93;refine (HKB.o _ (KWW.o.quiet kd)).mono ?_;rintro e6 w6 ⟨v6,rfl,r6,k6⟩;obtain ⟨a6,c66,e6⟩:=j2l r6;subst e6;have R6:=hid r6;have kk6:=kd.quiet k6;obtain ⟨f60,f61,f62,f63⟩:=Z8.o _ kk6;have s60:=((zc.setCell [g] w6 ⟨g,k * 3+2,none⟩ (.slice a6 xc.length c66) (List.mem_singleton.2 rfl)).cell (block_lt_of_cell f60) NQ.o).trans f60;have s61:=((zc.setCell [g] w6 ⟨g,k * 3+2,none⟩ (.slice a6 xc.length c66) (List.mem_singleton.2 rfl)).cell (block_lt_of_cell f61) NW.o).trans f61;clear r6 k6))
         all_goals
          have KX:zc [g] wv (w6.setCell ⟨g,k * 3+2,none⟩ (.slice a6 xc.length c66)):=(kk6.mono fun _ hz=>by cases hz).step (zc.setCell _ _ _ _ (List.mem_singleton.2 rfl));have O6:=((zj O5.o kk6 (fun _ _=>by simp)).stored (k * 3+2) (.slice a6 xc.length c66)).1;have TW:znV (zod (q+1) (w6.setCell ⟨g,k * 3+2,none⟩ (.slice a6 xc.length c66))) (.slice a6 xc.length c66) xc:=SlV.put BlC.sub (by have:=zQ BQ.o;have:=kd.size;omega) HG.o.2 R6.o;have TV2:zlv (zod (q+1) (w6.setCell ⟨g,k * 3+2,none⟩ (.slice a6 xc.length c66))) (.slice a5 xb.length c55) xb:=zlv.sub _ _ _ _ (Sub.kept KX (fun z hz=>by rw[List.mem_singleton.1 hz];exact HG.o.2)) TV.o;have hlk:(P.funcs.take k).length=k:=by rw[List.length_take, ← N3.o];omega
          have HL0:=HL.o
          have KS:Box (KpS w (w6.setCell ⟨g,k * 3+2,none⟩ (.slice a6 xc.length c66)) (q+1) q P a1 a2 (some ⟨g,0,none⟩) n1 n2 n3 m1 m2 m3 n1 n2 (k+1) x1 x2 x3):=hid (HB.o.put3 KLB.o.own HG.o.1 HG.o.2 (KW.o.step KX) (LsI.next FuV.sub KLB.o HG.o.1 HG.o.2 HYK.o (KW.o.step KX) O6 (fun m hm=>by rw[List.getElem?_set_ne (by omega),List.getElem?_set_ne (by omega)]) (v:=agg #[int i64 xa,.slice a5 xb.length c55,.slice a6 xc.length c66]) ⟨a5,c55,a6,c66,rfl,BB.o,TV2,TW⟩ (fun i hi=>by
           match i,hi with
           | 0,_=>rw[List.getElem?_set_ne (by omega),List.getElem?_set_ne (by omega),KLB.o.rest _ (by rw[hlk];omega),XX.o.1];rfl
           | 1,_=>rw[List.getElem?_set_ne (by omega),List.getElem?_set_self (by omega)];rfl
           | 2,_=>rw[List.getElem?_set_self (by rw[List.length_set];omega)];rfl)))
          clear HB O6 TW TV2 KX hlk HL0;go_wp2_with fail;go_roundw
          case rel=>exact ⟨k+1,by omega,by go_num,KS⟩
          case measure=>simp[intOf];omega
       ·obtain rfl:n3=k:=by omega
        have FA:=hid (HB.o.all N1.o N2.o N3.o h1 h2 h3);have KF:=hid HB.o.keep;clear HB;go_wp2_with fail;go_ret;exact ⟨_,rfl,FA.o,KF.o⟩
end Go.Proofs.YthflgjkmbakedaaGreatDoor
