import Derived.Test.YtgmbkiagdhjpnaaGreatDoorU29

namespace Go.Proofs.YtgmbkiagdhjpnaaGreatDoor
open Go.RowKit
open Go.Value (int pointer agg)
open Go.IntKind (i64)
set_option maxRecDepth 20000
set_option maxHeartbeats 8000000
theorem zgH{w:World}{pp:Nat}{P:Pr8}(h:PrC w pp 0 P)(h1:P.recs.length≤1000)(h2:P.ims.length≤1000)(h3:P.funcs.length≤1000)(r1:∀ r,r∈P.recs→r.length≤1000)(r2:∀ x,x∈P.ims→x.2.2.length≤1000)(r3:∀ f,f∈P.funcs→f.regs.length≤1000∧f.blocks.length≤1000∧∀ y,y∈f.blocks→y.code.length≤1000∧∀ x,x∈y.code→x.args.length≤1000):
  Calls Tryz.prog 46 #[pointer (some ⟨pp,0,none⟩)] w fun e w'=>∃ q,e=.returned (pointer (some ⟨q,0,none⟩))∧PrC (zQ w.heap.size w') q 0 { P with sigs:=[],ifs:=[],main:=0 }∧za [] w w':=by
 obtain ⟨ra,rcp,q0,rows1,_⟩:=h.c0;obtain ⟨ia,icp,q3,rows2,_⟩:=h.c3;obtain ⟨fa,fcp,q4,rows3,_⟩:=h.c4;rw[Nat.zero_add] at q3 q4;have W1:=hid rows1;have W2:=hid rows2;have W3:=hid rows3;have HC1:=hid fun (w':World) (k:za [] w w')=>zfL (cp:=rcp) (rows1.quiet (SlC.stays TyC.stays) k) h1;have HC2:=hid fun (w':World) (k:za [] w w')=>zgj (cp:=icp) (rows2.quiet ImC.stays k) h2;have HC3:=hid fun (w':World) (k:za [] w w')=>zh3 (cp:=fcp) (rows3.quiet FuC.stays k) h3;obtain ⟨n1,hn1⟩:∃ n,n=P.recs.length:=⟨_,rfl⟩;obtain ⟨n2,hn2⟩:∃ n,n=P.ims.length:=⟨_,rfl⟩;obtain ⟨n3,hn3⟩:∃ n,n=P.funcs.length:=⟨_,rfl⟩;have N1:=hid hn1;have N2:=hid hn2;have N3:=hid hn3;have R1:=hid r1;have R2:=hid r2;have R3:=hid r3;have E1:n1≠0→P.recs≠[]:=fun h0 e=>h0 (by rw[hn1,e];rfl);have E2:n2≠0→P.ims≠[]:=fun h0 e=>h0 (by rw[hn2,e];rfl);have E3:n3≠0→P.funcs≠[]:=fun h0 e=>h0 (by rw[hn3,e];rfl);rw[← hn1] at q0 HC1 h1;rw[← hn2] at q3 HC2 h2;rw[← hn3] at q4 HC3 h3;have PP:=hid fun (w':World) (k:za [] w w')=>And.intro (zb k q0) (And.intro (zb k q3) (zb k q4));clear h hn1 hn2 hn3 r1 r2 r3 rows1 rows2 rows3 q0 q3 q4;go_enter Tryz.func46,Tryz.ntmps46;go_upto_region 1 with fail;obtain ⟨c0,c3,c4⟩:=PP.o w (za.refl _ _);have kd:za [] w w.drew:=za.drew _ _;have hS1:w.heap.size≤w.drew.heap.size:=kd.size
 go_region_held3 (fun w'=>w'.cell? ⟨pp,0,none⟩=some (.slice ra n1 rcp)∧w'.cell? ⟨pp,3,none⟩=some (.slice ia n2 icp)∧w'.cell? ⟨pp,4,none⟩=some (.slice fa n3 fcp)) (go_keep) (first
  | (go_at_call 77;refine (HC1.o _ kd).mono ?_;rintro e w5 ⟨a1,m1,rfl,d1,k5⟩;have D1:=hid d1;have K5:=hid k5;have kk5:=kd.quiet k5;obtain ⟨f50,f51,f52⟩:=PP.o _ kk5;clear d1 k5)
  | (go_at_call 78;refine (HC2.o _ kk5).mono ?_;rintro e w6 ⟨a2,m2,rfl,d2,k6⟩;have D2:=hid d2;have K6:=hid k6;have kk6:=kk5.quiet k6;obtain ⟨f60,f61,f62⟩:=PP.o _ kk6;clear d2 k6)
  | (go_at_call 79;refine (HC3.o _ kk6).mono ?_;rintro e w7 ⟨a3,m3,rfl,d3,k7⟩;have D3:=hid d3;have K7:=hid k7;have kk7:=kk6.quiet k7;obtain ⟨f70,f71,f72⟩:=PP.o _ kk7;clear d3 k7))
 all_goals
  obtain ⟨x1,hx1,l1⟩:=LsI.zero (V:=QO) (w0:=w) (wz:=w7.alloc (.cells #[.slice a1 n1 m1,.slice none 0 0,.slice none 0 0,.slice a2 n2 m2,.slice a3 n3 m3,int i64 0] 57)) (A:=w7.heap.size+1) (l:=P.recs) D1.o hS1 ((K6.o.quiet K7.o).quiet (za.alloc [] _ _)) (by have:=K6.o.size;have:=K7.o.size;omega);obtain ⟨x2,hx2,l2⟩:=LsI.zero (V:=ImV) (w0:=w) (wz:=w7.alloc (.cells #[.slice a1 n1 m1,.slice none 0 0,.slice none 0 0,.slice a2 n2 m2,.slice a3 n3 m3,int i64 0] 57)) (A:=w7.heap.size+1) (l:=P.ims) D2.o kk5.size (K7.o.quiet (za.alloc [] _ _)) (by have:=K7.o.size;omega);obtain ⟨x3,hx3,l3⟩:=LsI.zero (V:=FuV) (w0:=w) (wz:=w7.alloc (.cells #[.slice a1 n1 m1,.slice none 0 0,.slice none 0 0,.slice a2 n2 m2,.slice a3 n3 m3,int i64 0] 57)) (A:=w7.heap.size+1) (l:=P.funcs) D3.o kk6.size (za.alloc [] _ _) (by omega);have S0:Box (KpS w (w7.alloc (.cells #[.slice a1 n1 m1,.slice none 0 0,.slice none 0 0,.slice a2 n2 m2,.slice a3 n3 m3,int i64 0] 57)) (w7.heap.size+1) w7.heap.size P a1 a2 a3 n1 n2 n3 m1 m2 m3 0 0 0 x1 x2 x3):=hid ⟨ze w7 _,l1,l2,l3,kk7.quiet (za.alloc [] _ _),kk7.size⟩;have X1:=hid fun h0=>zab kd (hx1 h0 (E1 h0));have X2:=hid fun h0=>zab kk5 (hx2 h0 (E2 h0));have X3:=hid fun h0=>zab kk6 (hx3 h0 (E3 h0));generalize w7.alloc (.cells #[.slice a1 n1 m1,.slice none 0 0,.slice none 0 0,.slice a2 n2 m2,.slice a3 n3 m3,int i64 0] 57)=wz at *;generalize w7.heap.size=q at *;clear D1 D2 D3 K5 K6 K7 f50 f51 f52 f60 f61 f62 f70 f71 f72 hx1 hx2 hx3 l1 l2 l3 HC1 HC2 HC3 E1 E2 E3 kd kk5 kk6 kk7 hS1 c0 c3 c4;have p1:=zc S0.o.box 0;go_wp2_with fail
  go_loopw [32] (fun iv wr=>∃ k:Nat,k≤n1∧iv=int i64 (k:Int)∧Box (KpS w wr (q+1) q P a1 a2 a3 n1 n2 n3 m1 m2 m3 k 0 0 x1 x2 x3)) (fun iv _=>n1 - (intOf iv).toNat)
  case atStart=>exact ⟨0,by omega,rfl,S0⟩
  case round=>
   obtain ⟨k,hk,rfl,HB⟩:=hrel;clear S0 p1;by_cases hlt:k<n1
   ·have hlt':(k:Int)<(n1:Int):=by omega
    rcases HB.o.l1 with ⟨_,h0,_⟩ | ⟨g,rs,ha1,KLk,hg,hgA⟩
    ·omega
    subst ha1;obtain ⟨y,hy⟩:∃ y,P.recs[k]? = some y:=⟨_,List.getElem?_eq_getElem (by rw[← N1.o];exact hlt)⟩;obtain ⟨sb,so,ha9,bl⟩:=W1.o.at hy;obtain ⟨sb',so',ha8,hxs⟩:=X1.o (by omega);rw[ha9] at ha8;cases ha8;clear ha9;have hlk:(P.recs.take k).length=k:=by rw[List.length_take, ← N1.o];omega
    obtain ⟨ca,ccp,q0,q1,_⟩:=bl;have hr0:rs[k * 1]? = some (.slice ca y.length ccp):=by
     rw[KLk.rest (k * 1) (by rw[hlk];exact Nat.le_refl _)];exact hxs _ _ (by omega) q0
    rw[Nat.mul_one] at hr0;have p0:=(qg KLk.own hr0).2;have KLB:=hid KLk;have HG:=hid (And.intro hg hgA);have HYK:=hid hy;have HCL:=hid fun (w':World) (k9:za [] wr w')=>zcu (cp:=ccp) (q1.quiet TyC.stays (HB.o.keep.quiet k9)) (R1.o y (List.mem_of_getElem? hy));have Z9:=hid fun (w':World) (k9:za [] wr w')=>And.intro (zc (HB.o.quiet k9).box 0) (And.intro (zb k9 p0) ((zh KLB.o.own k9 (fun _ _=>by simp)).frozenAt k));have NQ:Box (q ∉ [g]):=hid (by simpa using Zk KLB.o.own HB.o.box (by decide));clear hxs q0 q1 hr0 hy KLk hg hgA hlk;go_upto_region 5 with fail;have kd:za [] wr wr.drew:=za.drew _ _;obtain ⟨b0,b1,b2⟩:=Z9.o wr (za.refl _ _);clear p0
    go_region_held3 (fun w'=>w'.cell? ⟨q,0,none⟩=some (.slice (some ⟨g,0,none⟩) n1 m1)) (go_keep) (first
     | (go_at_call 80;refine (HCL.o _ kd).mono ?_;rintro e5 w5 ⟨v5,rfl,r5,k5⟩;obtain ⟨a5,c55,e5⟩:=ZH r5;subst e5;have R5:=hid r5;have kk5:=kd.quiet k5;obtain ⟨f50,f51,f52⟩:=Z9.o _ kk5;have s50:=((za.setCell [g] w5 ⟨g,k,none⟩ (.slice a5 y.length c55) (List.mem_singleton.2 rfl)).cell (block_lt_of_cell f50) NQ.o).trans f50;clear r5 k5))
    all_goals
     have HQ:=zt HB.o.box;have KW:Box (za [g] wr (w5.setCell ⟨g,k,none⟩ (.slice a5 y.length c55))):=hid ((kk5.mono fun _ hz=>by cases hz).step (za.setCell _ _ _ _ (List.mem_singleton.2 rfl)));have O5:=((zh KLB.o.own kk5 (fun _ _=>by simp)).stored k (.slice a5 y.length c55)).1;have TV:QO (zQ (q+1) (w5.setCell ⟨g,k,none⟩ (.slice a5 y.length c55))) (.slice a5 y.length c55) y:=SlV.put TyC.sub (Nat.le_trans HQ kd.size) HG.o.2 R5.o;have HL:k<rs.length:=by rw[KLB.o.own.1];omega
     have KS:Box (KpS w (w5.setCell ⟨g,k,none⟩ (.slice a5 y.length c55)) (q+1) q P (some ⟨g,0,none⟩) a2 a3 n1 n2 n3 m1 m2 m3 (k+1) 0 0 x1 x2 x3):=hid (HB.o.put1 KLB.o.own HG.o.1 HG.o.2 KW.o (LsI.next QO.sub KLB.o HG.o.1 HG.o.2 HYK.o KW.o O5 (fun m hm=>by rw[List.getElem?_set_ne (by omega)]) TV (fun i hi=>by
      obtain rfl:i=0:=by omega
      rw[show k * 1+0=k by omega,List.getElem?_set_self HL]
      rfl)))
     clear HB O5 TV;go_wp2_with fail;go_roundw
     case rel=>exact ⟨k+1,by omega,by go_num,KS⟩
     case measure=>simp[intOf];omega
   ·obtain rfl:n1=k:=by omega
    have p3:=zc HB.o.box 3;have S1:=hid HB.o;clear HB X1 W1 R1;obtain ⟨wk,hwk⟩:∃ wk,wk=wr:=⟨_,rfl⟩;subst hwk;go_wp2_with fail
    go_loopw [51] (fun iv wr=>∃ k:Nat,k≤n2∧iv=int i64 (k:Int)∧Box (KpS w wr (q+1) q P a1 a2 a3 n1 n2 n3 m1 m2 m3 n1 k 0 x1 x2 x3)) (fun iv _=>n2 - (intOf iv).toNat)
    case atStart=>exact ⟨0,by omega,rfl,S1⟩
    case round=>
     obtain ⟨k,hk,rfl,HB⟩:=hrel;clear S1 p3;by_cases hlt:k<n2
     ·have hlt':(k:Int)<(n2:Int):=by omega
      rcases HB.o.l2 with ⟨_,h0,_⟩ | ⟨g,rs,ha1,KLk,hg,hgA⟩
      ·omega
      subst ha1;obtain ⟨y,hy⟩:∃ y,P.ims[k]? = some y:=⟨_,List.getElem?_eq_getElem (by rw[← N2.o];exact hlt)⟩;obtain ⟨sb,so,ha9,bl⟩:=W2.o.at hy;obtain ⟨sb',so',ha8,hxs⟩:=X2.o (by omega);rw[ha9] at ha8;cases ha8;clear ha9;have hlk:(P.ims.take k).length=k:=by rw[List.length_take, ← N2.o];omega
      obtain ⟨ca,ccp,q0,q1,_⟩:=bl.c2;have cell:∀ (j:Nat) (u:Value),j<3→w.cell? ⟨sb,so+k * 3+j,none⟩=some u→x2[k * 3+j]? = some u∧wr.cell? ⟨g,k * 3+j,none⟩=some u:=fun j u hj hu=>by
       have h2:=hxs (k * 3+j) u (by omega) (by rw[← Nat.add_assoc];exact hu);exact ⟨h2,(qg KLk.own ((KLk.rest _ (by rw[hlk];omega)).trans h2)).2⟩
      have y0:=cell 0 _ (by omega) bl.c0.1;have y1:=cell 1 _ (by omega) bl.c1.1;have y2:=cell 2 _ (by omega) q0;have XX:=hid (And.intro y0.1 y1.1);have BB:=hid (And.intro bl.c0.2 bl.c1.2);have z0:wr.cell? ⟨g,k * 3,none⟩=some (int i64 y.1):=y0.2;obtain ⟨-,z1⟩:=y1;obtain ⟨-,z2⟩:=y2;have KLB:=hid KLk;have HG:=hid (And.intro hg hgA);have HYK:=hid hy;have HCL:=hid fun (w':World) (k9:za [] wr w')=>zcx (cp:=ccp) (q1.quiet zI.stays (HB.o.keep.quiet k9)) (R2.o y (List.mem_of_getElem? hy));have Z9:=hid fun (w':World) (k9:za [] wr w')=>And.intro (zc (HB.o.quiet k9).box 3) (And.intro (zb k9 z2) ((zh KLB.o.own k9 (fun _ _=>by simp)).frozenAt (k * 3+2)));have NQ:Box (q ∉ [g]):=hid (by simpa using Zk KLB.o.own HB.o.box (by decide));have NW:Box (wr.heap.size ∉ [g]):=hid (by have:=(KLB.o.own.lt g rfl).2;simp;omega);obtain ⟨xa,xb,xc⟩:=y;clear hxs bl q0 q1 hy KLk hg hgA hlk cell y0;go_upto_region 10 with fail;have N9:=hid (ze wr (.cells #[int i64 xa,int i64 xb,.slice ca xc.length ccp] 80));have A9:=hid (za.alloc [] wr (.cells #[int i64 xa,int i64 xb,.slice ca xc.length ccp] 80));generalize wr.alloc (.cells #[int i64 xa,int i64 xb,.slice ca xc.length ccp] 80)=wz at *;have kd:za [] wz wz.drew:=za.drew _ _;obtain ⟨b0,b1,b2⟩:=Z9.o wz A9.o;have b3:=zc N9.o 2;clear z0 z1 z2
      go_region_held3 (fun w'=>w'.cell? ⟨q,3,none⟩=some (.slice (some ⟨g,0,none⟩) n2 m2)∧w'.cell? ⟨wr.heap.size,2,none⟩=some (.slice ca xc.length ccp)) (go_keep) (first
       | (go_at_call 81;refine (HCL.o _ (A9.o.quiet kd)).mono ?_;rintro e5 w5 ⟨v5,rfl,r5,k5⟩;obtain ⟨a5,c55,e5⟩:=ZH r5;subst e5;have R5:=hid r5;have kk5:=kd.quiet k5;obtain ⟨f50,f51,f52⟩:=Z9.o _ (A9.o.quiet kk5);have f53:=zc (zd N9.o kk5) 2;have s50:=((za.setCell [g] w5 ⟨g,k * 3+2,none⟩ (.slice a5 xc.length c55) (List.mem_singleton.2 rfl)).cell (block_lt_of_cell f50) NQ.o).trans f50;have s53:=((za.setCell [g] w5 ⟨g,k * 3+2,none⟩ (.slice a5 xc.length c55) (List.mem_singleton.2 rfl)).cell (block_lt_of_cell f53) NW.o).trans f53;clear r5 k5))
      all_goals
       have HQ:=zt HB.o.box;have kk6:=A9.o.quiet kk5;have KW:Box (za [g] wr (w5.setCell ⟨g,k * 3+2,none⟩ (.slice a5 xc.length c55))):=hid ((kk6.mono fun _ hz=>by cases hz).step (za.setCell _ _ _ _ (List.mem_singleton.2 rfl)));have O5:=((zh KLB.o.own kk6 (fun _ _=>by simp)).stored (k * 3+2) (.slice a5 xc.length c55)).1;have TV:jO (zQ (q+1) (w5.setCell ⟨g,k * 3+2,none⟩ (.slice a5 xc.length c55))) (.slice a5 xc.length c55) xc:=SlV.put zI.sub (Nat.le_trans HQ (A9.o.quiet kd).size) HG.o.2 R5.o;have HL:k * 3+2<rs.length:=by rw[KLB.o.own.1];omega
       have hlk:(P.ims.take k).length=k:=by rw[List.length_take, ← N2.o];omega
       have KS:Box (KpS w (w5.setCell ⟨g,k * 3+2,none⟩ (.slice a5 xc.length c55)) (q+1) q P a1 (some ⟨g,0,none⟩) a3 n1 n2 n3 m1 m2 m3 n1 (k+1) 0 x1 x2 x3):=hid (HB.o.put2 KLB.o.own HG.o.1 HG.o.2 KW.o (LsI.next ImV.sub KLB.o HG.o.1 HG.o.2 HYK.o KW.o O5 (fun m hm=>by rw[List.getElem?_set_ne (by omega)]) (v:=agg #[int i64 xa,int i64 xb,.slice a5 xc.length c55]) ⟨a5,c55,rfl,BB.o.1,BB.o.2,TV⟩ (fun i hi=>by
        match i,hi with
        | 0,_=>rw[List.getElem?_set_ne (by omega),KLB.o.rest _ (by rw[hlk];omega),XX.o.1];rfl
        | 1,_=>rw[List.getElem?_set_ne (by omega),KLB.o.rest _ (by rw[hlk];omega),XX.o.2];rfl
        | 2,_=>rw[List.getElem?_set_self HL];rfl)))
       clear HB O5 TV;go_wp2_with fail;go_roundw
       case rel=>exact ⟨k+1,by omega,by go_num,KS⟩
       case measure=>simp[intOf];omega
     ·obtain rfl:n2=k:=by omega
      have p4:=zc HB.o.box 4;have S2:=hid HB.o;clear HB X2 W2 R2;obtain ⟨wj,hwj⟩:∃ wj,wj=wr:=⟨_,rfl⟩;subst hwj;go_wp2_with fail
      go_loopw [72] (fun iv wr=>∃ k:Nat,k≤n3∧iv=int i64 (k:Int)∧Box (KpS w wr (q+1) q P a1 a2 a3 n1 n2 n3 m1 m2 m3 n1 n2 k x1 x2 x3)) (fun iv _=>n3 - (intOf iv).toNat)
      case atStart=>exact ⟨0,by omega,rfl,S2⟩
      case round=>
       obtain ⟨k,hk,rfl,HB⟩:=hrel;clear S2 p4;by_cases hlt:k<n3
       ·have hlt':(k:Int)<(n3:Int):=by omega
        rcases HB.o.l3 with ⟨_,h0,_⟩ | ⟨g,rs,ha1,KLk,hg,hgA⟩
        ·omega
        subst ha1;obtain ⟨y,hy⟩:∃ y,P.funcs[k]? = some y:=⟨_,List.getElem?_eq_getElem (by rw[← N3.o];exact hlt)⟩;obtain ⟨sb,so,ha9,bl⟩:=W3.o.at hy;obtain ⟨sb',so',ha8,hxs⟩:=X3.o (by omega);rw[ha9] at ha8;cases ha8;clear ha9;have hlk:(P.funcs.take k).length=k:=by rw[List.length_take, ← N3.o];omega
        obtain ⟨ca,ccp,q0,q1,_⟩:=bl.c1;obtain ⟨da,dcp,q2,q3,_⟩:=bl.c2;have cell:∀ (j:Nat) (u:Value),j<3→w.cell? ⟨sb,so+k * 3+j,none⟩=some u→x3[k * 3+j]? = some u∧wr.cell? ⟨g,k * 3+j,none⟩=some u:=fun j u hj hu=>by
         have h2:=hxs (k * 3+j) u (by omega) (by rw[← Nat.add_assoc];exact hu);exact ⟨h2,(qg KLk.own ((KLk.rest _ (by rw[hlk];omega)).trans h2)).2⟩
        have y0:=cell 0 _ (by omega) bl.c0.1;have y1:=cell 1 _ (by omega) q0;have y2:=cell 2 _ (by omega) q2;have XX:=hid (And.intro y0.1 y2.1);have BB:=hid bl.c0.2;have z0:wr.cell? ⟨g,k * 3,none⟩=some (int i64 y.sig):=y0.2;obtain ⟨-,z1⟩:=y1;obtain ⟨-,z2⟩:=y2;have KLB:=hid KLk;have HG:=hid (And.intro hg hgA);have HYK:=hid hy;have RY:=R3.o y (List.mem_of_getElem? hy);have HCL:=hid fun (w':World) (k9:za [] w w')=>zcu (cp:=ccp) (q1.quiet TyC.stays k9) RY.1;have HKB:=hid fun (w':World) (k9:za [] w w')=>zcT (cp:=dcp) (q3.quiet BlC.stays k9) RY.2.1 RY.2.2;have Z9:=hid fun (w':World) (k9:za [] wr w')=>And.intro (zc (HB.o.quiet k9).box 4) (And.intro (zb k9 z1) (And.intro (zb k9 z2) (And.intro ((zh KLB.o.own k9 (fun _ _=>by simp)).frozenAt (k * 3+1)) ((zh KLB.o.own k9 (fun _ _=>by simp)).frozenAt (k * 3+2)))));have NQ:Box (q ∉ [g]):=hid (by simpa using Zk KLB.o.own HB.o.box (by decide));have NW:Box (wr.heap.size ∉ [g]):=hid (by have:=(KLB.o.own.lt g rfl).2;simp;omega);obtain ⟨xa,xb,xc⟩:=y;clear hxs bl q0 q1 q2 q3 hy KLk hg hgA hlk cell y0 RY;go_upto_region 15 with fail;have N9:=hid (ze wr (.cells #[int i64 xa,.slice ca xb.length ccp,.slice da xc.length dcp] 50));have A9:=hid (za.alloc [] wr (.cells #[int i64 xa,.slice ca xb.length ccp,.slice da xc.length dcp] 50));generalize wr.alloc (.cells #[int i64 xa,.slice ca xb.length ccp,.slice da xc.length dcp] 50)=wz at *;have kd:za [] wz wz.drew:=za.drew _ _;obtain ⟨b0,b1,b2,b3,b4⟩:=Z9.o wz A9.o;have b5:=zc N9.o 1;clear z0 z1 z2
        go_region_held3 (fun w'=>w'.cell? ⟨q,4,none⟩=some (.slice (some ⟨g,0,none⟩) n3 m3)∧w'.cell? ⟨wr.heap.size,1,none⟩=some (.slice ca xb.length ccp)) (go_keep) (first
         | (go_at_call 80;refine (HCL.o _ (HB.o.keep.quiet (A9.o.quiet kd))).mono ?_;rintro e5 w5 ⟨v5,rfl,r5,k5⟩;obtain ⟨a5,c55,e5⟩:=ZH r5;subst e5;have R5:=hid r5;have kk5:=kd.quiet k5;obtain ⟨f50,f51,f52,f53,f54⟩:=Z9.o _ (A9.o.quiet kk5);have f55:=zc (zd N9.o kk5) 1;have s50:=((za.setCell [g] w5 ⟨g,k * 3+1,none⟩ (.slice a5 xb.length c55) (List.mem_singleton.2 rfl)).cell (block_lt_of_cell f50) NQ.o).trans f50;have s53:=((za.setCell [g] w5 ⟨g,k * 3+1,none⟩ (.slice a5 xb.length c55) (List.mem_singleton.2 rfl)).cell (block_lt_of_cell f55) NW.o).trans f55;clear r5 k5))
        all_goals
         have HQ:=zt HB.o.box;have kk6:=A9.o.quiet kk5;have GW:Box (∀ z,z∈[g]→w.heap.size≤z):=hid fun z hz=>by rw[List.mem_singleton.1 hz];exact HG.o.1
         have KW:Box (za [g] wr (w5.setCell ⟨g,k * 3+1,none⟩ (.slice a5 xb.length c55))):=hid ((kk6.mono fun _ hz=>by cases hz).step (za.setCell _ _ _ _ (List.mem_singleton.2 rfl)));have KWW:Box (za [] w (w5.setCell ⟨g,k * 3+1,none⟩ (.slice a5 xb.length c55))):=hid (HB.o.keep.trans KW.o (fun z hz hl=>by have:=GW.o z hz;omega));have O5:=hid ((zh KLB.o.own kk6 (fun _ _=>by simp)).stored (k * 3+1) (.slice a5 xb.length c55)).1;have TV:Box (QO (zQ (q+1) (w5.setCell ⟨g,k * 3+1,none⟩ (.slice a5 xb.length c55))) (.slice a5 xb.length c55) xb):=hid (SlV.put TyC.sub (by have:=HB.o.keep.size;have:=(A9.o.quiet kd).size;omega) HG.o.2 R5.o);have HL:Box (k * 3+2<rs.length):=hid (by rw[KLB.o.own.1];omega);have BQ:Box ((w5.setCell ⟨g,k * 3+1,none⟩ (.slice a5 xb.length c55)).heap[q]? = some (.cells #[.slice a1 n1 m1,.slice none 0 0,.slice none 0 0,.slice a2 n2 m2,.slice (some ⟨g,0,none⟩) n3 m3,int i64 0] 57 (0,0))):=hid ((KW.o.block q HQ NQ.o).trans HB.o.box);have BM:Box ((w5.setCell ⟨g,k * 3+1,none⟩ (.slice a5 xb.length c55)).heap[wr.heap.size]? = some (.cells #[int i64 xa,.slice ca xb.length ccp,.slice da xc.length dcp] 50 (0,0))):=hid ((((kk5.mono fun _ hz=>by cases hz).step (za.setCell [g] w5 ⟨g,k * 3+1,none⟩ (.slice a5 xb.length c55) (List.mem_singleton.2 rfl))).block _ (zt N9.o) NW.o).trans N9.o);generalize w5.setCell ⟨g,k * 3+1,none⟩ (.slice a5 xb.length c55)=wv at *;clear f50 f51 f52 f53 f54 f55 s50 s53 b0 b1 b2 b3 b4 b5 kk5 kk6 kd R5 HCL Z9;have hlk:(P.funcs.take k).length=k:=by rw[List.length_take, ← N3.o];omega
         have hr2:(rs.set (k * 3+1) (.slice a5 xb.length c55))[k * 3+2]? = some (.slice da xc.length dcp):=by
          rw[List.getElem?_set_ne (by omega),KLB.o.rest _ (by rw[hlk];omega)];exact XX.o.2
         have Z8:=hid fun (w':World) (k9:za [] wv w')=>And.intro (zc (zd BQ.o k9) 4) (And.intro (zc (zd BM.o k9) 2) (And.intro (zb k9 (qg O5.o hr2).2) ((zh O5.o k9 (fun _ _=>by simp)).frozenAt (k * 3+2))));clear hr2 hlk;go_upto_region 16 with fail;obtain ⟨b0,b1,b2,b3⟩:=Z8.o wv (za.refl _ _);have kd:za [] wv wv.drew:=za.drew _ _
         go_region_held3 (fun w'=>w'.cell? ⟨q,4,none⟩=some (.slice (some ⟨g,0,none⟩) n3 m3)∧w'.cell? ⟨wr.heap.size,2,none⟩=some (.slice da xc.length dcp)) (go_keep) (first
          | (go_at_call 82;refine (HKB.o _ (KWW.o.quiet kd)).mono ?_;rintro e6 w6 ⟨v6,rfl,r6,k6⟩;obtain ⟨a6,c66,e6⟩:=ZH r6;subst e6;have R6:=hid r6;have kk6:=kd.quiet k6;obtain ⟨f60,f61,f62,f63⟩:=Z8.o _ kk6;have s60:=((za.setCell [g] w6 ⟨g,k * 3+2,none⟩ (.slice a6 xc.length c66) (List.mem_singleton.2 rfl)).cell (block_lt_of_cell f60) NQ.o).trans f60;have s61:=((za.setCell [g] w6 ⟨g,k * 3+2,none⟩ (.slice a6 xc.length c66) (List.mem_singleton.2 rfl)).cell (block_lt_of_cell f61) NW.o).trans f61;clear r6 k6))
         all_goals
          have KX:za [g] wv (w6.setCell ⟨g,k * 3+2,none⟩ (.slice a6 xc.length c66)):=(kk6.mono fun _ hz=>by cases hz).step (za.setCell _ _ _ _ (List.mem_singleton.2 rfl));have O6:=((zh O5.o kk6 (fun _ _=>by simp)).stored (k * 3+2) (.slice a6 xc.length c66)).1;have TW:zia (zQ (q+1) (w6.setCell ⟨g,k * 3+2,none⟩ (.slice a6 xc.length c66))) (.slice a6 xc.length c66) xc:=SlV.put BlC.sub (by have:=zt BQ.o;have:=kd.size;omega) HG.o.2 R6.o;have TV2:QO (zQ (q+1) (w6.setCell ⟨g,k * 3+2,none⟩ (.slice a6 xc.length c66))) (.slice a5 xb.length c55) xb:=QO.sub _ _ _ _ (Sub.kept KX (fun z hz=>by rw[List.mem_singleton.1 hz];exact HG.o.2)) TV.o;have hlk:(P.funcs.take k).length=k:=by rw[List.length_take, ← N3.o];omega
          have HL0:=HL.o
          have KS:Box (KpS w (w6.setCell ⟨g,k * 3+2,none⟩ (.slice a6 xc.length c66)) (q+1) q P a1 a2 (some ⟨g,0,none⟩) n1 n2 n3 m1 m2 m3 n1 n2 (k+1) x1 x2 x3):=hid (HB.o.put3 KLB.o.own HG.o.1 HG.o.2 (KW.o.step KX) (LsI.next FuV.sub KLB.o HG.o.1 HG.o.2 HYK.o (KW.o.step KX) O6 (fun m hm=>by rw[List.getElem?_set_ne (by omega),List.getElem?_set_ne (by omega)]) (v:=agg #[int i64 xa,.slice a5 xb.length c55,.slice a6 xc.length c66]) ⟨a5,c55,a6,c66,rfl,BB.o,TV2,TW⟩ (fun i hi=>by
           match i,hi with
           | 0,_=>rw[List.getElem?_set_ne (by omega),List.getElem?_set_ne (by omega),KLB.o.rest _ (by rw[hlk];omega),XX.o.1];rfl
           | 1,_=>rw[List.getElem?_set_ne (by omega),List.getElem?_set_self (by omega)];rfl
           | 2,_=>rw[List.getElem?_set_self (by rw[List.length_set];omega)];rfl)))
          clear HB O6 TW TV2 KX hlk HL0;go_wp2_with fail;go_roundw
          case rel=>exact ⟨k+1,by omega,by go_num,KS⟩
          case measure=>simp[intOf];omega
       ·obtain rfl:n3=k:=by omega
        have FA:=hid (HB.o.all N1.o N2.o N3.o h1 h2 h3);have KF:=hid HB.o.keep;clear HB;go_wp2_with fail;go_ret;exact ⟨_,rfl,FA.o,KF.o⟩
theorem QC(os:List Ob)(k:Nat):(os.map zdy).getD k obZ=zdy (os.getD k obZ):=by
 rw[List.getD_eq_getElem?_getD,List.getD_eq_getElem?_getD,List.getElem?_map];cases os[k]? <;> rfl
theorem Jx(os:List Ob)(o:Int):foW (os.map zdy) o=foW os o:=by
 unfold foW;rw[List.length_map,show (os.map zdy).getD (o - 1).toNat ⟨0,false,.slice none 0 0,[]⟩=zdy (os.getD (o - 1).toNat obZ) from QC os _];rfl
theorem Qt(os:List Ob)(o f:Int):slW (os.map zdy) o f=slW os o f:=by
 unfold slW;rw[Jx,QC];rfl
theorem zfh(os:List Ob)(o f:Int):zd4 (os.map zdy) o f=zd4 os o f:=by
 unfold zd4;rw[Qt,QC];rfl
theorem zf6(os:List Ob)(o f:Int)(v:V3):(zdd os o f v).map zdy=zdd (os.map zdy) o f v:=by
 unfold zdd;rw[Qt,QC];split
 ·rw[List.map_set]
  rfl
 ·rfl
theorem zcI(os:List Ob)(o:Int):(QD os o).map zdy=QD (os.map zdy) o:=by
 unfold QD;rw[Jx,QC];split
 ·rw[List.map_set]
  rfl
 ·rfl
section
variable {W0 w:World}{mp pp fg:Nat}{P:Pr8}{m:Ma}{F:List Nat}{hb fc:Nat}{rv:Value}{oa:Option Addr}{oc:Nat}{os:List Ob}{Fh:List Nat}
theorem zbM{w1 w7:World}{b:Nat}(hA:w7.heap[b]? = some (.cells #[int i64 0,int i64 0,.bool false] 39 (0,0)))(hB:w1.heap.size≤b)(k:za [] w1 w7)(gk gn:Int)(gt:Bool):
  (((w7.setCell ⟨b,0,none⟩ (int i64 gk)).setCell ⟨b,1,none⟩ (int i64 gn)).setCell ⟨b,2,none⟩ (.bool gt)).heap[b]? = some (.cells #[int i64 gk,int i64 gn,.bool gt] 39 (0,0))∧za [] w1 (((w7.setCell ⟨b,0,none⟩ (int i64 gk)).setCell ⟨b,1,none⟩ (int i64 gn)).setCell ⟨b,2,none⟩ (.bool gt)):=
 ⟨Jt hA _ _ _,k.trans (jh w7 b _ _ _) fun x hx hl=>by rw[List.mem_singleton.1 hx] at hl;omega⟩
structure zaY (x:In8):Prop where
 d0:0≤x.dst
 d1:x.dst<16
 a0:0≤x.a
 a1:x.a<16
 b0:0≤x.b
 b1:x.b<16
theorem ze4(h:MaS W0 w mp pp fg P m F hb fc rv oa oc os Fh)(x:In8)(ax:Value)(hx:x.op=7)(ok:zaY x):
  Calls Tryz.prog 140 #[pointer (some ⟨mp,0,none⟩),pointer (some ⟨fg,m.bot.length * 67,none⟩),zu x ax] w (OpP W0 w mp pp fg P F hb fc (qr P m x)):=by
 have E:Box (qr P m x=if slW m.hp (j9 (m.top.get x.a)) x.n=0 then (0,m.put x.dst (zd4 m.hp (j9 (m.top.get x.a)) x.n)) else (slW m.hp (j9 (m.top.get x.a)) x.n,m)):=hid (by
  unfold qr
  rw[if_neg (by omega),if_neg (by omega),if_neg (by omega),if_neg (by omega),if_neg (by omega),if_neg (by omega),if_pos hx])
 have e1:=Qt os (j9 (m.top.get x.a)) x.n;have e2:=zfh os (j9 (m.top.get x.a)) x.n;rw[h.bar] at e1 e2;rw[e1,e2] at E;have ka:=za.alloc [] w (.cells #[int i64 x.op,int i64 x.dst,int i64 x.a,int i64 x.b,int i64 x.n,ax] 65);have HN:=hid (ze w (.cells #[int i64 x.op,int i64 x.dst,int i64 x.a,int i64 x.b,int i64 x.n,ax] 65));have KA:=hid ka;have HH:=hid h;have HG:=hid fun (w':World) (k:za [] w w')=>qc (h.quiet k) ok.a0 ok.a1;have HO:=hid fun (w':World)=>ZS (m.top.get x.a) w';have HV:=hid fun (w':World) (k:za [] w w')=>zjE (h.quiet k).hp (j9 (m.top.get x.a)) x.n;have OK:=hid ok;generalize j9 (m.top.get x.a)=po at *;generalize m.top.get x.a=va at *;generalize slW os po x.n=sl at *;generalize zd4 os po x.n=gv at *;obtain ⟨gk,gn,gt⟩:=gv;clear h ok e1 e2 hx;unfold zu;go_enter Tryz.func140,Tryz.ntmps140;go_upto_region 1 with fail;generalize w.alloc (.cells #[int i64 x.op,int i64 x.dst,int i64 x.a,int i64 x.b,int i64 x.n,ax] 65)=w1 at *;have HS:=hid fun (w':World) (k:za [] w1 w')=>And.intro (zc (HH.o.quiet (KA.o.quiet k)).box 2) (And.intro (zc (zd HN.o k) 2) (zc (zd HN.o k) 4));obtain ⟨c0,c1,c2⟩:=HS.o w1 (za.refl _ _);have kd:za [] w1 w1.drew:=za.drew _ _;clear ka
 go_region_held3 (fun w'=>w'.cell? ⟨mp,2,none⟩=some (pointer (some ⟨hb,0,none⟩))∧w'.cell? ⟨w.heap.size,2,none⟩=some (int i64 x.a)∧w'.cell? ⟨w.heap.size,4,none⟩=some (int i64 x.n)) (go_keep) (first
  | (go_at_call 133;refine (HG.o _ ((KA.o.quiet kd).quiet (za.alloc [] _ (.cells #[int i64 0,int i64 0,.bool false] 39)))).mono ?_;rintro e w5 ⟨rfl,k5⟩;have hA5:w5.heap[w1.heap.size]? = some (.cells #[int i64 0,int i64 0,.bool false] 39 (0,0)):=zd (ze w1.drew (.cells #[int i64 0,int i64 0,.bool false] 39)) k5;have v0:=zc hA5 0;have v1:=zc hA5 1;have v2:=zc hA5 2;have y0:=zg hA5 0;have y1:=zg hA5 1;have y2:=zg hA5 2;have hB5:w1.heap.size≤w1.heap.size:=Nat.le_refl _;have kk5:=(kd.quiet (za.alloc [] _ (.cells #[int i64 0,int i64 0,.bool false] 39))).quiet k5;obtain ⟨f50,f51,f52⟩:=HS.o _ kk5;clear k5)
  | (go_at_call 133;refine (HG.o _ (KA.o.quiet kd)).mono ?_;rintro e w5 ⟨rfl,k5⟩;have kk5:=kd.quiet k5;obtain ⟨f50,f51,f52⟩:=HS.o _ kk5;clear k5)
  | (go_at_call 141;revert hA5;intro hA5;refine (HO.o _).mono ?_;rintro e w6 ⟨rfl,k6⟩;have hA6:=zd hA5 k6;have v0:=zc hA6 0;have v1:=zc hA6 1;have v2:=zc hA6 2;have y0:=zg hA6 0;have y1:=zg hA6 1;have y2:=zg hA6 2;have hB6:=hB5;have kk6:=kk5.quiet k6;obtain ⟨f60,f61,f62⟩:=HS.o _ kk6;clear k6)
  | (go_at_call 141;refine (HO.o (w5.alloc (.cells #[int i64 0,int i64 0,.bool false] 39))).mono ?_;rintro e w6 ⟨rfl,k6⟩;have hA6:=zd (ze w5 (.cells #[int i64 0,int i64 0,.bool false] 39)) k6;have v0:=zc hA6 0;have v1:=zc hA6 1;have v2:=zc hA6 2;have y0:=zg hA6 0;have y1:=zg hA6 1;have y2:=zg hA6 2;have hB6:w1.heap.size≤w5.heap.size:=kk5.size;have kk6:=(kk5.quiet (za.alloc [] w5 (.cells #[int i64 0,int i64 0,.bool false] 39))).quiet k6;obtain ⟨f60,f61,f62⟩:=HS.o _ kk6;clear k6)
  | (go_at_call 141;refine (HO.o w5).mono ?_;rintro e w6 ⟨rfl,k6⟩;have kk6:=kk5.quiet k6;obtain ⟨f60,f61,f62⟩:=HS.o _ kk6;clear k6)
  | (go_at_call 62;revert hA6;intro hA6;refine (HV.o _ (KA.o.quiet kk6)).mono ?_;rintro e w7 ⟨rfl,k7⟩;have hA7:=zd hA6 k7;have v0:=zc hA7 0;have v1:=zc hA7 1;have v2:=zc hA7 2;have y0:=zg hA7 0;have y1:=zg hA7 1;have y2:=zg hA7 2;have hB7:=hB6;have kk7:=kk6.quiet k7;obtain ⟨f70,f71,f72⟩:=HS.o _ kk7;have TT:=zbM hA7 hB7 kk7 gk gn gt;have T7:=hid TT.1;have KT:=hid TT.2;obtain ⟨s70,s71,s72⟩:=HS.o _ KT.o;clear TT;clear k7)
  | (go_at_call 62;refine (HV.o (w6.alloc (.cells #[int i64 0,int i64 0,.bool false] 39)) ((KA.o.quiet kk6).quiet (za.alloc [] _ _))).mono ?_;rintro e w7 ⟨rfl,k7⟩;have hA7:=zd (ze w6 (.cells #[int i64 0,int i64 0,.bool false] 39)) k7;have v0:=zc hA7 0;have v1:=zc hA7 1;have v2:=zc hA7 2;have y0:=zg hA7 0;have y1:=zg hA7 1;have y2:=zg hA7 2;have hB7:w1.heap.size≤w6.heap.size:=kk6.size;have kk7:=(kk6.quiet (za.alloc [] w6 (.cells #[int i64 0,int i64 0,.bool false] 39))).quiet k7;obtain ⟨f70,f71,f72⟩:=HS.o _ kk7;have TT:=zbM hA7 hB7 kk7 gk gn gt;have T7:=hid TT.1;have KT:=hid TT.2;obtain ⟨s70,s71,s72⟩:=HS.o _ KT.o;clear TT;clear k7)
  | (go_at_call 62;refine (HV.o w6 (KA.o.quiet kk6)).mono ?_;rintro e w7 ⟨rfl,k7⟩;have kk7:=kk6.quiet k7;obtain ⟨f70,f71,f72⟩:=HS.o _ kk7;have hA8:=ze w7 (.cells #[int i64 0,int i64 0,.bool false] 39);have v0:=zc hA8 0;have v1:=zc hA8 1;have v2:=zc hA8 2;have y0:=zg hA8 0;have y1:=zg hA8 1;have y2:=zg hA8 2;have kk8:=kk7.quiet (za.alloc [] w7 (.cells #[int i64 0,int i64 0,.bool false] 39));obtain ⟨f80,f81,f82⟩:=HS.o _ kk8;have T7:=hid (ze w7 (.cells #[int i64 gk,int i64 gn,.bool gt] 39));have KT:=hid (kk7.quiet (za.alloc [] w7 (.cells #[int i64 gk,int i64 gn,.bool gt] 39)));obtain ⟨s70,s71,s72⟩:=HS.o _ KT.o;clear k7))
 all_goals
  have t0:=zc T7.o 0;have t1:=zc T7.o 1;have t2:=zc T7.o 2;have q1:=zc (zd HN.o KT.o) 1;have HM:=hid (HH.o.quiet (KA.o.quiet KT.o));have K8:=hid (KA.o.quiet KT.o);by_cases hs:sl=0
  ·have HZ:=hid hs
   have qs:(sl == 0)=true:=eqb hs;clear hs;go_wp2_with fail;refine (qz HM.o (gk,gn,gt) OK.o.d0 OK.o.d1).mono ?_;rintro e w9 ⟨rfl,m9,k9⟩;have M9:=hid m9;have K9:=hid ((K8.o.mono (L':=F) (fun _ hx=>by cases hx)).step (k9.mono fun y hy=>by rw[List.mem_singleton.1 hy];exact HM.o.fg_in));clear m9 k9;go_wp2_with fail;go_ret;refine ⟨by rw[E.o,if_pos HZ.o,HZ.o];rfl,F,rv,oa,oc,os,Fh,?_,K9.o,ja.refl _ _⟩;rw[E.o,if_pos HZ.o];exact M9.o
  ·have HZ:=hid hs
   have qs:(sl == 0)=false:=neb hs;clear hs;go_wp2_with fail;go_ret;refine ⟨by rw[E.o,if_neg HZ.o];rfl,F,rv,oa,oc,os,Fh,?_,K8.o.mono (fun _ hx=>by cases hx),ja.refl _ _⟩;rw[E.o,if_neg HZ.o];exact HM.o
end
end Go.Proofs.YtgmbkiagdhjpnaaGreatDoor
