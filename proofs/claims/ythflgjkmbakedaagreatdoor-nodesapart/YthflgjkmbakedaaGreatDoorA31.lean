import Derived.Test.YthflgjkmbakedaaGreatDoorA30

namespace Go.Proofs.YthflgjkmbakedaaGreatDoor
open Go.RowKit
open Go.Value (int pointer agg)
open Go.IntKind (i64)
set_option maxRecDepth 20000
set_option maxHeartbeats 8000000
variable {P:Pr8}{po pp rt:Nat}{w:World}
def CdP(P:Pr8)(f b i:Nat)(w:World)(e:Ending)(w':World):Prop:=
 zc [] w w'∧((Qq P (f,b,i)=true∧∃ x y z sa sn sc,e=.returned (.tuple #[agg #[int i64 5,int i64 (zT (zr (zf P f) b) i).dst,int i64 x,int i64 y,int i64 z,.slice sa sn sc],.bool true]))∨
  (Qq P (f,b,i)=false∧∃ o d x y z sa sn sc,o≠5∧e=.returned (.tuple #[agg #[int i64 o,int i64 d,int i64 x,int i64 y,int i64 z,.slice sa sn sc],.bool true]))∨
  (Qq P (f,b,i)=false∧∃ o d x y z sa sn sc,e=.returned (.tuple #[agg #[int i64 o,int i64 d,int i64 x,int i64 y,int i64 z,.slice sa sn sc],.bool false])))
theorem zjk{pb:Nat}(h:PrC w pb po P)(hs:Sm8 P)(f b i:Nat)(hp:Zh P f b i):Calls Tryz.prog 50 #[pointer (some ⟨pb,po,none⟩),ptV f b i] w (CdP P f b i w):=by
 refine (JF h hs f b i hp).mono ?_;rintro e w' ⟨k,h⟩;refine ⟨k,?_⟩;have hi:Qq P (f,b,i)=(decide (i<(zr (zf P f) b).code.length) && decide ((zT (zr (zf P f) b) i).op=5)):=rfl;rcases h with ⟨h1,a,cp,rfl, -, -⟩ | ⟨h1,rfl⟩
 ·by_cases h5:(zT (zr (zf P f) b) i).op=5
  ·refine .inl ⟨by rw[hi,decide_eq_true h1,decide_eq_true h5];rfl,(zT (zr (zf P f) b) i).a,(zT (zr (zf P f) b) i).b,(zT (zr (zf P f) b) i).n,a,(zT (zr (zf P f) b) i).args.length,cp,?_⟩
   show Ending.returned (atV _ _)=_;unfold atV z8;rw[h5]
  ·exact .inr (.inl ⟨by rw[hi,decide_eq_true h1,decide_eq_false h5];rfl,_,_,_,_,_,_,_,_,h5,rfl⟩)
 ·exact .inr (.inr ⟨by rw[hi,decide_eq_false h1];rfl,_,_,_,_,_,_,_,_,rfl⟩)
theorem zid{B B' n c:Nat}{v:Value}{xs:List Value}{T:TypeId}(h:w.ownsRow B T c v n xs)(hb:B'≤B):w.ownsRow B' T c v n xs:=
 ⟨h.1,h.2.imp id fun ⟨g,cap,cur,h1,h2,h3⟩=>⟨g,cap,cur,h1,Nat.le_trans hb h2,h3⟩⟩
theorem zhZ{j:Nat}(h:Qq P (ZT P j)=true):(stN P (j+1)).1.map (fun s=>s.p)=(stN P j).1.map (fun s=>s.p) ++ [j]:=by
 rw[j6 h,List.map_append];rfl
theorem zeb(h:PrC w pp po P)(hs:Sm8 P):Calls Tryz.prog 72 #[pointer (some ⟨pp,po,none⟩)] w fun e w'=>zc [] w w'∧∃ v,e=.returned v∧w'.ownsRow w.heap.size 3 1 v (stP P).length (jE (stP P)):=by
 have HPT:=hid (Z1 h hs);have HCD:=hid fun (w':World) (k:zc [] w w') (f b i:Nat) (hp:Zh P f b i)=>zjk (PrC.stays _ _ _ _ _ k h) hs f b i hp;have hM150:(pts P).length≤150:=hs.pt;clear h hs;go_enter Tryz.func72,Tryz.ntmps72;go_wp2_with fail;refine HPT.o.mono ?_;rintro e w4 ⟨a,cp,rfl,hrow,k4⟩;have HRW:=hid hrow;have HK4:=hid k4;obtain ⟨M,hM⟩:∃ M,M=(pts P).length:=⟨_,rfl⟩;have HM:=hid hM;rw[← hM] at hM150 ⊢;clear hM hrow k4 HPT;have G0:Box (w4.ownsRow w4.heap.size 3 1 (.slice none 0 0) ((stN P 0).1.map fun s=>s.p).length (jE ((stN P 0).1.map fun s=>s.p))):=hid (World.ownsRow_nil _ _ _ _);go_wp2_with fail
 go_loopw [3,5] (fun lv kv wr=>∃ j:Nat,j≤M∧kv=int i64 (j:Int)∧Box (wr.ownsRow w4.heap.size 3 1 lv ((stN P j).1.map fun s=>s.p).length (jE ((stN P j).1.map fun s=>s.p)))∧Box (zc [] w4 wr)) (fun _ kv _=>M - (intOf kv).toNat)
 case atStart=>exact ⟨0,by omega,rfl,G0,hid (zc.refl _ _)⟩
 case round=>
  obtain ⟨j,hj,rfl,HO,HK⟩:=hrel;clear G0;by_cases hlt:j<M
  ·have hltj:(j:Int)<(M:Int):=by omega
   obtain ⟨pf,pb,pi,hpt⟩:∃ f b i,(pts P)[j]? = some (f,b,i):=⟨_,_,_,List.getElem?_eq_getElem (by rw[← HM.o];exact hlt)⟩;obtain ⟨rb,ro,rfl,hc⟩:=(HRW.o.quiet PtC.stays HK.o).at hpt;have r0:=hc.c0;have r1:=hc.c1;have r2:=hc.c2
   dsimp only at r0 r1 r2
   have hq:ZT P j=(pf,pb,pi):=by
    unfold ZT;rw[List.getD_eq_getElem?_getD,hpt];rfl
   have HQ:=hid hq;have HCA:=hid (HCD.o wr (HK4.o.quiet HK.o) pf pb pi (jQ.1 (List.mem_of_getElem? hpt)));unfold ptV at HCA;clear hc hpt hq;go_wp2_with fail;refine HCA.o.mono ?_;rintro e w6 ⟨k6,hcase⟩;have HO6:=hid (zj HO.o k6 (fun _ _=>by simp));have HK6:=hid (HK.o.quiet k6);clear k6 HO HK HCA r0 r1 r2;rcases hcase with ⟨hmk,x,y,z,sa,sn,sc,rfl⟩ | ⟨hmk,o,d,x,y,z,sa,sn,sc,ho5,rfl⟩ | ⟨hmk,o,d,x,y,z,sa,sn,sc,rfl⟩
   ·have HST:=hid (zhZ (P:=P) (j:=j) (by rw[HQ.o];exact hmk))
    clear hmk;have hsl:((stN P j).1.map fun s=>s.p).length≤j:=by rw[List.length_map];exact zbx P j
    generalize (zT (zr (zf P pf) pb) pi).dst=dd at *;have KA:=zc.alloc [] w6 (.cells #[int i64 5,int i64 dd,int i64 x,int i64 y,int i64 z,.slice sa sn sc] 54);have n0:=zd (zh w6 (.cells #[int i64 5,int i64 dd,int i64 x,int i64 y,int i64 z,.slice sa sn sc] 54)) 0;have HO7:=hid (zj HO6.o KA (fun _ _=>by simp));have HK7:=hid (HK6.o.quiet KA);clear HO6 HK6 KA;go_upto_region 8 with fail;generalize w6.alloc (.cells #[int i64 5,int i64 dd,int i64 x,int i64 y,int i64 z,.slice sa sn sc] 54)=w7 at *;have hs7:w4.heap.size≤w7.heap.size:=HK7.o.size;generalize w6.heap.size=q at *;obtain ⟨L,hL⟩:∃ L,L=(stN P j).1.map fun s=>s.p:=⟨_,rfl⟩;rw[← hL] at HO7 HST hsl;clear hL n0;go_wp2_with (at_builtin;go_must (refine wpList_append_own_at _ rfl _ _ 36 rfl w4.heap.size 3 Tryz.t3 (int i64 0) 1 8 zE zU qu qs zX rfl (by decide) _ _ _ rfl (HO7.o.alloc _) _ 1 1 [int i64 (j:Int)] rfl rfl (cell_one_new _ _ _) (fun x hx=>by simp at hx;subst hx;rfl) (by unfold maxLen;omega) (by omega) (by simp;omega) ?_;intro v8 w8 hown8 hgrow8 hnil8 hat8))
    have HO8:Box (w8.ownsRow w4.heap.size 3 1 v8 ((stN P (j+1)).1.map fun s=>s.p).length (jE ((stN P (j+1)).1.map fun s=>s.p))):=hid (by
     rw[HST.o,zbE,List.length_append]
     exact hown8)
    have HK8:Box (zc [] w4 w8):=hid ((HK7.o.quiet (zc.alloc [] _ _)).appended HO7.o hgrow8 (Nat.le_refl _));clear hown8 hgrow8 hnil8 hat8 HO7 HK7;go_wp2_with fail;go_roundw
    case rel=>exact ⟨j+1,by omega,by go_num,HO8,HK8⟩
    case measure=>simp[intOf];omega
   ·have HST:Box (stN P (j+1)=stN P j):=hid (ZV (by rw[HQ.o];exact hmk))
    have ho5':(o == 5)=false:=by simp[ho5]
    clear hmk ho5;go_wp2_with fail;go_roundw
    case rel=>exact ⟨j+1,by omega,by go_num,hid (by rw[HST.o];exact zj HO6.o (zc.alloc [] _ _) (fun _ _=>by simp)),hid (HK6.o.quiet (zc.alloc _ _ _))⟩
    case measure=>simp[intOf];omega
   ·have HST:Box (stN P (j+1)=stN P j):=hid (ZV (by rw[HQ.o];exact hmk))
    clear hmk;go_wp2_with fail;go_roundw
    case rel=>exact ⟨j+1,by omega,by go_num,hid (by rw[HST.o];exact zj HO6.o (zc.alloc [] _ _) (fun _ _=>by simp)),hid (HK6.o.quiet (zc.alloc _ _ _))⟩
    case measure=>simp[intOf];omega
  ·obtain rfl:j=M:=by omega
   have hlt':¬ (j:Int)<(j:Int):=by omega
   go_wp2_with fail;go_ret;refine ⟨HK4.o.quiet HK.o,_,rfl,?_⟩;have:=HO.o;rw[HM.o] at this;exact zid this HK4.o.size
theorem zhN{j:Nat}(hj:j<(pts P).length):zaP P (j:Int)=if Qq P (ZT P j)=true then mkR P (ZT P j) else -1:=by
 unfold zaP;by_cases h:Qq P (ZT P j)=true
 ·rw[if_pos h]
  obtain ⟨s,h1,h2⟩:=zfI P _ j hj h;have h3:=J8 (P:=P) (s:=s) h1;have h4:=(Jx P _ s h1).r;rw[h2] at h3 h4;rw[h3];exact h4
 ·rw[if_neg h]
  cases e:za3 P (j:Int) with
  | none=>rfl
  | some s=>
   obtain ⟨h1,h2⟩:=jT e;have h3:=(Jx P _ s h1).is;rw[show s.p=j by omega] at h3;exact absurd h3 h
theorem zgk{s:Int}(h:s<0∨((pts P).length:Int)≤s):zaP P s= -1:=by
 unfold zaP;cases e:za3 P s with
 | none=>rfl
 | some x=>
  obtain ⟨h1,h2⟩:=jT e;have h3:=(Jx P _ x h1).lt;omega
theorem zdu(h:PrC w pp po P)(hs:Sm8 P)(W:Wff P)(s:Int):Calls Tryz.prog 45 #[pointer (some ⟨pp,po,none⟩),int i64 s] w fun e w'=>e=.returned (int i64 (zaP P s))∧zc [] w w':=by
 have HPT:=hid (Z1 h hs);have HCD:=hid fun (w':World) (k:zc [] w w') (f b i:Nat) (hp:Zh P f b i)=>zjk (PrC.stays _ _ _ _ _ k h) hs f b i hp;have hM150:(pts P).length≤150:=hs.pt;have HP:=hid h;have HRO:=hid fun h=>zgk (P:=P) (s:=s) h;have HRI:=hid fun j h=>zhN (P:=P) (j:=j) h;have HW:=hid W;clear h hs W;by_cases g0:s<0
 ·have HE:=hid (HRO.o (.inl g0))
  clear HRO HRI HCD HP;go_enter Tryz.func45,Tryz.ntmps45;go_wp2_with fail;refine HPT.o.mono ?_;rintro e w4 ⟨a,cp,rfl,hrow,k4⟩;have HK4:=hid k4;clear hrow k4 HPT;go_wp2_with fail;go_ret;exact ⟨by rw[HE.o];rfl,HK4.o⟩
 ·by_cases g1:((pts P).length:Int)≤s
  ·have HE:=hid (HRO.o (.inr g1))
   clear HRO HRI HCD HP;go_enter Tryz.func45,Tryz.ntmps45;go_wp2_with fail;refine HPT.o.mono ?_;rintro e w4 ⟨a,cp,rfl,hrow,k4⟩;have HK4:=hid k4;clear hrow k4 HPT;go_wp2_with fail;go_ret;exact ⟨by rw[HE.o];rfl,HK4.o⟩
  ·obtain ⟨j,rfl⟩:∃ j:Nat,s=(j:Int):=⟨s.toNat,by omega⟩
   have hjl:j<(pts P).length:=by omega
   have HE:=hid (HRI.o j hjl);obtain ⟨pf,pb,pi,hpt⟩:∃ f b i,(pts P)[j]? = some (f,b,i):=⟨_,_,_,List.getElem?_eq_getElem hjl⟩;have hq:ZT P j=(pf,pb,pi):=by
    unfold ZT;rw[List.getD_eq_getElem?_getD,hpt];rfl
   rw[hq] at HE;have hIP:=jQ.1 (List.mem_of_getElem? hpt);have HIP:=hid hIP;have HPT':=hid hpt;have HCA:=hid fun w' k=>HCD.o w' k pf pb pi hIP;unfold ptV at HCA;clear HRO HRI HCD hq hIP hpt;generalize (pts P).length=M at *;go_enter Tryz.func45,Tryz.ntmps45;go_wp2_with fail;refine HPT.o.mono ?_;rintro e w4 ⟨a,cp,rfl,hrow,k4⟩;have HK4:=hid k4;obtain ⟨rb,ro,rfl,hc⟩:=hrow.at HPT'.o;have r0:=hc.c0;have r1:=hc.c1;have r2:=hc.c2
   dsimp only at r0 r1 r2
   clear hrow k4 HPT HPT' hc;go_wp2_with fail;refine (HCA.o _ HK4.o).mono ?_;rintro e w6 ⟨k6,hcase⟩;have HK6:=hid (HK4.o.quiet k6);have q0:=za k6 r0;clear k6 HK4 HCA r0 r1 r2;rcases hcase with ⟨hmk,x,y,z,sa,sn,sc,rfl⟩ | ⟨hmk,o,d,x,y,z,sa,sn,sc,ho5,rfl⟩ | ⟨hmk,o,d,x,y,z,sa,sn,sc,rfl⟩
   ·rw[if_pos hmk] at HE
    have MO:=zfZ HW.o HIP.o hmk;obtain ⟨fa,fcp,H⟩:=HP.o.fns;have ef:P.funcs[pf]? = some (zf P pf):=zg HIP.o.1;obtain ⟨fb,fo,rfl,FC⟩:=H.rows.at ef;obtain ⟨ra,rcp,g3,grr, -, -⟩:=FC.c1;have m1:=MO.d0;have m2:=MO.d1;obtain ⟨d,hd⟩:∃ d:Nat,(zT (zr (zf P pf) pb) pi).dst=(d:Int):=⟨(zT (zr (zf P pf) pb) pi).dst.toNat,by omega⟩;have hdl:d<(zf P pf).regs.length:=by omega
    obtain ⟨tyb,tyo,rfl,ty⟩:=grr.at (zg (d:=(0,0)) hdl);have y1:=ty.c1.1;have em:mkR P (pf,pb,pi)=((zf P pf).regs.getD d (0,0)).2:=by
     unfold mkR
     dsimp only
     rw[hd,Int.toNat_natCast]
    rw[em] at HE;rw[hd];have hfl:=HIP.o.1;have KA:=HK6.o.quiet (zc.alloc [] w6 (.cells #[int i64 5,int i64 (d:Int),int i64 x,int i64 y,int i64 z,.slice sa sn sc] 54));have n1:=zd (zh w6 (.cells #[int i64 5,int i64 (d:Int),int i64 x,int i64 y,int i64 z,.slice sa sn sc] 54)) 1;have j4:=za KA H.cell;have j3:=za KA g3;have j1:=za KA y1;have q1:=za (zc.alloc [] w6 (.cells #[int i64 5,int i64 (d:Int),int i64 x,int i64 y,int i64 z,.slice sa sn sc] 54)) q0;have HKA:=hid KA;clear hmk MO H ef FC g3 grr m1 m2 hd ty y1 em KA q0 HK6 HP HIP HW;generalize ((zf P pf).regs.getD d (0,0)).2=rv at *;generalize (zf P pf).regs.length=rn at *;generalize P.funcs.length=fn at *;go_upto_region 7 with fail;generalize w6.alloc (.cells #[int i64 5,int i64 (d:Int),int i64 x,int i64 y,int i64 z,.slice sa sn sc] 54)=w7 at *;generalize w6.heap.size=q at *;go_quiet (fail);go_wp2_with fail;go_ret;exact ⟨by rw[HE.o];rfl,HKA.o.quiet (zc.drewN _ _ _)⟩
   ·have ho5':(o != 5)=true:=bne_iff_ne.2 ho5
    rw[hmk,if_neg (by decide)] at HE;clear hmk ho5 HP HIP HW;go_wp2_with fail;go_ret;exact ⟨by rw[HE.o];rfl,HK6.o.quiet (zc.alloc _ _ _)⟩
   ·rw[hmk,if_neg (by decide)] at HE
    clear hmk HP HIP HW;go_wp2_with fail;go_ret;exact ⟨by rw[HE.o];rfl,HK6.o.quiet (zc.alloc _ _ _)⟩
structure RtC (w:World) (rt pp po:Nat) (P:Pr8):Prop where
 c0:w.cell? ⟨rt,0,none⟩=some (pointer (some ⟨pp,po,none⟩))
 c1:∃ a cp,w.cell? ⟨rt,1,none⟩=some (.slice a (qG P).length cp)∧∀ k s,(qG P)[k]? = some s→∃ b,a=some ⟨b,0,none⟩∧w.cell? ⟨b,k,none⟩=some (int i64 (s.p:Int))
 c2:∃ a cp,w.cell? ⟨rt,2,none⟩=some (.slice a (qG P).length cp)∧∀ k s,(qG P)[k]? = some s→∃ b,a=some ⟨b,0,none⟩∧w.cell? ⟨b,k,none⟩=some (int i64 s.r)
 c3:∃ a cp,w.cell? ⟨rt,3,none⟩=some (.slice a P.funcs.length cp)∧∀ k,k<P.funcs.length→∃ b,a=some ⟨b,0,none⟩∧w.cell? ⟨b,k,none⟩=some (int i64 (jv P k:Int))
 c4:∃ a cp,w.cell? ⟨rt,4,none⟩=some (.slice a (qG P).length cp)∧∀ k s,(qG P)[k]? = some s→∃ b,a=some ⟨b,0,none⟩∧w.cell? ⟨b,k,none⟩=some (int i64 (s.c:Int))
 c5:w.cell? ⟨rt,5,none⟩=some (int i64 (zaj P:Int))
theorem QY{B n:Nat}{v:Value}{l:List Int}(h:w.ownsRow B 3 1 v n (QE l)):∃ a cp,v=.slice a n cp∧∀ k x,l[k]? = some x→∃ b,a=some ⟨b,0,none⟩∧w.cell? ⟨b,k,none⟩=some (int i64 x):=by
 have hb:=h;have hl:(QE l).length=n * 1:=h.1;have hln:l.length=n:=by
  unfold QE at hl;rw[List.length_map] at hl;omega
 rcases h.2 with ⟨rfl,h0⟩ | ⟨g,cap,cur,rfl,_⟩
 ·refine ⟨none,0,by rw[h0],fun k x hx=> ?_⟩
  have:=(List.getElem?_eq_some_iff.1 hx).1;omega
 ·refine ⟨_,cap,rfl,fun k x hx=>⟨g,rfl,?_⟩⟩
  have:=(List.getElem?_eq_some_iff.1 hx).1;rw[hb.cellAt _ (by omega)];unfold QE;rw[List.getElem?_map,hx];rfl
theorem zgB(l:List Nat):jE l=QE (l.map fun n:Nat=>(n:Int)):=by
 unfold jE QE;rw[List.map_map];rfl
theorem zeM(h:PrC w pp po P)(hs:Sm8 P)(W:Wff P)(hsn:SmN P):Calls Tryz.prog 34 #[pointer (some ⟨pp,po,none⟩)] w fun e w'=>∃ rt,e=.returned (pointer (some ⟨rt,0,none⟩))∧RtC w' rt pp po P∧zc [] w w':=by
 have HSI:=hid (zeb h hs);have HP:=hid h;have HRC:=hid fun (w':World) (k:zc [] w w') (s:Int)=>zdu (PrC.stays _ _ _ _ _ k h) hs W s;have HS:=hid hsn;have HW:=hid W;have HS8:=hid hs;obtain ⟨fa,fcp,H⟩:=h.fns;have HF:=hid H;have hN:=hs.fn;obtain ⟨N,hNN⟩:∃ N,N=P.funcs.length:=⟨_,rfl⟩;have HN:=hid hNN;rw[← hNN] at hN
 have H4:Box (∀ w',zc [] w w'→w'.cell? ⟨pp,po+4,none⟩=some (.slice fa N fcp)):=hid (by
  have h4':=H.cell;rw[← hNN] at h4';intro w' k
  exact za k h4')
 obtain ⟨n,hn⟩:∃ n,n=(qG P).length:=⟨_,rfl⟩;have HNS:=hid hn;have hn150:n≤150:=by rw[hn];exact hsn.st
 clear h hs W hsn H hNN hn;go_enter Tryz.func34,Tryz.ntmps34;go_wp2_with fail;refine HSI.o.mono ?_;rintro e w2 ⟨k2,sv,rfl,ho2⟩;have K2:=hid k2
 have HO2:Box (w2.ownsRow w.heap.size 3 1 sv n (QE ((qG P).map fun s=>(s.p:Int)))):=hid (by
  rw[zgB] at ho2;unfold stP at ho2;rw[List.length_map, ← HNS.o,List.map_map] at ho2
  exact ho2)
 obtain ⟨sa,scp,rfl⟩:=zan HO2.o;clear k2 ho2 HSI;go_upto_region 2 with fail;have hb3:=zh w2 (.cells #[pointer (some ⟨pp,po,none⟩),.slice sa n scp,.slice none 0 0,.slice none 0 0,.slice none 0 0,int i64 0] 84);have KA:=zc.alloc [] w2 (.cells #[pointer (some ⟨pp,po,none⟩),.slice sa n scp,.slice none 0 0,.slice none 0 0,.slice none 0 0,int i64 0] 84);have HO3:=hid (zj HO2.o KA (fun _ _=>by simp));have K3:=hid (K2.o.quiet KA);have hrt:=K2.o.size;generalize w2.alloc (.cells #[pointer (some ⟨pp,po,none⟩),.slice sa n scp,.slice none 0 0,.slice none 0 0,.slice none 0 0,int i64 0] 84)=w3 at *;generalize w2.heap.size=rt at *;have HRT:=hid hrt;have B0:Box (w3.heap[rt]? = some (.cells #[pointer (some ⟨pp,po,none⟩),.slice sa n scp,.slice none 0 0,.slice none 0 0,.slice none 0 0,int i64 (jv P 0:Int)] 84 (0,0))):=hid hb3;have R0:Box (w3.ownsRow w3.heap.size 3 1 (.slice none 0 0) 0 (QE (zeo P 0))):=hid (World.ownsRow_nil _ _ _ _);clear hb3 KA HO2 K2 hrt;have HOF:Box (∀ b,(Value.slice sa n scp).ownBlock=some b→b≠rt):=hid fun b hb e=>qM HO3.o B0.o (by decide) (by rw[hb,e]);go_wp2_with fail
 go_loopw [4] (fun fv wr=>∃ (k:Nat) (rv:Value),k≤N∧fv=int i64 (k:Int)∧Box (wr.heap[rt]? = some (.cells #[pointer (some ⟨pp,po,none⟩),.slice sa n scp,.slice none 0 0,rv,.slice none 0 0,int i64 (jv P k:Int)] 84 (0,0)))∧Box (wr.ownsRow w3.heap.size 3 1 rv k (QE (zeo P k)))∧Box (zc [rt] w3 wr)) (fun fv _=>N - (intOf fv).toNat)
 case atStart=>exact ⟨0,_,by omega,rfl,B0,R0,hid (zc.refl _ _)⟩
 case round=>
  obtain ⟨k,rv,hk,rfl,HB,HR,HK⟩:=hrel;clear B0 R0;have HKw:=hid (K3.o.fresh9 HK.o HRT.o);by_cases hlt:k<N
  ·have hlt':(k:Int)<(N:Int):=by omega
   have q4:=H4.o _ HKw.o;have ef:P.funcs[k]? = some (zf P k):=zg (by rw[← HN.o];exact hlt);obtain ⟨fb,fo,rfl,FC⟩:=HF.o.rows.at ef;obtain ⟨ra,rcp,g30,grr, -, -⟩:=FC.c1;have hrl:=HS.o.rg k (by rw[← HN.o];exact hlt);have hbk:=HS.o.beg (k:=k) (by rw[← HN.o];omega);have HBB:Box ((jv P k:Int)+(((zf P k).regs.length:Int)+1)=(jv P (k+1):Int)):=hid (by show _=((jv P k+((zf P k).regs.length+1):Nat):Int);omega);have HBF:=hid (zhe P k);have HBL:=hid (ziF P k);have G3:Box (∀ w',zc [] w w'→w'.cell? ⟨fb,fo+k * 3+1,none⟩=some (.slice ra (zf P k).regs.length rcp)):=hid fun w' kk=>za kk g30;clear FC g30 grr ef;obtain ⟨bk,hbk9⟩:∃ bk,bk=jv P k:=⟨_,rfl⟩;have HBK:=hid hbk9;rw[← hbk9] at HB HBB hbk HBF;clear hbk9;generalize (zf P k).regs.length=rl at *;go_upto_region 5 with fail;clear q4;have c3:=zd HB.o 3;have c5:=zd HB.o 5;have y3:=zi HB.o 3;have l3:=zQ HB.o;have hBs:w3.heap.size≤wr.heap.size:=HK.o.size;have OW:Box ((wr.alloc (.cells #[int i64 (bk:Int)] 3)).ownsRow w3.heap.size 3 1 rv k (QE (zeo P k))):=hid (zj HR.o (zc.alloc [] _ _) (fun _ _=>by simp))
   go_region_law (go_loud (refine step_append_lies _ (by rfl) _ _ _ (by rfl) w3.heap.size 3 Tryz.t3 (int i64 0) 1 8 zE zU qu qs zX rfl (by decide) rv k (QE (zeo P k)) (by rfl) (zdf OW.o) ⟨wr.heap.size,0,none⟩ 1 1 [int i64 (bk:Int)] (by rfl) (by rfl) (World.news_of_block (cs:=#[int i64 (bk:Int)]) (t:=3) (fr:=(0,0)) (zh wr _)) (fun x hx=>by simp at hx;subst hx;rfl) (by omega) (by unfold maxLen;omega) (by omega) (by simp;omega) (wr.heap.size+1) (by simp) ?_;intro g5 cap5 w5 hown5 hgrow5 hat5 hlt5;have GA:=hid (zcR (i:=3) (by decide) HB.o HR.o (zc.alloc [] wr (.cells #[int i64 (bk:Int)] 3)) ⟨hgrow5.os,hgrow5.tape,hgrow5.output,hgrow5.size,hgrow5.block⟩ hown5);have q3:=zd GA.o.mid 3;have y9:=zi GA.o.mid 3;have l9:=zQ GA.o.mid;clear hown5 hgrow5 hat5 hlt5))
   all_goals
    have GB:=hid GA.o.box;have GR:=hid GA.o.row;have GK:=hid (GA.o.keep rfl HK.o);clear GA HB HR HK HKw c3 c5 y3 l3 hBs OW q3 y9 l9;generalize w5.setCell ⟨rt,3,none⟩ (.slice (some ⟨g5,0,none⟩) (k+1) cap5)=w9 at *;generalize (Value.slice (some ⟨g5,0,none⟩) (k+1) cap5)=rv9 at *
   all_goals
    have GB9:Box (w9.heap[rt]? = some (.cells #[pointer (some ⟨pp,po,none⟩),.slice sa n scp,.slice none 0 0,rv9,.slice none 0 0,int i64 (bk:Int)] 84 (0,0))):=hid GB.o
    have GRN:Box (w9.ownsRow w3.heap.size 3 1 rv9 (k+1) (QE (zeo P (k+1)))):=hid (by
     rw[HBF.o,zab]
     exact GR.o)
    have HKw9:=hid (K3.o.fresh9 GK.o HRT.o);have q4:=H4.o _ HKw9.o;have g3:=G3.o _ HKw9.o;have c5:=zd GB9.o 5;have y5:=zi GB9.o 5;have l5:=zQ GB9.o;clear GB GR HKw9
   all_goals
    go_upto_region 6 with fail
    go_region
    rw[HBB.o];have GBF:Box ((w9.setCell ⟨rt,5,none⟩ (int i64 (jv P (k+1):Int))).drew.heap[rt]? = some (.cells #[pointer (some ⟨pp,po,none⟩),.slice sa n scp,.slice none 0 0,rv9,.slice none 0 0,int i64 (jv P (k+1):Int)] 84 (0,0))):=hid (heap_setCell_same _ _ 5 _ _ _ GB9.o);have GRF:Box ((w9.setCell ⟨rt,5,none⟩ (int i64 (jv P (k+1):Int))).drew.ownsRow w3.heap.size 3 1 rv9 (k+1) (QE (zeo P (k+1)))):=hid (zdf (zj GRN.o (zc.setCell [rt] _ _ _ (List.mem_singleton.2 rfl)) (fun b hc hm=>qM GRN.o GB9.o (by decide) (by rw[hc,List.mem_singleton.1 hm]))));have GKF:Box (zc [rt] w3 (w9.setCell ⟨rt,5,none⟩ (int i64 (jv P (k+1):Int))).drew):=hid ((GK.o.step (zc.setCell [rt] _ _ _ (List.mem_singleton.2 rfl))).quiet (zc.drew _ _));clear GB9 GRN GK q4 g3 c5 y5 l5;generalize (w9.setCell ⟨rt,5,none⟩ (int i64 (jv P (k+1):Int))).drew=wF at *
   all_goals
    go_wp2_with fail;go_roundw
    case rel=>exact ⟨k+1,rv9,by omega,by go_num,GBF,GRF,GKF⟩
    case measure=>simp[intOf];omega
  ·obtain rfl:k=N:=by omega
   have hlt':¬ (k:Int)<(k:Int):=by omega
   have q4:=H4.o _ HKw.o;have HB0:=HB
   rename World=>w4
   have HSV:Box (w4.ownsRow w.heap.size 3 1 (.slice sa n scp) n (QE ((qG P).map fun s=>(s.p:Int)))):=hid (zj HO3.o HK.o (fun b hb hm=>HOF.o b hb (List.mem_singleton.1 hm)));have HSO:Box (∀ b,(Value.slice sa n scp).ownBlock=some b→b≠rt):=HOF;have HRV:Box (∀ b,rv.ownBlock=some b→b≠rt):=hid fun b hb e=>qM HR.o HB.o (by decide) (by rw[hb,e]);have e0:ndS P 0=jv P k:=by
    show jv P P.funcs.length+0=_;rw[← HN.o];rfl
   have BB0:Box (w4.heap[rt]? = some (.cells #[pointer (some ⟨pp,po,none⟩),.slice sa n scp,.slice none 0 0,rv,.slice none 0 0,int i64 (ndS P 0:Int)] 84 (0,0))):=hid (by rw[e0];exact HB.o);have RA0:Box (w4.ownsRow w4.heap.size 3 1 (.slice none 0 0) 0 (QE (zhv P 0))):=hid (World.ownsRow_nil _ _ _ _);have RC0:Box (w4.ownsRow w4.heap.size 3 1 (.slice none 0 0) 0 (QE (zhy P 0))):=hid (World.ownsRow_nil _ _ _ _);have AP0:Box (∀ b,(Value.slice none 0 0).ownBlock=some b→(Value.slice none 0 0).ownBlock≠some b):=hid fun b hb=>by simp[Value.ownBlock] at hb
   obtain ⟨rs,hrs⟩:=QY HSV.o;obtain ⟨rscp,hrse,hrsc⟩:=hrs;have HSC:Box (∀ j x,(qG P)[j]? = some x→∃ b,sa=some ⟨b,0,none⟩∧w4.cell? ⟨b,j,none⟩=some (int i64 (x.p:Int))):=hid fun j x hx=>by
    have e1:sa=rs:=(Value.slice.inj hrse).1;rw[e1];exact hrsc j _ (by rw[List.getElem?_map,hx];rfl)
   have HKr:=HK;clear e0 HB HK HKw HSV HOF hrse hrsc HF;go_wp2_with fail;clear q4
   go_loopw [5] (fun kv wr=>∃ (j:Nat) (av cv:Value),j≤n∧kv=int i64 (j:Int)∧Box (wr.heap[rt]? = some (.cells #[pointer (some ⟨pp,po,none⟩),.slice sa n scp,av,rv,cv,int i64 (ndS P j:Int)] 84 (0,0)))∧Box (wr.ownsRow w4.heap.size 3 1 av j (QE (zhv P j)))∧Box (wr.ownsRow w4.heap.size 3 1 cv j (QE (zhy P j)))∧Box (∀ b,av.ownBlock=some b→cv.ownBlock≠some b)∧Box (zc [rt] w4 wr)) (fun kv _=>n - (intOf kv).toNat)
   case atStart=>exact ⟨0,_,_,by omega,rfl,BB0,RA0,RC0,AP0,hid (zc.refl _ _)⟩
   case round=>
    obtain ⟨j,av,cv,hj,rfl,HB,HA,HC,HP2,HK⟩:=hrel;clear BB0 RA0 RC0 AP0;have HKw:=hid ((K3.o.fresh9 HKr.o HRT.o).fresh9 HK.o HRT.o);have d1:=zd HB.o 1;by_cases hlt:j<n
    ·have hltj:(j:Int)<(n:Int):=by omega
     obtain ⟨s,hs⟩:∃ s,(qG P)[j]? = some s:=⟨_,List.getElem?_eq_getElem (by rw[← HNS.o];exact hlt)⟩;obtain ⟨sb,rfl,hsc⟩:=HSC.o j s hs;have hsne:sb≠rt:=HSO.o sb rfl;have sc:wr.cell? ⟨sb,j,none⟩=_:=(HK.o.cell (p:=⟨sb,j,none⟩) (block_lt_of_cell hsc) (by simp[hsne])).trans hsc;have hok:=Jx P _ s (List.mem_of_getElem? hs);have HRN:=hid (za5 (P:=P) (s:=s) (List.mem_of_getElem? hs));have HRF:=hid (zgp hs);have HCF:=hid (zgz hs);have hnd:=zlN hs;have HND:=hid hnd;have hsn:=hok.n;have hcb:=hok.c;have hnl:=HS.o.nodes (Nat.le_refl _)
     have HMO:=hid (zfZ HW.o (jQ.1 (show (ZT P s.p)∈pts P by
      unfold ZT;rw[List.getD_eq_getElem?_getD,List.getElem?_eq_getElem hok.lt]
      exact List.getElem_mem _)) hok.is)
     have hr0:0≤s.r∧s.r<(P.recs.length:Int):=by
      rw[hok.r];exact ⟨HMO.o.r0,HMO.o.r1⟩
     have HCALL:=hid (HRC.o _ HKw.o (s.p:Int));rw[HRN.o] at HCALL;clear hsc hok hs HMO HRN;go_wp2_with fail;refine HCALL.o.mono ?_;rintro e w6 ⟨rfl,k6⟩;have HB6:=hid (ze HB.o k6);have HA6:=hid (zj HA.o k6 (fun _ _=>by simp));have HC6:=hid (zj HC.o k6 (fun _ _=>by simp));have HK6:=hid (HK.o.quiet k6);have HKw6:=hid (HKw.o.quiet k6);clear k6 HB HA HC HK HKw d1 sc HCALL;obtain ⟨d,hd⟩:∃ d:Nat,s.r=(d:Int):=⟨s.r.toNat,by omega⟩;have hdl:d<P.recs.length:=by omega
     obtain ⟨xa,xcp,x0,xr, -, -⟩:=HP.o.c0;obtain ⟨xb,xo,rfl,xs⟩:=xr.at (zg (d:=[]) hdl);obtain ⟨ya,ycp,y0, -, -, -⟩:=xs;have e9:(P.recs.getD d []).length=s.n:=by rw[hsn,hd];unfold zcx;rw[Int.toNat_natCast]
     rw[e9,Nat.mul_one] at y0;have HX:=hid (And.intro x0 y0);rw[hd] at HRF ⊢;obtain ⟨sn,hsn9⟩:∃ sn,sn=s.n:=⟨_,rfl⟩;obtain ⟨c9,hc9⟩:∃ c9,c9=s.c:=⟨_,rfl⟩;rw[← hsn9] at HX HND hcb;rw[← hc9] at HND HCF hcb;have HNE:Box (((c9:Nat):Int)+(sn:Int)=(ndS P (j+1):Int)):=hid (by rw[HND.o.2];omega);have hnd1:(stN P (pts P).length).2≤150204:=hnl;have hsm:c9+sn≤150204:=Nat.le_trans hcb hnd1;rw[HND.o.1] at HB6;clear x0 xr y0 hd e9 hsn9 hc9 hcb hnl hnd1 hnd HND hsn hr0;generalize hrn:P.recs.length=rn at HX hdl;clear hrn;have c2:=zd HB6.o 2;have y2:=zi HB6.o 2;have l2:=zQ HB6.o;have hBs:w4.heap.size≤w6.heap.size:=HK6.o.size;have OW:Box ((w6.alloc (.cells #[int i64 (d:Int)] 3)).ownsRow w4.heap.size 3 1 av j (QE (zhv P j))):=hid (zj HA6.o (zc.alloc [] _ _) (fun _ _=>by simp));go_upto_region 12 with (at_builtin;go_must (refine wpList_append_own_at _ rfl _ _ 36 rfl w4.heap.size 3 Tryz.t3 (int i64 0) 1 8 zE zU qu qs zX rfl (by decide) av j (QE (zhv P j)) rfl OW.o _ 1 1 [int i64 (d:Int)] rfl rfl (cell_one_new _ _ _) (fun x hx=>by simp at hx;subst hx;rfl) (by unfold maxLen;omega) (by omega) (by simp;omega) ?_;intro v8 w8 hown8 hgrow8 hnil8 hat8;obtain ⟨a8,cp8,rfl⟩:=zan hown8;have GA:=hid (zcR (i:=2) (by decide) HB6.o HA6.o (zc.alloc [] w6 (.cells #[int i64 (d:Int)] 3)) hgrow8 hown8);have HAT:=hid hat8;have q3:=zd GA.o.mid 2;have y9:=zi GA.o.mid 2;have l9:=zQ GA.o.mid;clear hown8 hgrow8 hat8 hnil8))
     have GB:Box ((w8.setCell ⟨rt,2,none⟩ (.slice a8 (j+1) cp8)).heap[rt]? = some (.cells #[pointer (some ⟨pp,po,none⟩),.slice (some ⟨sb,0,none⟩) n scp,(.slice a8 (j+1) cp8),rv,cv,int i64 (c9:Int)] 84 (0,0))):=hid GA.o.box
     have GR:Box ((w8.setCell ⟨rt,2,none⟩ (.slice a8 (j+1) cp8)).ownsRow w4.heap.size 3 1 (.slice a8 (j+1) cp8) (j+1) (QE (zhv P (j+1)))):=hid (by
      rw[HRF.o,zab]
      exact GA.o.row)
     have GC:=hid (GA.o.oth HC6.o (fun b hb ha=>HP2.o b ha hb));have GK:=hid (GA.o.keep rfl HK6.o);have GP:Box (∀ b,(Value.slice a8 (j+1) cp8).ownBlock=some b→cv.ownBlock≠some b):=hid fun b hb hc=>by
      rcases HAT.o with h | h
      ·exact HP2.o b (h.symm.trans hb) hc
      ·rw[h] at hb
       have h1:=(HC6.o.lt b hc).2;have h2:=Option.some.inj hb;rw[World.size_alloc] at h2;omega
     clear GA HAT HB6 HA6 HC6 HK6 HKw6 HP2 c2 y2 l2 hBs OW q3 y9 l9;generalize w8.setCell ⟨rt,2,none⟩ (.slice a8 (j+1) cp8)=w9 at *;generalize (Value.slice a8 (j+1) cp8)=v8 at *;have c4:=zd GB.o 4;have c5:=zd GB.o 5;have y4:=zi GB.o 4;have l4:=zQ GB.o;have hBs:w4.heap.size≤w9.heap.size:=GK.o.size;have OW:Box ((w9.alloc (.cells #[int i64 (c9:Int)] 3)).ownsRow w4.heap.size 3 1 cv j (QE (zhy P j))):=hid (zj GC.o (zc.alloc [] _ _) (fun _ _=>by simp))
     go_region_law (go_loud (refine step_append_lies _ (by rfl) _ _ _ (by rfl) w4.heap.size 3 Tryz.t3 (int i64 0) 1 8 zE zU qu qs zX rfl (by decide) cv j (QE (zhy P j)) (by rfl) (zdf OW.o) ⟨w9.heap.size,0,none⟩ 1 1 [int i64 (c9:Int)] (by rfl) (by rfl) (World.news_of_block (cs:=#[int i64 (c9:Int)]) (t:=3) (fr:=(0,0)) (zh w9 _)) (fun x hx=>by simp at hx;subst hx;rfl) (by omega) (by unfold maxLen;omega) (by omega) (by simp;omega) (w9.heap.size+1) (by simp) ?_;intro g5 cap5 w5 hown5 hgrow5 hat5 hlt5;have GA:=hid (zcR (i:=4) (by decide) GB.o GC.o (zc.alloc [] w9 (.cells #[int i64 (c9:Int)] 3)) ⟨hgrow5.os,hgrow5.tape,hgrow5.output,hgrow5.size,hgrow5.block⟩ hown5);have HAT:=hid hat5;have q3:=zd GA.o.mid 4;have y9:=zi GA.o.mid 4;have l9:=zQ GA.o.mid;clear hown5 hgrow5 hat5 hlt5))
     all_goals
      have EB:Box ((w5.setCell ⟨rt,4,none⟩ (.slice (some ⟨g5,0,none⟩) (j+1) cap5)).heap[rt]? = some (.cells #[pointer (some ⟨pp,po,none⟩),.slice (some ⟨sb,0,none⟩) n scp,v8,rv,.slice (some ⟨g5,0,none⟩) (j+1) cap5,int i64 (c9:Int)] 84 (0,0))):=hid GA.o.box
      have EC:Box ((w5.setCell ⟨rt,4,none⟩ (.slice (some ⟨g5,0,none⟩) (j+1) cap5)).ownsRow w4.heap.size 3 1 (.slice (some ⟨g5,0,none⟩) (j+1) cap5) (j+1) (QE (zhy P (j+1)))):=hid (by
       rw[HCF.o,zab]
       exact GA.o.row)
      have EA:=hid (GA.o.oth GR.o (fun b hb ha=>GP.o b hb ha));have EK:=hid (GA.o.keep rfl GK.o);have EP:Box (∀ b,v8.ownBlock=some b→(Value.slice (some ⟨g5,0,none⟩) (j+1) cap5).ownBlock≠some b):=hid fun b hb hc=>by
       have hc':g5=b:=by simpa [Value.ownBlock] using hc
       rcases HAT.o with h | h
       ·exact GP.o b hb (by rw[h,hc'])
       ·have h1:=(GR.o.lt b hb).2
        omega
      clear GA HAT GB GR GC GK GP c4 c5 y4 l4 hBs OW q3 y9 l9;generalize w5.setCell ⟨rt,4,none⟩ (.slice (some ⟨g5,0,none⟩) (j+1) cap5)=w7 at *;generalize (Value.slice (some ⟨g5,0,none⟩) (j+1) cap5)=cv9 at *;have HKw7:=hid ((K3.o.fresh9 HKr.o HRT.o).fresh9 EK.o HRT.o);have m0:=za HKw7.o HX.o.1;have m1:=za HKw7.o HX.o.2;have c5:=zd EB.o 5;have y5:=zi EB.o 5;have l5:=zQ EB.o;clear HX HKw7
     all_goals
      go_upto_region 13 with fail
      go_region
      rw[HNE.o];have FB:Box ((w7.setCell ⟨rt,5,none⟩ (int i64 (ndS P (j+1):Int))).drew.heap[rt]? = some (.cells #[pointer (some ⟨pp,po,none⟩),.slice (some ⟨sb,0,none⟩) n scp,v8,rv,cv9,int i64 (ndS P (j+1):Int)] 84 (0,0))):=hid (heap_setCell_same _ _ 5 _ _ _ EB.o);have FA:Box ((w7.setCell ⟨rt,5,none⟩ (int i64 (ndS P (j+1):Int))).drew.ownsRow w4.heap.size 3 1 v8 (j+1) (QE (zhv P (j+1)))):=hid (zdf (zj EA.o (zc.setCell [rt] _ _ _ (List.mem_singleton.2 rfl)) (fun b hc hm=>qM EA.o EB.o (by decide) (by rw[hc,List.mem_singleton.1 hm]))));have FC:Box ((w7.setCell ⟨rt,5,none⟩ (int i64 (ndS P (j+1):Int))).drew.ownsRow w4.heap.size 3 1 cv9 (j+1) (QE (zhy P (j+1)))):=hid (zdf (zj EC.o (zc.setCell [rt] _ _ _ (List.mem_singleton.2 rfl)) (fun b hc hm=>qM EC.o EB.o (by decide) (by rw[hc,List.mem_singleton.1 hm]))));have FK:Box (zc [rt] w4 (w7.setCell ⟨rt,5,none⟩ (int i64 (ndS P (j+1):Int))).drew):=hid ((EK.o.step (zc.setCell [rt] _ _ _ (List.mem_singleton.2 rfl))).quiet (zc.drew _ _));clear EB EA EC EK m0 m1 c5 y5 l5;generalize (w7.setCell ⟨rt,5,none⟩ (int i64 (ndS P (j+1):Int))).drew=wF at *
     all_goals
      go_wp2_with fail;go_roundw
      case rel=>exact ⟨j+1,v8,cv9,by omega,by go_num,FB,FA,FC,EP,FK⟩
      case measure=>simp[intOf];omega
    ·obtain rfl:j=n:=by omega
     have hlt':¬ (j:Int)<(j:Int):=by omega
     go_wp2_with fail;go_ret;have KF:=(K3.o.fresh9 HKr.o HRT.o).fresh9 HK.o HRT.o;have hRV:=zj HR.o HK.o (fun b hb hm=>HRV.o b hb (List.mem_singleton.1 hm));obtain ⟨a2,cp2,ev2,h2⟩:=QY HA.o;obtain ⟨a3,cp3,ev3,h3⟩:=QY hRV;obtain ⟨a4,cp4,ev4,h4⟩:=QY HC.o;have en:=HNS.o;have eN:=HN.o;have hl:∀ k s,(qG P)[k]? = some s→k<j:=fun k s hs=>by
      have:=(List.getElem?_eq_some_iff.1 hs).1;omega
     refine ⟨rt,rfl,⟨zd HB.o 0,⟨sa,scp,by rw[← en];exact zd HB.o 1,fun k s hs=> ?_⟩,⟨a2,cp2,by rw[← en, ← ev2];exact zd HB.o 2,fun k s hs=> ?_⟩,⟨a3,cp3,by rw[← eN, ← ev3];exact zd HB.o 3,fun k hk=> ?_⟩,⟨a4,cp4,by rw[← en, ← ev4];exact zd HB.o 4,fun k s hs=> ?_⟩,by have:=zd HB.o 5;rw[en,zjG] at this;exact this⟩,KF⟩
     ·obtain ⟨b,e1,hc⟩:=HSC.o k s hs
      refine ⟨b,e1,(HK.o.cell (p:=⟨b,k,none⟩) (block_lt_of_cell hc) ?_).trans hc⟩;have:=HSO.o b (by rw[e1];rfl);simp[this]
     ·refine h2 k _ ?_
      unfold zhv;rw[List.getElem?_map,List.getElem?_take,if_pos (hl k s hs),hs];rfl
     ·exact h3 k _ (zkv P (by omega))
     ·refine h4 k _ ?_
      unfold zhy;rw[List.getElem?_map,List.getElem?_take,if_pos (hl k s hs),hs];rfl
theorem RtC.quiet{w':World}(h:RtC w rt pp po P)(k:zc [] w w'):RtC w' rt pp po P:=by
 obtain ⟨a1,p1,g1,f1⟩:=h.c1;obtain ⟨a2,p2,g2,f2⟩:=h.c2;obtain ⟨a3,p3,g3,f3⟩:=h.c3;obtain ⟨a4,p4,g4,f4⟩:=h.c4;refine ⟨za k h.c0,⟨a1,p1,za k g1,fun j s hs=> ?_⟩,⟨a2,p2,za k g2,fun j s hs=> ?_⟩,⟨a3,p3,za k g3,fun j hj=> ?_⟩,⟨a4,p4,za k g4,fun j s hs=> ?_⟩,za k h.c5⟩
 ·obtain ⟨b,e,hc⟩:=f1 j s hs
  exact ⟨b,e,za k hc⟩
 ·obtain ⟨b,e,hc⟩:=f2 j s hs
  exact ⟨b,e,za k hc⟩
 ·obtain ⟨b,e,hc⟩:=f3 j hj
  exact ⟨b,e,za k hc⟩
 ·obtain ⟨b,e,hc⟩:=f4 j s hs
  exact ⟨b,e,za k hc⟩
theorem zah(P:Pr8)(f:Int):(∃ k:Nat,f=(k:Int)∧k<P.funcs.length∧isF P f=true)∨(f<0∧isF P f=false)∨(0≤f∧(P.funcs.length:Int)≤f∧isF P f=false):=by
 by_cases h:isF P f=true
 ·obtain ⟨k,e,hk⟩:=zdg h
  exact .inl ⟨k,e,hk,h⟩
 ·rw[Bool.not_eq_true] at h
  by_cases h0:f<0
  ·exact .inr (.inl ⟨h0,h⟩)
  ·refine .inr (.inr ⟨by omega,?_,h⟩)
   by_cases h1:(P.funcs.length:Int)≤f
   ·exact h1
   ·unfold isF at h
    rw[decide_eq_true (show 0≤f by omega),decide_eq_true (show f<(P.funcs.length:Int) by omega)] at h;cases h
theorem ziM(h:RtC w rt pp po P)(hs:SmN P)(f:Int):Calls Tryz.prog 43 #[pointer (some ⟨rt,0,none⟩),int i64 f] w fun e w'=>e=.returned (int i64 (ze9 P f))∧zc [] w w':=by
 obtain ⟨a3,p3,g3, -⟩:=h.c3;obtain ⟨a1,p1,g1, -⟩:=h.c1;have h4:=hs.fn;have h5:=hs.st;have HE:Box (ze9 P f=if isF P f=true then ((qG P).length:Int)+f else -1):=hid rfl;clear h hs;rcases zah P f with ⟨k,rfl,hk,hf⟩ | ⟨h0,hf⟩ | ⟨h0,h1,hf⟩
 ·rw[hf,if_pos rfl] at HE
  clear hf;have hk':(k:Int)<(P.funcs.length:Int):=by omega
  generalize P.funcs.length=fn at *;generalize (qG P).length=n at *;go_enter Tryz.func43,Tryz.ntmps43;go_wp2_with fail;go_ret;exact ⟨by rw[HE.o];rfl,zc.refl _ _⟩
 ·rw[hf,if_neg (by decide)] at HE
  clear hf;go_enter Tryz.func43,Tryz.ntmps43;go_wp2_with fail;go_ret;exact ⟨by rw[HE.o];rfl,zc.refl _ _⟩
 ·rw[hf,if_neg (by decide)] at HE
  clear hf;generalize P.funcs.length=fn at *;have h0':¬ f<0:=by omega
  go_enter Tryz.func43,Tryz.ntmps43;go_wp2_with fail;go_ret;exact ⟨by rw[HE.o];rfl,zc.refl _ _⟩
theorem ziC(h:RtC w rt pp po P)(hp:PrC w pp po P)(hs:SmN P)(f:Int):Calls Tryz.prog 41 #[pointer (some ⟨rt,0,none⟩),int i64 f] w fun e w'=>e=.returned (int i64 (zcW P f))∧zc [] w w':=by
 obtain ⟨a3,p3,g3,f3⟩:=h.c3;have g0:=h.c0;obtain ⟨fa,fcp,H⟩:=hp.fns;have h4:=hs.fn;have HE:Box (zcW P f=if isF P f=true then (jv P f.toNat:Int)+((zf P f.toNat).regs.length:Int) else -1):=hid rfl;rcases zah P f with ⟨k,rfl,hk,hf⟩ | ⟨h0,hf⟩ | ⟨h0,h1,hf⟩
 ·rw[hf,if_pos rfl,Int.toNat_natCast] at HE
  obtain ⟨b3,rfl,y3⟩:=f3 k hk;have ef:P.funcs[k]? = some (zf P k):=zg hk;obtain ⟨fb,fo,rfl,FC⟩:=H.rows.at ef;obtain ⟨ra,rcp,g30,grr, -, -⟩:=FC.c1;have q4:=H.cell;have hrl:=hs.rg k hk;have hbk:=hs.beg (k:=k) (by omega);have hk':(k:Int)<(P.funcs.length:Int):=by omega
  clear hf f3 H FC grr ef h hp hs;generalize (zf P k).regs.length=rl at *;generalize jv P k=bk at *;generalize P.funcs.length=fn at *;go_enter Tryz.func41,Tryz.ntmps41;go_upto_region 3 with fail;go_quiet (fail);go_wp2_with fail;go_ret;exact ⟨by rw[HE.o];rfl,zc.drewN _ _ _⟩
 ·rw[hf,if_neg (by decide)] at HE
  clear hf h hp hs f3 H;go_enter Tryz.func41,Tryz.ntmps41;go_wp2_with fail;go_ret;exact ⟨by rw[HE.o];rfl,zc.refl _ _⟩
 ·rw[hf,if_neg (by decide)] at HE
  clear hf h hp hs f3 H;generalize P.funcs.length=fn at *;have h0':¬ f<0:=by omega
  go_enter Tryz.func41,Tryz.ntmps41;go_wp2_with fail;go_ret;exact ⟨by rw[HE.o];rfl,zc.refl _ _⟩
theorem zjb(h:RtC w rt pp po P)(hp:PrC w pp po P)(hs:SmN P)(f r:Int):Calls Tryz.prog 39 #[pointer (some ⟨rt,0,none⟩),int i64 f,int i64 r] w fun e w'=>e=.returned (int i64 (zcF P f r))∧zc [] w w':=by
 obtain ⟨a3,p3,g3,f3⟩:=h.c3;have g0:=h.c0;obtain ⟨fa,fcp,H⟩:=hp.fns;have h4:=hs.fn;have HE:Box (zcF P f r=if isF P f=true∧0≤r∧r<((zf P f.toNat).regs.length:Int) then (jv P f.toNat:Int)+r else -1):=hid rfl;rcases zah P f with ⟨k,rfl,hk,hf⟩ | ⟨h0,hf⟩ | ⟨h0,h1,hf⟩
 ·rw[Int.toNat_natCast] at HE
  obtain ⟨b3,rfl,y3⟩:=f3 k hk;have ef:P.funcs[k]? = some (zf P k):=zg hk;obtain ⟨fb,fo,rfl,FC⟩:=H.rows.at ef;obtain ⟨ra,rcp,g30,grr, -, -⟩:=FC.c1;have q4:=H.cell;have hrl:=hs.rg k hk;have hbk:=hs.beg (k:=k) (by omega);have hk':(k:Int)<(P.funcs.length:Int):=by omega
  clear f3 H FC grr ef h hp hs;have HF9:=hid hf;clear hf;generalize (zf P k).regs.length=rl at *;generalize jv P k=bk at *;generalize P.funcs.length=fn at *;by_cases r0:0≤r
  ·have r0':¬ r<0:=by omega
   by_cases r1:r<(rl:Int)
   ·rw[if_pos ⟨HF9.o,r0,r1⟩] at HE
    clear HF9;go_enter Tryz.func39,Tryz.ntmps39;go_wp2_with fail;go_ret;exact ⟨by rw[HE.o];rfl,zc.refl _ _⟩
   ·rw[if_neg (fun q=>r1 q.2.2)] at HE
    clear HF9;go_enter Tryz.func39,Tryz.ntmps39;go_wp2_with fail;go_ret;exact ⟨by rw[HE.o];rfl,zc.refl _ _⟩
  ·rw[if_neg (fun q=>r0 q.2.1)] at HE
   have r0':r<0:=by omega
   clear HF9;go_enter Tryz.func39,Tryz.ntmps39;go_wp2_with fail;go_ret;exact ⟨by rw[HE.o];rfl,zc.refl _ _⟩
 ·rw[if_neg (fun q=>by rw[hf] at q;cases q.1)] at HE
  clear hf h hp hs f3 H;go_enter Tryz.func39,Tryz.ntmps39;go_wp2_with fail;go_ret;exact ⟨by rw[HE.o];rfl,zc.refl _ _⟩
 ·rw[if_neg (fun q=>by rw[hf] at q;cases q.1)] at HE
  clear hf h hp hs f3 H;generalize P.funcs.length=fn at *;have h0':¬ f<0:=by omega
  go_enter Tryz.func39,Tryz.ntmps39;go_wp2_with fail;go_ret;exact ⟨by rw[HE.o];rfl,zc.refl _ _⟩
def zi0(P:Pr8)(s f:Int)(j:Nat):Prop:=∀ i x,(qG P)[i]? = some x→i<j→¬ ((x.p:Int)=s∧0≤f∧f<(x.n:Int))
theorem zeV{s f:Int}(h:zi0 P s f (qG P).length):Qw P s f= -1:=by
 unfold Qw;cases e:za3 P s with
 | none=>rfl
 | some x=>
  obtain ⟨h1,h2⟩:=jT e;obtain ⟨i,hi⟩:=List.getElem?_of_mem h1;exact if_neg fun q=>h i x hi (List.getElem?_eq_some_iff.1 hi).1 ⟨h2,q⟩
theorem zh0{f:Int}{x:St}(hx:x∈qG P)(h0:0≤f)(h1:f<(x.n:Int)):Qw P (x.p:Int) f=(x.c:Int)+f:=by
 unfold Qw;rw[J8 hx];exact if_pos ⟨h0,h1⟩
theorem zf1(h:RtC w rt pp po P)(hp:PrC w pp po P)(W:Wff P)(hs:SmN P)(s f:Int):Calls Tryz.prog 47 #[pointer (some ⟨rt,0,none⟩),agg #[int i64 s,int i64 f]] w fun e w'=>e=.returned (int i64 (Qw P s f))∧zc [] w w':=by
 have KA:=zc.alloc [] w (.cells #[int i64 s,int i64 f] 91);have hn:=zh w (.cells #[int i64 s,int i64 f] 91);have HT:=hid (h.quiet KA);have HP:=hid (PrC.stays _ _ _ _ _ KA hp);have HS:=hid hs;have HW:=hid W;have H0:Box (zi0 P s f 0):=hid fun i x _ hi=>by omega
 have HEND:=hid fun h=>zeV (P:=P) (s:=s) (f:=f) h;have HHIT:=hid fun x hx h0 h1=>zh0 (P:=P) (f:=f) (x:=x) hx h0 h1;have hn150:=hs.st;obtain ⟨n,hn9⟩:∃ n,n=(qG P).length:=⟨_,rfl⟩;have HNS:=hid hn9;rw[← hn9] at hn150;have HQ:=hid hn;have HKA:=hid KA;clear h hp W hs hn9 hn KA;go_enter Tryz.func47,Tryz.ntmps47;go_upto_region 1 with fail;generalize w.alloc (.cells #[int i64 s,int i64 f] 91)=w1 at *;generalize w.heap.size=q at *;go_wp2_with fail
 go_loopw [5] (fun kv wr=>∃ j:Nat,j≤n∧kv=int i64 (j:Int)∧Box (zi0 P s f j)∧Box (zc [] w1 wr)) (fun kv _=>n - (intOf kv).toNat)
 case atStart=>exact ⟨0,by omega,rfl,H0,hid (zc.refl _ _)⟩
 case round=>
  obtain ⟨j,hj,rfl,HH,HK⟩:=hrel;clear H0;have HTr:=hid (HT.o.quiet HK.o);obtain ⟨a1,p1,g1,f1⟩:=HTr.o.c1;rw[← HNS.o] at g1;by_cases hlt:j<n
  ·have hltj:(j:Int)<(n:Int):=by omega
   obtain ⟨x,hx⟩:∃ x,(qG P)[j]? = some x:=⟨_,List.getElem?_eq_getElem (by rw[← HNS.o];exact hlt)⟩;obtain ⟨b1,rfl,y1⟩:=f1 j x hx;have hq:=ze HQ.o HK.o;have n0:=zd hq 0;have n1:=zd hq 1;have HX:=hid hx;have HNX:Box (¬ ((x.p:Int)=s∧0≤f∧f<(x.n:Int))→zi0 P s f (j+1)):=hid fun hno i z hz hi=>by
    by_cases e:i=j
    ·rw[e,HX.o] at hz
     rw[← Option.some.inj hz];exact hno
    ·exact HH.o i z hz (by omega)
   clear f1;by_cases hps:(x.p:Int)=s
   ·have hb1:((x.p:Int) == s)=true:=beq_iff_eq.2 hps
    have HPS:=hid hps;by_cases h0:0≤f
    ·obtain ⟨a2,p2,g2,f2⟩:=HTr.o.c2
     obtain ⟨b2,rfl,y2⟩:=f2 j x hx;have g0:=HTr.o.c0;have hok:=Jx P _ x (List.mem_of_getElem? hx)
     have HMO:=zfZ HW.o (jQ.1 (show (ZT P x.p)∈pts P by
      unfold ZT;rw[List.getD_eq_getElem?_getD,List.getElem?_eq_getElem hok.lt]
      exact List.getElem_mem _)) hok.is
     have hr0:0≤x.r∧x.r<(P.recs.length:Int):=by
      rw[hok.r];exact ⟨HMO.r0,HMO.r1⟩
     obtain ⟨d,hd⟩:∃ d:Nat,x.r=(d:Int):=⟨x.r.toNat,by omega⟩;have hdl:d<P.recs.length:=by omega
     have hPr:=PrC.stays _ _ _ _ _ HK.o HP.o;obtain ⟨xa,xcp,x0,xr, -, -⟩:=hPr.c0;obtain ⟨xb,xo,rfl,xs⟩:=xr.at (zg (d:=[]) hdl);obtain ⟨ya,ycp,y0, -, -, -⟩:=xs;have e9:(P.recs.getD d []).length=x.n:=by rw[hok.n,hd];unfold zcx;rw[Int.toNat_natCast]
     rw[e9,Nat.mul_one] at y0;rw[hd] at y2;have hcb:x.c+x.n≤150204:=Nat.le_trans hok.c (HS.o.nodes (Nat.le_refl _));rw[← HNS.o] at g2;have hrn:(d:Int)<(P.recs.length:Int):=by omega
     have f0':¬ f<0:=by omega
     have HMEM:=hid (List.mem_of_getElem? hx);clear hx f2 hok HMO hr0 hd hPr xr e9 hps hdl;generalize P.recs.length=rn at *;by_cases h1:f<(x.n:Int)
     ·have HE:=hid (HHIT.o x HMEM.o h0 h1)
      rw[HPS.o] at HE;obtain ⟨a4,p4,g4,f4⟩:=HTr.o.c4;obtain ⟨b4,rfl,y4⟩:=f4 j x HX.o;rw[← HNS.o] at g4;clear f4 HNX HHIT HPS;generalize (x.p:Int)=xp at *;go_wp2_with fail;go_quiet (fail);go_wp2_with fail;go_quiet (fail);go_wp2_with fail;go_ret;exact ⟨by rw[HE.o];rfl,by first | exact (HKA.o.quiet HK.o).quiet (zc.drewN _ _ _) | exact ((HKA.o.quiet HK.o).quiet (zc.drewN _ _ _)).quiet (zc.drewN _ _ _)⟩
     ·have HN1:=hid (HNX.o fun q=>h1 q.2.2)
      clear HNX HHIT HPS;generalize (x.p:Int)=xp at *;go_wp2_with fail;go_quiet (fail);go_wp2_with fail;go_roundw
      case rel=>exact ⟨j+1,by omega,by go_num,HN1,hid (HK.o.quiet (zc.drewN _ _ _))⟩
      case measure=>simp[intOf];omega
    ·have HN1:=hid (HNX.o fun q=>h0 q.2.1)
     have hb0:decide (0≤f)=false:=decide_eq_false h0;clear HNX HHIT HPS hps hx;generalize (x.p:Int)=xp at *;go_wp2_with fail;go_quiet (fail);go_wp2_with fail;go_roundw
     case rel=>exact ⟨j+1,by omega,by go_num,HN1,hid (HK.o.quiet (zc.drewN _ _ _))⟩
     case measure=>simp[intOf];omega
   ·have hb1:((x.p:Int) == s)=false:=beq_eq_false_iff_ne.2 hps
    have HN1:=hid (HNX.o fun q=>hps q.1);clear HNX HHIT hps hx;generalize (x.p:Int)=xp at *;go_wp2_with fail;go_quiet (fail);go_wp2_with fail;go_roundw
    case rel=>exact ⟨j+1,by omega,by go_num,HN1,hid (HK.o.quiet (zc.drewN _ _ _))⟩
    case measure=>simp[intOf];omega
  ·obtain rfl:j=n:=by omega
   have hlt':¬ (j:Int)<(j:Int):=by omega
   have HE:=hid (HEND.o (by rw[← HNS.o];exact HH.o));go_wp2_with fail;go_ret;exact ⟨by rw[HE.o];rfl,HKA.o.quiet HK.o⟩
end Go.Proofs.YthflgjkmbakedaaGreatDoor
