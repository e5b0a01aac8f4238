import Derived.Test.YtgmbkiagdhjpnaaGreatDoorUA1
import Derived.Test.YtgmbkiagdhjpnaaGreatDoorU20

namespace Go.Proofs.YtgmbkiagdhjpnaaGreatDoor
open Go.RowKit
open Go.Value (int pointer agg)
open Go.IntKind (i64)
set_option maxRecDepth 20000
set_option maxHeartbeats 8000000
variable {M fb fo n pb po:Nat}{P:Pr8}{ev:Operand→Value}{f:Fu8}{ks:List (Int × Int)}{l:Array Bool}{oi:Oper}{w:World}
def zah(P:Pr8)(f:Fu8)(y:Bl8):Bool:=
 if y.fin=2 then (zj f y.reg).1 == 0
 else if y.fin=3 then (match jB P f.sig with
  | none=>false
  | some s=>inB y.reg f.regs.length && tyE (f.regs.getD y.reg.toNat (0,0)) s.2) else true
theorem zgG{bb bo:Nat}{y:Bl8}(h:PrC w pb po P)(hf:FuC w fb fo f)(hb:BlC w bb bo y):Calls Tryz.prog 175 #[pointer (some ⟨pb,po,none⟩),pointer (some ⟨fb,fo,none⟩),pointer (some ⟨bb,bo,none⟩)] w fun e w'=>e=.returned (.bool (zah P f y))∧za [] w w':=by
 have b1:=hb.c1.1;have b2:=hb.c2.1;by_cases f2:y.fin=2
 ·have HE:Box (zah P f y=((zj f y.reg).1 == 0)):=hid (by unfold zah;rw[if_pos f2])
  have HRT:=hid (zo hf y.reg);rw[f2] at b1;clear h hf hb f2;generalize zj f y.reg=T at *;unfold tyV at HRT;have hfl:∀ (w:World),(Instr.field 60 (agg #[int i64 T.1,int i64 T.2]) 0).run Tryz.prog w=.ok (int i64 T.1) w:=fun w=>by kernel_rfl
  go_enter Tryz.func175,Tryz.ntmps175;go_wp2_with fail;refine HRT.o.mono ?_;rintro e w1 ⟨rfl,k1⟩;have K1:=hid k1;clear k1;go_wp2_with fail;go_ret;exact ⟨by rw[HE.o];rfl,K1.o⟩
 by_cases f3:y.fin=3
 case neg=>
  have HE:Box (zah P f y=true):=hid (by unfold zah;rw[if_neg f2,if_neg f3]);have o2:=neb f2;have o3:=neb f3;clear h hf hb f2 f3;go_enter Tryz.func175,Tryz.ntmps175;go_wp2_with fail;go_ret;exact ⟨by rw[HE.o];rfl,za.refl _ _⟩
 have HE:Box (zah P f y=match jB P f.sig with
  | none=>false
  | some s=>inB y.reg f.regs.length && tyE (f.regs.getD y.reg.toNat (0,0)) s.2):=hid (by unfold zah;rw[if_neg f2,if_pos f3])
 have HSG:=hid (ZX h (za.refl [] w) f.sig);obtain ⟨ra,rp,c1,rr,_,_⟩:=hf.c1;have c0:=hf.c0.1;have HRR:=hid rr;have C1:Box (∀ w',za [] w w'→w'.cell? ⟨fb,fo+1,none⟩=some (.slice ra f.regs.length rp)∧w'.cell? ⟨bb,bo+2,none⟩=some (int i64 y.reg)):=hid (by have b:=b2;exact fun w' k=>⟨zb k c1,zb k b⟩);have HW:=hid fun (w':World)=>zp y.reg f.regs.length w';rw[f3] at b1;clear h hf hb rr f2 f3 c1;generalize jB P f.sig=O at *;go_enter Tryz.func175,Tryz.ntmps175;go_wp2_with fail;refine HSG.o.mono ?_;intro e w1 h1;obtain ⟨k1,sa,sp,n,t1,t2,rfl,hs⟩:=h1.open;have hbx:=ze w1 (.cells #[.slice sa n sp,int i64 t1,int i64 t2] 75);have K1:=hid (k1.quiet (za.alloc [] w1 (.cells #[.slice sa n sp,int i64 t1,int i64 t2] 75)));have HB:=hid hbx;have HS:=hid hs;clear h1 k1 hbx hs c0 b1 b2;go_upto_region 6 with fail;generalize w1.alloc (.cells #[.slice sa n sp,int i64 t1,int i64 t2] 75)=w2 at *;generalize w1.heap.size=q at *;obtain ⟨c1,c2⟩:=C1.o _ K1.o;have s1:=zc HB.o 1;have s2:=zc HB.o 2;cases O with
 | none=>
  have HF:Box (zah P f y=false):=hid HE.o;clear HE HS;simp only[Option.isSome_none];go_quiet (fail);go_wp2_with fail;go_ret;exact ⟨by rw[HF.o];rfl,K1.o.quiet (za.drewN _ _ _)⟩
 | some s=>
  obtain ⟨_,e1,e2,_⟩:=HS.o s rfl;have HF:Box (zah P f y=(inB y.reg f.regs.length && tyE (f.regs.getD y.reg.toNat (0,0)) (t1,t2))):=hid (by rw[HE.o,e1,e2]);clear HE HS e1 e2;simp only[Option.isSome_some];cases hin:inB y.reg f.regs.length with
  | false=>
   rw[hin] at HW;have HG:Box (zah P f y=false):=hid (by rw[HF.o,hin];rfl);clear hin HF;generalize f.regs.length=R at *;go_quiet ((go_at_call 113;exact Calls.quiet_of_same (HW.o _)));go_wp2_with fail;go_ret;exact ⟨by rw[HG.o];rfl,K1.o.quiet (za.drewN _ _ _)⟩
  | true=>
   rw[hin] at HW;obtain ⟨g0,g1⟩:=zm.1 hin;obtain ⟨m,hm⟩:∃ m:Nat,y.reg=(m:Int):=⟨y.reg.toNat,by omega⟩;have HG:Box (zah P f y=tyE (f.regs.getD m (0,0)) (t1,t2)):=hid (by rw[HF.o,hin,hm];rfl);obtain ⟨b',off',rfl,hc'⟩:=HRR.o.at (zi (l:=f.regs) (k:=m) (d:=(0,0)) (by omega));have d0:=zb K1.o hc'.c0.1;have d1:=zb K1.o hc'.c1.1;rw[hm] at HW c2 g1;clear hin HF g0 hm hc';generalize f.regs.getD m (0,0)=T at *;generalize f.regs.length=R at *;have re:=fun w'=>jS T.1 T.2 t1 t2 w';go_quiet ((go_at_call 113;exact Calls.quiet_of_same (HW.o _)));go_wp2_with fail;go_ret;exact ⟨by rw[HG.o];rfl,K1.o.quiet (za.drewN _ _ _)⟩
def ptT(P:Pr8)(g:Fu8→In8→Bool)(q:Nat × Nat × Nat):Bool:=
 if q.2.2<(zA (zf P q.1) q.2.1).code.length then g (zf P q.1) (jI (zA (zf P q.1) q.2.1) q.2.2) else zah P (zf P q.1) (zA (zf P q.1) q.2.1)
def zjs(w:World)(pb po:Nat)(P:Pr8)(g:Fu8→In8→Bool):Prop:=
 ∀ (w':World) (f b i:Nat) (a:Option Addr) (cp:Nat),za [] w w'→f<P.funcs.length→b<(zf P f).blocks.length→i<(zA (zf P f) b).code.length→zv w' a (jI (zA (zf P f) b) i).args→
  Calls Tryz.prog 174 #[pointer (some ⟨pb,po,none⟩),int i64 (f:Int),zu (jI (zA (zf P f) b) i) (.slice a (jI (zA (zf P f) b) i).args.length cp)] w' fun e w2=>e=.returned (.bool (g (zf P f) (jI (zA (zf P f) b) i)))∧za [] w' w2
theorem zjl(h:PrC w pb po P){g:Fu8→In8→Bool}(hg:zjs w pb po P g){f b i:Nat}(hq:ZM P f b i):Calls Tryz.prog 119 #[pointer (some ⟨pb,po,none⟩),agg #[int i64 (f:Int),int i64 (b:Int),int i64 (i:Int)]] w fun e w'=>e=.returned (.bool (ptT P g (f,b,i)))∧za [] w w':=by
 obtain ⟨h1,h2,h3⟩:=hq;have ka:=za.alloc [] w (.cells #[int i64 (f:Int),int i64 (b:Int),int i64 (i:Int)] 46);have hn:=ze w (.cells #[int i64 (f:Int),int i64 (b:Int),int i64 (i:Int)] 46);obtain ⟨fa,fp,c4,r4,_⟩:=h.c4;obtain ⟨fb,fo,rfl,hfu0⟩:=r4.at (zi (d:=⟨0,[],[]⟩) h1);have hfu:FuC w fb (fo+f * 3) (zf P f):=hfu0;obtain ⟨ba,bp,e2,rb,_⟩:=hfu.c2;obtain ⟨bb,bo,rfl,hbl0⟩:=rb.at (zi (d:=⟨[],0,0,0,0⟩) h2);have hbl:BlC w bb (bo+b * 5) (zA (zf P f) b):=hbl0;obtain ⟨ca,cp,e3,rc,_⟩:=hbl.c0;have HEN:=hid fun (w':World) (k:za [] w w')=>zgG (PrC.stays _ _ _ _ _ k h) (FuC.stays _ _ _ _ _ k hfu) (BlC.stays _ _ _ _ _ k hbl);have HFT:=hid hg;have HC:=hid rc;have C:Box (∀ w',za [] w w'→w'.cell? ⟨pb,po+4,none⟩=some (.slice (some ⟨fb,fo,none⟩) P.funcs.length fp)∧w'.cell? ⟨fb,fo+f * 3+2,none⟩=some (.slice (some ⟨bb,bo,none⟩) (zf P f).blocks.length bp)∧w'.cell? ⟨bb,bo+b * 5,none⟩=some (.slice ca (zA (zf P f) b).code.length cp)):=hid fun w' k=>⟨zb k c4,zb k e2,zb k e3⟩;obtain ⟨c4',e2',e3'⟩:=C.o _ ka;have q0:=zc hn 0;have q1:=zc hn 1;have q2:=zc hn 2;have KA:=hid ka;have HN:=hid hn;have h1':(f:Int)<(P.funcs.length:Int):=by omega
 have h2':(b:Int)<((zf P f).blocks.length:Int):=by omega
 have HH:=hid (And.intro h1 (And.intro h2 h3));have HE:Box (ptT P g (f,b,i)=if i<(zA (zf P f) b).code.length then g (zf P f) (jI (zA (zf P f) b) i) else zah P (zf P f) (zA (zf P f) b)):=hid rfl;obtain ⟨N,hN⟩:∃ N,N=(zA (zf P f) b).code.length:=⟨_,rfl⟩;have HNN:=hid hN;rw[← hN] at C e3' HE;clear h hfu0 hfu hbl0 hbl c4 e2 e3 rb rc r4 hg ka hn h1 h2 h3 hN;generalize hFN:P.funcs.length=FN at *;generalize hBN:(zf P f).blocks.length=BN at *;have HFN:=hid hFN;have HBN:=hid hBN;clear hFN hBN;go_enter Tryz.func119,Tryz.ntmps119;go_upto_region 1 with fail;generalize w.alloc (.cells #[int i64 (f:Int),int i64 (b:Int),int i64 (i:Int)] 46)=WA at *;generalize w.heap.size=q at *;go_quiet (fail);go_upto_region 2 with fail;go_quiet (fail);go_upto_region 3 with fail;by_cases hi:i<N
 ·have hi':(i:Int)<(N:Int):=by omega
  have HF:Box (ptT P g (f,b,i)=g (zf P f) (jI (zA (zf P f) b) i)):=hid (by rw[HE.o,if_pos hi]);have hif:i<(zA (zf P f) b).code.length:=by rw[← HNN.o];exact hi
  obtain ⟨ib,io,rfl,hin⟩:=HC.o.at (show (zA (zf P f) b).code[i]? = some (jI (zA (zf P f) b) i) from zi hif);obtain ⟨ga,gp,e5,q5⟩:=SlC.val hin.c5;have HZ:=hid (q8 q5.slice.2.1);have HIF:=hid hif;have F0:=zb KA.o hin.c0.1;have F1:=zb KA.o hin.c1.1;have F2:=zb KA.o hin.c2.1;have F3:=zb KA.o hin.c3.1;have F4:=zb KA.o hin.c4.1;have F5:=zb KA.o e5;clear hin e5 q5 hif;have HX:=hid fun (w':World) (k:za [] w w')=>HFT.o w' f b i ga gp k (by rw[HFN.o];omega) (by rw[HBN.o];omega) HIF.o (HZ.o.kept k (fun _ _ _=>by simp));unfold zu at HX;generalize g (zf P f) (jI (zA (zf P f) b) i)=rr at *;generalize jI (zA (zf P f) b) i=x at *;clear HFT HEN HE HC HNN HFN HBN HIF HZ hi;go_quiet (fail);go_upto_region 4 with fail
  go_region_held3 (fun w'=>w'.cell? ⟨q,0,none⟩=some (int i64 (f:Int))∧w'.cell? ⟨q,2,none⟩=some (int i64 (i:Int))∧w'.cell? ⟨bb,bo+b * 5,none⟩=some (.slice (some ⟨ib,io,none⟩) N cp)∧w'.cell? ⟨ib,io+i * 6,none⟩=some (int i64 x.op)∧w'.cell? ⟨ib,io+i * 6+1,none⟩=some (int i64 x.dst)∧w'.cell? ⟨ib,io+i * 6+2,none⟩=some (int i64 x.a)∧w'.cell? ⟨ib,io+i * 6+3,none⟩=some (int i64 x.b)∧w'.cell? ⟨ib,io+i * 6+4,none⟩=some (int i64 x.n)∧w'.cell? ⟨ib,io+i * 6+5,none⟩=some (.slice ga x.args.length gp)) (go_keep) (first
   | (go_at_call 174;refine Calls.mono (HX.o _ ?_) ?_;exact ⟨KA.o.os,KA.o.tape,KA.o.output,KA.o.size,KA.o.block⟩;rintro e w5 ⟨rfl,k5⟩;have K5:za [] WA w5:=⟨k5.os,k5.tape,k5.output,k5.size,k5.block⟩;have f0:=zb K5 q0;have f2:=zb K5 q2;have f3:=zb K5 e3';have g0:=zb K5 F0;have g1:=zb K5 F1;have g2:=zb K5 F2;have g3:=zb K5 F3;have g4:=zb K5 F4;have g5:=zb K5 F5;have HK5:=hid K5;clear k5))
  go_wp2_with fail;go_ret;exact ⟨by rw[HF.o];rfl,KA.o.quiet HK5.o⟩
 ·have hi':¬ (i:Int)<(N:Int):=by omega
  have HF:Box (ptT P g (f,b,i)=zah P (zf P f) (zA (zf P f) b)):=hid (by rw[HE.o,if_neg hi]);generalize zah P (zf P f) (zA (zf P f) b)=rr at *;go_quiet (fail);go_wp2_with fail;refine (HEN.o _ ?_).mono ?_
  ·exact KA.o.quiet (by first | exact za.drewN _ _ _)
  rintro e w1 ⟨rfl,k1⟩;have K1:=hid k1;clear k1;go_wp2_with fail;go_ret;exact ⟨by rw[HF.o];rfl,(KA.o.quiet (za.drewN _ _ _)).quiet K1.o⟩
def zag(P:Pr8)(g:Fu8→In8→Bool):Option (Int × Int × Int):=
 if (List.range P.funcs.length).all (fun f=>Q8 P (zf P f)) then (match (pts P).find? (fun q=> !ptT P g q) with
  | some q=>some (ptI q)
  | none=>if ZG P then none else some (-1,0,0)) else some (-1,0,0)
theorem zj2{g:Fu8→In8→Bool}{k:Nat}(hk:k<P.funcs.length)(h:Q8 P (zf P k)=false):zag P g=some (-1,0,0):=by
 unfold zag;have:(List.range P.funcs.length).all (fun f=>Q8 P (zf P f))=false:=List.all_eq_false.2 ⟨k,List.mem_range.2 hk,by rw[h];simp⟩;rw[this];rfl
theorem zl8{g:Fu8→In8→Bool}(hp:∀ k,k<P.funcs.length→Q8 P (zf P k)=true){q:Nat × Nat × Nat}(hq:(pts P)[n]? = some q)(hl:∀ j x,j<n→(pts P)[j]? = some x→ptT P g x=true)(h:ptT P g q=false):zag P g=some (ptI q):=by
 unfold zag;rw[if_pos (List.all_eq_true.2 fun k hk=>hp k (List.mem_range.1 hk))];have hn:=(List.getElem?_eq_some_iff.1 hq).1;have e:pts P=(pts P).take n ++ q :: (pts P).drop (n+1):=by
  have h2:=List.take_append_drop n (pts P);rw[List.drop_eq_getElem_cons hn,(List.getElem?_eq_some_iff.1 hq).2] at h2;exact h2.symm
 rw[e,Jw (l:=(pts P).take n) (fun x hx=> ?_) (by rw[h];rfl)];obtain ⟨j,hj⟩:=List.getElem?_of_mem hx;rw[List.getElem?_take] at hj;split at hj
 ·rename_i hjn
  rw[hl j x hjn hj];rfl
 ·cases hj
theorem zjm{g:Fu8→In8→Bool}(hp:∀ k,k<P.funcs.length→Q8 P (zf P k)=true)(hl:∀ (j:Nat) (x:Nat × Nat × Nat),(pts P)[j]? = some x→ptT P g x=true):zag P g=if ZG P then none else some (-1,0,0):=by
 unfold zag;rw[if_pos (List.all_eq_true.2 fun k hk=>hp k (List.mem_range.1 hk)),za5 (fun x hx=> ?_)];obtain ⟨j,hj⟩:=List.getElem?_of_mem hx;rw[hl j x hj];rfl
theorem zc4(h:PrC w pb po P)(hs:zd2 P){g:Fu8→In8→Bool}(hg:zjs w pb po P g):Calls Tryz.prog 73 #[pointer (some ⟨pb,po,none⟩)] w (jD (zag P g) 4 w):=by
 obtain ⟨fa,fp,c4,r4,_⟩:=h.c4;have HP:=hid h;have HR:=hid r4;have HPT:=hid fun (w':World) (k:za [] w w')=>ZN (PrC.stays _ _ _ _ _ k h) hs;have HG:Box (∀ w',za [] w w'→zjs w' pb po P g):=hid fun w' k w2 f b i a cp k2=>hg w2 f b i a cp (k.quiet k2);have HM:=hid fun (w':World) (k:za [] w w')=>zgN (PrC.stays _ _ _ _ _ k h);have HRF:=hid fun (w':World)=>qQ 4 w';have HRA:=hid fun (f b i:Int) (w':World)=>jA 4 f b i w';have C4:Box (∀ w',za [] w w'→w'.cell? ⟨pb,po+4,none⟩=some (.slice fa P.funcs.length fp)):=hid fun w' k=>zb k c4;have B1:=hid fun (k:Nat) (hk:k<P.funcs.length) (h:Q8 P (zf P k)=false)=>zj2 (g:=g) hk h;have B2:=hid fun (hp:∀ k,k<P.funcs.length→Q8 P (zf P k)=true) (n:Nat) (q:Nat × Nat × Nat) (hq:(pts P)[n]? = some q) (hl:∀ j x,j<n→(pts P)[j]? = some x→ptT P g x=true) (h:ptT P g q=false)=>zl8 (g:=g) hp hq hl h;have B3:=hid fun (hp:∀ k,k<P.funcs.length→Q8 P (zf P k)=true) (hl:∀ (j:Nat) (x:Nat × Nat × Nat),(pts P)[j]? = some x→ptT P g x=true)=>zjm (g:=g) hp hl;have hf12:=hs.fn;have hp45:=hs.pts;obtain ⟨N,hN⟩:∃ N,N=P.funcs.length:=⟨_,rfl⟩;obtain ⟨M,hM⟩:∃ M,M=(pts P).length:=⟨_,rfl⟩;have HN:=hid hN;have HMM:=hid hM;rw[← hN] at C4 c4 hf12;rw[← hM] at HPT hp45;have hf9:(N:Int)≤12:=by omega
 have hp9:(M:Int)≤4500:=by omega
 clear h r4 hs hg hN hM;go_enter Tryz.func73,Tryz.ntmps73;go_wp2_with fail;clear c4
 go_loopw [14] (fun kv wr=>∃ k:Nat,k≤N∧kv=int i64 (k:Int)∧Box (za [] w wr)∧Box (∀ j,j<k→Q8 P (zf P j)=true)) (fun kv _=>N - (intOf kv).toNat)
 case atStart=>exact ⟨0,by omega,rfl,hid (za.refl _ _),hid fun j hj=>by omega⟩
 case round=>
  obtain ⟨k,hk,rfl,HK,HA⟩:=hrel;by_cases hlt:k<N
  ·have hlt':(k:Int)<(N:Int):=by omega
   have hkf:k<P.funcs.length:=by rw[← HN.o];exact hlt
   obtain ⟨fb,fo,rfl,hfu0⟩:=HR.o.at (zi (d:=⟨0,[],[]⟩) hkf);have hfu:FuC w fb (fo+k * 3) (zf P k):=hfu0;have HC:=hid (ziL (PrC.stays _ _ _ _ _ HK.o HP.o) (FuC.stays _ _ _ _ _ HK.o hfu));have c4:=C4.o _ HK.o;have HB1:=hid (B1.o k hkf);clear hfu0 hfu hkf;cases hg:Q8 P (zf P k) with
   | true=>
    rw[hg] at HC;have HA2:Box (∀ j,j<k+1→Q8 P (zf P j)=true):=hid fun j hj=>by
     by_cases e:j<k
     ·exact HA.o j e
     ·obtain rfl:j=k:=by omega
      exact hg
    clear hg;go_wp2_with fail;refine HC.o.mono ?_;rintro e w2 ⟨rfl,k2⟩;have K2:=hid (HK.o.quiet k2);clear k2;go_wp2_with fail;go_roundw
    case rel=>exact ⟨k+1,by omega,by go_num,K2,HA2⟩
    case measure=>simp[intOf];omega
   | false=>
    rw[hg] at HC;have HQ:=hid (HB1.o hg);clear hg;go_wp2_with fail;refine HC.o.mono ?_;rintro e w2 ⟨rfl,k2⟩;have K2:=hid (HK.o.quiet k2);clear k2;go_wp2_with fail;refine (HRF.o _).mono ?_;rintro e w3 ⟨p,rfl,h1,h2⟩;go_wp2_with fail;go_ret;exact jD.no HQ.o ⟨p,rfl,h1,K2.o.quiet h2⟩
  ·obtain rfl:N=k:=by omega
   have HALL:Box (∀ k,k<P.funcs.length→Q8 P (zf P k)=true):=hid fun j hj=>HA.o j (by rw[HN.o];exact hj);clear HA;go_wp2_with fail;refine (HPT.o _ HK.o).mono ?_;rintro e w2 ⟨la,lp,rfl,hr,k2⟩;have HRW:=hid hr;have K2:=hid (HK.o.quiet k2);clear hr k2;go_wp2_with fail
   go_loopw [31] (fun kv wr=>∃ k:Nat,k≤M∧kv=int i64 (k:Int)∧Box (za [] w2 wr)∧Box (∀ j x,j<k→(pts P)[j]? = some x→ptT P g x=true)) (fun kv _=>M - (intOf kv).toNat)
   case atStart=>exact ⟨0,by omega,rfl,hid (za.refl _ _),hid fun j x hj=>by omega⟩
   case round=>
    obtain ⟨k,hk,rfl,HK,HA⟩:=hrel;by_cases hlt:k<M
    ·have hlt':(k:Int)<(M:Int):=by omega
     obtain ⟨f,b,i,hpt,hq⟩:=zch (p:=P) (n:=k) (by rw[← HMM.o];exact hlt);obtain ⟨lb,lo,rfl,hc⟩:=HRW.o.at hq;have d0:=zb HK.o hc.c0;have d1:=zb HK.o hc.c1;have d2:=zb HK.o hc.c2;have KA:=hid (HK.o.quiet (za.alloc [] wr (.cells #[int i64 (f:Int),int i64 (b:Int),int i64 (i:Int)] 46)));have hn:=ze wr (.cells #[int i64 (f:Int),int i64 (b:Int),int i64 (i:Int)] 46);have HC:=hid (zjl (PrC.stays _ _ _ _ _ (K2.o.quiet KA.o) HP.o) (HG.o _ (K2.o.quiet KA.o)) hpt);have HQQ:=hid hq;have HNW:=hid hn;have HB2:=hid (B2.o HALL.o k (f,b,i) hq HA.o);clear hc hq hpt hn;cases hg:ptT P g (f,b,i) with
     | true=>
      rw[hg] at HC;have HA2:Box (∀ j x,j<k+1→(pts P)[j]? = some x→ptT P g x=true):=hid fun j x hj hx=>by
       by_cases e:j<k
       ·exact HA.o j x e hx
       ·obtain rfl:j=k:=by omega
        rw[HQQ.o] at hx;cases hx;exact hg
      clear hg;go_wp2_with fail;refine HC.o.mono ?_;rintro e w4 ⟨rfl,k4⟩;have K4:=hid (KA.o.quiet k4);clear k4;go_wp2_with fail;go_roundw
      case rel=>exact ⟨k+1,by omega,by go_num,K4,HA2⟩
      case measure=>simp[intOf];omega
     | false=>
      rw[hg] at HC;have HQ:=hid (HB2.o hg);clear hg;go_wp2_with fail;refine HC.o.mono ?_;rintro e w4 ⟨rfl,k4⟩;have K4:=hid (K2.o.quiet (KA.o.quiet k4));have h4:=zd HNW.o k4;have s0:=zc h4 0;have s1:=zc h4 1;have s2:=zc h4 2;clear k4 h4;go_wp2_with fail;refine (HRA.o _ _ _ _).mono ?_;rintro e w5 ⟨p,rfl,h1,h2⟩;go_wp2_with fail;go_ret;exact jD.no HQ.o ⟨p,rfl,h1,K4.o.quiet h2⟩
    ·obtain rfl:M=k:=by omega
     have HE:=hid (B3.o HALL.o (fun j x hx=>HA.o j x (by rw[HMM.o];exact (List.getElem?_eq_some_iff.1 hx).1) hx));have HC:=hid (HM.o wr (K2.o.quiet HK.o));cases hm:ZG P with
     | true=>
      rw[hm] at HE HC;have HQ:Box (zag P g=none):=hid (by rw[HE.o];rfl);clear hm;go_wp2_with fail;refine HC.o.mono ?_;rintro e w4 ⟨rfl,k4⟩;have K4:=hid ((K2.o.quiet HK.o).quiet k4);clear k4;go_wp2_with fail;go_ret;exact jD.yes HQ.o ⟨rfl,K4.o⟩
     | false=>
      rw[hm] at HE HC;have HQ:Box (zag P g=some (-1,0,0)):=hid (by rw[HE.o];rfl);clear hm;go_wp2_with fail;refine HC.o.mono ?_;rintro e w4 ⟨rfl,k4⟩;have K4:=hid ((K2.o.quiet HK.o).quiet k4);clear k4;go_wp2_with fail;refine (HRF.o _).mono ?_;rintro e w5 ⟨p,rfl,h1,h2⟩;go_wp2_with fail;go_ret;exact jD.no HQ.o ⟨p,rfl,h1,K4.o.quiet h2⟩
theorem zfp(v u t s:Value)(w:World):(callFunc 172 #[v,u,t,s]).run Tryz.prog w=.ok (.enter 172 #[v,u,t,s]) w:=by go_simp
theorem zjU{k:Nat}{g:Nat→Bool}(hk:k<n)(h:g k=false):(List.range n).all g=false:=List.all_eq_false.2 ⟨k,List.mem_range.2 hk,by rw[h];simp⟩
theorem zjK{mb mo:Nat}{m:Int × Int × List Int}(h:PrC w pb po P)(hm:ImC w mb mo m):Calls Tryz.prog 116 #[pointer (some ⟨pb,po,none⟩),pointer (some ⟨mb,mo,none⟩)] w fun e w'=>e=.returned (.bool (Jc P m))∧za [] w w':=by
 obtain ⟨rec,ifc,fs⟩:=m;obtain ⟨ra,rp,c0,_⟩:=h.c0;obtain ⟨ia,ip,c2,ir,_⟩:=h.c2;have m0:=hm.c0.1;have m1:=hm.c1.1;obtain ⟨fa,fp,m2,fr,fl,fx⟩:=hm.c2;simp only at m0 m1 m2 fr fl fx;obtain ⟨res,hres⟩:∃ x,x=Jc P (rec,ifc,fs):=⟨_,rfl⟩;rw[← hres];unfold Jc at hres;simp only at hres;have HRES:=hid hres;have HP:=hid h;have HIR:=hid ir;have HFR:=hid fr;have HFX:=hid fx;clear h hm hres ir fr fl fx;obtain ⟨RN,hRN⟩:∃ x,x=P.recs.length:=⟨_,rfl⟩;obtain ⟨IN,hIN⟩:∃ x,x=P.ifs.length:=⟨_,rfl⟩;obtain ⟨N,hN⟩:∃ x,x=fs.length:=⟨_,rfl⟩;rw[← hRN] at c0 HRES;rw[← hIN] at c2 HRES;rw[← hN] at m2 HRES HFX;have HIN:=hid hIN;have HN:=hid hN;clear hRN hIN hN;go_enter Tryz.func116,Tryz.ntmps116;go_upto_region 1 with fail;cases hr:inB rec RN with
 | false=>
  have HR:Box (res=false):=hid (by rw[HRES.o,hr];rfl);refine zr (W0:=w) 77 [pointer (some ⟨mb,mo,none⟩),pointer (some ⟨mb,mo,none⟩),pointer (some ⟨mb,mo,none⟩),int i64 rec,pointer (some ⟨pb,po,none⟩),pointer (some ⟨pb,po,none⟩),pointer (some ⟨pb,po,none⟩),.slice ra RN rp,int i64 (RN:Int),.bool false,.bool true,.bool true,undef,undef,undef,undef,undef,undef,undef,undef,undef,undef,undef,.bool true] (by kernel_rfl) (by rfl) (by kernel_rfl) (za.refl _ _) (fun A hA=> ?_);simp only[zH,Act.put,sTA,sC0,sCS] at hA;subst hA;refine ⟨gR (gR (gR (gY (fun _ k9=>qo (zb k9 m0) rfl rfl) (gR (gR (gR (gY (fun _ k9=>J1 (zb k9 c0) rfl rfl) (gY (fun _ _=>QJ rfl rfl) (zn.cons (zG (by rfl) 171 #[int i64 rec,int i64 (RN:Int)] (fun w=>qD rfl rfl rfl rfl (zJ _ _ w)) (fun w9 _=>zK rec RN w9 hr)) (gY (fun _ _=>zby rfl rfl) (gR (gP (gP (gP (gP (gP (gP (gP (gP (gP (gP (gP (gR (zn.nil)))))))))))))))))))))))),fun w8 k8=> ?_⟩;go_wp2_with fail;go_ret;exact ⟨by rw[HR.o];rfl,k8⟩
 | true=>
 rw[hr,Bool.true_and] at HRES;cases hi:inB ifc IN with
 | false=>
  have HR:Box (res=false):=hid (by rw[HRES.o,hi];rfl);refine zr (W0:=w) 77 [pointer (some ⟨mb,mo,none⟩),pointer (some ⟨mb,mo,none⟩),pointer (some ⟨mb,mo,none⟩),int i64 rec,pointer (some ⟨pb,po,none⟩),pointer (some ⟨pb,po,none⟩),pointer (some ⟨pb,po,none⟩),.slice ra RN rp,int i64 (RN:Int),.bool true,.bool false,.bool false,pointer (some ⟨mb,mo,none⟩),pointer (some ⟨mb,mo,none⟩),pointer (some ⟨mb,mo+1,none⟩),int i64 ifc,pointer (some ⟨pb,po,none⟩),pointer (some ⟨pb,po,none⟩),pointer (some ⟨pb,po+2,none⟩),.slice ia IN ip,int i64 (IN:Int),.bool false,.bool true,.bool true] (by kernel_rfl) (by rfl) (by kernel_rfl) (za.refl _ _) (fun A hA=> ?_);simp only[zH,Act.put,sTA,sC0,sCS] at hA;subst hA;refine ⟨gR (gR (gR (gY (fun _ k9=>qo (zb k9 m0) rfl rfl) (gR (gR (gR (gY (fun _ k9=>J1 (zb k9 c0) rfl rfl) (gY (fun _ _=>QJ rfl rfl) (zn.cons (zG (by rfl) 171 #[int i64 rec,int i64 (RN:Int)] (fun w=>qD rfl rfl rfl rfl (zJ _ _ w)) (fun w9 _=>zK rec RN w9 hr)) (gY (fun _ _=>zby rfl rfl) (gR (gR (gR (gR (gY (fun _ k9=>qo (zb k9 m1) rfl rfl) (gR (gR (gR (gY (fun _ k9=>zbm (zb k9 c2) rfl rfl) (gY (fun _ _=>zbE rfl rfl) (zn.cons (zG (by rfl) 171 #[int i64 ifc,int i64 (IN:Int)] (fun w=>qD rfl rfl rfl rfl (zJ _ _ w)) (fun w9 _=>zK ifc IN w9 hi)) (gY (fun _ _=>zby rfl rfl) (gR (zn.nil)))))))))))))))))))))))),fun w8 k8=> ?_⟩;go_wp2_with fail;go_ret;exact ⟨by rw[HR.o];rfl,k8⟩
 | true=>
 rw[hi,Bool.true_and] at HRES;obtain ⟨i0,i1⟩:=zm.1 hi;obtain ⟨J,rfl⟩:∃ J:Nat,ifc=(J:Int):=⟨ifc.toNat,by omega⟩;have hlt_J:(J:Int)<(IN:Int):=i1;obtain ⟨ib,io,rfl,h1⟩:=HIR.o.at (zi (l:=P.ifs) (k:=J) (d:=[]) (by rw[← HIN.o];omega));obtain ⟨ga,gp,g0,gr,_⟩:=h1;have HGR:=hid gr;unfold if8 at HRES;rw[Int.toNat_natCast] at HRES;rw[Nat.mul_one] at g0;clear gr i0 HIR HIN;generalize P.ifs.getD J []=ms at *;obtain ⟨M,hM⟩:∃ x,x=ms.length:=⟨_,rfl⟩;rw[← hM] at g0 HRES;have HM:=hid hM;clear hM;refine zr (W0:=w) 77 [pointer (some ⟨mb,mo,none⟩),pointer (some ⟨mb,mo,none⟩),pointer (some ⟨mb,mo,none⟩),int i64 rec,pointer (some ⟨pb,po,none⟩),pointer (some ⟨pb,po,none⟩),pointer (some ⟨pb,po,none⟩),.slice ra RN rp,int i64 (RN:Int),.bool true,.bool false,.bool false,pointer (some ⟨mb,mo,none⟩),pointer (some ⟨mb,mo,none⟩),pointer (some ⟨mb,mo+1,none⟩),int i64 (J:Int),pointer (some ⟨pb,po,none⟩),pointer (some ⟨pb,po,none⟩),pointer (some ⟨pb,po+2,none⟩),.slice (some ⟨ib,io,none⟩) IN ip,int i64 (IN:Int),.bool true,.bool false,.bool false] (by kernel_rfl) (by rfl) (by kernel_rfl) (za.refl _ _) (fun A hA=> ?_);simp only[zH,Act.put,sTA,sC0,sCS] at hA;subst hA;refine ⟨gR (gR (gR (gY (fun _ k9=>qo (zb k9 m0) rfl rfl) (gR (gR (gR (gY (fun _ k9=>J1 (zb k9 c0) rfl rfl) (gY (fun _ _=>QJ rfl rfl) (zn.cons (zG (by rfl) 171 #[int i64 rec,int i64 (RN:Int)] (fun w=>qD rfl rfl rfl rfl (zJ _ _ w)) (fun w9 _=>zK rec RN w9 hr)) (gY (fun _ _=>zby rfl rfl) (gR (gR (gR (gR (gY (fun _ k9=>qo (zb k9 m1) rfl rfl) (gR (gR (gR (gY (fun _ k9=>zbm (zb k9 c2) rfl rfl) (gY (fun _ _=>zbE rfl rfl) (zn.cons (zG (by rfl) 171 #[int i64 (J:Int),int i64 (IN:Int)] (fun w=>qD rfl rfl rfl rfl (zJ _ _ w)) (fun w9 _=>zK (J:Int) IN w9 hi)) (gY (fun _ _=>zby rfl rfl) (gR (zn.nil)))))))))))))))))))))))),fun w3 k3=> ?_⟩;have K3:=hid k3;replace c2:=zb k3 c2;replace m0:=zb k3 m0;replace m1:=zb k3 m1;replace m2:=zb k3 m2;replace g0:=zb k3 g0;clear k3 c0;go_upto_region 3 with fail;refine zr (W0:=w3) 77 [pointer (some ⟨pb,po,none⟩),pointer (some ⟨pb,po,none⟩),pointer (some ⟨pb,po+2,none⟩),.slice (some ⟨ib,io,none⟩) IN ip,pointer (some ⟨mb,mo,none⟩),pointer (some ⟨mb,mo,none⟩),pointer (some ⟨mb,mo+1,none⟩),int i64 (J:Int),pointer (some ⟨ib,io+J,none⟩),pointer (some ⟨ib,io+J,none⟩),.slice ga M gp,.slice ga M gp] (by kernel_rfl) (by rfl) (by kernel_rfl) (za.refl _ _) (fun A hA=> ?_);simp only[zH,Act.put,sTA,sC0,sCS] at hA;subst hA;refine ⟨gR (gR (gR (gY (fun _ k9=>zbm (zb k9 c2) rfl rfl) (gR (gR (gR (gY (fun _ k9=>qo (zb k9 m1) rfl rfl) (gY (fun _ _=>ziy rfl rfl rfl hlt_J) (gR (gY (fun _ k9=>zg6 (zb k9 g0) rfl rfl) (gR (zn.nil)))))))))))),fun w4 k4=> ?_⟩;have K4:=hid (K3.o.quiet k4);replace m0:=zb k4 m0;replace m2:=zb k4 m2;clear k4 c2 m1 g0 K3 hr hi;by_cases hNM:N=M
 case neg=>
  have hd:((N:Int) != (M:Int))=true:=by rw[bne_iff_ne];omega
  have HR:Box (res=false):=hid (by
   rw[HRES.o,Bool.and_eq_false_iff];left;rw[decide_eq_false_iff_not]
   exact hNM)
  clear HRES hNM;go_wp2_with fail;go_ret;exact ⟨by rw[HR.o];rfl,K4.o⟩
 subst hNM;have HR2:Box (res=(List.range N).all fun k=>isM P rec (fs.getD k 0) (ms.getD k 0)):=hid (by rw[HRES.o];simp);have hd:((N:Int) != (N:Int))=false:=by simp
 clear HRES;go_upto_region 7 with fail;obtain ⟨W,hW⟩:∃ W,W=w4.alloc (.cells #[int i64 1,int i64 rec] 60):=⟨_,rfl⟩;have kb:za [] w4 W:=by rw[hW];exact za.alloc [] _ _
 have hq:W.heap[w4.heap.size]? = some (.cells #[int i64 1,int i64 rec] 60 (0,0)):=by rw[hW];exact ze _ _
 replace m0:=zb kb m0;replace m2:=zb kb m2;have KW:=hid (K4.o.quiet kb);rw[← hW];have HQ:=hid hq;clear hW kb hq K4 hd;generalize w4.heap.size=q at *;go_wp2_with fail;have HM2:=hid m2;clear m0 m2;have hfx:=HFX.o;unfold maxLen at hfx
 go_loopw [62] (fun kv wr=>∃ k:Nat,k≤N∧kv=int i64 (k:Int)∧Box (za [] W wr)∧Box (∀ j,j<k→isM P rec (fs.getD j 0) (ms.getD j 0)=true)) (fun kv _=>N - (intOf kv).toNat)
 case atStart=>exact ⟨0,by omega,rfl,hid (za.refl _ _),hid fun j hj=>by omega⟩
 case round=>
  obtain ⟨K,hk,rfl,HK,HJ⟩:=hrel;by_cases hlt:K<N
  ·have hlt':(K:Int)<(N:Int):=by omega
   have hlt_K:(K:Int)<(N:Int):=hlt';obtain ⟨fb,fo,rfl,t1⟩:=HFR.o.at (zi (l:=fs) (k:=K) (d:=0) (by rw[← HN.o];exact hlt));obtain ⟨gb,go',rfl,t2⟩:=HGR.o.at (zi (l:=ms) (k:=K) (d:=0) (by rw[← HM.o];exact hlt));have d0:=zb (KW.o.quiet HK.o) t1.1;have e0:=zb (KW.o.quiet HK.o) t2.1;rw[Nat.mul_one] at d0 e0;have hqr:=zd HQ.o HK.o;have q0:=zc hqr 0;have q1:=zc hqr 1;have HIS:=hid fun (w9:World) (k9:za [] wr w9)=>zi4 (PrC.stays _ _ _ _ _ (KW.o.quiet (HK.o.quiet k9)) HP.o) (fs.getD K 0) rec (ms.getD K 0);obtain ⟨b,hb⟩:∃ b,b=isM P rec (fs.getD K 0) (ms.getD K 0):=⟨_,rfl⟩;rw[← hb] at HIS;have HB:=hid hb;clear t1 t2 hqr hb;obtain ⟨fn,hfn⟩:∃ z,z=fs.getD K 0:=⟨_,rfl⟩;obtain ⟨sn,hsn⟩:∃ z,z=ms.getD K 0:=⟨_,rfl⟩;rw[← hfn] at d0 HIS;rw[← hsn] at e0 HIS;clear hfn hsn;go_upto_region 10 with fail;refine zr (W0:=wr) 77 [pointer (some ⟨pb,po,none⟩),int i64 fn,agg #[int i64 1,int i64 rec],.slice (some ⟨gb,go',none⟩) N gp,int i64 (K:Int),pointer (some ⟨gb,go'+K,none⟩),int i64 sn,.bool b,.bool (!b)] (by kernel_rfl) (by rfl) (by kernel_rfl) (za.refl _ _) (fun A hA=> ?_);simp only[zH,Act.put,sTA,sC0,sCS] at hA;subst hA;refine ⟨gR (gR (gY (fun _ k9=>jq (zb k9 q0) (zb k9 q1) rfl rfl) (gR (gR (gY (fun _ _=>zhA rfl rfl rfl hlt_K) (gY (fun _ k9=>qo (zb k9 e0) rfl rfl) (zn.cons (zG (by rfl) 172 #[pointer (some ⟨pb,po,none⟩),int i64 fn,agg #[int i64 1,int i64 rec],int i64 sn] (fun w=>zl6 rfl rfl rfl rfl rfl rfl (zfp _ _ _ _ w)) (fun w9 k9=>HIS.o w9 k9)) (gY (fun _ _=>zby rfl rfl) (zn.nil))))))))),fun w8 k8=> ?_⟩;cases b with
   | true=>
    go_wp2_with fail;go_roundw
    case rel=>
     refine ⟨K+1,by omega,by go_num,hid (HK.o.quiet k8),hid fun j hj=> ?_⟩;by_cases hjk:j=K
     ·subst hjk
      exact HB.o.symm
     ·exact HJ.o j (by omega)
    case measure=>simp[intOf];omega
   | false=>
    go_wp2_with fail;go_ret;exact ⟨by rw[HR2.o,zjU hlt HB.o.symm];rfl,KW.o.quiet (HK.o.quiet k8)⟩
  ·obtain rfl:K=N:=by omega
   go_wp2_with fail;go_ret;refine ⟨?_,KW.o.quiet HK.o⟩;rw[HR2.o,List.all_eq_true.2 fun j hj=>HJ.o j (List.mem_range.1 hj)];rfl
theorem zaR(w:World):Calls Tryz.prog 115 #[] w (jM 7 (-1) 0 0 w):=by
 have H:=hid fun (w':World)=>zfr 7 (-1) 0 0 w';go_enter Tryz.func115,Tryz.ntmps115;go_wp2_with fail;refine (H.o _).mono ?_;rintro e w1 ⟨p,rfl,h1,h2⟩;go_wp2_with fail;go_ret;exact ⟨p,rfl,h1,h2⟩
structure Met (ks l:List (Int × Int)):Prop where
 mem:∀ x,x∈ks ↔ x∈l
 len:ks.length≤l.length
 eq:ks.length=l.length ↔ l.Nodup
theorem Met.nil:Met [] []:=⟨fun _=>Iff.rfl,Nat.le_refl _,by simp⟩
theorem Met.put{l:List (Int × Int)}(h:Met ks l)(q:Int × Int):Met (if q∈ks then ks else ks ++ [q]) (l ++ [q]):=by
 by_cases hq:q∈ks
 ·rw[if_pos hq]
  refine ⟨fun x=> ?_,by rw[List.length_append];have:=h.len;omega,?_⟩
  ·rw[List.mem_append,List.mem_singleton,h.mem]
   exact ⟨fun hx=>.inl hx,fun hx=>hx.elim id fun e=>e ▸ (h.mem q).1 hq⟩
  ·refine ⟨fun e=> ?_,fun hn=> ?_⟩
   ·exfalso
    have:=h.len;simp at e;omega
   ·exfalso
    rw[List.nodup_append] at hn;exact hn.2.2 q ((h.mem q).1 hq) q (by simp) rfl
 ·rw[if_neg hq]
  have hl:q ∉ l:=fun hx=>hq ((h.mem q).2 hx);refine ⟨fun x=>by simp[h.mem],by rw[List.length_append,List.length_append];have:=h.len;simp only[List.length_singleton];omega,?_⟩;rw[List.length_append,List.length_append,List.nodup_append];refine ⟨fun e=>⟨h.eq.1 (by simpa using e),by simp,fun a ha b hb=> ?_⟩,fun hn=>by rw[h.eq.2 hn.1]⟩;rw[List.mem_singleton] at hb;exact fun e=>hl (hb ▸ e ▸ ha)
def kE(M:Nat)(ks:List (Int × Int))(q:Int × Int)(l:Array Bool)(w:World):Prop:=jF w M (bif l.getD 13 false then (if q∈ks then ks else ks ++ [q]) else ks)
theorem kE.keep{q:Int × Int}{i:Nat}(h:kE M ks q l w)(hi:i≠13):kE M ks q (l.setIfInBounds i true) w:=by
 unfold kE;rw[jP hi];exact h
theorem kE.put{q:Int × Int}(h:kE M ks q l w)(hi:13<l.size):∃ w',(Instr.mapUpdate 235 (.map (some M)) (kkV q) (agg #[])).run Tryz.prog w=.ok () w'∧kE M ks q (l.setIfInBounds 13 true) w'∧za [M] w w':=by
 obtain ⟨w',h1,h2,h3⟩:=jF.put h q;refine ⟨w',h1,?_,h3⟩;unfold kE;rw[jK hi];cases hb:l.getD 13 false with
 | false=>
  rw[hb] at h2;exact h2
 | true=>
  rw[hb] at h2;have hm:q∈(if q∈ks then ks else ks ++ [q]):=by
   by_cases hq:q∈ks
   ·rw[if_pos hq];exact hq
   ·rw[if_neg hq];simp
  simp only[cond_true] at h2 ⊢
  rwa [if_pos hm] at h2
theorem kE.all{q:Int × Int}(h:kE M ks q l w)(hl:l.getD 13 false=true):jF w M (if q∈ks then ks else ks ++ [q]):=by
 unfold kE at h;rw[hl] at h;exact h
theorem kE.start{q:Int × Int}(h:jF w M ks):kE M ks q (Array.replicate n false) w:=by
 unfold kE;have:(Array.replicate n false).getD 13 false=false:=by
  by_cases hn:13<n
  ·simp[Array.getD,hn]
  ·simp[Array.getD,hn]
 rw[this];exact h
theorem ziT(ho:oi.op=.build 236 #[]):(execOp ev oi).run Tryz.prog w=.ok (.value (agg #[])) w:=by
 simp[execOp,ho,go_sem]
theorem ziv{a b:Int}{x y:Operand}(ho:oi.op=.build 237 #[(0,x),(1,y)])(hx:ev x=int i64 a)(hy:ev y=int i64 b):(execOp ev oi).run Tryz.prog w=.ok (.value (agg #[int i64 a,int i64 b])) w:=by
 simp[execOp,ho,hx,hy,go_sem]
theorem xmu{w':World}{q:Int × Int}{x y z:Operand}(ho:oi.op=.mapUpdate 235 x y z)(hx:ev x=.map (some M))(hy:ev y=agg #[int i64 q.1,int i64 q.2])(hz:ev z=agg #[])(h:(Instr.mapUpdate 235 (.map (some M)) (kkV q) (agg #[])).run Tryz.prog w=.ok () w'):(execOp ev oi).run Tryz.prog w=.ok .skip w':=by
 unfold kkV at h;simp[execOp,ho,hx,hy,hz,h,Result.andThen]
theorem zdO{a:Option Addr}{cp:Nat}{ims:List (Int × Int × List Int)}(hr:zq w 3 ImC a ims)(hl:ims.length≤maxLen):Calls Tryz.prog 114 #[.slice a ims.length cp] w fun e w'=>e=.returned (.bool (!decide (ims.map fun m=>(m.1,m.2.1)).Nodup))∧za [] w w':=by
 have HR:=hid hr;obtain ⟨keys,hkeys⟩:∃ l,l=ims.map fun m=>(m.1,m.2.1):=⟨_,rfl⟩;rw[← hkeys];have HKS:=hid hkeys;obtain ⟨N,hN⟩:∃ n,n=ims.length:=⟨_,rfl⟩;have HN:=hid hN;have HKL:Box (keys.length=N):=hid (by rw[hkeys,hN,List.length_map]);rw[← hN] at hl ⊢;unfold maxLen at hl;have HM0:=hid (jF.made w);have HK0:=hid (za.alloc [] w (.map #[] 0));have hmk:∀ w,(Instr.makeMap 235 none).run Tryz.prog w=.ok (.map (some w.heap.size)) (w.alloc (.map #[] 0)):=fun w=>by kernel_rfl
 clear hr hkeys hN;go_enter Tryz.func114,Tryz.ntmps114;go_wp2_with fail;generalize w.alloc (.map #[] 0)=W at *;obtain ⟨M,hM⟩:∃ M,M=w.heap.size:=⟨_,rfl⟩;have HM:=hid hM;rw[← hM] at HM0 ⊢;clear hM hmk
 go_loopw [8] (fun kv wr=>∃ k:Nat,k≤N∧kv=int i64 (k:Int)∧Box (∃ ks,jF wr M ks∧Met ks (keys.take k)∧za [] w wr)) (fun kv _=>N - (intOf kv).toNat)
 case atStart=>exact ⟨0,by omega,rfl,hid ⟨[],HM0.o,by rw[List.take_zero];exact Met.nil,HK0.o⟩⟩
 case round=>
  obtain ⟨K,hk,rfl,HJ⟩:=hrel;obtain ⟨ks,hs,hmt,hkp⟩:=HJ.o;have HMT:=hid hmt;have HKP:=hid hkp;by_cases hlt:K<N
  ·have hlt':(K:Int)<(N:Int):=by omega
   obtain ⟨b,o,rfl,t1⟩:=HR.o.at (zi (l:=ims) (k:=K) (d:=(0,0,[])) (by rw[← HN.o];exact hlt));have c0:=zb hkp t1.c0.1;have c1:=zb hkp t1.c1.1
   have HKE:Box (keys.take (K+1)=keys.take K ++ [((ims.getD K (0,0,[])).1,(ims.getD K (0,0,[])).2.1)]):=hid (by
    rw[List.take_add_one,HKS.o,List.getElem?_map,zi (l:=ims) (k:=K) (d:=(0,0,[])) (by rw[← HN.o];exact hlt)]
    rfl)
   have t1':=t1.c0.1;clear t1 HJ hmt hkp;generalize (ims.getD K (0,0,[])).1=x at *;generalize (ims.getD K (0,0,[])).2.1=y at *
   have HBM:Box (b ∉ [M]):=hid (by
    have h1:=block_lt_of_cell t1';have h2:=HM.o;simp only[List.mem_singleton];simp only at h1
    omega)
   have hlt_K:(K:Int)<(N:Int):=hlt';have HS:=hid hs;clear hs t1';go_upto_region 5 with fail;refine Ja (fun w'=>w'.cell? ⟨b,o+K * 3,none⟩=some (int i64 x)∧w'.cell? ⟨b,o+K * 3+1,none⟩=some (int i64 y)∧za [M] wr w') (kE M ks (x,y)) 30 [.map (some M),.slice (some ⟨b,o,none⟩) N cp,int i64 (K:Int),pointer (some ⟨b,o+K * 3,none⟩),pointer (some ⟨b,o+K * 3,none⟩),int i64 x,.slice (some ⟨b,o,none⟩) N cp,int i64 (K:Int),pointer (some ⟨b,o+K * 3,none⟩),pointer (some ⟨b,o+K * 3+1,none⟩),int i64 y,agg #[int i64 x,int i64 y],agg #[],undef] (by kernel_rfl) (by rfl) (by kernel_rfl) ⟨c0,c1,za.drew [M] _⟩ (kE.start (HS.o.kept (za.drew [] _) (by simp))) (fun A hA=> ?_);simp only[zH,Act.put,sTA,sC0,sCS] at hA;subst hA;refine ⟨gER (gER (gER (gEY (fun _ _=>zew rfl rfl rfl hlt_K) (gER (gEY (fun _ s=>qo s.1 rfl rfl) (gER (gER (gEY (fun _ _=>zew rfl rfl rfl hlt_K) (gER (gEY (fun _ s=>qo s.2.1 rfl rfl) (gEY (fun _ _=>ziv rfl rfl rfl) (gEY (fun _ _=>ziT rfl) (zM.cons (zc9 (by rfl) (fun l w9 hi9 hs9 he9=>by obtain ⟨w',h1,h2,h3⟩:=he9.put hi9;exact ⟨w',xmu rfl rfl rfl rfl h1,⟨(h3.cell (block_lt_of_cell hs9.1) (HBM.o)).trans hs9.1,(h3.cell (block_lt_of_cell hs9.2.1) (HBM.o)).trans hs9.2.1,hs9.2.2.step h3⟩,h2⟩)) (zM.nil)))))))))))))),fun l w8 hl8 k8 h8=> ?_⟩;have HS2:=hid (h8.all (hl8 13 (by decide)))
   have K2:Box (za [] w w8):=hid (HKP.o.trans k8.2.2 (fun z hz hl=>by
    have:=HM.o;simp at hz
    omega))
   clear hl8 k8 h8;go_wp2_with fail;go_roundw
   case rel=>exact ⟨K+1,by omega,by go_num,hid ⟨_,HS2.o,by rw[HKE.o];exact HMT.o.put _,K2.o⟩⟩
   case measure=>simp[intOf];omega
  ·obtain rfl:K=N:=by omega
   obtain ⟨es,clk,hes,hsz⟩:=hs.size
   have HD:Box (decide (es.size<K)= !decide keys.Nodup):=hid (by
    have h1:=HMT.o.len;have h2:=HMT.o.eq;have h3:=HKL.o;rw[List.take_of_length_le (by omega)] at h1 h2;rw[← hsz,h3] at h2;rw[← hsz,h3] at h1;by_cases hd:keys.Nodup
    ·have:=h2.2 hd
     have e1:decide keys.Nodup=true:=decide_eq_true hd;rw[e1];exact decide_eq_false (by omega)
    ·have:¬ es.size=K:=fun e=>hd (h2.1 e)
     have e1:decide keys.Nodup=false:=decide_eq_false hd;rw[e1]
     exact decide_eq_true (by omega))
   have hln:=fun ty=>run_len_map (P:=Tryz.prog) (w:=wr) 235 ty M es clk (by kernel_rfl) hes;clear hs hsz HJ hmt;go_wp2_with fail;go_ret;exact ⟨by rw[← HD.o];rfl,HKP.o⟩
theorem zgS(h:PrC w pb po P):Calls Tryz.prog 72 #[pointer (some ⟨pb,po,none⟩)] w (ZO (zbd P) 7 (-1) 0 0 w):=by
 obtain ⟨a,cp,c3,hr,_,hx⟩:=h.c3;have HP:=hid h;have HTW:=hid (zdO (cp:=cp) hr hx);have HRF:=hid fun (w':World)=>zaR w';have HR:=hid hr;have C3:Box (∀ w',za [] w w'→w'.cell? ⟨pb,po+3,none⟩=some (.slice a P.ims.length cp)):=hid fun w' k=>zb k c3;have HMB:Box (zbd P=(decide (P.ims.map fun m=>(m.1,m.2.1)).Nodup && P.ims.all (Jc P))):=hid rfl;obtain ⟨N,hN⟩:∃ n,n=P.ims.length:=⟨_,rfl⟩;have HN:=hid hN;rw[← hN] at C3 HTW c3 hx;unfold maxLen at hx;clear h hr hN;go_enter Tryz.func72,Tryz.ntmps72;go_wp2_with fail;refine HTW.o.mono ?_;rintro e w1 ⟨rfl,k1⟩;have K1:=hid k1;clear c3 HTW k1;cases hd:decide (P.ims.map fun m=>(m.1,m.2.1)).Nodup with
 | false=>
  have HF:Box (zbd P=false):=hid (by rw[HMB.o,hd];rfl);clear HMB hd;go_wp2_with fail;refine (HRF.o _).mono ?_;rintro e w2 ⟨p,rfl,h2,k2⟩;have H2:=hid h2;have K2:=hid (K1.o.quiet k2);clear h2 k2;go_wp2_with fail;go_ret;rw[HF.o];exact ⟨p,rfl,H2.o,K2.o⟩
 | true=>
 rw[hd,Bool.true_and] at HMB;clear hd;have c3:=C3.o _ K1.o;go_wp2_with fail;clear c3
 go_loopw [17] (fun kv wr=>∃ k:Nat,k≤N∧kv=int i64 (k:Int)∧Box (za [] w wr)∧Box (∀ j,j<k→Jc P (im8 P j)=true)) (fun kv _=>N - (intOf kv).toNat)
 case atStart=>exact ⟨0,by omega,rfl,K1,hid fun j hj=>by omega⟩
 case round=>
  obtain ⟨K,hk,rfl,HK,HJ⟩:=hrel;by_cases hlt:K<N
  ·have hlt':(K:Int)<(N:Int):=by omega
   have hKl:K<P.ims.length:=by rw[← HN.o];exact hlt
   obtain ⟨b,o,rfl,t1⟩:=HR.o.at (zbu hKl);have c3:=C3.o _ HK.o;have HI:=hid (zjK (PrC.stays _ _ _ _ _ HK.o HP.o) (ImC.stays _ _ _ _ _ HK.o t1));have HME:Box (im8 P K∈P.ims):=hid (List.mem_of_getElem? (zbu hKl));clear t1 hKl;go_wp2_with fail;refine HI.o.mono ?_;rintro e w3 ⟨rfl,k3⟩;have K3:=hid (HK.o.quiet k3);clear c3 k3 HI;cases hb:Jc P (im8 P K) with
   | true=>
    have HB:=hid hb;clear hb;go_wp2_with fail;go_roundw
    case rel=>
     refine ⟨K+1,by omega,by go_num,K3,hid fun j hj=> ?_⟩;by_cases hjk:j=K
     ·subst hjk
      exact HB.o
     ·exact HJ.o j (by omega)
    case measure=>simp[intOf];omega
   | false=>
    have HF:Box (zbd P=false):=hid (by
     rw[HMB.o]
     exact List.all_eq_false.2 ⟨_,HME.o,by rw[hb];simp⟩)
    clear hb;go_wp2_with fail;refine (HRF.o _).mono ?_;rintro e w4 ⟨p,rfl,h4,k4⟩;have H4:=hid h4;have K4:=hid (K3.o.quiet k4);clear h4 k4;go_wp2_with fail;go_ret;rw[HF.o];exact ⟨p,rfl,H4.o,K4.o⟩
  ·obtain rfl:K=N:=by omega
   have HF:Box (zbd P=true):=hid (by
    rw[HMB.o,List.all_eq_true];intro x hx;obtain ⟨j,hj,e⟩:=List.getElem_of_mem hx;have:=HJ.o j (by rw[HN.o];exact hj);have e2:im8 P j=x:=by
     have:=zbu hj;rw[List.getElem?_eq_getElem hj,e] at this;exact (Option.some.inj this).symm
    rwa [e2] at this)
   go_wp2_with fail;go_ret;rw[HF.o];exact ⟨rfl,HK.o⟩
theorem zm7(hf:FuC w fb fo f)(x:In8)(ar:Value)(hop:x.op=3):Calls Tryz.prog 206 #[pointer (some ⟨pb,po,none⟩),pointer (some ⟨fb,fo,none⟩),zu x ar] w fun e w'=>e=.returned (.bool ((zj f x.dst).1 == 0))∧za [] w w':=by
 have ka:=za.alloc [] w (.cells #[int i64 x.op,int i64 x.dst,int i64 x.a,int i64 x.b,int i64 x.n,ar] 65);have hn:=ze w (.cells #[int i64 x.op,int i64 x.dst,int i64 x.a,int i64 x.b,int i64 x.n,ar] 65);have HRT:=hid fun (r:Int) (w':World) (k:za [] w w')=>zo (FuC.stays _ _ _ _ _ k hf) r;have KA:=hid ka;have HN:=hid hn;clear hf ka hn;unfold zu;rw[hop] at KA HN ⊢;go_enter Tryz.func206,Tryz.ntmps206;go_upto_region 1 with fail;generalize w.alloc (.cells #[int i64 3,int i64 x.dst,int i64 x.a,int i64 x.b,int i64 x.n,ar] 65)=WA at *;generalize w.heap.size=q at *;have H1:=hid fun (w':World) (k:za [] WA w')=>HRT.o x.dst w' (KA.o.quiet k);have H2:=hid fun (w':World) (k:za [] WA w')=>HRT.o x.a w' (KA.o.quiet k);have H3:=hid fun (w':World) (k:za [] WA w')=>HRT.o x.b w' (KA.o.quiet k);generalize hT1:zj f x.dst=T1 at *;generalize hT2:zj f x.a=T2 at *;generalize hT3:zj f x.b=T3 at *;have HT1:=hid hT1;have HT2:=hid hT2;have HT3:=hid hT3;clear hT1 hT2 hT3;refine qj HN.o H1.o H2.o H3.o (fun _ _ _ _ _ h=>h) (fun w1 b7 b8 b9 hk t7 t8 t9=> ?_)
 all_goals
  have T7:Box (qm w1 b7 T1):=hid t7;have T8:Box (qm w1 b8 T2):=hid t8;have T9:Box (qm w1 b9 T3):=hid t9;have K1:=hid (KA.o.quiet hk);have h5:=zd HN.o hk;have i0:=zc h5 0;have HI5:=hid h5;clear t7 t8 t9 h5 H1 H2 H3 HN hk;have s0:=zc T7.o 0;have s1:=zc T7.o 1;have p0:=zc T8.o 0;have p1:=zc T8.o 1;have r0:=zc T9.o 0;have r1:=zc T9.o 1;go_wp2_with fail;go_ret;exact ⟨by simp only[HT1.o];rfl,K1.o⟩
theorem zmx(hf:FuC w fb fo f)(x:In8)(ar:Value)(hop:x.op=4):Calls Tryz.prog 206 #[pointer (some ⟨pb,po,none⟩),pointer (some ⟨fb,fo,none⟩),zu x ar] w fun e w'=>e=.returned (.bool ((zj f x.dst).1 != 0))∧za [] w w':=by
 have ka:=za.alloc [] w (.cells #[int i64 x.op,int i64 x.dst,int i64 x.a,int i64 x.b,int i64 x.n,ar] 65);have hn:=ze w (.cells #[int i64 x.op,int i64 x.dst,int i64 x.a,int i64 x.b,int i64 x.n,ar] 65);have HRT:=hid fun (r:Int) (w':World) (k:za [] w w')=>zo (FuC.stays _ _ _ _ _ k hf) r;have KA:=hid ka;have HN:=hid hn;clear hf ka hn;unfold zu;rw[hop] at KA HN ⊢;go_enter Tryz.func206,Tryz.ntmps206;go_upto_region 1 with fail;generalize w.alloc (.cells #[int i64 4,int i64 x.dst,int i64 x.a,int i64 x.b,int i64 x.n,ar] 65)=WA at *;generalize w.heap.size=q at *;have H1:=hid fun (w':World) (k:za [] WA w')=>HRT.o x.dst w' (KA.o.quiet k);have H2:=hid fun (w':World) (k:za [] WA w')=>HRT.o x.a w' (KA.o.quiet k);have H3:=hid fun (w':World) (k:za [] WA w')=>HRT.o x.b w' (KA.o.quiet k);generalize hT1:zj f x.dst=T1 at *;generalize hT2:zj f x.a=T2 at *;generalize hT3:zj f x.b=T3 at *;have HT1:=hid hT1;have HT2:=hid hT2;have HT3:=hid hT3;clear hT1 hT2 hT3;refine qj HN.o H1.o H2.o H3.o (fun _ _ _ _ _ h=>h) (fun w1 b7 b8 b9 hk t7 t8 t9=> ?_)
 all_goals
  have T7:Box (qm w1 b7 T1):=hid t7;have T8:Box (qm w1 b8 T2):=hid t8;have T9:Box (qm w1 b9 T3):=hid t9;have K1:=hid (KA.o.quiet hk);have h5:=zd HN.o hk;have i0:=zc h5 0;have HI5:=hid h5;clear t7 t8 t9 h5 H1 H2 H3 HN hk;have s0:=zc T7.o 0;have s1:=zc T7.o 1;have p0:=zc T8.o 0;have p1:=zc T8.o 1;have r0:=zc T9.o 0;have r1:=zc T9.o 1;go_wp2_with fail;go_ret;exact ⟨by simp only[HT1.o];rfl,K1.o⟩
theorem zmz(hf:FuC w fb fo f)(x:In8)(ar:Value)(hop:x.op=5):Calls Tryz.prog 206 #[pointer (some ⟨pb,po,none⟩),pointer (some ⟨fb,fo,none⟩),zu x ar] w fun e w'=>e=.returned (.bool ((zj f x.dst).1 == 1))∧za [] w w':=by
 have ka:=za.alloc [] w (.cells #[int i64 x.op,int i64 x.dst,int i64 x.a,int i64 x.b,int i64 x.n,ar] 65);have hn:=ze w (.cells #[int i64 x.op,int i64 x.dst,int i64 x.a,int i64 x.b,int i64 x.n,ar] 65);have HRT:=hid fun (r:Int) (w':World) (k:za [] w w')=>zo (FuC.stays _ _ _ _ _ k hf) r;have KA:=hid ka;have HN:=hid hn;clear hf ka hn;unfold zu;rw[hop] at KA HN ⊢;go_enter Tryz.func206,Tryz.ntmps206;go_upto_region 1 with fail;generalize w.alloc (.cells #[int i64 5,int i64 x.dst,int i64 x.a,int i64 x.b,int i64 x.n,ar] 65)=WA at *;generalize w.heap.size=q at *;have H1:=hid fun (w':World) (k:za [] WA w')=>HRT.o x.dst w' (KA.o.quiet k);have H2:=hid fun (w':World) (k:za [] WA w')=>HRT.o x.a w' (KA.o.quiet k);have H3:=hid fun (w':World) (k:za [] WA w')=>HRT.o x.b w' (KA.o.quiet k);generalize hT1:zj f x.dst=T1 at *;generalize hT2:zj f x.a=T2 at *;generalize hT3:zj f x.b=T3 at *;have HT1:=hid hT1;have HT2:=hid hT2;have HT3:=hid hT3;clear hT1 hT2 hT3;refine qj HN.o H1.o H2.o H3.o (fun _ _ _ _ _ h=>h) (fun w1 b7 b8 b9 hk t7 t8 t9=> ?_)
 all_goals
  have T7:Box (qm w1 b7 T1):=hid t7;have T8:Box (qm w1 b8 T2):=hid t8;have T9:Box (qm w1 b9 T3):=hid t9;have K1:=hid (KA.o.quiet hk);have h5:=zd HN.o hk;have i0:=zc h5 0;have HI5:=hid h5;clear t7 t8 t9 h5 H1 H2 H3 HN hk;have s0:=zc T7.o 0;have s1:=zc T7.o 1;have p0:=zc T8.o 0;have p1:=zc T8.o 1;have r0:=zc T9.o 0;have r1:=zc T9.o 1;go_wp2_with fail;go_ret;exact ⟨by simp only[HT1.o];rfl,K1.o⟩
theorem zmB(hf:FuC w fb fo f)(x:In8)(ar:Value)(hop:x.op=9):Calls Tryz.prog 206 #[pointer (some ⟨pb,po,none⟩),pointer (some ⟨fb,fo,none⟩),zu x ar] w fun e w'=>e=.returned (.bool ((zj f x.a).1 == 1))∧za [] w w':=by
 have ka:=za.alloc [] w (.cells #[int i64 x.op,int i64 x.dst,int i64 x.a,int i64 x.b,int i64 x.n,ar] 65);have hn:=ze w (.cells #[int i64 x.op,int i64 x.dst,int i64 x.a,int i64 x.b,int i64 x.n,ar] 65);have HRT:=hid fun (r:Int) (w':World) (k:za [] w w')=>zo (FuC.stays _ _ _ _ _ k hf) r;have KA:=hid ka;have HN:=hid hn;clear hf ka hn;unfold zu;rw[hop] at KA HN ⊢;go_enter Tryz.func206,Tryz.ntmps206;go_upto_region 1 with fail;generalize w.alloc (.cells #[int i64 9,int i64 x.dst,int i64 x.a,int i64 x.b,int i64 x.n,ar] 65)=WA at *;generalize w.heap.size=q at *;have H1:=hid fun (w':World) (k:za [] WA w')=>HRT.o x.dst w' (KA.o.quiet k);have H2:=hid fun (w':World) (k:za [] WA w')=>HRT.o x.a w' (KA.o.quiet k);have H3:=hid fun (w':World) (k:za [] WA w')=>HRT.o x.b w' (KA.o.quiet k);generalize hT1:zj f x.dst=T1 at *;generalize hT2:zj f x.a=T2 at *;generalize hT3:zj f x.b=T3 at *;have HT1:=hid hT1;have HT2:=hid hT2;have HT3:=hid hT3;clear hT1 hT2 hT3;refine qj HN.o H1.o H2.o H3.o (fun _ _ _ _ _ h=>h) (fun w1 b7 b8 b9 hk t7 t8 t9=> ?_)
 all_goals
  have T7:Box (qm w1 b7 T1):=hid t7;have T8:Box (qm w1 b8 T2):=hid t8;have T9:Box (qm w1 b9 T3):=hid t9;have K1:=hid (KA.o.quiet hk);have h5:=zd HN.o hk;have i0:=zc h5 0;have HI5:=hid h5;clear t7 t8 t9 h5 H1 H2 H3 HN hk;have s0:=zc T7.o 0;have s1:=zc T7.o 1;have p0:=zc T8.o 0;have p1:=zc T8.o 1;have r0:=zc T9.o 0;have r1:=zc T9.o 1;go_wp2_with fail;go_ret;exact ⟨by simp only[HT2.o];rfl,K1.o⟩
theorem zkF(hf:FuC w fb fo f)(x:In8)(ar:Value)(hop:x.op=15):Calls Tryz.prog 206 #[pointer (some ⟨pb,po,none⟩),pointer (some ⟨fb,fo,none⟩),zu x ar] w fun e w'=>e=.returned (.bool ((zj f x.a).1 == 0))∧za [] w w':=by
 have ka:=za.alloc [] w (.cells #[int i64 x.op,int i64 x.dst,int i64 x.a,int i64 x.b,int i64 x.n,ar] 65);have hn:=ze w (.cells #[int i64 x.op,int i64 x.dst,int i64 x.a,int i64 x.b,int i64 x.n,ar] 65);have HRT:=hid fun (r:Int) (w':World) (k:za [] w w')=>zo (FuC.stays _ _ _ _ _ k hf) r;have KA:=hid ka;have HN:=hid hn;clear hf ka hn;unfold zu;rw[hop] at KA HN ⊢;go_enter Tryz.func206,Tryz.ntmps206;go_upto_region 1 with fail;generalize w.alloc (.cells #[int i64 15,int i64 x.dst,int i64 x.a,int i64 x.b,int i64 x.n,ar] 65)=WA at *;generalize w.heap.size=q at *;have H1:=hid fun (w':World) (k:za [] WA w')=>HRT.o x.dst w' (KA.o.quiet k);have H2:=hid fun (w':World) (k:za [] WA w')=>HRT.o x.a w' (KA.o.quiet k);have H3:=hid fun (w':World) (k:za [] WA w')=>HRT.o x.b w' (KA.o.quiet k);generalize hT1:zj f x.dst=T1 at *;generalize hT2:zj f x.a=T2 at *;generalize hT3:zj f x.b=T3 at *;have HT1:=hid hT1;have HT2:=hid hT2;have HT3:=hid hT3;clear hT1 hT2 hT3;refine qj HN.o H1.o H2.o H3.o (fun _ _ _ _ _ h=>h) (fun w1 b7 b8 b9 hk t7 t8 t9=> ?_)
 all_goals
  have T7:Box (qm w1 b7 T1):=hid t7;have T8:Box (qm w1 b8 T2):=hid t8;have T9:Box (qm w1 b9 T3):=hid t9;have K1:=hid (KA.o.quiet hk);have h5:=zd HN.o hk;have i0:=zc h5 0;have HI5:=hid h5;clear t7 t8 t9 h5 H1 H2 H3 HN hk;have s0:=zc T7.o 0;have s1:=zc T7.o 1;have p0:=zc T8.o 0;have p1:=zc T8.o 1;have r0:=zc T9.o 0;have r1:=zc T9.o 1;go_wp2_with fail;go_ret;exact ⟨by simp only[HT2.o];rfl,K1.o⟩
end Go.Proofs.YtgmbkiagdhjpnaaGreatDoor
