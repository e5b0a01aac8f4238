import Derived.Shelf.Strconv.Itoa3
import Derived.Laws.IdiomCopy
import Derived.Test.YthflgjkmbakedaaGreatDoorN17

namespace Go.Proofs.YthflgjkmbakedaaGreatDoor
open Go.RowKit
open Go.Value (int pointer agg)
open Go.IntKind (i64)
set_option maxRecDepth 20000
set_option maxHeartbeats 8000000
variable {P:Pr8}{pb po:Nat}{w:World}
def JS(P:Pr8)(f:Fu8)(y:Bl8):Bool:=
 if y.fin=2 then (zk f y.reg).1 == 0
 else if y.fin=3 then (match jN P f.sig with
  | none=>false
  | some s=>inB y.reg f.regs.length && tyE (f.regs.getD y.reg.toNat (0,0)) s.2) else true
theorem zf3{fb fo bb bo:Nat}{f:Fu8}{y:Bl8}(h:PrC w pb po P)(hf:FuC w fb fo f)(hb:BlC w bb bo y):Calls Tryz.prog 198 #[pointer (some ⟨pb,po,none⟩),pointer (some ⟨fb,fo,none⟩),pointer (some ⟨bb,bo,none⟩)] w fun e w'=>e=.returned (.bool (JS P f y))∧za [] w w':=by
 have b1:=hb.c1.1;have b2:=hb.c2.1;by_cases f2:y.fin=2
 ·have HE:Box (JS P f y=((zk f y.reg).1 == 0)):=hid (by unfold JS;rw[if_pos f2])
  have HRT:=hid (zn hf y.reg);rw[f2] at b1;clear h hf hb f2;generalize zk f y.reg=T at *;unfold tyV at HRT;have hfl:∀ (w:World),(Instr.field 52 (agg #[int i64 T.1,int i64 T.2]) 0).run Tryz.prog w=.ok (int i64 T.1) w:=fun w=>by kernel_rfl
  go_enter Tryz.func198,Tryz.ntmps198;go_wp2_with fail;refine HRT.o.mono ?_;rintro e w1 ⟨rfl,k1⟩;have K1:=hid k1;clear k1;go_wp2_with fail;go_ret;exact ⟨by rw[HE.o];rfl,K1.o⟩
 by_cases f3:y.fin=3
 case neg=>
  have HE:Box (JS P f y=true):=hid (by unfold JS;rw[if_neg f2,if_neg f3]);have o2:=neb f2;have o3:=neb f3;clear h hf hb f2 f3;go_enter Tryz.func198,Tryz.ntmps198;go_wp2_with fail;go_ret;exact ⟨by rw[HE.o];rfl,za.refl _ _⟩
 have HE:Box (JS P f y=match jN P f.sig with
  | none=>false
  | some s=>inB y.reg f.regs.length && tyE (f.regs.getD y.reg.toNat (0,0)) s.2):=hid (by unfold JS;rw[if_neg f2,if_pos f3])
 have HSG:=hid (Zo h (za.refl [] w) f.sig);obtain ⟨ra,rp,c1,rr,_,_⟩:=hf.c1;have c0:=hf.c0.1;have HRR:=hid rr;have C1:Box (∀ w',za [] w w'→w'.cell? ⟨fb,fo+1,none⟩=some (.slice ra f.regs.length rp)∧w'.cell? ⟨bb,bo+2,none⟩=some (int i64 y.reg)):=hid (by have b:=b2;exact fun w' k=>⟨zb k c1,zb k b⟩);have HW:=hid fun (w':World)=>zo y.reg f.regs.length w';rw[f3] at b1;clear h hf hb rr f2 f3 c1;generalize jN P f.sig=O at *;go_enter Tryz.func198,Tryz.ntmps198;go_wp2_with fail;refine HSG.o.mono ?_;intro e w1 h1;obtain ⟨k1,sa,sp,n,t1,t2,rfl,hs⟩:=h1.open;have hbx:=zd w1 (.cells #[.slice sa n sp,int i64 t1,int i64 t2] 59);have K1:=hid (k1.quiet (za.alloc [] w1 (.cells #[.slice sa n sp,int i64 t1,int i64 t2] 59)));have HB:=hid hbx;have HS:=hid hs;clear h1 k1 hbx hs c0 b1 b2;go_upto_region 6 with fail;generalize w1.alloc (.cells #[.slice sa n sp,int i64 t1,int i64 t2] 59)=w2 at *;generalize w1.heap.size=q at *;obtain ⟨c1,c2⟩:=C1.o _ K1.o;have s1:=zc HB.o 1;have s2:=zc HB.o 2;cases O with
 | none=>
  have HF:Box (JS P f y=false):=hid HE.o;clear HE HS;simp only[Option.isSome_none];go_quiet (fail);go_wp2_with fail;go_ret;exact ⟨by rw[HF.o];rfl,K1.o.quiet (za.drewN _ _ _)⟩
 | some s=>
  obtain ⟨_,e1,e2,_⟩:=HS.o s rfl;have HF:Box (JS P f y=(inB y.reg f.regs.length && tyE (f.regs.getD y.reg.toNat (0,0)) (t1,t2))):=hid (by rw[HE.o,e1,e2]);clear HE HS e1 e2;simp only[Option.isSome_some];cases hin:inB y.reg f.regs.length with
  | false=>
   rw[hin] at HW;have HG:Box (JS P f y=false):=hid (by rw[HF.o,hin];rfl);clear hin HF;generalize f.regs.length=R at *;go_quiet ((go_at_call 123;exact Calls.quiet_of_same (HW.o _)));go_wp2_with fail;go_ret;exact ⟨by rw[HG.o];rfl,K1.o.quiet (za.drewN _ _ _)⟩
  | true=>
   rw[hin] at HW;obtain ⟨g0,g1⟩:=z6.1 hin;obtain ⟨m,hm⟩:∃ m:Nat,y.reg=(m:Int):=⟨y.reg.toNat,by omega⟩;have HG:Box (JS P f y=tyE (f.regs.getD m (0,0)) (t1,t2)):=hid (by rw[HF.o,hin,hm];rfl);obtain ⟨b',off',rfl,hc'⟩:=HRR.o.at (zi (l:=f.regs) (k:=m) (d:=(0,0)) (by omega));have d0:=zb K1.o hc'.c0.1;have d1:=zb K1.o hc'.c1.1;rw[hm] at HW c2 g1;clear hin HF g0 hm hc';generalize f.regs.getD m (0,0)=T at *;generalize f.regs.length=R at *;have re:=fun w'=>jk T.1 T.2 t1 t2 w';go_quiet ((go_at_call 123;exact Calls.quiet_of_same (HW.o _)));go_wp2_with fail;go_ret;exact ⟨by rw[HG.o];rfl,K1.o.quiet (za.drewN _ _ _)⟩
def ptT(P:Pr8)(g:Fu8→In8→Bool)(q:Nat × Nat × Nat):Bool:=
 if q.2.2<(zq (zf P q.1) q.2.1).code.length then g (zf P q.1) (qm (zq (zf P q.1) q.2.1) q.2.2) else JS P (zf P q.1) (zq (zf P q.1) q.2.1)
def zh6(w:World)(pb po:Nat)(P:Pr8)(g:Fu8→In8→Bool):Prop:=
 ∀ (w':World) (f b i:Nat) (a:Option Addr) (cp:Nat),za [] w w'→f<P.funcs.length→b<(zf P f).blocks.length→i<(zq (zf P f) b).code.length→zw w' a (qm (zq (zf P f) b) i).args→
  Calls Tryz.prog 197 #[pointer (some ⟨pb,po,none⟩),int i64 (f:Int),zt (qm (zq (zf P f) b) i) (.slice a (qm (zq (zf P f) b) i).args.length cp)] w' fun e w2=>e=.returned (.bool (g (zf P f) (qm (zq (zf P f) b) i)))∧za [] w' w2
theorem zhj(h:PrC w pb po P){g:Fu8→In8→Bool}(hg:zh6 w pb po P g){f b i:Nat}(hq:ZB P f b i):Calls Tryz.prog 128 #[pointer (some ⟨pb,po,none⟩),agg #[int i64 (f:Int),int i64 (b:Int),int i64 (i:Int)]] w fun e w'=>e=.returned (.bool (ptT P g (f,b,i)))∧za [] w w':=by
 obtain ⟨h1,h2,h3⟩:=hq;have ka:=za.alloc [] w (.cells #[int i64 (f:Int),int i64 (b:Int),int i64 (i:Int)] 99);have hn:=zd w (.cells #[int i64 (f:Int),int i64 (b:Int),int i64 (i:Int)] 99);obtain ⟨fa,fp,c4,r4,_⟩:=h.c4;obtain ⟨fb,fo,rfl,hfu0⟩:=r4.at (zi (d:=⟨0,[],[]⟩) h1);have hfu:FuC w fb (fo+f * 3) (zf P f):=hfu0;obtain ⟨ba,bp,e2,rb,_⟩:=hfu.c2;obtain ⟨bb,bo,rfl,hbl0⟩:=rb.at (zi (d:=⟨[],0,0,0,0⟩) h2);have hbl:BlC w bb (bo+b * 5) (zq (zf P f) b):=hbl0;obtain ⟨ca,cp,e3,rc,_⟩:=hbl.c0;have HEN:=hid fun (w':World) (k:za [] w w')=>zf3 (PrC.stays _ _ _ _ _ k h) (FuC.stays _ _ _ _ _ k hfu) (BlC.stays _ _ _ _ _ k hbl);have HFT:=hid hg;have HC:=hid rc;have C:Box (∀ w',za [] w w'→w'.cell? ⟨pb,po+4,none⟩=some (.slice (some ⟨fb,fo,none⟩) P.funcs.length fp)∧w'.cell? ⟨fb,fo+f * 3+2,none⟩=some (.slice (some ⟨bb,bo,none⟩) (zf P f).blocks.length bp)∧w'.cell? ⟨bb,bo+b * 5,none⟩=some (.slice ca (zq (zf P f) b).code.length cp)):=hid fun w' k=>⟨zb k c4,zb k e2,zb k e3⟩;obtain ⟨c4',e2',e3'⟩:=C.o _ ka;have q0:=zc hn 0;have q1:=zc hn 1;have q2:=zc hn 2;have KA:=hid ka;have HN:=hid hn;have h1':(f:Int)<(P.funcs.length:Int):=by omega
 have h2':(b:Int)<((zf P f).blocks.length:Int):=by omega
 have HH:=hid (And.intro h1 (And.intro h2 h3));have HE:Box (ptT P g (f,b,i)=if i<(zq (zf P f) b).code.length then g (zf P f) (qm (zq (zf P f) b) i) else JS P (zf P f) (zq (zf P f) b)):=hid rfl;obtain ⟨N,hN⟩:∃ N,N=(zq (zf P f) b).code.length:=⟨_,rfl⟩;have HNN:=hid hN;rw[← hN] at C e3' HE;clear h hfu0 hfu hbl0 hbl c4 e2 e3 rb rc r4 hg ka hn h1 h2 h3 hN;generalize hFN:P.funcs.length=FN at *;generalize hBN:(zf P f).blocks.length=BN at *;have HFN:=hid hFN;have HBN:=hid hBN;clear hFN hBN;go_enter Tryz.func128,Tryz.ntmps128;go_upto_region 1 with fail;generalize w.alloc (.cells #[int i64 (f:Int),int i64 (b:Int),int i64 (i:Int)] 99)=WA at *;generalize w.heap.size=q at *;go_quiet (fail);go_upto_region 2 with fail;go_quiet (fail);go_upto_region 3 with fail;by_cases hi:i<N
 ·have hi':(i:Int)<(N:Int):=by omega
  have HF:Box (ptT P g (f,b,i)=g (zf P f) (qm (zq (zf P f) b) i)):=hid (by rw[HE.o,if_pos hi]);have hif:i<(zq (zf P f) b).code.length:=by rw[← HNN.o];exact hi
  obtain ⟨ib,io,rfl,hin⟩:=HC.o.at (show (zq (zf P f) b).code[i]? = some (qm (zq (zf P f) b) i) from zi hif);obtain ⟨ga,gp,e5,q5⟩:=SlC.val hin.c5;have HZ:=hid (qT q5.slice.2.1);have HIF:=hid hif;have F0:=zb KA.o hin.c0.1;have F1:=zb KA.o hin.c1.1;have F2:=zb KA.o hin.c2.1;have F3:=zb KA.o hin.c3.1;have F4:=zb KA.o hin.c4.1;have F5:=zb KA.o e5;clear hin e5 q5 hif;have HX:=hid fun (w':World) (k:za [] w w')=>HFT.o w' f b i ga gp k (by rw[HFN.o];omega) (by rw[HBN.o];omega) HIF.o (HZ.o.kept k (fun _ _ _=>by simp));unfold zt at HX;generalize g (zf P f) (qm (zq (zf P f) b) i)=rr at *;generalize qm (zq (zf P f) b) i=x at *;clear HFT HEN HE HC HNN HFN HBN HIF HZ hi;go_quiet (fail);go_upto_region 4 with fail
  go_region_held3 (fun w'=>w'.cell? ⟨q,0,none⟩=some (int i64 (f:Int))∧w'.cell? ⟨q,2,none⟩=some (int i64 (i:Int))∧w'.cell? ⟨bb,bo+b * 5,none⟩=some (.slice (some ⟨ib,io,none⟩) N cp)∧w'.cell? ⟨ib,io+i * 6,none⟩=some (int i64 x.op)∧w'.cell? ⟨ib,io+i * 6+1,none⟩=some (int i64 x.dst)∧w'.cell? ⟨ib,io+i * 6+2,none⟩=some (int i64 x.a)∧w'.cell? ⟨ib,io+i * 6+3,none⟩=some (int i64 x.b)∧w'.cell? ⟨ib,io+i * 6+4,none⟩=some (int i64 x.n)∧w'.cell? ⟨ib,io+i * 6+5,none⟩=some (.slice ga x.args.length gp)) (go_keep) (first
   | (go_at_call 197;refine Calls.mono (HX.o _ ?_) ?_;exact ⟨KA.o.os,KA.o.tape,KA.o.output,KA.o.size,KA.o.block⟩;rintro e w5 ⟨rfl,k5⟩;have K5:za [] WA w5:=⟨k5.os,k5.tape,k5.output,k5.size,k5.block⟩;have f0:=zb K5 q0;have f2:=zb K5 q2;have f3:=zb K5 e3';have g0:=zb K5 F0;have g1:=zb K5 F1;have g2:=zb K5 F2;have g3:=zb K5 F3;have g4:=zb K5 F4;have g5:=zb K5 F5;have HK5:=hid K5;clear k5))
  go_wp2_with fail;go_ret;exact ⟨by rw[HF.o];rfl,KA.o.quiet HK5.o⟩
 ·have hi':¬ (i:Int)<(N:Int):=by omega
  have HF:Box (ptT P g (f,b,i)=JS P (zf P f) (zq (zf P f) b)):=hid (by rw[HE.o,if_neg hi]);generalize JS P (zf P f) (zq (zf P f) b)=rr at *;go_quiet (fail);go_wp2_with fail;refine (HEN.o _ ?_).mono ?_
  ·exact KA.o.quiet (by first | exact za.drewN _ _ _)
  rintro e w1 ⟨rfl,k1⟩;have K1:=hid k1;clear k1;go_wp2_with fail;go_ret;exact ⟨by rw[HF.o];rfl,(KA.o.quiet (za.drewN _ _ _)).quiet K1.o⟩
def QV(P:Pr8)(g:Fu8→In8→Bool):Option (Int × Int × Int):=
 if (List.range P.funcs.length).all (fun f=>ZX P (zf P f)) then (match (pts P).find? (fun q=> !ptT P g q) with
  | some q=>some (ptI q)
  | none=>if jY P then none else some (-1,0,0)) else some (-1,0,0)
theorem zhd{g:Fu8→In8→Bool}{k:Nat}(hk:k<P.funcs.length)(h:ZX P (zf P k)=false):QV P g=some (-1,0,0):=by
 unfold QV;have:(List.range P.funcs.length).all (fun f=>ZX P (zf P f))=false:=List.all_eq_false.2 ⟨k,List.mem_range.2 hk,by rw[h];simp⟩;rw[this];rfl
theorem ziO{g:Fu8→In8→Bool}(hp:∀ k,k<P.funcs.length→ZX P (zf P k)=true){n:Nat}{q:Nat × Nat × Nat}(hq:(pts P)[n]? = some q)(hl:∀ j x,j<n→(pts P)[j]? = some x→ptT P g x=true)(h:ptT P g q=false):QV P g=some (ptI q):=by
 unfold QV;rw[if_pos (List.all_eq_true.2 fun k hk=>hp k (List.mem_range.1 hk))];have hn:=(List.getElem?_eq_some_iff.1 hq).1;have e:pts P=(pts P).take n ++ q :: (pts P).drop (n+1):=by
  have h2:=List.take_append_drop n (pts P);rw[List.drop_eq_getElem_cons hn,(List.getElem?_eq_some_iff.1 hq).2] at h2;exact h2.symm
 rw[e,Qk (l:=(pts P).take n) (fun x hx=> ?_) (by rw[h];rfl)];obtain ⟨j,hj⟩:=List.getElem?_of_mem hx;rw[List.getElem?_take] at hj;split at hj
 ·rename_i hjn
  rw[hl j x hjn hj];rfl
 ·cases hj
theorem zg2{g:Fu8→In8→Bool}(hp:∀ k,k<P.funcs.length→ZX P (zf P k)=true)(hl:∀ (j:Nat) (x:Nat × Nat × Nat),(pts P)[j]? = some x→ptT P g x=true):QV P g=if jY P then none else some (-1,0,0):=by
 unfold QV;rw[if_pos (List.all_eq_true.2 fun k hk=>hp k (List.mem_range.1 hk)),Jm (fun x hx=> ?_)];obtain ⟨j,hj⟩:=List.getElem?_of_mem hx;rw[hl j x hj];rfl
theorem zb2(h:PrC w pb po P)(hs:zbc P){g:Fu8→In8→Bool}(hg:zh6 w pb po P g):Calls Tryz.prog 84 #[pointer (some ⟨pb,po,none⟩)] w (jb (QV P g) 4 w):=by
 obtain ⟨fa,fp,c4,r4,_⟩:=h.c4;have HP:=hid h;have HR:=hid r4;have HPT:=hid fun (w':World) (k:za [] w w')=>j5 (PrC.stays _ _ _ _ _ k h) hs;have HG:Box (∀ w',za [] w w'→zh6 w' pb po P g):=hid fun w' k w2 f b i a cp k2=>hg w2 f b i a cp (k.quiet k2);have HM:=hid fun (w':World) (k:za [] w w')=>zeY (PrC.stays _ _ _ _ _ k h);have HRF:=hid fun (w':World)=>qx 4 w';have HRA:=hid fun (f b i:Int) (w':World)=>je 4 f b i w';have C4:Box (∀ w',za [] w w'→w'.cell? ⟨pb,po+4,none⟩=some (.slice fa P.funcs.length fp)):=hid fun w' k=>zb k c4;have B1:=hid fun (k:Nat) (hk:k<P.funcs.length) (h:ZX P (zf P k)=false)=>zhd (g:=g) hk h;have B2:=hid fun (hp:∀ k,k<P.funcs.length→ZX P (zf P k)=true) (n:Nat) (q:Nat × Nat × Nat) (hq:(pts P)[n]? = some q) (hl:∀ j x,j<n→(pts P)[j]? = some x→ptT P g x=true) (h:ptT P g q=false)=>ziO (g:=g) hp hq hl h;have B3:=hid fun (hp:∀ k,k<P.funcs.length→ZX P (zf P k)=true) (hl:∀ (j:Nat) (x:Nat × Nat × Nat),(pts P)[j]? = some x→ptT P g x=true)=>zg2 (g:=g) hp hl;have hf12:=hs.fn;have hp45:=hs.pts;obtain ⟨N,hN⟩:∃ N,N=P.funcs.length:=⟨_,rfl⟩;obtain ⟨M,hM⟩:∃ M,M=(pts P).length:=⟨_,rfl⟩;have HN:=hid hN;have HMM:=hid hM;rw[← hN] at C4 c4 hf12;rw[← hM] at HPT hp45;have hf9:(N:Int)≤12:=by omega
 have hp9:(M:Int)≤4500:=by omega
 clear h r4 hs hg hN hM;go_enter Tryz.func84,Tryz.ntmps84;go_wp2_with fail;clear c4
 go_loopw [14] (fun kv wr=>∃ k:Nat,k≤N∧kv=int i64 (k:Int)∧Box (za [] w wr)∧Box (∀ j,j<k→ZX P (zf P j)=true)) (fun kv _=>N - (intOf kv).toNat)
 case atStart=>exact ⟨0,by omega,rfl,hid (za.refl _ _),hid fun j hj=>by omega⟩
 case round=>
  obtain ⟨k,hk,rfl,HK,HA⟩:=hrel;by_cases hlt:k<N
  ·have hlt':(k:Int)<(N:Int):=by omega
   have hkf:k<P.funcs.length:=by rw[← HN.o];exact hlt
   obtain ⟨fb,fo,rfl,hfu0⟩:=HR.o.at (zi (d:=⟨0,[],[]⟩) hkf);have hfu:FuC w fb (fo+k * 3) (zf P k):=hfu0;have HC:=hid (zgk (PrC.stays _ _ _ _ _ HK.o HP.o) (FuC.stays _ _ _ _ _ HK.o hfu));have c4:=C4.o _ HK.o;have HB1:=hid (B1.o k hkf);clear hfu0 hfu hkf;cases hg:ZX P (zf P k) with
   | true=>
    rw[hg] at HC;have HA2:Box (∀ j,j<k+1→ZX P (zf P j)=true):=hid fun j hj=>by
     by_cases e:j<k
     ·exact HA.o j e
     ·obtain rfl:j=k:=by omega
      exact hg
    clear hg;go_wp2_with fail;refine HC.o.mono ?_;rintro e w2 ⟨rfl,k2⟩;have K2:=hid (HK.o.quiet k2);clear k2;go_wp2_with fail;go_roundw
    case rel=>exact ⟨k+1,by omega,by go_num,K2,HA2⟩
    case measure=>simp[intOf];omega
   | false=>
    rw[hg] at HC;have HQ:=hid (HB1.o hg);clear hg;go_wp2_with fail;refine HC.o.mono ?_;rintro e w2 ⟨rfl,k2⟩;have K2:=hid (HK.o.quiet k2);clear k2;go_wp2_with fail;refine (HRF.o _).mono ?_;rintro e w3 ⟨p,rfl,h1,h2⟩;go_wp2_with fail;go_ret;exact jb.no HQ.o ⟨p,rfl,h1,K2.o.quiet h2⟩
  ·obtain rfl:N=k:=by omega
   have HALL:Box (∀ k,k<P.funcs.length→ZX P (zf P k)=true):=hid fun j hj=>HA.o j (by rw[HN.o];exact hj);clear HA;go_wp2_with fail;refine (HPT.o _ HK.o).mono ?_;rintro e w2 ⟨la,lp,rfl,hr,k2⟩;have HRW:=hid hr;have K2:=hid (HK.o.quiet k2);clear hr k2;go_wp2_with fail
   go_loopw [31] (fun kv wr=>∃ k:Nat,k≤M∧kv=int i64 (k:Int)∧Box (za [] w2 wr)∧Box (∀ j x,j<k→(pts P)[j]? = some x→ptT P g x=true)) (fun kv _=>M - (intOf kv).toNat)
   case atStart=>exact ⟨0,by omega,rfl,hid (za.refl _ _),hid fun j x hj=>by omega⟩
   case round=>
    obtain ⟨k,hk,rfl,HK,HA⟩:=hrel;by_cases hlt:k<M
    ·have hlt':(k:Int)<(M:Int):=by omega
     obtain ⟨f,b,i,hpt,hq⟩:=za0 (p:=P) (n:=k) (by rw[← HMM.o];exact hlt);obtain ⟨lb,lo,rfl,hc⟩:=HRW.o.at hq;have d0:=zb HK.o hc.c0;have d1:=zb HK.o hc.c1;have d2:=zb HK.o hc.c2;have KA:=hid (HK.o.quiet (za.alloc [] wr (.cells #[int i64 (f:Int),int i64 (b:Int),int i64 (i:Int)] 99)));have hn:=zd wr (.cells #[int i64 (f:Int),int i64 (b:Int),int i64 (i:Int)] 99);have HC:=hid (zhj (PrC.stays _ _ _ _ _ (K2.o.quiet KA.o) HP.o) (HG.o _ (K2.o.quiet KA.o)) hpt);have HQQ:=hid hq;have HNW:=hid hn;have HB2:=hid (B2.o HALL.o k (f,b,i) hq HA.o);clear hc hq hpt hn;cases hg:ptT P g (f,b,i) with
     | true=>
      rw[hg] at HC;have HA2:Box (∀ j x,j<k+1→(pts P)[j]? = some x→ptT P g x=true):=hid fun j x hj hx=>by
       by_cases e:j<k
       ·exact HA.o j x e hx
       ·obtain rfl:j=k:=by omega
        rw[HQQ.o] at hx;cases hx;exact hg
      clear hg;go_wp2_with fail;refine HC.o.mono ?_;rintro e w4 ⟨rfl,k4⟩;have K4:=hid (KA.o.quiet k4);clear k4;go_wp2_with fail;go_roundw
      case rel=>exact ⟨k+1,by omega,by go_num,K4,HA2⟩
      case measure=>simp[intOf];omega
     | false=>
      rw[hg] at HC;have HQ:=hid (HB2.o hg);clear hg;go_wp2_with fail;refine HC.o.mono ?_;rintro e w4 ⟨rfl,k4⟩;have K4:=hid (K2.o.quiet (KA.o.quiet k4));have h4:=ze HNW.o k4;have s0:=zc h4 0;have s1:=zc h4 1;have s2:=zc h4 2;clear k4 h4;go_wp2_with fail;refine (HRA.o _ _ _ _).mono ?_;rintro e w5 ⟨p,rfl,h1,h2⟩;go_wp2_with fail;go_ret;exact jb.no HQ.o ⟨p,rfl,h1,K4.o.quiet h2⟩
    ·obtain rfl:M=k:=by omega
     have HE:=hid (B3.o HALL.o (fun j x hx=>HA.o j x (by rw[HMM.o];exact (List.getElem?_eq_some_iff.1 hx).1) hx));have HC:=hid (HM.o wr (K2.o.quiet HK.o));cases hm:jY P with
     | true=>
      rw[hm] at HE HC;have HQ:Box (QV P g=none):=hid (by rw[HE.o];rfl);clear hm;go_wp2_with fail;refine HC.o.mono ?_;rintro e w4 ⟨rfl,k4⟩;have K4:=hid ((K2.o.quiet HK.o).quiet k4);clear k4;go_wp2_with fail;go_ret;exact jb.yes HQ.o ⟨rfl,K4.o⟩
     | false=>
      rw[hm] at HE HC;have HQ:Box (QV P g=some (-1,0,0)):=hid (by rw[HE.o];rfl);clear hm;go_wp2_with fail;refine HC.o.mono ?_;rintro e w4 ⟨rfl,k4⟩;have K4:=hid ((K2.o.quiet HK.o).quiet k4);clear k4;go_wp2_with fail;refine (HRF.o _).mono ?_;rintro e w5 ⟨p,rfl,h1,h2⟩;go_wp2_with fail;go_ret;exact jb.no HQ.o ⟨p,rfl,h1,K4.o.quiet h2⟩
theorem Jt(h:zP P=none):zA P=true:=by
 cases ht:zA P with
 | true=>rfl
 | false=>rw[Qt ht] at h;cases h
theorem zbw(h:zP P=none){k:Nat}(hk:k<P.funcs.length):jD P k=true:=by
 have ht:=Jt h;unfold zP at h;rw[if_pos ht] at h;cases hf:(List.range P.funcs.length).findSome? (Qu P) with
 | some q=>rw[hf] at h;cases h
 | none=>
  have h1:=List.findSome?_eq_none_iff.1 hf k (List.mem_range.2 hk);cases hh:jD P k with
  | true=>rfl
  | false=>rw[Ja hh] at h1;cases h1
theorem JU(k:Int)(n:Nat)(w:World):Calls Tryz.prog 194 #[int i64 k,int i64 (n:Int)] w fun e w'=>e=.returned (.bool (inB k n))∧w'=w:=by
 by_cases h1:0≤k
 ·by_cases h2:k<(n:Int)
  ·rw[JQ h1 h2]
   go_enter Tryz.func194,Tryz.ntmps194;go_wp2;go_ret;exact ⟨rfl,rfl⟩
  ·rw[zaS (fun h=>h2 h.2)]
   have hd:decide (k<(n:Int))=false:=decide_eq_false h2;clear h2;go_enter Tryz.func194,Tryz.ntmps194;go_wp2;go_ret;exact ⟨rfl,rfl⟩
 ·rw[zaS (fun h=>h1 h.1)]
  have hd:decide (0≤k)=false:=decide_eq_false h1;go_enter Tryz.func194,Tryz.ntmps194;go_wp2;go_ret;exact ⟨rfl,rfl⟩
theorem zF(k:Int)(n:Nat)(w:World){r:Bool}(hr:inB k n=r):Calls Tryz.prog 194 #[int i64 k,int i64 (n:Int)] w fun e w'=>e=.returned (.bool r)∧za [] w w':=by
 subst hr;refine (JU k n w).mono ?_;rintro e w' ⟨rfl,rfl⟩;exact ⟨rfl,za.refl _ _⟩
theorem Ju{b o c:Nat}{ad:Option Addr}{x:Int × Int}{l:List (Int × Int)}(h:zv w 2 TyC (some ⟨b,o,none⟩) (x :: l))(had:ad=if c=0 then some ⟨b,o,none⟩ else some ⟨b,o+2,none⟩)(hc:l.length≤c):zv w 2 TyC ad l:=by
 rcases h with h | ⟨b',o',e,h⟩
 ·cases h
 ·cases e
  by_cases h0:c=0
  ·left
   exact List.length_eq_zero_iff.1 (by omega)
  ·rw[if_neg h0] at had
   refine .inr ⟨b,o+2,had,fun j y hy=> ?_⟩;have:=h (j+1) y (by simpa using hy)
   rwa [show o+(j+1) * 2=o+2+j * 2 by omega] at this
theorem zh8{a b:Option Addr}{la lb:List (Int × Int)}(ha:zv w 2 TyC a la)(hb:zv w 2 TyC b lb)(ca cb:Nat)(hl:la.length≤maxLen):Calls Tryz.prog 239 #[.slice a la.length ca,.slice b lb.length cb] w fun e w'=>e=.returned (.bool (decide (la=lb)))∧za [] w w':=by
 by_cases hn:la.length=lb.length
 case neg=>
  have hne:decide (la=lb)=false:=by
   rw[decide_eq_false_iff_not];exact fun e=>hn (by rw[e])
  rw[hne];obtain ⟨n,hn1⟩:∃ n,n=la.length:=⟨_,rfl⟩;obtain ⟨m,hm1⟩:∃ n,n=lb.length:=⟨_,rfl⟩;rw[← hn1, ← hm1] at hn ⊢;have hi:((n:Int) != (m:Int))=true:=by rw[bne_iff_ne];omega
  clear hn1 hm1 ha hb hl hn;go_enter Tryz.func239,Tryz.ntmps239;go_wp2_with fail;go_ret;exact ⟨rfl,za.refl _ _⟩
 have HE:Box (∀ (x y:Int × Int) (k:Nat),la[k]? = some x→lb[k]? = some y→x≠y→decide (la=lb)=false):=hid fun x y k h1 h2 h3=>by
  rw[decide_eq_false_iff_not];intro e;rw[e] at h1;rw[h1] at h2;exact h3 (Option.some.inj h2)
 have HT:Box ((∀ (k:Nat),k<la.length→la[k]? = lb[k]?)→decide (la=lb)=true):=hid fun h=>by
  rw[decide_eq_true_iff];apply List.ext_getElem?;intro k;by_cases hk:k<la.length
  ·exact h k hk
  ·rw[List.getElem?_eq_none (by omega),List.getElem?_eq_none (by omega)]
 have HA:=hid ha;have HB:=hid hb;have HNL:=hid hn;obtain ⟨n,hn1⟩:∃ n,n=la.length:=⟨_,rfl⟩;have HN:=hid hn1;rw[← hn, ← hn1];rw[← hn1] at hl;unfold maxLen at hl;clear hn hn1 ha hb;have hi:((n:Int) != (n:Int))=false:=by simp
 go_enter Tryz.func239,Tryz.ntmps239;go_wp2_with fail;clear hi
 go_loopw [13] (fun kv wr=>∃ k:Nat,k≤n∧kv=int i64 (k:Int)∧Box (za [] w wr)∧Box (∀ (j:Nat),j<k→la[j]? = lb[j]?)) (fun kv _=>n - (intOf kv).toNat)
 case atStart=>exact ⟨0,by omega,rfl,hid (za.refl _ _),hid fun j hj=>by omega⟩
 case round=>
  obtain ⟨k,hk,rfl,HK,HJ⟩:=hrel;by_cases hlt:k<n
  ·have hlt':(k:Int)<(n:Int):=by omega
   have g1:=zi (l:=la) (k:=k) (d:=(0,0)) (by rw[← HN.o];exact hlt);have g2:=zi (l:=lb) (k:=k) (d:=(0,0)) (by rw[← HNL.o, ← HN.o];exact hlt);obtain ⟨b1,o1,rfl,t1⟩:=HA.o.at g1;obtain ⟨b2,o2,rfl,t2⟩:=HB.o.at g2;have c0:=zb HK.o t1.c0.1;have c1:=zb HK.o t1.c1.1;have d0:=zb HK.o t2.c0.1;have d1:=zb HK.o t2.c1.1;have HG:=hid (And.intro g1 g2);clear t1 t2 g1 g2;generalize la.getD k (0,0)=x at *;generalize lb.getD k (0,0)=y at *;have hlt_k:(k:Int)<(n:Int):=hlt';have HQ:Box (tyE x y=tyE (x.1,x.2) (y.1,y.2)):=hid rfl;cases hxy:tyE (x.1,x.2) (y.1,y.2) with
   | true=>
    have HXY:Box (x=y):=hid (zjh.1 hxy);go_upto_region 6 with fail;refine zp (W0:=wr) 26 [.slice (some ⟨b1,o1,none⟩) n ca,int i64 (k:Int),pointer (some ⟨b1,o1+k * 2,none⟩),agg #[int i64 x.1,int i64 x.2],.slice (some ⟨b2,o2,none⟩) n cb,int i64 (k:Int),pointer (some ⟨b2,o2+k * 2,none⟩),agg #[int i64 y.1,int i64 y.2],.bool false] (by kernel_rfl) (by rfl) (by kernel_rfl) (za.refl _ _) (fun A hA=> ?_);simp only[zE,Act.put,sTA,sC0,sCS] at hA;subst hA;refine ⟨gR (gR (gY (fun _ _=>Q8 rfl rfl rfl hlt_k) (gY (fun _ k9=>qL (zb k9 c0) (zb k9 c1) rfl rfl) (gR (gR (gY (fun _ _=>Q8 rfl rfl rfl hlt_k) (gY (fun _ k9=>qL (zb k9 d0) (zb k9 d1) rfl rfl) (gY (fun _ _=>zgc rfl rfl rfl hxy) (zm.nil))))))))),fun w8 k8=> ?_⟩;go_wp2_with fail;go_roundw
    case rel=>
     refine ⟨k+1,by omega,by go_num,hid (HK.o.quiet k8),hid fun j hj=> ?_⟩;by_cases hjk:j=k
     ·subst hjk
      rw[HG.o.1,HG.o.2,HXY.o]
     ·exact HJ.o j (by omega)
    case measure=>simp[intOf];omega
   | false=>
    have HXY:Box (x≠y):=hid fun e=>by
     have:=zjh.2 e;rw[HQ.o,hxy] at this;cases this
    go_upto_region 6 with fail;refine zp (W0:=wr) 26 [.slice (some ⟨b1,o1,none⟩) n ca,int i64 (k:Int),pointer (some ⟨b1,o1+k * 2,none⟩),agg #[int i64 x.1,int i64 x.2],.slice (some ⟨b2,o2,none⟩) n cb,int i64 (k:Int),pointer (some ⟨b2,o2+k * 2,none⟩),agg #[int i64 y.1,int i64 y.2],.bool true] (by kernel_rfl) (by rfl) (by kernel_rfl) (za.refl _ _) (fun A hA=> ?_);simp only[zE,Act.put,sTA,sC0,sCS] at hA;subst hA;refine ⟨gR (gR (gY (fun _ _=>Q8 rfl rfl rfl hlt_k) (gY (fun _ k9=>qL (zb k9 c0) (zb k9 c1) rfl rfl) (gR (gR (gY (fun _ _=>Q8 rfl rfl rfl hlt_k) (gY (fun _ k9=>qL (zb k9 d0) (zb k9 d1) rfl rfl) (gY (fun _ _=>zgc rfl rfl rfl hxy) (zm.nil))))))))),fun w8 k8=> ?_⟩;go_wp2_with fail;go_ret;exact ⟨by rw[HE.o x y k HG.o.1 HG.o.2 HXY.o];rfl,HK.o.quiet k8⟩
  ·obtain rfl:k=n:=by omega
   go_wp2_with fail;go_ret;exact ⟨by rw[HT.o fun j hj=>HJ.o j (by rw[HN.o];exact hj)];rfl,HK.o⟩
theorem ziZ{a b:Option Addr}{la lb:List (Int × Int)}(ha:zv w 2 TyC a la)(hb:zv w 2 TyC b lb)(ca cb:Nat)(hl:la.length≤maxLen){r:Bool}(hr:decide (la=lb)=r){n m:Nat}(hn:n=la.length)(hm:m=lb.length):Calls Tryz.prog 239 #[.slice a n ca,.slice b m cb] w fun e w'=>e=.returned (.bool r)∧za [] w w':=by
 subst hr hn hm;exact zh8 ha hb ca cb hl
theorem zgD(h:PrC w pb po P)(f r n:Int):Calls Tryz.prog 195 #[pointer (some ⟨pb,po,none⟩),int i64 f,agg #[int i64 1,int i64 r],int i64 n] w fun e w'=>e=.returned (.bool (isM P r f n))∧za [] w w':=by
 have ka:=za.alloc [] w (.cells #[int i64 1,int i64 r] 52);have hq:=zd w (.cells #[int i64 1,int i64 r] 52);have h':=PrC.stays _ _ _ _ _ ka h;obtain ⟨fa,fp,c4,fr,_⟩:=h'.c4;obtain ⟨sa,sp,c1,sr,_⟩:=h'.c1;obtain ⟨res,hres⟩:∃ x,x=isM P r f n:=⟨_,rfl⟩;rw[← hres];unfold isM at hres;have HRES:=hid hres;have KA:=hid ka;have HFR:=hid fr;have HSR:=hid sr;clear h h' ka hres fr sr;have q0:=zc hq 0;have q1:=zc hq 1;obtain ⟨FN,hFN⟩:∃ x,x=P.funcs.length:=⟨_,rfl⟩;obtain ⟨SN,hSN⟩:∃ x,x=P.sigs.length:=⟨_,rfl⟩;rw[← hFN] at c4 HRES;rw[← hSN] at c1 HRES;have HFN:=hid hFN;have HSN:=hid hSN;clear hFN hSN hq;obtain ⟨W,hW⟩:∃ W,W=w.alloc (.cells #[int i64 1,int i64 r] 52):=⟨_,rfl⟩;have HW:=hid hW;rw[← hW] at c4 c1 q0 q1 KA HFR HSR;clear hW;go_enter Tryz.func195,Tryz.ntmps195;go_upto_region 1 with fail;rw[← HW.o];clear HW;generalize w.heap.size=q at *;cases hf:inB f FN with
 | false=>
  have HR:Box (res=false):=hid (by rw[HRES.o,hf];rfl);refine zp (W0:=W) 104 [int i64 f,pointer (some ⟨pb,po,none⟩),pointer (some ⟨pb,po,none⟩),pointer (some ⟨pb,po+4,none⟩),.slice fa FN fp,int i64 (FN:Int),.bool false,.bool true,.bool true,undef,undef,undef,undef,undef,undef,undef,undef,undef,undef,undef,undef,undef,undef,undef,.bool true,.bool true,undef,undef,undef,undef,undef,undef,undef,undef,.bool true] (by kernel_rfl) (by rfl) (by kernel_rfl) (za.refl _ _) (fun A hA=> ?_);simp only[zE,Act.put,sTA,sC0,sCS] at hA;subst hA;refine ⟨gR (gR (gR (gR (gY (fun _ k9=>jl (zb k9 c4) rfl rfl) (gY (fun _ _=>ZE rfl rfl) (zm.cons (zD (by rfl) 194 #[int i64 f,int i64 (FN:Int)] (fun w=>ql rfl rfl rfl rfl (zG _ _ w)) (fun w9 _=>zF f FN w9 hf)) (gY (fun _ _=>zae rfl rfl) (gR (gP (gP (gP (gP (gP (gP (gP (gP (gP (gP (gP (gP (gP (gP (gP (gR (gR (gP (gP (gP (gP (gP (gP (gP (gP (gR (zm.nil))))))))))))))))))))))))))))))))))),fun w8 k8=> ?_⟩;go_wp2_with fail;go_ret;exact ⟨by rw[HR.o];rfl,KA.o.quiet k8⟩
 | true=>
 obtain ⟨f0,f1⟩:=z6.1 hf;obtain ⟨K,rfl⟩:∃ K:Nat,f=(K:Int):=⟨f.toNat,by omega⟩;have eK:((K:Int)).toNat=K:=by omega
 rw[hf,Bool.true_and,eK] at HRES;have hlt_K:(K:Int)<(FN:Int):=f1;obtain ⟨fb,fo,rfl,hfu⟩:=HFR.o.at (zi (l:=P.funcs) (k:=K) (d:=⟨0,[],[]⟩) (by rw[← HFN.o];omega));have g0:W.cell? ⟨fb,fo+K * 3,none⟩=some (int i64 (zf P K).sig):=hfu.c0.1;clear hfu f0 eK HFN HFR;obtain ⟨sn,hsn⟩:∃ x,x=(zf P K).sig:=⟨_,rfl⟩;rw[← hsn] at g0 HRES;clear hsn;cases hs:inB sn SN with
 | false=>
  have HR:Box (res=false):=hid (by rw[HRES.o,hs];rfl);refine zp (W0:=W) 104 [int i64 (K:Int),pointer (some ⟨pb,po,none⟩),pointer (some ⟨pb,po,none⟩),pointer (some ⟨pb,po+4,none⟩),.slice (some ⟨fb,fo,none⟩) FN fp,int i64 (FN:Int),.bool true,.bool false,.bool false,pointer (some ⟨pb,po,none⟩),pointer (some ⟨pb,po,none⟩),pointer (some ⟨pb,po+4,none⟩),.slice (some ⟨fb,fo,none⟩) FN fp,int i64 (K:Int),pointer (some ⟨fb,fo+K * 3,none⟩),pointer (some ⟨fb,fo+K * 3,none⟩),int i64 sn,pointer (some ⟨pb,po,none⟩),pointer (some ⟨pb,po,none⟩),pointer (some ⟨pb,po+1,none⟩),.slice sa SN sp,int i64 (SN:Int),.bool false,.bool true,.bool true,.bool true,undef,undef,undef,undef,undef,undef,undef,undef,.bool true] (by kernel_rfl) (by rfl) (by kernel_rfl) (za.refl _ _) (fun A hA=> ?_);simp only[zE,Act.put,sTA,sC0,sCS] at hA;subst hA;refine ⟨gR (gR (gR (gR (gY (fun _ k9=>jl (zb k9 c4) rfl rfl) (gY (fun _ _=>ZE rfl rfl) (zm.cons (zD (by rfl) 194 #[int i64 (K:Int),int i64 (FN:Int)] (fun w=>ql rfl rfl rfl rfl (zG _ _ w)) (fun w9 _=>zF (K:Int) FN w9 hf)) (gY (fun _ _=>zae rfl rfl) (gR (gR (gR (gR (gY (fun _ k9=>jl (zb k9 c4) rfl rfl) (gR (gY (fun _ _=>Qw rfl rfl rfl hlt_K) (gR (gY (fun _ k9=>zZ (zb k9 g0) rfl rfl) (gR (gR (gR (gY (fun _ k9=>qX (zb k9 c1) rfl rfl) (gY (fun _ _=>jo rfl rfl) (zm.cons (zD (by rfl) 194 #[int i64 sn,int i64 (SN:Int)] (fun w=>ql rfl rfl rfl rfl (zG _ _ w)) (fun w9 _=>zF sn SN w9 hs)) (gY (fun _ _=>zae rfl rfl) (gR (gR (gP (gP (gP (gP (gP (gP (gP (gP (gR (zm.nil))))))))))))))))))))))))))))))))))),fun w8 k8=> ?_⟩;go_wp2_with fail;go_ret;exact ⟨by rw[HR.o];rfl,KA.o.quiet k8⟩
 | true=>
 obtain ⟨s0,s1⟩:=z6.1 hs;obtain ⟨J,rfl⟩:∃ J:Nat,sn=(J:Int):=⟨sn.toNat,by omega⟩;rw[hs,Bool.true_and] at HRES;have hlt_J:(J:Int)<(SN:Int):=s1;cases hn:inB n SN with
 | false=>
  have HR:Box (res=false):=hid (by rw[HRES.o,hn];rfl);refine zp (W0:=W) 104 [int i64 (K:Int),pointer (some ⟨pb,po,none⟩),pointer (some ⟨pb,po,none⟩),pointer (some ⟨pb,po+4,none⟩),.slice (some ⟨fb,fo,none⟩) FN fp,int i64 (FN:Int),.bool true,.bool false,.bool false,pointer (some ⟨pb,po,none⟩),pointer (some ⟨pb,po,none⟩),pointer (some ⟨pb,po+4,none⟩),.slice (some ⟨fb,fo,none⟩) FN fp,int i64 (K:Int),pointer (some ⟨fb,fo+K * 3,none⟩),pointer (some ⟨fb,fo+K * 3,none⟩),int i64 (J:Int),pointer (some ⟨pb,po,none⟩),pointer (some ⟨pb,po,none⟩),pointer (some ⟨pb,po+1,none⟩),.slice sa SN sp,int i64 (SN:Int),.bool true,.bool false,.bool false,.bool false,int i64 n,pointer (some ⟨pb,po,none⟩),pointer (some ⟨pb,po,none⟩),pointer (some ⟨pb,po+1,none⟩),.slice sa SN sp,int i64 (SN:Int),.bool false,.bool true,.bool true] (by kernel_rfl) (by rfl) (by kernel_rfl) (za.refl _ _) (fun A hA=> ?_);simp only[zE,Act.put,sTA,sC0,sCS] at hA;subst hA;refine ⟨gR (gR (gR (gR (gY (fun _ k9=>jl (zb k9 c4) rfl rfl) (gY (fun _ _=>ZE rfl rfl) (zm.cons (zD (by rfl) 194 #[int i64 (K:Int),int i64 (FN:Int)] (fun w=>ql rfl rfl rfl rfl (zG _ _ w)) (fun w9 _=>zF (K:Int) FN w9 hf)) (gY (fun _ _=>zae rfl rfl) (gR (gR (gR (gR (gY (fun _ k9=>jl (zb k9 c4) rfl rfl) (gR (gY (fun _ _=>Qw rfl rfl rfl hlt_K) (gR (gY (fun _ k9=>zZ (zb k9 g0) rfl rfl) (gR (gR (gR (gY (fun _ k9=>qX (zb k9 c1) rfl rfl) (gY (fun _ _=>jo rfl rfl) (zm.cons (zD (by rfl) 194 #[int i64 (J:Int),int i64 (SN:Int)] (fun w=>ql rfl rfl rfl rfl (zG _ _ w)) (fun w9 _=>zF (J:Int) SN w9 hs)) (gY (fun _ _=>zae rfl rfl) (gR (gR (gR (gR (gR (gR (gY (fun _ k9=>qX (zb k9 c1) rfl rfl) (gY (fun _ _=>jo rfl rfl) (zm.cons (zD (by rfl) 194 #[int i64 n,int i64 (SN:Int)] (fun w=>ql rfl rfl rfl rfl (zG _ _ w)) (fun w9 _=>zF n SN w9 hn)) (gY (fun _ _=>zae rfl rfl) (gR (zm.nil))))))))))))))))))))))))))))))))))),fun w8 k8=> ?_⟩;go_wp2_with fail;go_ret;exact ⟨by rw[HR.o];rfl,KA.o.quiet k8⟩
 | true=>
 obtain ⟨n0,n1⟩:=z6.1 hn;obtain ⟨I,rfl⟩:∃ I:Nat,n=(I:Int):=⟨n.toNat,by omega⟩;rw[hn,Bool.true_and] at HRES;have hlt_I:(I:Int)<(SN:Int):=n1;obtain ⟨sb,so,rfl,h1⟩:=HSR.o.at (zi (l:=P.sigs) (k:=J) (d:=([],0,0)) (by rw[← HSN.o];omega));obtain ⟨sb',so',e2,h2⟩:=HSR.o.at (zi (l:=P.sigs) (k:=I) (d:=([],0,0)) (by rw[← HSN.o];omega));cases e2;have HRES2:Box (res=mtB r (P.sigs.getD J ([],0,0)) (P.sigs.getD I ([],0,0))):=hid (by rw[HRES.o];unfold zj1;rw[Int.toNat_natCast,Int.toNat_natCast]);clear HRES HSR HSN s0 n0;generalize P.sigs.getD J ([],0,0)=A1 at *;generalize P.sigs.getD I ([],0,0)=A2 at *;obtain ⟨l1,y1,z1⟩:=A1;obtain ⟨l2,y2,z2⟩:=A2;obtain ⟨ta,tp,tc,tr,tl,tm⟩:=h1.c0;obtain ⟨ua,up,uc,ur,_⟩:=h2.c0;have a1:=h1.c1.1;have a2:=h1.c2.1;have b1:=h2.c1.1;have b2:=h2.c2.1;simp only at tc tr tl tm uc ur a1 a2 b1 b2;have HTR:=hid tr;have HUR:=hid ur;have HTL:=hid (And.intro tl tm);clear h1 h2 tr ur tl tm;refine zp (W0:=W) 104 [int i64 (K:Int),pointer (some ⟨pb,po,none⟩),pointer (some ⟨pb,po,none⟩),pointer (some ⟨pb,po+4,none⟩),.slice (some ⟨fb,fo,none⟩) FN fp,int i64 (FN:Int),.bool true,.bool false,.bool false,pointer (some ⟨pb,po,none⟩),pointer (some ⟨pb,po,none⟩),pointer (some ⟨pb,po+4,none⟩),.slice (some ⟨fb,fo,none⟩) FN fp,int i64 (K:Int),pointer (some ⟨fb,fo+K * 3,none⟩),pointer (some ⟨fb,fo+K * 3,none⟩),int i64 (J:Int),pointer (some ⟨pb,po,none⟩),pointer (some ⟨pb,po,none⟩),pointer (some ⟨pb,po+1,none⟩),.slice (some ⟨sb,so,none⟩) SN sp,int i64 (SN:Int),.bool true,.bool false,.bool false,.bool false,int i64 (I:Int),pointer (some ⟨pb,po,none⟩),pointer (some ⟨pb,po,none⟩),pointer (some ⟨pb,po+1,none⟩),.slice (some ⟨sb,so,none⟩) SN sp,int i64 (SN:Int),.bool true,.bool false,.bool false] (by kernel_rfl) (by rfl) (by kernel_rfl) (za.refl _ _) (fun A hA=> ?_);simp only[zE,Act.put,sTA,sC0,sCS] at hA;subst hA;refine ⟨gR (gR (gR (gR (gY (fun _ k9=>jl (zb k9 c4) rfl rfl) (gY (fun _ _=>ZE rfl rfl) (zm.cons (zD (by rfl) 194 #[int i64 (K:Int),int i64 (FN:Int)] (fun w=>ql rfl rfl rfl rfl (zG _ _ w)) (fun w9 _=>zF (K:Int) FN w9 hf)) (gY (fun _ _=>zae rfl rfl) (gR (gR (gR (gR (gY (fun _ k9=>jl (zb k9 c4) rfl rfl) (gR (gY (fun _ _=>Qw rfl rfl rfl hlt_K) (gR (gY (fun _ k9=>zZ (zb k9 g0) rfl rfl) (gR (gR (gR (gY (fun _ k9=>qX (zb k9 c1) rfl rfl) (gY (fun _ _=>jo rfl rfl) (zm.cons (zD (by rfl) 194 #[int i64 (J:Int),int i64 (SN:Int)] (fun w=>ql rfl rfl rfl rfl (zG _ _ w)) (fun w9 _=>zF (J:Int) SN w9 hs)) (gY (fun _ _=>zae rfl rfl) (gR (gR (gR (gR (gR (gR (gY (fun _ k9=>qX (zb k9 c1) rfl rfl) (gY (fun _ _=>jo rfl rfl) (zm.cons (zD (by rfl) 194 #[int i64 (I:Int),int i64 (SN:Int)] (fun w=>ql rfl rfl rfl rfl (zG _ _ w)) (fun w9 _=>zF (I:Int) SN w9 hn)) (gY (fun _ _=>zae rfl rfl) (gR (zm.nil))))))))))))))))))))))))))))))))))),fun w3 k3=> ?_⟩;have KZ:=hid (KA.o.quiet k3);have K3:=hid k3;replace c4:=zb k3 c4;replace c1:=zb k3 c1;replace g0:=zb k3 g0;replace q0:=zb k3 q0;replace q1:=zb k3 q1;replace tc:=zb k3 tc;replace uc:=zb k3 uc;replace a1:=zb k3 a1;replace a2:=zb k3 a2;replace b1:=zb k3 b1
 replace b2:=zb k3 b2;clear k3;go_upto_region 3 with fail;refine zp (W0:=w3) 104 [pointer (some ⟨pb,po,none⟩),pointer (some ⟨pb,po,none⟩),pointer (some ⟨pb,po+1,none⟩),.slice (some ⟨sb,so,none⟩) SN sp,pointer (some ⟨pb,po,none⟩),pointer (some ⟨pb,po,none⟩),pointer (some ⟨pb,po+4,none⟩),.slice (some ⟨fb,fo,none⟩) FN fp,int i64 (K:Int),pointer (some ⟨fb,fo+K * 3,none⟩),pointer (some ⟨fb,fo+K * 3,none⟩),int i64 (J:Int),pointer (some ⟨sb,so+J * 3,none⟩),pointer (some ⟨pb,po,none⟩),pointer (some ⟨pb,po,none⟩),pointer (some ⟨pb,po+1,none⟩),.slice (some ⟨sb,so,none⟩) SN sp,int i64 (I:Int),pointer (some ⟨sb,so+I * 3,none⟩),pointer (some ⟨sb,so+J * 3,none⟩),pointer (some ⟨sb,so+I * 3,none⟩)] (by kernel_rfl) (by rfl) (by kernel_rfl) (za.refl _ _) (fun A hA=> ?_);simp only[zE,Act.put,sTA,sC0,sCS] at hA;subst hA;refine ⟨gR (gR (gR (gY (fun _ k9=>qX (zb k9 c1) rfl rfl) (gR (gR (gR (gY (fun _ k9=>jl (zb k9 c4) rfl rfl) (gR (gY (fun _ _=>Qw rfl rfl rfl hlt_K) (gR (gY (fun _ k9=>zZ (zb k9 g0) rfl rfl) (gY (fun _ _=>za4 rfl rfl rfl hlt_J) (gR (gR (gR (gY (fun _ k9=>qX (zb k9 c1) rfl rfl) (gR (gY (fun _ _=>za4 rfl rfl rfl hlt_I) (gR (gR (zm.nil))))))))))))))))))))),fun w4 k4=> ?_⟩;have KY:=hid (KZ.o.quiet k4);have K4:=hid (K3.o.quiet k4);replace q0:=zb k4 q0;replace q1:=zb k4 q1;replace tc:=zb k4 tc;replace uc:=zb k4 uc;replace a1:=zb k4 a1;replace a2:=zb k4 a2;replace b1:=zb k4 b1;replace b2:=zb k4 b2;clear k4 c4 c1 g0 K3 KZ;go_upto_region 4 with fail;cases l1 with
 | nil=>
  have HR:Box (res=false):=hid (by rw[HRES2.o];unfold mtB;simp);clear HRES2;obtain ⟨Z,hZ⟩:∃ Z:Nat,Z=0:=⟨_,rfl⟩;rw[List.length_nil, ← hZ] at tc;have hz:decide ((0:Int)<(Z:Int))=false:=by rw[hZ];decide
  clear hZ;refine zp (W0:=w4) 104 [pointer (some ⟨sb,so+J * 3,none⟩),pointer (some ⟨sb,so+J * 3,none⟩),pointer (some ⟨sb,so+J * 3,none⟩),.slice ta Z tp,int i64 (Z:Int),.bool false,.bool false,undef,undef,undef,undef,undef,undef,undef,undef,.bool false,.bool false,undef,undef,undef,undef,undef,undef,undef,undef,undef,undef,.bool false,.bool false,undef,undef,undef,undef,undef,undef,undef,undef,undef,.bool false,.bool false] (by kernel_rfl) (by rfl) (by kernel_rfl) (za.refl _ _) (fun A hA=> ?_);simp only[zE,Act.put,sTA,sC0,sCS] at hA;subst hA;refine ⟨gR (gR (gR (gY (fun _ k9=>q9 (zb k9 tc) rfl rfl) (gY (fun _ _=>ZC rfl rfl) (gY (fun _ _=>za2 rfl rfl rfl hz) (gR (gP (gP (gP (gP (gP (gP (gP (gP (gR (gR (gP (gP (gP (gP (gP (gP (gP (gP (gP (gP (gR (gR (gP (gP (gP (gP (gP (gP (gP (gP (gP (gR (gR (zm.nil)))))))))))))))))))))))))))))))))))))))),fun w8 k8=> ?_⟩;go_wp2_with fail;go_ret;exact ⟨by rw[HR.o];rfl,KY.o.quiet k8⟩
 | cons x l=>
 obtain ⟨L,hL⟩:∃ L,L=l.length:=⟨_,rfl⟩;have HL:=hid hL;rw[List.length_cons, ← hL] at tc;have htl:=HTL.o.1;rw[List.length_cons, ← hL] at htl;obtain ⟨C,hC⟩:∃ C,tp=C+1:=⟨tp - 1,by omega⟩;have hLC:l.length≤C:=by omega
 clear hL htl;have hpos:decide ((0:Int)<((L+1:Nat):Int))=true:=decide_eq_true (by omega);obtain ⟨tb,tq,rfl,tx⟩:=HTR.o.at (j:=0) (y:=x) rfl;obtain ⟨ad,had⟩:∃ ad:Option Addr,ad=if C=0 then some ⟨tb,tq,none⟩ else some ⟨tb,tq+2,none⟩:=⟨_,rfl⟩
 have x0:=zb K4.o tx.c0.1;have x1:=zb K4.o tx.c1.1;rw[Nat.zero_mul,Nat.add_zero] at x0 x1;clear tx;obtain ⟨x0v,x1v⟩:=x;simp only at x0 x1;have hl0:(0:Int)<((L+1:Nat):Int):=by omega
 obtain ⟨M,hM⟩:∃ M,M=L+1:=⟨_,rfl⟩;rw[← hM] at tc hpos hl0;have HM:=hid hM;cases hx:tyE (x0v,x1v) (1,r) with
 | false=>
  have HR:Box (res=false):=hid (by
   rw[HRES2.o];unfold mtB;rw[Bool.and_eq_false_iff];left;rw[decide_eq_false_iff_not];intro e;have:=(List.cons.inj e).1;rw[zjh.2 this] at hx
   cases hx)
  clear HRES2;refine zp (W0:=w4) 104 [pointer (some ⟨sb,so+J * 3,none⟩),pointer (some ⟨sb,so+J * 3,none⟩),pointer (some ⟨sb,so+J * 3,none⟩),.slice (some ⟨tb,tq,none⟩) M tp,int i64 (M:Int),.bool true,.bool true,pointer (some ⟨sb,so+J * 3,none⟩),pointer (some ⟨sb,so+J * 3,none⟩),pointer (some ⟨sb,so+J * 3,none⟩),.slice (some ⟨tb,tq,none⟩) M tp,pointer (some ⟨tb,tq,none⟩),agg #[int i64 x0v,int i64 x1v],agg #[int i64 1,int i64 r],.bool false,.bool false,.bool false,undef,undef,undef,undef,undef,undef,undef,undef,undef,undef,.bool false,.bool false,undef,undef,undef,undef,undef,undef,undef,undef,undef,.bool false,.bool false] (by kernel_rfl) (by rfl) (by kernel_rfl) (za.refl _ _) (fun A hA=> ?_);simp only[zE,Act.put,sTA,sC0,sCS] at hA;subst hA;refine ⟨gR (gR (gR (gY (fun _ k9=>q9 (zb k9 tc) rfl rfl) (gY (fun _ _=>ZC rfl rfl) (gY (fun _ _=>za2 rfl rfl rfl hpos) (gR (gR (gR (gR (gY (fun _ k9=>q9 (zb k9 tc) rfl rfl) (gY (fun _ _=>zj0 rfl rfl rfl hl0) (gY (fun _ k9=>qL (zb k9 x0) (zb k9 x1) rfl rfl) (gY (fun _ k9=>qL (zb k9 q0) (zb k9 q1) rfl rfl) (gY (fun _ _=>ze8 rfl rfl rfl hx) (gR (gR (gP (gP (gP (gP (gP (gP (gP (gP (gP (gP (gR (gR (gP (gP (gP (gP (gP (gP (gP (gP (gP (gR (gR (zm.nil)))))))))))))))))))))))))))))))))))))))),fun w8 k8=> ?_⟩;go_wp2_with fail;go_ret;exact ⟨by rw[HR.o];rfl,KY.o.quiet k8⟩
 | true=>
 have HXE:=hid (zjh.1 hx);have hul:=uc;cases he:decide (l=l2) with
 | false=>
  have HR:Box (res=false):=hid (by
   rw[HRES2.o];unfold mtB;rw[Bool.and_eq_false_iff];left;rw[decide_eq_false_iff_not] at he ⊢
   exact fun e=>he (List.cons.inj e).2)
  clear HRES2;have HSQ:=hid fun (w9:World) (k9:za [] w4 w9)=>ziZ (zv.quiet (Ju HTR.o had hLC) TyC.stays (K4.o.quiet k9)) (zv.quiet HUR.o TyC.stays (K4.o.quiet k9)) C up (by have:=HTL.o.2;simp at this;omega) he HL.o rfl;refine zp (W0:=w4) 104 [pointer (some ⟨sb,so+J * 3,none⟩),pointer (some ⟨sb,so+J * 3,none⟩),pointer (some ⟨sb,so+J * 3,none⟩),.slice (some ⟨tb,tq,none⟩) M tp,int i64 (M:Int),.bool true,.bool true,pointer (some ⟨sb,so+J * 3,none⟩),pointer (some ⟨sb,so+J * 3,none⟩),pointer (some ⟨sb,so+J * 3,none⟩),.slice (some ⟨tb,tq,none⟩) M tp,pointer (some ⟨tb,tq,none⟩),agg #[int i64 x0v,int i64 x1v],agg #[int i64 1,int i64 r],.bool true,.bool true,.bool true,pointer (some ⟨sb,so+J * 3,none⟩),pointer (some ⟨sb,so+J * 3,none⟩),pointer (some ⟨sb,so+J * 3,none⟩),.slice (some ⟨tb,tq,none⟩) M tp,.slice ad L C,pointer (some ⟨sb,so+I * 3,none⟩),pointer (some ⟨sb,so+I * 3,none⟩),pointer (some ⟨sb,so+I * 3,none⟩),.slice ua l2.length up,.bool false,.bool false,.bool false,undef,undef,undef,undef,undef,undef,undef,undef,undef,.bool false,.bool false] (by kernel_rfl) (by rfl) (by kernel_rfl) (za.refl _ _) (fun A hA=> ?_);simp only[zE,Act.put,sTA,sC0,sCS] at hA;subst hA;refine ⟨gR (gR (gR (gY (fun _ k9=>q9 (zb k9 tc) rfl rfl) (gY (fun _ _=>ZC rfl rfl) (gY (fun _ _=>za2 rfl rfl rfl hpos) (gR (gR (gR (gR (gY (fun _ k9=>q9 (zb k9 tc) rfl rfl) (gY (fun _ _=>zj0 rfl rfl rfl hl0) (gY (fun _ k9=>qL (zb k9 x0) (zb k9 x1) rfl rfl) (gY (fun _ k9=>qL (zb k9 q0) (zb k9 q1) rfl rfl) (gY (fun _ _=>ze8 rfl rfl rfl hx) (gR (gR (gR (gR (gR (gY (fun _ k9=>q9 (zb k9 tc) rfl rfl) (gY (fun _ _=>zkf rfl rfl rfl hM hC had) (gR (gR (gR (gY (fun _ k9=>q9 (zb k9 uc) rfl rfl) (zm.cons (zD (by rfl) 239 #[.slice ad L C,.slice ua l2.length up] (fun w=>ql rfl rfl rfl rfl (Jz _ _ w)) (fun w9 k9=>HSQ.o w9 k9)) (gR (gR (gP (gP (gP (gP (gP (gP (gP (gP (gP (gR (gR (zm.nil)))))))))))))))))))))))))))))))))))))))),fun w8 k8=> ?_⟩;clear had;go_wp2_with fail;go_ret;exact ⟨by rw[HR.o];rfl,KY.o.quiet k8⟩
 | true=>
  have HSQ:=hid fun (w9:World) (k9:za [] w4 w9)=>ziZ (zv.quiet (Ju HTR.o had hLC) TyC.stays (K4.o.quiet k9)) (zv.quiet HUR.o TyC.stays (K4.o.quiet k9)) C up (by have:=HTL.o.2;simp at this;omega) he HL.o rfl
  have HR:Box (res=tyE (y1,z1) (y2,z2)):=hid (by
   rw[HRES2.o];unfold mtB;rw[decide_eq_true_eq] at he;rw[HXE.o,he]
   simp)
  clear HRES2;refine zp (W0:=w4) 104 [pointer (some ⟨sb,so+J * 3,none⟩),pointer (some ⟨sb,so+J * 3,none⟩),pointer (some ⟨sb,so+J * 3,none⟩),.slice (some ⟨tb,tq,none⟩) M tp,int i64 (M:Int),.bool true,.bool true,pointer (some ⟨sb,so+J * 3,none⟩),pointer (some ⟨sb,so+J * 3,none⟩),pointer (some ⟨sb,so+J * 3,none⟩),.slice (some ⟨tb,tq,none⟩) M tp,pointer (some ⟨tb,tq,none⟩),agg #[int i64 x0v,int i64 x1v],agg #[int i64 1,int i64 r],.bool true,.bool true,.bool true,pointer (some ⟨sb,so+J * 3,none⟩),pointer (some ⟨sb,so+J * 3,none⟩),pointer (some ⟨sb,so+J * 3,none⟩),.slice (some ⟨tb,tq,none⟩) M tp,.slice ad L C,pointer (some ⟨sb,so+I * 3,none⟩),pointer (some ⟨sb,so+I * 3,none⟩),pointer (some ⟨sb,so+I * 3,none⟩),.slice ua l2.length up,.bool true,.bool true,.bool true,pointer (some ⟨sb,so+J * 3,none⟩),pointer (some ⟨sb,so+J * 3,none⟩),pointer (some ⟨sb,so+J * 3+1,none⟩),agg #[int i64 y1,int i64 z1],pointer (some ⟨sb,so+I * 3,none⟩),pointer (some ⟨sb,so+I * 3,none⟩),pointer (some ⟨sb,so+I * 3+1,none⟩),agg #[int i64 y2,int i64 z2],.bool (tyE (y1,z1) (y2,z2)),.bool (tyE (y1,z1) (y2,z2)),.bool (tyE (y1,z1) (y2,z2))] (by kernel_rfl) (by rfl) (by kernel_rfl) (za.refl _ _) (fun A hA=> ?_);simp only[zE,Act.put,sTA,sC0,sCS] at hA;subst hA;refine ⟨gR (gR (gR (gY (fun _ k9=>q9 (zb k9 tc) rfl rfl) (gY (fun _ _=>ZC rfl rfl) (gY (fun _ _=>za2 rfl rfl rfl hpos) (gR (gR (gR (gR (gY (fun _ k9=>q9 (zb k9 tc) rfl rfl) (gY (fun _ _=>zj0 rfl rfl rfl hl0) (gY (fun _ k9=>qL (zb k9 x0) (zb k9 x1) rfl rfl) (gY (fun _ k9=>qL (zb k9 q0) (zb k9 q1) rfl rfl) (gY (fun _ _=>ze8 rfl rfl rfl hx) (gR (gR (gR (gR (gR (gY (fun _ k9=>q9 (zb k9 tc) rfl rfl) (gY (fun _ _=>zkf rfl rfl rfl hM hC had) (gR (gR (gR (gY (fun _ k9=>q9 (zb k9 uc) rfl rfl) (zm.cons (zD (by rfl) 239 #[.slice ad L C,.slice ua l2.length up] (fun w=>ql rfl rfl rfl rfl (Jz _ _ w)) (fun w9 k9=>HSQ.o w9 k9)) (gR (gR (gR (gR (gR (gY (fun _ k9=>qL (zb k9 a1) (zb k9 a2) rfl rfl) (gR (gR (gR (gY (fun _ k9=>qL (zb k9 b1) (zb k9 b2) rfl rfl) (gY (fun _ _=>ze8 rfl rfl rfl rfl) (gR (gR (zm.nil)))))))))))))))))))))))))))))))))))))))),fun w8 k8=> ?_⟩;clear had;go_wp2_with fail;go_ret;exact ⟨by rw[HR.o];rfl,KY.o.quiet k8⟩
theorem zcz(h:Z7 P=true){f:Nat}(hf:f<P.funcs.length):(zf P f).regs.length≤16∧0<(zf P f).blocks.length∧(zf P f).blocks.length≤12:=by
 have h1:fnB (zf P f)=true:=qY (Zp h) (zi hf);unfold fnB at h1;simp only[Bool.and_eq_true,decide_eq_true_eq] at h1;exact ⟨h1.1,h1.2.1,qq h1.2.2⟩
end Go.Proofs.YthflgjkmbakedaaGreatDoor
