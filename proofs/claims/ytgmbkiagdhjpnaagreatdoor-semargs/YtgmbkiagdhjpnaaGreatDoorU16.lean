import Derived.Test.YtgmbkiagdhjpnaaGreatDoorU08
import Derived.Test.YtgmbkiagdhjpnaaGreatDoorU15

namespace Go.Proofs.YtgmbkiagdhjpnaaGreatDoor
open Go.RowKit
open Go.Value (int pointer agg)
open Go.IntKind (i64)
set_option maxRecDepth 20000
set_option maxHeartbeats 8000000
variable {P:Pr8}{b:Int}{f:Fu8}{fb fo pb po:Nat}{w:World}
theorem zbi(h:PrC w pb po P):Calls Tryz.prog 109 #[pointer (some ⟨pb,po,none⟩)] w fun e w'=>e=.returned (.bool (Qi P))∧za [] w w':=by
 have HP:=hid h;obtain ⟨a0,p0,c0,v0⟩:=SlC.val h.c0;have C0:Box (∀ w',za [] w w'→w'.cell? ⟨pb,po,none⟩=some (.slice a0 P.recs.length p0)):=hid fun w' k=>zb k c0;have H0:=hid fun (w':World) (k:za [] w w')=>zhF (v0.keeps (SlC.stays TyC.stays) k) 6 zhO (by omega) fun w3 v z kk hv=>zgh hv;obtain ⟨a1,p1,c1,v1⟩:=SlC.val h.c1;have C1:Box (∀ w',za [] w w'→w'.cell? ⟨pb,po+1,none⟩=some (.slice a1 P.sigs.length p1)):=hid fun w' k=>zb k c1;have H1:=hid fun (w':World) (k:za [] w w')=>zgz (v1.keeps (SgC.stays) k) 10 zhV (by omega) fun w3 v z kk hv=>zg2 hv;obtain ⟨a2,p2,c2,v2⟩:=SlC.val h.c2;have C2:Box (∀ w',za [] w w'→w'.cell? ⟨pb,po+2,none⟩=some (.slice a2 P.ifs.length p2)):=hid fun w' k=>zb k c2;have H2:=hid fun (w':World) (k:za [] w w')=>zdf (v2.keeps (jH.stays) k) 4 ifB (by omega) fun w3 v z kk hv=>zdz hv;obtain ⟨a3,p3,c3,v3⟩:=SlC.val h.c3;have C3:Box (∀ w',za [] w w'→w'.cell? ⟨pb,po+3,none⟩=some (.slice a3 P.ims.length p3)):=hid fun w' k=>zb k c3;have H3:=hid fun (w':World) (k:za [] w w')=>zfy (v3.keeps (ImC.stays) k) 12 imB (by omega) fun w3 v z kk hv=>zen hv;obtain ⟨a4,p4,c4,v4⟩:=SlC.val h.c4;have C4:Box (∀ w',za [] w w'→w'.cell? ⟨pb,po+4,none⟩=some (.slice a4 P.funcs.length p4)):=hid fun w' k=>zb k c4;have H4:=hid fun (w':World) (k:za [] w w')=>zeI (v4.keeps (FuC.stays) k) 12 fnB (by omega) fun w3 v z kk hv=>zfl kk hv;have HPT:=hid fun (w':World) (k:za [] w w') (hs:qA P.funcs 12 fnB=true)=>ZN (PrC.stays _ _ _ _ _ k HP.o) (Q9 hs);have HST:=hid fun (w':World) (k:za [] w w') (hs:qA P.funcs 12 fnB=true)=>ze6 (PrC.stays _ _ _ _ _ k HP.o) (Q9 hs);have hNs:=fun (hs:qA P.funcs 12 fnB=true)=>(Q9 hs).pts;have hSs:=za8 P (pts P);have HE:Box (Qi P=(zio P && (decide ((pts P).length≤600) && decide (je P (pts P)≤40)))):=hid rfl;have HT:Box (zio P=(decide (0<P.funcs.length) && (qA P.recs 6 zhO && (qA P.sigs 10 zhV && (qA P.ifs 4 ifB && (qA P.ims 12 imB && qA P.funcs 12 fnB)))))):=hid rfl;rw[HT.o] at HE;clear h HT HP v0 v1 v2 v3 v4 c0 c1 c2 c3 c4;generalize Qi P=res at *;generalize qA P.recs 6 zhO=r0 at *;generalize qA P.sigs 10 zhV=r1 at *;generalize qA P.ifs 4 ifB=r2 at *;generalize qA P.ims 12 imB=r3 at *;generalize qA P.funcs 12 fnB=r4 at *;generalize hNN:(pts P).length=NN at *;generalize je P (pts P)=SS at *;generalize P.recs.length=n0 at *;generalize P.sigs.length=n1 at *;generalize P.ifs.length=n2 at *;generalize P.ims.length=n3 at *;generalize P.funcs.length=n4 at *;have d4:=C4.o _ (za.refl _ _);have HNN:=hid hNN;clear hNN;by_cases hpos:0<n4
 case neg=>
  have hpos':¬ (0:Int)<(n4:Int):=by omega
  have HR:Box (res=false):=hid (by rw[HE.o];simp[hpos]);clear HE;go_enter Tryz.func109,Tryz.ntmps109;go_wp2_with fail;go_ret;exact ⟨by rw[HR.o];rfl,za.refl _ _⟩
 have hpos':(0:Int)<(n4:Int):=by omega
 have HE1:Box (res=(r0 && (r1 && (r2 && (r3 && (r4 && (decide (NN≤600) && decide (SS≤40)))))))):=hid (by rw[HE.o];simp[hpos,Bool.and_assoc]);clear HE hpos;have d0:=C0.o _ (za.refl _ _);go_enter Tryz.func109,Tryz.ntmps109;go_wp2_with fail;have K0:=hid (za.refl [] w);refine (H0.o _ K0.o).mono ?_;rintro e w1 ⟨rfl,k1⟩;have K1:=hid (K0.o.quiet k1);clear k1 d0 d4;cases r0
 case false=>
  have HR:Box (res=false):=hid (by rw[HE1.o];simp);clear HE1;go_wp2_with fail;go_ret;exact ⟨by rw[HR.o];rfl,K1.o⟩
 have d1:=C1.o _ K1.o;go_wp2_with fail;refine (H1.o _ K1.o).mono ?_;rintro e w2 ⟨rfl,k2⟩;have K2:=hid (K1.o.quiet k2);clear k2 d1;cases r1
 case false=>
  have HR:Box (res=false):=hid (by rw[HE1.o];simp);clear HE1;go_wp2_with fail;go_ret;exact ⟨by rw[HR.o];rfl,K2.o⟩
 have d2:=C2.o _ K2.o;go_wp2_with fail;refine (H2.o _ K2.o).mono ?_;rintro e w3 ⟨rfl,k3⟩;have K3:=hid (K2.o.quiet k3);clear k3 d2;cases r2
 case false=>
  have HR:Box (res=false):=hid (by rw[HE1.o];simp);clear HE1;go_wp2_with fail;go_ret;exact ⟨by rw[HR.o];rfl,K3.o⟩
 have d3:=C3.o _ K3.o;go_wp2_with fail;refine (H3.o _ K3.o).mono ?_;rintro e w4 ⟨rfl,k4⟩;have K4:=hid (K3.o.quiet k4);clear k4 d3;cases r3
 case false=>
  have HR:Box (res=false):=hid (by rw[HE1.o];simp);clear HE1;go_wp2_with fail;go_ret;exact ⟨by rw[HR.o];rfl,K4.o⟩
 have d4:=C4.o _ K4.o;go_wp2_with fail;refine (H4.o _ K4.o).mono ?_;rintro e w5 ⟨rfl,k5⟩;have K5:=hid (K4.o.quiet k5);clear k5 d4;cases r4
 case false=>
  have HR:Box (res=false):=hid (by rw[HE1.o];simp);clear HE1;go_wp2_with fail;go_ret;exact ⟨by rw[HR.o];rfl,K5.o⟩
 go_wp2_with fail;have hN9:=hNs (by first | trivial | rfl);refine (HPT.o _ K5.o (by first | trivial | rfl)).mono ?_;rintro e w6 ⟨a,cp,rfl,hr,k6⟩;have K6:=hid (K5.o.quiet k6);clear k6 hr hNs;have hN8:(NN:Int)≤4500:=by omega
 have hS8:(SS:Int)≤4500:=by omega
 by_cases hN:NN≤600
 case neg=>
  have hN':¬ (NN:Int)≤600:=by omega
  have HR:Box (res=false):=hid (by rw[HE1.o];simp[hN]);clear HE1 hN;go_wp2_with fail;go_ret;exact ⟨by rw[HR.o];rfl,K6.o⟩
 have hN':(NN:Int)≤600:=by omega
 go_wp2_with fail;refine (HST.o _ K6.o (by first | trivial | rfl)).mono ?_;rintro e w7 ⟨rfl,k7⟩;have K7:=hid (K6.o.quiet k7);clear k7;by_cases hS:SS≤40
 case neg=>
  have hS':decide ((SS:Int)≤40)=false:=decide_eq_false (by omega);have HR:Box (res=false):=hid (by rw[HE1.o];simp[hS]);clear HE1 hS;go_wp2_with fail;go_ret;exact ⟨by rw[HR.o];rfl,K7.o⟩
 have hS':(SS:Int)≤40:=by omega
 have HR:Box (res=true):=hid (by rw[HE1.o];simp[hS,hN]);clear HE1 hS;go_wp2_with fail;go_ret;exact ⟨by rw[HR.o];rfl,K7.o⟩
def ZO(ok:Bool)(y f b i:Int)(w:World)(e:Ending)(w':World):Prop:=if ok then e=.returned .nilIface∧za [] w w' else jM y f b i w e w'
theorem ZO.yes{y f i:Int}{w':World}{e:Ending}(h:ZO true y f b i w e w'):e=.returned .nilIface∧za [] w w':=h
theorem ZO.no{y f i:Int}{w':World}{e:Ending}(h:ZO false y f b i w e w'):jM y f b i w e w':=h
theorem zdo(w:World):Calls Tryz.prog 70 #[.pointer none] w (jM 2 (-1) 0 0 w):=by
 have H:=hid (qQ 2 w);go_enter Tryz.func70,Tryz.ntmps70;go_wp2_with fail;refine H.o.mono ?_;rintro e w1 ⟨p,rfl,h1,h2⟩;go_wp2_with fail;go_ret;exact ⟨p,rfl,h1,h2⟩
theorem zd1(h:PrC w pb po P):Calls Tryz.prog 70 #[pointer (some ⟨pb,po,none⟩)] w (ZO (Qi P) 2 (-1) 0 0 w):=by
 have HC:=hid (zbi h);have H:=hid fun (w':World)=>qQ 2 w';clear h;generalize Qi P=ok at *;go_enter Tryz.func70,Tryz.ntmps70;go_wp2_with fail;refine HC.o.mono ?_;rintro e w1 ⟨rfl,k1⟩;have K1:=hid k1;clear k1;cases ok with
 | true=>
  go_wp2_with fail;go_ret;exact ⟨rfl,K1.o⟩
 | false=>
  go_wp2_with fail;refine (H.o _).mono ?_;rintro e w2 ⟨p,rfl,h1,h2⟩;go_wp2_with fail;go_ret;exact ⟨p,rfl,h1,K1.o.quiet h2⟩
def Qb(P:Pr8)(k:Int):List (Int × Int):=P.recs.getD k.toNat []
def zbI(P:Pr8)(k:Int):List Int:=P.ifs.getD k.toNat []
def zP(P:Pr8)(t:Int × Int)(n:Int):Option (Int × Int):=if t.1=1∧inB t.2 P.recs.length=true∧inB n (Qb P t.2).length=true then some ((Qb P t.2).getD n.toNat (0,0)) else none
def zbD(o:Option (Int × Int)):Value:=.tuple #[tyV (o.getD (0,0)),.bool o.isSome]
theorem zlT{a:Int}(h:a=b):(a != b)=false:=by simpa using h
theorem zk4{a:Int}(h:a≠b):(a != b)=true:=by simpa using h
theorem QL(h:PrC w pb po P)(t:Int × Int)(n:Int):Calls Tryz.prog 216 #[pointer (some ⟨pb,po,none⟩),tyV t,int i64 n] w fun e w'=>e=.returned (zbD (zP P t n))∧za [] w w':=by
 obtain ⟨a,cp,c0,hr,_⟩:=h.c0;obtain ⟨W,hW⟩:∃ W,W=(w.alloc (.cells #[int i64 t.1,int i64 t.2] 60)).alloc (.cells #[int i64 0,int i64 0] 60):=⟨_,rfl⟩;have k2:za [] w W:=by rw[hW];exact (za.alloc [] w _).quiet (za.alloc [] _ _)
 replace c0:=zb k2 c0;have hn1:W.heap[w.heap.size]? = some (.cells #[int i64 t.1,int i64 t.2] 60 (0,0)):=by rw[hW];exact zd (ze w _) (za.alloc [] _ _)
 have hn2:W.heap[w.heap.size+1]? = some (.cells #[int i64 0,int i64 0] 60 (0,0)):=by
  have:=ze (w.alloc (.cells #[int i64 t.1,int i64 t.2] 60)) (.cells #[int i64 0,int i64 0] 60);rw[World.size_alloc] at this;rw[hW];exact this
 have HWI:=hid fun (k:Int) (n:Nat) (w:World)=>zp k n w;have K2:=hid k2;have HR:=hid hr;have HN2:=hid hn2;have s0:=zc hn1 0;have s1:=zc hn1 1;have z0:=zg hn2 0;have z1:=zg hn2 1;have q0:=zc hn2 0;have q1:=zc hn2 1;have HWE:=hid hW;have HL:Box (W.heap.size=w.heap.size+2∧za [w.heap.size+1] W W):=hid ⟨by rw[hW];simp,za.refl _ _⟩;have fin:∀ W' u0 u1,za [] W W'→za [] w ((W'.setCell ⟨w.heap.size+1,0,none⟩ u0).setCell ⟨w.heap.size+1,1,none⟩ u1):=fun W' u0 u1 k=>(K2.o.quiet k).trans (zas _ (w.heap.size+1) _ _) (fun x hx hl=>by simp at hx;omega);have FIN:=hid fin;have E:Box (∀ W' u0 u1,za [] W W'→(((W'.setCell ⟨w.heap.size+1,0,none⟩ u0).setCell ⟨w.heap.size+1,1,none⟩ u1)).heap[w.heap.size+1]? = some (.cells #[u0,u1] 60 (0,0))):=hid fun W' u0 u1 k=>zm1 (zd HN2.o k) u0 u1;clear h hr hW k2 hn1 hn2 fin;obtain ⟨t1,t2⟩:=t;simp only at *;by_cases h1:t1=1
 case neg=>
  have HE:Box (zP P (t1,t2) n=none):=hid (by unfold zP;rw[if_neg (fun h=>h1 h.1)]);have o1:=zk4 h1;clear h1;go_enter Tryz.func216,Tryz.ntmps216;go_upto_region 1 with fail;rw[← HWE.o];clear HWE;generalize w.heap.size=q at *;go_quiet (fail);go_wp2_with fail;have e0:=fun m=>zc (E.o (W.drewN m) (int i64 0) (int i64 0) (za.drewN [] W m)) 0;have e1:=fun m=>zc (E.o (W.drewN m) (int i64 0) (int i64 0) (za.drewN [] W m)) 1;exact bodyPost_ret (v:=.tuple #[agg #[int i64 0,int i64 0],.bool false]) (by simp[results,Tryz.results216,go_sem,e0,e1]) rfl ⟨by rw[HE.o];rfl,FIN.o _ _ _ (za.drewN [] W _)⟩
 subst h1;cases h2:inB t2 P.recs.length with
 | false=>
  have HE:Box (zP P (1,t2) n=none):=hid (by unfold zP;rw[if_neg (fun h=>by rw[h2] at h;exact Bool.noConfusion h.2.1)]);have HW1:Box (∀ w,Calls Tryz.prog 113 #[int i64 t2,int i64 (P.recs.length:Int)] w fun e w'=>e=.returned (.bool false)∧w'=w):=hid fun w=>by rw[← h2];exact HWI.o _ _ w
  clear h2;generalize P.recs.length=N at *;go_enter Tryz.func216,Tryz.ntmps216;go_upto_region 1 with fail;rw[← HWE.o];clear HWE;generalize w.heap.size=q at *;go_quiet ((go_at_call 113;exact Calls.quiet_of_same (HW1.o _)));go_wp2_with fail;have e0:=fun m=>zc (E.o (W.drewN m) (int i64 0) (int i64 0) (za.drewN [] W m)) 0;have e1:=fun m=>zc (E.o (W.drewN m) (int i64 0) (int i64 0) (za.drewN [] W m)) 1;exact bodyPost_ret (v:=.tuple #[agg #[int i64 0,int i64 0],.bool false]) (by simp[results,Tryz.results216,go_sem,e0,e1]) rfl ⟨by rw[HE.o];rfl,FIN.o _ _ _ (za.drewN [] W _)⟩
 | true=>
  obtain ⟨g0,g1⟩:=zm.1 h2;have HW1:Box (∀ w,Calls Tryz.prog 113 #[int i64 t2,int i64 (P.recs.length:Int)] w fun e w'=>e=.returned (.bool true)∧w'=w):=hid fun w=>by rw[← h2];exact HWI.o _ _ w
  obtain ⟨k,rfl⟩:∃ k:Nat,t2=(k:Int):=⟨t2.toNat,by omega⟩;have ek:((k:Int)).toNat=k:=by omega
  obtain ⟨b,off,rfl,hc⟩:=HR.o.at (zi (l:=P.recs) (k:=k) (d:=[]) (by omega));rw[Nat.mul_one] at hc;obtain ⟨ra,rp,e5,hrr,_⟩:=hc;have d5:=zb K2.o e5;have HRR:=hid hrr;have er:Qb P (k:Int)=P.recs.getD k []:=by unfold Qb;rw[ek]
  rw[← er] at d5 HRR;clear e5 hrr er;cases h3:inB n (Qb P (k:Int)).length with
  | false=>
   have HE:Box (zP P (1,(k:Int)) n=none):=hid (by unfold zP;rw[if_neg (fun h=>by rw[h3] at h;exact Bool.noConfusion h.2.2)]);have HW2:Box (∀ w,Calls Tryz.prog 113 #[int i64 n,int i64 ((Qb P (k:Int)).length:Int)] w fun e w'=>e=.returned (.bool false)∧w'=w):=hid fun w=>by rw[← h3];exact HWI.o _ _ w
   clear h2 h3 HRR HR;generalize (Qb P (k:Int)).length=M at *;generalize P.recs.length=N at *;go_enter Tryz.func216,Tryz.ntmps216;go_upto_region 1 with fail;rw[← HWE.o];clear HWE;generalize w.heap.size=q at *;go_quiet ((go_at_call 113;first | with_reducible exact Calls.quiet_of_same (HW1.o _) | with_reducible exact Calls.quiet_of_same (HW2.o _)));go_wp2_with fail;have e0:=fun m=>zc (E.o (W.drewN m) (int i64 0) (int i64 0) (za.drewN [] W m)) 0;have e1:=fun m=>zc (E.o (W.drewN m) (int i64 0) (int i64 0) (za.drewN [] W m)) 1;exact bodyPost_ret (v:=.tuple #[agg #[int i64 0,int i64 0],.bool false]) (by simp[results,Tryz.results216,go_sem,e0,e1]) rfl ⟨by rw[HE.o];rfl,FIN.o _ _ _ (za.drewN [] W _)⟩
  | true=>
   obtain ⟨g2,g3⟩:=zm.1 h3;have HE:Box (zP P (1,(k:Int)) n=some ((Qb P (k:Int)).getD n.toNat (0,0))):=hid (by unfold zP;rw[if_pos ⟨rfl,h2,h3⟩]);have HW2:Box (∀ w,Calls Tryz.prog 113 #[int i64 n,int i64 ((Qb P (k:Int)).length:Int)] w fun e w'=>e=.returned (.bool true)∧w'=w):=hid fun w=>by rw[← h3];exact HWI.o _ _ w
   obtain ⟨j,rfl⟩:∃ j:Nat,n=(j:Int):=⟨n.toNat,by omega⟩;have ej:((j:Int)).toNat=j:=by omega
   rw[ej] at HE;obtain ⟨fb,fo,rfl,hf⟩:=HRR.o.at (zi (l:=Qb P (k:Int)) (k:=j) (d:=(0,0)) (by omega));have f0:=zb K2.o hf.c0.1;have f1:=zb K2.o hf.c1.1;clear hf h2 h3 HRR HR;generalize (Qb P (k:Int)).getD j (0,0)=T at *;generalize (Qb P (k:Int)).length=M at *;generalize P.recs.length=N at *;go_enter Tryz.func216,Tryz.ntmps216;go_upto_region 1 with fail;rw[← HWE.o];clear HWE;generalize w.heap.size=q at *;go_quiet ((go_at_call 113;first | with_reducible exact Calls.quiet_of_same (HW1.o _) | with_reducible exact Calls.quiet_of_same (HW2.o _)));go_upto_region 3 with fail
   go_region
   go_wp2_with fail;have e0:=fun m=>zc (E.o (W.drewN m) (int i64 T.1) (int i64 T.2) (za.drewN [] W m)) 0;have e1:=fun m=>zc (E.o (W.drewN m) (int i64 T.1) (int i64 T.2) (za.drewN [] W m)) 1;exact bodyPost_ret (v:=.tuple #[agg #[int i64 T.1,int i64 T.2],.bool true]) (by simp[results,Tryz.results216,go_sem,e0,e1]) rfl ⟨by rw[HE.o];rfl,FIN.o _ _ _ (za.drewN [] W _)⟩
def qS(P:Pr8)(t:Int × Int)(n:Int):Option (List (Int × Int) × Int × Int):=if t.1=3∧inB t.2 P.ifs.length=true∧inB n (zbI P t.2).length=true then jB P ((zbI P t.2).getD n.toNat 0) else none
theorem Jk{w0:World}(h:PrC w0 pb po P)(k0:za [] w0 w)(t:Int × Int)(n:Int):Calls Tryz.prog 217 #[pointer (some ⟨pb,po,none⟩),tyV t,int i64 n] w (zV (qS P t n) w0 w):=by
 obtain ⟨a,cp,c0,hr,_⟩:=h.c2;obtain ⟨W,hW⟩:∃ W,W=(w.alloc (.cells #[int i64 t.1,int i64 t.2] 60)).alloc (.cells #[.slice none 0 0,int i64 0,int i64 0] 75):=⟨_,rfl⟩;have k2:za [] w W:=by rw[hW];exact (za.alloc [] w _).quiet (za.alloc [] _ _)
 replace c0:=zb (k0.quiet k2) c0;have hn1:W.heap[w.heap.size]? = some (.cells #[int i64 t.1,int i64 t.2] 60 (0,0)):=by rw[hW];exact zd (ze w _) (za.alloc [] _ _)
 have hn2:W.heap[w.heap.size+1]? = some (.cells #[.slice none 0 0,int i64 0,int i64 0] 75 (0,0)):=by
  have:=ze (w.alloc (.cells #[int i64 t.1,int i64 t.2] 60)) (.cells #[.slice none 0 0,int i64 0,int i64 0] 75);rw[World.size_alloc] at this;rw[hW];exact this
 have HWI:=hid fun (k:Int) (n:Nat) (w:World)=>zp k n w;have K2:=hid k2;have K02:=hid (k0.quiet k2);have HR:=hid hr;have HN2:=hid hn2;have s0:=zc hn1 0;have s1:=zc hn1 1;have z0:=zg hn2 0;have z1:=zg hn2 1;have z2:=zg hn2 2;have q0:=zc hn2 0;have q1:=zc hn2 1;have q2:=zc hn2 2;have HWE:=hid hW;have HL:Box (W.heap.size=w.heap.size+2∧za [w.heap.size+1] W W):=hid ⟨by rw[hW];simp,za.refl _ _⟩;have fin:∀ W' u0 u1 u2,za [] W W'→za [] w (((W'.setCell ⟨w.heap.size+1,0,none⟩ u0).setCell ⟨w.heap.size+1,1,none⟩ u1).setCell ⟨w.heap.size+1,2,none⟩ u2):=fun W' u0 u1 u2 k=>(K2.o.quiet k).trans (jh _ (w.heap.size+1) _ _ _) (fun x hx hl=>by simp at hx;omega);have FIN:=hid fin;have E:Box (∀ W' u0 u1 u2,za [] W W'→((((W'.setCell ⟨w.heap.size+1,0,none⟩ u0).setCell ⟨w.heap.size+1,1,none⟩ u1)).setCell ⟨w.heap.size+1,2,none⟩ u2).heap[w.heap.size+1]? = some (.cells #[u0,u1,u2] 75 (0,0))):=hid fun W' u0 u1 u2 k=>Jt (zd HN2.o k) u0 u1 u2;have HP:=hid h;clear h hr hW k2 k0 hn1 hn2 fin;obtain ⟨t1,t2⟩:=t;simp only at *;by_cases h1:t1=3
 case neg=>
  have HE:Box (qS P (t1,t2) n=none):=hid (by unfold qS;rw[if_neg (fun h=>h1 h.1)]);have o1:=zk4 h1;clear h1;go_enter Tryz.func217,Tryz.ntmps217;go_upto_region 1 with fail;rw[← HWE.o];clear HWE;generalize w.heap.size=q at *;go_quiet (fail);go_wp2_with fail;have e0:=fun m=>zc (E.o (W.drewN m) (.slice none 0 0) (int i64 0) (int i64 0) (za.drewN [] W m)) 0;have e1:=fun m=>zc (E.o (W.drewN m) (.slice none 0 0) (int i64 0) (int i64 0) (za.drewN [] W m)) 1;have e2:=fun m=>zc (E.o (W.drewN m) (.slice none 0 0) (int i64 0) (int i64 0) (za.drewN [] W m)) 2;exact bodyPost_ret (v:=.tuple #[agg #[.slice none 0 0,int i64 0,int i64 0],.bool false]) (by simp[results,Tryz.results217,go_sem,e0,e1,e2]) rfl (by rw[HE.o];exact ⟨FIN.o _ _ _ _ (za.drewN [] W _),rfl⟩)
 subst h1;cases h2:inB t2 P.ifs.length with
 | false=>
  have HE:Box (qS P (3,t2) n=none):=hid (by unfold qS;rw[if_neg (fun h=>by rw[h2] at h;exact Bool.noConfusion h.2.1)]);have HW1:Box (∀ w,Calls Tryz.prog 113 #[int i64 t2,int i64 (P.ifs.length:Int)] w fun e w'=>e=.returned (.bool false)∧w'=w):=hid fun w=>by rw[← h2];exact HWI.o _ _ w
  clear h2;generalize P.ifs.length=N at *;go_enter Tryz.func217,Tryz.ntmps217;go_upto_region 1 with fail;rw[← HWE.o];clear HWE;generalize w.heap.size=q at *;go_quiet ((go_at_call 113;exact Calls.quiet_of_same (HW1.o _)));go_wp2_with fail;have e0:=fun m=>zc (E.o (W.drewN m) (.slice none 0 0) (int i64 0) (int i64 0) (za.drewN [] W m)) 0;have e1:=fun m=>zc (E.o (W.drewN m) (.slice none 0 0) (int i64 0) (int i64 0) (za.drewN [] W m)) 1;have e2:=fun m=>zc (E.o (W.drewN m) (.slice none 0 0) (int i64 0) (int i64 0) (za.drewN [] W m)) 2;exact bodyPost_ret (v:=.tuple #[agg #[.slice none 0 0,int i64 0,int i64 0],.bool false]) (by simp[results,Tryz.results217,go_sem,e0,e1,e2]) rfl (by rw[HE.o];exact ⟨FIN.o _ _ _ _ (za.drewN [] W _),rfl⟩)
 | true=>
  obtain ⟨g0,g1⟩:=zm.1 h2;have HW1:Box (∀ w,Calls Tryz.prog 113 #[int i64 t2,int i64 (P.ifs.length:Int)] w fun e w'=>e=.returned (.bool true)∧w'=w):=hid fun w=>by rw[← h2];exact HWI.o _ _ w
  obtain ⟨k,rfl⟩:∃ k:Nat,t2=(k:Int):=⟨t2.toNat,by omega⟩;have ek:((k:Int)).toNat=k:=by omega
  obtain ⟨b,off,rfl,hc⟩:=HR.o.at (zi (l:=P.ifs) (k:=k) (d:=[]) (by omega));rw[Nat.mul_one] at hc;obtain ⟨ra,rp,e5,hrr,_⟩:=hc;have d5:=zb K02.o e5;have HRR:=hid hrr;have er:zbI P (k:Int)=P.ifs.getD k []:=by unfold zbI;rw[ek]
  rw[← er] at d5 HRR;clear e5 hrr er;cases h3:inB n (zbI P (k:Int)).length with
  | false=>
   have HE:Box (qS P (3,(k:Int)) n=none):=hid (by unfold qS;rw[if_neg (fun h=>by rw[h3] at h;exact Bool.noConfusion h.2.2)]);have HW2:Box (∀ w,Calls Tryz.prog 113 #[int i64 n,int i64 ((zbI P (k:Int)).length:Int)] w fun e w'=>e=.returned (.bool false)∧w'=w):=hid fun w=>by rw[← h3];exact HWI.o _ _ w
   clear h2 h3 HRR HR;generalize (zbI P (k:Int)).length=M at *;generalize P.ifs.length=N at *;go_enter Tryz.func217,Tryz.ntmps217;go_upto_region 1 with fail;rw[← HWE.o];clear HWE;generalize w.heap.size=q at *;go_quiet ((go_at_call 113;first | with_reducible exact Calls.quiet_of_same (HW1.o _) | with_reducible exact Calls.quiet_of_same (HW2.o _)));go_wp2_with fail;have e0:=fun m=>zc (E.o (W.drewN m) (.slice none 0 0) (int i64 0) (int i64 0) (za.drewN [] W m)) 0;have e1:=fun m=>zc (E.o (W.drewN m) (.slice none 0 0) (int i64 0) (int i64 0) (za.drewN [] W m)) 1;have e2:=fun m=>zc (E.o (W.drewN m) (.slice none 0 0) (int i64 0) (int i64 0) (za.drewN [] W m)) 2;exact bodyPost_ret (v:=.tuple #[agg #[.slice none 0 0,int i64 0,int i64 0],.bool false]) (by simp[results,Tryz.results217,go_sem,e0,e1,e2]) rfl (by rw[HE.o];exact ⟨FIN.o _ _ _ _ (za.drewN [] W _),rfl⟩)
  | true=>
   obtain ⟨g2,g3⟩:=zm.1 h3;have HE:Box (qS P (3,(k:Int)) n=jB P ((zbI P (k:Int)).getD n.toNat 0)):=hid (by unfold qS;rw[if_pos ⟨rfl,h2,h3⟩]);have HW2:Box (∀ w,Calls Tryz.prog 113 #[int i64 n,int i64 ((zbI P (k:Int)).length:Int)] w fun e w'=>e=.returned (.bool true)∧w'=w):=hid fun w=>by rw[← h3];exact HWI.o _ _ w
   obtain ⟨j,rfl⟩:∃ j:Nat,n=(j:Int):=⟨n.toNat,by omega⟩;have ej:((j:Int)).toNat=j:=by omega
   rw[ej] at HE;obtain ⟨fb,fo,rfl,hf⟩:=HRR.o.at (zi (l:=zbI P (k:Int)) (k:=j) (d:=0) (by omega));rw[Nat.mul_one] at hf;have f0:=zb K02.o hf.1;have HSG:=hid fun (w':World) (kk:za [] W w')=>ZX HP.o (K02.o.quiet kk) ((zbI P (k:Int)).getD j 0);rw[HE.o];clear hf h2 h3 HRR HR HE;generalize (zbI P (k:Int)).getD j 0=T at *;generalize (zbI P (k:Int)).length=M at *;generalize P.ifs.length=N at *;go_enter Tryz.func217,Tryz.ntmps217;go_upto_region 1 with fail;rw[← HWE.o];clear HWE;generalize w.heap.size=q at *;go_quiet ((go_at_call 113;first | with_reducible exact Calls.quiet_of_same (HW1.o _) | with_reducible exact Calls.quiet_of_same (HW2.o _)));go_upto_region 3 with fail;cases hs:jB P T with
   | none=>
    rw[hs] at HSG
    go_region_with (go_at_call 173;refine (HSG.o _ (by first | exact za.drewN _ _ _ | exact (za.drewN _ _ _).quiet (za.drew _ _))).mono ?_;rintro e w5 ⟨k5,rfl⟩;have hb5:w5.heap[q+1]? = some (.cells #[.slice none 0 0,int i64 0,int i64 0] 75 (0,0)):=(k5.block (q+1) (zt HN2.o) (by simp)).trans HN2.o;have K5:za [] W w5:=⟨k5.os,k5.tape,k5.output,k5.size,k5.block⟩;have y0:=zg hb5 0;have y1:=zg hb5 1;have y2:=zg hb5 2;have x0:=zc hb5 0;have x1:=zc hb5 1;have x2:=zc hb5 2;have KK5:=hid K5;have HB5:=hid hb5;clear hb5 K5 k5)
    all_goals (
     go_wp2_with fail;have h3:=Jt HB5.o (.slice none 0 0) (int i64 0) (int i64 0);have e0:=zc h3 0;have e1:=zc h3 1;have e2:=zc h3 2
     exact bodyPost_ret (v:=.tuple #[agg #[.slice none 0 0,int i64 0,int i64 0],.bool false]) (by simp[results,Tryz.results217,go_sem,e0,e1,e2]) rfl ⟨FIN.o _ _ _ _ KK5.o,by rw[hs]⟩)
   | some sg=>
    rw[hs] at HSG
    go_region_with (go_at_call 173;refine (HSG.o _ (by first | exact za.drewN _ _ _ | exact (za.drewN _ _ _).quiet (za.drew _ _))).mono ?_;rintro e w5 ⟨k5,v5,rfl,hv5⟩;have hb5:w5.heap[q+1]? = some (.cells #[.slice none 0 0,int i64 0,int i64 0] 75 (0,0)):=(k5.block (q+1) (zt HN2.o) (by simp)).trans HN2.o;have K5:za [] W w5:=⟨k5.os,k5.tape,k5.output,k5.size,k5.block⟩;have y0:=zg hb5 0;have y1:=zg hb5 1;have y2:=zg hb5 2;have x0:=zc hb5 0;have x1:=zc hb5 1;have x2:=zc hb5 2;have KK5:=hid K5;have HB5:=hid hb5;obtain ⟨ga,gp,rfl,hv6⟩:=hv5;have HV6:=hid hv6;clear hv6;clear hb5 K5 k5)
    all_goals (
     go_wp2_with fail;have h3:=Jt HB5.o (.slice ga sg.1.length gp) (int i64 sg.2.1) (int i64 sg.2.2);have e0:=zc h3 0;have e1:=zc h3 1;have e2:=zc h3 2
     exact bodyPost_ret (v:=.tuple #[agg #[.slice ga sg.1.length gp,int i64 sg.2.1,int i64 sg.2.2],.bool true]) (by simp[results,Tryz.results217,go_sem,e0,e1,e2]) rfl ⟨FIN.o _ _ _ _ KK5.o,by rw[hs];exact ⟨_,rfl,ga,gp,rfl,HV6.o⟩⟩)
def Qu(P:Pr8)(f:Fu8)(x:In8):Bool:=
 if x.op=10∨x.op=12 then inB x.n P.funcs.length
 else if x.op=7∨x.op=8 then (zP P (zj f x.a) x.n).isSome || decide ((zj f x.a).1≠1)
 else if x.op=14 then (qS P (zj f x.a) x.n).isSome || decide ((zj f x.a).1≠3) else true
theorem zjM(h:PrC w pb po P)(x:In8)(ar:Value)(hop:x.op=10∨x.op=12):Calls Tryz.prog 203 #[pointer (some ⟨pb,po,none⟩),pointer (some ⟨fb,fo,none⟩),zu x ar] w fun e w'=>e=.returned (.bool (Qu P f x))∧za [] w w':=by
 have HE:Box (Qu P f x=inB x.n P.funcs.length):=hid (by unfold Qu;rw[if_pos hop]);obtain ⟨fa,fp,c4,_⟩:=h.c4;have ka:=za.alloc [] w (.cells #[int i64 x.op,int i64 x.dst,int i64 x.a,int i64 x.b,int i64 x.n,ar] 65);replace c4:=zb ka c4;have KA:=hid ka;have HW:=hid fun (w:World)=>zp x.n P.funcs.length w;clear h ka;unfold zu;generalize Qu P f x=res at *;generalize inB x.n P.funcs.length=r at *;generalize P.funcs.length=n at *;rcases hop with e | e
 ·rw[e] at KA c4 ⊢
  go_enter Tryz.func203,Tryz.ntmps203;go_upto_region 4 with fail;go_quiet ((go_at_call 113;exact Calls.quiet_of_same (HW.o _)));go_wp2_with fail;go_ret;exact ⟨by rw[HE.o];rfl,KA.o.quiet (za.drewN _ _ _)⟩
 ·rw[e] at KA c4 ⊢
  go_enter Tryz.func203,Tryz.ntmps203;go_upto_region 4 with fail;go_quiet ((go_at_call 113;exact Calls.quiet_of_same (HW.o _)));go_wp2_with fail;go_ret;exact ⟨by rw[HE.o];rfl,KA.o.quiet (za.drewN _ _ _)⟩
theorem Zn(o:Option (Int × Int)):∃ t b,zbD o=.tuple #[tyV t,.bool b]∧b=o.isSome:=⟨o.getD (0,0),o.isSome,rfl,rfl⟩
theorem zeY(h:PrC w pb po P)(hf:FuC w fb fo f)(x:In8)(ar:Value)(hop:x.op=7∨x.op=8):Calls Tryz.prog 203 #[pointer (some ⟨pb,po,none⟩),pointer (some ⟨fb,fo,none⟩),zu x ar] w fun e w'=>e=.returned (.bool (Qu P f x))∧za [] w w':=by
 have HE:Box (Qu P f x=((zP P (zj f x.a) x.n).isSome || decide ((zj f x.a).1≠1))):=hid (by unfold Qu;rw[if_neg (by omega),if_pos hop]);have ka:=za.alloc [] w (.cells #[int i64 x.op,int i64 x.dst,int i64 x.a,int i64 x.b,int i64 x.n,ar] 65);have hn:=ze w (.cells #[int i64 x.op,int i64 x.dst,int i64 x.a,int i64 x.b,int i64 x.n,ar] 65);have HRT:=hid (zo (FuC.stays _ _ _ _ _ ka hf) x.a);have HFI:=hid fun (w':World) (k:za [] w w')=>QL (PrC.stays _ _ _ _ _ k h) (zj f x.a) x.n;have KA:=hid ka;have HN:=hid hn;clear h hf ka hn;unfold zu;generalize Qu P f x=res at *;obtain ⟨t,b,hv,hb⟩:=Zn (zP P (zj f x.a) x.n);rw[hv] at HFI;rw[← hb] at HE;clear hv hb;generalize zj f x.a=T at *;have go:∀ (o:Int),x.op=o→((o == 10)=false)→((o == 12)=false)→((o == 7)=true∨((o == 7)=false∧(o == 8)=true))→Calls Tryz.prog 203 #[pointer (some ⟨pb,po,none⟩),pointer (some ⟨fb,fo,none⟩),agg #[int i64 x.op,int i64 x.dst,int i64 x.a,int i64 x.b,int i64 x.n,ar]] w fun e w'=>e=.returned (.bool res)∧za [] w w':=by
  intro o e o1 o2 o3;rw[e] at KA HN HRT ⊢;clear e;rcases o3 with o7 | ⟨o7,o8⟩
  all_goals (
   go_enter Tryz.func203,Tryz.ntmps203;go_upto_region 7 with fail;generalize w.alloc (.cells #[int i64 o,int i64 x.dst,int i64 x.a,int i64 x.b,int i64 x.n,ar] 65)=WA at *;have q2:=zc HN.o 2;generalize w.heap.size=q at *;go_wp2_with fail;refine HRT.o.mono ?_;rintro e w1 ⟨rfl,k1⟩;have h1:=zd HN.o (k1.quiet (za.alloc [] w1 (.cells #[int i64 T.1,int i64 T.2] 60)));have q4:=zc h1 4;have hn2:=ze w1 (.cells #[int i64 T.1,int i64 T.2] 60);have K1:=hid ((KA.o.quiet k1).quiet (za.alloc [] w1 (.cells #[int i64 T.1,int i64 T.2] 60)));have r0:=zc hn2 0;have r1:=zc hn2 1;have HN2:=hid hn2;clear k1 h1 hn2 q2;go_upto_region 8 with fail;generalize w1.alloc (.cells #[int i64 T.1,int i64 T.2] 60)=w2 at *;generalize w1.heap.size=q1 at *;go_wp2_with fail;refine (HFI.o _ K1.o).mono ?_;rintro e w3 ⟨rfl,k3⟩;have h3:=zd HN2.o (k3.quiet (za.alloc [] w3 (.cells #[int i64 t.1,int i64 t.2] 60)));have s0:=zc h3 0;have K3:=hid ((K1.o.quiet k3).quiet (za.alloc [] w3 (.cells #[int i64 t.1,int i64 t.2] 60)));clear k3 h3 r0 r1 q4;cases b with
   | true=>
    have HR:Box (res=true):=hid (by rw[HE.o];rfl);go_wp2_with fail;go_ret;exact ⟨by rw[HR.o];rfl,K3.o⟩
   | false=>
    have HR:Box (res=decide (T.1≠1)):=hid (by rw[HE.o,Bool.false_or]);have hd:(T.1 != 1)=decide (T.1≠1):=by by_cases e:T.1=1 <;> simp[e]
    rw[← hd] at HR;clear hd HE;go_wp2_with fail;go_ret
    exact ⟨by rw[HR.o];rfl,K3.o⟩)
 rcases hop with e | e
 ·exact go 7 e rfl rfl (.inl rfl)
 ·exact go 8 e rfl rfl (.inr ⟨rfl,rfl⟩)
theorem zh5(h:PrC w pb po P)(hf:FuC w fb fo f)(x:In8)(ar:Value)(hop:x.op=14):Calls Tryz.prog 203 #[pointer (some ⟨pb,po,none⟩),pointer (some ⟨fb,fo,none⟩),zu x ar] w fun e w'=>e=.returned (.bool (Qu P f x))∧za [] w w':=by
 have HE:Box (Qu P f x=((qS P (zj f x.a) x.n).isSome || decide ((zj f x.a).1≠3))):=hid (by unfold Qu;rw[if_neg (by omega),if_neg (by omega),if_pos hop]);have ka:=za.alloc [] w (.cells #[int i64 x.op,int i64 x.dst,int i64 x.a,int i64 x.b,int i64 x.n,ar] 65);have hn:=ze w (.cells #[int i64 x.op,int i64 x.dst,int i64 x.a,int i64 x.b,int i64 x.n,ar] 65);have HRT:=hid (zo (FuC.stays _ _ _ _ _ ka hf) x.a);have HFI:=hid fun (w':World) (k:za [] w w')=>Jk h k (zj f x.a) x.n;have KA:=hid ka;have HN:=hid hn;clear h hf ka hn;unfold zu;generalize Qu P f x=res at *;generalize qS P (zj f x.a) x.n=O at *;generalize zj f x.a=T at *;rw[hop] at KA HN HRT ⊢;go_enter Tryz.func203,Tryz.ntmps203;go_upto_region 11 with fail;generalize w.alloc (.cells #[int i64 14,int i64 x.dst,int i64 x.a,int i64 x.b,int i64 x.n,ar] 65)=WA at *;have q2:=zc HN.o 2;generalize w.heap.size=q at *;go_wp2_with fail;refine HRT.o.mono ?_;rintro e w1 ⟨rfl,k1⟩;have h1:=zd HN.o (k1.quiet (za.alloc [] w1 (.cells #[int i64 T.1,int i64 T.2] 60)));have q4:=zc h1 4;have hn2:=ze w1 (.cells #[int i64 T.1,int i64 T.2] 60);have K1:=hid ((KA.o.quiet k1).quiet (za.alloc [] w1 (.cells #[int i64 T.1,int i64 T.2] 60)));have r0:=zc hn2 0;have r1:=zc hn2 1;have HN2:=hid hn2;clear k1 h1 hn2 q2;go_upto_region 12 with fail;generalize w1.alloc (.cells #[int i64 T.1,int i64 T.2] 60)=w2 at *;generalize w1.heap.size=q1 at *;go_wp2_with fail;refine (HFI.o _ K1.o).mono ?_;cases O with
 | none=>
  rintro e w3 ⟨k3,rfl⟩;have h3:=zd HN2.o (k3.quiet (za.alloc [] w3 (.cells #[.slice none 0 0,int i64 0,int i64 0] 75)));have s0:=zc h3 0;have K3:=hid ((K1.o.quiet k3).quiet (za.alloc [] w3 (.cells #[.slice none 0 0,int i64 0,int i64 0] 75)));clear k3 h3 r0 r1 q4;have HR:Box (res=decide (T.1≠3)):=hid (by rw[HE.o,Option.isSome_none,Bool.false_or]);have hd:(T.1 != 3)=decide (T.1≠3):=by by_cases e:T.1=3 <;> simp[e]
  rw[← hd] at HR;clear hd HE;go_wp2_with fail;go_ret;exact ⟨by rw[HR.o];rfl,K3.o⟩
 | some sg=>
  rintro e w3 ⟨k3,v,rfl,ga,gp,rfl,_⟩;have h3:=zd HN2.o (k3.quiet (za.alloc [] w3 (.cells #[.slice ga sg.1.length gp,int i64 sg.2.1,int i64 sg.2.2] 75)));have s0:=zc h3 0;have K3:=hid ((K1.o.quiet k3).quiet (za.alloc [] w3 (.cells #[.slice ga sg.1.length gp,int i64 sg.2.1,int i64 sg.2.2] 75)));clear k3 h3 r0 r1 q4;have HR:Box (res=true):=hid (by rw[HE.o];rfl);go_wp2_with fail;go_ret;exact ⟨by rw[HR.o];rfl,K3.o⟩
theorem zlJ(x:In8)(ar:Value)(h1:¬ (x.op=10∨x.op=12))(h2:¬ (x.op=7∨x.op=8))(h3:¬ x.op=14):Calls Tryz.prog 203 #[pointer (some ⟨pb,po,none⟩),pointer (some ⟨fb,fo,none⟩),zu x ar] w fun e w'=>e=.returned (.bool (Qu P f x))∧za [] w w':=by
 have HE:Box (Qu P f x=true):=hid (by unfold Qu;rw[if_neg h1,if_neg h2,if_neg h3]);have o10:=neb (show x.op≠10 by omega);have o12:=neb (show x.op≠12 by omega);have o7:=neb (show x.op≠7 by omega);have o8:=neb (show x.op≠8 by omega);have o14:=neb (show x.op≠14 by omega);clear h1 h2 h3;unfold zu;go_enter Tryz.func203,Tryz.ntmps203;go_wp2_with fail;go_ret;exact ⟨by rw[HE.o];rfl,za.alloc _ _ _⟩
theorem ziI(h:PrC w pb po P)(hf:FuC w fb fo f)(x:In8)(ar:Value):Calls Tryz.prog 203 #[pointer (some ⟨pb,po,none⟩),pointer (some ⟨fb,fo,none⟩),zu x ar] w fun e w'=>e=.returned (.bool (Qu P f x))∧za [] w w':=by
 by_cases h1:x.op=10∨x.op=12
 ·exact zjM h x ar h1
 by_cases h2:x.op=7∨x.op=8
 ·exact zeY h hf x ar h2
 by_cases h3:x.op=14
 ·exact zh5 h hf x ar h3
 exact zlJ x ar h1 h2 h3
def zbv(R:Nat)(x:In8):Bool:=(!zO x || inB x.dst R) && zaj (qf x) R
theorem QS(x:In8):(qf x).length≤x.args.length+2:=by
 unfold qf
 repeat' split
 all_goals (try simp)
 all_goals omega
theorem Jl(x:In8):(zO x=true∧QX x=.tuple #[int i64 x.dst,.bool true])∨(zO x=false∧QX x=.tuple #[int i64 0,.bool false]):=by
 cases h:zO x with
 | true=>exact .inl ⟨rfl,zX h⟩
 | false=>exact .inr ⟨rfl,zez h⟩
theorem zfJ(h:FuC w fb fo f)(x:In8){a:Option Addr}{cp:Nat}(hz:zv w a x.args)(hl:x.args.length≤1000):Calls Tryz.prog 202 #[pointer (some ⟨fb,fo,none⟩),zu x (.slice a x.args.length cp)] w fun e w'=>e=.returned (.bool (zbv f.regs.length x))∧za [] w w':=by
 obtain ⟨ra,rp,c1,_⟩:=h.c1;have ka:=za.alloc [] w (.cells #[int i64 x.op,int i64 x.dst,int i64 x.a,int i64 x.b,int i64 x.n,.slice a x.args.length cp] 65);have hn:=ze w (.cells #[int i64 x.op,int i64 x.dst,int i64 x.a,int i64 x.b,int i64 x.n,.slice a x.args.length cp] 65);have HD:=hid fun (w':World)=>JT x (.slice a x.args.length cp) w';have C1:Box (∀ w',za [] w w'→w'.cell? ⟨fb,fo+1,none⟩=some (.slice ra f.regs.length rp)):=hid fun w' k=>zb k c1;have HU:=hid fun (w':World) (k:za [] w w')=>JY x a cp w' (hz.kept k (fun _ _ _=>by simp)) (by omega);have hul:=QS x;have HA:=hid fun (w':World) (a1:Option Addr) (p1:Nat) (h1:zv w' a1 (qf x))=>Z7 (cp:=p1) h1 (by unfold maxLen;omega) f.regs.length;have HWI:=hid fun (w':World)=>zp x.dst f.regs.length w';have IN:Box (∀ w',za [] (w.alloc (.cells #[int i64 x.op,int i64 x.dst,int i64 x.a,int i64 x.b,int i64 x.n,.slice a x.args.length cp] 65)) w'→InW w' w.heap.size x (.slice a x.args.length cp)):=hid fun w' k=>by
  have:=zd hn k;exact ⟨zc this 0,zc this 1,zc this 2,zc this 3,zc this 4,zc this 5⟩
 have KA:=hid ka;have HE:Box (zbv f.regs.length x=((!zO x || inB x.dst f.regs.length) && zaj (qf x) f.regs.length)):=hid rfl;have i0:=IN.o _ (za.refl _ _);obtain ⟨d0,d1,d2,d3,d4,d5⟩:=i0;clear h c1 ka hn hz hl hul;unfold zu at *;generalize zbv f.regs.length x=res at *;generalize zaj (qf x) f.regs.length=r2 at *;generalize hN:f.regs.length=N at *;generalize hul:qf x=ul at *;clear hN hul;generalize hWA:w.alloc (.cells #[int i64 x.op,int i64 x.dst,int i64 x.a,int i64 x.b,int i64 x.n,.slice a x.args.length cp] 65)=WA at *;have HWA:=hid hWA;clear hWA;rcases Jl x with ⟨hd,hv⟩ | ⟨hd,hv⟩
 ·rw[hv] at HD
  cases hin:inB x.dst N with
  | false=>
   rw[hin] at HWI;have HR:Box (res=false):=hid (by rw[HE.o,hd,hin];rfl);clear HE hd hv hin;go_enter Tryz.func202,Tryz.ntmps202;go_upto_region 1 with fail;rw[HWA.o];clear HWA;generalize w.heap.size=q at *;go_wp2_with fail;refine (HD.o _).mono ?_;rintro e w1 ⟨rfl,k1⟩;have K1:=hid (KA.o.quiet k1);have c1:=C1.o _ K1.o;go_wp2_with fail;refine (HWI.o _).mono ?_;rintro e w2 ⟨rfl,hw2⟩;rw[hw2];clear hw2;go_wp2_with fail;go_ret;exact ⟨by rw[HR.o];rfl,K1.o⟩
  | true=>
   rw[hin] at HWI;have HR:Box (res=r2):=hid (by rw[HE.o,hd,hin];rfl);clear HE hd hv hin;go_enter Tryz.func202,Tryz.ntmps202;go_upto_region 1 with fail;rw[HWA.o];clear HWA;generalize w.heap.size=q at *;go_wp2_with fail;refine (HD.o _).mono ?_;rintro e w1 ⟨rfl,k1⟩;have K1:=hid (KA.o.quiet k1);have c1:=C1.o _ K1.o;go_wp2_with fail;refine (HWI.o _).mono ?_;rintro e w2 ⟨rfl,hw2⟩;rw[hw2];clear hw2;obtain ⟨b0,b1,b2,b3,b4,b5⟩:=IN.o _ k1;have KW:=hid k1;clear d0 d1 d2 d3 d4 d5 k1;go_upto_region 4 with fail
   go_region_held3 (fun w'=>w'.cell? ⟨fb,fo+1,none⟩=some (.slice ra N rp)∧w'.cell? ⟨q,0,none⟩=some (int i64 x.op)∧w'.cell? ⟨q,1,none⟩=some (int i64 x.dst)∧w'.cell? ⟨q,2,none⟩=some (int i64 x.a)∧w'.cell? ⟨q,3,none⟩=some (int i64 x.b)∧w'.cell? ⟨q,4,none⟩=some (int i64 x.n)∧w'.cell? ⟨q,5,none⟩=some (.slice a x.args.length cp)) (go_keep) (first
    | (go_at_call 190;refine (HU.o _ (K1.o.quiet (za.drew [] _))).mono ?_;rintro e w5 ⟨a1,p1,rfl,h1,k5⟩;have K5:=(K1.o.quiet (za.drew [] _)).quiet k5;have H1:=hid h1;have c5:=C1.o _ K5;have KW5:=(KW.o.quiet (za.drew [] _)).quiet k5;obtain ⟨f50,f51,f52,f53,f54,f55⟩:=IN.o _ KW5;clear h1 k5)
    | (go_at_call 168;refine (HA.o _ _ _ H1.o).mono ?_;rintro e w6 ⟨rfl,hw6⟩;have K6:za [] w w6:=(by rw[hw6];exact K5);have c6:=C1.o _ K6;have KW6:za [] WA w6:=(by rw[hw6];exact KW5);obtain ⟨f60,f61,f62,f63,f64,f65⟩:=IN.o _ KW6;clear hw6))
   go_wp2_with fail;go_ret;exact ⟨by rw[HR.o];rfl,K6⟩
 ·rw[hv] at HD
  have HR:Box (res=r2):=hid (by rw[HE.o,hd];rfl);clear HE hd hv HWI;go_enter Tryz.func202,Tryz.ntmps202;go_upto_region 1 with fail;rw[HWA.o];clear HWA;generalize w.heap.size=q at *;go_wp2_with fail;refine (HD.o _).mono ?_;rintro e w1 ⟨rfl,k1⟩;have K1:=hid (KA.o.quiet k1);have c1:=C1.o _ K1.o;obtain ⟨b0,b1,b2,b3,b4,b5⟩:=IN.o _ k1;have KW:=hid k1;clear d0 d1 d2 d3 d4 d5 k1;go_upto_region 4 with fail
  go_region_held3 (fun w'=>w'.cell? ⟨fb,fo+1,none⟩=some (.slice ra N rp)∧w'.cell? ⟨q,0,none⟩=some (int i64 x.op)∧w'.cell? ⟨q,1,none⟩=some (int i64 x.dst)∧w'.cell? ⟨q,2,none⟩=some (int i64 x.a)∧w'.cell? ⟨q,3,none⟩=some (int i64 x.b)∧w'.cell? ⟨q,4,none⟩=some (int i64 x.n)∧w'.cell? ⟨q,5,none⟩=some (.slice a x.args.length cp)) (go_keep) (first
   | (go_at_call 190;refine (HU.o _ (K1.o.quiet (za.drew [] _))).mono ?_;rintro e w5 ⟨a1,p1,rfl,h1,k5⟩;have K5:=(K1.o.quiet (za.drew [] _)).quiet k5;have H1:=hid h1;have c5:=C1.o _ K5;have KW5:=(KW.o.quiet (za.drew [] _)).quiet k5;obtain ⟨f50,f51,f52,f53,f54,f55⟩:=IN.o _ KW5;clear h1 k5)
   | (go_at_call 168;refine (HA.o _ _ _ H1.o).mono ?_;rintro e w6 ⟨rfl,hw6⟩;have K6:za [] w w6:=(by rw[hw6];exact K5);have c6:=C1.o _ K6;have KW6:za [] WA w6:=(by rw[hw6];exact KW5);obtain ⟨f60,f61,f62,f63,f64,f65⟩:=IN.o _ KW6;clear hw6))
  go_wp2_with fail;go_ret;exact ⟨by rw[HR.o];rfl,K6⟩
def rtB(P:Pr8)(f:Fu8)(x:In8):Bool:=(!zO x || tyB P (zj f x.dst)) && (qf x).all fun r=>tyB P (zj f r)
theorem zda(h:PrC w pb po P)(hf:FuC w fb fo f)(x:In8){a:Option Addr}{cp:Nat}(hz:zv w a x.args)(hl:x.args.length≤1000):Calls Tryz.prog 205 #[pointer (some ⟨pb,po,none⟩),pointer (some ⟨fb,fo,none⟩),zu x (.slice a x.args.length cp)] w fun e w'=>e=.returned (.bool (rtB P f x))∧za [] w w':=by
 have ka:=za.alloc [] w (.cells #[int i64 x.op,int i64 x.dst,int i64 x.a,int i64 x.b,int i64 x.n,.slice a x.args.length cp] 65);have hn:=ze w (.cells #[int i64 x.op,int i64 x.dst,int i64 x.a,int i64 x.b,int i64 x.n,.slice a x.args.length cp] 65);have HD:=hid fun (w':World)=>JT x (.slice a x.args.length cp) w';have HU:=hid fun (w':World) (k:za [] w w')=>JY x a cp w' (hz.kept k (fun _ _ _=>by simp)) (by omega);have hul:=QS x;have HRT:=hid fun (r:Int) (w':World) (k:za [] w w')=>zo (FuC.stays _ _ _ _ _ k hf) r;have HTN:=hid fun (t:Int × Int) (w':World) (k:za [] w w')=>ZU (PrC.stays _ _ _ _ _ k h) t;have IN:Box (∀ w',za [] (w.alloc (.cells #[int i64 x.op,int i64 x.dst,int i64 x.a,int i64 x.b,int i64 x.n,.slice a x.args.length cp] 65)) w'→InW w' w.heap.size x (.slice a x.args.length cp)):=hid fun w' k=>by
  have:=zd hn k;exact ⟨zc this 0,zc this 1,zc this 2,zc this 3,zc this 4,zc this 5⟩
 have KA:=hid ka;have HE:Box (rtB P f x=((!zO x || tyB P (zj f x.dst)) && (qf x).all fun r=>tyB P (zj f r))):=hid rfl;obtain ⟨d0,d1,d2,d3,d4,d5⟩:=IN.o _ (za.refl _ _);obtain ⟨N,hN⟩:∃ N,N=(qf x).length:=⟨_,rfl⟩;have HN:=hid hN;have hN9:(N:Int)≤2000:=by omega
 rw[← hN] at HU;clear h hf ka hn hz hl hul hN;unfold zu at *;generalize rtB P f x=res at *;generalize hWA:w.alloc (.cells #[int i64 x.op,int i64 x.dst,int i64 x.a,int i64 x.b,int i64 x.n,.slice a x.args.length cp] 65)=WA at *;have HWA:=hid hWA;clear hWA;by_cases hdd:zO x=true∧tyB P (zj f x.dst)=false
 ·obtain ⟨hd,ht⟩:=hdd
  rw[zX hd] at HD;have HR:Box (res=false):=hid (by rw[HE.o,hd,ht];rfl);have HC:=hid fun (w':World) (k:za [] w w')=>HTN.o (zj f x.dst) w' k;rw[ht] at HC;clear HE hd ht;go_enter Tryz.func205,Tryz.ntmps205;go_upto_region 1 with fail;rw[HWA.o];clear HWA;generalize w.heap.size=q at *;go_wp2_with fail;refine (HD.o _).mono ?_;rintro e w1 ⟨rfl,k1⟩;have K1:=hid (KA.o.quiet k1);go_wp2_with fail;refine (HRT.o _ _ K1.o).mono ?_;rintro e w2 ⟨rfl,k2⟩;have K2:=hid (K1.o.quiet k2);go_wp2_with fail;refine (HC.o _ K2.o).mono ?_;rintro e w3 ⟨rfl,k3⟩;have K3:=hid (K2.o.quiet k3);clear k1 k2 k3;go_wp2_with fail;go_ret;exact ⟨by rw[HR.o];rfl,K3.o⟩
 ·have HR:Box (res=(qf x).all fun r=>tyB P (zj f r)):=hid (by
   rw[HE.o];cases hd:zO x with
   | false=>simp
   | true=>
    cases ht:tyB P (zj f x.dst) with
    | true=>simp
    | false=>exact absurd ⟨hd,ht⟩ hdd)
  clear HE;go_enter Tryz.func205,Tryz.ntmps205;go_upto_region 1 with fail;rw[HWA.o];clear HWA;generalize w.heap.size=q at *;go_wp2_with fail;refine (HD.o _).mono ?_;rintro e w1 ⟨rfl,k1⟩;have K1:=hid (KA.o.quiet k1);have KW1:=hid k1;clear k1 d0 d1 d2 d3 d4 d5;rcases Jl x with ⟨hd,hv⟩ | ⟨hd,hv⟩
  ·rw[hv]
   have ht:tyB P (zj f x.dst)=true:=by
    cases ht:tyB P (zj f x.dst) with
    | true=>rfl
    | false=>exact absurd ⟨hd,ht⟩ hdd
   have HC:=hid fun (w':World) (k:za [] w w')=>HTN.o (zj f x.dst) w' k;rw[ht] at HC;clear ht hd hv hdd;go_wp2_with fail;refine (HRT.o _ _ K1.o).mono ?_;rintro e w2 ⟨rfl,k2⟩;have K2:=hid (K1.o.quiet k2);go_wp2_with fail;refine (HC.o _ K2.o).mono ?_;rintro e w3 ⟨rfl,k3⟩;have K3:=hid (K2.o.quiet k3);obtain ⟨d0,d1,d2,d3,d4,d5⟩:=IN.o _ ((KW1.o.quiet k2).quiet k3);clear k2 k3;go_wp2_with fail;refine (HU.o _ K3.o).mono ?_;rintro e w4 ⟨ua,up,rfl,hu,k4⟩;have K4:=hid (K3.o.quiet k4);have HUU:=hid hu;clear hu k4 d0 d1 d2 d3 d4 d5;go_wp2_with fail
   go_loopw [28] (fun kv wr=>∃ k:Nat,k≤N∧kv=int i64 (k:Int)∧Box (za [] w4 wr)∧Box (∀ j y,j<k→(qf x)[j]? = some y→tyB P (zj f y)=true)) (fun kv _=>N - (intOf kv).toNat)
   case atStart=>exact ⟨0,by omega,rfl,hid (za.refl _ _),hid fun j y hj=>by omega⟩
   case round=>
    obtain ⟨k,hk,rfl,HK,HB⟩:=hrel;by_cases hlt:k<N
    ·have hlt':(k:Int)<(N:Int):=by omega
     have hkl:k<(qf x).length:=by rw[← HN.o];exact hlt
     obtain ⟨y,hy⟩:∃ y,(qf x)[k]? = some y:=⟨_,List.getElem?_eq_getElem hkl⟩;obtain ⟨b,off,rfl,hc⟩:∃ b off,ua=some ⟨b,off,none⟩∧w4.cell? ⟨b,off+k,none⟩=some (int i64 y):=by
      rcases HUU.o with e | ⟨b,off,e,h⟩
      ·rw[e] at hy;simp at hy
      ·refine ⟨b,off,e,?_⟩
       rw[h k hkl,List.getD_eq_getElem?_getD,hy];rfl
     replace hc:=zb HK.o hc;have KK:=hid (K4.o.quiet HK.o);have HY:=hid hy;clear hy hkl;cases hg:tyB P (zj f y) with
     | true=>
      have HC:=hid fun (w':World) (k:za [] w w')=>HTN.o (zj f y) w' k;rw[hg] at HC;have HG:=hid hg;clear hg;go_wp2_with fail;refine (HRT.o _ _ KK.o).mono ?_;rintro e w5 ⟨rfl,k5⟩;have K5:=hid (KK.o.quiet k5);go_wp2_with fail;refine (HC.o _ K5.o).mono ?_;rintro e w6 ⟨rfl,k6⟩;have K6:=hid ((HK.o.quiet k5).quiet k6);clear k5 k6;go_wp2_with fail;go_roundw
      case rel=>exact ⟨k+1,by omega,by go_num,K6,hid fun j z hj hz=>by
       by_cases e:j<k
       ·exact HB.o j z e hz
       ·obtain rfl:j=k:=by omega
        rw[HY.o] at hz;cases hz
        exact HG.o⟩
      case measure=>simp[intOf];omega
     | false=>
      have HC:=hid fun (w':World) (k:za [] w w')=>HTN.o (zj f y) w' k;rw[hg] at HC;have HF:Box (res=false):=hid (by rw[HR.o];exact qO HY.o hg);clear hg;go_wp2_with fail;refine (HRT.o _ _ KK.o).mono ?_;rintro e w5 ⟨rfl,k5⟩;have K5:=hid (KK.o.quiet k5);go_wp2_with fail;refine (HC.o _ K5.o).mono ?_;rintro e w6 ⟨rfl,k6⟩;have K6:=hid (K5.o.quiet k6);clear k5 k6;go_wp2_with fail;go_ret;exact ⟨by rw[HF.o];rfl,K6.o⟩
    ·obtain rfl:N=k:=by omega
     have HF:Box (res=true):=hid (by rw[HR.o];exact jg (fun j y hy=>HB.o j y (by rw[HN.o];exact (List.getElem?_eq_some_iff.1 hy).1) hy));go_wp2_with fail;go_ret;exact ⟨by rw[HF.o];rfl,K4.o.quiet HK.o⟩
  ·rw[hv]
   clear hd hv hdd;have K3:=K1;obtain ⟨d0,d1,d2,d3,d4,d5⟩:=IN.o _ KW1.o;go_wp2_with fail;refine (HU.o _ K3.o).mono ?_;rintro e w4 ⟨ua,up,rfl,hu,k4⟩;have K4:=hid (K3.o.quiet k4);have HUU:=hid hu;clear hu k4 d0 d1 d2 d3 d4 d5;go_wp2_with fail
   go_loopw [28] (fun kv wr=>∃ k:Nat,k≤N∧kv=int i64 (k:Int)∧Box (za [] w4 wr)∧Box (∀ j y,j<k→(qf x)[j]? = some y→tyB P (zj f y)=true)) (fun kv _=>N - (intOf kv).toNat)
   case atStart=>exact ⟨0,by omega,rfl,hid (za.refl _ _),hid fun j y hj=>by omega⟩
   case round=>
    obtain ⟨k,hk,rfl,HK,HB⟩:=hrel;by_cases hlt:k<N
    ·have hlt':(k:Int)<(N:Int):=by omega
     have hkl:k<(qf x).length:=by rw[← HN.o];exact hlt
     obtain ⟨y,hy⟩:∃ y,(qf x)[k]? = some y:=⟨_,List.getElem?_eq_getElem hkl⟩;obtain ⟨b,off,rfl,hc⟩:∃ b off,ua=some ⟨b,off,none⟩∧w4.cell? ⟨b,off+k,none⟩=some (int i64 y):=by
      rcases HUU.o with e | ⟨b,off,e,h⟩
      ·rw[e] at hy;simp at hy
      ·refine ⟨b,off,e,?_⟩
       rw[h k hkl,List.getD_eq_getElem?_getD,hy];rfl
     replace hc:=zb HK.o hc;have KK:=hid (K4.o.quiet HK.o);have HY:=hid hy;clear hy hkl;cases hg:tyB P (zj f y) with
     | true=>
      have HC:=hid fun (w':World) (k:za [] w w')=>HTN.o (zj f y) w' k;rw[hg] at HC;have HG:=hid hg;clear hg;go_wp2_with fail;refine (HRT.o _ _ KK.o).mono ?_;rintro e w5 ⟨rfl,k5⟩;have K5:=hid (KK.o.quiet k5);go_wp2_with fail;refine (HC.o _ K5.o).mono ?_;rintro e w6 ⟨rfl,k6⟩;have K6:=hid ((HK.o.quiet k5).quiet k6);clear k5 k6;go_wp2_with fail;go_roundw
      case rel=>exact ⟨k+1,by omega,by go_num,K6,hid fun j z hj hz=>by
       by_cases e:j<k
       ·exact HB.o j z e hz
       ·obtain rfl:j=k:=by omega
        rw[HY.o] at hz;cases hz
        exact HG.o⟩
      case measure=>simp[intOf];omega
     | false=>
      have HC:=hid fun (w':World) (k:za [] w w')=>HTN.o (zj f y) w' k;rw[hg] at HC;have HF:Box (res=false):=hid (by rw[HR.o];exact qO HY.o hg);clear hg;go_wp2_with fail;refine (HRT.o _ _ KK.o).mono ?_;rintro e w5 ⟨rfl,k5⟩;have K5:=hid (KK.o.quiet k5);go_wp2_with fail;refine (HC.o _ K5.o).mono ?_;rintro e w6 ⟨rfl,k6⟩;have K6:=hid (K5.o.quiet k6);clear k5 k6;go_wp2_with fail;go_ret;exact ⟨by rw[HF.o];rfl,K6.o⟩
    ·obtain rfl:N=k:=by omega
     have HF:Box (res=true):=hid (by rw[HR.o];exact jg (fun j y hy=>HB.o j y (by rw[HN.o];exact (List.getElem?_eq_some_iff.1 hy).1) hy));go_wp2_with fail;go_ret;exact ⟨by rw[HF.o];rfl,K4.o.quiet HK.o⟩
end Go.Proofs.YtgmbkiagdhjpnaaGreatDoor
