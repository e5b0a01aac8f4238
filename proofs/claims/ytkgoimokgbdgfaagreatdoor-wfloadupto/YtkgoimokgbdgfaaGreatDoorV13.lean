import Derived.Test.YtkgoimokgbdgfaaGreatDoorV11

namespace Go.Proofs.YtkgoimokgbdgfaaGreatDoor
open Go.RowKit
open Go.Value (int pointer agg)
open Go.IntKind (i64)
set_option maxHeartbeats 4000000
set_option maxRecDepth 100000
variable {P:Program}{a:Int}{ad:Addr}{b b0 c f j n o:Nat}{ev:Operand→Value}{oi:Oper}{r:Bool}{v v0 v1 v2:Value}{w:World}{x x0 x1 y:Operand}
def Zl(P:Pr8)(k:Int):List (Int × Int):=P.recs.getD k.toNat []
def zaN(P:Pr8)(k:Int):List Int:=P.ifs.getD k.toNat []
def qy(P:Pr8)(t:Int × Int)(n:Int):Option (Int × Int):=if t.1=1∧inB t.2 P.recs.length=true∧inB n (Zl P t.2).length=true then some ((Zl P t.2).getD n.toNat (0,0)) else none
def zff(o:Option (Int × Int)):Value:=.tuple #[tyV (o.getD (0,0)),.bool o.isSome]
theorem JV{b:Int}(h:a=b):(a != b)=false:=by simpa using h
theorem J4{b:Int}(h:a≠b):(a != b)=true:=by simpa using h
theorem zbk{pb po:Nat}{P:Pr8}(h:PrC w pb po P)(t:Int × Int)(n:Int):Calls Tryz.prog 169 #[pointer (some ⟨pb,po,none⟩),tyV t,int i64 n] w fun e w'=>e=.returned (zff (qy P t n))∧zc [] w w':=by
 obtain ⟨a,cp,c0,hr,_⟩:=h.c0;obtain ⟨W,hW⟩:∃ W,W=(w.alloc (.cells #[int i64 t.1,int i64 t.2] 34)).alloc (.cells #[int i64 0,int i64 0] 34):=⟨_,rfl⟩;have k2:zc [] w W:=by rw[hW];exact (zc.alloc [] w _).quiet (zc.alloc [] _ _)
 replace c0:=za k2 c0;have hn1:W.heap[w.heap.size]? = some (.cells #[int i64 t.1,int i64 t.2] 34 (0,0)):=by rw[hW];exact ze (zf w _) (zc.alloc [] _ _)
 have hn2:W.heap[w.heap.size+1]? = some (.cells #[int i64 0,int i64 0] 34 (0,0)):=by
  have:=zf (w.alloc (.cells #[int i64 t.1,int i64 t.2] 34)) (.cells #[int i64 0,int i64 0] 34);rw[World.size_alloc] at this;rw[hW];exact this
 have HWI:=hid fun (k:Int) (n:Nat) (w:World)=>zC k n w;have K2:=hid k2;have HR:=hid hr;have HN2:=hid hn2;have s0:=zd hn1 0;have s1:=zd hn1 1;have z0:=zi hn2 0;have z1:=zi hn2 1;have q0:=zd hn2 0;have q1:=zd hn2 1;have HWE:=hid hW;have HL:Box (W.heap.size=w.heap.size+2∧zc [w.heap.size+1] W W):=hid ⟨by rw[hW];simp,zc.refl _ _⟩;have fin:∀ W' u0 u1,zc [] W W'→zc [] w ((W'.setCell ⟨w.heap.size+1,0,none⟩ u0).setCell ⟨w.heap.size+1,1,none⟩ u1):=fun W' u0 u1 k=>(K2.o.quiet k).trans (zdM _ (w.heap.size+1) _ _) (fun x hx hl=>by simp at hx;omega);have FIN:=hid fin;have E:Box (∀ W' u0 u1,zc [] W W'→(((W'.setCell ⟨w.heap.size+1,0,none⟩ u0).setCell ⟨w.heap.size+1,1,none⟩ u1)).heap[w.heap.size+1]? = some (.cells #[u0,u1] 34 (0,0))):=hid fun W' u0 u1 k=>zp2 (ze HN2.o k) u0 u1;clear h hr hW k2 hn1 hn2 fin;obtain ⟨t1,t2⟩:=t;simp only at *;by_cases h1:t1=1
 case neg=>
  have HE:Box (qy P (t1,t2) n=none):=hid (by unfold qy;rw[if_neg (fun h=>h1 h.1)]);have o1:=J4 h1;clear h1;go_enter Tryz.func169,Tryz.ntmps169;go_upto_region 1 with fail;rw[← HWE.o];clear HWE;generalize w.heap.size=q at *;go_quiet (fail);go_wp2_with fail;have e0:=fun m=>zd (E.o (W.drewN m) (int i64 0) (int i64 0) (zc.drewN [] W m)) 0;have e1:=fun m=>zd (E.o (W.drewN m) (int i64 0) (int i64 0) (zc.drewN [] W m)) 1;exact bodyPost_ret (v:=.tuple #[agg #[int i64 0,int i64 0],.bool false]) (by simp[results,Tryz.results169,go_sem,e0,e1]) rfl ⟨by rw[HE.o];rfl,FIN.o _ _ _ (zc.drewN [] W _)⟩
 subst h1;cases h2:inB t2 P.recs.length with
 | false=>
  have HE:Box (qy P (1,t2) n=none):=hid (by unfold qy;rw[if_neg (fun h=>by rw[h2] at h;exact Bool.noConfusion h.2.1)]);have HW1:Box (∀ w,Calls Tryz.prog 50 #[int i64 t2,int i64 (P.recs.length:Int)] w fun e w'=>e=.returned (.bool false)∧w'=w):=hid fun w=>by rw[← h2];exact HWI.o _ _ w
  clear h2;generalize P.recs.length=N at *;go_enter Tryz.func169,Tryz.ntmps169;go_upto_region 1 with fail;rw[← HWE.o];clear HWE;generalize w.heap.size=q at *;go_quiet ((go_at_call 50;exact Calls.quiet_of_same (HW1.o _)));go_wp2_with fail;have e0:=fun m=>zd (E.o (W.drewN m) (int i64 0) (int i64 0) (zc.drewN [] W m)) 0;have e1:=fun m=>zd (E.o (W.drewN m) (int i64 0) (int i64 0) (zc.drewN [] W m)) 1;exact bodyPost_ret (v:=.tuple #[agg #[int i64 0,int i64 0],.bool false]) (by simp[results,Tryz.results169,go_sem,e0,e1]) rfl ⟨by rw[HE.o];rfl,FIN.o _ _ _ (zc.drewN [] W _)⟩
 | true=>
  obtain ⟨g0,g1⟩:=zq.1 h2;have HW1:Box (∀ w,Calls Tryz.prog 50 #[int i64 t2,int i64 (P.recs.length:Int)] w fun e w'=>e=.returned (.bool true)∧w'=w):=hid fun w=>by rw[← h2];exact HWI.o _ _ w
  obtain ⟨k,rfl⟩:∃ k:Nat,t2=(k:Int):=⟨t2.toNat,by omega⟩;have ek:((k:Int)).toNat=k:=by omega
  obtain ⟨b,off,rfl,hc⟩:=HR.o.at (zh (l:=P.recs) (k:=k) (d:=[]) (by omega));rw[Nat.mul_one] at hc;obtain ⟨ra,rp,e5,hrr,_⟩:=hc;have d5:=za K2.o e5;have HRR:=hid hrr;have er:Zl P (k:Int)=P.recs.getD k []:=by unfold Zl;rw[ek]
  rw[← er] at d5 HRR;clear e5 hrr er;cases h3:inB n (Zl P (k:Int)).length with
  | false=>
   have HE:Box (qy P (1,(k:Int)) n=none):=hid (by unfold qy;rw[if_neg (fun h=>by rw[h3] at h;exact Bool.noConfusion h.2.2)]);have HW2:Box (∀ w,Calls Tryz.prog 50 #[int i64 n,int i64 ((Zl P (k:Int)).length:Int)] w fun e w'=>e=.returned (.bool false)∧w'=w):=hid fun w=>by rw[← h3];exact HWI.o _ _ w
   clear h2 h3 HRR HR;generalize (Zl P (k:Int)).length=M at *;generalize P.recs.length=N at *;go_enter Tryz.func169,Tryz.ntmps169;go_upto_region 1 with fail;rw[← HWE.o];clear HWE;generalize w.heap.size=q at *;go_quiet ((go_at_call 50;first | with_reducible exact Calls.quiet_of_same (HW1.o _) | with_reducible exact Calls.quiet_of_same (HW2.o _)));go_wp2_with fail;have e0:=fun m=>zd (E.o (W.drewN m) (int i64 0) (int i64 0) (zc.drewN [] W m)) 0;have e1:=fun m=>zd (E.o (W.drewN m) (int i64 0) (int i64 0) (zc.drewN [] W m)) 1;exact bodyPost_ret (v:=.tuple #[agg #[int i64 0,int i64 0],.bool false]) (by simp[results,Tryz.results169,go_sem,e0,e1]) rfl ⟨by rw[HE.o];rfl,FIN.o _ _ _ (zc.drewN [] W _)⟩
  | true=>
   obtain ⟨g2,g3⟩:=zq.1 h3;have HE:Box (qy P (1,(k:Int)) n=some ((Zl P (k:Int)).getD n.toNat (0,0))):=hid (by unfold qy;rw[if_pos ⟨rfl,h2,h3⟩]);have HW2:Box (∀ w,Calls Tryz.prog 50 #[int i64 n,int i64 ((Zl P (k:Int)).length:Int)] w fun e w'=>e=.returned (.bool true)∧w'=w):=hid fun w=>by rw[← h3];exact HWI.o _ _ w
   obtain ⟨j,rfl⟩:∃ j:Nat,n=(j:Int):=⟨n.toNat,by omega⟩;have ej:((j:Int)).toNat=j:=by omega
   rw[ej] at HE;obtain ⟨fb,fo,rfl,hf⟩:=HRR.o.at (zh (l:=Zl P (k:Int)) (k:=j) (d:=(0,0)) (by omega));have f0:=za K2.o hf.c0.1;have f1:=za K2.o hf.c1.1;clear hf h2 h3 HRR HR;generalize (Zl P (k:Int)).getD j (0,0)=T at *;generalize (Zl P (k:Int)).length=M at *;generalize P.recs.length=N at *;go_enter Tryz.func169,Tryz.ntmps169;go_upto_region 1 with fail;rw[← HWE.o];clear HWE;generalize w.heap.size=q at *;go_quiet ((go_at_call 50;first | with_reducible exact Calls.quiet_of_same (HW1.o _) | with_reducible exact Calls.quiet_of_same (HW2.o _)));go_upto_region 3 with fail
   go_region
   go_wp2_with fail;have e0:=fun m=>zd (E.o (W.drewN m) (int i64 T.1) (int i64 T.2) (zc.drewN [] W m)) 0;have e1:=fun m=>zd (E.o (W.drewN m) (int i64 T.1) (int i64 T.2) (zc.drewN [] W m)) 1;exact bodyPost_ret (v:=.tuple #[agg #[int i64 T.1,int i64 T.2],.bool true]) (by simp[results,Tryz.results169,go_sem,e0,e1]) rfl ⟨by rw[HE.o];rfl,FIN.o _ _ _ (zc.drewN [] W _)⟩
def Zu(P:Pr8)(t:Int × Int)(n:Int):Option (List (Int × Int) × Int × Int):=if t.1=3∧inB t.2 P.ifs.length=true∧inB n (zaN P t.2).length=true then Jh P ((zaN P t.2).getD n.toNat 0) else none
theorem zcc{w0:World}{pb po:Nat}{P:Pr8}(h:PrC w0 pb po P)(k0:zc [] w0 w)(t:Int × Int)(n:Int):Calls Tryz.prog 170 #[pointer (some ⟨pb,po,none⟩),tyV t,int i64 n] w (qR (Zu P t n) w0 w):=by
 obtain ⟨a,cp,c0,hr,_⟩:=h.c2;obtain ⟨W,hW⟩:∃ W,W=(w.alloc (.cells #[int i64 t.1,int i64 t.2] 34)).alloc (.cells #[.slice none 0 0,int i64 0,int i64 0] 36):=⟨_,rfl⟩;have k2:zc [] w W:=by rw[hW];exact (zc.alloc [] w _).quiet (zc.alloc [] _ _)
 replace c0:=za (k0.quiet k2) c0;have hn1:W.heap[w.heap.size]? = some (.cells #[int i64 t.1,int i64 t.2] 34 (0,0)):=by rw[hW];exact ze (zf w _) (zc.alloc [] _ _)
 have hn2:W.heap[w.heap.size+1]? = some (.cells #[.slice none 0 0,int i64 0,int i64 0] 36 (0,0)):=by
  have:=zf (w.alloc (.cells #[int i64 t.1,int i64 t.2] 34)) (.cells #[.slice none 0 0,int i64 0,int i64 0] 36);rw[World.size_alloc] at this;rw[hW];exact this
 have HWI:=hid fun (k:Int) (n:Nat) (w:World)=>zC k n w;have K2:=hid k2;have K02:=hid (k0.quiet k2);have HR:=hid hr;have HN2:=hid hn2;have s0:=zd hn1 0;have s1:=zd hn1 1;have z0:=zi hn2 0;have z1:=zi hn2 1;have z2:=zi hn2 2;have q0:=zd hn2 0;have q1:=zd hn2 1;have q2:=zd hn2 2;have HWE:=hid hW;have HL:Box (W.heap.size=w.heap.size+2∧zc [w.heap.size+1] W W):=hid ⟨by rw[hW];simp,zc.refl _ _⟩;have fin:∀ W' u0 u1 u2,zc [] W W'→zc [] w (((W'.setCell ⟨w.heap.size+1,0,none⟩ u0).setCell ⟨w.heap.size+1,1,none⟩ u1).setCell ⟨w.heap.size+1,2,none⟩ u2):=fun W' u0 u1 u2 k=>(K2.o.quiet k).trans (jd _ (w.heap.size+1) _ _ _) (fun x hx hl=>by simp at hx;omega);have FIN:=hid fin;have E:Box (∀ W' u0 u1 u2,zc [] W W'→((((W'.setCell ⟨w.heap.size+1,0,none⟩ u0).setCell ⟨w.heap.size+1,1,none⟩ u1)).setCell ⟨w.heap.size+1,2,none⟩ u2).heap[w.heap.size+1]? = some (.cells #[u0,u1,u2] 36 (0,0))):=hid fun W' u0 u1 u2 k=>ZC (ze HN2.o k) u0 u1 u2;have HP:=hid h;clear h hr hW k2 k0 hn1 hn2 fin;obtain ⟨t1,t2⟩:=t;simp only at *;by_cases h1:t1=3
 case neg=>
  have HE:Box (Zu P (t1,t2) n=none):=hid (by unfold Zu;rw[if_neg (fun h=>h1 h.1)]);have o1:=J4 h1;clear h1;go_enter Tryz.func170,Tryz.ntmps170;go_upto_region 1 with fail;rw[← HWE.o];clear HWE;generalize w.heap.size=q at *;go_quiet (fail);go_wp2_with fail;have e0:=fun m=>zd (E.o (W.drewN m) (.slice none 0 0) (int i64 0) (int i64 0) (zc.drewN [] W m)) 0;have e1:=fun m=>zd (E.o (W.drewN m) (.slice none 0 0) (int i64 0) (int i64 0) (zc.drewN [] W m)) 1;have e2:=fun m=>zd (E.o (W.drewN m) (.slice none 0 0) (int i64 0) (int i64 0) (zc.drewN [] W m)) 2;exact bodyPost_ret (v:=.tuple #[agg #[.slice none 0 0,int i64 0,int i64 0],.bool false]) (by simp[results,Tryz.results170,go_sem,e0,e1,e2]) rfl (by rw[HE.o];exact ⟨FIN.o _ _ _ _ (zc.drewN [] W _),rfl⟩)
 subst h1;cases h2:inB t2 P.ifs.length with
 | false=>
  have HE:Box (Zu P (3,t2) n=none):=hid (by unfold Zu;rw[if_neg (fun h=>by rw[h2] at h;exact Bool.noConfusion h.2.1)]);have HW1:Box (∀ w,Calls Tryz.prog 50 #[int i64 t2,int i64 (P.ifs.length:Int)] w fun e w'=>e=.returned (.bool false)∧w'=w):=hid fun w=>by rw[← h2];exact HWI.o _ _ w
  clear h2;generalize P.ifs.length=N at *;go_enter Tryz.func170,Tryz.ntmps170;go_upto_region 1 with fail;rw[← HWE.o];clear HWE;generalize w.heap.size=q at *;go_quiet ((go_at_call 50;exact Calls.quiet_of_same (HW1.o _)));go_wp2_with fail;have e0:=fun m=>zd (E.o (W.drewN m) (.slice none 0 0) (int i64 0) (int i64 0) (zc.drewN [] W m)) 0;have e1:=fun m=>zd (E.o (W.drewN m) (.slice none 0 0) (int i64 0) (int i64 0) (zc.drewN [] W m)) 1;have e2:=fun m=>zd (E.o (W.drewN m) (.slice none 0 0) (int i64 0) (int i64 0) (zc.drewN [] W m)) 2;exact bodyPost_ret (v:=.tuple #[agg #[.slice none 0 0,int i64 0,int i64 0],.bool false]) (by simp[results,Tryz.results170,go_sem,e0,e1,e2]) rfl (by rw[HE.o];exact ⟨FIN.o _ _ _ _ (zc.drewN [] W _),rfl⟩)
 | true=>
  obtain ⟨g0,g1⟩:=zq.1 h2;have HW1:Box (∀ w,Calls Tryz.prog 50 #[int i64 t2,int i64 (P.ifs.length:Int)] w fun e w'=>e=.returned (.bool true)∧w'=w):=hid fun w=>by rw[← h2];exact HWI.o _ _ w
  obtain ⟨k,rfl⟩:∃ k:Nat,t2=(k:Int):=⟨t2.toNat,by omega⟩;have ek:((k:Int)).toNat=k:=by omega
  obtain ⟨b,off,rfl,hc⟩:=HR.o.at (zh (l:=P.ifs) (k:=k) (d:=[]) (by omega));rw[Nat.mul_one] at hc;obtain ⟨ra,rp,e5,hrr,_⟩:=hc;have d5:=za K02.o e5;have HRR:=hid hrr;have er:zaN P (k:Int)=P.ifs.getD k []:=by unfold zaN;rw[ek]
  rw[← er] at d5 HRR;clear e5 hrr er;cases h3:inB n (zaN P (k:Int)).length with
  | false=>
   have HE:Box (Zu P (3,(k:Int)) n=none):=hid (by unfold Zu;rw[if_neg (fun h=>by rw[h3] at h;exact Bool.noConfusion h.2.2)]);have HW2:Box (∀ w,Calls Tryz.prog 50 #[int i64 n,int i64 ((zaN P (k:Int)).length:Int)] w fun e w'=>e=.returned (.bool false)∧w'=w):=hid fun w=>by rw[← h3];exact HWI.o _ _ w
   clear h2 h3 HRR HR;generalize (zaN P (k:Int)).length=M at *;generalize P.ifs.length=N at *;go_enter Tryz.func170,Tryz.ntmps170;go_upto_region 1 with fail;rw[← HWE.o];clear HWE;generalize w.heap.size=q at *;go_quiet ((go_at_call 50;first | with_reducible exact Calls.quiet_of_same (HW1.o _) | with_reducible exact Calls.quiet_of_same (HW2.o _)));go_wp2_with fail;have e0:=fun m=>zd (E.o (W.drewN m) (.slice none 0 0) (int i64 0) (int i64 0) (zc.drewN [] W m)) 0;have e1:=fun m=>zd (E.o (W.drewN m) (.slice none 0 0) (int i64 0) (int i64 0) (zc.drewN [] W m)) 1;have e2:=fun m=>zd (E.o (W.drewN m) (.slice none 0 0) (int i64 0) (int i64 0) (zc.drewN [] W m)) 2;exact bodyPost_ret (v:=.tuple #[agg #[.slice none 0 0,int i64 0,int i64 0],.bool false]) (by simp[results,Tryz.results170,go_sem,e0,e1,e2]) rfl (by rw[HE.o];exact ⟨FIN.o _ _ _ _ (zc.drewN [] W _),rfl⟩)
  | true=>
   obtain ⟨g2,g3⟩:=zq.1 h3;have HE:Box (Zu P (3,(k:Int)) n=Jh P ((zaN P (k:Int)).getD n.toNat 0)):=hid (by unfold Zu;rw[if_pos ⟨rfl,h2,h3⟩]);have HW2:Box (∀ w,Calls Tryz.prog 50 #[int i64 n,int i64 ((zaN P (k:Int)).length:Int)] w fun e w'=>e=.returned (.bool true)∧w'=w):=hid fun w=>by rw[← h3];exact HWI.o _ _ w
   obtain ⟨j,rfl⟩:∃ j:Nat,n=(j:Int):=⟨n.toNat,by omega⟩;have ej:((j:Int)).toNat=j:=by omega
   rw[ej] at HE;obtain ⟨fb,fo,rfl,hf⟩:=HRR.o.at (zh (l:=zaN P (k:Int)) (k:=j) (d:=0) (by omega));rw[Nat.mul_one] at hf;have f0:=za K02.o hf.1;have HSG:=hid fun (w':World) (kk:zc [] W w')=>zad HP.o (K02.o.quiet kk) ((zaN P (k:Int)).getD j 0);rw[HE.o];clear hf h2 h3 HRR HR HE;generalize (zaN P (k:Int)).getD j 0=T at *;generalize (zaN P (k:Int)).length=M at *;generalize P.ifs.length=N at *;go_enter Tryz.func170,Tryz.ntmps170;go_upto_region 1 with fail;rw[← HWE.o];clear HWE;generalize w.heap.size=q at *;go_quiet ((go_at_call 50;first | with_reducible exact Calls.quiet_of_same (HW1.o _) | with_reducible exact Calls.quiet_of_same (HW2.o _)));go_upto_region 3 with fail;cases hs:Jh P T with
   | none=>
    rw[hs] at HSG
    go_region_with (go_at_call 101;refine (HSG.o _ (by first | exact zc.drewN _ _ _ | exact (zc.drewN _ _ _).quiet (zc.drew _ _))).mono ?_;rintro e w5 ⟨k5,rfl⟩;have hb5:w5.heap[q+1]? = some (.cells #[.slice none 0 0,int i64 0,int i64 0] 36 (0,0)):=(k5.block (q+1) (z8 HN2.o) (by simp)).trans HN2.o;have K5:zc [] W w5:=⟨k5.os,k5.tape,k5.output,k5.size,k5.block⟩;have y0:=zi hb5 0;have y1:=zi hb5 1;have y2:=zi hb5 2;have x0:=zd hb5 0;have x1:=zd hb5 1;have x2:=zd hb5 2;have KK5:=hid K5;have HB5:=hid hb5;clear hb5 K5 k5)
    all_goals (
     go_wp2_with fail;have h3:=ZC HB5.o (.slice none 0 0) (int i64 0) (int i64 0);have e0:=zd h3 0;have e1:=zd h3 1;have e2:=zd h3 2
     exact bodyPost_ret (v:=.tuple #[agg #[.slice none 0 0,int i64 0,int i64 0],.bool false]) (by simp[results,Tryz.results170,go_sem,e0,e1,e2]) rfl ⟨FIN.o _ _ _ _ KK5.o,by rw[hs]⟩)
   | some sg=>
    rw[hs] at HSG
    go_region_with (go_at_call 101;refine (HSG.o _ (by first | exact zc.drewN _ _ _ | exact (zc.drewN _ _ _).quiet (zc.drew _ _))).mono ?_;rintro e w5 ⟨k5,v5,rfl,hv5⟩;have hb5:w5.heap[q+1]? = some (.cells #[.slice none 0 0,int i64 0,int i64 0] 36 (0,0)):=(k5.block (q+1) (z8 HN2.o) (by simp)).trans HN2.o;have K5:zc [] W w5:=⟨k5.os,k5.tape,k5.output,k5.size,k5.block⟩;have y0:=zi hb5 0;have y1:=zi hb5 1;have y2:=zi hb5 2;have x0:=zd hb5 0;have x1:=zd hb5 1;have x2:=zd hb5 2;have KK5:=hid K5;have HB5:=hid hb5;obtain ⟨ga,gp,rfl,hv6⟩:=hv5;have HV6:=hid hv6;clear hv6;clear hb5 K5 k5)
    all_goals (
     go_wp2_with fail;have h3:=ZC HB5.o (.slice ga sg.1.length gp) (int i64 sg.2.1) (int i64 sg.2.2);have e0:=zd h3 0;have e1:=zd h3 1;have e2:=zd h3 2
     exact bodyPost_ret (v:=.tuple #[agg #[.slice ga sg.1.length gp,int i64 sg.2.1,int i64 sg.2.2],.bool true]) (by simp[results,Tryz.results170,go_sem,e0,e1,e2]) rfl ⟨FIN.o _ _ _ _ KK5.o,by rw[hs];exact ⟨_,rfl,ga,gp,rfl,HV6.o⟩⟩)
theorem za9{b:Bool}(ho:oi.op=.unOp .not 4 x)(hx:ev x=.bool b)(hr:(!b)=r:=by rfl):(execOp ev oi).run Tryz.prog w=.ok (.value (.bool r)) w:=by
 subst hr;simp[execOp,ho,hx,go_sem]
theorem zT(hc:w.cell? ad=some v)(ho:oi.op=.load 3 y)(hy:ev y=.pointer (some ad)):(execOp ev oi).run Tryz.prog w=.ok (.value v) w:=by simp[execOp,ho,hy,go_sem,hc]
theorem zU(hc:w.cell? ad=some v)(ho:oi.op=.load 25 y)(hy:ev y=.pointer (some ad)):(execOp ev oi).run Tryz.prog w=.ok (.value v) w:=by simp[execOp,ho,hy,go_sem,hc]
theorem jR(ho:oi.op=.indexAddr 25 x y)(hx:ev x=.slice (some ⟨b,o,none⟩) n c)(hy:ev y=int i64 (j:Int))(hj:(j:Int)<(n:Int)):(execOp ev oi).run Tryz.prog w=.ok (.value (pointer (some ⟨b,o+j * 2,none⟩))) w:=by
 simp[execOp,ho,hx,hy,go_sem];intro h';omega
theorem qU{a:Option Addr}(ho:oi.op=.call { callee:=.builtin .len,args:=#[x],argTypes:=#[25] })(hx:ev x=.slice a n c):(execOp ev oi).run Tryz.prog w=.ok (.value (int i64 (n:Int))) w:=by
 obtain ⟨dst,op,type,pos,after,guard⟩:=oi;simp only at ho;subst ho;simp[hx,go_sem]
theorem zc2(hc:w.cell? ad=some v)(ho:oi.op=.load 26 y)(hy:ev y=.pointer (some ad)):(execOp ev oi).run Tryz.prog w=.ok (.value v) w:=by simp[execOp,ho,hy,go_sem,hc]
theorem zbv{a:Option Addr}(ho:oi.op=.call { callee:=.builtin .len,args:=#[x],argTypes:=#[26] })(hx:ev x=.slice a n c):(execOp ev oi).run Tryz.prog w=.ok (.value (int i64 (n:Int))) w:=by
 obtain ⟨dst,op,type,pos,after,guard⟩:=oi;simp only at ho;subst ho;simp[hx,go_sem]
theorem qT(hc:w.cell? ad=some v)(ho:oi.op=.load 27 y)(hy:ev y=.pointer (some ad)):(execOp ev oi).run Tryz.prog w=.ok (.value v) w:=by simp[execOp,ho,hy,go_sem,hc]
theorem Zg(ho:oi.op=.indexAddr 27 x y)(hx:ev x=.slice (some ⟨b,o,none⟩) n c)(hy:ev y=int i64 (j:Int))(hj:(j:Int)<(n:Int)):(execOp ev oi).run Tryz.prog w=.ok (.value (pointer (some ⟨b,o+j * 3,none⟩))) w:=by
 simp[execOp,ho,hx,hy,go_sem];intro h';omega
theorem Q8{a:Option Addr}(ho:oi.op=.call { callee:=.builtin .len,args:=#[x],argTypes:=#[27] })(hx:ev x=.slice a n c):(execOp ev oi).run Tryz.prog w=.ok (.value (int i64 (n:Int))) w:=by
 obtain ⟨dst,op,type,pos,after,guard⟩:=oi;simp only at ho;subst ho;simp[hx,go_sem]
theorem zcx(hc:w.cell? ad=some v)(ho:oi.op=.load 28 y)(hy:ev y=.pointer (some ad)):(execOp ev oi).run Tryz.prog w=.ok (.value v) w:=by simp[execOp,ho,hy,go_sem,hc]
theorem ziT(ho:oi.op=.indexAddr 28 x y)(hx:ev x=.slice (some ⟨b,o,none⟩) n c)(hy:ev y=int i64 (j:Int))(hj:(j:Int)<(n:Int)):(execOp ev oi).run Tryz.prog w=.ok (.value (pointer (some ⟨b,o+j,none⟩))) w:=by
 simp[execOp,ho,hx,hy,go_sem];intro h';omega
theorem zeZ{a:Option Addr}(ho:oi.op=.call { callee:=.builtin .len,args:=#[x],argTypes:=#[28] })(hx:ev x=.slice a n c):(execOp ev oi).run Tryz.prog w=.ok (.value (int i64 (n:Int))) w:=by
 obtain ⟨dst,op,type,pos,after,guard⟩:=oi;simp only at ho;subst ho;simp[hx,go_sem]
theorem zhK(ho:oi.op=.indexAddr 29 x y)(hx:ev x=.slice (some ⟨b,o,none⟩) n c)(hy:ev y=int i64 (j:Int))(hj:(j:Int)<(n:Int)):(execOp ev oi).run Tryz.prog w=.ok (.value (pointer (some ⟨b,o+j * 3,none⟩))) w:=by
 simp[execOp,ho,hx,hy,go_sem];intro h';omega
theorem j4(hc:w.cell? ad=some v)(ho:oi.op=.load 30 y)(hy:ev y=.pointer (some ad)):(execOp ev oi).run Tryz.prog w=.ok (.value v) w:=by simp[execOp,ho,hy,go_sem,hc]
theorem Zt(ho:oi.op=.indexAddr 30 x y)(hx:ev x=.slice (some ⟨b,o,none⟩) n c)(hy:ev y=int i64 (j:Int))(hj:(j:Int)<(n:Int)):(execOp ev oi).run Tryz.prog w=.ok (.value (pointer (some ⟨b,o+j * 3,none⟩))) w:=by
 simp[execOp,ho,hx,hy,go_sem];intro h';omega
theorem zaL{a:Option Addr}(ho:oi.op=.call { callee:=.builtin .len,args:=#[x],argTypes:=#[30] })(hx:ev x=.slice a n c):(execOp ev oi).run Tryz.prog w=.ok (.value (int i64 (n:Int))) w:=by
 obtain ⟨dst,op,type,pos,after,guard⟩:=oi;simp only at ho;subst ho;simp[hx,go_sem]
theorem zaO(hc:w.cell? ad=some v)(ho:oi.op=.load 37 y)(hy:ev y=.pointer (some ad)):(execOp ev oi).run Tryz.prog w=.ok (.value v) w:=by simp[execOp,ho,hy,go_sem,hc]
theorem JI(ho:oi.op=.indexAddr 37 x y)(hx:ev x=.slice (some ⟨b,o,none⟩) n c)(hy:ev y=int i64 (j:Int))(hj:(j:Int)<(n:Int)):(execOp ev oi).run Tryz.prog w=.ok (.value (pointer (some ⟨b,o+j,none⟩))) w:=by
 simp[execOp,ho,hx,hy,go_sem];intro h';omega
theorem zmG(hc:w.cell? ad=some v)(ho:oi.op=.load 43 y)(hy:ev y=.pointer (some ad)):(execOp ev oi).run Tryz.prog w=.ok (.value v) w:=by simp[execOp,ho,hy,go_sem,hc]
theorem znl(ho:oi.op=.indexAddr 43 x y)(hx:ev x=.slice (some ⟨b,o,none⟩) n c)(hy:ev y=int i64 (j:Int))(hj:(j:Int)<(n:Int)):(execOp ev oi).run Tryz.prog w=.ok (.value (pointer (some ⟨b,o+j * 5,none⟩))) w:=by
 simp[execOp,ho,hx,hy,go_sem];intro h';omega
theorem zik(ho:oi.op=.indexAddr 101 x y)(hx:ev x=.slice (some ⟨b,o,none⟩) n c)(hy:ev y=int i64 (j:Int))(hj:(j:Int)<(n:Int)):(execOp ev oi).run Tryz.prog w=.ok (.value (pointer (some ⟨b,o+j * 3,none⟩))) w:=by
 simp[execOp,ho,hx,hy,go_sem];intro h';omega
theorem qv(h0:w.cell? ⟨b,o+0,none⟩=some v0)(h1:w.cell? ⟨b,o+1,none⟩=some v1)(ho:oi.op=.load 34 y)(hy:ev y=pointer (some ⟨b,o,none⟩)):(execOp ev oi).run Tryz.prog w=.ok (.value (agg #[v0,v1])) w:=by
 rw[Nat.add_zero] at h0;simp[execOp,ho,hy,go_sem,h0,h1]
theorem zoD(h0:w.cell? ⟨b,o+0,none⟩=some v0)(h1:w.cell? ⟨b,o+1,none⟩=some v1)(h2:w.cell? ⟨b,o+2,none⟩=some v2)(ho:oi.op=.load 45 y)(hy:ev y=pointer (some ⟨b,o,none⟩)):(execOp ev oi).run Tryz.prog w=.ok (.value (agg #[v0,v1,v2])) w:=by
 rw[Nat.add_zero] at h0;simp[execOp,ho,hy,go_sem,h0,h1,h2]
theorem zdk(h0:w.cell? ⟨b,o+0,none⟩=some v0)(h1:w.cell? ⟨b,o+1,none⟩=some v1)(h2:w.cell? ⟨b,o+2,none⟩=some v2)(ho:oi.op=.load 36 y)(hy:ev y=pointer (some ⟨b,o,none⟩)):(execOp ev oi).run Tryz.prog w=.ok (.value (agg #[v0,v1,v2])) w:=by
 rw[Nat.add_zero] at h0;simp[execOp,ho,hy,go_sem,h0,h1,h2]
theorem zo5{v3 v4:Value}(h0:w.cell? ⟨b,o+0,none⟩=some v0)(h1:w.cell? ⟨b,o+1,none⟩=some v1)(h2:w.cell? ⟨b,o+2,none⟩=some v2)(h3:w.cell? ⟨b,o+3,none⟩=some v3)(h4:w.cell? ⟨b,o+4,none⟩=some v4)(ho:oi.op=.load 42 y)(hy:ev y=pointer (some ⟨b,o,none⟩)):(execOp ev oi).run Tryz.prog w=.ok (.value (agg #[v0,v1,v2,v3,v4])) w:=by
 rw[Nat.add_zero] at h0;simp[execOp,ho,hy,go_sem,h0,h1,h2,h3,h4]
theorem zoU(h0:w.cell? ⟨b,o+0,none⟩=some v0)(h1:w.cell? ⟨b,o+1,none⟩=some v1)(h2:w.cell? ⟨b,o+2,none⟩=some v2)(ho:oi.op=.load 55 y)(hy:ev y=pointer (some ⟨b,o,none⟩)):(execOp ev oi).run Tryz.prog w=.ok (.value (agg #[v0,v1,v2])) w:=by
 rw[Nat.add_zero] at h0;simp[execOp,ho,hy,go_sem,h0,h1,h2]
theorem zit{b:Int}(ho:oi.op=.binOp .eql 3 x y 3)(hx:ev x=int i64 a)(hy:ev y=int i64 b)(hr:(a == b)=r):(execOp ev oi).run Tryz.prog w=.ok (.value (.bool r)) w:=by
 simp[execOp,ho,hx,hy,go_sem,hr]
theorem zeR{b:Int}(ho:oi.op=.binOp .neq 3 x y 3)(hx:ev x=int i64 a)(hy:ev y=int i64 b)(hr:(a != b)=r):(execOp ev oi).run Tryz.prog w=.ok (.value (.bool r)) w:=by
 simp[execOp,ho,hx,hy,go_sem,hr]
theorem zfa{b:Int}(ho:oi.op=.binOp .gtr 3 x y 3)(hx:ev x=int i64 a)(hy:ev y=int i64 b)(hr:decide (b<a)=r):(execOp ev oi).run Tryz.prog w=.ok (.value (.bool r)) w:=by
 simp[execOp,ho,hx,hy,go_sem,hr]
theorem zls{ts:Array TypeId}(ho:oi.op=.call { callee:=.value (.func f),args:=#[],argTypes:=ts })(hf:ev (.func f)=.func (.func f) #[] #[])(hc:(callFunc f #[]).run P w=.ok (.enter f #[]) w):(execOp ev oi).run P w=.ok (.enter f #[]) w:=by
 skip
 simp[execOp,ho,hf,go_sem,hc]
theorem qK{ts:Array TypeId}(ho:oi.op=.call { callee:=.value (.func f),args:=#[x0,x1],argTypes:=ts })(hf:ev (.func f)=.func (.func f) #[] #[])(h0:ev x0=v0)(h1:ev x1=v1)(hc:(callFunc f #[v0,v1]).run P w=.ok (.enter f #[v0,v1]) w):(execOp ev oi).run P w=.ok (.enter f #[v0,v1]) w:=by
 subst h0 h1;simp[execOp,ho,hf,go_sem,hc]
theorem zor{x2:Operand}{ts:Array TypeId}(ho:oi.op=.call { callee:=.value (.func f),args:=#[x0,x1,x2],argTypes:=ts })(hf:ev (.func f)=.func (.func f) #[] #[])(h0:ev x0=v0)(h1:ev x1=v1)(h2:ev x2=v2)(hc:(callFunc f #[v0,v1,v2]).run P w=.ok (.enter f #[v0,v1,v2]) w):(execOp ev oi).run P w=.ok (.enter f #[v0,v1,v2]) w:=by
 subst h0 h1 h2;simp[execOp,ho,hf,go_sem,hc]
theorem znP{x2 x3:Operand}{ts:Array TypeId}{v3:Value}(ho:oi.op=.call { callee:=.value (.func f),args:=#[x0,x1,x2,x3],argTypes:=ts })(hf:ev (.func f)=.func (.func f) #[] #[])(h0:ev x0=v0)(h1:ev x1=v1)(h2:ev x2=v2)(h3:ev x3=v3)(hc:(callFunc f #[v0,v1,v2,v3]).run P w=.ok (.enter f #[v0,v1,v2,v3]) w):(execOp ev oi).run P w=.ok (.enter f #[v0,v1,v2,v3]) w:=by
 subst h0 h1 h2 h3;simp[execOp,ho,hf,go_sem,hc]
theorem zkL{b c d:Int}(ho:oi.op=.binOp .eql 34 x y 34)(hx:ev x=agg #[int i64 a,int i64 b])(hy:ev y=agg #[int i64 c,int i64 d])(hr:tyE (a,b) (c,d)=r):(execOp ev oi).run Tryz.prog w=.ok (.value (.bool r)) w:=by
 subst hr;simp[execOp,ho,hx,hy,go_sem];unfold tyE;by_cases h:a=c <;> by_cases h':b=d <;> simp[h,h']
theorem zlx{b c d:Int}(ho:oi.op=.binOp .neq 34 x y 34)(hx:ev x=agg #[int i64 a,int i64 b])(hy:ev y=agg #[int i64 c,int i64 d])(hr:tyE (a,b) (c,d)=r):(execOp ev oi).run Tryz.prog w=.ok (.value (.bool (!r))) w:=by
 subst hr;simp[execOp,ho,hx,hy,go_sem];unfold tyE;by_cases h:a=c <;> by_cases h':b=d <;> simp[h,h']
theorem zpK{p m:Nat}{ad:Option Addr}{k:Operand}(ho:oi.op=.slice 25 x (some k) none none)(hx:ev x=.slice (some ⟨b,o,none⟩) n p)(hk:ev k=int i64 1)(hn:n=m+1)(hp:p=c+1)(had:ad=if c=0 then some ⟨b,o,none⟩ else some ⟨b,o+2,none⟩):(execOp ev oi).run Tryz.prog w=.ok (.value (.slice ad m c)) w:=by
 subst hn hp had;have h1:(1:Int)≤(m:Int)+1:=by omega
 simp[execOp,ho,hx,hk,go_sem,h1]
theorem zn4(ho:oi.op=.indexAddr 25 x y)(hx:ev x=.slice (some ⟨b,o,none⟩) n c)(hy:ev y=int i64 0)(hj:(0:Int)<(n:Int)):(execOp ev oi).run Tryz.prog w=.ok (.value (pointer (some ⟨b,o,none⟩))) w:=by
 simp[execOp,ho,hx,hy,go_sem];omega
theorem qA(v u:Value)(w:World):(callFunc 64 #[v,u]).run Tryz.prog w=.ok (.enter 64 #[v,u]) w:=by go_simp
theorem zds(v u:Value)(w:World):(callFunc 126 #[v,u]).run Tryz.prog w=.ok (.enter 126 #[v,u]) w:=by go_simp
section
open Go.ChangeShapes Go.WideShapes Go.ChangeAt
section
variable {H:Type}{enc:TypeId × Value→H}{w:World}{spare:Nat→Bool}{held:Bool}{G:TypeId→DataW H→Prop}{N:Nat}
def zpr(N:Nat)(x:In8):Prop:=x.args.length≤N
def zpl(N:Nat)(x:Bl8):Prop:=∀ (j:Nat) (y:In8),x.code[j]? = some y→zpr N y
def zpk(N:Nat)(x:Fu8):Prop:=∀ (j:Nat) (y:Bl8),x.blocks[j]? = some y→zpl N y
def zn5(N:Nat)(x:Pr8):Prop:=(∀ (j:Nat) (y:List (Int × Int)),x.recs[j]? = some y→y.length≤N)∧(∀ (j:Nat) (y:List (Int × Int) × Int × Int),x.sigs[j]? = some y→y.1.length≤N)∧(∀ (j:Nat) (y:List Int),x.ifs[j]? = some y→y.length≤N)∧(∀ (j:Nat) (y:Int × Int × List Int),x.ims[j]? = some y→y.2.2.length≤N)∧∀ (j:Nat) (y:Fu8),x.funcs[j]? = some y→zpk N y
theorem Jk:ZD enc Tryz.prog w spare held G 3 qF (fun _=>True):=zhB Tryz.underlying3 (by kernel_rfl)
theorem zgR(hG:ZS Tryz.prog G)(hN:∀ elems rest,G 37 (.slice elems rest)→elems.length≤N):ZD enc Tryz.prog w spare held G 37 ZO (fun l=>l.length≤N):=zdf hG hN Tryz.underlying37 (by kernel_rfl) (by decide) (by kernel_rfl) Jk
theorem zlv(hG:ZS Tryz.prog G):ZD enc Tryz.prog w spare held G 34 TyC (fun _=>True):=by
 intro fuel b o cs x hc h hg;have F:=jc hG Tryz.underlying34 hc h hg;obtain ⟨y0,h0,q0⟩:=F 0 _ rfl (of_decide_eq_true (by kernel_rfl)) Jk;obtain ⟨y1,h1,q1⟩:=F 1 _ rfl (of_decide_eq_true (by kernel_rfl)) Jk;exact ⟨(y0,y1),⟨h0,h1⟩,trivial⟩
theorem zeA(hG:ZS Tryz.prog G)(hT:∀ elems rest,G 25 (.slice elems rest)→elems.length≤N):ZD enc Tryz.prog w spare held G 25 (SlC 2 TyC) (fun l=>l.length≤N):=zdf hG hT Tryz.underlying25 (by kernel_rfl) (by decide) (by kernel_rfl) (zlv hG)
theorem zmq(hG:ZS Tryz.prog G)(hN:∀ elems rest,G 37 (.slice elems rest)→elems.length≤N):ZD enc Tryz.prog w spare held G 39 InC (zpr N):=by
 intro fuel b o cs x hc h hg;have F:=jc hG Tryz.underlying39 hc h hg;obtain ⟨y0,h0,q0⟩:=F 0 _ rfl (of_decide_eq_true (by kernel_rfl)) Jk;obtain ⟨y1,h1,q1⟩:=F 1 _ rfl (of_decide_eq_true (by kernel_rfl)) Jk;obtain ⟨y2,h2,q2⟩:=F 2 _ rfl (of_decide_eq_true (by kernel_rfl)) Jk;obtain ⟨y3,h3,q3⟩:=F 3 _ rfl (of_decide_eq_true (by kernel_rfl)) Jk;obtain ⟨y4,h4,q4⟩:=F 4 _ rfl (of_decide_eq_true (by kernel_rfl)) Jk;obtain ⟨y5,h5,q5⟩:=F 5 _ rfl (of_decide_eq_true (by kernel_rfl)) (zgR hG hN);exact ⟨⟨y0,y1,y2,y3,y4,y5⟩,⟨h0,h1,h2,h3,h4,h5⟩,q5⟩
theorem zkH(hG:ZS Tryz.prog G)(hN:∀ elems rest,G 37 (.slice elems rest)→elems.length≤N):ZD enc Tryz.prog w spare held G 40 (SlC 6 InC) (fun l=>∀ (j:Nat) (y:In8),l[j]? = some y→zpr N y):=jz hG Tryz.underlying40 (by kernel_rfl) (by decide) (by kernel_rfl) (zmq hG hN)
theorem zlJ(hG:ZS Tryz.prog G)(hN:∀ elems rest,G 37 (.slice elems rest)→elems.length≤N):ZD enc Tryz.prog w spare held G 42 BlC (zpl N):=by
 intro fuel b o cs x hc h hg;have F:=jc hG Tryz.underlying42 hc h hg;obtain ⟨y0,h0,q0⟩:=F 0 _ rfl (of_decide_eq_true (by kernel_rfl)) (zkH hG hN);obtain ⟨y1,h1,q1⟩:=F 1 _ rfl (of_decide_eq_true (by kernel_rfl)) Jk;obtain ⟨y2,h2,q2⟩:=F 2 _ rfl (of_decide_eq_true (by kernel_rfl)) Jk;obtain ⟨y3,h3,q3⟩:=F 3 _ rfl (of_decide_eq_true (by kernel_rfl)) Jk;obtain ⟨y4,h4,q4⟩:=F 4 _ rfl (of_decide_eq_true (by kernel_rfl)) Jk;exact ⟨⟨y0,y1,y2,y3,y4⟩,⟨h0,h1,h2,h3,h4⟩,q0⟩
theorem zkW(hG:ZS Tryz.prog G)(hN:∀ elems rest,G 37 (.slice elems rest)→elems.length≤N):ZD enc Tryz.prog w spare held G 43 (SlC 5 BlC) (fun l=>∀ (j:Nat) (y:Bl8),l[j]? = some y→zpl N y):=jz hG Tryz.underlying43 (by kernel_rfl) (by decide) (by kernel_rfl) (zlJ hG hN)
theorem znW(hG:ZS Tryz.prog G)(hN:∀ elems rest,G 37 (.slice elems rest)→elems.length≤N)(hT:∀ elems rest,G 25 (.slice elems rest)→elems.length≤N):ZD enc Tryz.prog w spare held G 45 FuC (zpk N):=by
 intro fuel b o cs x hc h hg;have F:=jc hG Tryz.underlying45 hc h hg;obtain ⟨y0,h0,q0⟩:=F 0 _ rfl (of_decide_eq_true (by kernel_rfl)) Jk;obtain ⟨y1,h1,q1⟩:=F 1 _ rfl (of_decide_eq_true (by kernel_rfl)) (zeA hG hT);obtain ⟨y2,h2,q2⟩:=F 2 _ rfl (of_decide_eq_true (by kernel_rfl)) (zkW hG hN);exact ⟨⟨y0,y1,y2⟩,⟨h0,h1,h2⟩,q2⟩
theorem zmi(hG:ZS Tryz.prog G)(hN:∀ elems rest,G 37 (.slice elems rest)→elems.length≤N)(hT:∀ elems rest,G 25 (.slice elems rest)→elems.length≤N):ZD enc Tryz.prog w spare held G 30 (SlC 3 FuC) (fun l=>∀ (j:Nat) (y:Fu8),l[j]? = some y→zpk N y):=jz hG Tryz.underlying30 (by kernel_rfl) (by decide) (by kernel_rfl) (znW hG hN hT)
theorem zp3(hG:ZS Tryz.prog G)(hT:∀ elems rest,G 25 (.slice elems rest)→elems.length≤N):ZD enc Tryz.prog w spare held G 36 SgC (fun x=>x.1.length≤N):=by
 intro fuel b o cs x hc h hg;have F:=jc hG Tryz.underlying36 hc h hg;obtain ⟨y0,h0,q0⟩:=F 0 _ rfl (of_decide_eq_true (by kernel_rfl)) (zeA hG hT);obtain ⟨y1,h1,_⟩:=F 1 _ rfl (of_decide_eq_true (by kernel_rfl)) (zlv hG);exact ⟨(y0,y1.1,y1.2),⟨h0,h1.c0,h1.c1⟩,q0⟩
theorem zmP(hG:ZS Tryz.prog G)(hN:∀ elems rest,G 37 (.slice elems rest)→elems.length≤N):ZD enc Tryz.prog w spare held G 47 ZO (fun x=>x.length≤N):=by
 intro fuel b o cs x hc h hg;have F:=jc hG Tryz.underlying47 hc h hg;obtain ⟨y0,h0,q0⟩:=F 0 _ rfl (of_decide_eq_true (by kernel_rfl)) (zgR hG hN);exact ⟨y0,h0,q0⟩
theorem znM(hG:ZS Tryz.prog G)(hN:∀ elems rest,G 37 (.slice elems rest)→elems.length≤N):ZD enc Tryz.prog w spare held G 49 ImC (fun x=>x.2.2.length≤N):=by
 intro fuel b o cs x hc h hg;have F:=jc hG Tryz.underlying49 hc h hg;obtain ⟨y0,h0,_⟩:=F 0 _ rfl (of_decide_eq_true (by kernel_rfl)) Jk;obtain ⟨y1,h1,_⟩:=F 1 _ rfl (of_decide_eq_true (by kernel_rfl)) Jk;obtain ⟨y2,h2,q2⟩:=F 2 _ rfl (of_decide_eq_true (by kernel_rfl)) (zgR hG hN);exact ⟨(y0,y1,y2),⟨h0,h1,h2⟩,q2⟩
theorem znC(hG:ZS Tryz.prog G)(hN:∀ elems rest,G 37 (.slice elems rest)→elems.length≤N)(hT:∀ elems rest,G 25 (.slice elems rest)→elems.length≤N):ZD enc Tryz.prog w spare held G 32 PrC (zn5 N):=by
 intro fuel b o cs x hc h hg;have F:=jc hG Tryz.underlying32 hc h hg;obtain ⟨y0,h0,q0⟩:=F 0 _ rfl (of_decide_eq_true (by kernel_rfl)) (jz (c:=1) hG Tryz.underlying26 (by kernel_rfl) (by decide) (by kernel_rfl) (zeA hG hT));obtain ⟨y1,h1,q1⟩:=F 1 _ rfl (of_decide_eq_true (by kernel_rfl)) (jz (c:=3) hG Tryz.underlying27 (by kernel_rfl) (by decide) (by kernel_rfl) (zp3 hG hT));obtain ⟨y2,h2,q2⟩:=F 2 _ rfl (of_decide_eq_true (by kernel_rfl)) (jz (c:=1) hG Tryz.underlying28 (by kernel_rfl) (by decide) (by kernel_rfl) (zmP hG hN));obtain ⟨y3,h3,q3⟩:=F 3 _ rfl (of_decide_eq_true (by kernel_rfl)) (jz (c:=3) hG Tryz.underlying29 (by kernel_rfl) (by decide) (by kernel_rfl) (znM hG hN));obtain ⟨y4,h4,q4⟩:=F 4 _ rfl (of_decide_eq_true (by kernel_rfl)) (zmi hG hN hT);obtain ⟨y5,h5,_⟩:=F 5 _ rfl (of_decide_eq_true (by kernel_rfl)) Jk;exact ⟨⟨y0,y1,y2,y3,y4,y5⟩,⟨h0,h1,h2,h3,h4,h5⟩,q0,q1,q2,q3,q4⟩
def zbs(N:Nat)(W:World)(v:Value):Prop:=v=.pointer none∨∃ b o P,v=pointer (some ⟨b,o,none⟩)∧PrC W b o P∧zn5 N P
theorem zho(hG:ZS Tryz.prog G)(hN:∀ elems rest,G 37 (.slice elems rest)→elems.length≤N)(hT:∀ elems rest,G 25 (.slice elems rest)→elems.length≤N){r:Reach}{b0:Nat}{v:Value}{d:DataW H}{p:List MemPlace}(hval:Value.okWide Tryz.prog w r b0 23 v)
  (h:∃ fuel,DataW.trod enc Tryz.prog w 0 spare held fuel 23 v.cells.toList=some (d,p)) (hg:G 23 d):zbs N w v:=by
 obtain ⟨a,rfl⟩:=okWide_pointer Tryz.underlying23 hval;obtain ⟨fuel,hf⟩:=h;rcases DataW.trod_pointer Tryz.underlying23 hf with ⟨h1,_⟩ | ⟨a',cs',y,n,_,h1,h2,h3,h4⟩
 ·simp[Value.cells] at h1
  exact .inl (by rw[h1])
 ·simp[Value.cells] at h1
  subst h1;obtain ⟨_,g5,g6⟩:=World.cells?_some h3;have hc6:Tryz.prog.cellsOf 32=6:=by kernel_rfl
  obtain ⟨b,o,spot⟩:=a';have g2:=g6 0 (by rw[hc6];omega);rw[List.getElem?_eq_getElem (by rw[g5,hc6];omega)] at g2;have hspot:spot=none:=by simpa [Addr.add] using World.cell?_spot g2
  subst hspot;have hd:d=.ptr y.1:=congrArg Prod.fst h2;rw[hd] at hg
  obtain ⟨P,q1,q2⟩:=znC hG hN hT n b o cs' y (fun i hi=>by
   have:=g6 i hi;rw[add_plain] at this
   exact this) h4 (hG.ptr Tryz.underlying23 hg)
  exact .inr ⟨b,o,P,rfl,q1,q2⟩
end
theorem zgp{H:Type}:ZS P (fun (_:TypeId) (_:DataW H)=>True):=⟨fun _ _ _=>trivial,fun _ _ _ _=>trivial,fun _ _=>trivial⟩
theorem zcy{H:Type}{d:DataW H}:∀ {l:List (DataW H)},d∈l→Rows.uptoBulk d≤Rows.uptoBulkAll l
 | x :: r,h=>by
  rw[Rows.uptoBulkAll];rcases List.mem_cons.1 h with rfl | h
  ·omega
  ·have:=zcy h
   omega
theorem zkB{H:Type}:∀ (d:DataW H),1≤Rows.uptoBulk d
 | .lit (.string _)=>by rw[Rows.uptoBulk];omega
 | .lit (.bool _)=>Nat.le_refl _
 | .lit (.int _ _)=>Nat.le_refl _
 | .lit _=>by unfold Rows.uptoBulk;split <;> first | omega | simp
 | .nil=>Nat.le_refl _
 | .ptr _=>by rw[Rows.uptoBulk];omega
 | .slice _ _=>by rw[Rows.uptoBulk];omega
 | .agg _=>by rw[Rows.uptoBulk];omega
 | .iface _ _=>by rw[Rows.uptoBulk];omega
 | .map _=>by rw[Rows.uptoBulk];omega
 | .held _=>Nat.le_refl _
theorem zcv{H:Type}:∀ (l:List (DataW H)),l.length≤Rows.uptoBulkAll l
 | []=>Nat.zero_le _
 | d :: r=>by
  have h1:=zkB d;have h2:=zcv r;rw[Rows.uptoBulkAll,List.length_cons];omega
theorem zge{H:Type}{N:Nat}:ZS P (fun (_:TypeId) (d:DataW H)=>Rows.uptoBulk d≤N):=by
 constructor
 ·intro t e elems rest d _ h hd
  rw[Rows.uptoBulk] at h;have:=zcy hd;omega
 ·intro t fs parts i f d _ h _ hd
  rw[Rows.uptoBulk] at h;have:=zcy (List.mem_of_getElem? hd);omega
 ·intro t e d _ h
  rw[Rows.uptoBulk] at h;omega
theorem zb7{H:Type}{enc:TypeId × Value→H}{spare:Nat→Bool}{held:Bool}{r:Reach}{d:DataW H}{p:List MemPlace}(hval:Value.okWide Tryz.prog w r b0 23 v)
  (h:∃ fuel,DataW.trod enc Tryz.prog w 0 spare held fuel 23 v.cells.toList=some (d,p)) (hb:Rows.uptoBulk d≤1048576):zbs 1048576 w v:=
 zho (G:=fun (_:TypeId) (d:DataW H)=>Rows.uptoBulk d≤1048576) (N:=1048576) zge (fun elems rest hh=>by
  rw[Rows.uptoBulk] at hh;have:=zcv elems
  omega) (fun elems rest hh=>by
  rw[Rows.uptoBulk] at hh;have:=zcv elems
  omega) hval h hb
theorem zbw{H:Type}{P:Program}{e:TypeId}{d:DataW H}:∀ {l:List (DataW H)},d∈l→∀ n,n∈d.weights P e→n∈DataW.weightsAll P e l
 | x :: r,h,n,hn=>by
  rw[DataW.weightsAll];rcases List.mem_cons.1 h with rfl | h
  ·exact List.mem_append_left _ hn
  ·exact List.mem_append_right _ (zbw h n hn)
theorem ze7{H:Type}:ZS P (fun (t:TypeId) (d:DataW H)=>∀ n,n∈d.weights P t→n≤reachBytes):=by
 constructor
 ·intro t e elems rest d ht h hd n hn
  refine h n ?_;rw[DataW.weights];simp only[ht];exact List.mem_cons_of_mem _ (List.mem_append_left _ (zbw hd n hn))
 ·intro t fs parts i f d ht h hf hd n hn
  refine h n ?_;rw[DataW.weights];simp only[ht];refine DataW.weights_mem_each (j:=i) (t:=f.type) (d:=d) ?_ hd n hn;rw[List.getElem?_map,Array.getElem?_toList,hf];rfl
 ·intro t e d ht h n hn
  refine h n ?_;rw[DataW.weights];simp only[ht];exact hn
theorem zdJ{H:Type}{enc:TypeId × Value→H}{spare:Nat→Bool}{held:Bool}{r:Reach}{d:DataW H}{p:List MemPlace}(hval:Value.okWide Tryz.prog w r b0 23 v)
  (h:∃ fuel,DataW.trod enc Tryz.prog w 0 spare held fuel 23 v.cells.toList=some (d,p)) (hb:∀ n,n∈d.weights Tryz.prog 23→n≤reachBytes):zbs 17592186044416 w v:=
 zho (G:=fun (t:TypeId) (d:DataW H)=>∀ n,n∈d.weights Tryz.prog t→n≤reachBytes) (N:=17592186044416) ze7 (fun elems rest hh=>by
  have h1:=hh ((elems.length+rest.length) * Tryz.prog.bytesOf 3) (by
   rw[DataW.weights];simp only[Tryz.underlying37]
   exact List.mem_cons_self ..)
  have h8:Tryz.prog.bytesOf 3=8:=by kernel_rfl
  rw[h8] at h1;have hr:reachBytes=140737488351232:=by decide
  rw[hr] at h1
  omega) (fun elems rest hh=>by
  have h1:=hh ((elems.length+rest.length) * Tryz.prog.bytesOf 34) (by
   rw[DataW.weights];simp only[Tryz.underlying25]
   exact List.mem_cons_self ..)
  have h8:Tryz.prog.bytesOf 34=16:=by kernel_rfl
  rw[h8] at h1;have hr:reachBytes=140737488351232:=by decide
  rw[hr] at h1
  omega) hval h hb
end
end Go.Proofs.YtkgoimokgbdgfaaGreatDoor
