import Derived.Test.YthflgjkmbakedaaGreatDoorA08

namespace Go.Proofs.YthflgjkmbakedaaGreatDoor
open Go.RowKit
open Go.Value (int pointer agg)
open Go.IntKind (i64)
set_option maxHeartbeats 4000000
set_option maxRecDepth 20000
variable {P:Pr8}{W0 w w':World}{b b' c fb fo i m o pb po s:Nat}{f:Fu8}{l:Array Bool}{v:Value}
def jC(P:Pr8)(k:Int):List (Int × Int):=P.recs.getD k.toNat []
def JD(P:Pr8)(k:Int):List Int:=P.ifs.getD k.toNat []
def qd(P:Pr8)(t:Int × Int)(n:Int):Option (Int × Int):=if t.1=1∧inB t.2 P.recs.length=true∧inB n (jC P t.2).length=true then some ((jC P t.2).getD n.toNat (0,0)) else none
def zdE(o:Option (Int × Int)):Value:=.tuple #[tyV (o.getD (0,0)),.bool o.isSome]
theorem QS{a b:Int}(h:a=b):(a != b)=false:=by simpa using h
theorem QB{a b:Int}(h:a≠b):(a != b)=true:=by simpa using h
theorem JY(h:PrC w pb po P)(t:Int × Int)(n:Int):Calls Tryz.prog 255 #[pointer (some ⟨pb,po,none⟩),tyV t,int i64 n] w fun e w'=>e=.returned (zdE (qd P t n))∧zc [] w w':=by
 obtain ⟨a,cp,c0,hr,_⟩:=h.c0;obtain ⟨W,hW⟩:∃ W,W=(w.alloc (.cells #[int i64 t.1,int i64 t.2] 52)).alloc (.cells #[int i64 0,int i64 0] 52):=⟨_,rfl⟩;have k2:zc [] w W:=by rw[hW];exact (zc.alloc [] w _).quiet (zc.alloc [] _ _)
 replace c0:=za k2 c0;have hn1:W.heap[w.heap.size]? = some (.cells #[int i64 t.1,int i64 t.2] 52 (0,0)):=by rw[hW];exact ze (zh w _) (zc.alloc [] _ _)
 have hn2:W.heap[w.heap.size+1]? = some (.cells #[int i64 0,int i64 0] 52 (0,0)):=by
  have:=zh (w.alloc (.cells #[int i64 t.1,int i64 t.2] 52)) (.cells #[int i64 0,int i64 0] 52);rw[World.size_alloc] at this;rw[hW];exact this
 have HWI:=hid fun (k:Int) (n:Nat) (w:World)=>z6 k n w;have K2:=hid k2;have HR:=hid hr;have HN2:=hid hn2;have s0:=zd hn1 0;have s1:=zd hn1 1;have z0:=zi hn2 0;have z1:=zi hn2 1;have q0:=zd hn2 0;have q1:=zd hn2 1;have HWE:=hid hW;have HL:Box (W.heap.size=w.heap.size+2∧zc [w.heap.size+1] W W):=hid ⟨by rw[hW];simp,zc.refl _ _⟩;have fin:∀ W' u0 u1,zc [] W W'→zc [] w ((W'.setCell ⟨w.heap.size+1,0,none⟩ u0).setCell ⟨w.heap.size+1,1,none⟩ u1):=fun W' u0 u1 k=>(K2.o.quiet k).trans (zcf _ (w.heap.size+1) _ _) (fun x hx hl=>by simp at hx;omega);have FIN:=hid fin;have E:Box (∀ W' u0 u1,zc [] W W'→(((W'.setCell ⟨w.heap.size+1,0,none⟩ u0).setCell ⟨w.heap.size+1,1,none⟩ u1)).heap[w.heap.size+1]? = some (.cells #[u0,u1] 52 (0,0))):=hid fun W' u0 u1 k=>znh (ze HN2.o k) u0 u1;clear h hr hW k2 hn1 hn2 fin;obtain ⟨t1,t2⟩:=t;simp only at *;by_cases h1:t1=1
 case neg=>
  have HE:Box (qd P (t1,t2) n=none):=hid (by unfold qd;rw[if_neg (fun h=>h1 h.1)]);have o1:=QB h1;clear h1;go_enter Tryz.func255,Tryz.ntmps255;go_upto_region 1 with fail;rw[← HWE.o];clear HWE;generalize w.heap.size=q at *;go_quiet (fail);go_wp2_with fail;have e0:=fun m=>zd (E.o (W.drewN m) (int i64 0) (int i64 0) (zc.drewN [] W m)) 0;have e1:=fun m=>zd (E.o (W.drewN m) (int i64 0) (int i64 0) (zc.drewN [] W m)) 1;exact bodyPost_ret (v:=.tuple #[agg #[int i64 0,int i64 0],.bool false]) (by simp[results,Tryz.results255,go_sem,e0,e1]) rfl ⟨by rw[HE.o];rfl,FIN.o _ _ _ (zc.drewN [] W _)⟩
 subst h1;cases h2:inB t2 P.recs.length with
 | false=>
  have HE:Box (qd P (1,t2) n=none):=hid (by unfold qd;rw[if_neg (fun h=>by rw[h2] at h;exact Bool.noConfusion h.2.1)]);have HW1:Box (∀ w,Calls Tryz.prog 123 #[int i64 t2,int i64 (P.recs.length:Int)] w fun e w'=>e=.returned (.bool false)∧w'=w):=hid fun w=>by rw[← h2];exact HWI.o _ _ w
  clear h2;generalize P.recs.length=N at *;go_enter Tryz.func255,Tryz.ntmps255;go_upto_region 1 with fail;rw[← HWE.o];clear HWE;generalize w.heap.size=q at *;go_quiet ((go_at_call 123;exact Calls.quiet_of_same (HW1.o _)));go_wp2_with fail;have e0:=fun m=>zd (E.o (W.drewN m) (int i64 0) (int i64 0) (zc.drewN [] W m)) 0;have e1:=fun m=>zd (E.o (W.drewN m) (int i64 0) (int i64 0) (zc.drewN [] W m)) 1;exact bodyPost_ret (v:=.tuple #[agg #[int i64 0,int i64 0],.bool false]) (by simp[results,Tryz.results255,go_sem,e0,e1]) rfl ⟨by rw[HE.o];rfl,FIN.o _ _ _ (zc.drewN [] W _)⟩
 | true=>
  obtain ⟨g0,g1⟩:=zt.1 h2;have HW1:Box (∀ w,Calls Tryz.prog 123 #[int i64 t2,int i64 (P.recs.length:Int)] w fun e w'=>e=.returned (.bool true)∧w'=w):=hid fun w=>by rw[← h2];exact HWI.o _ _ w
  obtain ⟨k,rfl⟩:∃ k:Nat,t2=(k:Int):=⟨t2.toNat,by omega⟩;have ek:((k:Int)).toNat=k:=by omega
  obtain ⟨b,off,rfl,hc⟩:=HR.o.at (zg (l:=P.recs) (k:=k) (d:=[]) (by omega));rw[Nat.mul_one] at hc;obtain ⟨ra,rp,e5,hrr,_⟩:=hc;have d5:=za K2.o e5;have HRR:=hid hrr;have er:jC P (k:Int)=P.recs.getD k []:=by unfold jC;rw[ek]
  rw[← er] at d5 HRR;clear e5 hrr er;cases h3:inB n (jC P (k:Int)).length with
  | false=>
   have HE:Box (qd P (1,(k:Int)) n=none):=hid (by unfold qd;rw[if_neg (fun h=>by rw[h3] at h;exact Bool.noConfusion h.2.2)]);have HW2:Box (∀ w,Calls Tryz.prog 123 #[int i64 n,int i64 ((jC P (k:Int)).length:Int)] w fun e w'=>e=.returned (.bool false)∧w'=w):=hid fun w=>by rw[← h3];exact HWI.o _ _ w
   clear h2 h3 HRR HR;generalize (jC P (k:Int)).length=M at *;generalize P.recs.length=N at *;go_enter Tryz.func255,Tryz.ntmps255;go_upto_region 1 with fail;rw[← HWE.o];clear HWE;generalize w.heap.size=q at *;go_quiet ((go_at_call 123;first | with_reducible exact Calls.quiet_of_same (HW1.o _) | with_reducible exact Calls.quiet_of_same (HW2.o _)));go_wp2_with fail;have e0:=fun m=>zd (E.o (W.drewN m) (int i64 0) (int i64 0) (zc.drewN [] W m)) 0;have e1:=fun m=>zd (E.o (W.drewN m) (int i64 0) (int i64 0) (zc.drewN [] W m)) 1;exact bodyPost_ret (v:=.tuple #[agg #[int i64 0,int i64 0],.bool false]) (by simp[results,Tryz.results255,go_sem,e0,e1]) rfl ⟨by rw[HE.o];rfl,FIN.o _ _ _ (zc.drewN [] W _)⟩
  | true=>
   obtain ⟨g2,g3⟩:=zt.1 h3;have HE:Box (qd P (1,(k:Int)) n=some ((jC P (k:Int)).getD n.toNat (0,0))):=hid (by unfold qd;rw[if_pos ⟨rfl,h2,h3⟩]);have HW2:Box (∀ w,Calls Tryz.prog 123 #[int i64 n,int i64 ((jC P (k:Int)).length:Int)] w fun e w'=>e=.returned (.bool true)∧w'=w):=hid fun w=>by rw[← h3];exact HWI.o _ _ w
   obtain ⟨j,rfl⟩:∃ j:Nat,n=(j:Int):=⟨n.toNat,by omega⟩;have ej:((j:Int)).toNat=j:=by omega
   rw[ej] at HE;obtain ⟨fb,fo,rfl,hf⟩:=HRR.o.at (zg (l:=jC P (k:Int)) (k:=j) (d:=(0,0)) (by omega));have f0:=za K2.o hf.c0.1;have f1:=za K2.o hf.c1.1;clear hf h2 h3 HRR HR;generalize (jC P (k:Int)).getD j (0,0)=T at *;generalize (jC P (k:Int)).length=M at *;generalize P.recs.length=N at *;go_enter Tryz.func255,Tryz.ntmps255;go_upto_region 1 with fail;rw[← HWE.o];clear HWE;generalize w.heap.size=q at *;go_quiet ((go_at_call 123;first | with_reducible exact Calls.quiet_of_same (HW1.o _) | with_reducible exact Calls.quiet_of_same (HW2.o _)));go_upto_region 3 with fail
   go_region
   go_wp2_with fail;have e0:=fun m=>zd (E.o (W.drewN m) (int i64 T.1) (int i64 T.2) (zc.drewN [] W m)) 0;have e1:=fun m=>zd (E.o (W.drewN m) (int i64 T.1) (int i64 T.2) (zc.drewN [] W m)) 1;exact bodyPost_ret (v:=.tuple #[agg #[int i64 T.1,int i64 T.2],.bool true]) (by simp[results,Tryz.results255,go_sem,e0,e1]) rfl ⟨by rw[HE.o];rfl,FIN.o _ _ _ (zc.drewN [] W _)⟩
def jM(P:Pr8)(t:Int × Int)(n:Int):Option (List (Int × Int) × Int × Int):=if t.1=3∧inB t.2 P.ifs.length=true∧inB n (JD P t.2).length=true then Qp P ((JD P t.2).getD n.toNat 0) else none
theorem zaD{w0:World}(h:PrC w0 pb po P)(k0:zc [] w0 w)(t:Int × Int)(n:Int):Calls Tryz.prog 256 #[pointer (some ⟨pb,po,none⟩),tyV t,int i64 n] w (qw (jM P t n) w0 w):=by
 obtain ⟨a,cp,c0,hr,_⟩:=h.c2;obtain ⟨W,hW⟩:∃ W,W=(w.alloc (.cells #[int i64 t.1,int i64 t.2] 52)).alloc (.cells #[.slice none 0 0,int i64 0,int i64 0] 59):=⟨_,rfl⟩;have k2:zc [] w W:=by rw[hW];exact (zc.alloc [] w _).quiet (zc.alloc [] _ _)
 replace c0:=za (k0.quiet k2) c0;have hn1:W.heap[w.heap.size]? = some (.cells #[int i64 t.1,int i64 t.2] 52 (0,0)):=by rw[hW];exact ze (zh w _) (zc.alloc [] _ _)
 have hn2:W.heap[w.heap.size+1]? = some (.cells #[.slice none 0 0,int i64 0,int i64 0] 59 (0,0)):=by
  have:=zh (w.alloc (.cells #[int i64 t.1,int i64 t.2] 52)) (.cells #[.slice none 0 0,int i64 0,int i64 0] 59);rw[World.size_alloc] at this;rw[hW];exact this
 have HWI:=hid fun (k:Int) (n:Nat) (w:World)=>z6 k n w;have K2:=hid k2;have K02:=hid (k0.quiet k2);have HR:=hid hr;have HN2:=hid hn2;have s0:=zd hn1 0;have s1:=zd hn1 1;have z0:=zi hn2 0;have z1:=zi hn2 1;have z2:=zi hn2 2;have q0:=zd hn2 0;have q1:=zd hn2 1;have q2:=zd hn2 2;have HWE:=hid hW;have HL:Box (W.heap.size=w.heap.size+2∧zc [w.heap.size+1] W W):=hid ⟨by rw[hW];simp,zc.refl _ _⟩;have fin:∀ W' u0 u1 u2,zc [] W W'→zc [] w (((W'.setCell ⟨w.heap.size+1,0,none⟩ u0).setCell ⟨w.heap.size+1,1,none⟩ u1).setCell ⟨w.heap.size+1,2,none⟩ u2):=fun W' u0 u1 u2 k=>(K2.o.quiet k).trans (jc _ (w.heap.size+1) _ _ _) (fun x hx hl=>by simp at hx;omega);have FIN:=hid fin;have E:Box (∀ W' u0 u1 u2,zc [] W W'→((((W'.setCell ⟨w.heap.size+1,0,none⟩ u0).setCell ⟨w.heap.size+1,1,none⟩ u1)).setCell ⟨w.heap.size+1,2,none⟩ u2).heap[w.heap.size+1]? = some (.cells #[u0,u1,u2] 59 (0,0))):=hid fun W' u0 u1 u2 k=>jZ (ze HN2.o k) u0 u1 u2;have HP:=hid h;clear h hr hW k2 k0 hn1 hn2 fin;obtain ⟨t1,t2⟩:=t;simp only at *;by_cases h1:t1=3
 case neg=>
  have HE:Box (jM P (t1,t2) n=none):=hid (by unfold jM;rw[if_neg (fun h=>h1 h.1)]);have o1:=QB h1;clear h1;go_enter Tryz.func256,Tryz.ntmps256;go_upto_region 1 with fail;rw[← HWE.o];clear HWE;generalize w.heap.size=q at *;go_quiet (fail);go_wp2_with fail;have e0:=fun m=>zd (E.o (W.drewN m) (.slice none 0 0) (int i64 0) (int i64 0) (zc.drewN [] W m)) 0;have e1:=fun m=>zd (E.o (W.drewN m) (.slice none 0 0) (int i64 0) (int i64 0) (zc.drewN [] W m)) 1;have e2:=fun m=>zd (E.o (W.drewN m) (.slice none 0 0) (int i64 0) (int i64 0) (zc.drewN [] W m)) 2;exact bodyPost_ret (v:=.tuple #[agg #[.slice none 0 0,int i64 0,int i64 0],.bool false]) (by simp[results,Tryz.results256,go_sem,e0,e1,e2]) rfl (by rw[HE.o];exact ⟨FIN.o _ _ _ _ (zc.drewN [] W _),rfl⟩)
 subst h1;cases h2:inB t2 P.ifs.length with
 | false=>
  have HE:Box (jM P (3,t2) n=none):=hid (by unfold jM;rw[if_neg (fun h=>by rw[h2] at h;exact Bool.noConfusion h.2.1)]);have HW1:Box (∀ w,Calls Tryz.prog 123 #[int i64 t2,int i64 (P.ifs.length:Int)] w fun e w'=>e=.returned (.bool false)∧w'=w):=hid fun w=>by rw[← h2];exact HWI.o _ _ w
  clear h2;generalize P.ifs.length=N at *;go_enter Tryz.func256,Tryz.ntmps256;go_upto_region 1 with fail;rw[← HWE.o];clear HWE;generalize w.heap.size=q at *;go_quiet ((go_at_call 123;exact Calls.quiet_of_same (HW1.o _)));go_wp2_with fail;have e0:=fun m=>zd (E.o (W.drewN m) (.slice none 0 0) (int i64 0) (int i64 0) (zc.drewN [] W m)) 0;have e1:=fun m=>zd (E.o (W.drewN m) (.slice none 0 0) (int i64 0) (int i64 0) (zc.drewN [] W m)) 1;have e2:=fun m=>zd (E.o (W.drewN m) (.slice none 0 0) (int i64 0) (int i64 0) (zc.drewN [] W m)) 2;exact bodyPost_ret (v:=.tuple #[agg #[.slice none 0 0,int i64 0,int i64 0],.bool false]) (by simp[results,Tryz.results256,go_sem,e0,e1,e2]) rfl (by rw[HE.o];exact ⟨FIN.o _ _ _ _ (zc.drewN [] W _),rfl⟩)
 | true=>
  obtain ⟨g0,g1⟩:=zt.1 h2;have HW1:Box (∀ w,Calls Tryz.prog 123 #[int i64 t2,int i64 (P.ifs.length:Int)] w fun e w'=>e=.returned (.bool true)∧w'=w):=hid fun w=>by rw[← h2];exact HWI.o _ _ w
  obtain ⟨k,rfl⟩:∃ k:Nat,t2=(k:Int):=⟨t2.toNat,by omega⟩;have ek:((k:Int)).toNat=k:=by omega
  obtain ⟨b,off,rfl,hc⟩:=HR.o.at (zg (l:=P.ifs) (k:=k) (d:=[]) (by omega));rw[Nat.mul_one] at hc;obtain ⟨ra,rp,e5,hrr,_⟩:=hc;have d5:=za K02.o e5;have HRR:=hid hrr;have er:JD P (k:Int)=P.ifs.getD k []:=by unfold JD;rw[ek]
  rw[← er] at d5 HRR;clear e5 hrr er;cases h3:inB n (JD P (k:Int)).length with
  | false=>
   have HE:Box (jM P (3,(k:Int)) n=none):=hid (by unfold jM;rw[if_neg (fun h=>by rw[h3] at h;exact Bool.noConfusion h.2.2)]);have HW2:Box (∀ w,Calls Tryz.prog 123 #[int i64 n,int i64 ((JD P (k:Int)).length:Int)] w fun e w'=>e=.returned (.bool false)∧w'=w):=hid fun w=>by rw[← h3];exact HWI.o _ _ w
   clear h2 h3 HRR HR;generalize (JD P (k:Int)).length=M at *;generalize P.ifs.length=N at *;go_enter Tryz.func256,Tryz.ntmps256;go_upto_region 1 with fail;rw[← HWE.o];clear HWE;generalize w.heap.size=q at *;go_quiet ((go_at_call 123;first | with_reducible exact Calls.quiet_of_same (HW1.o _) | with_reducible exact Calls.quiet_of_same (HW2.o _)));go_wp2_with fail;have e0:=fun m=>zd (E.o (W.drewN m) (.slice none 0 0) (int i64 0) (int i64 0) (zc.drewN [] W m)) 0;have e1:=fun m=>zd (E.o (W.drewN m) (.slice none 0 0) (int i64 0) (int i64 0) (zc.drewN [] W m)) 1;have e2:=fun m=>zd (E.o (W.drewN m) (.slice none 0 0) (int i64 0) (int i64 0) (zc.drewN [] W m)) 2;exact bodyPost_ret (v:=.tuple #[agg #[.slice none 0 0,int i64 0,int i64 0],.bool false]) (by simp[results,Tryz.results256,go_sem,e0,e1,e2]) rfl (by rw[HE.o];exact ⟨FIN.o _ _ _ _ (zc.drewN [] W _),rfl⟩)
  | true=>
   obtain ⟨g2,g3⟩:=zt.1 h3;have HE:Box (jM P (3,(k:Int)) n=Qp P ((JD P (k:Int)).getD n.toNat 0)):=hid (by unfold jM;rw[if_pos ⟨rfl,h2,h3⟩]);have HW2:Box (∀ w,Calls Tryz.prog 123 #[int i64 n,int i64 ((JD P (k:Int)).length:Int)] w fun e w'=>e=.returned (.bool true)∧w'=w):=hid fun w=>by rw[← h3];exact HWI.o _ _ w
   obtain ⟨j,rfl⟩:∃ j:Nat,n=(j:Int):=⟨n.toNat,by omega⟩;have ej:((j:Int)).toNat=j:=by omega
   rw[ej] at HE;obtain ⟨fb,fo,rfl,hf⟩:=HRR.o.at (zg (l:=JD P (k:Int)) (k:=j) (d:=0) (by omega));rw[Nat.mul_one] at hf;have f0:=za K02.o hf.1;have HSG:=hid fun (w':World) (kk:zc [] W w')=>Jk HP.o (K02.o.quiet kk) ((JD P (k:Int)).getD j 0);rw[HE.o];clear hf h2 h3 HRR HR HE;generalize (JD P (k:Int)).getD j 0=T at *;generalize (JD P (k:Int)).length=M at *;generalize P.ifs.length=N at *;go_enter Tryz.func256,Tryz.ntmps256;go_upto_region 1 with fail;rw[← HWE.o];clear HWE;generalize w.heap.size=q at *;go_quiet ((go_at_call 123;first | with_reducible exact Calls.quiet_of_same (HW1.o _) | with_reducible exact Calls.quiet_of_same (HW2.o _)));go_upto_region 3 with fail;cases hs:Qp P T with
   | none=>
    rw[hs] at HSG
    go_region_with (go_at_call 196;refine (HSG.o _ (by first | exact zc.drewN _ _ _ | exact (zc.drewN _ _ _).quiet (zc.drew _ _))).mono ?_;rintro e w5 ⟨k5,rfl⟩;have hb5:w5.heap[q+1]? = some (.cells #[.slice none 0 0,int i64 0,int i64 0] 59 (0,0)):=(k5.block (q+1) (zQ HN2.o) (by simp)).trans HN2.o;have K5:zc [] W w5:=⟨k5.os,k5.tape,k5.output,k5.size,k5.block⟩;have y0:=zi hb5 0;have y1:=zi hb5 1;have y2:=zi hb5 2;have x0:=zd hb5 0;have x1:=zd hb5 1;have x2:=zd hb5 2;have KK5:=hid K5;have HB5:=hid hb5;clear hb5 K5 k5)
    all_goals (
     go_wp2_with fail;have h3:=jZ HB5.o (.slice none 0 0) (int i64 0) (int i64 0);have e0:=zd h3 0;have e1:=zd h3 1;have e2:=zd h3 2
     exact bodyPost_ret (v:=.tuple #[agg #[.slice none 0 0,int i64 0,int i64 0],.bool false]) (by simp[results,Tryz.results256,go_sem,e0,e1,e2]) rfl ⟨FIN.o _ _ _ _ KK5.o,by rw[hs]⟩)
   | some sg=>
    rw[hs] at HSG
    go_region_with (go_at_call 196;refine (HSG.o _ (by first | exact zc.drewN _ _ _ | exact (zc.drewN _ _ _).quiet (zc.drew _ _))).mono ?_;rintro e w5 ⟨k5,v5,rfl,hv5⟩;have hb5:w5.heap[q+1]? = some (.cells #[.slice none 0 0,int i64 0,int i64 0] 59 (0,0)):=(k5.block (q+1) (zQ HN2.o) (by simp)).trans HN2.o;have K5:zc [] W w5:=⟨k5.os,k5.tape,k5.output,k5.size,k5.block⟩;have y0:=zi hb5 0;have y1:=zi hb5 1;have y2:=zi hb5 2;have x0:=zd hb5 0;have x1:=zd hb5 1;have x2:=zd hb5 2;have KK5:=hid K5;have HB5:=hid hb5;obtain ⟨ga,gp,rfl,hv6⟩:=hv5;have HV6:=hid hv6;clear hv6;clear hb5 K5 k5)
    all_goals (
     go_wp2_with fail;have h3:=jZ HB5.o (.slice ga sg.1.length gp) (int i64 sg.2.1) (int i64 sg.2.2);have e0:=zd h3 0;have e1:=zd h3 1;have e2:=zd h3 2
     exact bodyPost_ret (v:=.tuple #[agg #[.slice ga sg.1.length gp,int i64 sg.2.1,int i64 sg.2.2],.bool true]) (by simp[results,Tryz.results256,go_sem,e0,e1,e2]) rfl ⟨FIN.o _ _ _ _ KK5.o,by rw[hs];exact ⟨_,rfl,ga,gp,rfl,HV6.o⟩⟩)
def jh(w:World)(b:Nat)(t:Int × Int):Prop:=w.heap[b]? = some (.cells #[int i64 t.1,int i64 t.2] 52 (0,0))
theorem jh.quiet{t:Int × Int}(h:jh w b t)(k:zc [] w w'):jh w' b t:=ze h k
theorem jh.far{t t':Int × Int}(h:jh w b t)(hn:b≠b'):jh ((w.setCell ⟨b',0,none⟩ (int i64 t'.1)).setCell ⟨b',1,none⟩ (int i64 t'.2)) b t:=by
 unfold jh;rw[heap_setCell_other _ _ _ _ hn,heap_setCell_other _ _ _ _ hn];exact h
theorem jh.put{t t':Int × Int}(h:jh w b t):jh ((w.setCell ⟨b,0,none⟩ (int i64 t'.1)).setCell ⟨b,1,none⟩ (int i64 t'.2)) b t':=znh h _ _
def zba(W0 w:World)(l:Array Bool)(m s:Nat)(v:Value)(b:Nat)(t:Int × Int):Prop:=
 l.getD m false=true→v=pointer (some ⟨b,0,none⟩)∧W0.heap.size≤b∧jh w b (if l.getD s false then t else (0,0))
structure zms (W0:World) (fr:Value→Value→Value→Value→Value→Value→Act) (T1 T2 T3:Int × Int) (l:Array Bool) (a:Act) (w:World):Prop where
 size:l.size=18
 kept:zc [] W0 w
 ex:∃ v7 v8 v9 v19 v23 v27 b7 b8 b9,a=fr v7 v8 v9 v19 v23 v27∧(l.getD 3 false=true→v19=tyV T1)∧(l.getD 7 false=true→v23=tyV T2)∧(l.getD 11 false=true→v27=tyV T3)∧
  zba W0 w l 12 15 v7 b7 T1∧zba W0 w l 13 16 v8 b8 T2∧zba W0 w l 14 17 v9 b9 T3∧
  (l.getD 12 false=true→l.getD 13 false=true→b7≠b8)∧(l.getD 12 false=true→l.getD 14 false=true→b7≠b9)∧(l.getD 13 false=true→l.getD 14 false=true→b8≠b9)
 nine:∀ i,i∈[0,1,2,4,5,6,8,9,10]→l.getD i true=true
 o7:l.getD 15 false=true→l.getD 12 false=true
 o8:l.getD 16 false=true→l.getD 13 false=true
 o9:l.getD 17 false=true→l.getD 14 false=true
theorem ziN(h:i<l.size):(l.setIfInBounds i true).getD i false=true:=by
 rw[Array.getD_eq_getD_getElem?,Array.getElem?_setIfInBounds_self_of_lt h];rfl
theorem zx{j:Nat}(d:Bool)(h:i≠j):(l.setIfInBounds i true).getD j d=l.getD j d:=getD_set_ne d h
theorem zii{j:Nat}(i:Nat)(h:l.getD j true=true):(l.setIfInBounds i true).getD j true=true:=by
 by_cases e:i=j
 ·subst e
  rcases Nat.lt_or_ge i l.size with h' | h'
  ·rw[Array.getD_eq_getD_getElem?,Array.getElem?_setIfInBounds_self_of_lt h']
   rfl
  ·rw[Array.getD_eq_getD_getElem?,Array.getElem?_eq_none (by simpa using h')]
   rfl
 ·rw[zx true e]
  exact h
theorem jF(i:Nat)(h:∀ i,i∈[0,1,2,4,5,6,8,9,10]→l.getD i true=true):∀ j,j∈[0,1,2,4,5,6,8,9,10]→(l.setIfInBounds i true).getD j true=true:=fun j hj=>zii i (h j hj)
theorem zR(i:Nat)(h:l.getD s false=true→l.getD m false=true)(hi:i=s→l.getD m false=true):(l.setIfInBounds i true).getD s false=true→(l.setIfInBounds i true).getD m false=true:=by
 intro hb;apply getD_set_true;by_cases e:i=s
 ·exact hi e
 ·rw[zx false e] at hb
  exact h hb
theorem zba.quiet{t:Int × Int}(h:zba W0 w l m s v b t)(k:zc [] w w')(hm:i≠m)(hs:i≠s):zba W0 w' (l.setIfInBounds i true) m s v b t:=by
 intro hb;rw[zx false hm] at hb;rw[zx false hs];obtain ⟨h1,h2,h3⟩:=h hb;exact ⟨h1,h2,h3.quiet k⟩
theorem zba.new{t:Int × Int}(hk:zc [] W0 w)(hs:l.getD s false=false)(hne:m≠s):zba W0 (w.alloc (.cells #[int i64 0,int i64 0] 52)) (l.setIfInBounds m true) m s (pointer (some ⟨w.heap.size,0,none⟩)) w.heap.size t:=by
 intro _;rw[zx false hne,hs];exact ⟨rfl,hk.size,zh w _⟩
theorem zba.far{t t':Int × Int}(h:zba W0 w l m s v b t)(hn:l.getD m false=true→b≠b')(hm:i≠m)(hs:i≠s):zba W0 ((w.setCell ⟨b',0,none⟩ (int i64 t'.1)).setCell ⟨b',1,none⟩ (int i64 t'.2)) (l.setIfInBounds i true) m s v b t:=by
 intro hb;rw[zx false hm] at hb;rw[zx false hs];obtain ⟨h1,h2,h3⟩:=h hb;exact ⟨h1,h2,h3.far (hn hb)⟩
theorem zba.put{t:Int × Int}(h:zba W0 w l m s v b t)(hs:s<l.size)(hne:s≠m):zba W0 ((w.setCell ⟨b,0,none⟩ (int i64 t.1)).setCell ⟨b,1,none⟩ (int i64 t.2)) (l.setIfInBounds s true) m s v b t:=by
 intro hb;rw[zx false hne] at hb;rw[ziN hs];obtain ⟨h1,h2,h3⟩:=h hb;exact ⟨h1,h2,h3.put⟩
theorem zba.lt{t:Int × Int}(h:zba W0 w l m s v b t)(hb:l.getD m false=true):b<w.heap.size:=zQ (h hb).2.2
theorem zbi(h:l.getD i true=false):l.getD i false=false:=by
 rw[Array.getD_eq_getD_getElem?] at h ⊢;cases e:l[i]? with
 | none=>rw[e] at h;cases h
 | some b=>rw[e] at h;exact h
def zob(w:World)(b:Nat)(v0:Value)(t1 t2:Int):Prop:=w.heap[b]? = some (.cells #[v0,int i64 t1,int i64 t2] 59 (0,0))
theorem qw.open{o:Option (List (Int × Int) × Int × Int)}{w0:World}{e:Ending}(h:qw o w0 w e w'):zc [] w w'∧∃ a cp n t1 t2,e=.returned (.tuple #[agg #[.slice a n cp,int i64 t1,int i64 t2],.bool o.isSome])∧(∀ s,o=some s→n=s.1.length∧t1=s.2.1∧t2=s.2.2∧z7 w0 2 TyC a s.1∧n≤maxLen):=by
 obtain ⟨k,h⟩:=h;refine ⟨k,?_⟩;cases o with
 | none=>exact ⟨none,0,0,0,0,h,fun s e=>by cases e⟩
 | some s=>
  obtain ⟨v,rfl,a,cp,rfl,hv,_⟩:=h;obtain ⟨_,hr,_,hl⟩:=hv.slice;exact ⟨a,cp,s.1.length,s.2.1,s.2.2,rfl,fun s' e=>by cases e;exact ⟨rfl,rfl,rfl,hr,hl⟩⟩
def ZD(P:Pr8):Bool:=match (if inB P.main P.funcs.length then Qp P (zf P P.main.toNat).sig else none) with
 | some s=>decide (s.1.length=0) && decide (s.2.1=0)
 | none=>false
theorem zhD(h:PrC w pb po P):Calls Tryz.prog 130 #[pointer (some ⟨pb,po,none⟩)] w fun e w'=>e=.returned (.bool (ZD P))∧zc [] w w':=by
 obtain ⟨fa,fp,c4,r4,_⟩:=h.c4;have c5:=h.c5.1;have HP:=hid h;have HW:=hid fun (w':World)=>z6 P.main P.funcs.length w';have HR:=hid r4;clear h r4;cases hin:inB P.main P.funcs.length with
 | false=>
  rw[hin] at HW;have HE:Box (ZD P=false):=hid (by unfold ZD;rw[hin];rfl);clear hin HP HR;generalize P.funcs.length=n at *;go_enter Tryz.func130,Tryz.ntmps130;go_upto_region 1 with fail;go_quiet ((go_at_call 123;exact Calls.quiet_of_same (HW.o _)));go_wp2_with fail;go_ret;exact ⟨by rw[HE.o];rfl,zc.drewN _ _ _⟩
 | true=>
  rw[hin] at HW;obtain ⟨g0,g1⟩:=zt.1 hin;obtain ⟨m,hm⟩:∃ m:Nat,P.main=(m:Int):=⟨P.main.toNat,by omega⟩;obtain ⟨fb,fo,rfl,hfu⟩:=HR.o.at (zg (l:=P.funcs) (k:=m) (d:=⟨0,[],[]⟩) (by omega))
  have HE:Box (ZD P=match Qp P (zf P m).sig with
   | some s=>decide (s.1.length=0) && decide (s.2.1=0)
   | none=>false):=hid (by unfold ZD;rw[hin,hm];rfl)
  have e0:w.cell? ⟨fb,fo+m * 3,none⟩=some (int i64 (zf P m).sig):=hfu.c0.1;have HSG:=hid fun (w':World) (k:zc [] w w')=>Jk HP.o k (zf P m).sig;rw[hm] at c5 HW g1;have hmn:(m:Int)<(P.funcs.length:Int):=g1;generalize hO:Qp P (zf P m).sig=O at *;have C4:Box (∀ w',zc [] w w'→w'.cell? ⟨pb,po+4,none⟩=some (.slice (some ⟨fb,fo,none⟩) P.funcs.length fp)∧w'.cell? ⟨pb,po+5,none⟩=some (int i64 (m:Int))∧w'.cell? ⟨fb,fo+m * 3,none⟩=some (int i64 (zf P m).sig)):=hid fun w' k=>⟨za k c4,za k c5,za k e0⟩;clear hin g0 hm hfu hO HP HR;generalize P.funcs.length=n at *;generalize (zf P m).sig=sg at *;go_enter Tryz.func130,Tryz.ntmps130;go_upto_region 1 with fail;go_quiet ((go_at_call 123;exact Calls.quiet_of_same (HW.o _)));go_upto_region 3 with fail;generalize hwd:w.drewN nq=wd at *;have KD:zc [] w wd:=by rw[← hwd];exact zc.drewN _ _ _
  have HKD:=hid KD;clear hwd KD c4 c5 e0;obtain ⟨c4,c5,e0⟩:=C4.o _ HKD.o
  go_cut [3,4] (fun v3 v4 wz=>∃ b a cp k t1 t2,v3=pointer (some ⟨b,0,none⟩)∧v4=.bool O.isSome∧Box (zob wz b (.slice a k cp) t1 t2)∧Box (∀ s,O=some s→k=s.1.length∧t1=s.2.1)∧Box (zc [] w wz))
  case first=>
   have n1:=World.new_ne wd _ c4;have n2:=World.new_ne wd _ c5;have n3:=World.new_ne wd _ e0
   go_region_held3 (fun w'=>w'.cell? ⟨pb,po+4,none⟩=some (.slice (some ⟨fb,fo,none⟩) n fp)∧w'.cell? ⟨pb,po+5,none⟩=some (int i64 (m:Int))∧w'.cell? ⟨fb,fo+m * 3,none⟩=some (int i64 sg)) (first | go_keep | simp (maxDischargeDepth:=10) [*,World.cell?_alloc_some,World.cell?_setCell_far]) (first
    | (go_at_call 196;refine (HSG.o _ (HKD.o.quiet (zc.drew [] _))).mono ?_;intro e w5 h5;obtain ⟨k5,a,cp,k,t1,t2,rfl,h6⟩:=h5.open;have K5:=(HKD.o.quiet (zc.drew [] _)).quiet k5;obtain ⟨f51,f52,f53⟩:=C4.o _ K5;have H6:=hid h6;have HK5:=hid K5;clear k5 h5 h6)
    | (go_at_call 196;refine (HSG.o _ ((HKD.o.quiet (zc.drew [] _)).quiet (zc.alloc [] _ _))).mono ?_;intro e w5 h5;obtain ⟨k5,a,cp,k,t1,t2,rfl,h6⟩:=h5.open;have K5:=((HKD.o.quiet (zc.drew [] _)).quiet (zc.alloc [] _ _)).quiet k5;obtain ⟨f51,f52,f53⟩:=C4.o _ K5;have H6:=hid h6;have HK5:=hid K5;have hb:w5.heap[wd.heap.size]? = some (.cells #[.slice none 0 0,int i64 0,int i64 0] 59 (0,0)):=ze (zh wd.drew (.cells #[.slice none 0 0,int i64 0,int i64 0] 59)) k5;have z0:=zi hb 0;have z1:=zi hb 1;have z2:=zi hb 2;have y0:=zd hb 0;have y1:=zd hb 1;have y2:=zd hb 2;have HB:=hid hb;clear k5 h5 h6 hb))
   ·go_wp2_with fail
    go_meet;exact ⟨w5.heap.size,a,cp,k,t1,t2,rfl,rfl,hid (zh w5 _),hid fun s hs=>⟨(H6.o s hs).1,(H6.o s hs).2.1⟩,hid (HK5.o.quiet (zc.alloc _ _ _))⟩
   ·go_wp2_with fail
    go_meet;exact ⟨wd.heap.size,a,cp,k,t1,t2,rfl,rfl,hid (jZ HB.o _ _ _),hid fun s hs=>⟨(H6.o s hs).1,(H6.o s hs).2.1⟩,hid (HK5.o.trans (jc _ wd.heap.size _ _ _) (fun x hx hl=>by simp at hx;have:=HKD.o.size;omega))⟩
  case rest=>
   obtain ⟨b,a,cp,k,t1,t2,rfl,rfl,HB,HS,HKZ⟩:=hcut;have s0:=zd HB.o 0;have s1:=zd HB.o 1;clear c4 c5 e0;cases O with
   | none=>
    have HF:Box (ZD P=false):=hid HE.o;clear HE HS;go_wp2_with fail;go_ret;exact ⟨by rw[HF.o];rfl,HKZ.o⟩
   | some s=>
    obtain ⟨e1,e2⟩:=HS.o s rfl;have HF:Box (ZD P=(decide (k=0) && decide (t1=0))):=hid (by rw[HE.o,e1,e2]);clear HE HS e1 e2;by_cases hk:k=0
    ·have hk':((k:Int) == 0)=true:=eqb (by omega)
     have HG:Box (ZD P=(t1 == 0)):=hid (by rw[HF.o,hk];rfl);clear hk HF;go_wp2_with fail;go_ret;exact ⟨by rw[HG.o];rfl,HKZ.o⟩
    ·have hk':((k:Int) == 0)=false:=neb (by omega)
     have HG:Box (ZD P=false):=hid (by rw[HF.o];simp[hk]);clear hk HF;go_wp2_with fail;go_ret;exact ⟨by rw[HG.o];rfl,HKZ.o⟩
def qN(P:Pr8)(f:Fu8)(x:In8):Bool:=
 if x.op=10∨x.op=12 then inB x.n P.funcs.length
 else if x.op=7∨x.op=8 then (qd P (zq f x.a) x.n).isSome || decide ((zq f x.a).1≠1)
 else if x.op=14 then (jM P (zq f x.a) x.n).isSome || decide ((zq f x.a).1≠3) else true
theorem zkC(h:PrC w pb po P)(x:In8)(ar:Value)(hop:x.op=10∨x.op=12):Calls Tryz.prog 238 #[pointer (some ⟨pb,po,none⟩),pointer (some ⟨fb,fo,none⟩),z8 x ar] w fun e w'=>e=.returned (.bool (qN P f x))∧zc [] w w':=by
 have HE:Box (qN P f x=inB x.n P.funcs.length):=hid (by unfold qN;rw[if_pos hop]);obtain ⟨fa,fp,c4,_⟩:=h.c4;have ka:=zc.alloc [] w (.cells #[int i64 x.op,int i64 x.dst,int i64 x.a,int i64 x.b,int i64 x.n,ar] 54);replace c4:=za ka c4;have KA:=hid ka;have HW:=hid fun (w:World)=>z6 x.n P.funcs.length w;clear h ka;unfold z8;generalize qN P f x=res at *;generalize inB x.n P.funcs.length=r at *;generalize P.funcs.length=n at *;rcases hop with e | e
 ·rw[e] at KA c4 ⊢
  go_enter Tryz.func238,Tryz.ntmps238;go_upto_region 4 with fail;go_quiet ((go_at_call 123;exact Calls.quiet_of_same (HW.o _)));go_wp2_with fail;go_ret;exact ⟨by rw[HE.o];rfl,KA.o.quiet (zc.drewN _ _ _)⟩
 ·rw[e] at KA c4 ⊢
  go_enter Tryz.func238,Tryz.ntmps238;go_upto_region 4 with fail;go_quiet ((go_at_call 123;exact Calls.quiet_of_same (HW.o _)));go_wp2_with fail;go_ret;exact ⟨by rw[HE.o];rfl,KA.o.quiet (zc.drewN _ _ _)⟩
theorem Q6(o:Option (Int × Int)):∃ t b,zdE o=.tuple #[tyV t,.bool b]∧b=o.isSome:=⟨o.getD (0,0),o.isSome,rfl,rfl⟩
theorem zgx(h:PrC w pb po P)(hf:FuC w fb fo f)(x:In8)(ar:Value)(hop:x.op=7∨x.op=8):Calls Tryz.prog 238 #[pointer (some ⟨pb,po,none⟩),pointer (some ⟨fb,fo,none⟩),z8 x ar] w fun e w'=>e=.returned (.bool (qN P f x))∧zc [] w w':=by
 have HE:Box (qN P f x=((qd P (zq f x.a) x.n).isSome || decide ((zq f x.a).1≠1))):=hid (by unfold qN;rw[if_neg (by omega),if_pos hop]);have ka:=zc.alloc [] w (.cells #[int i64 x.op,int i64 x.dst,int i64 x.a,int i64 x.b,int i64 x.n,ar] 54);have hn:=zh w (.cells #[int i64 x.op,int i64 x.dst,int i64 x.a,int i64 x.b,int i64 x.n,ar] 54);have HRT:=hid (zz (FuC.stays _ _ _ _ _ ka hf) x.a);have HFI:=hid fun (w':World) (k:zc [] w w')=>JY (PrC.stays _ _ _ _ _ k h) (zq f x.a) x.n;have KA:=hid ka;have HN:=hid hn;clear h hf ka hn;unfold z8;generalize qN P f x=res at *;obtain ⟨t,b,hv,hb⟩:=Q6 (qd P (zq f x.a) x.n);rw[hv] at HFI;rw[← hb] at HE;clear hv hb;generalize zq f x.a=T at *;have go:∀ (o:Int),x.op=o→((o == 10)=false)→((o == 12)=false)→((o == 7)=true∨((o == 7)=false∧(o == 8)=true))→Calls Tryz.prog 238 #[pointer (some ⟨pb,po,none⟩),pointer (some ⟨fb,fo,none⟩),agg #[int i64 x.op,int i64 x.dst,int i64 x.a,int i64 x.b,int i64 x.n,ar]] w fun e w'=>e=.returned (.bool res)∧zc [] w w':=by
  intro o e o1 o2 o3;rw[e] at KA HN HRT ⊢;clear e;rcases o3 with o7 | ⟨o7,o8⟩
  all_goals (
   go_enter Tryz.func238,Tryz.ntmps238;go_upto_region 7 with fail;generalize w.alloc (.cells #[int i64 o,int i64 x.dst,int i64 x.a,int i64 x.b,int i64 x.n,ar] 54)=WA at *;have q2:=zd HN.o 2;generalize w.heap.size=q at *;go_wp2_with fail;refine HRT.o.mono ?_;rintro e w1 ⟨rfl,k1⟩;have h1:=ze HN.o (k1.quiet (zc.alloc [] w1 (.cells #[int i64 T.1,int i64 T.2] 52)));have q4:=zd h1 4;have hn2:=zh w1 (.cells #[int i64 T.1,int i64 T.2] 52);have K1:=hid ((KA.o.quiet k1).quiet (zc.alloc [] w1 (.cells #[int i64 T.1,int i64 T.2] 52)));have r0:=zd hn2 0;have r1:=zd hn2 1;have HN2:=hid hn2;clear k1 h1 hn2 q2;go_upto_region 8 with fail;generalize w1.alloc (.cells #[int i64 T.1,int i64 T.2] 52)=w2 at *;generalize w1.heap.size=q1 at *;go_wp2_with fail;refine (HFI.o _ K1.o).mono ?_;rintro e w3 ⟨rfl,k3⟩;have h3:=ze HN2.o (k3.quiet (zc.alloc [] w3 (.cells #[int i64 t.1,int i64 t.2] 52)));have s0:=zd h3 0;have K3:=hid ((K1.o.quiet k3).quiet (zc.alloc [] w3 (.cells #[int i64 t.1,int i64 t.2] 52)));clear k3 h3 r0 r1 q4;cases b with
   | true=>
    have HR:Box (res=true):=hid (by rw[HE.o];rfl);go_wp2_with fail;go_ret;exact ⟨by rw[HR.o];rfl,K3.o⟩
   | false=>
    have HR:Box (res=decide (T.1≠1)):=hid (by rw[HE.o,Bool.false_or]);have hd:(T.1 != 1)=decide (T.1≠1):=by by_cases e:T.1=1 <;> simp[e]
    rw[← hd] at HR;clear hd HE;go_wp2_with fail;go_ret
    exact ⟨by rw[HR.o];rfl,K3.o⟩)
 rcases hop with e | e
 ·exact go 7 e rfl rfl (.inl rfl)
 ·exact go 8 e rfl rfl (.inr ⟨rfl,rfl⟩)
theorem zip(h:PrC w pb po P)(hf:FuC w fb fo f)(x:In8)(ar:Value)(hop:x.op=14):Calls Tryz.prog 238 #[pointer (some ⟨pb,po,none⟩),pointer (some ⟨fb,fo,none⟩),z8 x ar] w fun e w'=>e=.returned (.bool (qN P f x))∧zc [] w w':=by
 have HE:Box (qN P f x=((jM P (zq f x.a) x.n).isSome || decide ((zq f x.a).1≠3))):=hid (by unfold qN;rw[if_neg (by omega),if_neg (by omega),if_pos hop]);have ka:=zc.alloc [] w (.cells #[int i64 x.op,int i64 x.dst,int i64 x.a,int i64 x.b,int i64 x.n,ar] 54);have hn:=zh w (.cells #[int i64 x.op,int i64 x.dst,int i64 x.a,int i64 x.b,int i64 x.n,ar] 54);have HRT:=hid (zz (FuC.stays _ _ _ _ _ ka hf) x.a);have HFI:=hid fun (w':World) (k:zc [] w w')=>zaD h k (zq f x.a) x.n;have KA:=hid ka;have HN:=hid hn;clear h hf ka hn;unfold z8;generalize qN P f x=res at *;generalize jM P (zq f x.a) x.n=O at *;generalize zq f x.a=T at *;rw[hop] at KA HN HRT ⊢;go_enter Tryz.func238,Tryz.ntmps238;go_upto_region 11 with fail;generalize w.alloc (.cells #[int i64 14,int i64 x.dst,int i64 x.a,int i64 x.b,int i64 x.n,ar] 54)=WA at *;have q2:=zd HN.o 2;generalize w.heap.size=q at *;go_wp2_with fail;refine HRT.o.mono ?_;rintro e w1 ⟨rfl,k1⟩;have h1:=ze HN.o (k1.quiet (zc.alloc [] w1 (.cells #[int i64 T.1,int i64 T.2] 52)));have q4:=zd h1 4;have hn2:=zh w1 (.cells #[int i64 T.1,int i64 T.2] 52);have K1:=hid ((KA.o.quiet k1).quiet (zc.alloc [] w1 (.cells #[int i64 T.1,int i64 T.2] 52)));have r0:=zd hn2 0;have r1:=zd hn2 1;have HN2:=hid hn2;clear k1 h1 hn2 q2;go_upto_region 12 with fail;generalize w1.alloc (.cells #[int i64 T.1,int i64 T.2] 52)=w2 at *;generalize w1.heap.size=q1 at *;go_wp2_with fail;refine (HFI.o _ K1.o).mono ?_;cases O with
 | none=>
  rintro e w3 ⟨k3,rfl⟩;have h3:=ze HN2.o (k3.quiet (zc.alloc [] w3 (.cells #[.slice none 0 0,int i64 0,int i64 0] 59)));have s0:=zd h3 0;have K3:=hid ((K1.o.quiet k3).quiet (zc.alloc [] w3 (.cells #[.slice none 0 0,int i64 0,int i64 0] 59)));clear k3 h3 r0 r1 q4;have HR:Box (res=decide (T.1≠3)):=hid (by rw[HE.o,Option.isSome_none,Bool.false_or]);have hd:(T.1 != 3)=decide (T.1≠3):=by by_cases e:T.1=3 <;> simp[e]
  rw[← hd] at HR;clear hd HE;go_wp2_with fail;go_ret;exact ⟨by rw[HR.o];rfl,K3.o⟩
 | some sg=>
  rintro e w3 ⟨k3,v,rfl,ga,gp,rfl,_⟩;have h3:=ze HN2.o (k3.quiet (zc.alloc [] w3 (.cells #[.slice ga sg.1.length gp,int i64 sg.2.1,int i64 sg.2.2] 59)));have s0:=zd h3 0;have K3:=hid ((K1.o.quiet k3).quiet (zc.alloc [] w3 (.cells #[.slice ga sg.1.length gp,int i64 sg.2.1,int i64 sg.2.2] 59)));clear k3 h3 r0 r1 q4;have HR:Box (res=true):=hid (by rw[HE.o];rfl);go_wp2_with fail;go_ret;exact ⟨by rw[HR.o];rfl,K3.o⟩
theorem zlJ(x:In8)(ar:Value)(h1:¬ (x.op=10∨x.op=12))(h2:¬ (x.op=7∨x.op=8))(h3:¬ x.op=14):Calls Tryz.prog 238 #[pointer (some ⟨pb,po,none⟩),pointer (some ⟨fb,fo,none⟩),z8 x ar] w fun e w'=>e=.returned (.bool (qN P f x))∧zc [] w w':=by
 have HE:Box (qN P f x=true):=hid (by unfold qN;rw[if_neg h1,if_neg h2,if_neg h3]);have o10:=neb (show x.op≠10 by omega);have o12:=neb (show x.op≠12 by omega);have o7:=neb (show x.op≠7 by omega);have o8:=neb (show x.op≠8 by omega);have o14:=neb (show x.op≠14 by omega);clear h1 h2 h3;unfold z8;go_enter Tryz.func238,Tryz.ntmps238;go_wp2_with fail;go_ret;exact ⟨by rw[HE.o];rfl,zc.alloc _ _ _⟩
theorem zk5(h:PrC w pb po P)(hf:FuC w fb fo f)(x:In8)(ar:Value):Calls Tryz.prog 238 #[pointer (some ⟨pb,po,none⟩),pointer (some ⟨fb,fo,none⟩),z8 x ar] w fun e w'=>e=.returned (.bool (qN P f x))∧zc [] w w':=by
 by_cases h1:x.op=10∨x.op=12
 ·exact zkC h x ar h1
 by_cases h2:x.op=7∨x.op=8
 ·exact zgx h hf x ar h2
 by_cases h3:x.op=14
 ·exact zip h hf x ar h3
 exact zlJ x ar h1 h2 h3
structure zmV (w:World) (n:Nat) (r:Int):Prop where
 h0:w.heap[n]? = some (.cells #[.slice none 0 0,int i64 0,int i64 0] 59 (0,0))
 h1:w.heap[n+1]? = some (.cells #[int i64 0,int i64 0] 52 (0,0))
 h2:w.heap[n+2]? = some (.cells #[int i64 1,int i64 0,int i64 0,int i64 0,int i64 7,.slice none 0 0] 54 (0,0))
 h3:w.heap[n+3]? = some (.cells #[.slice (some ⟨n+2,0,none⟩) 1 1,int i64 3,int i64 r,int i64 0,int i64 0] 57 (0,0))
 h4:w.heap[n+4]? = some (.cells #[int i64 0,.slice (some ⟨n+1,0,none⟩) 1 1,.slice (some ⟨n+3,0,none⟩) 1 1] 50 (0,0))
 h5:w.heap[n+5]? = some (.cells #[.slice none 0 0,.slice (some ⟨n,0,none⟩) 1 1,.slice none 0 0,.slice none 0 0,.slice (some ⟨n+4,0,none⟩) 1 1,int i64 0] 45 (0,0))
def in1:In8:=⟨1,0,0,0,7,[]⟩
def bl1(r:Int):Bl8:=⟨[in1],3,r,0,0⟩
def fu1(r:Int):Fu8:=⟨0,[(0,0)],[bl1 r]⟩
def pr1(r:Int):Pr8:=⟨[],[([],0,0)],[],[],[fu1 r],0⟩
theorem zhh{z:Int}(h: -100≤z∧z≤100):b64 z:=by unfold b64;omega
theorem ji.of{z:Int}(h:w.cell? ⟨b,o,none⟩=some (int i64 z))(hz: -100≤z∧z≤100):ji w b o z:=⟨h,zhh hz⟩
theorem z7.one{α:Type}{R:World→Nat→Nat→α→Prop}{x:α}(h:R w b 0 x):z7 w c R (some ⟨b,0,none⟩) [x]:=
 .inr ⟨b,0,rfl,fun j y hy=>by
  cases j with
  | zero=>simp at hy;subst hy;simpa using h
  | succ j=>simp at hy⟩
theorem SlC.one{α:Type}{R:World→Nat→Nat→α→Prop}{x:α}(hc:w.cell? ⟨b,o,none⟩=some (.slice (some ⟨b',0,none⟩) 1 1))(h:R w b' 0 x):SlC c R w b o [x]:=
 ⟨_,1,hc,z7.one h,Nat.le_refl _,by unfold maxLen;simp⟩
theorem SlC.none{α:Type}{R:World→Nat→Nat→α→Prop}(hc:w.cell? ⟨b,o,none⟩=some (.slice none 0 0)):SlC c R w b o []:=
 ⟨_,0,hc,.inl rfl,Nat.le_refl _,by unfold maxLen;simp⟩
theorem zmV.prc{n:Nat}{r:Int}(h:zmV w n r)(hr: -100≤r∧r≤100):PrC w (n+5) 0 (pr1 r):=by
 have i:InC w (n+2) 0 in1:=⟨ji.of (zd h.h2 0) (by simp[in1]),ji.of (zd h.h2 1) (by simp[in1]),ji.of (zd h.h2 2) (by simp[in1]),ji.of (zd h.h2 3) (by simp[in1]),ji.of (zd h.h2 4) (by simp[in1]),SlC.none (zd h.h2 5)⟩;have b:BlC w (n+3) 0 (bl1 r):=⟨SlC.one (zd h.h3 0) i,ji.of (zd h.h3 1) (by simp[bl1]),ji.of (zd h.h3 2) hr,ji.of (zd h.h3 3) (by simp[bl1]),ji.of (zd h.h3 4) (by simp[bl1])⟩;have t:TyC w (n+1) 0 (0,0):=⟨ji.of (zd h.h1 0) (by simp),ji.of (zd h.h1 1) (by simp)⟩;have f:FuC w (n+4) 0 (fu1 r):=⟨ji.of (zd h.h4 0) (by simp[fu1]),SlC.one (zd h.h4 1) t,SlC.one (zd h.h4 2) b⟩;have s:SgC w n 0 ([],0,0):=⟨SlC.none (zd h.h0 0),ji.of (zd h.h0 1) (by simp),ji.of (zd h.h0 2) (by simp)⟩;exact ⟨SlC.none (zd h.h5 0),SlC.one (zd h.h5 1) s,SlC.none (zd h.h5 2),SlC.none (zd h.h5 3),SlC.one (zd h.h5 4) f,ji.of (zd h.h5 5) (by simp[pr1])⟩
theorem Jq{o:Obj}{n:Nat}(h:w.heap.size=n):(w.alloc o).heap[n]? = some o:=by subst h;exact zh w o
theorem zk6(w:World):Calls Tryz.prog 22 #[] w fun e w'=>e=.returned (pointer (some ⟨w.heap.size+5,0,none⟩))∧zmV w' w.heap.size 0∧zc [] w w':=by
 obtain ⟨n,hn⟩:∃ n,n=w.heap.size:=⟨_,rfl⟩;rw[← hn];obtain ⟨w1,e1⟩:∃ w1,w1=w.alloc (.cells #[.slice none 0 0,int i64 0,int i64 0] 59):=⟨_,rfl⟩;obtain ⟨w2,e2⟩:∃ w2,w2=w1.alloc (.cells #[int i64 0,int i64 0] 52):=⟨_,rfl⟩;obtain ⟨w3,e3⟩:∃ w3,w3=w2.alloc (.cells #[int i64 1,int i64 0,int i64 0,int i64 0,int i64 7,.slice none 0 0] 54):=⟨_,rfl⟩;obtain ⟨w4,e4⟩:∃ w4,w4=w3.alloc (.cells #[.slice (some ⟨n+2,0,none⟩) 1 1,int i64 3,int i64 0,int i64 0,int i64 0] 57):=⟨_,rfl⟩;obtain ⟨w5,e5⟩:∃ w5,w5=w4.alloc (.cells #[int i64 0,.slice (some ⟨n+1,0,none⟩) 1 1,.slice (some ⟨n+3,0,none⟩) 1 1] 50):=⟨_,rfl⟩;obtain ⟨w6,e6⟩:∃ w6,w6=w5.alloc (.cells #[.slice none 0 0,.slice (some ⟨n,0,none⟩) 1 1,.slice none 0 0,.slice none 0 0,.slice (some ⟨n+4,0,none⟩) 1 1,int i64 0] 45):=⟨_,rfl⟩;have s1:w1.heap.size=n+1:=by rw[e1,World.size_alloc,hn]
 have s2:w2.heap.size=n+2:=by rw[e2,World.size_alloc,s1]
 have s3:w3.heap.size=n+3:=by rw[e3,World.size_alloc,s2]
 have s4:w4.heap.size=n+4:=by rw[e4,World.size_alloc,s3]
 have s5:w5.heap.size=n+5:=by rw[e5,World.size_alloc,s4]
 have k1:zc [] w w1:=by rw[e1];exact zc.alloc _ _ _
 have k2:zc [] w1 w2:=by rw[e2];exact zc.alloc _ _ _
 have k3:zc [] w2 w3:=by rw[e3];exact zc.alloc _ _ _
 have k4:zc [] w3 w4:=by rw[e4];exact zc.alloc _ _ _
 have k5:zc [] w4 w5:=by rw[e5];exact zc.alloc _ _ _
 have k6:zc [] w5 w6:=by rw[e6];exact zc.alloc _ _ _
 have H:Box (zmV w6 n 0∧zc [] w w6):=hid ⟨⟨
  ze (by rw[e1];exact Jq hn.symm) ((((k2.quiet k3).quiet k4).quiet k5).quiet k6),
  ze (by rw[e2];exact Jq s1) (((k3.quiet k4).quiet k5).quiet k6),
  ze (by rw[e3];exact Jq s2) ((k4.quiet k5).quiet k6),
  ze (w:=w4) (by rw[e4];exact Jq s3) (k5.quiet k6),
  ze (w:=w5) (by rw[e5];exact Jq s4) k6,
  by rw[e6];exact Jq s5⟩,((((k1.quiet k2).quiet k3).quiet k4).quiet k5).quiet k6⟩
 have HW:=hid e6;subst e5 e4 e3 e2 e1;clear s1 s2 s3 s4 s5 k1 k2 k3 k4 k5 k6 e6;subst hn;rw[HW.o] at H;clear HW;go_enter Tryz.func22,Tryz.ntmps22;go_wp2_with fail;go_ret;exact ⟨rfl,H.o⟩
def tyE(s t:Int × Int):Bool:=s.1 == t.1 && s.2 == t.2
theorem ZS(a b c d:Int)(w:World):(binOp .eql 52 (agg #[int i64 a,int i64 b]) (agg #[int i64 c,int i64 d])).run Tryz.prog w=.ok (.bool (tyE (a,b) (c,d))) w:=by
 go_simp
 unfold tyE;by_cases h:a=c <;> by_cases h':b=d <;> simp[h,h']
theorem zfT(a b c d:Int)(w:World):(binOp .neq 52 (agg #[int i64 a,int i64 b]) (agg #[int i64 c,int i64 d])).run Tryz.prog w=.ok (.bool (!tyE (a,b) (c,d))) w:=by
 go_simp
 unfold tyE;by_cases h:a=c <;> by_cases h':b=d <;> simp[h,h']
def Q9(P:Pr8)(f:Fu8):Bool:=match Qp P f.sig with
 | none=>false
 | some s=>decide (s.1.length≤f.regs.length) && (List.range s.1.length).all fun k=>tyE (f.regs.getD k (0,0)) (s.1.getD k (0,0))
theorem zk2(h:PrC w pb po P)(hf:FuC w fb fo f):Calls Tryz.prog 127 #[pointer (some ⟨pb,po,none⟩),pointer (some ⟨fb,fo,none⟩)] w fun e w'=>e=.returned (.bool (Q9 P f))∧zc [] w w':=by
 have HSG:=hid (Jk h (zc.refl [] w) f.sig);obtain ⟨ra,rp,c1,rr,_,hrl⟩:=hf.c1;have c0:=hf.c0.1;have HRR:=hid rr;have C1:Box (∀ w',zc [] w w'→w'.cell? ⟨fb,fo+1,none⟩=some (.slice ra f.regs.length rp)):=hid fun w' k=>za k c1
 have HE:Box (Q9 P f=match Qp P f.sig with
  | none=>false
  | some s=>decide (s.1.length≤f.regs.length) && (List.range s.1.length).all fun k=>tyE (f.regs.getD k (0,0)) (s.1.getD k (0,0))):=hid rfl
 obtain ⟨R,hR⟩:∃ R,R=f.regs.length:=⟨_,rfl⟩;have HRN:=hid hR;rw[← hR] at C1;clear h hf rr c1 hrl hR;generalize Qp P f.sig=O at *;go_enter Tryz.func127,Tryz.ntmps127;go_wp2_with fail;refine HSG.o.mono ?_;intro e w1 h1;obtain ⟨k1,sa,sp,n,t1,t2,rfl,hs⟩:=h1.open;have hb:=zh w1 (.cells #[.slice sa n sp,int i64 t1,int i64 t2] 59);have K1:=hid (k1.quiet (zc.alloc [] w1 (.cells #[.slice sa n sp,int i64 t1,int i64 t2] 59)));have HB:=hid hb;have HS:=hid hs;clear h1 k1 hb hs c0;go_upto_region 2 with fail;generalize w1.alloc (.cells #[.slice sa n sp,int i64 t1,int i64 t2] 59)=w2 at *;generalize w1.heap.size=q at *;have c1:=C1.o _ K1.o;have s0:=zd HB.o 0;cases O with
 | none=>
  have HF:Box (Q9 P f=false):=hid HE.o;clear HE HS;go_quiet (fail);go_wp2_with fail;go_ret;exact ⟨by rw[HF.o];rfl,K1.o.quiet (zc.drewN _ _ _)⟩
 | some s=>
  obtain ⟨e1,_,_,hrs,hm⟩:=HS.o s rfl;have HSL:=hid e1;have HSR:=hid hrs;have hn9:(n:Int)≤9223372036854775807:=by unfold maxLen at hm;omega
  have HF:Box (Q9 P f=(decide (n≤R) && (List.range n).all fun k=>tyE (f.regs.getD k (0,0)) (s.1.getD k (0,0)))):=hid (by rw[HE.o,HSL.o,HRN.o]);clear HE HS e1 hrs hm;by_cases hle:n≤R
  case neg=>
   have hle':(R:Int)<(n:Int):=by omega
   have HG:Box (Q9 P f=false):=hid (by rw[HF.o];simp[hle]);clear hle HF;go_quiet (fail);go_wp2_with fail;go_ret;exact ⟨by rw[HG.o];rfl,K1.o.quiet (zc.drewN _ _ _)⟩
  have hle':¬ (R:Int)<(n:Int):=by omega
  have HG:Box (Q9 P f=(List.range n).all fun k=>tyE (f.regs.getD k (0,0)) (s.1.getD k (0,0))):=hid (by rw[HF.o];simp[hle]);clear HF;go_quiet (fail);go_upto_region 4 with fail;generalize hwd:w2.drewN nq=wd at *;have KD:zc [] w2 wd:=by rw[← hwd];exact zc.drewN _ _ _
  have K2:=hid (K1.o.quiet KD);have HBD:=hid (ze HB.o KD);have s0:=zd HBD.o 0;clear hwd KD c1;go_wp2_with fail;clear s0
  go_loopw [34] (fun kv wr=>∃ k:Nat,k≤n∧kv=int i64 (k:Int)∧Box (zc [] w wr)∧Box (∀ j,j<k→tyE (f.regs.getD j (0,0)) (s.1.getD j (0,0))=true)) (fun kv _=>n - (intOf kv).toNat)
  case atStart=>exact ⟨0,by omega,rfl,K2,hid fun j hj=>by omega⟩
  case round=>
   obtain ⟨k,hk,rfl,HK,HA⟩:=hrel;by_cases hlt:k<n
   ·have hlt':(k:Int)<(n:Int):=by omega
    have hkr:(k:Int)<(R:Int):=by omega
    obtain ⟨b,off,rfl,hc⟩:=HSR.o.at (zg (l:=s.1) (k:=k) (d:=(0,0)) (by rw[← HSL.o];exact hlt));obtain ⟨b',off',rfl,hc'⟩:=HRR.o.at (zg (l:=f.regs) (k:=k) (d:=(0,0)) (by rw[← HRN.o];omega));have d0:=za HK.o hc.c0.1;have d1:=za HK.o hc.c1.1;have KA:=hid (HK.o.quiet (zc.alloc [] wr (.cells #[int i64 (s.1.getD k (0,0)).1,int i64 (s.1.getD k (0,0)).2] 52)));have hn:=zh wr (.cells #[int i64 (s.1.getD k (0,0)).1,int i64 (s.1.getD k (0,0)).2] 52);have g0:=za KA.o hc'.c0.1;have g1:=za KA.o hc'.c1.1;have c1:=C1.o _ KA.o;have REL:Box (tyE (f.regs.getD k (0,0)) (s.1.getD k (0,0))=true→∀ j,j<k+1→tyE (f.regs.getD j (0,0)) (s.1.getD j (0,0))=true):=hid fun hg j hj=>by
     by_cases e:j<k
     ·exact HA.o j e
     ·obtain rfl:j=k:=by omega
      exact hg
    have BAD:Box (tyE (f.regs.getD k (0,0)) (s.1.getD k (0,0))=false→Q9 P f=false):=hid fun hg=>by
     rw[HG.o,List.all_eq_false];exact ⟨k,List.mem_range.2 hlt,by rw[hg];simp⟩
    have HNW:=hid hn;clear hc hc' hn;generalize s.1.getD k (0,0)=T at *;generalize f.regs.getD k (0,0)=U at *;go_upto_region 7 with fail;generalize wr.alloc (.cells #[int i64 T.1,int i64 T.2] 52)=w5 at *;generalize wr.heap.size=q5 at *;have f0:=zd HNW.o 0;have f1:=zd HNW.o 1;have rn:=fun w'=>zfT U.1 U.2 T.1 T.2 w';clear d0 d1;cases hg:tyE U T with
    | true=>
     have hg':tyE (U.1,U.2) (T.1,T.2)=true:=hg;rw[hg'] at rn;have HR2:=hid (REL.o hg);clear hg hg';go_quiet (fail);go_wp2_with fail;go_roundw
     case rel=>exact ⟨k+1,by omega,by go_num,hid (KA.o.quiet (zc.drewN _ _ _)),HR2⟩
     case measure=>simp[intOf];omega
    | false=>
     have hg':tyE (U.1,U.2) (T.1,T.2)=false:=hg;rw[hg'] at rn;have HF:=hid (BAD.o hg);clear hg hg';go_quiet (fail);go_wp2_with fail;go_ret;exact ⟨by rw[HF.o];rfl,KA.o.quiet (zc.drewN _ _ _)⟩
   ·obtain rfl:n=k:=by omega
    have HF:Box (Q9 P f=true):=hid (by rw[HG.o,List.all_eq_true];exact fun j hj=>HA.o j (List.mem_range.1 hj));go_wp2_with fail;go_ret;exact ⟨by rw[HF.o];rfl,HK.o⟩
def zof(a b:V3):V3:=if a.1≠0∨b.1≠0 then (0,0,false) else (0,wrap64 (a.2.1+b.2.1),a.2.2 || b.2.2)
end Go.Proofs.YthflgjkmbakedaaGreatDoor
