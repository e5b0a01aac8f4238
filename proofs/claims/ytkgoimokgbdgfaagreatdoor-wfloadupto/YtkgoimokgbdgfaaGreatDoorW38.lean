import Derived.Test.YtkgoimokgbdgfaaGreatDoorV37

namespace Go.Proofs.YtkgoimokgbdgfaaGreatDoor
open Go.RowKit
open Go.Value (int pointer agg)
open Go.IntKind (i64)
set_option maxRecDepth 20000
set_option maxHeartbeats 8000000
variable {P:Pr8}{b f i m y:Int}{e:Ending}{n o p:Nat}{v:Value}{w w':World}
def ZJ(o:Option (Int × Int × Int × Int))(w:World)(e:Ending)(w':World):Prop:=e=.returned (.tuple #[int i64 (o.getD (0, -1,0,0)).1,agg #[int i64 (o.getD (0, -1,0,0)).2.1,int i64 (o.getD (0, -1,0,0)).2.2.1,int i64 (o.getD (0, -1,0,0)).2.2.2]])∧zc [] w w'
theorem ZJ.no{o:Option (Int × Int × Int × Int)}{a c:Int}(h:o=some (y,a,b,c))(k:zc [] w w'):ZJ o w (.returned (.tuple #[int i64 y,agg #[int i64 a,int i64 b,int i64 c]])) w':=by
 subst h;exact ⟨rfl,k⟩
theorem ZJ.yes{o:Option (Int × Int × Int × Int)}(h:o=none)(k:zc [] w w'):ZJ o w (.returned (.tuple #[int i64 0,agg #[int i64 (-1),int i64 0,int i64 0]])) w':=by
 subst h;exact ⟨rfl,k⟩
theorem zau{pb po:Nat}(h:PrC w pb po P)(hs:jl P=true→Sm8 P):Calls Tryz.prog 16 #[pointer (some ⟨pb,po,none⟩)] w (ZJ (wfO P) w):=by
 have ka:=zc.alloc [] w (.cells #[int i64 0,int i64 0,int i64 0] 55);have HN0:=hid (zf w (.cells #[int i64 0,int i64 0,int i64 0] 55));have FIN:=hid fun (W':World) (u0 u1 u2:Value) (k:zc [] (w.alloc (.cells #[int i64 0,int i64 0,int i64 0] 55)) W')=>(ka.quiet k).trans (jd W' w.heap.size u0 u1 u2) (fun x hx hl=>by simp at hx;omega);have HP:=hid (PrC.stays _ _ _ _ _ ka h);have HS:=hid hs;have hbx:w.heap.size<(w.alloc (.cells #[int i64 0,int i64 0,int i64 0] 55)).heap.size:=by rw[World.size_alloc];omega
 have HWF:Box (wfO P=(if jl P=false then some (2, -1,0,0) else
  match zM P with
  | some q=>some (3,q)
  | none=>if zdA P=false then some (7, -1,0,0) else
   match QM P (Jf P) with
   | some q=>some (4,q)
   | none=>match (bks P).find? (jP P) with
    | some q=>some (6,ptI q)
    | none=>match (pts P).find? (zbM P) with
     | some q=>some (5,ptI q)
     | none=>none:Option (Int × Int × Int × Int))):=hid rfl
 clear h hs ka;go_enter Tryz.func16,Tryz.ntmps16;go_upto_region 1 with fail;generalize w.heap.size=bx at *;generalize w.alloc (.cells #[int i64 0,int i64 0,int i64 0] 55)=W at *;have HBX:=hid hbx;clear hbx;go_wp2_with fail;refine (J0 HP.o).mono ?_;rintro e w1 ⟨rfl,k1⟩;have K1:=hid k1;clear k1;cases hb:jl P with
 | false=>
  have HO:Box (wfO P=some (2, -1,0,0)):=hid (by rw[HWF.o,if_pos hb]);clear hb;go_wp2_with (go_at_call 13;refine (qh _).mono ?_;rintro e w6 ⟨rfl,k6⟩;have hb6:=ze HN0.o (K1.o.quiet k6);have K6:=hid (K1.o.quiet k6);have y0:=zi hb6 0;have y1:=zi hb6 1;have y2:=zi hb6 2;have x0:=zd hb6 0;have x1:=zd hb6 1;have x2:=zd hb6 2;have HB6:=hid hb6;clear hb6 k6);have h3:=ZC HB6.o (int i64 (-1)) (int i64 0) (int i64 0);have e0:=zd h3 0;have e1:=zd h3 1;have e2:=zd h3 2;exact bodyPost_ret (v:=.tuple #[int i64 2,agg #[int i64 (-1),int i64 0,int i64 0]]) (by simp[results,Tryz.results16,go_sem,e0,e1,e2]) rfl (ZJ.no HO.o (FIN.o _ _ _ _ K6.o))
 | true=>
 have HBN:=hid hb;have HO1:Box (∀ q,zM P=some q→wfO P=some (3,q)):=hid fun q hq=>by rw[HWF.o,if_neg (by rw[hb];simp),hq]
 clear hb;go_wp2_with fail;refine (zgk (PrC.stays _ _ _ _ _ K1.o HP.o) (zae HBN.o) (Jr (zaf HBN.o))).mono ?_;intro e w2 h2;cases hnm:zM P with
 | some q=>
  obtain ⟨qa,qb,qc⟩:=q;have h2':e=.returned (.tuple #[agg #[int i64 qa,int i64 qb,int i64 qc],.bool false])∧zc [] w1 w2:=by
   unfold Zy at h2;rw[hnm] at h2;exact h2
  obtain ⟨rfl,k2⟩:=h2';have HO:Box (wfO P=some (3,qa,qb,qc)):=hid (HO1.o _ hnm);have K2:=hid (K1.o.quiet k2);clear h2 k2 hnm;go_upto_region 4 with fail;have kb:=zc.alloc [] w2 (.cells #[int i64 qa,int i64 qb,int i64 qc] 55);have hq4:=zf w2 (.cells #[int i64 qa,int i64 qb,int i64 qc] 55);have K3:=hid (K2.o.quiet kb);clear kb;generalize w2.alloc (.cells #[int i64 qa,int i64 qb,int i64 qc] 55)=w3 at *;generalize w2.heap.size=q4 at *;have hb6:=ze HN0.o K3.o;have K6:=hid K3.o;have y0:=zi hb6 0;have y1:=zi hb6 1;have y2:=zi hb6 2;have x0:=zd hb6 0;have x1:=zd hb6 1;have x2:=zd hb6 2;have v0:=zd hq4 0;have v1:=zd hq4 1;have v2:=zd hq4 2;have HB6:=hid hb6;clear hb6;go_wp2_with fail
  go_region
  all_goals
   have h3:=ze (ZC HB6.o (int i64 qa) (int i64 qb) (int i64 qc)) (zc.drew [] _);have e0:=zd h3 0;have e1:=zd h3 1;have e2:=zd h3 2;go_wp2_with fail;exact bodyPost_ret (v:=.tuple #[int i64 3,agg #[int i64 qa,int i64 qb,int i64 qc]]) (by simp[results,Tryz.results16,go_sem,e0,e1,e2]) rfl (ZJ.no HO.o ((FIN.o _ _ _ _ K6.o).quiet (zc.drew [] _)))
 | none=>
 have h2':e=.returned (.tuple #[agg #[int i64 (-1),int i64 0,int i64 0],.bool true])∧zc [] w1 w2:=by
  unfold Zy at h2;rw[hnm] at h2;exact h2
 obtain ⟨rfl,k2⟩:=h2';have HRT:Box (Rt P):=hid ⟨HBN.o,HS.o HBN.o,hnm⟩
 have HO2:Box (wfO P=(if zdA P=false then some (7, -1,0,0) else
   match QM P (Jf P) with
   | some q=>some (4,q)
   | none=>match (bks P).find? (jP P) with
    | some q=>some (6,ptI q)
    | none=>match (pts P).find? (zbM P) with
     | some q=>some (5,ptI q)
     | none=>none:Option (Int × Int × Int × Int))):=hid (by rw[HWF.o,if_neg (by rw[HBN.o];simp),hnm])
 have K2:=hid (K1.o.quiet k2);have HMS:=hid (zk9 hnm);clear h2 k2 hnm HWF HO1;go_upto_region 4 with fail;have kb:=zc.alloc [] w2 (.cells #[int i64 (-1),int i64 0,int i64 0] 55);have HQ4:=hid (zf w2 (.cells #[int i64 (-1),int i64 0,int i64 0] 55));have K3:=hid (K2.o.quiet kb);have hlw:W.heap.size≤w2.heap.size:=K2.o.size;clear kb;generalize w2.alloc (.cells #[int i64 (-1),int i64 0,int i64 0] 55)=w3 at *;generalize w2.heap.size=q4 at *;have STO:=hid fun (W':World) (u0 u1 u2:Value) (k:zc [] W W')=>k.trans (jd W' q4 u0 u1 u2) (fun x hx hl=>by simp at hx;omega);clear hlw;go_wp2_with fail;refine (zkA (PrC.stays _ _ _ _ _ K3.o HP.o) (zbR HRT.o.bnd HRT.o.nm)).mono ?_;rintro e w4 ⟨rfl,k4⟩;rw[HMS.o];have K4:=hid (K3.o.quiet k4);have HQ5:=hid (ze HQ4.o k4);clear k4 HQ4;cases hm:zdA P with
 | false=>
  have HO:Box (wfO P=some (7, -1,0,0)):=hid (by rw[HO2.o,if_pos hm]);clear hm;go_wp2_with (go_at_call 13;refine (qh _).mono ?_;rintro e w6 ⟨rfl,k6⟩;have hb6:=ze HN0.o (K4.o.quiet k6);have K6:=hid (K4.o.quiet k6);have y0:=zi hb6 0;have y1:=zi hb6 1;have y2:=zi hb6 2;have x0:=zd hb6 0;have x1:=zd hb6 1;have x2:=zd hb6 2;have HB6:=hid hb6;clear hb6 k6);have h3:=ZC HB6.o (int i64 (-1)) (int i64 0) (int i64 0);have e0:=zd h3 0;have e1:=zd h3 1;have e2:=zd h3 2;exact bodyPost_ret (v:=.tuple #[int i64 7,agg #[int i64 (-1),int i64 0,int i64 0]]) (by simp[results,Tryz.results16,go_sem,e0,e1,e2]) rfl (ZJ.no HO.o (FIN.o _ _ _ _ K6.o))
 | true=>
 have HO3:Box (wfO P=(match QM P (Jf P) with
   | some q=>some (4,q)
   | none=>match (bks P).find? (jP P) with
    | some q=>some (6,ptI q)
    | none=>match (pts P).find? (zbM P) with
     | some q=>some (5,ptI q)
     | none=>none:Option (Int × Int × Int × Int))):=hid (by rw[HO2.o,if_neg (by rw[hm];simp)])
 clear hm HO2;go_wp2_with fail;refine (zfQ (PrC.stays _ _ _ _ _ K4.o HP.o) HRT.o).mono ?_;rintro e w5 ⟨rfl,k5⟩;have K5:=hid (K4.o.quiet k5);have hq5:=ze HQ5.o k5;have HQ6:=hid hq5;have z0:=zi hq5 0;have z1:=zi hq5 1;have z2:=zi hq5 2;have u0:=zd hq5 0;have u1:=zd hq5 1;have u2:=zd hq5 2;clear k5 HQ5 hq5;cases hc:QM P (Jf P) with
 | some q=>
  obtain ⟨qa,qb,qc⟩:=q;have HO:Box (wfO P=some (4,qa,qb,qc)):=hid (by rw[HO3.o,hc]);clear hc;simp only[Option.getD_some,Option.isNone_some];go_upto_region 9 with fail;have h4:=ZC HQ6.o (int i64 qa) (int i64 qb) (int i64 qc);have K5b:=hid (STO.o w5 (int i64 qa) (int i64 qb) (int i64 qc) K5.o);clear z0 z1 z2 u0 u1 u2;generalize ((w5.setCell ⟨q4,0,none⟩ (int i64 qa)).setCell ⟨q4,1,none⟩ (int i64 qb)).setCell ⟨q4,2,none⟩ (int i64 qc)=w5b at *;have hb6:=ze HN0.o K5b.o;have K6:=hid K5b.o;have y0:=zi hb6 0;have y1:=zi hb6 1;have y2:=zi hb6 2;have x0:=zd hb6 0;have x1:=zd hb6 1;have x2:=zd hb6 2;have v0:=zd h4 0;have v1:=zd h4 1;have v2:=zd h4 2;have HB6:=hid hb6;clear hb6;go_wp2_with fail
  go_region
  all_goals
   have h3:=ze (ZC HB6.o (int i64 qa) (int i64 qb) (int i64 qc)) (zc.drew [] _);have e0:=zd h3 0;have e1:=zd h3 1;have e2:=zd h3 2;go_wp2_with fail;exact bodyPost_ret (v:=.tuple #[int i64 4,agg #[int i64 qa,int i64 qb,int i64 qc]]) (by simp[results,Tryz.results16,go_sem,e0,e1,e2]) rfl (ZJ.no HO.o ((FIN.o _ _ _ _ K6.o).quiet (zc.drew [] _)))
 | none=>
 have HO4:Box (wfO P=(match (bks P).find? (jP P) with
    | some q=>some (6,ptI q)
    | none=>match (pts P).find? (zbM P) with
     | some q=>some (5,ptI q)
     | none=>none:Option (Int × Int × Int × Int))):=hid (by rw[HO3.o,hc])
 clear hc HO3;simp only[Option.getD_none,Option.isNone_none];go_upto_region 9 with fail;have HQ7:=hid (ZC HQ6.o (int i64 (-1)) (int i64 0) (int i64 0));have K5b:=hid (STO.o w5 (int i64 (-1)) (int i64 0) (int i64 0) K5.o);clear z0 z1 z2 u0 u1 u2 HQ6;generalize ((w5.setCell ⟨q4,0,none⟩ (int i64 (-1))).setCell ⟨q4,1,none⟩ (int i64 0)).setCell ⟨q4,2,none⟩ (int i64 0)=w5b at *;go_wp2_with fail;refine (zf9 (PrC.stays _ _ _ _ _ K5b.o HP.o) (fun f hf=>HRT.o.ends hf) HRT.o.sz.bk HRT.o.sz.fn).mono ?_;intro e w6 h6;have hq5:∀ w',zc [] w5b w'→w'.heap[q4]? = some (.cells #[int i64 (-1),int i64 0,int i64 0] 55 (0,0)):=fun w' k=>ze HQ7.o k;cases hc:(bks P).find? (jP P) with
 | some q=>
  obtain ⟨f,b,i⟩:=q;rw[hc] at h6;obtain ⟨rfl,k6⟩:=h6;have HO:Box (wfO P=some (6,(f:Int),(b:Int),(i:Int))):=hid (by rw[HO4.o,hc];rfl);have K6:=hid (K5b.o.quiet k6);have hq6:=hq5 _ k6;have HQ8:=hid hq6;have z0:=zi hq6 0;have z1:=zi hq6 1;have z2:=zi hq6 2;have u0:=zd hq6 0;have u1:=zd hq6 1;have u2:=zd hq6 2;clear hc k6 hq6 hq5;go_upto_region 12 with fail;have h4:=ZC HQ8.o (int i64 (f:Int)) (int i64 (b:Int)) (int i64 (i:Int));have K6b:=hid (STO.o w6 (int i64 (f:Int)) (int i64 (b:Int)) (int i64 (i:Int)) K6.o);clear z0 z1 z2 u0 u1 u2;generalize ((w6.setCell ⟨q4,0,none⟩ (int i64 (f:Int))).setCell ⟨q4,1,none⟩ (int i64 (b:Int))).setCell ⟨q4,2,none⟩ (int i64 (i:Int))=w6b at *;have hb6:=ze HN0.o K6b.o;have K6:=hid K6b.o;have y0:=zi hb6 0;have y1:=zi hb6 1;have y2:=zi hb6 2;have x0:=zd hb6 0;have x1:=zd hb6 1;have x2:=zd hb6 2;have v0:=zd h4 0;have v1:=zd h4 1;have v2:=zd h4 2;have HB6:=hid hb6;clear hb6;go_wp2_with fail
  go_region
  all_goals
   have h3:=ze (ZC HB6.o (int i64 (f:Int)) (int i64 (b:Int)) (int i64 (i:Int))) (zc.drew [] _);have e0:=zd h3 0;have e1:=zd h3 1;have e2:=zd h3 2;go_wp2_with fail;exact bodyPost_ret (v:=.tuple #[int i64 6,agg #[int i64 (f:Int),int i64 (b:Int),int i64 (i:Int)]]) (by simp[results,Tryz.results16,go_sem,e0,e1,e2]) rfl (ZJ.no HO.o ((FIN.o _ _ _ _ K6.o).quiet (zc.drew [] _)))
 | none=>
 rw[hc] at h6;obtain ⟨rfl,k6⟩:=h6
 have HO5:Box (wfO P=(match (pts P).find? (zbM P) with
     | some q=>some (5,ptI q)
     | none=>none:Option (Int × Int × Int × Int))):=hid (by rw[HO4.o,hc])
 have K6:=hid (K5b.o.quiet k6);have hq6:=hq5 _ k6;have HQ8:=hid hq6;have z0:=zi hq6 0;have z1:=zi hq6 1;have z2:=zi hq6 2;have u0:=zd hq6 0;have u1:=zd hq6 1;have u2:=zd hq6 2;clear hc k6 hq6 hq5 HO4;go_upto_region 12 with fail;have HQ9:=hid (ZC HQ8.o (int i64 (-1)) (int i64 0) (int i64 0));have K6b:=hid (STO.o w6 (int i64 (-1)) (int i64 0) (int i64 0) K6.o);clear z0 z1 z2 u0 u1 u2;generalize ((w6.setCell ⟨q4,0,none⟩ (int i64 (-1))).setCell ⟨q4,1,none⟩ (int i64 0)).setCell ⟨q4,2,none⟩ (int i64 0)=w6b at *;go_wp2_with fail;refine (zeH (PrC.stays _ _ _ _ _ K6b.o HP.o) HRT.o.sm HRT.o.few HRT.o.nm HRT.o.sz.rg).mono ?_;intro e w7 h7;rw[← zir HRT.o.nm HRT.o.sz.bk HRT.o.sz.rg] at h7;have hq6:∀ w',zc [] w6b w'→w'.heap[q4]? = some (.cells #[int i64 (-1),int i64 0,int i64 0] 55 (0,0)):=fun w' k=>ze HQ9.o k;cases hc:(pts P).find? (zbM P) with
 | some q=>
  obtain ⟨f,b,i⟩:=q;rw[hc] at h7;obtain ⟨rfl,k7⟩:=h7;have HO:Box (wfO P=some (5,(f:Int),(b:Int),(i:Int))):=hid (by rw[HO5.o,hc];rfl);have K7:=hid (K6b.o.quiet k7);have hq7:=hq6 _ k7;have HQA:=hid hq7;have z0:=zi hq7 0;have z1:=zi hq7 1;have z2:=zi hq7 2;have u0:=zd hq7 0;have u1:=zd hq7 1;have u2:=zd hq7 2;clear hc k7 hq7 hq6;go_upto_region 15 with fail;have h4:=ZC HQA.o (int i64 (f:Int)) (int i64 (b:Int)) (int i64 (i:Int));have K7b:=hid (STO.o w7 (int i64 (f:Int)) (int i64 (b:Int)) (int i64 (i:Int)) K7.o);clear z0 z1 z2 u0 u1 u2;generalize ((w7.setCell ⟨q4,0,none⟩ (int i64 (f:Int))).setCell ⟨q4,1,none⟩ (int i64 (b:Int))).setCell ⟨q4,2,none⟩ (int i64 (i:Int))=w7b at *;have hb6:=ze HN0.o K7b.o;have K6:=hid K7b.o;have y0:=zi hb6 0;have y1:=zi hb6 1;have y2:=zi hb6 2;have x0:=zd hb6 0;have x1:=zd hb6 1;have x2:=zd hb6 2;have v0:=zd h4 0;have v1:=zd h4 1;have v2:=zd h4 2;have HB6:=hid hb6;clear hb6;go_wp2_with fail
  go_region
  all_goals
   have h3:=ze (ZC HB6.o (int i64 (f:Int)) (int i64 (b:Int)) (int i64 (i:Int))) (zc.drew [] _);have e0:=zd h3 0;have e1:=zd h3 1;have e2:=zd h3 2;go_wp2_with fail;exact bodyPost_ret (v:=.tuple #[int i64 5,agg #[int i64 (f:Int),int i64 (b:Int),int i64 (i:Int)]]) (by simp[results,Tryz.results16,go_sem,e0,e1,e2]) rfl (ZJ.no HO.o ((FIN.o _ _ _ _ K6.o).quiet (zc.drew [] _)))
 | none=>
  rw[hc] at h7;obtain ⟨rfl,k7⟩:=h7;have HO:Box (wfO P=none):=hid (by rw[HO5.o,hc]);have K7:=hid (K6b.o.quiet k7);have hq7:=hq6 _ k7;have HQA:=hid hq7;have z0:=zi hq7 0;have z1:=zi hq7 1;have z2:=zi hq7 2;have u0:=zd hq7 0;have u1:=zd hq7 1;have u2:=zd hq7 2;clear hc k7 hq7 hq6;go_upto_region 15 with fail;have K7b:=hid (STO.o w7 (int i64 (-1)) (int i64 0) (int i64 0) K7.o);clear z0 z1 z2 u0 u1 u2;generalize ((w7.setCell ⟨q4,0,none⟩ (int i64 (-1))).setCell ⟨q4,1,none⟩ (int i64 0)).setCell ⟨q4,2,none⟩ (int i64 0)=w7b at *;go_wp2_with (go_at_call 13;refine (qh _).mono ?_;rintro e w6 ⟨rfl,k6⟩;have hb6:=ze HN0.o (K7b.o.quiet k6);have K6:=hid (K7b.o.quiet k6);have y0:=zi hb6 0;have y1:=zi hb6 1;have y2:=zi hb6 2;have x0:=zd hb6 0;have x1:=zd hb6 1;have x2:=zd hb6 2;have HB6:=hid hb6;clear hb6 k6);have h3:=ZC HB6.o (int i64 (-1)) (int i64 0) (int i64 0);have e0:=zd h3 0;have e1:=zd h3 1;have e2:=zd h3 2;exact bodyPost_ret (v:=.tuple #[int i64 0,agg #[int i64 (-1),int i64 0,int i64 0]]) (by simp[results,Tryz.results16,go_sem,e0,e1,e2]) rfl (ZJ.yes HO.o (FIN.o _ _ _ _ K6.o))
theorem zgC(w:World):Calls Tryz.prog 16 #[.pointer none] w (ZJ (some (2, -1,0,0)) w):=by
 have ka:=zc.alloc [] w (.cells #[int i64 0,int i64 0,int i64 0] 55);have HN0:=hid (zf w (.cells #[int i64 0,int i64 0,int i64 0] 55));have FIN:=hid fun (W':World) (u0 u1 u2:Value) (k:zc [] (w.alloc (.cells #[int i64 0,int i64 0,int i64 0] 55)) W')=>(ka.quiet k).trans (jd W' w.heap.size u0 u1 u2) (fun x hx hl=>by simp at hx;omega);clear ka;go_enter Tryz.func16,Tryz.ntmps16;go_upto_region 1 with fail;generalize w.heap.size=bx at *;generalize w.alloc (.cells #[int i64 0,int i64 0,int i64 0] 55)=W at *;go_wp2_with fail;refine (zex _).mono ?_;rintro e w1 ⟨rfl,k1⟩;have K1:=hid k1;clear k1;go_wp2_with (go_at_call 13;refine (qh _).mono ?_;rintro e w6 ⟨rfl,k6⟩;have hb6:=ze HN0.o (K1.o.quiet k6);have K6:=hid (K1.o.quiet k6);have y0:=zi hb6 0;have y1:=zi hb6 1;have y2:=zi hb6 2;have x0:=zd hb6 0;have x1:=zd hb6 1;have x2:=zd hb6 2;have HB6:=hid hb6;clear hb6 k6);have h3:=ZC HB6.o (int i64 (-1)) (int i64 0) (int i64 0);have e0:=zd h3 0;have e1:=zd h3 1;have e2:=zd h3 2;exact bodyPost_ret (v:=.tuple #[int i64 2,agg #[int i64 (-1),int i64 0,int i64 0]]) (by simp[results,Tryz.results16,go_sem,e0,e1,e2]) rfl (ZJ.no rfl (FIN.o _ _ _ _ K6.o))
section
open Go.Extern.Stop Go.Stop Go.Extern
theorem zpx:(Tryz.prog.info? 82).map (·.comparable)=some true:=by kernel_rfl
theorem zpf:(Tryz.prog.info? 85).map (·.size)=some 5:=by kernel_rfl
theorem zne(a:Addr)(w:World):(binOp .eql 51 (.iface 82 (.pointer (some a))) (.iface 82 (.pointer (some a)))).run Tryz.prog w=.ok (.bool true) w:=by
 obtain ⟨i,hi,hcmp⟩:=Option.map_eq_some_iff.1 zpx;obtain ⟨j,hj,hjs⟩:=Option.map_eq_some_iff.1 zpf;exact run_eql_iface_ptr_same (P:=Tryz.prog) w a Tryz.underlying51 Tryz.underlying82 hi hcmp hj
theorem zjm(p:Nat)(w:World):Calls Tryz.prog 81 #[Zj p,pointer (some ⟨p,0,none⟩)] w fun e w'=>e=.returned (.bool true)∧zc [] w w':=by
 have hes:=fun w=>zne ⟨p,0,none⟩ w;go_enter Tryz.func81,Tryz.ntmps81;go_wp2
 go_loop [0] (fun v=>v=Zj p) (fun _=>0)
 case atStart=>rfl
 case round=>
  subst hrel;go_wp2;go_ret;exact ⟨rfl,zc.refl _ _⟩
theorem zkV(p:Nat)(w:World)(hg:JX w):Calls Tryz.prog 39 #[Zj p] w fun e w'=>e=.returned (pointer (some ⟨p,0,none⟩))∧zc [] w w':=by
 have hf:=hid (JE p w hg);have hl:=hid fun (w':World)=>zjm p w';clear hg;go_enter Tryz.func39,Tryz.ntmps39;go_wp2
 go_loop [0] (fun v=>v=Zj p) (fun _=>0)
 case atStart=>rfl
 case round=>
  subst hrel;go_wp2_with (first | (go_at_call 45;refine hf.o.mono ?_;rintro e w' ⟨rfl,hk⟩;have HK:=hid hk;clear hk) | (go_at_call 81;refine (hl.o _).mono ?_;rintro e w2 ⟨rfl,hk⟩;have HK2:=hid (HK.o.step hk);clear hk));go_ret;exact ⟨rfl,HK2.o⟩
theorem zkd(w:World):Calls Tryz.prog 39 #[.nilIface] w fun e w'=>e=.returned (.pointer none)∧zc [] w w':=by
 go_enter Tryz.func39,Tryz.ntmps39;go_wp2
 go_loop [0] (fun v=>v=.nilIface) (fun _=>0)
 case atStart=>rfl
 case round=>
  subst hrel;go_wp2;go_ret;exact ⟨rfl,zc.refl _ _⟩
theorem zhT(v:Value)(xT:TypeId)(w:World):(Instr.typeAssert (.iface 82 v) xT 88 true).run Tryz.prog w=.ok (.tuple #[.iface 82 v,.bool true]) w:=run_typeAssert_hasB Tryz.underlying88 (by kernel_rfl) v xT w
theorem zdG(v:Value)(w:World):(Go.method 381 82 v "Unwrap").run Tryz.prog w=.ok (195,v) w:=by kernel_rfl
theorem zkC(p:Nat)(a b c d v:Value)(w:World)(h:w.heap[p]? = some (.cells #[a,b,c,d,v] 85 (0,0))):
  Calls Tryz.prog 195 #[pointer (some ⟨p,0,none⟩)] w fun e w'=>e=.returned v∧w'=w:=by
 have h1:w.cell? ⟨p,4,none⟩=some v:=ja h 4;have h0:w.cell? ⟨p,0,none⟩=some a:=ja h 0;go_enter Tryz.func195,Tryz.ntmps195;go_wp2;go_ret;exact ⟨rfl,rfl⟩
theorem zbt(h:zb5 w p y f b i v):Calls Tryz.prog 18 #[Zj p] w fun e w'=>e=.returned v∧w'=w:=by
 have f2:=zhT;have f4:=zdG;have hu:=zkC p _ _ _ _ _ w h;clear h;go_enter Tryz.func18,Tryz.ntmps18;go_wp2_with (go_at_call 195;refine hu.mono ?_;rintro e w' ⟨rfl,rfl⟩);go_ret;exact ⟨rfl,rfl⟩
def chP(p r:Nat):Nat→Value
 | 0=>pointer (some ⟨p,0,none⟩)
 | 1=>pointer (some ⟨r,0,none⟩)
 | _=>.pointer none
def ptD:Value→Nat→Nat
 | .pointer none,_=>0
 | .pointer (some a),p=>if a.block=p then 2 else 1
 | _,_=>0
theorem zpt:Tryz.t3.zero=some (int i64 0):=by kernel_rfl
theorem zpv:Tryz.t3.size=1:=by kernel_rfl
theorem znS:Tryz.t3.bytes=8:=by kernel_rfl
theorem zpz:Tryz.prog.info? 3=some Tryz.t3:=by kernel_rfl
theorem zmg:Tryz.prog.underlying 37=some (.slice 3):=by kernel_rfl
theorem zah{L:List Nat}{base:Nat}{e:TypeId}{s:Nat}{xs:List Value}(h:w.ownsRow base e s v n xs)(k:zc L w w')(hn:∀ g,v.ownBlock=some g→g ∉ L):w'.ownsRow base e s v n xs:=by
 refine ⟨h.1,?_⟩;rcases h.2 with h0 | ⟨g,cap,cur,rfl,hbg,hgg,hr⟩
 ·exact Or.inl h0
 ·exact Or.inr ⟨g,cap,cur,rfl,hbg,(k.block g (z8 hgg) (hn g (by simp[Value.ownBlock]))).trans hgg,hr⟩
structure zpL (w wr:World) (M:Nat) (ks:List Nat) (lv:Value) (n:Nat) (y:Int):Prop where
 own:wr.ownsRow w.heap.size 3 1 lv n (List.replicate n (int i64 y))
 told:Qw wr M ks
 keep:zc [] w wr
theorem zdm{r:Nat}(hg:JX w)(hp:zb5 w p y f b i (Zj r))(hr:Ji w r y f b i)(hlt:r<p):Calls Tryz.prog 17 #[Zj p] w fun e w'=>∃ v,e=.returned v∧w'.ownsRow w.heap.size 3 1 v 2 [int i64 y,int i64 y]∧zc [] w w':=by
 have ka:=zc.alloc [] w (.map #[] 0);have HN:=hid fun (q:Nat) (w':World) (k:zc [] w w')=>zkV q w' (hg.quiet k);have HNN:=hid fun (w':World)=>zkd w';have HST:Box (∀ w1,zc [] (w.alloc (.map #[] 0)) w1→zpL w w1 w.heap.size [] (.slice none 0 0) 0 y):=hid fun w1 k1=>
  ⟨⟨rfl,Or.inl ⟨rfl,rfl⟩⟩,(Qw.made w).kept k1 (by simp) (by simp),ka.step k1⟩
 have HPR:=hid (And.intro hp hr);have HNE:Box (p≠r):=hid (by omega);have KA:=hid ka;clear hg hp hr hlt ka;have hmk:∀ w,(Instr.makeMap 81 none).run Tryz.prog w=.ok (.map (some w.heap.size)) (w.alloc (.map #[] 0)):=fun w=>by kernel_rfl
 go_enter Tryz.func17,Tryz.ntmps17;go_wp2_with (go_at_call 39;refine (HN.o p _ KA.o).mono ?_;rintro e w1 ⟨rfl,hk1⟩;have HS:=hid (HST.o w1 hk1);clear hk1)
 go_loopw [3,5] (fun lv x wr=>∃ n:Nat,n≤2∧x=chP p r n∧Box (zpL w wr w.heap.size ([p,r].take n) lv n y)) (fun _ x _=>ptD x p)
 case atStart=>exact ⟨0,by omega,rfl,HS⟩
 case round=>
  clear HS HST;obtain ⟨n,hn,rfl,hb⟩:=hrel;by_cases h2:n=2
  ·subst h2
   unfold chP;go_wp2;go_ret;exact ⟨_,rfl,hb.o.own,hb.o.keep⟩
  obtain ⟨c,hc⟩:∃ c:Nat,c=if n=0 then p else r:=⟨_,rfl⟩
  have hcp:chP p r n=pointer (some ⟨c,0,none⟩):=by
   rcases (show n=0∨n=1 by omega) with rfl | rfl
   ·rw[hc];rfl
   ·rw[hc];rfl
  obtain ⟨v,hrow0,hnx⟩:∃ v,zb5 w c y f b i v∧((n=0∧v=Zj r)∨(n=1∧v=.nilIface)):=by
   rcases (show n=0∨n=1 by omega) with rfl | rfl
   ·exact ⟨Zj r,by rw[hc];exact HPR.o.1,.inl ⟨rfl,rfl⟩⟩
   ·exact ⟨.nilIface,by rw[hc];exact HPR.o.2,.inr ⟨rfl,rfl⟩⟩
  have hne:∀ q,q∈[p,r].take n→c≠q:=fun q hq e=>by
   rcases (show n=0∨n=1 by omega) with rfl | rfl
   ·simp at hq
   ·simp at hq
    have:=HNE.o;rw[hc] at e;simp at e;omega
  have HTK:Box ([p,r].take (n+1)=[p,r].take n ++ [c]):=hid (by
   rcases (show n=0∨n=1 by omega) with rfl | rfl
   ·rw[hc];rfl
   ·rw[hc];rfl)
  have hp0:w.heap[c]? = _:=hrow0;have hpl:=z8 hp0;have hpr:=(hb.o.keep.block c hpl (by simp)).trans hp0;have hlook:=hb.o.told.look hpr hne;have k2:=zc.alloc [] wr (.cells #[] 86);obtain ⟨w3,hput,ht3,k3⟩:=(hb.o.told.kept k2 (by simp) (by simp)).put ((k2.block c (z8 hpr) (by simp)).trans hpr) hne;have hMl:w.heap.size<wr.heap.size:=by obtain ⟨es,cl,hh,_⟩:=hb.o.told.heap;exact z8 hh
  have k03:zc [] w w3:=(hb.o.keep.step k2).trans k3 (fun x hx hlx=>by simp at hx;omega);have hp3:=(k03.block c hpl (by simp)).trans hp0;have c0:=ja hp3 0;have hown3:w3.ownsRow w.heap.size 3 1 u3 n (List.replicate n (int i64 y)):=by
   refine zah (zah hb.o.own k2 (by simp)) k3 fun g hg hm=> ?_;obtain rfl:=List.mem_singleton.1 hm;obtain ⟨es,cl,hh,_⟩:=hb.o.told.heap;rcases hb.o.own.2 with ⟨e,_⟩ | ⟨g,cap,cur,e,hbg,hgg,_⟩
   ·rw[e] at hg;simp[Value.ownBlock] at hg
   ·rw[e] at hg
    simp[Value.ownBlock] at hg;subst hg;rw[hh] at hgg;cases hgg
  have HT:=hid ht3;have HK:=hid k03;have HP0:=hid hp0;have HO:=hid hown3;have hn2:n+1≤2:=by omega
  rw[hcp];have HKS:Box (∀ q,q∈[p,r].take (n+1)→q<w.heap.size):=hid fun q hq=>by
   have h1:=z8 (show w.heap[p]? = _ from HPR.o.1);have h3:=z8 (show w.heap[r]? = _ from HPR.o.2);have:=List.mem_of_mem_take hq;simp at this;rcases this with rfl | rfl
   ·exact h1
   ·exact h3
  have HMS:Box (ptD (chP p r (n+1)) p<ptD (pointer (some ⟨c,0,none⟩)) p):=hid (by
   rcases (show n=0∨n=1 by omega) with rfl | rfl
   ·have:=HNE.o
    rw[hc];simp[chP,ptD,Ne.symm this]
   ·have:=HNE.o
    rw[hc]
    simp[chP,ptD,Ne.symm this])
  have HNX:=hid hnx;clear hp0 hpr hp3 ht3 k03 k2 k3 hne hcp hrow0 hnx h2 hpl hMl hown3 hc
  go_wp2_with (first
   | (at_builtin;refine wpList_append_own _ rfl _ _ 37 rfl w.heap.size 3 Tryz.t3 (int i64 0) 1 8 zmg zpz zpt zpv znS rfl (by decide) _ _ _ rfl (HO.o.alloc _) ⟨w3.heap.size,0,none⟩ 1 1 [int i64 y] rfl rfl (cell_one_new _ _ _) (fun x hx=>by simp at hx;subst hx;rfl) (by unfold maxLen;omega) (by omega) (by have:=HK.o.size;simp;omega) ?_;intro v' w5 hown5 hgrow5 hnil5;have HG5:=hid hgrow5;have HO5:=hid hown5;have K5:=hid ((HK.o.step (zc.alloc [] w3 (Obj.cells #[int i64 y] 3))).appended HO.o hgrow5 (Nat.le_refl _));have hp5:=(K5.o.block c (z8 HP0.o) (by simp)).trans HP0.o;have d0:=ja hp5 0;have d4:=ja hp5 4;clear hgrow5 hown5 hnil5 hp5))
  have hnext:Calls Tryz.prog 39 #[v] w5 fun e w6=>e=.returned (chP p r (n+1))∧zc [] w5 w6:=by
   rcases HNX.o with ⟨rfl,rfl⟩ | ⟨rfl,rfl⟩
   ·exact HN.o r _ K5.o
   ·exact HNN.o _
  refine hnext.mono ?_;rintro e w6 ⟨rfl,hk6⟩;have HK6:=hid hk6;clear hk6 hnext;go_wp2_with fail;go_roundw
  case rel=>
   refine ⟨n+1,hn2,rfl,hid ?_⟩;have hg4:=(zc.alloc [] w3 (Obj.cells #[int i64 y] 3));have hg5':(w3.alloc (Obj.cells #[int i64 y] 3)).grownBy w5 u3.ownBlock:=HG5.o;have hg5:=zc.grown (Option.toList u3.ownBlock) hg5' (fun k hk=>by rw[hk];simp);have hfar:∀ q,q∈Option.toList u3.ownBlock→w.heap.size≤q∧∃ cs T,w3.heap[q]? = some (.cells cs T (0,0)):=by
    intro q hq;rcases HO.o.2 with ⟨rfl,_⟩ | ⟨g,cap,cur,rfl,hbg,hgg,_⟩
    ·simp[Value.ownBlock] at hq
    ·simp[Value.ownBlock] at hq
     subst hq;exact ⟨hbg,cur,_,hgg⟩
   refine ⟨?_,?_,K5.o.step HK6.o⟩
   ·have e2:List.replicate (n+1) (Value.int .i64 y)=List.replicate n (int i64 y) ++ [int i64 y]:=List.replicate_succ'
    rw[e2];exact zah HO5.o HK6.o (by simp)
   ·rw[HTK.o]
    refine ((HT.o.kept hg4 (by simp) (by simp)).kept hg5 ?_ ?_).kept HK6.o (by simp) (by simp)
    ·intro hm
     obtain ⟨_,cs,T,hcs⟩:=hfar _ hm;obtain ⟨es,cl,hh,_⟩:=HT.o.heap;rw[hh] at hcs;cases hcs
    ·intro q hq hm
     have:=(hfar _ hm).1;have:=HKS.o q (by rw[HTK.o];exact hq);omega
  case measure=>exact HMS.o
end
theorem x64{z:Int}(h: -100≤z∧z≤100):b64 z:=by unfold b64;omega
theorem qF.xof{b:Nat}{z:Int}(h:w.cell? ⟨b,o,none⟩=some (int i64 z))(hz: -100≤z∧z≤100):qF w b o z:=⟨h,x64 hz⟩
theorem SlC.xnone{α:Type}{c:Nat}{R:World→Nat→Nat→α→Prop}{b:Nat}(hc:w.cell? ⟨b,o,none⟩=some (.slice none 0 0)):SlC c R w b o []:=
 ⟨_,0,hc,.inl rfl,Nat.le_refl _,by unfold maxLen;simp⟩
def prM(m:Int):Pr8:=⟨[],[([],0,0)],[],[],[fu1 0],m⟩
structure zgL (w:World) (n:Nat) (m:Int):Prop where
 h0:w.heap[n]? = some (.cells #[.slice none 0 0,int i64 0,int i64 0] 36 (0,0))
 h1:w.heap[n+1]? = some (.cells #[int i64 0,int i64 0] 34 (0,0))
 h2:w.heap[n+2]? = some (.cells #[int i64 1,int i64 0,int i64 0,int i64 0,int i64 7,.slice none 0 0] 39 (0,0))
 h3:w.heap[n+3]? = some (.cells #[.slice (some ⟨n+2,0,none⟩) 1 1,int i64 3,int i64 0,int i64 0,int i64 0] 42 (0,0))
 h4:w.heap[n+4]? = some (.cells #[int i64 0,.slice (some ⟨n+1,0,none⟩) 1 1,.slice (some ⟨n+3,0,none⟩) 1 1] 45 (0,0))
 h5:w.heap[n+5]? = some (.cells #[.slice none 0 0,.slice (some ⟨n,0,none⟩) 1 1,.slice none 0 0,.slice none 0 0,.slice (some ⟨n+4,0,none⟩) 1 1,int i64 m] 32 (0,0))
theorem zgL.quiet(h:zgL w n m)(k:zc [] w w'):zgL w' n m:=
 ⟨ze h.h0 k,ze h.h1 k,ze h.h2 k,ze h.h3 k,ze h.h4 k,ze h.h5 k⟩
theorem zpa.to(h:zpa w n 0):zgL w n 0:=⟨h.h0,h.h1,h.h2,h.h3,h.h4,h.h5⟩
theorem zgL.put(h:zgL w n m)(k:Int):zgL (w.setCell ⟨n+5,5,none⟩ (int i64 k)) n k:=by
 have e:∀ j,j<5→(w.setCell ⟨n+5,5,none⟩ (int i64 k)).heap[n+j]? = w.heap[n+j]? := fun j hj=>heap_setCell_other _ _ _ _ (by simp;omega);exact ⟨(e 0 (by omega)).trans h.h0,(e 1 (by omega)).trans h.h1,(e 2 (by omega)).trans h.h2,(e 3 (by omega)).trans h.h3,(e 4 (by omega)).trans h.h4,heap_setCell_same _ _ _ _ _ _ h.h5⟩
theorem zgL.far{q:Nat}(h:zgL w n m)(hq:n+5<q):zgL (w.setCell ⟨q,o,none⟩ v) n m:=by
 have e:∀ j,j≤5→(w.setCell ⟨q,o,none⟩ v).heap[n+j]? = w.heap[n+j]? := fun j hj=>heap_setCell_other _ _ _ _ (by simp;omega);exact ⟨(e 0 (by omega)).trans h.h0,(e 1 (by omega)).trans h.h1,(e 2 (by omega)).trans h.h2,(e 3 (by omega)).trans h.h3,(e 4 (by omega)).trans h.h4,(e 5 (by omega)).trans h.h5⟩
theorem zgL.prc(h:zgL w n m)(hm: -100≤m∧m≤100):PrC w (n+5) 0 (prM m):=by
 have i:InC w (n+2) 0 in1:=⟨qF.xof (zd h.h2 0) (by simp[in1]),qF.xof (zd h.h2 1) (by simp[in1]),qF.xof (zd h.h2 2) (by simp[in1]),qF.xof (zd h.h2 3) (by simp[in1]),qF.xof (zd h.h2 4) (by simp[in1]),SlC.xnone (zd h.h2 5)⟩;have b:BlC w (n+3) 0 (bl1 0):=⟨SlC.one (zd h.h3 0) i,qF.xof (zd h.h3 1) (by simp[bl1]),qF.xof (zd h.h3 2) (by simp[bl1]),qF.xof (zd h.h3 3) (by simp[bl1]),qF.xof (zd h.h3 4) (by simp[bl1])⟩;have t:TyC w (n+1) 0 (0,0):=⟨qF.xof (zd h.h1 0) (by simp),qF.xof (zd h.h1 1) (by simp)⟩;have f:FuC w (n+4) 0 (fu1 0):=⟨qF.xof (zd h.h4 0) (by simp[fu1]),SlC.one (zd h.h4 1) t,SlC.one (zd h.h4 2) b⟩;have s:SgC w n 0 ([],0,0):=⟨SlC.xnone (zd h.h0 0),qF.xof (zd h.h0 1) (by simp),qF.xof (zd h.h0 2) (by simp)⟩;exact ⟨SlC.xnone (zd h.h5 0),SlC.one (zd h.h5 1) s,SlC.xnone (zd h.h5 2),SlC.xnone (zd h.h5 3),SlC.one (zd h.h5 4) f,qF.xof (zd h.h5 5) hm⟩
theorem zl0:wfO (prM 0)=none:=by decide +kernel
theorem zhu:wfO (prM 9)=some (3, -1,0,0):=by decide +kernel
theorem zew:(prE (prM 0)).length≤20000:=by decide +kernel
theorem zcl:(prE (prM 9)).length≤20000:=by decide +kernel
theorem zd9(hP:zhW P)(hl:(prE P).length≤20000)(hw:wfO P=none)(h:zkp w (prE P) e w'):∃ b,e=.returned (.tuple #[pointer (some ⟨b,0,none⟩),.nilIface])∧PrC w' b 0 P∧zc [] w w':=by
 obtain ⟨hk,⟨b,Q,h1,h2,h3,h4,h5⟩ | ⟨Q,q,p,r,h1,h2,h3,h4,h5⟩ | ⟨h1,_⟩⟩:=h
 ·have:Q=P:=zcm h5.ok hP h2
  subst this;exact ⟨b,h4,h5,hk⟩
 ·have:Q=P:=zcm h2 hP h3
  subst this;rw[hw] at h4;cases h4
 ·exfalso
  rcases h1 with h1 | h1
  ·omega
  ·exact h1 P hP rfl
theorem zdp{q:Int × Int × Int × Int}(hP:zhW P)(hl:(prE P).length≤20000)(hw:wfO P=some q)(h:zkp w (prE P) e w'):∃ p r,e=.returned (.tuple #[.pointer none,Zj p])∧zb5 w' p q.1 q.2.1 q.2.2.1 q.2.2.2 (Zj r)∧zc [] w w':=by
 obtain ⟨hk,⟨b,Q,h1,h2,h3,h4,h5⟩ | ⟨Q,q',p,r,h1,h2,h3,h4,h5,h6⟩ | ⟨h1,_⟩⟩:=h
 ·have:Q=P:=zcm h5.ok hP h2
  subst this;rw[hw] at h3;cases h3
 ·have:Q=P:=zcm h2 hP h3
  subst this;rw[hw] at h4;cases h4;exact ⟨p,r,h5,h6,hk⟩
 ·exfalso
  rcases h1 with h1 | h1
  ·omega
  ·exact h1 P hP rfl
theorem zhZ{L:List UInt8}(hl:20000<L.length)(h:zkp w L e w'):∃ p,e=.returned (.tuple #[.pointer none,Zj p])∧Ji w' p 1 (-1) 0 0∧zc [] w w':=by
 obtain ⟨hk,⟨b,Q,h1,_⟩ | ⟨Q,q',p,r,h1,_⟩ | ⟨_,p,h1,h2⟩⟩:=h
 ·omega
 ·omega
 ·exact ⟨p,h1,h2,hk⟩
theorem Z0(w:World)(hg:JX w)(hT:jS w):Calls Tryz.prog 8 #[] w fun e w'=>e=.returned (.bool true)∧zc [] w w':=by
 have HG:=hid hg;have HT:=hid hT;have H1:=hid fun (w':World)=>znj w';clear hg hT;go_enter Tryz.func8,Tryz.ntmps8;go_wp2_with fail;refine (H1.o _).mono ?_;rintro e w1 ⟨rfl,o1,k1⟩;have O1:=hid o1.to;have K1:=hid k1;have hlt:=z8 o1.h5;clear o1 k1;obtain ⟨n1,hn1⟩:∃ n,n=w.heap.size:=⟨_,rfl⟩;rw[← hn1] at O1 hlt ⊢;have HN1:=hid hn1;clear hn1;go_wp2_with fail;refine (H1.o _).mono ?_;rintro e w2 ⟨rfl,o2,k2⟩;obtain ⟨n2,hn2⟩:∃ n,n=w1.heap.size:=⟨_,rfl⟩;rw[← hn2] at o2 hlt ⊢;have HN2:=hid hn2;have O12:=hid (O1.o.quiet k2);have O2:=hid o2.to;have K2:=hid (K1.o.quiet k2);have p5:=zd o2.h5 5;have z5:=zi o2.h5 5;clear o2 k2 hn2 O1 K1;go_wp2_with fail;have OA:=hid (O12.o.far (q:=n2+5) (o:=5) (v:=int i64 9) (by omega));have OB9:=hid (O2.o.put 9)
 have KZ:Box (zc [] w (w2.setCell ⟨n2+5,5,none⟩ (int i64 9))):=hid (K2.o.trans (zc.setCell [n2+5] _ _ _ (List.mem_singleton.2 rfl)) (fun x hx hl=>by
  have h8:=HN2.o;have h9:=HN1.o;simp at hx
  omega))
 clear p5 z5;generalize w2.setCell ⟨n2+5,5,none⟩ (int i64 9)=w3 at *;have hP:=OA.o.prc (by decide);have hQ:=OB9.o.prc (by decide);have HPO:=hid (And.intro (PrC.ok hP) (PrC.ok hQ));have HP:=hid hP;have HQ:=hid hQ;clear hP hQ;refine (zbX HP.o (Nat.le_trans zew (by decide))).mono ?_;rintro e w4 ⟨v,rfl,a4,c4,rfl,B4,hc4,k4⟩;have HB4:=hid B4;have K4:=hid k4;have HL4:=hid hc4;clear B4 k4 hc4;obtain ⟨N4,hN4⟩:∃ n,n=(prE (prM 0)).length:=⟨_,rfl⟩;rw[← hN4];have HN4:=hid hN4;clear hN4;go_wp2_with fail;rw[HN4.o];refine (JL HB4.o HL4.o (Nat.le_trans zew (by decide)) (HG.o.quiet (KZ.o.quiet K4.o)) (HT.o.kept (KZ.o.quiet K4.o) (by simp))).mono ?_;intro e w5 h5;obtain ⟨b5,rfl,p5,k5⟩:=zd9 HPO.o.1 zew zl0 h5;have HP5:=hid p5;have K5:=hid (K4.o.quiet k5);clear h5 p5 k5;go_wp2_with fail;refine (zbX (PrC.stays _ _ _ _ _ K5.o HQ.o) (Nat.le_trans zcl (by decide))).mono ?_;rintro e w6 ⟨v,rfl,a6,c6,rfl,B6,hc6,k6⟩;have HB6:=hid B6;have K6:=hid (K5.o.quiet k6);have HP6:=hid (PrC.stays _ _ _ _ _ k6 HP5.o);have HL6:=hid hc6;clear B6 k6 hc6 HP5;obtain ⟨N6,hN6⟩:∃ n,n=(prE (prM 9)).length:=⟨_,rfl⟩;rw[← hN6];have HN6:=hid hN6;clear hN6;go_wp2_with fail;rw[HN6.o];refine (JL HB6.o HL6.o (Nat.le_trans zcl (by decide)) (HG.o.quiet (KZ.o.quiet K6.o)) (HT.o.kept (KZ.o.quiet K6.o) (by simp))).mono ?_;intro e w7 h7;obtain ⟨p7,r7,rfl,R7,k7⟩:=zdp HPO.o.2 zcl zhu h7;have HR7:=hid R7;have HP7:=hid (PrC.stays _ _ _ _ _ k7 HP6.o);have K7:=hid (K6.o.quiet k7);clear h7 R7 k7 HP6;go_wp2_with fail;refine (Qc (PrC.stays _ _ _ _ _ K7.o HP.o) (HG.o.quiet (KZ.o.quiet K7.o)) (HT.o.kept (KZ.o.quiet K7.o) (by simp))).mono ?_;intro e w8 h8;rw[zl0] at h8;obtain ⟨rfl,k8⟩:=h8;have HP8:=hid (PrC.stays _ _ _ _ _ k8 HP7.o);have HR8:=hid (HR7.o.quiet k8);have K8:=hid (K7.o.quiet k8);clear k8 HP7 HR7;go_wp2_with fail;refine (Qc (PrC.stays _ _ _ _ _ K8.o HQ.o) (HG.o.quiet (KZ.o.quiet K8.o)) (HT.o.kept (KZ.o.quiet K8.o) (by simp))).mono ?_;intro e w9 h9;rw[zhu] at h9;obtain ⟨p9,r9,rfl,R9, -, -,k9⟩:=h9;have HP9:=hid (PrC.stays _ _ _ _ _ k9 HP8.o);have HR9:=hid (HR8.o.quiet k9);have HRX:=hid R9;have K9:=hid (K8.o.quiet k9);clear k9 HP8 HR8 R9;go_wp2_with fail;refine (Jz (HG.o.quiet (KZ.o.quiet K9.o)) HRX.o).mono ?_;rintro e w10 ⟨rfl,k10⟩;have HR10:=hid (HR9.o.quiet k10);have K10:=hid (K9.o.quiet k10);obtain ⟨fa,fp,c4',_⟩:=(PrC.stays _ _ _ _ _ k10 HP9.o).c4;have d4:w10.cell? ⟨b5,4,none⟩=some (.slice fa 1 fp):=by
  have:=c4';rw[Nat.zero_add] at this;exact this
 clear k10 c4';go_wp2_with fail;refine (Jz (HG.o.quiet (KZ.o.quiet K10.o)) HR10.o).mono ?_;rintro e w11 ⟨rfl,k11⟩;have K11:=hid (K10.o.quiet k11);clear k11 d4;go_wp2_with fail;go_ret;exact ⟨rfl,KZ.o.quiet K11.o⟩
def zhI(q:Int × Int × Int):Prop:=q=(-1,0,0)∨∃ f b i:Nat,q=((f:Int),(b:Int),(i:Int))
theorem zhI.pt(q:Nat × Nat × Nat):zhI (ptI q):=.inr ⟨q.1,q.2.1,q.2.2,rfl⟩
theorem zm3{f:Nat}{q:Int × Int × Int}(h:za6 P f=some q):zhI q:=by
 unfold za6 at h;split at h
 ·obtain ⟨z,_,rfl⟩:=Option.map_eq_some_iff.1 h
  exact zhI.pt z
 ·cases h
  exact .inl rfl
theorem zjV{q:Int × Int × Int}(h:zM P=some q):zhI q:=by
 unfold zM at h;split at h
 ·split at h
  ·next z hz=>
   cases h;obtain ⟨f,_,hf⟩:=List.exists_of_findSome?_eq_some hz;exact zm3 hf
  ·split at h
   ·cases h
   ·cases h
    exact .inl rfl
 ·cases h
  exact .inl rfl
theorem zoQ{g:Fu8→In8→Bool}{q:Int × Int × Int}(h:QM P g=some q):zhI q:=by
 unfold QM at h;split at h
 ·split at h
  ·cases h
   exact zhI.pt _
  ·split at h
   ·cases h
   ·cases h
    exact .inl rfl
 ·cases h
  exact .inl rfl
theorem zmy{q:Int × Int × Int × Int}(h:wfO P=some q):(2≤q.1∧q.1≤7)∧zhI q.2:=by
 unfold wfO at h;split at h
 ·cases h
  exact ⟨by simp,.inl rfl⟩
 ·split at h
  ·next z hz=>
   cases h;exact ⟨by simp,zjV hz⟩
  ·split at h
   ·cases h
    exact ⟨by simp,.inl rfl⟩
   ·split at h
    ·next z hz=>
     cases h;exact ⟨by simp,zoQ hz⟩
    ·split at h
     ·cases h
      exact ⟨by simp,zhI.pt _⟩
     ·split at h
      ·cases h
       exact ⟨by simp,zhI.pt _⟩
      ·cases h
end Go.Proofs.YtkgoimokgbdgfaaGreatDoor
