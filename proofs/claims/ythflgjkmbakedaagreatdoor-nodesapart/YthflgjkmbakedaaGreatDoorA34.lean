import Derived.Test.YthflgjkmbakedaaGreatDoorA31
import Derived.Test.YthflgjkmbakedaaGreatDoorA33

namespace Go.Proofs.YthflgjkmbakedaaGreatDoor
open Go.RowKit
open Go.Value (int pointer agg)
open Go.IntKind (i64)
set_option maxRecDepth 20000
set_option maxHeartbeats 8000000
variable {P:Pr8}{po:Nat}{w:World}
def ZG(o:Option (Int × Int × Int × Int))(w:World)(e:Ending)(w':World):Prop:=e=.returned (.tuple #[int i64 (o.getD (0, -1,0,0)).1,agg #[int i64 (o.getD (0, -1,0,0)).2.1,int i64 (o.getD (0, -1,0,0)).2.2.1,int i64 (o.getD (0, -1,0,0)).2.2.2]])∧zc [] w w'
theorem ZG.no{o:Option (Int × Int × Int × Int)}{w':World}{y a b c:Int}(h:o=some (y,a,b,c))(k:zc [] w w'):ZG o w (.returned (.tuple #[int i64 y,agg #[int i64 a,int i64 b,int i64 c]])) w':=by
 subst h;exact ⟨rfl,k⟩
theorem ZG.yes{o:Option (Int × Int × Int × Int)}{w':World}(h:o=none)(k:zc [] w w'):ZG o w (.returned (.tuple #[int i64 0,agg #[int i64 (-1),int i64 0,int i64 0]])) w':=by
 subst h;exact ⟨rfl,k⟩
theorem zel{pb:Nat}(h:PrC w pb po P)(hs:qJ P=true→Sm8 P):Calls Tryz.prog 52 #[pointer (some ⟨pb,po,none⟩)] w (ZG (wfO P) w):=by
 have ka:=zc.alloc [] w (.cells #[int i64 0,int i64 0,int i64 0] 99);have HN0:=hid (zh w (.cells #[int i64 0,int i64 0,int i64 0] 99));have FIN:=hid fun (W':World) (u0 u1 u2:Value) (k:zc [] (w.alloc (.cells #[int i64 0,int i64 0,int i64 0] 99)) W')=>(ka.quiet k).trans (jc W' w.heap.size u0 u1 u2) (fun x hx hl=>by simp at hx;omega);have HP:=hid (PrC.stays _ _ _ _ _ ka h);have HS:=hid hs;have hbx:w.heap.size<(w.alloc (.cells #[int i64 0,int i64 0,int i64 0] 99)).heap.size:=by rw[World.size_alloc];omega
 have HWF:Box (wfO P=(if qJ P=false then some (2, -1,0,0) else
  match zB P with
  | some q=>some (3,q)
  | none=>if zaQ P=false then some (7, -1,0,0) else
   match ZW P (Zv P) with
   | some q=>some (4,q)
   | none=>match (bks P).find? (jq P) with
    | some q=>some (6,ptI q)
    | none=>match (pts P).find? (za0 P) with
     | some q=>some (5,ptI q)
     | none=>none:Option (Int × Int × Int × Int))):=hid rfl
 clear h hs ka;go_enter Tryz.func52,Tryz.ntmps52;go_upto_region 1 with fail;generalize w.heap.size=bx at *;generalize w.alloc (.cells #[int i64 0,int i64 0,int i64 0] 99)=W at *;have HBX:=hid hbx;clear hbx;go_wp2_with fail;refine (zak HP.o).mono ?_;rintro e w1 ⟨rfl,k1⟩;have K1:=hid k1;clear k1;cases hb:qJ P with
 | false=>
  have HO:Box (wfO P=some (2, -1,0,0)):=hid (by rw[HWF.o,if_pos hb]);clear hb;go_wp2_with (go_at_call 75;refine (zV _).mono ?_;rintro e w6 ⟨rfl,k6⟩;have hb6:=ze HN0.o (K1.o.quiet k6);have K6:=hid (K1.o.quiet k6);have y0:=zi hb6 0;have y1:=zi hb6 1;have y2:=zi hb6 2;have x0:=zd hb6 0;have x1:=zd hb6 1;have x2:=zd hb6 2;have HB6:=hid hb6;clear hb6 k6);have h3:=jZ HB6.o (int i64 (-1)) (int i64 0) (int i64 0);have e0:=zd h3 0;have e1:=zd h3 1;have e2:=zd h3 2;exact bodyPost_ret (v:=.tuple #[int i64 2,agg #[int i64 (-1),int i64 0,int i64 0]]) (by simp[results,Tryz.results52,go_sem,e0,e1,e2]) rfl (ZG.no HO.o (FIN.o _ _ _ _ K6.o))
 | true=>
 have HBN:=hid hb;have HO1:Box (∀ q,zB P=some q→wfO P=some (3,q)):=hid fun q hq=>by rw[HWF.o,if_neg (by rw[hb];simp),hq]
 clear hb;go_wp2_with fail;refine (zea (PrC.stays _ _ _ _ _ K1.o HP.o) (Jp HBN.o) (Zy (ZE HBN.o))).mono ?_;intro e w2 h2;cases hnm:zB P with
 | some q=>
  obtain ⟨qa,qb,qc⟩:=q;have h2':e=.returned (.tuple #[agg #[int i64 qa,int i64 qb,int i64 qc],.bool false])∧zc [] w1 w2:=by
   unfold jW at h2;rw[hnm] at h2;exact h2
  obtain ⟨rfl,k2⟩:=h2';have HO:Box (wfO P=some (3,qa,qb,qc)):=hid (HO1.o _ hnm);have K2:=hid (K1.o.quiet k2);clear h2 k2 hnm;go_upto_region 4 with fail;have kb:=zc.alloc [] w2 (.cells #[int i64 qa,int i64 qb,int i64 qc] 99);have hq4:=zh w2 (.cells #[int i64 qa,int i64 qb,int i64 qc] 99);have K3:=hid (K2.o.quiet kb);clear kb;generalize w2.alloc (.cells #[int i64 qa,int i64 qb,int i64 qc] 99)=w3 at *;generalize w2.heap.size=q4 at *;have hb6:=ze HN0.o K3.o;have K6:=hid K3.o;have y0:=zi hb6 0;have y1:=zi hb6 1;have y2:=zi hb6 2;have x0:=zd hb6 0;have x1:=zd hb6 1;have x2:=zd hb6 2;have v0:=zd hq4 0;have v1:=zd hq4 1;have v2:=zd hq4 2;have HB6:=hid hb6;clear hb6;go_wp2_with fail
  go_region
  all_goals
   have h3:=ze (jZ HB6.o (int i64 qa) (int i64 qb) (int i64 qc)) (zc.drew [] _);have e0:=zd h3 0;have e1:=zd h3 1;have e2:=zd h3 2;go_wp2_with fail;exact bodyPost_ret (v:=.tuple #[int i64 3,agg #[int i64 qa,int i64 qb,int i64 qc]]) (by simp[results,Tryz.results52,go_sem,e0,e1,e2]) rfl (ZG.no HO.o ((FIN.o _ _ _ _ K6.o).quiet (zc.drew [] _)))
 | none=>
 have h2':e=.returned (.tuple #[agg #[int i64 (-1),int i64 0,int i64 0],.bool true])∧zc [] w1 w2:=by
  unfold jW at h2;rw[hnm] at h2;exact h2
 obtain ⟨rfl,k2⟩:=h2';have HRT:Box (Rt P):=hid ⟨HBN.o,HS.o HBN.o,hnm⟩
 have HO2:Box (wfO P=(if zaQ P=false then some (7, -1,0,0) else
   match ZW P (Zv P) with
   | some q=>some (4,q)
   | none=>match (bks P).find? (jq P) with
    | some q=>some (6,ptI q)
    | none=>match (pts P).find? (za0 P) with
     | some q=>some (5,ptI q)
     | none=>none:Option (Int × Int × Int × Int))):=hid (by rw[HWF.o,if_neg (by rw[HBN.o];simp),hnm])
 have K2:=hid (K1.o.quiet k2);have HMS:=hid (zh3 hnm);clear h2 k2 hnm HWF HO1;go_upto_region 4 with fail;have kb:=zc.alloc [] w2 (.cells #[int i64 (-1),int i64 0,int i64 0] 99);have HQ4:=hid (zh w2 (.cells #[int i64 (-1),int i64 0,int i64 0] 99));have K3:=hid (K2.o.quiet kb);have hlw:W.heap.size≤w2.heap.size:=K2.o.size;clear kb;generalize w2.alloc (.cells #[int i64 (-1),int i64 0,int i64 0] 99)=w3 at *;generalize w2.heap.size=q4 at *;have STO:=hid fun (W':World) (u0 u1 u2:Value) (k:zc [] W W')=>k.trans (jc W' q4 u0 u1 u2) (fun x hx hl=>by simp at hx;omega);clear hlw;go_wp2_with fail;refine (zi9 (PrC.stays _ _ _ _ _ K3.o HP.o) (zaC HRT.o.bnd HRT.o.nm)).mono ?_;rintro e w4 ⟨rfl,k4⟩;rw[HMS.o];have K4:=hid (K3.o.quiet k4);have HQ5:=hid (ze HQ4.o k4);clear k4 HQ4;cases hm:zaQ P with
 | false=>
  have HO:Box (wfO P=some (7, -1,0,0)):=hid (by rw[HO2.o,if_pos hm]);clear hm;go_wp2_with (go_at_call 75;refine (zV _).mono ?_;rintro e w6 ⟨rfl,k6⟩;have hb6:=ze HN0.o (K4.o.quiet k6);have K6:=hid (K4.o.quiet k6);have y0:=zi hb6 0;have y1:=zi hb6 1;have y2:=zi hb6 2;have x0:=zd hb6 0;have x1:=zd hb6 1;have x2:=zd hb6 2;have HB6:=hid hb6;clear hb6 k6);have h3:=jZ HB6.o (int i64 (-1)) (int i64 0) (int i64 0);have e0:=zd h3 0;have e1:=zd h3 1;have e2:=zd h3 2;exact bodyPost_ret (v:=.tuple #[int i64 7,agg #[int i64 (-1),int i64 0,int i64 0]]) (by simp[results,Tryz.results52,go_sem,e0,e1,e2]) rfl (ZG.no HO.o (FIN.o _ _ _ _ K6.o))
 | true=>
 have HO3:Box (wfO P=(match ZW P (Zv P) with
   | some q=>some (4,q)
   | none=>match (bks P).find? (jq P) with
    | some q=>some (6,ptI q)
    | none=>match (pts P).find? (za0 P) with
     | some q=>some (5,ptI q)
     | none=>none:Option (Int × Int × Int × Int))):=hid (by rw[HO2.o,if_neg (by rw[hm];simp)])
 clear hm HO2;go_wp2_with fail;refine (zdU (PrC.stays _ _ _ _ _ K4.o HP.o) HRT.o).mono ?_;rintro e w5 ⟨rfl,k5⟩;have K5:=hid (K4.o.quiet k5);have hq5:=ze HQ5.o k5;have HQ6:=hid hq5;have z0:=zi hq5 0;have z1:=zi hq5 1;have z2:=zi hq5 2;have u0:=zd hq5 0;have u1:=zd hq5 1;have u2:=zd hq5 2;clear k5 HQ5 hq5;cases hc:ZW P (Zv P) with
 | some q=>
  obtain ⟨qa,qb,qc⟩:=q;have HO:Box (wfO P=some (4,qa,qb,qc)):=hid (by rw[HO3.o,hc]);clear hc;simp only[Option.getD_some,Option.isNone_some];go_upto_region 9 with fail;have h4:=jZ HQ6.o (int i64 qa) (int i64 qb) (int i64 qc);have K5b:=hid (STO.o w5 (int i64 qa) (int i64 qb) (int i64 qc) K5.o);clear z0 z1 z2 u0 u1 u2;generalize ((w5.setCell ⟨q4,0,none⟩ (int i64 qa)).setCell ⟨q4,1,none⟩ (int i64 qb)).setCell ⟨q4,2,none⟩ (int i64 qc)=w5b at *;have hb6:=ze HN0.o K5b.o;have K6:=hid K5b.o;have y0:=zi hb6 0;have y1:=zi hb6 1;have y2:=zi hb6 2;have x0:=zd hb6 0;have x1:=zd hb6 1;have x2:=zd hb6 2;have v0:=zd h4 0;have v1:=zd h4 1;have v2:=zd h4 2;have HB6:=hid hb6;clear hb6;go_wp2_with fail
  go_region
  all_goals
   have h3:=ze (jZ HB6.o (int i64 qa) (int i64 qb) (int i64 qc)) (zc.drew [] _);have e0:=zd h3 0;have e1:=zd h3 1;have e2:=zd h3 2;go_wp2_with fail;exact bodyPost_ret (v:=.tuple #[int i64 4,agg #[int i64 qa,int i64 qb,int i64 qc]]) (by simp[results,Tryz.results52,go_sem,e0,e1,e2]) rfl (ZG.no HO.o ((FIN.o _ _ _ _ K6.o).quiet (zc.drew [] _)))
 | none=>
 have HO4:Box (wfO P=(match (bks P).find? (jq P) with
    | some q=>some (6,ptI q)
    | none=>match (pts P).find? (za0 P) with
     | some q=>some (5,ptI q)
     | none=>none:Option (Int × Int × Int × Int))):=hid (by rw[HO3.o,hc])
 clear hc HO3;simp only[Option.getD_none,Option.isNone_none];go_upto_region 9 with fail;have HQ7:=hid (jZ HQ6.o (int i64 (-1)) (int i64 0) (int i64 0));have K5b:=hid (STO.o w5 (int i64 (-1)) (int i64 0) (int i64 0) K5.o);clear z0 z1 z2 u0 u1 u2 HQ6;generalize ((w5.setCell ⟨q4,0,none⟩ (int i64 (-1))).setCell ⟨q4,1,none⟩ (int i64 0)).setCell ⟨q4,2,none⟩ (int i64 0)=w5b at *;go_wp2_with fail;refine (ze3 (PrC.stays _ _ _ _ _ K5b.o HP.o) (fun f hf=>HRT.o.ends hf) HRT.o.sz.bk HRT.o.sz.fn).mono ?_;intro e w6 h6;have hq5:∀ w',zc [] w5b w'→w'.heap[q4]? = some (.cells #[int i64 (-1),int i64 0,int i64 0] 99 (0,0)):=fun w' k=>ze HQ7.o k;cases hc:(bks P).find? (jq P) with
 | some q=>
  obtain ⟨f,b,i⟩:=q;rw[hc] at h6;obtain ⟨rfl,k6⟩:=h6;have HO:Box (wfO P=some (6,(f:Int),(b:Int),(i:Int))):=hid (by rw[HO4.o,hc];rfl);have K6:=hid (K5b.o.quiet k6);have hq6:=hq5 _ k6;have HQ8:=hid hq6;have z0:=zi hq6 0;have z1:=zi hq6 1;have z2:=zi hq6 2;have u0:=zd hq6 0;have u1:=zd hq6 1;have u2:=zd hq6 2;clear hc k6 hq6 hq5;go_upto_region 12 with fail;have h4:=jZ HQ8.o (int i64 (f:Int)) (int i64 (b:Int)) (int i64 (i:Int));have K6b:=hid (STO.o w6 (int i64 (f:Int)) (int i64 (b:Int)) (int i64 (i:Int)) K6.o);clear z0 z1 z2 u0 u1 u2;generalize ((w6.setCell ⟨q4,0,none⟩ (int i64 (f:Int))).setCell ⟨q4,1,none⟩ (int i64 (b:Int))).setCell ⟨q4,2,none⟩ (int i64 (i:Int))=w6b at *;have hb6:=ze HN0.o K6b.o;have K6:=hid K6b.o;have y0:=zi hb6 0;have y1:=zi hb6 1;have y2:=zi hb6 2;have x0:=zd hb6 0;have x1:=zd hb6 1;have x2:=zd hb6 2;have v0:=zd h4 0;have v1:=zd h4 1;have v2:=zd h4 2;have HB6:=hid hb6;clear hb6;go_wp2_with fail
  go_region
  all_goals
   have h3:=ze (jZ HB6.o (int i64 (f:Int)) (int i64 (b:Int)) (int i64 (i:Int))) (zc.drew [] _);have e0:=zd h3 0;have e1:=zd h3 1;have e2:=zd h3 2;go_wp2_with fail;exact bodyPost_ret (v:=.tuple #[int i64 6,agg #[int i64 (f:Int),int i64 (b:Int),int i64 (i:Int)]]) (by simp[results,Tryz.results52,go_sem,e0,e1,e2]) rfl (ZG.no HO.o ((FIN.o _ _ _ _ K6.o).quiet (zc.drew [] _)))
 | none=>
 rw[hc] at h6;obtain ⟨rfl,k6⟩:=h6
 have HO5:Box (wfO P=(match (pts P).find? (za0 P) with
     | some q=>some (5,ptI q)
     | none=>none:Option (Int × Int × Int × Int))):=hid (by rw[HO4.o,hc])
 have K6:=hid (K5b.o.quiet k6);have hq6:=hq5 _ k6;have HQ8:=hid hq6;have z0:=zi hq6 0;have z1:=zi hq6 1;have z2:=zi hq6 2;have u0:=zd hq6 0;have u1:=zd hq6 1;have u2:=zd hq6 2;clear hc k6 hq6 hq5 HO4;go_upto_region 12 with fail;have HQ9:=hid (jZ HQ8.o (int i64 (-1)) (int i64 0) (int i64 0));have K6b:=hid (STO.o w6 (int i64 (-1)) (int i64 0) (int i64 0) K6.o);clear z0 z1 z2 u0 u1 u2;generalize ((w6.setCell ⟨q4,0,none⟩ (int i64 (-1))).setCell ⟨q4,1,none⟩ (int i64 0)).setCell ⟨q4,2,none⟩ (int i64 0)=w6b at *;go_wp2_with fail;refine (zdb (PrC.stays _ _ _ _ _ K6b.o HP.o) HRT.o.sm HRT.o.few HRT.o.nm HRT.o.sz.rg).mono ?_;intro e w7 h7;rw[← zg4 HRT.o.nm HRT.o.sz.bk HRT.o.sz.rg] at h7;have hq6:∀ w',zc [] w6b w'→w'.heap[q4]? = some (.cells #[int i64 (-1),int i64 0,int i64 0] 99 (0,0)):=fun w' k=>ze HQ9.o k;cases hc:(pts P).find? (za0 P) with
 | some q=>
  obtain ⟨f,b,i⟩:=q;rw[hc] at h7;obtain ⟨rfl,k7⟩:=h7;have HO:Box (wfO P=some (5,(f:Int),(b:Int),(i:Int))):=hid (by rw[HO5.o,hc];rfl);have K7:=hid (K6b.o.quiet k7);have hq7:=hq6 _ k7;have HQA:=hid hq7;have z0:=zi hq7 0;have z1:=zi hq7 1;have z2:=zi hq7 2;have u0:=zd hq7 0;have u1:=zd hq7 1;have u2:=zd hq7 2;clear hc k7 hq7 hq6;go_upto_region 15 with fail;have h4:=jZ HQA.o (int i64 (f:Int)) (int i64 (b:Int)) (int i64 (i:Int));have K7b:=hid (STO.o w7 (int i64 (f:Int)) (int i64 (b:Int)) (int i64 (i:Int)) K7.o);clear z0 z1 z2 u0 u1 u2;generalize ((w7.setCell ⟨q4,0,none⟩ (int i64 (f:Int))).setCell ⟨q4,1,none⟩ (int i64 (b:Int))).setCell ⟨q4,2,none⟩ (int i64 (i:Int))=w7b at *;have hb6:=ze HN0.o K7b.o;have K6:=hid K7b.o;have y0:=zi hb6 0;have y1:=zi hb6 1;have y2:=zi hb6 2;have x0:=zd hb6 0;have x1:=zd hb6 1;have x2:=zd hb6 2;have v0:=zd h4 0;have v1:=zd h4 1;have v2:=zd h4 2;have HB6:=hid hb6;clear hb6;go_wp2_with fail
  go_region
  all_goals
   have h3:=ze (jZ HB6.o (int i64 (f:Int)) (int i64 (b:Int)) (int i64 (i:Int))) (zc.drew [] _);have e0:=zd h3 0;have e1:=zd h3 1;have e2:=zd h3 2;go_wp2_with fail;exact bodyPost_ret (v:=.tuple #[int i64 5,agg #[int i64 (f:Int),int i64 (b:Int),int i64 (i:Int)]]) (by simp[results,Tryz.results52,go_sem,e0,e1,e2]) rfl (ZG.no HO.o ((FIN.o _ _ _ _ K6.o).quiet (zc.drew [] _)))
 | none=>
  rw[hc] at h7;obtain ⟨rfl,k7⟩:=h7;have HO:Box (wfO P=none):=hid (by rw[HO5.o,hc]);have K7:=hid (K6b.o.quiet k7);have hq7:=hq6 _ k7;have HQA:=hid hq7;have z0:=zi hq7 0;have z1:=zi hq7 1;have z2:=zi hq7 2;have u0:=zd hq7 0;have u1:=zd hq7 1;have u2:=zd hq7 2;clear hc k7 hq7 hq6;go_upto_region 15 with fail;have K7b:=hid (STO.o w7 (int i64 (-1)) (int i64 0) (int i64 0) K7.o);clear z0 z1 z2 u0 u1 u2;generalize ((w7.setCell ⟨q4,0,none⟩ (int i64 (-1))).setCell ⟨q4,1,none⟩ (int i64 0)).setCell ⟨q4,2,none⟩ (int i64 0)=w7b at *;go_wp2_with (go_at_call 75;refine (zV _).mono ?_;rintro e w6 ⟨rfl,k6⟩;have hb6:=ze HN0.o (K7b.o.quiet k6);have K6:=hid (K7b.o.quiet k6);have y0:=zi hb6 0;have y1:=zi hb6 1;have y2:=zi hb6 2;have x0:=zd hb6 0;have x1:=zd hb6 1;have x2:=zd hb6 2;have HB6:=hid hb6;clear hb6 k6);have h3:=jZ HB6.o (int i64 (-1)) (int i64 0) (int i64 0);have e0:=zd h3 0;have e1:=zd h3 1;have e2:=zd h3 2;exact bodyPost_ret (v:=.tuple #[int i64 0,agg #[int i64 (-1),int i64 0,int i64 0]]) (by simp[results,Tryz.results52,go_sem,e0,e1,e2]) rfl (ZG.yes HO.o (FIN.o _ _ _ _ K6.o))
theorem zjL{q:Int × Int × Int × Int}(h:wfO P=some q):q.1≠0:=by
 unfold wfO at h;split at h
 ·obtain rfl:=Option.some.inj h
  decide
 ·split at h
  ·obtain rfl:=Option.some.inj h
   show (3:Int)≠0;decide
  ·split at h
   ·obtain rfl:=Option.some.inj h
    decide
   ·split at h
    ·obtain rfl:=Option.some.inj h
     show (4:Int)≠0;decide
    ·split at h
     ·obtain rfl:=Option.some.inj h
      show (6:Int)≠0;decide
     ·split at h
      ·obtain rfl:=Option.some.inj h
       show (5:Int)≠0;decide
      ·cases h
theorem zff(w:World):Calls Tryz.prog 13 #[.pointer none] w fun e w'=>e=.returned (.bool false)∧zc [] w w':=by
 go_enter Tryz.func13,Tryz.ntmps13;go_wp2_with fail;go_ret;exact ⟨rfl,zc.refl _ _⟩
theorem zeU{pb:Nat}(h:PrC w pb po P):Calls Tryz.prog 13 #[pointer (some ⟨pb,po,none⟩)] w fun e w'=>∃ s,e=.returned (.bool s)∧(s=true→qJ P=true∧SmE P∧wfO P=none)∧(qJ P=true→SmE P→wfO P=none→s=true)∧zc [] w w':=by
 have H:=hid h;have HB:=hid (zak h);clear h;go_enter Tryz.func13,Tryz.ntmps13;go_wp2_with fail;refine HB.o.mono ?_;rintro e w1 ⟨rfl,k1⟩;have K1:=hid k1;clear k1 HB;cases hb:qJ P with
 | false=>
  go_wp2_with fail;go_ret;exact ⟨false,rfl,(fun e=>absurd e (by decide)),(fun e=>by first | exact absurd e (by decide) | exact absurd (hb.symm.trans e) (by decide)),K1.o⟩
 | true=>
  go_wp2_with fail;refine (zcJ (PrC.stays _ _ _ _ _ K1.o H.o)).mono ?_;rintro e w2 ⟨s,rfl,rfl,s1,s2⟩;cases s with
  | false=>
   have NS:=hid s2;clear s1 s2;go_wp2_with fail;go_ret;exact ⟨false,rfl,(fun e=>absurd e (by decide)),(fun _ h=>absurd (NS.o h) (by decide)),K1.o⟩
  | true=>
   have SE:=hid (s1 rfl);clear s1 s2;go_wp2_with fail;refine (zel (PrC.stays _ _ _ _ _ K1.o H.o) (fun _=>SE.o.sm)).mono ?_;rintro e w3 ⟨rfl,k3⟩;have K3:=hid (K1.o.quiet k3);clear k3;cases ho:wfO P with
   | none=>
    simp only[Option.getD_none];go_wp2_with fail;go_ret;exact ⟨true,rfl,(fun _=>⟨by first | rfl | exact hb,SE.o,by first | rfl | exact ho⟩),(fun _ _ _=>rfl),K3.o.quiet (zc.alloc [] _ _)⟩
   | some q=>
    obtain ⟨y,f,b,i⟩:=q;have hy:(y == 0)=false:=by have:=zjL ho;simp at this;simp[this]
    simp only[Option.getD_some];go_wp2_with fail;go_ret;exact ⟨false,rfl,(fun e=>absurd e (by decide)),(fun _ _ e=>by first | cases e | exact absurd (ho.symm.trans e) (by simp)),K3.o.quiet (zc.alloc [] _ _)⟩
structure OkN (P:Pr8):Prop where
 ok:wfO P=none
 W:Wff P
 s8:Sm8 P
 s10:zcu P
 sn:SmN P
theorem zlY(ok:wfO P=none)(h:SmE P):OkN P:=by
 have W:=zfy ok;refine ⟨ok,W,h.sm,Zy (ZE (zda ok)),⟨h.sm.fn,h.sm.pt,fun f hf=>W.regs hf,fun r=> ?_⟩⟩;unfold zcx;by_cases hr:r.toNat<P.recs.length
 ·exact W.short.r1 _ (List.mem_of_getElem? (zg hr))
 ·rw[List.getD_eq_getElem?_getD,List.getElem?_eq_none (by omega)]
  exact Nat.zero_le _
theorem zgA{k:Nat}(hf:isF P (k:Int)=true):zao P (((qG P).length:Int)+(k:Int))=((k:Int),false):=by
 unfold zao;rw[if_neg (by omega),if_neg (by omega),show ((qG P).length:Int)+(k:Int) - ((qG P).length:Int)=(k:Int) by omega,if_pos hf]
theorem zdZ{k:Nat}{s:St}(h:(qG P)[k]? = some s):zao P (k:Int)=((s.p:Int),true):=by
 have hk:=(List.getElem?_eq_some_iff.1 h).1;unfold zao;rw[if_neg (by omega),if_pos (by omega),Int.toNat_natCast,List.getD_eq_getElem?_getD,h];rfl
theorem zhl(P:Pr8):zao P (((qG P).length:Int)+(P.funcs.length:Int))=(-1,false):=by
 unfold zao;rw[if_neg (by omega),if_neg (by omega),if_neg];unfold isF;rw[decide_eq_false (p:=_<(P.funcs.length:Int)) (by omega),Bool.and_false];decide
theorem zb9(w:World)(hg:zeP w)(hT:Ze w)(a b:Int):Calls Tryz.prog 7 #[.pointer none,int i64 a,int i64 b] w fun e w'=>e=.returned (.bool true)∧zc [] w w':=by
 have HG:=hid hg;have HT:=hid hT;clear hg hT;go_enter Tryz.func7,Tryz.ntmps7;go_wp2_with fail;refine (zal w HG.o HT.o).mono ?_;rintro e w1 ⟨rfl,k1⟩;have K1:=hid k1;clear k1;go_wp2_with fail;refine (zff w1).mono ?_;rintro e w2 ⟨rfl,k2⟩;have K2:=hid (K1.o.quiet k2);clear k2;go_wp2_with fail;go_ret;exact ⟨rfl,K2.o⟩
theorem zkO{v:Value}{B:Nat}{l:List Nat}(h:w.ownsRow B 3 1 v l.length (jE l)):∃ a cp,v=.slice a (l.map fun n:Nat=>(n:Int)).length cp∧zw w a (l.map fun n:Nat=>(n:Int)):=by
 have hb:=h;rcases h.2 with ⟨rfl,h0⟩ | ⟨g,cap,cur,rfl,_⟩
 ·have e:l=[]:=List.eq_nil_of_length_eq_zero h0
  subst e;exact ⟨none,0,rfl,.inl rfl⟩
 ·refine ⟨_,cap,by rw[List.length_map],.inr ⟨g,0,rfl,fun i hi=> ?_⟩⟩
  rw[List.length_map] at hi;rw[Nat.zero_add,hb.cellAt _ (by omega)];unfold jE;rw[List.getElem?_map,List.getElem?_eq_getElem hi,List.getD_eq_getElem?_getD,List.getElem?_map,List.getElem?_eq_getElem hi];rfl
theorem RtC.sites{rt pp:Nat}(h:RtC w rt pp po P):∃ a cp,w.cell? ⟨rt,1,none⟩=some (.slice a ((stP P).map fun n:Nat=>(n:Int)).length cp)∧zw w a ((stP P).map fun n:Nat=>(n:Int)):=by
 obtain ⟨a,cp,h1,h2⟩:=h.c1;have hl:((stP P).map fun n:Nat=>(n:Int)).length=(qG P).length:=by unfold stP;rw[List.length_map,List.length_map]
 refine ⟨a,cp,by rw[hl];exact h1,?_⟩;by_cases h0:(qG P).length=0
 ·exact .inl (List.eq_nil_of_length_eq_zero (by omega))
 ·obtain ⟨b,rfl,_⟩:=h2 0 _ (List.getElem?_eq_getElem (by omega))
  refine .inr ⟨b,0,rfl,fun i hi=> ?_⟩;rw[hl] at hi;obtain ⟨b',e,hc⟩:=h2 i _ (List.getElem?_eq_getElem hi);simp at e;subst e;rw[Nat.zero_add,hc,List.getD_eq_getElem?_getD,List.getElem?_map];unfold stP;rw[List.getElem?_map,List.getElem?_eq_getElem hi];rfl
theorem zbM{pp:Nat}(h:PrC w pp po P)(hg:zeP w)(hT:Ze w)(a b:Int):Calls Tryz.prog 7 #[pointer (some ⟨pp,po,none⟩),int i64 a,int i64 b] w fun e w'=>e=.returned (.bool true)∧zc [] w w':=by
 have HG:=hid hg;have HT:=hid hT;have HP:=hid h;clear h hg hT;go_enter Tryz.func7,Tryz.ntmps7;go_wp2_with fail;refine (zal w HG.o HT.o).mono ?_;rintro e w1 ⟨rfl,k1⟩;have K1:=hid k1;clear k1;go_wp2_with fail;refine (zeU (PrC.stays _ _ _ _ _ K1.o HP.o)).mono ?_;rintro e w2 ⟨s,rfl,hs, -,k2⟩;have K2:=hid (K1.o.quiet k2);clear k2 K1;cases s with
 | false=>
  clear hs;go_wp2_with fail;go_ret;exact ⟨rfl,K2.o⟩
 | true=>
  obtain ⟨-,hsm,hok⟩:=hs rfl;have OK:=hid (zlY hok hsm);clear hs hsm hok;go_wp2_with fail;refine (zd4 (PrC.stays _ _ _ _ _ K2.o HP.o) (HG.o.quiet K2.o) (HT.o.kept K2.o (by simp)) OK.o.ok OK.o.sn OK.o.s10).mono ?_;rintro e w3 ⟨tb,rfl,t3,k3⟩;have T3:=hid t3;have K3:=hid (K2.o.quiet k3);clear t3 k3 K2;go_wp2_with fail;refine (zeM (PrC.stays _ _ _ _ _ K3.o HP.o) OK.o.s8 OK.o.W OK.o.sn).mono ?_;rintro e w4 ⟨rt,rfl,r4,k4⟩;have T4:=hid (T3.o.quiet k4);have R4:=hid r4;have K4:=hid (K3.o.quiet k4);clear r4 k4 K3 T3;have HPW:=hid (PrC.stays _ _ _ _ _ K4.o HP.o);have C1:=hid fun (w':World) (k:zc [] w4 w')=>zdL (T4.o.quiet k);obtain ⟨L,hL⟩:∃ L:List Int,L=(stP P).map fun n:Nat=>(n:Int):=⟨_,rfl⟩;have HLL:Box (L.length≤1000000):=hid (by rw[hL,List.length_map];unfold stP;rw[List.length_map];exact Nat.le_trans OK.o.sn.st (by decide));have CT:Box (∀ w',zc [] w4 w'→Calls Tryz.prog 37 #[pointer (some ⟨tb,0,none⟩)] w' fun e w''=>zc [] w' w''∧∃ va vcp,e=.returned (.slice va L.length vcp)∧zw w'' va L):=hid fun w' k=>(za2 (T4.o.quiet k) OK.o.sn).mono fun e w'' ⟨k',v,e1,ho⟩=>by
   obtain ⟨va,vcp,e2,hva⟩:=zkO ho;rw[hL];exact ⟨k',va,vcp,by rw[e1,e2],hva⟩
  have RS:=R4.o.sites;rw[← hL] at RS;clear hL;obtain ⟨sa,scp,r1,hsa⟩:=RS;have HSA:=hid hsa;clear hsa;have CR:=hid fun (w':World) (k:zc [] w4 w') (f r:Int)=>zaN (T4.o.quiet k) OK.o.sn f r;have DR:=hid fun (w':World) (k:zc [] w4 w') (f r:Int)=>zjb (R4.o.quiet k) (PrC.stays _ _ _ _ _ k HPW.o) OK.o.sn f r;have CE:=hid fun (w':World) (k:zc [] w4 w') (f:Int)=>zb2 (T4.o.quiet k) OK.o.sn f;have DE:=hid fun (w':World) (k:zc [] w4 w') (f:Int)=>ziC (R4.o.quiet k) (PrC.stays _ _ _ _ _ k HPW.o) OK.o.sn f;have CF:=hid fun (w':World) (k:zc [] w4 w') (f:Int)=>zdo (T4.o.quiet k) OK.o.sn f;have DF:=hid fun (w':World) (k:zc [] w4 w') (f:Int)=>ziM (R4.o.quiet k) OK.o.sn f;have CC:=hid fun (w':World) (k:zc [] w4 w') (f:Int)=>zi1 (T4.o.quiet k) OK.o.sn f;have DC:=hid fun (w':World) (k:zc [] w4 w') (f:Int)=>zdu (PrC.stays _ _ _ _ _ k HPW.o) OK.o.s8 OK.o.W f;have CL:=hid fun (w':World) (k:zc [] w4 w') (s f:Int)=>zfu (T4.o.quiet k) OK.o.sn s f;have DL:=hid fun (w':World) (k:zc [] w4 w') (s f:Int)=>zf1 (R4.o.quiet k) (PrC.stays _ _ _ _ _ k HPW.o) OK.o.W OK.o.sn s f;have CO:=hid fun (w':World) (k:zc [] w4 w') (o:Int) (ho:o≤9223372036854775807)=>ziV (T4.o.quiet k) OK.o.sn o ho;go_upto_region 8 with fail
  go_cut [98] (fun c98 wz=>c98=.bool false∧Box (zc [] w4 wz))
  case first=>
   as_aux_lemma=>
    have r5:=R4.o.c5;generalize hn0:(zaj P:Int)=nn at *;clear hn0;have kq:zc [] w4 w4.drew:=zc.drew _ _;simp only[List.append_eq,List.cons_append,List.nil_append]
    go_region_held3 (fun w'=>w'.cell? ⟨rt,5,none⟩=some (int i64 nn)∧w'.cell? ⟨rt,1,none⟩=some (.slice sa L.length scp)) (go_keep) (first
     | (go_at_call 35;refine (C1.o _ kq).mono ?_;rintro e wa ⟨rfl,rfl⟩)
     | (go_at_call 37;refine (CT.o _ kq).mono ?_;rintro e wa ⟨ka,va,vcp,rfl,hva⟩;have kq:=kq.quiet ka;have HEQ:=hid (zmg va sa vcp scp L L wa hva (HSA.o.kept kq (fun _ _ _=>by simp)) HLL.o);have f5:=za kq r5;have f1:=za kq r1;rw[decide_eq_true rfl] at HEQ;clear ka hva)
     | (go_at_call 36;refine HEQ.o.mono ?_;rintro e wa ⟨rfl,m7,hw7⟩;have kq:=kq.quiet (zc.drewN [] _ m7);rw[← hw7] at kq;have f5:=za kq r5;have f1:=za kq r1;clear hw7)
     | (go_at_call 38;refine (CR.o _ kq _ _).mono ?_;rintro e wa ⟨rfl,ka⟩;have kq:=kq.quiet ka;have f5:=za kq r5;have f1:=za kq r1;clear ka)
     | (go_at_call 39;refine (DR.o _ kq _ _).mono ?_;rintro e wa ⟨rfl,ka⟩;have kq:=kq.quiet ka;have f5:=za kq r5;have f1:=za kq r1;clear ka)
     | (go_at_call 40;refine (CE.o _ kq _).mono ?_;rintro e wa ⟨rfl,rfl⟩)
     | (go_at_call 41;refine (DE.o _ kq _).mono ?_;rintro e wa ⟨rfl,ka⟩;have kq:=kq.quiet ka;have f5:=za kq r5;have f1:=za kq r1;clear ka)
     | (go_at_call 42;refine (CF.o _ kq _).mono ?_;rintro e wa ⟨rfl,rfl⟩)
     | (go_at_call 43;refine (DF.o _ kq _).mono ?_;rintro e wa ⟨rfl,ka⟩;have kq:=kq.quiet ka;have f5:=za kq r5;have f1:=za kq r1;clear ka)
     | (go_at_call 44;refine (CC.o _ kq _).mono ?_;rintro e wa ⟨rfl,ka⟩;have kq:=kq.quiet ka;have f5:=za kq r5;have f1:=za kq r1;clear ka)
     | (go_at_call 45;refine (DC.o _ kq _).mono ?_;rintro e wa ⟨rfl,ka⟩;have kq:=kq.quiet ka;have f5:=za kq r5;have f1:=za kq r1;clear ka)
     | (go_at_call 46;refine (CL.o _ kq _ _).mono ?_;rintro e wa ⟨rfl,ka⟩;have kq:=kq.quiet ka;have f5:=za kq r5;have f1:=za kq r1;clear ka)
     | (go_at_call 47;refine (DL.o _ kq _ _).mono ?_;rintro e wa ⟨rfl,ka⟩;have kq:=kq.quiet ka;have f5:=za kq r5;have f1:=za kq r1;clear ka))
    go_wp2_with fail;go_meet;exact ⟨rfl,hid kq⟩
  case rest=>
   as_aux_lemma=>
    obtain ⟨rfl,KZ⟩:=hcut;obtain ⟨fa,fcp,H⟩:=HPW.o.fns;have HF:=hid H;obtain ⟨N,hNN⟩:∃ N,N=P.funcs.length:=⟨_,rfl⟩;have HN:=hid hNN;have hN12:N≤12:=by rw[hNN];exact OK.o.sn.fn
    have H4:Box (∀ w',zc [] w4 w'→w'.cell? ⟨pp,po+4,none⟩=some (.slice fa N fcp)):=hid (by
     have h4':=H.cell;rw[← hNN] at h4';intro w' k
     exact za k h4')
    obtain ⟨n,hn9⟩:∃ n,n=(qG P).length:=⟨_,rfl⟩;have HNS:=hid hn9;have hn150:n≤150:=by rw[hn9];exact OK.o.sn.st
    have HFU:Box (∀ k:Nat,k<N→ze9 P (k:Int)=(n:Int)+(k:Int)∧zao P ((n:Int)+(k:Int))=((k:Int),false)):=hid fun k hk=>by
     have hf:isF P (k:Int)=true:=by
      unfold isF;rw[decide_eq_true (show (0:Int)≤(k:Int) by omega),decide_eq_true (show (k:Int)<(P.funcs.length:Int) by omega)];rfl
     rw[hn9];exact ⟨if_pos hf,zgA hf⟩
    have HOE:Box (zao P ((n:Int)+(N:Int))=(-1,false)):=hid (by rw[hn9,hNN];exact zhl P);clear H hNN hn9 C1 CT r1 HSA HLL;have q4:=H4.o _ KZ.o;go_wp2_with fail;clear q4
    go_loopw [10] (fun kv wr=>∃ k:Nat,k≤N∧kv=int i64 (k:Int)∧Box (zc [] w4 wr)) (fun kv _=>N - (intOf kv).toNat)
    case atStart=>exact ⟨0,by omega,rfl,KZ⟩
    case round=>
     obtain ⟨k,hk,rfl,HK⟩:=hrel;clear KZ;have q4:=H4.o _ HK.o;by_cases hlt:k<N
     ·have hltk:(k:Int)<(N:Int):=by omega
      have ef:P.funcs[k]? = some (zf P k):=zg (by rw[← HN.o];exact hlt);obtain ⟨fb,fo,rfl,FC⟩:=HF.o.rows.at ef;obtain ⟨ra,rcp,g30,grr, -, -⟩:=FC.c1;have hrl:=OK.o.sn.rg k (by rw[← HN.o];exact hlt);have G3:Box (∀ w',zc [] w4 w'→w'.cell? ⟨fb,fo+k * 3+1,none⟩=some (.slice ra (zf P k).regs.length rcp)):=hid fun w' kk=>za kk g30;have HFK:=hid (HFU.o k hlt);clear FC g30 grr ef;generalize (zf P k).regs.length=rl at *;go_wp2_with fail;clear q4
      go_loopw [11] (fun kv wr=>∃ j:Int, -1≤j∧j≤(rl:Int)+1∧kv=int i64 j∧Box (zc [] w4 wr)) (fun kv _=>((rl:Int)+1 - intOf kv).toNat)
      case atStart=>exact ⟨-1,by omega,by omega,rfl,HK⟩
      case round=>
       obtain ⟨j,hj0,hj1,rfl,HK2⟩:=hrel;clear HK;have q4:=H4.o _ HK2.o;have g3:=G3.o _ HK2.o;by_cases hlj:j≤(rl:Int)
       ·go_wp2_with fail
        refine (CR.o _ HK2.o _ _).mono ?_;rintro e wa ⟨rfl,ka⟩;have KA:=hid (HK2.o.quiet ka);clear ka q4 g3;go_wp2_with fail;refine (DR.o _ KA.o _ _).mono ?_;rintro e wb ⟨rfl,kb⟩;have KB:=hid (KA.o.quiet kb);clear kb KA;generalize zcF P (k:Int) j=z at *;go_wp2_with fail;go_roundw
        case rel=>exact ⟨j+1,by omega,by omega,rfl,KB⟩
        case measure=>simp[intOf];omega
       ·have hlj':(rl:Int)<j:=by omega
        have e1:=HFK.o.1;have e2:=HFK.o.2;go_wp2_with fail;have hc:=CF.o _ HK2.o (k:Int);rw[e1] at hc;refine hc.mono ?_;rintro e wa ⟨rfl,rfl⟩;clear hc q4 g3;go_wp2_with fail;have hc:=CO.o _ HK2.o ((n:Int)+(k:Int)) (by omega);rw[e2] at hc;refine hc.mono ?_;rintro e wb ⟨rfl,rfl⟩;clear hc;go_wp2_with fail;refine (CE.o _ HK2.o _).mono ?_;rintro e wc2 ⟨rfl,rfl⟩;go_wp2_with fail;refine (DE.o _ HK2.o _).mono ?_;rintro e wd ⟨rfl,kd⟩;have KD:=hid (HK2.o.quiet kd);clear kd;generalize zcW P (k:Int)=z at *;go_wp2_with fail;have hc:=CF.o _ KD.o (k:Int);rw[e1] at hc;refine hc.mono ?_;rintro e we ⟨rfl,rfl⟩;clear hc;go_wp2_with fail;have hc:=DF.o _ KD.o (k:Int);rw[e1] at hc;refine hc.mono ?_;rintro e wf ⟨rfl,kf⟩;have KF:=hid (KD.o.quiet kf);clear kf hc e1 e2;go_wp2_with fail;go_roundw
        case rel=>exact ⟨k+1,by omega,by go_num,KF⟩
        case measure=>simp[intOf];omega
     ·obtain rfl:k=N:=by omega
      have hlt':¬ (k:Int)<(k:Int):=by omega
      obtain ⟨a1,p1,g1,f1⟩:=R4.o.c1;obtain ⟨a2,p2,g2,f2⟩:=R4.o.c2;rw[← HNS.o] at g1 g2;have G1:Box (∀ w',zc [] w4 w'→w'.cell? ⟨rt,1,none⟩=some (.slice a1 n p1)):=hid fun w' kk=>za kk g1;have G2:Box (∀ w',zc [] w4 w'→w'.cell? ⟨rt,2,none⟩=some (.slice a2 n p2)):=hid fun w' kk=>za kk g2;have HF1:=hid f1;have HF2:=hid f2;clear f1 f2 g1 g2;have h1:=G1.o _ HK.o;go_wp2_with fail;clear h1 q4
      go_loopw [14] (fun kv wr=>∃ j:Nat,j≤n∧kv=int i64 (j:Int)∧Box (zc [] w4 wr)) (fun kv _=>n - (intOf kv).toNat)
      case atStart=>exact ⟨0,by omega,rfl,HK⟩
      case round=>
       obtain ⟨j,hj,rfl,HK3⟩:=hrel;clear HK;have h1:=G1.o _ HK3.o;by_cases hlj:j<n
       ·have hltj:(j:Int)<(n:Int):=by omega
        obtain ⟨s,hs⟩:∃ s,(qG P)[j]? = some s:=⟨_,List.getElem?_eq_getElem (by rw[← HNS.o];exact hlj)⟩;obtain ⟨b1,rfl,y1⟩:=HF1.o j s hs;obtain ⟨b2,rfl,y2⟩:=HF2.o j s hs;have eo:=zdZ hs;have er:=za5 (P:=P) (s:=s) (List.mem_of_getElem? hs);clear hs;have HSP:Box (∃ z:Int,z=(s.p:Int)):=hid ⟨_,rfl⟩;generalize (s.p:Int)=sp at *;generalize s.r=sr at *;clear HSP;go_wp2_with fail;have hc:=CO.o _ HK3.o (j:Int) (by omega);rw[eo] at hc;refine hc.mono ?_;rintro e wa ⟨rfl,rfl⟩;clear hc h1;go_upto_region 25 with fail
        go_cut [202] (fun c wz=>c=.bool false∧Box (zc [] w4 wz))
        case first=>
         as_aux_lemma=>
          have HCC:Box (∀ w',zc [] w4 w'→Calls Tryz.prog 44 #[pointer (some ⟨tb,0,none⟩),int i64 sp] w' fun e w''=>e=.returned (int i64 sr)∧zc [] w' w''):=hid fun w' kk=>by
           have:=CC.o w' kk sp;rw[er] at this;exact this
          have l1:=G1.o _ HK3.o;have l2:=G2.o _ HK3.o;have l3:=za HK3.o y1;have l4:=za HK3.o y2;have kq:zc [] w4 wa.drew:=HK3.o.quiet (zc.drew _ _);clear er eo
          go_region_held3 (fun w'=>w'.cell? ⟨rt,1,none⟩=some (.slice (some ⟨b1,0,none⟩) n p1)∧w'.cell? ⟨rt,2,none⟩=some (.slice (some ⟨b2,0,none⟩) n p2)∧w'.cell? ⟨b1,j,none⟩=some (int i64 sp)∧w'.cell? ⟨b2,j,none⟩=some (int i64 sr)) (go_keep) (first
           | (go_at_call 44;refine (HCC.o _ kq).mono ?_;rintro e wb ⟨rfl,kb⟩;have kq:=kq.quiet kb;have l1:=G1.o _ kq;have l2:=G2.o _ kq;have l3:=za kq y1;have l4:=za kq y2;clear kb))
          all_goals
           go_wp2_with fail;go_meet;exact ⟨rfl,hid kq⟩
        case rest=>
         as_aux_lemma=>
          obtain ⟨rfl,K25⟩:=hcut;clear er eo y1 y2;go_wp2_with fail
          go_loopw [17] (fun kv wr=>∃ i:Int, -1≤i∧i≤5∧kv=int i64 i∧Box (zc [] w4 wr)) (fun kv _=>(5 - intOf kv).toNat)
          case atStart=>exact ⟨-1,by omega,by omega,rfl,K25⟩
          case round=>
           obtain ⟨i,hi0,hi1,rfl,HK4⟩:=hrel;clear K25;by_cases hli:i≤4
           ·have KA:=HK4.o.quiet (zc.alloc [] wr (.cells #[int i64 sp,int i64 i] 91))
            have hn:=zh wr (.cells #[int i64 sp,int i64 i] 91);have HKA:=hid KA;have HQ:=hid hn;clear KA hn;go_upto_region 31 with fail;generalize wr.alloc (.cells #[int i64 sp,int i64 i] 91)=wv at *;generalize wr.heap.size=q at *
            go_cut [216] (fun c wz=>c=.bool false∧Box (zc [] w4 wz))
            case first=>
             as_aux_lemma=>
              have n0:=zd HQ.o 0;have n1:=zd HQ.o 1;have kq:zc [] wv wv.drew:=zc.drew _ _;have HCL:Box (∀ w',zc [] wv w'→Calls Tryz.prog 46 #[pointer (some ⟨tb,0,none⟩),agg #[int i64 sp,int i64 i]] w' fun e w''=>e=.returned (int i64 (Qw P sp i))∧zc [] w' w''):=hid fun w' kk=>CL.o w' (HKA.o.quiet kk) sp i;have HDL:Box (∀ w',zc [] wv w'→Calls Tryz.prog 47 #[pointer (some ⟨rt,0,none⟩),agg #[int i64 sp,int i64 i]] w' fun e w''=>e=.returned (int i64 (Qw P sp i))∧zc [] w' w''):=hid fun w' kk=>DL.o w' (HKA.o.quiet kk) sp i;generalize Qw P sp i=z at *
              go_region_held3 (fun w'=>w'.cell? ⟨q,0,none⟩=some (int i64 sp)∧w'.cell? ⟨q,1,none⟩=some (int i64 i)) (go_keep) (first
               | (go_at_call 46;refine (HCL.o _ kq).mono ?_;rintro e wb ⟨rfl,kb⟩;have kq:=kq.quiet kb;have l3:=zd (ze HQ.o kq) 0;have l4:=zd (ze HQ.o kq) 1;clear kb)
               | (go_at_call 47;refine (HDL.o _ kq).mono ?_;rintro e wb ⟨rfl,kb⟩;have kq:=kq.quiet kb;have l3:=zd (ze HQ.o kq) 0;have l4:=zd (ze HQ.o kq) 1;clear kb))
              all_goals
               go_wp2_with fail;go_meet;exact ⟨rfl,hid (HKA.o.quiet kq)⟩
            case rest=>
             as_aux_lemma=>
              obtain ⟨rfl,K31⟩:=hcut;clear HQ HKA;go_wp2_with fail;go_roundw
              case rel=>exact ⟨i+1,by omega,by omega,rfl,K31⟩
              case measure=>simp[intOf];omega
           ·have hli':4<i:=by omega
            go_wp2_with fail;go_roundw
            case rel=>exact ⟨j+1,by omega,by go_num,HK4⟩
            case measure=>simp[intOf];omega
       ·obtain rfl:j=n:=by omega
        have hlt9:¬ (j:Int)<(j:Int):=by omega
        have q4:=H4.o _ HK3.o;have HOB:Box (∀ w',zc [] wr w'→Calls Tryz.prog 48 #[pointer (some ⟨tb,0,none⟩),int i64 ((j:Int)+(k:Int))] w' fun e w''=>e=.returned (.tuple #[int i64 (-1),.bool false])∧w''=w'):=hid fun w' kk=>by
         have:=CO.o w' (HK3.o.quiet kk) ((j:Int)+(k:Int)) (by omega);rw[HOE.o] at this;exact this
        go_wp2_with fail;go_quiet ((go_at_call 48;exact Calls.quiet_of_same (HOB.o _ (zc.drewN _ _ _))));go_wp2_with fail;go_ret;exact ⟨rfl,(K4.o.quiet HK3.o).quiet (zc.drewN _ _ _)⟩
theorem zb3(v:Value)(a b:Int)(w:World)(hg:zeP w)(hT:Ze w)(hp:zfX 17592186044416 w v)(_:b64 a)(_:b64 b):Calls Tryz.prog 7 #[v,int i64 a,int i64 b] w fun e w'=>e=.returned (.bool true)∧zc [] w w':=by
 rcases hp with rfl | ⟨b',o,P,rfl,h,_⟩
 ·exact zb9 w hg hT a b
 ·exact zbM h hg hT a b
end Go.Proofs.YthflgjkmbakedaaGreatDoor
