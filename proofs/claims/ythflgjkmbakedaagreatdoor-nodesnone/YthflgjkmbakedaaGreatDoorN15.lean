import Derived.Test.YthflgjkmbakedaaGreatDoorN11

namespace Go.Proofs.YthflgjkmbakedaaGreatDoor
open Go.RowKit
open Go.Value (int pointer agg)
open Go.IntKind (i64)
set_option maxHeartbeats 8000000
set_option maxRecDepth 20000
variable {P:Pr8}{a:Option Addr}{ad:Addr}{b c fb fo j n o pb po:Nat}{ev:Operand→Value}{f:Fu8}{oi:Oper}{r:Bool}{v v0 v1 v2:Value}{w:World}{x x0 x1 y:Operand}
def Jq(P:Pr8)(r i:Int):Bool:=P.ims.any fun m=>m.1 == r && m.2.1 == i
theorem ze4(h:PrC w pb po P)(r i:Int):Calls Tryz.prog 257 #[pointer (some ⟨pb,po,none⟩),int i64 r,int i64 i] w fun e w'=>e=.returned (.bool (Jq P r i))∧w'=w:=by
 obtain ⟨a,cp,c3,hr,_,hm⟩:=h.c3;have HR:=hid hr;obtain ⟨n,hn⟩:∃ n,n=P.ims.length:=⟨_,rfl⟩;rw[← hn] at c3 hm;have HL:=hid hn;have hn1:(n:Int)≤9223372036854775807:=by unfold maxLen at hm;omega
 clear h hr hn hm;go_enter Tryz.func257,Tryz.ntmps257;go_wp2_with fail
 go_loop [13] (fun kv=>∃ k:Nat,k≤n∧kv=int i64 (k:Int)∧Box (∀ j y,j<k→P.ims[j]? = some y→(y.1 == r && y.2.1 == i)=false)) (fun kv=>n - (intOf kv).toNat)
 case atStart=>exact ⟨0,by omega,rfl,hid fun j y hj=>by omega⟩
 case round=>
  obtain ⟨k,hk,rfl,HB⟩:=hrel;by_cases hlt:k<n
  ·have hlt':(k:Int)<(n:Int):=by omega
   have HY:=hid (zi (l:=P.ims) (k:=k) (d:=(0,0,[])) (by rw[← HL.o];exact hlt));obtain ⟨b,off,rfl,hc⟩:=HR.o.at HY.o;have d0:=hc.c0.1;have d1:=hc.c1.1;have NEXT:Box (∀ y,P.ims[k]? = some y→(y.1 == r && y.2.1 == i)=false→∀ j z,j<k+1→P.ims[j]? = some z→(z.1 == r && z.2.1 == i)=false):=hid fun y hy hg j z hj hz=>by
    by_cases e:j<k
    ·exact HB.o j z e hz
    ·obtain rfl:j=k:=by omega
     rw[hy] at hz;cases hz;exact hg
   clear hc HB;generalize P.ims.getD k (0,0,[])=y at *;by_cases e1:y.1=r
   ·have q1:(y.1 == r)=true:=eqb e1
    by_cases e2:y.2.1=i
    ·have q2:(y.2.1 == i)=true:=eqb e2
     have HT:Box (Jq P r i=true):=hid (List.any_eq_true.2 ⟨y,List.mem_of_getElem? HY.o,by rw[q1,q2];rfl⟩);clear e1 e2 NEXT;go_wp2_with fail;go_ret;exact ⟨by rw[HT.o];rfl,rfl⟩
    ·have q2:(y.2.1 == i)=false:=neb e2
     have HN:=hid (NEXT.o y HY.o (by rw[q1,q2];rfl));clear e1 e2 NEXT;go_wp2_with fail
     go_round
     case rel=>exact ⟨k+1,by omega,by go_num,HN⟩
     case measure=>simp[intOf];omega
   ·have q1:(y.1 == r)=false:=neb e1
    have HN:=hid (NEXT.o y HY.o (by rw[q1];rfl));clear e1 NEXT;go_wp2_with fail
    go_round
    case rel=>exact ⟨k+1,by omega,by go_num,HN⟩
    case measure=>simp[intOf];omega
  ·obtain rfl:n=k:=by omega
   have HF:Box (Jq P r i=false):=hid (List.any_eq_false.2 fun y hy=>by
    obtain ⟨j,hj,e⟩:=List.getElem_of_mem hy;have:=HB.o j y (by rw[HL.o];exact hj) (by rw[List.getElem?_eq_getElem hj,e]);rw[this]
    simp)
   go_wp2_with fail;go_ret;exact ⟨by rw[HF.o];rfl,rfl⟩
def qo(f:Fu8)(l:List Int)(ps:List (Int × Int)):Bool:=decide (l.length=ps.length) && (List.range l.length).all fun k=>tyE (zk f (l.getD k 0)) (ps.getD k (0,0))
theorem Q0(hf:FuC w fb fo f){cp:Nat}{l:List Int}(hz:zw w a l)(hl:l.length≤1000){pa:Option Addr}{pp:Nat}{ps:List (Int × Int)}(hp:zv w 2 TyC pa ps):Calls Tryz.prog 259 #[pointer (some ⟨fb,fo,none⟩),.slice a l.length cp,.slice pa ps.length pp] w fun e w'=>e=.returned (.bool (qo f l ps))∧za [] w w':=by
 have HZ:=hid hz;have HP:=hid hp;have HRT:=hid fun (r:Int) (w':World) (k:za [] w w')=>zn (FuC.stays _ _ _ _ _ k hf) r;have HE:Box (qo f l ps=(decide (l.length=ps.length) && (List.range l.length).all fun k=>tyE (zk f (l.getD k 0)) (ps.getD k (0,0)))):=hid rfl;obtain ⟨n,hn⟩:∃ n,n=l.length:=⟨_,rfl⟩;obtain ⟨m,hm⟩:∃ m,m=ps.length:=⟨_,rfl⟩;rw[← hn, ← hm] at HE;rw[← hn, ← hm];have HL:=hid hn;have HM:=hid hm;have hn1:(n:Int)≤9223372036854775807:=by omega
 clear hf hz hl hp hn hm;by_cases hnm:n=m
 case neg=>
  have q1:((n:Int) != (m:Int))=true:=ziY (by omega);have HF:Box (qo f l ps=false):=hid (by rw[HE.o];simp[hnm]);clear hnm HE;go_enter Tryz.func259,Tryz.ntmps259;go_wp2_with fail;go_ret;exact ⟨by rw[HF.o];rfl,za.refl _ _⟩
 obtain rfl:m=n:=hnm.symm;have q1:((m:Int) != (m:Int))=false:=zjf rfl;have HG:Box (qo f l ps=(List.range m).all fun k=>tyE (zk f (l.getD k 0)) (ps.getD k (0,0))):=hid (by rw[HE.o];simp);clear hnm HE;go_enter Tryz.func259,Tryz.ntmps259;go_wp2_with fail
 go_loopw [16] (fun kv wr=>∃ k:Nat,k≤m∧kv=int i64 (k:Int)∧Box (za [] w wr)∧Box (∀ j,j<k→tyE (zk f (l.getD j 0)) (ps.getD j (0,0))=true)) (fun kv _=>m - (intOf kv).toNat)
 case atStart=>exact ⟨0,by omega,rfl,hid (za.refl _ _),hid fun j hj=>by omega⟩
 case round=>
  obtain ⟨k,hk,rfl,HK,HA⟩:=hrel;by_cases hlt:k<m
  ·have hlt':(k:Int)<(m:Int):=by omega
   obtain ⟨b,off,rfl,hc⟩:∃ b off,a=some ⟨b,off,none⟩∧w.cell? ⟨b,off+k,none⟩=some (int i64 (l.getD k 0)):=by
    rcases HZ.o with e | ⟨b,off,e,h⟩
    ·rw[e] at HL;have:=HL.o;simp at this;omega
    ·exact ⟨b,off,e,h k (by rw[← HL.o];exact hlt)⟩
   obtain ⟨b',off',rfl,hc'⟩:=HP.o.at (zi (l:=ps) (k:=k) (d:=(0,0)) (by rw[← HM.o];exact hlt));have d:=zb HK.o hc;have d0:=zb HK.o hc'.c0.1;have d1:=zb HK.o hc'.c1.1;have HC:=hid (HRT.o (l.getD k 0));have REL:Box (tyE (zk f (l.getD k 0)) (ps.getD k (0,0))=true→∀ j,j<k+1→tyE (zk f (l.getD j 0)) (ps.getD j (0,0))=true):=hid fun hg j hj=>by
    by_cases e:j<k
    ·exact HA.o j e
    ·obtain rfl:j=k:=by omega
     exact hg
   have BAD:Box (tyE (zk f (l.getD k 0)) (ps.getD k (0,0))=false→qo f l ps=false):=hid fun hg=>by
    rw[HG.o,List.all_eq_false];exact ⟨k,List.mem_range.2 hlt,by rw[hg];simp⟩
   clear hc hc';generalize zk f (l.getD k 0)=U at *;generalize l.getD k 0=r at *;generalize ps.getD k (0,0)=T at *;have rn:=fun w'=>zc1 U.1 U.2 T.1 T.2 w';unfold tyV at HC;cases hg:tyE U T with
   | true=>
    have hg':tyE (U.1,U.2) (T.1,T.2)=true:=hg;rw[hg'] at rn;have HR2:=hid (REL.o hg);clear hg hg' REL BAD;go_upto_region 6 with fail
    go_region_held3 (fun w'=>w'.cell? ⟨b',off'+k * 2,none⟩=some (int i64 T.1)∧w'.cell? ⟨b',off'+k * 2+1,none⟩=some (int i64 T.2)) (go_keep) (first | (go_at_call 242;refine (HC.o _ (HK.o.quiet (za.drew [] _))).mono ?_;rintro e w5 ⟨rfl,k5⟩;have e0:=zb ((za.drew [] _).quiet k5) d0;have e1:=zb ((za.drew [] _).quiet k5) d1;have K5:=hid ((HK.o.quiet (za.drew [] _)).quiet k5);clear k5))
    go_wp2_with fail;go_roundw
    case rel=>exact ⟨k+1,by omega,by go_num,K5,HR2⟩
    case measure=>simp[intOf];omega
   | false=>
    have hg':tyE (U.1,U.2) (T.1,T.2)=false:=hg;rw[hg'] at rn;have HF:=hid (BAD.o hg);clear hg hg' REL BAD;go_upto_region 6 with fail
    go_region_held3 (fun w'=>w'.cell? ⟨b',off'+k * 2,none⟩=some (int i64 T.1)∧w'.cell? ⟨b',off'+k * 2+1,none⟩=some (int i64 T.2)) (go_keep) (first | (go_at_call 242;refine (HC.o _ (HK.o.quiet (za.drew [] _))).mono ?_;rintro e w5 ⟨rfl,k5⟩;have e0:=zb ((za.drew [] _).quiet k5) d0;have e1:=zb ((za.drew [] _).quiet k5) d1;have K5:=hid ((HK.o.quiet (za.drew [] _)).quiet k5);clear k5))
    go_wp2_with fail;go_ret;exact ⟨by rw[HF.o];rfl,K5.o⟩
  ·obtain rfl:m=k:=by omega
   have HF:Box (qo f l ps=true):=hid (by rw[HG.o,List.all_eq_true];exact fun j hj=>HA.o j (List.mem_range.1 hj));go_wp2_with fail;go_ret;exact ⟨by rw[HF.o];rfl,HK.o⟩
theorem zM.yes{O:Option (List (Int × Int) × Int × Int)}{s:List (Int × Int) × Int × Int}{w0 w':World}(h:O=some s)(k:za [] w w')(hv:SgV w0 v s):zM O w0 w (.returned (.tuple #[v,.bool true])) w':=by
 subst h;exact ⟨k,v,rfl,hv⟩
theorem zM.no{O:Option (List (Int × Int) × Int × Int)}{w0 w':World}(h:O=none)(k:za [] w w'):zM O w0 w (.returned (.tuple #[agg #[.slice none 0 0,int i64 0,int i64 0],.bool false])) w':=by
 subst h;exact ⟨k,rfl⟩
theorem zcn(h:PrC w pb po P)(hf:FuC w fb fo f)(x:In8)(ar:Value)(hop:x.op=13):Calls Tryz.prog 258 #[pointer (some ⟨pb,po,none⟩),pointer (some ⟨fb,fo,none⟩),zt x ar] w (zM (if (zk f x.a).1=2 then jN P (zk f x.a).2 else none) w w):=by
 unfold zt;rw[hop];obtain ⟨O,hO⟩:∃ O,O=if (zk f x.a).1=2 then jN P (zk f x.a).2 else none:=⟨_,rfl⟩
 rw[← hO];have HO:=hid hO;clear hO;obtain ⟨W,hW⟩:∃ W,W=(w.alloc (.cells #[int i64 13,int i64 x.dst,int i64 x.a,int i64 x.b,int i64 x.n,ar] 54)).alloc (.cells #[.slice none 0 0,int i64 0,int i64 0] 59):=⟨_,rfl⟩;have k2:za [] w W:=by rw[hW];exact (za.alloc [] w _).quiet (za.alloc [] _ _)
 have hn1:W.heap[w.heap.size]? = some (.cells #[int i64 13,int i64 x.dst,int i64 x.a,int i64 x.b,int i64 x.n,ar] 54 (0,0)):=by rw[hW];exact ze (zd w _) (za.alloc [] _ _)
 have hn2:W.heap[w.heap.size+1]? = some (.cells #[.slice none 0 0,int i64 0,int i64 0] 59 (0,0)):=by
  have:=zd (w.alloc (.cells #[int i64 13,int i64 x.dst,int i64 x.a,int i64 x.b,int i64 x.n,ar] 54)) (.cells #[.slice none 0 0,int i64 0,int i64 0] 59);rw[World.size_alloc] at this;rw[hW];exact this
 have HRT:=hid (zn (FuC.stays _ _ _ _ _ k2 hf) x.a);have K2:=hid k2;have HN1:=hid hn1;have HN2:=hid hn2;have HWE:=hid hW;have HP:=hid h;have i2:=zc hn1 2;have fin:∀ W' u0 u1 u2,za [] W W'→za [] w (((W'.setCell ⟨w.heap.size+1,0,none⟩ u0).setCell ⟨w.heap.size+1,1,none⟩ u1).setCell ⟨w.heap.size+1,2,none⟩ u2):=fun W' u0 u1 u2 k=>(K2.o.quiet k).trans (jF _ (w.heap.size+1) _ _ _) (fun x hx hl=>by simp at hx;omega);have FIN:=hid fin;have HSG:=hid fun (w':World) (k:za [] w w')=>Zo HP.o k (zk f x.a).2;clear hW k2 hn1 hn2 fin hop h hf;generalize zk f x.a=T at *;unfold tyV at HRT;go_enter Tryz.func258,Tryz.ntmps258;go_upto_region 1 with fail;rw[← HWE.o];clear HWE;generalize w.heap.size=q at *;go_wp2_with fail;refine HRT.o.mono ?_;rintro e w1 ⟨rfl,k1⟩;have KT:=k1.quiet (za.alloc [] w1 (.cells #[int i64 T.1,int i64 T.2] 52));have j1:=ze HN1.o KT;have j2:=ze HN2.o KT;have j3:=zd w1 (.cells #[int i64 T.1,int i64 T.2] 52);have KW:=hid KT;have J2:=hid j2;have a0:=zc j1 0;have a4:=zc j1 4;have t0:=zc j3 0;have t1:=zc j3 1;clear k1 i2 KT j1 HRT HN1 HN2;go_upto_region 2 with fail;have Z3:=hid j3;clear j3 j2;generalize w1.alloc (.cells #[int i64 T.1,int i64 T.2] 52)=W2 at *;generalize w1.heap.size=q2 at *;go_quiet (fail);have KDR:Box (za [] W2 (W2.drewN nq)):=hid (za.drewN _ _ _);generalize W2.drewN nq=W3 at *;replace a0:=zb KDR.o a0;replace a4:=zb KDR.o a4;replace t0:=zb KDR.o t0;replace t1:=zb KDR.o t1;by_cases hT:T.1=2
 ·replace HO:=hid (HO.o.trans (if_pos hT))
  have o1:=eqb hT;clear hT;go_wp2_with fail;cases hs:jN P T.2 with
  | none=>
   have HOO:Box (O=none):=hid (HO.o.trans hs);rw[hs] at HSG;clear HO hs;refine (HSG.o _ ((K2.o.quiet KW.o).quiet KDR.o)).mono ?_;rintro e w5 ⟨k5,rfl⟩;have hb5:=ze J2.o (KDR.o.quiet k5);have K5:=hid ((KW.o.quiet KDR.o).quiet k5);have y0:=zg hb5 0;have y1:=zg hb5 1;have y2:=zg hb5 2;have x0:=zc hb5 0;have x1:=zc hb5 1;have x2:=zc hb5 2;have HB5:=hid hb5;clear hb5 k5;go_wp2_with fail;have h3:=JF HB5.o (.slice none 0 0) (int i64 0) (int i64 0);have e0:=zc h3 0;have e1:=zc h3 1;have e2:=zc h3 2;exact bodyPost_ret (v:=.tuple #[agg #[.slice none 0 0,int i64 0,int i64 0],.bool false]) (by simp[results,Tryz.results258,go_sem,e0,e1,e2]) rfl (zM.no HOO.o (FIN.o _ _ _ _ K5.o))
  | some sg=>
   have HOO:Box (O=some sg):=hid (HO.o.trans hs);rw[hs] at HSG;clear HO hs;refine (HSG.o _ ((K2.o.quiet KW.o).quiet KDR.o)).mono ?_;rintro e w5 ⟨k5,v5,rfl,ga,gp,rfl,hv6⟩;have hb5:=ze J2.o (KDR.o.quiet k5);have K5:=hid ((KW.o.quiet KDR.o).quiet k5);have HV6:=hid hv6;have y0:=zg hb5 0;have y1:=zg hb5 1;have y2:=zg hb5 2;have x0:=zc hb5 0;have x1:=zc hb5 1;have x2:=zc hb5 2;have HB5:=hid hb5;clear hb5 k5 hv6;go_wp2_with fail;have h3:=JF HB5.o (.slice ga sg.1.length gp) (int i64 sg.2.1) (int i64 sg.2.2);have e0:=zc h3 0;have e1:=zc h3 1;have e2:=zc h3 2;exact bodyPost_ret (v:=.tuple #[agg #[.slice ga sg.1.length gp,int i64 sg.2.1,int i64 sg.2.2],.bool true]) (by simp[results,Tryz.results258,go_sem,e0,e1,e2]) rfl (zM.yes HOO.o (FIN.o _ _ _ _ K5.o) ⟨ga,gp,rfl,HV6.o⟩)
 ·have HOO:Box (O=none):=hid (HO.o.trans (if_neg hT))
  clear HO;have o1:=neb hT;have hb5:=ze J2.o KDR.o;have y0:=zg hb5 0;have y1:=zg hb5 1;have y2:=zg hb5 2;have x0:=zc hb5 0;have x1:=zc hb5 1;have x2:=zc hb5 2;have HB5:=hid hb5;have K5:=hid (KW.o.quiet KDR.o);clear hT HSG hb5;go_wp2_with fail;have h3:=JF HB5.o (.slice none 0 0) (int i64 0) (int i64 0);have e0:=zc h3 0;have e1:=zc h3 1;have e2:=zc h3 2;exact bodyPost_ret (v:=.tuple #[agg #[.slice none 0 0,int i64 0,int i64 0],.bool false]) (by simp[results,Tryz.results258,go_sem,e0,e1,e2]) rfl (zM.no HOO.o (FIN.o _ _ _ _ K5.o))
theorem zcv(h:PrC w pb po P)(hf:FuC w fb fo f)(x:In8)(ar:Value)(hop:x.op=14):Calls Tryz.prog 258 #[pointer (some ⟨pb,po,none⟩),pointer (some ⟨fb,fo,none⟩),zt x ar] w (zM (qV P (zk f x.a) x.n) w w):=by
 unfold zt;rw[hop];obtain ⟨O,hO⟩:∃ O,O=qV P (zk f x.a) x.n:=⟨_,rfl⟩;rw[← hO];have HO:=hid hO;clear hO;obtain ⟨W,hW⟩:∃ W,W=(w.alloc (.cells #[int i64 14,int i64 x.dst,int i64 x.a,int i64 x.b,int i64 x.n,ar] 54)).alloc (.cells #[.slice none 0 0,int i64 0,int i64 0] 59):=⟨_,rfl⟩;have k2:za [] w W:=by rw[hW];exact (za.alloc [] w _).quiet (za.alloc [] _ _)
 have hn1:W.heap[w.heap.size]? = some (.cells #[int i64 14,int i64 x.dst,int i64 x.a,int i64 x.b,int i64 x.n,ar] 54 (0,0)):=by rw[hW];exact ze (zd w _) (za.alloc [] _ _)
 have hn2:W.heap[w.heap.size+1]? = some (.cells #[.slice none 0 0,int i64 0,int i64 0] 59 (0,0)):=by
  have:=zd (w.alloc (.cells #[int i64 14,int i64 x.dst,int i64 x.a,int i64 x.b,int i64 x.n,ar] 54)) (.cells #[.slice none 0 0,int i64 0,int i64 0] 59);rw[World.size_alloc] at this;rw[hW];exact this
 have HRT:=hid (zn (FuC.stays _ _ _ _ _ k2 hf) x.a);have K2:=hid k2;have HN1:=hid hn1;have HN2:=hid hn2;have HWE:=hid hW;have HP:=hid h;have i2:=zc hn1 2;have fin:∀ W' u0 u1 u2,za [] W W'→za [] w (((W'.setCell ⟨w.heap.size+1,0,none⟩ u0).setCell ⟨w.heap.size+1,1,none⟩ u1).setCell ⟨w.heap.size+1,2,none⟩ u2):=fun W' u0 u1 u2 k=>(K2.o.quiet k).trans (jF _ (w.heap.size+1) _ _ _) (fun x hx hl=>by simp at hx;omega);have FIN:=hid fin;have HSG:=hid fun (w':World) (k:za [] w w')=>Qj HP.o k (zk f x.a) x.n;clear hW k2 hn1 hn2 fin hop h hf;generalize zk f x.a=T at *;unfold tyV at HRT;go_enter Tryz.func258,Tryz.ntmps258;go_upto_region 1 with fail;rw[← HWE.o];clear HWE;generalize w.heap.size=q at *;go_wp2_with fail;refine HRT.o.mono ?_;rintro e w1 ⟨rfl,k1⟩;have KT:=k1.quiet (za.alloc [] w1 (.cells #[int i64 T.1,int i64 T.2] 52));have j1:=ze HN1.o KT;have j2:=ze HN2.o KT;have j3:=zd w1 (.cells #[int i64 T.1,int i64 T.2] 52);have KW:=hid KT;have J2:=hid j2;have a0:=zc j1 0;have a4:=zc j1 4;have t0:=zc j3 0;have t1:=zc j3 1;clear k1 i2 KT j1 HRT HN1 HN2;go_upto_region 2 with fail;have Z3:=hid j3;clear j3 j2;generalize w1.alloc (.cells #[int i64 T.1,int i64 T.2] 52)=W2 at *;generalize w1.heap.size=q2 at *;go_quiet (fail);have KDR:Box (za [] W2 (W2.drewN nq)):=hid (za.drewN _ _ _);generalize W2.drewN nq=W3 at *;replace a0:=zb KDR.o a0;replace a4:=zb KDR.o a4;replace t0:=zb KDR.o t0;replace t1:=zb KDR.o t1;go_wp2_with fail;cases hs:qV P T x.n with
 | none=>
  have HOO:Box (O=none):=hid (HO.o.trans hs);rw[hs] at HSG;clear HO hs;refine (HSG.o _ ((K2.o.quiet KW.o).quiet KDR.o)).mono ?_;rintro e w5 ⟨k5,rfl⟩;have hb5:=ze J2.o (KDR.o.quiet k5);have K5:=hid ((KW.o.quiet KDR.o).quiet k5);have y0:=zg hb5 0;have y1:=zg hb5 1;have y2:=zg hb5 2;have x0:=zc hb5 0;have x1:=zc hb5 1;have x2:=zc hb5 2;have HB5:=hid hb5;clear hb5 k5;go_wp2_with fail;have h3:=JF HB5.o (.slice none 0 0) (int i64 0) (int i64 0);have e0:=zc h3 0;have e1:=zc h3 1;have e2:=zc h3 2;exact bodyPost_ret (v:=.tuple #[agg #[.slice none 0 0,int i64 0,int i64 0],.bool false]) (by simp[results,Tryz.results258,go_sem,e0,e1,e2]) rfl (zM.no HOO.o (FIN.o _ _ _ _ K5.o))
 | some sg=>
  have HOO:Box (O=some sg):=hid (HO.o.trans hs);rw[hs] at HSG;clear HO hs;refine (HSG.o _ ((K2.o.quiet KW.o).quiet KDR.o)).mono ?_;rintro e w5 ⟨k5,v5,rfl,ga,gp,rfl,hv6⟩;have hb5:=ze J2.o (KDR.o.quiet k5);have K5:=hid ((KW.o.quiet KDR.o).quiet k5);have HV6:=hid hv6;have y0:=zg hb5 0;have y1:=zg hb5 1;have y2:=zg hb5 2;have x0:=zc hb5 0;have x1:=zc hb5 1;have x2:=zc hb5 2;have HB5:=hid hb5;clear hb5 k5 hv6;go_wp2_with fail;have h3:=JF HB5.o (.slice ga sg.1.length gp) (int i64 sg.2.1) (int i64 sg.2.2);have e0:=zc h3 0;have e1:=zc h3 1;have e2:=zc h3 2;exact bodyPost_ret (v:=.tuple #[agg #[.slice ga sg.1.length gp,int i64 sg.2.1,int i64 sg.2.2],.bool true]) (by simp[results,Tryz.results258,go_sem,e0,e1,e2]) rfl (zM.yes HOO.o (FIN.o _ _ _ _ K5.o) ⟨ga,gp,rfl,HV6.o⟩)
theorem zcG(h:PrC w pb po P)(hf:FuC w fb fo f)(x:In8)(ar:Value)(hop:x.op=12)(hn:inB x.n P.funcs.length=true):Calls Tryz.prog 258 #[pointer (some ⟨pb,po,none⟩),pointer (some ⟨fb,fo,none⟩),zt x ar] w (zM (jN P (zf P x.n.toNat).sig) w w):=by
 unfold zt;rw[hop];obtain ⟨O,hO⟩:∃ O,O=jN P (zf P x.n.toNat).sig:=⟨_,rfl⟩;rw[← hO];have HO:=hid hO;clear hO;obtain ⟨W,hW⟩:∃ W,W=(w.alloc (.cells #[int i64 12,int i64 x.dst,int i64 x.a,int i64 x.b,int i64 x.n,ar] 54)).alloc (.cells #[.slice none 0 0,int i64 0,int i64 0] 59):=⟨_,rfl⟩;have k2:za [] w W:=by rw[hW];exact (za.alloc [] w _).quiet (za.alloc [] _ _)
 have hn1:W.heap[w.heap.size]? = some (.cells #[int i64 12,int i64 x.dst,int i64 x.a,int i64 x.b,int i64 x.n,ar] 54 (0,0)):=by rw[hW];exact ze (zd w _) (za.alloc [] _ _)
 have hn2:W.heap[w.heap.size+1]? = some (.cells #[.slice none 0 0,int i64 0,int i64 0] 59 (0,0)):=by
  have:=zd (w.alloc (.cells #[int i64 12,int i64 x.dst,int i64 x.a,int i64 x.b,int i64 x.n,ar] 54)) (.cells #[.slice none 0 0,int i64 0,int i64 0] 59);rw[World.size_alloc] at this;rw[hW];exact this
 have HRT:=hid (zn (FuC.stays _ _ _ _ _ k2 hf) x.a);have K2:=hid k2;have HN1:=hid hn1;have HN2:=hid hn2;have HWE:=hid hW;have HP:=hid h;have i2:=zc hn1 2;have fin:∀ W' u0 u1 u2,za [] W W'→za [] w (((W'.setCell ⟨w.heap.size+1,0,none⟩ u0).setCell ⟨w.heap.size+1,1,none⟩ u1).setCell ⟨w.heap.size+1,2,none⟩ u2):=fun W' u0 u1 u2 k=>(K2.o.quiet k).trans (jF _ (w.heap.size+1) _ _ _) (fun x hx hl=>by simp at hx;omega);have FIN:=hid fin;obtain ⟨g0,g1⟩:=z6.1 hn;obtain ⟨m,hm⟩:∃ m:Nat,x.n=(m:Int):=⟨x.n.toNat,by omega⟩;rw[hm] at g1;have HW:Box (∀ w,Calls Tryz.prog 123 #[int i64 x.n,int i64 (P.funcs.length:Int)] w fun e w'=>e=.returned (.bool true)∧w'=w):=hid fun w=>by rw[← hn];exact zo _ _ w
 obtain ⟨fa,fp,c4,r4,_⟩:=h.c4;obtain ⟨gb,go,rfl,hfu0⟩:=r4.at (zi (l:=P.funcs) (k:=m) (d:=⟨0,[],[]⟩) (by omega));have HC4:Box (∀ w',za [] w w'→w'.cell? ⟨pb,po+4,none⟩=some (.slice (some ⟨gb,go,none⟩) P.funcs.length fp)∧w'.cell? ⟨gb,go+m * 3,none⟩=some (int i64 (zf P m).sig)):=hid fun w' k=>⟨zb k c4,zb k hfu0.c0.1⟩;have HSG:=hid fun (w':World) (k:za [] w w')=>Zo HP.o k (zf P m).sig;have em:x.n.toNat=m:=by omega
 rw[em] at HO;have hmm:=hid hm;clear c4 r4 hfu0 hn g0 em hm;clear hW k2 hn1 hn2 fin hop h hf;generalize zk f x.a=T at *;unfold tyV at HRT;go_enter Tryz.func258,Tryz.ntmps258;go_upto_region 1 with fail;rw[← HWE.o];clear HWE;generalize w.heap.size=q at *;go_wp2_with fail;refine HRT.o.mono ?_;rintro e w1 ⟨rfl,k1⟩;have KT:=k1.quiet (za.alloc [] w1 (.cells #[int i64 T.1,int i64 T.2] 52));have j1:=ze HN1.o KT;have j2:=ze HN2.o KT;have j3:=zd w1 (.cells #[int i64 T.1,int i64 T.2] 52);have KW:=hid KT;have J2:=hid j2;have a0:=zc j1 0;have a4:=zc j1 4;have t0:=zc j3 0;have t1:=zc j3 1;clear k1 i2 KT j1 HRT HN1 HN2;go_upto_region 2 with fail;have Z3:=hid j3;clear j3 j2;generalize w1.alloc (.cells #[int i64 T.1,int i64 T.2] 52)=W2 at *;generalize w1.heap.size=q2 at *;rw[hmm.o] at a4 HW;clear hmm;obtain ⟨f4,f5⟩:=HC4.o _ (K2.o.quiet KW.o);generalize (zf P m).sig=sn at *;generalize P.funcs.length=FN at *;go_quiet ((go_at_call 123;exact Calls.quiet_of_same (HW.o _)));have KDR:Box (za [] W2 (W2.drewN nq)):=hid (za.drewN _ _ _);go_upto_region 3 with fail;generalize W2.drewN nq=W3 at *;replace a4:=zb KDR.o a4;replace f4:=zb KDR.o f4;replace f5:=zb KDR.o f5;clear a0 t0 t1;cases hs:jN P sn with
 | none=>
  have HOO:Box (O=none):=hid (HO.o.trans hs);rw[hs] at HSG;clear HO hs
  go_region_with (go_at_call 196;refine (HSG.o _ (((K2.o.quiet KW.o).quiet KDR.o).quiet (za.drew [] _))).mono ?_;rintro e w5 ⟨k5,rfl⟩;have kk:=(za.drew [] W3).quiet k5;have g4:=zb kk f4;have g5:=zb kk f5;have g6:=zb kk a4;have hb5:=ze J2.o (KDR.o.quiet kk);have K5:=hid ((KW.o.quiet KDR.o).quiet kk);have y0:=zg hb5 0;have y1:=zg hb5 1;have y2:=zg hb5 2;have x0:=zc hb5 0;have x1:=zc hb5 1;have x2:=zc hb5 2;have HB5:=hid hb5;clear hb5 k5 kk)
  all_goals (
   go_wp2_with fail;have h3:=JF HB5.o (.slice none 0 0) (int i64 0) (int i64 0);have e0:=zc h3 0;have e1:=zc h3 1;have e2:=zc h3 2
   exact bodyPost_ret (v:=.tuple #[agg #[.slice none 0 0,int i64 0,int i64 0],.bool false]) (by simp[results,Tryz.results258,go_sem,e0,e1,e2]) rfl (zM.no HOO.o (FIN.o _ _ _ _ K5.o)))
 | some sg=>
  have HOO:Box (O=some sg):=hid (HO.o.trans hs);rw[hs] at HSG;clear HO hs
  go_region_with (go_at_call 196;refine (HSG.o _ (((K2.o.quiet KW.o).quiet KDR.o).quiet (za.drew [] _))).mono ?_;rintro e w5 ⟨k5,v5,rfl,ga,gp,rfl,hv6⟩;have kk:=(za.drew [] W3).quiet k5;have g4:=zb kk f4;have g5:=zb kk f5;have g6:=zb kk a4;have hb5:=ze J2.o (KDR.o.quiet kk);have K5:=hid ((KW.o.quiet KDR.o).quiet kk);have y0:=zg hb5 0;have y1:=zg hb5 1;have y2:=zg hb5 2;have x0:=zc hb5 0;have x1:=zc hb5 1;have x2:=zc hb5 2;have HB5:=hid hb5;have HV6:=hid hv6;clear hb5 k5 kk hv6)
  all_goals (
   go_wp2_with fail;have h3:=JF HB5.o (.slice ga sg.1.length gp) (int i64 sg.2.1) (int i64 sg.2.2);have e0:=zc h3 0;have e1:=zc h3 1;have e2:=zc h3 2
   exact bodyPost_ret (v:=.tuple #[agg #[.slice ga sg.1.length gp,int i64 sg.2.1,int i64 sg.2.2],.bool true]) (by simp[results,Tryz.results258,go_sem,e0,e1,e2]) rfl (zM.yes HOO.o (FIN.o _ _ _ _ K5.o) ⟨ga,gp,rfl,HV6.o⟩))
theorem zj9(hf:FuC w fb fo f)(x:In8)(ar:Value)(hop:x.op=2):Calls Tryz.prog 241 #[pointer (some ⟨pb,po,none⟩),pointer (some ⟨fb,fo,none⟩),zt x ar] w fun e w'=>e=.returned (.bool ((zk f x.a).1 == 0 && ((zk f x.b).1 == 0 && (zk f x.dst).1 == 0)))∧za [] w w':=by
 obtain ⟨RES,hRES⟩:∃ r,r=((zk f x.a).1 == 0 && ((zk f x.b).1 == 0 && (zk f x.dst).1 == 0)):=⟨_,rfl⟩;rw[← hRES];have HRES:=hid hRES;clear hRES;have ka:=za.alloc [] w (.cells #[int i64 x.op,int i64 x.dst,int i64 x.a,int i64 x.b,int i64 x.n,ar] 54);have hn:=zd w (.cells #[int i64 x.op,int i64 x.dst,int i64 x.a,int i64 x.b,int i64 x.n,ar] 54);have HRT:=hid fun (r:Int) (w':World) (k:za [] w w')=>zn (FuC.stays _ _ _ _ _ k hf) r;have KA:=hid ka;have HN:=hid hn;clear hf ka hn;unfold zt;rw[hop] at KA HN ⊢;go_enter Tryz.func241,Tryz.ntmps241;go_upto_region 1 with fail;generalize w.alloc (.cells #[int i64 2,int i64 x.dst,int i64 x.a,int i64 x.b,int i64 x.n,ar] 54)=WA at *;generalize w.heap.size=q at *;have H1:=hid fun (w':World) (k:za [] WA w')=>HRT.o x.dst w' (KA.o.quiet k);have H2:=hid fun (w':World) (k:za [] WA w')=>HRT.o x.a w' (KA.o.quiet k);have H3:=hid fun (w':World) (k:za [] WA w')=>HRT.o x.b w' (KA.o.quiet k);generalize hT1:zk f x.dst=T1 at *;generalize hT2:zk f x.a=T2 at *;generalize hT3:zk f x.b=T3 at *;have HT1:=hid hT1;have HT2:=hid hT2;have HT3:=hid hT3;clear hT1 hT2 hT3;refine zT HN.o H1.o H2.o H3.o (fun _ _ _ _ _ h=>h) (fun w1 b7 b8 b9 hk t7 t8 t9=> ?_)
 all_goals
  have T7:Box (zY w1 b7 T1):=hid t7;have T8:Box (zY w1 b8 T2):=hid t8;have T9:Box (zY w1 b9 T3):=hid t9;have K1:=hid (KA.o.quiet hk);have h5:=ze HN.o hk;have i0:=zc h5 0;have HI5:=hid h5;clear t7 t8 t9 h5 H1 H2 H3 HN hk;have s0:=zc T7.o 0;have s1:=zc T7.o 1;have p0:=zc T8.o 0;have p1:=zc T8.o 1;have r0:=zc T9.o 0;have r1:=zc T9.o 1
  try simp only[HT1.o,HT2.o,HT3.o] at HRES
  by_cases g2:T2.1=0
  ·by_cases g3:T3.1=0
   ·have HE:Box (RES=(T1.1 == 0)):=hid (by rw[HRES.o,g2,g3];rfl)
    have o2:=zjf g2;have o3:=zjf g3;clear HRES g2 g3;go_wp2_with fail;go_ret;exact ⟨by rw[HE.o];rfl,K1.o⟩
   ·have HE:Box (RES=false):=hid (by rw[HRES.o,neb g3];simp)
    have o2:=zjf g2;have o3:=ziY g3;clear HRES g2 g3;go_wp2_with fail;go_ret;exact ⟨by rw[HE.o];rfl,K1.o⟩
  ·have HE:Box (RES=false):=hid (by rw[HRES.o,neb g2];simp)
   have o2:=ziY g2;clear HRES g2;go_wp2_with fail;go_ret;exact ⟨by rw[HE.o];rfl,K1.o⟩
theorem zjy(hf:FuC w fb fo f)(x:In8)(ar:Value)(hop:x.op=6):Calls Tryz.prog 241 #[pointer (some ⟨pb,po,none⟩),pointer (some ⟨fb,fo,none⟩),zt x ar] w fun e w'=>e=.returned (.bool (tyE (zk f x.dst) (zk f x.a)))∧za [] w w':=by
 have ka:=za.alloc [] w (.cells #[int i64 x.op,int i64 x.dst,int i64 x.a,int i64 x.b,int i64 x.n,ar] 54);have hn:=zd w (.cells #[int i64 x.op,int i64 x.dst,int i64 x.a,int i64 x.b,int i64 x.n,ar] 54);have HRT:=hid fun (r:Int) (w':World) (k:za [] w w')=>zn (FuC.stays _ _ _ _ _ k hf) r;have KA:=hid ka;have HN:=hid hn;clear hf ka hn;unfold zt;rw[hop] at KA HN ⊢;go_enter Tryz.func241,Tryz.ntmps241;go_upto_region 1 with fail;generalize w.alloc (.cells #[int i64 6,int i64 x.dst,int i64 x.a,int i64 x.b,int i64 x.n,ar] 54)=WA at *;generalize w.heap.size=q at *;have H1:=hid fun (w':World) (k:za [] WA w')=>HRT.o x.dst w' (KA.o.quiet k);have H2:=hid fun (w':World) (k:za [] WA w')=>HRT.o x.a w' (KA.o.quiet k);have H3:=hid fun (w':World) (k:za [] WA w')=>HRT.o x.b w' (KA.o.quiet k);generalize hT1:zk f x.dst=T1 at *;generalize hT2:zk f x.a=T2 at *;generalize hT3:zk f x.b=T3 at *;have HT1:=hid hT1;have HT2:=hid hT2;have HT3:=hid hT3;clear hT1 hT2 hT3;refine zT HN.o H1.o H2.o H3.o (fun _ _ _ _ _ h=>h) (fun w1 b7 b8 b9 hk t7 t8 t9=> ?_)
 all_goals
  have T7:Box (zY w1 b7 T1):=hid t7;have T8:Box (zY w1 b8 T2):=hid t8;have T9:Box (zY w1 b9 T3):=hid t9;have K1:=hid (KA.o.quiet hk);have h5:=ze HN.o hk;have i0:=zc h5 0;have HI5:=hid h5;clear t7 t8 t9 h5 H1 H2 H3 HN hk;have s0:=zc T7.o 0;have s1:=zc T7.o 1;have p0:=zc T8.o 0;have p1:=zc T8.o 1;have r0:=zc T9.o 0;have r1:=zc T9.o 1;have re:=fun w'=>jk T1.1 T1.2 T2.1 T2.2 w';go_wp2_with fail;go_ret;exact ⟨by rw[HT1.o,HT2.o];rfl,K1.o⟩
theorem zjp(hp:PrC w pb po P)(hf:FuC w fb fo f)(x:In8)(ar:Value)(hop:x.op=7):Calls Tryz.prog 241 #[pointer (some ⟨pb,po,none⟩),pointer (some ⟨fb,fo,none⟩),zt x ar] w fun e w'=>e=.returned (.bool (match zQ P (zk f x.a) x.n with | none=>false | some t=>tyE t (zk f x.dst)))∧za [] w w':=by
 obtain ⟨RES,hRES⟩:∃ r,r=(match zQ P (zk f x.a) x.n with | none=>false | some t=>tyE t (zk f x.dst)):=⟨_,rfl⟩;rw[← hRES];have HRES:=hid hRES;clear hRES;have HFI:=hid fun (w':World) (k:za [] w w')=>ZH (PrC.stays _ _ _ _ _ k hp) (zk f x.a) x.n;clear hp;have ka:=za.alloc [] w (.cells #[int i64 x.op,int i64 x.dst,int i64 x.a,int i64 x.b,int i64 x.n,ar] 54);have hn:=zd w (.cells #[int i64 x.op,int i64 x.dst,int i64 x.a,int i64 x.b,int i64 x.n,ar] 54);have HRT:=hid fun (r:Int) (w':World) (k:za [] w w')=>zn (FuC.stays _ _ _ _ _ k hf) r;have KA:=hid ka;have HN:=hid hn;clear hf ka hn;unfold zt;rw[hop] at KA HN ⊢;go_enter Tryz.func241,Tryz.ntmps241;go_upto_region 1 with fail;generalize w.alloc (.cells #[int i64 7,int i64 x.dst,int i64 x.a,int i64 x.b,int i64 x.n,ar] 54)=WA at *;generalize w.heap.size=q at *;have H1:=hid fun (w':World) (k:za [] WA w')=>HRT.o x.dst w' (KA.o.quiet k);have H2:=hid fun (w':World) (k:za [] WA w')=>HRT.o x.a w' (KA.o.quiet k);have H3:=hid fun (w':World) (k:za [] WA w')=>HRT.o x.b w' (KA.o.quiet k);generalize hT1:zk f x.dst=T1 at *;generalize hT2:zk f x.a=T2 at *;generalize hT3:zk f x.b=T3 at *;have HT1:=hid hT1;have HT2:=hid hT2;have HT3:=hid hT3;clear hT1 hT2 hT3;refine zT HN.o H1.o H2.o H3.o (fun _ _ _ _ _ h=>h) (fun w1 b7 b8 b9 hk t7 t8 t9=> ?_)
 all_goals
  have T7:Box (zY w1 b7 T1):=hid t7;have T8:Box (zY w1 b8 T2):=hid t8;have T9:Box (zY w1 b9 T3):=hid t9;have K1:=hid (KA.o.quiet hk);have h5:=ze HN.o hk;have i0:=zc h5 0;have HI5:=hid h5;clear t7 t8 t9 h5 H1 H2 H3 HN hk;have s0:=zc T7.o 0;have s1:=zc T7.o 1;have p0:=zc T8.o 0;have p1:=zc T8.o 1;have r0:=zc T9.o 0;have r1:=zc T9.o 1
  try simp only[HT2.o,HT1.o] at HRES
  have i4:=zc HI5.o 4;generalize hO:zQ P T2 x.n=O at *;clear hO;obtain ⟨t,b,hv,hb⟩:=jI O;rw[hv] at HFI
  have HOB:Box (b=O.isSome∧∀ u,O=some u→t=u):=hid ⟨hb,fun u e=>by
   subst e;unfold zaO tyV at hv;simp at hv
   exact Prod.ext hv.1.1.symm hv.1.2.symm⟩
  clear hv hb;go_wp2_with fail;refine (HFI.o _ K1.o).mono ?_;rintro e w3 ⟨rfl,k3⟩;have KT:=k3.quiet (za.alloc [] w3 (.cells #[int i64 t.1,int i64 t.2] 52));have hd:=ze T7.o KT;have hnn:=zd w3 (.cells #[int i64 t.1,int i64 t.2] 52);have KZ:=hid (K1.o.quiet KT);have j0:=zc hd 0;have j1:=zc hd 1;have n0:=zc hnn 0;have n1:=zc hnn 1;clear k3 KT hd hnn s0 s1 p0 p1 r0 r1 i0 i4;have re:=fun w'=>jk t.1 t.2 T1.1 T1.2 w';cases O with
  | none=>
   have HB:Box (RES=false):=HRES;have eb:b=false:=HOB.o.1;subst eb;go_wp2_with fail;go_ret;exact ⟨by rw[HB.o];rfl,KZ.o⟩
  | some u=>
   have eu:t=u:=HOB.o.2 u rfl;subst eu;have HB:Box (RES=tyE t T1):=HRES;have eb:b=true:=HOB.o.1;subst eb;go_wp2_with fail;go_ret;exact ⟨by rw[HB.o];rfl,KZ.o⟩
theorem zj3(hp:PrC w pb po P)(hf:FuC w fb fo f)(x:In8)(ar:Value)(hop:x.op=8):Calls Tryz.prog 241 #[pointer (some ⟨pb,po,none⟩),pointer (some ⟨fb,fo,none⟩),zt x ar] w fun e w'=>e=.returned (.bool (match zQ P (zk f x.a) x.n with | none=>false | some t=>tyE t (zk f x.b)))∧za [] w w':=by
 obtain ⟨RES,hRES⟩:∃ r,r=(match zQ P (zk f x.a) x.n with | none=>false | some t=>tyE t (zk f x.b)):=⟨_,rfl⟩;rw[← hRES];have HRES:=hid hRES;clear hRES;have HFI:=hid fun (w':World) (k:za [] w w')=>ZH (PrC.stays _ _ _ _ _ k hp) (zk f x.a) x.n;clear hp;have ka:=za.alloc [] w (.cells #[int i64 x.op,int i64 x.dst,int i64 x.a,int i64 x.b,int i64 x.n,ar] 54);have hn:=zd w (.cells #[int i64 x.op,int i64 x.dst,int i64 x.a,int i64 x.b,int i64 x.n,ar] 54);have HRT:=hid fun (r:Int) (w':World) (k:za [] w w')=>zn (FuC.stays _ _ _ _ _ k hf) r;have KA:=hid ka;have HN:=hid hn;clear hf ka hn;unfold zt;rw[hop] at KA HN ⊢;go_enter Tryz.func241,Tryz.ntmps241;go_upto_region 1 with fail;generalize w.alloc (.cells #[int i64 8,int i64 x.dst,int i64 x.a,int i64 x.b,int i64 x.n,ar] 54)=WA at *;generalize w.heap.size=q at *;have H1:=hid fun (w':World) (k:za [] WA w')=>HRT.o x.dst w' (KA.o.quiet k);have H2:=hid fun (w':World) (k:za [] WA w')=>HRT.o x.a w' (KA.o.quiet k);have H3:=hid fun (w':World) (k:za [] WA w')=>HRT.o x.b w' (KA.o.quiet k);generalize hT1:zk f x.dst=T1 at *;generalize hT2:zk f x.a=T2 at *;generalize hT3:zk f x.b=T3 at *;have HT1:=hid hT1;have HT2:=hid hT2;have HT3:=hid hT3;clear hT1 hT2 hT3;refine zT HN.o H1.o H2.o H3.o (fun _ _ _ _ _ h=>h) (fun w1 b7 b8 b9 hk t7 t8 t9=> ?_)
 all_goals
  have T7:Box (zY w1 b7 T1):=hid t7;have T8:Box (zY w1 b8 T2):=hid t8;have T9:Box (zY w1 b9 T3):=hid t9;have K1:=hid (KA.o.quiet hk);have h5:=ze HN.o hk;have i0:=zc h5 0;have HI5:=hid h5;clear t7 t8 t9 h5 H1 H2 H3 HN hk;have s0:=zc T7.o 0;have s1:=zc T7.o 1;have p0:=zc T8.o 0;have p1:=zc T8.o 1;have r0:=zc T9.o 0;have r1:=zc T9.o 1
  try simp only[HT2.o,HT3.o] at HRES
  have i4:=zc HI5.o 4;generalize hO:zQ P T2 x.n=O at *;clear hO;obtain ⟨t,b,hv,hb⟩:=jI O;rw[hv] at HFI
  have HOB:Box (b=O.isSome∧∀ u,O=some u→t=u):=hid ⟨hb,fun u e=>by
   subst e;unfold zaO tyV at hv;simp at hv
   exact Prod.ext hv.1.1.symm hv.1.2.symm⟩
  clear hv hb;go_wp2_with fail;refine (HFI.o _ K1.o).mono ?_;rintro e w3 ⟨rfl,k3⟩;have KT:=k3.quiet (za.alloc [] w3 (.cells #[int i64 t.1,int i64 t.2] 52));have hd:=ze T9.o KT;have hnn:=zd w3 (.cells #[int i64 t.1,int i64 t.2] 52);have KZ:=hid (K1.o.quiet KT);have j0:=zc hd 0;have j1:=zc hd 1;have n0:=zc hnn 0;have n1:=zc hnn 1;clear k3 KT hd hnn s0 s1 p0 p1 r0 r1 i0 i4;have re:=fun w'=>jk t.1 t.2 T3.1 T3.2 w';cases O with
  | none=>
   have HB:Box (RES=false):=HRES;have eb:b=false:=HOB.o.1;subst eb;go_wp2_with fail;go_ret;exact ⟨by rw[HB.o];rfl,KZ.o⟩
  | some u=>
   have eu:t=u:=HOB.o.2 u rfl;subst eu;have HB:Box (RES=tyE t T3):=HRES;have eb:b=true:=HOB.o.1;subst eb;go_wp2_with fail;go_ret;exact ⟨by rw[HB.o];rfl,KZ.o⟩
theorem ziK(hp:PrC w pb po P)(hf:FuC w fb fo f)(x:In8)(ar:Value)(hn:inB x.n P.funcs.length=true)(hop:x.op=10):Calls Tryz.prog 241 #[pointer (some ⟨pb,po,none⟩),pointer (some ⟨fb,fo,none⟩),zt x ar] w fun e w'=>e=.returned (.bool (tyE (zk f x.dst) (2,(zf P x.n.toNat).sig)))∧za [] w w':=by
 obtain ⟨RES,hRES⟩:∃ r,r=(tyE (zk f x.dst) (2,(zf P x.n.toNat).sig)):=⟨_,rfl⟩;rw[← hRES];have HRES:=hid hRES;clear hRES;obtain ⟨g0,g1⟩:=z6.1 hn;obtain ⟨m,hm⟩:∃ m:Nat,x.n=(m:Int):=⟨x.n.toNat,by omega⟩;have HW:Box (∀ w,Calls Tryz.prog 123 #[int i64 x.n,int i64 (P.funcs.length:Int)] w fun e w'=>e=.returned (.bool true)∧w'=w):=hid fun w=>by rw[← hn];exact zo _ _ w
 obtain ⟨fa,fp,c4,r4,_⟩:=hp.c4;obtain ⟨gb,go,rfl,hfu0⟩:=r4.at (zi (l:=P.funcs) (k:=m) (d:=⟨0,[],[]⟩) (by omega));have HC4:Box (∀ w',za [] w w'→w'.cell? ⟨pb,po+4,none⟩=some (.slice (some ⟨gb,go,none⟩) P.funcs.length fp)∧w'.cell? ⟨gb,go+m * 3,none⟩=some (int i64 (zf P m).sig)):=hid fun w' k=>⟨zb k c4,zb k hfu0.c0.1⟩;have em:x.n.toNat=m:=by omega
 have hgm:(m:Int)<(P.funcs.length:Int):=by omega
 rw[em] at HRES;have hmm:=hid hm;clear c4 r4 hfu0 hn g0 g1 em hm hp;generalize (zf P m).sig=sn at *;generalize P.funcs.length=FN at *;have ka:=za.alloc [] w (.cells #[int i64 x.op,int i64 x.dst,int i64 x.a,int i64 x.b,int i64 x.n,ar] 54);have hn:=zd w (.cells #[int i64 x.op,int i64 x.dst,int i64 x.a,int i64 x.b,int i64 x.n,ar] 54);have HRT:=hid fun (r:Int) (w':World) (k:za [] w w')=>zn (FuC.stays _ _ _ _ _ k hf) r;have KA:=hid ka;have HN:=hid hn;clear hf ka hn;unfold zt;rw[hop] at KA HN ⊢;go_enter Tryz.func241,Tryz.ntmps241;go_upto_region 1 with fail;generalize w.alloc (.cells #[int i64 10,int i64 x.dst,int i64 x.a,int i64 x.b,int i64 x.n,ar] 54)=WA at *;generalize w.heap.size=q at *;have H1:=hid fun (w':World) (k:za [] WA w')=>HRT.o x.dst w' (KA.o.quiet k);have H2:=hid fun (w':World) (k:za [] WA w')=>HRT.o x.a w' (KA.o.quiet k);have H3:=hid fun (w':World) (k:za [] WA w')=>HRT.o x.b w' (KA.o.quiet k);generalize hT1:zk f x.dst=T1 at *;generalize hT2:zk f x.a=T2 at *;generalize hT3:zk f x.b=T3 at *;have HT1:=hid hT1;have HT2:=hid hT2;have HT3:=hid hT3;clear hT1 hT2 hT3;refine zT HN.o H1.o H2.o H3.o (fun _ _ _ _ _ h=>h) (fun w1 b7 b8 b9 hk t7 t8 t9=> ?_)
 all_goals
  have T7:Box (zY w1 b7 T1):=hid t7;have T8:Box (zY w1 b8 T2):=hid t8;have T9:Box (zY w1 b9 T3):=hid t9;have K1:=hid (KA.o.quiet hk);have h5:=ze HN.o hk;have i0:=zc h5 0;have HI5:=hid h5;clear t7 t8 t9 h5 H1 H2 H3 HN hk;have s0:=zc T7.o 0;have s1:=zc T7.o 1;have p0:=zc T8.o 0;have p1:=zc T8.o 1;have r0:=zc T9.o 0;have r1:=zc T9.o 1
  try simp only[HT1.o] at HRES
  have i4:=zc HI5.o 4;rw[hmm.o] at i4 HW;clear hmm;obtain ⟨f4,f5⟩:=HC4.o _ K1.o;have re:=fun w'=>jk T1.1 T1.2 2 sn w';go_upto_region 29 with fail;go_quiet ((go_at_call 123;exact Calls.quiet_of_same (HW.o _)));go_wp2_with fail;go_ret;exact ⟨by rw[HRES.o];rfl,K1.o.quiet (za.drewN _ _ _)⟩
theorem zhV(hp:PrC w pb po P)(hf:FuC w fb fo f)(x:In8)(ar:Value)(hop:x.op=11):Calls Tryz.prog 241 #[pointer (some ⟨pb,po,none⟩),pointer (some ⟨fb,fo,none⟩),zt x ar] w fun e w'=>e=.returned (.bool ((zk f x.dst).1 == 3 && ((zk f x.a).1 == 1 && Jq P (zk f x.a).2 (zk f x.dst).2)))∧za [] w w':=by
 obtain ⟨RES,hRES⟩:∃ r,r=((zk f x.dst).1 == 3 && ((zk f x.a).1 == 1 && Jq P (zk f x.a).2 (zk f x.dst).2)):=⟨_,rfl⟩;rw[← hRES];have HRES:=hid hRES;clear hRES;have HIM:=hid fun (w':World) (k:za [] w w')=>ze4 (PrC.stays _ _ _ _ _ k hp) (zk f x.a).2 (zk f x.dst).2;clear hp;have ka:=za.alloc [] w (.cells #[int i64 x.op,int i64 x.dst,int i64 x.a,int i64 x.b,int i64 x.n,ar] 54);have hn:=zd w (.cells #[int i64 x.op,int i64 x.dst,int i64 x.a,int i64 x.b,int i64 x.n,ar] 54);have HRT:=hid fun (r:Int) (w':World) (k:za [] w w')=>zn (FuC.stays _ _ _ _ _ k hf) r;have KA:=hid ka;have HN:=hid hn;clear hf ka hn;unfold zt;rw[hop] at KA HN ⊢;go_enter Tryz.func241,Tryz.ntmps241;go_upto_region 1 with fail;generalize w.alloc (.cells #[int i64 11,int i64 x.dst,int i64 x.a,int i64 x.b,int i64 x.n,ar] 54)=WA at *;generalize w.heap.size=q at *;have H1:=hid fun (w':World) (k:za [] WA w')=>HRT.o x.dst w' (KA.o.quiet k);have H2:=hid fun (w':World) (k:za [] WA w')=>HRT.o x.a w' (KA.o.quiet k);have H3:=hid fun (w':World) (k:za [] WA w')=>HRT.o x.b w' (KA.o.quiet k);generalize hT1:zk f x.dst=T1 at *;generalize hT2:zk f x.a=T2 at *;generalize hT3:zk f x.b=T3 at *;have HT1:=hid hT1;have HT2:=hid hT2;have HT3:=hid hT3;clear hT1 hT2 hT3;refine zT HN.o H1.o H2.o H3.o (fun _ _ _ _ _ h=>h) (fun w1 b7 b8 b9 hk t7 t8 t9=> ?_)
 all_goals
  have T7:Box (zY w1 b7 T1):=hid t7;have T8:Box (zY w1 b8 T2):=hid t8;have T9:Box (zY w1 b9 T3):=hid t9;have K1:=hid (KA.o.quiet hk);have h5:=ze HN.o hk;have i0:=zc h5 0;have HI5:=hid h5;clear t7 t8 t9 h5 H1 H2 H3 HN hk;have s0:=zc T7.o 0;have s1:=zc T7.o 1;have p0:=zc T8.o 0;have p1:=zc T8.o 1;have r0:=zc T9.o 0;have r1:=zc T9.o 1
  try simp only[HT1.o,HT2.o] at HRES
  by_cases g1:T1.1=3
  ·by_cases g2:T2.1=1
   ·have HE:Box (RES=Jq P T2.2 T1.2):=hid (by rw[HRES.o,g1,g2];rfl)
    have o1:=eqb g1;have o2:=eqb g2;clear HRES g1 g2;go_wp2_with fail;refine (HIM.o _ K1.o).mono ?_;rintro e w3 ⟨rfl,hw3⟩;rw[hw3];clear hw3;go_wp2_with fail;go_ret;exact ⟨by rw[HE.o];rfl,K1.o⟩
   ·have HE:Box (RES=false):=hid (by rw[HRES.o,neb g2];simp)
    have o1:=eqb g1;have o2:=neb g2;clear HRES g1 g2 HIM;go_wp2_with fail;go_ret;exact ⟨by rw[HE.o];rfl,K1.o⟩
  ·have HE:Box (RES=false):=hid (by rw[HRES.o,neb g1];simp)
   have o1:=neb g1;clear HRES g1 HIM;go_wp2_with fail;go_ret;exact ⟨by rw[HE.o];rfl,K1.o⟩
theorem zae{b:Bool}(ho:oi.op=.unOp .not 4 x)(hx:ev x=.bool b)(hr:(!b)=r:=by rfl):(execOp ev oi).run Tryz.prog w=.ok (.value (.bool r)) w:=by
 subst hr;simp[execOp,ho,hx,go_sem]
theorem zZ(hc:w.cell? ad=some v)(ho:oi.op=.load 3 y)(hy:ev y=.pointer (some ad)):(execOp ev oi).run Tryz.prog w=.ok (.value v) w:=by simp[execOp,ho,hy,go_sem,hc]
theorem q9(hc:w.cell? ad=some v)(ho:oi.op=.load 47 y)(hy:ev y=.pointer (some ad)):(execOp ev oi).run Tryz.prog w=.ok (.value v) w:=by simp[execOp,ho,hy,go_sem,hc]
theorem Q8(ho:oi.op=.indexAddr 47 x y)(hx:ev x=.slice (some ⟨b,o,none⟩) n c)(hy:ev y=int i64 (j:Int))(hj:(j:Int)<(n:Int)):(execOp ev oi).run Tryz.prog w=.ok (.value (pointer (some ⟨b,o+j * 2,none⟩))) w:=by
 simp[execOp,ho,hx,hy,go_sem];intro h';omega
theorem ZC(ho:oi.op=.call { callee:=.builtin .len,args:=#[x],argTypes:=#[47] })(hx:ev x=.slice a n c):(execOp ev oi).run Tryz.prog w=.ok (.value (int i64 (n:Int))) w:=by
 obtain ⟨dst,op,type,pos,after,guard⟩:=oi;simp only at ho;subst ho;simp[hx,go_sem]
theorem QK(hc:w.cell? ad=some v)(ho:oi.op=.load 40 y)(hy:ev y=.pointer (some ad)):(execOp ev oi).run Tryz.prog w=.ok (.value v) w:=by simp[execOp,ho,hy,go_sem,hc]
theorem ZN(ho:oi.op=.call { callee:=.builtin .len,args:=#[x],argTypes:=#[40] })(hx:ev x=.slice a n c):(execOp ev oi).run Tryz.prog w=.ok (.value (int i64 (n:Int))) w:=by
 obtain ⟨dst,op,type,pos,after,guard⟩:=oi;simp only at ho;subst ho;simp[hx,go_sem]
theorem qX(hc:w.cell? ad=some v)(ho:oi.op=.load 41 y)(hy:ev y=.pointer (some ad)):(execOp ev oi).run Tryz.prog w=.ok (.value v) w:=by simp[execOp,ho,hy,go_sem,hc]
theorem za4(ho:oi.op=.indexAddr 41 x y)(hx:ev x=.slice (some ⟨b,o,none⟩) n c)(hy:ev y=int i64 (j:Int))(hj:(j:Int)<(n:Int)):(execOp ev oi).run Tryz.prog w=.ok (.value (pointer (some ⟨b,o+j * 3,none⟩))) w:=by
 simp[execOp,ho,hx,hy,go_sem];intro h';omega
theorem jo(ho:oi.op=.call { callee:=.builtin .len,args:=#[x],argTypes:=#[41] })(hx:ev x=.slice a n c):(execOp ev oi).run Tryz.prog w=.ok (.value (int i64 (n:Int))) w:=by
 obtain ⟨dst,op,type,pos,after,guard⟩:=oi;simp only at ho;subst ho;simp[hx,go_sem]
theorem JW(hc:w.cell? ad=some v)(ho:oi.op=.load 39 y)(hy:ev y=.pointer (some ad)):(execOp ev oi).run Tryz.prog w=.ok (.value v) w:=by simp[execOp,ho,hy,go_sem,hc]
theorem zgq(ho:oi.op=.indexAddr 39 x y)(hx:ev x=.slice (some ⟨b,o,none⟩) n c)(hy:ev y=int i64 (j:Int))(hj:(j:Int)<(n:Int)):(execOp ev oi).run Tryz.prog w=.ok (.value (pointer (some ⟨b,o+j,none⟩))) w:=by
 simp[execOp,ho,hx,hy,go_sem];intro h';omega
theorem zaC(ho:oi.op=.call { callee:=.builtin .len,args:=#[x],argTypes:=#[39] })(hx:ev x=.slice a n c):(execOp ev oi).run Tryz.prog w=.ok (.value (int i64 (n:Int))) w:=by
 obtain ⟨dst,op,type,pos,after,guard⟩:=oi;simp only at ho;subst ho;simp[hx,go_sem]
theorem zcw(ho:oi.op=.indexAddr 42 x y)(hx:ev x=.slice (some ⟨b,o,none⟩) n c)(hy:ev y=int i64 (j:Int))(hj:(j:Int)<(n:Int)):(execOp ev oi).run Tryz.prog w=.ok (.value (pointer (some ⟨b,o+j * 3,none⟩))) w:=by
 simp[execOp,ho,hx,hy,go_sem];intro h';omega
theorem jl(hc:w.cell? ad=some v)(ho:oi.op=.load 43 y)(hy:ev y=.pointer (some ad)):(execOp ev oi).run Tryz.prog w=.ok (.value v) w:=by simp[execOp,ho,hy,go_sem,hc]
theorem Qw(ho:oi.op=.indexAddr 43 x y)(hx:ev x=.slice (some ⟨b,o,none⟩) n c)(hy:ev y=int i64 (j:Int))(hj:(j:Int)<(n:Int)):(execOp ev oi).run Tryz.prog w=.ok (.value (pointer (some ⟨b,o+j * 3,none⟩))) w:=by
 simp[execOp,ho,hx,hy,go_sem];intro h';omega
theorem ZE(ho:oi.op=.call { callee:=.builtin .len,args:=#[x],argTypes:=#[43] })(hx:ev x=.slice a n c):(execOp ev oi).run Tryz.prog w=.ok (.value (int i64 (n:Int))) w:=by
 obtain ⟨dst,op,type,pos,after,guard⟩:=oi;simp only at ho;subst ho;simp[hx,go_sem]
theorem zfH(hc:w.cell? ad=some v)(ho:oi.op=.load 36 y)(hy:ev y=.pointer (some ad)):(execOp ev oi).run Tryz.prog w=.ok (.value v) w:=by simp[execOp,ho,hy,go_sem,hc]
theorem zes(ho:oi.op=.indexAddr 36 x y)(hx:ev x=.slice (some ⟨b,o,none⟩) n c)(hy:ev y=int i64 (j:Int))(hj:(j:Int)<(n:Int)):(execOp ev oi).run Tryz.prog w=.ok (.value (pointer (some ⟨b,o+j,none⟩))) w:=by
 simp[execOp,ho,hx,hy,go_sem];intro h';omega
theorem qL(h0:w.cell? ⟨b,o+0,none⟩=some v0)(h1:w.cell? ⟨b,o+1,none⟩=some v1)(ho:oi.op=.load 52 y)(hy:ev y=pointer (some ⟨b,o,none⟩)):(execOp ev oi).run Tryz.prog w=.ok (.value (agg #[v0,v1])) w:=by
 rw[Nat.add_zero] at h0;simp[execOp,ho,hy,go_sem,h0,h1]
theorem ziD(h0:w.cell? ⟨b,o+0,none⟩=some v0)(h1:w.cell? ⟨b,o+1,none⟩=some v1)(h2:w.cell? ⟨b,o+2,none⟩=some v2)(ho:oi.op=.load 99 y)(hy:ev y=pointer (some ⟨b,o,none⟩)):(execOp ev oi).run Tryz.prog w=.ok (.value (agg #[v0,v1,v2])) w:=by
 rw[Nat.add_zero] at h0;simp[execOp,ho,hy,go_sem,h0,h1,h2]
theorem za2{a b:Int}(ho:oi.op=.binOp .gtr 3 x y 3)(hx:ev x=int i64 a)(hy:ev y=int i64 b)(hr:decide (b<a)=r):(execOp ev oi).run Tryz.prog w=.ok (.value (.bool r)) w:=by
 simp[execOp,ho,hx,hy,go_sem,hr]
theorem ql{P:Program}{f:Nat}{ts:Array TypeId}(ho:oi.op=.call { callee:=.value (.func f),args:=#[x0,x1],argTypes:=ts })(hf:ev (.func f)=.func (.func f) #[] #[])(h0:ev x0=v0)(h1:ev x1=v1)(hc:(callFunc f #[v0,v1]).run P w=.ok (.enter f #[v0,v1]) w):(execOp ev oi).run P w=.ok (.enter f #[v0,v1]) w:=by
 subst h0 h1;simp[execOp,ho,hf,go_sem,hc]
theorem zia{P:Program}{f:Nat}{x2:Operand}{ts:Array TypeId}(ho:oi.op=.call { callee:=.value (.func f),args:=#[x0,x1,x2],argTypes:=ts })(hf:ev (.func f)=.func (.func f) #[] #[])(h0:ev x0=v0)(h1:ev x1=v1)(h2:ev x2=v2)(hc:(callFunc f #[v0,v1,v2]).run P w=.ok (.enter f #[v0,v1,v2]) w):(execOp ev oi).run P w=.ok (.enter f #[v0,v1,v2]) w:=by
 subst h0 h1 h2;simp[execOp,ho,hf,go_sem,hc]
theorem zhU{P:Program}{f:Nat}{x2 x3:Operand}{ts:Array TypeId}{v3:Value}(ho:oi.op=.call { callee:=.value (.func f),args:=#[x0,x1,x2,x3],argTypes:=ts })(hf:ev (.func f)=.func (.func f) #[] #[])(h0:ev x0=v0)(h1:ev x1=v1)(h2:ev x2=v2)(h3:ev x3=v3)(hc:(callFunc f #[v0,v1,v2,v3]).run P w=.ok (.enter f #[v0,v1,v2,v3]) w):(execOp ev oi).run P w=.ok (.enter f #[v0,v1,v2,v3]) w:=by
 subst h0 h1 h2 h3;simp[execOp,ho,hf,go_sem,hc]
theorem ze8{a b c d:Int}(ho:oi.op=.binOp .eql 52 x y 52)(hx:ev x=agg #[int i64 a,int i64 b])(hy:ev y=agg #[int i64 c,int i64 d])(hr:tyE (a,b) (c,d)=r):(execOp ev oi).run Tryz.prog w=.ok (.value (.bool r)) w:=by
 subst hr;simp[execOp,ho,hx,hy,go_sem];unfold tyE;by_cases h:a=c <;> by_cases h':b=d <;> simp[h,h']
theorem zgc{a b c d:Int}(ho:oi.op=.binOp .neq 52 x y 52)(hx:ev x=agg #[int i64 a,int i64 b])(hy:ev y=agg #[int i64 c,int i64 d])(hr:tyE (a,b) (c,d)=r):(execOp ev oi).run Tryz.prog w=.ok (.value (.bool (!r))) w:=by
 subst hr;simp[execOp,ho,hx,hy,go_sem];unfold tyE;by_cases h:a=c <;> by_cases h':b=d <;> simp[h,h']
theorem zkf{p m:Nat}{ad:Option Addr}{k:Operand}(ho:oi.op=.slice 47 x (some k) none none)(hx:ev x=.slice (some ⟨b,o,none⟩) n p)(hk:ev k=int i64 1)(hn:n=m+1)(hp:p=c+1)(had:ad=if c=0 then some ⟨b,o,none⟩ else some ⟨b,o+2,none⟩):(execOp ev oi).run Tryz.prog w=.ok (.value (.slice ad m c)) w:=by
 subst hn hp had;have h1:(1:Int)≤(m:Int)+1:=by omega
 simp[execOp,ho,hx,hk,go_sem,h1]
theorem zj0(ho:oi.op=.indexAddr 47 x y)(hx:ev x=.slice (some ⟨b,o,none⟩) n c)(hy:ev y=int i64 0)(hj:(0:Int)<(n:Int)):(execOp ev oi).run Tryz.prog w=.ok (.value (pointer (some ⟨b,o,none⟩))) w:=by
 simp[execOp,ho,hx,hy,go_sem];omega
theorem zG(v u:Value)(w:World):(callFunc 194 #[v,u]).run Tryz.prog w=.ok (.enter 194 #[v,u]) w:=by go_simp
theorem Jz(v u:Value)(w:World):(callFunc 239 #[v,u]).run Tryz.prog w=.ok (.enter 239 #[v,u]) w:=by go_simp
end Go.Proofs.YthflgjkmbakedaaGreatDoor
