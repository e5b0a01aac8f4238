import Derived.Test.YtkgoimokgbdgfaaGreatDoorV13

namespace Go.Proofs.YtkgoimokgbdgfaaGreatDoor
open Go.RowKit
open Go.Value (int pointer agg)
open Go.IntKind (i64)
set_option maxHeartbeats 4000000
set_option maxRecDepth 20000
variable {P:Pr8}{f:Fu8}{fb fo pb po:Nat}{w:World}
def zaj(P:Pr8)(r i:Int):Bool:=P.ims.any fun m=>m.1 == r && m.2.1 == i
theorem zkO(h:PrC w pb po P)(r i:Int):Calls Tryz.prog 171 #[pointer (some ⟨pb,po,none⟩),int i64 r,int i64 i] w fun e w'=>e=.returned (.bool (zaj P r i))∧w'=w:=by
 obtain ⟨a,cp,c3,hr,_,hm⟩:=h.c3;have HR:=hid hr;obtain ⟨n,hn⟩:∃ n,n=P.ims.length:=⟨_,rfl⟩;rw[← hn] at c3 hm;have HL:=hid hn;have hn1:(n:Int)≤9223372036854775807:=by unfold maxLen at hm;omega
 clear h hr hn hm;go_enter Tryz.func171,Tryz.ntmps171;go_wp2_with fail
 go_loop [13] (fun kv=>∃ k:Nat,k≤n∧kv=int i64 (k:Int)∧Box (∀ j y,j<k→P.ims[j]? = some y→(y.1 == r && y.2.1 == i)=false)) (fun kv=>n - (intOf kv).toNat)
 case atStart=>exact ⟨0,by omega,rfl,hid fun j y hj=>by omega⟩
 case round=>
  obtain ⟨k,hk,rfl,HB⟩:=hrel;by_cases hlt:k<n
  ·have hlt':(k:Int)<(n:Int):=by omega
   have HY:=hid (zh (l:=P.ims) (k:=k) (d:=(0,0,[])) (by rw[← HL.o];exact hlt));obtain ⟨b,off,rfl,hc⟩:=HR.o.at HY.o;have d0:=hc.c0.1;have d1:=hc.c1.1;have NEXT:Box (∀ y,P.ims[k]? = some y→(y.1 == r && y.2.1 == i)=false→∀ j z,j<k+1→P.ims[j]? = some z→(z.1 == r && z.2.1 == i)=false):=hid fun y hy hg j z hj hz=>by
    by_cases e:j<k
    ·exact HB.o j z e hz
    ·obtain rfl:j=k:=by omega
     rw[hy] at hz;cases hz;exact hg
   clear hc HB;generalize P.ims.getD k (0,0,[])=y at *;by_cases e1:y.1=r
   ·have q1:(y.1 == r)=true:=eqb e1
    by_cases e2:y.2.1=i
    ·have q2:(y.2.1 == i)=true:=eqb e2
     have HT:Box (zaj P r i=true):=hid (List.any_eq_true.2 ⟨y,List.mem_of_getElem? HY.o,by rw[q1,q2];rfl⟩);clear e1 e2 NEXT;go_wp2_with fail;go_ret;exact ⟨by rw[HT.o];rfl,rfl⟩
    ·have q2:(y.2.1 == i)=false:=neb e2
     have HN:=hid (NEXT.o y HY.o (by rw[q1,q2];rfl));clear e1 e2 NEXT;go_wp2_with fail
     go_round
     case rel=>exact ⟨k+1,by omega,by go_num,HN⟩
     case measure=>simp[intOf];omega
   ·have q1:(y.1 == r)=false:=neb e1
    have HN:=hid (NEXT.o y HY.o (by rw[q1];rfl));clear e1 NEXT;go_wp2_with fail
    go_round
    case rel=>exact ⟨k+1,by omega,by go_num,HN⟩
    case measure=>simp[intOf];omega
  ·obtain rfl:n=k:=by omega
   have HF:Box (zaj P r i=false):=hid (List.any_eq_false.2 fun y hy=>by
    obtain ⟨j,hj,e⟩:=List.getElem_of_mem hy;have:=HB.o j y (by rw[HL.o];exact hj) (by rw[List.getElem?_eq_getElem hj,e]);rw[this]
    simp)
   go_wp2_with fail;go_ret;exact ⟨by rw[HF.o];rfl,rfl⟩
def jk(f:Fu8)(l:List Int)(ps:List (Int × Int)):Bool:=decide (l.length=ps.length) && (List.range l.length).all fun k=>tyE (zp f (l.getD k 0)) (ps.getD k (0,0))
theorem zcq(hf:FuC w fb fo f){a:Option Addr}{cp:Nat}{l:List Int}(hz:zw w a l)(hl:l.length≤1000){pa:Option Addr}{pp:Nat}{ps:List (Int × Int)}(hp:zy w 2 TyC pa ps):Calls Tryz.prog 173 #[pointer (some ⟨fb,fo,none⟩),.slice a l.length cp,.slice pa ps.length pp] w fun e w'=>e=.returned (.bool (jk f l ps))∧zc [] w w':=by
 have HZ:=hid hz;have HP:=hid hp;have HRT:=hid fun (r:Int) (w':World) (k:zc [] w w')=>zA (FuC.stays _ _ _ _ _ k hf) r;have HE:Box (jk f l ps=(decide (l.length=ps.length) && (List.range l.length).all fun k=>tyE (zp f (l.getD k 0)) (ps.getD k (0,0)))):=hid rfl;obtain ⟨n,hn⟩:∃ n,n=l.length:=⟨_,rfl⟩;obtain ⟨m,hm⟩:∃ m,m=ps.length:=⟨_,rfl⟩;rw[← hn, ← hm] at HE;rw[← hn, ← hm];have HL:=hid hn;have HM:=hid hm;have hn1:(n:Int)≤9223372036854775807:=by omega
 clear hf hz hl hp hn hm;by_cases hnm:n=m
 case neg=>
  have q1:((n:Int) != (m:Int))=true:=J4 (by omega);have HF:Box (jk f l ps=false):=hid (by rw[HE.o];simp[hnm]);clear hnm HE;go_enter Tryz.func173,Tryz.ntmps173;go_wp2_with fail;go_ret;exact ⟨by rw[HF.o];rfl,zc.refl _ _⟩
 obtain rfl:m=n:=hnm.symm;have q1:((m:Int) != (m:Int))=false:=JV rfl;have HG:Box (jk f l ps=(List.range m).all fun k=>tyE (zp f (l.getD k 0)) (ps.getD k (0,0))):=hid (by rw[HE.o];simp);clear hnm HE;go_enter Tryz.func173,Tryz.ntmps173;go_wp2_with fail
 go_loopw [16] (fun kv wr=>∃ k:Nat,k≤m∧kv=int i64 (k:Int)∧Box (zc [] w wr)∧Box (∀ j,j<k→tyE (zp f (l.getD j 0)) (ps.getD j (0,0))=true)) (fun kv _=>m - (intOf kv).toNat)
 case atStart=>exact ⟨0,by omega,rfl,hid (zc.refl _ _),hid fun j hj=>by omega⟩
 case round=>
  obtain ⟨k,hk,rfl,HK,HA⟩:=hrel;by_cases hlt:k<m
  ·have hlt':(k:Int)<(m:Int):=by omega
   obtain ⟨b,off,rfl,hc⟩:∃ b off,a=some ⟨b,off,none⟩∧w.cell? ⟨b,off+k,none⟩=some (int i64 (l.getD k 0)):=by
    rcases HZ.o with e | ⟨b,off,e,h⟩
    ·rw[e] at HL;have:=HL.o;simp at this;omega
    ·exact ⟨b,off,e,h k (by rw[← HL.o];exact hlt)⟩
   obtain ⟨b',off',rfl,hc'⟩:=HP.o.at (zh (l:=ps) (k:=k) (d:=(0,0)) (by rw[← HM.o];exact hlt));have d:=za HK.o hc;have d0:=za HK.o hc'.c0.1;have d1:=za HK.o hc'.c1.1;have HC:=hid (HRT.o (l.getD k 0));have REL:Box (tyE (zp f (l.getD k 0)) (ps.getD k (0,0))=true→∀ j,j<k+1→tyE (zp f (l.getD j 0)) (ps.getD j (0,0))=true):=hid fun hg j hj=>by
    by_cases e:j<k
    ·exact HA.o j e
    ·obtain rfl:j=k:=by omega
     exact hg
   have BAD:Box (tyE (zp f (l.getD k 0)) (ps.getD k (0,0))=false→jk f l ps=false):=hid fun hg=>by
    rw[HG.o,List.all_eq_false];exact ⟨k,List.mem_range.2 hlt,by rw[hg];simp⟩
   clear hc hc';generalize zp f (l.getD k 0)=U at *;generalize l.getD k 0=r at *;generalize ps.getD k (0,0)=T at *;have rn:=fun w'=>zhR U.1 U.2 T.1 T.2 w';unfold tyV at HC;cases hg:tyE U T with
   | true=>
    have hg':tyE (U.1,U.2) (T.1,T.2)=true:=hg;rw[hg'] at rn;have HR2:=hid (REL.o hg);clear hg hg' REL BAD;go_upto_region 6 with fail
    go_region_held3 (fun w'=>w'.cell? ⟨b',off'+k * 2,none⟩=some (int i64 T.1)∧w'.cell? ⟨b',off'+k * 2+1,none⟩=some (int i64 T.2)) (go_keep) (first | (go_at_call 151;refine (HC.o _ (HK.o.quiet (zc.drew [] _))).mono ?_;rintro e w5 ⟨rfl,k5⟩;have e0:=za ((zc.drew [] _).quiet k5) d0;have e1:=za ((zc.drew [] _).quiet k5) d1;have K5:=hid ((HK.o.quiet (zc.drew [] _)).quiet k5);clear k5))
    go_wp2_with fail;go_roundw
    case rel=>exact ⟨k+1,by omega,by go_num,K5,HR2⟩
    case measure=>simp[intOf];omega
   | false=>
    have hg':tyE (U.1,U.2) (T.1,T.2)=false:=hg;rw[hg'] at rn;have HF:=hid (BAD.o hg);clear hg hg' REL BAD;go_upto_region 6 with fail
    go_region_held3 (fun w'=>w'.cell? ⟨b',off'+k * 2,none⟩=some (int i64 T.1)∧w'.cell? ⟨b',off'+k * 2+1,none⟩=some (int i64 T.2)) (go_keep) (first | (go_at_call 151;refine (HC.o _ (HK.o.quiet (zc.drew [] _))).mono ?_;rintro e w5 ⟨rfl,k5⟩;have e0:=za ((zc.drew [] _).quiet k5) d0;have e1:=za ((zc.drew [] _).quiet k5) d1;have K5:=hid ((HK.o.quiet (zc.drew [] _)).quiet k5);clear k5))
    go_wp2_with fail;go_ret;exact ⟨by rw[HF.o];rfl,K5.o⟩
  ·obtain rfl:m=k:=by omega
   have HF:Box (jk f l ps=true):=hid (by rw[HG.o,List.all_eq_true];exact fun j hj=>HA.o j (List.mem_range.1 hj));go_wp2_with fail;go_ret;exact ⟨by rw[HF.o];rfl,HK.o⟩
theorem qR.yes{O:Option (List (Int × Int) × Int × Int)}{s:List (Int × Int) × Int × Int}{w0 w':World}{v:Value}(h:O=some s)(k:zc [] w w')(hv:SgV w0 v s):qR O w0 w (.returned (.tuple #[v,.bool true])) w':=by
 subst h;exact ⟨k,v,rfl,hv⟩
theorem qR.no{O:Option (List (Int × Int) × Int × Int)}{w0 w':World}(h:O=none)(k:zc [] w w'):qR O w0 w (.returned (.tuple #[agg #[.slice none 0 0,int i64 0,int i64 0],.bool false])) w':=by
 subst h;exact ⟨k,rfl⟩
theorem zhv(h:PrC w pb po P)(hf:FuC w fb fo f)(x:In8)(ar:Value)(hop:x.op=13):Calls Tryz.prog 172 #[pointer (some ⟨pb,po,none⟩),pointer (some ⟨fb,fo,none⟩),zD x ar] w (qR (if (zp f x.a).1=2 then Jh P (zp f x.a).2 else none) w w):=by
 unfold zD;rw[hop];obtain ⟨O,hO⟩:∃ O,O=if (zp f x.a).1=2 then Jh P (zp f x.a).2 else none:=⟨_,rfl⟩
 rw[← hO];have HO:=hid hO;clear hO;obtain ⟨W,hW⟩:∃ W,W=(w.alloc (.cells #[int i64 13,int i64 x.dst,int i64 x.a,int i64 x.b,int i64 x.n,ar] 39)).alloc (.cells #[.slice none 0 0,int i64 0,int i64 0] 36):=⟨_,rfl⟩;have k2:zc [] w W:=by rw[hW];exact (zc.alloc [] w _).quiet (zc.alloc [] _ _)
 have hn1:W.heap[w.heap.size]? = some (.cells #[int i64 13,int i64 x.dst,int i64 x.a,int i64 x.b,int i64 x.n,ar] 39 (0,0)):=by rw[hW];exact ze (zf w _) (zc.alloc [] _ _)
 have hn2:W.heap[w.heap.size+1]? = some (.cells #[.slice none 0 0,int i64 0,int i64 0] 36 (0,0)):=by
  have:=zf (w.alloc (.cells #[int i64 13,int i64 x.dst,int i64 x.a,int i64 x.b,int i64 x.n,ar] 39)) (.cells #[.slice none 0 0,int i64 0,int i64 0] 36);rw[World.size_alloc] at this;rw[hW];exact this
 have HRT:=hid (zA (FuC.stays _ _ _ _ _ k2 hf) x.a);have K2:=hid k2;have HN1:=hid hn1;have HN2:=hid hn2;have HWE:=hid hW;have HP:=hid h;have i2:=zd hn1 2;have fin:∀ W' u0 u1 u2,zc [] W W'→zc [] w (((W'.setCell ⟨w.heap.size+1,0,none⟩ u0).setCell ⟨w.heap.size+1,1,none⟩ u1).setCell ⟨w.heap.size+1,2,none⟩ u2):=fun W' u0 u1 u2 k=>(K2.o.quiet k).trans (jd _ (w.heap.size+1) _ _ _) (fun x hx hl=>by simp at hx;omega);have FIN:=hid fin;have HSG:=hid fun (w':World) (k:zc [] w w')=>zad HP.o k (zp f x.a).2;clear hW k2 hn1 hn2 fin hop h hf;generalize zp f x.a=T at *;unfold tyV at HRT;go_enter Tryz.func172,Tryz.ntmps172;go_upto_region 1 with fail;rw[← HWE.o];clear HWE;generalize w.heap.size=q at *;go_wp2_with fail;refine HRT.o.mono ?_;rintro e w1 ⟨rfl,k1⟩;have KT:=k1.quiet (zc.alloc [] w1 (.cells #[int i64 T.1,int i64 T.2] 34));have j1:=ze HN1.o KT;have j2:=ze HN2.o KT;have j3:=zf w1 (.cells #[int i64 T.1,int i64 T.2] 34);have KW:=hid KT;have J2:=hid j2;have a0:=zd j1 0;have a4:=zd j1 4;have t0:=zd j3 0;have t1:=zd j3 1;clear k1 i2 KT j1 HRT HN1 HN2;go_upto_region 2 with fail;have Z3:=hid j3;clear j3 j2;generalize w1.alloc (.cells #[int i64 T.1,int i64 T.2] 34)=W2 at *;generalize w1.heap.size=q2 at *;go_quiet (fail);have KDR:Box (zc [] W2 (W2.drewN nq)):=hid (zc.drewN _ _ _);generalize W2.drewN nq=W3 at *;replace a0:=za KDR.o a0;replace a4:=za KDR.o a4;replace t0:=za KDR.o t0;replace t1:=za KDR.o t1;by_cases hT:T.1=2
 ·replace HO:=hid (HO.o.trans (if_pos hT))
  have o1:=eqb hT;clear hT;go_wp2_with fail;cases hs:Jh P T.2 with
  | none=>
   have HOO:Box (O=none):=hid (HO.o.trans hs);rw[hs] at HSG;clear HO hs;refine (HSG.o _ ((K2.o.quiet KW.o).quiet KDR.o)).mono ?_;rintro e w5 ⟨k5,rfl⟩;have hb5:=ze J2.o (KDR.o.quiet k5);have K5:=hid ((KW.o.quiet KDR.o).quiet k5);have y0:=zi hb5 0;have y1:=zi hb5 1;have y2:=zi hb5 2;have x0:=zd hb5 0;have x1:=zd hb5 1;have x2:=zd hb5 2;have HB5:=hid hb5;clear hb5 k5;go_wp2_with fail;have h3:=ZC HB5.o (.slice none 0 0) (int i64 0) (int i64 0);have e0:=zd h3 0;have e1:=zd h3 1;have e2:=zd h3 2;exact bodyPost_ret (v:=.tuple #[agg #[.slice none 0 0,int i64 0,int i64 0],.bool false]) (by simp[results,Tryz.results172,go_sem,e0,e1,e2]) rfl (qR.no HOO.o (FIN.o _ _ _ _ K5.o))
  | some sg=>
   have HOO:Box (O=some sg):=hid (HO.o.trans hs);rw[hs] at HSG;clear HO hs;refine (HSG.o _ ((K2.o.quiet KW.o).quiet KDR.o)).mono ?_;rintro e w5 ⟨k5,v5,rfl,ga,gp,rfl,hv6⟩;have hb5:=ze J2.o (KDR.o.quiet k5);have K5:=hid ((KW.o.quiet KDR.o).quiet k5);have HV6:=hid hv6;have y0:=zi hb5 0;have y1:=zi hb5 1;have y2:=zi hb5 2;have x0:=zd hb5 0;have x1:=zd hb5 1;have x2:=zd hb5 2;have HB5:=hid hb5;clear hb5 k5 hv6;go_wp2_with fail;have h3:=ZC HB5.o (.slice ga sg.1.length gp) (int i64 sg.2.1) (int i64 sg.2.2);have e0:=zd h3 0;have e1:=zd h3 1;have e2:=zd h3 2;exact bodyPost_ret (v:=.tuple #[agg #[.slice ga sg.1.length gp,int i64 sg.2.1,int i64 sg.2.2],.bool true]) (by simp[results,Tryz.results172,go_sem,e0,e1,e2]) rfl (qR.yes HOO.o (FIN.o _ _ _ _ K5.o) ⟨ga,gp,rfl,HV6.o⟩)
 ·have HOO:Box (O=none):=hid (HO.o.trans (if_neg hT))
  clear HO;have o1:=neb hT;have hb5:=ze J2.o KDR.o;have y0:=zi hb5 0;have y1:=zi hb5 1;have y2:=zi hb5 2;have x0:=zd hb5 0;have x1:=zd hb5 1;have x2:=zd hb5 2;have HB5:=hid hb5;have K5:=hid (KW.o.quiet KDR.o);clear hT HSG hb5;go_wp2_with fail;have h3:=ZC HB5.o (.slice none 0 0) (int i64 0) (int i64 0);have e0:=zd h3 0;have e1:=zd h3 1;have e2:=zd h3 2;exact bodyPost_ret (v:=.tuple #[agg #[.slice none 0 0,int i64 0,int i64 0],.bool false]) (by simp[results,Tryz.results172,go_sem,e0,e1,e2]) rfl (qR.no HOO.o (FIN.o _ _ _ _ K5.o))
theorem zhn(h:PrC w pb po P)(hf:FuC w fb fo f)(x:In8)(ar:Value)(hop:x.op=14):Calls Tryz.prog 172 #[pointer (some ⟨pb,po,none⟩),pointer (some ⟨fb,fo,none⟩),zD x ar] w (qR (Zu P (zp f x.a) x.n) w w):=by
 unfold zD;rw[hop];obtain ⟨O,hO⟩:∃ O,O=Zu P (zp f x.a) x.n:=⟨_,rfl⟩;rw[← hO];have HO:=hid hO;clear hO;obtain ⟨W,hW⟩:∃ W,W=(w.alloc (.cells #[int i64 14,int i64 x.dst,int i64 x.a,int i64 x.b,int i64 x.n,ar] 39)).alloc (.cells #[.slice none 0 0,int i64 0,int i64 0] 36):=⟨_,rfl⟩;have k2:zc [] w W:=by rw[hW];exact (zc.alloc [] w _).quiet (zc.alloc [] _ _)
 have hn1:W.heap[w.heap.size]? = some (.cells #[int i64 14,int i64 x.dst,int i64 x.a,int i64 x.b,int i64 x.n,ar] 39 (0,0)):=by rw[hW];exact ze (zf w _) (zc.alloc [] _ _)
 have hn2:W.heap[w.heap.size+1]? = some (.cells #[.slice none 0 0,int i64 0,int i64 0] 36 (0,0)):=by
  have:=zf (w.alloc (.cells #[int i64 14,int i64 x.dst,int i64 x.a,int i64 x.b,int i64 x.n,ar] 39)) (.cells #[.slice none 0 0,int i64 0,int i64 0] 36);rw[World.size_alloc] at this;rw[hW];exact this
 have HRT:=hid (zA (FuC.stays _ _ _ _ _ k2 hf) x.a);have K2:=hid k2;have HN1:=hid hn1;have HN2:=hid hn2;have HWE:=hid hW;have HP:=hid h;have i2:=zd hn1 2;have fin:∀ W' u0 u1 u2,zc [] W W'→zc [] w (((W'.setCell ⟨w.heap.size+1,0,none⟩ u0).setCell ⟨w.heap.size+1,1,none⟩ u1).setCell ⟨w.heap.size+1,2,none⟩ u2):=fun W' u0 u1 u2 k=>(K2.o.quiet k).trans (jd _ (w.heap.size+1) _ _ _) (fun x hx hl=>by simp at hx;omega);have FIN:=hid fin;have HSG:=hid fun (w':World) (k:zc [] w w')=>zcc HP.o k (zp f x.a) x.n;clear hW k2 hn1 hn2 fin hop h hf;generalize zp f x.a=T at *;unfold tyV at HRT;go_enter Tryz.func172,Tryz.ntmps172;go_upto_region 1 with fail;rw[← HWE.o];clear HWE;generalize w.heap.size=q at *;go_wp2_with fail;refine HRT.o.mono ?_;rintro e w1 ⟨rfl,k1⟩;have KT:=k1.quiet (zc.alloc [] w1 (.cells #[int i64 T.1,int i64 T.2] 34));have j1:=ze HN1.o KT;have j2:=ze HN2.o KT;have j3:=zf w1 (.cells #[int i64 T.1,int i64 T.2] 34);have KW:=hid KT;have J2:=hid j2;have a0:=zd j1 0;have a4:=zd j1 4;have t0:=zd j3 0;have t1:=zd j3 1;clear k1 i2 KT j1 HRT HN1 HN2;go_upto_region 2 with fail;have Z3:=hid j3;clear j3 j2;generalize w1.alloc (.cells #[int i64 T.1,int i64 T.2] 34)=W2 at *;generalize w1.heap.size=q2 at *;go_quiet (fail);have KDR:Box (zc [] W2 (W2.drewN nq)):=hid (zc.drewN _ _ _);generalize W2.drewN nq=W3 at *;replace a0:=za KDR.o a0;replace a4:=za KDR.o a4;replace t0:=za KDR.o t0;replace t1:=za KDR.o t1;go_wp2_with fail;cases hs:Zu P T x.n with
 | none=>
  have HOO:Box (O=none):=hid (HO.o.trans hs);rw[hs] at HSG;clear HO hs;refine (HSG.o _ ((K2.o.quiet KW.o).quiet KDR.o)).mono ?_;rintro e w5 ⟨k5,rfl⟩;have hb5:=ze J2.o (KDR.o.quiet k5);have K5:=hid ((KW.o.quiet KDR.o).quiet k5);have y0:=zi hb5 0;have y1:=zi hb5 1;have y2:=zi hb5 2;have x0:=zd hb5 0;have x1:=zd hb5 1;have x2:=zd hb5 2;have HB5:=hid hb5;clear hb5 k5;go_wp2_with fail;have h3:=ZC HB5.o (.slice none 0 0) (int i64 0) (int i64 0);have e0:=zd h3 0;have e1:=zd h3 1;have e2:=zd h3 2;exact bodyPost_ret (v:=.tuple #[agg #[.slice none 0 0,int i64 0,int i64 0],.bool false]) (by simp[results,Tryz.results172,go_sem,e0,e1,e2]) rfl (qR.no HOO.o (FIN.o _ _ _ _ K5.o))
 | some sg=>
  have HOO:Box (O=some sg):=hid (HO.o.trans hs);rw[hs] at HSG;clear HO hs;refine (HSG.o _ ((K2.o.quiet KW.o).quiet KDR.o)).mono ?_;rintro e w5 ⟨k5,v5,rfl,ga,gp,rfl,hv6⟩;have hb5:=ze J2.o (KDR.o.quiet k5);have K5:=hid ((KW.o.quiet KDR.o).quiet k5);have HV6:=hid hv6;have y0:=zi hb5 0;have y1:=zi hb5 1;have y2:=zi hb5 2;have x0:=zd hb5 0;have x1:=zd hb5 1;have x2:=zd hb5 2;have HB5:=hid hb5;clear hb5 k5 hv6;go_wp2_with fail;have h3:=ZC HB5.o (.slice ga sg.1.length gp) (int i64 sg.2.1) (int i64 sg.2.2);have e0:=zd h3 0;have e1:=zd h3 1;have e2:=zd h3 2;exact bodyPost_ret (v:=.tuple #[agg #[.slice ga sg.1.length gp,int i64 sg.2.1,int i64 sg.2.2],.bool true]) (by simp[results,Tryz.results172,go_sem,e0,e1,e2]) rfl (qR.yes HOO.o (FIN.o _ _ _ _ K5.o) ⟨ga,gp,rfl,HV6.o⟩)
theorem zjj(h:PrC w pb po P)(hf:FuC w fb fo f)(x:In8)(ar:Value)(hop:x.op=12)(hn:inB x.n P.funcs.length=true):Calls Tryz.prog 172 #[pointer (some ⟨pb,po,none⟩),pointer (some ⟨fb,fo,none⟩),zD x ar] w (qR (Jh P (zg P x.n.toNat).sig) w w):=by
 unfold zD;rw[hop];obtain ⟨O,hO⟩:∃ O,O=Jh P (zg P x.n.toNat).sig:=⟨_,rfl⟩;rw[← hO];have HO:=hid hO;clear hO;obtain ⟨W,hW⟩:∃ W,W=(w.alloc (.cells #[int i64 12,int i64 x.dst,int i64 x.a,int i64 x.b,int i64 x.n,ar] 39)).alloc (.cells #[.slice none 0 0,int i64 0,int i64 0] 36):=⟨_,rfl⟩;have k2:zc [] w W:=by rw[hW];exact (zc.alloc [] w _).quiet (zc.alloc [] _ _)
 have hn1:W.heap[w.heap.size]? = some (.cells #[int i64 12,int i64 x.dst,int i64 x.a,int i64 x.b,int i64 x.n,ar] 39 (0,0)):=by rw[hW];exact ze (zf w _) (zc.alloc [] _ _)
 have hn2:W.heap[w.heap.size+1]? = some (.cells #[.slice none 0 0,int i64 0,int i64 0] 36 (0,0)):=by
  have:=zf (w.alloc (.cells #[int i64 12,int i64 x.dst,int i64 x.a,int i64 x.b,int i64 x.n,ar] 39)) (.cells #[.slice none 0 0,int i64 0,int i64 0] 36);rw[World.size_alloc] at this;rw[hW];exact this
 have HRT:=hid (zA (FuC.stays _ _ _ _ _ k2 hf) x.a);have K2:=hid k2;have HN1:=hid hn1;have HN2:=hid hn2;have HWE:=hid hW;have HP:=hid h;have i2:=zd hn1 2;have fin:∀ W' u0 u1 u2,zc [] W W'→zc [] w (((W'.setCell ⟨w.heap.size+1,0,none⟩ u0).setCell ⟨w.heap.size+1,1,none⟩ u1).setCell ⟨w.heap.size+1,2,none⟩ u2):=fun W' u0 u1 u2 k=>(K2.o.quiet k).trans (jd _ (w.heap.size+1) _ _ _) (fun x hx hl=>by simp at hx;omega);have FIN:=hid fin;obtain ⟨g0,g1⟩:=zq.1 hn;obtain ⟨m,hm⟩:∃ m:Nat,x.n=(m:Int):=⟨x.n.toNat,by omega⟩;rw[hm] at g1;have HW:Box (∀ w,Calls Tryz.prog 50 #[int i64 x.n,int i64 (P.funcs.length:Int)] w fun e w'=>e=.returned (.bool true)∧w'=w):=hid fun w=>by rw[← hn];exact zC _ _ w
 obtain ⟨fa,fp,c4,r4,_⟩:=h.c4;obtain ⟨gb,go,rfl,hfu0⟩:=r4.at (zh (l:=P.funcs) (k:=m) (d:=⟨0,[],[]⟩) (by omega));have HC4:Box (∀ w',zc [] w w'→w'.cell? ⟨pb,po+4,none⟩=some (.slice (some ⟨gb,go,none⟩) P.funcs.length fp)∧w'.cell? ⟨gb,go+m * 3,none⟩=some (int i64 (zg P m).sig)):=hid fun w' k=>⟨za k c4,za k hfu0.c0.1⟩;have HSG:=hid fun (w':World) (k:zc [] w w')=>zad HP.o k (zg P m).sig;have em:x.n.toNat=m:=by omega
 rw[em] at HO;have hmm:=hid hm;clear c4 r4 hfu0 hn g0 em hm;clear hW k2 hn1 hn2 fin hop h hf;generalize zp f x.a=T at *;unfold tyV at HRT;go_enter Tryz.func172,Tryz.ntmps172;go_upto_region 1 with fail;rw[← HWE.o];clear HWE;generalize w.heap.size=q at *;go_wp2_with fail;refine HRT.o.mono ?_;rintro e w1 ⟨rfl,k1⟩;have KT:=k1.quiet (zc.alloc [] w1 (.cells #[int i64 T.1,int i64 T.2] 34));have j1:=ze HN1.o KT;have j2:=ze HN2.o KT;have j3:=zf w1 (.cells #[int i64 T.1,int i64 T.2] 34);have KW:=hid KT;have J2:=hid j2;have a0:=zd j1 0;have a4:=zd j1 4;have t0:=zd j3 0;have t1:=zd j3 1;clear k1 i2 KT j1 HRT HN1 HN2;go_upto_region 2 with fail;have Z3:=hid j3;clear j3 j2;generalize w1.alloc (.cells #[int i64 T.1,int i64 T.2] 34)=W2 at *;generalize w1.heap.size=q2 at *;rw[hmm.o] at a4 HW;clear hmm;obtain ⟨f4,f5⟩:=HC4.o _ (K2.o.quiet KW.o);generalize (zg P m).sig=sn at *;generalize P.funcs.length=FN at *;go_quiet ((go_at_call 50;exact Calls.quiet_of_same (HW.o _)));have KDR:Box (zc [] W2 (W2.drewN nq)):=hid (zc.drewN _ _ _);go_upto_region 3 with fail;generalize W2.drewN nq=W3 at *;replace a4:=za KDR.o a4;replace f4:=za KDR.o f4;replace f5:=za KDR.o f5;clear a0 t0 t1;cases hs:Jh P sn with
 | none=>
  have HOO:Box (O=none):=hid (HO.o.trans hs);rw[hs] at HSG;clear HO hs
  go_region_with (go_at_call 101;refine (HSG.o _ (((K2.o.quiet KW.o).quiet KDR.o).quiet (zc.drew [] _))).mono ?_;rintro e w5 ⟨k5,rfl⟩;have kk:=(zc.drew [] W3).quiet k5;have g4:=za kk f4;have g5:=za kk f5;have g6:=za kk a4;have hb5:=ze J2.o (KDR.o.quiet kk);have K5:=hid ((KW.o.quiet KDR.o).quiet kk);have y0:=zi hb5 0;have y1:=zi hb5 1;have y2:=zi hb5 2;have x0:=zd hb5 0;have x1:=zd hb5 1;have x2:=zd hb5 2;have HB5:=hid hb5;clear hb5 k5 kk)
  all_goals (
   go_wp2_with fail;have h3:=ZC HB5.o (.slice none 0 0) (int i64 0) (int i64 0);have e0:=zd h3 0;have e1:=zd h3 1;have e2:=zd h3 2
   exact bodyPost_ret (v:=.tuple #[agg #[.slice none 0 0,int i64 0,int i64 0],.bool false]) (by simp[results,Tryz.results172,go_sem,e0,e1,e2]) rfl (qR.no HOO.o (FIN.o _ _ _ _ K5.o)))
 | some sg=>
  have HOO:Box (O=some sg):=hid (HO.o.trans hs);rw[hs] at HSG;clear HO hs
  go_region_with (go_at_call 101;refine (HSG.o _ (((K2.o.quiet KW.o).quiet KDR.o).quiet (zc.drew [] _))).mono ?_;rintro e w5 ⟨k5,v5,rfl,ga,gp,rfl,hv6⟩;have kk:=(zc.drew [] W3).quiet k5;have g4:=za kk f4;have g5:=za kk f5;have g6:=za kk a4;have hb5:=ze J2.o (KDR.o.quiet kk);have K5:=hid ((KW.o.quiet KDR.o).quiet kk);have y0:=zi hb5 0;have y1:=zi hb5 1;have y2:=zi hb5 2;have x0:=zd hb5 0;have x1:=zd hb5 1;have x2:=zd hb5 2;have HB5:=hid hb5;have HV6:=hid hv6;clear hb5 k5 kk hv6)
  all_goals (
   go_wp2_with fail;have h3:=ZC HB5.o (.slice ga sg.1.length gp) (int i64 sg.2.1) (int i64 sg.2.2);have e0:=zd h3 0;have e1:=zd h3 1;have e2:=zd h3 2
   exact bodyPost_ret (v:=.tuple #[agg #[.slice ga sg.1.length gp,int i64 sg.2.1,int i64 sg.2.2],.bool true]) (by simp[results,Tryz.results172,go_sem,e0,e1,e2]) rfl (qR.yes HOO.o (FIN.o _ _ _ _ K5.o) ⟨ga,gp,rfl,HV6.o⟩))
theorem jH(k:Int)(n:Nat)(w:World):Calls Tryz.prog 68 #[int i64 k,int i64 (n:Int)] w fun e w'=>e=.returned (.bool (inB k n))∧w'=w:=by
 have HE:Box (inB k n=(decide (0≤k) && decide (k<(n:Int)))):=hid rfl;by_cases h:0≤k
 ·have HF:Box (inB k n=decide (k<(n:Int))):=hid (by rw[HE.o];simp[h])
  clear HE;go_enter Tryz.func68,Tryz.ntmps68;go_wp2_with fail;go_ret;exact ⟨by rw[HF.o];rfl,rfl⟩
 ·have HF:Box (inB k n=false):=hid (by rw[HE.o];simp[h])
  clear HE;go_enter Tryz.func68,Tryz.ntmps68;go_wp2_with fail;go_ret;exact ⟨by rw[HF.o];rfl,rfl⟩
theorem Qm(s t:Int × Int)(w:World):Calls Tryz.prog 72 #[tyV s,tyV t] w fun e w'=>e=.returned (.bool (tyE s t))∧zc [] w w':=by
 have HK:Box (zc [] w ((w.alloc (.cells #[int i64 s.1,int i64 s.2] 34)).alloc (.cells #[int i64 t.1,int i64 t.2] 34))):=hid ((zc.alloc [] _ _).quiet (zc.alloc [] _ _));have HE:Box (tyE s t=(s.1 == t.1 && s.2 == t.2)):=hid rfl;unfold tyV;by_cases h:s.1=t.1
 ·have o1:(s.1 == t.1)=true:=eqb h
  have HF:Box (tyE s t=(s.2 == t.2)):=hid (by rw[HE.o,o1];rfl);clear HE h;go_enter Tryz.func72,Tryz.ntmps72;go_wp2_with fail;go_ret;exact ⟨by rw[HF.o];rfl,HK.o⟩
 ·have o1:(s.1 == t.1)=false:=neb h
  have HF:Box (tyE s t=false):=hid (by rw[HE.o,o1];rfl);clear HE h;go_enter Tryz.func72,Tryz.ntmps72;go_wp2_with fail;go_ret;exact ⟨by rw[HF.o];rfl,HK.o⟩
def fnV(sg:Int)(ra:Option Addr)(R rp:Nat)(bv:Value):Value:=agg #[int i64 sg,.slice ra R rp,bv]
theorem zkl{l:List (Int × Int)}{ra:Option Addr}{R:Nat}(hr:zy w 2 TyC ra l)(hR:R=l.length)(rp:Nat)(sg:Int)(bv:Value)(r:Int)(hin:inB r R=true):Calls Tryz.prog 129 #[fnV sg ra R rp bv,int i64 r] w fun e w'=>e=.returned (tyV (l.getD r.toNat (0,0)))∧zc [] w w':=by
 obtain ⟨W,hW⟩:∃ W,W=(w.alloc (.cells #[int i64 sg,.slice ra R rp,bv] 45)).alloc (.cells #[int i64 0,int i64 0] 34):=⟨_,rfl⟩;have k2:zc [] w W:=by rw[hW];exact (zc.alloc [] w _).quiet (zc.alloc [] _ _)
 have hn1:W.heap[w.heap.size]? = some (.cells #[int i64 sg,.slice ra R rp,bv] 45 (0,0)):=by rw[hW];exact ze (zf w _) (zc.alloc [] _ _)
 have hn2:W.heap[w.heap.size+1]? = some (.cells #[int i64 0,int i64 0] 34 (0,0)):=by
  have:=zf (w.alloc (.cells #[int i64 sg,.slice ra R rp,bv] 45)) (.cells #[int i64 0,int i64 0] 34);rw[World.size_alloc] at this;rw[hW];exact this
 obtain ⟨h0,h1⟩:=zq.1 hin;obtain ⟨k,rfl⟩:∃ k:Nat,r=(k:Int):=⟨r.toNat,by omega⟩;have ek:((k:Int)).toNat=k:=by omega
 rw[ek];obtain ⟨b,off,rfl,hc⟩:=hr.at (zh (l:=l) (k:=k) (d:=(0,0)) (by omega));have d0:=za k2 hc.c0.1;have d1:=za k2 hc.c1.1;have f1:=zd hn1 1;have z0:=zi hn2 0;have z1:=zi hn2 1;have q0:=zd hn2 0;have q1:=zd hn2 1;have HN2:=hid hn2;have HK:=hid k2;have HWE:=hid hW;have HL:Box (∀ u0 u1,zc [] w ((W.setCell ⟨w.heap.size+1,0,none⟩ u0).setCell ⟨w.heap.size+1,1,none⟩ u1)):=hid fun u0 u1=>k2.trans (zdM _ _ _ _) (fun x hx hl=>by simp at hx;omega);clear hr hR k2 hn1 hn2 hc hin h0 ek hW;generalize l.getD k (0,0)=t at *;unfold fnV;go_enter Tryz.func129,Tryz.ntmps129;go_upto_region 1 with fail;rw[← HWE.o];clear HWE;generalize w.heap.size=q at *;go_wp2_with fail;have h2:=zp2 HN2.o (int i64 t.1) (int i64 t.2);have e0:=zd h2 0;have e1:=zd h2 1;exact bodyPost_ret (v:=agg #[int i64 t.1,int i64 t.2]) (by simp[results,Tryz.results129,go_sem,e0,e1]) rfl ⟨rfl,HL.o _ _⟩
theorem zg9(h:PrC w pb po P)(t:Int × Int):Calls Tryz.prog 67 #[pointer (some ⟨pb,po,none⟩),tyV t] w fun e w'=>e=.returned (.bool (tyB P t))∧zc [] w w':=by
 have ka:=zc.alloc [] w (.cells #[int i64 t.1,int i64 t.2] 34);have hn:=zf w (.cells #[int i64 t.1,int i64 t.2] 34);obtain ⟨a0,p0,c0,_⟩:=h.c0;obtain ⟨a1,p1,c1,_⟩:=h.c1;obtain ⟨a2,p2,c2,_⟩:=h.c2;replace c0:=za ka c0;replace c1:=za ka c1;replace c2:=za ka c2;have t0:=zd hn 0;have t1:=zd hn 1;have HK:=hid ka;have HE:Box (tyB P t=if t.1=0 then decide (t.2=0) else if t.1=1 then inB t.2 P.recs.length else if t.1=2 then inB t.2 P.sigs.length else if t.1=3 then inB t.2 P.ifs.length else false):=hid rfl;clear h ka hn;generalize tyB P t=res at *;generalize P.recs.length=n0 at *;generalize P.sigs.length=n1 at *;generalize P.ifs.length=n2 at *;obtain ⟨k,n⟩:=t;simp only at *;unfold tyV;by_cases h0:k=0
 ·subst h0
  have HF:Box (res=(n == 0)):=hid (by rw[HE.o,if_pos rfl];by_cases e:n=0 <;> simp[e]);clear HE;go_enter Tryz.func67,Tryz.ntmps67;go_wp2_with fail;go_ret;exact ⟨by rw[HF.o];rfl,HK.o⟩
 by_cases h1:k=1
 ·subst h1
  have HF:Box (res=inB n n0):=hid (by rw[HE.o];simp);clear HE;by_cases hn:0≤n
  ·have g1:decide ((0:Int)≤n)=true:=decide_eq_true hn
   have HG:Box (res=decide (n<(n0:Int))):=hid (by rw[HF.o];unfold inB;rw[g1];rfl);clear HF;go_enter Tryz.func67,Tryz.ntmps67;go_upto_region 5 with fail;go_quiet (fail);go_wp2_with fail;go_ret;exact ⟨by rw[HG.o];rfl,HK.o.quiet (zc.drewN _ _ _)⟩
  ·have g1:decide ((0:Int)≤n)=false:=decide_eq_false hn
   have HG:Box (res=false):=hid (by rw[HF.o];unfold inB;rw[g1];rfl);clear HF;go_enter Tryz.func67,Tryz.ntmps67;go_upto_region 5 with fail;go_quiet (fail);go_wp2_with fail;go_ret;exact ⟨by rw[HG.o];rfl,HK.o.quiet (zc.drewN _ _ _)⟩
 by_cases h2:k=2
 ·subst h2
  have HF:Box (res=inB n n1):=hid (by rw[HE.o];simp);clear HE;by_cases hn:0≤n
  ·have g1:decide ((0:Int)≤n)=true:=decide_eq_true hn
   have HG:Box (res=decide (n<(n1:Int))):=hid (by rw[HF.o];unfold inB;rw[g1];rfl);clear HF;go_enter Tryz.func67,Tryz.ntmps67;go_upto_region 7 with fail;go_quiet (fail);go_wp2_with fail;go_ret;exact ⟨by rw[HG.o];rfl,HK.o.quiet (zc.drewN _ _ _)⟩
  ·have g1:decide ((0:Int)≤n)=false:=decide_eq_false hn
   have HG:Box (res=false):=hid (by rw[HF.o];unfold inB;rw[g1];rfl);clear HF;go_enter Tryz.func67,Tryz.ntmps67;go_upto_region 7 with fail;go_quiet (fail);go_wp2_with fail;go_ret;exact ⟨by rw[HG.o];rfl,HK.o.quiet (zc.drewN _ _ _)⟩
 by_cases h3:k=3
 ·subst h3
  have HF:Box (res=inB n n2):=hid (by rw[HE.o];simp);clear HE;by_cases hn:0≤n
  ·have g1:decide ((0:Int)≤n)=true:=decide_eq_true hn
   have HG:Box (res=decide (n<(n2:Int))):=hid (by rw[HF.o];unfold inB;rw[g1];rfl);clear HF;go_enter Tryz.func67,Tryz.ntmps67;go_upto_region 9 with fail;go_quiet (fail);go_wp2_with fail;go_ret;exact ⟨by rw[HG.o];rfl,HK.o.quiet (zc.drewN _ _ _)⟩
  ·have g1:decide ((0:Int)≤n)=false:=decide_eq_false hn
   have HG:Box (res=false):=hid (by rw[HF.o];unfold inB;rw[g1];rfl);clear HF;go_enter Tryz.func67,Tryz.ntmps67;go_upto_region 9 with fail;go_quiet (fail);go_wp2_with fail;go_ret;exact ⟨by rw[HG.o];rfl,HK.o.quiet (zc.drewN _ _ _)⟩
 have o0:=neb h0;have o1:=neb h1;have o2:=neb h2;have o3:=neb h3;have HF:Box (res=false):=hid (by rw[HE.o,if_neg h0,if_neg h1,if_neg h2,if_neg h3]);clear HE h0 h1 h2 h3;go_enter Tryz.func67,Tryz.ntmps67;go_wp2_with fail;go_ret;exact ⟨by rw[HF.o];rfl,HK.o⟩
def Q0(P:Pr8)(r i:Int):Int:=match P.ims.findIdx? fun m=>m.1 == r && m.2.1 == i with
 | some k=>(k:Int)
 | none=> -1
theorem zce{r i:Int}{k:Nat}{y:Int × Int × List Int}(hy:P.ims[k]? = some y)(h:(y.1 == r && y.2.1 == i)=true)(hb:∀ j z,j<k→P.ims[j]? = some z→(z.1 == r && z.2.1 == i)=false):Q0 P r i=(k:Int):=by
 have:P.ims.findIdx? (fun m=>m.1 == r && m.2.1 == i)=some k:=by
  rw[List.findIdx?_eq_some_iff_getElem];obtain ⟨hk,e⟩:=List.getElem?_eq_some_iff.1 hy;refine ⟨hk,by rw[e];exact h,fun j hj=> ?_⟩;have:=hb j _ hj (List.getElem?_eq_getElem (by omega));rw[this];simp
 unfold Q0;rw[this]
theorem zgj{r i:Int}(hb:∀ (j:Nat) (z:Int × Int × List Int),P.ims[j]? = some z→(z.1 == r && z.2.1 == i)=false):Q0 P r i= -1:=by
 have:P.ims.findIdx? (fun m=>m.1 == r && m.2.1 == i)=none:=by
  rw[List.findIdx?_eq_none_iff];intro y hy;obtain ⟨j,hj,e⟩:=List.getElem_of_mem hy;exact hb j y (by rw[List.getElem?_eq_getElem hj,e])
 unfold Q0;rw[this]
theorem zjU(P:Pr8)(r i:Int):decide (0≤Q0 P r i)=zaj P r i:=by
 unfold Q0 zaj;cases h:P.ims.findIdx? (fun m=>m.1 == r && m.2.1 == i) with
 | none=>
  rw[List.findIdx?_eq_none_iff] at h;have:(P.ims.any fun m=>m.1 == r && m.2.1 == i)=false:=List.any_eq_false.2 fun y hy=>by rw[h y hy];simp
  rw[this];rfl
 | some k=>
  rw[List.findIdx?_eq_some_iff_getElem] at h;obtain ⟨hk,e,_⟩:=h;have:(P.ims.any fun m=>m.1 == r && m.2.1 == i)=true:=List.any_eq_true.2 ⟨_,List.getElem_mem hk,e⟩;rw[this];simp
theorem zdh(h:PrC w pb po P)(r i:Int):Calls Tryz.prog 71 #[pointer (some ⟨pb,po,none⟩),int i64 r,int i64 i] w fun e w'=>e=.returned (int i64 (Q0 P r i))∧w'=w:=by
 obtain ⟨a,cp,c3,hr,_,hm⟩:=h.c3;have HR:=hid hr;obtain ⟨n,hn⟩:∃ n,n=P.ims.length:=⟨_,rfl⟩;rw[← hn] at c3 hm;have HL:=hid hn;have hn1:(n:Int)≤9223372036854775807:=by unfold maxLen at hm;omega
 clear h hr hn hm;go_enter Tryz.func71,Tryz.ntmps71;go_wp2_with fail
 go_loop [7] (fun kv=>∃ k:Nat,k≤n∧kv=int i64 (k:Int)∧Box (∀ j y,j<k→P.ims[j]? = some y→(y.1 == r && y.2.1 == i)=false)) (fun kv=>n - (intOf kv).toNat)
 case atStart=>exact ⟨0,by omega,rfl,hid fun j y hj=>by omega⟩
 case round=>
  obtain ⟨k,hk,rfl,HB⟩:=hrel;by_cases hlt:k<n
  ·have hlt':(k:Int)<(n:Int):=by omega
   have HY:=hid (zh (l:=P.ims) (k:=k) (d:=(0,0,[])) (by rw[← HL.o];exact hlt));obtain ⟨b,off,rfl,hc⟩:=HR.o.at HY.o;have d0:=hc.c0.1;have d1:=hc.c1.1;have NEXT:Box (∀ y,P.ims[k]? = some y→(y.1 == r && y.2.1 == i)=false→∀ j z,j<k+1→P.ims[j]? = some z→(z.1 == r && z.2.1 == i)=false):=hid fun y hy hg j z hj hz=>by
    by_cases e:j<k
    ·exact HB.o j z e hz
    ·obtain rfl:j=k:=by omega
     rw[hy] at hz;cases hz;exact hg
   clear hc;generalize P.ims.getD k (0,0,[])=y at *;by_cases e1:y.1=r
   ·have q1:(y.1 == r)=true:=eqb e1
    by_cases e2:y.2.1=i
    ·have q2:(y.2.1 == i)=true:=eqb e2
     have HT:Box (Q0 P r i=(k:Int)):=hid (zce HY.o (by rw[q1,q2];rfl) HB.o);clear e1 e2 NEXT;go_wp2_with fail;go_ret;exact ⟨by rw[HT.o];rfl,rfl⟩
    ·have q2:(y.2.1 == i)=false:=neb e2
     have HN:=hid (NEXT.o y HY.o (by rw[q1,q2];rfl));clear e1 e2 NEXT;go_wp2_with fail
     go_round
     case rel=>exact ⟨k+1,by omega,by go_num,HN⟩
     case measure=>simp[intOf];omega
   ·have q1:(y.1 == r)=false:=neb e1
    have HN:=hid (NEXT.o y HY.o (by rw[q1];rfl));clear e1 NEXT;go_wp2_with fail
    go_round
    case rel=>exact ⟨k+1,by omega,by go_num,HN⟩
    case measure=>simp[intOf];omega
  ·obtain rfl:n=k:=by omega
   have HF:Box (Q0 P r i= -1):=hid (zgj fun j z hz=>HB.o j z (by rw[HL.o];exact (List.getElem?_eq_some_iff.1 hz).1) hz);go_wp2_with fail;go_ret;exact ⟨by rw[HF.o];rfl,rfl⟩
def J7(f:Fu8)(x:In8)(s:List (Int × Int) × Int × Int):Bool:=jk f x.args s.1 && tyE (zp f x.dst) s.2
theorem zbi{ra:Option Addr}{R:Nat}(hr:zy w 2 TyC ra f.regs)(hR:R=f.regs.length)(rp:Nat)(bv:Value)(x:In8){a:Option Addr}{cp:Nat}(hz:zw w a x.args)(hl:x.args.length≤1000){s:List (Int × Int) × Int × Int}{sa:Option Addr}{sp:Nat}(hs:zy w 2 TyC sa s.1)(hd:inB x.dst R=true)(ha:Qe x.args R=true):
  Calls Tryz.prog 130 #[pointer (some ⟨pb,po,none⟩),fnV f.sig ra R rp bv,zD x (.slice a x.args.length cp),agg #[.slice sa s.1.length sp,int i64 s.2.1,int i64 s.2.2]] w fun e w'=>e=.returned (.bool (J7 f x s))∧zc [] w w':=by
 obtain ⟨W,hW⟩:∃ W,W=((w.alloc (.cells #[int i64 f.sig,.slice ra R rp,bv] 45)).alloc (.cells #[int i64 x.op,int i64 x.dst,int i64 x.a,int i64 x.b,int i64 x.n,.slice a x.args.length cp] 39)).alloc (.cells #[.slice sa s.1.length sp,int i64 s.2.1,int i64 s.2.2] 36):=⟨_,rfl⟩;have k2:zc [] w W:=by rw[hW];exact ((zc.alloc [] w _).quiet (zc.alloc [] _ _)).quiet (zc.alloc [] _ _)
 have hn1:W.heap[w.heap.size]? = some (.cells #[int i64 f.sig,.slice ra R rp,bv] 45 (0,0)):=by rw[hW];exact ze (zf w _) ((zc.alloc [] _ _).quiet (zc.alloc [] _ _))
 have hn2:W.heap[w.heap.size+1]? = some (.cells #[int i64 x.op,int i64 x.dst,int i64 x.a,int i64 x.b,int i64 x.n,.slice a x.args.length cp] 39 (0,0)):=by
  have:=zf (w.alloc (.cells #[int i64 f.sig,.slice ra R rp,bv] 45)) (.cells #[int i64 x.op,int i64 x.dst,int i64 x.a,int i64 x.b,int i64 x.n,.slice a x.args.length cp] 39);rw[World.size_alloc] at this;rw[hW];exact ze this (zc.alloc [] _ _)
 have hn3:W.heap[w.heap.size+2]? = some (.cells #[.slice sa s.1.length sp,int i64 s.2.1,int i64 s.2.2] 36 (0,0)):=by
  have:=zf ((w.alloc (.cells #[int i64 f.sig,.slice ra R rp,bv] 45)).alloc (.cells #[int i64 x.op,int i64 x.dst,int i64 x.a,int i64 x.b,int i64 x.n,.slice a x.args.length cp] 39)) (.cells #[.slice sa s.1.length sp,int i64 s.2.1,int i64 s.2.2] 36);rw[World.size_alloc,World.size_alloc] at this;rw[hW];exact this
 have B:Box (∀ w',zc [] W w'→w'.cell? ⟨w.heap.size,1,none⟩=some (.slice ra R rp)∧w'.cell? ⟨w.heap.size+1,1,none⟩=some (int i64 x.dst)∧w'.cell? ⟨w.heap.size+1,5,none⟩=some (.slice a x.args.length cp)∧w'.cell? ⟨w.heap.size+2,0,none⟩=some (.slice sa s.1.length sp)∧w'.cell? ⟨w.heap.size+2,1,none⟩=some (int i64 s.2.1)∧w'.cell? ⟨w.heap.size+2,2,none⟩=some (int i64 s.2.2)):=hid fun w' k=>⟨zd (ze hn1 k) 1,zd (ze hn2 k) 1,zd (ze hn2 k) 5,zd (ze hn3 k) 0,zd (ze hn3 k) 1,zd (ze hn3 k) 2⟩;have HRR:=hid hr;have HZ:=hid hz;have HS:=hid hs;have HA:=hid ha;have HWE:=hid hW;have HK2:=hid k2;have HR:=hid hR;have HEQ:=hid fun (s t:Int × Int) (w:World)=>Qm s t w;have HE:Box (J7 f x s=(jk f x.args s.1 && tyE (zp f x.dst) s.2)):=hid rfl;have HAB:Box (jk f x.args s.1=(decide (x.args.length=s.1.length) && (List.range x.args.length).all fun k=>tyE (zp f (x.args.getD k 0)) (s.1.getD k (0,0)))):=hid rfl;obtain ⟨g0,g1⟩:=zq.1 hd;obtain ⟨D,hD⟩:∃ D:Nat,x.dst=(D:Int):=⟨x.dst.toNat,by omega⟩;obtain ⟨rb,ro,rfl,hdc⟩:=hr.at (zh (l:=f.regs) (k:=D) (d:=(0,0)) (by omega));have HTD:Box (zp f x.dst=f.regs.getD D (0,0)):=hid (by rw[hD,ZN (by rw[← hR, ← hD];exact hd)];rfl);have DC:Box (∀ w',zc [] W w'→w'.cell? ⟨rb,ro+D * 2,none⟩=some (int i64 (f.regs.getD D (0,0)).1)∧w'.cell? ⟨rb,ro+D * 2+1,none⟩=some (int i64 (f.regs.getD D (0,0)).2)):=hid fun w' k=>⟨za (k2.quiet k) hdc.c0.1,za (k2.quiet k) hdc.c1.1⟩;have hDR:(D:Int)<(R:Int):=by omega
 obtain ⟨n,hn⟩:∃ n,n=x.args.length:=⟨_,rfl⟩;obtain ⟨m,hm⟩:∃ m,m=s.1.length:=⟨_,rfl⟩;rw[← hn, ← hm] at HAB B;have HN:=hid hn;have HM:=hid hm;have hn1':(n:Int)≤9223372036854775807:=by omega
 have HDD:=hid hD;unfold fnV zD;rw[← hn, ← hm];rw[← hn, ← hm] at HWE;clear hr hz hs ha hW k2 hR hn1 hn2 hn3 hdc hd g0 g1 hn hm hl;rw[hD] at B HWE ⊢;clear hD;generalize f.regs.getD D (0,0)=TD at *;go_enter Tryz.func130,Tryz.ntmps130;go_upto_region 1 with fail;rw[← HWE.o];clear HWE;generalize w.heap.size=q at *;obtain ⟨b1,b2,b3,b4,b5,b6⟩:=B.o _ (zc.refl _ _);by_cases hnm:n=m
 case neg=>
  have q1:((n:Int) != (m:Int))=true:=J4 (by omega);have HF:Box (J7 f x s=false):=hid (by rw[HE.o,HAB.o];simp[hnm]);clear hnm HE HAB;go_wp2_with fail;go_ret;exact ⟨by rw[HF.o];rfl,HK2.o⟩
 obtain rfl:m=n:=hnm.symm;have q1:((m:Int) != (m:Int))=false:=JV rfl;have HAC:Box (jk f x.args s.1=(List.range m).all fun k=>tyE (zp f (x.args.getD k 0)) (s.1.getD k (0,0))):=hid (by rw[HAB.o];simp);clear hnm HAB;go_wp2_with fail;clear b1 b2 b3 b4 b5 b6
 go_loopw [9] (fun kv wr=>∃ k:Nat,k≤m∧kv=int i64 (k:Int)∧Box (zc [] W wr)∧Box (∀ j,j<k→tyE (zp f (x.args.getD j 0)) (s.1.getD j (0,0))=true)) (fun kv _=>m - (intOf kv).toNat)
 case atStart=>exact ⟨0,by omega,rfl,hid (zc.refl _ _),hid fun j hj=>by omega⟩
 case round=>
  obtain ⟨k,hk,rfl,HK,HB⟩:=hrel;obtain ⟨b1,b2,b3,b4,b5,b6⟩:=B.o _ HK.o;by_cases hlt:k<m
  ·have hlt':(k:Int)<(m:Int):=by omega
   have hkl:k<x.args.length:=by rw[← HN.o];exact hlt
   obtain ⟨zb,zo,rfl,hc⟩:∃ b off,a=some ⟨b,off,none⟩∧w.cell? ⟨b,off+k,none⟩=some (int i64 (x.args.getD k 0)):=by
    rcases HZ.o with e | ⟨b,off,e,h⟩
    ·rw[e] at hkl;simp at hkl
    ·exact ⟨b,off,e,h k hkl⟩
   have hin:inB (x.args.getD k 0) R=true:=za0 HA.o (zh (d:=0) hkl);obtain ⟨sb,so,rfl,hsc⟩:=HS.o.at (zh (l:=s.1) (k:=k) (d:=(0,0)) (by rw[← HM.o];exact hlt));obtain ⟨g0,g1⟩:=zq.1 hin;have REL:Box (tyE (zp f (x.args.getD k 0)) (s.1.getD k (0,0))=true→∀ j,j<k+1→tyE (zp f (x.args.getD j 0)) (s.1.getD j (0,0))=true):=hid fun hg j hj=>by
    by_cases e:j<k
    ·exact HB.o j e
    ·obtain rfl:j=k:=by omega
     exact hg
   have BAD:Box (tyE (zp f (x.args.getD k 0)) (s.1.getD k (0,0))=false→J7 f x s=false):=hid fun hg=>by
    have:jk f x.args s.1=false:=by
     rw[HAC.o,List.all_eq_false];exact ⟨k,List.mem_range.2 hlt,by rw[hg];simp⟩
    rw[HE.o,this];rfl
   have hTr:zp f (x.args.getD k 0)=f.regs.getD (x.args.getD k 0).toNat (0,0):=ZN (by rw[← HR.o];exact hin);obtain ⟨r,hrr⟩:∃ r:Nat,x.args.getD k 0=(r:Int):=⟨(x.args.getD k 0).toNat,by omega⟩;have hrl:r<f.regs.length:=by have:=HR.o;omega
   obtain ⟨b',off',heq,hrc⟩:=HRR.o.at (zh (l:=f.regs) (k:=r) (d:=(0,0)) hrl);cases heq;rw[hrr] at hTr hc g1;rw[show ((r:Int)).toNat=r by omega] at hTr;rw[hrr,hTr] at REL BAD;have hrR:(r:Int)<(R:Int):=g1;have kW:=HK2.o.quiet HK.o;have d:=za kW hc;have d0:=za kW hrc.c0.1;have d1:=za kW hrc.c1.1;have e0:=za kW hsc.c0.1;have e1:=za kW hsc.c1.1;clear hc hsc hrc hin g0 g1 hTr hrr hrl kW hkl;generalize f.regs.getD r (0,0)=U at *;generalize s.1.getD k (0,0)=T at *;have HC:=hid (HEQ.o U T);unfold tyV at HC
   have CC:Box (∀ w',zc [] wr w'→w'.cell? ⟨q,1,none⟩=some (.slice (some ⟨rb,ro,none⟩) R rp)∧w'.cell? ⟨q+1,5,none⟩=some (.slice (some ⟨zb,zo,none⟩) m cp)∧w'.cell? ⟨q+2,0,none⟩=some (.slice (some ⟨sb,so,none⟩) m sp)∧w'.cell? ⟨zb,zo+k,none⟩=some (int i64 (r:Int))∧w'.cell? ⟨rb,ro+r * 2,none⟩=some (int i64 U.1)∧w'.cell? ⟨rb,ro+r * 2+1,none⟩=some (int i64 U.2)∧w'.cell? ⟨sb,so+k * 2,none⟩=some (int i64 T.1)∧w'.cell? ⟨sb,so+k * 2+1,none⟩=some (int i64 T.2)):=hid (by
    intro w' kk
    exact ⟨za kk b1,za kk b3,za kk b4,za kk d,za kk d0,za kk d1,za kk e0,za kk e1⟩)
   cases hg:tyE U T with
   | true=>
    rw[hg] at HC;have HR2:=hid (REL.o hg);clear hg REL BAD;go_upto_region 6 with fail
    go_region_held3 (fun w'=>w'.cell? ⟨q,1,none⟩=some (.slice (some ⟨rb,ro,none⟩) R rp)∧w'.cell? ⟨q+1,5,none⟩=some (.slice (some ⟨zb,zo,none⟩) m cp)∧w'.cell? ⟨q+2,0,none⟩=some (.slice (some ⟨sb,so,none⟩) m sp)∧w'.cell? ⟨zb,zo+k,none⟩=some (int i64 (r:Int))∧w'.cell? ⟨rb,ro+r * 2,none⟩=some (int i64 U.1)∧w'.cell? ⟨rb,ro+r * 2+1,none⟩=some (int i64 U.2)∧w'.cell? ⟨sb,so+k * 2,none⟩=some (int i64 T.1)∧w'.cell? ⟨sb,so+k * 2+1,none⟩=some (int i64 T.2)) (go_keep) (first | (go_at_call 72;refine (HC.o _).mono ?_;rintro e w5 ⟨rfl,k5⟩;obtain ⟨y1,y2,y3,y4,y5,y6,y7,y8⟩:=CC.o _ ((zc.drew [] _).quiet k5);have K5:=hid (HK.o.quiet ((zc.drew [] _).quiet k5));clear k5))
    go_wp2_with fail;go_roundw
    case rel=>exact ⟨k+1,by omega,by go_num,K5,HR2⟩
    case measure=>simp[intOf];omega
   | false=>
    rw[hg] at HC;have HF:=hid (BAD.o hg);clear hg REL BAD;go_upto_region 6 with fail
    go_region_held3 (fun w'=>w'.cell? ⟨q,1,none⟩=some (.slice (some ⟨rb,ro,none⟩) R rp)∧w'.cell? ⟨q+1,5,none⟩=some (.slice (some ⟨zb,zo,none⟩) m cp)∧w'.cell? ⟨q+2,0,none⟩=some (.slice (some ⟨sb,so,none⟩) m sp)∧w'.cell? ⟨zb,zo+k,none⟩=some (int i64 (r:Int))∧w'.cell? ⟨rb,ro+r * 2,none⟩=some (int i64 U.1)∧w'.cell? ⟨rb,ro+r * 2+1,none⟩=some (int i64 U.2)∧w'.cell? ⟨sb,so+k * 2,none⟩=some (int i64 T.1)∧w'.cell? ⟨sb,so+k * 2+1,none⟩=some (int i64 T.2)) (go_keep) (first | (go_at_call 72;refine (HC.o _).mono ?_;rintro e w5 ⟨rfl,k5⟩;obtain ⟨y1,y2,y3,y4,y5,y6,y7,y8⟩:=CC.o _ ((zc.drew [] _).quiet k5);have K5:=hid (HK.o.quiet ((zc.drew [] _).quiet k5));clear k5))
    go_wp2_with fail;go_ret;exact ⟨by rw[HF.o];rfl,HK2.o.quiet K5.o⟩
  ·obtain rfl:m=k:=by omega
   have HF:Box (J7 f x s=tyE TD s.2):=hid (by
    have:jk f x.args s.1=true:=by rw[HAC.o,List.all_eq_true];exact fun j hj=>HB.o j (List.mem_range.1 hj)
    rw[HE.o,this,HTD.o]
    rfl)
   obtain ⟨d0,d1⟩:=DC.o _ HK.o;have HC:=hid (HEQ.o TD s.2);unfold tyV at HC;generalize tyE TD s.2=res at *
   have CC:Box (∀ w',zc [] wr w'→w'.cell? ⟨q,1,none⟩=some (.slice (some ⟨rb,ro,none⟩) R rp)∧w'.cell? ⟨q+1,1,none⟩=some (int i64 (D:Int))∧w'.cell? ⟨q+2,1,none⟩=some (int i64 s.2.1)∧w'.cell? ⟨q+2,2,none⟩=some (int i64 s.2.2)∧w'.cell? ⟨rb,ro+D * 2,none⟩=some (int i64 TD.1)∧w'.cell? ⟨rb,ro+D * 2+1,none⟩=some (int i64 TD.2)):=hid (by
    intro w' kk
    exact ⟨za kk b1,za kk b2,za kk b5,za kk b6,za kk d0,za kk d1⟩)
   go_upto_region 8 with fail
   go_region_held3 (fun w'=>w'.cell? ⟨q,1,none⟩=some (.slice (some ⟨rb,ro,none⟩) R rp)∧w'.cell? ⟨q+1,1,none⟩=some (int i64 (D:Int))∧w'.cell? ⟨q+2,1,none⟩=some (int i64 s.2.1)∧w'.cell? ⟨q+2,2,none⟩=some (int i64 s.2.2)∧w'.cell? ⟨rb,ro+D * 2,none⟩=some (int i64 TD.1)∧w'.cell? ⟨rb,ro+D * 2+1,none⟩=some (int i64 TD.2)) (go_keep) (first | (go_at_call 72;refine (HC.o _).mono ?_;rintro e w5 ⟨rfl,k5⟩;obtain ⟨y1,y2,y3,y4,y5,y6⟩:=CC.o _ ((zc.drew [] _).quiet k5);have K5:=hid (HK.o.quiet ((zc.drew [] _).quiet k5));clear k5))
   go_wp2_with fail;go_ret;exact ⟨by rw[HF.o];rfl,HK2.o.quiet K5.o⟩
theorem zld{s t:Int × Int}:tyE s t=true ↔ s=t:=by
 unfold tyE;rw[Bool.and_eq_true,beq_iff_eq,beq_iff_eq];exact ⟨fun h=>Prod.ext h.1 h.2,fun h=>by rw[h];exact ⟨rfl,rfl⟩⟩
def zag(P:Pr8)(n:Int):List (Int × Int) × Int × Int:=P.sigs.getD n.toNat ([],0,0)
def if8(P:Pr8)(n:Int):List Int:=P.ifs.getD n.toNat []
def im8(P:Pr8)(k:Nat):Int × Int × List Int:=P.ims.getD k (0,0,[])
def mtB(r:Int)(s t:List (Int × Int) × Int × Int):Bool:=decide (s.1=(1,r) :: t.1) && tyE s.2 t.2
def isM(P:Pr8)(r f n:Int):Bool:=inB f P.funcs.length && (inB (zg P f.toNat).sig P.sigs.length && (inB n P.sigs.length && mtB r (zag P (zg P f.toNat).sig) (zag P n)))
def zbj(P:Pr8)(m:Int × Int × List Int):Bool:=inB m.1 P.recs.length && (inB m.2.1 P.ifs.length && (decide (m.2.2.length=(if8 P m.2.1).length) && (List.range m.2.2.length).all fun k=>isM P m.1 (m.2.2.getD k 0) ((if8 P m.2.1).getD k 0)))
def QB(P:Pr8):List (Int × Int):=P.ims.map fun m=>(m.1,m.2.1)
def zdA(P:Pr8):Bool:=decide (QB P).Nodup && P.ims.all (zbj P)
def zjo(P:Pr8)(i:Nat)(m:Int × Int × List Int):Bool:=decide (m.2.2.length=(if8 P m.2.1).length) && (decide (Q0 P m.1 m.2.1=(i:Int)) && (List.range (if8 P m.2.1).length).all fun k=>mtB m.1 (zag P (zg P (m.2.2.getD k 0).toNat).sig) (zag P ((if8 P m.2.1).getD k 0)))
def zax(P:Pr8):Bool:=(List.range P.ims.length).all fun i=>zjo P i (im8 P i)
theorem Qh{i:Nat}(h:i<P.ims.length):P.ims[i]? = some (im8 P i):=zh h
end Go.Proofs.YtkgoimokgbdgfaaGreatDoor
