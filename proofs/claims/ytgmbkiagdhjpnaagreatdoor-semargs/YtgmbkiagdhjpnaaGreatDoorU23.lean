import Derived.Test.YtgmbkiagdhjpnaaGreatDoorU16
import Derived.Test.YtgmbkiagdhjpnaaGreatDoorU18
import Derived.Test.YtgmbkiagdhjpnaaGreatDoorU22

namespace Go.Proofs.YtgmbkiagdhjpnaaGreatDoor
open Go.RowKit
open Go.Value (int pointer agg)
open Go.IntKind (i64)
set_option maxHeartbeats 8000000
set_option maxRecDepth 20000
variable {P:Pr8}{a:Option Addr}{c cap cp fb fo g i j n pb po:Nat}{f:Fu8}{fv v:Value}{w w':World}
def Jb(P:Pr8)(r i:Int):Bool:=P.ims.any fun m=>m.1 == r && m.2.1 == i
theorem zhl(h:PrC w pb po P)(r i:Int):Calls Tryz.prog 218 #[pointer (some ⟨pb,po,none⟩),int i64 r,int i64 i] w fun e w'=>e=.returned (.bool (Jb P r i))∧w'=w:=by
 obtain ⟨a,cp,c3,hr,_,hm⟩:=h.c3;have HR:=hid hr;obtain ⟨n,hn⟩:∃ n,n=P.ims.length:=⟨_,rfl⟩;rw[← hn] at c3 hm;have HL:=hid hn;have hn1:(n:Int)≤9223372036854775807:=by unfold maxLen at hm;omega
 clear h hr hn hm;go_enter Tryz.func218,Tryz.ntmps218;go_wp2_with fail
 go_loop [13] (fun kv=>∃ k:Nat,k≤n∧kv=int i64 (k:Int)∧Box (∀ j y,j<k→P.ims[j]? = some y→(y.1 == r && y.2.1 == i)=false)) (fun kv=>n - (intOf kv).toNat)
 case atStart=>exact ⟨0,by omega,rfl,hid fun j y hj=>by omega⟩
 case round=>
  obtain ⟨k,hk,rfl,HB⟩:=hrel;by_cases hlt:k<n
  ·have hlt':(k:Int)<(n:Int):=by omega
   have HY:=hid (zi (l:=P.ims) (k:=k) (d:=(0,0,[])) (by rw[← HL.o];exact hlt));obtain ⟨b,off,rfl,hc⟩:=HR.o.at HY.o;have d0:=hc.c0.1;have d1:=hc.c1.1;have NEXT:Box (∀ y,P.ims[k]? = some y→(y.1 == r && y.2.1 == i)=false→∀ j z,j<k+1→P.ims[j]? = some z→(z.1 == r && z.2.1 == i)=false):=hid fun y hy hg j z hj hz=>by
    by_cases e:j<k
    ·exact HB.o j z e hz
    ·obtain rfl:j=k:=by omega
     rw[hy] at hz;cases hz;exact hg
   clear hc HB;generalize P.ims.getD k (0,0,[])=y at *;by_cases e1:y.1=r
   ·have q1:(y.1 == r)=true:=eqb e1
    by_cases e2:y.2.1=i
    ·have q2:(y.2.1 == i)=true:=eqb e2
     have HT:Box (Jb P r i=true):=hid (List.any_eq_true.2 ⟨y,List.mem_of_getElem? HY.o,by rw[q1,q2];rfl⟩);clear e1 e2 NEXT;go_wp2_with fail;go_ret;exact ⟨by rw[HT.o];rfl,rfl⟩
    ·have q2:(y.2.1 == i)=false:=neb e2
     have HN:=hid (NEXT.o y HY.o (by rw[q1,q2];rfl));clear e1 e2 NEXT;go_wp2_with fail
     go_round
     case rel=>exact ⟨k+1,by omega,by go_num,HN⟩
     case measure=>simp[intOf];omega
   ·have q1:(y.1 == r)=false:=neb e1
    have HN:=hid (NEXT.o y HY.o (by rw[q1];rfl));clear e1 NEXT;go_wp2_with fail
    go_round
    case rel=>exact ⟨k+1,by omega,by go_num,HN⟩
    case measure=>simp[intOf];omega
  ·obtain rfl:n=k:=by omega
   have HF:Box (Jb P r i=false):=hid (List.any_eq_false.2 fun y hy=>by
    obtain ⟨j,hj,e⟩:=List.getElem_of_mem hy;have:=HB.o j y (by rw[HL.o];exact hj) (by rw[List.getElem?_eq_getElem hj,e]);rw[this]
    simp)
   go_wp2_with fail;go_ret;exact ⟨by rw[HF.o];rfl,rfl⟩
def qt(f:Fu8)(l:List Int)(ps:List (Int × Int)):Bool:=decide (l.length=ps.length) && (List.range l.length).all fun k=>tyE (zj f (l.getD k 0)) (ps.getD k (0,0))
theorem zac(hf:FuC w fb fo f){l:List Int}(hz:zv w a l)(hl:l.length≤1000){pa:Option Addr}{pp:Nat}{ps:List (Int × Int)}(hp:zq w 2 TyC pa ps):Calls Tryz.prog 220 #[pointer (some ⟨fb,fo,none⟩),.slice a l.length cp,.slice pa ps.length pp] w fun e w'=>e=.returned (.bool (qt f l ps))∧za [] w w':=by
 have HZ:=hid hz;have HP:=hid hp;have HRT:=hid fun (r:Int) (w':World) (k:za [] w w')=>zo (FuC.stays _ _ _ _ _ k hf) r;have HE:Box (qt f l ps=(decide (l.length=ps.length) && (List.range l.length).all fun k=>tyE (zj f (l.getD k 0)) (ps.getD k (0,0)))):=hid rfl;obtain ⟨n,hn⟩:∃ n,n=l.length:=⟨_,rfl⟩;obtain ⟨m,hm⟩:∃ m,m=ps.length:=⟨_,rfl⟩;rw[← hn, ← hm] at HE;rw[← hn, ← hm];have HL:=hid hn;have HM:=hid hm;have hn1:(n:Int)≤9223372036854775807:=by omega
 clear hf hz hl hp hn hm;by_cases hnm:n=m
 case neg=>
  have q1:((n:Int) != (m:Int))=true:=zk4 (by omega);have HF:Box (qt f l ps=false):=hid (by rw[HE.o];simp[hnm]);clear hnm HE;go_enter Tryz.func220,Tryz.ntmps220;go_wp2_with fail;go_ret;exact ⟨by rw[HF.o];rfl,za.refl _ _⟩
 obtain rfl:m=n:=hnm.symm;have q1:((m:Int) != (m:Int))=false:=zlT rfl;have HG:Box (qt f l ps=(List.range m).all fun k=>tyE (zj f (l.getD k 0)) (ps.getD k (0,0))):=hid (by rw[HE.o];simp);clear hnm HE;go_enter Tryz.func220,Tryz.ntmps220;go_wp2_with fail
 go_loopw [16] (fun kv wr=>∃ k:Nat,k≤m∧kv=int i64 (k:Int)∧Box (za [] w wr)∧Box (∀ j,j<k→tyE (zj f (l.getD j 0)) (ps.getD j (0,0))=true)) (fun kv _=>m - (intOf kv).toNat)
 case atStart=>exact ⟨0,by omega,rfl,hid (za.refl _ _),hid fun j hj=>by omega⟩
 case round=>
  obtain ⟨k,hk,rfl,HK,HA⟩:=hrel;by_cases hlt:k<m
  ·have hlt':(k:Int)<(m:Int):=by omega
   obtain ⟨b,off,rfl,hc⟩:∃ b off,a=some ⟨b,off,none⟩∧w.cell? ⟨b,off+k,none⟩=some (int i64 (l.getD k 0)):=by
    rcases HZ.o with e | ⟨b,off,e,h⟩
    ·rw[e] at HL;have:=HL.o;simp at this;omega
    ·exact ⟨b,off,e,h k (by rw[← HL.o];exact hlt)⟩
   obtain ⟨b',off',rfl,hc'⟩:=HP.o.at (zi (l:=ps) (k:=k) (d:=(0,0)) (by rw[← HM.o];exact hlt));have d:=zb HK.o hc;have d0:=zb HK.o hc'.c0.1;have d1:=zb HK.o hc'.c1.1;have HC:=hid (HRT.o (l.getD k 0));have REL:Box (tyE (zj f (l.getD k 0)) (ps.getD k (0,0))=true→∀ j,j<k+1→tyE (zj f (l.getD j 0)) (ps.getD j (0,0))=true):=hid fun hg j hj=>by
    by_cases e:j<k
    ·exact HA.o j e
    ·obtain rfl:j=k:=by omega
     exact hg
   have BAD:Box (tyE (zj f (l.getD k 0)) (ps.getD k (0,0))=false→qt f l ps=false):=hid fun hg=>by
    rw[HG.o,List.all_eq_false];exact ⟨k,List.mem_range.2 hlt,by rw[hg];simp⟩
   clear hc hc';generalize zj f (l.getD k 0)=U at *;generalize l.getD k 0=r at *;generalize ps.getD k (0,0)=T at *;have rn:=fun w'=>zfu U.1 U.2 T.1 T.2 w';unfold tyV at HC;cases hg:tyE U T with
   | true=>
    have hg':tyE (U.1,U.2) (T.1,T.2)=true:=hg;rw[hg'] at rn;have HR2:=hid (REL.o hg);clear hg hg' REL BAD;go_upto_region 6 with fail
    go_region_held3 (fun w'=>w'.cell? ⟨b',off'+k * 2,none⟩=some (int i64 T.1)∧w'.cell? ⟨b',off'+k * 2+1,none⟩=some (int i64 T.2)) (go_keep) (first | (go_at_call 207;refine (HC.o _ (HK.o.quiet (za.drew [] _))).mono ?_;rintro e w5 ⟨rfl,k5⟩;have e0:=zb ((za.drew [] _).quiet k5) d0;have e1:=zb ((za.drew [] _).quiet k5) d1;have K5:=hid ((HK.o.quiet (za.drew [] _)).quiet k5);clear k5))
    go_wp2_with fail;go_roundw
    case rel=>exact ⟨k+1,by omega,by go_num,K5,HR2⟩
    case measure=>simp[intOf];omega
   | false=>
    have hg':tyE (U.1,U.2) (T.1,T.2)=false:=hg;rw[hg'] at rn;have HF:=hid (BAD.o hg);clear hg hg' REL BAD;go_upto_region 6 with fail
    go_region_held3 (fun w'=>w'.cell? ⟨b',off'+k * 2,none⟩=some (int i64 T.1)∧w'.cell? ⟨b',off'+k * 2+1,none⟩=some (int i64 T.2)) (go_keep) (first | (go_at_call 207;refine (HC.o _ (HK.o.quiet (za.drew [] _))).mono ?_;rintro e w5 ⟨rfl,k5⟩;have e0:=zb ((za.drew [] _).quiet k5) d0;have e1:=zb ((za.drew [] _).quiet k5) d1;have K5:=hid ((HK.o.quiet (za.drew [] _)).quiet k5);clear k5))
    go_wp2_with fail;go_ret;exact ⟨by rw[HF.o];rfl,K5.o⟩
  ·obtain rfl:m=k:=by omega
   have HF:Box (qt f l ps=true):=hid (by rw[HG.o,List.all_eq_true];exact fun j hj=>HA.o j (List.mem_range.1 hj));go_wp2_with fail;go_ret;exact ⟨by rw[HF.o];rfl,HK.o⟩
theorem zV.yes{O:Option (List (Int × Int) × Int × Int)}{s:List (Int × Int) × Int × Int}{w0:World}(h:O=some s)(k:za [] w w')(hv:SgV w0 v s):zV O w0 w (.returned (.tuple #[v,.bool true])) w':=by
 subst h;exact ⟨k,v,rfl,hv⟩
theorem zV.no{O:Option (List (Int × Int) × Int × Int)}{w0:World}(h:O=none)(k:za [] w w'):zV O w0 w (.returned (.tuple #[agg #[.slice none 0 0,int i64 0,int i64 0],.bool false])) w':=by
 subst h;exact ⟨k,rfl⟩
theorem zfH(h:PrC w pb po P)(hf:FuC w fb fo f)(x:In8)(ar:Value)(hop:x.op=13):Calls Tryz.prog 219 #[pointer (some ⟨pb,po,none⟩),pointer (some ⟨fb,fo,none⟩),zu x ar] w (zV (if (zj f x.a).1=2 then jB P (zj f x.a).2 else none) w w):=by
 unfold zu;rw[hop];obtain ⟨O,hO⟩:∃ O,O=if (zj f x.a).1=2 then jB P (zj f x.a).2 else none:=⟨_,rfl⟩
 rw[← hO];have HO:=hid hO;clear hO;obtain ⟨W,hW⟩:∃ W,W=(w.alloc (.cells #[int i64 13,int i64 x.dst,int i64 x.a,int i64 x.b,int i64 x.n,ar] 65)).alloc (.cells #[.slice none 0 0,int i64 0,int i64 0] 75):=⟨_,rfl⟩;have k2:za [] w W:=by rw[hW];exact (za.alloc [] w _).quiet (za.alloc [] _ _)
 have hn1:W.heap[w.heap.size]? = some (.cells #[int i64 13,int i64 x.dst,int i64 x.a,int i64 x.b,int i64 x.n,ar] 65 (0,0)):=by rw[hW];exact zd (ze w _) (za.alloc [] _ _)
 have hn2:W.heap[w.heap.size+1]? = some (.cells #[.slice none 0 0,int i64 0,int i64 0] 75 (0,0)):=by
  have:=ze (w.alloc (.cells #[int i64 13,int i64 x.dst,int i64 x.a,int i64 x.b,int i64 x.n,ar] 65)) (.cells #[.slice none 0 0,int i64 0,int i64 0] 75);rw[World.size_alloc] at this;rw[hW];exact this
 have HRT:=hid (zo (FuC.stays _ _ _ _ _ k2 hf) x.a);have K2:=hid k2;have HN1:=hid hn1;have HN2:=hid hn2;have HWE:=hid hW;have HP:=hid h;have i2:=zc hn1 2;have fin:∀ W' u0 u1 u2,za [] W W'→za [] w (((W'.setCell ⟨w.heap.size+1,0,none⟩ u0).setCell ⟨w.heap.size+1,1,none⟩ u1).setCell ⟨w.heap.size+1,2,none⟩ u2):=fun W' u0 u1 u2 k=>(K2.o.quiet k).trans (jh _ (w.heap.size+1) _ _ _) (fun x hx hl=>by simp at hx;omega);have FIN:=hid fin;have HSG:=hid fun (w':World) (k:za [] w w')=>ZX HP.o k (zj f x.a).2;clear hW k2 hn1 hn2 fin hop h hf;generalize zj f x.a=T at *;unfold tyV at HRT;go_enter Tryz.func219,Tryz.ntmps219;go_upto_region 1 with fail;rw[← HWE.o];clear HWE;generalize w.heap.size=q at *;go_wp2_with fail;refine HRT.o.mono ?_;rintro e w1 ⟨rfl,k1⟩;have KT:=k1.quiet (za.alloc [] w1 (.cells #[int i64 T.1,int i64 T.2] 60));have j1:=zd HN1.o KT;have j2:=zd HN2.o KT;have j3:=ze w1 (.cells #[int i64 T.1,int i64 T.2] 60);have KW:=hid KT;have J2:=hid j2;have a0:=zc j1 0;have a4:=zc j1 4;have t0:=zc j3 0;have t1:=zc j3 1;clear k1 i2 KT j1 HRT HN1 HN2;go_upto_region 2 with fail;have Z3:=hid j3;clear j3 j2;generalize w1.alloc (.cells #[int i64 T.1,int i64 T.2] 60)=W2 at *;generalize w1.heap.size=q2 at *;go_quiet (fail);have KDR:Box (za [] W2 (W2.drewN nq)):=hid (za.drewN _ _ _);generalize W2.drewN nq=W3 at *;replace a0:=zb KDR.o a0;replace a4:=zb KDR.o a4;replace t0:=zb KDR.o t0;replace t1:=zb KDR.o t1;by_cases hT:T.1=2
 ·replace HO:=hid (HO.o.trans (if_pos hT))
  have o1:=eqb hT;clear hT;go_wp2_with fail;cases hs:jB P T.2 with
  | none=>
   have HOO:Box (O=none):=hid (HO.o.trans hs);rw[hs] at HSG;clear HO hs;refine (HSG.o _ ((K2.o.quiet KW.o).quiet KDR.o)).mono ?_;rintro e w5 ⟨k5,rfl⟩;have hb5:=zd J2.o (KDR.o.quiet k5);have K5:=hid ((KW.o.quiet KDR.o).quiet k5);have y0:=zg hb5 0;have y1:=zg hb5 1;have y2:=zg hb5 2;have x0:=zc hb5 0;have x1:=zc hb5 1;have x2:=zc hb5 2;have HB5:=hid hb5;clear hb5 k5;go_wp2_with fail;have h3:=Jt HB5.o (.slice none 0 0) (int i64 0) (int i64 0);have e0:=zc h3 0;have e1:=zc h3 1;have e2:=zc h3 2;exact bodyPost_ret (v:=.tuple #[agg #[.slice none 0 0,int i64 0,int i64 0],.bool false]) (by simp[results,Tryz.results219,go_sem,e0,e1,e2]) rfl (zV.no HOO.o (FIN.o _ _ _ _ K5.o))
  | some sg=>
   have HOO:Box (O=some sg):=hid (HO.o.trans hs);rw[hs] at HSG;clear HO hs;refine (HSG.o _ ((K2.o.quiet KW.o).quiet KDR.o)).mono ?_;rintro e w5 ⟨k5,v5,rfl,ga,gp,rfl,hv6⟩;have hb5:=zd J2.o (KDR.o.quiet k5);have K5:=hid ((KW.o.quiet KDR.o).quiet k5);have HV6:=hid hv6;have y0:=zg hb5 0;have y1:=zg hb5 1;have y2:=zg hb5 2;have x0:=zc hb5 0;have x1:=zc hb5 1;have x2:=zc hb5 2;have HB5:=hid hb5;clear hb5 k5 hv6;go_wp2_with fail;have h3:=Jt HB5.o (.slice ga sg.1.length gp) (int i64 sg.2.1) (int i64 sg.2.2);have e0:=zc h3 0;have e1:=zc h3 1;have e2:=zc h3 2;exact bodyPost_ret (v:=.tuple #[agg #[.slice ga sg.1.length gp,int i64 sg.2.1,int i64 sg.2.2],.bool true]) (by simp[results,Tryz.results219,go_sem,e0,e1,e2]) rfl (zV.yes HOO.o (FIN.o _ _ _ _ K5.o) ⟨ga,gp,rfl,HV6.o⟩)
 ·have HOO:Box (O=none):=hid (HO.o.trans (if_neg hT))
  clear HO;have o1:=neb hT;have hb5:=zd J2.o KDR.o;have y0:=zg hb5 0;have y1:=zg hb5 1;have y2:=zg hb5 2;have x0:=zc hb5 0;have x1:=zc hb5 1;have x2:=zc hb5 2;have HB5:=hid hb5;have K5:=hid (KW.o.quiet KDR.o);clear hT HSG hb5;go_wp2_with fail;have h3:=Jt HB5.o (.slice none 0 0) (int i64 0) (int i64 0);have e0:=zc h3 0;have e1:=zc h3 1;have e2:=zc h3 2;exact bodyPost_ret (v:=.tuple #[agg #[.slice none 0 0,int i64 0,int i64 0],.bool false]) (by simp[results,Tryz.results219,go_sem,e0,e1,e2]) rfl (zV.no HOO.o (FIN.o _ _ _ _ K5.o))
theorem zdD(h:PrC w pb po P)(hf:FuC w fb fo f)(x:In8)(ar:Value)(hop:x.op=14):Calls Tryz.prog 219 #[pointer (some ⟨pb,po,none⟩),pointer (some ⟨fb,fo,none⟩),zu x ar] w (zV (qS P (zj f x.a) x.n) w w):=by
 unfold zu;rw[hop];obtain ⟨O,hO⟩:∃ O,O=qS P (zj f x.a) x.n:=⟨_,rfl⟩;rw[← hO];have HO:=hid hO;clear hO;obtain ⟨W,hW⟩:∃ W,W=(w.alloc (.cells #[int i64 14,int i64 x.dst,int i64 x.a,int i64 x.b,int i64 x.n,ar] 65)).alloc (.cells #[.slice none 0 0,int i64 0,int i64 0] 75):=⟨_,rfl⟩;have k2:za [] w W:=by rw[hW];exact (za.alloc [] w _).quiet (za.alloc [] _ _)
 have hn1:W.heap[w.heap.size]? = some (.cells #[int i64 14,int i64 x.dst,int i64 x.a,int i64 x.b,int i64 x.n,ar] 65 (0,0)):=by rw[hW];exact zd (ze w _) (za.alloc [] _ _)
 have hn2:W.heap[w.heap.size+1]? = some (.cells #[.slice none 0 0,int i64 0,int i64 0] 75 (0,0)):=by
  have:=ze (w.alloc (.cells #[int i64 14,int i64 x.dst,int i64 x.a,int i64 x.b,int i64 x.n,ar] 65)) (.cells #[.slice none 0 0,int i64 0,int i64 0] 75);rw[World.size_alloc] at this;rw[hW];exact this
 have HRT:=hid (zo (FuC.stays _ _ _ _ _ k2 hf) x.a);have K2:=hid k2;have HN1:=hid hn1;have HN2:=hid hn2;have HWE:=hid hW;have HP:=hid h;have i2:=zc hn1 2;have fin:∀ W' u0 u1 u2,za [] W W'→za [] w (((W'.setCell ⟨w.heap.size+1,0,none⟩ u0).setCell ⟨w.heap.size+1,1,none⟩ u1).setCell ⟨w.heap.size+1,2,none⟩ u2):=fun W' u0 u1 u2 k=>(K2.o.quiet k).trans (jh _ (w.heap.size+1) _ _ _) (fun x hx hl=>by simp at hx;omega);have FIN:=hid fin;have HSG:=hid fun (w':World) (k:za [] w w')=>Jk HP.o k (zj f x.a) x.n;clear hW k2 hn1 hn2 fin hop h hf;generalize zj f x.a=T at *;unfold tyV at HRT;go_enter Tryz.func219,Tryz.ntmps219;go_upto_region 1 with fail;rw[← HWE.o];clear HWE;generalize w.heap.size=q at *;go_wp2_with fail;refine HRT.o.mono ?_;rintro e w1 ⟨rfl,k1⟩;have KT:=k1.quiet (za.alloc [] w1 (.cells #[int i64 T.1,int i64 T.2] 60));have j1:=zd HN1.o KT;have j2:=zd HN2.o KT;have j3:=ze w1 (.cells #[int i64 T.1,int i64 T.2] 60);have KW:=hid KT;have J2:=hid j2;have a0:=zc j1 0;have a4:=zc j1 4;have t0:=zc j3 0;have t1:=zc j3 1;clear k1 i2 KT j1 HRT HN1 HN2;go_upto_region 2 with fail;have Z3:=hid j3;clear j3 j2;generalize w1.alloc (.cells #[int i64 T.1,int i64 T.2] 60)=W2 at *;generalize w1.heap.size=q2 at *;go_quiet (fail);have KDR:Box (za [] W2 (W2.drewN nq)):=hid (za.drewN _ _ _);generalize W2.drewN nq=W3 at *;replace a0:=zb KDR.o a0;replace a4:=zb KDR.o a4;replace t0:=zb KDR.o t0;replace t1:=zb KDR.o t1;go_wp2_with fail;cases hs:qS P T x.n with
 | none=>
  have HOO:Box (O=none):=hid (HO.o.trans hs);rw[hs] at HSG;clear HO hs;refine (HSG.o _ ((K2.o.quiet KW.o).quiet KDR.o)).mono ?_;rintro e w5 ⟨k5,rfl⟩;have hb5:=zd J2.o (KDR.o.quiet k5);have K5:=hid ((KW.o.quiet KDR.o).quiet k5);have y0:=zg hb5 0;have y1:=zg hb5 1;have y2:=zg hb5 2;have x0:=zc hb5 0;have x1:=zc hb5 1;have x2:=zc hb5 2;have HB5:=hid hb5;clear hb5 k5;go_wp2_with fail;have h3:=Jt HB5.o (.slice none 0 0) (int i64 0) (int i64 0);have e0:=zc h3 0;have e1:=zc h3 1;have e2:=zc h3 2;exact bodyPost_ret (v:=.tuple #[agg #[.slice none 0 0,int i64 0,int i64 0],.bool false]) (by simp[results,Tryz.results219,go_sem,e0,e1,e2]) rfl (zV.no HOO.o (FIN.o _ _ _ _ K5.o))
 | some sg=>
  have HOO:Box (O=some sg):=hid (HO.o.trans hs);rw[hs] at HSG;clear HO hs;refine (HSG.o _ ((K2.o.quiet KW.o).quiet KDR.o)).mono ?_;rintro e w5 ⟨k5,v5,rfl,ga,gp,rfl,hv6⟩;have hb5:=zd J2.o (KDR.o.quiet k5);have K5:=hid ((KW.o.quiet KDR.o).quiet k5);have HV6:=hid hv6;have y0:=zg hb5 0;have y1:=zg hb5 1;have y2:=zg hb5 2;have x0:=zc hb5 0;have x1:=zc hb5 1;have x2:=zc hb5 2;have HB5:=hid hb5;clear hb5 k5 hv6;go_wp2_with fail;have h3:=Jt HB5.o (.slice ga sg.1.length gp) (int i64 sg.2.1) (int i64 sg.2.2);have e0:=zc h3 0;have e1:=zc h3 1;have e2:=zc h3 2;exact bodyPost_ret (v:=.tuple #[agg #[.slice ga sg.1.length gp,int i64 sg.2.1,int i64 sg.2.2],.bool true]) (by simp[results,Tryz.results219,go_sem,e0,e1,e2]) rfl (zV.yes HOO.o (FIN.o _ _ _ _ K5.o) ⟨ga,gp,rfl,HV6.o⟩)
theorem zd7(h:PrC w pb po P)(hf:FuC w fb fo f)(x:In8)(ar:Value)(hop:x.op=12)(hn:inB x.n P.funcs.length=true):Calls Tryz.prog 219 #[pointer (some ⟨pb,po,none⟩),pointer (some ⟨fb,fo,none⟩),zu x ar] w (zV (jB P (zf P x.n.toNat).sig) w w):=by
 unfold zu;rw[hop];obtain ⟨O,hO⟩:∃ O,O=jB P (zf P x.n.toNat).sig:=⟨_,rfl⟩;rw[← hO];have HO:=hid hO;clear hO;obtain ⟨W,hW⟩:∃ W,W=(w.alloc (.cells #[int i64 12,int i64 x.dst,int i64 x.a,int i64 x.b,int i64 x.n,ar] 65)).alloc (.cells #[.slice none 0 0,int i64 0,int i64 0] 75):=⟨_,rfl⟩;have k2:za [] w W:=by rw[hW];exact (za.alloc [] w _).quiet (za.alloc [] _ _)
 have hn1:W.heap[w.heap.size]? = some (.cells #[int i64 12,int i64 x.dst,int i64 x.a,int i64 x.b,int i64 x.n,ar] 65 (0,0)):=by rw[hW];exact zd (ze w _) (za.alloc [] _ _)
 have hn2:W.heap[w.heap.size+1]? = some (.cells #[.slice none 0 0,int i64 0,int i64 0] 75 (0,0)):=by
  have:=ze (w.alloc (.cells #[int i64 12,int i64 x.dst,int i64 x.a,int i64 x.b,int i64 x.n,ar] 65)) (.cells #[.slice none 0 0,int i64 0,int i64 0] 75);rw[World.size_alloc] at this;rw[hW];exact this
 have HRT:=hid (zo (FuC.stays _ _ _ _ _ k2 hf) x.a);have K2:=hid k2;have HN1:=hid hn1;have HN2:=hid hn2;have HWE:=hid hW;have HP:=hid h;have i2:=zc hn1 2;have fin:∀ W' u0 u1 u2,za [] W W'→za [] w (((W'.setCell ⟨w.heap.size+1,0,none⟩ u0).setCell ⟨w.heap.size+1,1,none⟩ u1).setCell ⟨w.heap.size+1,2,none⟩ u2):=fun W' u0 u1 u2 k=>(K2.o.quiet k).trans (jh _ (w.heap.size+1) _ _ _) (fun x hx hl=>by simp at hx;omega);have FIN:=hid fin;obtain ⟨g0,g1⟩:=zm.1 hn;obtain ⟨m,hm⟩:∃ m:Nat,x.n=(m:Int):=⟨x.n.toNat,by omega⟩;rw[hm] at g1;have HW:Box (∀ w,Calls Tryz.prog 113 #[int i64 x.n,int i64 (P.funcs.length:Int)] w fun e w'=>e=.returned (.bool true)∧w'=w):=hid fun w=>by rw[← hn];exact zp _ _ w
 obtain ⟨fa,fp,c4,r4,_⟩:=h.c4;obtain ⟨gb,go,rfl,hfu0⟩:=r4.at (zi (l:=P.funcs) (k:=m) (d:=⟨0,[],[]⟩) (by omega));have HC4:Box (∀ w',za [] w w'→w'.cell? ⟨pb,po+4,none⟩=some (.slice (some ⟨gb,go,none⟩) P.funcs.length fp)∧w'.cell? ⟨gb,go+m * 3,none⟩=some (int i64 (zf P m).sig)):=hid fun w' k=>⟨zb k c4,zb k hfu0.c0.1⟩;have HSG:=hid fun (w':World) (k:za [] w w')=>ZX HP.o k (zf P m).sig;have em:x.n.toNat=m:=by omega
 rw[em] at HO;have hmm:=hid hm;clear c4 r4 hfu0 hn g0 em hm;clear hW k2 hn1 hn2 fin hop h hf;generalize zj f x.a=T at *;unfold tyV at HRT;go_enter Tryz.func219,Tryz.ntmps219;go_upto_region 1 with fail;rw[← HWE.o];clear HWE;generalize w.heap.size=q at *;go_wp2_with fail;refine HRT.o.mono ?_;rintro e w1 ⟨rfl,k1⟩;have KT:=k1.quiet (za.alloc [] w1 (.cells #[int i64 T.1,int i64 T.2] 60));have j1:=zd HN1.o KT;have j2:=zd HN2.o KT;have j3:=ze w1 (.cells #[int i64 T.1,int i64 T.2] 60);have KW:=hid KT;have J2:=hid j2;have a0:=zc j1 0;have a4:=zc j1 4;have t0:=zc j3 0;have t1:=zc j3 1;clear k1 i2 KT j1 HRT HN1 HN2;go_upto_region 2 with fail;have Z3:=hid j3;clear j3 j2;generalize w1.alloc (.cells #[int i64 T.1,int i64 T.2] 60)=W2 at *;generalize w1.heap.size=q2 at *;rw[hmm.o] at a4 HW;clear hmm;obtain ⟨f4,f5⟩:=HC4.o _ (K2.o.quiet KW.o);generalize (zf P m).sig=sn at *;generalize P.funcs.length=FN at *;go_quiet ((go_at_call 113;exact Calls.quiet_of_same (HW.o _)));have KDR:Box (za [] W2 (W2.drewN nq)):=hid (za.drewN _ _ _);go_upto_region 3 with fail;generalize W2.drewN nq=W3 at *;replace a4:=zb KDR.o a4;replace f4:=zb KDR.o f4;replace f5:=zb KDR.o f5;clear a0 t0 t1;cases hs:jB P sn with
 | none=>
  have HOO:Box (O=none):=hid (HO.o.trans hs);rw[hs] at HSG;clear HO hs
  go_region_with (go_at_call 173;refine (HSG.o _ (((K2.o.quiet KW.o).quiet KDR.o).quiet (za.drew [] _))).mono ?_;rintro e w5 ⟨k5,rfl⟩;have kk:=(za.drew [] W3).quiet k5;have g4:=zb kk f4;have g5:=zb kk f5;have g6:=zb kk a4;have hb5:=zd J2.o (KDR.o.quiet kk);have K5:=hid ((KW.o.quiet KDR.o).quiet kk);have y0:=zg hb5 0;have y1:=zg hb5 1;have y2:=zg hb5 2;have x0:=zc hb5 0;have x1:=zc hb5 1;have x2:=zc hb5 2;have HB5:=hid hb5;clear hb5 k5 kk)
  all_goals (
   go_wp2_with fail;have h3:=Jt HB5.o (.slice none 0 0) (int i64 0) (int i64 0);have e0:=zc h3 0;have e1:=zc h3 1;have e2:=zc h3 2
   exact bodyPost_ret (v:=.tuple #[agg #[.slice none 0 0,int i64 0,int i64 0],.bool false]) (by simp[results,Tryz.results219,go_sem,e0,e1,e2]) rfl (zV.no HOO.o (FIN.o _ _ _ _ K5.o)))
 | some sg=>
  have HOO:Box (O=some sg):=hid (HO.o.trans hs);rw[hs] at HSG;clear HO hs
  go_region_with (go_at_call 173;refine (HSG.o _ (((K2.o.quiet KW.o).quiet KDR.o).quiet (za.drew [] _))).mono ?_;rintro e w5 ⟨k5,v5,rfl,ga,gp,rfl,hv6⟩;have kk:=(za.drew [] W3).quiet k5;have g4:=zb kk f4;have g5:=zb kk f5;have g6:=zb kk a4;have hb5:=zd J2.o (KDR.o.quiet kk);have K5:=hid ((KW.o.quiet KDR.o).quiet kk);have y0:=zg hb5 0;have y1:=zg hb5 1;have y2:=zg hb5 2;have x0:=zc hb5 0;have x1:=zc hb5 1;have x2:=zc hb5 2;have HB5:=hid hb5;have HV6:=hid hv6;clear hb5 k5 kk hv6)
  all_goals (
   go_wp2_with fail;have h3:=Jt HB5.o (.slice ga sg.1.length gp) (int i64 sg.2.1) (int i64 sg.2.2);have e0:=zc h3 0;have e1:=zc h3 1;have e2:=zc h3 2
   exact bodyPost_ret (v:=.tuple #[agg #[.slice ga sg.1.length gp,int i64 sg.2.1,int i64 sg.2.2],.bool true]) (by simp[results,Tryz.results219,go_sem,e0,e1,e2]) rfl (zV.yes HOO.o (FIN.o _ _ _ _ K5.o) ⟨ga,gp,rfl,HV6.o⟩))
theorem Z2{α:Type}{f:α→List Value}{c:Nat}:∀ {l:List α},(∀ x,x∈l→(f x).length=c)→(l.flatMap f).length=l.length * c
 | [],_=>by simp
 | x :: l,h=>by
  rw[List.flatMap_cons,List.length_append,h x List.mem_cons_self,Z2 (l:=l) (fun y hy=>h y (List.mem_cons_of_mem _ hy)),List.length_cons,Nat.succ_mul,Nat.add_comm]
theorem J9{α:Type}{f:α→List Value}{c:Nat}:∀ {l:List α},(∀ x,x∈l→(f x).length=c)→∀ {j i:Nat}{x:α},l[j]? = some x→i<c→(l.flatMap f)[j * c+i]? = (f x)[i]?
 | [],_,j,i,x,hj,_=>by simp at hj
 | y :: l,h,0,i,x,hj,hi=>by
  simp at hj;subst hj;rw[List.flatMap_cons,Nat.zero_mul,Nat.zero_add,List.getElem?_append_left (by rw[h y List.mem_cons_self];exact hi)]
 | y :: l,h,j+1,i,x,hj,hi=>by
  rw[List.flatMap_cons,List.getElem?_append_right (by rw[h y List.mem_cons_self,Nat.succ_mul];omega),h y List.mem_cons_self,show (j+1) * c+i - c=j * c+i by rw[Nat.succ_mul];omega];exact J9 (l:=l) (fun z hz=>h z (List.mem_cons_of_mem _ hz)) (by simpa using hj) hi
theorem J5{α:Type}{f:α→List Value}{c:Nat}:∀ {l:List α},(∀ x,x∈l→(f x).length=c)→∀ {j i:Nat}{x y:α}{v:Value},l[j]? = some x→i<c→f y=(f x).set i v→(l.set j y).flatMap f=(l.flatMap f).set (j * c+i) v
 | [],_,j,i,x,y,v,hj,_,_=>by simp at hj
 | z :: l,h,0,i,x,y,v,hj,hi,e=>by
  simp at hj;subst hj;rw[List.set_cons_zero,List.flatMap_cons,List.flatMap_cons,e,Nat.zero_mul,Nat.zero_add,List.set_append_left _ _ (by rw[h z List.mem_cons_self];exact hi)]
 | z :: l,h,j+1,i,x,y,v,hj,hi,e=>by
  rw[List.set_cons_succ,List.flatMap_cons,List.flatMap_cons,J5 (l:=l) (fun q hq=>h q (List.mem_cons_of_mem _ hq)) (by simpa using hj) hi e,List.set_append_right _ _ (by rw[h z List.mem_cons_self,Nat.succ_mul];omega),h z List.mem_cons_self,show (j+1) * c+i - c=j * c+i by rw[Nat.succ_mul];omega]
def rgC(r:Rg):List Value:=[int i64 r.1.1,int i64 r.1.2.1,.bool r.1.2.2,.bool r.2]
def frC(x:Fr):List Value:=int i64 x.f :: int i64 x.b :: int i64 x.i :: x.rs.flatMap rgC
theorem ziB(l:List Rg):(l.flatMap rgC).length=l.length * 4:=Z2 fun _ _=>rfl
theorem qC{x:Fr}(h:x.rs.length=16):(frC x).length=67:=by
 unfold frC;simp only[List.length_cons];rw[ziB,h]
theorem zeq{x:Fr}{r:Nat}{y:Rg}(hr:x.rs[r]? = some y)(hi:i<4):(frC x)[3+r * 4+i]? = (rgC y)[i]? := by
 unfold frC;rw[show 3+r * 4+i=(r * 4+i)+1+1+1 by omega,List.getElem?_cons_succ,List.getElem?_cons_succ,List.getElem?_cons_succ];exact J9 (f:=rgC) (c:=4) (fun _ _=>rfl) hr hi
structure zT (w:World) (fv:Value) (l:List Fr):Prop where
 own:w.ownsRow 0 99 67 fv l.length (l.flatMap frC)
 sz:∀ x,x∈l→x.rs.length=16
theorem zT.kept{l:List Fr}{L:List Nat}(h:zT w fv l)(k:za L w w')(hL:∀ b,fv.ownBlock=some b→b ∉ L):zT w' fv l:=⟨zh h.own k hL,h.sz⟩
theorem zT.quiet{l:List Fr}(h:zT w fv l)(k:za [] w w'):zT w' fv l:=h.kept k fun _ _=>by simp
theorem zT.form{l:List Fr}(h:zT w fv l)(hl:l≠[]):∃ g cap,fv=.slice (some ⟨g,0,none⟩) l.length cap∧l.length≤cap∧g<w.heap.size:=by
 rcases h.own.2 with ⟨_,h0⟩ | ⟨g,cap,cur,hv,_,hg,hn,_⟩
 ·exact absurd (List.eq_nil_of_length_eq_zero h0) hl
 ·exact ⟨g,cap,hv,hn,zt hg⟩
theorem zT.len{l:List Fr}(h:zT w (.slice (some ⟨g,0,none⟩) n cap) l):n=l.length:=by
 rcases h.own.2 with ⟨h',_⟩ | ⟨g',cap',cur,h',_⟩
 ·simp at h'
 ·simp only[Value.slice.injEq] at h'
  exact h'.2.1
theorem zT.cell{l:List Fr}(h:zT w (.slice (some ⟨g,0,none⟩) n cap) l){x:Fr}(hj:l[j]? = some x)(hi:(frC x)[i]? = some v):w.cell? ⟨g,j * 67+i,none⟩=some v:=by
 obtain rfl:=h.len;have hx:=qC (h.sz x (List.mem_of_getElem? hj));have hi':i<67:=by rw[← hx];exact (List.getElem?_eq_some_iff.1 hi).1
 have hjl:=(List.getElem?_eq_some_iff.1 hj).1;rw[h.own.cellAt _ (by omega),J9 (fun y hy=>qC (h.sz y hy)) hj hi',hi]
theorem zT.thaw{l:List Fr}(h:zT w (.slice (some ⟨g,0,none⟩) n cap) l)(i:Nat):w.frozen? ⟨g,i,none⟩=false:=by
 have own:=h.own;rcases own.2 with ⟨h',_⟩ | ⟨g',cap',cur,h',_,hg,_⟩
 ·simp at h'
 ·simp only[Value.slice.injEq,Option.some.injEq,Addr.mk.injEq,and_true] at h'
  obtain ⟨rfl,_,rfl⟩:=h';exact zg hg i
theorem zT.put{l:List Fr}(h:zT w (.slice (some ⟨g,0,none⟩) n cap) l){x y:Fr}(hj:l[j]? = some x)(hi:i<67)(hy:y.rs.length=16)(e:frC y=(frC x).set i v):
  zT (w.setCell ⟨g,j * 67+i,none⟩ v) (.slice (some ⟨g,0,none⟩) n cap) (l.set j y):=by
 obtain rfl:=h.len;refine ⟨?_,fun z hz=> ?_⟩
 ·rw[List.length_set,J5 (fun q hq=>qC (h.sz q hq)) hj hi e]
  exact (h.own.stored _ v).1
 ·rcases List.mem_or_eq_of_mem_set hz with hz | rfl
  ·exact h.sz z hz
  ·exact hy
theorem zT.keeps(w:World)(g j i:Nat)(v:Value):za [g] w (w.setCell ⟨g,j * 67+i,none⟩ v):=za.setCell _ _ _ _ (List.mem_singleton.2 rfl)
theorem zT.set{l:List Fr}(h:zT w (.slice (some ⟨g,0,none⟩) n cap) l){x:Fr}(hj:l[j]? = some x){r:Nat}(hr:r<16)(v:V3):
  zT ((((w.setCell ⟨g,j * 67+(3+r * 4+0),none⟩ (int i64 v.1)).setCell ⟨g,j * 67+(3+r * 4+1),none⟩ (int i64 v.2.1)).setCell ⟨g,j * 67+(3+r * 4+2),none⟩ (.bool v.2.2)).setCell ⟨g,j * 67+(3+r * 4+3),none⟩ (.bool true)) (.slice (some ⟨g,0,none⟩) n cap) (l.set j (x.set (r:Int) v)):=by
 have hx:=h.sz x (List.mem_of_getElem? hj);obtain ⟨y,hy⟩:∃ y,x.rs[r]? = some y:=⟨_,List.getElem?_eq_getElem (by omega)⟩;have hjl:=(List.getElem?_eq_some_iff.1 hj).1;have one:∀ (z:Fr) (q q':Rg) (i:Nat) (u:Value),z.rs.length=16→z.rs[r]? = some q→i<4→rgC q'=(rgC q).set i u→frC { z with rs:=z.rs.set r q' }=(frC z).set (3+r * 4+i) u:=by
  intro z q q' i u _ hq hi e;unfold frC;rw[show 3+r * 4+i=(r * 4+i)+1+1+1 by omega,List.set_cons_succ,List.set_cons_succ,List.set_cons_succ];show _ :: _ :: _ :: (z.rs.set r q').flatMap rgC=_;rw[J5 (f:=rgC) (c:=4) (fun _ _=>rfl) hq hi e]
 obtain ⟨⟨y1,y2,y3⟩,y4⟩:=y;have a0:=h.put (y:={ x with rs:=x.rs.set r ((v.1,y2,y3),y4) }) (v:=int i64 v.1) hj (show 3+r * 4+0<67 by omega) (by simpa using hx) (one x _ _ 0 _ hx hy (by omega) rfl);have l1:∀ (z:Fr),(l.set j z)[j]? = some z:=fun z=>List.getElem?_set_self hjl;have g1:∀ (q:Rg),(x.rs.set r q)[r]? = some q:=fun q=>List.getElem?_set_self (by omega);have e1:∀ (z z':Fr),(l.set j z).set j z'=l.set j z':=fun z z'=>List.set_set ..;have e2:∀ (q q':Rg),(x.rs.set r q).set r q'=x.rs.set r q':=fun q q'=>List.set_set ..
 have a1:=a0.put (y:={ x with rs:=x.rs.set r ((v.1,v.2.1,y3),y4) }) (v:=int i64 v.2.1) (l1 _) (show 3+r * 4+1<67 by omega) (by simpa using hx) (by
  have:=one { x with rs:=x.rs.set r ((v.1,y2,y3),y4) } ((v.1,y2,y3),y4) ((v.1,v.2.1,y3),y4) 1 (int i64 v.2.1) (by simpa using hx) (g1 _) (by omega) rfl
  rw[← this];simp only[e2])
 rw[e1] at a1
 have a2:=a1.put (y:={ x with rs:=x.rs.set r ((v.1,v.2.1,v.2.2),y4) }) (v:=.bool v.2.2) (l1 _) (show 3+r * 4+2<67 by omega) (by simpa using hx) (by
  have:=one { x with rs:=x.rs.set r ((v.1,v.2.1,y3),y4) } ((v.1,v.2.1,y3),y4) ((v.1,v.2.1,v.2.2),y4) 2 (.bool v.2.2) (by simpa using hx) (g1 _) (by omega) rfl
  rw[← this];simp only[e2])
 rw[e1] at a2
 have a3:=a2.put (y:={ x with rs:=x.rs.set r ((v.1,v.2.1,v.2.2),true) }) (v:=.bool true) (l1 _) (show 3+r * 4+3<67 by omega) (by simpa using hx) (by
  have:=one { x with rs:=x.rs.set r ((v.1,v.2.1,v.2.2),y4) } ((v.1,v.2.1,v.2.2),y4) ((v.1,v.2.1,v.2.2),true) 3 (.bool true) (by simpa using hx) (g1 _) (by omega) rfl
  rw[← this];simp only[e2])
 rw[e1] at a3;exact a3
theorem zT.drop{l:List Fr}{x:Fr}(h:zT w (.slice (some ⟨g,0,none⟩) n cap) (l ++ [x])):zT w (.slice (some ⟨g,0,none⟩) l.length cap) l:=by
 have sz:∀ z,z∈l→z.rs.length=16:=fun z hz=>h.sz z (List.mem_append_left _ hz);refine ⟨⟨Z2 fun z hz=>qC (sz z hz),.inr ?_⟩,sz⟩;rcases h.own.2 with ⟨h',_⟩ | ⟨g',cap',cur,h',hb,hg,hn,hm,hs,ht⟩
 ·simp at h'
 ·simp only[Value.slice.injEq,Option.some.injEq,Addr.mk.injEq,and_true] at h'
  obtain ⟨rfl,_,rfl⟩:=h';rw[List.length_append] at hn;refine ⟨g,cap,cur,rfl,hb,hg,by omega,hm,hs,?_⟩;have e2:(l.flatMap frC).length=l.length * 67:=Z2 fun z hz=>qC (sz z hz);have e:=congrArg (List.take (l.length * 67)) ht;rw[List.take_take,List.flatMap_append,List.take_append_of_le_length (Nat.le_of_eq e2.symm),List.take_of_length_le (l:=l.flatMap frC) (Nat.le_of_eq e2),List.length_append,Nat.min_eq_left (Nat.mul_le_mul_right _ (Nat.le_add_right _ _))] at e;exact e
theorem zlL(hp:PrC w pb po P)(hf:FuC w fb fo f)(x:In8)(ar:Value)(har:ar=.slice a x.args.length cp)(hz:zv w a x.args)(hl:x.args.length≤1000)(hn:inB x.n P.funcs.length=true)(hop:x.op=12):Calls Tryz.prog 206 #[pointer (some ⟨pb,po,none⟩),pointer (some ⟨fb,fo,none⟩),zu x ar] w fun e w'=>e=.returned (.bool (match (jB P (zf P x.n.toNat).sig) with | none=>false | some s=>qt f x.args s.1 && tyE s.2 (zj f x.dst)))∧za [] w w':=by
 obtain ⟨O,hO⟩:∃ O,O=(jB P (zf P x.n.toNat).sig):=⟨_,rfl⟩;have HCL:=hid fun (w':World) (k:za [] w w')=>zd7 (PrC.stays _ _ _ _ _ k hp) (FuC.stays _ _ _ _ _ k hf) x ar hop hn;rw[← hO] at HCL ⊢;obtain ⟨RES,hRES⟩:∃ r,r=(match O with | none=>false | some s=>qt f x.args s.1 && tyE s.2 (zj f x.dst)):=⟨_,rfl⟩;rw[← hRES];have HRES:=hid hRES;have HFU:=hid hf;have HZ:=hid hz;have HLL:=hid hl;have HAR:=hid har;clear hRES hO hp hz hl har hn;unfold zu at HCL;rw[hop] at HCL;have ka:=za.alloc [] w (.cells #[int i64 x.op,int i64 x.dst,int i64 x.a,int i64 x.b,int i64 x.n,ar] 65);have hn:=ze w (.cells #[int i64 x.op,int i64 x.dst,int i64 x.a,int i64 x.b,int i64 x.n,ar] 65);have HRT:=hid fun (r:Int) (w':World) (k:za [] w w')=>zo (FuC.stays _ _ _ _ _ k hf) r;have KA:=hid ka;have HN:=hid hn;clear hf ka hn;unfold zu;rw[hop] at KA HN ⊢;go_enter Tryz.func206,Tryz.ntmps206;go_upto_region 1 with fail;generalize w.alloc (.cells #[int i64 12,int i64 x.dst,int i64 x.a,int i64 x.b,int i64 x.n,ar] 65)=WA at *;generalize w.heap.size=q at *;have H1:=hid fun (w':World) (k:za [] WA w')=>HRT.o x.dst w' (KA.o.quiet k);have H2:=hid fun (w':World) (k:za [] WA w')=>HRT.o x.a w' (KA.o.quiet k);have H3:=hid fun (w':World) (k:za [] WA w')=>HRT.o x.b w' (KA.o.quiet k);generalize hT1:zj f x.dst=T1 at *;generalize hT2:zj f x.a=T2 at *;generalize hT3:zj f x.b=T3 at *;have HT1:=hid hT1;have HT2:=hid hT2;have HT3:=hid hT3;clear hT1 hT2 hT3;refine qj HN.o H1.o H2.o H3.o (fun _ _ _ _ _ h=>h) (fun w1 b7 b8 b9 hk t7 t8 t9=> ?_)
 all_goals
  have T7:Box (qm w1 b7 T1):=hid t7;have T8:Box (qm w1 b8 T2):=hid t8;have T9:Box (qm w1 b9 T3):=hid t9;have K1:=hid (KA.o.quiet hk);have h5:=zd HN.o hk;have i0:=zc h5 0;have HI5:=hid h5;clear t7 t8 t9 h5 H1 H2 H3 HN hk;have s0:=zc T7.o 0;have s1:=zc T7.o 1;have p0:=zc T8.o 0;have p1:=zc T8.o 1;have r0:=zc T9.o 0;have r1:=zc T9.o 1
  try simp only[HT1.o] at HRES
  have i1:=zc HI5.o 1;have i2:=zc HI5.o 2;have i3:=zc HI5.o 3;have i4:=zc HI5.o 4;have i5:=zc HI5.o 5;go_wp2_with fail;refine (HCL.o _ K1.o).mono ?_;intro e w3 h3;obtain ⟨k3,sa,sp,n,t1,t2,rfl,hs⟩:=h3.open;have KT:=k3.quiet (za.alloc [] w3 (.cells #[.slice sa n sp,int i64 t1,int i64 t2] 75));have hnn:=ze w3 (.cells #[.slice sa n sp,int i64 t1,int i64 t2] 75);have K3:=hid (K1.o.quiet KT);have K13:=hid KT;have HB:=hid hnn;have HS:=hid hs;clear h3 k3 KT hs hnn s0 s1 p0 p1 r0 r1 i0 i1 i2 i3 i4 i5;have b0:=zc HB.o 0;have i5:=zc (zd HI5.o K13.o) 5;rw[HAR.o] at i5;cases O with
  | none=>
   have HE:Box (RES=false):=HRES;simp only[Option.isSome_none];clear HRES HS;go_wp2_with fail;go_ret;exact ⟨by rw[HE.o];rfl,K3.o⟩
  | some s=>
   obtain ⟨e1,e2,e3,hrs,hm⟩:=HS.o s rfl;subst e1 e2 e3;have HCA:=hid (zac (cp:=cp) (pp:=sp) (FuC.stays _ _ _ _ _ K3.o HFU.o) (HZ.o.kept K3.o (fun _ _ _=>by simp)) HLL.o (zq.quiet hrs TyC.stays K13.o));clear hrs hm HS;simp only[Option.isSome_some];have HE:Box (RES=(qt f x.args s.1 && tyE s.2 T1)):=HRES;clear HRES;generalize qt f x.args s.1=AB at *;go_wp2_with fail;refine HCA.o.mono ?_;rintro e w6 ⟨rfl,k6⟩;have K6:=hid (K3.o.quiet k6);have hb6:=zd HB.o k6;have hd6:=zd T7.o (K13.o.quiet k6);have b1:=zc hb6 1;have b2:=zc hb6 2;have y0:=zc hd6 0;have y1:=zc hd6 1;clear k6 hb6 hd6 b0 i5;have re:=fun w'=>jS s.2.1 s.2.2 T1.1 T1.2 w';cases AB with
   | false=>
    have HF:Box (RES=false):=HE;clear HE;go_wp2_with fail;go_ret;exact ⟨by rw[HF.o];rfl,K6.o⟩
   | true=>
    have HF:Box (RES=tyE s.2 T1):=HE;clear HE;go_wp2_with fail;go_ret;exact ⟨by rw[HF.o];rfl,K6.o⟩
theorem zkA(hp:PrC w pb po P)(hf:FuC w fb fo f)(x:In8)(ar:Value)(har:ar=.slice a x.args.length cp)(hz:zv w a x.args)(hl:x.args.length≤1000)(hop:x.op=13):Calls Tryz.prog 206 #[pointer (some ⟨pb,po,none⟩),pointer (some ⟨fb,fo,none⟩),zu x ar] w fun e w'=>e=.returned (.bool (match (if (zj f x.a).1=2 then jB P (zj f x.a).2 else none) with | none=>false | some s=>qt f x.args s.1 && tyE s.2 (zj f x.dst)))∧za [] w w':=by
 obtain ⟨O,hO⟩:∃ O,O=(if (zj f x.a).1=2 then jB P (zj f x.a).2 else none):=⟨_,rfl⟩;have HCL:=hid fun (w':World) (k:za [] w w')=>zfH (PrC.stays _ _ _ _ _ k hp) (FuC.stays _ _ _ _ _ k hf) x ar hop;rw[← hO] at HCL ⊢;obtain ⟨RES,hRES⟩:∃ r,r=(match O with | none=>false | some s=>qt f x.args s.1 && tyE s.2 (zj f x.dst)):=⟨_,rfl⟩;rw[← hRES];have HRES:=hid hRES;have HFU:=hid hf;have HZ:=hid hz;have HLL:=hid hl;have HAR:=hid har;clear hRES hO hp hz hl har;unfold zu at HCL;rw[hop] at HCL;have ka:=za.alloc [] w (.cells #[int i64 x.op,int i64 x.dst,int i64 x.a,int i64 x.b,int i64 x.n,ar] 65);have hn:=ze w (.cells #[int i64 x.op,int i64 x.dst,int i64 x.a,int i64 x.b,int i64 x.n,ar] 65);have HRT:=hid fun (r:Int) (w':World) (k:za [] w w')=>zo (FuC.stays _ _ _ _ _ k hf) r;have KA:=hid ka;have HN:=hid hn;clear hf ka hn;unfold zu;rw[hop] at KA HN ⊢;go_enter Tryz.func206,Tryz.ntmps206;go_upto_region 1 with fail;generalize w.alloc (.cells #[int i64 13,int i64 x.dst,int i64 x.a,int i64 x.b,int i64 x.n,ar] 65)=WA at *;generalize w.heap.size=q at *;have H1:=hid fun (w':World) (k:za [] WA w')=>HRT.o x.dst w' (KA.o.quiet k);have H2:=hid fun (w':World) (k:za [] WA w')=>HRT.o x.a w' (KA.o.quiet k);have H3:=hid fun (w':World) (k:za [] WA w')=>HRT.o x.b w' (KA.o.quiet k);generalize hT1:zj f x.dst=T1 at *;generalize hT2:zj f x.a=T2 at *;generalize hT3:zj f x.b=T3 at *;have HT1:=hid hT1;have HT2:=hid hT2;have HT3:=hid hT3;clear hT1 hT2 hT3;refine qj HN.o H1.o H2.o H3.o (fun _ _ _ _ _ h=>h) (fun w1 b7 b8 b9 hk t7 t8 t9=> ?_)
 all_goals
  have T7:Box (qm w1 b7 T1):=hid t7;have T8:Box (qm w1 b8 T2):=hid t8;have T9:Box (qm w1 b9 T3):=hid t9;have K1:=hid (KA.o.quiet hk);have h5:=zd HN.o hk;have i0:=zc h5 0;have HI5:=hid h5;clear t7 t8 t9 h5 H1 H2 H3 HN hk;have s0:=zc T7.o 0;have s1:=zc T7.o 1;have p0:=zc T8.o 0;have p1:=zc T8.o 1;have r0:=zc T9.o 0;have r1:=zc T9.o 1
  try simp only[HT1.o] at HRES
  have i1:=zc HI5.o 1;have i2:=zc HI5.o 2;have i3:=zc HI5.o 3;have i4:=zc HI5.o 4;have i5:=zc HI5.o 5;go_wp2_with fail;refine (HCL.o _ K1.o).mono ?_;intro e w3 h3;obtain ⟨k3,sa,sp,n,t1,t2,rfl,hs⟩:=h3.open;have KT:=k3.quiet (za.alloc [] w3 (.cells #[.slice sa n sp,int i64 t1,int i64 t2] 75));have hnn:=ze w3 (.cells #[.slice sa n sp,int i64 t1,int i64 t2] 75);have K3:=hid (K1.o.quiet KT);have K13:=hid KT;have HB:=hid hnn;have HS:=hid hs;clear h3 k3 KT hs hnn s0 s1 p0 p1 r0 r1 i0 i1 i2 i3 i4 i5;have b0:=zc HB.o 0;have i5:=zc (zd HI5.o K13.o) 5;rw[HAR.o] at i5;cases O with
  | none=>
   have HE:Box (RES=false):=HRES;simp only[Option.isSome_none];clear HRES HS;go_wp2_with fail;go_ret;exact ⟨by rw[HE.o];rfl,K3.o⟩
  | some s=>
   obtain ⟨e1,e2,e3,hrs,hm⟩:=HS.o s rfl;subst e1 e2 e3;have HCA:=hid (zac (cp:=cp) (pp:=sp) (FuC.stays _ _ _ _ _ K3.o HFU.o) (HZ.o.kept K3.o (fun _ _ _=>by simp)) HLL.o (zq.quiet hrs TyC.stays K13.o));clear hrs hm HS;simp only[Option.isSome_some];have HE:Box (RES=(qt f x.args s.1 && tyE s.2 T1)):=HRES;clear HRES;generalize qt f x.args s.1=AB at *;go_wp2_with fail;refine HCA.o.mono ?_;rintro e w6 ⟨rfl,k6⟩;have K6:=hid (K3.o.quiet k6);have hb6:=zd HB.o k6;have hd6:=zd T7.o (K13.o.quiet k6);have b1:=zc hb6 1;have b2:=zc hb6 2;have y0:=zc hd6 0;have y1:=zc hd6 1;clear k6 hb6 hd6 b0 i5;have re:=fun w'=>jS s.2.1 s.2.2 T1.1 T1.2 w';cases AB with
   | false=>
    have HF:Box (RES=false):=HE;clear HE;go_wp2_with fail;go_ret;exact ⟨by rw[HF.o];rfl,K6.o⟩
   | true=>
    have HF:Box (RES=tyE s.2 T1):=HE;clear HE;go_wp2_with fail;go_ret;exact ⟨by rw[HF.o];rfl,K6.o⟩
theorem zkB(hp:PrC w pb po P)(hf:FuC w fb fo f)(x:In8)(ar:Value)(har:ar=.slice a x.args.length cp)(hz:zv w a x.args)(hl:x.args.length≤1000)(hop:x.op=14):Calls Tryz.prog 206 #[pointer (some ⟨pb,po,none⟩),pointer (some ⟨fb,fo,none⟩),zu x ar] w fun e w'=>e=.returned (.bool (match (qS P (zj f x.a) x.n) with | none=>false | some s=>qt f x.args s.1 && tyE s.2 (zj f x.dst)))∧za [] w w':=by
 obtain ⟨O,hO⟩:∃ O,O=(qS P (zj f x.a) x.n):=⟨_,rfl⟩;have HCL:=hid fun (w':World) (k:za [] w w')=>zdD (PrC.stays _ _ _ _ _ k hp) (FuC.stays _ _ _ _ _ k hf) x ar hop;rw[← hO] at HCL ⊢;obtain ⟨RES,hRES⟩:∃ r,r=(match O with | none=>false | some s=>qt f x.args s.1 && tyE s.2 (zj f x.dst)):=⟨_,rfl⟩;rw[← hRES];have HRES:=hid hRES;have HFU:=hid hf;have HZ:=hid hz;have HLL:=hid hl;have HAR:=hid har;clear hRES hO hp hz hl har;unfold zu at HCL;rw[hop] at HCL;have ka:=za.alloc [] w (.cells #[int i64 x.op,int i64 x.dst,int i64 x.a,int i64 x.b,int i64 x.n,ar] 65);have hn:=ze w (.cells #[int i64 x.op,int i64 x.dst,int i64 x.a,int i64 x.b,int i64 x.n,ar] 65);have HRT:=hid fun (r:Int) (w':World) (k:za [] w w')=>zo (FuC.stays _ _ _ _ _ k hf) r;have KA:=hid ka;have HN:=hid hn;clear hf ka hn;unfold zu;rw[hop] at KA HN ⊢;go_enter Tryz.func206,Tryz.ntmps206;go_upto_region 1 with fail;generalize w.alloc (.cells #[int i64 14,int i64 x.dst,int i64 x.a,int i64 x.b,int i64 x.n,ar] 65)=WA at *;generalize w.heap.size=q at *;have H1:=hid fun (w':World) (k:za [] WA w')=>HRT.o x.dst w' (KA.o.quiet k);have H2:=hid fun (w':World) (k:za [] WA w')=>HRT.o x.a w' (KA.o.quiet k);have H3:=hid fun (w':World) (k:za [] WA w')=>HRT.o x.b w' (KA.o.quiet k);generalize hT1:zj f x.dst=T1 at *;generalize hT2:zj f x.a=T2 at *;generalize hT3:zj f x.b=T3 at *;have HT1:=hid hT1;have HT2:=hid hT2;have HT3:=hid hT3;clear hT1 hT2 hT3;refine qj HN.o H1.o H2.o H3.o (fun _ _ _ _ _ h=>h) (fun w1 b7 b8 b9 hk t7 t8 t9=> ?_)
 all_goals
  have T7:Box (qm w1 b7 T1):=hid t7;have T8:Box (qm w1 b8 T2):=hid t8;have T9:Box (qm w1 b9 T3):=hid t9;have K1:=hid (KA.o.quiet hk);have h5:=zd HN.o hk;have i0:=zc h5 0;have HI5:=hid h5;clear t7 t8 t9 h5 H1 H2 H3 HN hk;have s0:=zc T7.o 0;have s1:=zc T7.o 1;have p0:=zc T8.o 0;have p1:=zc T8.o 1;have r0:=zc T9.o 0;have r1:=zc T9.o 1
  try simp only[HT1.o] at HRES
  have i1:=zc HI5.o 1;have i2:=zc HI5.o 2;have i3:=zc HI5.o 3;have i4:=zc HI5.o 4;have i5:=zc HI5.o 5;go_wp2_with fail;refine (HCL.o _ K1.o).mono ?_;intro e w3 h3;obtain ⟨k3,sa,sp,n,t1,t2,rfl,hs⟩:=h3.open;have KT:=k3.quiet (za.alloc [] w3 (.cells #[.slice sa n sp,int i64 t1,int i64 t2] 75));have hnn:=ze w3 (.cells #[.slice sa n sp,int i64 t1,int i64 t2] 75);have K3:=hid (K1.o.quiet KT);have K13:=hid KT;have HB:=hid hnn;have HS:=hid hs;clear h3 k3 KT hs hnn s0 s1 p0 p1 r0 r1 i0 i1 i2 i3 i4 i5;have b0:=zc HB.o 0;have i5:=zc (zd HI5.o K13.o) 5;rw[HAR.o] at i5;cases O with
  | none=>
   have HE:Box (RES=false):=HRES;simp only[Option.isSome_none];clear HRES HS;go_wp2_with fail;go_ret;exact ⟨by rw[HE.o];rfl,K3.o⟩
  | some s=>
   obtain ⟨e1,e2,e3,hrs,hm⟩:=HS.o s rfl;subst e1 e2 e3;have HCA:=hid (zac (cp:=cp) (pp:=sp) (FuC.stays _ _ _ _ _ K3.o HFU.o) (HZ.o.kept K3.o (fun _ _ _=>by simp)) HLL.o (zq.quiet hrs TyC.stays K13.o));clear hrs hm HS;simp only[Option.isSome_some];have HE:Box (RES=(qt f x.args s.1 && tyE s.2 T1)):=HRES;clear HRES;generalize qt f x.args s.1=AB at *;go_wp2_with fail;refine HCA.o.mono ?_;rintro e w6 ⟨rfl,k6⟩;have K6:=hid (K3.o.quiet k6);have hb6:=zd HB.o k6;have hd6:=zd T7.o (K13.o.quiet k6);have b1:=zc hb6 1;have b2:=zc hb6 2;have y0:=zc hd6 0;have y1:=zc hd6 1;clear k6 hb6 hd6 b0 i5;have re:=fun w'=>jS s.2.1 s.2.2 T1.1 T1.2 w';cases AB with
   | false=>
    have HF:Box (RES=false):=HE;clear HE;go_wp2_with fail;go_ret;exact ⟨by rw[HF.o];rfl,K6.o⟩
   | true=>
    have HF:Box (RES=tyE s.2 T1):=HE;clear HE;go_wp2_with fail;go_ret;exact ⟨by rw[HF.o];rfl,K6.o⟩
end Go.Proofs.YtgmbkiagdhjpnaaGreatDoor
