import Derived.Test.YthflgjkmbakedaaGreatDoorA11

namespace Go.Proofs.YthflgjkmbakedaaGreatDoor
open Go.RowKit
open Go.Value (int pointer agg)
open Go.IntKind (i64)
set_option maxRecDepth 20000
set_option maxHeartbeats 8000000
variable {P:Pr8}{a:Option Addr}{base cp fb fo pb po:Nat}{f:Fu8}{lv:Value}{w:World}
section
variable {W0 w w':World}{mp pp fg:Nat}{P:Pr8}{m:Ma}{F:List Nat}{hb fc:Nat}{rv:Value}{oa:Option Addr}{oc:Nat}{os:List Ob}{Fh:List Nat}
structure zou (P:Pr8) (y:Fr):Prop where
 pt:Zh P y.f y.b y.i
 ic:y.i<(y.blk P).code.length
 d0:0≤(y.ins P).dst
 d1:(y.ins P).dst<16
 ib:y.i<1000000
end
theorem znu(hf:FuC w fb fo f)(x:In8)(ar:Value)(hop:x.op=2):Calls Tryz.prog 241 #[pointer (some ⟨pb,po,none⟩),pointer (some ⟨fb,fo,none⟩),z8 x ar] w fun e w'=>e=.returned (.bool ((zq f x.a).1 == 0 && ((zq f x.b).1 == 0 && (zq f x.dst).1 == 0)))∧zc [] w w':=by
 obtain ⟨RES,hRES⟩:∃ r,r=((zq f x.a).1 == 0 && ((zq f x.b).1 == 0 && (zq f x.dst).1 == 0)):=⟨_,rfl⟩;rw[← hRES];have HRES:=hid hRES;clear hRES;have ka:=zc.alloc [] w (.cells #[int i64 x.op,int i64 x.dst,int i64 x.a,int i64 x.b,int i64 x.n,ar] 54);have hn:=zh w (.cells #[int i64 x.op,int i64 x.dst,int i64 x.a,int i64 x.b,int i64 x.n,ar] 54);have HRT:=hid fun (r:Int) (w':World) (k:zc [] w w')=>zz (FuC.stays _ _ _ _ _ k hf) r;have KA:=hid ka;have HN:=hid hn;clear hf ka hn;unfold z8;rw[hop] at KA HN ⊢;go_enter Tryz.func241,Tryz.ntmps241;go_upto_region 1 with fail;generalize w.alloc (.cells #[int i64 2,int i64 x.dst,int i64 x.a,int i64 x.b,int i64 x.n,ar] 54)=WA at *;generalize w.heap.size=q at *;have H1:=hid fun (w':World) (k:zc [] WA w')=>HRT.o x.dst w' (KA.o.quiet k);have H2:=hid fun (w':World) (k:zc [] WA w')=>HRT.o x.a w' (KA.o.quiet k);have H3:=hid fun (w':World) (k:zc [] WA w')=>HRT.o x.b w' (KA.o.quiet k);generalize hT1:zq f x.dst=T1 at *;generalize hT2:zq f x.a=T2 at *;generalize hT3:zq f x.b=T3 at *;have HT1:=hid hT1;have HT2:=hid hT2;have HT3:=hid hT3;clear hT1 hT2 hT3;refine qY HN.o H1.o H2.o H3.o (fun _ _ _ _ _ h=>h) (fun w1 b7 b8 b9 hk t7 t8 t9=> ?_)
 all_goals
  have T7:Box (jh w1 b7 T1):=hid t7;have T8:Box (jh w1 b8 T2):=hid t8;have T9:Box (jh w1 b9 T3):=hid t9;have K1:=hid (KA.o.quiet hk);have h5:=ze HN.o hk;have i0:=zd h5 0;have HI5:=hid h5;clear t7 t8 t9 h5 H1 H2 H3 HN hk;have s0:=zd T7.o 0;have s1:=zd T7.o 1;have p0:=zd T8.o 0;have p1:=zd T8.o 1;have r0:=zd T9.o 0;have r1:=zd T9.o 1
  try simp only[HT1.o,HT2.o,HT3.o] at HRES
  by_cases g2:T2.1=0
  ·by_cases g3:T3.1=0
   ·have HE:Box (RES=(T1.1 == 0)):=hid (by rw[HRES.o,g2,g3];rfl)
    have o2:=QS g2;have o3:=QS g3;clear HRES g2 g3;go_wp2_with fail;go_ret;exact ⟨by rw[HE.o];rfl,K1.o⟩
   ·have HE:Box (RES=false):=hid (by rw[HRES.o,neb g3];simp)
    have o2:=QS g2;have o3:=QB g3;clear HRES g2 g3;go_wp2_with fail;go_ret;exact ⟨by rw[HE.o];rfl,K1.o⟩
  ·have HE:Box (RES=false):=hid (by rw[HRES.o,neb g2];simp)
   have o2:=QB g2;clear HRES g2;go_wp2_with fail;go_ret;exact ⟨by rw[HE.o];rfl,K1.o⟩
theorem znB(hf:FuC w fb fo f)(x:In8)(ar:Value)(hop:x.op=6):Calls Tryz.prog 241 #[pointer (some ⟨pb,po,none⟩),pointer (some ⟨fb,fo,none⟩),z8 x ar] w fun e w'=>e=.returned (.bool (tyE (zq f x.dst) (zq f x.a)))∧zc [] w w':=by
 have ka:=zc.alloc [] w (.cells #[int i64 x.op,int i64 x.dst,int i64 x.a,int i64 x.b,int i64 x.n,ar] 54);have hn:=zh w (.cells #[int i64 x.op,int i64 x.dst,int i64 x.a,int i64 x.b,int i64 x.n,ar] 54);have HRT:=hid fun (r:Int) (w':World) (k:zc [] w w')=>zz (FuC.stays _ _ _ _ _ k hf) r;have KA:=hid ka;have HN:=hid hn;clear hf ka hn;unfold z8;rw[hop] at KA HN ⊢;go_enter Tryz.func241,Tryz.ntmps241;go_upto_region 1 with fail;generalize w.alloc (.cells #[int i64 6,int i64 x.dst,int i64 x.a,int i64 x.b,int i64 x.n,ar] 54)=WA at *;generalize w.heap.size=q at *;have H1:=hid fun (w':World) (k:zc [] WA w')=>HRT.o x.dst w' (KA.o.quiet k);have H2:=hid fun (w':World) (k:zc [] WA w')=>HRT.o x.a w' (KA.o.quiet k);have H3:=hid fun (w':World) (k:zc [] WA w')=>HRT.o x.b w' (KA.o.quiet k);generalize hT1:zq f x.dst=T1 at *;generalize hT2:zq f x.a=T2 at *;generalize hT3:zq f x.b=T3 at *;have HT1:=hid hT1;have HT2:=hid hT2;have HT3:=hid hT3;clear hT1 hT2 hT3;refine qY HN.o H1.o H2.o H3.o (fun _ _ _ _ _ h=>h) (fun w1 b7 b8 b9 hk t7 t8 t9=> ?_)
 all_goals
  have T7:Box (jh w1 b7 T1):=hid t7;have T8:Box (jh w1 b8 T2):=hid t8;have T9:Box (jh w1 b9 T3):=hid t9;have K1:=hid (KA.o.quiet hk);have h5:=ze HN.o hk;have i0:=zd h5 0;have HI5:=hid h5;clear t7 t8 t9 h5 H1 H2 H3 HN hk;have s0:=zd T7.o 0;have s1:=zd T7.o 1;have p0:=zd T8.o 0;have p1:=zd T8.o 1;have r0:=zd T9.o 0;have r1:=zd T9.o 1;have re:=fun w'=>ZS T1.1 T1.2 T2.1 T2.2 w';go_wp2_with fail;go_ret;exact ⟨by rw[HT1.o,HT2.o];rfl,K1.o⟩
theorem zns(hp:PrC w pb po P)(hf:FuC w fb fo f)(x:In8)(ar:Value)(hop:x.op=7):Calls Tryz.prog 241 #[pointer (some ⟨pb,po,none⟩),pointer (some ⟨fb,fo,none⟩),z8 x ar] w fun e w'=>e=.returned (.bool (match qd P (zq f x.a) x.n with | none=>false | some t=>tyE t (zq f x.dst)))∧zc [] w w':=by
 obtain ⟨RES,hRES⟩:∃ r,r=(match qd P (zq f x.a) x.n with | none=>false | some t=>tyE t (zq f x.dst)):=⟨_,rfl⟩;rw[← hRES];have HRES:=hid hRES;clear hRES;have HFI:=hid fun (w':World) (k:zc [] w w')=>JY (PrC.stays _ _ _ _ _ k hp) (zq f x.a) x.n;clear hp;have ka:=zc.alloc [] w (.cells #[int i64 x.op,int i64 x.dst,int i64 x.a,int i64 x.b,int i64 x.n,ar] 54);have hn:=zh w (.cells #[int i64 x.op,int i64 x.dst,int i64 x.a,int i64 x.b,int i64 x.n,ar] 54);have HRT:=hid fun (r:Int) (w':World) (k:zc [] w w')=>zz (FuC.stays _ _ _ _ _ k hf) r;have KA:=hid ka;have HN:=hid hn;clear hf ka hn;unfold z8;rw[hop] at KA HN ⊢;go_enter Tryz.func241,Tryz.ntmps241;go_upto_region 1 with fail;generalize w.alloc (.cells #[int i64 7,int i64 x.dst,int i64 x.a,int i64 x.b,int i64 x.n,ar] 54)=WA at *;generalize w.heap.size=q at *;have H1:=hid fun (w':World) (k:zc [] WA w')=>HRT.o x.dst w' (KA.o.quiet k);have H2:=hid fun (w':World) (k:zc [] WA w')=>HRT.o x.a w' (KA.o.quiet k);have H3:=hid fun (w':World) (k:zc [] WA w')=>HRT.o x.b w' (KA.o.quiet k);generalize hT1:zq f x.dst=T1 at *;generalize hT2:zq f x.a=T2 at *;generalize hT3:zq f x.b=T3 at *;have HT1:=hid hT1;have HT2:=hid hT2;have HT3:=hid hT3;clear hT1 hT2 hT3;refine qY HN.o H1.o H2.o H3.o (fun _ _ _ _ _ h=>h) (fun w1 b7 b8 b9 hk t7 t8 t9=> ?_)
 all_goals
  have T7:Box (jh w1 b7 T1):=hid t7;have T8:Box (jh w1 b8 T2):=hid t8;have T9:Box (jh w1 b9 T3):=hid t9;have K1:=hid (KA.o.quiet hk);have h5:=ze HN.o hk;have i0:=zd h5 0;have HI5:=hid h5;clear t7 t8 t9 h5 H1 H2 H3 HN hk;have s0:=zd T7.o 0;have s1:=zd T7.o 1;have p0:=zd T8.o 0;have p1:=zd T8.o 1;have r0:=zd T9.o 0;have r1:=zd T9.o 1
  try simp only[HT2.o,HT1.o] at HRES
  have i4:=zd HI5.o 4;generalize hO:qd P T2 x.n=O at *;clear hO;obtain ⟨t,b,hv,hb⟩:=Q6 O;rw[hv] at HFI
  have HOB:Box (b=O.isSome∧∀ u,O=some u→t=u):=hid ⟨hb,fun u e=>by
   subst e;unfold zdE tyV at hv;simp at hv
   exact Prod.ext hv.1.1.symm hv.1.2.symm⟩
  clear hv hb;go_wp2_with fail;refine (HFI.o _ K1.o).mono ?_;rintro e w3 ⟨rfl,k3⟩;have KT:=k3.quiet (zc.alloc [] w3 (.cells #[int i64 t.1,int i64 t.2] 52));have hd:=ze T7.o KT;have hnn:=zh w3 (.cells #[int i64 t.1,int i64 t.2] 52);have KZ:=hid (K1.o.quiet KT);have j0:=zd hd 0;have j1:=zd hd 1;have n0:=zd hnn 0;have n1:=zd hnn 1;clear k3 KT hd hnn s0 s1 p0 p1 r0 r1 i0 i4;have re:=fun w'=>ZS t.1 t.2 T1.1 T1.2 w';cases O with
  | none=>
   have HB:Box (RES=false):=HRES;have eb:b=false:=HOB.o.1;subst eb;go_wp2_with fail;go_ret;exact ⟨by rw[HB.o];rfl,KZ.o⟩
  | some u=>
   have eu:t=u:=HOB.o.2 u rfl;subst eu;have HB:Box (RES=tyE t T1):=HRES;have eb:b=true:=HOB.o.1;subst eb;go_wp2_with fail;go_ret;exact ⟨by rw[HB.o];rfl,KZ.o⟩
theorem znm(hp:PrC w pb po P)(hf:FuC w fb fo f)(x:In8)(ar:Value)(hop:x.op=8):Calls Tryz.prog 241 #[pointer (some ⟨pb,po,none⟩),pointer (some ⟨fb,fo,none⟩),z8 x ar] w fun e w'=>e=.returned (.bool (match qd P (zq f x.a) x.n with | none=>false | some t=>tyE t (zq f x.b)))∧zc [] w w':=by
 obtain ⟨RES,hRES⟩:∃ r,r=(match qd P (zq f x.a) x.n with | none=>false | some t=>tyE t (zq f x.b)):=⟨_,rfl⟩;rw[← hRES];have HRES:=hid hRES;clear hRES;have HFI:=hid fun (w':World) (k:zc [] w w')=>JY (PrC.stays _ _ _ _ _ k hp) (zq f x.a) x.n;clear hp;have ka:=zc.alloc [] w (.cells #[int i64 x.op,int i64 x.dst,int i64 x.a,int i64 x.b,int i64 x.n,ar] 54);have hn:=zh w (.cells #[int i64 x.op,int i64 x.dst,int i64 x.a,int i64 x.b,int i64 x.n,ar] 54);have HRT:=hid fun (r:Int) (w':World) (k:zc [] w w')=>zz (FuC.stays _ _ _ _ _ k hf) r;have KA:=hid ka;have HN:=hid hn;clear hf ka hn;unfold z8;rw[hop] at KA HN ⊢;go_enter Tryz.func241,Tryz.ntmps241;go_upto_region 1 with fail;generalize w.alloc (.cells #[int i64 8,int i64 x.dst,int i64 x.a,int i64 x.b,int i64 x.n,ar] 54)=WA at *;generalize w.heap.size=q at *;have H1:=hid fun (w':World) (k:zc [] WA w')=>HRT.o x.dst w' (KA.o.quiet k);have H2:=hid fun (w':World) (k:zc [] WA w')=>HRT.o x.a w' (KA.o.quiet k);have H3:=hid fun (w':World) (k:zc [] WA w')=>HRT.o x.b w' (KA.o.quiet k);generalize hT1:zq f x.dst=T1 at *;generalize hT2:zq f x.a=T2 at *;generalize hT3:zq f x.b=T3 at *;have HT1:=hid hT1;have HT2:=hid hT2;have HT3:=hid hT3;clear hT1 hT2 hT3;refine qY HN.o H1.o H2.o H3.o (fun _ _ _ _ _ h=>h) (fun w1 b7 b8 b9 hk t7 t8 t9=> ?_)
 all_goals
  have T7:Box (jh w1 b7 T1):=hid t7;have T8:Box (jh w1 b8 T2):=hid t8;have T9:Box (jh w1 b9 T3):=hid t9;have K1:=hid (KA.o.quiet hk);have h5:=ze HN.o hk;have i0:=zd h5 0;have HI5:=hid h5;clear t7 t8 t9 h5 H1 H2 H3 HN hk;have s0:=zd T7.o 0;have s1:=zd T7.o 1;have p0:=zd T8.o 0;have p1:=zd T8.o 1;have r0:=zd T9.o 0;have r1:=zd T9.o 1
  try simp only[HT2.o,HT3.o] at HRES
  have i4:=zd HI5.o 4;generalize hO:qd P T2 x.n=O at *;clear hO;obtain ⟨t,b,hv,hb⟩:=Q6 O;rw[hv] at HFI
  have HOB:Box (b=O.isSome∧∀ u,O=some u→t=u):=hid ⟨hb,fun u e=>by
   subst e;unfold zdE tyV at hv;simp at hv
   exact Prod.ext hv.1.1.symm hv.1.2.symm⟩
  clear hv hb;go_wp2_with fail;refine (HFI.o _ K1.o).mono ?_;rintro e w3 ⟨rfl,k3⟩;have KT:=k3.quiet (zc.alloc [] w3 (.cells #[int i64 t.1,int i64 t.2] 52));have hd:=ze T9.o KT;have hnn:=zh w3 (.cells #[int i64 t.1,int i64 t.2] 52);have KZ:=hid (K1.o.quiet KT);have j0:=zd hd 0;have j1:=zd hd 1;have n0:=zd hnn 0;have n1:=zd hnn 1;clear k3 KT hd hnn s0 s1 p0 p1 r0 r1 i0 i4;have re:=fun w'=>ZS t.1 t.2 T3.1 T3.2 w';cases O with
  | none=>
   have HB:Box (RES=false):=HRES;have eb:b=false:=HOB.o.1;subst eb;go_wp2_with fail;go_ret;exact ⟨by rw[HB.o];rfl,KZ.o⟩
  | some u=>
   have eu:t=u:=HOB.o.2 u rfl;subst eu;have HB:Box (RES=tyE t T3):=HRES;have eb:b=true:=HOB.o.1;subst eb;go_wp2_with fail;go_ret;exact ⟨by rw[HB.o];rfl,KZ.o⟩
theorem zmJ(hp:PrC w pb po P)(hf:FuC w fb fo f)(x:In8)(ar:Value)(hn:inB x.n P.funcs.length=true)(hop:x.op=10):Calls Tryz.prog 241 #[pointer (some ⟨pb,po,none⟩),pointer (some ⟨fb,fo,none⟩),z8 x ar] w fun e w'=>e=.returned (.bool (tyE (zq f x.dst) (2,(zf P x.n.toNat).sig)))∧zc [] w w':=by
 obtain ⟨RES,hRES⟩:∃ r,r=(tyE (zq f x.dst) (2,(zf P x.n.toNat).sig)):=⟨_,rfl⟩;rw[← hRES];have HRES:=hid hRES;clear hRES;obtain ⟨g0,g1⟩:=zt.1 hn;obtain ⟨m,hm⟩:∃ m:Nat,x.n=(m:Int):=⟨x.n.toNat,by omega⟩;have HW:Box (∀ w,Calls Tryz.prog 123 #[int i64 x.n,int i64 (P.funcs.length:Int)] w fun e w'=>e=.returned (.bool true)∧w'=w):=hid fun w=>by rw[← hn];exact z6 _ _ w
 obtain ⟨fa,fp,c4,r4,_⟩:=hp.c4;obtain ⟨gb,go,rfl,hfu0⟩:=r4.at (zg (l:=P.funcs) (k:=m) (d:=⟨0,[],[]⟩) (by omega));have HC4:Box (∀ w',zc [] w w'→w'.cell? ⟨pb,po+4,none⟩=some (.slice (some ⟨gb,go,none⟩) P.funcs.length fp)∧w'.cell? ⟨gb,go+m * 3,none⟩=some (int i64 (zf P m).sig)):=hid fun w' k=>⟨za k c4,za k hfu0.c0.1⟩;have em:x.n.toNat=m:=by omega
 have hgm:(m:Int)<(P.funcs.length:Int):=by omega
 rw[em] at HRES;have hmm:=hid hm;clear c4 r4 hfu0 hn g0 g1 em hm hp;generalize (zf P m).sig=sn at *;generalize P.funcs.length=FN at *;have ka:=zc.alloc [] w (.cells #[int i64 x.op,int i64 x.dst,int i64 x.a,int i64 x.b,int i64 x.n,ar] 54);have hn:=zh w (.cells #[int i64 x.op,int i64 x.dst,int i64 x.a,int i64 x.b,int i64 x.n,ar] 54);have HRT:=hid fun (r:Int) (w':World) (k:zc [] w w')=>zz (FuC.stays _ _ _ _ _ k hf) r;have KA:=hid ka;have HN:=hid hn;clear hf ka hn;unfold z8;rw[hop] at KA HN ⊢;go_enter Tryz.func241,Tryz.ntmps241;go_upto_region 1 with fail;generalize w.alloc (.cells #[int i64 10,int i64 x.dst,int i64 x.a,int i64 x.b,int i64 x.n,ar] 54)=WA at *;generalize w.heap.size=q at *;have H1:=hid fun (w':World) (k:zc [] WA w')=>HRT.o x.dst w' (KA.o.quiet k);have H2:=hid fun (w':World) (k:zc [] WA w')=>HRT.o x.a w' (KA.o.quiet k);have H3:=hid fun (w':World) (k:zc [] WA w')=>HRT.o x.b w' (KA.o.quiet k);generalize hT1:zq f x.dst=T1 at *;generalize hT2:zq f x.a=T2 at *;generalize hT3:zq f x.b=T3 at *;have HT1:=hid hT1;have HT2:=hid hT2;have HT3:=hid hT3;clear hT1 hT2 hT3;refine qY HN.o H1.o H2.o H3.o (fun _ _ _ _ _ h=>h) (fun w1 b7 b8 b9 hk t7 t8 t9=> ?_)
 all_goals
  have T7:Box (jh w1 b7 T1):=hid t7;have T8:Box (jh w1 b8 T2):=hid t8;have T9:Box (jh w1 b9 T3):=hid t9;have K1:=hid (KA.o.quiet hk);have h5:=ze HN.o hk;have i0:=zd h5 0;have HI5:=hid h5;clear t7 t8 t9 h5 H1 H2 H3 HN hk;have s0:=zd T7.o 0;have s1:=zd T7.o 1;have p0:=zd T8.o 0;have p1:=zd T8.o 1;have r0:=zd T9.o 0;have r1:=zd T9.o 1
  try simp only[HT1.o] at HRES
  have i4:=zd HI5.o 4;rw[hmm.o] at i4 HW;clear hmm;obtain ⟨f4,f5⟩:=HC4.o _ K1.o;have re:=fun w'=>ZS T1.1 T1.2 2 sn w';go_upto_region 29 with fail;go_quiet ((go_at_call 123;exact Calls.quiet_of_same (HW.o _)));go_wp2_with fail;go_ret;exact ⟨by rw[HRES.o];rfl,K1.o.quiet (zc.drewN _ _ _)⟩
theorem zmx(hp:PrC w pb po P)(hf:FuC w fb fo f)(x:In8)(ar:Value)(hop:x.op=11):Calls Tryz.prog 241 #[pointer (some ⟨pb,po,none⟩),pointer (some ⟨fb,fo,none⟩),z8 x ar] w fun e w'=>e=.returned (.bool ((zq f x.dst).1 == 3 && ((zq f x.a).1 == 1 && Jf P (zq f x.a).2 (zq f x.dst).2)))∧zc [] w w':=by
 obtain ⟨RES,hRES⟩:∃ r,r=((zq f x.dst).1 == 3 && ((zq f x.a).1 == 1 && Jf P (zq f x.a).2 (zq f x.dst).2)):=⟨_,rfl⟩;rw[← hRES];have HRES:=hid hRES;clear hRES;have HIM:=hid fun (w':World) (k:zc [] w w')=>zhS (PrC.stays _ _ _ _ _ k hp) (zq f x.a).2 (zq f x.dst).2;clear hp;have ka:=zc.alloc [] w (.cells #[int i64 x.op,int i64 x.dst,int i64 x.a,int i64 x.b,int i64 x.n,ar] 54);have hn:=zh w (.cells #[int i64 x.op,int i64 x.dst,int i64 x.a,int i64 x.b,int i64 x.n,ar] 54);have HRT:=hid fun (r:Int) (w':World) (k:zc [] w w')=>zz (FuC.stays _ _ _ _ _ k hf) r;have KA:=hid ka;have HN:=hid hn;clear hf ka hn;unfold z8;rw[hop] at KA HN ⊢;go_enter Tryz.func241,Tryz.ntmps241;go_upto_region 1 with fail;generalize w.alloc (.cells #[int i64 11,int i64 x.dst,int i64 x.a,int i64 x.b,int i64 x.n,ar] 54)=WA at *;generalize w.heap.size=q at *;have H1:=hid fun (w':World) (k:zc [] WA w')=>HRT.o x.dst w' (KA.o.quiet k);have H2:=hid fun (w':World) (k:zc [] WA w')=>HRT.o x.a w' (KA.o.quiet k);have H3:=hid fun (w':World) (k:zc [] WA w')=>HRT.o x.b w' (KA.o.quiet k);generalize hT1:zq f x.dst=T1 at *;generalize hT2:zq f x.a=T2 at *;generalize hT3:zq f x.b=T3 at *;have HT1:=hid hT1;have HT2:=hid hT2;have HT3:=hid hT3;clear hT1 hT2 hT3;refine qY HN.o H1.o H2.o H3.o (fun _ _ _ _ _ h=>h) (fun w1 b7 b8 b9 hk t7 t8 t9=> ?_)
 all_goals
  have T7:Box (jh w1 b7 T1):=hid t7;have T8:Box (jh w1 b8 T2):=hid t8;have T9:Box (jh w1 b9 T3):=hid t9;have K1:=hid (KA.o.quiet hk);have h5:=ze HN.o hk;have i0:=zd h5 0;have HI5:=hid h5;clear t7 t8 t9 h5 H1 H2 H3 HN hk;have s0:=zd T7.o 0;have s1:=zd T7.o 1;have p0:=zd T8.o 0;have p1:=zd T8.o 1;have r0:=zd T9.o 0;have r1:=zd T9.o 1
  try simp only[HT1.o,HT2.o] at HRES
  by_cases g1:T1.1=3
  ·by_cases g2:T2.1=1
   ·have HE:Box (RES=Jf P T2.2 T1.2):=hid (by rw[HRES.o,g1,g2];rfl)
    have o1:=eqb g1;have o2:=eqb g2;clear HRES g1 g2;go_wp2_with fail;refine (HIM.o _ K1.o).mono ?_;rintro e w3 ⟨rfl,hw3⟩;rw[hw3];clear hw3;go_wp2_with fail;go_ret;exact ⟨by rw[HE.o];rfl,K1.o⟩
   ·have HE:Box (RES=false):=hid (by rw[HRES.o,neb g2];simp)
    have o1:=eqb g1;have o2:=neb g2;clear HRES g1 g2 HIM;go_wp2_with fail;go_ret;exact ⟨by rw[HE.o];rfl,K1.o⟩
  ·have HE:Box (RES=false):=hid (by rw[HRES.o,neb g1];simp)
   have o1:=neb g1;clear HRES g1 HIM;go_wp2_with fail;go_ret;exact ⟨by rw[HE.o];rfl,K1.o⟩
theorem zlS(hp:PrC w pb po P)(hf:FuC w fb fo f)(x:In8)(ar:Value)(har:ar=.slice a x.args.length cp)(hz:zw w a x.args)(hl:x.args.length≤1000)(hn:inB x.n P.funcs.length=true)(hop:x.op=12):Calls Tryz.prog 241 #[pointer (some ⟨pb,po,none⟩),pointer (some ⟨fb,fo,none⟩),z8 x ar] w fun e w'=>e=.returned (.bool (match (Qp P (zf P x.n.toNat).sig) with | none=>false | some s=>qL f x.args s.1 && tyE s.2 (zq f x.dst)))∧zc [] w w':=by
 obtain ⟨O,hO⟩:∃ O,O=(Qp P (zf P x.n.toNat).sig):=⟨_,rfl⟩;have HCL:=hid fun (w':World) (k:zc [] w w')=>zfk (PrC.stays _ _ _ _ _ k hp) (FuC.stays _ _ _ _ _ k hf) x ar hop hn;rw[← hO] at HCL ⊢;obtain ⟨RES,hRES⟩:∃ r,r=(match O with | none=>false | some s=>qL f x.args s.1 && tyE s.2 (zq f x.dst)):=⟨_,rfl⟩;rw[← hRES];have HRES:=hid hRES;have HFU:=hid hf;have HZ:=hid hz;have HLL:=hid hl;have HAR:=hid har;clear hRES hO hp hz hl har hn;unfold z8 at HCL;rw[hop] at HCL;have ka:=zc.alloc [] w (.cells #[int i64 x.op,int i64 x.dst,int i64 x.a,int i64 x.b,int i64 x.n,ar] 54);have hn:=zh w (.cells #[int i64 x.op,int i64 x.dst,int i64 x.a,int i64 x.b,int i64 x.n,ar] 54);have HRT:=hid fun (r:Int) (w':World) (k:zc [] w w')=>zz (FuC.stays _ _ _ _ _ k hf) r;have KA:=hid ka;have HN:=hid hn;clear hf ka hn;unfold z8;rw[hop] at KA HN ⊢;go_enter Tryz.func241,Tryz.ntmps241;go_upto_region 1 with fail;generalize w.alloc (.cells #[int i64 12,int i64 x.dst,int i64 x.a,int i64 x.b,int i64 x.n,ar] 54)=WA at *;generalize w.heap.size=q at *;have H1:=hid fun (w':World) (k:zc [] WA w')=>HRT.o x.dst w' (KA.o.quiet k);have H2:=hid fun (w':World) (k:zc [] WA w')=>HRT.o x.a w' (KA.o.quiet k);have H3:=hid fun (w':World) (k:zc [] WA w')=>HRT.o x.b w' (KA.o.quiet k);generalize hT1:zq f x.dst=T1 at *;generalize hT2:zq f x.a=T2 at *;generalize hT3:zq f x.b=T3 at *;have HT1:=hid hT1;have HT2:=hid hT2;have HT3:=hid hT3;clear hT1 hT2 hT3;refine qY HN.o H1.o H2.o H3.o (fun _ _ _ _ _ h=>h) (fun w1 b7 b8 b9 hk t7 t8 t9=> ?_)
 all_goals
  have T7:Box (jh w1 b7 T1):=hid t7;have T8:Box (jh w1 b8 T2):=hid t8;have T9:Box (jh w1 b9 T3):=hid t9;have K1:=hid (KA.o.quiet hk);have h5:=ze HN.o hk;have i0:=zd h5 0;have HI5:=hid h5;clear t7 t8 t9 h5 H1 H2 H3 HN hk;have s0:=zd T7.o 0;have s1:=zd T7.o 1;have p0:=zd T8.o 0;have p1:=zd T8.o 1;have r0:=zd T9.o 0;have r1:=zd T9.o 1
  try simp only[HT1.o] at HRES
  have i1:=zd HI5.o 1;have i2:=zd HI5.o 2;have i3:=zd HI5.o 3;have i4:=zd HI5.o 4;have i5:=zd HI5.o 5;go_wp2_with fail;refine (HCL.o _ K1.o).mono ?_;intro e w3 h3;obtain ⟨k3,sa,sp,n,t1,t2,rfl,hs⟩:=h3.open;have KT:=k3.quiet (zc.alloc [] w3 (.cells #[.slice sa n sp,int i64 t1,int i64 t2] 59));have hnn:=zh w3 (.cells #[.slice sa n sp,int i64 t1,int i64 t2] 59);have K3:=hid (K1.o.quiet KT);have K13:=hid KT;have HB:=hid hnn;have HS:=hid hs;clear h3 k3 KT hs hnn s0 s1 p0 p1 r0 r1 i0 i1 i2 i3 i4 i5;have b0:=zd HB.o 0;have i5:=zd (ze HI5.o K13.o) 5;rw[HAR.o] at i5;cases O with
  | none=>
   have HE:Box (RES=false):=HRES;simp only[Option.isSome_none];clear HRES HS;go_wp2_with fail;go_ret;exact ⟨by rw[HE.o];rfl,K3.o⟩
  | some s=>
   obtain ⟨e1,e2,e3,hrs,hm⟩:=HS.o s rfl;subst e1 e2 e3;have HCA:=hid (zaM (cp:=cp) (pp:=sp) (FuC.stays _ _ _ _ _ K3.o HFU.o) (HZ.o.kept K3.o (fun _ _ _=>by simp)) HLL.o (z7.quiet hrs TyC.stays K13.o));clear hrs hm HS;simp only[Option.isSome_some];have HE:Box (RES=(qL f x.args s.1 && tyE s.2 T1)):=HRES;clear HRES;generalize qL f x.args s.1=AB at *;go_wp2_with fail;refine HCA.o.mono ?_;rintro e w6 ⟨rfl,k6⟩;have K6:=hid (K3.o.quiet k6);have hb6:=ze HB.o k6;have hd6:=ze T7.o (K13.o.quiet k6);have b1:=zd hb6 1;have b2:=zd hb6 2;have y0:=zd hd6 0;have y1:=zd hd6 1;clear k6 hb6 hd6 b0 i5;have re:=fun w'=>ZS s.2.1 s.2.2 T1.1 T1.2 w';cases AB with
   | false=>
    have HF:Box (RES=false):=HE;clear HE;go_wp2_with fail;go_ret;exact ⟨by rw[HF.o];rfl,K6.o⟩
   | true=>
    have HF:Box (RES=tyE s.2 T1):=HE;clear HE;go_wp2_with fail;go_ret;exact ⟨by rw[HF.o];rfl,K6.o⟩
theorem zlF(hp:PrC w pb po P)(hf:FuC w fb fo f)(x:In8)(ar:Value)(har:ar=.slice a x.args.length cp)(hz:zw w a x.args)(hl:x.args.length≤1000)(hop:x.op=13):Calls Tryz.prog 241 #[pointer (some ⟨pb,po,none⟩),pointer (some ⟨fb,fo,none⟩),z8 x ar] w fun e w'=>e=.returned (.bool (match (if (zq f x.a).1=2 then Qp P (zq f x.a).2 else none) with | none=>false | some s=>qL f x.args s.1 && tyE s.2 (zq f x.dst)))∧zc [] w w':=by
 obtain ⟨O,hO⟩:∃ O,O=(if (zq f x.a).1=2 then Qp P (zq f x.a).2 else none):=⟨_,rfl⟩;have HCL:=hid fun (w':World) (k:zc [] w w')=>zgw (PrC.stays _ _ _ _ _ k hp) (FuC.stays _ _ _ _ _ k hf) x ar hop;rw[← hO] at HCL ⊢;obtain ⟨RES,hRES⟩:∃ r,r=(match O with | none=>false | some s=>qL f x.args s.1 && tyE s.2 (zq f x.dst)):=⟨_,rfl⟩;rw[← hRES];have HRES:=hid hRES;have HFU:=hid hf;have HZ:=hid hz;have HLL:=hid hl;have HAR:=hid har;clear hRES hO hp hz hl har;unfold z8 at HCL;rw[hop] at HCL;have ka:=zc.alloc [] w (.cells #[int i64 x.op,int i64 x.dst,int i64 x.a,int i64 x.b,int i64 x.n,ar] 54);have hn:=zh w (.cells #[int i64 x.op,int i64 x.dst,int i64 x.a,int i64 x.b,int i64 x.n,ar] 54);have HRT:=hid fun (r:Int) (w':World) (k:zc [] w w')=>zz (FuC.stays _ _ _ _ _ k hf) r;have KA:=hid ka;have HN:=hid hn;clear hf ka hn;unfold z8;rw[hop] at KA HN ⊢;go_enter Tryz.func241,Tryz.ntmps241;go_upto_region 1 with fail;generalize w.alloc (.cells #[int i64 13,int i64 x.dst,int i64 x.a,int i64 x.b,int i64 x.n,ar] 54)=WA at *;generalize w.heap.size=q at *;have H1:=hid fun (w':World) (k:zc [] WA w')=>HRT.o x.dst w' (KA.o.quiet k);have H2:=hid fun (w':World) (k:zc [] WA w')=>HRT.o x.a w' (KA.o.quiet k);have H3:=hid fun (w':World) (k:zc [] WA w')=>HRT.o x.b w' (KA.o.quiet k);generalize hT1:zq f x.dst=T1 at *;generalize hT2:zq f x.a=T2 at *;generalize hT3:zq f x.b=T3 at *;have HT1:=hid hT1;have HT2:=hid hT2;have HT3:=hid hT3;clear hT1 hT2 hT3;refine qY HN.o H1.o H2.o H3.o (fun _ _ _ _ _ h=>h) (fun w1 b7 b8 b9 hk t7 t8 t9=> ?_)
 all_goals
  have T7:Box (jh w1 b7 T1):=hid t7;have T8:Box (jh w1 b8 T2):=hid t8;have T9:Box (jh w1 b9 T3):=hid t9;have K1:=hid (KA.o.quiet hk);have h5:=ze HN.o hk;have i0:=zd h5 0;have HI5:=hid h5;clear t7 t8 t9 h5 H1 H2 H3 HN hk;have s0:=zd T7.o 0;have s1:=zd T7.o 1;have p0:=zd T8.o 0;have p1:=zd T8.o 1;have r0:=zd T9.o 0;have r1:=zd T9.o 1
  try simp only[HT1.o] at HRES
  have i1:=zd HI5.o 1;have i2:=zd HI5.o 2;have i3:=zd HI5.o 3;have i4:=zd HI5.o 4;have i5:=zd HI5.o 5;go_wp2_with fail;refine (HCL.o _ K1.o).mono ?_;intro e w3 h3;obtain ⟨k3,sa,sp,n,t1,t2,rfl,hs⟩:=h3.open;have KT:=k3.quiet (zc.alloc [] w3 (.cells #[.slice sa n sp,int i64 t1,int i64 t2] 59));have hnn:=zh w3 (.cells #[.slice sa n sp,int i64 t1,int i64 t2] 59);have K3:=hid (K1.o.quiet KT);have K13:=hid KT;have HB:=hid hnn;have HS:=hid hs;clear h3 k3 KT hs hnn s0 s1 p0 p1 r0 r1 i0 i1 i2 i3 i4 i5;have b0:=zd HB.o 0;have i5:=zd (ze HI5.o K13.o) 5;rw[HAR.o] at i5;cases O with
  | none=>
   have HE:Box (RES=false):=HRES;simp only[Option.isSome_none];clear HRES HS;go_wp2_with fail;go_ret;exact ⟨by rw[HE.o];rfl,K3.o⟩
  | some s=>
   obtain ⟨e1,e2,e3,hrs,hm⟩:=HS.o s rfl;subst e1 e2 e3;have HCA:=hid (zaM (cp:=cp) (pp:=sp) (FuC.stays _ _ _ _ _ K3.o HFU.o) (HZ.o.kept K3.o (fun _ _ _=>by simp)) HLL.o (z7.quiet hrs TyC.stays K13.o));clear hrs hm HS;simp only[Option.isSome_some];have HE:Box (RES=(qL f x.args s.1 && tyE s.2 T1)):=HRES;clear HRES;generalize qL f x.args s.1=AB at *;go_wp2_with fail;refine HCA.o.mono ?_;rintro e w6 ⟨rfl,k6⟩;have K6:=hid (K3.o.quiet k6);have hb6:=ze HB.o k6;have hd6:=ze T7.o (K13.o.quiet k6);have b1:=zd hb6 1;have b2:=zd hb6 2;have y0:=zd hd6 0;have y1:=zd hd6 1;clear k6 hb6 hd6 b0 i5;have re:=fun w'=>ZS s.2.1 s.2.2 T1.1 T1.2 w';cases AB with
   | false=>
    have HF:Box (RES=false):=HE;clear HE;go_wp2_with fail;go_ret;exact ⟨by rw[HF.o];rfl,K6.o⟩
   | true=>
    have HF:Box (RES=tyE s.2 T1):=HE;clear HE;go_wp2_with fail;go_ret;exact ⟨by rw[HF.o];rfl,K6.o⟩
theorem zm4(hp:PrC w pb po P)(hf:FuC w fb fo f)(x:In8)(ar:Value)(har:ar=.slice a x.args.length cp)(hz:zw w a x.args)(hl:x.args.length≤1000)(hop:x.op=14):Calls Tryz.prog 241 #[pointer (some ⟨pb,po,none⟩),pointer (some ⟨fb,fo,none⟩),z8 x ar] w fun e w'=>e=.returned (.bool (match (jM P (zq f x.a) x.n) with | none=>false | some s=>qL f x.args s.1 && tyE s.2 (zq f x.dst)))∧zc [] w w':=by
 obtain ⟨O,hO⟩:∃ O,O=(jM P (zq f x.a) x.n):=⟨_,rfl⟩;have HCL:=hid fun (w':World) (k:zc [] w w')=>zeZ (PrC.stays _ _ _ _ _ k hp) (FuC.stays _ _ _ _ _ k hf) x ar hop;rw[← hO] at HCL ⊢;obtain ⟨RES,hRES⟩:∃ r,r=(match O with | none=>false | some s=>qL f x.args s.1 && tyE s.2 (zq f x.dst)):=⟨_,rfl⟩;rw[← hRES];have HRES:=hid hRES;have HFU:=hid hf;have HZ:=hid hz;have HLL:=hid hl;have HAR:=hid har;clear hRES hO hp hz hl har;unfold z8 at HCL;rw[hop] at HCL;have ka:=zc.alloc [] w (.cells #[int i64 x.op,int i64 x.dst,int i64 x.a,int i64 x.b,int i64 x.n,ar] 54);have hn:=zh w (.cells #[int i64 x.op,int i64 x.dst,int i64 x.a,int i64 x.b,int i64 x.n,ar] 54);have HRT:=hid fun (r:Int) (w':World) (k:zc [] w w')=>zz (FuC.stays _ _ _ _ _ k hf) r;have KA:=hid ka;have HN:=hid hn;clear hf ka hn;unfold z8;rw[hop] at KA HN ⊢;go_enter Tryz.func241,Tryz.ntmps241;go_upto_region 1 with fail;generalize w.alloc (.cells #[int i64 14,int i64 x.dst,int i64 x.a,int i64 x.b,int i64 x.n,ar] 54)=WA at *;generalize w.heap.size=q at *;have H1:=hid fun (w':World) (k:zc [] WA w')=>HRT.o x.dst w' (KA.o.quiet k);have H2:=hid fun (w':World) (k:zc [] WA w')=>HRT.o x.a w' (KA.o.quiet k);have H3:=hid fun (w':World) (k:zc [] WA w')=>HRT.o x.b w' (KA.o.quiet k);generalize hT1:zq f x.dst=T1 at *;generalize hT2:zq f x.a=T2 at *;generalize hT3:zq f x.b=T3 at *;have HT1:=hid hT1;have HT2:=hid hT2;have HT3:=hid hT3;clear hT1 hT2 hT3;refine qY HN.o H1.o H2.o H3.o (fun _ _ _ _ _ h=>h) (fun w1 b7 b8 b9 hk t7 t8 t9=> ?_)
 all_goals
  have T7:Box (jh w1 b7 T1):=hid t7;have T8:Box (jh w1 b8 T2):=hid t8;have T9:Box (jh w1 b9 T3):=hid t9;have K1:=hid (KA.o.quiet hk);have h5:=ze HN.o hk;have i0:=zd h5 0;have HI5:=hid h5;clear t7 t8 t9 h5 H1 H2 H3 HN hk;have s0:=zd T7.o 0;have s1:=zd T7.o 1;have p0:=zd T8.o 0;have p1:=zd T8.o 1;have r0:=zd T9.o 0;have r1:=zd T9.o 1
  try simp only[HT1.o] at HRES
  have i1:=zd HI5.o 1;have i2:=zd HI5.o 2;have i3:=zd HI5.o 3;have i4:=zd HI5.o 4;have i5:=zd HI5.o 5;go_wp2_with fail;refine (HCL.o _ K1.o).mono ?_;intro e w3 h3;obtain ⟨k3,sa,sp,n,t1,t2,rfl,hs⟩:=h3.open;have KT:=k3.quiet (zc.alloc [] w3 (.cells #[.slice sa n sp,int i64 t1,int i64 t2] 59));have hnn:=zh w3 (.cells #[.slice sa n sp,int i64 t1,int i64 t2] 59);have K3:=hid (K1.o.quiet KT);have K13:=hid KT;have HB:=hid hnn;have HS:=hid hs;clear h3 k3 KT hs hnn s0 s1 p0 p1 r0 r1 i0 i1 i2 i3 i4 i5;have b0:=zd HB.o 0;have i5:=zd (ze HI5.o K13.o) 5;rw[HAR.o] at i5;cases O with
  | none=>
   have HE:Box (RES=false):=HRES;simp only[Option.isSome_none];clear HRES HS;go_wp2_with fail;go_ret;exact ⟨by rw[HE.o];rfl,K3.o⟩
  | some s=>
   obtain ⟨e1,e2,e3,hrs,hm⟩:=HS.o s rfl;subst e1 e2 e3;have HCA:=hid (zaM (cp:=cp) (pp:=sp) (FuC.stays _ _ _ _ _ K3.o HFU.o) (HZ.o.kept K3.o (fun _ _ _=>by simp)) HLL.o (z7.quiet hrs TyC.stays K13.o));clear hrs hm HS;simp only[Option.isSome_some];have HE:Box (RES=(qL f x.args s.1 && tyE s.2 T1)):=HRES;clear HRES;generalize qL f x.args s.1=AB at *;go_wp2_with fail;refine HCA.o.mono ?_;rintro e w6 ⟨rfl,k6⟩;have K6:=hid (K3.o.quiet k6);have hb6:=ze HB.o k6;have hd6:=ze T7.o (K13.o.quiet k6);have b1:=zd hb6 1;have b2:=zd hb6 2;have y0:=zd hd6 0;have y1:=zd hd6 1;clear k6 hb6 hd6 b0 i5;have re:=fun w'=>ZS s.2.1 s.2.2 T1.1 T1.2 w';cases AB with
   | false=>
    have HF:Box (RES=false):=HE;clear HE;go_wp2_with fail;go_ret;exact ⟨by rw[HF.o];rfl,K6.o⟩
   | true=>
    have HF:Box (RES=tyE s.2 T1):=HE;clear HE;go_wp2_with fail;go_ret;exact ⟨by rw[HF.o];rfl,K6.o⟩
def pc(q:Int × Int × Int):List Value:=[int i64 q.1,int i64 q.2.1,int i64 q.2.2]
def zbH:List (Int × Int × Int)→List Value
 | []=>[]
 | q :: l=>int i64 q.1 :: int i64 q.2.1 :: int i64 q.2.2 :: zbH l
theorem jX:∀ l:List (Int × Int × Int),(zbH l).length=l.length * 3
 | []=>rfl
 | q :: l=>by
  have:=jX l;simp only[zbH,List.length_cons];omega
theorem zas:∀ (l:List (Int × Int × Int)) (q:Int × Int × Int),zbH (l ++ [q])=zbH l ++ pc q
 | [],_=>rfl
 | a :: l,q=>by
  have:=zas l q;simp only[List.cons_append,zbH,this]
structure zix (w:World) (g off n:Nat) (vs:List Value):Prop where
 cell:∀ i,i<vs.length→w.cell? ⟨g,off+i,none⟩=vs[i]?
 room:∀ k,k<n→(w.cell? ⟨g,off+k,none⟩).isSome=true∧w.frozen? ⟨g,off+k,none⟩=false
 len:vs.length≤n
 lt:g<w.heap.size
theorem zix.kept{w':World}{g off n:Nat}{vs:List Value}{L:List Nat}(h : zix w g off n vs)(k : zc L w w')(hn : g ∉ L): zix w' g off n vs :=
  ⟨fun i hi => by rw [k.cell (p := ⟨g, off + i, none⟩) h.lt hn]; exact h.cell i hi,
   fun i hi => by rw [k.cell (p := ⟨g, off + i, none⟩) h.lt hn, World.frozen?_of_block (w := w) (k.block g h.lt hn)]; exact h.room i hi,
   h.len, Nat.lt_of_lt_of_le h.lt k.size⟩
structure Zf (w:World) (base:Nat) (lv:Value) (l:List (Int × Int × Int)):Prop where
 val:∃ g off cap,lv=.slice (some ⟨g,off,none⟩) l.length cap∧base≤g∧zix w g off (cap * 3) (zbH l)∧cap≤maxLen∧l.length≤cap
theorem Zf.own{l:List (Int × Int × Int)}(h:Zf w base lv l):∃ g,lv.ownBlock=some g∧base≤g∧g<w.heap.size:=by
 obtain ⟨g,off,cap,rfl,h1,h2,_⟩:=h.val;exact ⟨g,rfl,h1,h2.lt⟩
theorem Zf.kept{w':World}{l:List (Int × Int × Int)}{L:List Nat}(h:Zf w base lv l)(k:zc L w w')(hL:∀ x,lv.ownBlock=some x→x ∉ L):Zf w' base lv l:=by
 obtain ⟨g,off,cap,rfl,h1,h2,h3⟩:=h.val;exact ⟨g,off,cap,rfl,h1,h2.kept k (hL g rfl),h3⟩
theorem Zf.first{q:Int × Int × Int}{l:List (Int × Int × Int)}(h:Zf w base lv (q :: l)):
  ∃ g off cap,lv=.slice (some ⟨g,off,none⟩) (l.length+1) cap∧1≤cap∧cap≤maxLen∧w.cell? ⟨g,off,none⟩=some (int i64 q.1)∧w.cell? ⟨g,off+1,none⟩=some (int i64 q.2.1)∧w.cell? ⟨g,off+2,none⟩=some (int i64 q.2.2)∧(1<cap→Zf w base (.slice (some ⟨g,off+3,none⟩) l.length (cap - 1)) l)∧(cap=1→l=[]∧Zf w base (.slice (some ⟨g,off,none⟩) 0 0) []):=by
 obtain ⟨g,off,cap,rfl,h1,h2,h3,h4⟩:=h.val;simp only[List.length_cons] at h4;have hl:=jX l;refine ⟨g,off,cap,rfl,by omega,h3,h2.cell 0 (by simp[zbH]),h2.cell 1 (by simp[zbH]),h2.cell 2 (by simp[zbH]),fun hc=> ?_,fun hc=> ?_⟩
 ·refine ⟨g,off+3,cap - 1,rfl,h1,⟨fun i hi=> ?_,fun k hk=> ?_,by omega,h2.lt⟩,by omega,by omega⟩
  ·have:=h2.cell (i+3) (by simp only[zbH,List.length_cons];omega)
   rw[show off+3+i=off+(i+3) by omega,this];rfl
  ·rw[show off+3+k=off+(k+3) by omega]
   exact h2.room (k+3) (by omega)
 ·have hn:l=[]:=List.eq_nil_of_length_eq_zero (by omega)
  exact ⟨hn,⟨g,off,0,rfl,h1,⟨fun i hi=>by simp[zbH] at hi,fun k hk=>by omega,by simp[zbH],h2.lt⟩,by omega,by simp⟩⟩
theorem zdQ{v:Value}{n:Nat}{l:List (Int × Int × Int)}(h:w.ownsRow base 99 3 v n (zbH l))(hn:0<n):Zf w base v l:=by
 have hl:l.length=n:=by have:=h.1;rw[jX] at this;omega
 rcases h.2 with ⟨_,e⟩ | ⟨g,cap,cur,rfl,hb,hg,hnc,hcm,hcs,ht⟩
 ·omega
 ·refine ⟨g,0,cap,by rw[hl],hb,⟨fun i hi=> ?_,fun k hk=> ?_,by rw[jX];omega,(Array.getElem?_eq_some_iff.1 hg).1⟩,hcm,by omega⟩
  ·rw[cell_of_row w g _ _ _ _ hg,Nat.zero_add, ← ht,List.getElem?_take_of_lt (by rw[jX] at hi;omega),Array.getElem?_toList]
  ·refine ⟨?_,frozen_of_row w g _ _ _ hg⟩
   rw[cell_of_row w g _ _ _ _ hg,Nat.zero_add,Array.getElem?_eq_getElem (by omega)];rfl
theorem zmd(q:Int × Int × Int):∀ u∈pc q,u.oneCell'=true:=QL _ _ _
theorem zav(w:World)(ty:TypeId)(base:Nat)(hw:base≤w.heap.size)(l:List (Int × Int × Int))(q:Int × Int × Int)(lv:Value)(hv:Zf w base lv l)(ad:Addr)(c:Nat)
  (hnew:∀ j u,(pc q)[j]? = some u→w.cell? (ad.add j)=some u) (hb:l.length<1000000):
  ∃ v' w',(Builtin.append_ #[100,100] ty #[lv,.slice (some ad) 1 c]).run Tryz.prog w=.ok v' w'∧Zf w' base v' (l ++ [q])∧zc lv.ownBlock.toList w w'∧(v'.ownBlock=lv.ownBlock∨∃ g,v'.ownBlock=some g∧w.heap.size≤g):=by
 obtain ⟨g,off,cap,rfl,hg,hline,hcm,hlc⟩:=hv.val;have hfl:=jX l;by_cases hroom:l.length+1≤cap
 ·have hr:=run_append_room_cells (P:=Tryz.prog) w 100 ty 99 Tryz.t99 ZO zac g off l.length cap ad 1 c (pc q) (by rw[ZR];rfl) hnew (zmd q) hroom
   (fun j hj=>by (have hj':j<3:=hj);rw[ZR,Nat.add_assoc];exact (hline.room _ (by omega)).1) (fun j hj=>by (have hj':j<3:=hj);rw[ZR,Nat.add_assoc];exact (hline.room _ (by omega)).2)
  rw[ZR] at hr;have ht:∀ j,j<(pc q).length→(w.cell? ⟨g,off+l.length * 3+j,none⟩).isSome=true:=fun j hj=>by
   have hj':j<3:=hj;rw[Nat.add_assoc];exact (hline.room _ (by omega)).1
  refine ⟨_,_,hr,⟨g,off,cap,by simp,hg,⟨fun i hi=> ?_,fun k hk=>⟨QQ w g _ _ (pc q) ht (hline.room k hk).1,by rw[World.frozen?_setCells];exact (hline.room k hk).2⟩,by rw[jX,List.length_append];simp;omega,Nat.lt_of_lt_of_le hline.lt (zc.setCells g (pc q) _ w).size⟩,hcm,by simpa using hroom⟩,zc.setCells g (pc q) _ w,.inl rfl⟩;rw[Zz w g _ _ (pc q) ht,zas];rw[jX,List.length_append] at hi;simp at hi;by_cases hlt:i<l.length * 3
  ·rw[if_neg (by omega),hline.cell i (by omega),List.getElem?_append_left (by omega)]
  ·rw[if_pos (by simp[pc];omega),List.getElem?_append_right (by omega),hfl,show off+i - (off+l.length * 3)=i - l.length * 3 by omega]
 ·have hol:∀ j u,(zbH l)[j]? = some u→w.cell? ((⟨g,off,none⟩:Addr).add j)=some u:=by
   intro j u hu;rw[Addr.add_lit,hline.cell j (List.getElem?_eq_some_iff.1 hu).1];exact hu
  obtain ⟨v',w',hr,ho,hgr⟩:=run_append_arg_grows (P:=Tryz.prog) w 100 ty 99 Tryz.t99 (agg #[int i64 0,int i64 0,int i64 0]) 3 24 ZO zac zaS ZR JG rfl (by decide) ⟨g,off,none⟩ l.length cap (zbH l) hfl hol ad 1 c (pc q) rfl hnew (by omega) (by unfold maxLen;omega) (by omega);rw[← zas] at ho;have hp:=zdQ ho (by omega);refine ⟨v',w',hr,?_,zc.grown _ hgr (fun k hk=>by cases hk),.inr ?_⟩
  ·obtain ⟨g',off',cap',e,h1,h2⟩:=hp.val
   exact ⟨g',off',cap',e,Nat.le_trans hw h1,h2⟩
  ·obtain ⟨g',h1,h2,_⟩:=hp.own
   exact ⟨g',h1,h2⟩
theorem Jh{ops:Array Oper}{rest:List Oper}{o:Oper}{a:Act}{Q:Exit→Act→World→Prop}(w:World)(hgd:o.guard=none)(s x':Operand)
  (ho:o.op=.call { callee:=.builtin .append,args:=#[s,x'],argTypes:=#[100,100] })
  (base:Nat) (hw:base≤w.heap.size) (l:List (Int × Int × Int)) (q:Int × Int × Int) (lv:Value) (hs:a.eval s=lv) (hv:Zf w base lv l)
  (ad:Addr) (c:Nat) (hx:a.eval x'=.slice (some ad) 1 c) (hnew:∀ j u,(pc q)[j]? = some u→w.cell? (ad.add j)=some u) (hb:l.length<1000000)
  (h:∀ v' w',Zf w' base v' (l ++ [q])→zc lv.ownBlock.toList w w'→(v'.ownBlock=lv.ownBlock∨∃ g,v'.ownBlock=some g∧w.heap.size≤g)→wpList Tryz.prog ops Q rest (a.put o.dst v') w'):
  wpList Tryz.prog ops Q (o :: rest) a w:=by
 refine wpList_plain hgd fun K hK=> ?_;obtain ⟨v',w',hr,h2,h3,h4⟩:=zav w o.type base hw l q lv hv ad c hnew hb;unfold Oper.wp execOp;simp only[ho,resolve,invoke,builtin,Sem.run_bind,Sem.run_pure,Result.andThen_ok,List.map_toArray,List.map_cons,List.map_nil,hs,hx,hr];exact hK _ _ (h v' w' h2 h3 h4)
end Go.Proofs.YthflgjkmbakedaaGreatDoor
