import Derived.Test.YtgmbkiagdhjpnaaGreatDoorU21
import Derived.Test.YtgmbkiagdhjpnaaGreatDoorU23

namespace Go.Proofs.YtgmbkiagdhjpnaaGreatDoor
open Go.RowKit
open Go.Value (int pointer agg)
open Go.IntKind (i64)
set_option maxRecDepth 20000
set_option maxHeartbeats 8000000
variable {P:Pr8}{f:Fu8}{fb fo pb po:Nat}{w:World}{x:In8}
theorem zmE(hf:FuC w fb fo f)(x:In8)(ar:Value)(hop:x.op=2):Calls Tryz.prog 206 #[pointer (some ⟨pb,po,none⟩),pointer (some ⟨fb,fo,none⟩),zu x ar] w fun e w'=>e=.returned (.bool ((zj f x.a).1 == 0 && ((zj f x.b).1 == 0 && (zj f x.dst).1 == 0)))∧za [] w w':=by
 obtain ⟨RES,hRES⟩:∃ r,r=((zj f x.a).1 == 0 && ((zj f x.b).1 == 0 && (zj f x.dst).1 == 0)):=⟨_,rfl⟩;rw[← hRES];have HRES:=hid hRES;clear hRES;have ka:=za.alloc [] w (.cells #[int i64 x.op,int i64 x.dst,int i64 x.a,int i64 x.b,int i64 x.n,ar] 65);have hn:=ze w (.cells #[int i64 x.op,int i64 x.dst,int i64 x.a,int i64 x.b,int i64 x.n,ar] 65);have HRT:=hid fun (r:Int) (w':World) (k:za [] w w')=>zo (FuC.stays _ _ _ _ _ k hf) r;have KA:=hid ka;have HN:=hid hn;clear hf ka hn;unfold zu;rw[hop] at KA HN ⊢;go_enter Tryz.func206,Tryz.ntmps206;go_upto_region 1 with fail;generalize w.alloc (.cells #[int i64 2,int i64 x.dst,int i64 x.a,int i64 x.b,int i64 x.n,ar] 65)=WA at *;generalize w.heap.size=q at *;have H1:=hid fun (w':World) (k:za [] WA w')=>HRT.o x.dst w' (KA.o.quiet k);have H2:=hid fun (w':World) (k:za [] WA w')=>HRT.o x.a w' (KA.o.quiet k);have H3:=hid fun (w':World) (k:za [] WA w')=>HRT.o x.b w' (KA.o.quiet k);generalize hT1:zj f x.dst=T1 at *;generalize hT2:zj f x.a=T2 at *;generalize hT3:zj f x.b=T3 at *;have HT1:=hid hT1;have HT2:=hid hT2;have HT3:=hid hT3;clear hT1 hT2 hT3;refine qj HN.o H1.o H2.o H3.o (fun _ _ _ _ _ h=>h) (fun w1 b7 b8 b9 hk t7 t8 t9=> ?_)
 all_goals
  have T7:Box (qm w1 b7 T1):=hid t7;have T8:Box (qm w1 b8 T2):=hid t8;have T9:Box (qm w1 b9 T3):=hid t9;have K1:=hid (KA.o.quiet hk);have h5:=zd HN.o hk;have i0:=zc h5 0;have HI5:=hid h5;clear t7 t8 t9 h5 H1 H2 H3 HN hk;have s0:=zc T7.o 0;have s1:=zc T7.o 1;have p0:=zc T8.o 0;have p1:=zc T8.o 1;have r0:=zc T9.o 0;have r1:=zc T9.o 1
  try simp only[HT1.o,HT2.o,HT3.o] at HRES
  by_cases g2:T2.1=0
  ·by_cases g3:T3.1=0
   ·have HE:Box (RES=(T1.1 == 0)):=hid (by rw[HRES.o,g2,g3];rfl)
    have o2:=zlT g2;have o3:=zlT g3;clear HRES g2 g3;go_wp2_with fail;go_ret;exact ⟨by rw[HE.o];rfl,K1.o⟩
   ·have HE:Box (RES=false):=hid (by rw[HRES.o,neb g3];simp)
    have o2:=zlT g2;have o3:=zk4 g3;clear HRES g2 g3;go_wp2_with fail;go_ret;exact ⟨by rw[HE.o];rfl,K1.o⟩
  ·have HE:Box (RES=false):=hid (by rw[HRES.o,neb g2];simp)
   have o2:=zk4 g2;clear HRES g2;go_wp2_with fail;go_ret;exact ⟨by rw[HE.o];rfl,K1.o⟩
theorem zm9(hf:FuC w fb fo f)(x:In8)(ar:Value)(hop:x.op=6):Calls Tryz.prog 206 #[pointer (some ⟨pb,po,none⟩),pointer (some ⟨fb,fo,none⟩),zu x ar] w fun e w'=>e=.returned (.bool (tyE (zj f x.dst) (zj f x.a)))∧za [] w w':=by
 have ka:=za.alloc [] w (.cells #[int i64 x.op,int i64 x.dst,int i64 x.a,int i64 x.b,int i64 x.n,ar] 65);have hn:=ze w (.cells #[int i64 x.op,int i64 x.dst,int i64 x.a,int i64 x.b,int i64 x.n,ar] 65);have HRT:=hid fun (r:Int) (w':World) (k:za [] w w')=>zo (FuC.stays _ _ _ _ _ k hf) r;have KA:=hid ka;have HN:=hid hn;clear hf ka hn;unfold zu;rw[hop] at KA HN ⊢;go_enter Tryz.func206,Tryz.ntmps206;go_upto_region 1 with fail;generalize w.alloc (.cells #[int i64 6,int i64 x.dst,int i64 x.a,int i64 x.b,int i64 x.n,ar] 65)=WA at *;generalize w.heap.size=q at *;have H1:=hid fun (w':World) (k:za [] WA w')=>HRT.o x.dst w' (KA.o.quiet k);have H2:=hid fun (w':World) (k:za [] WA w')=>HRT.o x.a w' (KA.o.quiet k);have H3:=hid fun (w':World) (k:za [] WA w')=>HRT.o x.b w' (KA.o.quiet k);generalize hT1:zj f x.dst=T1 at *;generalize hT2:zj f x.a=T2 at *;generalize hT3:zj f x.b=T3 at *;have HT1:=hid hT1;have HT2:=hid hT2;have HT3:=hid hT3;clear hT1 hT2 hT3;refine qj HN.o H1.o H2.o H3.o (fun _ _ _ _ _ h=>h) (fun w1 b7 b8 b9 hk t7 t8 t9=> ?_)
 all_goals
  have T7:Box (qm w1 b7 T1):=hid t7;have T8:Box (qm w1 b8 T2):=hid t8;have T9:Box (qm w1 b9 T3):=hid t9;have K1:=hid (KA.o.quiet hk);have h5:=zd HN.o hk;have i0:=zc h5 0;have HI5:=hid h5;clear t7 t8 t9 h5 H1 H2 H3 HN hk;have s0:=zc T7.o 0;have s1:=zc T7.o 1;have p0:=zc T8.o 0;have p1:=zc T8.o 1;have r0:=zc T9.o 0;have r1:=zc T9.o 1;have re:=fun w'=>jS T1.1 T1.2 T2.1 T2.2 w';go_wp2_with fail;go_ret;exact ⟨by rw[HT1.o,HT2.o];rfl,K1.o⟩
theorem zmL(hp:PrC w pb po P)(hf:FuC w fb fo f)(x:In8)(ar:Value)(hop:x.op=7):Calls Tryz.prog 206 #[pointer (some ⟨pb,po,none⟩),pointer (some ⟨fb,fo,none⟩),zu x ar] w fun e w'=>e=.returned (.bool (match zP P (zj f x.a) x.n with | none=>false | some t=>tyE t (zj f x.dst)))∧za [] w w':=by
 obtain ⟨RES,hRES⟩:∃ r,r=(match zP P (zj f x.a) x.n with | none=>false | some t=>tyE t (zj f x.dst)):=⟨_,rfl⟩;rw[← hRES];have HRES:=hid hRES;clear hRES;have HFI:=hid fun (w':World) (k:za [] w w')=>QL (PrC.stays _ _ _ _ _ k hp) (zj f x.a) x.n;clear hp;have ka:=za.alloc [] w (.cells #[int i64 x.op,int i64 x.dst,int i64 x.a,int i64 x.b,int i64 x.n,ar] 65);have hn:=ze w (.cells #[int i64 x.op,int i64 x.dst,int i64 x.a,int i64 x.b,int i64 x.n,ar] 65);have HRT:=hid fun (r:Int) (w':World) (k:za [] w w')=>zo (FuC.stays _ _ _ _ _ k hf) r;have KA:=hid ka;have HN:=hid hn;clear hf ka hn;unfold zu;rw[hop] at KA HN ⊢;go_enter Tryz.func206,Tryz.ntmps206;go_upto_region 1 with fail;generalize w.alloc (.cells #[int i64 7,int i64 x.dst,int i64 x.a,int i64 x.b,int i64 x.n,ar] 65)=WA at *;generalize w.heap.size=q at *;have H1:=hid fun (w':World) (k:za [] WA w')=>HRT.o x.dst w' (KA.o.quiet k);have H2:=hid fun (w':World) (k:za [] WA w')=>HRT.o x.a w' (KA.o.quiet k);have H3:=hid fun (w':World) (k:za [] WA w')=>HRT.o x.b w' (KA.o.quiet k);generalize hT1:zj f x.dst=T1 at *;generalize hT2:zj f x.a=T2 at *;generalize hT3:zj f x.b=T3 at *;have HT1:=hid hT1;have HT2:=hid hT2;have HT3:=hid hT3;clear hT1 hT2 hT3;refine qj HN.o H1.o H2.o H3.o (fun _ _ _ _ _ h=>h) (fun w1 b7 b8 b9 hk t7 t8 t9=> ?_)
 all_goals
  have T7:Box (qm w1 b7 T1):=hid t7;have T8:Box (qm w1 b8 T2):=hid t8;have T9:Box (qm w1 b9 T3):=hid t9;have K1:=hid (KA.o.quiet hk);have h5:=zd HN.o hk;have i0:=zc h5 0;have HI5:=hid h5;clear t7 t8 t9 h5 H1 H2 H3 HN hk;have s0:=zc T7.o 0;have s1:=zc T7.o 1;have p0:=zc T8.o 0;have p1:=zc T8.o 1;have r0:=zc T9.o 0;have r1:=zc T9.o 1
  try simp only[HT2.o,HT1.o] at HRES
  have i4:=zc HI5.o 4;generalize hO:zP P T2 x.n=O at *;clear hO;obtain ⟨t,b,hv,hb⟩:=Zn O;rw[hv] at HFI
  have HOB:Box (b=O.isSome∧∀ u,O=some u→t=u):=hid ⟨hb,fun u e=>by
   subst e;unfold zbD tyV at hv;simp at hv
   exact Prod.ext hv.1.1.symm hv.1.2.symm⟩
  clear hv hb;go_wp2_with fail;refine (HFI.o _ K1.o).mono ?_;rintro e w3 ⟨rfl,k3⟩;have KT:=k3.quiet (za.alloc [] w3 (.cells #[int i64 t.1,int i64 t.2] 60));have hd:=zd T7.o KT;have hnn:=ze w3 (.cells #[int i64 t.1,int i64 t.2] 60);have KZ:=hid (K1.o.quiet KT);have j0:=zc hd 0;have j1:=zc hd 1;have n0:=zc hnn 0;have n1:=zc hnn 1;clear k3 KT hd hnn s0 s1 p0 p1 r0 r1 i0 i4;have re:=fun w'=>jS t.1 t.2 T1.1 T1.2 w';cases O with
  | none=>
   have HB:Box (RES=false):=HRES;have eb:b=false:=HOB.o.1;subst eb;go_wp2_with fail;go_ret;exact ⟨by rw[HB.o];rfl,KZ.o⟩
  | some u=>
   have eu:t=u:=HOB.o.2 u rfl;subst eu;have HB:Box (RES=tyE t T1):=HRES;have eb:b=true:=HOB.o.1;subst eb;go_wp2_with fail;go_ret;exact ⟨by rw[HB.o];rfl,KZ.o⟩
theorem zmO(hp:PrC w pb po P)(hf:FuC w fb fo f)(x:In8)(ar:Value)(hop:x.op=8):Calls Tryz.prog 206 #[pointer (some ⟨pb,po,none⟩),pointer (some ⟨fb,fo,none⟩),zu x ar] w fun e w'=>e=.returned (.bool (match zP P (zj f x.a) x.n with | none=>false | some t=>tyE t (zj f x.b)))∧za [] w w':=by
 obtain ⟨RES,hRES⟩:∃ r,r=(match zP P (zj f x.a) x.n with | none=>false | some t=>tyE t (zj f x.b)):=⟨_,rfl⟩;rw[← hRES];have HRES:=hid hRES;clear hRES;have HFI:=hid fun (w':World) (k:za [] w w')=>QL (PrC.stays _ _ _ _ _ k hp) (zj f x.a) x.n;clear hp;have ka:=za.alloc [] w (.cells #[int i64 x.op,int i64 x.dst,int i64 x.a,int i64 x.b,int i64 x.n,ar] 65);have hn:=ze w (.cells #[int i64 x.op,int i64 x.dst,int i64 x.a,int i64 x.b,int i64 x.n,ar] 65);have HRT:=hid fun (r:Int) (w':World) (k:za [] w w')=>zo (FuC.stays _ _ _ _ _ k hf) r;have KA:=hid ka;have HN:=hid hn;clear hf ka hn;unfold zu;rw[hop] at KA HN ⊢;go_enter Tryz.func206,Tryz.ntmps206;go_upto_region 1 with fail;generalize w.alloc (.cells #[int i64 8,int i64 x.dst,int i64 x.a,int i64 x.b,int i64 x.n,ar] 65)=WA at *;generalize w.heap.size=q at *;have H1:=hid fun (w':World) (k:za [] WA w')=>HRT.o x.dst w' (KA.o.quiet k);have H2:=hid fun (w':World) (k:za [] WA w')=>HRT.o x.a w' (KA.o.quiet k);have H3:=hid fun (w':World) (k:za [] WA w')=>HRT.o x.b w' (KA.o.quiet k);generalize hT1:zj f x.dst=T1 at *;generalize hT2:zj f x.a=T2 at *;generalize hT3:zj f x.b=T3 at *;have HT1:=hid hT1;have HT2:=hid hT2;have HT3:=hid hT3;clear hT1 hT2 hT3;refine qj HN.o H1.o H2.o H3.o (fun _ _ _ _ _ h=>h) (fun w1 b7 b8 b9 hk t7 t8 t9=> ?_)
 all_goals
  have T7:Box (qm w1 b7 T1):=hid t7;have T8:Box (qm w1 b8 T2):=hid t8;have T9:Box (qm w1 b9 T3):=hid t9;have K1:=hid (KA.o.quiet hk);have h5:=zd HN.o hk;have i0:=zc h5 0;have HI5:=hid h5;clear t7 t8 t9 h5 H1 H2 H3 HN hk;have s0:=zc T7.o 0;have s1:=zc T7.o 1;have p0:=zc T8.o 0;have p1:=zc T8.o 1;have r0:=zc T9.o 0;have r1:=zc T9.o 1
  try simp only[HT2.o,HT3.o] at HRES
  have i4:=zc HI5.o 4;generalize hO:zP P T2 x.n=O at *;clear hO;obtain ⟨t,b,hv,hb⟩:=Zn O;rw[hv] at HFI
  have HOB:Box (b=O.isSome∧∀ u,O=some u→t=u):=hid ⟨hb,fun u e=>by
   subst e;unfold zbD tyV at hv;simp at hv
   exact Prod.ext hv.1.1.symm hv.1.2.symm⟩
  clear hv hb;go_wp2_with fail;refine (HFI.o _ K1.o).mono ?_;rintro e w3 ⟨rfl,k3⟩;have KT:=k3.quiet (za.alloc [] w3 (.cells #[int i64 t.1,int i64 t.2] 60));have hd:=zd T9.o KT;have hnn:=ze w3 (.cells #[int i64 t.1,int i64 t.2] 60);have KZ:=hid (K1.o.quiet KT);have j0:=zc hd 0;have j1:=zc hd 1;have n0:=zc hnn 0;have n1:=zc hnn 1;clear k3 KT hd hnn s0 s1 p0 p1 r0 r1 i0 i4;have re:=fun w'=>jS t.1 t.2 T3.1 T3.2 w';cases O with
  | none=>
   have HB:Box (RES=false):=HRES;have eb:b=false:=HOB.o.1;subst eb;go_wp2_with fail;go_ret;exact ⟨by rw[HB.o];rfl,KZ.o⟩
  | some u=>
   have eu:t=u:=HOB.o.2 u rfl;subst eu;have HB:Box (RES=tyE t T3):=HRES;have eb:b=true:=HOB.o.1;subst eb;go_wp2_with fail;go_ret;exact ⟨by rw[HB.o];rfl,KZ.o⟩
theorem zlE(hp:PrC w pb po P)(hf:FuC w fb fo f)(x:In8)(ar:Value)(hn:inB x.n P.funcs.length=true)(hop:x.op=10):Calls Tryz.prog 206 #[pointer (some ⟨pb,po,none⟩),pointer (some ⟨fb,fo,none⟩),zu x ar] w fun e w'=>e=.returned (.bool (tyE (zj f x.dst) (2,(zf P x.n.toNat).sig)))∧za [] w w':=by
 obtain ⟨RES,hRES⟩:∃ r,r=(tyE (zj f x.dst) (2,(zf P x.n.toNat).sig)):=⟨_,rfl⟩;rw[← hRES];have HRES:=hid hRES;clear hRES;obtain ⟨g0,g1⟩:=zm.1 hn;obtain ⟨m,hm⟩:∃ m:Nat,x.n=(m:Int):=⟨x.n.toNat,by omega⟩;have HW:Box (∀ w,Calls Tryz.prog 113 #[int i64 x.n,int i64 (P.funcs.length:Int)] w fun e w'=>e=.returned (.bool true)∧w'=w):=hid fun w=>by rw[← hn];exact zp _ _ w
 obtain ⟨fa,fp,c4,r4,_⟩:=hp.c4;obtain ⟨gb,go,rfl,hfu0⟩:=r4.at (zi (l:=P.funcs) (k:=m) (d:=⟨0,[],[]⟩) (by omega));have HC4:Box (∀ w',za [] w w'→w'.cell? ⟨pb,po+4,none⟩=some (.slice (some ⟨gb,go,none⟩) P.funcs.length fp)∧w'.cell? ⟨gb,go+m * 3,none⟩=some (int i64 (zf P m).sig)):=hid fun w' k=>⟨zb k c4,zb k hfu0.c0.1⟩;have em:x.n.toNat=m:=by omega
 have hgm:(m:Int)<(P.funcs.length:Int):=by omega
 rw[em] at HRES;have hmm:=hid hm;clear c4 r4 hfu0 hn g0 g1 em hm hp;generalize (zf P m).sig=sn at *;generalize P.funcs.length=FN at *;have ka:=za.alloc [] w (.cells #[int i64 x.op,int i64 x.dst,int i64 x.a,int i64 x.b,int i64 x.n,ar] 65);have hn:=ze w (.cells #[int i64 x.op,int i64 x.dst,int i64 x.a,int i64 x.b,int i64 x.n,ar] 65);have HRT:=hid fun (r:Int) (w':World) (k:za [] w w')=>zo (FuC.stays _ _ _ _ _ k hf) r;have KA:=hid ka;have HN:=hid hn;clear hf ka hn;unfold zu;rw[hop] at KA HN ⊢;go_enter Tryz.func206,Tryz.ntmps206;go_upto_region 1 with fail;generalize w.alloc (.cells #[int i64 10,int i64 x.dst,int i64 x.a,int i64 x.b,int i64 x.n,ar] 65)=WA at *;generalize w.heap.size=q at *;have H1:=hid fun (w':World) (k:za [] WA w')=>HRT.o x.dst w' (KA.o.quiet k);have H2:=hid fun (w':World) (k:za [] WA w')=>HRT.o x.a w' (KA.o.quiet k);have H3:=hid fun (w':World) (k:za [] WA w')=>HRT.o x.b w' (KA.o.quiet k);generalize hT1:zj f x.dst=T1 at *;generalize hT2:zj f x.a=T2 at *;generalize hT3:zj f x.b=T3 at *;have HT1:=hid hT1;have HT2:=hid hT2;have HT3:=hid hT3;clear hT1 hT2 hT3;refine qj HN.o H1.o H2.o H3.o (fun _ _ _ _ _ h=>h) (fun w1 b7 b8 b9 hk t7 t8 t9=> ?_)
 all_goals
  have T7:Box (qm w1 b7 T1):=hid t7;have T8:Box (qm w1 b8 T2):=hid t8;have T9:Box (qm w1 b9 T3):=hid t9;have K1:=hid (KA.o.quiet hk);have h5:=zd HN.o hk;have i0:=zc h5 0;have HI5:=hid h5;clear t7 t8 t9 h5 H1 H2 H3 HN hk;have s0:=zc T7.o 0;have s1:=zc T7.o 1;have p0:=zc T8.o 0;have p1:=zc T8.o 1;have r0:=zc T9.o 0;have r1:=zc T9.o 1
  try simp only[HT1.o] at HRES
  have i4:=zc HI5.o 4;rw[hmm.o] at i4 HW;clear hmm;obtain ⟨f4,f5⟩:=HC4.o _ K1.o;have re:=fun w'=>jS T1.1 T1.2 2 sn w';go_upto_region 29 with fail;go_quiet ((go_at_call 113;exact Calls.quiet_of_same (HW.o _)));go_wp2_with fail;go_ret;exact ⟨by rw[HRES.o];rfl,K1.o.quiet (za.drewN _ _ _)⟩
theorem zle(hp:PrC w pb po P)(hf:FuC w fb fo f)(x:In8)(ar:Value)(hop:x.op=11):Calls Tryz.prog 206 #[pointer (some ⟨pb,po,none⟩),pointer (some ⟨fb,fo,none⟩),zu x ar] w fun e w'=>e=.returned (.bool ((zj f x.dst).1 == 3 && ((zj f x.a).1 == 1 && Jb P (zj f x.a).2 (zj f x.dst).2)))∧za [] w w':=by
 obtain ⟨RES,hRES⟩:∃ r,r=((zj f x.dst).1 == 3 && ((zj f x.a).1 == 1 && Jb P (zj f x.a).2 (zj f x.dst).2)):=⟨_,rfl⟩;rw[← hRES];have HRES:=hid hRES;clear hRES;have HIM:=hid fun (w':World) (k:za [] w w')=>zhl (PrC.stays _ _ _ _ _ k hp) (zj f x.a).2 (zj f x.dst).2;clear hp;have ka:=za.alloc [] w (.cells #[int i64 x.op,int i64 x.dst,int i64 x.a,int i64 x.b,int i64 x.n,ar] 65);have hn:=ze w (.cells #[int i64 x.op,int i64 x.dst,int i64 x.a,int i64 x.b,int i64 x.n,ar] 65);have HRT:=hid fun (r:Int) (w':World) (k:za [] w w')=>zo (FuC.stays _ _ _ _ _ k hf) r;have KA:=hid ka;have HN:=hid hn;clear hf ka hn;unfold zu;rw[hop] at KA HN ⊢;go_enter Tryz.func206,Tryz.ntmps206;go_upto_region 1 with fail;generalize w.alloc (.cells #[int i64 11,int i64 x.dst,int i64 x.a,int i64 x.b,int i64 x.n,ar] 65)=WA at *;generalize w.heap.size=q at *;have H1:=hid fun (w':World) (k:za [] WA w')=>HRT.o x.dst w' (KA.o.quiet k);have H2:=hid fun (w':World) (k:za [] WA w')=>HRT.o x.a w' (KA.o.quiet k);have H3:=hid fun (w':World) (k:za [] WA w')=>HRT.o x.b w' (KA.o.quiet k);generalize hT1:zj f x.dst=T1 at *;generalize hT2:zj f x.a=T2 at *;generalize hT3:zj f x.b=T3 at *;have HT1:=hid hT1;have HT2:=hid hT2;have HT3:=hid hT3;clear hT1 hT2 hT3;refine qj HN.o H1.o H2.o H3.o (fun _ _ _ _ _ h=>h) (fun w1 b7 b8 b9 hk t7 t8 t9=> ?_)
 all_goals
  have T7:Box (qm w1 b7 T1):=hid t7;have T8:Box (qm w1 b8 T2):=hid t8;have T9:Box (qm w1 b9 T3):=hid t9;have K1:=hid (KA.o.quiet hk);have h5:=zd HN.o hk;have i0:=zc h5 0;have HI5:=hid h5;clear t7 t8 t9 h5 H1 H2 H3 HN hk;have s0:=zc T7.o 0;have s1:=zc T7.o 1;have p0:=zc T8.o 0;have p1:=zc T8.o 1;have r0:=zc T9.o 0;have r1:=zc T9.o 1
  try simp only[HT1.o,HT2.o] at HRES
  by_cases g1:T1.1=3
  ·by_cases g2:T2.1=1
   ·have HE:Box (RES=Jb P T2.2 T1.2):=hid (by rw[HRES.o,g1,g2];rfl)
    have o1:=eqb g1;have o2:=eqb g2;clear HRES g1 g2;go_wp2_with fail;refine (HIM.o _ K1.o).mono ?_;rintro e w3 ⟨rfl,hw3⟩;rw[hw3];clear hw3;go_wp2_with fail;go_ret;exact ⟨by rw[HE.o];rfl,K1.o⟩
   ·have HE:Box (RES=false):=hid (by rw[HRES.o,neb g2];simp)
    have o1:=eqb g1;have o2:=neb g2;clear HRES g1 g2 HIM;go_wp2_with fail;go_ret;exact ⟨by rw[HE.o];rfl,K1.o⟩
  ·have HE:Box (RES=false):=hid (by rw[HRES.o,neb g1];simp)
   have o1:=neb g1;clear HRES g1 HIM;go_wp2_with fail;go_ret;exact ⟨by rw[HE.o];rfl,K1.o⟩
def jj(P:Pr8)(f:Fu8)(x:In8):Bool:=
 if x.op=1 then ((zj f x.dst).1 == 0) else
 if x.op=2 then ((zj f x.a).1 == 0 && ((zj f x.b).1 == 0 && (zj f x.dst).1 == 0)) else
 if x.op=3 then ((zj f x.dst).1 == 0) else
 if x.op=4 then ((zj f x.dst).1 != 0) else
 if x.op=5 then ((zj f x.dst).1 == 1) else
 if x.op=6 then (tyE (zj f x.dst) (zj f x.a)) else
 if x.op=7 then (match zP P (zj f x.a) x.n with | none=>false | some t=>tyE t (zj f x.dst)) else
 if x.op=8 then (match zP P (zj f x.a) x.n with | none=>false | some t=>tyE t (zj f x.b)) else
 if x.op=9 then ((zj f x.a).1 == 1) else
 if x.op=10 then (tyE (zj f x.dst) (2,(zf P x.n.toNat).sig)) else
 if x.op=11 then ((zj f x.dst).1 == 3 && ((zj f x.a).1 == 1 && Jb P (zj f x.a).2 (zj f x.dst).2)) else
 if x.op=12 then (match (jB P (zf P x.n.toNat).sig) with | none=>false | some s=>qt f x.args s.1 && tyE s.2 (zj f x.dst)) else
 if x.op=13 then (match (if (zj f x.a).1=2 then jB P (zj f x.a).2 else none) with | none=>false | some s=>qt f x.args s.1 && tyE s.2 (zj f x.dst)) else
 if x.op=14 then (match (qS P (zj f x.a) x.n) with | none=>false | some s=>qt f x.args s.1 && tyE s.2 (zj f x.dst)) else
 if x.op=15 then ((zj f x.a).1 == 0) else
 false
theorem zgM(h:jp P f x=true):1≤x.op∧x.op≤15:=by
 unfold jp zy at h;rw[Bool.and_eq_true,Bool.and_eq_true] at h;exact of_decide_eq_true h.1.1
theorem zfG(h:jp P f x=true):Qu P f x=true:=by
 unfold jp at h;rw[Bool.and_eq_true,Bool.and_eq_true] at h;exact h.2.2
theorem zbL(h:jp P f x=true)(hop:x.op=10∨x.op=12):inB x.n P.funcs.length=true:=by
 have:=zfG h;unfold Qu at this;rw[if_pos hop] at this;exact this
theorem zgl(h:PrC w pb po P){f:Nat}(hf:f<P.funcs.length)(x:In8){a:Option Addr}{cp:Nat}(hz:zv w a x.args)(hl:x.args.length≤1000):Calls Tryz.prog 174 #[pointer (some ⟨pb,po,none⟩),int i64 (f:Int),zu x (.slice a x.args.length cp)] w fun e w'=>e=.returned (.bool (jp P (zf P f) x && (rtB P (zf P f) x && jj P (zf P f) x)))∧za [] w w':=
 zim h hf x hz hl _ fun hok fb fo w' k hp hfu=>by
  have h15:=zgM hok;have hc:x.op=1∨x.op=2∨x.op=3∨x.op=4∨x.op=5∨x.op=6∨x.op=7∨x.op=8∨x.op=9∨x.op=10∨x.op=11∨x.op=12∨x.op=13∨x.op=14∨x.op=15:=by omega
  have hz':=hz.kept k (fun _ _ _=>by simp);rcases hc with e | e | e | e | e | e | e | e | e | e | e | e | e | e | e
  ·have hB:jj P (zf P f) x=((zj (zf P f) x.dst).1 == 0):=by unfold jj;rw[e];rfl
   rw[hB];exact zm6 hfu x _ e
  ·have hB:jj P (zf P f) x=((zj (zf P f) x.a).1 == 0 && ((zj (zf P f) x.b).1 == 0 && (zj (zf P f) x.dst).1 == 0)):=by unfold jj;rw[e];rfl
   rw[hB];exact zmE hfu x _ e
  ·have hB:jj P (zf P f) x=((zj (zf P f) x.dst).1 == 0):=by unfold jj;rw[e];rfl
   rw[hB];exact zm7 hfu x _ e
  ·have hB:jj P (zf P f) x=((zj (zf P f) x.dst).1 != 0):=by unfold jj;rw[e];rfl
   rw[hB];exact zmx hfu x _ e
  ·have hB:jj P (zf P f) x=((zj (zf P f) x.dst).1 == 1):=by unfold jj;rw[e];rfl
   rw[hB];exact zmz hfu x _ e
  ·have hB:jj P (zf P f) x=(tyE (zj (zf P f) x.dst) (zj (zf P f) x.a)):=by unfold jj;rw[e];rfl
   rw[hB];exact zm9 hfu x _ e
  ·have hB:jj P (zf P f) x=(match zP P (zj (zf P f) x.a) x.n with | none=>false | some t=>tyE t (zj (zf P f) x.dst)):=by unfold jj;rw[e];rfl
   rw[hB];exact zmL hp hfu x _ e
  ·have hB:jj P (zf P f) x=(match zP P (zj (zf P f) x.a) x.n with | none=>false | some t=>tyE t (zj (zf P f) x.b)):=by unfold jj;rw[e];rfl
   rw[hB];exact zmO hp hfu x _ e
  ·have hB:jj P (zf P f) x=((zj (zf P f) x.a).1 == 1):=by unfold jj;rw[e];rfl
   rw[hB];exact zmB hfu x _ e
  ·have hB:jj P (zf P f) x=(tyE (zj (zf P f) x.dst) (2,(zf P x.n.toNat).sig)):=by unfold jj;rw[e];rfl
   rw[hB];exact zlE hp hfu x _ (zbL hok (.inl e)) e
  ·have hB:jj P (zf P f) x=((zj (zf P f) x.dst).1 == 3 && ((zj (zf P f) x.a).1 == 1 && Jb P (zj (zf P f) x.a).2 (zj (zf P f) x.dst).2)):=by unfold jj;rw[e];rfl
   rw[hB];exact zle hp hfu x _ e
  ·have hB:jj P (zf P f) x=(match (jB P (zf P x.n.toNat).sig) with | none=>false | some s=>qt (zf P f) x.args s.1 && tyE s.2 (zj (zf P f) x.dst)):=by unfold jj;rw[e];rfl
   rw[hB];exact zlL hp hfu x _ rfl hz' hl (zbL hok (.inr e)) e
  ·have hB:jj P (zf P f) x=(match (if (zj (zf P f) x.a).1=2 then jB P (zj (zf P f) x.a).2 else none) with | none=>false | some s=>qt (zf P f) x.args s.1 && tyE s.2 (zj (zf P f) x.dst)):=by unfold jj;rw[e];rfl
   rw[hB];exact zkA hp hfu x _ rfl hz' hl e
  ·have hB:jj P (zf P f) x=(match (qS P (zj (zf P f) x.a) x.n) with | none=>false | some s=>qt (zf P f) x.args s.1 && tyE s.2 (zj (zf P f) x.dst)):=by unfold jj;rw[e];rfl
   rw[hB];exact zkB hp hfu x _ rfl hz' hl e
  ·have hB:jj P (zf P f) x=((zj (zf P f) x.a).1 == 0):=by unfold jj;rw[e];rfl
   rw[hB];exact zkF hfu x _ e
end Go.Proofs.YtgmbkiagdhjpnaaGreatDoor
