import Derived.Test.YthflgjkmbakedaaGreatDoorN13

namespace Go.Proofs.YthflgjkmbakedaaGreatDoor
open Go.RowKit
open Go.Value (int pointer agg)
open Go.IntKind (i64)
set_option maxRecDepth 20000
set_option maxHeartbeats 8000000
theorem za.up{F:List Nat}{a b:World}(k:za [] a b):za F a b:=k.mono fun _ h=>by cases h
section
variable {W0 w:World}{mp pp fg:Nat}{P:Pr8}{m:Ma}{F:List Nat}{hb fc:Nat}{rv:Value}{oa:Option Addr}{oc:Nat}{os:List Ob}{Fh:List Nat}
theorem OpP.of{w1 w2:World}{m':Ma}{r:Int × Ma}{y:Int}{F':List Nat}{rv':Value}{oa':Option Addr}{oc':Nat}{os':List Ob}{Fh':List Nat}(k:za [] w w1)(M:MaS W0 w2 mp pp fg P m' F' hb fc rv' oa' oc' os' Fh')(k2:za F w1 w2)(n:jx w1 F F')(e:r=(y,m')):OpP W0 w mp pp fg P F hb fc r (.returned (int i64 y)) w2:=by
 subst e;exact ⟨rfl,F',rv',oa',oc',os',Fh',M,k.up.step k2,fun z hz=>(n z hz).imp id (Nat.le_trans k.size)⟩
theorem jg{w1:World}{x:In8}{ax:Value}{b:Nat}(hn:w1.heap[b]? = some (.cells #[int i64 x.op,int i64 x.dst,int i64 x.a,int i64 x.b,int i64 x.n,ax] 54 (0,0)))(hF:b ∉ F)(w':World)(k:za F w1 w'):w'.cell? ⟨b,1,none⟩=some (int i64 x.dst)∧w'.cell? ⟨b,2,none⟩=some (int i64 x.a)∧w'.cell? ⟨b,3,none⟩=some (int i64 x.b)∧w'.cell? ⟨b,4,none⟩=some (int i64 x.n):=by
 have h:w'.heap[b]? = _:=(k.block b (zx hn) hF).trans hn;exact ⟨zc h 1,zc h 2,zc h 3,zc h 4⟩
theorem zkt(h:MaS W0 w mp pp fg P m F hb fc rv oa oc os Fh)(x:In8)(ax:Value)(hx:x.op=1)(ok:zaJ x):
  Calls Tryz.prog 97 #[pointer (some ⟨mp,0,none⟩),pointer (some ⟨fg,m.bot.length * 67,none⟩),zt x ax] w (OpP W0 w mp pp fg P F hb fc (qU P m x)):=by
 have E:Box (qU P m x=(0,m.put x.dst (0,x.n,false))):=hid (by
  unfold qU
  rw[if_pos hx])
 have o1:(x.op == 1)=true:=eqb hx;have ka:=za.alloc [] w (.cells #[int i64 x.op,int i64 x.dst,int i64 x.a,int i64 x.b,int i64 x.n,ax] 54);have KA:=hid ka;have H1:=hid (h.quiet ka);have HS:=hid (jg (F:=F) (zd w (.cells #[int i64 x.op,int i64 x.dst,int i64 x.a,int i64 x.b,int i64 x.n,ax] 54)) (fun hm=>by have:=h.lt _ hm;omega));have c0:=zc (zd w (.cells #[int i64 x.op,int i64 x.dst,int i64 x.a,int i64 x.b,int i64 x.n,ax] 54)) 0;have OK:=hid ok;clear h hx ok ka;unfold zt;go_enter Tryz.func97,Tryz.ntmps97;go_upto_region 1 with fail;generalize w.alloc (.cells #[int i64 x.op,int i64 x.dst,int i64 x.a,int i64 x.b,int i64 x.n,ax] 54)=w1 at *;obtain ⟨c1,c2,c3,c4⟩:=HS.o w1 (za.refl _ _);go_wp2_with fail;refine (qf H1.o (0,x.n,false) OK.o.d0 OK.o.d1).mono ?_;rintro e w2 ⟨rfl,m2,k2⟩;have M2:=hid m2;have K2:=hid (k2.mono fun y hy=>by rw[List.mem_singleton.1 hy];exact H1.o.fg_in:za F w1 w2);clear m2 k2;go_wp2_with fail;go_ret;exact .of KA.o M2.o K2.o (jx.refl _ _) E.o
theorem zks(h:MaS W0 w mp pp fg P m F hb fc rv oa oc os Fh)(x:In8)(ax:Value)(hx:x.op=4)(ok:zaJ x):
  Calls Tryz.prog 97 #[pointer (some ⟨mp,0,none⟩),pointer (some ⟨fg,m.bot.length * 67,none⟩),zt x ax] w (OpP W0 w mp pp fg P F hb fc (qU P m x)):=by
 have E:Box (qU P m x=(0,m.put x.dst (1,0,false))):=hid (by
  unfold qU
  rw[if_neg (by omega),if_neg (by omega),if_neg (by omega),if_pos hx])
 have o1:(x.op == 1)=false:=neb (show x.op≠1 by omega);have o2:(x.op == 2)=false:=neb (show x.op≠2 by omega);have o3:(x.op == 3)=false:=neb (show x.op≠3 by omega);have o4:(x.op == 4)=true:=eqb hx;have ka:=za.alloc [] w (.cells #[int i64 x.op,int i64 x.dst,int i64 x.a,int i64 x.b,int i64 x.n,ax] 54);have KA:=hid ka;have H1:=hid (h.quiet ka);have HS:=hid (jg (F:=F) (zd w (.cells #[int i64 x.op,int i64 x.dst,int i64 x.a,int i64 x.b,int i64 x.n,ax] 54)) (fun hm=>by have:=h.lt _ hm;omega));have c0:=zc (zd w (.cells #[int i64 x.op,int i64 x.dst,int i64 x.a,int i64 x.b,int i64 x.n,ax] 54)) 0;have OK:=hid ok;clear h hx ok ka;unfold zt;go_enter Tryz.func97,Tryz.ntmps97;go_upto_region 1 with fail;generalize w.alloc (.cells #[int i64 x.op,int i64 x.dst,int i64 x.a,int i64 x.b,int i64 x.n,ax] 54)=w1 at *;obtain ⟨c1,c2,c3,c4⟩:=HS.o w1 (za.refl _ _);go_wp2_with fail;refine (qf H1.o (1,0,false) OK.o.d0 OK.o.d1).mono ?_;rintro e w2 ⟨rfl,m2,k2⟩;have M2:=hid m2;have K2:=hid (k2.mono fun y hy=>by rw[List.mem_singleton.1 hy];exact H1.o.fg_in:za F w1 w2);clear m2 k2;go_wp2_with fail;go_ret;exact .of KA.o M2.o K2.o (jx.refl _ _) E.o
theorem zjX(h:MaS W0 w mp pp fg P m F hb fc rv oa oc os Fh)(x:In8)(ax:Value)(hx:x.op=10)(ok:zaJ x):
  Calls Tryz.prog 97 #[pointer (some ⟨mp,0,none⟩),pointer (some ⟨fg,m.bot.length * 67,none⟩),zt x ax] w (OpP W0 w mp pp fg P F hb fc (qU P m x)):=by
 have E:Box (qU P m x=(0,m.put x.dst (3,x.n,false))):=hid (by
  unfold qU
  rw[if_neg (by omega),if_neg (by omega),if_neg (by omega),if_neg (by omega),if_neg (by omega),if_neg (by omega),if_neg (by omega),if_neg (by omega),if_neg (by omega),if_pos hx])
 have o1:(x.op == 1)=false:=neb (show x.op≠1 by omega);have o2:(x.op == 2)=false:=neb (show x.op≠2 by omega);have o3:(x.op == 3)=false:=neb (show x.op≠3 by omega);have o4:(x.op == 4)=false:=neb (show x.op≠4 by omega);have o5:(x.op == 5)=false:=neb (show x.op≠5 by omega);have o6:(x.op == 6)=false:=neb (show x.op≠6 by omega);have o11:(x.op == 11)=false:=neb (show x.op≠11 by omega);have o7:(x.op == 7)=false:=neb (show x.op≠7 by omega);have o8:(x.op == 8)=false:=neb (show x.op≠8 by omega);have o9:(x.op == 9)=false:=neb (show x.op≠9 by omega);have o10:(x.op == 10)=true:=eqb hx;have ka:=za.alloc [] w (.cells #[int i64 x.op,int i64 x.dst,int i64 x.a,int i64 x.b,int i64 x.n,ax] 54);have KA:=hid ka;have H1:=hid (h.quiet ka);have HS:=hid (jg (F:=F) (zd w (.cells #[int i64 x.op,int i64 x.dst,int i64 x.a,int i64 x.b,int i64 x.n,ax] 54)) (fun hm=>by have:=h.lt _ hm;omega));have c0:=zc (zd w (.cells #[int i64 x.op,int i64 x.dst,int i64 x.a,int i64 x.b,int i64 x.n,ax] 54)) 0;have OK:=hid ok;clear h hx ok ka;unfold zt;go_enter Tryz.func97,Tryz.ntmps97;go_upto_region 1 with fail;generalize w.alloc (.cells #[int i64 x.op,int i64 x.dst,int i64 x.a,int i64 x.b,int i64 x.n,ax] 54)=w1 at *;obtain ⟨c1,c2,c3,c4⟩:=HS.o w1 (za.refl _ _);go_wp2_with fail;refine (qf H1.o (3,x.n,false) OK.o.d0 OK.o.d1).mono ?_;rintro e w2 ⟨rfl,m2,k2⟩;have M2:=hid m2;have K2:=hid (k2.mono fun y hy=>by rw[List.mem_singleton.1 hy];exact H1.o.fg_in:za F w1 w2);clear m2 k2;go_wp2_with fail;go_ret;exact .of KA.o M2.o K2.o (jx.refl _ _) E.o
theorem zku(h:MaS W0 w mp pp fg P m F hb fc rv oa oc os Fh)(x:In8)(ax:Value)(hx:x.op=2)(ok:zaJ x):
  Calls Tryz.prog 97 #[pointer (some ⟨mp,0,none⟩),pointer (some ⟨fg,m.bot.length * 67,none⟩),zt x ax] w (OpP W0 w mp pp fg P F hb fc (qU P m x)):=by
 have E:Box (qU P m x=(0,m.put x.dst (zgb (m.top.get x.a) (m.top.get x.b)))):=hid (by
  unfold qU
  rw[if_neg (by omega),if_pos hx])
 have o1:(x.op == 1)=false:=neb (show x.op≠1 by omega);have o2:(x.op == 2)=true:=eqb hx;have ka:=za.alloc [] w (.cells #[int i64 x.op,int i64 x.dst,int i64 x.a,int i64 x.b,int i64 x.n,ax] 54);have KA:=hid ka;have H1:=hid (h.quiet ka);have HS:=hid (jg (F:=F) (zd w (.cells #[int i64 x.op,int i64 x.dst,int i64 x.a,int i64 x.b,int i64 x.n,ax] 54)) (fun hm=>by have:=h.lt _ hm;omega));have c0:=zc (zd w (.cells #[int i64 x.op,int i64 x.dst,int i64 x.a,int i64 x.b,int i64 x.n,ax] 54)) 0;have OK:=hid ok;clear h hx ok ka;unfold zt;go_enter Tryz.func97,Tryz.ntmps97;go_upto_region 1 with fail;generalize w.alloc (.cells #[int i64 x.op,int i64 x.dst,int i64 x.a,int i64 x.b,int i64 x.n,ax] 54)=w1 at *;obtain ⟨c1,c2,c3,c4⟩:=HS.o w1 (za.refl _ _);have HGa:=hid fun (w':World) (k:za [] w1 w')=>qh (H1.o.quiet k) OK.o.a0 OK.o.a1;have HGb:=hid fun (w':World) (k:za [] w1 w')=>qh (H1.o.quiet k) OK.o.b0 OK.o.b1;have HST:=hid fun (w':World) (k:za [] w1 w')=>qf (H1.o.quiet k) (zgb (m.top.get x.a) (m.top.get x.b)) OK.o.d0 OK.o.d1;have HAD:=hid fun (w':World)=>zel (m.top.get x.a) (m.top.get x.b) w';generalize zgb (m.top.get x.a) (m.top.get x.b)=va at *;go_upto_region 5 with fail;have kd:za [] w1 w1.drew:=za.drew _ _
 go_region_held3 (fun w'=>w'.cell? ⟨w.heap.size,1,none⟩=some (int i64 x.dst)∧w'.cell? ⟨w.heap.size,2,none⟩=some (int i64 x.a)∧w'.cell? ⟨w.heap.size,3,none⟩=some (int i64 x.b)∧w'.cell? ⟨w.heap.size,4,none⟩=some (int i64 x.n)) (go_keep) (first
  | (go_at_call 145;refine (HST.o _ kk7).mono ?_;rintro e w9 ⟨rfl,m9,k9⟩;have M9:=hid m9;have K9:=kk7.up.step (k9.mono (fun y hy=>by rw[List.mem_singleton.1 hy];exact H1.o.fg_in):za F _ w9);obtain ⟨f91,f92,f93,f94⟩:=HS.o _ K9;clear m9 k9)
  | (go_at_call 142;revert kk5;intro kk5;refine (HGb.o _ kk5).mono ?_;rintro e w6 ⟨rfl,k6⟩;have kk6:=kk5.quiet k6;obtain ⟨f61,f62,f63,f64⟩:=HS.o _ kk6.up;clear k6)
  | (go_at_call 142;refine (HGa.o _ kd).mono ?_;rintro e w5 ⟨rfl,k5⟩;have kk5:=kd.quiet k5;obtain ⟨f51,f52,f53,f54⟩:=HS.o _ kk5.up;clear k5)
  | (go_at_call 146;refine (HAD.o _).mono ?_;rintro e w7 ⟨rfl,k7⟩;have kk7:=kk6.quiet k7;obtain ⟨f71,f72,f73,f74⟩:=HS.o _ kk7.up;clear k7))
 all_goals
  go_wp2_with fail;go_ret;exact .of KA.o M9.o K9 (jx.refl _ _) E.o
theorem zkx(h:MaS W0 w mp pp fg P m F hb fc rv oa oc os Fh)(x:In8)(ax:Value)(hx:x.op=6)(ok:zaJ x):
  Calls Tryz.prog 97 #[pointer (some ⟨mp,0,none⟩),pointer (some ⟨fg,m.bot.length * 67,none⟩),zt x ax] w (OpP W0 w mp pp fg P F hb fc (qU P m x)):=by
 have E:Box (qU P m x=(0,m.put x.dst (m.top.get x.a))):=hid (by
  unfold qU
  rw[if_neg (by omega),if_neg (by omega),if_neg (by omega),if_neg (by omega),if_neg (by omega),if_pos (.inl hx)])
 have o1:(x.op == 1)=false:=neb (show x.op≠1 by omega);have o2:(x.op == 2)=false:=neb (show x.op≠2 by omega);have o3:(x.op == 3)=false:=neb (show x.op≠3 by omega);have o4:(x.op == 4)=false:=neb (show x.op≠4 by omega);have o5:(x.op == 5)=false:=neb (show x.op≠5 by omega);have o6:(x.op == 6)=true:=eqb hx;have ka:=za.alloc [] w (.cells #[int i64 x.op,int i64 x.dst,int i64 x.a,int i64 x.b,int i64 x.n,ax] 54);have KA:=hid ka;have H1:=hid (h.quiet ka);have HS:=hid (jg (F:=F) (zd w (.cells #[int i64 x.op,int i64 x.dst,int i64 x.a,int i64 x.b,int i64 x.n,ax] 54)) (fun hm=>by have:=h.lt _ hm;omega));have c0:=zc (zd w (.cells #[int i64 x.op,int i64 x.dst,int i64 x.a,int i64 x.b,int i64 x.n,ax] 54)) 0;have OK:=hid ok;clear h hx ok ka;unfold zt;go_enter Tryz.func97,Tryz.ntmps97;go_upto_region 1 with fail;generalize w.alloc (.cells #[int i64 x.op,int i64 x.dst,int i64 x.a,int i64 x.b,int i64 x.n,ax] 54)=w1 at *;obtain ⟨c1,c2,c3,c4⟩:=HS.o w1 (za.refl _ _);have HGa:=hid fun (w':World) (k:za [] w1 w')=>qh (H1.o.quiet k) OK.o.a0 OK.o.a1;have HST:=hid fun (w':World) (k:za [] w1 w')=>qf (H1.o.quiet k) (m.top.get x.a) OK.o.d0 OK.o.d1;generalize m.top.get x.a=va at *;go_upto_region 14 with fail;have kd:za [] w1 w1.drew:=za.drew _ _
 go_region_held3 (fun w'=>w'.cell? ⟨w.heap.size,1,none⟩=some (int i64 x.dst)∧w'.cell? ⟨w.heap.size,2,none⟩=some (int i64 x.a)∧w'.cell? ⟨w.heap.size,3,none⟩=some (int i64 x.b)∧w'.cell? ⟨w.heap.size,4,none⟩=some (int i64 x.n)) (go_keep) (first
  | (go_at_call 145;refine (HST.o _ kk5).mono ?_;rintro e w9 ⟨rfl,m9,k9⟩;have M9:=hid m9;have K9:=kk5.up.step (k9.mono (fun y hy=>by rw[List.mem_singleton.1 hy];exact H1.o.fg_in):za F _ w9);obtain ⟨f91,f92,f93,f94⟩:=HS.o _ K9;clear m9 k9)
  | (go_at_call 142;refine (HGa.o _ kd).mono ?_;rintro e w5 ⟨rfl,k5⟩;have kk5:=kd.quiet k5;obtain ⟨f51,f52,f53,f54⟩:=HS.o _ kk5.up;clear k5))
 all_goals
  go_wp2_with fail;go_ret;exact .of KA.o M9.o K9 (jx.refl _ _) E.o
theorem zjW(h:MaS W0 w mp pp fg P m F hb fc rv oa oc os Fh)(x:In8)(ax:Value)(hx:x.op=11)(ok:zaJ x):
  Calls Tryz.prog 97 #[pointer (some ⟨mp,0,none⟩),pointer (some ⟨fg,m.bot.length * 67,none⟩),zt x ax] w (OpP W0 w mp pp fg P F hb fc (qU P m x)):=by
 have E:Box (qU P m x=(0,m.put x.dst (m.top.get x.a))):=hid (by
  unfold qU
  rw[if_neg (by omega),if_neg (by omega),if_neg (by omega),if_neg (by omega),if_neg (by omega),if_pos (.inr hx)])
 have o1:(x.op == 1)=false:=neb (show x.op≠1 by omega);have o2:(x.op == 2)=false:=neb (show x.op≠2 by omega);have o3:(x.op == 3)=false:=neb (show x.op≠3 by omega);have o4:(x.op == 4)=false:=neb (show x.op≠4 by omega);have o5:(x.op == 5)=false:=neb (show x.op≠5 by omega);have o6:(x.op == 6)=false:=neb (show x.op≠6 by omega);have o11:(x.op == 11)=true:=eqb hx;have ka:=za.alloc [] w (.cells #[int i64 x.op,int i64 x.dst,int i64 x.a,int i64 x.b,int i64 x.n,ax] 54);have KA:=hid ka;have H1:=hid (h.quiet ka);have HS:=hid (jg (F:=F) (zd w (.cells #[int i64 x.op,int i64 x.dst,int i64 x.a,int i64 x.b,int i64 x.n,ax] 54)) (fun hm=>by have:=h.lt _ hm;omega));have c0:=zc (zd w (.cells #[int i64 x.op,int i64 x.dst,int i64 x.a,int i64 x.b,int i64 x.n,ax] 54)) 0;have OK:=hid ok;clear h hx ok ka;unfold zt;go_enter Tryz.func97,Tryz.ntmps97;go_upto_region 1 with fail;generalize w.alloc (.cells #[int i64 x.op,int i64 x.dst,int i64 x.a,int i64 x.b,int i64 x.n,ax] 54)=w1 at *;obtain ⟨c1,c2,c3,c4⟩:=HS.o w1 (za.refl _ _);have HGa:=hid fun (w':World) (k:za [] w1 w')=>qh (H1.o.quiet k) OK.o.a0 OK.o.a1;have HST:=hid fun (w':World) (k:za [] w1 w')=>qf (H1.o.quiet k) (m.top.get x.a) OK.o.d0 OK.o.d1;generalize m.top.get x.a=va at *;go_upto_region 14 with fail;have kd:za [] w1 w1.drew:=za.drew _ _
 go_region_held3 (fun w'=>w'.cell? ⟨w.heap.size,1,none⟩=some (int i64 x.dst)∧w'.cell? ⟨w.heap.size,2,none⟩=some (int i64 x.a)∧w'.cell? ⟨w.heap.size,3,none⟩=some (int i64 x.b)∧w'.cell? ⟨w.heap.size,4,none⟩=some (int i64 x.n)) (go_keep) (first
  | (go_at_call 145;refine (HST.o _ kk5).mono ?_;rintro e w9 ⟨rfl,m9,k9⟩;have M9:=hid m9;have K9:=kk5.up.step (k9.mono (fun y hy=>by rw[List.mem_singleton.1 hy];exact H1.o.fg_in):za F _ w9);obtain ⟨f91,f92,f93,f94⟩:=HS.o _ K9;clear m9 k9)
  | (go_at_call 142;refine (HGa.o _ kd).mono ?_;rintro e w5 ⟨rfl,k5⟩;have kk5:=kd.quiet k5;obtain ⟨f51,f52,f53,f54⟩:=HS.o _ kk5.up;clear k5))
 all_goals
  go_wp2_with fail;go_ret;exact .of KA.o M9.o K9 (jx.refl _ _) E.o
theorem zkh(h:MaS W0 w mp pp fg P m F hb fc rv oa oc os Fh)(x:In8)(ax:Value)(hx:x.op=3)(ok:zaJ x):
  Calls Tryz.prog 97 #[pointer (some ⟨mp,0,none⟩),pointer (some ⟨fg,m.bot.length * 67,none⟩),zt x ax] w (OpP W0 w mp pp fg P F hb fc (qU P m x)):=by
 have E:Box (qU P m x=(0,{ m with ora:=m.ora.tail }.put x.dst (zgE m))):=hid (by
  unfold qU;rw[if_neg (by omega),if_neg (by omega),if_pos hx]
  rfl)
 have o1:(x.op == 1)=false:=neb (show x.op≠1 by omega);have o2:(x.op == 2)=false:=neb (show x.op≠2 by omega);have o3:(x.op == 3)=true:=eqb hx;have ka:=za.alloc [] w (.cells #[int i64 x.op,int i64 x.dst,int i64 x.a,int i64 x.b,int i64 x.n,ax] 54);have KA:=hid ka;have H1:=hid (h.quiet ka);have HS:=hid (jg (F:=F) (zd w (.cells #[int i64 x.op,int i64 x.dst,int i64 x.a,int i64 x.b,int i64 x.n,ax] 54)) (fun hm=>by have:=h.lt _ hm;omega));have c0:=zc (zd w (.cells #[int i64 x.op,int i64 x.dst,int i64 x.a,int i64 x.b,int i64 x.n,ax] 54)) 0;have OK:=hid ok;clear h hx ok ka;unfold zt;go_enter Tryz.func97,Tryz.ntmps97;go_upto_region 1 with fail;generalize w.alloc (.cells #[int i64 x.op,int i64 x.dst,int i64 x.a,int i64 x.b,int i64 x.n,ax] 54)=w1 at *;obtain ⟨c1,c2,c3,c4⟩:=HS.o w1 (za.refl _ _);have HSO:=hid fun (w':World) (k:za [] w1 w')=>zbk (H1.o.quiet k);generalize zgE m=va at *;go_upto_region 7 with fail;have kd:za [] w1 w1.drew:=za.drew _ _
 go_region_held3 (fun w'=>w'.cell? ⟨w.heap.size,1,none⟩=some (int i64 x.dst)∧w'.cell? ⟨w.heap.size,2,none⟩=some (int i64 x.a)∧w'.cell? ⟨w.heap.size,3,none⟩=some (int i64 x.b)∧w'.cell? ⟨w.heap.size,4,none⟩=some (int i64 x.n)) (go_keep) (first
  | (go_at_call 147;refine (HSO.o _ kd).mono ?_;rintro e w5 ⟨oa5,oc5,rfl,m5,k5⟩;have M5:=hid m5;have kk5:=kd.up.step (k5.mono (fun y hy=>by rw[List.mem_singleton.1 hy];exact H1.o.mp_in):za F _ w5);obtain ⟨f51,f52,f53,f54⟩:=HS.o _ kk5;clear m5 k5)
  | (go_at_call 145;refine (qf M5.o va OK.o.d0 OK.o.d1).mono ?_;rintro e w9 ⟨rfl,m9,k9⟩;have M9:=hid m9;have K9:=kk5.step (k9.mono (fun y hy=>by rw[List.mem_singleton.1 hy];exact H1.o.fg_in):za F _ w9);obtain ⟨f91,f92,f93,f94⟩:=HS.o _ K9;clear m9 k9))
 all_goals
  go_wp2_with fail;go_ret;exact .of KA.o M9.o K9 (jx.refl _ _) E.o
theorem zki(h:MaS W0 w mp pp fg P m F hb fc rv oa oc os Fh)(x:In8)(ax:Value)(hx:x.op=5)(ok:zaJ x)(hsm:Sm8 P)(al:zjU P m x):
  Calls Tryz.prog 97 #[pointer (some ⟨mp,0,none⟩),pointer (some ⟨fg,m.bot.length * 67,none⟩),zt x ax] w (OpP W0 w mp pp fg P F hb fc (qU P m x)):=by
 have o1:(x.op == 1)=false:=neb (show x.op≠1 by omega);have o2:(x.op == 2)=false:=neb (show x.op≠2 by omega);have o3:(x.op == 3)=false:=neb (show x.op≠3 by omega);have o4:(x.op == 4)=false:=neb (show x.op≠4 by omega);have o5:(x.op == 5)=true:=eqb hx;have ka:=za.alloc [] w (.cells #[int i64 x.op,int i64 x.dst,int i64 x.a,int i64 x.b,int i64 x.n,ax] 54);have KA:=hid ka;have H1:=hid (h.quiet ka);have HS:=hid (jg (F:=F) (zd w (.cells #[int i64 x.op,int i64 x.dst,int i64 x.a,int i64 x.b,int i64 x.n,ax] 54)) (fun hm=>by have:=h.lt _ hm;omega));have c0:=zc (zd w (.cells #[int i64 x.op,int i64 x.dst,int i64 x.a,int i64 x.b,int i64 x.n,ax] 54)) 0;have OK:=hid ok;have HC:=hid (zbp (h.quiet ka) hsm x hx al);have c1:=zc (zd w (.cells #[int i64 x.op,int i64 x.dst,int i64 x.a,int i64 x.b,int i64 x.n,ax] 54)) 1;clear h hx ok ka HS hsm al;unfold zt;go_enter Tryz.func97,Tryz.ntmps97;go_upto_region 1 with fail;generalize w.alloc (.cells #[int i64 x.op,int i64 x.dst,int i64 x.a,int i64 x.b,int i64 x.n,ax] 54)=w1 at *;go_wp2_with fail;refine HC.o.mono ?_;rintro e w2 ⟨rfl,F2,rv2,oa2,oc2,os2,Fh2,m2,k2,n2⟩;have M2:=hid m2;have K2:=hid k2;have N2:=hid n2;clear m2 k2 n2 HC;generalize qU P m x=r at *;obtain ⟨y,m'⟩:=r;go_wp2_with fail;go_ret;exact .of KA.o M2.o K2.o N2.o rfl
theorem zkg(h:MaS W0 w mp pp fg P m F hb fc rv oa oc os Fh)(x:In8)(ax:Value)(hx:x.op=7)(ok:zaJ x):
  Calls Tryz.prog 97 #[pointer (some ⟨mp,0,none⟩),pointer (some ⟨fg,m.bot.length * 67,none⟩),zt x ax] w (OpP W0 w mp pp fg P F hb fc (qU P m x)):=by
 have o1:(x.op == 1)=false:=neb (show x.op≠1 by omega);have o2:(x.op == 2)=false:=neb (show x.op≠2 by omega);have o3:(x.op == 3)=false:=neb (show x.op≠3 by omega);have o4:(x.op == 4)=false:=neb (show x.op≠4 by omega);have o5:(x.op == 5)=false:=neb (show x.op≠5 by omega);have o6:(x.op == 6)=false:=neb (show x.op≠6 by omega);have o11:(x.op == 11)=false:=neb (show x.op≠11 by omega);have o7:(x.op == 7)=true:=eqb hx;have ka:=za.alloc [] w (.cells #[int i64 x.op,int i64 x.dst,int i64 x.a,int i64 x.b,int i64 x.n,ax] 54);have KA:=hid ka;have H1:=hid (h.quiet ka);have HS:=hid (jg (F:=F) (zd w (.cells #[int i64 x.op,int i64 x.dst,int i64 x.a,int i64 x.b,int i64 x.n,ax] 54)) (fun hm=>by have:=h.lt _ hm;omega));have c0:=zc (zd w (.cells #[int i64 x.op,int i64 x.dst,int i64 x.a,int i64 x.b,int i64 x.n,ax] 54)) 0;have OK:=hid ok;have HC:=hid (zcq (h.quiet ka) x ax hx ok);have c1:=zc (zd w (.cells #[int i64 x.op,int i64 x.dst,int i64 x.a,int i64 x.b,int i64 x.n,ax] 54)) 1;have c2:=zc (zd w (.cells #[int i64 x.op,int i64 x.dst,int i64 x.a,int i64 x.b,int i64 x.n,ax] 54)) 2;have c3:=zc (zd w (.cells #[int i64 x.op,int i64 x.dst,int i64 x.a,int i64 x.b,int i64 x.n,ax] 54)) 3;have c4:=zc (zd w (.cells #[int i64 x.op,int i64 x.dst,int i64 x.a,int i64 x.b,int i64 x.n,ax] 54)) 4;have c5:=zc (zd w (.cells #[int i64 x.op,int i64 x.dst,int i64 x.a,int i64 x.b,int i64 x.n,ax] 54)) 5;clear h hx ok ka HS;unfold zt;go_enter Tryz.func97,Tryz.ntmps97;go_upto_region 1 with fail;generalize w.alloc (.cells #[int i64 x.op,int i64 x.dst,int i64 x.a,int i64 x.b,int i64 x.n,ax] 54)=w1 at *;go_wp2_with fail;refine HC.o.mono ?_;rintro e w2 ⟨rfl,F2,rv2,oa2,oc2,os2,Fh2,m2,k2,n2⟩;have M2:=hid m2;have K2:=hid k2;have N2:=hid n2;clear m2 k2 n2 HC;generalize qU P m x=r at *;obtain ⟨y,m'⟩:=r;go_wp2_with fail;go_ret;exact .of KA.o M2.o K2.o N2.o rfl
theorem zkw(h:MaS W0 w mp pp fg P m F hb fc rv oa oc os Fh)(x:In8)(ax:Value)(hx:x.op=8)(ok:zaJ x):
  Calls Tryz.prog 97 #[pointer (some ⟨mp,0,none⟩),pointer (some ⟨fg,m.bot.length * 67,none⟩),zt x ax] w (OpP W0 w mp pp fg P F hb fc (qU P m x)):=by
 have E:Box (qU P m x=(slW m.hp (Zj (m.top.get x.a)) x.n,{ m with hp:=zea m.hp (Zj (m.top.get x.a)) x.n (m.top.get x.b) })):=hid (by
  unfold qU
  rw[if_neg (by omega),if_neg (by omega),if_neg (by omega),if_neg (by omega),if_neg (by omega),if_neg (by omega),if_neg (by omega),if_pos hx])
 have o1:(x.op == 1)=false:=neb (show x.op≠1 by omega);have o2:(x.op == 2)=false:=neb (show x.op≠2 by omega);have o3:(x.op == 3)=false:=neb (show x.op≠3 by omega);have o4:(x.op == 4)=false:=neb (show x.op≠4 by omega);have o5:(x.op == 5)=false:=neb (show x.op≠5 by omega);have o6:(x.op == 6)=false:=neb (show x.op≠6 by omega);have o11:(x.op == 11)=false:=neb (show x.op≠11 by omega);have o7:(x.op == 7)=false:=neb (show x.op≠7 by omega);have o8:(x.op == 8)=true:=eqb hx;have ka:=za.alloc [] w (.cells #[int i64 x.op,int i64 x.dst,int i64 x.a,int i64 x.b,int i64 x.n,ax] 54);have KA:=hid ka;have H1:=hid (h.quiet ka);have HS:=hid (jg (F:=F) (zd w (.cells #[int i64 x.op,int i64 x.dst,int i64 x.a,int i64 x.b,int i64 x.n,ax] 54)) (fun hm=>by have:=h.lt _ hm;omega));have c0:=zc (zd w (.cells #[int i64 x.op,int i64 x.dst,int i64 x.a,int i64 x.b,int i64 x.n,ax] 54)) 0;have OK:=hid ok;have e1:=Z2 os (Zj (m.top.get x.a)) x.n;have e2:=zdw os (Zj (m.top.get x.a)) x.n (m.top.get x.b);rw[h.bar] at e1 e2;rw[e1, ← e2] at E;clear h hx ok ka e1 e2;unfold zt;go_enter Tryz.func97,Tryz.ntmps97;go_upto_region 1 with fail;generalize w.alloc (.cells #[int i64 x.op,int i64 x.dst,int i64 x.a,int i64 x.b,int i64 x.n,ax] 54)=w1 at *;obtain ⟨c1,c2,c3,c4⟩:=HS.o w1 (za.refl _ _);have HGa:=hid fun (w':World) (k:za [] w1 w')=>qh (H1.o.quiet k) OK.o.a0 OK.o.a1;have HGb:=hid fun (w':World) (k:za [] w1 w')=>qh (H1.o.quiet k) OK.o.b0 OK.o.b1;have HO:=hid fun (w':World)=>Zu (m.top.get x.a) w';have HV:=hid fun (w':World) (k:za [] w1 w')=>zgY (H1.o.quiet k).hp (Zj (m.top.get x.a)) x.n (m.top.get x.b);have c5:=zc H1.o.box 2;generalize Zj (m.top.get x.a)=po at *;generalize m.top.get x.a=va at *;generalize m.top.get x.b=vb at *;generalize slW os po x.n=sl at *;generalize zea os po x.n vb=os2 at *;go_upto_region 18 with fail;have kd:za [] w1 w1.drew:=za.drew _ _
 go_region_held3 (fun w'=>w'.cell? ⟨mp,2,none⟩=some (pointer (some ⟨hb,0,none⟩))∧w'.cell? ⟨w.heap.size,1,none⟩=some (int i64 x.dst)∧w'.cell? ⟨w.heap.size,2,none⟩=some (int i64 x.a)∧w'.cell? ⟨w.heap.size,3,none⟩=some (int i64 x.b)∧w'.cell? ⟨w.heap.size,4,none⟩=some (int i64 x.n)) (go_keep) (first
  | (go_at_call 142;revert kk6;intro kk6;refine (HGb.o _ kk6).mono ?_;rintro e w7 ⟨rfl,k7⟩;have kk7:=kk6.quiet k7;obtain ⟨f71,f72,f73,f74⟩:=HS.o _ kk7.up;have f70:=zc (H1.o.quiet kk7).box 2;clear k7)
  | (go_at_call 142;refine (HGa.o _ kd).mono ?_;rintro e w5 ⟨rfl,k5⟩;have kk5:=kd.quiet k5;obtain ⟨f51,f52,f53,f54⟩:=HS.o _ kk5.up;have f50:=zc (H1.o.quiet kk5).box 2;clear k5)
  | (go_at_call 151;refine (HO.o _).mono ?_;rintro e w6 ⟨rfl,k6⟩;have kk6:=kk5.quiet k6;obtain ⟨f61,f62,f63,f64⟩:=HS.o _ kk6.up;have f60:=zc (H1.o.quiet kk6).box 2;clear k6)
  | (go_at_call 150;refine (HV.o _ kk7).mono ?_;rintro e w9 ⟨rfl,h9,k9⟩;have m9:=(H1.o.quiet kk7).heap k9 (jx.refl _ _) h9;have M9:=hid m9;have K9:=kk7.up.step (k9.mono H1.o.fh_in:za F _ w9);obtain ⟨f91,f92,f93,f94⟩:=HS.o _ K9;have f90:=zc m9.box 2;clear h9 m9 k9))
 all_goals
  go_wp2_with fail;go_ret
  exact .of KA.o M9.o K9 (fun z hz=>by
   rcases List.mem_append.1 hz with e | e
   ·exact .inl e
   ·exact .inl (H1.o.fh_in z e)) E.o
theorem zkn(h:MaS W0 w mp pp fg P m F hb fc rv oa oc os Fh)(x:In8)(ax:Value)(hx:x.op=9)(ok:zaJ x):
  Calls Tryz.prog 97 #[pointer (some ⟨mp,0,none⟩),pointer (some ⟨fg,m.bot.length * 67,none⟩),zt x ax] w (OpP W0 w mp pp fg P F hb fc (qU P m x)):=by
 have E:Box (qU P m x=(foW m.hp (Zj (m.top.get x.a)),{ m with hp:=Qe m.hp (Zj (m.top.get x.a)) })):=hid (by
  unfold qU
  rw[if_neg (by omega),if_neg (by omega),if_neg (by omega),if_neg (by omega),if_neg (by omega),if_neg (by omega),if_neg (by omega),if_neg (by omega),if_pos hx])
 have o1:(x.op == 1)=false:=neb (show x.op≠1 by omega);have o2:(x.op == 2)=false:=neb (show x.op≠2 by omega);have o3:(x.op == 3)=false:=neb (show x.op≠3 by omega);have o4:(x.op == 4)=false:=neb (show x.op≠4 by omega);have o5:(x.op == 5)=false:=neb (show x.op≠5 by omega);have o6:(x.op == 6)=false:=neb (show x.op≠6 by omega);have o11:(x.op == 11)=false:=neb (show x.op≠11 by omega);have o7:(x.op == 7)=false:=neb (show x.op≠7 by omega);have o8:(x.op == 8)=false:=neb (show x.op≠8 by omega);have o9:(x.op == 9)=true:=eqb hx;have ka:=za.alloc [] w (.cells #[int i64 x.op,int i64 x.dst,int i64 x.a,int i64 x.b,int i64 x.n,ax] 54);have KA:=hid ka;have H1:=hid (h.quiet ka);have HS:=hid (jg (F:=F) (zd w (.cells #[int i64 x.op,int i64 x.dst,int i64 x.a,int i64 x.b,int i64 x.n,ax] 54)) (fun hm=>by have:=h.lt _ hm;omega));have c0:=zc (zd w (.cells #[int i64 x.op,int i64 x.dst,int i64 x.a,int i64 x.b,int i64 x.n,ax] 54)) 0;have OK:=hid ok;have e1:=Q7 os (Zj (m.top.get x.a));have e2:=zb6 os (Zj (m.top.get x.a));rw[h.bar] at e1 e2;rw[e1, ← e2] at E;clear h hx ok ka e1 e2;unfold zt;go_enter Tryz.func97,Tryz.ntmps97;go_upto_region 1 with fail;generalize w.alloc (.cells #[int i64 x.op,int i64 x.dst,int i64 x.a,int i64 x.b,int i64 x.n,ax] 54)=w1 at *;obtain ⟨c1,c2,c3,c4⟩:=HS.o w1 (za.refl _ _);have HGa:=hid fun (w':World) (k:za [] w1 w')=>qh (H1.o.quiet k) OK.o.a0 OK.o.a1;have HO:=hid fun (w':World)=>Zu (m.top.get x.a) w';have HV:=hid fun (w':World) (k:za [] w1 w')=>zfh (H1.o.quiet k).hp (Zj (m.top.get x.a));have c5:=zc H1.o.box 2;generalize Zj (m.top.get x.a)=po at *;generalize m.top.get x.a=va at *;generalize foW os po=sl at *;generalize Qe os po=os2 at *;go_upto_region 20 with fail;have kd:za [] w1 w1.drew:=za.drew _ _
 go_region_held3 (fun w'=>w'.cell? ⟨mp,2,none⟩=some (pointer (some ⟨hb,0,none⟩))∧w'.cell? ⟨w.heap.size,1,none⟩=some (int i64 x.dst)∧w'.cell? ⟨w.heap.size,2,none⟩=some (int i64 x.a)∧w'.cell? ⟨w.heap.size,3,none⟩=some (int i64 x.b)∧w'.cell? ⟨w.heap.size,4,none⟩=some (int i64 x.n)) (go_keep) (first
  | (go_at_call 142;refine (HGa.o _ kd).mono ?_;rintro e w5 ⟨rfl,k5⟩;have kk5:=kd.quiet k5;obtain ⟨f51,f52,f53,f54⟩:=HS.o _ kk5.up;have f50:=zc (H1.o.quiet kk5).box 2;clear k5)
  | (go_at_call 151;refine (HO.o _).mono ?_;rintro e w6 ⟨rfl,k6⟩;have kk6:=kk5.quiet k6;obtain ⟨f61,f62,f63,f64⟩:=HS.o _ kk6.up;have f60:=zc (H1.o.quiet kk6).box 2;clear k6)
  | (go_at_call 152;refine (HV.o _ kk6).mono ?_;rintro e w9 ⟨rfl,h9,k9⟩;have m9:=(H1.o.quiet kk6).heap k9 (jx.refl _ _) h9;have M9:=hid m9;have K9:=kk6.up.step (k9.mono H1.o.fh_in:za F _ w9);obtain ⟨f91,f92,f93,f94⟩:=HS.o _ K9;have f90:=zc m9.box 2;clear h9 m9 k9))
 all_goals
  go_wp2_with fail;go_ret
  exact .of KA.o M9.o K9 (fun z hz=>by
   rcases List.mem_append.1 hz with e | e
   ·exact .inl e
   ·exact .inl (H1.o.fh_in z e)) E.o
theorem zjV(h:MaS W0 w mp pp fg P m F hb fc rv oa oc os Fh)(x:In8)(ax:Value)(hx:x.op=15)(ok:zaJ x):
  Calls Tryz.prog 97 #[pointer (some ⟨mp,0,none⟩),pointer (some ⟨fg,m.bot.length * 67,none⟩),zt x ax] w (OpP W0 w mp pp fg P F hb fc (qU P m x)):=by
 have E:Box (qU P m x=(0,{ m with sk:=(m.top.get x.a).2.2 })):=hid (by
  unfold qU
  rw[if_neg (by omega),if_neg (by omega),if_neg (by omega),if_neg (by omega),if_neg (by omega),if_neg (by omega),if_neg (by omega),if_neg (by omega),if_neg (by omega),if_neg (by omega),if_pos hx])
 have o1:(x.op == 1)=false:=neb (show x.op≠1 by omega);have o2:(x.op == 2)=false:=neb (show x.op≠2 by omega);have o3:(x.op == 3)=false:=neb (show x.op≠3 by omega);have o4:(x.op == 4)=false:=neb (show x.op≠4 by omega);have o5:(x.op == 5)=false:=neb (show x.op≠5 by omega);have o6:(x.op == 6)=false:=neb (show x.op≠6 by omega);have o11:(x.op == 11)=false:=neb (show x.op≠11 by omega);have o7:(x.op == 7)=false:=neb (show x.op≠7 by omega);have o8:(x.op == 8)=false:=neb (show x.op≠8 by omega);have o9:(x.op == 9)=false:=neb (show x.op≠9 by omega);have o10:(x.op == 10)=false:=neb (show x.op≠10 by omega);have o15:(x.op == 15)=true:=eqb hx;have ka:=za.alloc [] w (.cells #[int i64 x.op,int i64 x.dst,int i64 x.a,int i64 x.b,int i64 x.n,ax] 54);have KA:=hid ka;have H1:=hid (h.quiet ka);have HS:=hid (jg (F:=F) (zd w (.cells #[int i64 x.op,int i64 x.dst,int i64 x.a,int i64 x.b,int i64 x.n,ax] 54)) (fun hm=>by have:=h.lt _ hm;omega));have c0:=zc (zd w (.cells #[int i64 x.op,int i64 x.dst,int i64 x.a,int i64 x.b,int i64 x.n,ax] 54)) 0;have OK:=hid ok;clear h hx ok ka;unfold zt;go_enter Tryz.func97,Tryz.ntmps97;go_upto_region 1 with fail;generalize w.alloc (.cells #[int i64 x.op,int i64 x.dst,int i64 x.a,int i64 x.b,int i64 x.n,ax] 54)=w1 at *;obtain ⟨c1,c2,c3,c4⟩:=HS.o w1 (za.refl _ _);have HGa:=hid fun (w':World) (k:za [] w1 w')=>qh (H1.o.quiet k) OK.o.a0 OK.o.a1;generalize m.top.get x.a=va at *;obtain ⟨vk,vn,vt⟩:=va;have hfl:∀ w':World,(Instr.field 30 (vlV (vk,vn,vt)) 2).run Tryz.prog w'=.ok (.bool vt) w':=fun w'=>by kernel_rfl
 go_wp2_with fail;refine (HGa.o _ (za.refl _ _)).mono ?_;rintro e w2 ⟨rfl,k2⟩;have M2:=hid (H1.o.quiet k2);have K2:=hid (KA.o.quiet k2);have p7:=zc M2.o.box 7;have z7:=zg M2.o.box 7;clear k2;go_wp2_with fail;go_ret;exact .of K2.o (M2.o.bx (m':={ m with sk:=vt }) (za.setCell [mp] _ _ _ (List.mem_singleton.2 rfl)) (heap_setCell_same _ mp 7 _ _ (.bool vt) M2.o.box) rfl rfl rfl rfl id M2.o.ocap) (za.setCell F _ _ _ M2.o.mp_in) (jx.refl _ _) E.o
end
section
variable {W0 w w':World}{mp pp fg:Nat}{P:Pr8}{m:Ma}{F:List Nat}{hb fc:Nat}{rv:Value}{oa:Option Addr}{oc:Nat}{os:List Ob}{Fh:List Nat}
theorem MaS.drop(h:MaS W0 w mp pp fg P m F hb fc rv oa oc os Fh){bot:List Fr}{y:Fr}(e:m.bot=bot ++ [y]):MaS W0 (w.setCell ⟨mp,4,none⟩ (.slice (some ⟨fg,0,none⟩) (bot.length+1) fc)) mp pp fg P { m with bot:=bot,top:=y } F hb fc rv oa oc os Fh:=by
 have k:za [mp] w (w.setCell ⟨mp,4,none⟩ (.slice (some ⟨fg,0,none⟩) (bot.length+1) fc)):=za.setCell _ _ _ _ (List.mem_singleton.2 rfl);have n:=h.rv_ne;have f:=h.frs;rw[e] at f;have f':=f.drop;rw[List.length_append] at f';refine ⟨heap_setCell_same w mp 4 _ _ _ h.box,f'.kept k (fun b hb hm=> ?_),zh h.rcs k (fun b hb hm=>n.2.1 (by rw[hb,List.mem_singleton.1 hm])),h.hp.kept k (fun x hx hm=>(h.off x hx).1 (List.mem_singleton.1 hm)),h.bar,h.mp_in,h.fg_in,h.rv_in,h.fh_in,h.off,h.prc,h.orc,qM h.sub (k.mono fun x hx=>by rw[List.mem_singleton.1 hx];exact h.mp_in) (jx.refl w F),h.ocap,fun x hx=>Nat.lt_of_lt_of_le (h.lt x hx) k.size⟩;simp[Value.ownBlock] at hb;rw[List.mem_singleton] at hm;exact n.1 (hm ▸ hb.symm)
theorem MaS.done(h:MaS W0 w mp pp fg P m F hb fc rv oa oc os Fh)(v:V3):MaS W0 (((w.setCell ⟨mp,8,none⟩ (int i64 v.1)).setCell ⟨mp,9,none⟩ (int i64 v.2.1)).setCell ⟨mp,10,none⟩ (.bool v.2.2)) mp pp fg P { m with res:=v } F hb fc rv oa oc os Fh:=
 h.bx (((za.setCell [mp] _ _ _ (List.mem_singleton.2 rfl)).step (za.setCell [mp] _ _ _ (List.mem_singleton.2 rfl))).step (za.setCell [mp] _ _ _ (List.mem_singleton.2 rfl))) (heap_setCell_same _ mp 10 _ _ _ (heap_setCell_same _ mp 9 _ _ _ (heap_setCell_same w mp 8 _ _ (int i64 v.1) h.box))) rfl rfl rfl rfl id h.ocap
structure zkl (P:Pr8) (y:Fr):Prop where
 pt:ZB P y.f y.b y.i
 ic:y.i<(y.blk P).code.length
 d0:0≤(y.ins P).dst
 d1:(y.ins P).dst<16
 ib:y.i<1000000
theorem zhl(w:World)(F:List Nat)(b:Nat)(u0 u1 u2:Value)(h:b∈F):za F w (((w.setCell ⟨b,8,none⟩ u0).setCell ⟨b,9,none⟩ u1).setCell ⟨b,10,none⟩ u2):=((za.setCell F _ _ _ h).step (za.setCell F _ _ _ h)).step (za.setCell F _ _ _ h)
theorem zig(h:MaS W0 w mp pp fg P m F hb fc rv oa oc os Fh)(v:V3)(e:m.bot=[]):
  Calls Tryz.prog 141 #[pointer (some ⟨mp,0,none⟩),vlV v] w (OpP W0 w mp pp fg P F hb fc (zbQ P m v)):=by
 have E:Box (zbQ P m v=(4,{ m with res:=v })):=hid (by unfold zbQ;rw[e];rfl);have ka:=za.alloc [] w (.cells #[int i64 v.1,int i64 v.2.1,.bool v.2.2] 30);have KA:=hid ka;have HN:=hid (zd w (.cells #[int i64 v.1,int i64 v.2.1,.bool v.2.2] 30));have H1:=hid (h.quiet ka);have c4:(w.alloc (.cells #[int i64 v.1,int i64 v.2.1,.bool v.2.2] 30)).cell? ⟨mp,4,none⟩=some (.slice (some ⟨fg,0,none⟩) 1 fc):=by
  have:=zc H1.o.box 4;rw[this];show some (Value.slice _ (m.bot.length+1) _)=_;rw[e];rfl
 have p8:=zc H1.o.box 8;have p9:=zc H1.o.box 9;have p10:=zc H1.o.box 10;have z8:=zg H1.o.box 8;have z9:=zg H1.o.box 9;have z10:=zg H1.o.box 10;have v0:=zc HN.o 0;have v1:=zc HN.o 1;have v2:=zc HN.o 2;clear h ka e;go_enter Tryz.func141,Tryz.ntmps141;go_upto_region 1 with fail;generalize w.alloc (.cells #[int i64 v.1,int i64 v.2.1,.bool v.2.2] 30)=w1 at *;go_wp2_with fail;go_ret;exact .of KA.o (H1.o.done v) (zhl w1 F mp _ _ _ H1.o.mp_in) (jx.refl _ _) E.o
theorem ziW(h:MaS W0 w mp pp fg P m F hb fc rv oa oc os Fh)(v:V3){bot:List Fr}{y:Fr}(e:m.bot=bot ++ [y])(hbl:bot.length≤100)(ok:zkl P y):
  Calls Tryz.prog 141 #[pointer (some ⟨mp,0,none⟩),vlV v] w (OpP W0 w mp pp fg P F hb fc (zbQ P m v)):=by
 have E:Box (zbQ P m v=(0,{ m with bot:=bot,top:=(y.set (y.ins P).dst v).next })):=hid (by unfold zbQ;rw[e];simp);have ka:=za.alloc [] w (.cells #[int i64 v.1,int i64 v.2.1,.bool v.2.2] 30);have KA:=hid ka;have HN:=hid (zd w (.cells #[int i64 v.1,int i64 v.2.1,.bool v.2.2] 30));have H1:=hid (h.quiet ka);have HD:=hid ((h.quiet ka).drop e);have c4:(w.alloc (.cells #[int i64 v.1,int i64 v.2.1,.bool v.2.2] 30)).cell? ⟨mp,4,none⟩=some (.slice (some ⟨fg,0,none⟩) (bot.length+1+1) fc):=by
  have:=zc H1.o.box 4;rw[this];show some (Value.slice _ (m.bot.length+1) _)=_;rw[e,List.length_append];rfl
 have z4:=zg H1.o.box 4;have hcap:((bot.length:Int)+1)≤(fc:Int):=by
  have:=(h.quiet ka).frs.own.2;rcases this with ⟨h',_⟩ | ⟨g',cap',cur,h',_,_,hn,_⟩
  ·simp at h'
  ·simp only[Value.slice.injEq] at h'
   rw[e] at hn;simp at hn;omega
 have hne1:(((bot.length:Int)+1+1) == 1)=false:=neb (by omega);have OK:=hid ok;have HF:=hid h.lt;clear h ka ok;go_enter Tryz.func141,Tryz.ntmps141;go_upto_region 1 with fail;generalize w.alloc (.cells #[int i64 v.1,int i64 v.2.1,.bool v.2.2] 30)=w1 at *;go_upto_region 4 with fail
 go_region
 have HD2:=hid (HD.o.quiet (za.drew [] _));have K2:Box (za [mp] w1 (w1.setCell ⟨mp,4,none⟩ (.slice (some ⟨fg,0,none⟩) (bot.length+1) fc)).drew):=hid ((za.setCell [mp] _ _ _ (List.mem_singleton.2 rfl)).quiet (za.drew [] _));have HNF:Box (w.heap.size ∉ F):=hid fun hm=>by
  have:=HF.o _ hm;omega
 generalize (w1.setCell ⟨mp,4,none⟩ (.slice (some ⟨fg,0,none⟩) (bot.length+1) fc)).drew=w2 at *;have KF2:=hid (K2.o.mono fun z hz=>by rw[List.mem_singleton.1 hz];exact H1.o.mp_in:za F w1 w2)
 have HV:=hid fun (w':World) (k:za F w1 w')=>(show (w'.cell? ⟨w.heap.size,0,none⟩=some (int i64 v.1)∧w'.cell? ⟨w.heap.size,1,none⟩=some (int i64 v.2.1)∧w'.cell? ⟨w.heap.size,2,none⟩=some (.bool v.2.2)) from
  have hb9:w'.heap[w.heap.size]? = _:=(k.block _ (zx HN.o) HNF.o).trans HN.o
  ⟨zc hb9 0,zc hb9 1,zc hb9 2⟩)
 clear c4 z4 hcap hne1 HD K2;go_wp2_with fail;refine (ze1 HD2.o hbl).mono ?_;rintro e3 w3 ⟨rfl,k3⟩;have H3:=hid (HD2.o.quiet k3);have K3:=hid (KF2.o.quiet k3);clear HD2 k3 KF2;go_upto_region 6 with fail;obtain ⟨a0,a1,a2⟩:=HV.o w3 K3.o;have a3:=H3.o.pt.2.2;have kd:za [] w3 w3.drew:=za.drew _ _;obtain ⟨bb,bo,bl,hbk⟩:=zfA H3.o OK.o.pt;have HBK:=hid hbk;obtain ⟨ca,cp,q0,q1,q2⟩:=bl.c0;obtain ⟨cb,co,hca,q3⟩:=q1.at (zhX OK.o.ic);subst hca;have HSB:=hid fun (w':World) (s:Sub W0 w')=>(show w'.cell? ⟨bb,bo,none⟩=some (.slice (some ⟨cb,co,none⟩) (y.blk P).code.length cp)∧w'.cell? ⟨cb,co+y.i * 6+1,none⟩=some (int i64 (y.ins P).dst) from ⟨s _ _ q0,s _ _ q3.c1.1⟩);obtain ⟨g0,g1⟩:=HSB.o _ H3.o.now;clear q0 q1 q2 q3 bl hbk;have HST:=hid fun (w':World) (k:za [] w3 w')=>qf (H3.o.quiet k) v OK.o.d0 OK.o.d1;have HPT:=hid fun (w':World) (k:za [] w3 w')=>(H3.o.quiet k).pt.2.2;have hiz:(y.i:Int)<((y.blk P).code.length:Int):=by have:=OK.o.ic;omega
 go_region_held3 (fun w'=>w'.cell? ⟨w.heap.size,0,none⟩=some (int i64 v.1)∧w'.cell? ⟨w.heap.size,1,none⟩=some (int i64 v.2.1)∧w'.cell? ⟨w.heap.size,2,none⟩=some (.bool v.2.2)∧w'.cell? ⟨fg,bot.length * 67+2,none⟩=some (int i64 (y.i:Int))∧w'.cell? ⟨bb,bo,none⟩=some (.slice (some ⟨cb,co,none⟩) (y.blk P).code.length cp)∧w'.cell? ⟨cb,co+y.i * 6+1,none⟩=some (int i64 (y.ins P).dst)) (go_keep) (first
  | (go_at_call 94;refine (HBK.o _ kd).mono ?_;rintro e5 w5 ⟨rfl,k5⟩;have kk5:=kd.quiet k5;obtain ⟨g50,g51⟩:=HSB.o _ (H3.o.quiet kk5).now;obtain ⟨f50,f51,f52⟩:=HV.o _ (K3.o.quiet kk5);have f53:=HPT.o _ kk5;clear k5)
  | (go_at_call 145;refine (HST.o _ kk5).mono ?_;rintro e9 w9 ⟨rfl,m9,k9⟩;have M9:=hid m9;have K9:=((K3.o.quiet kk5).step (k9.mono (fun z hz=>by rw[List.mem_singleton.1 hz];exact H3.o.fg_in):za F _ w9));obtain ⟨f90,f91,f92⟩:=HV.o _ K9;obtain ⟨g90,g91⟩:=HSB.o _ m9.now;have f93:w9.cell? ⟨fg,bot.length * 67+2,none⟩=some (int i64 (y.i:Int)):=m9.pt.2.2;clear m9 k9))
 all_goals
  have d2:w9.cell? ⟨fg,bot.length * 67+2,none⟩=some (int i64 (y.i:Int)):=M9.o.pt.2.2;have zz:=M9.o.frs.thaw (bot.length * 67+2);have hib:=OK.o.ib;have hiw:((y.i:Int)+1)<9223372036854775808:=by omega
  have hin:=hid hib;clear hib;go_wp2_with fail;go_ret;exact .of KA.o M9.o.next (K9.step (za.setCell F _ _ _ M9.o.fg_in)) (jx.refl _ _) E.o
end
def rtB(P:Pr8)(f:Fu8)(x:In8):Bool:=(!zK x || tyB P (zk f x.dst)) && (zW x).all fun r=>tyB P (zk f r)
theorem zbr{w:World}{pb po fb fo:Nat}{P:Pr8}{f:Fu8}(h:PrC w pb po P)(hf:FuC w fb fo f)(x:In8){a:Option Addr}{cp:Nat}(hz:zw w a x.args)(hl:x.args.length≤1000):Calls Tryz.prog 240 #[pointer (some ⟨pb,po,none⟩),pointer (some ⟨fb,fo,none⟩),zt x (.slice a x.args.length cp)] w fun e w'=>e=.returned (.bool (rtB P f x))∧za [] w w':=by
 have ka:=za.alloc [] w (.cells #[int i64 x.op,int i64 x.dst,int i64 x.a,int i64 x.b,int i64 x.n,.slice a x.args.length cp] 54);have hn:=zd w (.cells #[int i64 x.op,int i64 x.dst,int i64 x.a,int i64 x.b,int i64 x.n,.slice a x.args.length cp] 54);have HD:=hid fun (w':World)=>QG x (.slice a x.args.length cp) w';have HU:=hid fun (w':World) (k:za [] w w')=>Q2 x a cp w' (hz.kept k (fun _ _ _=>by simp)) (by omega);have hul:=ZU x;have HRT:=hid fun (r:Int) (w':World) (k:za [] w w')=>zn (FuC.stays _ _ _ _ _ k hf) r;have HTN:=hid fun (t:Int × Int) (w':World) (k:za [] w w')=>Zm (PrC.stays _ _ _ _ _ k h) t;have IN:Box (∀ w',za [] (w.alloc (.cells #[int i64 x.op,int i64 x.dst,int i64 x.a,int i64 x.b,int i64 x.n,.slice a x.args.length cp] 54)) w'→InW w' w.heap.size x (.slice a x.args.length cp)):=hid fun w' k=>by
  have:=ze hn k;exact ⟨zc this 0,zc this 1,zc this 2,zc this 3,zc this 4,zc this 5⟩
 have KA:=hid ka;have HE:Box (rtB P f x=((!zK x || tyB P (zk f x.dst)) && (zW x).all fun r=>tyB P (zk f r))):=hid rfl;obtain ⟨d0,d1,d2,d3,d4,d5⟩:=IN.o _ (za.refl _ _);obtain ⟨N,hN⟩:∃ N,N=(zW x).length:=⟨_,rfl⟩;have HN:=hid hN;have hN9:(N:Int)≤2000:=by omega
 rw[← hN] at HU;clear h hf ka hn hz hl hul hN;unfold zt at *;generalize rtB P f x=res at *;generalize hWA:w.alloc (.cells #[int i64 x.op,int i64 x.dst,int i64 x.a,int i64 x.b,int i64 x.n,.slice a x.args.length cp] 54)=WA at *;have HWA:=hid hWA;clear hWA;by_cases hdd:zK x=true∧tyB P (zk f x.dst)=false
 ·obtain ⟨hd,ht⟩:=hdd
  rw[zN hd] at HD;have HR:Box (res=false):=hid (by rw[HE.o,hd,ht];rfl);have HC:=hid fun (w':World) (k:za [] w w')=>HTN.o (zk f x.dst) w' k;rw[ht] at HC;clear HE hd ht;go_enter Tryz.func240,Tryz.ntmps240;go_upto_region 1 with fail;rw[HWA.o];clear HWA;generalize w.heap.size=q at *;go_wp2_with fail;refine (HD.o _).mono ?_;rintro e w1 ⟨rfl,k1⟩;have K1:=hid (KA.o.quiet k1);go_wp2_with fail;refine (HRT.o _ _ K1.o).mono ?_;rintro e w2 ⟨rfl,k2⟩;have K2:=hid (K1.o.quiet k2);go_wp2_with fail;refine (HC.o _ K2.o).mono ?_;rintro e w3 ⟨rfl,k3⟩;have K3:=hid (K2.o.quiet k3);clear k1 k2 k3;go_wp2_with fail;go_ret;exact ⟨by rw[HR.o];rfl,K3.o⟩
 ·have HR:Box (res=(zW x).all fun r=>tyB P (zk f r)):=hid (by
   rw[HE.o];cases hd:zK x with
   | false=>simp
   | true=>
    cases ht:tyB P (zk f x.dst) with
    | true=>simp
    | false=>exact absurd ⟨hd,ht⟩ hdd)
  clear HE;go_enter Tryz.func240,Tryz.ntmps240;go_upto_region 1 with fail;rw[HWA.o];clear HWA;generalize w.heap.size=q at *;go_wp2_with fail;refine (HD.o _).mono ?_;rintro e w1 ⟨rfl,k1⟩;have K1:=hid (KA.o.quiet k1);have KW1:=hid k1;clear k1 d0 d1 d2 d3 d4 d5;rcases Qh x with ⟨hd,hv⟩ | ⟨hd,hv⟩
  ·rw[hv]
   have ht:tyB P (zk f x.dst)=true:=by
    cases ht:tyB P (zk f x.dst) with
    | true=>rfl
    | false=>exact absurd ⟨hd,ht⟩ hdd
   have HC:=hid fun (w':World) (k:za [] w w')=>HTN.o (zk f x.dst) w' k;rw[ht] at HC;clear ht hd hv hdd;go_wp2_with fail;refine (HRT.o _ _ K1.o).mono ?_;rintro e w2 ⟨rfl,k2⟩;have K2:=hid (K1.o.quiet k2);go_wp2_with fail;refine (HC.o _ K2.o).mono ?_;rintro e w3 ⟨rfl,k3⟩;have K3:=hid (K2.o.quiet k3);obtain ⟨d0,d1,d2,d3,d4,d5⟩:=IN.o _ ((KW1.o.quiet k2).quiet k3);clear k2 k3;go_wp2_with fail;refine (HU.o _ K3.o).mono ?_;rintro e w4 ⟨ua,up,rfl,hu,k4⟩;have K4:=hid (K3.o.quiet k4);have HUU:=hid hu;clear hu k4 d0 d1 d2 d3 d4 d5;go_wp2_with fail
   go_loopw [28] (fun kv wr=>∃ k:Nat,k≤N∧kv=int i64 (k:Int)∧Box (za [] w4 wr)∧Box (∀ j y,j<k→(zW x)[j]? = some y→tyB P (zk f y)=true)) (fun kv _=>N - (intOf kv).toNat)
   case atStart=>exact ⟨0,by omega,rfl,hid (za.refl _ _),hid fun j y hj=>by omega⟩
   case round=>
    obtain ⟨k,hk,rfl,HK,HB⟩:=hrel;by_cases hlt:k<N
    ·have hlt':(k:Int)<(N:Int):=by omega
     have hkl:k<(zW x).length:=by rw[← HN.o];exact hlt
     obtain ⟨y,hy⟩:∃ y,(zW x)[k]? = some y:=⟨_,List.getElem?_eq_getElem hkl⟩;obtain ⟨b,off,rfl,hc⟩:∃ b off,ua=some ⟨b,off,none⟩∧w4.cell? ⟨b,off+k,none⟩=some (int i64 y):=by
      rcases HUU.o with e | ⟨b,off,e,h⟩
      ·rw[e] at hy;simp at hy
      ·refine ⟨b,off,e,?_⟩
       rw[h k hkl,List.getD_eq_getElem?_getD,hy];rfl
     replace hc:=zb HK.o hc;have KK:=hid (K4.o.quiet HK.o);have HY:=hid hy;clear hy hkl;cases hg:tyB P (zk f y) with
     | true=>
      have HC:=hid fun (w':World) (k:za [] w w')=>HTN.o (zk f y) w' k;rw[hg] at HC;have HG:=hid hg;clear hg;go_wp2_with fail;refine (HRT.o _ _ KK.o).mono ?_;rintro e w5 ⟨rfl,k5⟩;have K5:=hid (KK.o.quiet k5);go_wp2_with fail;refine (HC.o _ K5.o).mono ?_;rintro e w6 ⟨rfl,k6⟩;have K6:=hid ((HK.o.quiet k5).quiet k6);clear k5 k6;go_wp2_with fail;go_roundw
      case rel=>exact ⟨k+1,by omega,by go_num,K6,hid fun j z hj hz=>by
       by_cases e:j<k
       ·exact HB.o j z e hz
       ·obtain rfl:j=k:=by omega
        rw[HY.o] at hz;cases hz
        exact HG.o⟩
      case measure=>simp[intOf];omega
     | false=>
      have HC:=hid fun (w':World) (k:za [] w w')=>HTN.o (zk f y) w' k;rw[hg] at HC;have HF:Box (res=false):=hid (by rw[HR.o];exact qy HY.o hg);clear hg;go_wp2_with fail;refine (HRT.o _ _ KK.o).mono ?_;rintro e w5 ⟨rfl,k5⟩;have K5:=hid (KK.o.quiet k5);go_wp2_with fail;refine (HC.o _ K5.o).mono ?_;rintro e w6 ⟨rfl,k6⟩;have K6:=hid (K5.o.quiet k6);clear k5 k6;go_wp2_with fail;go_ret;exact ⟨by rw[HF.o];rfl,K6.o⟩
    ·obtain rfl:N=k:=by omega
     have HF:Box (res=true):=hid (by rw[HR.o];exact qG (fun j y hy=>HB.o j y (by rw[HN.o];exact (List.getElem?_eq_some_iff.1 hy).1) hy));go_wp2_with fail;go_ret;exact ⟨by rw[HF.o];rfl,K4.o.quiet HK.o⟩
  ·rw[hv]
   clear hd hv hdd;have K3:=K1;obtain ⟨d0,d1,d2,d3,d4,d5⟩:=IN.o _ KW1.o;go_wp2_with fail;refine (HU.o _ K3.o).mono ?_;rintro e w4 ⟨ua,up,rfl,hu,k4⟩;have K4:=hid (K3.o.quiet k4);have HUU:=hid hu;clear hu k4 d0 d1 d2 d3 d4 d5;go_wp2_with fail
   go_loopw [28] (fun kv wr=>∃ k:Nat,k≤N∧kv=int i64 (k:Int)∧Box (za [] w4 wr)∧Box (∀ j y,j<k→(zW x)[j]? = some y→tyB P (zk f y)=true)) (fun kv _=>N - (intOf kv).toNat)
   case atStart=>exact ⟨0,by omega,rfl,hid (za.refl _ _),hid fun j y hj=>by omega⟩
   case round=>
    obtain ⟨k,hk,rfl,HK,HB⟩:=hrel;by_cases hlt:k<N
    ·have hlt':(k:Int)<(N:Int):=by omega
     have hkl:k<(zW x).length:=by rw[← HN.o];exact hlt
     obtain ⟨y,hy⟩:∃ y,(zW x)[k]? = some y:=⟨_,List.getElem?_eq_getElem hkl⟩;obtain ⟨b,off,rfl,hc⟩:∃ b off,ua=some ⟨b,off,none⟩∧w4.cell? ⟨b,off+k,none⟩=some (int i64 y):=by
      rcases HUU.o with e | ⟨b,off,e,h⟩
      ·rw[e] at hy;simp at hy
      ·refine ⟨b,off,e,?_⟩
       rw[h k hkl,List.getD_eq_getElem?_getD,hy];rfl
     replace hc:=zb HK.o hc;have KK:=hid (K4.o.quiet HK.o);have HY:=hid hy;clear hy hkl;cases hg:tyB P (zk f y) with
     | true=>
      have HC:=hid fun (w':World) (k:za [] w w')=>HTN.o (zk f y) w' k;rw[hg] at HC;have HG:=hid hg;clear hg;go_wp2_with fail;refine (HRT.o _ _ KK.o).mono ?_;rintro e w5 ⟨rfl,k5⟩;have K5:=hid (KK.o.quiet k5);go_wp2_with fail;refine (HC.o _ K5.o).mono ?_;rintro e w6 ⟨rfl,k6⟩;have K6:=hid ((HK.o.quiet k5).quiet k6);clear k5 k6;go_wp2_with fail;go_roundw
      case rel=>exact ⟨k+1,by omega,by go_num,K6,hid fun j z hj hz=>by
       by_cases e:j<k
       ·exact HB.o j z e hz
       ·obtain rfl:j=k:=by omega
        rw[HY.o] at hz;cases hz
        exact HG.o⟩
      case measure=>simp[intOf];omega
     | false=>
      have HC:=hid fun (w':World) (k:za [] w w')=>HTN.o (zk f y) w' k;rw[hg] at HC;have HF:Box (res=false):=hid (by rw[HR.o];exact qy HY.o hg);clear hg;go_wp2_with fail;refine (HRT.o _ _ KK.o).mono ?_;rintro e w5 ⟨rfl,k5⟩;have K5:=hid (KK.o.quiet k5);go_wp2_with fail;refine (HC.o _ K5.o).mono ?_;rintro e w6 ⟨rfl,k6⟩;have K6:=hid (K5.o.quiet k6);clear k5 k6;go_wp2_with fail;go_ret;exact ⟨by rw[HF.o];rfl,K6.o⟩
    ·obtain rfl:N=k:=by omega
     have HF:Box (res=true):=hid (by rw[HR.o];exact qG (fun j y hy=>HB.o j y (by rw[HN.o];exact (List.getElem?_eq_some_iff.1 hy).1) hy));go_wp2_with fail;go_ret;exact ⟨by rw[HF.o];rfl,K4.o.quiet HK.o⟩
end Go.Proofs.YthflgjkmbakedaaGreatDoor
