import Derived.Test.YtgmbkiagdhjpnaaGreatDoorU30

namespace Go.Proofs.YtgmbkiagdhjpnaaGreatDoor
open Go.RowKit
open Go.Value (int pointer agg)
open Go.IntKind (i64)
set_option maxRecDepth 20000
set_option maxHeartbeats 8000000
variable {b:Bl8}{bb bo:Nat}
theorem za.up{F:List Nat}{a b:World}(k:za [] a b):za F a b:=k.mono fun _ h=>by cases h
section
variable {W0 w:World}{mp pp fg:Nat}{P:Pr8}{m:Ma}{F:List Nat}{hb fc:Nat}{rv:Value}{oa:Option Addr}{oc:Nat}{os:List Ob}{Fh:List Nat}
theorem OpP.of{w1 w2:World}{m':Ma}{r:Int × Ma}{y:Int}{F':List Nat}{rv':Value}{oa':Option Addr}{oc':Nat}{os':List Ob}{Fh':List Nat}(k:za [] w w1)(M:MaS W0 w2 mp pp fg P m' F' hb fc rv' oa' oc' os' Fh')(k2:za F w1 w2)(n:ja w1 F F')(e:r=(y,m')):OpP W0 w mp pp fg P F hb fc r (.returned (int i64 y)) w2:=by
 subst e;exact ⟨rfl,F',rv',oa',oc',os',Fh',M,k.up.step k2,fun z hz=>(n z hz).imp id (Nat.le_trans k.size)⟩
theorem jE{w1:World}{x:In8}{ax:Value}{b:Nat}(hn:w1.heap[b]? = some (.cells #[int i64 x.op,int i64 x.dst,int i64 x.a,int i64 x.b,int i64 x.n,ax] 65 (0,0)))(hF:b ∉ F)(w':World)(k:za F w1 w'):w'.cell? ⟨b,1,none⟩=some (int i64 x.dst)∧w'.cell? ⟨b,2,none⟩=some (int i64 x.a)∧w'.cell? ⟨b,3,none⟩=some (int i64 x.b)∧w'.cell? ⟨b,4,none⟩=some (int i64 x.n):=by
 have h:w'.heap[b]? = _:=(k.block b (zt hn) hF).trans hn;exact ⟨zc h 1,zc h 2,zc h 3,zc h 4⟩
theorem zmg(h:MaS W0 w mp pp fg P m F hb fc rv oa oc os Fh)(x:In8)(ax:Value)(hx:x.op=1)(ok:zaY x):
  Calls Tryz.prog 86 #[pointer (some ⟨mp,0,none⟩),pointer (some ⟨fg,m.bot.length * 67,none⟩),zu x ax] w (OpP W0 w mp pp fg P F hb fc (qr P m x)):=by
 have E:Box (qr P m x=(0,m.put x.dst (0,x.n,false))):=hid (by
  unfold qr
  rw[if_pos hx])
 have o1:(x.op == 1)=true:=eqb hx;have ka:=za.alloc [] w (.cells #[int i64 x.op,int i64 x.dst,int i64 x.a,int i64 x.b,int i64 x.n,ax] 65);have KA:=hid ka;have H1:=hid (h.quiet ka);have HS:=hid (jE (F:=F) (ze w (.cells #[int i64 x.op,int i64 x.dst,int i64 x.a,int i64 x.b,int i64 x.n,ax] 65)) (fun hm=>by have:=h.lt _ hm;omega));have c0:=zc (ze w (.cells #[int i64 x.op,int i64 x.dst,int i64 x.a,int i64 x.b,int i64 x.n,ax] 65)) 0;have OK:=hid ok;clear h hx ok ka;unfold zu;go_enter Tryz.func86,Tryz.ntmps86;go_upto_region 1 with fail;generalize w.alloc (.cells #[int i64 x.op,int i64 x.dst,int i64 x.a,int i64 x.b,int i64 x.n,ax] 65)=w1 at *;obtain ⟨c1,c2,c3,c4⟩:=HS.o w1 (za.refl _ _);go_wp2_with fail;refine (qz H1.o (0,x.n,false) OK.o.d0 OK.o.d1).mono ?_;rintro e w2 ⟨rfl,m2,k2⟩;have M2:=hid m2;have K2:=hid (k2.mono fun y hy=>by rw[List.mem_singleton.1 hy];exact H1.o.fg_in:za F w1 w2);clear m2 k2;go_wp2_with fail;go_ret;exact .of KA.o M2.o K2.o (ja.refl _ _) E.o
theorem zmh(h:MaS W0 w mp pp fg P m F hb fc rv oa oc os Fh)(x:In8)(ax:Value)(hx:x.op=4)(ok:zaY x):
  Calls Tryz.prog 86 #[pointer (some ⟨mp,0,none⟩),pointer (some ⟨fg,m.bot.length * 67,none⟩),zu x ax] w (OpP W0 w mp pp fg P F hb fc (qr P m x)):=by
 have E:Box (qr P m x=(0,m.put x.dst (1,0,false))):=hid (by
  unfold qr
  rw[if_neg (by omega),if_neg (by omega),if_neg (by omega),if_pos hx])
 have o1:(x.op == 1)=false:=neb (show x.op≠1 by omega);have o2:(x.op == 2)=false:=neb (show x.op≠2 by omega);have o3:(x.op == 3)=false:=neb (show x.op≠3 by omega);have o4:(x.op == 4)=true:=eqb hx;have ka:=za.alloc [] w (.cells #[int i64 x.op,int i64 x.dst,int i64 x.a,int i64 x.b,int i64 x.n,ax] 65);have KA:=hid ka;have H1:=hid (h.quiet ka);have HS:=hid (jE (F:=F) (ze w (.cells #[int i64 x.op,int i64 x.dst,int i64 x.a,int i64 x.b,int i64 x.n,ax] 65)) (fun hm=>by have:=h.lt _ hm;omega));have c0:=zc (ze w (.cells #[int i64 x.op,int i64 x.dst,int i64 x.a,int i64 x.b,int i64 x.n,ax] 65)) 0;have OK:=hid ok;clear h hx ok ka;unfold zu;go_enter Tryz.func86,Tryz.ntmps86;go_upto_region 1 with fail;generalize w.alloc (.cells #[int i64 x.op,int i64 x.dst,int i64 x.a,int i64 x.b,int i64 x.n,ax] 65)=w1 at *;obtain ⟨c1,c2,c3,c4⟩:=HS.o w1 (za.refl _ _);go_wp2_with fail;refine (qz H1.o (1,0,false) OK.o.d0 OK.o.d1).mono ?_;rintro e w2 ⟨rfl,m2,k2⟩;have M2:=hid m2;have K2:=hid (k2.mono fun y hy=>by rw[List.mem_singleton.1 hy];exact H1.o.fg_in:za F w1 w2);clear m2 k2;go_wp2_with fail;go_ret;exact .of KA.o M2.o K2.o (ja.refl _ _) E.o
theorem zlt(h:MaS W0 w mp pp fg P m F hb fc rv oa oc os Fh)(x:In8)(ax:Value)(hx:x.op=10)(ok:zaY x):
  Calls Tryz.prog 86 #[pointer (some ⟨mp,0,none⟩),pointer (some ⟨fg,m.bot.length * 67,none⟩),zu x ax] w (OpP W0 w mp pp fg P F hb fc (qr P m x)):=by
 have E:Box (qr P m x=(0,m.put x.dst (3,x.n,false))):=hid (by
  unfold qr
  rw[if_neg (by omega),if_neg (by omega),if_neg (by omega),if_neg (by omega),if_neg (by omega),if_neg (by omega),if_neg (by omega),if_neg (by omega),if_neg (by omega),if_pos hx])
 have o1:(x.op == 1)=false:=neb (show x.op≠1 by omega);have o2:(x.op == 2)=false:=neb (show x.op≠2 by omega);have o3:(x.op == 3)=false:=neb (show x.op≠3 by omega);have o4:(x.op == 4)=false:=neb (show x.op≠4 by omega);have o5:(x.op == 5)=false:=neb (show x.op≠5 by omega);have o6:(x.op == 6)=false:=neb (show x.op≠6 by omega);have o11:(x.op == 11)=false:=neb (show x.op≠11 by omega);have o7:(x.op == 7)=false:=neb (show x.op≠7 by omega);have o8:(x.op == 8)=false:=neb (show x.op≠8 by omega);have o9:(x.op == 9)=false:=neb (show x.op≠9 by omega);have o10:(x.op == 10)=true:=eqb hx;have ka:=za.alloc [] w (.cells #[int i64 x.op,int i64 x.dst,int i64 x.a,int i64 x.b,int i64 x.n,ax] 65);have KA:=hid ka;have H1:=hid (h.quiet ka);have HS:=hid (jE (F:=F) (ze w (.cells #[int i64 x.op,int i64 x.dst,int i64 x.a,int i64 x.b,int i64 x.n,ax] 65)) (fun hm=>by have:=h.lt _ hm;omega));have c0:=zc (ze w (.cells #[int i64 x.op,int i64 x.dst,int i64 x.a,int i64 x.b,int i64 x.n,ax] 65)) 0;have OK:=hid ok;clear h hx ok ka;unfold zu;go_enter Tryz.func86,Tryz.ntmps86;go_upto_region 1 with fail;generalize w.alloc (.cells #[int i64 x.op,int i64 x.dst,int i64 x.a,int i64 x.b,int i64 x.n,ax] 65)=w1 at *;obtain ⟨c1,c2,c3,c4⟩:=HS.o w1 (za.refl _ _);go_wp2_with fail;refine (qz H1.o (3,x.n,false) OK.o.d0 OK.o.d1).mono ?_;rintro e w2 ⟨rfl,m2,k2⟩;have M2:=hid m2;have K2:=hid (k2.mono fun y hy=>by rw[List.mem_singleton.1 hy];exact H1.o.fg_in:za F w1 w2);clear m2 k2;go_wp2_with fail;go_ret;exact .of KA.o M2.o K2.o (ja.refl _ _) E.o
theorem zmK(h:MaS W0 w mp pp fg P m F hb fc rv oa oc os Fh)(x:In8)(ax:Value)(hx:x.op=2)(ok:zaY x):
  Calls Tryz.prog 86 #[pointer (some ⟨mp,0,none⟩),pointer (some ⟨fg,m.bot.length * 67,none⟩),zu x ax] w (OpP W0 w mp pp fg P F hb fc (qr P m x)):=by
 have E:Box (qr P m x=(0,m.put x.dst (zhJ (m.top.get x.a) (m.top.get x.b)))):=hid (by
  unfold qr
  rw[if_neg (by omega),if_pos hx])
 have o1:(x.op == 1)=false:=neb (show x.op≠1 by omega);have o2:(x.op == 2)=true:=eqb hx;have ka:=za.alloc [] w (.cells #[int i64 x.op,int i64 x.dst,int i64 x.a,int i64 x.b,int i64 x.n,ax] 65);have KA:=hid ka;have H1:=hid (h.quiet ka);have HS:=hid (jE (F:=F) (ze w (.cells #[int i64 x.op,int i64 x.dst,int i64 x.a,int i64 x.b,int i64 x.n,ax] 65)) (fun hm=>by have:=h.lt _ hm;omega));have c0:=zc (ze w (.cells #[int i64 x.op,int i64 x.dst,int i64 x.a,int i64 x.b,int i64 x.n,ax] 65)) 0;have OK:=hid ok;clear h hx ok ka;unfold zu;go_enter Tryz.func86,Tryz.ntmps86;go_upto_region 1 with fail;generalize w.alloc (.cells #[int i64 x.op,int i64 x.dst,int i64 x.a,int i64 x.b,int i64 x.n,ax] 65)=w1 at *;obtain ⟨c1,c2,c3,c4⟩:=HS.o w1 (za.refl _ _);have HGa:=hid fun (w':World) (k:za [] w1 w')=>qc (H1.o.quiet k) OK.o.a0 OK.o.a1;have HGb:=hid fun (w':World) (k:za [] w1 w')=>qc (H1.o.quiet k) OK.o.b0 OK.o.b1;have HST:=hid fun (w':World) (k:za [] w1 w')=>qz (H1.o.quiet k) (zhJ (m.top.get x.a) (m.top.get x.b)) OK.o.d0 OK.o.d1;have HAD:=hid fun (w':World)=>zgc (m.top.get x.a) (m.top.get x.b) w';generalize zhJ (m.top.get x.a) (m.top.get x.b)=va at *;go_upto_region 5 with fail;have kd:za [] w1 w1.drew:=za.drew _ _
 go_region_held3 (fun w'=>w'.cell? ⟨w.heap.size,1,none⟩=some (int i64 x.dst)∧w'.cell? ⟨w.heap.size,2,none⟩=some (int i64 x.a)∧w'.cell? ⟨w.heap.size,3,none⟩=some (int i64 x.b)∧w'.cell? ⟨w.heap.size,4,none⟩=some (int i64 x.n)) (go_keep) (first
  | (go_at_call 136;refine (HST.o _ kk7).mono ?_;rintro e w9 ⟨rfl,m9,k9⟩;have M9:=hid m9;have K9:=kk7.up.step (k9.mono (fun y hy=>by rw[List.mem_singleton.1 hy];exact H1.o.fg_in):za F _ w9);obtain ⟨f91,f92,f93,f94⟩:=HS.o _ K9;clear m9 k9)
  | (go_at_call 133;revert kk5;intro kk5;refine (HGb.o _ kk5).mono ?_;rintro e w6 ⟨rfl,k6⟩;have kk6:=kk5.quiet k6;obtain ⟨f61,f62,f63,f64⟩:=HS.o _ kk6.up;clear k6)
  | (go_at_call 133;refine (HGa.o _ kd).mono ?_;rintro e w5 ⟨rfl,k5⟩;have kk5:=kd.quiet k5;obtain ⟨f51,f52,f53,f54⟩:=HS.o _ kk5.up;clear k5)
  | (go_at_call 137;refine (HAD.o _).mono ?_;rintro e w7 ⟨rfl,k7⟩;have kk7:=kk6.quiet k7;obtain ⟨f71,f72,f73,f74⟩:=HS.o _ kk7.up;clear k7))
 all_goals
  go_wp2_with fail;go_ret;exact .of KA.o M9.o K9 (ja.refl _ _) E.o
theorem zmP(h:MaS W0 w mp pp fg P m F hb fc rv oa oc os Fh)(x:In8)(ax:Value)(hx:x.op=6)(ok:zaY x):
  Calls Tryz.prog 86 #[pointer (some ⟨mp,0,none⟩),pointer (some ⟨fg,m.bot.length * 67,none⟩),zu x ax] w (OpP W0 w mp pp fg P F hb fc (qr P m x)):=by
 have E:Box (qr P m x=(0,m.put x.dst (m.top.get x.a))):=hid (by
  unfold qr
  rw[if_neg (by omega),if_neg (by omega),if_neg (by omega),if_neg (by omega),if_neg (by omega),if_pos (.inl hx)])
 have o1:(x.op == 1)=false:=neb (show x.op≠1 by omega);have o2:(x.op == 2)=false:=neb (show x.op≠2 by omega);have o3:(x.op == 3)=false:=neb (show x.op≠3 by omega);have o4:(x.op == 4)=false:=neb (show x.op≠4 by omega);have o5:(x.op == 5)=false:=neb (show x.op≠5 by omega);have o6:(x.op == 6)=true:=eqb hx;have ka:=za.alloc [] w (.cells #[int i64 x.op,int i64 x.dst,int i64 x.a,int i64 x.b,int i64 x.n,ax] 65);have KA:=hid ka;have H1:=hid (h.quiet ka);have HS:=hid (jE (F:=F) (ze w (.cells #[int i64 x.op,int i64 x.dst,int i64 x.a,int i64 x.b,int i64 x.n,ax] 65)) (fun hm=>by have:=h.lt _ hm;omega));have c0:=zc (ze w (.cells #[int i64 x.op,int i64 x.dst,int i64 x.a,int i64 x.b,int i64 x.n,ax] 65)) 0;have OK:=hid ok;clear h hx ok ka;unfold zu;go_enter Tryz.func86,Tryz.ntmps86;go_upto_region 1 with fail;generalize w.alloc (.cells #[int i64 x.op,int i64 x.dst,int i64 x.a,int i64 x.b,int i64 x.n,ax] 65)=w1 at *;obtain ⟨c1,c2,c3,c4⟩:=HS.o w1 (za.refl _ _);have HGa:=hid fun (w':World) (k:za [] w1 w')=>qc (H1.o.quiet k) OK.o.a0 OK.o.a1;have HST:=hid fun (w':World) (k:za [] w1 w')=>qz (H1.o.quiet k) (m.top.get x.a) OK.o.d0 OK.o.d1;generalize m.top.get x.a=va at *;go_upto_region 14 with fail;have kd:za [] w1 w1.drew:=za.drew _ _
 go_region_held3 (fun w'=>w'.cell? ⟨w.heap.size,1,none⟩=some (int i64 x.dst)∧w'.cell? ⟨w.heap.size,2,none⟩=some (int i64 x.a)∧w'.cell? ⟨w.heap.size,3,none⟩=some (int i64 x.b)∧w'.cell? ⟨w.heap.size,4,none⟩=some (int i64 x.n)) (go_keep) (first
  | (go_at_call 136;refine (HST.o _ kk5).mono ?_;rintro e w9 ⟨rfl,m9,k9⟩;have M9:=hid m9;have K9:=kk5.up.step (k9.mono (fun y hy=>by rw[List.mem_singleton.1 hy];exact H1.o.fg_in):za F _ w9);obtain ⟨f91,f92,f93,f94⟩:=HS.o _ K9;clear m9 k9)
  | (go_at_call 133;refine (HGa.o _ kd).mono ?_;rintro e w5 ⟨rfl,k5⟩;have kk5:=kd.quiet k5;obtain ⟨f51,f52,f53,f54⟩:=HS.o _ kk5.up;clear k5))
 all_goals
  go_wp2_with fail;go_ret;exact .of KA.o M9.o K9 (ja.refl _ _) E.o
theorem zlC(h:MaS W0 w mp pp fg P m F hb fc rv oa oc os Fh)(x:In8)(ax:Value)(hx:x.op=11)(ok:zaY x):
  Calls Tryz.prog 86 #[pointer (some ⟨mp,0,none⟩),pointer (some ⟨fg,m.bot.length * 67,none⟩),zu x ax] w (OpP W0 w mp pp fg P F hb fc (qr P m x)):=by
 have E:Box (qr P m x=(0,m.put x.dst (m.top.get x.a))):=hid (by
  unfold qr
  rw[if_neg (by omega),if_neg (by omega),if_neg (by omega),if_neg (by omega),if_neg (by omega),if_pos (.inr hx)])
 have o1:(x.op == 1)=false:=neb (show x.op≠1 by omega);have o2:(x.op == 2)=false:=neb (show x.op≠2 by omega);have o3:(x.op == 3)=false:=neb (show x.op≠3 by omega);have o4:(x.op == 4)=false:=neb (show x.op≠4 by omega);have o5:(x.op == 5)=false:=neb (show x.op≠5 by omega);have o6:(x.op == 6)=false:=neb (show x.op≠6 by omega);have o11:(x.op == 11)=true:=eqb hx;have ka:=za.alloc [] w (.cells #[int i64 x.op,int i64 x.dst,int i64 x.a,int i64 x.b,int i64 x.n,ax] 65);have KA:=hid ka;have H1:=hid (h.quiet ka);have HS:=hid (jE (F:=F) (ze w (.cells #[int i64 x.op,int i64 x.dst,int i64 x.a,int i64 x.b,int i64 x.n,ax] 65)) (fun hm=>by have:=h.lt _ hm;omega));have c0:=zc (ze w (.cells #[int i64 x.op,int i64 x.dst,int i64 x.a,int i64 x.b,int i64 x.n,ax] 65)) 0;have OK:=hid ok;clear h hx ok ka;unfold zu;go_enter Tryz.func86,Tryz.ntmps86;go_upto_region 1 with fail;generalize w.alloc (.cells #[int i64 x.op,int i64 x.dst,int i64 x.a,int i64 x.b,int i64 x.n,ax] 65)=w1 at *;obtain ⟨c1,c2,c3,c4⟩:=HS.o w1 (za.refl _ _);have HGa:=hid fun (w':World) (k:za [] w1 w')=>qc (H1.o.quiet k) OK.o.a0 OK.o.a1;have HST:=hid fun (w':World) (k:za [] w1 w')=>qz (H1.o.quiet k) (m.top.get x.a) OK.o.d0 OK.o.d1;generalize m.top.get x.a=va at *;go_upto_region 14 with fail;have kd:za [] w1 w1.drew:=za.drew _ _
 go_region_held3 (fun w'=>w'.cell? ⟨w.heap.size,1,none⟩=some (int i64 x.dst)∧w'.cell? ⟨w.heap.size,2,none⟩=some (int i64 x.a)∧w'.cell? ⟨w.heap.size,3,none⟩=some (int i64 x.b)∧w'.cell? ⟨w.heap.size,4,none⟩=some (int i64 x.n)) (go_keep) (first
  | (go_at_call 136;refine (HST.o _ kk5).mono ?_;rintro e w9 ⟨rfl,m9,k9⟩;have M9:=hid m9;have K9:=kk5.up.step (k9.mono (fun y hy=>by rw[List.mem_singleton.1 hy];exact H1.o.fg_in):za F _ w9);obtain ⟨f91,f92,f93,f94⟩:=HS.o _ K9;clear m9 k9)
  | (go_at_call 133;refine (HGa.o _ kd).mono ?_;rintro e w5 ⟨rfl,k5⟩;have kk5:=kd.quiet k5;obtain ⟨f51,f52,f53,f54⟩:=HS.o _ kk5.up;clear k5))
 all_goals
  go_wp2_with fail;go_ret;exact .of KA.o M9.o K9 (ja.refl _ _) E.o
theorem zma(h:MaS W0 w mp pp fg P m F hb fc rv oa oc os Fh)(x:In8)(ax:Value)(hx:x.op=3)(ok:zaY x):
  Calls Tryz.prog 86 #[pointer (some ⟨mp,0,none⟩),pointer (some ⟨fg,m.bot.length * 67,none⟩),zu x ax] w (OpP W0 w mp pp fg P F hb fc (qr P m x)):=by
 have E:Box (qr P m x=(0,{ m with ora:=m.ora.tail }.put x.dst (ziJ m))):=hid (by
  unfold qr;rw[if_neg (by omega),if_neg (by omega),if_pos hx]
  rfl)
 have o1:(x.op == 1)=false:=neb (show x.op≠1 by omega);have o2:(x.op == 2)=false:=neb (show x.op≠2 by omega);have o3:(x.op == 3)=true:=eqb hx;have ka:=za.alloc [] w (.cells #[int i64 x.op,int i64 x.dst,int i64 x.a,int i64 x.b,int i64 x.n,ax] 65);have KA:=hid ka;have H1:=hid (h.quiet ka);have HS:=hid (jE (F:=F) (ze w (.cells #[int i64 x.op,int i64 x.dst,int i64 x.a,int i64 x.b,int i64 x.n,ax] 65)) (fun hm=>by have:=h.lt _ hm;omega));have c0:=zc (ze w (.cells #[int i64 x.op,int i64 x.dst,int i64 x.a,int i64 x.b,int i64 x.n,ax] 65)) 0;have OK:=hid ok;clear h hx ok ka;unfold zu;go_enter Tryz.func86,Tryz.ntmps86;go_upto_region 1 with fail;generalize w.alloc (.cells #[int i64 x.op,int i64 x.dst,int i64 x.a,int i64 x.b,int i64 x.n,ax] 65)=w1 at *;obtain ⟨c1,c2,c3,c4⟩:=HS.o w1 (za.refl _ _);have HSO:=hid fun (w':World) (k:za [] w1 w')=>zc1 (H1.o.quiet k);generalize ziJ m=va at *;go_upto_region 7 with fail;have kd:za [] w1 w1.drew:=za.drew _ _
 go_region_held3 (fun w'=>w'.cell? ⟨w.heap.size,1,none⟩=some (int i64 x.dst)∧w'.cell? ⟨w.heap.size,2,none⟩=some (int i64 x.a)∧w'.cell? ⟨w.heap.size,3,none⟩=some (int i64 x.b)∧w'.cell? ⟨w.heap.size,4,none⟩=some (int i64 x.n)) (go_keep) (first
  | (go_at_call 138;refine (HSO.o _ kd).mono ?_;rintro e w5 ⟨oa5,oc5,rfl,m5,k5⟩;have M5:=hid m5;have kk5:=kd.up.step (k5.mono (fun y hy=>by rw[List.mem_singleton.1 hy];exact H1.o.mp_in):za F _ w5);obtain ⟨f51,f52,f53,f54⟩:=HS.o _ kk5;clear m5 k5)
  | (go_at_call 136;refine (qz M5.o va OK.o.d0 OK.o.d1).mono ?_;rintro e w9 ⟨rfl,m9,k9⟩;have M9:=hid m9;have K9:=kk5.step (k9.mono (fun y hy=>by rw[List.mem_singleton.1 hy];exact H1.o.fg_in):za F _ w9);obtain ⟨f91,f92,f93,f94⟩:=HS.o _ K9;clear m9 k9))
 all_goals
  go_wp2_with fail;go_ret;exact .of KA.o M9.o K9 (ja.refl _ _) E.o
theorem zmC(h:MaS W0 w mp pp fg P m F hb fc rv oa oc os Fh)(x:In8)(ax:Value)(hx:x.op=5)(ok:zaY x)(hsm:Sm8 P)(al:zkU P m x):
  Calls Tryz.prog 86 #[pointer (some ⟨mp,0,none⟩),pointer (some ⟨fg,m.bot.length * 67,none⟩),zu x ax] w (OpP W0 w mp pp fg P F hb fc (qr P m x)):=by
 have o1:(x.op == 1)=false:=neb (show x.op≠1 by omega);have o2:(x.op == 2)=false:=neb (show x.op≠2 by omega);have o3:(x.op == 3)=false:=neb (show x.op≠3 by omega);have o4:(x.op == 4)=false:=neb (show x.op≠4 by omega);have o5:(x.op == 5)=true:=eqb hx;have ka:=za.alloc [] w (.cells #[int i64 x.op,int i64 x.dst,int i64 x.a,int i64 x.b,int i64 x.n,ax] 65);have KA:=hid ka;have H1:=hid (h.quiet ka);have HS:=hid (jE (F:=F) (ze w (.cells #[int i64 x.op,int i64 x.dst,int i64 x.a,int i64 x.b,int i64 x.n,ax] 65)) (fun hm=>by have:=h.lt _ hm;omega));have c0:=zc (ze w (.cells #[int i64 x.op,int i64 x.dst,int i64 x.a,int i64 x.b,int i64 x.n,ax] 65)) 0;have OK:=hid ok;have HC:=hid (zd0 (h.quiet ka) hsm x hx al);have c1:=zc (ze w (.cells #[int i64 x.op,int i64 x.dst,int i64 x.a,int i64 x.b,int i64 x.n,ax] 65)) 1;clear h hx ok ka HS hsm al;unfold zu;go_enter Tryz.func86,Tryz.ntmps86;go_upto_region 1 with fail;generalize w.alloc (.cells #[int i64 x.op,int i64 x.dst,int i64 x.a,int i64 x.b,int i64 x.n,ax] 65)=w1 at *;go_wp2_with fail;refine HC.o.mono ?_;rintro e w2 ⟨rfl,F2,rv2,oa2,oc2,os2,Fh2,m2,k2,n2⟩;have M2:=hid m2;have K2:=hid k2;have N2:=hid n2;clear m2 k2 n2 HC;generalize qr P m x=r at *;obtain ⟨y,m'⟩:=r;go_wp2_with fail;go_ret;exact .of KA.o M2.o K2.o N2.o rfl
theorem zmb(h:MaS W0 w mp pp fg P m F hb fc rv oa oc os Fh)(x:In8)(ax:Value)(hx:x.op=7)(ok:zaY x):
  Calls Tryz.prog 86 #[pointer (some ⟨mp,0,none⟩),pointer (some ⟨fg,m.bot.length * 67,none⟩),zu x ax] w (OpP W0 w mp pp fg P F hb fc (qr P m x)):=by
 have o1:(x.op == 1)=false:=neb (show x.op≠1 by omega);have o2:(x.op == 2)=false:=neb (show x.op≠2 by omega);have o3:(x.op == 3)=false:=neb (show x.op≠3 by omega);have o4:(x.op == 4)=false:=neb (show x.op≠4 by omega);have o5:(x.op == 5)=false:=neb (show x.op≠5 by omega);have o6:(x.op == 6)=false:=neb (show x.op≠6 by omega);have o11:(x.op == 11)=false:=neb (show x.op≠11 by omega);have o7:(x.op == 7)=true:=eqb hx;have ka:=za.alloc [] w (.cells #[int i64 x.op,int i64 x.dst,int i64 x.a,int i64 x.b,int i64 x.n,ax] 65);have KA:=hid ka;have H1:=hid (h.quiet ka);have HS:=hid (jE (F:=F) (ze w (.cells #[int i64 x.op,int i64 x.dst,int i64 x.a,int i64 x.b,int i64 x.n,ax] 65)) (fun hm=>by have:=h.lt _ hm;omega));have c0:=zc (ze w (.cells #[int i64 x.op,int i64 x.dst,int i64 x.a,int i64 x.b,int i64 x.n,ax] 65)) 0;have OK:=hid ok;have HC:=hid (ze4 (h.quiet ka) x ax hx ok);have c1:=zc (ze w (.cells #[int i64 x.op,int i64 x.dst,int i64 x.a,int i64 x.b,int i64 x.n,ax] 65)) 1;have c2:=zc (ze w (.cells #[int i64 x.op,int i64 x.dst,int i64 x.a,int i64 x.b,int i64 x.n,ax] 65)) 2;have c3:=zc (ze w (.cells #[int i64 x.op,int i64 x.dst,int i64 x.a,int i64 x.b,int i64 x.n,ax] 65)) 3;have c4:=zc (ze w (.cells #[int i64 x.op,int i64 x.dst,int i64 x.a,int i64 x.b,int i64 x.n,ax] 65)) 4;have c5:=zc (ze w (.cells #[int i64 x.op,int i64 x.dst,int i64 x.a,int i64 x.b,int i64 x.n,ax] 65)) 5;clear h hx ok ka HS;unfold zu;go_enter Tryz.func86,Tryz.ntmps86;go_upto_region 1 with fail;generalize w.alloc (.cells #[int i64 x.op,int i64 x.dst,int i64 x.a,int i64 x.b,int i64 x.n,ax] 65)=w1 at *;go_wp2_with fail;refine HC.o.mono ?_;rintro e w2 ⟨rfl,F2,rv2,oa2,oc2,os2,Fh2,m2,k2,n2⟩;have M2:=hid m2;have K2:=hid k2;have N2:=hid n2;clear m2 k2 n2 HC;generalize qr P m x=r at *;obtain ⟨y,m'⟩:=r;go_wp2_with fail;go_ret;exact .of KA.o M2.o K2.o N2.o rfl
theorem zmu(h:MaS W0 w mp pp fg P m F hb fc rv oa oc os Fh)(x:In8)(ax:Value)(hx:x.op=8)(ok:zaY x):
  Calls Tryz.prog 86 #[pointer (some ⟨mp,0,none⟩),pointer (some ⟨fg,m.bot.length * 67,none⟩),zu x ax] w (OpP W0 w mp pp fg P F hb fc (qr P m x)):=by
 have E:Box (qr P m x=(slW m.hp (j9 (m.top.get x.a)) x.n,{ m with hp:=zdd m.hp (j9 (m.top.get x.a)) x.n (m.top.get x.b) })):=hid (by
  unfold qr
  rw[if_neg (by omega),if_neg (by omega),if_neg (by omega),if_neg (by omega),if_neg (by omega),if_neg (by omega),if_neg (by omega),if_pos hx])
 have o1:(x.op == 1)=false:=neb (show x.op≠1 by omega);have o2:(x.op == 2)=false:=neb (show x.op≠2 by omega);have o3:(x.op == 3)=false:=neb (show x.op≠3 by omega);have o4:(x.op == 4)=false:=neb (show x.op≠4 by omega);have o5:(x.op == 5)=false:=neb (show x.op≠5 by omega);have o6:(x.op == 6)=false:=neb (show x.op≠6 by omega);have o11:(x.op == 11)=false:=neb (show x.op≠11 by omega);have o7:(x.op == 7)=false:=neb (show x.op≠7 by omega);have o8:(x.op == 8)=true:=eqb hx;have ka:=za.alloc [] w (.cells #[int i64 x.op,int i64 x.dst,int i64 x.a,int i64 x.b,int i64 x.n,ax] 65);have KA:=hid ka;have H1:=hid (h.quiet ka);have HS:=hid (jE (F:=F) (ze w (.cells #[int i64 x.op,int i64 x.dst,int i64 x.a,int i64 x.b,int i64 x.n,ax] 65)) (fun hm=>by have:=h.lt _ hm;omega));have c0:=zc (ze w (.cells #[int i64 x.op,int i64 x.dst,int i64 x.a,int i64 x.b,int i64 x.n,ax] 65)) 0;have OK:=hid ok;have e1:=Qt os (j9 (m.top.get x.a)) x.n;have e2:=zf6 os (j9 (m.top.get x.a)) x.n (m.top.get x.b);rw[h.bar] at e1 e2;rw[e1, ← e2] at E;clear h hx ok ka e1 e2;unfold zu;go_enter Tryz.func86,Tryz.ntmps86;go_upto_region 1 with fail;generalize w.alloc (.cells #[int i64 x.op,int i64 x.dst,int i64 x.a,int i64 x.b,int i64 x.n,ax] 65)=w1 at *;obtain ⟨c1,c2,c3,c4⟩:=HS.o w1 (za.refl _ _);have HGa:=hid fun (w':World) (k:za [] w1 w')=>qc (H1.o.quiet k) OK.o.a0 OK.o.a1;have HGb:=hid fun (w':World) (k:za [] w1 w')=>qc (H1.o.quiet k) OK.o.b0 OK.o.b1;have HO:=hid fun (w':World)=>ZS (m.top.get x.a) w';have HV:=hid fun (w':World) (k:za [] w1 w')=>zis (H1.o.quiet k).hp (j9 (m.top.get x.a)) x.n (m.top.get x.b);have c5:=zc H1.o.box 2;generalize j9 (m.top.get x.a)=po at *;generalize m.top.get x.a=va at *;generalize m.top.get x.b=vb at *;generalize slW os po x.n=sl at *;generalize zdd os po x.n vb=os2 at *;go_upto_region 18 with fail;have kd:za [] w1 w1.drew:=za.drew _ _
 go_region_held3 (fun w'=>w'.cell? ⟨mp,2,none⟩=some (pointer (some ⟨hb,0,none⟩))∧w'.cell? ⟨w.heap.size,1,none⟩=some (int i64 x.dst)∧w'.cell? ⟨w.heap.size,2,none⟩=some (int i64 x.a)∧w'.cell? ⟨w.heap.size,3,none⟩=some (int i64 x.b)∧w'.cell? ⟨w.heap.size,4,none⟩=some (int i64 x.n)) (go_keep) (first
  | (go_at_call 133;revert kk6;intro kk6;refine (HGb.o _ kk6).mono ?_;rintro e w7 ⟨rfl,k7⟩;have kk7:=kk6.quiet k7;obtain ⟨f71,f72,f73,f74⟩:=HS.o _ kk7.up;have f70:=zc (H1.o.quiet kk7).box 2;clear k7)
  | (go_at_call 133;refine (HGa.o _ kd).mono ?_;rintro e w5 ⟨rfl,k5⟩;have kk5:=kd.quiet k5;obtain ⟨f51,f52,f53,f54⟩:=HS.o _ kk5.up;have f50:=zc (H1.o.quiet kk5).box 2;clear k5)
  | (go_at_call 141;refine (HO.o _).mono ?_;rintro e w6 ⟨rfl,k6⟩;have kk6:=kk5.quiet k6;obtain ⟨f61,f62,f63,f64⟩:=HS.o _ kk6.up;have f60:=zc (H1.o.quiet kk6).box 2;clear k6)
  | (go_at_call 91;refine (HV.o _ kk7).mono ?_;rintro e w9 ⟨rfl,h9,k9⟩;have m9:=(H1.o.quiet kk7).heap k9 (ja.refl _ _) h9;have M9:=hid m9;have K9:=kk7.up.step (k9.mono H1.o.fh_in:za F _ w9);obtain ⟨f91,f92,f93,f94⟩:=HS.o _ K9;have f90:=zc m9.box 2;clear h9 m9 k9))
 all_goals
  go_wp2_with fail;go_ret
  exact .of KA.o M9.o K9 (fun z hz=>by
   rcases List.mem_append.1 hz with e | e
   ·exact .inl e
   ·exact .inl (H1.o.fh_in z e)) E.o
theorem zmD(h:MaS W0 w mp pp fg P m F hb fc rv oa oc os Fh)(x:In8)(ax:Value)(hx:x.op=9)(ok:zaY x):
  Calls Tryz.prog 86 #[pointer (some ⟨mp,0,none⟩),pointer (some ⟨fg,m.bot.length * 67,none⟩),zu x ax] w (OpP W0 w mp pp fg P F hb fc (qr P m x)):=by
 have E:Box (qr P m x=(foW m.hp (j9 (m.top.get x.a)),{ m with hp:=QD m.hp (j9 (m.top.get x.a)) })):=hid (by
  unfold qr
  rw[if_neg (by omega),if_neg (by omega),if_neg (by omega),if_neg (by omega),if_neg (by omega),if_neg (by omega),if_neg (by omega),if_neg (by omega),if_pos hx])
 have o1:(x.op == 1)=false:=neb (show x.op≠1 by omega);have o2:(x.op == 2)=false:=neb (show x.op≠2 by omega);have o3:(x.op == 3)=false:=neb (show x.op≠3 by omega);have o4:(x.op == 4)=false:=neb (show x.op≠4 by omega);have o5:(x.op == 5)=false:=neb (show x.op≠5 by omega);have o6:(x.op == 6)=false:=neb (show x.op≠6 by omega);have o11:(x.op == 11)=false:=neb (show x.op≠11 by omega);have o7:(x.op == 7)=false:=neb (show x.op≠7 by omega);have o8:(x.op == 8)=false:=neb (show x.op≠8 by omega);have o9:(x.op == 9)=true:=eqb hx;have ka:=za.alloc [] w (.cells #[int i64 x.op,int i64 x.dst,int i64 x.a,int i64 x.b,int i64 x.n,ax] 65);have KA:=hid ka;have H1:=hid (h.quiet ka);have HS:=hid (jE (F:=F) (ze w (.cells #[int i64 x.op,int i64 x.dst,int i64 x.a,int i64 x.b,int i64 x.n,ax] 65)) (fun hm=>by have:=h.lt _ hm;omega));have c0:=zc (ze w (.cells #[int i64 x.op,int i64 x.dst,int i64 x.a,int i64 x.b,int i64 x.n,ax] 65)) 0;have OK:=hid ok;have e1:=Jx os (j9 (m.top.get x.a));have e2:=zcI os (j9 (m.top.get x.a));rw[h.bar] at e1 e2;rw[e1, ← e2] at E;clear h hx ok ka e1 e2;unfold zu;go_enter Tryz.func86,Tryz.ntmps86;go_upto_region 1 with fail;generalize w.alloc (.cells #[int i64 x.op,int i64 x.dst,int i64 x.a,int i64 x.b,int i64 x.n,ax] 65)=w1 at *;obtain ⟨c1,c2,c3,c4⟩:=HS.o w1 (za.refl _ _);have HGa:=hid fun (w':World) (k:za [] w1 w')=>qc (H1.o.quiet k) OK.o.a0 OK.o.a1;have HO:=hid fun (w':World)=>ZS (m.top.get x.a) w';have HV:=hid fun (w':World) (k:za [] w1 w')=>zhs (H1.o.quiet k).hp (j9 (m.top.get x.a));have c5:=zc H1.o.box 2;generalize j9 (m.top.get x.a)=po at *;generalize m.top.get x.a=va at *;generalize foW os po=sl at *;generalize QD os po=os2 at *;go_upto_region 20 with fail;have kd:za [] w1 w1.drew:=za.drew _ _
 go_region_held3 (fun w'=>w'.cell? ⟨mp,2,none⟩=some (pointer (some ⟨hb,0,none⟩))∧w'.cell? ⟨w.heap.size,1,none⟩=some (int i64 x.dst)∧w'.cell? ⟨w.heap.size,2,none⟩=some (int i64 x.a)∧w'.cell? ⟨w.heap.size,3,none⟩=some (int i64 x.b)∧w'.cell? ⟨w.heap.size,4,none⟩=some (int i64 x.n)) (go_keep) (first
  | (go_at_call 133;refine (HGa.o _ kd).mono ?_;rintro e w5 ⟨rfl,k5⟩;have kk5:=kd.quiet k5;obtain ⟨f51,f52,f53,f54⟩:=HS.o _ kk5.up;have f50:=zc (H1.o.quiet kk5).box 2;clear k5)
  | (go_at_call 141;refine (HO.o _).mono ?_;rintro e w6 ⟨rfl,k6⟩;have kk6:=kk5.quiet k6;obtain ⟨f61,f62,f63,f64⟩:=HS.o _ kk6.up;have f60:=zc (H1.o.quiet kk6).box 2;clear k6)
  | (go_at_call 92;refine (HV.o _ kk6).mono ?_;rintro e w9 ⟨rfl,h9,k9⟩;have m9:=(H1.o.quiet kk6).heap k9 (ja.refl _ _) h9;have M9:=hid m9;have K9:=kk6.up.step (k9.mono H1.o.fh_in:za F _ w9);obtain ⟨f91,f92,f93,f94⟩:=HS.o _ K9;have f90:=zc m9.box 2;clear h9 m9 k9))
 all_goals
  go_wp2_with fail;go_ret
  exact .of KA.o M9.o K9 (fun z hz=>by
   rcases List.mem_append.1 hz with e | e
   ·exact .inl e
   ·exact .inl (H1.o.fh_in z e)) E.o
theorem zkz(h:MaS W0 w mp pp fg P m F hb fc rv oa oc os Fh)(x:In8)(ax:Value)(hx:x.op=15)(ok:zaY x):
  Calls Tryz.prog 86 #[pointer (some ⟨mp,0,none⟩),pointer (some ⟨fg,m.bot.length * 67,none⟩),zu x ax] w (OpP W0 w mp pp fg P F hb fc (qr P m x)):=by
 have E:Box (qr P m x=(0,{ m with sk:=(m.top.get x.a).2.2 })):=hid (by
  unfold qr
  rw[if_neg (by omega),if_neg (by omega),if_neg (by omega),if_neg (by omega),if_neg (by omega),if_neg (by omega),if_neg (by omega),if_neg (by omega),if_neg (by omega),if_neg (by omega),if_pos hx])
 have o1:(x.op == 1)=false:=neb (show x.op≠1 by omega);have o2:(x.op == 2)=false:=neb (show x.op≠2 by omega);have o3:(x.op == 3)=false:=neb (show x.op≠3 by omega);have o4:(x.op == 4)=false:=neb (show x.op≠4 by omega);have o5:(x.op == 5)=false:=neb (show x.op≠5 by omega);have o6:(x.op == 6)=false:=neb (show x.op≠6 by omega);have o11:(x.op == 11)=false:=neb (show x.op≠11 by omega);have o7:(x.op == 7)=false:=neb (show x.op≠7 by omega);have o8:(x.op == 8)=false:=neb (show x.op≠8 by omega);have o9:(x.op == 9)=false:=neb (show x.op≠9 by omega);have o10:(x.op == 10)=false:=neb (show x.op≠10 by omega);have o15:(x.op == 15)=true:=eqb hx;have ka:=za.alloc [] w (.cells #[int i64 x.op,int i64 x.dst,int i64 x.a,int i64 x.b,int i64 x.n,ax] 65);have KA:=hid ka;have H1:=hid (h.quiet ka);have HS:=hid (jE (F:=F) (ze w (.cells #[int i64 x.op,int i64 x.dst,int i64 x.a,int i64 x.b,int i64 x.n,ax] 65)) (fun hm=>by have:=h.lt _ hm;omega));have c0:=zc (ze w (.cells #[int i64 x.op,int i64 x.dst,int i64 x.a,int i64 x.b,int i64 x.n,ax] 65)) 0;have OK:=hid ok;clear h hx ok ka;unfold zu;go_enter Tryz.func86,Tryz.ntmps86;go_upto_region 1 with fail;generalize w.alloc (.cells #[int i64 x.op,int i64 x.dst,int i64 x.a,int i64 x.b,int i64 x.n,ax] 65)=w1 at *;obtain ⟨c1,c2,c3,c4⟩:=HS.o w1 (za.refl _ _);have HGa:=hid fun (w':World) (k:za [] w1 w')=>qc (H1.o.quiet k) OK.o.a0 OK.o.a1;generalize m.top.get x.a=va at *;obtain ⟨vk,vn,vt⟩:=va;have hfl:∀ w':World,(Instr.field 39 (vlV (vk,vn,vt)) 2).run Tryz.prog w'=.ok (.bool vt) w':=fun w'=>by kernel_rfl
 go_wp2_with fail;refine (HGa.o _ (za.refl _ _)).mono ?_;rintro e w2 ⟨rfl,k2⟩;have M2:=hid (H1.o.quiet k2);have K2:=hid (KA.o.quiet k2);have p7:=zc M2.o.box 7;have z7:=zg M2.o.box 7;clear k2;go_wp2_with fail;go_ret;exact .of K2.o (M2.o.bx (m':={ m with sk:=vt }) (za.setCell [mp] _ _ _ (List.mem_singleton.2 rfl)) (heap_setCell_same _ mp 7 _ _ (.bool vt) M2.o.box) rfl rfl rfl rfl id M2.o.ocap) (za.setCell F _ _ _ M2.o.mp_in) (ja.refl _ _) E.o
end
section
variable {W0 w w':World}{mp pp fg:Nat}{P:Pr8}{m:Ma}{F:List Nat}{hb fc:Nat}{rv:Value}{oa:Option Addr}{oc:Nat}{os:List Ob}{Fh:List Nat}
theorem MaS.drop(h:MaS W0 w mp pp fg P m F hb fc rv oa oc os Fh){bot:List Fr}{y:Fr}(e:m.bot=bot ++ [y]):MaS W0 (w.setCell ⟨mp,4,none⟩ (.slice (some ⟨fg,0,none⟩) (bot.length+1) fc)) mp pp fg P { m with bot:=bot,top:=y } F hb fc rv oa oc os Fh:=by
 have k:za [mp] w (w.setCell ⟨mp,4,none⟩ (.slice (some ⟨fg,0,none⟩) (bot.length+1) fc)):=za.setCell _ _ _ _ (List.mem_singleton.2 rfl);have n:=h.rv_ne;have f:=h.frs;rw[e] at f;have f':=f.drop;rw[List.length_append] at f';refine ⟨heap_setCell_same w mp 4 _ _ _ h.box,f'.kept k (fun b hb hm=> ?_),zh h.rcs k (fun b hb hm=>n.2.1 (by rw[hb,List.mem_singleton.1 hm])),h.hp.kept k (fun x hx hm=>(h.off x hx).1 (List.mem_singleton.1 hm)),h.bar,h.mp_in,h.fg_in,h.rv_in,h.fh_in,h.off,h.prc,h.orc,qL h.sub (k.mono fun x hx=>by rw[List.mem_singleton.1 hx];exact h.mp_in) (ja.refl w F),h.ocap,fun x hx=>Nat.lt_of_lt_of_le (h.lt x hx) k.size⟩;simp[Value.ownBlock] at hb;rw[List.mem_singleton] at hm;exact n.1 (hm ▸ hb.symm)
theorem MaS.done(h:MaS W0 w mp pp fg P m F hb fc rv oa oc os Fh)(v:V3):MaS W0 (((w.setCell ⟨mp,8,none⟩ (int i64 v.1)).setCell ⟨mp,9,none⟩ (int i64 v.2.1)).setCell ⟨mp,10,none⟩ (.bool v.2.2)) mp pp fg P { m with res:=v } F hb fc rv oa oc os Fh:=
 h.bx (((za.setCell [mp] _ _ _ (List.mem_singleton.2 rfl)).step (za.setCell [mp] _ _ _ (List.mem_singleton.2 rfl))).step (za.setCell [mp] _ _ _ (List.mem_singleton.2 rfl))) (heap_setCell_same _ mp 10 _ _ _ (heap_setCell_same _ mp 9 _ _ _ (heap_setCell_same w mp 8 _ _ (int i64 v.1) h.box))) rfl rfl rfl rfl id h.ocap
structure zmf (P:Pr8) (y:Fr):Prop where
 pt:ZM P y.f y.b y.i
 ic:y.i<(y.blk P).code.length
 d0:0≤(y.ins P).dst
 d1:(y.ins P).dst<16
 ib:y.i<1000000
theorem zjr(w:World)(F:List Nat)(b:Nat)(u0 u1 u2:Value)(h:b∈F):za F w (((w.setCell ⟨b,8,none⟩ u0).setCell ⟨b,9,none⟩ u1).setCell ⟨b,10,none⟩ u2):=((za.setCell F _ _ _ h).step (za.setCell F _ _ _ h)).step (za.setCell F _ _ _ h)
theorem zdH(h:MaS W0 w mp pp fg P m F hb fc rv oa oc os Fh)(v:V3)(e:m.bot=[]):
  Calls Tryz.prog 132 #[pointer (some ⟨mp,0,none⟩),vlV v] w (OpP W0 w mp pp fg P F hb fc (Jf P m v)):=by
 have E:Box (Jf P m v=(4,{ m with res:=v })):=hid (by unfold Jf;rw[e];rfl);have ka:=za.alloc [] w (.cells #[int i64 v.1,int i64 v.2.1,.bool v.2.2] 39);have KA:=hid ka;have HN:=hid (ze w (.cells #[int i64 v.1,int i64 v.2.1,.bool v.2.2] 39));have H1:=hid (h.quiet ka);have c4:(w.alloc (.cells #[int i64 v.1,int i64 v.2.1,.bool v.2.2] 39)).cell? ⟨mp,4,none⟩=some (.slice (some ⟨fg,0,none⟩) 1 fc):=by
  have:=zc H1.o.box 4;rw[this];show some (Value.slice _ (m.bot.length+1) _)=_;rw[e];rfl
 have p8:=zc H1.o.box 8;have p9:=zc H1.o.box 9;have p10:=zc H1.o.box 10;have z8:=zg H1.o.box 8;have z9:=zg H1.o.box 9;have z10:=zg H1.o.box 10;have v0:=zc HN.o 0;have v1:=zc HN.o 1;have v2:=zc HN.o 2;clear h ka e;go_enter Tryz.func132,Tryz.ntmps132;go_upto_region 1 with fail;generalize w.alloc (.cells #[int i64 v.1,int i64 v.2.1,.bool v.2.2] 39)=w1 at *;go_wp2_with fail;go_ret;exact .of KA.o (H1.o.done v) (zjr w1 F mp _ _ _ H1.o.mp_in) (ja.refl _ _) E.o
theorem zft(h:MaS W0 w mp pp fg P m F hb fc rv oa oc os Fh)(v:V3){bot:List Fr}{y:Fr}(e:m.bot=bot ++ [y])(hbl:bot.length≤100)(ok:zmf P y):
  Calls Tryz.prog 132 #[pointer (some ⟨mp,0,none⟩),vlV v] w (OpP W0 w mp pp fg P F hb fc (Jf P m v)):=by
 have E:Box (Jf P m v=(0,{ m with bot:=bot,top:=(y.set (y.ins P).dst v).next })):=hid (by unfold Jf;rw[e];simp);have ka:=za.alloc [] w (.cells #[int i64 v.1,int i64 v.2.1,.bool v.2.2] 39);have KA:=hid ka;have HN:=hid (ze w (.cells #[int i64 v.1,int i64 v.2.1,.bool v.2.2] 39));have H1:=hid (h.quiet ka);have HD:=hid ((h.quiet ka).drop e);have c4:(w.alloc (.cells #[int i64 v.1,int i64 v.2.1,.bool v.2.2] 39)).cell? ⟨mp,4,none⟩=some (.slice (some ⟨fg,0,none⟩) (bot.length+1+1) fc):=by
  have:=zc H1.o.box 4;rw[this];show some (Value.slice _ (m.bot.length+1) _)=_;rw[e,List.length_append];rfl
 have z4:=zg H1.o.box 4;have hcap:((bot.length:Int)+1)≤(fc:Int):=by
  have:=(h.quiet ka).frs.own.2;rcases this with ⟨h',_⟩ | ⟨g',cap',cur,h',_,_,hn,_⟩
  ·simp at h'
  ·simp only[Value.slice.injEq] at h'
   rw[e] at hn;simp at hn;omega
 have hne1:(((bot.length:Int)+1+1) == 1)=false:=neb (by omega);have OK:=hid ok;have HF:=hid h.lt;clear h ka ok;go_enter Tryz.func132,Tryz.ntmps132;go_upto_region 1 with fail;generalize w.alloc (.cells #[int i64 v.1,int i64 v.2.1,.bool v.2.2] 39)=w1 at *;go_upto_region 4 with fail
 go_region
 have HD2:=hid (HD.o.quiet (za.drew [] _));have K2:Box (za [mp] w1 (w1.setCell ⟨mp,4,none⟩ (.slice (some ⟨fg,0,none⟩) (bot.length+1) fc)).drew):=hid ((za.setCell [mp] _ _ _ (List.mem_singleton.2 rfl)).quiet (za.drew [] _));have HNF:Box (w.heap.size ∉ F):=hid fun hm=>by
  have:=HF.o _ hm;omega
 generalize (w1.setCell ⟨mp,4,none⟩ (.slice (some ⟨fg,0,none⟩) (bot.length+1) fc)).drew=w2 at *;have KF2:=hid (K2.o.mono fun z hz=>by rw[List.mem_singleton.1 hz];exact H1.o.mp_in:za F w1 w2)
 have HV:=hid fun (w':World) (k:za F w1 w')=>(show (w'.cell? ⟨w.heap.size,0,none⟩=some (int i64 v.1)∧w'.cell? ⟨w.heap.size,1,none⟩=some (int i64 v.2.1)∧w'.cell? ⟨w.heap.size,2,none⟩=some (.bool v.2.2)) from
  have hb9:w'.heap[w.heap.size]? = _:=(k.block _ (zt HN.o) HNF.o).trans HN.o
  ⟨zc hb9 0,zc hb9 1,zc hb9 2⟩)
 clear c4 z4 hcap hne1 HD K2;go_wp2_with fail;refine (jY HD2.o hbl).mono ?_;rintro e3 w3 ⟨rfl,k3⟩;have H3:=hid (HD2.o.quiet k3);have K3:=hid (KF2.o.quiet k3);clear HD2 k3 KF2;go_upto_region 6 with fail;obtain ⟨a0,a1,a2⟩:=HV.o w3 K3.o;have a3:=H3.o.pt.2.2;have kd:za [] w3 w3.drew:=za.drew _ _;obtain ⟨bb,bo,bl,hbk⟩:=Qy H3.o OK.o.pt;have HBK:=hid hbk;obtain ⟨ca,cp,q0,q1,q2⟩:=bl.c0;obtain ⟨cb,co,hca,q3⟩:=q1.at (zfO OK.o.ic);subst hca;have HSB:=hid fun (w':World) (s:Sub W0 w')=>(show w'.cell? ⟨bb,bo,none⟩=some (.slice (some ⟨cb,co,none⟩) (y.blk P).code.length cp)∧w'.cell? ⟨cb,co+y.i * 6+1,none⟩=some (int i64 (y.ins P).dst) from ⟨s _ _ q0,s _ _ q3.c1.1⟩);obtain ⟨g0,g1⟩:=HSB.o _ H3.o.now;clear q0 q1 q2 q3 bl hbk;have HST:=hid fun (w':World) (k:za [] w3 w')=>qz (H3.o.quiet k) v OK.o.d0 OK.o.d1;have HPT:=hid fun (w':World) (k:za [] w3 w')=>(H3.o.quiet k).pt.2.2;have hiz:(y.i:Int)<((y.blk P).code.length:Int):=by have:=OK.o.ic;omega
 go_region_held3 (fun w'=>w'.cell? ⟨w.heap.size,0,none⟩=some (int i64 v.1)∧w'.cell? ⟨w.heap.size,1,none⟩=some (int i64 v.2.1)∧w'.cell? ⟨w.heap.size,2,none⟩=some (.bool v.2.2)∧w'.cell? ⟨fg,bot.length * 67+2,none⟩=some (int i64 (y.i:Int))∧w'.cell? ⟨bb,bo,none⟩=some (.slice (some ⟨cb,co,none⟩) (y.blk P).code.length cp)∧w'.cell? ⟨cb,co+y.i * 6+1,none⟩=some (int i64 (y.ins P).dst)) (go_keep) (first
  | (go_at_call 83;refine (HBK.o _ kd).mono ?_;rintro e5 w5 ⟨rfl,k5⟩;have kk5:=kd.quiet k5;obtain ⟨g50,g51⟩:=HSB.o _ (H3.o.quiet kk5).now;obtain ⟨f50,f51,f52⟩:=HV.o _ (K3.o.quiet kk5);have f53:=HPT.o _ kk5;clear k5)
  | (go_at_call 136;refine (HST.o _ kk5).mono ?_;rintro e9 w9 ⟨rfl,m9,k9⟩;have M9:=hid m9;have K9:=((K3.o.quiet kk5).step (k9.mono (fun z hz=>by rw[List.mem_singleton.1 hz];exact H3.o.fg_in):za F _ w9));obtain ⟨f90,f91,f92⟩:=HV.o _ K9;obtain ⟨g90,g91⟩:=HSB.o _ m9.now;have f93:w9.cell? ⟨fg,bot.length * 67+2,none⟩=some (int i64 (y.i:Int)):=m9.pt.2.2;clear m9 k9))
 all_goals
  have d2:w9.cell? ⟨fg,bot.length * 67+2,none⟩=some (int i64 (y.i:Int)):=M9.o.pt.2.2;have zz:=M9.o.frs.thaw (bot.length * 67+2);have hib:=OK.o.ib;have hiw:((y.i:Int)+1)<9223372036854775808:=by omega
  have hin:=hid hib;clear hib;go_wp2_with fail;go_ret;exact .of KA.o M9.o.next (K9.step (za.setCell F _ _ _ M9.o.fg_in)) (ja.refl _ _) E.o
end
structure zld (P:Pr8) (m:Ma) (b:Bl8):Prop where
 fin:b.fin=1∨b.fin=2∨b.fin=3
 reg:b.fin≠1→0≤b.reg∧b.reg<16
 to1:b.fin≠3→0≤b.to
 els:b.fin=2→0≤b.els
 bk:b.fin=3→m.bot.length≤100∧∀ y,m.bot.getLast? = some y→zmf P y
section
variable {W0 w w':World}{mp pp fg:Nat}{P:Pr8}{m:Ma}{F:List Nat}{hb fc:Nat}{rv:Value}{oa:Option Addr}{oc:Nat}{os:List Ob}{Fh:List Nat}
theorem zga(h:MaS W0 w mp pp fg P m F hb fc rv oa oc os Fh)(v:V3)(ok:m.bot.length≤100∧∀ y,m.bot.getLast? = some y→zmf P y):
  Calls Tryz.prog 132 #[pointer (some ⟨mp,0,none⟩),vlV v] w (OpP W0 w mp pp fg P F hb fc (Jf P m v)):=by
 rcases List.eq_nil_or_concat m.bot with e | ⟨bot,y,e⟩
 ·exact zdH h v e
 ·rw[List.concat_eq_append] at e
  have hl:=ok.1;rw[e] at ok hl;simp at hl;exact zft h v e (by omega) (ok.2 y (by simp))
theorem zlj(h:MaS W0 w mp pp fg P m F hb fc rv oa oc os Fh){bb bo:Nat}{b:Bl8}(bl:BlC W0 bb bo b)(hf:b.fin=3)(ok:zld P m b):
  Calls Tryz.prog 84 #[pointer (some ⟨mp,0,none⟩),pointer (some ⟨fg,m.bot.length * 67,none⟩),pointer (some ⟨bb,bo,none⟩)] w (OpP W0 w mp pp fg P F hb fc (zcn P m b)):=by
 have E:Box (zcn P m b=Jf P m (m.top.get b.reg)):=hid (if_pos hf);have s:=h.now;have c1:=s _ _ bl.c1.1;have c2:=s _ _ bl.c2.1;have c3:=s _ _ bl.c3.1;have q3:(b.fin == 3)=true:=eqb hf;obtain ⟨r0,r1⟩:=ok.reg (by omega);have HG:=hid (qc h r0 r1);have H:=hid h;have HB:=hid (ok.bk hf);clear h hf ok s r0 r1 bl;go_enter Tryz.func84,Tryz.ntmps84;go_wp2_with fail;refine HG.o.mono ?_;rintro e w2 ⟨rfl,k2⟩;have M2:=hid (H.o.quiet k2);have K2:=hid k2;clear HG k2;go_wp2_with fail;refine (zga M2.o _ HB.o).mono ?_;rintro e w3 ⟨rfl,F3,rv3,oa3,oc3,os3,Fh3,m3,k3,n3⟩;have M3:=hid m3;have K3:=hid k3;have N3:=hid n3;clear m3 k3 n3;rw[← E.o] at *;generalize zcn P m b=r at *;obtain ⟨y,m'⟩:=r;go_wp2_with fail;go_ret;exact .of K2.o M3.o K3.o N3.o rfl
theorem zlc(h:MaS W0 w mp pp fg P m F hb fc rv oa oc os Fh){bb bo:Nat}{b:Bl8}(bl:BlC W0 bb bo b)(hf:b.fin=2)(ok:zld P m b):
  Calls Tryz.prog 84 #[pointer (some ⟨mp,0,none⟩),pointer (some ⟨fg,m.bot.length * 67,none⟩),pointer (some ⟨bb,bo,none⟩)] w (OpP W0 w mp pp fg P F hb fc (zcn P m b)):=by
 have s:=h.now;have c1:=s _ _ bl.c1.1;have c2:=s _ _ bl.c2.1;have c3:=s _ _ bl.c3.1;have HSB:=hid fun (w':World) (s:Sub W0 w')=>s _ _ bl.c4.1;have q3:(b.fin == 3)=false:=neb (by omega);have q2:(b.fin == 2)=true:=eqb hf;obtain ⟨r0,r1⟩:=ok.reg (by omega);obtain ⟨t,ht⟩:∃ t:Nat,b.to=(t:Int):=⟨b.to.toNat,by have:=ok.to1 (by omega);omega⟩;obtain ⟨u,hu⟩:∃ u:Nat,b.els=(u:Int):=⟨b.els.toNat,by have:=ok.els hf;omega⟩
 have E:Box (zcn P m b=(0,{ m with top:=m.top.go (if (m.top.get b.reg).2.1=0 then u else t) })):=hid (by
  unfold zcn;rw[if_neg (by omega)];by_cases h0:(m.top.get b.reg).2.1=0
  ·rw[if_pos ⟨hf,h0⟩,if_pos h0,hu];rfl
  ·rw[if_neg (fun e=>h0 e.2),if_neg h0,ht];rfl)
 rw[ht] at c3;rw[hu] at HSB;have HG:=hid (qc h r0 r1);have H:=hid h;clear h hf ok s r0 r1 bl ht hu;generalize m.top.get b.reg=va at *;obtain ⟨vk,vn,vt⟩:=va;have hfl:∀ w':World,(Instr.field 39 (vlV (vk,vn,vt)) 1).run Tryz.prog w'=.ok (int i64 vn) w':=fun w'=>by kernel_rfl
 go_enter Tryz.func84,Tryz.ntmps84;go_wp2_with fail;refine HG.o.mono ?_;rintro e w2 ⟨rfl,k2⟩;have M2:=hid (H.o.quiet k2);have K2:=hid k2;clear HG k2;have d4:=HSB.o _ M2.o.now;obtain ⟨p0,p1,p2⟩:=M2.o.pt;have z0:=M2.o.frs.thaw (m.bot.length * 67);have z1:=M2.o.frs.thaw (m.bot.length * 67+1);have z2:=M2.o.frs.thaw (m.bot.length * 67+2);have KG:=hid fun (x y z:Value)=>(((za.setCell F w2 ⟨fg,m.bot.length * 67+0,none⟩ x M2.o.fg_in).step (za.setCell F _ ⟨fg,m.bot.length * 67+1,none⟩ y M2.o.fg_in)).step (za.setCell F _ ⟨fg,m.bot.length * 67+2,none⟩ z M2.o.fg_in));by_cases h0:vn=0
 ·have qn:(vn == 0)=true:=eqb h0
  rw[show (if (vk,vn,vt).2.1=0 then u else t)=u from if_pos h0] at E;clear h0;go_wp2_with fail;go_ret;exact .of K2.o (M2.o.go u) (KG.o _ _ _) (ja.refl _ _) E.o
 ·have qn:(vn == 0)=false:=neb h0
  rw[show (if (vk,vn,vt).2.1=0 then u else t)=t from if_neg h0] at E;clear h0;go_wp2_with fail;go_ret;exact .of K2.o (M2.o.go t) (KG.o _ _ _) (ja.refl _ _) E.o
theorem zlG(h:MaS W0 w mp pp fg P m F hb fc rv oa oc os Fh){bb bo:Nat}{b:Bl8}(bl:BlC W0 bb bo b)(hf:b.fin=1)(ok:zld P m b):
  Calls Tryz.prog 84 #[pointer (some ⟨mp,0,none⟩),pointer (some ⟨fg,m.bot.length * 67,none⟩),pointer (some ⟨bb,bo,none⟩)] w (OpP W0 w mp pp fg P F hb fc (zcn P m b)):=by
 have s:=h.now;have c1:=s _ _ bl.c1.1;have c3:=s _ _ bl.c3.1;have q3:(b.fin == 3)=false:=neb (by omega);have q2:(b.fin == 2)=false:=neb (by omega);obtain ⟨t,ht⟩:∃ t:Nat,b.to=(t:Int):=⟨b.to.toNat,by have:=ok.to1 (by omega);omega⟩
 have E:Box (zcn P m b=(0,{ m with top:=m.top.go t })):=hid (by
  unfold zcn;rw[if_neg (by omega),if_neg (fun e=>by omega),ht]
  rfl)
 rw[ht] at c3;have M2:=hid h;obtain ⟨p0,p1,p2⟩:=M2.o.pt;have z0:=M2.o.frs.thaw (m.bot.length * 67);have z1:=M2.o.frs.thaw (m.bot.length * 67+1);have z2:=M2.o.frs.thaw (m.bot.length * 67+2);have KG:=hid fun (x y z:Value)=>(((za.setCell F w ⟨fg,m.bot.length * 67+0,none⟩ x M2.o.fg_in).step (za.setCell F _ ⟨fg,m.bot.length * 67+1,none⟩ y M2.o.fg_in)).step (za.setCell F _ ⟨fg,m.bot.length * 67+2,none⟩ z M2.o.fg_in));clear h hf ok s bl ht;go_enter Tryz.func84,Tryz.ntmps84;go_wp2_with fail;go_ret;exact .of (za.refl _ _) (M2.o.go t) (KG.o _ _ _) (ja.refl _ _) E.o
theorem zhb(h:MaS W0 w mp pp fg P m F hb fc rv oa oc os Fh){bb bo:Nat}{b:Bl8}(bl:BlC W0 bb bo b)(ok:zld P m b):
  Calls Tryz.prog 84 #[pointer (some ⟨mp,0,none⟩),pointer (some ⟨fg,m.bot.length * 67,none⟩),pointer (some ⟨bb,bo,none⟩)] w (OpP W0 w mp pp fg P F hb fc (zcn P m b)):=by
 rcases ok.fin with e | e | e
 ·exact zlG h bl e ok
 ·exact zlc h bl e ok
 ·exact zlj h bl e ok
end
end Go.Proofs.YtgmbkiagdhjpnaaGreatDoor
