import Derived.Test.YthflgjkmbakedaaGreatDoorRows
import Derived.Test.YthflgjkmbakedaaGreatDoorL06
set_option maxRecDepth 100000
set_option maxHeartbeats 8000000
namespace Go.Proofs.YthflgjkmbakedaaGreatDoor
open Go.Value (int pointer agg)
open Go.IntKind (i64)
open Go.RowKit
def Mach(w:World)(mp:Nat)(P:Pr8)(m:Ma)(F:List Nat):Prop:=∃ W0 qq fg hb fc rv oa oc os Fh,MaS W0 w mp qq fg (runP P) m F hb fc rv oa oc os Fh
theorem Mach.quiet{w w':World}{mp:Nat}{P:Pr8}{m:Ma}{F:List Nat}(h:Mach w mp P m F)(k:zc [] w w'):Mach w' mp P m F:=by
 obtain ⟨W0,qq,fg,hb,fc,rv,oa,oc,os,Fh,h⟩:=h;exact ⟨W0,qq,fg,hb,fc,rv,oa,oc,os,Fh,h.quiet k⟩
theorem zc.step9{w w' w'':World}{F:List Nat}(k:zc [] w w')(k':zc F w' w'')(h:∀ x,x∈F→w.heap.size≤x):zc [] w w'':=k.trans k' fun x hx hl=>by
 have:=h x hx;omega
theorem znR.up9{w w':World}{F F':List Nat}(n:znR w' F F')(k:zc [] w w')(h:∀ x,x∈F→w.heap.size≤x):∀ x,x∈F'→w.heap.size≤x:=fun x hx=>(n x hx).elim (h x) (Nat.le_trans k.size)
theorem j3z{P:Pr8}(h:Sm8 P):Sm8 (runP P):=⟨h.fn,h.bk,h.pt⟩
theorem j30{w:World}{pp:Nat}{P:Pr8}{a:Option Addr}{cp:Nat}{l:List Int}(h:PrC w pp 0 P)(hg:zeP w)(hT:Ze w)(ok:wfO P=none)(ho:z7 w 1 ji a l)(hl:l.length≤1000000):
  Calls Tryz.prog 14 #[pointer (some ⟨pp,0,none⟩),.slice a l.length cp] w fun e w'=>∃ mp F,e=.returned (pointer (some ⟨mp,0,none⟩))∧Mach w' mp P (ma0 P l) F∧zc [] w w'∧∀ x,x∈F→w.heap.size≤x:=by
 have W:=zfy ok;have hm:=zt.1 W.main;have S:=W.short;refine (j3v h hg hT ok ho hl P.main.toNat (by omega) S.h1 S.h2 S.h3 S.r1 S.r2 S.r3).mono ?_;rintro e w' ⟨W0,mp,qq,fg,F,hb,oa,oc,Fh,h1,h2,h3,h4⟩;exact ⟨mp,F,h1,⟨_,_,_,_,_,_,_,_,_,_,h2⟩,h3,h4⟩
theorem j31(w:World)(hg:zeP w)(a:Option Addr)(n cp:Nat):Calls Tryz.prog 14 #[.pointer none,.slice a n cp] w fun e w'=>e=.returned (.pointer none)∧zc [] w w':=by
 have HW:=hid (j20 w hg);clear hg;go_enter Tryz.func14,Tryz.ntmps14;go_wp2_with fail;refine HW.o.mono ?_;rintro e w2 ⟨p,r,rfl, -, -, -,k2⟩;have K2:=hid k2;clear k2 HW;go_wp2_with fail;go_ret;exact ⟨rfl,K2.o⟩
section
variable {w:World}{mp:Nat}{P:Pr8}{m:Ma}{F:List Nat}
theorem j32(h:Mach w mp P m F):Calls Tryz.prog 19 #[pointer (some ⟨mp,0,none⟩)] w fun e w'=>e=.returned (int i64 ((m.bot.length:Int)+1))∧zc [] w w':=by
 obtain ⟨W0,qq,fg,hb,fc,rv,oa,oc,os,Fh,h⟩:=h;exact j3y h
theorem j33(h:Mach w mp P m F):Calls Tryz.prog 24 #[pointer (some ⟨mp,0,none⟩)] w fun e w'=>e=.returned (vlV m.res)∧zc [] w w':=by
 obtain ⟨W0,qq,fg,hb,fc,rv,oa,oc,os,Fh,h⟩:=h;exact j2t h
end
theorem j34(w:World)(r:Int):Calls Tryz.prog 16 #[.pointer none,int i64 r] w fun e w'=>e=.returned (.tuple #[vlV (0,0,false),.bool false])∧zc [] w w':=by
 go_enter Tryz.func16,Tryz.ntmps16;go_wp2_with fail;have KA:=hid (zc.alloc [] w (.cells #[int i64 0,int i64 0,.bool false] 30));have HN:=hid (zh w (.cells #[int i64 0,int i64 0,.bool false] 30));have HI:=hid (j06 (w.alloc (.cells #[int i64 0,int i64 0,.bool false] 30)));generalize w.alloc (.cells #[int i64 0,int i64 0,.bool false] 30)=w1 at *;refine HI.o.mono ?_;rintro e w2 ⟨rfl,k2⟩;have K2:=hid (KA.o.quiet k2);have HN2:=hid (ze HN.o k2);have q0:=zd HN2.o 0;have q1:=zd HN2.o 1;have q2:=zd HN2.o 2;have z0:=zi HN2.o 0;have z1:=zi HN2.o 1;have z2:=zi HN2.o 2;clear k2;go_wp2_with fail
 exact bodyPost_ret (v:=.tuple #[vlV (0,0,false),.bool false]) (by
  have q:∀ (i:Nat),i<3→(((w2.setCell ⟨w.heap.size,0,none⟩ (int i64 0)).setCell ⟨w.heap.size,1,none⟩ (int i64 0)).setCell ⟨w.heap.size,2,none⟩ (.bool false)).cell? ⟨w.heap.size,i,none⟩=(#[int i64 0,int i64 0,.bool false]:Array Value)[i]? := fun i _=>zd (jZ HN2.o _ _ _) i
  simp[results,Tryz.results16,go_sem,q 0 (by omega),q 1 (by omega),q 2 (by omega),vlV]) rfl ⟨rfl,K2.o.trans (jc w2 _ _ _ _) (fun x hx hl=>by rw[List.mem_singleton.1 hx] at hl;omega)⟩
theorem zjL{P:Pr8}{q:Int × Int × Int × Int}(h:wfO P=some q):q.1≠0:=by
 unfold wfO at h;split at h
 ·obtain rfl:=Option.some.inj h
  decide
 ·split at h
  ·obtain rfl:=Option.some.inj h
   show (3:Int)≠0;decide
  ·split at h
   ·obtain rfl:=Option.some.inj h
    decide
   ·split at h
    ·obtain rfl:=Option.some.inj h
     show (4:Int)≠0;decide
    ·split at h
     ·obtain rfl:=Option.some.inj h
      show (6:Int)≠0;decide
     ·split at h
      ·obtain rfl:=Option.some.inj h
       show (5:Int)≠0;decide
      ·cases h
theorem j35{P:Pr8}(h:qJ P=false):wfO P=some (2, -1,0,0):=by
 unfold wfO;exact if_pos h
theorem zff(w:World):Calls Tryz.prog 13 #[.pointer none] w fun e w'=>e=.returned (.bool false)∧zc [] w w':=by
 go_enter Tryz.func13,Tryz.ntmps13;go_wp2_with fail;go_ret;exact ⟨rfl,zc.refl _ _⟩
theorem zeU{w:World}{pb po:Nat}{P:Pr8}(h:PrC w pb po P):Calls Tryz.prog 13 #[pointer (some ⟨pb,po,none⟩)] w fun e w'=>∃ s,e=.returned (.bool s)∧(s=true→qJ P=true∧SmE P∧wfO P=none)∧(qJ P=true→SmE P→wfO P=none→s=true)∧zc [] w w':=by
 have H:=hid h;have HB:=hid (zak h);clear h;go_enter Tryz.func13,Tryz.ntmps13;go_wp2_with fail;refine HB.o.mono ?_;rintro e w1 ⟨rfl,k1⟩;have K1:=hid k1;clear k1 HB;cases hb:qJ P with
 | false=>
  go_wp2_with fail;go_ret;exact ⟨false,rfl,(fun e=>absurd e (by decide)),(fun e=>by first | exact absurd e (by decide) | exact absurd (hb.symm.trans e) (by decide)),K1.o⟩
 | true=>
  go_wp2_with fail;refine (zcJ (PrC.stays _ _ _ _ _ K1.o H.o)).mono ?_;rintro e w2 ⟨s,rfl,rfl,s1,s2⟩;cases s with
  | false=>
   have NS:=hid s2;clear s1 s2;go_wp2_with fail;go_ret;exact ⟨false,rfl,(fun e=>absurd e (by decide)),(fun _ h=>absurd (NS.o h) (by decide)),K1.o⟩
  | true=>
   have SE:=hid (s1 rfl);clear s1 s2;go_wp2_with fail;refine (zel (PrC.stays _ _ _ _ _ K1.o H.o) (fun _=>SE.o.sm)).mono ?_;rintro e w3 ⟨rfl,k3⟩;have K3:=hid (K1.o.quiet k3);clear k3;cases ho:wfO P with
   | none=>
    simp only[Option.getD_none];go_wp2_with fail;go_ret;exact ⟨true,rfl,(fun _=>⟨by first | rfl | exact hb,SE.o,by first | rfl | exact ho⟩),(fun _ _ _=>rfl),K3.o.quiet (zc.alloc [] _ _)⟩
   | some q=>
    obtain ⟨y,f,b,i⟩:=q;have hy:(y == 0)=false:=by have:=zjL ho;simp at this;simp[this]
    simp only[Option.getD_some];go_wp2_with fail;go_ret;exact ⟨false,rfl,(fun e=>absurd e (by decide)),(fun _ _ e=>by first | cases e | exact absurd (ho.symm.trans e) (by simp)),K3.o.quiet (zc.alloc [] _ _)⟩
theorem x64{z:Int}(h: -100≤z∧z≤100):b64 z:=by unfold b64;omega
theorem ji.xof{w:World}{b o:Nat}{z:Int}(h:w.cell? ⟨b,o,none⟩=some (int i64 z))(hz: -100≤z∧z≤100):ji w b o z:=⟨h,x64 hz⟩
theorem j36{α:Type}{w:World}{c:Nat}{R:World→Nat→Nat→α→Prop}{b o:Nat}(hc:w.cell? ⟨b,o,none⟩=some (.slice none 0 0)):SlC c R w b o []:=
 ⟨_,0,hc,.inl rfl,Nat.le_refl _,by unfold maxLen;simp⟩
theorem zmV.sprc{w:World}{n:Nat}(h:zmV w n 0):PrC w (n+5) 0 (pr1 0):=by
 have i:InC w (n+2) 0 in1:=⟨ji.xof (zd h.h2 0) (by simp[in1]),ji.xof (zd h.h2 1) (by simp[in1]),ji.xof (zd h.h2 2) (by simp[in1]),ji.xof (zd h.h2 3) (by simp[in1]),ji.xof (zd h.h2 4) (by simp[in1]),j36 (zd h.h2 5)⟩;have b:BlC w (n+3) 0 (bl1 0):=⟨SlC.one (zd h.h3 0) i,ji.xof (zd h.h3 1) (by simp[bl1]),ji.xof (zd h.h3 2) (by simp[bl1]),ji.xof (zd h.h3 3) (by simp[bl1]),ji.xof (zd h.h3 4) (by simp[bl1])⟩;have t:TyC w (n+1) 0 (0,0):=⟨ji.xof (zd h.h1 0) (by simp),ji.xof (zd h.h1 1) (by simp)⟩;have f:FuC w (n+4) 0 (fu1 0):=⟨ji.xof (zd h.h4 0) (by simp[fu1]),SlC.one (zd h.h4 1) t,SlC.one (zd h.h4 2) b⟩;have s:SgC w n 0 ([],0,0):=⟨j36 (zd h.h0 0),ji.xof (zd h.h0 1) (by simp),ji.xof (zd h.h0 2) (by simp)⟩;exact ⟨j36 (zd h.h5 0),SlC.one (zd h.h5 1) s,j36 (zd h.h5 2),j36 (zd h.h5 3),SlC.one (zd h.h5 4) f,ji.xof (zd h.h5 5) (by simp[pr1])⟩
theorem j37:wfO (pr1 0)=none:=by decide +kernel
theorem j38:Sm8 (pr1 0):=⟨by decide,by decide,by decide⟩
theorem fld1(x y z:Value)(w:World):(Instr.field 30 (agg #[x,y,z]) 1).run Tryz.prog w=.ok y w:=by kernel_rfl
def mq0:Ma:=ma0 (pr1 0) []
def mq1:Ma:=(stepS (pr1 0) mq0).2
def mq2:Ma:=(stepS (pr1 0) mq1).2
def mq3:Ma:=(stepS (pr1 0) mq2).2
theorem mq_s:(stepS (pr1 0) mq0).1=0∧(stepS (pr1 0) mq1).1=4∧(stepS (pr1 0) mq2).1=4∧mq3.res=(0,7,false)∧zo1 (pr1 0) mq0.top.f mq0.top.b mq0.top.i=0∧mq0.bot.length=0:=by decide +kernel
section
variable {W0 w w':World}{mp pp fg:Nat}{P:Pr8}{m:Ma}{F:List Nat}{hb fc:Nat}{rv:Value}{oa:Option Addr}{oc:Nat}{os:List Ob}{Fh:List Nat}
theorem j39(h:MaS W0 w mp pp fg P m F hb fc rv oa oc os Fh){bb bo:Nat}{b:Bl8}(bl:BlC W0 bb bo b)(hf:b.fin=3)(ok:0≤b.reg∧b.reg<16)(bt:m.bot=[]):
  Calls Tryz.prog 95 #[pointer (some ⟨mp,0,none⟩),pointer (some ⟨fg,m.bot.length * 67,none⟩),pointer (some ⟨bb,bo,none⟩)] w (OpP W0 w mp pp fg P F hb fc (endS P m b)):=by
 have E:Box (endS P m b=zop P m (m.top.get b.reg)):=hid (if_pos hf);have s:=h.now;have c1:=s _ _ bl.c1.1;have c2:=s _ _ bl.c2.1;have c3:=s _ _ bl.c3.1;have q3:(b.fin == 3)=true:=eqb hf;obtain ⟨r0,r1⟩:=ok;have HG:=hid (j1b h r0 r1);have H:=hid h;have HB:=hid bt;clear h hf s r0 r1 bl bt;go_enter Tryz.func95,Tryz.ntmps95;go_wp2_with fail;refine HG.o.mono ?_;rintro e w2 ⟨rfl,k2⟩;have M2:=hid (H.o.quiet k2);have K2:=hid k2;clear HG k2;go_wp2_with fail;refine (j26 M2.o _ HB.o).mono ?_;rintro e w3 ⟨rfl,F3,rv3,oa3,oc3,os3,Fh3,m3,k3,n3⟩;have M3:=hid m3;have K3:=hid k3;have N3:=hid n3;clear m3 k3 n3;rw[← E.o] at *;generalize endS P m b=r at *;obtain ⟨y,m'⟩:=r;go_wp2_with fail;go_ret;exact .of K2.o M3.o K3.o N3.o rfl
theorem j4a(h:MaS W0 w mp pp fg P m F hb fc rv oa oc os Fh)(pt:Zh P m.top.f m.top.b m.top.i)(bt:m.bot=[])(f3:(m.top.blk P).fin=3)(rg:0≤(m.top.blk P).reg∧(m.top.blk P).reg<16)(hi:m.top.i=(m.top.blk P).code.length):
  Calls Tryz.prog 59 #[pointer (some ⟨mp,0,none⟩)] w (ClP W0 w mp pp P F hb (doS P m)):=by
 have E:Box (doS P m=endS P m (m.top.blk P)):=hid (if_pos hi);have HT:=hid (j1d h (by rw[bt];exact Nat.zero_le _));obtain ⟨bb,bo,bl,hbk⟩:=j1h h pt;have HB:=hid hbk;have BL:=hid bl;obtain ⟨ca,cp,q0,_⟩:=bl.c0;have Q0:=hid q0;have EN:=hid (And.intro f3 (And.intro rg bt));have H:=hid h;have hi9:Box (m.top.i=(m.top.blk P).code.length):=hid hi;clear h pt bt f3 rg bl hbk q0;go_enter Tryz.func59,Tryz.ntmps59;go_wp2_with fail;refine HT.o.mono ?_;rintro e1 w1 ⟨rfl,k1⟩;have K1:=hid k1;clear HT k1;go_wp2_with fail;refine (HB.o _ K1.o).mono ?_;rintro e2 w2 ⟨rfl,k2⟩;have K2:=hid (K1.o.quiet k2);have M2:=hid (H.o.quiet K2.o);have c0:=M2.o.now _ _ Q0.o;have p2:=M2.o.pt.2.2;rw[hi9.o] at p2;clear HB k2 K1 hi;go_upto_region 3 with fail;go_quiet (fail);have eqn:(((m.top.blk P).code.length:Int) == ((m.top.blk P).code.length:Int))=true:=by simp
 have M3:=hid (M2.o.quiet (zc.drewN [] w2 nq));have K3:=hid (K2.o.quiet (zc.drewN [] w2 nq));have HE:=hid (j39 M3.o BL.o EN.o.1 EN.o.2.1 EN.o.2.2);clear c0 p2;go_wp2_with fail;refine HE.o.mono ?_;rintro e3 w3 ⟨rfl,F3,rv3,oa3,oc3,os3,Fh3,m3,k3,n3⟩;have MX:=hid m3;have KX:=hid k3;have NX:=hid n3;clear m3 k3 n3 HE;rw[← E.o] at *;generalize doS P m=r at *;obtain ⟨y,m'⟩:=r;go_wp2_with fail;go_ret;exact (OpP.of K3.o MX.o KX.o NX.o rfl).cl
theorem j4b(h:MaS W0 w mp pp fg P m F hb fc rv oa oc os Fh)(pt:Zh P m.top.f m.top.b m.top.i)(bt:m.bot=[])(big:m.top.i≤1000000)(rgo:zo0 (m.top.ins P)∧(m.top.ins P).op=1)(hi:m.top.i≠(m.top.blk P).code.length)(hc:isCall (m.top.ins P)=false):
  Calls Tryz.prog 59 #[pointer (some ⟨mp,0,none⟩)] w (ClP W0 w mp pp P F hb (doS P m)):=by
 have E:Box (doS P m=if (zo5 P m (m.top.ins P)).1=0 then (0,{ (zo5 P m (m.top.ins P)).2 with top:=(zo5 P m (m.top.ins P)).2.top.next }) else zo5 P m (m.top.ins P)):=hid (by unfold doS;rw[if_neg hi,if_neg (by rw[hc];simp)]);have HT:=hid (j1d h (by rw[bt];exact Nat.zero_le _));obtain ⟨bb,bo,bl,hbk⟩:=j1h h pt;have HB:=hid hbk;obtain ⟨ca,cp,q0,q1,_⟩:=bl.c0;have hlt:m.top.i<(m.top.blk P).code.length:=by have:=pt.2.2;unfold Fr.blk at *;omega
 have hltz:(m.top.i:Int)<((m.top.blk P).code.length:Int):=by omega
 obtain ⟨cb,co,hca,q2⟩:=q1.at (j1g hlt);subst hca;have q2':InC W0 cb (co+m.top.i * 6) (m.top.ins P):=q2;have hne:((m.top.i:Int) == ((m.top.blk P).code.length:Int))=false:=neb (by omega);have RG:=hid rgo;have BIG:=hid big;obtain ⟨q12,q13,q14⟩:=j3x hc;clear hc rgo;generalize m.top.ins P=x at *;obtain ⟨xa,xc,q3,q4,_⟩:=q2'.c5;have QQ:=hid fun (w':World) (s:Sub W0 w')=>(show w'.cell? ⟨bb,bo,none⟩=some (.slice (some ⟨cb,co,none⟩) (m.top.blk P).code.length cp)∧w'.cell? ⟨cb,co+m.top.i * 6,none⟩=some (int i64 x.op)∧w'.cell? ⟨cb,co+m.top.i * 6+1,none⟩=some (int i64 x.dst)∧w'.cell? ⟨cb,co+m.top.i * 6+2,none⟩=some (int i64 x.a)∧w'.cell? ⟨cb,co+m.top.i * 6+3,none⟩=some (int i64 x.b)∧w'.cell? ⟨cb,co+m.top.i * 6+4,none⟩=some (int i64 x.n)∧w'.cell? ⟨cb,co+m.top.i * 6+5,none⟩=some (.slice xa x.args.length xc) from ⟨s _ _ q0,s _ _ q2'.c0.1,s _ _ q2'.c1.1,s _ _ q2'.c2.1,s _ _ q2'.c3.1,s _ _ q2'.c4.1,s _ _ q3⟩);have QA:=hid fun (w':World) (s:Sub W0 w')=>jL (q4.sub ji.sub s);have H:=hid h;clear h pt bt big bl hbk q0 q1 q2 q2' q3 q4 hi hlt;generalize (m.top.blk P).code.length=L at *;go_enter Tryz.func59,Tryz.ntmps59;go_wp2_with fail;refine HT.o.mono ?_;rintro e1 w1 ⟨rfl,k1⟩;have K1:=hid k1;clear HT k1;go_wp2_with fail;refine (HB.o _ K1.o).mono ?_;rintro e2 w2 ⟨rfl,k2⟩;have K2:=hid (K1.o.quiet k2);have M2:=hid (H.o.quiet K2.o);obtain ⟨c0,d0,d1,d2,d3,d4,d5⟩:=QQ.o _ M2.o.now;have p2:=M2.o.pt.2.2;clear HB k2 K1;go_upto_region 3 with fail;go_quiet (fail);have M3:=hid (M2.o.quiet (zc.drewN [] w2 nq));have K3:=hid (K2.o.quiet (zc.drewN [] w2 nq));clear c0 p2 d0 d1 d2 d3 d4 d5 M2;generalize w2.drewN nq=w3 at *;obtain ⟨c0,d0,d1,d2,d3,d4,d5⟩:=QQ.o _ M3.o.now;have p2:=M3.o.pt.2.2;obtain ⟨g0,h0,h1,h2,h3,h4,h5⟩:=QQ.o _ (M3.o.quiet (zc.alloc [] w3 (.cells #[int i64 0,int i64 0,int i64 0,int i64 0,int i64 0,.slice none 0 0] 54))).now;have r2:=(M3.o.quiet (zc.alloc [] w3 (.cells #[int i64 0,int i64 0,int i64 0,int i64 0,int i64 0,.slice none 0 0] 54))).pt.2.2;go_upto_region 5 with fail
 go_region
 have KB:=(zc.alloc [] w3 (.cells #[int i64 x.op,int i64 x.dst,int i64 x.a,int i64 x.b,int i64 x.n,.slice xa x.args.length xc] 54)).quiet (zc.drew [] _);have M4:=hid (M3.o.quiet KB);have K4:=hid (K3.o.quiet KB);have hn4:(w3.alloc (.cells #[int i64 x.op,int i64 x.dst,int i64 x.a,int i64 x.b,int i64 x.n,.slice xa x.args.length xc] 54)).drew.heap[w3.heap.size]? = _:=zh w3 (.cells #[int i64 x.op,int i64 x.dst,int i64 x.a,int i64 x.b,int i64 x.n,.slice xa x.args.length xc] 54);clear KB c0 d0 d1 d2 d3 d4 d5 p2 g0 h0 h1 h2 h3 h4 h5 r2;generalize (w3.alloc (.cells #[int i64 x.op,int i64 x.dst,int i64 x.a,int i64 x.b,int i64 x.n,.slice xa x.args.length xc] 54)).drew=w4 at *;have c0:=zd hn4 0;have c1:=zd hn4 1;have c2:=zd hn4 2;have c3:=zd hn4 3;have c4:=zd hn4 4;have c5:=zd hn4 5;have HC:=hid (j25 M4.o x (.slice xa x.args.length xc) RG.o.2 RG.o.1);clear hn4;go_wp2_with fail;refine HC.o.mono ?_;rintro e5 w5 ⟨rfl,F5,rv5,oa5,oc5,os5,Fh5,m5,k5,n5⟩;have MX:=hid m5;have KX:=hid k5;have NX:=hid n5;clear m5 k5 n5 HC c0 c1 c2 c3 c4 c5;have EI:=hid (j3w P m x);generalize zo5 P m x=r at *;obtain ⟨y,m'⟩:=r;by_cases hy:y=0
 ·have hy0:(y == 0)=true:=eqb hy
  rw[if_pos hy] at E;have HY0:=hid hy;clear hy;obtain ⟨e1,e2,e3,e4⟩:=EI.o;have e1:m'.bot=m.bot:=e1;have p0:w5.cell? ⟨fg,m.bot.length * 67+2,none⟩=some (int i64 (m.top.i:Int)):=by
   have:=MX.o.pt.2.2;rw[e1,show m'.top.i=m.top.i from e4] at this;exact this
  have z0:=MX.o.frs.thaw (m.bot.length * 67+2);have hbg:=BIG.o;have hb9:(m.top.i:Int)+1<9223372036854775808:=by omega
  have MN:Box (MaS W0 (w5.setCell ⟨fg,m.bot.length * 67+2,none⟩ (int i64 ((m.top.i:Int)+1))) mp pp fg P { m' with top:=m'.top.next } F5 hb fc rv5 oa5 oc5 os5 Fh5):=hid (by
   have n9:MaS W0 (w5.setCell ⟨fg,m'.bot.length * 67+2,none⟩ (int i64 ((m'.top.i+1:Nat):Int))) mp pp fg P { m' with top:=m'.top.next } F5 hb fc rv5 oa5 oc5 os5 Fh5:=MaS.next (m:=m') MX.o;rw[show m'.bot.length=m.bot.length by rw[e1],show m'.top.i=m.top.i from e4] at n9
   exact n9)
  clear hbg EI e1 e2 e3 e4 hne hltz;go_wp2_with fail;go_ret;exact (OpP.of K4.o MN.o (KX.o.next NX.o (zc.setCell F5 _ _ _ MX.o.fg_in)) NX.o (E.o.trans (by rw[HY0.o]))).cl
 ·have hy0:(y == 0)=false:=neb hy
  rw[if_neg hy] at E;clear hy EI;go_wp2_with fail;go_ret;exact (OpP.of K4.o MX.o KX.o NX.o E.o).cl
theorem j4c(h:MaS W0 w mp pp fg P m F hb fc rv oa oc os Fh)(ok:∀ w2,MaS W0 w2 mp pp fg P m.calm F hb fc rv oa oc os Fh→Calls Tryz.prog 59 #[pointer (some ⟨mp,0,none⟩)] w2 (ClP W0 w2 mp pp P F hb (doS P m.calm))):Calls Tryz.prog 17 #[pointer (some ⟨mp,0,none⟩)] w (ClP W0 w mp pp P F hb (stepS P m)):=by
 have HI:=hid (j05 (zd h.box 0));have H:=hid h;have OK:=hid ok;have E:Box (stepS P m=doS P m.calm):=hid rfl;clear h ok;go_enter Tryz.func17,Tryz.ntmps17;go_wp2_with fail;refine HI.o.mono ?_;rintro e1 w1 ⟨rfl,k1⟩;have M1:=hid (H.o.quiet k1);have K1:=hid k1;have p5:=zd M1.o.box 5;have p6:=zd M1.o.box 6;have p7:=zd M1.o.box 7;have z5:=zi M1.o.box 5;have z6:=zi M1.o.box 6;have z7:=zi M1.o.box 7;clear HI k1 H;go_wp2_with fail;have M2:=hid M1.o.calm;have K2:Box (zc F w1 (((w1.setCell ⟨mp,5,none⟩ (.bool false)).setCell ⟨mp,6,none⟩ (int i64 0)).setCell ⟨mp,7,none⟩ (.bool false))):=hid (((zc.setCell F _ _ _ M1.o.mp_in).step (zc.setCell F _ _ _ M1.o.mp_in)).step (zc.setCell F _ _ _ M1.o.mp_in));generalize ((w1.setCell ⟨mp,5,none⟩ (.bool false)).setCell ⟨mp,6,none⟩ (int i64 0)).setCell ⟨mp,7,none⟩ (.bool false)=w2 at *;clear p5 p6 p7 z5 z6 z7;refine (OK.o _ M2.o).mono ?_;rintro e5 w5 ⟨rfl,F5,fg5,fc5,rv5,oa5,oc5,os5,Fh5,m5,k5,n5⟩;have MX:=hid m5;have KX:=hid k5;have NX:=hid n5;clear m5 k5 n5;rw[← E.o] at *;generalize stepS P m=r at *;obtain ⟨y,m'⟩:=r;go_wp2_with fail;go_ret;exact ⟨rfl,F5,fg5,fc5,rv5,oa5,oc5,os5,Fh5,MX.o,(K1.o.up.step K2.o).step KX.o,fun z hz=>(NX.o z hz).imp id (Nat.le_trans (K1.o.up.step K2.o).size)⟩
end
theorem lq0:Zh (runP (pr1 0)) mq0.calm.top.f mq0.calm.top.b mq0.calm.top.i∧mq0.calm.bot=[]∧mq0.calm.top.i≤1000000∧(mq0.calm.top.ins (runP (pr1 0))).op=1∧mq0.calm.top.i≠(mq0.calm.top.blk (runP (pr1 0))).code.length∧isCall (mq0.calm.top.ins (runP (pr1 0)))=false:=⟨⟨by decide,by decide,by decide⟩,rfl,by decide,by decide,by decide,by decide⟩
theorem lr0:zo0 (mq0.calm.top.ins (runP (pr1 0))):=⟨by decide,by decide,by decide,by decide,by decide,by decide⟩
theorem lq1:Zh (runP (pr1 0)) mq1.calm.top.f mq1.calm.top.b mq1.calm.top.i∧mq1.calm.bot=[]∧(mq1.calm.top.blk (runP (pr1 0))).fin=3∧(0≤(mq1.calm.top.blk (runP (pr1 0))).reg∧(mq1.calm.top.blk (runP (pr1 0))).reg<16)∧mq1.calm.top.i=(mq1.calm.top.blk (runP (pr1 0))).code.length:=⟨⟨by decide,by decide,by decide⟩,by decide,by decide,by decide,by decide⟩
theorem lq2:Zh (runP (pr1 0)) mq2.calm.top.f mq2.calm.top.b mq2.calm.top.i∧mq2.calm.bot=[]∧(mq2.calm.top.blk (runP (pr1 0))).fin=3∧(0≤(mq2.calm.top.blk (runP (pr1 0))).reg∧(mq2.calm.top.blk (runP (pr1 0))).reg<16)∧mq2.calm.top.i=(mq2.calm.top.blk (runP (pr1 0))).code.length:=⟨⟨by decide,by decide,by decide⟩,by decide,by decide,by decide,by decide⟩
def LStep(w:World)(mp:Nat)(m:Ma)(F:List Nat):Prop:=Calls Tryz.prog 17 #[pointer (some ⟨mp,0,none⟩)] w fun e w'=>∃ F',e=.returned (int i64 (stepS (pr1 0) m).1)∧Mach w' mp (pr1 0) (stepS (pr1 0) m).2 F'∧zc F w w'∧znR w F F'
theorem j4d{w:World}{mp:Nat}{F:List Nat}(h:Mach w mp (pr1 0) mq0 F):LStep w mp mq0 F:=by
 obtain ⟨W0,qq,fg,hb,fc,rv,oa,oc,os,Fh,h⟩:=h;obtain ⟨a1,a2,a3,a4,a5,a6⟩:=lq0;refine (j4c h fun w2 h2=>j4b h2 a1 a2 a3 ⟨lr0,a4⟩ a5 a6).mono ?_;rintro e w' ⟨rfl,F',fg',fc',rv',oa',oc',os',Fh',h1,h2,h3⟩;exact ⟨F',rfl,⟨W0,qq,fg',hb,fc',rv',oa',oc',os',Fh',h1⟩,h2,h3⟩
theorem j4e{w:World}{mp:Nat}{F:List Nat}(h:Mach w mp (pr1 0) mq1 F):LStep w mp mq1 F:=by
 obtain ⟨W0,qq,fg,hb,fc,rv,oa,oc,os,Fh,h⟩:=h;obtain ⟨a1,a2,a3,a4,a5⟩:=lq1;refine (j4c h fun w2 h2=>j4a h2 a1 a2 a3 a4 a5).mono ?_;rintro e w' ⟨rfl,F',fg',fc',rv',oa',oc',os',Fh',h1,h2,h3⟩;exact ⟨F',rfl,⟨W0,qq,fg',hb,fc',rv',oa',oc',os',Fh',h1⟩,h2,h3⟩
theorem j4f{w:World}{mp:Nat}{F:List Nat}(h:Mach w mp (pr1 0) mq2 F):LStep w mp mq2 F:=by
 obtain ⟨W0,qq,fg,hb,fc,rv,oa,oc,os,Fh,h⟩:=h;obtain ⟨a1,a2,a3,a4,a5⟩:=lq2;refine (j4c h fun w2 h2=>j4a h2 a1 a2 a3 a4 a5).mono ?_;rintro e w' ⟨rfl,F',fg',fc',rv',oa',oc',os',Fh',h1,h2,h3⟩;exact ⟨F',rfl,⟨W0,qq,fg',hb,fc',rv',oa',oc',os',Fh',h1⟩,h2,h3⟩
theorem j4g{w:World}{mp:Nat}{F:List Nat}(h:Mach w mp (pr1 0) mq0 F):Calls Tryz.prog 18 #[pointer (some ⟨mp,0,none⟩)] w fun e w'=>e=.returned (int i64 (zo1 (pr1 0) mq0.top.f mq0.top.b mq0.top.i))∧zc [] w w':=by
 obtain ⟨W0,qq,fg,hb,fc,rv,oa,oc,os,Fh,h⟩:=h;exact j2u (P:=runP (pr1 0)) h (by decide) (j3z j38)
theorem j4h(w:World)(hg:zeP w)(hT:Ze w):Calls Tryz.prog 10 #[] w fun e w'=>e=.returned (.bool true)∧zc [] w w':=by
 have HG:=hid hg;have HT:=hid hT;obtain ⟨s1,s2,s3,s4,s5,s6⟩:=mq_s;clear hg hT;go_enter Tryz.func10,Tryz.ntmps10;go_wp2_with fail;refine (zk6 w).mono ?_;rintro e w1 ⟨rfl,o1,k1⟩;have O1:=hid o1;have K1:=hid k1;clear o1 k1;go_wp2_with fail;refine (j30 (a:=none) (cp:=0) (l:=[]) O1.o.sprc (HG.o.quiet K1.o) (HT.o.kept K1.o (by simp)) j37 (.inl rfl) (by simp)).mono ?_;rintro e w2 ⟨mp,F,rfl,m2,k2,n2⟩;have M2:Box (Mach w2 mp (pr1 0) mq0 F):=hid m2;have K2:=hid (K1.o.quiet k2);have N2:Box (∀ x,x∈F→w.heap.size≤x):=hid fun x hx=>Nat.le_trans K1.o.size (n2 x hx);clear m2 k2 n2;go_wp2_with fail;refine (j4g M2.o).mono ?_;rintro e w3 ⟨rfl,k3⟩;have M3:=hid (M2.o.quiet k3);have K3:=hid (K2.o.quiet k3);clear k3 M2;rw[s5];go_wp2_with fail;refine (j32 M3.o).mono ?_;rintro e w4 ⟨rfl,k4⟩;have M4:=hid (M3.o.quiet k4);have K4:=hid (K3.o.quiet k4);clear k4 M3;rw[s6];go_wp2_with fail;refine (j4d M4.o).mono ?_;rintro e w5 ⟨F5,rfl,m5,k5,n5⟩;have M5:Box (Mach w5 mp (pr1 0) mq1 F5):=hid m5;have K5:=hid (K4.o.step9 k5 N2.o);have N5:Box (∀ x,x∈F5→w.heap.size≤x):=hid (n5.up9 K4.o N2.o);clear m5 k5 n5 M4 N2;rw[s1];go_wp2_with fail;refine (j4e M5.o).mono ?_;rintro e w6 ⟨F6,rfl,m6,k6,n6⟩;have M6:Box (Mach w6 mp (pr1 0) mq2 F6):=hid m6;have K6:=hid (K5.o.step9 k6 N5.o);have N6:Box (∀ x,x∈F6→w.heap.size≤x):=hid (n6.up9 K5.o N5.o);clear m6 k6 n6 M5 N5;rw[s2];go_wp2_with fail;refine (j4f M6.o).mono ?_;rintro e w7 ⟨F7,rfl,m7,k7,n7⟩;have M7:Box (Mach w7 mp (pr1 0) mq3 F7):=hid m7;have K7:=hid (K6.o.step9 k7 N6.o);clear m7 k7 n7 M6 N6;rw[s3];go_wp2_with fail;refine (j33 M7.o).mono ?_;rintro e w8 ⟨rfl,k8⟩;have K8:=hid (K7.o.quiet k8);clear k8;have e8:vlV mq3.res=agg #[int i64 0,int i64 7,.bool false]:=by rw[s4,vlV]
 have f1:=fld1 (int i64 0) (int i64 7) (.bool false);rw[e8];go_wp2_with fail;go_ret;exact ⟨rfl,K8.o⟩
end Go.Proofs.YthflgjkmbakedaaGreatDoor
namespace Go.Proofs.YthflgjkmbakedaaGreatDoor
open Go.ChangeShapes Go.WideShapes Go.ChangeAt Go.RowKit
theorem j4i{H:Type}{P:Program}:Zw P (fun (_:TypeId) (_:DataW H)=>True):=⟨fun _ _ _=>trivial,fun _ _ _ _=>trivial,fun _ _=>trivial⟩
end Go.Proofs.YthflgjkmbakedaaGreatDoor
namespace Go.Proofs.YthflgjkmbakedaaGreatDoor
open Go.Value (int pointer agg)
open Go.IntKind (i64)
open Go.RowKit
theorem j4j{w:World}{pp po:Nat}{P:Pr8}{q:Int × Int × Int × Int}(h:PrC w pp po P)(hg:zeP w)(hT:Ze w)(bad:wfO P=some q)(a:Option Addr)(n cp:Nat):Calls Tryz.prog 14 #[pointer (some ⟨pp,po,none⟩),.slice a n cp] w fun e w'=>e=.returned (.pointer none)∧zc [] w w':=by
 have HW:=hid (zeF h hg hT);rw[bad] at HW;clear h hg hT bad;go_enter Tryz.func14,Tryz.ntmps14;go_wp2_with fail;refine HW.o.mono ?_;rintro e w2 ⟨p,r,rfl, -, -, -,k2⟩;have K2:=hid k2;clear k2 HW;go_wp2_with fail;go_ret;exact ⟨rfl,K2.o⟩
theorem j4k{w:World}(a:Option Addr)(cap n:Nat)(hc:n≤cap):Calls Tryz.prog 15 #[.slice a n cap] w fun e w'=>(∃ n',e=.returned (.slice a n' cap))∧zc [] w w':=by
 by_cases h:30<n
 ·have h1:(30:Int)<(n:Int):=by omega
  have h2:(30:Int)≤(cap:Int):=by omega
  go_enter Tryz.func15,Tryz.ntmps15;go_wp2_with fail;go_ret;exact ⟨⟨_,rfl⟩,zc.refl _ _⟩
 ·have h1:¬ (30:Int)<(n:Int):=by omega
  go_enter Tryz.func15,Tryz.ntmps15;go_wp2_with fail;go_ret;exact ⟨⟨_,rfl⟩,zc.refl _ _⟩
theorem j4l(w:World)(hg:zeP w)(hT:Ze w)(a:Option Addr)(n cp:Nat)(hc:n≤cp):Calls Tryz.prog 3 #[.pointer none,.slice a n cp] w fun e w'=>e=.returned (.bool true)∧zc [] w w':=by
 have HG:=hid hg;have HT:=hid hT;have HC:=hid fun (w':World)=>j4k (w:=w') a cp n hc;clear hg hT hc;go_enter Tryz.func3,Tryz.ntmps3;go_wp2_with fail;refine (j4h w HG.o HT.o).mono ?_;rintro e w1 ⟨rfl,k1⟩;have K1:=hid k1;clear k1;go_wp2_with fail;refine (zff w1).mono ?_;rintro e w2 ⟨rfl,k2⟩;have K2:=hid (K1.o.quiet k2);clear k2;go_wp2_with fail;refine (HC.o w2).mono ?_;rintro e w3 ⟨⟨n',rfl⟩,k3⟩;have K3:=hid (K2.o.quiet k3);clear k3;go_wp2_with fail;refine (j31 w3 (HG.o.quiet K3.o) a n' cp).mono ?_;rintro e w4 ⟨rfl,k4⟩;have K4:=hid (K3.o.quiet k4);clear k4;go_wp2_with fail;refine (j34 w4 0).mono ?_;rintro e w5 ⟨rfl,k5⟩;have K5:=hid (K4.o.quiet k5);clear k5;go_wp2_with fail;have KA:=hid (K5.o.quiet (zc.alloc [] w5 (.cells #[int i64 0,int i64 0,.bool false] 30)));generalize w5.alloc (.cells #[int i64 0,int i64 0,.bool false] 30)=w55 at *;refine (j2w w55).mono ?_;rintro e w6 ⟨rfl,k6⟩;have K6:=hid (KA.o.quiet k6);clear k6;go_wp2_with fail;refine (j2v w6).mono ?_;rintro e w7 ⟨rfl,k7⟩;have K7:=hid (K6.o.quiet k7);clear k7;go_wp2_with fail;refine (j2x w7).mono ?_;rintro e w8 ⟨rfl,k8⟩;have K8:=hid (K7.o.quiet k8);clear k8;go_wp2_with fail;refine (j2y w8).mono ?_;rintro e w9 ⟨rfl,k9⟩;have K9:=hid (K8.o.quiet k9);clear k9;go_wp2_with fail;refine (j2z w9).mono ?_;rintro e w10 ⟨rfl,k10⟩;have K10:=hid (K9.o.quiet k10);clear k10;go_wp2_with fail;go_ret;exact ⟨rfl,K10.o⟩
theorem j4m{w:World}{pb po:Nat}{P:Pr8}(h:PrC w pb po P)(hg:zeP w)(hT:Ze w)(a:Option Addr)(n cp:Nat)(hc:n≤cp):Calls Tryz.prog 3 #[pointer (some ⟨pb,po,none⟩),.slice a n cp] w fun e w'=>e=.returned (.bool true)∧zc [] w w':=by
 have HP:=hid h;have HG:=hid hg;have HT:=hid hT;have HC:=hid fun (w':World)=>j4k (w:=w') a cp n hc;clear h hg hT hc;go_enter Tryz.func3,Tryz.ntmps3;go_wp2_with fail;refine (j4h w HG.o HT.o).mono ?_;rintro e w1 ⟨rfl,k1⟩;have K1:=hid k1;clear k1;go_wp2_with fail;refine (zak (PrC.stays _ _ _ _ _ K1.o HP.o)).mono ?_;rintro e wa ⟨rfl,ka⟩;have KB:=hid (K1.o.quiet ka);clear ka;cases hb:qJ P with
 | false=>
  have bad:Box (wfO P=some (2, -1,0,0)):=hid (j35 hb);go_wp2_with fail;refine (zeU (PrC.stays _ _ _ _ _ KB.o HP.o)).mono ?_;rintro e w2 ⟨s,rfl,s1, -,k2⟩;have K2:=hid (KB.o.quiet k2);clear k2;cases s with
  | true=>exact absurd (s1 rfl).1 (by simp[hb])
  | false=>
   clear s1;go_wp2_with fail;refine (HC.o w2).mono ?_;rintro e w3 ⟨⟨n',rfl⟩,k3⟩;have K3:=hid (K2.o.quiet k3);clear k3;go_wp2_with fail;refine (j4j (PrC.stays _ _ _ _ _ K3.o HP.o) (HG.o.quiet K3.o) (HT.o.kept K3.o (by simp)) bad.o a n' cp).mono ?_;rintro e w4 ⟨rfl,k4⟩;have K4:=hid (K3.o.quiet k4);clear k4;go_wp2_with fail;refine (j34 w4 0).mono ?_;rintro e w5 ⟨rfl,k5⟩;have K5:=hid (K4.o.quiet k5);clear k5;go_wp2_with fail;have KA:=hid (K5.o.quiet (zc.alloc [] w5 (.cells #[int i64 0,int i64 0,.bool false] 30)));generalize w5.alloc (.cells #[int i64 0,int i64 0,.bool false] 30)=w55 at *;refine (j2w w55).mono ?_;rintro e w6 ⟨rfl,k6⟩;have K6:=hid (KA.o.quiet k6);clear k6;go_wp2_with fail;refine (j2v w6).mono ?_;rintro e w7 ⟨rfl,k7⟩;have K7:=hid (K6.o.quiet k7);clear k7;go_wp2_with fail;refine (j2x w7).mono ?_;rintro e w8 ⟨rfl,k8⟩;have K8:=hid (K7.o.quiet k8);clear k8;go_wp2_with fail;refine (j2y w8).mono ?_;rintro e w9 ⟨rfl,k9⟩;have K9:=hid (K8.o.quiet k9);clear k9;go_wp2_with fail;refine (j2z w9).mono ?_;rintro e w10 ⟨rfl,k10⟩;have K10:=hid (K9.o.quiet k10);clear k10;go_wp2_with fail;go_ret;exact ⟨rfl,K10.o⟩
 | true=>
  go_wp2_with fail;refine (zcJ (PrC.stays _ _ _ _ _ KB.o HP.o)).mono ?_;rintro e wb ⟨s,rfl,rfl,s1,s2⟩;cases s with
  | false=>
   clear s1 s2;go_wp2_with fail;go_ret;exact ⟨rfl,KB.o⟩
  | true=>
   have SE:=hid (s1 rfl);clear s1 s2;go_wp2_with fail;refine (zeU (PrC.stays _ _ _ _ _ KB.o HP.o)).mono ?_;rintro e w2 ⟨s,rfl, -,s2,k2⟩;have K2:=hid (KB.o.quiet k2);clear k2;cases s with
   | true=>
    go_wp2_with fail;go_ret;exact ⟨rfl,K2.o⟩
   | false=>
    cases ho:wfO P with
    | none=>exact absurd (s2 hb SE.o ho) (by decide)
    | some q=>
     have bad:=hid ho;clear s2;go_wp2_with fail;refine (HC.o w2).mono ?_;rintro e w3 ⟨⟨n',rfl⟩,k3⟩;have K3:=hid (K2.o.quiet k3);clear k3;go_wp2_with fail;refine (j4j (PrC.stays _ _ _ _ _ K3.o HP.o) (HG.o.quiet K3.o) (HT.o.kept K3.o (by simp)) bad.o a n' cp).mono ?_;rintro e w4 ⟨rfl,k4⟩;have K4:=hid (K3.o.quiet k4);clear k4;go_wp2_with fail;refine (j34 w4 0).mono ?_;rintro e w5 ⟨rfl,k5⟩;have K5:=hid (K4.o.quiet k5);clear k5;go_wp2_with fail;have KA:=hid (K5.o.quiet (zc.alloc [] w5 (.cells #[int i64 0,int i64 0,.bool false] 30)));generalize w5.alloc (.cells #[int i64 0,int i64 0,.bool false] 30)=w55 at *;refine (j2w w55).mono ?_;rintro e w6 ⟨rfl,k6⟩;have K6:=hid (KA.o.quiet k6);clear k6;go_wp2_with fail;refine (j2v w6).mono ?_;rintro e w7 ⟨rfl,k7⟩;have K7:=hid (K6.o.quiet k7);clear k7;go_wp2_with fail;refine (j2x w7).mono ?_;rintro e w8 ⟨rfl,k8⟩;have K8:=hid (K7.o.quiet k8);clear k8;go_wp2_with fail;refine (j2y w8).mono ?_;rintro e w9 ⟨rfl,k9⟩;have K9:=hid (K8.o.quiet k9);clear k9;go_wp2_with fail;refine (j2z w9).mono ?_;rintro e w10 ⟨rfl,k10⟩;have K10:=hid (K9.o.quiet k10);clear k10;go_wp2_with fail;go_ret;exact ⟨rfl,K10.o⟩
theorem j4n(v:Value)(a:Option Addr)(cap:Nat)(l:List Int)(w:World)(hg:zeP w)(hT:Ze w)(hp:zfX 17592186044416 w v)(_:z7 w 1 ji a l)(hc:l.length≤cap)(_:l.length≤maxLen):Calls Tryz.prog 3 #[v,.slice a l.length cap] w fun e w'=>e=.returned (.bool true)∧zc [] w w':=by
 rcases hp with rfl | ⟨b,o,P,rfl,h,_⟩
 ·exact j4l w hg hT a _ cap hc
 ·exact j4m h hg hT a _ cap hc
end Go.Proofs.YthflgjkmbakedaaGreatDoor
namespace Go.Proofs.YthflgjkmbakedaaGreatDoor
open Go.ChangeShapes Go.WideShapes Go.ChangeAt Go.RowKit
theorem j4o{H:Type}{enc:TypeId × Value→H}{w:World}{spare:Nat→Bool}{held:Bool}{r:Reach}{b0:Nat}{v:Value}{d:DataW H}{p:List MemPlace}(hval:Value.okWide Tryz.prog w r b0 23 v)
  (h:∃ fuel,DataW.trod enc Tryz.prog w 0 spare held fuel 23 v.cells.toList=some (d,p)):∃ a cp l,v=.slice a l.length cp∧z7 w 1 ji a l∧l.length≤cp∧l.length≤maxLen:=by
 obtain ⟨a,len,cp,rfl⟩:=okWide_slice Tryz.underlying23 hval;obtain ⟨fuel,hf⟩:=h;have hc:Tryz.prog.cellsOf 2=1:=by kernel_rfl
 obtain ⟨a',cp',l,e,q1,q2,q3,_⟩:=zbS (G:=fun _ _=>True) j4i Tryz.underlying23 (by rw[hc];omega) (zgW Tryz.underlying2 (by kernel_rfl)) hf trivial;simp[Value.cells] at e;obtain ⟨rfl,rfl,rfl⟩:=e;rw[hc] at q1;exact ⟨a,cp,l,rfl,q1,q2,q3⟩
end Go.Proofs.YthflgjkmbakedaaGreatDoor
