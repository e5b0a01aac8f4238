import Derived.Test.YtgmbkiagdhjpnaaGreatDoorU38

namespace Go.Proofs.YtgmbkiagdhjpnaaGreatDoor
open Go.RowKit
open Go.Value (int pointer agg)
open Go.IntKind (i64)
set_option maxRecDepth 20000
set_option maxHeartbeats 4000000
variable {w:World}
theorem x64{z:Int}(h: -100≤z∧z≤100):b64 z:=by unfold b64;omega
theorem zI.xof{b o:Nat}{z:Int}(h:w.cell? ⟨b,o,none⟩=some (int i64 z))(hz: -100≤z∧z≤100):zI w b o z:=⟨h,x64 hz⟩
theorem SlC.xnone{α:Type}{c:Nat}{R:World→Nat→Nat→α→Prop}{b o:Nat}(hc:w.cell? ⟨b,o,none⟩=some (.slice none 0 0)):SlC c R w b o []:=
 ⟨_,0,hc,.inl rfl,Nat.le_refl _,by unfold maxLen;simp⟩
theorem zi1.prc{n:Nat}(h:zi1 w n 0):PrC w (n+5) 0 (pr1 0):=by
 have i:InC w (n+2) 0 in1:=⟨zI.xof (zc h.h2 0) (by simp[in1]),zI.xof (zc h.h2 1) (by simp[in1]),zI.xof (zc h.h2 2) (by simp[in1]),zI.xof (zc h.h2 3) (by simp[in1]),zI.xof (zc h.h2 4) (by simp[in1]),SlC.xnone (zc h.h2 5)⟩;have b:BlC w (n+3) 0 (bl1 0):=⟨SlC.one (zc h.h3 0) i,zI.xof (zc h.h3 1) (by simp[bl1]),zI.xof (zc h.h3 2) (by simp[bl1]),zI.xof (zc h.h3 3) (by simp[bl1]),zI.xof (zc h.h3 4) (by simp[bl1])⟩;have t:TyC w (n+1) 0 (0,0):=⟨zI.xof (zc h.h1 0) (by simp),zI.xof (zc h.h1 1) (by simp)⟩;have f:FuC w (n+4) 0 (fu1 0):=⟨zI.xof (zc h.h4 0) (by simp[fu1]),SlC.one (zc h.h4 1) t,SlC.one (zc h.h4 2) b⟩;have s:SgC w n 0 ([],0,0):=⟨SlC.xnone (zc h.h0 0),zI.xof (zc h.h0 1) (by simp),zI.xof (zc h.h0 2) (by simp)⟩;exact ⟨SlC.xnone (zc h.h5 0),SlC.one (zc h.h5 1) s,SlC.xnone (zc h.h5 2),SlC.xnone (zc h.h5 3),SlC.one (zc h.h5 4) f,zI.xof (zc h.h5 5) (by simp[pr1])⟩
theorem zhK:wfO (pr1 0)=none:=by decide +kernel
theorem zce:Sm8 (pr1 0):=⟨by decide,by decide,by decide⟩
theorem zno(x y z:Value)(w:World):(Instr.field 39 (agg #[x,y,z]) 1).run Tryz.prog w=.ok y w:=by kernel_rfl
theorem znu(x y z:Value)(w:World):(Instr.field 39 (agg #[x,y,z]) 2).run Tryz.prog w=.ok z w:=by kernel_rfl
def mq0:Ma:=ma0 (pr1 0) []
def mq1:Ma:=(zS (pr1 0) mq0).2
def mq2:Ma:=(zS (pr1 0) mq1).2
def mq3:Ma:=(zS (pr1 0) mq2).2
theorem znq:(zS (pr1 0) mq0).1=0∧(zS (pr1 0) mq1).1=4∧(zS (pr1 0) mq2).1=4∧mq3.res=(0,7,false)∧zhP (pr1 0) mq0.top.f mq0.top.b mq0.top.i=0∧mq0.bot.length=0:=by decide +kernel
theorem zbs(w:World)(hg:zbq w)(hT:jb w):Calls Tryz.prog 16 #[] w fun e w'=>e=.returned (.bool true)∧za [] w w':=by
 have W:=zfC zhK;have I0:Box (Inv (pr1 0) mq0):=hid (znb W []);have I1:Box (Inv (pr1 0) mq1):=hid (I0.o.step W);have I2:Box (Inv (pr1 0) mq2):=hid (I1.o.step W);have WB:=hid W;have HG:=hid hg;have HT:=hid hT;obtain ⟨s1,s2,s3,s4,s5,s6⟩:=znq;clear hg hT W;go_enter Tryz.func16,Tryz.ntmps16;go_wp2_with fail;refine (zjv w).mono ?_;rintro e w1 ⟨rfl,o1,k1⟩;have O1:=hid o1;have K1:=hid k1;clear o1 k1;go_wp2_with fail;refine (zcs (a:=none) (cp:=0) (l:=[]) O1.o.prc (HG.o.quiet K1.o) (HT.o.kept K1.o (by simp)) zhK (.inl rfl) (by simp)).mono ?_;rintro e w2 ⟨mp,F,rfl,m2,k2,n2⟩;have M2:Box (Q4 w2 mp (pr1 0) mq0 F):=hid m2;have K2:=hid (K1.o.quiet k2);have N2:Box (∀ x,x∈F→w.heap.size≤x):=hid fun x hx=>Nat.le_trans K1.o.size (n2 x hx);clear m2 k2 n2;go_wp2_with fail;refine (zj8 I0.o zce M2.o).mono ?_;rintro e w3 ⟨rfl,k3⟩;have M3:=hid (M2.o.quiet k3);have K3:=hid (K2.o.quiet k3);clear k3 M2;rw[s5];go_wp2_with fail;refine (zcS M3.o).mono ?_;rintro e w4 ⟨rfl,k4⟩;have M4:=hid (M3.o.quiet k4);have K4:=hid (K3.o.quiet k4);clear k4 M3;rw[s6];go_wp2_with fail;refine (Zu WB.o I0.o zce M4.o).mono ?_;rintro e w5 ⟨F5,rfl,m5,k5,n5⟩;have M5:Box (Q4 w5 mp (pr1 0) mq1 F5):=hid m5;have K5:=hid (K4.o.step9 k5 N2.o);have N5:Box (∀ x,x∈F5→w.heap.size≤x):=hid (n5.up9 K4.o N2.o);clear m5 k5 n5 M4 N2;rw[s1];go_wp2_with fail;refine (Zu WB.o I1.o zce M5.o).mono ?_;rintro e w6 ⟨F6,rfl,m6,k6,n6⟩;have M6:Box (Q4 w6 mp (pr1 0) mq2 F6):=hid m6;have K6:=hid (K5.o.step9 k6 N5.o);have N6:Box (∀ x,x∈F6→w.heap.size≤x):=hid (n6.up9 K5.o N5.o);clear m6 k6 n6 M5 N5;rw[s2];go_wp2_with fail;refine (Zu WB.o I2.o zce M6.o).mono ?_;rintro e w7 ⟨F7,rfl,m7,k7,n7⟩;have M7:Box (Q4 w7 mp (pr1 0) mq3 F7):=hid m7;have K7:=hid (K6.o.step9 k7 N6.o);clear m7 k7 n7 M6 N6;rw[s3];go_wp2_with fail;refine (zbx M7.o).mono ?_;rintro e w8 ⟨rfl,k8⟩;have K8:=hid (K7.o.quiet k8);clear k8;have e8:vlV mq3.res=agg #[int i64 0,int i64 7,.bool false]:=by rw[s4,vlV]
 have f1:=zno (int i64 0) (int i64 7) (.bool false);rw[e8];go_wp2_with fail;go_ret;exact ⟨rfl,K8.o⟩
end Go.Proofs.YtgmbkiagdhjpnaaGreatDoor
