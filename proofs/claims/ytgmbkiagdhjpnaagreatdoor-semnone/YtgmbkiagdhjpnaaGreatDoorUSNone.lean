/-
  SemNone: no machine.
-/
import Derived.Test.YtgmbkiagdhjpnaaGreatDoorU39
namespace Go.Proofs.YtgmbkiagdhjpnaaGreatDoor
open Go.RowKit
set_option maxRecDepth 20000 in
set_option maxHeartbeats 4000000 in
theorem zaH(w:World)(hg:zbq w)(hT:jb w):Calls Tryz.prog 7 #[] w fun e w'=>e=.returned (.bool true)∧za [] w w':=by
 have HG:=hid hg
 have HT:=hid hT
 clear hg hT
 go_enter Tryz.func7,Tryz.ntmps7
 go_wp2_with fail
 refine (ziE w 0).mono ?_
 rintro e w1 ⟨rfl,k1⟩
 have K1:=hid k1
 clear k1
 go_wp2_with fail
 have KA:=hid (K1.o.quiet (za.alloc [] w1 (.cells #[.int .i64 0,.int .i64 0,.bool false] 39)))
 generalize w1.alloc (.cells #[.int .i64 0,.int .i64 0,.bool false] 39)=w2 at *
 refine (zge w2 (HG.o.quiet KA.o) none 0 0).mono ?_
 rintro e w3 ⟨rfl,k3⟩
 have K3:=hid (KA.o.quiet k3)
 clear k3
 go_wp2_with fail
 refine (zbs w3 (HG.o.quiet K3.o) (HT.o.kept K3.o (by simp))).mono ?_
 rintro e w4 ⟨rfl,k4⟩
 have K4:=hid (K3.o.quiet k4)
 clear k4
 go_wp2_with fail
 refine (zbF w4).mono ?_
 rintro e w5 ⟨rfl,k5⟩
 have K5:=hid (K4.o.quiet k5)
 clear k5
 go_wp2_with fail
 refine (zlw w5).mono ?_
 rintro e w6 ⟨rfl,k6⟩
 have K6:=hid (K5.o.quiet k6)
 clear k6
 go_wp2_with fail
 refine (zdJ w6).mono ?_
 rintro e w7 ⟨rfl,k7⟩
 have K7:=hid (K6.o.quiet k7)
 clear k7
 go_wp2_with fail
 refine (zh7 w7).mono ?_
 rintro e w8 ⟨rfl,k8⟩
 have K8:=hid (K7.o.quiet k8)
 clear k8
 go_wp2_with fail
 refine (zh1 w8).mono ?_
 rintro e w9 ⟨rfl,k9⟩
 have K9:=hid (K8.o.quiet k9)
 clear k9
 go_wp2_with fail
 refine (zcQ w9).mono ?_
 rintro e w10 ⟨rfl,k10⟩
 have K10:=hid (K9.o.quiet k10)
 clear k10
 go_wp2_with fail
 refine (zgA w10).mono ?_
 rintro e w11 ⟨rfl,k11⟩
 have K11:=hid (K10.o.quiet k11)
 clear k11
 go_wp2_with fail
 refine (zbF w11).mono ?_
 rintro e w12 ⟨rfl,k12⟩
 have K12:=hid (K11.o.quiet k12)
 clear k12
 go_wp2_with fail
 go_ret
 exact ⟨rfl,K12.o⟩
end Go.Proofs.YtgmbkiagdhjpnaaGreatDoor
