import Derived.Test.YtgmbkiagdhjpnaaGreatDoorU10

namespace Go.Proofs.YtgmbkiagdhjpnaaGreatDoor
open Go.RowKit
open Go.Value (int pointer agg)
open Go.IntKind (i64)
set_option maxHeartbeats 4000000
def qE(R B:Nat)(fin reg tt els:Int):Bool:=
 if fin=1 then decide (reg=0) && (inB tt B && decide (els=0)) else if fin=2 then inB reg R && (inB tt B && inB els B) else if fin=3 then inB reg R && (decide (tt=0) && decide (els=0)) else false
theorem zmM(R B:Nat)(reg tt els:Int)(fb fo bb bo:Nat)(ba:Option Addr)(bp:Nat)(w:World)(h2:w.cell? ⟨fb,fo+2,none⟩=some (.slice ba B bp))(e1:w.cell? ⟨bb,bo+1,none⟩=some (int i64 1))(e2:w.cell? ⟨bb,bo+2,none⟩=some (int i64 reg))(e3:w.cell? ⟨bb,bo+3,none⟩=some (int i64 tt))(e4:w.cell? ⟨bb,bo+4,none⟩=some (int i64 els)):
  Calls Tryz.prog 170 #[pointer (some ⟨fb,fo,none⟩),pointer (some ⟨bb,bo,none⟩)] w fun e w'=>e=.returned (.bool (qE R B 1 reg tt els))∧za [] w w':=by
 by_cases hreg:reg=0
 case neg=>
  have greg:=neb hreg;have HE:Box (qE R B 1 reg tt els=false):=hid (by simp[qE,hreg]);clear hreg;generalize qE R B 1 reg tt els=res at *;go_enter Tryz.func170,Tryz.ntmps170;go_upto_region 3 with fail;go_quiet (fail);go_wp2_with fail;go_ret;exact ⟨by rw[HE.o];rfl,za.drewN _ _ _⟩
 have greg:=eqb hreg;by_cases htt:inB tt B=true
 case neg=>
  have htt:inB tt B=false:=by simpa using htt
  have Wtt:=hid fun (w:World)=>zp tt B w;rw[htt] at Wtt;have HE:Box (qE R B 1 reg tt els=false):=hid (by simp[qE,hreg,htt]);clear hreg htt;generalize qE R B 1 reg tt els=res at *;go_enter Tryz.func170,Tryz.ntmps170;go_upto_region 3 with fail;go_quiet ((go_at_call 113;first | with_reducible exact Calls.quiet_of_same (Wtt.o _)));go_wp2_with fail;go_ret;exact ⟨by rw[HE.o];rfl,za.drewN _ _ _⟩
 have Wtt:=hid fun (w:World)=>zp tt B w;rw[htt] at Wtt;by_cases hels:els=0
 case neg=>
  have gels:=neb hels;have HE:Box (qE R B 1 reg tt els=false):=hid (by simp[qE,hreg,htt,hels]);clear hreg htt hels;generalize qE R B 1 reg tt els=res at *;go_enter Tryz.func170,Tryz.ntmps170;go_upto_region 3 with fail;go_quiet ((go_at_call 113;first | with_reducible exact Calls.quiet_of_same (Wtt.o _)));go_wp2_with fail;go_ret;exact ⟨by rw[HE.o];rfl,za.drewN _ _ _⟩
 have gels:=eqb hels;have HE:Box (qE R B 1 reg tt els=true):=hid (by simp[qE,hreg,htt,hels]);clear hreg htt hels;generalize qE R B 1 reg tt els=res at *;go_enter Tryz.func170,Tryz.ntmps170;go_upto_region 3 with fail;go_quiet ((go_at_call 113;first | with_reducible exact Calls.quiet_of_same (Wtt.o _)));go_wp2_with fail;go_ret;exact ⟨by rw[HE.o];rfl,za.drewN _ _ _⟩
theorem zmv(R B:Nat)(reg tt els:Int)(fb fo bb bo:Nat)(ra ba:Option Addr)(rp bp:Nat)(w:World)(h1:w.cell? ⟨fb,fo+1,none⟩=some (.slice ra R rp))(h2:w.cell? ⟨fb,fo+2,none⟩=some (.slice ba B bp))(e1:w.cell? ⟨bb,bo+1,none⟩=some (int i64 2))(e2:w.cell? ⟨bb,bo+2,none⟩=some (int i64 reg))(e3:w.cell? ⟨bb,bo+3,none⟩=some (int i64 tt))(e4:w.cell? ⟨bb,bo+4,none⟩=some (int i64 els)):
  Calls Tryz.prog 170 #[pointer (some ⟨fb,fo,none⟩),pointer (some ⟨bb,bo,none⟩)] w fun e w'=>e=.returned (.bool (qE R B 2 reg tt els))∧za [] w w':=by
 by_cases hreg:inB reg R=true
 case neg=>
  have hreg:inB reg R=false:=by simpa using hreg
  have Wreg:=hid fun (w:World)=>zp reg R w;rw[hreg] at Wreg;have HE:Box (qE R B 2 reg tt els=false):=hid (by simp[qE,hreg]);clear hreg;generalize qE R B 2 reg tt els=res at *;go_enter Tryz.func170,Tryz.ntmps170;go_upto_region 5 with fail;go_quiet ((go_at_call 113;first | with_reducible exact Calls.quiet_of_same (Wreg.o _)));go_wp2_with fail;go_ret;exact ⟨by rw[HE.o];rfl,za.drewN _ _ _⟩
 have Wreg:=hid fun (w:World)=>zp reg R w;rw[hreg] at Wreg;by_cases htt:inB tt B=true
 case neg=>
  have htt:inB tt B=false:=by simpa using htt
  have Wtt:=hid fun (w:World)=>zp tt B w;rw[htt] at Wtt;have HE:Box (qE R B 2 reg tt els=false):=hid (by simp[qE,hreg,htt]);clear hreg htt;generalize qE R B 2 reg tt els=res at *;go_enter Tryz.func170,Tryz.ntmps170;go_upto_region 5 with fail;go_quiet ((go_at_call 113;first | with_reducible exact Calls.quiet_of_same (Wreg.o _) | with_reducible exact Calls.quiet_of_same (Wtt.o _)));go_wp2_with fail;go_ret;exact ⟨by rw[HE.o];rfl,za.drewN _ _ _⟩
 have Wtt:=hid fun (w:World)=>zp tt B w;rw[htt] at Wtt;by_cases hels:inB els B=true
 case neg=>
  have hels:inB els B=false:=by simpa using hels
  have Wels:=hid fun (w:World)=>zp els B w;rw[hels] at Wels;have HE:Box (qE R B 2 reg tt els=false):=hid (by simp[qE,hreg,htt,hels]);clear hreg htt hels;generalize qE R B 2 reg tt els=res at *;go_enter Tryz.func170,Tryz.ntmps170;go_upto_region 5 with fail;go_quiet ((go_at_call 113;first | with_reducible exact Calls.quiet_of_same (Wreg.o _) | with_reducible exact Calls.quiet_of_same (Wtt.o _) | with_reducible exact Calls.quiet_of_same (Wels.o _)));go_wp2_with fail;go_ret;exact ⟨by rw[HE.o];rfl,za.drewN _ _ _⟩
 have Wels:=hid fun (w:World)=>zp els B w;rw[hels] at Wels;have HE:Box (qE R B 2 reg tt els=true):=hid (by simp[qE,hreg,htt,hels]);clear hreg htt hels;generalize qE R B 2 reg tt els=res at *;go_enter Tryz.func170,Tryz.ntmps170;go_upto_region 5 with fail;go_quiet ((go_at_call 113;first | with_reducible exact Calls.quiet_of_same (Wreg.o _) | with_reducible exact Calls.quiet_of_same (Wtt.o _) | with_reducible exact Calls.quiet_of_same (Wels.o _)));go_wp2_with fail;go_ret;exact ⟨by rw[HE.o];rfl,za.drewN _ _ _⟩
theorem zm2(R B:Nat)(reg tt els:Int)(fb fo bb bo:Nat)(ra:Option Addr)(rp:Nat)(w:World)(h1:w.cell? ⟨fb,fo+1,none⟩=some (.slice ra R rp))(e1:w.cell? ⟨bb,bo+1,none⟩=some (int i64 3))(e2:w.cell? ⟨bb,bo+2,none⟩=some (int i64 reg))(e3:w.cell? ⟨bb,bo+3,none⟩=some (int i64 tt))(e4:w.cell? ⟨bb,bo+4,none⟩=some (int i64 els)):
  Calls Tryz.prog 170 #[pointer (some ⟨fb,fo,none⟩),pointer (some ⟨bb,bo,none⟩)] w fun e w'=>e=.returned (.bool (qE R B 3 reg tt els))∧za [] w w':=by
 by_cases hreg:inB reg R=true
 case neg=>
  have hreg:inB reg R=false:=by simpa using hreg
  have Wreg:=hid fun (w:World)=>zp reg R w;rw[hreg] at Wreg;have HE:Box (qE R B 3 reg tt els=false):=hid (by simp[qE,hreg]);clear hreg;generalize qE R B 3 reg tt els=res at *;go_enter Tryz.func170,Tryz.ntmps170;go_upto_region 7 with fail;go_quiet ((go_at_call 113;first | with_reducible exact Calls.quiet_of_same (Wreg.o _)));go_wp2_with fail;go_ret;exact ⟨by rw[HE.o];rfl,za.drewN _ _ _⟩
 have Wreg:=hid fun (w:World)=>zp reg R w;rw[hreg] at Wreg;by_cases htt:tt=0
 case neg=>
  have gtt:=neb htt;have HE:Box (qE R B 3 reg tt els=false):=hid (by simp[qE,hreg,htt]);clear hreg htt;generalize qE R B 3 reg tt els=res at *;go_enter Tryz.func170,Tryz.ntmps170;go_upto_region 7 with fail;go_quiet ((go_at_call 113;first | with_reducible exact Calls.quiet_of_same (Wreg.o _)));go_wp2_with fail;go_ret;exact ⟨by rw[HE.o];rfl,za.drewN _ _ _⟩
 have gtt:=eqb htt;by_cases hels:els=0
 case neg=>
  have gels:=neb hels;have HE:Box (qE R B 3 reg tt els=false):=hid (by simp[qE,hreg,htt,hels]);clear hreg htt hels;generalize qE R B 3 reg tt els=res at *;go_enter Tryz.func170,Tryz.ntmps170;go_upto_region 7 with fail;go_quiet ((go_at_call 113;first | with_reducible exact Calls.quiet_of_same (Wreg.o _)));go_wp2_with fail;go_ret;exact ⟨by rw[HE.o];rfl,za.drewN _ _ _⟩
 have gels:=eqb hels;have HE:Box (qE R B 3 reg tt els=true):=hid (by simp[qE,hreg,htt,hels]);clear hreg htt hels;generalize qE R B 3 reg tt els=res at *;go_enter Tryz.func170,Tryz.ntmps170;go_upto_region 7 with fail;go_quiet ((go_at_call 113;first | with_reducible exact Calls.quiet_of_same (Wreg.o _)));go_wp2_with fail;go_ret;exact ⟨by rw[HE.o];rfl,za.drewN _ _ _⟩
theorem zlI(R B:Nat)(fin reg tt els:Int)(fb fo bb bo:Nat)(w:World)(hf:¬ (1≤fin∧fin≤3))(e1:w.cell? ⟨bb,bo+1,none⟩=some (int i64 fin)):
  Calls Tryz.prog 170 #[pointer (some ⟨fb,fo,none⟩),pointer (some ⟨bb,bo,none⟩)] w fun e w'=>e=.returned (.bool (qE R B fin reg tt els))∧za [] w w':=by
 have HE:Box (qE R B fin reg tt els=false):=hid (by unfold qE;rw[if_neg (by omega),if_neg (by omega),if_neg (by omega)]);have o1:=neb (show fin≠1 by omega);have o2:=neb (show fin≠2 by omega);have o3:=neb (show fin≠3 by omega);clear hf;generalize qE R B fin reg tt els=res at *;go_enter Tryz.func170,Tryz.ntmps170;go_wp2_with fail;go_ret;exact ⟨by rw[HE.o];rfl,za.refl _ _⟩
theorem zi6{w:World}{fb fo bb bo:Nat}{x:Fu8}{y:Bl8}(h:FuC w fb fo x)(hb:BlC w bb bo y):Calls Tryz.prog 170 #[pointer (some ⟨fb,fo,none⟩),pointer (some ⟨bb,bo,none⟩)] w fun e w'=>e=.returned (.bool (qE x.regs.length x.blocks.length y.fin y.reg y.to y.els))∧za [] w w':=by
 obtain ⟨ra,rp,h1,_⟩:=h.c1;obtain ⟨ba,bp,h2,_⟩:=h.c2;have e1:=hb.c1.1;have e2:=hb.c2.1;have e3:=hb.c3.1;have e4:=hb.c4.1;by_cases hf:1≤y.fin∧y.fin≤3
 ·rcases (show y.fin=1∨y.fin=2∨y.fin=3 by omega) with e | e | e
  all_goals rw[e] at e1 ⊢
  ·exact zmM _ _ _ _ _ fb fo bb bo ba bp w h2 e1 e2 e3 e4
  ·exact zmv _ _ _ _ _ fb fo bb bo ra ba rp bp w h1 h2 e1 e2 e3 e4
  ·exact zm2 _ _ _ _ _ fb fo bb bo ra rp w h1 e1 e2 e3 e4
 ·exact zlI _ _ _ _ _ _ fb fo bb bo w hf e1
end Go.Proofs.YtgmbkiagdhjpnaaGreatDoor
