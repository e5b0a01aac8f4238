import Derived.Test.YtgmbkiagdhjpnaaGreatDoorU06
import Derived.Test.YtgmbkiagdhjpnaaGreatDoorU07

namespace Go.Proofs.YtgmbkiagdhjpnaaGreatDoor
open Go.RowKit
open Go.Value (int pointer agg)
open Go.IntKind (i64)
set_option maxHeartbeats 4000000
set_option maxRecDepth 20000
variable {k n p:Nat}{w wr wy:World}
def zao(o:Int):Bool:=decide ((1≤o∧o≤7)∨(10≤o∧o≤14))
def QI(o:Int):Bool:=decide (o=2∨(6≤o∧o≤9)∨o=11∨(13≤o∧o≤15))
def QZ(o:Int):Bool:=decide (o=2∨o=8)
def zba(o:Int):Bool:=decide (o=1∨o=7∨o=8∨o=10∨o=12∨o=14)
def zbc(o:Int):Bool:=decide (12≤o∧o≤14)
def zy(x:In8):Bool:=decide (1≤x.op∧x.op≤15) && ((zao x.op || decide (x.dst=0)) && ((QI x.op || decide (x.a=0)) && ((QZ x.op || decide (x.b=0)) && ((zba x.op || decide (x.n=0)) && (zbc x.op || decide (x.args.length=0))))))
theorem zlf(d a b n:Int)(ar:List Int)(p:Option Addr)(cp:Nat)(w:World):Calls Tryz.prog 201 #[agg #[int i64 1,int i64 d,int i64 a,int i64 b,int i64 n,.slice p ar.length cp]] w fun e w'=>e=.returned (.bool (zy ⟨1,d,a,b,n,ar⟩))∧za [] w w':=by
 have HB:Box (zy ⟨1,d,a,b,n,ar⟩=(decide (a=0) && (decide (b=0) && (decide (ar.length=0))))):=hid (by simp[zy,zao,QI,QZ,zba,zbc]);generalize zy ⟨1,d,a,b,n,ar⟩=res at *;generalize ar.length=r at *;go_enter Tryz.func201,Tryz.ntmps201;go_upto_region 28 with fail;by_cases ha:a=0
 case neg=>
  have ga:(a == 0)=false:=neb (by omega);have HE:Box (res=false):=hid (by rw[HB.o];simp[ha]);clear HB;clear ha;go_wp2_with fail;go_ret;exact ⟨by rw[HE.o];rfl,za.alloc _ _ _⟩
 have ga:(a == 0)=true:=eqb (by omega);by_cases hb:b=0
 case neg=>
  have gb:(b == 0)=false:=neb (by omega);have HE:Box (res=false):=hid (by rw[HB.o];simp[ha,hb]);clear HB;clear ha hb;go_wp2_with fail;go_ret;exact ⟨by rw[HE.o];rfl,za.alloc _ _ _⟩
 have gb:(b == 0)=true:=eqb (by omega);by_cases hr:r=0
 case neg=>
  have gr:((r:Int) == 0)=false:=neb (by omega);have HE:Box (res=false):=hid (by rw[HB.o];simp[ha,hb,hr]);clear HB;clear ha hb hr;go_wp2_with fail;go_ret;exact ⟨by rw[HE.o];rfl,za.alloc _ _ _⟩
 have gr:((r:Int) == 0)=true:=eqb (by omega);have HE:Box (res=true):=hid (by rw[HB.o];simp[ha,hb,hr]);clear HB;clear ha hb hr;go_wp2_with fail;go_ret;exact ⟨by rw[HE.o];rfl,za.alloc _ _ _⟩
theorem zkx(d a b n:Int)(ar:List Int)(p:Option Addr)(cp:Nat)(w:World):Calls Tryz.prog 201 #[agg #[int i64 2,int i64 d,int i64 a,int i64 b,int i64 n,.slice p ar.length cp]] w fun e w'=>e=.returned (.bool (zy ⟨2,d,a,b,n,ar⟩))∧za [] w w':=by
 have HB:Box (zy ⟨2,d,a,b,n,ar⟩=(decide (n=0) && (decide (ar.length=0)))):=hid (by simp[zy,zao,QI,QZ,zba,zbc]);generalize zy ⟨2,d,a,b,n,ar⟩=res at *;generalize ar.length=r at *;go_enter Tryz.func201,Tryz.ntmps201;go_upto_region 28 with fail;by_cases hn:n=0
 case neg=>
  have gn:(n == 0)=false:=neb (by omega);have HE:Box (res=false):=hid (by rw[HB.o];simp[hn]);clear HB;clear hn;go_wp2_with fail;go_ret;exact ⟨by rw[HE.o];rfl,za.alloc _ _ _⟩
 have gn:(n == 0)=true:=eqb (by omega);by_cases hr:r=0
 case neg=>
  have gr:((r:Int) == 0)=false:=neb (by omega);have HE:Box (res=false):=hid (by rw[HB.o];simp[hn,hr]);clear HB;clear hn hr;go_wp2_with fail;go_ret;exact ⟨by rw[HE.o];rfl,za.alloc _ _ _⟩
 have gr:((r:Int) == 0)=true:=eqb (by omega);have HE:Box (res=true):=hid (by rw[HB.o];simp[hn,hr]);clear HB;clear hn hr;go_wp2_with fail;go_ret;exact ⟨by rw[HE.o];rfl,za.alloc _ _ _⟩
theorem zkC(d a b n:Int)(ar:List Int)(p:Option Addr)(cp:Nat)(w:World):Calls Tryz.prog 201 #[agg #[int i64 3,int i64 d,int i64 a,int i64 b,int i64 n,.slice p ar.length cp]] w fun e w'=>e=.returned (.bool (zy ⟨3,d,a,b,n,ar⟩))∧za [] w w':=by
 have HB:Box (zy ⟨3,d,a,b,n,ar⟩=(decide (a=0) && (decide (b=0) && (decide (n=0) && (decide (ar.length=0)))))):=hid (by simp[zy,zao,QI,QZ,zba,zbc]);generalize zy ⟨3,d,a,b,n,ar⟩=res at *;generalize ar.length=r at *;go_enter Tryz.func201,Tryz.ntmps201;go_upto_region 28 with fail;by_cases ha:a=0
 case neg=>
  have ga:(a == 0)=false:=neb (by omega);have HE:Box (res=false):=hid (by rw[HB.o];simp[ha]);clear HB;clear ha;go_wp2_with fail;go_ret;exact ⟨by rw[HE.o];rfl,za.alloc _ _ _⟩
 have ga:(a == 0)=true:=eqb (by omega);by_cases hb:b=0
 case neg=>
  have gb:(b == 0)=false:=neb (by omega);have HE:Box (res=false):=hid (by rw[HB.o];simp[ha,hb]);clear HB;clear ha hb;go_wp2_with fail;go_ret;exact ⟨by rw[HE.o];rfl,za.alloc _ _ _⟩
 have gb:(b == 0)=true:=eqb (by omega);by_cases hn:n=0
 case neg=>
  have gn:(n == 0)=false:=neb (by omega);have HE:Box (res=false):=hid (by rw[HB.o];simp[ha,hb,hn]);clear HB;clear ha hb hn;go_wp2_with fail;go_ret;exact ⟨by rw[HE.o];rfl,za.alloc _ _ _⟩
 have gn:(n == 0)=true:=eqb (by omega);by_cases hr:r=0
 case neg=>
  have gr:((r:Int) == 0)=false:=neb (by omega);have HE:Box (res=false):=hid (by rw[HB.o];simp[ha,hb,hn,hr]);clear HB;clear ha hb hn hr;go_wp2_with fail;go_ret;exact ⟨by rw[HE.o];rfl,za.alloc _ _ _⟩
 have gr:((r:Int) == 0)=true:=eqb (by omega);have HE:Box (res=true):=hid (by rw[HB.o];simp[ha,hb,hn,hr]);clear HB;clear ha hb hn hr;go_wp2_with fail;go_ret;exact ⟨by rw[HE.o];rfl,za.alloc _ _ _⟩
theorem zlv(d a b n:Int)(ar:List Int)(p:Option Addr)(cp:Nat)(w:World):Calls Tryz.prog 201 #[agg #[int i64 4,int i64 d,int i64 a,int i64 b,int i64 n,.slice p ar.length cp]] w fun e w'=>e=.returned (.bool (zy ⟨4,d,a,b,n,ar⟩))∧za [] w w':=by
 have HB:Box (zy ⟨4,d,a,b,n,ar⟩=(decide (a=0) && (decide (b=0) && (decide (n=0) && (decide (ar.length=0)))))):=hid (by simp[zy,zao,QI,QZ,zba,zbc]);generalize zy ⟨4,d,a,b,n,ar⟩=res at *;generalize ar.length=r at *;go_enter Tryz.func201,Tryz.ntmps201;go_upto_region 28 with fail;by_cases ha:a=0
 case neg=>
  have ga:(a == 0)=false:=neb (by omega);have HE:Box (res=false):=hid (by rw[HB.o];simp[ha]);clear HB;clear ha;go_wp2_with fail;go_ret;exact ⟨by rw[HE.o];rfl,za.alloc _ _ _⟩
 have ga:(a == 0)=true:=eqb (by omega);by_cases hb:b=0
 case neg=>
  have gb:(b == 0)=false:=neb (by omega);have HE:Box (res=false):=hid (by rw[HB.o];simp[ha,hb]);clear HB;clear ha hb;go_wp2_with fail;go_ret;exact ⟨by rw[HE.o];rfl,za.alloc _ _ _⟩
 have gb:(b == 0)=true:=eqb (by omega);by_cases hn:n=0
 case neg=>
  have gn:(n == 0)=false:=neb (by omega);have HE:Box (res=false):=hid (by rw[HB.o];simp[ha,hb,hn]);clear HB;clear ha hb hn;go_wp2_with fail;go_ret;exact ⟨by rw[HE.o];rfl,za.alloc _ _ _⟩
 have gn:(n == 0)=true:=eqb (by omega);by_cases hr:r=0
 case neg=>
  have gr:((r:Int) == 0)=false:=neb (by omega);have HE:Box (res=false):=hid (by rw[HB.o];simp[ha,hb,hn,hr]);clear HB;clear ha hb hn hr;go_wp2_with fail;go_ret;exact ⟨by rw[HE.o];rfl,za.alloc _ _ _⟩
 have gr:((r:Int) == 0)=true:=eqb (by omega);have HE:Box (res=true):=hid (by rw[HB.o];simp[ha,hb,hn,hr]);clear HB;clear ha hb hn hr;go_wp2_with fail;go_ret;exact ⟨by rw[HE.o];rfl,za.alloc _ _ _⟩
theorem zk3(d a b n:Int)(ar:List Int)(p:Option Addr)(cp:Nat)(w:World):Calls Tryz.prog 201 #[agg #[int i64 5,int i64 d,int i64 a,int i64 b,int i64 n,.slice p ar.length cp]] w fun e w'=>e=.returned (.bool (zy ⟨5,d,a,b,n,ar⟩))∧za [] w w':=by
 have HB:Box (zy ⟨5,d,a,b,n,ar⟩=(decide (a=0) && (decide (b=0) && (decide (n=0) && (decide (ar.length=0)))))):=hid (by simp[zy,zao,QI,QZ,zba,zbc]);generalize zy ⟨5,d,a,b,n,ar⟩=res at *;generalize ar.length=r at *;go_enter Tryz.func201,Tryz.ntmps201;go_upto_region 28 with fail;by_cases ha:a=0
 case neg=>
  have ga:(a == 0)=false:=neb (by omega);have HE:Box (res=false):=hid (by rw[HB.o];simp[ha]);clear HB;clear ha;go_wp2_with fail;go_ret;exact ⟨by rw[HE.o];rfl,za.alloc _ _ _⟩
 have ga:(a == 0)=true:=eqb (by omega);by_cases hb:b=0
 case neg=>
  have gb:(b == 0)=false:=neb (by omega);have HE:Box (res=false):=hid (by rw[HB.o];simp[ha,hb]);clear HB;clear ha hb;go_wp2_with fail;go_ret;exact ⟨by rw[HE.o];rfl,za.alloc _ _ _⟩
 have gb:(b == 0)=true:=eqb (by omega);by_cases hn:n=0
 case neg=>
  have gn:(n == 0)=false:=neb (by omega);have HE:Box (res=false):=hid (by rw[HB.o];simp[ha,hb,hn]);clear HB;clear ha hb hn;go_wp2_with fail;go_ret;exact ⟨by rw[HE.o];rfl,za.alloc _ _ _⟩
 have gn:(n == 0)=true:=eqb (by omega);by_cases hr:r=0
 case neg=>
  have gr:((r:Int) == 0)=false:=neb (by omega);have HE:Box (res=false):=hid (by rw[HB.o];simp[ha,hb,hn,hr]);clear HB;clear ha hb hn hr;go_wp2_with fail;go_ret;exact ⟨by rw[HE.o];rfl,za.alloc _ _ _⟩
 have gr:((r:Int) == 0)=true:=eqb (by omega);have HE:Box (res=true):=hid (by rw[HB.o];simp[ha,hb,hn,hr]);clear HB;clear ha hb hn hr;go_wp2_with fail;go_ret;exact ⟨by rw[HE.o];rfl,za.alloc _ _ _⟩
theorem zkP(d a b n:Int)(ar:List Int)(p:Option Addr)(cp:Nat)(w:World):Calls Tryz.prog 201 #[agg #[int i64 6,int i64 d,int i64 a,int i64 b,int i64 n,.slice p ar.length cp]] w fun e w'=>e=.returned (.bool (zy ⟨6,d,a,b,n,ar⟩))∧za [] w w':=by
 have HB:Box (zy ⟨6,d,a,b,n,ar⟩=(decide (b=0) && (decide (n=0) && (decide (ar.length=0))))):=hid (by simp[zy,zao,QI,QZ,zba,zbc]);generalize zy ⟨6,d,a,b,n,ar⟩=res at *;generalize ar.length=r at *;go_enter Tryz.func201,Tryz.ntmps201;go_upto_region 28 with fail;by_cases hb:b=0
 case neg=>
  have gb:(b == 0)=false:=neb (by omega);have HE:Box (res=false):=hid (by rw[HB.o];simp[hb]);clear HB;clear hb;go_wp2_with fail;go_ret;exact ⟨by rw[HE.o];rfl,za.alloc _ _ _⟩
 have gb:(b == 0)=true:=eqb (by omega);by_cases hn:n=0
 case neg=>
  have gn:(n == 0)=false:=neb (by omega);have HE:Box (res=false):=hid (by rw[HB.o];simp[hb,hn]);clear HB;clear hb hn;go_wp2_with fail;go_ret;exact ⟨by rw[HE.o];rfl,za.alloc _ _ _⟩
 have gn:(n == 0)=true:=eqb (by omega);by_cases hr:r=0
 case neg=>
  have gr:((r:Int) == 0)=false:=neb (by omega);have HE:Box (res=false):=hid (by rw[HB.o];simp[hb,hn,hr]);clear HB;clear hb hn hr;go_wp2_with fail;go_ret;exact ⟨by rw[HE.o];rfl,za.alloc _ _ _⟩
 have gr:((r:Int) == 0)=true:=eqb (by omega);have HE:Box (res=true):=hid (by rw[HB.o];simp[hb,hn,hr]);clear HB;clear hb hn hr;go_wp2_with fail;go_ret;exact ⟨by rw[HE.o];rfl,za.alloc _ _ _⟩
theorem zl2(d a b n:Int)(ar:List Int)(p:Option Addr)(cp:Nat)(w:World):Calls Tryz.prog 201 #[agg #[int i64 7,int i64 d,int i64 a,int i64 b,int i64 n,.slice p ar.length cp]] w fun e w'=>e=.returned (.bool (zy ⟨7,d,a,b,n,ar⟩))∧za [] w w':=by
 have HB:Box (zy ⟨7,d,a,b,n,ar⟩=(decide (b=0) && (decide (ar.length=0)))):=hid (by simp[zy,zao,QI,QZ,zba,zbc]);generalize zy ⟨7,d,a,b,n,ar⟩=res at *;generalize ar.length=r at *;go_enter Tryz.func201,Tryz.ntmps201;go_upto_region 28 with fail;by_cases hb:b=0
 case neg=>
  have gb:(b == 0)=false:=neb (by omega);have HE:Box (res=false):=hid (by rw[HB.o];simp[hb]);clear HB;clear hb;go_wp2_with fail;go_ret;exact ⟨by rw[HE.o];rfl,za.alloc _ _ _⟩
 have gb:(b == 0)=true:=eqb (by omega);by_cases hr:r=0
 case neg=>
  have gr:((r:Int) == 0)=false:=neb (by omega);have HE:Box (res=false):=hid (by rw[HB.o];simp[hb,hr]);clear HB;clear hb hr;go_wp2_with fail;go_ret;exact ⟨by rw[HE.o];rfl,za.alloc _ _ _⟩
 have gr:((r:Int) == 0)=true:=eqb (by omega);have HE:Box (res=true):=hid (by rw[HB.o];simp[hb,hr]);clear HB;clear hb hr;go_wp2_with fail;go_ret;exact ⟨by rw[HE.o];rfl,za.alloc _ _ _⟩
theorem zl7(d a b n:Int)(ar:List Int)(p:Option Addr)(cp:Nat)(w:World):Calls Tryz.prog 201 #[agg #[int i64 8,int i64 d,int i64 a,int i64 b,int i64 n,.slice p ar.length cp]] w fun e w'=>e=.returned (.bool (zy ⟨8,d,a,b,n,ar⟩))∧za [] w w':=by
 have HB:Box (zy ⟨8,d,a,b,n,ar⟩=(decide (d=0) && (decide (ar.length=0)))):=hid (by simp[zy,zao,QI,QZ,zba,zbc]);generalize zy ⟨8,d,a,b,n,ar⟩=res at *;generalize ar.length=r at *;go_enter Tryz.func201,Tryz.ntmps201;go_upto_region 28 with fail;by_cases hd:d=0
 case neg=>
  have gd:(d == 0)=false:=neb (by omega);have HE:Box (res=false):=hid (by rw[HB.o];simp[hd]);clear HB;clear hd;go_wp2_with fail;go_ret;exact ⟨by rw[HE.o];rfl,za.alloc _ _ _⟩
 have gd:(d == 0)=true:=eqb (by omega);by_cases hr:r=0
 case neg=>
  have gr:((r:Int) == 0)=false:=neb (by omega);have HE:Box (res=false):=hid (by rw[HB.o];simp[hd,hr]);clear HB;clear hd hr;go_wp2_with fail;go_ret;exact ⟨by rw[HE.o];rfl,za.alloc _ _ _⟩
 have gr:((r:Int) == 0)=true:=eqb (by omega);have HE:Box (res=true):=hid (by rw[HB.o];simp[hd,hr]);clear HB;clear hd hr;go_wp2_with fail;go_ret;exact ⟨by rw[HE.o];rfl,za.alloc _ _ _⟩
theorem zkX(d a b n:Int)(ar:List Int)(p:Option Addr)(cp:Nat)(w:World):Calls Tryz.prog 201 #[agg #[int i64 9,int i64 d,int i64 a,int i64 b,int i64 n,.slice p ar.length cp]] w fun e w'=>e=.returned (.bool (zy ⟨9,d,a,b,n,ar⟩))∧za [] w w':=by
 have HB:Box (zy ⟨9,d,a,b,n,ar⟩=(decide (d=0) && (decide (b=0) && (decide (n=0) && (decide (ar.length=0)))))):=hid (by simp[zy,zao,QI,QZ,zba,zbc]);generalize zy ⟨9,d,a,b,n,ar⟩=res at *;generalize ar.length=r at *;go_enter Tryz.func201,Tryz.ntmps201;go_upto_region 28 with fail;by_cases hd:d=0
 case neg=>
  have gd:(d == 0)=false:=neb (by omega);have HE:Box (res=false):=hid (by rw[HB.o];simp[hd]);clear HB;clear hd;go_wp2_with fail;go_ret;exact ⟨by rw[HE.o];rfl,za.alloc _ _ _⟩
 have gd:(d == 0)=true:=eqb (by omega);by_cases hb:b=0
 case neg=>
  have gb:(b == 0)=false:=neb (by omega);have HE:Box (res=false):=hid (by rw[HB.o];simp[hd,hb]);clear HB;clear hd hb;go_wp2_with fail;go_ret;exact ⟨by rw[HE.o];rfl,za.alloc _ _ _⟩
 have gb:(b == 0)=true:=eqb (by omega);by_cases hn:n=0
 case neg=>
  have gn:(n == 0)=false:=neb (by omega);have HE:Box (res=false):=hid (by rw[HB.o];simp[hd,hb,hn]);clear HB;clear hd hb hn;go_wp2_with fail;go_ret;exact ⟨by rw[HE.o];rfl,za.alloc _ _ _⟩
 have gn:(n == 0)=true:=eqb (by omega);by_cases hr:r=0
 case neg=>
  have gr:((r:Int) == 0)=false:=neb (by omega);have HE:Box (res=false):=hid (by rw[HB.o];simp[hd,hb,hn,hr]);clear HB;clear hd hb hn hr;go_wp2_with fail;go_ret;exact ⟨by rw[HE.o];rfl,za.alloc _ _ _⟩
 have gr:((r:Int) == 0)=true:=eqb (by omega);have HE:Box (res=true):=hid (by rw[HB.o];simp[hd,hb,hn,hr]);clear HB;clear hd hb hn hr;go_wp2_with fail;go_ret;exact ⟨by rw[HE.o];rfl,za.alloc _ _ _⟩
theorem zjf(d a b n:Int)(ar:List Int)(p:Option Addr)(cp:Nat)(w:World):Calls Tryz.prog 201 #[agg #[int i64 10,int i64 d,int i64 a,int i64 b,int i64 n,.slice p ar.length cp]] w fun e w'=>e=.returned (.bool (zy ⟨10,d,a,b,n,ar⟩))∧za [] w w':=by
 have HB:Box (zy ⟨10,d,a,b,n,ar⟩=(decide (a=0) && (decide (b=0) && (decide (ar.length=0))))):=hid (by simp[zy,zao,QI,QZ,zba,zbc]);generalize zy ⟨10,d,a,b,n,ar⟩=res at *;generalize ar.length=r at *;go_enter Tryz.func201,Tryz.ntmps201;go_upto_region 28 with fail;by_cases ha:a=0
 case neg=>
  have ga:(a == 0)=false:=neb (by omega);have HE:Box (res=false):=hid (by rw[HB.o];simp[ha]);clear HB;clear ha;go_wp2_with fail;go_ret;exact ⟨by rw[HE.o];rfl,za.alloc _ _ _⟩
 have ga:(a == 0)=true:=eqb (by omega);by_cases hb:b=0
 case neg=>
  have gb:(b == 0)=false:=neb (by omega);have HE:Box (res=false):=hid (by rw[HB.o];simp[ha,hb]);clear HB;clear ha hb;go_wp2_with fail;go_ret;exact ⟨by rw[HE.o];rfl,za.alloc _ _ _⟩
 have gb:(b == 0)=true:=eqb (by omega);by_cases hr:r=0
 case neg=>
  have gr:((r:Int) == 0)=false:=neb (by omega);have HE:Box (res=false):=hid (by rw[HB.o];simp[ha,hb,hr]);clear HB;clear ha hb hr;go_wp2_with fail;go_ret;exact ⟨by rw[HE.o];rfl,za.alloc _ _ _⟩
 have gr:((r:Int) == 0)=true:=eqb (by omega);have HE:Box (res=true):=hid (by rw[HB.o];simp[ha,hb,hr]);clear HB;clear ha hb hr;go_wp2_with fail;go_ret;exact ⟨by rw[HE.o];rfl,za.alloc _ _ _⟩
theorem zj4(d a b n:Int)(ar:List Int)(p:Option Addr)(cp:Nat)(w:World):Calls Tryz.prog 201 #[agg #[int i64 11,int i64 d,int i64 a,int i64 b,int i64 n,.slice p ar.length cp]] w fun e w'=>e=.returned (.bool (zy ⟨11,d,a,b,n,ar⟩))∧za [] w w':=by
 have HB:Box (zy ⟨11,d,a,b,n,ar⟩=(decide (b=0) && (decide (n=0) && (decide (ar.length=0))))):=hid (by simp[zy,zao,QI,QZ,zba,zbc]);generalize zy ⟨11,d,a,b,n,ar⟩=res at *;generalize ar.length=r at *;go_enter Tryz.func201,Tryz.ntmps201;go_upto_region 28 with fail;by_cases hb:b=0
 case neg=>
  have gb:(b == 0)=false:=neb (by omega);have HE:Box (res=false):=hid (by rw[HB.o];simp[hb]);clear HB;clear hb;go_wp2_with fail;go_ret;exact ⟨by rw[HE.o];rfl,za.alloc _ _ _⟩
 have gb:(b == 0)=true:=eqb (by omega);by_cases hn:n=0
 case neg=>
  have gn:(n == 0)=false:=neb (by omega);have HE:Box (res=false):=hid (by rw[HB.o];simp[hb,hn]);clear HB;clear hb hn;go_wp2_with fail;go_ret;exact ⟨by rw[HE.o];rfl,za.alloc _ _ _⟩
 have gn:(n == 0)=true:=eqb (by omega);by_cases hr:r=0
 case neg=>
  have gr:((r:Int) == 0)=false:=neb (by omega);have HE:Box (res=false):=hid (by rw[HB.o];simp[hb,hn,hr]);clear HB;clear hb hn hr;go_wp2_with fail;go_ret;exact ⟨by rw[HE.o];rfl,za.alloc _ _ _⟩
 have gr:((r:Int) == 0)=true:=eqb (by omega);have HE:Box (res=true):=hid (by rw[HB.o];simp[hb,hn,hr]);clear HB;clear hb hn hr;go_wp2_with fail;go_ret;exact ⟨by rw[HE.o];rfl,za.alloc _ _ _⟩
theorem zjt(d a b n:Int)(ar:List Int)(p:Option Addr)(cp:Nat)(w:World):Calls Tryz.prog 201 #[agg #[int i64 12,int i64 d,int i64 a,int i64 b,int i64 n,.slice p ar.length cp]] w fun e w'=>e=.returned (.bool (zy ⟨12,d,a,b,n,ar⟩))∧za [] w w':=by
 have HB:Box (zy ⟨12,d,a,b,n,ar⟩=(decide (a=0) && (decide (b=0)))):=hid (by simp[zy,zao,QI,QZ,zba,zbc]);generalize zy ⟨12,d,a,b,n,ar⟩=res at *;generalize ar.length=r at *;go_enter Tryz.func201,Tryz.ntmps201;go_upto_region 28 with fail;by_cases ha:a=0
 case neg=>
  have ga:(a == 0)=false:=neb (by omega);have HE:Box (res=false):=hid (by rw[HB.o];simp[ha]);clear HB;clear ha;go_wp2_with fail;go_ret;exact ⟨by rw[HE.o];rfl,za.alloc _ _ _⟩
 have ga:(a == 0)=true:=eqb (by omega);by_cases hb:b=0
 case neg=>
  have gb:(b == 0)=false:=neb (by omega);have HE:Box (res=false):=hid (by rw[HB.o];simp[ha,hb]);clear HB;clear ha hb;go_wp2_with fail;go_ret;exact ⟨by rw[HE.o];rfl,za.alloc _ _ _⟩
 have gb:(b == 0)=true:=eqb (by omega);have HE:Box (res=true):=hid (by rw[HB.o];simp[ha,hb]);clear HB;clear ha hb;go_wp2_with fail;go_ret;exact ⟨by rw[HE.o];rfl,za.alloc _ _ _⟩
theorem ziO(d a b n:Int)(ar:List Int)(p:Option Addr)(cp:Nat)(w:World):Calls Tryz.prog 201 #[agg #[int i64 13,int i64 d,int i64 a,int i64 b,int i64 n,.slice p ar.length cp]] w fun e w'=>e=.returned (.bool (zy ⟨13,d,a,b,n,ar⟩))∧za [] w w':=by
 have HB:Box (zy ⟨13,d,a,b,n,ar⟩=(decide (b=0) && (decide (n=0)))):=hid (by simp[zy,zao,QI,QZ,zba,zbc]);generalize zy ⟨13,d,a,b,n,ar⟩=res at *;generalize ar.length=r at *;go_enter Tryz.func201,Tryz.ntmps201;go_upto_region 28 with fail;by_cases hb:b=0
 case neg=>
  have gb:(b == 0)=false:=neb (by omega);have HE:Box (res=false):=hid (by rw[HB.o];simp[hb]);clear HB;clear hb;go_wp2_with fail;go_ret;exact ⟨by rw[HE.o];rfl,za.alloc _ _ _⟩
 have gb:(b == 0)=true:=eqb (by omega);by_cases hn:n=0
 case neg=>
  have gn:(n == 0)=false:=neb (by omega);have HE:Box (res=false):=hid (by rw[HB.o];simp[hb,hn]);clear HB;clear hb hn;go_wp2_with fail;go_ret;exact ⟨by rw[HE.o];rfl,za.alloc _ _ _⟩
 have gn:(n == 0)=true:=eqb (by omega);have HE:Box (res=true):=hid (by rw[HB.o];simp[hb,hn]);clear HB;clear hb hn;go_wp2_with fail;go_ret;exact ⟨by rw[HE.o];rfl,za.alloc _ _ _⟩
theorem zjW(d a b n:Int)(ar:List Int)(p:Option Addr)(cp:Nat)(w:World):Calls Tryz.prog 201 #[agg #[int i64 14,int i64 d,int i64 a,int i64 b,int i64 n,.slice p ar.length cp]] w fun e w'=>e=.returned (.bool (zy ⟨14,d,a,b,n,ar⟩))∧za [] w w':=by
 have HB:Box (zy ⟨14,d,a,b,n,ar⟩=(decide (b=0))):=hid (by simp[zy,zao,QI,QZ,zba,zbc]);generalize zy ⟨14,d,a,b,n,ar⟩=res at *;generalize ar.length=r at *;go_enter Tryz.func201,Tryz.ntmps201;go_upto_region 28 with fail;by_cases hb:b=0
 case neg=>
  have gb:(b == 0)=false:=neb (by omega);have HE:Box (res=false):=hid (by rw[HB.o];simp[hb]);clear HB;clear hb;go_wp2_with fail;go_ret;exact ⟨by rw[HE.o];rfl,za.alloc _ _ _⟩
 have gb:(b == 0)=true:=eqb (by omega);have HE:Box (res=true):=hid (by rw[HB.o];simp[hb]);clear HB;clear hb;go_wp2_with fail;go_ret;exact ⟨by rw[HE.o];rfl,za.alloc _ _ _⟩
theorem zjT(d a b n:Int)(ar:List Int)(p:Option Addr)(cp:Nat)(w:World):Calls Tryz.prog 201 #[agg #[int i64 15,int i64 d,int i64 a,int i64 b,int i64 n,.slice p ar.length cp]] w fun e w'=>e=.returned (.bool (zy ⟨15,d,a,b,n,ar⟩))∧za [] w w':=by
 have HB:Box (zy ⟨15,d,a,b,n,ar⟩=(decide (d=0) && (decide (b=0) && (decide (n=0) && (decide (ar.length=0)))))):=hid (by simp[zy,zao,QI,QZ,zba,zbc]);generalize zy ⟨15,d,a,b,n,ar⟩=res at *;generalize ar.length=r at *;go_enter Tryz.func201,Tryz.ntmps201;go_upto_region 28 with fail;by_cases hd:d=0
 case neg=>
  have gd:(d == 0)=false:=neb (by omega);have HE:Box (res=false):=hid (by rw[HB.o];simp[hd]);clear HB;clear hd;go_wp2_with fail;go_ret;exact ⟨by rw[HE.o];rfl,za.alloc _ _ _⟩
 have gd:(d == 0)=true:=eqb (by omega);by_cases hb:b=0
 case neg=>
  have gb:(b == 0)=false:=neb (by omega);have HE:Box (res=false):=hid (by rw[HB.o];simp[hd,hb]);clear HB;clear hd hb;go_wp2_with fail;go_ret;exact ⟨by rw[HE.o];rfl,za.alloc _ _ _⟩
 have gb:(b == 0)=true:=eqb (by omega);by_cases hn:n=0
 case neg=>
  have gn:(n == 0)=false:=neb (by omega);have HE:Box (res=false):=hid (by rw[HB.o];simp[hd,hb,hn]);clear HB;clear hd hb hn;go_wp2_with fail;go_ret;exact ⟨by rw[HE.o];rfl,za.alloc _ _ _⟩
 have gn:(n == 0)=true:=eqb (by omega);by_cases hr:r=0
 case neg=>
  have gr:((r:Int) == 0)=false:=neb (by omega);have HE:Box (res=false):=hid (by rw[HB.o];simp[hd,hb,hn,hr]);clear HB;clear hd hb hn hr;go_wp2_with fail;go_ret;exact ⟨by rw[HE.o];rfl,za.alloc _ _ _⟩
 have gr:((r:Int) == 0)=true:=eqb (by omega);have HE:Box (res=true):=hid (by rw[HB.o];simp[hd,hb,hn,hr]);clear HB;clear hd hb hn hr;go_wp2_with fail;go_ret;exact ⟨by rw[HE.o];rfl,za.alloc _ _ _⟩
theorem ziZ(o d a b n:Int)(ar:List Int)(p:Option Addr)(cp:Nat)(w:World)(hop:¬ (1≤o∧o≤15)):Calls Tryz.prog 201 #[agg #[int i64 o,int i64 d,int i64 a,int i64 b,int i64 n,.slice p ar.length cp]] w fun e w'=>e=.returned (.bool (zy ⟨o,d,a,b,n,ar⟩))∧za [] w w':=by
 have HE:Box (zy ⟨o,d,a,b,n,ar⟩=false):=hid (by unfold zy;simp only[];rw[decide_eq_false hop];rfl);have o1:=neb (show o≠1 by omega);have o2:=neb (show o≠2 by omega);have o3:=neb (show o≠3 by omega);have o4:=neb (show o≠4 by omega);have o5:=neb (show o≠5 by omega);have o6:=neb (show o≠6 by omega);have o7:=neb (show o≠7 by omega);have o8:=neb (show o≠8 by omega);have o9:=neb (show o≠9 by omega);have o10:=neb (show o≠10 by omega);have o11:=neb (show o≠11 by omega);have o12:=neb (show o≠12 by omega);have o13:=neb (show o≠13 by omega);have o14:=neb (show o≠14 by omega);have o15:=neb (show o≠15 by omega);clear hop;generalize zy ⟨o,d,a,b,n,ar⟩=res at *;generalize ar.length=N at *;go_enter Tryz.func201,Tryz.ntmps201;go_wp2_with fail;go_ret;exact ⟨by rw[HE.o];rfl,za.alloc _ _ _⟩
theorem zhj{o:Int}(h:1≤o∧o≤15):o=1∨o=2∨o=3∨o=4∨o=5∨o=6∨o=7∨o=8∨o=9∨o=10∨o=11∨o=12∨o=13∨o=14∨o=15:=by omega
theorem zh4(x:In8)(p:Option Addr)(cp:Nat)(w:World):Calls Tryz.prog 201 #[zu x (.slice p x.args.length cp)] w fun e w'=>e=.returned (.bool (zy x))∧za [] w w':=by
 obtain ⟨o,d,a,b,n,ar⟩:=x;by_cases h:1≤o∧o≤15
 ·rcases zhj h with rfl | rfl | rfl | rfl | rfl | rfl | rfl | rfl | rfl | rfl | rfl | rfl | rfl | rfl | rfl
  ·exact zlf d a b n ar p cp w
  ·exact zkx d a b n ar p cp w
  ·exact zkC d a b n ar p cp w
  ·exact zlv d a b n ar p cp w
  ·exact zk3 d a b n ar p cp w
  ·exact zkP d a b n ar p cp w
  ·exact zl2 d a b n ar p cp w
  ·exact zl7 d a b n ar p cp w
  ·exact zkX d a b n ar p cp w
  ·exact zjf d a b n ar p cp w
  ·exact zj4 d a b n ar p cp w
  ·exact zjt d a b n ar p cp w
  ·exact ziO d a b n ar p cp w
  ·exact zjW d a b n ar p cp w
  ·exact zjT d a b n ar p cp w
 ·exact ziZ o d a b n ar p cp w h
def zaW:Value:=.slice none 0 0
theorem zf2(n:Nat)(hn:n≤1000000)(w:World):(Instr.makeSlice 168 (int i64 (n:Int)) (int i64 (n:Int))).run Tryz.prog w=.ok (.slice (some ⟨w.heap.size,0,none⟩) n n) (w.alloc (.cells (madeCells #[zaW] n) 63)):=
 run_make_row' (P:=Tryz.prog) 168 63 zaW 24 Tryz.underlying168 (by kernel_rfl) rfl .i64 .i64 n (by omega) (by omega) w
theorem zdX(w:World)(n base:Nat)(hb:base≤w.heap.size)(hn:n≤maxLen):qu (w.alloc (.cells (madeCells #[zaW] n) 63)) base w.heap.size n 63 (fun _=>zaW):=by
 refine qu.made (z:=zaW) ⟨?_,.inr ⟨w.heap.size,n,_,rfl,hb,heap_alloc_new w _,Nat.le_refl _,hn,?_,?_⟩⟩ rfl
 ·rw[Array.length_toList,size_madeCells]
 ·rw[size_madeCells,Nat.mul_one]
 ·rw[Nat.mul_one]
  exact List.take_of_length_le (by rw[Array.length_toList,size_madeCells];exact Nat.le_refl _)
structure FW (w wr:World) (p n:Nat) (c:Nat→Value) (g:List (List Nat)) (k:Nat):Prop where
 row:qu wr w.heap.size p n 63 c
 own:∀ j,j<k→wr.ownsRow (p+1) 3 1 (c j) (nb g j).length (Qf (nb g j))
 keep:za [] w wr
theorem FW.quiet{c:Nat→Value}{g:List (List Nat)}(h:FW w wr p n c g k)(q:za [] wr wy):FW w wy p n c g k:=
 ⟨h.row.kept q (by simp),fun j hj=>zh (h.own j hj) q (fun _ _=>by simp),h.keep.quiet q⟩
theorem FW.put{c:Nat→Value}{g:List (List Nat)}(h:FW w wr p n c g k)(q:za [] wr wy){v:Value}(hv:zlP wr wy v (nb g k)):FW w (wy.setCell ⟨p,k,none⟩ v) p n (fun i=>if i=k then v else c i) g (k+1):=by
 have h2:=h.quiet q;have kk:za [p] wy (wy.setCell ⟨p,k,none⟩ v):=za.setCell _ _ _ _ (by simp);have hp:=h.row.lt;refine ⟨h2.row.put k v,fun j hj=> ?_,h2.keep.fresh kk (fun x hx=>by simp at hx;omega)⟩;by_cases e:j=k
 ·subst e
  rw[if_pos rfl];have hv2:wy.ownsRow (p+1) 3 1 v (nb g j).length (Qf (nb g j)):=by
   refine ⟨hv.1,?_⟩;rcases hv.2 with hn | ⟨b,cap,cur,h1,h2,h3⟩
   ·exact .inl hn
   ·exact .inr ⟨b,cap,cur,h1,by omega,h3⟩
  exact zh hv2 kk (fun b hb hx=>by have:=(hv2.lt b hb).1;simp at hx;omega)
 ·rw[if_neg e]
  have:=h2.own j (by omega);exact zh this kk (fun b hb hx=>by have:=(this.lt b hb).1;simp at hx;omega)
theorem FW.kept1{r:Nat}{c:Nat→Value}{g:List (List Nat)}(h:FW w wr p n c g k)(q:za [r] wr wy)(h1:w.heap.size≤r)(h2:r<p):FW w wy p n c g k:=
 ⟨h.row.kept q (by simp;omega),fun j hj=>zh (h.own j hj) q (fun b hb hx=>by have:=((h.own j hj).lt b hb).1;simp at hx;omega),h.keep.fresh q (fun x hx=>by simp at hx;omega)⟩
theorem zbS{base:Nat}{v:Value}{l:List Nat}(h:w.ownsRow base 3 1 v l.length (Qf l)):∃ a c,v=.slice a l.length c∧zax w w.heap.size a (JA l):=by
 rcases h.2 with ⟨e,h0⟩ | ⟨g,cap,cur,rfl,hb,hg,hr⟩
 ·have:l=[]:=List.eq_nil_of_length_eq_zero h0
  subst this;exact ⟨none,0,e,.inl rfl⟩
 ·refine ⟨_,_,rfl,.inr ⟨g,0,rfl,(Array.getElem?_eq_some_iff.1 hg).1,fun i hi=> ?_⟩⟩
  rw[qU] at hi;rw[Nat.zero_add,h.cellAt i (by omega),Q6];unfold Qf;rw[List.getElem?_map,List.getD_eq_getElem?_getD,List.getElem?_eq_getElem hi];rfl
theorem FW.done{c:Nat→Value}{g:List (List Nat)}(h:FW w wr p n c g n)(hn:g.length=n):GAt wr wr.heap.size (some ⟨p,0,none⟩) g:=by
 refine .inr ⟨p,0,rfl,h.row.lt.2,fun j hj=> ?_⟩;rw[jt] at hj;rw[qK,qU,Nat.zero_add,h.row.cell (by omega)];obtain ⟨a,cp,e,hi⟩:=zbS (h.own j (by omega));exact ⟨a,cp,by rw[e],hi⟩
theorem J6{pb po:Nat}{P:Pr8}(h:PrC w pb po P){f:Nat}(hf:f<P.funcs.length)(hb:(zf P f).blocks.length≤600):
  Calls Tryz.prog 122 #[pointer (some ⟨pb,po,none⟩),int i64 (f:Int)] w fun e w'=>∃ a,e=.returned (agg #[int i64 ((zw (zf P f)).length:Int),.slice a (zw (zf P f)).length (zw (zf P f)).length])∧GAt w' w'.heap.size a (zw (zf P f))∧za [] w w':=by
 have HW:Box (∀ w,Calls Tryz.prog 176 #[int i64 (f:Int),int i64 (P.funcs.length:Int)] w fun e w'=>e=.returned (.bool true)∧w'=w):=hid fun w=>by
  have:=qa (f:Int) P.funcs.length w;rw[show inB (f:Int) P.funcs.length=true from zm.2 ⟨by omega,by omega⟩] at this;exact this
 obtain ⟨fa,fcp,H⟩:=h.fns;obtain ⟨fb,fo,ba,bcp,rfl,B⟩:=H.at hf;have h4:=H.cell;have h2:=B.cell;have BA:Box (∀ b,b<(zf P f).blocks.length→∃ bb bo,ba=some ⟨bb,bo,none⟩∧BlC w bb (bo+b * 5) (zA (zf P f) b)):=hid fun b hb=>B.at hb;have GN:Box (∀ b,b<(zf P f).blocks.length→nb (zw (zf P f)) b=tgB (zf P f).blocks.length (zA (zf P f) b)):=hid fun b hb=>JL hb;have GL:=hid (qe (zf P f));rw[qe];clear h H B;generalize hfn:P.funcs.length=N at *;generalize hbn:(zf P f).blocks.length=n at *;generalize zw (zf P f)=g at *;clear hfn hbn;have gf:(f:Int)<(N:Int):=by omega
 have hmk:=zf2 n (by omega);have k0:za [] w (w.alloc (.cells #[int i64 0,.slice none 0 0] 182)):=za.alloc _ _ _;have HR:Box (ql (w.alloc (.cells #[int i64 0,.slice none 0 0] 182)) w.heap.size (int i64 0) (.slice none 0 0)):=hid (ql.new _ _ _);have c4:=zb k0 h4;have c2:=zb k0 h2;go_enter Tryz.func122,Tryz.ntmps122;go_upto_region 1 with fail;generalize w.alloc (.cells #[int i64 0,.slice none 0 0] 182)=W at *;go_upto_region 4 with (go_at_call 176;refine (HW.o _).mono ?_;rintro e w3 ⟨rfl,rfl⟩)
 have ka:za [] w3 (w3.alloc (.cells (madeCells #[zaW] n) 63)):=za.alloc _ _ _;have kb:za [] (w3.alloc (.cells (madeCells #[zaW] n) 63)) ((w3.alloc (.cells (madeCells #[zaW] n) 63)).alloc (.cells #[int i64 (n:Int),.slice (some ⟨w3.heap.size,0,none⟩) n n] 182)):=za.alloc _ _ _;have HF:Box (FW w ((w3.alloc (.cells (madeCells #[zaW] n) 63)).alloc (.cells #[int i64 (n:Int),.slice (some ⟨w3.heap.size,0,none⟩) n n] 182)) w3.heap.size n (fun _=>zaW) g 0):=hid ⟨(zdX w3 n w.heap.size k0.size (by unfold maxLen;omega)).kept kb (by simp),fun j hj=>by omega,(k0.quiet ka).quiet kb⟩;have HG:Box (ql ((w3.alloc (.cells (madeCells #[zaW] n) 63)).alloc (.cells #[int i64 (n:Int),.slice (some ⟨w3.heap.size,0,none⟩) n n] 182)) (w3.heap.size+1) (int i64 (n:Int)) (.slice (some ⟨w3.heap.size,0,none⟩) n n)):=hid (by have:=ql.new (w3.alloc (.cells (madeCells #[zaW] n) 63)) (int i64 (n:Int)) (.slice (some ⟨w3.heap.size,0,none⟩) n n);rw[World.size_alloc] at this;exact this);have HR2:=hid ((HR.o.kept ka (by simp)).kept kb (by simp));have hpp:w.heap.size<w3.heap.size:=HR.o.lt;clear HR ka kb k0 c4 c2 h4 h2 HW;go_upto_region 5 with fail;generalize (w3.alloc (.cells (madeCells #[zaW] n) 63)).alloc (.cells #[int i64 (n:Int),.slice (some ⟨w3.heap.size,0,none⟩) n n] 182)=W4 at *;generalize w3.heap.size=p at *;go_wp2_with fail
 go_loopw [37] (fun i wr=>∃ (k:Nat) (c:Nat→Value),k≤n∧i=int i64 (k:Int)∧Box (FW w wr p n c g k)∧Box (ql wr (p+1) (int i64 (n:Int)) (.slice (some ⟨p,0,none⟩) n n))∧Box (ql wr w.heap.size (int i64 0) (.slice none 0 0))) (fun i _=>n - (intOf i).toNat)
 case atStart=>exact ⟨0,_,by omega,rfl,HF,HG,HR2⟩
 case round=>
  clear HF HG HR2;obtain ⟨k,c,hk,rfl,HF,HG,HR⟩:=hrel;by_cases hlt:k<n
  ·have hlt':(k:Int)<(n:Int):=by omega
   obtain ⟨bb,bo,rfl,hbl⟩:=BA.o k hlt;have HT:Box (∀ w',za [] w w'→Calls Tryz.prog 177 #[pointer (some ⟨bb,bo+k * 5,none⟩),int i64 (n:Int)] w' fun e w''=>∃ a cp,e=.returned (.slice a (nb g k).length cp)∧zlP w' w'' (.slice a (nb g k).length cp) (nb g k)∧za [] w' w''):=hid fun w' kw=>by
    rw[GN.o k hlt];refine (zb8 (BlC.stays _ _ _ _ _ kw hbl) n).mono ?_;rintro e w'' ⟨v,rfl,hv,hq⟩;obtain ⟨a,cp,rfl,_⟩:=zbS hv;exact ⟨a,cp,rfl,hv,hq⟩
   have c1:=HG.o.c1;have fz:=HF.o.row.frozen k;have cz:=HF.o.row.cell hlt;clear hbl;go_wp2_with fail
   go_region_with (go_at_call 177;refine (HT.o _ (HF.o.keep.quiet (za.drewN [] _ _))).mono ?_;rintro e w5 ⟨a5,p5,rfl,hv,k5⟩;have c1':=zb k5 c1;have cz':=zb k5 cz;have fz':=((HF.o.row.kept (za.drewN [] _ _) (by simp)).kept k5 (by simp)).frozen k)
   all_goals
    have HF2:=hid ((HF.o.quiet (za.drewN [] _ _)).put k5 hv);have kp:za [p] w5 (w5.setCell ⟨p,k,none⟩ (.slice a5 (nb g k).length p5)):=za.setCell _ _ _ _ (by simp);have HG2:=hid (((HG.o.kept (za.drewN [] _ _) (by simp)).kept k5 (by simp)).kept kp (by simp));have HR2:=hid (((HR.o.kept (za.drewN [] _ _) (by simp)).kept k5 (by simp)).kept kp (by simp;omega));clear HF HG HR c1 fz cz c1' fz' cz' hv k5 HT;generalize w5.setCell ⟨p,k,none⟩ (.slice a5 (nb g k).length p5)=w6 at *;go_wp2_with fail;go_roundw
    case rel=>exact ⟨k+1,_,by omega,by go_num,HF2,HG2,HR2⟩
    case measure=>simp[intOf];omega
  ·obtain rfl:k=n:=by omega
   have c0:=HG.o.c0;have c1:=HG.o.c1;have r0:=HR.o.c0;have r1:=HR.o.c1;have z0:=HR.o.frozen 0;have z1:=HR.o.frozen 1;go_wp2_with fail;have k1:za [w.heap.size] wr (wr.setCell ⟨w.heap.size,0,none⟩ (int i64 (k:Int))):=za.setCell _ _ _ _ (by simp);have k2:za [w.heap.size] (wr.setCell ⟨w.heap.size,0,none⟩ (int i64 (k:Int))) ((wr.setCell ⟨w.heap.size,0,none⟩ (int i64 (k:Int))).setCell ⟨w.heap.size,1,none⟩ (.slice (some ⟨p,0,none⟩) k k)):=za.setCell _ _ _ _ (by simp);have HF2:=HF.o.kept1 (k1.step k2) (Nat.le_refl _) hpp;have hb2:ql ((wr.setCell ⟨w.heap.size,0,none⟩ (int i64 (k:Int))).setCell ⟨w.heap.size,1,none⟩ (.slice (some ⟨p,0,none⟩) k k)) w.heap.size (int i64 (k:Int)) (.slice (some ⟨p,0,none⟩) k k):=by
    have h1:=heap_setCell_same wr w.heap.size 0 _ _ (int i64 (k:Int)) HR.o.heap;have h2:=heap_setCell_same _ w.heap.size 1 _ _ (.slice (some ⟨p,0,none⟩) k k) h1;exact ⟨h2⟩
   have hd0:=hb2.c0;have hd1:=hb2.c1;generalize (wr.setCell ⟨w.heap.size,0,none⟩ (int i64 (k:Int))).setCell ⟨w.heap.size,1,none⟩ (.slice (some ⟨p,0,none⟩) k k)=w9 at hd0 hd1 HF2 ⊢;exact bodyPost_ret (v:=agg #[int i64 (k:Int),.slice (some ⟨p,0,none⟩) k k]) (by simp[results,Tryz.results122,go_sem,hd0,hd1]) rfl ⟨_,rfl,HF2.done GL.o,HF2.keep⟩
end Go.Proofs.YtgmbkiagdhjpnaaGreatDoor
