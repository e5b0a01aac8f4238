import Derived.Test.YthflgjkmbakedaaGreatDoorN14
import Derived.Test.YthflgjkmbakedaaGreatDoorN15

namespace Go.Proofs.YthflgjkmbakedaaGreatDoor
open Go.RowKit
open Go.Value (int pointer agg)
open Go.IntKind (i64)
set_option maxHeartbeats 8000000
set_option maxRecDepth 20000
variable {P:Pr8}{a:Option Addr}{cp fb fo pb po:Nat}{f:Fu8}{w:World}
def J5(o:Int):Bool:=decide ((1≤o∧o≤7)∨(10≤o∧o≤14))
def Qv(o:Int):Bool:=decide (o=2∨(6≤o∧o≤9)∨o=11∨(13≤o∧o≤15))
def Qf(o:Int):Bool:=decide (o=2∨o=8)
def JK(o:Int):Bool:=decide (o=1∨o=7∨o=8∨o=10∨o=12∨o=14)
def JJ(o:Int):Bool:=decide (12≤o∧o≤14)
def zu(x:In8):Bool:=decide (1≤x.op∧x.op≤15) && ((J5 x.op || decide (x.dst=0)) && ((Qv x.op || decide (x.a=0)) && ((Qf x.op || decide (x.b=0)) && ((JK x.op || decide (x.n=0)) && (JJ x.op || decide (x.args.length=0))))))
theorem zi6(d a b n:Int)(ar:List Int)(p:Option Addr)(cp:Nat)(w:World):Calls Tryz.prog 236 #[agg #[int i64 1,int i64 d,int i64 a,int i64 b,int i64 n,.slice p ar.length cp]] w fun e w'=>e=.returned (.bool (zu ⟨1,d,a,b,n,ar⟩))∧za [] w w':=by
 have HB:Box (zu ⟨1,d,a,b,n,ar⟩=(decide (a=0) && (decide (b=0) && (decide (ar.length=0))))):=hid (by simp[zu,J5,Qv,Qf,JK,JJ]);generalize zu ⟨1,d,a,b,n,ar⟩=res at *;generalize ar.length=r at *;go_enter Tryz.func236,Tryz.ntmps236;go_upto_region 28 with fail;by_cases ha:a=0
 case neg=>
  have ga:(a == 0)=false:=neb (by omega);have HE:Box (res=false):=hid (by rw[HB.o];simp[ha]);clear HB;clear ha;go_wp2_with fail;go_ret;exact ⟨by rw[HE.o];rfl,za.alloc _ _ _⟩
 have ga:(a == 0)=true:=eqb (by omega);by_cases hb:b=0
 case neg=>
  have gb:(b == 0)=false:=neb (by omega);have HE:Box (res=false):=hid (by rw[HB.o];simp[ha,hb]);clear HB;clear ha hb;go_wp2_with fail;go_ret;exact ⟨by rw[HE.o];rfl,za.alloc _ _ _⟩
 have gb:(b == 0)=true:=eqb (by omega);by_cases hr:r=0
 case neg=>
  have gr:((r:Int) == 0)=false:=neb (by omega);have HE:Box (res=false):=hid (by rw[HB.o];simp[ha,hb,hr]);clear HB;clear ha hb hr;go_wp2_with fail;go_ret;exact ⟨by rw[HE.o];rfl,za.alloc _ _ _⟩
 have gr:((r:Int) == 0)=true:=eqb (by omega);have HE:Box (res=true):=hid (by rw[HB.o];simp[ha,hb,hr]);clear HB;clear ha hb hr;go_wp2_with fail;go_ret;exact ⟨by rw[HE.o];rfl,za.alloc _ _ _⟩
theorem zi9(d a b n:Int)(ar:List Int)(p:Option Addr)(cp:Nat)(w:World):Calls Tryz.prog 236 #[agg #[int i64 2,int i64 d,int i64 a,int i64 b,int i64 n,.slice p ar.length cp]] w fun e w'=>e=.returned (.bool (zu ⟨2,d,a,b,n,ar⟩))∧za [] w w':=by
 have HB:Box (zu ⟨2,d,a,b,n,ar⟩=(decide (n=0) && (decide (ar.length=0)))):=hid (by simp[zu,J5,Qv,Qf,JK,JJ]);generalize zu ⟨2,d,a,b,n,ar⟩=res at *;generalize ar.length=r at *;go_enter Tryz.func236,Tryz.ntmps236;go_upto_region 28 with fail;by_cases hn:n=0
 case neg=>
  have gn:(n == 0)=false:=neb (by omega);have HE:Box (res=false):=hid (by rw[HB.o];simp[hn]);clear HB;clear hn;go_wp2_with fail;go_ret;exact ⟨by rw[HE.o];rfl,za.alloc _ _ _⟩
 have gn:(n == 0)=true:=eqb (by omega);by_cases hr:r=0
 case neg=>
  have gr:((r:Int) == 0)=false:=neb (by omega);have HE:Box (res=false):=hid (by rw[HB.o];simp[hn,hr]);clear HB;clear hn hr;go_wp2_with fail;go_ret;exact ⟨by rw[HE.o];rfl,za.alloc _ _ _⟩
 have gr:((r:Int) == 0)=true:=eqb (by omega);have HE:Box (res=true):=hid (by rw[HB.o];simp[hn,hr]);clear HB;clear hn hr;go_wp2_with fail;go_ret;exact ⟨by rw[HE.o];rfl,za.alloc _ _ _⟩
theorem zi4(d a b n:Int)(ar:List Int)(p:Option Addr)(cp:Nat)(w:World):Calls Tryz.prog 236 #[agg #[int i64 3,int i64 d,int i64 a,int i64 b,int i64 n,.slice p ar.length cp]] w fun e w'=>e=.returned (.bool (zu ⟨3,d,a,b,n,ar⟩))∧za [] w w':=by
 have HB:Box (zu ⟨3,d,a,b,n,ar⟩=(decide (a=0) && (decide (b=0) && (decide (n=0) && (decide (ar.length=0)))))):=hid (by simp[zu,J5,Qv,Qf,JK,JJ]);generalize zu ⟨3,d,a,b,n,ar⟩=res at *;generalize ar.length=r at *;go_enter Tryz.func236,Tryz.ntmps236;go_upto_region 28 with fail;by_cases ha:a=0
 case neg=>
  have ga:(a == 0)=false:=neb (by omega);have HE:Box (res=false):=hid (by rw[HB.o];simp[ha]);clear HB;clear ha;go_wp2_with fail;go_ret;exact ⟨by rw[HE.o];rfl,za.alloc _ _ _⟩
 have ga:(a == 0)=true:=eqb (by omega);by_cases hb:b=0
 case neg=>
  have gb:(b == 0)=false:=neb (by omega);have HE:Box (res=false):=hid (by rw[HB.o];simp[ha,hb]);clear HB;clear ha hb;go_wp2_with fail;go_ret;exact ⟨by rw[HE.o];rfl,za.alloc _ _ _⟩
 have gb:(b == 0)=true:=eqb (by omega);by_cases hn:n=0
 case neg=>
  have gn:(n == 0)=false:=neb (by omega);have HE:Box (res=false):=hid (by rw[HB.o];simp[ha,hb,hn]);clear HB;clear ha hb hn;go_wp2_with fail;go_ret;exact ⟨by rw[HE.o];rfl,za.alloc _ _ _⟩
 have gn:(n == 0)=true:=eqb (by omega);by_cases hr:r=0
 case neg=>
  have gr:((r:Int) == 0)=false:=neb (by omega);have HE:Box (res=false):=hid (by rw[HB.o];simp[ha,hb,hn,hr]);clear HB;clear ha hb hn hr;go_wp2_with fail;go_ret;exact ⟨by rw[HE.o];rfl,za.alloc _ _ _⟩
 have gr:((r:Int) == 0)=true:=eqb (by omega);have HE:Box (res=true):=hid (by rw[HB.o];simp[ha,hb,hn,hr]);clear HB;clear ha hb hn hr;go_wp2_with fail;go_ret;exact ⟨by rw[HE.o];rfl,za.alloc _ _ _⟩
theorem zin(d a b n:Int)(ar:List Int)(p:Option Addr)(cp:Nat)(w:World):Calls Tryz.prog 236 #[agg #[int i64 4,int i64 d,int i64 a,int i64 b,int i64 n,.slice p ar.length cp]] w fun e w'=>e=.returned (.bool (zu ⟨4,d,a,b,n,ar⟩))∧za [] w w':=by
 have HB:Box (zu ⟨4,d,a,b,n,ar⟩=(decide (a=0) && (decide (b=0) && (decide (n=0) && (decide (ar.length=0)))))):=hid (by simp[zu,J5,Qv,Qf,JK,JJ]);generalize zu ⟨4,d,a,b,n,ar⟩=res at *;generalize ar.length=r at *;go_enter Tryz.func236,Tryz.ntmps236;go_upto_region 28 with fail;by_cases ha:a=0
 case neg=>
  have ga:(a == 0)=false:=neb (by omega);have HE:Box (res=false):=hid (by rw[HB.o];simp[ha]);clear HB;clear ha;go_wp2_with fail;go_ret;exact ⟨by rw[HE.o];rfl,za.alloc _ _ _⟩
 have ga:(a == 0)=true:=eqb (by omega);by_cases hb:b=0
 case neg=>
  have gb:(b == 0)=false:=neb (by omega);have HE:Box (res=false):=hid (by rw[HB.o];simp[ha,hb]);clear HB;clear ha hb;go_wp2_with fail;go_ret;exact ⟨by rw[HE.o];rfl,za.alloc _ _ _⟩
 have gb:(b == 0)=true:=eqb (by omega);by_cases hn:n=0
 case neg=>
  have gn:(n == 0)=false:=neb (by omega);have HE:Box (res=false):=hid (by rw[HB.o];simp[ha,hb,hn]);clear HB;clear ha hb hn;go_wp2_with fail;go_ret;exact ⟨by rw[HE.o];rfl,za.alloc _ _ _⟩
 have gn:(n == 0)=true:=eqb (by omega);by_cases hr:r=0
 case neg=>
  have gr:((r:Int) == 0)=false:=neb (by omega);have HE:Box (res=false):=hid (by rw[HB.o];simp[ha,hb,hn,hr]);clear HB;clear ha hb hn hr;go_wp2_with fail;go_ret;exact ⟨by rw[HE.o];rfl,za.alloc _ _ _⟩
 have gr:((r:Int) == 0)=true:=eqb (by omega);have HE:Box (res=true):=hid (by rw[HB.o];simp[ha,hb,hn,hr]);clear HB;clear ha hb hn hr;go_wp2_with fail;go_ret;exact ⟨by rw[HE.o];rfl,za.alloc _ _ _⟩
theorem zjb(d a b n:Int)(ar:List Int)(p:Option Addr)(cp:Nat)(w:World):Calls Tryz.prog 236 #[agg #[int i64 5,int i64 d,int i64 a,int i64 b,int i64 n,.slice p ar.length cp]] w fun e w'=>e=.returned (.bool (zu ⟨5,d,a,b,n,ar⟩))∧za [] w w':=by
 have HB:Box (zu ⟨5,d,a,b,n,ar⟩=(decide (a=0) && (decide (b=0) && (decide (n=0) && (decide (ar.length=0)))))):=hid (by simp[zu,J5,Qv,Qf,JK,JJ]);generalize zu ⟨5,d,a,b,n,ar⟩=res at *;generalize ar.length=r at *;go_enter Tryz.func236,Tryz.ntmps236;go_upto_region 28 with fail;by_cases ha:a=0
 case neg=>
  have ga:(a == 0)=false:=neb (by omega);have HE:Box (res=false):=hid (by rw[HB.o];simp[ha]);clear HB;clear ha;go_wp2_with fail;go_ret;exact ⟨by rw[HE.o];rfl,za.alloc _ _ _⟩
 have ga:(a == 0)=true:=eqb (by omega);by_cases hb:b=0
 case neg=>
  have gb:(b == 0)=false:=neb (by omega);have HE:Box (res=false):=hid (by rw[HB.o];simp[ha,hb]);clear HB;clear ha hb;go_wp2_with fail;go_ret;exact ⟨by rw[HE.o];rfl,za.alloc _ _ _⟩
 have gb:(b == 0)=true:=eqb (by omega);by_cases hn:n=0
 case neg=>
  have gn:(n == 0)=false:=neb (by omega);have HE:Box (res=false):=hid (by rw[HB.o];simp[ha,hb,hn]);clear HB;clear ha hb hn;go_wp2_with fail;go_ret;exact ⟨by rw[HE.o];rfl,za.alloc _ _ _⟩
 have gn:(n == 0)=true:=eqb (by omega);by_cases hr:r=0
 case neg=>
  have gr:((r:Int) == 0)=false:=neb (by omega);have HE:Box (res=false):=hid (by rw[HB.o];simp[ha,hb,hn,hr]);clear HB;clear ha hb hn hr;go_wp2_with fail;go_ret;exact ⟨by rw[HE.o];rfl,za.alloc _ _ _⟩
 have gr:((r:Int) == 0)=true:=eqb (by omega);have HE:Box (res=true):=hid (by rw[HB.o];simp[ha,hb,hn,hr]);clear HB;clear ha hb hn hr;go_wp2_with fail;go_ret;exact ⟨by rw[HE.o];rfl,za.alloc _ _ _⟩
theorem ziM(d a b n:Int)(ar:List Int)(p:Option Addr)(cp:Nat)(w:World):Calls Tryz.prog 236 #[agg #[int i64 6,int i64 d,int i64 a,int i64 b,int i64 n,.slice p ar.length cp]] w fun e w'=>e=.returned (.bool (zu ⟨6,d,a,b,n,ar⟩))∧za [] w w':=by
 have HB:Box (zu ⟨6,d,a,b,n,ar⟩=(decide (b=0) && (decide (n=0) && (decide (ar.length=0))))):=hid (by simp[zu,J5,Qv,Qf,JK,JJ]);generalize zu ⟨6,d,a,b,n,ar⟩=res at *;generalize ar.length=r at *;go_enter Tryz.func236,Tryz.ntmps236;go_upto_region 28 with fail;by_cases hb:b=0
 case neg=>
  have gb:(b == 0)=false:=neb (by omega);have HE:Box (res=false):=hid (by rw[HB.o];simp[hb]);clear HB;clear hb;go_wp2_with fail;go_ret;exact ⟨by rw[HE.o];rfl,za.alloc _ _ _⟩
 have gb:(b == 0)=true:=eqb (by omega);by_cases hn:n=0
 case neg=>
  have gn:(n == 0)=false:=neb (by omega);have HE:Box (res=false):=hid (by rw[HB.o];simp[hb,hn]);clear HB;clear hb hn;go_wp2_with fail;go_ret;exact ⟨by rw[HE.o];rfl,za.alloc _ _ _⟩
 have gn:(n == 0)=true:=eqb (by omega);by_cases hr:r=0
 case neg=>
  have gr:((r:Int) == 0)=false:=neb (by omega);have HE:Box (res=false):=hid (by rw[HB.o];simp[hb,hn,hr]);clear HB;clear hb hn hr;go_wp2_with fail;go_ret;exact ⟨by rw[HE.o];rfl,za.alloc _ _ _⟩
 have gr:((r:Int) == 0)=true:=eqb (by omega);have HE:Box (res=true):=hid (by rw[HB.o];simp[hb,hn,hr]);clear HB;clear hb hn hr;go_wp2_with fail;go_ret;exact ⟨by rw[HE.o];rfl,za.alloc _ _ _⟩
theorem zis(d a b n:Int)(ar:List Int)(p:Option Addr)(cp:Nat)(w:World):Calls Tryz.prog 236 #[agg #[int i64 7,int i64 d,int i64 a,int i64 b,int i64 n,.slice p ar.length cp]] w fun e w'=>e=.returned (.bool (zu ⟨7,d,a,b,n,ar⟩))∧za [] w w':=by
 have HB:Box (zu ⟨7,d,a,b,n,ar⟩=(decide (b=0) && (decide (ar.length=0)))):=hid (by simp[zu,J5,Qv,Qf,JK,JJ]);generalize zu ⟨7,d,a,b,n,ar⟩=res at *;generalize ar.length=r at *;go_enter Tryz.func236,Tryz.ntmps236;go_upto_region 28 with fail;by_cases hb:b=0
 case neg=>
  have gb:(b == 0)=false:=neb (by omega);have HE:Box (res=false):=hid (by rw[HB.o];simp[hb]);clear HB;clear hb;go_wp2_with fail;go_ret;exact ⟨by rw[HE.o];rfl,za.alloc _ _ _⟩
 have gb:(b == 0)=true:=eqb (by omega);by_cases hr:r=0
 case neg=>
  have gr:((r:Int) == 0)=false:=neb (by omega);have HE:Box (res=false):=hid (by rw[HB.o];simp[hb,hr]);clear HB;clear hb hr;go_wp2_with fail;go_ret;exact ⟨by rw[HE.o];rfl,za.alloc _ _ _⟩
 have gr:((r:Int) == 0)=true:=eqb (by omega);have HE:Box (res=true):=hid (by rw[HB.o];simp[hb,hr]);clear HB;clear hb hr;go_wp2_with fail;go_ret;exact ⟨by rw[HE.o];rfl,za.alloc _ _ _⟩
theorem ziz(d a b n:Int)(ar:List Int)(p:Option Addr)(cp:Nat)(w:World):Calls Tryz.prog 236 #[agg #[int i64 8,int i64 d,int i64 a,int i64 b,int i64 n,.slice p ar.length cp]] w fun e w'=>e=.returned (.bool (zu ⟨8,d,a,b,n,ar⟩))∧za [] w w':=by
 have HB:Box (zu ⟨8,d,a,b,n,ar⟩=(decide (d=0) && (decide (ar.length=0)))):=hid (by simp[zu,J5,Qv,Qf,JK,JJ]);generalize zu ⟨8,d,a,b,n,ar⟩=res at *;generalize ar.length=r at *;go_enter Tryz.func236,Tryz.ntmps236;go_upto_region 28 with fail;by_cases hd:d=0
 case neg=>
  have gd:(d == 0)=false:=neb (by omega);have HE:Box (res=false):=hid (by rw[HB.o];simp[hd]);clear HB;clear hd;go_wp2_with fail;go_ret;exact ⟨by rw[HE.o];rfl,za.alloc _ _ _⟩
 have gd:(d == 0)=true:=eqb (by omega);by_cases hr:r=0
 case neg=>
  have gr:((r:Int) == 0)=false:=neb (by omega);have HE:Box (res=false):=hid (by rw[HB.o];simp[hd,hr]);clear HB;clear hd hr;go_wp2_with fail;go_ret;exact ⟨by rw[HE.o];rfl,za.alloc _ _ _⟩
 have gr:((r:Int) == 0)=true:=eqb (by omega);have HE:Box (res=true):=hid (by rw[HB.o];simp[hd,hr]);clear HB;clear hd hr;go_wp2_with fail;go_ret;exact ⟨by rw[HE.o];rfl,za.alloc _ _ _⟩
theorem zif(d a b n:Int)(ar:List Int)(p:Option Addr)(cp:Nat)(w:World):Calls Tryz.prog 236 #[agg #[int i64 9,int i64 d,int i64 a,int i64 b,int i64 n,.slice p ar.length cp]] w fun e w'=>e=.returned (.bool (zu ⟨9,d,a,b,n,ar⟩))∧za [] w w':=by
 have HB:Box (zu ⟨9,d,a,b,n,ar⟩=(decide (d=0) && (decide (b=0) && (decide (n=0) && (decide (ar.length=0)))))):=hid (by simp[zu,J5,Qv,Qf,JK,JJ]);generalize zu ⟨9,d,a,b,n,ar⟩=res at *;generalize ar.length=r at *;go_enter Tryz.func236,Tryz.ntmps236;go_upto_region 28 with fail;by_cases hd:d=0
 case neg=>
  have gd:(d == 0)=false:=neb (by omega);have HE:Box (res=false):=hid (by rw[HB.o];simp[hd]);clear HB;clear hd;go_wp2_with fail;go_ret;exact ⟨by rw[HE.o];rfl,za.alloc _ _ _⟩
 have gd:(d == 0)=true:=eqb (by omega);by_cases hb:b=0
 case neg=>
  have gb:(b == 0)=false:=neb (by omega);have HE:Box (res=false):=hid (by rw[HB.o];simp[hd,hb]);clear HB;clear hd hb;go_wp2_with fail;go_ret;exact ⟨by rw[HE.o];rfl,za.alloc _ _ _⟩
 have gb:(b == 0)=true:=eqb (by omega);by_cases hn:n=0
 case neg=>
  have gn:(n == 0)=false:=neb (by omega);have HE:Box (res=false):=hid (by rw[HB.o];simp[hd,hb,hn]);clear HB;clear hd hb hn;go_wp2_with fail;go_ret;exact ⟨by rw[HE.o];rfl,za.alloc _ _ _⟩
 have gn:(n == 0)=true:=eqb (by omega);by_cases hr:r=0
 case neg=>
  have gr:((r:Int) == 0)=false:=neb (by omega);have HE:Box (res=false):=hid (by rw[HB.o];simp[hd,hb,hn,hr]);clear HB;clear hd hb hn hr;go_wp2_with fail;go_ret;exact ⟨by rw[HE.o];rfl,za.alloc _ _ _⟩
 have gr:((r:Int) == 0)=true:=eqb (by omega);have HE:Box (res=true):=hid (by rw[HB.o];simp[hd,hb,hn,hr]);clear HB;clear hd hb hn hr;go_wp2_with fail;go_ret;exact ⟨by rw[HE.o];rfl,za.alloc _ _ _⟩
theorem zhk(d a b n:Int)(ar:List Int)(p:Option Addr)(cp:Nat)(w:World):Calls Tryz.prog 236 #[agg #[int i64 10,int i64 d,int i64 a,int i64 b,int i64 n,.slice p ar.length cp]] w fun e w'=>e=.returned (.bool (zu ⟨10,d,a,b,n,ar⟩))∧za [] w w':=by
 have HB:Box (zu ⟨10,d,a,b,n,ar⟩=(decide (a=0) && (decide (b=0) && (decide (ar.length=0))))):=hid (by simp[zu,J5,Qv,Qf,JK,JJ]);generalize zu ⟨10,d,a,b,n,ar⟩=res at *;generalize ar.length=r at *;go_enter Tryz.func236,Tryz.ntmps236;go_upto_region 28 with fail;by_cases ha:a=0
 case neg=>
  have ga:(a == 0)=false:=neb (by omega);have HE:Box (res=false):=hid (by rw[HB.o];simp[ha]);clear HB;clear ha;go_wp2_with fail;go_ret;exact ⟨by rw[HE.o];rfl,za.alloc _ _ _⟩
 have ga:(a == 0)=true:=eqb (by omega);by_cases hb:b=0
 case neg=>
  have gb:(b == 0)=false:=neb (by omega);have HE:Box (res=false):=hid (by rw[HB.o];simp[ha,hb]);clear HB;clear ha hb;go_wp2_with fail;go_ret;exact ⟨by rw[HE.o];rfl,za.alloc _ _ _⟩
 have gb:(b == 0)=true:=eqb (by omega);by_cases hr:r=0
 case neg=>
  have gr:((r:Int) == 0)=false:=neb (by omega);have HE:Box (res=false):=hid (by rw[HB.o];simp[ha,hb,hr]);clear HB;clear ha hb hr;go_wp2_with fail;go_ret;exact ⟨by rw[HE.o];rfl,za.alloc _ _ _⟩
 have gr:((r:Int) == 0)=true:=eqb (by omega);have HE:Box (res=true):=hid (by rw[HB.o];simp[ha,hb,hr]);clear HB;clear ha hb hr;go_wp2_with fail;go_ret;exact ⟨by rw[HE.o];rfl,za.alloc _ _ _⟩
theorem zhD(d a b n:Int)(ar:List Int)(p:Option Addr)(cp:Nat)(w:World):Calls Tryz.prog 236 #[agg #[int i64 11,int i64 d,int i64 a,int i64 b,int i64 n,.slice p ar.length cp]] w fun e w'=>e=.returned (.bool (zu ⟨11,d,a,b,n,ar⟩))∧za [] w w':=by
 have HB:Box (zu ⟨11,d,a,b,n,ar⟩=(decide (b=0) && (decide (n=0) && (decide (ar.length=0))))):=hid (by simp[zu,J5,Qv,Qf,JK,JJ]);generalize zu ⟨11,d,a,b,n,ar⟩=res at *;generalize ar.length=r at *;go_enter Tryz.func236,Tryz.ntmps236;go_upto_region 28 with fail;by_cases hb:b=0
 case neg=>
  have gb:(b == 0)=false:=neb (by omega);have HE:Box (res=false):=hid (by rw[HB.o];simp[hb]);clear HB;clear hb;go_wp2_with fail;go_ret;exact ⟨by rw[HE.o];rfl,za.alloc _ _ _⟩
 have gb:(b == 0)=true:=eqb (by omega);by_cases hn:n=0
 case neg=>
  have gn:(n == 0)=false:=neb (by omega);have HE:Box (res=false):=hid (by rw[HB.o];simp[hb,hn]);clear HB;clear hb hn;go_wp2_with fail;go_ret;exact ⟨by rw[HE.o];rfl,za.alloc _ _ _⟩
 have gn:(n == 0)=true:=eqb (by omega);by_cases hr:r=0
 case neg=>
  have gr:((r:Int) == 0)=false:=neb (by omega);have HE:Box (res=false):=hid (by rw[HB.o];simp[hb,hn,hr]);clear HB;clear hb hn hr;go_wp2_with fail;go_ret;exact ⟨by rw[HE.o];rfl,za.alloc _ _ _⟩
 have gr:((r:Int) == 0)=true:=eqb (by omega);have HE:Box (res=true):=hid (by rw[HB.o];simp[hb,hn,hr]);clear HB;clear hb hn hr;go_wp2_with fail;go_ret;exact ⟨by rw[HE.o];rfl,za.alloc _ _ _⟩
theorem zgJ(d a b n:Int)(ar:List Int)(p:Option Addr)(cp:Nat)(w:World):Calls Tryz.prog 236 #[agg #[int i64 12,int i64 d,int i64 a,int i64 b,int i64 n,.slice p ar.length cp]] w fun e w'=>e=.returned (.bool (zu ⟨12,d,a,b,n,ar⟩))∧za [] w w':=by
 have HB:Box (zu ⟨12,d,a,b,n,ar⟩=(decide (a=0) && (decide (b=0)))):=hid (by simp[zu,J5,Qv,Qf,JK,JJ]);generalize zu ⟨12,d,a,b,n,ar⟩=res at *;generalize ar.length=r at *;go_enter Tryz.func236,Tryz.ntmps236;go_upto_region 28 with fail;by_cases ha:a=0
 case neg=>
  have ga:(a == 0)=false:=neb (by omega);have HE:Box (res=false):=hid (by rw[HB.o];simp[ha]);clear HB;clear ha;go_wp2_with fail;go_ret;exact ⟨by rw[HE.o];rfl,za.alloc _ _ _⟩
 have ga:(a == 0)=true:=eqb (by omega);by_cases hb:b=0
 case neg=>
  have gb:(b == 0)=false:=neb (by omega);have HE:Box (res=false):=hid (by rw[HB.o];simp[ha,hb]);clear HB;clear ha hb;go_wp2_with fail;go_ret;exact ⟨by rw[HE.o];rfl,za.alloc _ _ _⟩
 have gb:(b == 0)=true:=eqb (by omega);have HE:Box (res=true):=hid (by rw[HB.o];simp[ha,hb]);clear HB;clear ha hb;go_wp2_with fail;go_ret;exact ⟨by rw[HE.o];rfl,za.alloc _ _ _⟩
theorem zgM(d a b n:Int)(ar:List Int)(p:Option Addr)(cp:Nat)(w:World):Calls Tryz.prog 236 #[agg #[int i64 13,int i64 d,int i64 a,int i64 b,int i64 n,.slice p ar.length cp]] w fun e w'=>e=.returned (.bool (zu ⟨13,d,a,b,n,ar⟩))∧za [] w w':=by
 have HB:Box (zu ⟨13,d,a,b,n,ar⟩=(decide (b=0) && (decide (n=0)))):=hid (by simp[zu,J5,Qv,Qf,JK,JJ]);generalize zu ⟨13,d,a,b,n,ar⟩=res at *;generalize ar.length=r at *;go_enter Tryz.func236,Tryz.ntmps236;go_upto_region 28 with fail;by_cases hb:b=0
 case neg=>
  have gb:(b == 0)=false:=neb (by omega);have HE:Box (res=false):=hid (by rw[HB.o];simp[hb]);clear HB;clear hb;go_wp2_with fail;go_ret;exact ⟨by rw[HE.o];rfl,za.alloc _ _ _⟩
 have gb:(b == 0)=true:=eqb (by omega);by_cases hn:n=0
 case neg=>
  have gn:(n == 0)=false:=neb (by omega);have HE:Box (res=false):=hid (by rw[HB.o];simp[hb,hn]);clear HB;clear hb hn;go_wp2_with fail;go_ret;exact ⟨by rw[HE.o];rfl,za.alloc _ _ _⟩
 have gn:(n == 0)=true:=eqb (by omega);have HE:Box (res=true):=hid (by rw[HB.o];simp[hb,hn]);clear HB;clear hb hn;go_wp2_with fail;go_ret;exact ⟨by rw[HE.o];rfl,za.alloc _ _ _⟩
theorem zgL(d a b n:Int)(ar:List Int)(p:Option Addr)(cp:Nat)(w:World):Calls Tryz.prog 236 #[agg #[int i64 14,int i64 d,int i64 a,int i64 b,int i64 n,.slice p ar.length cp]] w fun e w'=>e=.returned (.bool (zu ⟨14,d,a,b,n,ar⟩))∧za [] w w':=by
 have HB:Box (zu ⟨14,d,a,b,n,ar⟩=(decide (b=0))):=hid (by simp[zu,J5,Qv,Qf,JK,JJ]);generalize zu ⟨14,d,a,b,n,ar⟩=res at *;generalize ar.length=r at *;go_enter Tryz.func236,Tryz.ntmps236;go_upto_region 28 with fail;by_cases hb:b=0
 case neg=>
  have gb:(b == 0)=false:=neb (by omega);have HE:Box (res=false):=hid (by rw[HB.o];simp[hb]);clear HB;clear hb;go_wp2_with fail;go_ret;exact ⟨by rw[HE.o];rfl,za.alloc _ _ _⟩
 have gb:(b == 0)=true:=eqb (by omega);have HE:Box (res=true):=hid (by rw[HB.o];simp[hb]);clear HB;clear hb;go_wp2_with fail;go_ret;exact ⟨by rw[HE.o];rfl,za.alloc _ _ _⟩
theorem zgF(d a b n:Int)(ar:List Int)(p:Option Addr)(cp:Nat)(w:World):Calls Tryz.prog 236 #[agg #[int i64 15,int i64 d,int i64 a,int i64 b,int i64 n,.slice p ar.length cp]] w fun e w'=>e=.returned (.bool (zu ⟨15,d,a,b,n,ar⟩))∧za [] w w':=by
 have HB:Box (zu ⟨15,d,a,b,n,ar⟩=(decide (d=0) && (decide (b=0) && (decide (n=0) && (decide (ar.length=0)))))):=hid (by simp[zu,J5,Qv,Qf,JK,JJ]);generalize zu ⟨15,d,a,b,n,ar⟩=res at *;generalize ar.length=r at *;go_enter Tryz.func236,Tryz.ntmps236;go_upto_region 28 with fail;by_cases hd:d=0
 case neg=>
  have gd:(d == 0)=false:=neb (by omega);have HE:Box (res=false):=hid (by rw[HB.o];simp[hd]);clear HB;clear hd;go_wp2_with fail;go_ret;exact ⟨by rw[HE.o];rfl,za.alloc _ _ _⟩
 have gd:(d == 0)=true:=eqb (by omega);by_cases hb:b=0
 case neg=>
  have gb:(b == 0)=false:=neb (by omega);have HE:Box (res=false):=hid (by rw[HB.o];simp[hd,hb]);clear HB;clear hd hb;go_wp2_with fail;go_ret;exact ⟨by rw[HE.o];rfl,za.alloc _ _ _⟩
 have gb:(b == 0)=true:=eqb (by omega);by_cases hn:n=0
 case neg=>
  have gn:(n == 0)=false:=neb (by omega);have HE:Box (res=false):=hid (by rw[HB.o];simp[hd,hb,hn]);clear HB;clear hd hb hn;go_wp2_with fail;go_ret;exact ⟨by rw[HE.o];rfl,za.alloc _ _ _⟩
 have gn:(n == 0)=true:=eqb (by omega);by_cases hr:r=0
 case neg=>
  have gr:((r:Int) == 0)=false:=neb (by omega);have HE:Box (res=false):=hid (by rw[HB.o];simp[hd,hb,hn,hr]);clear HB;clear hd hb hn hr;go_wp2_with fail;go_ret;exact ⟨by rw[HE.o];rfl,za.alloc _ _ _⟩
 have gr:((r:Int) == 0)=true:=eqb (by omega);have HE:Box (res=true):=hid (by rw[HB.o];simp[hd,hb,hn,hr]);clear HB;clear hd hb hn hr;go_wp2_with fail;go_ret;exact ⟨by rw[HE.o];rfl,za.alloc _ _ _⟩
theorem zhx(o d a b n:Int)(ar:List Int)(p:Option Addr)(cp:Nat)(w:World)(hop:¬ (1≤o∧o≤15)):Calls Tryz.prog 236 #[agg #[int i64 o,int i64 d,int i64 a,int i64 b,int i64 n,.slice p ar.length cp]] w fun e w'=>e=.returned (.bool (zu ⟨o,d,a,b,n,ar⟩))∧za [] w w':=by
 have HE:Box (zu ⟨o,d,a,b,n,ar⟩=false):=hid (by unfold zu;simp only[];rw[decide_eq_false hop];rfl);have o1:=neb (show o≠1 by omega);have o2:=neb (show o≠2 by omega);have o3:=neb (show o≠3 by omega);have o4:=neb (show o≠4 by omega);have o5:=neb (show o≠5 by omega);have o6:=neb (show o≠6 by omega);have o7:=neb (show o≠7 by omega);have o8:=neb (show o≠8 by omega);have o9:=neb (show o≠9 by omega);have o10:=neb (show o≠10 by omega);have o11:=neb (show o≠11 by omega);have o12:=neb (show o≠12 by omega);have o13:=neb (show o≠13 by omega);have o14:=neb (show o≠14 by omega);have o15:=neb (show o≠15 by omega);clear hop;generalize zu ⟨o,d,a,b,n,ar⟩=res at *;generalize ar.length=N at *;go_enter Tryz.func236,Tryz.ntmps236;go_wp2_with fail;go_ret;exact ⟨by rw[HE.o];rfl,za.alloc _ _ _⟩
theorem zf8{o:Int}(h:1≤o∧o≤15):o=1∨o=2∨o=3∨o=4∨o=5∨o=6∨o=7∨o=8∨o=9∨o=10∨o=11∨o=12∨o=13∨o=14∨o=15:=by omega
theorem zeW(x:In8)(p:Option Addr)(cp:Nat)(w:World):Calls Tryz.prog 236 #[zt x (.slice p x.args.length cp)] w fun e w'=>e=.returned (.bool (zu x))∧za [] w w':=by
 obtain ⟨o,d,a,b,n,ar⟩:=x;by_cases h:1≤o∧o≤15
 ·rcases zf8 h with rfl | rfl | rfl | rfl | rfl | rfl | rfl | rfl | rfl | rfl | rfl | rfl | rfl | rfl | rfl
  ·exact zi6 d a b n ar p cp w
  ·exact zi9 d a b n ar p cp w
  ·exact zi4 d a b n ar p cp w
  ·exact zin d a b n ar p cp w
  ·exact zjb d a b n ar p cp w
  ·exact ziM d a b n ar p cp w
  ·exact zis d a b n ar p cp w
  ·exact ziz d a b n ar p cp w
  ·exact zif d a b n ar p cp w
  ·exact zhk d a b n ar p cp w
  ·exact zhD d a b n ar p cp w
  ·exact zgJ d a b n ar p cp w
  ·exact zgM d a b n ar p cp w
  ·exact zgL d a b n ar p cp w
  ·exact zgF d a b n ar p cp w
 ·exact zhx o d a b n ar p cp w h
theorem ziG(hp:PrC w pb po P)(hf:FuC w fb fo f)(x:In8)(ar:Value)(har:ar=.slice a x.args.length cp)(hz:zw w a x.args)(hl:x.args.length≤1000)(hn:inB x.n P.funcs.length=true)(hop:x.op=12):Calls Tryz.prog 241 #[pointer (some ⟨pb,po,none⟩),pointer (some ⟨fb,fo,none⟩),zt x ar] w fun e w'=>e=.returned (.bool (match (jN P (zf P x.n.toNat).sig) with | none=>false | some s=>qo f x.args s.1 && tyE s.2 (zk f x.dst)))∧za [] w w':=by
 obtain ⟨O,hO⟩:∃ O,O=(jN P (zf P x.n.toNat).sig):=⟨_,rfl⟩;have HCL:=hid fun (w':World) (k:za [] w w')=>zcG (PrC.stays _ _ _ _ _ k hp) (FuC.stays _ _ _ _ _ k hf) x ar hop hn;rw[← hO] at HCL ⊢;obtain ⟨RES,hRES⟩:∃ r,r=(match O with | none=>false | some s=>qo f x.args s.1 && tyE s.2 (zk f x.dst)):=⟨_,rfl⟩;rw[← hRES];have HRES:=hid hRES;have HFU:=hid hf;have HZ:=hid hz;have HLL:=hid hl;have HAR:=hid har;clear hRES hO hp hz hl har hn;unfold zt at HCL;rw[hop] at HCL;have ka:=za.alloc [] w (.cells #[int i64 x.op,int i64 x.dst,int i64 x.a,int i64 x.b,int i64 x.n,ar] 54);have hn:=zd w (.cells #[int i64 x.op,int i64 x.dst,int i64 x.a,int i64 x.b,int i64 x.n,ar] 54);have HRT:=hid fun (r:Int) (w':World) (k:za [] w w')=>zn (FuC.stays _ _ _ _ _ k hf) r;have KA:=hid ka;have HN:=hid hn;clear hf ka hn;unfold zt;rw[hop] at KA HN ⊢;go_enter Tryz.func241,Tryz.ntmps241;go_upto_region 1 with fail;generalize w.alloc (.cells #[int i64 12,int i64 x.dst,int i64 x.a,int i64 x.b,int i64 x.n,ar] 54)=WA at *;generalize w.heap.size=q at *;have H1:=hid fun (w':World) (k:za [] WA w')=>HRT.o x.dst w' (KA.o.quiet k);have H2:=hid fun (w':World) (k:za [] WA w')=>HRT.o x.a w' (KA.o.quiet k);have H3:=hid fun (w':World) (k:za [] WA w')=>HRT.o x.b w' (KA.o.quiet k);generalize hT1:zk f x.dst=T1 at *;generalize hT2:zk f x.a=T2 at *;generalize hT3:zk f x.b=T3 at *;have HT1:=hid hT1;have HT2:=hid hT2;have HT3:=hid hT3;clear hT1 hT2 hT3;refine zT HN.o H1.o H2.o H3.o (fun _ _ _ _ _ h=>h) (fun w1 b7 b8 b9 hk t7 t8 t9=> ?_)
 all_goals
  have T7:Box (zY w1 b7 T1):=hid t7;have T8:Box (zY w1 b8 T2):=hid t8;have T9:Box (zY w1 b9 T3):=hid t9;have K1:=hid (KA.o.quiet hk);have h5:=ze HN.o hk;have i0:=zc h5 0;have HI5:=hid h5;clear t7 t8 t9 h5 H1 H2 H3 HN hk;have s0:=zc T7.o 0;have s1:=zc T7.o 1;have p0:=zc T8.o 0;have p1:=zc T8.o 1;have r0:=zc T9.o 0;have r1:=zc T9.o 1
  try simp only[HT1.o] at HRES
  have i1:=zc HI5.o 1;have i2:=zc HI5.o 2;have i3:=zc HI5.o 3;have i4:=zc HI5.o 4;have i5:=zc HI5.o 5;go_wp2_with fail;refine (HCL.o _ K1.o).mono ?_;intro e w3 h3;obtain ⟨k3,sa,sp,n,t1,t2,rfl,hs⟩:=h3.open;have KT:=k3.quiet (za.alloc [] w3 (.cells #[.slice sa n sp,int i64 t1,int i64 t2] 59));have hnn:=zd w3 (.cells #[.slice sa n sp,int i64 t1,int i64 t2] 59);have K3:=hid (K1.o.quiet KT);have K13:=hid KT;have HB:=hid hnn;have HS:=hid hs;clear h3 k3 KT hs hnn s0 s1 p0 p1 r0 r1 i0 i1 i2 i3 i4 i5;have b0:=zc HB.o 0;have i5:=zc (ze HI5.o K13.o) 5;rw[HAR.o] at i5;cases O with
  | none=>
   have HE:Box (RES=false):=HRES;simp only[Option.isSome_none];clear HRES HS;go_wp2_with fail;go_ret;exact ⟨by rw[HE.o];rfl,K3.o⟩
  | some s=>
   obtain ⟨e1,e2,e3,hrs,hm⟩:=HS.o s rfl;subst e1 e2 e3;have HCA:=hid (Q0 (cp:=cp) (pp:=sp) (FuC.stays _ _ _ _ _ K3.o HFU.o) (HZ.o.kept K3.o (fun _ _ _=>by simp)) HLL.o (zv.quiet hrs TyC.stays K13.o));clear hrs hm HS;simp only[Option.isSome_some];have HE:Box (RES=(qo f x.args s.1 && tyE s.2 T1)):=HRES;clear HRES;generalize qo f x.args s.1=AB at *;go_wp2_with fail;refine HCA.o.mono ?_;rintro e w6 ⟨rfl,k6⟩;have K6:=hid (K3.o.quiet k6);have hb6:=ze HB.o k6;have hd6:=ze T7.o (K13.o.quiet k6);have b1:=zc hb6 1;have b2:=zc hb6 2;have y0:=zc hd6 0;have y1:=zc hd6 1;clear k6 hb6 hd6 b0 i5;have re:=fun w'=>jk s.2.1 s.2.2 T1.1 T1.2 w';cases AB with
   | false=>
    have HF:Box (RES=false):=HE;clear HE;go_wp2_with fail;go_ret;exact ⟨by rw[HF.o];rfl,K6.o⟩
   | true=>
    have HF:Box (RES=tyE s.2 T1):=HE;clear HE;go_wp2_with fail;go_ret;exact ⟨by rw[HF.o];rfl,K6.o⟩
theorem ziR(hp:PrC w pb po P)(hf:FuC w fb fo f)(x:In8)(ar:Value)(har:ar=.slice a x.args.length cp)(hz:zw w a x.args)(hl:x.args.length≤1000)(hop:x.op=13):Calls Tryz.prog 241 #[pointer (some ⟨pb,po,none⟩),pointer (some ⟨fb,fo,none⟩),zt x ar] w fun e w'=>e=.returned (.bool (match (if (zk f x.a).1=2 then jN P (zk f x.a).2 else none) with | none=>false | some s=>qo f x.args s.1 && tyE s.2 (zk f x.dst)))∧za [] w w':=by
 obtain ⟨O,hO⟩:∃ O,O=(if (zk f x.a).1=2 then jN P (zk f x.a).2 else none):=⟨_,rfl⟩;have HCL:=hid fun (w':World) (k:za [] w w')=>zcn (PrC.stays _ _ _ _ _ k hp) (FuC.stays _ _ _ _ _ k hf) x ar hop;rw[← hO] at HCL ⊢;obtain ⟨RES,hRES⟩:∃ r,r=(match O with | none=>false | some s=>qo f x.args s.1 && tyE s.2 (zk f x.dst)):=⟨_,rfl⟩;rw[← hRES];have HRES:=hid hRES;have HFU:=hid hf;have HZ:=hid hz;have HLL:=hid hl;have HAR:=hid har;clear hRES hO hp hz hl har;unfold zt at HCL;rw[hop] at HCL;have ka:=za.alloc [] w (.cells #[int i64 x.op,int i64 x.dst,int i64 x.a,int i64 x.b,int i64 x.n,ar] 54);have hn:=zd w (.cells #[int i64 x.op,int i64 x.dst,int i64 x.a,int i64 x.b,int i64 x.n,ar] 54);have HRT:=hid fun (r:Int) (w':World) (k:za [] w w')=>zn (FuC.stays _ _ _ _ _ k hf) r;have KA:=hid ka;have HN:=hid hn;clear hf ka hn;unfold zt;rw[hop] at KA HN ⊢;go_enter Tryz.func241,Tryz.ntmps241;go_upto_region 1 with fail;generalize w.alloc (.cells #[int i64 13,int i64 x.dst,int i64 x.a,int i64 x.b,int i64 x.n,ar] 54)=WA at *;generalize w.heap.size=q at *;have H1:=hid fun (w':World) (k:za [] WA w')=>HRT.o x.dst w' (KA.o.quiet k);have H2:=hid fun (w':World) (k:za [] WA w')=>HRT.o x.a w' (KA.o.quiet k);have H3:=hid fun (w':World) (k:za [] WA w')=>HRT.o x.b w' (KA.o.quiet k);generalize hT1:zk f x.dst=T1 at *;generalize hT2:zk f x.a=T2 at *;generalize hT3:zk f x.b=T3 at *;have HT1:=hid hT1;have HT2:=hid hT2;have HT3:=hid hT3;clear hT1 hT2 hT3;refine zT HN.o H1.o H2.o H3.o (fun _ _ _ _ _ h=>h) (fun w1 b7 b8 b9 hk t7 t8 t9=> ?_)
 all_goals
  have T7:Box (zY w1 b7 T1):=hid t7;have T8:Box (zY w1 b8 T2):=hid t8;have T9:Box (zY w1 b9 T3):=hid t9;have K1:=hid (KA.o.quiet hk);have h5:=ze HN.o hk;have i0:=zc h5 0;have HI5:=hid h5;clear t7 t8 t9 h5 H1 H2 H3 HN hk;have s0:=zc T7.o 0;have s1:=zc T7.o 1;have p0:=zc T8.o 0;have p1:=zc T8.o 1;have r0:=zc T9.o 0;have r1:=zc T9.o 1
  try simp only[HT1.o] at HRES
  have i1:=zc HI5.o 1;have i2:=zc HI5.o 2;have i3:=zc HI5.o 3;have i4:=zc HI5.o 4;have i5:=zc HI5.o 5;go_wp2_with fail;refine (HCL.o _ K1.o).mono ?_;intro e w3 h3;obtain ⟨k3,sa,sp,n,t1,t2,rfl,hs⟩:=h3.open;have KT:=k3.quiet (za.alloc [] w3 (.cells #[.slice sa n sp,int i64 t1,int i64 t2] 59));have hnn:=zd w3 (.cells #[.slice sa n sp,int i64 t1,int i64 t2] 59);have K3:=hid (K1.o.quiet KT);have K13:=hid KT;have HB:=hid hnn;have HS:=hid hs;clear h3 k3 KT hs hnn s0 s1 p0 p1 r0 r1 i0 i1 i2 i3 i4 i5;have b0:=zc HB.o 0;have i5:=zc (ze HI5.o K13.o) 5;rw[HAR.o] at i5;cases O with
  | none=>
   have HE:Box (RES=false):=HRES;simp only[Option.isSome_none];clear HRES HS;go_wp2_with fail;go_ret;exact ⟨by rw[HE.o];rfl,K3.o⟩
  | some s=>
   obtain ⟨e1,e2,e3,hrs,hm⟩:=HS.o s rfl;subst e1 e2 e3;have HCA:=hid (Q0 (cp:=cp) (pp:=sp) (FuC.stays _ _ _ _ _ K3.o HFU.o) (HZ.o.kept K3.o (fun _ _ _=>by simp)) HLL.o (zv.quiet hrs TyC.stays K13.o));clear hrs hm HS;simp only[Option.isSome_some];have HE:Box (RES=(qo f x.args s.1 && tyE s.2 T1)):=HRES;clear HRES;generalize qo f x.args s.1=AB at *;go_wp2_with fail;refine HCA.o.mono ?_;rintro e w6 ⟨rfl,k6⟩;have K6:=hid (K3.o.quiet k6);have hb6:=ze HB.o k6;have hd6:=ze T7.o (K13.o.quiet k6);have b1:=zc hb6 1;have b2:=zc hb6 2;have y0:=zc hd6 0;have y1:=zc hd6 1;clear k6 hb6 hd6 b0 i5;have re:=fun w'=>jk s.2.1 s.2.2 T1.1 T1.2 w';cases AB with
   | false=>
    have HF:Box (RES=false):=HE;clear HE;go_wp2_with fail;go_ret;exact ⟨by rw[HF.o];rfl,K6.o⟩
   | true=>
    have HF:Box (RES=tyE s.2 T1):=HE;clear HE;go_wp2_with fail;go_ret;exact ⟨by rw[HF.o];rfl,K6.o⟩
theorem ziJ(hp:PrC w pb po P)(hf:FuC w fb fo f)(x:In8)(ar:Value)(har:ar=.slice a x.args.length cp)(hz:zw w a x.args)(hl:x.args.length≤1000)(hop:x.op=14):Calls Tryz.prog 241 #[pointer (some ⟨pb,po,none⟩),pointer (some ⟨fb,fo,none⟩),zt x ar] w fun e w'=>e=.returned (.bool (match (qV P (zk f x.a) x.n) with | none=>false | some s=>qo f x.args s.1 && tyE s.2 (zk f x.dst)))∧za [] w w':=by
 obtain ⟨O,hO⟩:∃ O,O=(qV P (zk f x.a) x.n):=⟨_,rfl⟩;have HCL:=hid fun (w':World) (k:za [] w w')=>zcv (PrC.stays _ _ _ _ _ k hp) (FuC.stays _ _ _ _ _ k hf) x ar hop;rw[← hO] at HCL ⊢;obtain ⟨RES,hRES⟩:∃ r,r=(match O with | none=>false | some s=>qo f x.args s.1 && tyE s.2 (zk f x.dst)):=⟨_,rfl⟩;rw[← hRES];have HRES:=hid hRES;have HFU:=hid hf;have HZ:=hid hz;have HLL:=hid hl;have HAR:=hid har;clear hRES hO hp hz hl har;unfold zt at HCL;rw[hop] at HCL;have ka:=za.alloc [] w (.cells #[int i64 x.op,int i64 x.dst,int i64 x.a,int i64 x.b,int i64 x.n,ar] 54);have hn:=zd w (.cells #[int i64 x.op,int i64 x.dst,int i64 x.a,int i64 x.b,int i64 x.n,ar] 54);have HRT:=hid fun (r:Int) (w':World) (k:za [] w w')=>zn (FuC.stays _ _ _ _ _ k hf) r;have KA:=hid ka;have HN:=hid hn;clear hf ka hn;unfold zt;rw[hop] at KA HN ⊢;go_enter Tryz.func241,Tryz.ntmps241;go_upto_region 1 with fail;generalize w.alloc (.cells #[int i64 14,int i64 x.dst,int i64 x.a,int i64 x.b,int i64 x.n,ar] 54)=WA at *;generalize w.heap.size=q at *;have H1:=hid fun (w':World) (k:za [] WA w')=>HRT.o x.dst w' (KA.o.quiet k);have H2:=hid fun (w':World) (k:za [] WA w')=>HRT.o x.a w' (KA.o.quiet k);have H3:=hid fun (w':World) (k:za [] WA w')=>HRT.o x.b w' (KA.o.quiet k);generalize hT1:zk f x.dst=T1 at *;generalize hT2:zk f x.a=T2 at *;generalize hT3:zk f x.b=T3 at *;have HT1:=hid hT1;have HT2:=hid hT2;have HT3:=hid hT3;clear hT1 hT2 hT3;refine zT HN.o H1.o H2.o H3.o (fun _ _ _ _ _ h=>h) (fun w1 b7 b8 b9 hk t7 t8 t9=> ?_)
 all_goals
  have T7:Box (zY w1 b7 T1):=hid t7;have T8:Box (zY w1 b8 T2):=hid t8;have T9:Box (zY w1 b9 T3):=hid t9;have K1:=hid (KA.o.quiet hk);have h5:=ze HN.o hk;have i0:=zc h5 0;have HI5:=hid h5;clear t7 t8 t9 h5 H1 H2 H3 HN hk;have s0:=zc T7.o 0;have s1:=zc T7.o 1;have p0:=zc T8.o 0;have p1:=zc T8.o 1;have r0:=zc T9.o 0;have r1:=zc T9.o 1
  try simp only[HT1.o] at HRES
  have i1:=zc HI5.o 1;have i2:=zc HI5.o 2;have i3:=zc HI5.o 3;have i4:=zc HI5.o 4;have i5:=zc HI5.o 5;go_wp2_with fail;refine (HCL.o _ K1.o).mono ?_;intro e w3 h3;obtain ⟨k3,sa,sp,n,t1,t2,rfl,hs⟩:=h3.open;have KT:=k3.quiet (za.alloc [] w3 (.cells #[.slice sa n sp,int i64 t1,int i64 t2] 59));have hnn:=zd w3 (.cells #[.slice sa n sp,int i64 t1,int i64 t2] 59);have K3:=hid (K1.o.quiet KT);have K13:=hid KT;have HB:=hid hnn;have HS:=hid hs;clear h3 k3 KT hs hnn s0 s1 p0 p1 r0 r1 i0 i1 i2 i3 i4 i5;have b0:=zc HB.o 0;have i5:=zc (ze HI5.o K13.o) 5;rw[HAR.o] at i5;cases O with
  | none=>
   have HE:Box (RES=false):=HRES;simp only[Option.isSome_none];clear HRES HS;go_wp2_with fail;go_ret;exact ⟨by rw[HE.o];rfl,K3.o⟩
  | some s=>
   obtain ⟨e1,e2,e3,hrs,hm⟩:=HS.o s rfl;subst e1 e2 e3;have HCA:=hid (Q0 (cp:=cp) (pp:=sp) (FuC.stays _ _ _ _ _ K3.o HFU.o) (HZ.o.kept K3.o (fun _ _ _=>by simp)) HLL.o (zv.quiet hrs TyC.stays K13.o));clear hrs hm HS;simp only[Option.isSome_some];have HE:Box (RES=(qo f x.args s.1 && tyE s.2 T1)):=HRES;clear HRES;generalize qo f x.args s.1=AB at *;go_wp2_with fail;refine HCA.o.mono ?_;rintro e w6 ⟨rfl,k6⟩;have K6:=hid (K3.o.quiet k6);have hb6:=ze HB.o k6;have hd6:=ze T7.o (K13.o.quiet k6);have b1:=zc hb6 1;have b2:=zc hb6 2;have y0:=zc hd6 0;have y1:=zc hd6 1;clear k6 hb6 hd6 b0 i5;have re:=fun w'=>jk s.2.1 s.2.2 T1.1 T1.2 w';cases AB with
   | false=>
    have HF:Box (RES=false):=HE;clear HE;go_wp2_with fail;go_ret;exact ⟨by rw[HF.o];rfl,K6.o⟩
   | true=>
    have HF:Box (RES=tyE s.2 T1):=HE;clear HE;go_wp2_with fail;go_ret;exact ⟨by rw[HF.o];rfl,K6.o⟩
def qJ(P:Pr8)(f:Fu8)(x:In8):Bool:=zu x && (JV f.regs.length x && ZY P f x)
theorem zdP(h:PrC w pb po P)(hf:FuC w fb fo f)(x:In8)(hz:zw w a x.args)(hl:x.args.length≤1000):Calls Tryz.prog 192 #[pointer (some ⟨pb,po,none⟩),pointer (some ⟨fb,fo,none⟩),zt x (.slice a x.args.length cp)] w fun e w'=>e=.returned (.bool (qJ P f x))∧za [] w w':=by
 have ka:=za.alloc [] w (.cells #[int i64 x.op,int i64 x.dst,int i64 x.a,int i64 x.b,int i64 x.n,.slice a x.args.length cp] 54);have hn:=zd w (.cells #[int i64 x.op,int i64 x.dst,int i64 x.a,int i64 x.b,int i64 x.n,.slice a x.args.length cp] 54);have H1:=hid fun (w':World)=>zeW x a cp w';have H2:=hid fun (w':World) (k:za [] w w')=>zch (cp:=cp) (FuC.stays _ _ _ _ _ k hf) x (hz.kept k (fun _ _ _=>by simp)) hl;have H3:=hid fun (w':World) (k:za [] w w')=>zh9 (PrC.stays _ _ _ _ _ k h) (FuC.stays _ _ _ _ _ k hf) x (.slice a x.args.length cp);have HE:Box (qJ P f x=(zu x && (JV f.regs.length x && ZY P f x))):=hid rfl;have IN:Box (∀ w',za [] (w.alloc (.cells #[int i64 x.op,int i64 x.dst,int i64 x.a,int i64 x.b,int i64 x.n,.slice a x.args.length cp] 54)) w'→InW w' w.heap.size x (.slice a x.args.length cp)):=hid fun w' k=>by
  have:=ze hn k;exact ⟨zc this 0,zc this 1,zc this 2,zc this 3,zc this 4,zc this 5⟩
 have KA:=hid ka;clear h hf hz hl ka hn;unfold zt at *;generalize qJ P f x=res at *;generalize zu x=r1 at *;generalize JV f.regs.length x=r2 at *;generalize ZY P f x=r3 at *;go_enter Tryz.func192,Tryz.ntmps192;go_upto_region 1 with fail;generalize w.alloc (.cells #[int i64 x.op,int i64 x.dst,int i64 x.a,int i64 x.b,int i64 x.n,.slice a x.args.length cp] 54)=WA at *;generalize w.heap.size=q at *;obtain ⟨d0,d1,d2,d3,d4,d5⟩:=IN.o _ (za.refl _ _);go_wp2_with fail;refine (H1.o _).mono ?_;rintro e w1 ⟨rfl,k1⟩;have K1:=hid (KA.o.quiet k1);clear d0 d1 d2 d3 d4 d5;cases r1 with
 | false=>
  have HR:Box (res=false):=hid (by rw[HE.o];rfl);clear HE k1;go_wp2_with fail;go_ret;exact ⟨by rw[HR.o];rfl,K1.o⟩
 | true=>
  obtain ⟨d0,d1,d2,d3,d4,d5⟩:=IN.o _ k1;have KW1:=hid k1;clear k1;go_wp2_with fail;refine (H2.o _ K1.o).mono ?_;rintro e w2 ⟨rfl,k2⟩;have K2:=hid (K1.o.quiet k2);clear d0 d1 d2 d3 d4 d5;cases r2 with
  | false=>
   have HR:Box (res=false):=hid (by rw[HE.o];rfl);clear HE k2;go_wp2_with fail;go_ret;exact ⟨by rw[HR.o];rfl,K2.o⟩
  | true=>
   obtain ⟨d0,d1,d2,d3,d4,d5⟩:=IN.o _ (KW1.o.quiet k2);clear k2;go_wp2_with fail;refine (H3.o _ K2.o).mono ?_;rintro e w3 ⟨rfl,k3⟩;have K3:=hid (K2.o.quiet k3);clear k3;have HR:Box (res=r3):=hid (by rw[HE.o];rfl);clear HE;go_wp2_with fail;go_ret;exact ⟨by rw[HR.o];rfl,K3.o⟩
def g1(P:Pr8)(f:Fu8)(x:In8):Bool:=qJ P f x && (rtB P f x && ((zk f x.dst).1 == 0))
theorem zgN(h:PrC w pb po P){f:Nat}(hf:f<P.funcs.length)(x:In8)(hz:zw w a x.args)(hl:x.args.length≤1000)(r:Bool)
  (H:qJ P (zf P f) x=true→∀ (fb fo:Nat) (w':World),za [] w w'→PrC w' pb po P→FuC w' fb fo (zf P f)→Calls Tryz.prog 241 #[pointer (some ⟨pb,po,none⟩),pointer (some ⟨fb,fo,none⟩),zt x (.slice a x.args.length cp)] w' fun e w2=>e=.returned (.bool r)∧za [] w' w2):
  Calls Tryz.prog 197 #[pointer (some ⟨pb,po,none⟩),int i64 (f:Int),zt x (.slice a x.args.length cp)] w fun e w'=>e=.returned (.bool (qJ P (zf P f) x && (rtB P (zf P f) x && r)))∧za [] w w':=by
 obtain ⟨fa,fp,c4,r4,_⟩:=h.c4;obtain ⟨fb,fo,rfl,hfu0⟩:=r4.at (zi (d:=⟨0,[],[]⟩) hf);have hfu:FuC w fb (fo+f * 3) (zf P f):=hfu0;have ka:=za.alloc [] w (.cells #[int i64 x.op,int i64 x.dst,int i64 x.a,int i64 x.b,int i64 x.n,.slice a x.args.length cp] 54);have hn:=zd w (.cells #[int i64 x.op,int i64 x.dst,int i64 x.a,int i64 x.b,int i64 x.n,.slice a x.args.length cp] 54);have HW:=hid fun (w':World)=>zo (f:Int) P.funcs.length w';rw[JQ (by omega) (by omega)] at HW;have H0:=hid fun (w':World) (k:za [] w w')=>zdP (cp:=cp) (PrC.stays _ _ _ _ _ k h) (FuC.stays _ _ _ _ _ k hfu) x (hz.kept k (fun _ _ _=>by simp)) hl;have H1:=hid fun (w':World) (k:za [] w w')=>zbr (cp:=cp) (PrC.stays _ _ _ _ _ k h) (FuC.stays _ _ _ _ _ k hfu) x (hz.kept k (fun _ _ _=>by simp)) hl;have H2:=hid fun (hok:qJ P (zf P f) x=true) (w':World) (k:za [] w w')=>H hok fb (fo+f * 3) w' k (PrC.stays _ _ _ _ _ k h) (FuC.stays _ _ _ _ _ k hfu);have IN:Box (∀ w',za [] (w.alloc (.cells #[int i64 x.op,int i64 x.dst,int i64 x.a,int i64 x.b,int i64 x.n,.slice a x.args.length cp] 54)) w'→InW w' w.heap.size x (.slice a x.args.length cp)):=hid fun w' k=>by
  have:=ze hn k;exact ⟨zc this 0,zc this 1,zc this 2,zc this 3,zc this 4,zc this 5⟩
 have KA:=hid ka;have c4':=zb ka c4;have hf':(f:Int)<(P.funcs.length:Int):=by omega
 clear h r4 hfu0 hfu ka hn hz hl H c4 hf;unfold zt at *;generalize rtB P (zf P f) x=r1 at *;generalize qJ P (zf P f) x=r0 at *;generalize P.funcs.length=FN at *;go_enter Tryz.func197,Tryz.ntmps197;go_upto_region 1 with fail;generalize w.alloc (.cells #[int i64 x.op,int i64 x.dst,int i64 x.a,int i64 x.b,int i64 x.n,.slice a x.args.length cp] 54)=WA at *;generalize w.heap.size=q at *;obtain ⟨d0,d1,d2,d3,d4,d5⟩:=IN.o _ (za.refl _ _);go_wp2_with fail;refine (HW.o _).mono ?_;rintro e w1 ⟨rfl,hw1⟩;rw[hw1];clear hw1;go_wp2_with fail;refine (H0.o _ KA.o).mono ?_;rintro e w5 ⟨rfl,k5⟩;have K5:=hid (KA.o.quiet k5);have KW5:=hid k5;clear d0 d1 d2 d3 d4 d5 k5;cases r0 with
 | false=>
  clear H2;go_wp2_with fail;go_ret;exact ⟨rfl,K5.o⟩
 | true=>
  obtain ⟨d0,d1,d2,d3,d4,d5⟩:=IN.o _ KW5.o;go_wp2_with fail;refine (H1.o _ K5.o).mono ?_;rintro e w2 ⟨rfl,k2⟩;have K2:=hid (K5.o.quiet k2);clear d0 d1 d2 d3 d4 d5;cases r1 with
  | false=>
   clear k2 H2;go_wp2_with fail;go_ret;exact ⟨rfl,K2.o⟩
  | true=>
   obtain ⟨d0,d1,d2,d3,d4,d5⟩:=IN.o _ (KW5.o.quiet k2);clear k2;go_wp2_with fail;refine (H2.o trivial _ K2.o).mono ?_;rintro e w3 ⟨rfl,k3⟩;have K3:=hid (K2.o.quiet k3);clear k3 H2;go_wp2_with fail;go_ret;exact ⟨by cases r <;> rfl,K3.o⟩
end Go.Proofs.YthflgjkmbakedaaGreatDoor
