import Derived.Test.YthflgjkmbakedaaGreatDoorA10

namespace Go.Proofs.YthflgjkmbakedaaGreatDoor
open Go.RowKit
open Go.Value (int pointer agg)
open Go.IntKind (i64)
set_option maxHeartbeats 4000000
set_option maxRecDepth 20000
variable {P:Pr8}{pb po:Nat}{w:World}
def qA(o:Int):Bool:=decide ((1≤o∧o≤7)∨(10≤o∧o≤14))
def qO(o:Int):Bool:=decide (o=2∨(6≤o∧o≤9)∨o=11∨(13≤o∧o≤15))
def qP(o:Int):Bool:=decide (o=2∨o=8)
def qT(o:Int):Bool:=decide (o=1∨o=7∨o=8∨o=10∨o=12∨o=14)
def qS(o:Int):Bool:=decide (12≤o∧o≤14)
def zp(x:In8):Bool:=decide (1≤x.op∧x.op≤15) && ((qA x.op || decide (x.dst=0)) && ((qO x.op || decide (x.a=0)) && ((qP x.op || decide (x.b=0)) && ((qT x.op || decide (x.n=0)) && (qS x.op || decide (x.args.length=0))))))
theorem zl0(d a b n:Int)(ar:List Int)(p:Option Addr)(cp:Nat)(w:World):Calls Tryz.prog 236 #[agg #[int i64 1,int i64 d,int i64 a,int i64 b,int i64 n,.slice p ar.length cp]] w fun e w'=>e=.returned (.bool (zp ⟨1,d,a,b,n,ar⟩))∧zc [] w w':=by
 have HB:Box (zp ⟨1,d,a,b,n,ar⟩=(decide (a=0) && (decide (b=0) && (decide (ar.length=0))))):=hid (by simp[zp,qA,qO,qP,qT,qS]);generalize zp ⟨1,d,a,b,n,ar⟩=res at *;generalize ar.length=r at *;go_enter Tryz.func236,Tryz.ntmps236;go_upto_region 28 with fail;by_cases ha:a=0
 case neg=>
  have ga:(a == 0)=false:=neb (by omega);have HE:Box (res=false):=hid (by rw[HB.o];simp[ha]);clear HB;clear ha;go_wp2_with fail;go_ret;exact ⟨by rw[HE.o];rfl,zc.alloc _ _ _⟩
 have ga:(a == 0)=true:=eqb (by omega);by_cases hb:b=0
 case neg=>
  have gb:(b == 0)=false:=neb (by omega);have HE:Box (res=false):=hid (by rw[HB.o];simp[ha,hb]);clear HB;clear ha hb;go_wp2_with fail;go_ret;exact ⟨by rw[HE.o];rfl,zc.alloc _ _ _⟩
 have gb:(b == 0)=true:=eqb (by omega);by_cases hr:r=0
 case neg=>
  have gr:((r:Int) == 0)=false:=neb (by omega);have HE:Box (res=false):=hid (by rw[HB.o];simp[ha,hb,hr]);clear HB;clear ha hb hr;go_wp2_with fail;go_ret;exact ⟨by rw[HE.o];rfl,zc.alloc _ _ _⟩
 have gr:((r:Int) == 0)=true:=eqb (by omega);have HE:Box (res=true):=hid (by rw[HB.o];simp[ha,hb,hr]);clear HB;clear ha hb hr;go_wp2_with fail;go_ret;exact ⟨by rw[HE.o];rfl,zc.alloc _ _ _⟩
theorem zlP(d a b n:Int)(ar:List Int)(p:Option Addr)(cp:Nat)(w:World):Calls Tryz.prog 236 #[agg #[int i64 2,int i64 d,int i64 a,int i64 b,int i64 n,.slice p ar.length cp]] w fun e w'=>e=.returned (.bool (zp ⟨2,d,a,b,n,ar⟩))∧zc [] w w':=by
 have HB:Box (zp ⟨2,d,a,b,n,ar⟩=(decide (n=0) && (decide (ar.length=0)))):=hid (by simp[zp,qA,qO,qP,qT,qS]);generalize zp ⟨2,d,a,b,n,ar⟩=res at *;generalize ar.length=r at *;go_enter Tryz.func236,Tryz.ntmps236;go_upto_region 28 with fail;by_cases hn:n=0
 case neg=>
  have gn:(n == 0)=false:=neb (by omega);have HE:Box (res=false):=hid (by rw[HB.o];simp[hn]);clear HB;clear hn;go_wp2_with fail;go_ret;exact ⟨by rw[HE.o];rfl,zc.alloc _ _ _⟩
 have gn:(n == 0)=true:=eqb (by omega);by_cases hr:r=0
 case neg=>
  have gr:((r:Int) == 0)=false:=neb (by omega);have HE:Box (res=false):=hid (by rw[HB.o];simp[hn,hr]);clear HB;clear hn hr;go_wp2_with fail;go_ret;exact ⟨by rw[HE.o];rfl,zc.alloc _ _ _⟩
 have gr:((r:Int) == 0)=true:=eqb (by omega);have HE:Box (res=true):=hid (by rw[HB.o];simp[hn,hr]);clear HB;clear hn hr;go_wp2_with fail;go_ret;exact ⟨by rw[HE.o];rfl,zc.alloc _ _ _⟩
theorem zmk(d a b n:Int)(ar:List Int)(p:Option Addr)(cp:Nat)(w:World):Calls Tryz.prog 236 #[agg #[int i64 3,int i64 d,int i64 a,int i64 b,int i64 n,.slice p ar.length cp]] w fun e w'=>e=.returned (.bool (zp ⟨3,d,a,b,n,ar⟩))∧zc [] w w':=by
 have HB:Box (zp ⟨3,d,a,b,n,ar⟩=(decide (a=0) && (decide (b=0) && (decide (n=0) && (decide (ar.length=0)))))):=hid (by simp[zp,qA,qO,qP,qT,qS]);generalize zp ⟨3,d,a,b,n,ar⟩=res at *;generalize ar.length=r at *;go_enter Tryz.func236,Tryz.ntmps236;go_upto_region 28 with fail;by_cases ha:a=0
 case neg=>
  have ga:(a == 0)=false:=neb (by omega);have HE:Box (res=false):=hid (by rw[HB.o];simp[ha]);clear HB;clear ha;go_wp2_with fail;go_ret;exact ⟨by rw[HE.o];rfl,zc.alloc _ _ _⟩
 have ga:(a == 0)=true:=eqb (by omega);by_cases hb:b=0
 case neg=>
  have gb:(b == 0)=false:=neb (by omega);have HE:Box (res=false):=hid (by rw[HB.o];simp[ha,hb]);clear HB;clear ha hb;go_wp2_with fail;go_ret;exact ⟨by rw[HE.o];rfl,zc.alloc _ _ _⟩
 have gb:(b == 0)=true:=eqb (by omega);by_cases hn:n=0
 case neg=>
  have gn:(n == 0)=false:=neb (by omega);have HE:Box (res=false):=hid (by rw[HB.o];simp[ha,hb,hn]);clear HB;clear ha hb hn;go_wp2_with fail;go_ret;exact ⟨by rw[HE.o];rfl,zc.alloc _ _ _⟩
 have gn:(n == 0)=true:=eqb (by omega);by_cases hr:r=0
 case neg=>
  have gr:((r:Int) == 0)=false:=neb (by omega);have HE:Box (res=false):=hid (by rw[HB.o];simp[ha,hb,hn,hr]);clear HB;clear ha hb hn hr;go_wp2_with fail;go_ret;exact ⟨by rw[HE.o];rfl,zc.alloc _ _ _⟩
 have gr:((r:Int) == 0)=true:=eqb (by omega);have HE:Box (res=true):=hid (by rw[HB.o];simp[ha,hb,hn,hr]);clear HB;clear ha hb hn hr;go_wp2_with fail;go_ret;exact ⟨by rw[HE.o];rfl,zc.alloc _ _ _⟩
theorem zmc(d a b n:Int)(ar:List Int)(p:Option Addr)(cp:Nat)(w:World):Calls Tryz.prog 236 #[agg #[int i64 4,int i64 d,int i64 a,int i64 b,int i64 n,.slice p ar.length cp]] w fun e w'=>e=.returned (.bool (zp ⟨4,d,a,b,n,ar⟩))∧zc [] w w':=by
 have HB:Box (zp ⟨4,d,a,b,n,ar⟩=(decide (a=0) && (decide (b=0) && (decide (n=0) && (decide (ar.length=0)))))):=hid (by simp[zp,qA,qO,qP,qT,qS]);generalize zp ⟨4,d,a,b,n,ar⟩=res at *;generalize ar.length=r at *;go_enter Tryz.func236,Tryz.ntmps236;go_upto_region 28 with fail;by_cases ha:a=0
 case neg=>
  have ga:(a == 0)=false:=neb (by omega);have HE:Box (res=false):=hid (by rw[HB.o];simp[ha]);clear HB;clear ha;go_wp2_with fail;go_ret;exact ⟨by rw[HE.o];rfl,zc.alloc _ _ _⟩
 have ga:(a == 0)=true:=eqb (by omega);by_cases hb:b=0
 case neg=>
  have gb:(b == 0)=false:=neb (by omega);have HE:Box (res=false):=hid (by rw[HB.o];simp[ha,hb]);clear HB;clear ha hb;go_wp2_with fail;go_ret;exact ⟨by rw[HE.o];rfl,zc.alloc _ _ _⟩
 have gb:(b == 0)=true:=eqb (by omega);by_cases hn:n=0
 case neg=>
  have gn:(n == 0)=false:=neb (by omega);have HE:Box (res=false):=hid (by rw[HB.o];simp[ha,hb,hn]);clear HB;clear ha hb hn;go_wp2_with fail;go_ret;exact ⟨by rw[HE.o];rfl,zc.alloc _ _ _⟩
 have gn:(n == 0)=true:=eqb (by omega);by_cases hr:r=0
 case neg=>
  have gr:((r:Int) == 0)=false:=neb (by omega);have HE:Box (res=false):=hid (by rw[HB.o];simp[ha,hb,hn,hr]);clear HB;clear ha hb hn hr;go_wp2_with fail;go_ret;exact ⟨by rw[HE.o];rfl,zc.alloc _ _ _⟩
 have gr:((r:Int) == 0)=true:=eqb (by omega);have HE:Box (res=true):=hid (by rw[HB.o];simp[ha,hb,hn,hr]);clear HB;clear ha hb hn hr;go_wp2_with fail;go_ret;exact ⟨by rw[HE.o];rfl,zc.alloc _ _ _⟩
theorem zl6(d a b n:Int)(ar:List Int)(p:Option Addr)(cp:Nat)(w:World):Calls Tryz.prog 236 #[agg #[int i64 5,int i64 d,int i64 a,int i64 b,int i64 n,.slice p ar.length cp]] w fun e w'=>e=.returned (.bool (zp ⟨5,d,a,b,n,ar⟩))∧zc [] w w':=by
 have HB:Box (zp ⟨5,d,a,b,n,ar⟩=(decide (a=0) && (decide (b=0) && (decide (n=0) && (decide (ar.length=0)))))):=hid (by simp[zp,qA,qO,qP,qT,qS]);generalize zp ⟨5,d,a,b,n,ar⟩=res at *;generalize ar.length=r at *;go_enter Tryz.func236,Tryz.ntmps236;go_upto_region 28 with fail;by_cases ha:a=0
 case neg=>
  have ga:(a == 0)=false:=neb (by omega);have HE:Box (res=false):=hid (by rw[HB.o];simp[ha]);clear HB;clear ha;go_wp2_with fail;go_ret;exact ⟨by rw[HE.o];rfl,zc.alloc _ _ _⟩
 have ga:(a == 0)=true:=eqb (by omega);by_cases hb:b=0
 case neg=>
  have gb:(b == 0)=false:=neb (by omega);have HE:Box (res=false):=hid (by rw[HB.o];simp[ha,hb]);clear HB;clear ha hb;go_wp2_with fail;go_ret;exact ⟨by rw[HE.o];rfl,zc.alloc _ _ _⟩
 have gb:(b == 0)=true:=eqb (by omega);by_cases hn:n=0
 case neg=>
  have gn:(n == 0)=false:=neb (by omega);have HE:Box (res=false):=hid (by rw[HB.o];simp[ha,hb,hn]);clear HB;clear ha hb hn;go_wp2_with fail;go_ret;exact ⟨by rw[HE.o];rfl,zc.alloc _ _ _⟩
 have gn:(n == 0)=true:=eqb (by omega);by_cases hr:r=0
 case neg=>
  have gr:((r:Int) == 0)=false:=neb (by omega);have HE:Box (res=false):=hid (by rw[HB.o];simp[ha,hb,hn,hr]);clear HB;clear ha hb hn hr;go_wp2_with fail;go_ret;exact ⟨by rw[HE.o];rfl,zc.alloc _ _ _⟩
 have gr:((r:Int) == 0)=true:=eqb (by omega);have HE:Box (res=true):=hid (by rw[HB.o];simp[ha,hb,hn,hr]);clear HB;clear ha hb hn hr;go_wp2_with fail;go_ret;exact ⟨by rw[HE.o];rfl,zc.alloc _ _ _⟩
theorem zmh(d a b n:Int)(ar:List Int)(p:Option Addr)(cp:Nat)(w:World):Calls Tryz.prog 236 #[agg #[int i64 6,int i64 d,int i64 a,int i64 b,int i64 n,.slice p ar.length cp]] w fun e w'=>e=.returned (.bool (zp ⟨6,d,a,b,n,ar⟩))∧zc [] w w':=by
 have HB:Box (zp ⟨6,d,a,b,n,ar⟩=(decide (b=0) && (decide (n=0) && (decide (ar.length=0))))):=hid (by simp[zp,qA,qO,qP,qT,qS]);generalize zp ⟨6,d,a,b,n,ar⟩=res at *;generalize ar.length=r at *;go_enter Tryz.func236,Tryz.ntmps236;go_upto_region 28 with fail;by_cases hb:b=0
 case neg=>
  have gb:(b == 0)=false:=neb (by omega);have HE:Box (res=false):=hid (by rw[HB.o];simp[hb]);clear HB;clear hb;go_wp2_with fail;go_ret;exact ⟨by rw[HE.o];rfl,zc.alloc _ _ _⟩
 have gb:(b == 0)=true:=eqb (by omega);by_cases hn:n=0
 case neg=>
  have gn:(n == 0)=false:=neb (by omega);have HE:Box (res=false):=hid (by rw[HB.o];simp[hb,hn]);clear HB;clear hb hn;go_wp2_with fail;go_ret;exact ⟨by rw[HE.o];rfl,zc.alloc _ _ _⟩
 have gn:(n == 0)=true:=eqb (by omega);by_cases hr:r=0
 case neg=>
  have gr:((r:Int) == 0)=false:=neb (by omega);have HE:Box (res=false):=hid (by rw[HB.o];simp[hb,hn,hr]);clear HB;clear hb hn hr;go_wp2_with fail;go_ret;exact ⟨by rw[HE.o];rfl,zc.alloc _ _ _⟩
 have gr:((r:Int) == 0)=true:=eqb (by omega);have HE:Box (res=true):=hid (by rw[HB.o];simp[hb,hn,hr]);clear HB;clear hb hn hr;go_wp2_with fail;go_ret;exact ⟨by rw[HE.o];rfl,zc.alloc _ _ _⟩
theorem zlE(d a b n:Int)(ar:List Int)(p:Option Addr)(cp:Nat)(w:World):Calls Tryz.prog 236 #[agg #[int i64 7,int i64 d,int i64 a,int i64 b,int i64 n,.slice p ar.length cp]] w fun e w'=>e=.returned (.bool (zp ⟨7,d,a,b,n,ar⟩))∧zc [] w w':=by
 have HB:Box (zp ⟨7,d,a,b,n,ar⟩=(decide (b=0) && (decide (ar.length=0)))):=hid (by simp[zp,qA,qO,qP,qT,qS]);generalize zp ⟨7,d,a,b,n,ar⟩=res at *;generalize ar.length=r at *;go_enter Tryz.func236,Tryz.ntmps236;go_upto_region 28 with fail;by_cases hb:b=0
 case neg=>
  have gb:(b == 0)=false:=neb (by omega);have HE:Box (res=false):=hid (by rw[HB.o];simp[hb]);clear HB;clear hb;go_wp2_with fail;go_ret;exact ⟨by rw[HE.o];rfl,zc.alloc _ _ _⟩
 have gb:(b == 0)=true:=eqb (by omega);by_cases hr:r=0
 case neg=>
  have gr:((r:Int) == 0)=false:=neb (by omega);have HE:Box (res=false):=hid (by rw[HB.o];simp[hb,hr]);clear HB;clear hb hr;go_wp2_with fail;go_ret;exact ⟨by rw[HE.o];rfl,zc.alloc _ _ _⟩
 have gr:((r:Int) == 0)=true:=eqb (by omega);have HE:Box (res=true):=hid (by rw[HB.o];simp[hb,hr]);clear HB;clear hb hr;go_wp2_with fail;go_ret;exact ⟨by rw[HE.o];rfl,zc.alloc _ _ _⟩
theorem zmQ(d a b n:Int)(ar:List Int)(p:Option Addr)(cp:Nat)(w:World):Calls Tryz.prog 236 #[agg #[int i64 8,int i64 d,int i64 a,int i64 b,int i64 n,.slice p ar.length cp]] w fun e w'=>e=.returned (.bool (zp ⟨8,d,a,b,n,ar⟩))∧zc [] w w':=by
 have HB:Box (zp ⟨8,d,a,b,n,ar⟩=(decide (d=0) && (decide (ar.length=0)))):=hid (by simp[zp,qA,qO,qP,qT,qS]);generalize zp ⟨8,d,a,b,n,ar⟩=res at *;generalize ar.length=r at *;go_enter Tryz.func236,Tryz.ntmps236;go_upto_region 28 with fail;by_cases hd:d=0
 case neg=>
  have gd:(d == 0)=false:=neb (by omega);have HE:Box (res=false):=hid (by rw[HB.o];simp[hd]);clear HB;clear hd;go_wp2_with fail;go_ret;exact ⟨by rw[HE.o];rfl,zc.alloc _ _ _⟩
 have gd:(d == 0)=true:=eqb (by omega);by_cases hr:r=0
 case neg=>
  have gr:((r:Int) == 0)=false:=neb (by omega);have HE:Box (res=false):=hid (by rw[HB.o];simp[hd,hr]);clear HB;clear hd hr;go_wp2_with fail;go_ret;exact ⟨by rw[HE.o];rfl,zc.alloc _ _ _⟩
 have gr:((r:Int) == 0)=true:=eqb (by omega);have HE:Box (res=true):=hid (by rw[HB.o];simp[hd,hr]);clear HB;clear hd hr;go_wp2_with fail;go_ret;exact ⟨by rw[HE.o];rfl,zc.alloc _ _ _⟩
theorem zmp(d a b n:Int)(ar:List Int)(p:Option Addr)(cp:Nat)(w:World):Calls Tryz.prog 236 #[agg #[int i64 9,int i64 d,int i64 a,int i64 b,int i64 n,.slice p ar.length cp]] w fun e w'=>e=.returned (.bool (zp ⟨9,d,a,b,n,ar⟩))∧zc [] w w':=by
 have HB:Box (zp ⟨9,d,a,b,n,ar⟩=(decide (d=0) && (decide (b=0) && (decide (n=0) && (decide (ar.length=0)))))):=hid (by simp[zp,qA,qO,qP,qT,qS]);generalize zp ⟨9,d,a,b,n,ar⟩=res at *;generalize ar.length=r at *;go_enter Tryz.func236,Tryz.ntmps236;go_upto_region 28 with fail;by_cases hd:d=0
 case neg=>
  have gd:(d == 0)=false:=neb (by omega);have HE:Box (res=false):=hid (by rw[HB.o];simp[hd]);clear HB;clear hd;go_wp2_with fail;go_ret;exact ⟨by rw[HE.o];rfl,zc.alloc _ _ _⟩
 have gd:(d == 0)=true:=eqb (by omega);by_cases hb:b=0
 case neg=>
  have gb:(b == 0)=false:=neb (by omega);have HE:Box (res=false):=hid (by rw[HB.o];simp[hd,hb]);clear HB;clear hd hb;go_wp2_with fail;go_ret;exact ⟨by rw[HE.o];rfl,zc.alloc _ _ _⟩
 have gb:(b == 0)=true:=eqb (by omega);by_cases hn:n=0
 case neg=>
  have gn:(n == 0)=false:=neb (by omega);have HE:Box (res=false):=hid (by rw[HB.o];simp[hd,hb,hn]);clear HB;clear hd hb hn;go_wp2_with fail;go_ret;exact ⟨by rw[HE.o];rfl,zc.alloc _ _ _⟩
 have gn:(n == 0)=true:=eqb (by omega);by_cases hr:r=0
 case neg=>
  have gr:((r:Int) == 0)=false:=neb (by omega);have HE:Box (res=false):=hid (by rw[HB.o];simp[hd,hb,hn,hr]);clear HB;clear hd hb hn hr;go_wp2_with fail;go_ret;exact ⟨by rw[HE.o];rfl,zc.alloc _ _ _⟩
 have gr:((r:Int) == 0)=true:=eqb (by omega);have HE:Box (res=true):=hid (by rw[HB.o];simp[hd,hb,hn,hr]);clear HB;clear hd hb hn hr;go_wp2_with fail;go_ret;exact ⟨by rw[HE.o];rfl,zc.alloc _ _ _⟩
theorem zkT(d a b n:Int)(ar:List Int)(p:Option Addr)(cp:Nat)(w:World):Calls Tryz.prog 236 #[agg #[int i64 10,int i64 d,int i64 a,int i64 b,int i64 n,.slice p ar.length cp]] w fun e w'=>e=.returned (.bool (zp ⟨10,d,a,b,n,ar⟩))∧zc [] w w':=by
 have HB:Box (zp ⟨10,d,a,b,n,ar⟩=(decide (a=0) && (decide (b=0) && (decide (ar.length=0))))):=hid (by simp[zp,qA,qO,qP,qT,qS]);generalize zp ⟨10,d,a,b,n,ar⟩=res at *;generalize ar.length=r at *;go_enter Tryz.func236,Tryz.ntmps236;go_upto_region 28 with fail;by_cases ha:a=0
 case neg=>
  have ga:(a == 0)=false:=neb (by omega);have HE:Box (res=false):=hid (by rw[HB.o];simp[ha]);clear HB;clear ha;go_wp2_with fail;go_ret;exact ⟨by rw[HE.o];rfl,zc.alloc _ _ _⟩
 have ga:(a == 0)=true:=eqb (by omega);by_cases hb:b=0
 case neg=>
  have gb:(b == 0)=false:=neb (by omega);have HE:Box (res=false):=hid (by rw[HB.o];simp[ha,hb]);clear HB;clear ha hb;go_wp2_with fail;go_ret;exact ⟨by rw[HE.o];rfl,zc.alloc _ _ _⟩
 have gb:(b == 0)=true:=eqb (by omega);by_cases hr:r=0
 case neg=>
  have gr:((r:Int) == 0)=false:=neb (by omega);have HE:Box (res=false):=hid (by rw[HB.o];simp[ha,hb,hr]);clear HB;clear ha hb hr;go_wp2_with fail;go_ret;exact ⟨by rw[HE.o];rfl,zc.alloc _ _ _⟩
 have gr:((r:Int) == 0)=true:=eqb (by omega);have HE:Box (res=true):=hid (by rw[HB.o];simp[ha,hb,hr]);clear HB;clear ha hb hr;go_wp2_with fail;go_ret;exact ⟨by rw[HE.o];rfl,zc.alloc _ _ _⟩
theorem zkK(d a b n:Int)(ar:List Int)(p:Option Addr)(cp:Nat)(w:World):Calls Tryz.prog 236 #[agg #[int i64 11,int i64 d,int i64 a,int i64 b,int i64 n,.slice p ar.length cp]] w fun e w'=>e=.returned (.bool (zp ⟨11,d,a,b,n,ar⟩))∧zc [] w w':=by
 have HB:Box (zp ⟨11,d,a,b,n,ar⟩=(decide (b=0) && (decide (n=0) && (decide (ar.length=0))))):=hid (by simp[zp,qA,qO,qP,qT,qS]);generalize zp ⟨11,d,a,b,n,ar⟩=res at *;generalize ar.length=r at *;go_enter Tryz.func236,Tryz.ntmps236;go_upto_region 28 with fail;by_cases hb:b=0
 case neg=>
  have gb:(b == 0)=false:=neb (by omega);have HE:Box (res=false):=hid (by rw[HB.o];simp[hb]);clear HB;clear hb;go_wp2_with fail;go_ret;exact ⟨by rw[HE.o];rfl,zc.alloc _ _ _⟩
 have gb:(b == 0)=true:=eqb (by omega);by_cases hn:n=0
 case neg=>
  have gn:(n == 0)=false:=neb (by omega);have HE:Box (res=false):=hid (by rw[HB.o];simp[hb,hn]);clear HB;clear hb hn;go_wp2_with fail;go_ret;exact ⟨by rw[HE.o];rfl,zc.alloc _ _ _⟩
 have gn:(n == 0)=true:=eqb (by omega);by_cases hr:r=0
 case neg=>
  have gr:((r:Int) == 0)=false:=neb (by omega);have HE:Box (res=false):=hid (by rw[HB.o];simp[hb,hn,hr]);clear HB;clear hb hn hr;go_wp2_with fail;go_ret;exact ⟨by rw[HE.o];rfl,zc.alloc _ _ _⟩
 have gr:((r:Int) == 0)=true:=eqb (by omega);have HE:Box (res=true):=hid (by rw[HB.o];simp[hb,hn,hr]);clear HB;clear hb hn hr;go_wp2_with fail;go_ret;exact ⟨by rw[HE.o];rfl,zc.alloc _ _ _⟩
theorem zke(d a b n:Int)(ar:List Int)(p:Option Addr)(cp:Nat)(w:World):Calls Tryz.prog 236 #[agg #[int i64 12,int i64 d,int i64 a,int i64 b,int i64 n,.slice p ar.length cp]] w fun e w'=>e=.returned (.bool (zp ⟨12,d,a,b,n,ar⟩))∧zc [] w w':=by
 have HB:Box (zp ⟨12,d,a,b,n,ar⟩=(decide (a=0) && (decide (b=0)))):=hid (by simp[zp,qA,qO,qP,qT,qS]);generalize zp ⟨12,d,a,b,n,ar⟩=res at *;generalize ar.length=r at *;go_enter Tryz.func236,Tryz.ntmps236;go_upto_region 28 with fail;by_cases ha:a=0
 case neg=>
  have ga:(a == 0)=false:=neb (by omega);have HE:Box (res=false):=hid (by rw[HB.o];simp[ha]);clear HB;clear ha;go_wp2_with fail;go_ret;exact ⟨by rw[HE.o];rfl,zc.alloc _ _ _⟩
 have ga:(a == 0)=true:=eqb (by omega);by_cases hb:b=0
 case neg=>
  have gb:(b == 0)=false:=neb (by omega);have HE:Box (res=false):=hid (by rw[HB.o];simp[ha,hb]);clear HB;clear ha hb;go_wp2_with fail;go_ret;exact ⟨by rw[HE.o];rfl,zc.alloc _ _ _⟩
 have gb:(b == 0)=true:=eqb (by omega);have HE:Box (res=true):=hid (by rw[HB.o];simp[ha,hb]);clear HB;clear ha hb;go_wp2_with fail;go_ret;exact ⟨by rw[HE.o];rfl,zc.alloc _ _ _⟩
theorem zk1(d a b n:Int)(ar:List Int)(p:Option Addr)(cp:Nat)(w:World):Calls Tryz.prog 236 #[agg #[int i64 13,int i64 d,int i64 a,int i64 b,int i64 n,.slice p ar.length cp]] w fun e w'=>e=.returned (.bool (zp ⟨13,d,a,b,n,ar⟩))∧zc [] w w':=by
 have HB:Box (zp ⟨13,d,a,b,n,ar⟩=(decide (b=0) && (decide (n=0)))):=hid (by simp[zp,qA,qO,qP,qT,qS]);generalize zp ⟨13,d,a,b,n,ar⟩=res at *;generalize ar.length=r at *;go_enter Tryz.func236,Tryz.ntmps236;go_upto_region 28 with fail;by_cases hb:b=0
 case neg=>
  have gb:(b == 0)=false:=neb (by omega);have HE:Box (res=false):=hid (by rw[HB.o];simp[hb]);clear HB;clear hb;go_wp2_with fail;go_ret;exact ⟨by rw[HE.o];rfl,zc.alloc _ _ _⟩
 have gb:(b == 0)=true:=eqb (by omega);by_cases hn:n=0
 case neg=>
  have gn:(n == 0)=false:=neb (by omega);have HE:Box (res=false):=hid (by rw[HB.o];simp[hb,hn]);clear HB;clear hb hn;go_wp2_with fail;go_ret;exact ⟨by rw[HE.o];rfl,zc.alloc _ _ _⟩
 have gn:(n == 0)=true:=eqb (by omega);have HE:Box (res=true):=hid (by rw[HB.o];simp[hb,hn]);clear HB;clear hb hn;go_wp2_with fail;go_ret;exact ⟨by rw[HE.o];rfl,zc.alloc _ _ _⟩
theorem zlj(d a b n:Int)(ar:List Int)(p:Option Addr)(cp:Nat)(w:World):Calls Tryz.prog 236 #[agg #[int i64 14,int i64 d,int i64 a,int i64 b,int i64 n,.slice p ar.length cp]] w fun e w'=>e=.returned (.bool (zp ⟨14,d,a,b,n,ar⟩))∧zc [] w w':=by
 have HB:Box (zp ⟨14,d,a,b,n,ar⟩=(decide (b=0))):=hid (by simp[zp,qA,qO,qP,qT,qS]);generalize zp ⟨14,d,a,b,n,ar⟩=res at *;generalize ar.length=r at *;go_enter Tryz.func236,Tryz.ntmps236;go_upto_region 28 with fail;by_cases hb:b=0
 case neg=>
  have gb:(b == 0)=false:=neb (by omega);have HE:Box (res=false):=hid (by rw[HB.o];simp[hb]);clear HB;clear hb;go_wp2_with fail;go_ret;exact ⟨by rw[HE.o];rfl,zc.alloc _ _ _⟩
 have gb:(b == 0)=true:=eqb (by omega);have HE:Box (res=true):=hid (by rw[HB.o];simp[hb]);clear HB;clear hb;go_wp2_with fail;go_ret;exact ⟨by rw[HE.o];rfl,zc.alloc _ _ _⟩
theorem zjE(d a b n:Int)(ar:List Int)(p:Option Addr)(cp:Nat)(w:World):Calls Tryz.prog 236 #[agg #[int i64 15,int i64 d,int i64 a,int i64 b,int i64 n,.slice p ar.length cp]] w fun e w'=>e=.returned (.bool (zp ⟨15,d,a,b,n,ar⟩))∧zc [] w w':=by
 have HB:Box (zp ⟨15,d,a,b,n,ar⟩=(decide (d=0) && (decide (b=0) && (decide (n=0) && (decide (ar.length=0)))))):=hid (by simp[zp,qA,qO,qP,qT,qS]);generalize zp ⟨15,d,a,b,n,ar⟩=res at *;generalize ar.length=r at *;go_enter Tryz.func236,Tryz.ntmps236;go_upto_region 28 with fail;by_cases hd:d=0
 case neg=>
  have gd:(d == 0)=false:=neb (by omega);have HE:Box (res=false):=hid (by rw[HB.o];simp[hd]);clear HB;clear hd;go_wp2_with fail;go_ret;exact ⟨by rw[HE.o];rfl,zc.alloc _ _ _⟩
 have gd:(d == 0)=true:=eqb (by omega);by_cases hb:b=0
 case neg=>
  have gb:(b == 0)=false:=neb (by omega);have HE:Box (res=false):=hid (by rw[HB.o];simp[hd,hb]);clear HB;clear hd hb;go_wp2_with fail;go_ret;exact ⟨by rw[HE.o];rfl,zc.alloc _ _ _⟩
 have gb:(b == 0)=true:=eqb (by omega);by_cases hn:n=0
 case neg=>
  have gn:(n == 0)=false:=neb (by omega);have HE:Box (res=false):=hid (by rw[HB.o];simp[hd,hb,hn]);clear HB;clear hd hb hn;go_wp2_with fail;go_ret;exact ⟨by rw[HE.o];rfl,zc.alloc _ _ _⟩
 have gn:(n == 0)=true:=eqb (by omega);by_cases hr:r=0
 case neg=>
  have gr:((r:Int) == 0)=false:=neb (by omega);have HE:Box (res=false):=hid (by rw[HB.o];simp[hd,hb,hn,hr]);clear HB;clear hd hb hn hr;go_wp2_with fail;go_ret;exact ⟨by rw[HE.o];rfl,zc.alloc _ _ _⟩
 have gr:((r:Int) == 0)=true:=eqb (by omega);have HE:Box (res=true):=hid (by rw[HB.o];simp[hd,hb,hn,hr]);clear HB;clear hd hb hn hr;go_wp2_with fail;go_ret;exact ⟨by rw[HE.o];rfl,zc.alloc _ _ _⟩
theorem zkf(o d a b n:Int)(ar:List Int)(p:Option Addr)(cp:Nat)(w:World)(hop:¬ (1≤o∧o≤15)):Calls Tryz.prog 236 #[agg #[int i64 o,int i64 d,int i64 a,int i64 b,int i64 n,.slice p ar.length cp]] w fun e w'=>e=.returned (.bool (zp ⟨o,d,a,b,n,ar⟩))∧zc [] w w':=by
 have HE:Box (zp ⟨o,d,a,b,n,ar⟩=false):=hid (by unfold zp;simp only[];rw[decide_eq_false hop];rfl);have o1:=neb (show o≠1 by omega);have o2:=neb (show o≠2 by omega);have o3:=neb (show o≠3 by omega);have o4:=neb (show o≠4 by omega);have o5:=neb (show o≠5 by omega);have o6:=neb (show o≠6 by omega);have o7:=neb (show o≠7 by omega);have o8:=neb (show o≠8 by omega);have o9:=neb (show o≠9 by omega);have o10:=neb (show o≠10 by omega);have o11:=neb (show o≠11 by omega);have o12:=neb (show o≠12 by omega);have o13:=neb (show o≠13 by omega);have o14:=neb (show o≠14 by omega);have o15:=neb (show o≠15 by omega);clear hop;generalize zp ⟨o,d,a,b,n,ar⟩=res at *;generalize ar.length=N at *;go_enter Tryz.func236,Tryz.ntmps236;go_wp2_with fail;go_ret;exact ⟨by rw[HE.o];rfl,zc.alloc _ _ _⟩
theorem zja{o:Int}(h:1≤o∧o≤15):o=1∨o=2∨o=3∨o=4∨o=5∨o=6∨o=7∨o=8∨o=9∨o=10∨o=11∨o=12∨o=13∨o=14∨o=15:=by omega
theorem ziI(x:In8)(p:Option Addr)(cp:Nat)(w:World):Calls Tryz.prog 236 #[z8 x (.slice p x.args.length cp)] w fun e w'=>e=.returned (.bool (zp x))∧zc [] w w':=by
 obtain ⟨o,d,a,b,n,ar⟩:=x;by_cases h:1≤o∧o≤15
 ·rcases zja h with rfl | rfl | rfl | rfl | rfl | rfl | rfl | rfl | rfl | rfl | rfl | rfl | rfl | rfl | rfl
  ·exact zl0 d a b n ar p cp w
  ·exact zlP d a b n ar p cp w
  ·exact zmk d a b n ar p cp w
  ·exact zmc d a b n ar p cp w
  ·exact zl6 d a b n ar p cp w
  ·exact zmh d a b n ar p cp w
  ·exact zlE d a b n ar p cp w
  ·exact zmQ d a b n ar p cp w
  ·exact zmp d a b n ar p cp w
  ·exact zkT d a b n ar p cp w
  ·exact zkK d a b n ar p cp w
  ·exact zke d a b n ar p cp w
  ·exact zk1 d a b n ar p cp w
  ·exact zlj d a b n ar p cp w
  ·exact zjE d a b n ar p cp w
 ·exact zkf o d a b n ar p cp w h
theorem jp(k:Int)(n:Nat)(w:World):Calls Tryz.prog 109 #[int i64 k,int i64 (n:Int)] w fun e w'=>e=.returned (.bool (inB k n))∧w'=w:=by
 have HE:Box (inB k n=(decide (0≤k) && decide (k<(n:Int)))):=hid rfl;by_cases h:0≤k
 ·have HF:Box (inB k n=decide (k<(n:Int))):=hid (by rw[HE.o];simp[h])
  clear HE;go_enter Tryz.func109,Tryz.ntmps109;go_wp2_with fail;go_ret;exact ⟨by rw[HF.o];rfl,rfl⟩
 ·have HF:Box (inB k n=false):=hid (by rw[HE.o];simp[h])
  clear HE;go_enter Tryz.func109,Tryz.ntmps109;go_wp2_with fail;go_ret;exact ⟨by rw[HF.o];rfl,rfl⟩
theorem Z0(s t:Int × Int)(w:World):Calls Tryz.prog 113 #[tyV s,tyV t] w fun e w'=>e=.returned (.bool (tyE s t))∧zc [] w w':=by
 have HK:Box (zc [] w ((w.alloc (.cells #[int i64 s.1,int i64 s.2] 52)).alloc (.cells #[int i64 t.1,int i64 t.2] 52))):=hid ((zc.alloc [] _ _).quiet (zc.alloc [] _ _));have HE:Box (tyE s t=(s.1 == t.1 && s.2 == t.2)):=hid rfl;unfold tyV;by_cases h:s.1=t.1
 ·have o1:(s.1 == t.1)=true:=eqb h
  have HF:Box (tyE s t=(s.2 == t.2)):=hid (by rw[HE.o,o1];rfl);clear HE h;go_enter Tryz.func113,Tryz.ntmps113;go_wp2_with fail;go_ret;exact ⟨by rw[HF.o];rfl,HK.o⟩
 ·have o1:(s.1 == t.1)=false:=neb h
  have HF:Box (tyE s t=false):=hid (by rw[HE.o,o1];rfl);clear HE h;go_enter Tryz.func113,Tryz.ntmps113;go_wp2_with fail;go_ret;exact ⟨by rw[HF.o];rfl,HK.o⟩
def fnV(sg:Int)(ra:Option Addr)(R rp:Nat)(bv:Value):Value:=agg #[int i64 sg,.slice ra R rp,bv]
theorem ziU{l:List (Int × Int)}{ra:Option Addr}{R:Nat}(hr:z7 w 2 TyC ra l)(hR:R=l.length)(rp:Nat)(sg:Int)(bv:Value)(r:Int)(hin:inB r R=true):Calls Tryz.prog 175 #[fnV sg ra R rp bv,int i64 r] w fun e w'=>e=.returned (tyV (l.getD r.toNat (0,0)))∧zc [] w w':=by
 obtain ⟨W,hW⟩:∃ W,W=(w.alloc (.cells #[int i64 sg,.slice ra R rp,bv] 50)).alloc (.cells #[int i64 0,int i64 0] 52):=⟨_,rfl⟩;have k2:zc [] w W:=by rw[hW];exact (zc.alloc [] w _).quiet (zc.alloc [] _ _)
 have hn1:W.heap[w.heap.size]? = some (.cells #[int i64 sg,.slice ra R rp,bv] 50 (0,0)):=by rw[hW];exact ze (zh w _) (zc.alloc [] _ _)
 have hn2:W.heap[w.heap.size+1]? = some (.cells #[int i64 0,int i64 0] 52 (0,0)):=by
  have:=zh (w.alloc (.cells #[int i64 sg,.slice ra R rp,bv] 50)) (.cells #[int i64 0,int i64 0] 52);rw[World.size_alloc] at this;rw[hW];exact this
 obtain ⟨h0,h1⟩:=zt.1 hin;obtain ⟨k,rfl⟩:∃ k:Nat,r=(k:Int):=⟨r.toNat,by omega⟩;have ek:((k:Int)).toNat=k:=by omega
 rw[ek];obtain ⟨b,off,rfl,hc⟩:=hr.at (zg (l:=l) (k:=k) (d:=(0,0)) (by omega));have d0:=za k2 hc.c0.1;have d1:=za k2 hc.c1.1;have f1:=zd hn1 1;have z0:=zi hn2 0;have z1:=zi hn2 1;have q0:=zd hn2 0;have q1:=zd hn2 1;have HN2:=hid hn2;have HK:=hid k2;have HWE:=hid hW;have HL:Box (∀ u0 u1,zc [] w ((W.setCell ⟨w.heap.size+1,0,none⟩ u0).setCell ⟨w.heap.size+1,1,none⟩ u1)):=hid fun u0 u1=>k2.trans (zcf _ _ _ _) (fun x hx hl=>by simp at hx;omega);clear hr hR k2 hn1 hn2 hc hin h0 ek hW;generalize l.getD k (0,0)=t at *;unfold fnV;go_enter Tryz.func175,Tryz.ntmps175;go_upto_region 1 with fail;rw[← HWE.o];clear HWE;generalize w.heap.size=q at *;go_wp2_with fail;have h2:=znh HN2.o (int i64 t.1) (int i64 t.2);have e0:=zd h2 0;have e1:=zd h2 1;exact bodyPost_ret (v:=agg #[int i64 t.1,int i64 t.2]) (by simp[results,Tryz.results175,go_sem,e0,e1]) rfl ⟨rfl,HL.o _ _⟩
theorem zei(h:PrC w pb po P)(t:Int × Int):Calls Tryz.prog 108 #[pointer (some ⟨pb,po,none⟩),tyV t] w fun e w'=>e=.returned (.bool (tyB P t))∧zc [] w w':=by
 have ka:=zc.alloc [] w (.cells #[int i64 t.1,int i64 t.2] 52);have hn:=zh w (.cells #[int i64 t.1,int i64 t.2] 52);obtain ⟨a0,p0,c0,_⟩:=h.c0;obtain ⟨a1,p1,c1,_⟩:=h.c1;obtain ⟨a2,p2,c2,_⟩:=h.c2;replace c0:=za ka c0;replace c1:=za ka c1;replace c2:=za ka c2;have t0:=zd hn 0;have t1:=zd hn 1;have HK:=hid ka;have HE:Box (tyB P t=if t.1=0 then decide (t.2=0) else if t.1=1 then inB t.2 P.recs.length else if t.1=2 then inB t.2 P.sigs.length else if t.1=3 then inB t.2 P.ifs.length else false):=hid rfl;clear h ka hn;generalize tyB P t=res at *;generalize P.recs.length=n0 at *;generalize P.sigs.length=n1 at *;generalize P.ifs.length=n2 at *;obtain ⟨k,n⟩:=t;simp only at *;unfold tyV;by_cases h0:k=0
 ·subst h0
  have HF:Box (res=(n == 0)):=hid (by rw[HE.o,if_pos rfl];by_cases e:n=0 <;> simp[e]);clear HE;go_enter Tryz.func108,Tryz.ntmps108;go_wp2_with fail;go_ret;exact ⟨by rw[HF.o];rfl,HK.o⟩
 by_cases h1:k=1
 ·subst h1
  have HF:Box (res=inB n n0):=hid (by rw[HE.o];simp);clear HE;by_cases hn:0≤n
  ·have g1:decide ((0:Int)≤n)=true:=decide_eq_true hn
   have HG:Box (res=decide (n<(n0:Int))):=hid (by rw[HF.o];unfold inB;rw[g1];rfl);clear HF;go_enter Tryz.func108,Tryz.ntmps108;go_upto_region 5 with fail;go_quiet (fail);go_wp2_with fail;go_ret;exact ⟨by rw[HG.o];rfl,HK.o.quiet (zc.drewN _ _ _)⟩
  ·have g1:decide ((0:Int)≤n)=false:=decide_eq_false hn
   have HG:Box (res=false):=hid (by rw[HF.o];unfold inB;rw[g1];rfl);clear HF;go_enter Tryz.func108,Tryz.ntmps108;go_upto_region 5 with fail;go_quiet (fail);go_wp2_with fail;go_ret;exact ⟨by rw[HG.o];rfl,HK.o.quiet (zc.drewN _ _ _)⟩
 by_cases h2:k=2
 ·subst h2
  have HF:Box (res=inB n n1):=hid (by rw[HE.o];simp);clear HE;by_cases hn:0≤n
  ·have g1:decide ((0:Int)≤n)=true:=decide_eq_true hn
   have HG:Box (res=decide (n<(n1:Int))):=hid (by rw[HF.o];unfold inB;rw[g1];rfl);clear HF;go_enter Tryz.func108,Tryz.ntmps108;go_upto_region 7 with fail;go_quiet (fail);go_wp2_with fail;go_ret;exact ⟨by rw[HG.o];rfl,HK.o.quiet (zc.drewN _ _ _)⟩
  ·have g1:decide ((0:Int)≤n)=false:=decide_eq_false hn
   have HG:Box (res=false):=hid (by rw[HF.o];unfold inB;rw[g1];rfl);clear HF;go_enter Tryz.func108,Tryz.ntmps108;go_upto_region 7 with fail;go_quiet (fail);go_wp2_with fail;go_ret;exact ⟨by rw[HG.o];rfl,HK.o.quiet (zc.drewN _ _ _)⟩
 by_cases h3:k=3
 ·subst h3
  have HF:Box (res=inB n n2):=hid (by rw[HE.o];simp);clear HE;by_cases hn:0≤n
  ·have g1:decide ((0:Int)≤n)=true:=decide_eq_true hn
   have HG:Box (res=decide (n<(n2:Int))):=hid (by rw[HF.o];unfold inB;rw[g1];rfl);clear HF;go_enter Tryz.func108,Tryz.ntmps108;go_upto_region 9 with fail;go_quiet (fail);go_wp2_with fail;go_ret;exact ⟨by rw[HG.o];rfl,HK.o.quiet (zc.drewN _ _ _)⟩
  ·have g1:decide ((0:Int)≤n)=false:=decide_eq_false hn
   have HG:Box (res=false):=hid (by rw[HF.o];unfold inB;rw[g1];rfl);clear HF;go_enter Tryz.func108,Tryz.ntmps108;go_upto_region 9 with fail;go_quiet (fail);go_wp2_with fail;go_ret;exact ⟨by rw[HG.o];rfl,HK.o.quiet (zc.drewN _ _ _)⟩
 have o0:=neb h0;have o1:=neb h1;have o2:=neb h2;have o3:=neb h3;have HF:Box (res=false):=hid (by rw[HE.o,if_neg h0,if_neg h1,if_neg h2,if_neg h3]);clear HE h0 h1 h2 h3;go_enter Tryz.func108,Tryz.ntmps108;go_wp2_with fail;go_ret;exact ⟨by rw[HF.o];rfl,HK.o⟩
def ZI(P:Pr8)(r i:Int):Int:=match P.ims.findIdx? fun m=>m.1 == r && m.2.1 == i with
 | some k=>(k:Int)
 | none=> -1
theorem za9{r i:Int}{k:Nat}{y:Int × Int × List Int}(hy:P.ims[k]? = some y)(h:(y.1 == r && y.2.1 == i)=true)(hb:∀ j z,j<k→P.ims[j]? = some z→(z.1 == r && z.2.1 == i)=false):ZI P r i=(k:Int):=by
 have:P.ims.findIdx? (fun m=>m.1 == r && m.2.1 == i)=some k:=by
  rw[List.findIdx?_eq_some_iff_getElem];obtain ⟨hk,e⟩:=List.getElem?_eq_some_iff.1 hy;refine ⟨hk,by rw[e];exact h,fun j hj=> ?_⟩;have:=hb j _ hj (List.getElem?_eq_getElem (by omega));rw[this];simp
 unfold ZI;rw[this]
theorem zeA{r i:Int}(hb:∀ (j:Nat) (z:Int × Int × List Int),P.ims[j]? = some z→(z.1 == r && z.2.1 == i)=false):ZI P r i= -1:=by
 have:P.ims.findIdx? (fun m=>m.1 == r && m.2.1 == i)=none:=by
  rw[List.findIdx?_eq_none_iff];intro y hy;obtain ⟨j,hj,e⟩:=List.getElem_of_mem hy;exact hb j y (by rw[List.getElem?_eq_getElem hj,e])
 unfold ZI;rw[this]
theorem zhX(P:Pr8)(r i:Int):decide (0≤ZI P r i)=Jf P r i:=by
 unfold ZI Jf;cases h:P.ims.findIdx? (fun m=>m.1 == r && m.2.1 == i) with
 | none=>
  rw[List.findIdx?_eq_none_iff] at h;have:(P.ims.any fun m=>m.1 == r && m.2.1 == i)=false:=List.any_eq_false.2 fun y hy=>by rw[h y hy];simp
  rw[this];rfl
 | some k=>
  rw[List.findIdx?_eq_some_iff_getElem] at h;obtain ⟨hk,e,_⟩:=h;have:(P.ims.any fun m=>m.1 == r && m.2.1 == i)=true:=List.any_eq_true.2 ⟨_,List.getElem_mem hk,e⟩;rw[this];simp
theorem zci(h:PrC w pb po P)(r i:Int):Calls Tryz.prog 112 #[pointer (some ⟨pb,po,none⟩),int i64 r,int i64 i] w fun e w'=>e=.returned (int i64 (ZI P r i))∧w'=w:=by
 obtain ⟨a,cp,c3,hr,_,hm⟩:=h.c3;have HR:=hid hr;obtain ⟨n,hn⟩:∃ n,n=P.ims.length:=⟨_,rfl⟩;rw[← hn] at c3 hm;have HL:=hid hn;have hn1:(n:Int)≤9223372036854775807:=by unfold maxLen at hm;omega
 clear h hr hn hm;go_enter Tryz.func112,Tryz.ntmps112;go_wp2_with fail
 go_loop [7] (fun kv=>∃ k:Nat,k≤n∧kv=int i64 (k:Int)∧Box (∀ j y,j<k→P.ims[j]? = some y→(y.1 == r && y.2.1 == i)=false)) (fun kv=>n - (intOf kv).toNat)
 case atStart=>exact ⟨0,by omega,rfl,hid fun j y hj=>by omega⟩
 case round=>
  obtain ⟨k,hk,rfl,HB⟩:=hrel;by_cases hlt:k<n
  ·have hlt':(k:Int)<(n:Int):=by omega
   have HY:=hid (zg (l:=P.ims) (k:=k) (d:=(0,0,[])) (by rw[← HL.o];exact hlt));obtain ⟨b,off,rfl,hc⟩:=HR.o.at HY.o;have d0:=hc.c0.1;have d1:=hc.c1.1;have NEXT:Box (∀ y,P.ims[k]? = some y→(y.1 == r && y.2.1 == i)=false→∀ j z,j<k+1→P.ims[j]? = some z→(z.1 == r && z.2.1 == i)=false):=hid fun y hy hg j z hj hz=>by
    by_cases e:j<k
    ·exact HB.o j z e hz
    ·obtain rfl:j=k:=by omega
     rw[hy] at hz;cases hz;exact hg
   clear hc;generalize P.ims.getD k (0,0,[])=y at *;by_cases e1:y.1=r
   ·have q1:(y.1 == r)=true:=eqb e1
    by_cases e2:y.2.1=i
    ·have q2:(y.2.1 == i)=true:=eqb e2
     have HT:Box (ZI P r i=(k:Int)):=hid (za9 HY.o (by rw[q1,q2];rfl) HB.o);clear e1 e2 NEXT;go_wp2_with fail;go_ret;exact ⟨by rw[HT.o];rfl,rfl⟩
    ·have q2:(y.2.1 == i)=false:=neb e2
     have HN:=hid (NEXT.o y HY.o (by rw[q1,q2];rfl));clear e1 e2 NEXT;go_wp2_with fail
     go_round
     case rel=>exact ⟨k+1,by omega,by go_num,HN⟩
     case measure=>simp[intOf];omega
   ·have q1:(y.1 == r)=false:=neb e1
    have HN:=hid (NEXT.o y HY.o (by rw[q1];rfl));clear e1 NEXT;go_wp2_with fail
    go_round
    case rel=>exact ⟨k+1,by omega,by go_num,HN⟩
    case measure=>simp[intOf];omega
  ·obtain rfl:n=k:=by omega
   have HF:Box (ZI P r i= -1):=hid (zeA fun j z hz=>HB.o j z (by rw[HL.o];exact (List.getElem?_eq_some_iff.1 hz).1) hz);go_wp2_with fail;go_ret;exact ⟨by rw[HF.o];rfl,rfl⟩
def QJ(f:Fu8)(x:In8)(s:List (Int × Int) × Int × Int):Bool:=qL f x.args s.1 && tyE (zq f x.dst) s.2
theorem JK{f:Fu8}{ra:Option Addr}{R:Nat}(hr:z7 w 2 TyC ra f.regs)(hR:R=f.regs.length)(rp:Nat)(bv:Value)(x:In8){a:Option Addr}{cp:Nat}(hz:zw w a x.args)(hl:x.args.length≤1000){s:List (Int × Int) × Int × Int}{sa:Option Addr}{sp:Nat}(hs:z7 w 2 TyC sa s.1)(hd:inB x.dst R=true)(ha:Zp x.args R=true):
  Calls Tryz.prog 176 #[pointer (some ⟨pb,po,none⟩),fnV f.sig ra R rp bv,z8 x (.slice a x.args.length cp),agg #[.slice sa s.1.length sp,int i64 s.2.1,int i64 s.2.2]] w fun e w'=>e=.returned (.bool (QJ f x s))∧zc [] w w':=by
 obtain ⟨W,hW⟩:∃ W,W=((w.alloc (.cells #[int i64 f.sig,.slice ra R rp,bv] 50)).alloc (.cells #[int i64 x.op,int i64 x.dst,int i64 x.a,int i64 x.b,int i64 x.n,.slice a x.args.length cp] 54)).alloc (.cells #[.slice sa s.1.length sp,int i64 s.2.1,int i64 s.2.2] 59):=⟨_,rfl⟩;have k2:zc [] w W:=by rw[hW];exact ((zc.alloc [] w _).quiet (zc.alloc [] _ _)).quiet (zc.alloc [] _ _)
 have hn1:W.heap[w.heap.size]? = some (.cells #[int i64 f.sig,.slice ra R rp,bv] 50 (0,0)):=by rw[hW];exact ze (zh w _) ((zc.alloc [] _ _).quiet (zc.alloc [] _ _))
 have hn2:W.heap[w.heap.size+1]? = some (.cells #[int i64 x.op,int i64 x.dst,int i64 x.a,int i64 x.b,int i64 x.n,.slice a x.args.length cp] 54 (0,0)):=by
  have:=zh (w.alloc (.cells #[int i64 f.sig,.slice ra R rp,bv] 50)) (.cells #[int i64 x.op,int i64 x.dst,int i64 x.a,int i64 x.b,int i64 x.n,.slice a x.args.length cp] 54);rw[World.size_alloc] at this;rw[hW];exact ze this (zc.alloc [] _ _)
 have hn3:W.heap[w.heap.size+2]? = some (.cells #[.slice sa s.1.length sp,int i64 s.2.1,int i64 s.2.2] 59 (0,0)):=by
  have:=zh ((w.alloc (.cells #[int i64 f.sig,.slice ra R rp,bv] 50)).alloc (.cells #[int i64 x.op,int i64 x.dst,int i64 x.a,int i64 x.b,int i64 x.n,.slice a x.args.length cp] 54)) (.cells #[.slice sa s.1.length sp,int i64 s.2.1,int i64 s.2.2] 59);rw[World.size_alloc,World.size_alloc] at this;rw[hW];exact this
 have B:Box (∀ w',zc [] W w'→w'.cell? ⟨w.heap.size,1,none⟩=some (.slice ra R rp)∧w'.cell? ⟨w.heap.size+1,1,none⟩=some (int i64 x.dst)∧w'.cell? ⟨w.heap.size+1,5,none⟩=some (.slice a x.args.length cp)∧w'.cell? ⟨w.heap.size+2,0,none⟩=some (.slice sa s.1.length sp)∧w'.cell? ⟨w.heap.size+2,1,none⟩=some (int i64 s.2.1)∧w'.cell? ⟨w.heap.size+2,2,none⟩=some (int i64 s.2.2)):=hid fun w' k=>⟨zd (ze hn1 k) 1,zd (ze hn2 k) 1,zd (ze hn2 k) 5,zd (ze hn3 k) 0,zd (ze hn3 k) 1,zd (ze hn3 k) 2⟩;have HRR:=hid hr;have HZ:=hid hz;have HS:=hid hs;have HA:=hid ha;have HWE:=hid hW;have HK2:=hid k2;have HR:=hid hR;have HEQ:=hid fun (s t:Int × Int) (w:World)=>Z0 s t w;have HE:Box (QJ f x s=(qL f x.args s.1 && tyE (zq f x.dst) s.2)):=hid rfl;have HAB:Box (qL f x.args s.1=(decide (x.args.length=s.1.length) && (List.range x.args.length).all fun k=>tyE (zq f (x.args.getD k 0)) (s.1.getD k (0,0)))):=hid rfl;obtain ⟨g0,g1⟩:=zt.1 hd;obtain ⟨D,hD⟩:∃ D:Nat,x.dst=(D:Int):=⟨x.dst.toNat,by omega⟩;obtain ⟨rb,ro,rfl,hdc⟩:=hr.at (zg (l:=f.regs) (k:=D) (d:=(0,0)) (by omega));have HTD:Box (zq f x.dst=f.regs.getD D (0,0)):=hid (by rw[hD,Zd (by rw[← hR, ← hD];exact hd)];rfl);have DC:Box (∀ w',zc [] W w'→w'.cell? ⟨rb,ro+D * 2,none⟩=some (int i64 (f.regs.getD D (0,0)).1)∧w'.cell? ⟨rb,ro+D * 2+1,none⟩=some (int i64 (f.regs.getD D (0,0)).2)):=hid fun w' k=>⟨za (k2.quiet k) hdc.c0.1,za (k2.quiet k) hdc.c1.1⟩;have hDR:(D:Int)<(R:Int):=by omega
 obtain ⟨n,hn⟩:∃ n,n=x.args.length:=⟨_,rfl⟩;obtain ⟨m,hm⟩:∃ m,m=s.1.length:=⟨_,rfl⟩;rw[← hn, ← hm] at HAB B;have HN:=hid hn;have HM:=hid hm;have hn1':(n:Int)≤9223372036854775807:=by omega
 have HDD:=hid hD;unfold fnV z8;rw[← hn, ← hm];rw[← hn, ← hm] at HWE;clear hr hz hs ha hW k2 hR hn1 hn2 hn3 hdc hd g0 g1 hn hm hl;rw[hD] at B HWE ⊢;clear hD;generalize f.regs.getD D (0,0)=TD at *;go_enter Tryz.func176,Tryz.ntmps176;go_upto_region 1 with fail;rw[← HWE.o];clear HWE;generalize w.heap.size=q at *;obtain ⟨b1,b2,b3,b4,b5,b6⟩:=B.o _ (zc.refl _ _);by_cases hnm:n=m
 case neg=>
  have q1:((n:Int) != (m:Int))=true:=QB (by omega);have HF:Box (QJ f x s=false):=hid (by rw[HE.o,HAB.o];simp[hnm]);clear hnm HE HAB;go_wp2_with fail;go_ret;exact ⟨by rw[HF.o];rfl,HK2.o⟩
 obtain rfl:m=n:=hnm.symm;have q1:((m:Int) != (m:Int))=false:=QS rfl;have HAC:Box (qL f x.args s.1=(List.range m).all fun k=>tyE (zq f (x.args.getD k 0)) (s.1.getD k (0,0))):=hid (by rw[HAB.o];simp);clear hnm HAB;go_wp2_with fail;clear b1 b2 b3 b4 b5 b6
 go_loopw [9] (fun kv wr=>∃ k:Nat,k≤m∧kv=int i64 (k:Int)∧Box (zc [] W wr)∧Box (∀ j,j<k→tyE (zq f (x.args.getD j 0)) (s.1.getD j (0,0))=true)) (fun kv _=>m - (intOf kv).toNat)
 case atStart=>exact ⟨0,by omega,rfl,hid (zc.refl _ _),hid fun j hj=>by omega⟩
 case round=>
  obtain ⟨k,hk,rfl,HK,HB⟩:=hrel;obtain ⟨b1,b2,b3,b4,b5,b6⟩:=B.o _ HK.o;by_cases hlt:k<m
  ·have hlt':(k:Int)<(m:Int):=by omega
   have hkl:k<x.args.length:=by rw[← HN.o];exact hlt
   obtain ⟨zb,zo,rfl,hc⟩:∃ b off,a=some ⟨b,off,none⟩∧w.cell? ⟨b,off+k,none⟩=some (int i64 (x.args.getD k 0)):=by
    rcases HZ.o with e | ⟨b,off,e,h⟩
    ·rw[e] at hkl;simp at hkl
    ·exact ⟨b,off,e,h k hkl⟩
   have hin:inB (x.args.getD k 0) R=true:=Jv HA.o (zg (d:=0) hkl);obtain ⟨sb,so,rfl,hsc⟩:=HS.o.at (zg (l:=s.1) (k:=k) (d:=(0,0)) (by rw[← HM.o];exact hlt));obtain ⟨g0,g1⟩:=zt.1 hin;have REL:Box (tyE (zq f (x.args.getD k 0)) (s.1.getD k (0,0))=true→∀ j,j<k+1→tyE (zq f (x.args.getD j 0)) (s.1.getD j (0,0))=true):=hid fun hg j hj=>by
    by_cases e:j<k
    ·exact HB.o j e
    ·obtain rfl:j=k:=by omega
     exact hg
   have BAD:Box (tyE (zq f (x.args.getD k 0)) (s.1.getD k (0,0))=false→QJ f x s=false):=hid fun hg=>by
    have:qL f x.args s.1=false:=by
     rw[HAC.o,List.all_eq_false];exact ⟨k,List.mem_range.2 hlt,by rw[hg];simp⟩
    rw[HE.o,this];rfl
   have hTr:zq f (x.args.getD k 0)=f.regs.getD (x.args.getD k 0).toNat (0,0):=Zd (by rw[← HR.o];exact hin);obtain ⟨r,hrr⟩:∃ r:Nat,x.args.getD k 0=(r:Int):=⟨(x.args.getD k 0).toNat,by omega⟩;have hrl:r<f.regs.length:=by have:=HR.o;omega
   obtain ⟨b',off',heq,hrc⟩:=HRR.o.at (zg (l:=f.regs) (k:=r) (d:=(0,0)) hrl);cases heq;rw[hrr] at hTr hc g1;rw[show ((r:Int)).toNat=r by omega] at hTr;rw[hrr,hTr] at REL BAD;have hrR:(r:Int)<(R:Int):=g1;have kW:=HK2.o.quiet HK.o;have d:=za kW hc;have d0:=za kW hrc.c0.1;have d1:=za kW hrc.c1.1;have e0:=za kW hsc.c0.1;have e1:=za kW hsc.c1.1;clear hc hsc hrc hin g0 g1 hTr hrr hrl kW hkl;generalize f.regs.getD r (0,0)=U at *;generalize s.1.getD k (0,0)=T at *;have HC:=hid (HEQ.o U T);unfold tyV at HC
   have CC:Box (∀ w',zc [] wr w'→w'.cell? ⟨q,1,none⟩=some (.slice (some ⟨rb,ro,none⟩) R rp)∧w'.cell? ⟨q+1,5,none⟩=some (.slice (some ⟨zb,zo,none⟩) m cp)∧w'.cell? ⟨q+2,0,none⟩=some (.slice (some ⟨sb,so,none⟩) m sp)∧w'.cell? ⟨zb,zo+k,none⟩=some (int i64 (r:Int))∧w'.cell? ⟨rb,ro+r * 2,none⟩=some (int i64 U.1)∧w'.cell? ⟨rb,ro+r * 2+1,none⟩=some (int i64 U.2)∧w'.cell? ⟨sb,so+k * 2,none⟩=some (int i64 T.1)∧w'.cell? ⟨sb,so+k * 2+1,none⟩=some (int i64 T.2)):=hid (by
    intro w' kk
    exact ⟨za kk b1,za kk b3,za kk b4,za kk d,za kk d0,za kk d1,za kk e0,za kk e1⟩)
   cases hg:tyE U T with
   | true=>
    rw[hg] at HC;have HR2:=hid (REL.o hg);clear hg REL BAD;go_upto_region 6 with fail
    go_region_held3 (fun w'=>w'.cell? ⟨q,1,none⟩=some (.slice (some ⟨rb,ro,none⟩) R rp)∧w'.cell? ⟨q+1,5,none⟩=some (.slice (some ⟨zb,zo,none⟩) m cp)∧w'.cell? ⟨q+2,0,none⟩=some (.slice (some ⟨sb,so,none⟩) m sp)∧w'.cell? ⟨zb,zo+k,none⟩=some (int i64 (r:Int))∧w'.cell? ⟨rb,ro+r * 2,none⟩=some (int i64 U.1)∧w'.cell? ⟨rb,ro+r * 2+1,none⟩=some (int i64 U.2)∧w'.cell? ⟨sb,so+k * 2,none⟩=some (int i64 T.1)∧w'.cell? ⟨sb,so+k * 2+1,none⟩=some (int i64 T.2)) (go_keep) (first | (go_at_call 113;refine (HC.o _).mono ?_;rintro e w5 ⟨rfl,k5⟩;obtain ⟨y1,y2,y3,y4,y5,y6,y7,y8⟩:=CC.o _ ((zc.drew [] _).quiet k5);have K5:=hid (HK.o.quiet ((zc.drew [] _).quiet k5));clear k5))
    go_wp2_with fail;go_roundw
    case rel=>exact ⟨k+1,by omega,by go_num,K5,HR2⟩
    case measure=>simp[intOf];omega
   | false=>
    rw[hg] at HC;have HF:=hid (BAD.o hg);clear hg REL BAD;go_upto_region 6 with fail
    go_region_held3 (fun w'=>w'.cell? ⟨q,1,none⟩=some (.slice (some ⟨rb,ro,none⟩) R rp)∧w'.cell? ⟨q+1,5,none⟩=some (.slice (some ⟨zb,zo,none⟩) m cp)∧w'.cell? ⟨q+2,0,none⟩=some (.slice (some ⟨sb,so,none⟩) m sp)∧w'.cell? ⟨zb,zo+k,none⟩=some (int i64 (r:Int))∧w'.cell? ⟨rb,ro+r * 2,none⟩=some (int i64 U.1)∧w'.cell? ⟨rb,ro+r * 2+1,none⟩=some (int i64 U.2)∧w'.cell? ⟨sb,so+k * 2,none⟩=some (int i64 T.1)∧w'.cell? ⟨sb,so+k * 2+1,none⟩=some (int i64 T.2)) (go_keep) (first | (go_at_call 113;refine (HC.o _).mono ?_;rintro e w5 ⟨rfl,k5⟩;obtain ⟨y1,y2,y3,y4,y5,y6,y7,y8⟩:=CC.o _ ((zc.drew [] _).quiet k5);have K5:=hid (HK.o.quiet ((zc.drew [] _).quiet k5));clear k5))
    go_wp2_with fail;go_ret;exact ⟨by rw[HF.o];rfl,HK2.o.quiet K5.o⟩
  ·obtain rfl:m=k:=by omega
   have HF:Box (QJ f x s=tyE TD s.2):=hid (by
    have:qL f x.args s.1=true:=by rw[HAC.o,List.all_eq_true];exact fun j hj=>HB.o j (List.mem_range.1 hj)
    rw[HE.o,this,HTD.o]
    rfl)
   obtain ⟨d0,d1⟩:=DC.o _ HK.o;have HC:=hid (HEQ.o TD s.2);unfold tyV at HC;generalize tyE TD s.2=res at *
   have CC:Box (∀ w',zc [] wr w'→w'.cell? ⟨q,1,none⟩=some (.slice (some ⟨rb,ro,none⟩) R rp)∧w'.cell? ⟨q+1,1,none⟩=some (int i64 (D:Int))∧w'.cell? ⟨q+2,1,none⟩=some (int i64 s.2.1)∧w'.cell? ⟨q+2,2,none⟩=some (int i64 s.2.2)∧w'.cell? ⟨rb,ro+D * 2,none⟩=some (int i64 TD.1)∧w'.cell? ⟨rb,ro+D * 2+1,none⟩=some (int i64 TD.2)):=hid (by
    intro w' kk
    exact ⟨za kk b1,za kk b2,za kk b5,za kk b6,za kk d0,za kk d1⟩)
   go_upto_region 8 with fail
   go_region_held3 (fun w'=>w'.cell? ⟨q,1,none⟩=some (.slice (some ⟨rb,ro,none⟩) R rp)∧w'.cell? ⟨q+1,1,none⟩=some (int i64 (D:Int))∧w'.cell? ⟨q+2,1,none⟩=some (int i64 s.2.1)∧w'.cell? ⟨q+2,2,none⟩=some (int i64 s.2.2)∧w'.cell? ⟨rb,ro+D * 2,none⟩=some (int i64 TD.1)∧w'.cell? ⟨rb,ro+D * 2+1,none⟩=some (int i64 TD.2)) (go_keep) (first | (go_at_call 113;refine (HC.o _).mono ?_;rintro e w5 ⟨rfl,k5⟩;obtain ⟨y1,y2,y3,y4,y5,y6⟩:=CC.o _ ((zc.drew [] _).quiet k5);have K5:=hid (HK.o.quiet ((zc.drew [] _).quiet k5));clear k5))
   go_wp2_with fail;go_ret;exact ⟨by rw[HF.o];rfl,HK2.o.quiet K5.o⟩
theorem zjj{s t:Int × Int}:tyE s t=true ↔ s=t:=by
 unfold tyE;rw[Bool.and_eq_true,beq_iff_eq,beq_iff_eq];exact ⟨fun h=>Prod.ext h.1 h.2,fun h=>by rw[h];exact ⟨rfl,rfl⟩⟩
def Jd(P:Pr8)(n:Int):List (Int × Int) × Int × Int:=P.sigs.getD n.toNat ([],0,0)
def if8(P:Pr8)(n:Int):List Int:=P.ifs.getD n.toNat []
def im8(P:Pr8)(k:Nat):Int × Int × List Int:=P.ims.getD k (0,0,[])
def mtB(r:Int)(s t:List (Int × Int) × Int × Int):Bool:=decide (s.1=(1,r) :: t.1) && tyE s.2 t.2
def isM(P:Pr8)(r f n:Int):Bool:=inB f P.funcs.length && (inB (zf P f.toNat).sig P.sigs.length && (inB n P.sigs.length && mtB r (Jd P (zf P f.toNat).sig) (Jd P n)))
def zai(P:Pr8)(m:Int × Int × List Int):Bool:=inB m.1 P.recs.length && (inB m.2.1 P.ifs.length && (decide (m.2.2.length=(if8 P m.2.1).length) && (List.range m.2.2.length).all fun k=>isM P m.1 (m.2.2.getD k 0) ((if8 P m.2.1).getD k 0)))
def Qa(P:Pr8):List (Int × Int):=P.ims.map fun m=>(m.1,m.2.1)
def zaQ(P:Pr8):Bool:=decide (Qa P).Nodup && P.ims.all (zai P)
def zhx(P:Pr8)(i:Nat)(m:Int × Int × List Int):Bool:=decide (m.2.2.length=(if8 P m.2.1).length) && (decide (ZI P m.1 m.2.1=(i:Int)) && (List.range (if8 P m.2.1).length).all fun k=>mtB m.1 (Jd P (zf P (m.2.2.getD k 0).toNat).sig) (Jd P ((if8 P m.2.1).getD k 0)))
def Jr(P:Pr8):Bool:=(List.range P.ims.length).all fun i=>zhx P i (im8 P i)
theorem Z7{i:Nat}(h:i<P.ims.length):P.ims[i]? = some (im8 P i):=zg h
end Go.Proofs.YthflgjkmbakedaaGreatDoor
