import Derived.Deep.RegionLaw
import Derived.Laws.AppendOwnNone
import Derived.Test.YtkgoimokgbdgfaaGreatDoorV05

namespace Go.Proofs.YtkgoimokgbdgfaaGreatDoor
open Go.RowKit
open Go.Value (int pointer agg)
open Go.IntKind (i64)
set_option maxHeartbeats 4000000
set_option maxRecDepth 20000
variable {L:List UInt8}{M b k p rb:Nat}{T:TypeId}{cs:Array Value}{ks:List Nat}{w:World}
def je(o:Int):Bool:=decide ((1≤o∧o≤7)∨(10≤o∧o≤14))
def jt(o:Int):Bool:=decide (o=2∨(6≤o∧o≤9)∨o=11∨(13≤o∧o≤15))
def jv(o:Int):Bool:=decide (o=2∨o=8)
def js(o:Int):Bool:=decide (o=1∨o=7∨o=8∨o=10∨o=12∨o=14)
def jo(o:Int):Bool:=decide (12≤o∧o≤14)
def zn(x:In8):Bool:=decide (1≤x.op∧x.op≤15) && ((je x.op || decide (x.dst=0)) && ((jt x.op || decide (x.a=0)) && ((jv x.op || decide (x.b=0)) && ((js x.op || decide (x.n=0)) && (jo x.op || decide (x.args.length=0))))))
theorem znU(d a b n:Int)(ar:List Int)(p:Option Addr)(cp:Nat)(w:World):Calls Tryz.prog 146 #[agg #[int i64 1,int i64 d,int i64 a,int i64 b,int i64 n,.slice p ar.length cp]] w fun e w'=>e=.returned (.bool (zn ⟨1,d,a,b,n,ar⟩))∧zc [] w w':=by
 have HB:Box (zn ⟨1,d,a,b,n,ar⟩=(decide (a=0) && (decide (b=0) && (decide (ar.length=0))))):=hid (by simp[zn,je,jt,jv,js,jo]);generalize zn ⟨1,d,a,b,n,ar⟩=res at *;generalize ar.length=r at *;go_enter Tryz.func146,Tryz.ntmps146;go_upto_region 28 with fail;by_cases ha:a=0
 case neg=>
  have ga:(a == 0)=false:=neb (by omega);have HE:Box (res=false):=hid (by rw[HB.o];simp[ha]);clear HB;clear ha;go_wp2_with fail;go_ret;exact ⟨by rw[HE.o];rfl,zc.alloc _ _ _⟩
 have ga:(a == 0)=true:=eqb (by omega);by_cases hb:b=0
 case neg=>
  have gb:(b == 0)=false:=neb (by omega);have HE:Box (res=false):=hid (by rw[HB.o];simp[ha,hb]);clear HB;clear ha hb;go_wp2_with fail;go_ret;exact ⟨by rw[HE.o];rfl,zc.alloc _ _ _⟩
 have gb:(b == 0)=true:=eqb (by omega);by_cases hr:r=0
 case neg=>
  have gr:((r:Int) == 0)=false:=neb (by omega);have HE:Box (res=false):=hid (by rw[HB.o];simp[ha,hb,hr]);clear HB;clear ha hb hr;go_wp2_with fail;go_ret;exact ⟨by rw[HE.o];rfl,zc.alloc _ _ _⟩
 have gr:((r:Int) == 0)=true:=eqb (by omega);have HE:Box (res=true):=hid (by rw[HB.o];simp[ha,hb,hr]);clear HB;clear ha hb hr;go_wp2_with fail;go_ret;exact ⟨by rw[HE.o];rfl,zc.alloc _ _ _⟩
theorem zoc(d a b n:Int)(ar:List Int)(p:Option Addr)(cp:Nat)(w:World):Calls Tryz.prog 146 #[agg #[int i64 2,int i64 d,int i64 a,int i64 b,int i64 n,.slice p ar.length cp]] w fun e w'=>e=.returned (.bool (zn ⟨2,d,a,b,n,ar⟩))∧zc [] w w':=by
 have HB:Box (zn ⟨2,d,a,b,n,ar⟩=(decide (n=0) && (decide (ar.length=0)))):=hid (by simp[zn,je,jt,jv,js,jo]);generalize zn ⟨2,d,a,b,n,ar⟩=res at *;generalize ar.length=r at *;go_enter Tryz.func146,Tryz.ntmps146;go_upto_region 28 with fail;by_cases hn:n=0
 case neg=>
  have gn:(n == 0)=false:=neb (by omega);have HE:Box (res=false):=hid (by rw[HB.o];simp[hn]);clear HB;clear hn;go_wp2_with fail;go_ret;exact ⟨by rw[HE.o];rfl,zc.alloc _ _ _⟩
 have gn:(n == 0)=true:=eqb (by omega);by_cases hr:r=0
 case neg=>
  have gr:((r:Int) == 0)=false:=neb (by omega);have HE:Box (res=false):=hid (by rw[HB.o];simp[hn,hr]);clear HB;clear hn hr;go_wp2_with fail;go_ret;exact ⟨by rw[HE.o];rfl,zc.alloc _ _ _⟩
 have gr:((r:Int) == 0)=true:=eqb (by omega);have HE:Box (res=true):=hid (by rw[HB.o];simp[hn,hr]);clear HB;clear hn hr;go_wp2_with fail;go_ret;exact ⟨by rw[HE.o];rfl,zc.alloc _ _ _⟩
theorem zn6(d a b n:Int)(ar:List Int)(p:Option Addr)(cp:Nat)(w:World):Calls Tryz.prog 146 #[agg #[int i64 3,int i64 d,int i64 a,int i64 b,int i64 n,.slice p ar.length cp]] w fun e w'=>e=.returned (.bool (zn ⟨3,d,a,b,n,ar⟩))∧zc [] w w':=by
 have HB:Box (zn ⟨3,d,a,b,n,ar⟩=(decide (a=0) && (decide (b=0) && (decide (n=0) && (decide (ar.length=0)))))):=hid (by simp[zn,je,jt,jv,js,jo]);generalize zn ⟨3,d,a,b,n,ar⟩=res at *;generalize ar.length=r at *;go_enter Tryz.func146,Tryz.ntmps146;go_upto_region 28 with fail;by_cases ha:a=0
 case neg=>
  have ga:(a == 0)=false:=neb (by omega);have HE:Box (res=false):=hid (by rw[HB.o];simp[ha]);clear HB;clear ha;go_wp2_with fail;go_ret;exact ⟨by rw[HE.o];rfl,zc.alloc _ _ _⟩
 have ga:(a == 0)=true:=eqb (by omega);by_cases hb:b=0
 case neg=>
  have gb:(b == 0)=false:=neb (by omega);have HE:Box (res=false):=hid (by rw[HB.o];simp[ha,hb]);clear HB;clear ha hb;go_wp2_with fail;go_ret;exact ⟨by rw[HE.o];rfl,zc.alloc _ _ _⟩
 have gb:(b == 0)=true:=eqb (by omega);by_cases hn:n=0
 case neg=>
  have gn:(n == 0)=false:=neb (by omega);have HE:Box (res=false):=hid (by rw[HB.o];simp[ha,hb,hn]);clear HB;clear ha hb hn;go_wp2_with fail;go_ret;exact ⟨by rw[HE.o];rfl,zc.alloc _ _ _⟩
 have gn:(n == 0)=true:=eqb (by omega);by_cases hr:r=0
 case neg=>
  have gr:((r:Int) == 0)=false:=neb (by omega);have HE:Box (res=false):=hid (by rw[HB.o];simp[ha,hb,hn,hr]);clear HB;clear ha hb hn hr;go_wp2_with fail;go_ret;exact ⟨by rw[HE.o];rfl,zc.alloc _ _ _⟩
 have gr:((r:Int) == 0)=true:=eqb (by omega);have HE:Box (res=true):=hid (by rw[HB.o];simp[ha,hb,hn,hr]);clear HB;clear ha hb hn hr;go_wp2_with fail;go_ret;exact ⟨by rw[HE.o];rfl,zc.alloc _ _ _⟩
theorem znQ(d a b n:Int)(ar:List Int)(p:Option Addr)(cp:Nat)(w:World):Calls Tryz.prog 146 #[agg #[int i64 4,int i64 d,int i64 a,int i64 b,int i64 n,.slice p ar.length cp]] w fun e w'=>e=.returned (.bool (zn ⟨4,d,a,b,n,ar⟩))∧zc [] w w':=by
 have HB:Box (zn ⟨4,d,a,b,n,ar⟩=(decide (a=0) && (decide (b=0) && (decide (n=0) && (decide (ar.length=0)))))):=hid (by simp[zn,je,jt,jv,js,jo]);generalize zn ⟨4,d,a,b,n,ar⟩=res at *;generalize ar.length=r at *;go_enter Tryz.func146,Tryz.ntmps146;go_upto_region 28 with fail;by_cases ha:a=0
 case neg=>
  have ga:(a == 0)=false:=neb (by omega);have HE:Box (res=false):=hid (by rw[HB.o];simp[ha]);clear HB;clear ha;go_wp2_with fail;go_ret;exact ⟨by rw[HE.o];rfl,zc.alloc _ _ _⟩
 have ga:(a == 0)=true:=eqb (by omega);by_cases hb:b=0
 case neg=>
  have gb:(b == 0)=false:=neb (by omega);have HE:Box (res=false):=hid (by rw[HB.o];simp[ha,hb]);clear HB;clear ha hb;go_wp2_with fail;go_ret;exact ⟨by rw[HE.o];rfl,zc.alloc _ _ _⟩
 have gb:(b == 0)=true:=eqb (by omega);by_cases hn:n=0
 case neg=>
  have gn:(n == 0)=false:=neb (by omega);have HE:Box (res=false):=hid (by rw[HB.o];simp[ha,hb,hn]);clear HB;clear ha hb hn;go_wp2_with fail;go_ret;exact ⟨by rw[HE.o];rfl,zc.alloc _ _ _⟩
 have gn:(n == 0)=true:=eqb (by omega);by_cases hr:r=0
 case neg=>
  have gr:((r:Int) == 0)=false:=neb (by omega);have HE:Box (res=false):=hid (by rw[HB.o];simp[ha,hb,hn,hr]);clear HB;clear ha hb hn hr;go_wp2_with fail;go_ret;exact ⟨by rw[HE.o];rfl,zc.alloc _ _ _⟩
 have gr:((r:Int) == 0)=true:=eqb (by omega);have HE:Box (res=true):=hid (by rw[HB.o];simp[ha,hb,hn,hr]);clear HB;clear ha hb hn hr;go_wp2_with fail;go_ret;exact ⟨by rw[HE.o];rfl,zc.alloc _ _ _⟩
theorem znG(d a b n:Int)(ar:List Int)(p:Option Addr)(cp:Nat)(w:World):Calls Tryz.prog 146 #[agg #[int i64 5,int i64 d,int i64 a,int i64 b,int i64 n,.slice p ar.length cp]] w fun e w'=>e=.returned (.bool (zn ⟨5,d,a,b,n,ar⟩))∧zc [] w w':=by
 have HB:Box (zn ⟨5,d,a,b,n,ar⟩=(decide (a=0) && (decide (b=0) && (decide (n=0) && (decide (ar.length=0)))))):=hid (by simp[zn,je,jt,jv,js,jo]);generalize zn ⟨5,d,a,b,n,ar⟩=res at *;generalize ar.length=r at *;go_enter Tryz.func146,Tryz.ntmps146;go_upto_region 28 with fail;by_cases ha:a=0
 case neg=>
  have ga:(a == 0)=false:=neb (by omega);have HE:Box (res=false):=hid (by rw[HB.o];simp[ha]);clear HB;clear ha;go_wp2_with fail;go_ret;exact ⟨by rw[HE.o];rfl,zc.alloc _ _ _⟩
 have ga:(a == 0)=true:=eqb (by omega);by_cases hb:b=0
 case neg=>
  have gb:(b == 0)=false:=neb (by omega);have HE:Box (res=false):=hid (by rw[HB.o];simp[ha,hb]);clear HB;clear ha hb;go_wp2_with fail;go_ret;exact ⟨by rw[HE.o];rfl,zc.alloc _ _ _⟩
 have gb:(b == 0)=true:=eqb (by omega);by_cases hn:n=0
 case neg=>
  have gn:(n == 0)=false:=neb (by omega);have HE:Box (res=false):=hid (by rw[HB.o];simp[ha,hb,hn]);clear HB;clear ha hb hn;go_wp2_with fail;go_ret;exact ⟨by rw[HE.o];rfl,zc.alloc _ _ _⟩
 have gn:(n == 0)=true:=eqb (by omega);by_cases hr:r=0
 case neg=>
  have gr:((r:Int) == 0)=false:=neb (by omega);have HE:Box (res=false):=hid (by rw[HB.o];simp[ha,hb,hn,hr]);clear HB;clear ha hb hn hr;go_wp2_with fail;go_ret;exact ⟨by rw[HE.o];rfl,zc.alloc _ _ _⟩
 have gr:((r:Int) == 0)=true:=eqb (by omega);have HE:Box (res=true):=hid (by rw[HB.o];simp[ha,hb,hn,hr]);clear HB;clear ha hb hn hr;go_wp2_with fail;go_ret;exact ⟨by rw[HE.o];rfl,zc.alloc _ _ _⟩
theorem znK(d a b n:Int)(ar:List Int)(p:Option Addr)(cp:Nat)(w:World):Calls Tryz.prog 146 #[agg #[int i64 6,int i64 d,int i64 a,int i64 b,int i64 n,.slice p ar.length cp]] w fun e w'=>e=.returned (.bool (zn ⟨6,d,a,b,n,ar⟩))∧zc [] w w':=by
 have HB:Box (zn ⟨6,d,a,b,n,ar⟩=(decide (b=0) && (decide (n=0) && (decide (ar.length=0))))):=hid (by simp[zn,je,jt,jv,js,jo]);generalize zn ⟨6,d,a,b,n,ar⟩=res at *;generalize ar.length=r at *;go_enter Tryz.func146,Tryz.ntmps146;go_upto_region 28 with fail;by_cases hb:b=0
 case neg=>
  have gb:(b == 0)=false:=neb (by omega);have HE:Box (res=false):=hid (by rw[HB.o];simp[hb]);clear HB;clear hb;go_wp2_with fail;go_ret;exact ⟨by rw[HE.o];rfl,zc.alloc _ _ _⟩
 have gb:(b == 0)=true:=eqb (by omega);by_cases hn:n=0
 case neg=>
  have gn:(n == 0)=false:=neb (by omega);have HE:Box (res=false):=hid (by rw[HB.o];simp[hb,hn]);clear HB;clear hb hn;go_wp2_with fail;go_ret;exact ⟨by rw[HE.o];rfl,zc.alloc _ _ _⟩
 have gn:(n == 0)=true:=eqb (by omega);by_cases hr:r=0
 case neg=>
  have gr:((r:Int) == 0)=false:=neb (by omega);have HE:Box (res=false):=hid (by rw[HB.o];simp[hb,hn,hr]);clear HB;clear hb hn hr;go_wp2_with fail;go_ret;exact ⟨by rw[HE.o];rfl,zc.alloc _ _ _⟩
 have gr:((r:Int) == 0)=true:=eqb (by omega);have HE:Box (res=true):=hid (by rw[HB.o];simp[hb,hn,hr]);clear HB;clear hb hn hr;go_wp2_with fail;go_ret;exact ⟨by rw[HE.o];rfl,zc.alloc _ _ _⟩
theorem znT(d a b n:Int)(ar:List Int)(p:Option Addr)(cp:Nat)(w:World):Calls Tryz.prog 146 #[agg #[int i64 7,int i64 d,int i64 a,int i64 b,int i64 n,.slice p ar.length cp]] w fun e w'=>e=.returned (.bool (zn ⟨7,d,a,b,n,ar⟩))∧zc [] w w':=by
 have HB:Box (zn ⟨7,d,a,b,n,ar⟩=(decide (b=0) && (decide (ar.length=0)))):=hid (by simp[zn,je,jt,jv,js,jo]);generalize zn ⟨7,d,a,b,n,ar⟩=res at *;generalize ar.length=r at *;go_enter Tryz.func146,Tryz.ntmps146;go_upto_region 28 with fail;by_cases hb:b=0
 case neg=>
  have gb:(b == 0)=false:=neb (by omega);have HE:Box (res=false):=hid (by rw[HB.o];simp[hb]);clear HB;clear hb;go_wp2_with fail;go_ret;exact ⟨by rw[HE.o];rfl,zc.alloc _ _ _⟩
 have gb:(b == 0)=true:=eqb (by omega);by_cases hr:r=0
 case neg=>
  have gr:((r:Int) == 0)=false:=neb (by omega);have HE:Box (res=false):=hid (by rw[HB.o];simp[hb,hr]);clear HB;clear hb hr;go_wp2_with fail;go_ret;exact ⟨by rw[HE.o];rfl,zc.alloc _ _ _⟩
 have gr:((r:Int) == 0)=true:=eqb (by omega);have HE:Box (res=true):=hid (by rw[HB.o];simp[hb,hr]);clear HB;clear hb hr;go_wp2_with fail;go_ret;exact ⟨by rw[HE.o];rfl,zc.alloc _ _ _⟩
theorem zoR(d a b n:Int)(ar:List Int)(p:Option Addr)(cp:Nat)(w:World):Calls Tryz.prog 146 #[agg #[int i64 8,int i64 d,int i64 a,int i64 b,int i64 n,.slice p ar.length cp]] w fun e w'=>e=.returned (.bool (zn ⟨8,d,a,b,n,ar⟩))∧zc [] w w':=by
 have HB:Box (zn ⟨8,d,a,b,n,ar⟩=(decide (d=0) && (decide (ar.length=0)))):=hid (by simp[zn,je,jt,jv,js,jo]);generalize zn ⟨8,d,a,b,n,ar⟩=res at *;generalize ar.length=r at *;go_enter Tryz.func146,Tryz.ntmps146;go_upto_region 28 with fail;by_cases hd:d=0
 case neg=>
  have gd:(d == 0)=false:=neb (by omega);have HE:Box (res=false):=hid (by rw[HB.o];simp[hd]);clear HB;clear hd;go_wp2_with fail;go_ret;exact ⟨by rw[HE.o];rfl,zc.alloc _ _ _⟩
 have gd:(d == 0)=true:=eqb (by omega);by_cases hr:r=0
 case neg=>
  have gr:((r:Int) == 0)=false:=neb (by omega);have HE:Box (res=false):=hid (by rw[HB.o];simp[hd,hr]);clear HB;clear hd hr;go_wp2_with fail;go_ret;exact ⟨by rw[HE.o];rfl,zc.alloc _ _ _⟩
 have gr:((r:Int) == 0)=true:=eqb (by omega);have HE:Box (res=true):=hid (by rw[HB.o];simp[hd,hr]);clear HB;clear hd hr;go_wp2_with fail;go_ret;exact ⟨by rw[HE.o];rfl,zc.alloc _ _ _⟩
theorem zoz(d a b n:Int)(ar:List Int)(p:Option Addr)(cp:Nat)(w:World):Calls Tryz.prog 146 #[agg #[int i64 9,int i64 d,int i64 a,int i64 b,int i64 n,.slice p ar.length cp]] w fun e w'=>e=.returned (.bool (zn ⟨9,d,a,b,n,ar⟩))∧zc [] w w':=by
 have HB:Box (zn ⟨9,d,a,b,n,ar⟩=(decide (d=0) && (decide (b=0) && (decide (n=0) && (decide (ar.length=0)))))):=hid (by simp[zn,je,jt,jv,js,jo]);generalize zn ⟨9,d,a,b,n,ar⟩=res at *;generalize ar.length=r at *;go_enter Tryz.func146,Tryz.ntmps146;go_upto_region 28 with fail;by_cases hd:d=0
 case neg=>
  have gd:(d == 0)=false:=neb (by omega);have HE:Box (res=false):=hid (by rw[HB.o];simp[hd]);clear HB;clear hd;go_wp2_with fail;go_ret;exact ⟨by rw[HE.o];rfl,zc.alloc _ _ _⟩
 have gd:(d == 0)=true:=eqb (by omega);by_cases hb:b=0
 case neg=>
  have gb:(b == 0)=false:=neb (by omega);have HE:Box (res=false):=hid (by rw[HB.o];simp[hd,hb]);clear HB;clear hd hb;go_wp2_with fail;go_ret;exact ⟨by rw[HE.o];rfl,zc.alloc _ _ _⟩
 have gb:(b == 0)=true:=eqb (by omega);by_cases hn:n=0
 case neg=>
  have gn:(n == 0)=false:=neb (by omega);have HE:Box (res=false):=hid (by rw[HB.o];simp[hd,hb,hn]);clear HB;clear hd hb hn;go_wp2_with fail;go_ret;exact ⟨by rw[HE.o];rfl,zc.alloc _ _ _⟩
 have gn:(n == 0)=true:=eqb (by omega);by_cases hr:r=0
 case neg=>
  have gr:((r:Int) == 0)=false:=neb (by omega);have HE:Box (res=false):=hid (by rw[HB.o];simp[hd,hb,hn,hr]);clear HB;clear hd hb hn hr;go_wp2_with fail;go_ret;exact ⟨by rw[HE.o];rfl,zc.alloc _ _ _⟩
 have gr:((r:Int) == 0)=true:=eqb (by omega);have HE:Box (res=true):=hid (by rw[HB.o];simp[hd,hb,hn,hr]);clear HB;clear hd hb hn hr;go_wp2_with fail;go_ret;exact ⟨by rw[HE.o];rfl,zc.alloc _ _ _⟩
theorem zlI(d a b n:Int)(ar:List Int)(p:Option Addr)(cp:Nat)(w:World):Calls Tryz.prog 146 #[agg #[int i64 10,int i64 d,int i64 a,int i64 b,int i64 n,.slice p ar.length cp]] w fun e w'=>e=.returned (.bool (zn ⟨10,d,a,b,n,ar⟩))∧zc [] w w':=by
 have HB:Box (zn ⟨10,d,a,b,n,ar⟩=(decide (a=0) && (decide (b=0) && (decide (ar.length=0))))):=hid (by simp[zn,je,jt,jv,js,jo]);generalize zn ⟨10,d,a,b,n,ar⟩=res at *;generalize ar.length=r at *;go_enter Tryz.func146,Tryz.ntmps146;go_upto_region 28 with fail;by_cases ha:a=0
 case neg=>
  have ga:(a == 0)=false:=neb (by omega);have HE:Box (res=false):=hid (by rw[HB.o];simp[ha]);clear HB;clear ha;go_wp2_with fail;go_ret;exact ⟨by rw[HE.o];rfl,zc.alloc _ _ _⟩
 have ga:(a == 0)=true:=eqb (by omega);by_cases hb:b=0
 case neg=>
  have gb:(b == 0)=false:=neb (by omega);have HE:Box (res=false):=hid (by rw[HB.o];simp[ha,hb]);clear HB;clear ha hb;go_wp2_with fail;go_ret;exact ⟨by rw[HE.o];rfl,zc.alloc _ _ _⟩
 have gb:(b == 0)=true:=eqb (by omega);by_cases hr:r=0
 case neg=>
  have gr:((r:Int) == 0)=false:=neb (by omega);have HE:Box (res=false):=hid (by rw[HB.o];simp[ha,hb,hr]);clear HB;clear ha hb hr;go_wp2_with fail;go_ret;exact ⟨by rw[HE.o];rfl,zc.alloc _ _ _⟩
 have gr:((r:Int) == 0)=true:=eqb (by omega);have HE:Box (res=true):=hid (by rw[HB.o];simp[ha,hb,hr]);clear HB;clear ha hb hr;go_wp2_with fail;go_ret;exact ⟨by rw[HE.o];rfl,zc.alloc _ _ _⟩
theorem znr(d a b n:Int)(ar:List Int)(p:Option Addr)(cp:Nat)(w:World):Calls Tryz.prog 146 #[agg #[int i64 11,int i64 d,int i64 a,int i64 b,int i64 n,.slice p ar.length cp]] w fun e w'=>e=.returned (.bool (zn ⟨11,d,a,b,n,ar⟩))∧zc [] w w':=by
 have HB:Box (zn ⟨11,d,a,b,n,ar⟩=(decide (b=0) && (decide (n=0) && (decide (ar.length=0))))):=hid (by simp[zn,je,jt,jv,js,jo]);generalize zn ⟨11,d,a,b,n,ar⟩=res at *;generalize ar.length=r at *;go_enter Tryz.func146,Tryz.ntmps146;go_upto_region 28 with fail;by_cases hb:b=0
 case neg=>
  have gb:(b == 0)=false:=neb (by omega);have HE:Box (res=false):=hid (by rw[HB.o];simp[hb]);clear HB;clear hb;go_wp2_with fail;go_ret;exact ⟨by rw[HE.o];rfl,zc.alloc _ _ _⟩
 have gb:(b == 0)=true:=eqb (by omega);by_cases hn:n=0
 case neg=>
  have gn:(n == 0)=false:=neb (by omega);have HE:Box (res=false):=hid (by rw[HB.o];simp[hb,hn]);clear HB;clear hb hn;go_wp2_with fail;go_ret;exact ⟨by rw[HE.o];rfl,zc.alloc _ _ _⟩
 have gn:(n == 0)=true:=eqb (by omega);by_cases hr:r=0
 case neg=>
  have gr:((r:Int) == 0)=false:=neb (by omega);have HE:Box (res=false):=hid (by rw[HB.o];simp[hb,hn,hr]);clear HB;clear hb hn hr;go_wp2_with fail;go_ret;exact ⟨by rw[HE.o];rfl,zc.alloc _ _ _⟩
 have gr:((r:Int) == 0)=true:=eqb (by omega);have HE:Box (res=true):=hid (by rw[HB.o];simp[hb,hn,hr]);clear HB;clear hb hn hr;go_wp2_with fail;go_ret;exact ⟨by rw[HE.o];rfl,zc.alloc _ _ _⟩
theorem zlB(d a b n:Int)(ar:List Int)(p:Option Addr)(cp:Nat)(w:World):Calls Tryz.prog 146 #[agg #[int i64 12,int i64 d,int i64 a,int i64 b,int i64 n,.slice p ar.length cp]] w fun e w'=>e=.returned (.bool (zn ⟨12,d,a,b,n,ar⟩))∧zc [] w w':=by
 have HB:Box (zn ⟨12,d,a,b,n,ar⟩=(decide (a=0) && (decide (b=0)))):=hid (by simp[zn,je,jt,jv,js,jo]);generalize zn ⟨12,d,a,b,n,ar⟩=res at *;generalize ar.length=r at *;go_enter Tryz.func146,Tryz.ntmps146;go_upto_region 28 with fail;by_cases ha:a=0
 case neg=>
  have ga:(a == 0)=false:=neb (by omega);have HE:Box (res=false):=hid (by rw[HB.o];simp[ha]);clear HB;clear ha;go_wp2_with fail;go_ret;exact ⟨by rw[HE.o];rfl,zc.alloc _ _ _⟩
 have ga:(a == 0)=true:=eqb (by omega);by_cases hb:b=0
 case neg=>
  have gb:(b == 0)=false:=neb (by omega);have HE:Box (res=false):=hid (by rw[HB.o];simp[ha,hb]);clear HB;clear ha hb;go_wp2_with fail;go_ret;exact ⟨by rw[HE.o];rfl,zc.alloc _ _ _⟩
 have gb:(b == 0)=true:=eqb (by omega);have HE:Box (res=true):=hid (by rw[HB.o];simp[ha,hb]);clear HB;clear ha hb;go_wp2_with fail;go_ret;exact ⟨by rw[HE.o];rfl,zc.alloc _ _ _⟩
theorem zmr(d a b n:Int)(ar:List Int)(p:Option Addr)(cp:Nat)(w:World):Calls Tryz.prog 146 #[agg #[int i64 13,int i64 d,int i64 a,int i64 b,int i64 n,.slice p ar.length cp]] w fun e w'=>e=.returned (.bool (zn ⟨13,d,a,b,n,ar⟩))∧zc [] w w':=by
 have HB:Box (zn ⟨13,d,a,b,n,ar⟩=(decide (b=0) && (decide (n=0)))):=hid (by simp[zn,je,jt,jv,js,jo]);generalize zn ⟨13,d,a,b,n,ar⟩=res at *;generalize ar.length=r at *;go_enter Tryz.func146,Tryz.ntmps146;go_upto_region 28 with fail;by_cases hb:b=0
 case neg=>
  have gb:(b == 0)=false:=neb (by omega);have HE:Box (res=false):=hid (by rw[HB.o];simp[hb]);clear HB;clear hb;go_wp2_with fail;go_ret;exact ⟨by rw[HE.o];rfl,zc.alloc _ _ _⟩
 have gb:(b == 0)=true:=eqb (by omega);by_cases hn:n=0
 case neg=>
  have gn:(n == 0)=false:=neb (by omega);have HE:Box (res=false):=hid (by rw[HB.o];simp[hb,hn]);clear HB;clear hb hn;go_wp2_with fail;go_ret;exact ⟨by rw[HE.o];rfl,zc.alloc _ _ _⟩
 have gn:(n == 0)=true:=eqb (by omega);have HE:Box (res=true):=hid (by rw[HB.o];simp[hb,hn]);clear HB;clear hb hn;go_wp2_with fail;go_ret;exact ⟨by rw[HE.o];rfl,zc.alloc _ _ _⟩
theorem zl4(d a b n:Int)(ar:List Int)(p:Option Addr)(cp:Nat)(w:World):Calls Tryz.prog 146 #[agg #[int i64 14,int i64 d,int i64 a,int i64 b,int i64 n,.slice p ar.length cp]] w fun e w'=>e=.returned (.bool (zn ⟨14,d,a,b,n,ar⟩))∧zc [] w w':=by
 have HB:Box (zn ⟨14,d,a,b,n,ar⟩=(decide (b=0))):=hid (by simp[zn,je,jt,jv,js,jo]);generalize zn ⟨14,d,a,b,n,ar⟩=res at *;generalize ar.length=r at *;go_enter Tryz.func146,Tryz.ntmps146;go_upto_region 28 with fail;by_cases hb:b=0
 case neg=>
  have gb:(b == 0)=false:=neb (by omega);have HE:Box (res=false):=hid (by rw[HB.o];simp[hb]);clear HB;clear hb;go_wp2_with fail;go_ret;exact ⟨by rw[HE.o];rfl,zc.alloc _ _ _⟩
 have gb:(b == 0)=true:=eqb (by omega);have HE:Box (res=true):=hid (by rw[HB.o];simp[hb]);clear HB;clear hb;go_wp2_with fail;go_ret;exact ⟨by rw[HE.o];rfl,zc.alloc _ _ _⟩
theorem zmT(d a b n:Int)(ar:List Int)(p:Option Addr)(cp:Nat)(w:World):Calls Tryz.prog 146 #[agg #[int i64 15,int i64 d,int i64 a,int i64 b,int i64 n,.slice p ar.length cp]] w fun e w'=>e=.returned (.bool (zn ⟨15,d,a,b,n,ar⟩))∧zc [] w w':=by
 have HB:Box (zn ⟨15,d,a,b,n,ar⟩=(decide (d=0) && (decide (b=0) && (decide (n=0) && (decide (ar.length=0)))))):=hid (by simp[zn,je,jt,jv,js,jo]);generalize zn ⟨15,d,a,b,n,ar⟩=res at *;generalize ar.length=r at *;go_enter Tryz.func146,Tryz.ntmps146;go_upto_region 28 with fail;by_cases hd:d=0
 case neg=>
  have gd:(d == 0)=false:=neb (by omega);have HE:Box (res=false):=hid (by rw[HB.o];simp[hd]);clear HB;clear hd;go_wp2_with fail;go_ret;exact ⟨by rw[HE.o];rfl,zc.alloc _ _ _⟩
 have gd:(d == 0)=true:=eqb (by omega);by_cases hb:b=0
 case neg=>
  have gb:(b == 0)=false:=neb (by omega);have HE:Box (res=false):=hid (by rw[HB.o];simp[hd,hb]);clear HB;clear hd hb;go_wp2_with fail;go_ret;exact ⟨by rw[HE.o];rfl,zc.alloc _ _ _⟩
 have gb:(b == 0)=true:=eqb (by omega);by_cases hn:n=0
 case neg=>
  have gn:(n == 0)=false:=neb (by omega);have HE:Box (res=false):=hid (by rw[HB.o];simp[hd,hb,hn]);clear HB;clear hd hb hn;go_wp2_with fail;go_ret;exact ⟨by rw[HE.o];rfl,zc.alloc _ _ _⟩
 have gn:(n == 0)=true:=eqb (by omega);by_cases hr:r=0
 case neg=>
  have gr:((r:Int) == 0)=false:=neb (by omega);have HE:Box (res=false):=hid (by rw[HB.o];simp[hd,hb,hn,hr]);clear HB;clear hd hb hn hr;go_wp2_with fail;go_ret;exact ⟨by rw[HE.o];rfl,zc.alloc _ _ _⟩
 have gr:((r:Int) == 0)=true:=eqb (by omega);have HE:Box (res=true):=hid (by rw[HB.o];simp[hd,hb,hn,hr]);clear HB;clear hd hb hn hr;go_wp2_with fail;go_ret;exact ⟨by rw[HE.o];rfl,zc.alloc _ _ _⟩
theorem zmJ(o d a b n:Int)(ar:List Int)(p:Option Addr)(cp:Nat)(w:World)(hop:¬ (1≤o∧o≤15)):Calls Tryz.prog 146 #[agg #[int i64 o,int i64 d,int i64 a,int i64 b,int i64 n,.slice p ar.length cp]] w fun e w'=>e=.returned (.bool (zn ⟨o,d,a,b,n,ar⟩))∧zc [] w w':=by
 have HE:Box (zn ⟨o,d,a,b,n,ar⟩=false):=hid (by unfold zn;simp only[];rw[decide_eq_false hop];rfl);have o1:=neb (show o≠1 by omega);have o2:=neb (show o≠2 by omega);have o3:=neb (show o≠3 by omega);have o4:=neb (show o≠4 by omega);have o5:=neb (show o≠5 by omega);have o6:=neb (show o≠6 by omega);have o7:=neb (show o≠7 by omega);have o8:=neb (show o≠8 by omega);have o9:=neb (show o≠9 by omega);have o10:=neb (show o≠10 by omega);have o11:=neb (show o≠11 by omega);have o12:=neb (show o≠12 by omega);have o13:=neb (show o≠13 by omega);have o14:=neb (show o≠14 by omega);have o15:=neb (show o≠15 by omega);clear hop;generalize zn ⟨o,d,a,b,n,ar⟩=res at *;generalize ar.length=N at *;go_enter Tryz.func146,Tryz.ntmps146;go_wp2_with fail;go_ret;exact ⟨by rw[HE.o];rfl,zc.alloc _ _ _⟩
theorem zjz{o:Int}(h:1≤o∧o≤15):o=1∨o=2∨o=3∨o=4∨o=5∨o=6∨o=7∨o=8∨o=9∨o=10∨o=11∨o=12∨o=13∨o=14∨o=15:=by omega
theorem zju(x:In8)(p:Option Addr)(cp:Nat)(w:World):Calls Tryz.prog 146 #[zD x (.slice p x.args.length cp)] w fun e w'=>e=.returned (.bool (zn x))∧zc [] w w':=by
 obtain ⟨o,d,a,b,n,ar⟩:=x;by_cases h:1≤o∧o≤15
 ·rcases zjz h with rfl | rfl | rfl | rfl | rfl | rfl | rfl | rfl | rfl | rfl | rfl | rfl | rfl | rfl | rfl
  ·exact znU d a b n ar p cp w
  ·exact zoc d a b n ar p cp w
  ·exact zn6 d a b n ar p cp w
  ·exact znQ d a b n ar p cp w
  ·exact znG d a b n ar p cp w
  ·exact znK d a b n ar p cp w
  ·exact znT d a b n ar p cp w
  ·exact zoR d a b n ar p cp w
  ·exact zoz d a b n ar p cp w
  ·exact zlI d a b n ar p cp w
  ·exact znr d a b n ar p cp w
  ·exact zlB d a b n ar p cp w
  ·exact zmr d a b n ar p cp w
  ·exact zl4 d a b n ar p cp w
  ·exact zmT d a b n ar p cp w
 ·exact zmJ o d a b n ar p cp w h
theorem zgv(h:qt w rb none):Calls Tryz.prog 143 #[pointer (some ⟨rb,0,none⟩)] w fun e w'=>e=.returned (int i64 0)∧qt w' rb none∧zc [rb] w w':=by
 have HF:=hid (zch h);have h':w.heap[rb]? = _:=h;have c0:=zd h' 0;clear h h';go_enter Tryz.func143,Tryz.ntmps143;go_wp2_with fail
 go_loop [11] (fun kv=>kv=int i64 0) (fun _=>0)
 case atStart=>rfl
 case round=>
  subst hrel;go_wp2_with fail;refine HF.o.mono ?_;rintro e w1 ⟨rfl,h1,h2⟩;go_wp2_with fail;go_ret;exact ⟨rfl,h1,h2⟩
theorem JB{u x:Nat}(hu:u<128 ^ k)(h:u+x * 128 ^ k<18446744073709551616):bits BinOp.or IntKind.u64 (u:Int) ((x * 128 ^ k:Nat):Int)=((u+x * 128 ^ k:Nat):Int):=by
 have:=u64_or_nat u (x * 128 ^ k) (by omega) (by omega);rw[this]
 congr 1
 have e:(128:Nat) ^ k=2 ^ (7 * k):=by rw[Nat.pow_mul]
 rw[e] at hu ⊢;have:=Nat.shiftLeft_add_eq_or_of_lt hu x;rw[Nat.shiftLeft_eq] at this;rw[Nat.or_comm, ← this,Nat.add_comm]
theorem QG{x:Nat}(h:x * 128 ^ k<18446744073709551616):IntKind.u64.wrap ((x:Int) * 2 ^ (7 * k))=((x * 128 ^ k:Nat):Int):=by
 have e:(128:Nat) ^ k=2 ^ (7 * k):=by rw[Nat.pow_mul]
 rw[e] at h ⊢;have e2:((x:Int) * 2 ^ (7 * k))=((x * 2 ^ (7 * k):Nat):Int):=by
  rw[Int.natCast_mul,Int.natCast_pow];rfl
 rw[e2,IntKind.wrap_u64];omega
theorem zi7(h:k≤9):128 ^ k≤9223372036854775808:=by
 have:=Nat.pow_le_pow_right (show 0<128 by omega) h;exact this
theorem zar{off n cp:Nat}{v:Value}(h:qt w rb (some L))(hb:w.cell? ⟨rb,0,none⟩=some (.slice (some ⟨b,off,none⟩) n cp))(hn:n=L.length)(hk:k<n)(hv:v=.slice (some ⟨b,off+(k+1),none⟩) (n - (k+1)) (cp - (k+1))∨(cp=k+1∧v=.slice (some ⟨b,off,none⟩) (n - (k+1)) 0)):
  qt (w.setCell ⟨rb,0,none⟩ v) rb (some (L.drop (k+1)))∧zc [rb] w (w.setCell ⟨rb,0,none⟩ v):=by
 have hk9:zc [rb] w (w.setCell ⟨rb,0,none⟩ v):=zc.setCell [rb] _ _ _ (List.mem_singleton.2 rfl);refine ⟨?_,hk9⟩;obtain ⟨a,cp',h1,h2,h3,h4,h5⟩:=h;have e:=zd h1 0;rw[hb] at e;simp only[List.getElem?_toArray,List.getElem?_cons_zero,Option.some.injEq,Value.slice.injEq] at e;obtain ⟨e1,e2,e3⟩:=e;subst e3;subst hn;have hne:L≠[]:=fun e9=>by rw[e9] at hk;simp at hk
 have hs:=heap_setCell_same w rb 0 _ _ v h1;have hlen:(L.drop (k+1)).length=L.length - (k+1):=List.length_drop;rcases hv with rfl | ⟨hc,rfl⟩
 ·refine ⟨some ⟨b,off+(k+1),none⟩,cp - (k+1),by rw[hlen];exact hs,?_,by rw[hlen];omega,by rw[hlen];omega,fun _ b' off' e9=> ?_⟩
  ·rcases h2 with h2 | ⟨b2,off2,ea,h2⟩
   ·exact absurd h2 hne
   ·rw[← e1] at ea
    cases ea;refine .inr ⟨b,off+(k+1),rfl,fun i hi=> ?_⟩;have hlt:b<rb:=h5 hne b off e1.symm;have:=h2 (k+1+i) (by omega);rw[show off+(k+1+i)=off+(k+1)+i by omega] at this;rw[hk9.cell (p:=⟨b,off+(k+1)+i,none⟩) (block_lt_of_cell this) (by simp;omega),this];rw[List.getD_eq_getElem?_getD,List.getD_eq_getElem?_getD,List.getElem?_drop]
  ·cases e9
   exact h5 hne b off e1.symm
 ·have h0:L.length - (k+1)=0:=by omega
  have hnil:L.drop (k+1)=[]:=List.eq_nil_of_length_eq_zero (by omega);rw[hnil,h0];rw[h0] at hs;exact ⟨some ⟨b,off,none⟩,0,hs,.inl rfl,Nat.le_refl _,by simp,fun e9=>absurd rfl e9⟩
theorem zci{c:UInt8}(hL:L=L.take k ++ c :: L.drop (k+1))(hm:zbr (L.take k))(hk:(L.take k).length=k)(hc:c.toNat<128)(h0:0<k→c.toNat≠0){u:Nat}(hu:za2 (L.take k ++ [c])=u)(hu9:u<18446744073709551616):Stp zK b64 (some L) (zcN u) (some (L.drop (k+1))):=by
 refine ⟨zjs hu9,(fun e=>by cases e),fun L' R' e1 e2=> ?_,fun _ _ e=>by cases e⟩;cases e1;cases e2
 have h1:=zjw hm hc (by
  by_cases e:0<k
  ·exact .inr (h0 e)
  ·exact .inl (List.eq_nil_of_length_eq_zero (by omega)))
 rw[hu] at h1;rw[h1,List.append_assoc];exact hL
theorem zaF(h:∀ n R,b64 n→L≠zK n ++ R):Stp zK b64 (some L) 0 none:=
 ⟨by unfold b64;omega,(fun e=>by cases e),(fun _ _ _ e=>by cases e),fun L' e _ n R hn=>by cases e;exact h n R hn⟩
theorem ze0(h:qt w rb (some L)):Calls Tryz.prog 143 #[pointer (some ⟨rb,0,none⟩)] w (j8 zek zK b64 w rb (some L)):=by
 have HF:=hid (zch h);have HR:=hid h;obtain ⟨a,cp,h1,h2,h3,h4,h5⟩:=h;have c0:w.cell? ⟨rb,0,none⟩=some (.slice a L.length cp):=zd h1 0;have z0:=zL h1 0;have HB:=hid h2;obtain ⟨n,hn⟩:∃ n,n=L.length:=⟨_,rfl⟩;have HN:=hid hn;rw[← hn] at c0 h3 h4;have hn0:(0:Int)≤(n:Int):=by omega
 have hn1:(n:Int)≤20000:=by omega
 clear h1 h2 hn h5;go_enter Tryz.func143,Tryz.ntmps143;go_wp2_with fail
 go_loop [3,11] (fun uv kv=>∃ k:Nat,k≤n∧k≤9∧kv=int i64 (k:Int)∧uv=.int .u64 (za2 (L.take k):Int)∧Box (zbr (L.take k))) (fun _ kv=>n - (intOf kv).toNat)
 case atStart=>exact ⟨0,by omega,by omega,rfl,by simp[za2],hid (fun c hc=>by simp at hc)⟩
 case round=>
  obtain ⟨k,hk,hk9,rfl,rfl,HM⟩:=hrel;by_cases hlt:k<n
  ·have hlt':(k:Int)<(n:Int):=by omega
   have hkL:k<L.length:=by rw[← HN.o];exact hlt
   obtain ⟨c,hc⟩:∃ c,L[k]? = some c:=⟨_,List.getElem?_eq_getElem hkL⟩
   have hL:Box (L=L.take k ++ c :: L.drop (k+1)):=hid (by
    have:=List.getElem?_eq_some_iff.1 hc;obtain ⟨_,e⟩:=this
    rw[← e,List.getElem_cons_drop,List.take_append_drop])
   have htk:Box ((L.take k).length=k):=hid (by rw[List.length_take];omega);rcases HB.o with e | ⟨b,off,rfl,hcs⟩
   ·rw[e] at hkL
    simp at hkL
   have d0:=hcs k hkL;have ec:(L.getD k 0)=c:=by rw[List.getD_eq_getElem?_getD,hc];rfl
   rw[ec] at d0;have hx:=c.toNat_lt;have hu:=zmp (L.take k);rw[htk.o] at hu;have hv:Box (L.take (k+1)=L.take k ++ [c]):=hid (by rw[List.take_add_one,hc];rfl);have hv2:Box (za2 (L.take k ++ [c])=za2 (L.take k)+(c.toNat % 128) * 128 ^ k):=hid (by rw[zd2,htk.o]);have C0:=hid c0;obtain ⟨x,hxc⟩:∃ x,x=c.toNat:=⟨_,rfl⟩;have HX:=hid hxc;rw[← hxc] at d0 hx hv2;obtain ⟨u,hue⟩:∃ u,u=za2 (L.take k):=⟨_,rfl⟩;have HU:=hid hue;rw[← hue] at hu hv2 ⊢;clear hcs ec hxc hue hc hkL;have hx0:(0:Int)≤(x:Int):=by omega
   have hx1:(x:Int)<256:=by omega
   have ea:bits BinOp.and IntKind.u8 (x:Int) 127=(x:Int) % 128:=by
    have:=u8_and_nat x 127 (by omega) (by omega);rw[show x &&& 127=x % 128 from Nat.and_two_pow_sub_one_eq_mod x 7] at this;exact this.trans (by omega)
   have hp9:=zi7 hk9;by_cases hk9':k=9
   ·have HK9:=hid hk9'
    have q1:((k:Int) == 9)=true:=by rw[hk9'];rfl
    have q2:(0:Int)<(k:Int):=by omega
    clear hk9';by_cases b1:1<x
    ·have b1':(1:Int)<(x:Int):=by omega
     go_wp2_with fail;refine HF.o.mono ?_;rintro e w1 ⟨rfl,h1,h2⟩;go_wp2_with fail;go_ret;exact ⟨_,0,none,rfl,⟨rfl,by unfold b64;omega⟩,zaF (fun m R hm=>(by rw[hL.o];exact ziu HM.o (htk.o.trans HK9.o) (by rw[← HX.o];exact b1) m hm R)),h1,h2⟩
    have r1:¬ (1:Int)<(x:Int):=by omega
    by_cases b2:x=0
    ·have b2':(x:Int)=0:=by omega
     have hB2:=hid b2;have b3:((x:Int) == 0)=true:=by rw[b2'];rfl
     clear b2 b2';go_wp2_with fail;refine HF.o.mono ?_;rintro e w1 ⟨rfl,h1,h2⟩;go_wp2_with fail;go_ret;exact ⟨_,0,none,rfl,⟨rfl,by unfold b64;omega⟩,zaF (fun m R hm=>(by rw[hL.o];exact zeW HM.o (fun e=>by have:=htk.o;rw[e,HK9.o] at this;simp at this) (by rw[← HX.o];exact hB2.o) m R)),h1,h2⟩
    have b3:((x:Int) == 0)=false:=by
     rw[beq_eq_false_iff_ne];omega
    have hU9:u+x % 128 * 128 ^ k<18446744073709551616:=by
     have h2:x % 128≤1:=by omega
     have h3:x % 128 * 128 ^ k≤1 * 128 ^ k:=Nat.mul_le_mul_right _ h2;omega
    have esh:IntKind.u64.wrap ((x:Int) % 128 * 2 ^ (7 * k))=((x % 128 * 128 ^ k:Nat):Int):=by
     rw[show (x:Int) % 128=((x % 128:Nat):Int) by omega];exact QG (by have:=hU9;omega)
    have eor:=JB (x:=x % 128) hu hU9;have HUF:=hid fun (w':World)=>zaa _ hU9 w';have hx8:x<128:=by omega
    have hx9:(x:Int)<128:=by omega
    have HST:Box (Stp zK b64 (some L) (zcN (u+x % 128 * 128 ^ k)) (some (L.drop (k+1)))):=hid (zci hL.o HM.o htk.o (by rw[← HX.o];exact hx8) (by rw[← HX.o];omega) hv2.o hU9);clear hv hv2 HU hp9 HM;generalize hG:u+x % 128 * 128 ^ k=u2 at *;generalize hG2:x % 128 * 128 ^ k=u3 at *;clear hG hG2 hU9 hu;by_cases hcp:cp=k+1
    ·have RA:=hid (zar (v:=.slice (some ⟨b,off,none⟩) (n - (k+1)) 0) HR.o C0.o HN.o hlt (.inr ⟨hcp,rfl⟩))
     go_wp2_with fail;refine (HUF.o _).mono ?_;rintro e w1 ⟨rfl,rfl⟩;go_wp2_with fail;go_ret;exact ⟨_,_,_,rfl,⟨rfl,HST.o.1⟩,HST.o,RA.o.1,RA.o.2⟩
    ·have RA:=hid (zar (v:=.slice (some ⟨b,off+(k+1),none⟩) (n - (k+1)) (cp - (k+1))) HR.o C0.o HN.o hlt (.inl rfl))
     go_wp2_with fail;refine (HUF.o _).mono ?_;rintro e w1 ⟨rfl,rfl⟩;go_wp2_with fail;go_ret;exact ⟨_,_,_,rfl,⟨rfl,HST.o.1⟩,HST.o,RA.o.1,RA.o.2⟩
   have q1:¬ (k:Int)=9:=by omega
   have hU9:u+x % 128 * 128 ^ k<18446744073709551616:=by
    have h2:x % 128≤127:=by omega
    have h3:x % 128 * 128 ^ k≤127 * 128 ^ k:=Nat.mul_le_mul_right _ h2;have h4:=zi7 (show k≤8+1 by omega);have h5:128 * 128 ^ k≤9223372036854775808:=by
     have:=zi7 (show k+1≤9 by omega);rw[Nat.pow_succ] at this;omega
    omega
   by_cases hk0:0<k
   ·have q2:(0:Int)<(k:Int):=by omega
    by_cases b2:x=0
    ·have b2':(x:Int)=0:=by omega
     have hB2:=hid b2;have b3:((x:Int) == 0)=true:=by rw[b2'];rfl
     clear b2 b2' hU9 hu;go_wp2_with fail;refine HF.o.mono ?_;rintro e w1 ⟨rfl,h1,h2⟩;go_wp2_with fail;go_ret;exact ⟨_,0,none,rfl,⟨rfl,by unfold b64;omega⟩,zaF (fun m R hm=>(by rw[hL.o];exact zeW HM.o (fun e=>by have:=htk.o;rw[e] at this;simp at this;omega) (by rw[← HX.o];exact hB2.o) m R)),h1,h2⟩
    have b3:((x:Int) == 0)=false:=by
     rw[beq_eq_false_iff_ne];omega
    by_cases hr:x<128
    ·have esh:IntKind.u64.wrap ((x:Int) % 128 * 2 ^ (7 * k))=((x % 128 * 128 ^ k:Nat):Int):=by
      rw[show (x:Int) % 128=((x % 128:Nat):Int) by omega];exact QG (by have:=hU9;omega)
     have eor:=JB (x:=x % 128) hu hU9;have HUF:=hid fun (w':World)=>zaa _ hU9 w';have hx8:x<128:=by omega
     have hx9:(x:Int)<128:=by omega
     have HST:Box (Stp zK b64 (some L) (zcN (u+x % 128 * 128 ^ k)) (some (L.drop (k+1)))):=hid (zci hL.o HM.o htk.o (by rw[← HX.o];exact hx8) (by rw[← HX.o];omega) hv2.o hU9);clear hv hv2 HU hp9 HM;generalize hG:u+x % 128 * 128 ^ k=u2 at *;generalize hG2:x % 128 * 128 ^ k=u3 at *;clear hG hG2 hU9 hu;by_cases hcp:cp=k+1
     ·have RA:=hid (zar (v:=.slice (some ⟨b,off,none⟩) (n - (k+1)) 0) HR.o C0.o HN.o hlt (.inr ⟨hcp,rfl⟩))
      go_wp2_with fail;refine (HUF.o _).mono ?_;rintro e w1 ⟨rfl,rfl⟩;go_wp2_with fail;go_ret;exact ⟨_,_,_,rfl,⟨rfl,HST.o.1⟩,HST.o,RA.o.1,RA.o.2⟩
     ·have RA:=hid (zar (v:=.slice (some ⟨b,off+(k+1),none⟩) (n - (k+1)) (cp - (k+1))) HR.o C0.o HN.o hlt (.inl rfl))
      go_wp2_with fail;refine (HUF.o _).mono ?_;rintro e w1 ⟨rfl,rfl⟩;go_wp2_with fail;go_ret;exact ⟨_,_,_,rfl,⟨rfl,HST.o.1⟩,HST.o,RA.o.1,RA.o.2⟩
    ·have hx8:¬ x<128:=by omega
     have hx9:¬ (x:Int)<128:=by omega
     have hkl:k+1≤9:=by omega
     have esh:IntKind.u64.wrap ((x:Int) % 128 * 2 ^ (7 * k))=((x % 128 * 128 ^ k:Nat):Int):=by
      rw[show (x:Int) % 128=((x % 128:Nat):Int) by omega];exact QG (by have:=hU9;omega)
     have eor:=JB (x:=x % 128) hu hU9
     have HV:Box (u+x % 128 * 128 ^ k=za2 (L.take (k+1))∧zbr (L.take (k+1))):=hid ⟨by rw[hv.o,hv2.o],by
      rw[hv.o];intro d hd;rcases List.mem_append.1 hd with hd | hd
      ·exact HM.o d hd
      ·rw[List.mem_singleton.1 hd, ← HX.o];omega⟩
     clear hv hv2 HU hp9 HM;generalize hG:u+x % 128 * 128 ^ k=u2 at *;generalize hG2:x % 128 * 128 ^ k=u3 at *;clear hG hG2 hU9 hu;go_wp2_with fail
     go_round
     case rel=>exact ⟨k+1,by omega,by omega,by go_num,by rw[← HV.o.1],hid HV.o.2⟩
     case measure=>simp[intOf];omega
   ·have q2:¬ (0:Int)<(k:Int):=by omega
    by_cases hr:x<128
    ·have esh:IntKind.u64.wrap ((x:Int) % 128 * 2 ^ (7 * k))=((x % 128 * 128 ^ k:Nat):Int):=by
      rw[show (x:Int) % 128=((x % 128:Nat):Int) by omega];exact QG (by have:=hU9;omega)
     have eor:=JB (x:=x % 128) hu hU9;have HUF:=hid fun (w':World)=>zaa _ hU9 w';have hx8:x<128:=by omega
     have hx9:(x:Int)<128:=by omega
     have HST:Box (Stp zK b64 (some L) (zcN (u+x % 128 * 128 ^ k)) (some (L.drop (k+1)))):=hid (zci hL.o HM.o htk.o (by rw[← HX.o];exact hx8) (by rw[← HX.o];omega) hv2.o hU9);clear hv hv2 HU hp9 HM;generalize hG:u+x % 128 * 128 ^ k=u2 at *;generalize hG2:x % 128 * 128 ^ k=u3 at *;clear hG hG2 hU9 hu;by_cases hcp:cp=k+1
     ·have RA:=hid (zar (v:=.slice (some ⟨b,off,none⟩) (n - (k+1)) 0) HR.o C0.o HN.o hlt (.inr ⟨hcp,rfl⟩))
      go_wp2_with fail;refine (HUF.o _).mono ?_;rintro e w1 ⟨rfl,rfl⟩;go_wp2_with fail;go_ret;exact ⟨_,_,_,rfl,⟨rfl,HST.o.1⟩,HST.o,RA.o.1,RA.o.2⟩
     ·have RA:=hid (zar (v:=.slice (some ⟨b,off+(k+1),none⟩) (n - (k+1)) (cp - (k+1))) HR.o C0.o HN.o hlt (.inl rfl))
      go_wp2_with fail;refine (HUF.o _).mono ?_;rintro e w1 ⟨rfl,rfl⟩;go_wp2_with fail;go_ret;exact ⟨_,_,_,rfl,⟨rfl,HST.o.1⟩,HST.o,RA.o.1,RA.o.2⟩
    ·have hx8:¬ x<128:=by omega
     have hx9:¬ (x:Int)<128:=by omega
     have hkl:k+1≤9:=by omega
     have esh:IntKind.u64.wrap ((x:Int) % 128 * 2 ^ (7 * k))=((x % 128 * 128 ^ k:Nat):Int):=by
      rw[show (x:Int) % 128=((x % 128:Nat):Int) by omega];exact QG (by have:=hU9;omega)
     have eor:=JB (x:=x % 128) hu hU9
     have HV:Box (u+x % 128 * 128 ^ k=za2 (L.take (k+1))∧zbr (L.take (k+1))):=hid ⟨by rw[hv.o,hv2.o],by
      rw[hv.o];intro d hd;rcases List.mem_append.1 hd with hd | hd
      ·exact HM.o d hd
      ·rw[List.mem_singleton.1 hd, ← HX.o];omega⟩
     clear hv hv2 HU hp9 HM;generalize hG:u+x % 128 * 128 ^ k=u2 at *;generalize hG2:x % 128 * 128 ^ k=u3 at *;clear hG hG2 hU9 hu;go_wp2_with fail
     go_round
     case rel=>exact ⟨k+1,by omega,by omega,by go_num,by rw[← HV.o.1],hid HV.o.2⟩
     case measure=>simp[intOf];omega
  ·obtain rfl:k=n:=by omega
   have HM2:Box (zbr L):=hid (by have:=HM.o;rw[HN.o,List.take_length] at this;exact this);clear HM;go_wp2_with fail;refine HF.o.mono ?_;rintro e w1 ⟨rfl,h1,h2⟩;go_wp2_with fail;go_ret;exact ⟨_,0,none,rfl,⟨rfl,by unfold b64;omega⟩,zaF (fun m R hm=>zkP HM2.o m R),h1,h2⟩
theorem zH{s:Option (List UInt8)}(h:qt w rb s):Calls Tryz.prog 143 #[pointer (some ⟨rb,0,none⟩)] w (j8 zek zK b64 w rb s):=by
 cases s with
 | none=>
  refine (zgv h).mono ?_;rintro e w1 ⟨rfl,h1,h2⟩;exact ⟨_,0,none,rfl,⟨rfl,by unfold b64;omega⟩,⟨by unfold b64;omega,fun _=>rfl,(fun _ _ e=>by cases e),(fun _ e=>by cases e)⟩,h1,h2⟩
 | some L=>exact ze0 h
def za5(p:Nat):Value:=pointer (some ⟨p,0,none⟩)
structure Qw (w:World) (M:Nat) (ks:List Nat):Prop where
 heap:∃ es clock,w.heap[M]? = some (.map es clock)∧es.toList.map (·.key)=ks.map za5
 cells:∀ p,p∈ks→∃ cs T,w.heap[p]? = some (.cells cs T (0,0))
theorem zct{a:Nat}{ca cb:Array Value}{ta tb:TypeId}(hne:a≠b)(ha:w.heap[a]? = some (.cells ca ta (0,0)))(hb:w.heap[b]? = some (.cells cb tb (0,0))):
  (Op.equal 82 (za5 a) (za5 b)).run Tryz.prog w=.ok false w:=by
 have hs:∀ w,(Go.sizeOf 85).run Tryz.prog w=.ok 5 w:=fun w=>by kernel_rfl
 have hn:(⟨a,0,none⟩:Addr)≠⟨b,0,none⟩:=fun e=>hne (congrArg Addr.block e);have h:∀ d:Nat,(Op.equalIn (d+1) 82 (pointer (some ⟨a,0,none⟩)) (pointer (some ⟨b,0,none⟩))).run Tryz.prog w=.ok false w:=fun d=>by
  simp[Op.equalIn,run_underlying Tryz.underlying82,hs,run_sameAddr_other w hn ha hb]
 exact h 9999
theorem za4(hp:w.heap[p]? = some (.cells cs T (0,0))):∀ (es:List MapEntry) (ks:List Nat) (i:Nat),es.map (·.key)=ks.map za5→(∀ q,q∈ks→∃ cs T,w.heap[q]? = some (.cells cs T (0,0)))→(∀ q,q∈ks→p≠q)→
  (Instr.findAsking 82 (za5 p) es i).run Tryz.prog w=.ok none w
 | [],_,_,_,_,_=>by simp[Instr.findAsking]
 | e :: es,[],i,h,_,_=>by simp at h
 | e :: es,q :: ks,i,h,hc,hn=>by
  simp only[List.map_cons,List.cons.injEq] at h;obtain ⟨cs',T',hq⟩:=hc q (by simp);have ih:=za4 hp es ks (i+1) h.2 (fun x hx=>hc x (by simp[hx])) (fun x hx=>hn x (by simp[hx]));simp[Instr.findAsking,h.1,zct (hn q (by simp)) hp hq,ih]
theorem zbE(hp:w.heap[p]? = some (.cells cs T (0,0)))(es:List MapEntry)(ks:List Nat)(h:es.map (·.key)=ks.map za5)(hc:∀ q,q∈ks→∃ cs T,w.heap[q]? = some (.cells cs T (0,0)))(hn:∀ q,q∈ks→p≠q):
  (Instr.findKey 82 (za5 p) es).run Tryz.prog w=.ok none w:=by
 rcases es with _ | ⟨e,es⟩
 ·simp[Instr.findKey,run_underlying Tryz.underlying82,Instr.findNow]
 ·rcases ks with _ | ⟨q,ks⟩
  ·simp at h
  ·have h':=h
   simp only[List.map_cons,List.cons.injEq] at h;have e1:Instr.findNow (TypeDesc.pointer 85) (za5 p) (e :: es) 0=none:=by
    simp[Instr.findNow,Instr.sameNow]
   simp[Instr.findKey,run_underlying Tryz.underlying82,e1,za4 hp _ _ 0 h' hc hn]
theorem zbU(b:Bool)(p:Nat)(w:World):(Instr.checkKey b 10000 82 (za5 p)).run Tryz.prog w=.ok () w:=by
 have h:∀ d:Nat,(Instr.checkKey b (d+1) 82 (pointer (some ⟨p,0,none⟩))).run Tryz.prog w=.ok () w:=fun d=>by
  simp[Instr.checkKey,run_underlying Tryz.underlying82]
 exact h 9999
theorem Qw.look(h:Qw w M ks)(hp:w.heap[p]? = some (.cells cs T (0,0)))(hn:∀ q,q∈ks→p≠q):
  (Instr.lookup 81 (.map (some M)) (pointer (some ⟨p,0,none⟩)) true).run Tryz.prog w=.ok (.tuple #[agg #[],.bool false]) w:=by
 obtain ⟨es,clock,hM,hk⟩:=h.heap;have hf:=zbE hp es.toList ks hk h.cells hn;have hz:(zeroValue 86).run Tryz.prog w=.ok (agg #[]) w:=by kernel_rfl
 have hck:=zbU es.isEmpty p w;unfold za5 at hf hck;simp[Instr.lookup,run_underlying Tryz.underlying81,MapKept.run_getObj_map hM,hck,hf,hz,Result.andThen]
theorem Qw.put(h:Qw w M ks)(hp:w.heap[p]? = some (.cells cs T (0,0)))(hn:∀ q,q∈ks→p≠q):
  ∃ w',(Instr.mapUpdate 81 (.map (some M)) (pointer (some ⟨p,0,none⟩)) (agg #[])).run Tryz.prog w=.ok () w'∧Qw w' M (ks ++ [p])∧zc [M] w w':=by
 obtain ⟨es,clock,hM,hk⟩:=h.heap;have hf:=zbE hp es.toList ks hk h.cells hn;have hck:=zbU false p w;unfold za5 at hf hck;have hrun:(Instr.mapUpdate 81 (.map (some M)) (pointer (some ⟨p,0,none⟩)) (agg #[])).run Tryz.prog w=.ok () (ChangeMaps.setBlock w M (.map (es.push ⟨pointer (some ⟨p,0,none⟩),agg #[],clock⟩) (clock+1))):=by
  simp[Instr.mapUpdate,run_underlying Tryz.underlying81,MapKept.run_getObj_map hM,hck,hf,MapKept.run_setObj_map _ hM,Result.andThen,ChangeMaps.setBlock]
 have hkeep:zc [M] w (ChangeMaps.setBlock w M (.map (es.push ⟨pointer (some ⟨p,0,none⟩),agg #[],clock⟩) (clock+1))):=
  ⟨rfl,rfl,rfl,by simp[ChangeMaps.setBlock],fun i _ hi=>ChangeMaps.heap_setBlock_other hM _ (fun e=>hi (by simp[e]))⟩
 refine ⟨_,hrun,⟨⟨_,_,ChangeMaps.heap_setBlock_same hM _,?_⟩,fun q hq=> ?_⟩,hkeep⟩
 ·simp[hk,za5]
 ·have hm:∀ r c t,w.heap[r]? = some (.cells c t (0,0))→r ∉ [M]:=fun r c t hx e=>by simp at e;subst e;rw[hM] at hx;cases hx
  rcases List.mem_append.1 hq with hq | hq
  ·obtain ⟨c,t,hc⟩:=h.cells q hq
   exact ⟨c,t,(hkeep.block q (z8 hc) (hm _ _ _ hc)).trans hc⟩
  ·obtain rfl:=List.mem_singleton.1 hq
   exact ⟨cs,T,(hkeep.block q (z8 hp) (hm _ _ _ hp)).trans hp⟩
theorem Qw.kept{w':World}{L:List Nat}(h:Qw w M ks)(k:zc L w w')(hM:M ∉ L)(hn:∀ q,q∈ks→q ∉ L):Qw w' M ks:=by
 obtain ⟨es,clock,hm,hk⟩:=h.heap;refine ⟨⟨es,clock,(k.block M (z8 hm) hM).trans hm,hk⟩,fun q hq=> ?_⟩;obtain ⟨c,t,hc⟩:=h.cells q hq;exact ⟨c,t,(k.block q (z8 hc) (hn q hq)).trans hc⟩
theorem Qw.made(w:World):Qw (w.alloc (.map #[] 0)) w.heap.size []:=⟨⟨#[],0,zf _ _,rfl⟩,fun _ h=>by cases h⟩
def JN(P:Pr8)(f:Nat)(zs:List Int):List (Nat × Nat × Nat):=(zs.filter fun z=>decide (0≤z∧z<((zg P f).blocks.length:Int))).map fun z=>(f,z.toNat,0)
def JZ(P:Pr8)(f b i:Nat):List (Nat × Nat × Nat):=if i<(zr (zg P f) b).code.length then [(f,b,i+1)] else JN P f (zcM (zr (zg P f) b))
theorem zk1(P:Pr8)(f:Nat)(zs:List Int):(JN P f zs).length≤zs.length:=by
 unfold JN;rw[List.length_map];exact List.length_filter_le _ _
theorem zm6(P:Pr8)(f:Nat)(zs:List Int)(z:Int)(h:0≤z∧z<((zg P f).blocks.length:Int)):JN P f (zs ++ [z])=JN P f zs ++ [(f,z.toNat,0)]:=by
 unfold JN;rw[List.filter_append,List.map_append,List.filter_cons,if_pos (by simpa using h)];rfl
theorem zk8(P:Pr8)(f:Nat)(zs:List Int)(z:Int)(h:¬ (0≤z∧z<((zg P f).blocks.length:Int))):JN P f (zs ++ [z])=JN P f zs:=by
 unfold JN;rw[List.filter_append,List.map_append,List.filter_cons,if_neg (by simpa using h)];simp
theorem zoe{P:Pr8}{f i:Nat}(h:J1 P f b i):∀ q,q∈JZ P f b i→J1 P q.1 q.2.1 q.2.2:=by
 intro q hq;unfold JZ at hq;by_cases hi:i<(zr (zg P f) b).code.length
 ·rw[if_pos hi] at hq
  obtain rfl:=List.mem_singleton.1 hq;exact ⟨h.1,h.2.1,hi⟩
 ·rw[if_neg hi] at hq
  unfold JN at hq;obtain ⟨z,hz,rfl⟩:=List.mem_map.1 hq;rw[List.mem_filter] at hz;have h9:=hz.2;simp only[decide_eq_true_eq] at h9;exact ⟨h.1,by show z.toNat<(zg P f).blocks.length;omega,Nat.zero_le _⟩
theorem zo7(w:World)(u:Nat)(hu:u=w.heap.size)(f b i:Nat)(z:Int)(hz:z=(i:Int)):zy (w.alloc (.cells #[int i64 (f:Int),int i64 (b:Int),int i64 z] 55)) 3 PtC (some ⟨u,0,none⟩) [(f,b,i)]:=by
 subst hu;subst hz;have hn:=zf w (.cells #[int i64 (f:Int),int i64 (b:Int),int i64 (i:Int)] 55);refine .inr ⟨_,0,rfl,fun j q hq=> ?_⟩;have hj:j=0:=by
  rcases Nat.lt_or_ge j 1 with h | h
  ·omega
  ·rw[List.getElem?_eq_none (by simpa using h)] at hq;cases hq
 subst hj;simp at hq;subst hq;rw[Nat.zero_mul];exact ⟨zd hn 0,zd hn 1,zd hn 2⟩
theorem PrC.ok{o:Nat}{P:Pr8}(h:PrC w b o P):zhW P:=by
 have hlen:∀ {n:Nat},n≤maxLen→b64 (n:Int):=fun h=>by unfold b64;unfold maxLen at h;omega
 have lst:∀ {α:Type}{c:Nat}{R:World→Nat→Nat→α→Prop}{ok:α→Prop}(hR:∀ b o x,R w b o x→ok x) {b o:Nat}{l:List α},SlC c R w b o l→ZG ok l:=fun {α c R ok} hR {b o l} h=>by
  obtain ⟨a,cp,_,h2,_,h4⟩:=h;refine ⟨hlen h4,fun x hx=> ?_⟩;obtain ⟨i,hi,e⟩:=List.getElem_of_mem hx;obtain ⟨_,_,_,h9⟩:=h2.at (j:=i) (y:=x) (by rw[List.getElem?_eq_getElem hi,e]);exact hR _ _ _ h9
 have i1:∀ b o x,qF w b o x→b64 x:=fun _ _ _ h=>h.2;have t1:∀ b o x,TyC w b o x→zlj x:=fun _ _ _ h=>⟨h.c0.2,h.c1.2⟩;have is:∀ b o x,ZO w b o x→Jm x:=fun _ _ _ h=>lst i1 h;have ts:∀ b o x,SlC 2 TyC w b o x→zc5 x:=fun _ _ _ h=>lst t1 h;have s1:∀ b o x,SgC w b o x→zn3 x:=fun _ _ _ h=>⟨ts _ _ _ h.c0,h.c1.2,h.c2.2⟩;have m1:∀ b o x,ImC w b o x→znu x:=fun _ _ _ h=>⟨h.c0.2,h.c1.2,is _ _ _ h.c2⟩;have n1:∀ b o x,InC w b o x→znx x:=fun _ _ _ h=>⟨h.c0.2,h.c1.2,h.c2.2,h.c3.2,h.c4.2,is _ _ _ h.c5⟩;have b1:∀ b o x,BlC w b o x→znz x:=fun _ _ _ h=>⟨lst n1 h.c0,h.c1.2,h.c2.2,h.c3.2,h.c4.2⟩;have f1:∀ b o x,FuC w b o x→znw x:=fun _ _ _ h=>⟨h.c0.2,ts _ _ _ h.c1,lst b1 h.c2⟩;exact ⟨lst ts h.c0,lst s1 h.c1,lst is h.c2,lst m1 h.c3,lst f1 h.c4,h.c5.2⟩
theorem zaD{c:UInt8}{t:TypeId}{x:Int}(h:w.heap[b]? = some (.cells #[.int .u8 x] t (0,0)))(hx:x=(c.toNat:Int)):∀ i,i<[c].length→w.cell? ⟨b,0+i,none⟩=some (.int .u8 (([c].getD i 0).toNat:Int)):=by
 intro i hi;obtain rfl:i=0:=by simpa using hi
 rw[Nat.zero_add,zd h 0,hx];rfl
end Go.Proofs.YtkgoimokgbdgfaaGreatDoor
