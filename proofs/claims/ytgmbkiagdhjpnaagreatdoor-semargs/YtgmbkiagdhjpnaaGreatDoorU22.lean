import Derived.Laws.AppendOwnNone
import Derived.Test.YtgmbkiagdhjpnaaGreatDoorU17

namespace Go.Proofs.YtgmbkiagdhjpnaaGreatDoor
open Go.RowKit
set_option maxHeartbeats 4000000
def zhJ(a b:V3):V3:=if a.1≠0∨b.1≠0 then (0,0,false) else (0,wrap64 (a.2.1+b.2.1),a.2.2 || b.2.2)
theorem QU(w:World)(x y z:Obj):za [] w (((w.alloc x).alloc y).alloc z):=((za.alloc [] _ _).quiet (za.alloc [] _ _)).quiet (za.alloc [] _ _)
theorem zgc(a b:V3)(w:World):Calls Tryz.prog 137 #[vlV a,vlV b] w fun e w'=>e=.returned (vlV (zhJ a b))∧za [] w w':=by
 obtain ⟨ak,an,at'⟩:=a;obtain ⟨bk,bn,bt⟩:=b;by_cases h1:ak=0
 ·by_cases h2:bk=0
  ·have e:zhJ (ak,an,at') (bk,bn,bt)=(0,wrap64 (an+bn),at' || bt):=if_neg (by simp[h1,h2])
   rw[e];clear e;subst h1 h2;generalize hs:wrap64 (an+bn)=s
   cases at' <;> (
    go_enter Tryz.func137,Tryz.ntmps137;go_wp2
    exact bodyPost_ret (by simp (maxDischargeDepth:=10) [results,Tryz.results137,go_sem]) rfl ⟨rfl,QU _ _ _ _⟩)
  ·have e:zhJ (ak,an,at') (bk,bn,bt)=(0,0,false):=if_pos (.inr h2)
   rw[e];subst h1;clear e;go_enter Tryz.func137,Tryz.ntmps137;go_wp2;exact bodyPost_ret (v:=vlV (0,0,false)) (by simp (maxDischargeDepth:=10) [results,Tryz.results137,go_sem]) rfl ⟨rfl,QU _ _ _ _⟩
 ·have e:zhJ (ak,an,at') (bk,bn,bt)=(0,0,false):=if_pos (.inl h1)
  rw[e];clear e;go_enter Tryz.func137,Tryz.ntmps137;go_wp2;exact bodyPost_ret (v:=vlV (0,0,false)) (by simp (maxDischargeDepth:=10) [results,Tryz.results137,go_sem]) rfl ⟨rfl,QU _ _ _ _⟩
abbrev Rg:Type:=V3 × Bool
def rg0:Rg:=((0,0,false),false)
structure Fr where
 f:Nat
 b:Nat
 i:Nat
 rs:List Rg
structure Ma where
 bot:List Fr
 top:Fr
 hp:List Ob
 rc:List Int
 ora:List Int
 lc:Bool
 lf:Int
 sk:Bool
 res:V3
def Fr.get(x:Fr)(r:Int):V3:=(x.rs.getD r.toNat rg0).1
def Fr.set(x:Fr)(r:Int)(v:V3):Fr:={ x with rs:=x.rs.set r.toNat (v,true) }
def Fr.go(x:Fr)(b:Nat):Fr:={ x with b:=b,i:=0 }
def Fr.next(x:Fr):Fr:={ x with i:=x.i+1 }
def Ma.put(m:Ma)(r:Int)(v:V3):Ma:={ m with top:=m.top.set r v }
def fr0(f:Nat):Fr:=⟨f,0,0,List.replicate 16 rg0⟩
def ma0(P:Pr8)(l:List Int):Ma:=⟨[],fr0 P.main.toNat,[],[],l,false,0,false,(0,0,false)⟩
def Fr.blk(P:Pr8)(x:Fr):Bl8:=zA (zf P x.f) x.b
def Fr.ins(P:Pr8)(x:Fr):In8:=jI (x.blk P) x.i
def j9(v:V3):Int:=if v.1=2 then v.2.1 else 0
def QN(P:Pr8)(x:Fr)(r:Int):Int × Int:=(zf P x.f).regs.getD r.toNat (0,0)
def zd3(P:Pr8)(n:Int):List (Int × Int):=P.recs.getD n.toNat []
def zdy(o:Ob):Ob:=⟨o.site,o.free,.slice none 0 0,o.vs⟩
def qr(P:Pr8)(m:Ma)(x:In8):Int × Ma:=
 if x.op=1 then (0,m.put x.dst (0,x.n,false))
 else if x.op=2 then (0,m.put x.dst (zhJ (m.top.get x.a) (m.top.get x.b)))
 else if x.op=3 then (0,{ m with ora:=m.ora.tail }.put x.dst (0,m.ora.headD 0,true))
 else if x.op=4 then (0,m.put x.dst (1,0,false))
 else if x.op=5 then
  if 400≤m.hp.length then (6,m)
  else (0,{ m with hp:=m.hp ++ [Ob.mk (zae P m.top.f m.top.b m.top.i:Int) false (.slice none 0 0) ((zd3 P (QN P m.top x.dst).2).map qX)],rc:=m.rc ++ [(QN P m.top x.dst).2] }.put x.dst (2,(m.hp.length:Int)+1,false))
 else if x.op=6∨x.op=11 then (0,m.put x.dst (m.top.get x.a))
 else if x.op=7 then
  if slW m.hp (j9 (m.top.get x.a)) x.n=0 then (0,m.put x.dst (zd4 m.hp (j9 (m.top.get x.a)) x.n)) else (slW m.hp (j9 (m.top.get x.a)) x.n,m)
 else if x.op=8 then (slW m.hp (j9 (m.top.get x.a)) x.n,{ m with hp:=zdd m.hp (j9 (m.top.get x.a)) x.n (m.top.get x.b) })
 else if x.op=9 then (foW m.hp (j9 (m.top.get x.a)),{ m with hp:=QD m.hp (j9 (m.top.get x.a)) })
 else if x.op=10 then (0,m.put x.dst (3,x.n,false))
 else if x.op=15 then (0,{ m with sk:=(m.top.get x.a).2.2 })
 else (0,m)
def zfQ(P:Pr8)(rec iface:Int):Option (Int × Int × List Int):=P.ims.find? fun q=>q.1 == rec && q.2.1 == iface
def callee(P:Pr8)(m:Ma)(x:In8):Option Int:=
 if x.op=12 then some x.n
 else if (m.top.get x.a).1=3 then some (m.top.get x.a).2.1
 else if (m.top.get x.a).1=2 then (zfQ P (m.rc.getD ((m.top.get x.a).2.1 - 1).toNat 0) (QN P m.top x.a).2).map fun q=>q.2.2.getD x.n.toNat 0
 else none
def zx(x:In8):List Int:=if x.op=14 then x.a :: x.args else x.args
def jl(x:Fr)(k:Nat)(y:Fr):List Int→Fr
 | []=>y
 | r :: l=>jl x (k+1) (y.set (k:Int) (x.get r)) l
def Zw(P:Pr8)(m:Ma)(x:In8):Int × Ma:=
 match callee P m x with
 | none=>(1,m)
 | some f=>if 60≤m.bot.length+1 then (6,m) else
  (0,{ m with bot:=m.bot ++ [m.top],top:=jl m.top 0 (fr0 f.toNat) (zx x),lc:=true,lf:=f })
def Jf(P:Pr8)(m:Ma)(v:V3):Int × Ma:=
 match m.bot.getLast? with
 | none=>(4,{ m with res:=v })
 | some y=>(0,{ m with bot:=m.bot.dropLast,top:=(y.set (y.ins P).dst v).next })
def zcn(P:Pr8)(m:Ma)(b:Bl8):Int × Ma:=
 if b.fin=3 then Jf P m (m.top.get b.reg)
 else if b.fin=2∧(m.top.get b.reg).2.1=0 then (0,{ m with top:=m.top.go b.els.toNat })
 else (0,{ m with top:=m.top.go b.to.toNat })
def qk(x:In8):Bool:=decide (x.op=12) || decide (x.op=13) || decide (x.op=14)
def doS(P:Pr8)(m:Ma):Int × Ma:=
 if m.top.i=(m.top.blk P).code.length then zcn P m (m.top.blk P)
 else if qk (m.top.ins P) then Zw P m (m.top.ins P)
 else if (qr P m (m.top.ins P)).1=0 then (0,{ (qr P m (m.top.ins P)).2 with top:=(qr P m (m.top.ins P)).2.top.next })
 else qr P m (m.top.ins P)
def Ma.calm(m:Ma):Ma:={ m with lc:=false,lf:=0,sk:=false }
def zS(P:Pr8)(m:Ma):Int × Ma:=doS P m.calm
end Go.Proofs.YtgmbkiagdhjpnaaGreatDoor
