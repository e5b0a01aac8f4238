/-
    Plain runs: a sum, calls, what goes wrong, too many frames.

-/
import Derived.Test.YtgmbkiagdhjpnaaGreatDoorU24

namespace Go.Proofs.YtgmbkiagdhjpnaaGreatDoor
open Go.RowKit
variable {P:Pr8}
theorem zdV{m m':Ma}{x:In8}(hi:m.top.i<(m.top.blk P).code.length)(hx:m.top.ins P=x)(hc:qk x=false)(h:qr P m.calm x=(0,m')):zS P m=(0,{ m' with top:=m'.top.next }):=by
 show doS P m.calm=_;unfold doS;have h1:¬ m.calm.top.i=(m.calm.top.blk P).code.length:=Nat.ne_of_lt hi;have h2:m.calm.top.ins P=x:=hx;rw[if_neg h1,h2,if_neg (by rw[hc];decide),h];exact if_pos rfl
def zaX(l:List Int):List In8:=l.flatMap fun x=>[⟨1,1,0,0,x,[]⟩,⟨2,0,1,0,0,[]⟩]
def prS(l:List Int):Pr8:=⟨[],[([],0,0)],[],[],[⟨0,[(0,0),(0,0)],[⟨⟨1,0,0,0,7,[]⟩ :: zaX l,3,0,0,0⟩]⟩],0⟩
def zki(l:List Int)(s:Int):Int:=l.foldl (fun s x=>wrap64 (s+x)) s
def rsS(s:Int)(v:Rg):List Rg:=(zfD.set 0 ((0,s,false),true)).set 1 v
theorem Qw:∀ l:List Int,(zaX l).length=2 * l.length
 | []=>rfl
 | x :: l=>by
  show (zaX l).length+1+1=_;rw[Qw l,List.length_cons];omega
theorem zlu(f:Nat)(L:List Int):∀ (l pre:List Int) (s:Int) (v:Rg),pre ++ l=L→∃ v',Zi (prS L) (2 * l.length+f) (M1f 0 (1+2 * pre.length) (rsS s v) [] (0,0,false))=Zi (prS L) f (M1f 0 (1+2 * L.length) (rsS (zki l s) v') [] (0,0,false)):=by
 intro l
 induction l with
 | nil=>
  intro pre s v e;rw[List.append_nil] at e;subst e;exact ⟨v,by simp only[List.length_nil,Nat.mul_zero,Nat.zero_add];rfl⟩
 | cons x l ih=>
  intro pre s v e;have hc:(⟨1,0,0,0,7,[]⟩ :: zaX L:List In8)=(⟨1,0,0,0,7,[]⟩ :: zaX pre) ++ (⟨1,1,0,0,x,[]⟩ :: ⟨2,0,1,0,0,[]⟩ :: zaX l):=by
   rw[← e];unfold zaX;rw[List.flatMap_append,List.flatMap_cons];rfl
  have hp:(⟨1,0,0,0,7,[]⟩ :: zaX pre:List In8).length=1+2 * pre.length:=by rw[List.length_cons,Qw];omega
  have hl:(⟨1,0,0,0,7,[]⟩ :: zaX L:List In8).length=1+2 * L.length:=by rw[List.length_cons,Qw];omega
  have hL:L.length=pre.length+(l.length+1):=by rw[← e,List.length_append,List.length_cons]
  have g0:(⟨1,0,0,0,7,[]⟩ :: zaX L:List In8).getD (1+2 * pre.length) ⟨0,0,0,0,0,[]⟩=⟨1,1,0,0,x,[]⟩:=by
   rw[hc,List.getD_eq_getElem?_getD,List.getElem?_append_right (by omega),hp,Nat.sub_self];rfl
  have g1:(⟨1,0,0,0,7,[]⟩ :: zaX L:List In8).getD (1+2 * pre.length+1) ⟨0,0,0,0,0,[]⟩=⟨2,0,1,0,0,[]⟩:=by
   rw[hc,List.getD_eq_getElem?_getD,List.getElem?_append_right (by omega),hp,show 1+2 * pre.length+1 - (1+2 * pre.length)=1 by omega];rfl
  have s1:zS (prS L) (M1f 0 (1+2 * pre.length) (rsS s v) [] (0,0,false))=(0,M1f 0 (1+2 * pre.length+1) (rsS s ((0,x,false),true)) [] (0,0,false)):=
   zdV (m':=M1f 0 (1+2 * pre.length) (rsS s ((0,x,false),true)) [] (0,0,false)) (by show 1+2 * pre.length<(⟨1,0,0,0,7,[]⟩ :: zaX L:List In8).length;omega) g0 rfl rfl
  have s2:zS (prS L) (M1f 0 (1+2 * pre.length+1) (rsS s ((0,x,false),true)) [] (0,0,false))=(0,M1f 0 (1+2 * pre.length+2) (rsS (wrap64 (x+s)) ((0,x,false),true)) [] (0,0,false)):=
   zdV (m':=M1f 0 (1+2 * pre.length+1) (rsS (wrap64 (x+s)) ((0,x,false),true)) [] (0,0,false)) (by show 1+2 * pre.length+1<(⟨1,0,0,0,7,[]⟩ :: zaX L:List In8).length;omega) g1 rfl rfl
  obtain ⟨v',h⟩:=ih (pre ++ [x]) (wrap64 (s+x)) ((0,x,false),true) (by rw[List.append_assoc];exact e);refine ⟨v',?_⟩;rw[List.length_append,List.length_singleton,show 1+2 * (pre.length+1)=1+2 * pre.length+2 by omega] at h;rw[List.length_cons,show 2 * (l.length+1)+f=(2 * l.length+f+1)+1 by omega,zW s1,zW (n:=2 * l.length+f) s2,Int.add_comm x s,h];rfl
theorem zlX(L:List Int)(hL:L.length≤14):∃ m,Zi (prS L) 40 (ma0 (prS L) [])=(4,m)∧m.res=(0,zki L 7,false):=by
 have s0:zS (prS L) (ma0 (prS L) [])=(0,M1f 0 1 (rsS 7 rg0) [] (0,0,false)):=zdV (m':=M1f 0 0 (rsS 7 rg0) [] (0,0,false)) (by show 0<(_ :: zaX L:List In8).length;simp) rfl rfl rfl;obtain ⟨v,h⟩:=zlu (39 - 2 * L.length) L L [] 7 rg0 rfl;rw[show 2 * L.length+(39 - 2 * L.length)=39 by omega] at h;rw[zW (n:=39) s0];rw[show (1+2 * ([]:List Int).length)=1 from rfl] at h;rw[h];have hl:(⟨1,0,0,0,7,[]⟩ :: zaX L:List In8).length=1+2 * L.length:=by rw[List.length_cons,Qw];omega
 have s9:zS (prS L) (M1f 0 (1+2 * L.length) (rsS (zki L 7) v) [] (0,0,false))=(4,M1f 0 (1+2 * L.length) (rsS (zki L 7) v) [] (0,zki L 7,false)):=by
  show doS (prS L) (M1f 0 (1+2 * L.length) (rsS (zki L 7) v) [] (0,0,false))=_;unfold doS;rw[if_pos (by show 1+2 * L.length=(⟨1,0,0,0,7,[]⟩ :: zaX L:List In8).length;omega)];rfl
 rw[show 39 - 2 * L.length=(38 - 2 * L.length)+1 by omega,Z4 s9 (by decide)];exact ⟨_,rfl,rfl⟩
theorem zgs{n:Nat}{m:Ma}{e:Int}(h:(zS P m).1=e)(he:e≠0):Zi P (n+1) m=(e,(zS P m).2):=Z4 (Prod.ext h rfl) he
def itS(P:Pr8):Nat→Ma→Ma
 | 0,m=>m
 | n+1,m=>itS P n (zS P m).2
theorem zeD{P:Pr8}{f:Nat}:∀ {k:Nat}{m:Ma},((List.range k).all fun i=>(zS P (itS P i m)).1 == 0)=true→Zi P (k+f) m=Zi P f (itS P k m)
 | 0,m,_=>by rw[Nat.zero_add];rfl
 | k+1,m,h=>by
  have h0:=List.all_eq_true.1 h;have e:(zS P m).1=0:=by
   have:=h0 0 (by simp);simpa [itS] using this
  rw[show k+1+f=(k+f)+1 by omega,zW (m':=(zS P m).2) (Prod.ext e rfl)];exact zeD (List.all_eq_true.2 fun i hi=>h0 (i+1) (by simp at hi ⊢;omega))
def prA(a b c:Int):Pr8:=⟨[],[([],0,0),([(0,0),(0,0),(0,0)],0,0)],[],[],[⟨0,[(0,0),(0,0),(0,0),(0,0),(0,0)],[⟨[⟨1,3,0,0,a,[]⟩,⟨1,1,0,0,b,[]⟩,⟨1,2,0,0,c,[]⟩,⟨12,4,0,0,1,[3,1,2]⟩],3,4,0,0⟩]⟩,
 ⟨1,[(0,0),(0,0),(0,0)],[⟨[⟨2,0,0,0,0,[]⟩,⟨2,0,0,1,0,[]⟩,⟨2,0,0,0,0,[]⟩,⟨2,0,0,2,0,[]⟩],3,0,0,0⟩]⟩],0⟩
theorem brA(a b c:Int):(Zi (prA a b c) 3000 (ma0 (prA a b c) [])).1=4∧(Zi (prA a b c) 3000 (ma0 (prA a b c) [])).2.res=(0,wrap64 (wrap64 (wrap64 (wrap64 (a+a)+b)+wrap64 (wrap64 (a+a)+b))+c),false):=by
 have h:=zeD (P:=prA a b c) (k:=9) (f:=2991) (m:=ma0 (prA a b c) []) (by kernel_rfl);have e:(zS (prA a b c) (itS (prA a b c) 9 (ma0 (prA a b c) []))).1=4:=by kernel_rfl
 have r:(zS (prA a b c) (itS (prA a b c) 9 (ma0 (prA a b c) []))).2.res=(0,wrap64 (wrap64 (wrap64 (wrap64 (a+a)+b)+wrap64 (wrap64 (a+a)+b))+c),false):=by kernel_rfl
 rw[show 9+2991=3000 from rfl] at h;generalize itS (prA a b c) 9 (ma0 (prA a b c) [])=M at h e r;have h2:Zi (prA a b c) 2991 M=(4,(zS (prA a b c) M).2):=zgs e (by decide);rw[h,h2];exact ⟨rfl,r⟩
def prD(n:Nat):Pr8:=⟨[],[([],0,0)],[],[],[⟨0,[(0,0)],[⟨⟨1,0,0,0,7,[]⟩ :: ((List.range n).map fun (i:Nat)=>⟨1,0,0,0,(i:Int),[]⟩) ++ [⟨12,0,0,0,0,[]⟩],3,0,0,0⟩]⟩],0⟩
def prW(c:List In8):Pr8:=⟨[[(0,0)]],[([],0,0)],[],[],[⟨0,[(0,0),(1,0),(2,0)],[⟨⟨1,0,0,0,0,[]⟩ :: c,3,0,0,0⟩]⟩],0⟩
def cW:Nat→List In8
 | 0=>[⟨4,1,0,0,0,[]⟩,⟨7,0,1,0,0,[]⟩]
 | 1=>[⟨4,1,0,0,0,[]⟩,⟨9,0,1,0,0,[]⟩]
 | 2=>[⟨4,2,0,0,0,[]⟩,⟨13,0,2,0,0,[]⟩]
 | 3=>[⟨5,1,0,0,0,[]⟩,⟨9,0,1,0,0,[]⟩,⟨9,0,1,0,0,[]⟩]
 | _=>[⟨5,1,0,0,0,[]⟩,⟨9,0,1,0,0,[]⟩,⟨8,0,1,0,0,[]⟩]
theorem brW:∀ k,k<5→(Zi (prW (cW k)) 3000 (ma0 (prW (cW k)) [])).1=(if 2<k then 2 else 1)∧zhP (prW (cW k)) (Zi (prW (cW k)) 3000 (ma0 (prW (cW k)) [])).2.top.f (Zi (prW (cW k)) 3000 (ma0 (prW (cW k)) [])).2.top.b (Zi (prW (cW k)) 3000 (ma0 (prW (cW k)) [])).2.top.i=(cW k).length∧(Zi (prW (cW k)) 3000 (ma0 (prW (cW k)) [])).2.bot.length=0:=by decide +kernel
end Go.Proofs.YtgmbkiagdhjpnaaGreatDoor
