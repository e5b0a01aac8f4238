import Derived.Test.YtgmbkiagdhjpnaaGreatDoorU22

namespace Go.Proofs.YtgmbkiagdhjpnaaGreatDoor
open Go.RowKit
def Zi(P:Pr8):Nat→Ma→Int × Ma
 | 0,m=>(0,m)
 | n+1,m=>if (zS P m).1=0 then Zi P n (zS P m).2 else zS P m
theorem zW{P:Pr8}{n:Nat}{m m':Ma}(h:zS P m=(0,m')):Zi P (n+1) m=Zi P n m':=by
 rw[Zi,h];exact if_pos rfl
theorem Z4{P:Pr8}{n:Nat}{m m':Ma}{e:Int}(h:zS P m=(e,m'))(he:e≠0):Zi P (n+1) m=(e,m'):=by
 rw[Zi,h];exact if_neg he
def M1f(b i:Nat)(rs:List Rg)(o:List Int)(res:V3):Ma:=⟨[],⟨0,b,i,rs⟩,[],[],o,false,0,false,res⟩
def zfD:List Rg:=List.replicate 16 rg0
def prB:Pr8:=⟨[],[([],0,0)],[],[],[⟨0,[(0,0),(0,0)],[⟨[⟨3,0,0,0,0,[]⟩],2,0,1,2⟩,⟨[⟨1,1,0,0,11,[]⟩],3,1,0,0⟩,⟨[⟨1,1,0,0,22,[]⟩],3,1,0,0⟩]⟩],0⟩
theorem brB(n:Int):Zi prB 3000 (ma0 prB [n])=(4,M1f (if n=0 then 2 else 1) 1 ((zfD.set 0 ((0,n,true),true)).set 1 ((0,(if n=0 then 22 else 11),false),true)) [] (0,(if n=0 then 22 else 11),false)):=by
 rw[zW (n:=2999) (m':=M1f 0 1 (zfD.set 0 ((0,n,true),true)) [] (0,0,false)) rfl];by_cases hn:n=0
 ·subst hn
  rw[zW (n:=2998) (m':=M1f 2 0 (zfD.set 0 ((0,0,true),true)) [] (0,0,false)) rfl];rw[zW (n:=2997) (m':=M1f 2 1 ((zfD.set 0 ((0,0,true),true)).set 1 ((0,22,false),true)) [] (0,0,false)) rfl];exact Z4 (n:=2996) rfl (by decide)
 ·have e:zS prB (M1f 0 1 (zfD.set 0 ((0,n,true),true)) [] (0,0,false))=(0,M1f 1 0 (zfD.set 0 ((0,n,true),true)) [] (0,0,false)):=by
   show (if (2:Int)=2∧n=0 then _ else _)=_;exact if_neg fun h=>hn h.2
  rw[zW (n:=2998) e,if_neg hn,if_neg hn];rw[zW (n:=2997) (m':=M1f 1 1 ((zfD.set 0 ((0,n,true),true)).set 1 ((0,11,false),true)) [] (0,0,false)) rfl];exact Z4 (n:=2996) rfl (by decide)
def prL:Pr8:=⟨[],[([],0,0)],[],[],[⟨0,[(0,0),(0,0),(0,0),(0,0)],[⟨[⟨1,0,0,0,0,[]⟩,⟨1,1,0,0,1,[]⟩],1,0,1,0⟩,⟨[⟨2,0,0,1,0,[]⟩,⟨3,2,0,0,0,[]⟩],2,2,1,2⟩,⟨[],3,0,0,0⟩]⟩],0⟩
def rsL(k:Int)(v:Rg):List Rg:=((zfD.set 0 ((0,k,false),true)).set 1 ((0,1,false),true)).set 2 v
theorem zmF(f:Nat):∀ (j:Nat) (k:Int) (v:Rg),0≤k→k+j≤1000→∃ m,Zi prL (3 * (j+1)+1+f) (M1f 1 0 (rsL k v) (List.replicate j 5) (0,0,false))=(4,m)∧m.res=(0,k+j+1,false):=by
 intro j
 induction j with
 | zero=>
  intro k v h0 h1;have w:wrap64 (k+1)=k+1:=by unfold wrap64;omega
  have e1:zS prL (M1f 1 0 (rsL k v) [] (0,0,false))=(0,M1f 1 1 (rsL (wrap64 (k+1)) v) [] (0,0,false)):=rfl;rw[show 3 * (0+1)+1+f=(f+3)+1 by omega,show List.replicate 0 (5:Int)=[] from rfl,zW (n:=f+3) e1];rw[zW (n:=f+2) (m':=M1f 1 2 (rsL (wrap64 (k+1)) ((0,0,true),true)) [] (0,0,false)) rfl];rw[zW (n:=f+1) (m':=M1f 2 0 (rsL (wrap64 (k+1)) ((0,0,true),true)) [] (0,0,false)) rfl];refine ⟨_,Z4 (n:=f) (m':=M1f 2 0 (rsL (wrap64 (k+1)) ((0,0,true),true)) [] (0,wrap64 (k+1),false)) rfl (by decide),?_⟩;show ((0,wrap64 (k+1),false):V3)=_;rw[w];simp
 | succ j ih=>
  intro k v h0 h1;have w:wrap64 (k+1)=k+1:=by unfold wrap64;omega
  have e1:zS prL (M1f 1 0 (rsL k v) (List.replicate (j+1) 5) (0,0,false))=(0,M1f 1 1 (rsL (wrap64 (k+1)) v) (List.replicate (j+1) 5) (0,0,false)):=rfl;rw[w] at e1;rw[show 3 * (j+1+1)+1+f=(3 * (j+1)+1+f+2)+1 by omega,zW (n:=3 * (j+1)+1+f+2) e1];rw[zW (n:=3 * (j+1)+1+f+1) (m':=M1f 1 2 (rsL (k+1) ((0,5,true),true)) (List.replicate j 5) (0,0,false)) rfl];rw[zW (n:=3 * (j+1)+1+f) (m':=M1f 1 0 (rsL (k+1) ((0,5,true),true)) (List.replicate j 5) (0,0,false)) rfl];obtain ⟨m,h2,h3⟩:=ih (k+1) ((0,5,true),true) (by omega) (by omega);refine ⟨m,h2,?_⟩;rw[h3];simp only[Prod.mk.injEq,and_true,true_and];omega
theorem brL(n:Nat)(hn:n≤100):(Zi prL 3000 (ma0 prL (List.replicate n 5))).1=4∧(Zi prL 3000 (ma0 prL (List.replicate n 5))).2.res=(0,(n:Int)+1,false):=by
 rw[zW (n:=2999) (m':=M1f 0 1 (zfD.set 0 ((0,0,false),true)) (List.replicate n 5) (0,0,false)) rfl];rw[zW (n:=2998) (m':=M1f 0 2 ((zfD.set 0 ((0,0,false),true)).set 1 ((0,1,false),true)) (List.replicate n 5) (0,0,false)) rfl];rw[zW (n:=2997) (m':=M1f 1 0 (rsL 0 rg0) (List.replicate n 5) (0,0,false)) rfl];obtain ⟨m,h1,h2⟩:=zmF (2997 - (3 * (n+1)+1)) n 0 rg0 (by omega) (by omega);rw[show 3 * (n+1)+1+(2997 - (3 * (n+1)+1))=2997 by omega] at h1;rw[h1];exact ⟨rfl,by rw[h2];simp⟩
end Go.Proofs.YtgmbkiagdhjpnaaGreatDoor
