import Derived.Test.YthflgjkmbakedaaGreatDoorProg
import GoSem.Claim
import GoSem.ClaimJoined
import GoSem.ClaimMapViews
import Derived.JoinedTies
import Derived.KernelRfl
import Derived.WalkKit
import Derived.WalkSpells
import Derived.WalkLawsBesides

namespace Go.Proofs.YthflgjkmbakedaaGreatDoor
open Go.RowKit
open Go.Value (int pointer agg)
open Go.IntKind (i64)
variable {L:List Nat}{a b c w w':World}
structure Box (p:Prop):Prop where
 o:p
theorem hid{p:Prop}(h:p):Box p:=⟨h⟩
structure zc (L:List Nat) (w w':World):Prop where
 os:w'.os=w.os
 tape:w'.tape=w.tape
 output:w'.output=w.output
 size:w.heap.size≤w'.heap.size
 block:∀ k,k<w.heap.size→k ∉ L→w'.heap[k]? = w.heap[k]?
theorem zc.refl(L:List Nat)(w:World):zc L w w:=⟨rfl,rfl,rfl,Nat.le_refl _,fun _ _ _=>rfl⟩
theorem zc.trans{L':List Nat}(h:zc L a b)(k:zc L' b c)(hL:∀ x,x∈L'→x<a.heap.size→x∈L):zc L a c:=
 ⟨k.os.trans h.os,k.tape.trans h.tape,k.output.trans h.output,Nat.le_trans h.size k.size,fun i hi hn=>
  (k.block i (Nat.lt_of_lt_of_le hi h.size) (fun hx=>hn (hL i hx hi))).trans (h.block i hi hn)⟩
theorem zc.step(h:zc L a b)(k:zc L b c):zc L a c:=h.trans k fun _ hx _=>hx
theorem zc.quiet(h:zc L a b)(k:zc [] b c):zc L a c:=h.trans k fun _ hx=>by simp at hx
theorem zc.mono{L':List Nat}(h:zc L a b)(hL:∀ x,x∈L→x∈L'):zc L' a b:=
 ⟨h.os,h.tape,h.output,h.size,fun i hi hn=>h.block i hi fun hx=>hn (hL i hx)⟩
theorem zc.drewN(L:List Nat)(w:World)(n:Nat):zc L w (w.drewN n):=⟨rfl,rfl,rfl,Nat.le_refl _,fun _ _ _=>rfl⟩
theorem zc.drew(L:List Nat)(w:World):zc L w w.drew:=⟨rfl,rfl,rfl,Nat.le_refl _,fun _ _ _=>rfl⟩
theorem zc.alloc(L:List Nat)(w:World)(o:Obj):zc L w (w.alloc o):=⟨rfl,rfl,rfl,by simp,fun k hk _=>Below.heap_alloc _ _ _ hk⟩
theorem zc.setCell(L:List Nat)(w:World)(a:Addr)(u:Value)(h:a.block∈L):zc L w (w.setCell a u):=
 ⟨rfl,rfl,rfl,by simp[World.setCell],fun k _ hn=>Below.heap_setCell _ _ _ _ (fun e=>hn (e ▸ h))⟩
theorem zc.grown{r:Option Nat}(L:List Nat)(hg:w.grownBy w' r)(hr:∀ k,r=some k→k∈L):zc L w w':=
 ⟨hg.os,hg.tape,hg.output,hg.size,fun k hk hn=>hg.block k hk (fun e=>hn (hr k e.symm))⟩
theorem zc.appended{wa w3 wo:World}{base:Nat}{e:TypeId}{size:Nat}{v:Value}{n:Nat}{xs:List Value}(hk:zc L w wa)(hown:wo.ownsRow base e size v n xs)(hg:wa.grownBy w3 v.ownBlock)(hb:w.heap.size≤base):zc L w w3:=by
 refine hk.trans (zc.grown (Option.toList v.ownBlock) hg (fun k hk=>by rw[hk];simp)) fun x hx hlt=> ?_;exfalso;rcases hown.2 with ⟨rfl,_⟩ | ⟨g,cap,cur,rfl,hg,_⟩
 ·simp[Value.ownBlock] at hx
 ·simp[Value.ownBlock] at hx
  omega
theorem zc.cell(h:zc L w w'){p:Addr}(hp:p.block<w.heap.size)(hn:p.block ∉ L):w'.cell? p=w.cell? p:=
 World.cell?_of_block (w:=w) (h.block p.block hp hn)
def zw(w:World)(a:Option Addr)(zs:List Int):Prop:=
 zs=[]∨∃ b off,a=some ⟨b,off,none⟩∧∀ i,i<zs.length→w.cell? ⟨b,off+i,none⟩=some (int i64 (zs.getD i 0))
theorem zw.kept{a:Option Addr}{zs:List Int}(h:zw w a zs)(k:zc L w w')(hn:∀ b off,a=some ⟨b,off,none⟩→b ∉ L):zw w' a zs:=by
 rcases h with h | ⟨b,off,rfl,h⟩
 ·exact Or.inl h
 ·refine Or.inr ⟨b,off,rfl,fun i hi=> ?_⟩
  have hc:=h i hi;rw[k.cell (p:=⟨b,off+i,none⟩) (block_lt_of_cell hc) (hn b off rfl)];exact hc
theorem sTA{α:Type}(l:List α)(i:Nat)(a:α):l.toArray.setIfInBounds i a=(l.set i a).toArray:=List.setIfInBounds_toArray ..
theorem sC0{α:Type}{a b:α}{l:List α}:(a :: l).set 0 b=b :: l:=List.set_cons_zero
theorem sCS{α:Type}{a b:α}{l:List α}{i:Nat}:(a :: l).set (i+1) b=a :: l.set i b:=List.set_cons_succ
structure In8 where
 op:Int
 dst:Int
 a:Int
 b:Int
 n:Int
 args:List Int
structure Bl8 where
 code:List In8
 fin:Int
 reg:Int
 to:Int
 els:Int
structure Fu8 where
 sig:Int
 regs:List (Int × Int)
 blocks:List Bl8
structure Pr8 where
 recs:List (List (Int × Int))
 sigs:List (List (Int × Int) × Int × Int)
 ifs:List (List Int)
 ims:List (Int × Int × List Int)
 funcs:List Fu8
 main:Int
def b64(n:Int):Prop:= -9223372036854775808≤n∧n≤9223372036854775807
def z7{α:Type}(w:World)(c:Nat)(R:World→Nat→Nat→α→Prop)(a:Option Addr)(l:List α):Prop:=
 l=[]∨∃ b off,a=some ⟨b,off,none⟩∧∀ j y,l[j]? = some y→R w b (off+j * c) y
def Q4{α:Type}(R:World→Nat→Nat→α→Prop):Prop:=∀ w w' b o y,zc [] w w'→R w b o y→R w' b o y
theorem z7.quiet{α:Type}{c:Nat}{R:World→Nat→Nat→α→Prop}{a:Option Addr}{l:List α}(h:z7 w c R a l)(hR:Q4 R)(k:zc [] w w'):z7 w' c R a l:=by
 rcases h with h | ⟨b,off,h1,h2⟩
 ·exact .inl h
 ·exact .inr ⟨b,off,h1,fun j y hy=>hR w w' b _ y k (h2 j y hy)⟩
theorem z7.at{α:Type}{c:Nat}{R:World→Nat→Nat→α→Prop}{a:Option Addr}{l:List α}(h:z7 w c R a l){j:Nat}{y:α}(hy:l[j]? = some y):∃ b off,a=some ⟨b,off,none⟩∧R w b (off+j * c) y:=by
 rcases h with h | ⟨b,off,h1,h2⟩
 ·rw[h] at hy
  simp at hy
 ·exact ⟨b,off,h1,h2 j y hy⟩
theorem za{p:Addr}{v:Value}(k:zc [] w w')(h:w.cell? p=some v):w'.cell? p=some v:=by
 rw[k.cell (block_lt_of_cell h) (by simp)];exact h
def ji(w:World)(b o:Nat)(z:Int):Prop:=w.cell? ⟨b,o,none⟩=some (int i64 z)∧b64 z
theorem ji.stays:Q4 ji:=fun _ _ _ _ _ k h=>⟨za k h.1,h.2⟩
def SlC{α:Type}(c:Nat)(R:World→Nat→Nat→α→Prop)(w:World)(b o:Nat)(l:List α):Prop:=
 ∃ a cp,w.cell? ⟨b,o,none⟩=some (.slice a l.length cp)∧z7 w c R a l∧l.length≤cp∧l.length≤maxLen
theorem SlC.stays{α:Type}{c:Nat}{R:World→Nat→Nat→α→Prop}(hR:Q4 R):Q4 (SlC c R):=by
 rintro w w' b o l k ⟨a,cp,h1,h2,h3⟩;exact ⟨a,cp,za k h1,h2.quiet hR k,h3⟩
def J6:World→Nat→Nat→List Int→Prop:=SlC 1 ji
theorem J6.stays:Q4 J6:=SlC.stays ji.stays
theorem jL{a:Option Addr}{l:List Int}(h:z7 w 1 ji a l):zw w a l:=by
 rcases h with h | ⟨b,off,h1,h2⟩
 ·exact .inl h
 ·refine .inr ⟨b,off,h1,fun i hi=> ?_⟩
  have:=(h2 i l[i] (List.getElem?_eq_getElem hi)).1;rw[Nat.mul_one] at this;rw[this,List.getD_eq_getElem?_getD,List.getElem?_eq_getElem hi];rfl
structure TyC (w:World) (b o:Nat) (t:Int × Int):Prop where
 c0:ji w b o t.1
 c1:ji w b (o+1) t.2
theorem TyC.stays:Q4 TyC:=fun _ _ _ _ _ k h=>⟨ji.stays _ _ _ _ _ k h.c0,ji.stays _ _ _ _ _ k h.c1⟩
structure InC (w:World) (b o:Nat) (x:In8):Prop where
 c0:ji w b o x.op
 c1:ji w b (o+1) x.dst
 c2:ji w b (o+2) x.a
 c3:ji w b (o+3) x.b
 c4:ji w b (o+4) x.n
 c5:J6 w b (o+5) x.args
theorem InC.stays:Q4 InC:=fun _ _ _ _ _ k h=>⟨ji.stays _ _ _ _ _ k h.c0,ji.stays _ _ _ _ _ k h.c1,ji.stays _ _ _ _ _ k h.c2,ji.stays _ _ _ _ _ k h.c3,ji.stays _ _ _ _ _ k h.c4,J6.stays _ _ _ _ _ k h.c5⟩
structure BlC (w:World) (b o:Nat) (x:Bl8):Prop where
 c0:SlC 6 InC w b o x.code
 c1:ji w b (o+1) x.fin
 c2:ji w b (o+2) x.reg
 c3:ji w b (o+3) x.to
 c4:ji w b (o+4) x.els
theorem BlC.stays:Q4 BlC:=fun _ _ _ _ _ k h=>⟨SlC.stays InC.stays _ _ _ _ _ k h.c0,ji.stays _ _ _ _ _ k h.c1,ji.stays _ _ _ _ _ k h.c2,ji.stays _ _ _ _ _ k h.c3,ji.stays _ _ _ _ _ k h.c4⟩
structure FuC (w:World) (b o:Nat) (x:Fu8):Prop where
 c0:ji w b o x.sig
 c1:SlC 2 TyC w b (o+1) x.regs
 c2:SlC 5 BlC w b (o+2) x.blocks
theorem FuC.stays:Q4 FuC:=fun _ _ _ _ _ k h=>⟨ji.stays _ _ _ _ _ k h.c0,SlC.stays TyC.stays _ _ _ _ _ k h.c1,SlC.stays BlC.stays _ _ _ _ _ k h.c2⟩
structure SgC (w:World) (b o:Nat) (x:List (Int × Int) × Int × Int):Prop where
 c0:SlC 2 TyC w b o x.1
 c1:ji w b (o+1) x.2.1
 c2:ji w b (o+2) x.2.2
theorem SgC.stays:Q4 SgC:=fun _ _ _ _ _ k h=>⟨SlC.stays TyC.stays _ _ _ _ _ k h.c0,ji.stays _ _ _ _ _ k h.c1,ji.stays _ _ _ _ _ k h.c2⟩
structure ImC (w:World) (b o:Nat) (x:Int × Int × List Int):Prop where
 c0:ji w b o x.1
 c1:ji w b (o+1) x.2.1
 c2:J6 w b (o+2) x.2.2
theorem ImC.stays:Q4 ImC:=fun _ _ _ _ _ k h=>⟨ji.stays _ _ _ _ _ k h.c0,ji.stays _ _ _ _ _ k h.c1,J6.stays _ _ _ _ _ k h.c2⟩
structure PrC (w:World) (b o:Nat) (x:Pr8):Prop where
 c0:SlC 1 (SlC 2 TyC) w b o x.recs
 c1:SlC 3 SgC w b (o+1) x.sigs
 c2:SlC 1 J6 w b (o+2) x.ifs
 c3:SlC 3 ImC w b (o+3) x.ims
 c4:SlC 3 FuC w b (o+4) x.funcs
 c5:ji w b (o+5) x.main
theorem PrC.stays:Q4 PrC:=fun _ _ _ _ _ k h=>⟨SlC.stays (SlC.stays TyC.stays) _ _ _ _ _ k h.c0,SlC.stays SgC.stays _ _ _ _ _ k h.c1,SlC.stays J6.stays _ _ _ _ _ k h.c2,SlC.stays ImC.stays _ _ _ _ _ k h.c3,SlC.stays FuC.stays _ _ _ _ _ k h.c4,ji.stays _ _ _ _ _ k h.c5⟩
end Go.Proofs.YthflgjkmbakedaaGreatDoor
