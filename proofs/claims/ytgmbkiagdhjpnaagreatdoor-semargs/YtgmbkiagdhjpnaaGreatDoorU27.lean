import Derived.Lib.SliceRun
import Derived.Deep.MidRow
import Derived.Great.BuildSlice
import Derived.Test.YtgmbkiagdhjpnaaGreatDoorU11
import Derived.Test.YtgmbkiagdhjpnaaGreatDoorU23

namespace Go.Proofs.YtgmbkiagdhjpnaaGreatDoor
open Go.RowKit
open Go.Value (int pointer agg)
open Go.IntKind (i64)
set_option maxHeartbeats 4000000
variable {A B b c cap g n:Nat}{T:TypeId}{rs xs:List Value}{w w':World}
abbrev jk (m:Ma) (pp hb fg fc:Nat) (rv:Value) (oa:Option Addr) (oc:Nat):Array Value:=
 #[pointer (some ⟨pp,0,none⟩),.slice oa m.ora.length oc,pointer (some ⟨hb,0,none⟩),rv,.slice (some ⟨fg,0,none⟩) (m.bot.length+1) fc,.bool m.lc,int i64 m.lf,.bool m.sk,int i64 m.res.1,int i64 m.res.2.1,.bool m.res.2.2]
structure MaS (W0 w:World) (mp pp fg:Nat) (P:Pr8) (m:Ma) (F:List Nat) (hb fc:Nat) (rv:Value) (oa:Option Addr) (oc:Nat) (os:List Ob) (Fh:List Nat):Prop where
 box:w.heap[mp]? = some (.cells (jk m pp hb fg fc rv oa oc) 104 (0,0))
 frs:zT w (.slice (some ⟨fg,0,none⟩) (m.bot.length+1) fc) (m.bot ++ [m.top])
 rcs:w.ownsRow 0 3 1 rv m.rc.length (Qd m.rc)
 hp:Hp w hb os Fh
 bar:os.map zdy=m.hp
 mp_in:mp∈F
 fg_in:fg∈F
 rv_in:∀ b,rv.ownBlock=some b→b∈F
 fh_in:∀ x,x∈Fh→x∈F
 off:∀ x,x∈Fh→x≠mp∧x≠fg∧rv.ownBlock≠some x
 prc:PrC W0 pp 0 P
 orc:zq W0 1 zI oa m.ora
 sub:∀ u,za F w u→Sub W0 u
 ocap:m.ora.length≤oc∧m.ora.length≤maxLen
 lt:∀ x,x∈F→x<w.heap.size
theorem qL{F F':List Nat}{Q:World→Prop}(s:∀ u,za F w u→Q u)(k:za F w w')(n:ja w F F'):∀ u,za F' w' u→Q u:=fun u ku=>s u (k.trans ku fun x hx hl=>(n x hx).resolve_right (by omega))
theorem ja.refl(w:World)(F:List Nat):ja w F F:=fun _ hx=>.inl hx
section
variable {W0 w w':World}{mp pp fg:Nat}{P:Pr8}{m:Ma}{F:List Nat}{hb fc:Nat}{rv:Value}{oa:Option Addr}{oc:Nat}{os:List Ob}{Fh:List Nat}
theorem MaS.rv_ne(h:MaS W0 w mp pp fg P m F hb fc rv oa oc os Fh):mp≠fg∧rv.ownBlock≠some mp∧rv.ownBlock≠some fg:=by
 obtain ⟨g,cap,e,_,_⟩:=h.frs.form (by simp);have hf:=h.frs.own;rcases hf.2 with ⟨h',_⟩ | ⟨g',cap',cur,h',_,hg,_⟩
 ·simp at h'
 ·simp only[Value.slice.injEq,Option.some.injEq,Addr.mk.injEq,and_true] at h'
  obtain ⟨rfl,_,rfl⟩:=h';refine ⟨fun e=> ?_,fun e=> ?_,fun e=> ?_⟩
  ·subst e
   have:=h.box;rw[hg] at this;simp at this
  ·rcases h.rcs.2 with ⟨rfl,_⟩ | ⟨g',cap',cur',rfl,_,hg',_⟩
   ·simp[Value.ownBlock] at e
   ·simp[Value.ownBlock] at e
    subst e;have:=h.box;rw[hg'] at this;simp at this
  ·rcases h.rcs.2 with ⟨rfl,_⟩ | ⟨g',cap',cur',rfl,_,hg',_⟩
   ·simp[Value.ownBlock] at e
   ·simp[Value.ownBlock] at e
    subst e;rw[hg] at hg';simp at hg'
theorem MaS.quiet(h:MaS W0 w mp pp fg P m F hb fc rv oa oc os Fh)(k:za [] w w'):MaS W0 w' mp pp fg P m F hb fc rv oa oc os Fh:=
 ⟨zd h.box k,h.frs.quiet k,zh h.rcs k (fun _ _=>by simp),h.hp.quiet k,h.bar,h.mp_in,h.fg_in,h.rv_in,h.fh_in,h.off,h.prc,h.orc,qL h.sub (k.mono fun _ hx=>by cases hx) (ja.refl w F),h.ocap,fun x hx=>Nat.lt_of_lt_of_le (h.lt x hx) k.size⟩
theorem MaS.fr(h:MaS W0 w mp pp fg P m F hb fc rv oa oc os Fh)(k:za [fg] w w'){t:Fr}(f:zT w' (.slice (some ⟨fg,0,none⟩) (m.bot.length+1) fc) (m.bot ++ [t])):MaS W0 w' mp pp fg P { m with top:=t } F hb fc rv oa oc os Fh:=by
 have n:=h.rv_ne;have k':za F w w':=k.mono fun x hx=>by rw[List.mem_singleton.1 hx];exact h.fg_in
 exact ⟨(k.block mp (zt h.box) (by simp;exact n.1)).trans h.box,f,zh h.rcs k (fun b hb hm=>n.2.2 (by rw[hb,List.mem_singleton.1 hm])),h.hp.kept k (fun x hx hm=>(h.off x hx).2.1 (List.mem_singleton.1 hm)),h.bar,h.mp_in,h.fg_in,h.rv_in,h.fh_in,h.off,h.prc,h.orc,qL h.sub k' (ja.refl w F),h.ocap,fun x hx=>Nat.lt_of_lt_of_le (h.lt x hx) k.size⟩
theorem Z5{α:Type}(l:List α)(x y:α):(l ++ [x]).set l.length y=l ++ [y]:=by
 rw[List.set_append_right _ _ (Nat.le_refl _),Nat.sub_self];rfl
theorem qH{α:Type}(l:List α)(x:α):(l ++ [x])[l.length]? = some x:=by simp
theorem MaS.put(h:MaS W0 w mp pp fg P m F hb fc rv oa oc os Fh){r:Nat}(hr:r<16)(v:V3):
  MaS W0 ((((w.setCell ⟨fg,m.bot.length * 67+3+r * 4,none⟩ (int i64 v.1)).setCell ⟨fg,m.bot.length * 67+3+r * 4+1,none⟩ (int i64 v.2.1)).setCell ⟨fg,m.bot.length * 67+3+r * 4+2,none⟩ (.bool v.2.2)).setCell ⟨fg,m.bot.length * 67+3+r * 4+3,none⟩ (.bool true)) mp pp fg P (m.put (r:Int) v) F hb fc rv oa oc os Fh:=by
 have f:=h.frs.set (qH m.bot m.top) hr v;have e:∀ k,m.bot.length * 67+(3+r * 4+k)=m.bot.length * 67+3+r * 4+k:=fun k=>by omega
 rw[Z5,e,e,e,e,Nat.add_zero] at f;exact h.fr (((za.setCell [fg] _ _ _ (List.mem_singleton.2 rfl)).step (za.setCell [fg] _ _ _ (List.mem_singleton.2 rfl))).step (za.setCell [fg] _ _ _ (List.mem_singleton.2 rfl)) |>.step (za.setCell [fg] _ _ _ (List.mem_singleton.2 rfl))) f
theorem MaS.reg(h:MaS W0 w mp pp fg P m F hb fc rv oa oc os Fh){r:Nat}(hr:r<16):
  w.cell? ⟨fg,m.bot.length * 67+3+r * 4,none⟩=some (int i64 (m.top.get (r:Int)).1)∧w.cell? ⟨fg,m.bot.length * 67+3+r * 4+1,none⟩=some (int i64 (m.top.get (r:Int)).2.1)∧w.cell? ⟨fg,m.bot.length * 67+3+r * 4+2,none⟩=some (.bool (m.top.get (r:Int)).2.2)∧w.cell? ⟨fg,m.bot.length * 67+3+r * 4+3,none⟩=some (.bool (m.top.rs.getD r rg0).2)∧∀ i,w.frozen? ⟨fg,i,none⟩=false:=by
 have sz:=h.frs.sz _ (List.mem_append_right _ (List.mem_singleton.2 rfl));obtain ⟨y,hy⟩:∃ y,m.top.rs[r]? = some y:=⟨_,List.getElem?_eq_getElem (by omega)⟩;have e1:m.top.rs.getD r rg0=y:=by rw[List.getD_eq_getElem?_getD,hy];rfl
 have e2:m.top.get (r:Int)=y.1:=by unfold Fr.get;rw[show ((r:Int)).toNat=r by omega,e1]
 have e:∀ k,m.bot.length * 67+(3+r * 4+k)=m.bot.length * 67+3+r * 4+k:=fun k=>by omega
 have g:∀ k,k<4→∀ v,(rgC y)[k]? = some v→w.cell? ⟨fg,m.bot.length * 67+3+r * 4+k,none⟩=some v:=fun k hk v hv=>by
  rw[← e];exact h.frs.cell (qH m.bot m.top) ((zeq hy hk).trans hv)
 rw[e1,e2];exact ⟨g 0 (by omega) _ rfl,g 1 (by omega) _ rfl,g 2 (by omega) _ rfl,g 3 (by omega) _ rfl,h.frs.thaw⟩
theorem MaS.pt(h:MaS W0 w mp pp fg P m F hb fc rv oa oc os Fh):w.cell? ⟨fg,m.bot.length * 67,none⟩=some (int i64 (m.top.f:Int))∧w.cell? ⟨fg,m.bot.length * 67+1,none⟩=some (int i64 (m.top.b:Int))∧w.cell? ⟨fg,m.bot.length * 67+2,none⟩=some (int i64 (m.top.i:Int)):=
 ⟨by have a:=h.frs.cell (j:=m.bot.length) (i:=0) (qH m.bot m.top) (v:=int i64 (m.top.f:Int)) rfl;rw[Nat.add_zero] at a;exact a,h.frs.cell (j:=m.bot.length) (i:=1) (qH m.bot m.top) rfl,h.frs.cell (j:=m.bot.length) (i:=2) (qH m.bot m.top) rfl⟩
theorem znl(x:Fr):(frC x)[0]? = some (int i64 x.f)∧(frC x)[1]? = some (int i64 x.b)∧(frC x)[2]? = some (int i64 x.i):=⟨rfl,rfl,rfl⟩
theorem MaS.next(h:MaS W0 w mp pp fg P m F hb fc rv oa oc os Fh):MaS W0 (w.setCell ⟨fg,m.bot.length * 67+2,none⟩ (int i64 ((m.top.i+1:Nat):Int))) mp pp fg P { m with top:=m.top.next } F hb fc rv oa oc os Fh:=by
 have sz:=h.frs.sz _ (List.mem_append_right _ (List.mem_singleton.2 rfl));have f:=h.frs.put (y:=m.top.next) (i:=2) (v:=int i64 ((m.top.i+1:Nat):Int)) (qH m.bot m.top) (by omega) sz rfl;rw[Z5] at f;exact h.fr (zT.keeps _ _ _ _ _) f
theorem MaS.go(h:MaS W0 w mp pp fg P m F hb fc rv oa oc os Fh)(b:Nat):MaS W0 (((w.setCell ⟨fg,m.bot.length * 67+0,none⟩ (int i64 (m.top.f:Int))).setCell ⟨fg,m.bot.length * 67+1,none⟩ (int i64 (b:Int))).setCell ⟨fg,m.bot.length * 67+2,none⟩ (int i64 0)) mp pp fg P { m with top:=m.top.go b } F hb fc rv oa oc os Fh:=by
 have sz:=h.frs.sz _ (List.mem_append_right _ (List.mem_singleton.2 rfl));have f0:=h.frs.put (y:=m.top) (i:=0) (v:=int i64 (m.top.f:Int)) (qH m.bot m.top) (by omega) sz rfl;rw[Z5] at f0;have f1:=f0.put (y:={ m.top with b:=b }) (i:=1) (v:=int i64 (b:Int)) (qH m.bot m.top) (by omega) sz rfl;rw[Z5] at f1;have f2:=f1.put (y:=m.top.go b) (i:=2) (v:=int i64 0) (qH m.bot _) (by omega) sz rfl;rw[Z5] at f2;exact h.fr (((zT.keeps _ _ _ _ _).step (zT.keeps _ _ _ _ _)).step (zT.keeps _ _ _ _ _)) f2
theorem MaS.bx(h:MaS W0 w mp pp fg P m F hb fc rv oa oc os Fh)(k:za [mp] w w'){m':Ma}{oa':Option Addr}{oc':Nat}(hbx:w'.heap[mp]? = some (.cells (jk m' pp hb fg fc rv oa' oc') 104 (0,0)))(e1:m'.bot=m.bot)(e2:m'.top=m.top)(e3:m'.hp=m.hp)(e4:m'.rc=m.rc)(s:zq W0 1 zI oa m.ora→zq W0 1 zI oa' m'.ora)(oc9:m'.ora.length≤oc'∧m'.ora.length≤maxLen):MaS W0 w' mp pp fg P m' F hb fc rv oa' oc' os Fh:=by
 have n:=h.rv_ne;have k':za F w w':=k.mono fun x hx=>by rw[List.mem_singleton.1 hx];exact h.mp_in
 refine ⟨hbx,?_,?_,h.hp.kept k (fun x hx hm=>(h.off x hx).1 (List.mem_singleton.1 hm)),by rw[e3];exact h.bar,h.mp_in,h.fg_in,h.rv_in,h.fh_in,h.off,h.prc,s h.orc,qL h.sub k' (ja.refl w F),oc9,fun x hx=>Nat.lt_of_lt_of_le (h.lt x hx) k.size⟩
 ·rw[e1,e2]
  exact h.frs.kept k (fun b hb hm=>by
   simp[Value.ownBlock] at hb;rw[List.mem_singleton] at hm
   exact n.1 (hm ▸ hb.symm))
 ·rw[e4]
  exact zh h.rcs k (fun b hb hm=>n.2.1 (by rw[hb,List.mem_singleton.1 hm]))
theorem zq.tail{α:Type}{w:World}{R:World→Nat→Nat→α→Prop}{b off:Nat}{l:List α}(h:zq w 1 R (some ⟨b,off,none⟩) l):zq w 1 R (some ⟨b,off+1,none⟩) l.tail:=by
 rcases h with h | ⟨b',off',h1,h2⟩
 ·exact .inl (by rw[h];rfl)
 ·cases h1
  refine .inr ⟨b,off+1,rfl,fun j y hy=> ?_⟩;have:=h2 (j+1) y (by cases l with | nil=>simp at hy | cons q l=>exact hy);rw[show off+1+j * 1=off+(j+1) * 1 by omega];exact this
theorem MaS.took(h:MaS W0 w mp pp fg P m F hb fc rv oa oc os Fh){n:Nat}(hn:m.ora.length=n+1){a':Option Addr}{c':Nat}(r:zq W0 1 zI a' m.ora.tail)(hc:n≤c')(k:za [mp] w w')(hbx:w'.heap[mp]? = some (.cells ((jk m pp hb fg fc rv oa oc).setIfInBounds 1 (.slice a' n c')) 104 (0,0))):MaS W0 w' mp pp fg P { m with ora:=m.ora.tail } F hb fc rv a' c' os Fh:=by
 have e:m.ora.tail.length=n:=by rw[List.length_tail,hn];rfl
 have hl:=h.ocap;have f:∀ k,m.ora.tail.length=k→jk { m with ora:=m.ora.tail } pp hb fg fc rv a' c'=(jk m pp hb fg fc rv oa oc).setIfInBounds 1 (.slice a' k c'):=fun k e=>by
  subst e;rfl
 refine h.bx k ?_ rfl rfl rfl rfl (fun _=>r) ⟨by show m.ora.tail.length≤c';omega,by show m.ora.tail.length≤maxLen;omega⟩;rw[f n e];exact hbx
theorem MaS.heap(h:MaS W0 w mp pp fg P m F hb fc rv oa oc os Fh){os':List Ob}{Fh':List Nat}(k:za Fh w w')(n:ja w Fh Fh')(hh:Hp w' hb os' Fh'):MaS W0 w' mp pp fg P { m with hp:=os'.map zdy } (F ++ Fh') hb fc rv oa oc os' Fh':=by
 have k':za F w w':=k.mono h.fh_in;have ne:∀ b,b∈F→(b∈Fh→False)→b ∉ Fh':=fun b hb hn hm=>by
  rcases n b hm with h1 | h1
  ·exact hn h1
  ·have:=h.lt b hb
   omega
 refine ⟨(k.block mp (zt h.box) (fun hm=>(h.off mp hm).1 rfl)).trans h.box,h.frs.kept k (fun b hb hm=> ?_),zh h.rcs k (fun b hb hm=>(h.off b hm).2.2 hb),hh,rfl,List.mem_append_left _ h.mp_in,List.mem_append_left _ h.fg_in,fun b hb=>List.mem_append_left _ (h.rv_in b hb),fun x hx=>List.mem_append_right _ hx,fun x hx=>⟨fun e=> ?_,fun e=> ?_,fun e=> ?_⟩,h.prc,h.orc,qL h.sub k' (fun x hx=> ?_),h.ocap,fun x hx=> ?_⟩
 ·simp[Value.ownBlock] at hb
  exact (h.off b hm).2.1 hb.symm
 ·exact ne mp h.mp_in (fun hm=>(h.off mp hm).1 rfl) (e ▸ hx)
 ·exact ne fg h.fg_in (fun hm=>(h.off fg hm).2.1 rfl) (e ▸ hx)
 ·exact ne x (h.rv_in x e) (fun hm=>(h.off x hm).2.2 e) hx
 ·rcases List.mem_append.1 hx with hx | hx
  ·exact .inl hx
  ·exact (n x hx).imp (h.fh_in x) id
 ·rcases List.mem_append.1 hx with hx | hx
  ·exact Nat.lt_of_lt_of_le (h.lt x hx) k.size
  ·exact hh.lt x hx
theorem zdU{w:World}{base n c b:Nat}{v:Value}{xs:List Value}{T U:TypeId}{cs:Array Value}(h:w.ownsRow base T c v n xs)(hb:w.heap[b]? = some (.cells cs U (0,0)))(hne:T≠U):v.ownBlock≠some b:=by
 intro e;rcases h.2 with ⟨rfl,_⟩ | ⟨g,cap,cur,rfl,_,hg,_⟩
 ·simp[Value.ownBlock] at e
 ·simp[Value.ownBlock] at e
  subst e;rw[hg] at hb;simp at hb;exact hne hb.2
theorem MaS.recs(h:MaS W0 w mp pp fg P m F hb fc rv oa oc os Fh){wa w5:World}(ka:za [] w wa){z:Int}{rv':Value}(own:w5.ownsRow 0 3 1 rv' (m.rc.length+1) (Qd m.rc ++ [int i64 z]))(hg:wa.grownBy w5 rv.ownBlock)(hl:∀ k,rv'.ownBlock=some k→rv.ownBlock=some k∨wa.heap.size≤k):
  MaS W0 (w5.setCell ⟨mp,3,none⟩ rv') mp pp fg P { m with rc:=m.rc ++ [z] } (F ++ rv'.ownBlock.toList) hb fc rv' oa oc os Fh∧za F w (w5.setCell ⟨mp,3,none⟩ rv')∧ja w F (F ++ rv'.ownBlock.toList):=by
 have n:=h.rv_ne;have kg:za rv.ownBlock.toList wa w5:=za.grown _ hg (fun k hk=>by rw[hk];simp);have hbx:w5.heap[mp]? = some (.cells (jk m pp hb fg fc rv oa oc) 104 (0,0)):=by
  have:=zd h.box ka;rw[kg.block mp (zt this) (by simpa using n.2.1)];exact this
 have k5:za [mp] w5 (w5.setCell ⟨mp,3,none⟩ rv'):=za.setCell _ _ _ _ (List.mem_singleton.2 rfl);have kL:za (mp :: rv.ownBlock.toList) w (w5.setCell ⟨mp,3,none⟩ rv'):=((ka.mono (fun _ hx=>by cases hx)).step (kg.mono fun x hx=>List.mem_cons_of_mem _ hx)).step (k5.mono fun x hx=>by rw[List.mem_singleton.1 hx];exact List.mem_cons_self);have kF:za F w (w5.setCell ⟨mp,3,none⟩ rv'):=kL.mono fun x hx=>by
  rcases List.mem_cons.1 hx with rfl | hx
  ·exact h.mp_in
  ·exact h.rv_in x (by simpa using hx)
 have near:ja w F (F ++ rv'.ownBlock.toList):=fun x hx=>by
  rcases List.mem_append.1 hx with hx | hx
  ·exact .inl hx
  ·rcases hl x (by simpa using hx) with e | e
   ·exact .inl (h.rv_in x e)
   ·exact .inr (Nat.le_trans ka.size e)
 refine ⟨⟨heap_setCell_same w5 mp 3 _ _ rv' hbx,h.frs.kept kL (fun b hb hm=> ?_),?_,h.hp.kept kL (fun x hx hm=> ?_),h.bar,List.mem_append_left _ h.mp_in,List.mem_append_left _ h.fg_in,fun b hb=>by simp[hb],fun x hx=>List.mem_append_left _ (h.fh_in x hx),fun x hx=>⟨(h.off x hx).1,(h.off x hx).2.1,fun e=> ?_⟩,h.prc,h.orc,qL h.sub kF near,h.ocap,fun x hx=> ?_⟩,kF,near⟩
 ·simp[Value.ownBlock] at hb
  subst hb;rcases List.mem_cons.1 hm with e | hm
  ·exact n.1 e.symm
  ·exact n.2.2 (by simpa using hm)
 ·show (w5.setCell ⟨mp,3,none⟩ rv').ownsRow 0 3 1 rv' (m.rc ++ [z]).length (Qd (m.rc ++ [z]))
  rw[List.length_append];unfold Qd at own ⊢;rw[List.map_append];exact zh own k5 (fun b hb hm=>zdU own hbx (by decide) (by rw[hb,List.mem_singleton.1 hm]))
 ·rcases List.mem_cons.1 hm with e | hm
  ·exact (h.off x hx).1 e
  ·exact (h.off x hx).2.2 (by simpa using hm)
 ·rcases hl x e with e' | e'
  ·exact (h.off x hx).2.2 e'
  ·have:=h.lt x (h.fh_in x hx)
   have:=ka.size;omega
 ·rcases List.mem_append.1 hx with hx | hx
  ·exact Nat.lt_of_lt_of_le (h.lt x hx) kL.size
  ·exact Nat.lt_of_lt_of_le (own.lt x (by simpa using hx)).2 k5.size
end
structure KL {α:Type}(V:World→Value→α→Prop) (w:World) (A B g n c cap:Nat) (T:TypeId) (l:List α) (rs xs:List Value):Prop where
 own:w.ownsRow B T c (.slice (some ⟨g,0,none⟩) n cap) n rs
 done:∀ (j:Nat) (y:α),l[j]? = some y→∃ v,V (zQ A w) v y∧∀ i,i<c→rs[j * c+i]? = v.cells[i]?
 rest:∀ m,l.length * c≤m→rs[m]? = xs[m]?
theorem KL.next{α:Type}{V:World→Value→α→Prop}(hV:JK V){l:List α}{rs':List Value}(h:KL V w A B g n c cap T l rs xs)(hA:g<A)(k:za [g] w w')(own':w'.ownsRow B T c (.slice (some ⟨g,0,none⟩) n cap) n rs')(same:∀ m,m<l.length * c∨l.length * c+c≤m→rs'[m]? = rs[m]?){v:Value}{y:α}(hv:V (zQ A w') v y)(hc:∀ i,i<c→rs'[l.length * c+i]? = v.cells[i]?):KL V w' A B g n c cap T (l ++ [y]) rs' xs:=by
 have hs:=Sub.kept (B:=A) k (fun x hx=>by rw[List.mem_singleton] at hx;omega);refine ⟨own',fun j z hz=> ?_,fun m hm=> ?_⟩
 ·by_cases hj:j<l.length
  ·rw[List.getElem?_append_left hj] at hz
   obtain ⟨u,h4,h5⟩:=h.done j z hz;refine ⟨u,hV _ _ _ _ hs h4,fun i hi=> ?_⟩
   rw[same _ (.inl (by
    have:j * c+c≤l.length * c:=by rw[← Nat.succ_mul];exact Nat.mul_le_mul_right c hj
    omega))]
   exact h5 i hi
  ·rw[List.getElem?_append_right (by omega)] at hz
   have e0:j - l.length=0:=by
    apply Classical.byContradiction;intro hne;rw[List.getElem?_eq_none (by simp;omega)] at hz;cases hz
   rw[e0] at hz;simp at hz;subst hz;obtain rfl:j=l.length:=by omega
   exact ⟨v,hv,hc⟩
 ·rw[List.length_append] at hm
  have:(l.length+1) * c=l.length * c+c:=Nat.succ_mul _ _;have hm':l.length * c+c≤m:=by simpa [this] using hm
  rw[same m (.inr hm'),h.rest m (by omega)]
theorem KL.quiet{α:Type}{V:World→Value→α→Prop}(hV:JK V){l:List α}(h:KL V w A B g n c cap T l rs xs)(k:za [] w w'):KL V w' A B g n c cap T l rs xs:=
 ⟨zh h.own k (fun _ _=>by simp),fun j y hy=>by
  obtain ⟨v,h1,h2⟩:=h.done j y hy
  exact ⟨v,hV _ _ _ _ (Sub.kept k (fun x hx=>by cases hx)) h1,h2⟩,h.rest⟩
theorem KL.rows{α:Type}{V:World→Value→α→Prop}{R:World→Nat→Nat→α→Prop}{l:List α}(hV:JK V)(hL:zbj c V R)(h:KL V w A B g n c cap T l rs xs)(hBA:B≤A)(hl:l.length=n)(hm:n≤maxLen)(hn:n * c=rs.length):SlV c R (zQ B w) (.slice (some ⟨g,0,none⟩) l.length cap) l:=by
 rcases h.own.2 with ⟨h',_⟩ | ⟨g',cap',cur,h',hB,hg,hle,_⟩
 ·simp at h'
 ·simp only[Value.slice.injEq,Option.some.injEq,Addr.mk.injEq,and_true,true_and] at h'
  obtain ⟨rfl,rfl⟩:=h';refine ⟨some ⟨g,0,none⟩,cap,rfl,.inr ⟨g,0,rfl,fun j y hy=> ?_⟩,by omega,by omega⟩;have hj:j<n:=by rw[← hl];exact (List.getElem?_eq_some_iff.1 hy).1
  have hjc:j * c+c≤n * c:=by rw[← Nat.succ_mul];exact Nat.mul_le_mul_right c hj
  obtain ⟨v,h1,h2⟩:=h.done j y hy;refine (hL (zQ B w) v y g (0+j * c) (hV _ _ _ _ (Sub.down w hBA) h1)).2 (fun i hi=> ?_);rw[Nat.zero_add, ← h2 i hi,World.cell?_of_block (w:=w) (Qs hB)];exact h.own.cellAt _ (by omega)
theorem KL.far{α:Type}{V:World→Value→α→Prop}(hV:JK V){l:List α}(h:KL V w A B g n c cap T l rs xs)(k:za [b] w w')(hb:b<A)(hn:b≠g):KL V w' A B g n c cap T l rs xs:=
 ⟨zh h.own k (fun x hx hm=>by
  simp[Value.ownBlock] at hx;rw[List.mem_singleton] at hm
  exact hn (hm.symm.trans hx.symm)),fun j y hy=>by
  obtain ⟨v,h1,h2⟩:=h.done j y hy
  exact ⟨v,hV _ _ _ _ (Sub.kept k (fun x hx=>by rw[List.mem_singleton.1 hx];exact hb)) h1,h2⟩,h.rest⟩
theorem zlh:(Tryz.prog.underlying 99).map (fun d=>TypeDesc.isRow d)=some true:=by kernel_rfl
theorem zif:(Tryz.prog.info? 99).map (·.size)=some 67:=by kernel_rfl
theorem zep:Tryz.prog.info? 99=some Tryz.t99:=by kernel_rfl
theorem zbt:Tryz.prog.underlying 100=some (.slice 99):=by kernel_rfl
theorem zdK:(Tryz.t99.zero).map (·.cells.size)=some 67:=by kernel_rfl
theorem zbw:Tryz.t99.size=67:=by kernel_rfl
theorem zmG:Tryz.t99.bytes=536:=by kernel_rfl
theorem zii(y:Fr):∀ u∈frC y,u.oneCell'=true:=by
 intro u hu;unfold frC at hu;simp only[List.mem_cons] at hu;rcases hu with rfl | rfl | rfl | hu
 ·rfl
 ·rfl
 ·rfl
 ·rw[List.mem_flatMap] at hu
  obtain ⟨q,_,hq⟩:=hu;simp[rgC] at hq;rcases hq with rfl | rfl | rfl | rfl <;> rfl
theorem zlb{nb:Nat}{y:Fr}{ev:Operand→Value}{oi:Oper}{x:Operand}(h:w.rangeAt nb 0 (frC y))(hl:y.rs.length=16)(ho:oi.op=.load 99 x)(hx:ev x=pointer (some ⟨nb,0,none⟩)):(execOp ev oi).run Tryz.prog w=.ok (.value (.agg (frC y).toArray)) w:=by
 obtain ⟨d,hu,hd⟩:∃ d,Tryz.prog.underlying 99=some d∧TypeDesc.isRow d=true:=by
  have:=zlh;cases e:Tryz.prog.underlying 99 with
  | none=>rw[e] at this;simp at this
  | some d=>rw[e] at this;exact ⟨d,rfl,by simpa using this⟩
 unfold execOp;simp only[ho,hx,Instr.loadAt,Instr.sureAddr,Sem.run_bind,Sem.run_pure,Result.andThen_ok,run_loadVar_mid w nb 0 99 (frC y) d h hu hd (by rw[qC hl];exact zif)]
theorem zhX{y:Fr}{ev:Operand→Value}{oi:Oper}{x:Operand}(hl:y.rs.length=16)(ho:oi.op=.buildSlice 100 1 #[(0,x)])(hx:ev x=.agg (frC y).toArray):(execOp ev oi).run Tryz.prog w=.ok (.value (.slice (some ⟨w.heap.size,0,none⟩) 1 1)) (w.alloc (.cells (frC y).toArray 99)):=by
 obtain ⟨z,hz,hzs⟩:∃ z,Tryz.t99.zero=some z∧z.cells.size=67:=by
  have:=zdK;cases e:Tryz.t99.zero with
  | none=>rw[e] at this;simp at this
  | some z=>rw[e] at this;exact ⟨z,rfl,by simpa using this⟩
 have hc:(Value.agg (frC y).toArray).cells.size=67:=by
  show (frC y).toArray.size=67;rw[List.size_toArray,qC hl]
 have hf:=Go.Great.fill_whole (s:=67) (by omega) [.agg (frC y).toArray] ((Array.range (1 * 67)).map (z.cells[· % z.cells.size]!)) (fun v hv=>by rw[List.mem_singleton.1 hv];exact hc) (by simp)
 have:=run_buildSlice (P:=Tryz.prog) w 100 99 1 #[(0,.agg (frC y).toArray)] (frC y).toArray Tryz.t99 z zbt zep hz (by rw[zbw];omega) (by rw[zbw];omega) (by
  rw[zbw];refine hf.trans ?_
  simp[Value.cells])
 unfold execOp;simp only[ho];simp[hx,this]
theorem zgn(x:In8)(a:Option Addr)(cp:Nat)(w:World)(hz:zv w a x.args)(hl:x.args.length≤1048576)(hop:x.op=14):Calls Tryz.prog 190 #[zu x (.slice a x.args.length cp)] w fun e w'=>∃ a' c',e=.returned (.slice a' (x.a :: x.args).length c')∧zv w' a' (x.a :: x.args)∧za [] w w'∧∀ b off,a'=some ⟨b,off,none⟩→w.heap.size≤b:=by
 have o2:=neb (show x.op≠2 by omega);have o8:=neb (show x.op≠8 by omega);have o6:=neb (show x.op≠6 by omega);have o7:=neb (show x.op≠7 by omega);have o9:=neb (show x.op≠9 by omega);have o11:=neb (show x.op≠11 by omega);have o15:=neb (show x.op≠15 by omega);have o12:=neb (show x.op≠12 by omega);have o13:=neb (show x.op≠13 by omega);have o14:=eqb hop;clear hop;unfold zu;have HK:=hid (za.alloc [] w (.cells #[int i64 x.op,int i64 x.dst,int i64 x.a,int i64 x.b,int i64 x.n,.slice a x.args.length cp] 65));cases a with
 | none=>
  have he:x.args=[]:=by
   rcases hz with e | ⟨b,off,e,_⟩
   ·exact e
   ·cases e
  rw[he];rw[he] at HK;clear hz hl he;go_enter Tryz.func190,Tryz.ntmps190;go_wp2_with (at_builtin;go_must (refine qy rfl _ _ 63 rfl w.heap.size 3 Tryz.t3 1 zU q7 _ 1 [int i64 x.a] rfl (zkg _ w.heap.size _ (by simp) (by simp) x.a) rfl ?_));go_ret;exact ⟨_,_,rfl,zfS _ _ (by simp) _,HK.o.quiet (za.alloc [] _ _),fun b off e=>by cases e;simp⟩
 | some ad=>
  have HK2:=hid (HK.o.quiet (za.alloc [] (w.alloc (.cells #[int i64 x.op,int i64 x.dst,int i64 x.a,int i64 x.b,int i64 x.n,.slice (some ad) x.args.length cp] 65)) (.cells #[int i64 x.a] 3)));have HZ:=hid (hz.kept HK2.o (fun _ _ _=>by simp));generalize x.args=ag at *;clear hz;go_enter Tryz.func190,Tryz.ntmps190;go_wp2_with (at_builtin;go_must (refine wpList_append_own _ rfl _ _ 63 rfl w.heap.size 3 Tryz.t3 (int i64 0) 1 8 zU q7 j8 jv qT rfl (by decide) _ 1 [int i64 x.a] rfl (zkg _ w.heap.size _ (by simp) (by simp) x.a) ad ag.length cp (Qd ag) rfl (by rw[Z0];omega) (ZT HZ.o) (Qn ag) (by unfold maxLen;omega) (by omega) (by simp;omega) ?_;intro v' w1 hown hgrow hnil));have hg2:((w.alloc (.cells #[int i64 x.op,int i64 x.dst,int i64 x.a,int i64 x.b,int i64 x.n,.slice (some ad) ag.length cp] 65)).alloc (.cells #[int i64 x.a] 3)).grownBy w1 (some (w.heap.size+1)):=hgrow;have HK1:=hid (HK2.o.fresh (za.grown [w.heap.size+1] hg2 (fun k hk=>by simp at hk;simp[hk])) (fun y hy=>by simp at hy;omega));have HO:Box (w1.ownsRow w.heap.size 3 1 v' (1+ag.length) (Qd (x.a :: ag))):=hid hown;clear hgrow hnil hown hg2;go_wp2_with fail;go_ret;obtain ⟨a',c',e1,e2,e3,_,e5⟩:=Zx HO.o;exact ⟨a',c',by rw[Nat.add_comm] at e1;exact congrArg Ending.returned e1,e3,HK1.o,e5⟩
section
variable {W0 w w':World}{mp pp fg:Nat}{P:Pr8}{m:Ma}{F:List Nat}{hb fc:Nat}{rv:Value}{oa:Option Addr}{oc:Nat}{os:List Ob}{Fh:List Nat}
theorem zcL{w:World}(x:In8)(xa:Option Addr)(xc:Nat)(hz:zv w xa x.args)(hl:x.args.length≤1000):Calls Tryz.prog 135 #[zu x (.slice xa x.args.length xc)] w fun e w'=>∃ a' c',e=.returned (.slice a' (zx x).length c')∧zv w' a' (zx x)∧za [] w w'∧(a'=xa∧zx x=x.args∨∀ b off,a'=some ⟨b,off,none⟩→w.heap.size≤b):=by
 have ka:=za.alloc [] w (.cells #[int i64 x.op,int i64 x.dst,int i64 x.a,int i64 x.b,int i64 x.n,.slice xa x.args.length xc] 65);have KA:=hid ka;have hn:=ze w (.cells #[int i64 x.op,int i64 x.dst,int i64 x.a,int i64 x.b,int i64 x.n,.slice xa x.args.length xc] 65);have HZ:=hid (hz.kept ka (fun _ _ _=>by simp));have c0:=zc hn 0;have c1:=zc hn 1;have c2:=zc hn 2;have c3:=zc hn 3;have c4:=zc hn 4;have c5:=zc hn 5;clear hz ka hn;by_cases h14:x.op=14
 ·have q:(x.op == 14)=true:=eqb h14
  have e1:zx x=x.a :: x.args:=if_pos h14;have HU:=hid (zgn x xa xc _ HZ.o (by omega) h14);rw[e1];clear h14 e1;unfold zu at *;go_enter Tryz.func135,Tryz.ntmps135;go_wp2_with fail;refine HU.o.mono ?_;rintro e w2 ⟨a',c',rfl,h2,k2,n2⟩;have H2:=hid h2;have N2:=hid n2;have K2:=hid k2;clear h2 k2 n2 HU;go_wp2_with fail;go_ret;exact ⟨a',c',rfl,H2.o,KA.o.quiet K2.o,.inr fun b off e=>Nat.le_trans KA.o.size (N2.o b off e)⟩
 ·have q:(x.op == 14)=false:=neb h14
  have e1:zx x=x.args:=if_neg h14;rw[e1];clear h14 e1;unfold zu at *;go_enter Tryz.func135,Tryz.ntmps135;go_wp2_with fail;go_ret;exact ⟨xa,xc,rfl,HZ.o,KA.o,.inl ⟨rfl,by first | trivial | rfl⟩⟩
end
theorem zcP:Tryz.prog.underlying 51=some (.slice 47)∧Tryz.prog.info? 47=some Tryz.t47∧Tryz.t47.zero=some (.slice none 0 0)∧Tryz.t47.size=1∧Tryz.t47.bytes=24:=⟨by kernel_rfl,by kernel_rfl,by kernel_rfl,by kernel_rfl,by kernel_rfl⟩
theorem zet(n c:Nat)(w:World):Calls Tryz.prog 77 #[.slice none n c] w fun e w'=>e=.returned (.slice none 0 0)∧za [] w w':=by
 have q:∀ (w:World) (a:Option Addr) (n c n' c':Nat),(binOp .eql 51 (.slice a n c) (.slice none n' c')).run Tryz.prog w=.ok (.bool a.isNone) w:=fun w a n c n' c'=>Lib.run_eql_slice_nil w _ _ a n c n' c' Tryz.underlying51;go_enter Tryz.func77,Tryz.ntmps77;go_wp2;go_ret;exact ⟨rfl,za.refl _ _⟩
theorem zaz(ad:Addr)(n c:Nat)(xs:List Value)(w:World)(hl:xs.length=n * 1)(hx:∀ j u,xs[j]? = some u→w.cell? (ad.add j)=some u)(h1:∀ u∈xs,u.oneCell'=true)(hb:n≤1000000):
  Calls Tryz.prog 77 #[.slice (some ad) n c] w fun e w'=>∃ g cap,e=.returned (.slice (some ⟨g,0,none⟩) n cap)∧w'.ownsRow w.heap.size 47 1 (.slice (some ⟨g,0,none⟩) n cap) n xs∧w.heap.size≤g∧za [] w w':=by
 have q:∀ (w:World) (a:Option Addr) (n c n' c':Nat),(binOp .eql 51 (.slice a n c) (.slice none n' c')).run Tryz.prog w=.ok (.bool a.isNone) w:=fun w a n c n' c'=>Lib.run_eql_slice_nil w _ _ a n c n' c' Tryz.underlying51;obtain ⟨f1,f2,f3,f4,f5⟩:=zcP;have H:=hid hx;have HL:=hid hl;have H1:=hid h1;clear hl hx h1;go_enter Tryz.func77,Tryz.ntmps77;go_wp2_with (at_builtin;go_must (refine wpList_append_own _ rfl _ _ 51 rfl w.heap.size 47 Tryz.t47 (.slice none 0 0) 1 24 f1 f2 f3 f4 f5 rfl (by decide) _ _ _ rfl (World.ownsRow_made w #[] 0 (Nat.le_refl _) (Nat.zero_le _) rfl) ad n c xs rfl (by rw[HL.o]) (fun j u hj=>Lib.cell?_alloc_some _ (H.o j u hj)) H1.o (by unfold maxLen;omega) (by omega) (by simp) ?_;intro v' w1 hown hgrow hnil));have HO:=hid hown;have hg2:(w.alloc (Obj.cells #[] 47)).grownBy w1 (some w.heap.size):=hgrow;have HK:=hid ((za.alloc [] w _).trans (za.grown [w.heap.size] hg2 (fun k hk=>by simp at hk;simp[hk])) (fun x hx hlt=>by simp at hx;omega):za [] w w1);have HNL:=hid hnil;clear hown hgrow hnil hg2;go_wp2_with fail;go_ret;have HO9:w1.ownsRow w.heap.size 47 1 v' n xs:=by simpa using HO.o
 rcases HO9.2 with ⟨hv,h0⟩ | ⟨g,cap,cur,hv,hb9,_⟩
 ·exact absurd (show Value.slice (some ⟨w.heap.size,0,none⟩) 0 0=Value.slice none 0 0 from (HNL.o.1 hv).1) (by simp)
 ·rw[hv] at HO9
  exact ⟨g,cap,by rw[hv];rfl,HO9,hb9,HK.o⟩
theorem zeZ:Tryz.prog.underlying 54=some (.slice 80)∧Tryz.prog.info? 80=some Tryz.t80∧Tryz.t80.zero=some (agg #[int i64 0,int i64 0,.slice none 0 0])∧Tryz.t80.size=3∧Tryz.t80.bytes=40:=⟨by kernel_rfl,by kernel_rfl,by kernel_rfl,by kernel_rfl,by kernel_rfl⟩
theorem zho(n c:Nat)(w:World):Calls Tryz.prog 78 #[.slice none n c] w fun e w'=>e=.returned (.slice none 0 0)∧za [] w w':=by
 have q:∀ (w:World) (a:Option Addr) (n c n' c':Nat),(binOp .eql 54 (.slice a n c) (.slice none n' c')).run Tryz.prog w=.ok (.bool a.isNone) w:=fun w a n c n' c'=>Lib.run_eql_slice_nil w _ _ a n c n' c' Tryz.underlying54;go_enter Tryz.func78,Tryz.ntmps78;go_wp2;go_ret;exact ⟨rfl,za.refl _ _⟩
theorem zco(ad:Addr)(n c:Nat)(xs:List Value)(w:World)(hl:xs.length=n * 3)(hx:∀ j u,xs[j]? = some u→w.cell? (ad.add j)=some u)(h1:∀ u∈xs,u.oneCell'=true)(hb:n≤1000000):
  Calls Tryz.prog 78 #[.slice (some ad) n c] w fun e w'=>∃ g cap,e=.returned (.slice (some ⟨g,0,none⟩) n cap)∧w'.ownsRow w.heap.size 80 3 (.slice (some ⟨g,0,none⟩) n cap) n xs∧w.heap.size≤g∧za [] w w':=by
 have q:∀ (w:World) (a:Option Addr) (n c n' c':Nat),(binOp .eql 54 (.slice a n c) (.slice none n' c')).run Tryz.prog w=.ok (.bool a.isNone) w:=fun w a n c n' c'=>Lib.run_eql_slice_nil w _ _ a n c n' c' Tryz.underlying54;obtain ⟨f1,f2,f3,f4,f5⟩:=zeZ;have H:=hid hx;have HL:=hid hl;have H1:=hid h1;clear hl hx h1;go_enter Tryz.func78,Tryz.ntmps78;go_wp2_with (at_builtin;go_must (refine wpList_append_own _ rfl _ _ 54 rfl w.heap.size 80 Tryz.t80 (agg #[int i64 0,int i64 0,.slice none 0 0]) 3 40 f1 f2 f3 f4 f5 rfl (by decide) _ _ _ rfl (World.ownsRow_made w #[] 0 (Nat.le_refl _) (Nat.zero_le _) rfl) ad n c xs rfl (by rw[HL.o]) (fun j u hj=>Lib.cell?_alloc_some _ (H.o j u hj)) H1.o (by unfold maxLen;omega) (by omega) (by simp) ?_;intro v' w1 hown hgrow hnil));have HO:=hid hown;have hg2:(w.alloc (Obj.cells #[] 80)).grownBy w1 (some w.heap.size):=hgrow;have HK:=hid ((za.alloc [] w _).trans (za.grown [w.heap.size] hg2 (fun k hk=>by simp at hk;simp[hk])) (fun x hx hlt=>by simp at hx;omega):za [] w w1);have HNL:=hid hnil;clear hown hgrow hnil hg2;go_wp2_with fail;go_ret;have HO9:w1.ownsRow w.heap.size 80 3 v' n xs:=by simpa using HO.o
 rcases HO9.2 with ⟨hv,h0⟩ | ⟨g,cap,cur,hv,hb9,_⟩
 ·exact absurd (show Value.slice (some ⟨w.heap.size,0,none⟩) 0 0=Value.slice none 0 0 from (HNL.o.1 hv).1) (by simp)
 ·rw[hv] at HO9
  exact ⟨g,cap,by rw[hv];rfl,HO9,hb9,HK.o⟩
theorem zdF:Tryz.prog.underlying 55=some (.slice 50)∧Tryz.prog.info? 50=some Tryz.t50∧Tryz.t50.zero=some (agg #[int i64 0,.slice none 0 0,.slice none 0 0])∧Tryz.t50.size=3∧Tryz.t50.bytes=56:=⟨by kernel_rfl,by kernel_rfl,by kernel_rfl,by kernel_rfl,by kernel_rfl⟩
theorem zgP(n c:Nat)(w:World):Calls Tryz.prog 79 #[.slice none n c] w fun e w'=>e=.returned (.slice none 0 0)∧za [] w w':=by
 have q:∀ (w:World) (a:Option Addr) (n c n' c':Nat),(binOp .eql 55 (.slice a n c) (.slice none n' c')).run Tryz.prog w=.ok (.bool a.isNone) w:=fun w a n c n' c'=>Lib.run_eql_slice_nil w _ _ a n c n' c' Tryz.underlying55;go_enter Tryz.func79,Tryz.ntmps79;go_wp2;go_ret;exact ⟨rfl,za.refl _ _⟩
theorem zbN(ad:Addr)(n c:Nat)(xs:List Value)(w:World)(hl:xs.length=n * 3)(hx:∀ j u,xs[j]? = some u→w.cell? (ad.add j)=some u)(h1:∀ u∈xs,u.oneCell'=true)(hb:n≤1000000):
  Calls Tryz.prog 79 #[.slice (some ad) n c] w fun e w'=>∃ g cap,e=.returned (.slice (some ⟨g,0,none⟩) n cap)∧w'.ownsRow w.heap.size 50 3 (.slice (some ⟨g,0,none⟩) n cap) n xs∧w.heap.size≤g∧za [] w w':=by
 have q:∀ (w:World) (a:Option Addr) (n c n' c':Nat),(binOp .eql 55 (.slice a n c) (.slice none n' c')).run Tryz.prog w=.ok (.bool a.isNone) w:=fun w a n c n' c'=>Lib.run_eql_slice_nil w _ _ a n c n' c' Tryz.underlying55;obtain ⟨f1,f2,f3,f4,f5⟩:=zdF;have H:=hid hx;have HL:=hid hl;have H1:=hid h1;clear hl hx h1;go_enter Tryz.func79,Tryz.ntmps79;go_wp2_with (at_builtin;go_must (refine wpList_append_own _ rfl _ _ 55 rfl w.heap.size 50 Tryz.t50 (agg #[int i64 0,.slice none 0 0,.slice none 0 0]) 3 56 f1 f2 f3 f4 f5 rfl (by decide) _ _ _ rfl (World.ownsRow_made w #[] 0 (Nat.le_refl _) (Nat.zero_le _) rfl) ad n c xs rfl (by rw[HL.o]) (fun j u hj=>Lib.cell?_alloc_some _ (H.o j u hj)) H1.o (by unfold maxLen;omega) (by omega) (by simp) ?_;intro v' w1 hown hgrow hnil));have HO:=hid hown;have hg2:(w.alloc (Obj.cells #[] 50)).grownBy w1 (some w.heap.size):=hgrow;have HK:=hid ((za.alloc [] w _).trans (za.grown [w.heap.size] hg2 (fun k hk=>by simp at hk;simp[hk])) (fun x hx hlt=>by simp at hx;omega):za [] w w1);have HNL:=hid hnil;clear hown hgrow hnil hg2;go_wp2_with fail;go_ret;have HO9:w1.ownsRow w.heap.size 50 3 v' n xs:=by simpa using HO.o
 rcases HO9.2 with ⟨hv,h0⟩ | ⟨g,cap,cur,hv,hb9,_⟩
 ·exact absurd (show Value.slice (some ⟨w.heap.size,0,none⟩) 0 0=Value.slice none 0 0 from (HNL.o.1 hv).1) (by simp)
 ·rw[hv] at HO9
  exact ⟨g,cap,by rw[hv];rfl,HO9,hb9,HK.o⟩
theorem zeG:Tryz.prog.underlying 47=some (.slice 60)∧Tryz.prog.info? 60=some Tryz.t60∧Tryz.t60.zero=some (agg #[int i64 0,int i64 0])∧Tryz.t60.size=2∧Tryz.t60.bytes=16:=⟨by kernel_rfl,by kernel_rfl,by kernel_rfl,by kernel_rfl,by kernel_rfl⟩
theorem zhI(n c:Nat)(w:World):Calls Tryz.prog 80 #[.slice none n c] w fun e w'=>e=.returned (.slice none 0 0)∧za [] w w':=by
 have q:∀ (w:World) (a:Option Addr) (n c n' c':Nat),(binOp .eql 47 (.slice a n c) (.slice none n' c')).run Tryz.prog w=.ok (.bool a.isNone) w:=fun w a n c n' c'=>Lib.run_eql_slice_nil w _ _ a n c n' c' Tryz.underlying47;go_enter Tryz.func80,Tryz.ntmps80;go_wp2;go_ret;exact ⟨rfl,za.refl _ _⟩
theorem zbX(ad:Addr)(n c:Nat)(xs:List Value)(w:World)(hl:xs.length=n * 2)(hx:∀ j u,xs[j]? = some u→w.cell? (ad.add j)=some u)(h1:∀ u∈xs,u.oneCell'=true)(hb:n≤1000000):
  Calls Tryz.prog 80 #[.slice (some ad) n c] w fun e w'=>∃ g cap,e=.returned (.slice (some ⟨g,0,none⟩) n cap)∧w'.ownsRow w.heap.size 60 2 (.slice (some ⟨g,0,none⟩) n cap) n xs∧w.heap.size≤g∧za [] w w':=by
 have q:∀ (w:World) (a:Option Addr) (n c n' c':Nat),(binOp .eql 47 (.slice a n c) (.slice none n' c')).run Tryz.prog w=.ok (.bool a.isNone) w:=fun w a n c n' c'=>Lib.run_eql_slice_nil w _ _ a n c n' c' Tryz.underlying47;obtain ⟨f1,f2,f3,f4,f5⟩:=zeG;have H:=hid hx;have HL:=hid hl;have H1:=hid h1;clear hl hx h1;go_enter Tryz.func80,Tryz.ntmps80;go_wp2_with (at_builtin;go_must (refine wpList_append_own _ rfl _ _ 47 rfl w.heap.size 60 Tryz.t60 (agg #[int i64 0,int i64 0]) 2 16 f1 f2 f3 f4 f5 rfl (by decide) _ _ _ rfl (World.ownsRow_made w #[] 0 (Nat.le_refl _) (Nat.zero_le _) rfl) ad n c xs rfl (by rw[HL.o]) (fun j u hj=>Lib.cell?_alloc_some _ (H.o j u hj)) H1.o (by unfold maxLen;omega) (by omega) (by simp) ?_;intro v' w1 hown hgrow hnil));have HO:=hid hown;have hg2:(w.alloc (Obj.cells #[] 60)).grownBy w1 (some w.heap.size):=hgrow;have HK:=hid ((za.alloc [] w _).trans (za.grown [w.heap.size] hg2 (fun k hk=>by simp at hk;simp[hk])) (fun x hx hlt=>by simp at hx;omega):za [] w w1);have HNL:=hid hnil;clear hown hgrow hnil hg2;go_wp2_with fail;go_ret;have HO9:w1.ownsRow w.heap.size 60 2 v' n xs:=by simpa using HO.o
 rcases HO9.2 with ⟨hv,h0⟩ | ⟨g,cap,cur,hv,hb9,_⟩
 ·exact absurd (show Value.slice (some ⟨w.heap.size,0,none⟩) 0 0=Value.slice none 0 0 from (HNL.o.1 hv).1) (by simp)
 ·rw[hv] at HO9
  exact ⟨g,cap,by rw[hv];rfl,HO9,hb9,HK.o⟩
theorem zgC:Tryz.prog.underlying 63=some (.slice 3)∧Tryz.prog.info? 3=some Tryz.t3∧Tryz.t3.zero=some (int i64 0)∧Tryz.t3.size=1∧Tryz.t3.bytes=8:=⟨by kernel_rfl,by kernel_rfl,by kernel_rfl,by kernel_rfl,by kernel_rfl⟩
theorem zjY(n c:Nat)(w:World):Calls Tryz.prog 81 #[.slice none n c] w fun e w'=>e=.returned (.slice none 0 0)∧za [] w w':=by
 have q:∀ (w:World) (a:Option Addr) (n c n' c':Nat),(binOp .eql 63 (.slice a n c) (.slice none n' c')).run Tryz.prog w=.ok (.bool a.isNone) w:=fun w a n c n' c'=>Lib.run_eql_slice_nil w _ _ a n c n' c' Tryz.underlying63;go_enter Tryz.func81,Tryz.ntmps81;go_wp2;go_ret;exact ⟨rfl,za.refl _ _⟩
theorem zfc(ad:Addr)(n c:Nat)(xs:List Value)(w:World)(hl:xs.length=n * 1)(hx:∀ j u,xs[j]? = some u→w.cell? (ad.add j)=some u)(h1:∀ u∈xs,u.oneCell'=true)(hb:n≤1000000):
  Calls Tryz.prog 81 #[.slice (some ad) n c] w fun e w'=>∃ g cap,e=.returned (.slice (some ⟨g,0,none⟩) n cap)∧w'.ownsRow w.heap.size 3 1 (.slice (some ⟨g,0,none⟩) n cap) n xs∧w.heap.size≤g∧za [] w w':=by
 have q:∀ (w:World) (a:Option Addr) (n c n' c':Nat),(binOp .eql 63 (.slice a n c) (.slice none n' c')).run Tryz.prog w=.ok (.bool a.isNone) w:=fun w a n c n' c'=>Lib.run_eql_slice_nil w _ _ a n c n' c' Tryz.underlying63;obtain ⟨f1,f2,f3,f4,f5⟩:=zgC;have H:=hid hx;have HL:=hid hl;have H1:=hid h1;clear hl hx h1;go_enter Tryz.func81,Tryz.ntmps81;go_wp2_with (at_builtin;go_must (refine wpList_append_own _ rfl _ _ 63 rfl w.heap.size 3 Tryz.t3 (int i64 0) 1 8 f1 f2 f3 f4 f5 rfl (by decide) _ _ _ rfl (World.ownsRow_made w #[] 0 (Nat.le_refl _) (Nat.zero_le _) rfl) ad n c xs rfl (by rw[HL.o]) (fun j u hj=>Lib.cell?_alloc_some _ (H.o j u hj)) H1.o (by unfold maxLen;omega) (by omega) (by simp) ?_;intro v' w1 hown hgrow hnil));have HO:=hid hown;have hg2:(w.alloc (Obj.cells #[] 3)).grownBy w1 (some w.heap.size):=hgrow;have HK:=hid ((za.alloc [] w _).trans (za.grown [w.heap.size] hg2 (fun k hk=>by simp at hk;simp[hk])) (fun x hx hlt=>by simp at hx;omega):za [] w w1);have HNL:=hid hnil;clear hown hgrow hnil hg2;go_wp2_with fail;go_ret;have HO9:w1.ownsRow w.heap.size 3 1 v' n xs:=by simpa using HO.o
 rcases HO9.2 with ⟨hv,h0⟩ | ⟨g,cap,cur,hv,hb9,_⟩
 ·exact absurd (show Value.slice (some ⟨w.heap.size,0,none⟩) 0 0=Value.slice none 0 0 from (HNL.o.1 hv).1) (by simp)
 ·rw[hv] at HO9
  exact ⟨g,cap,by rw[hv];rfl,HO9,hb9,HK.o⟩
theorem zcM:Tryz.prog.underlying 48=some (.slice 68)∧Tryz.prog.info? 68=some Tryz.t68∧Tryz.t68.zero=some (agg #[.slice none 0 0,int i64 0,int i64 0,int i64 0,int i64 0])∧Tryz.t68.size=5∧Tryz.t68.bytes=56:=⟨by kernel_rfl,by kernel_rfl,by kernel_rfl,by kernel_rfl,by kernel_rfl⟩
theorem zeo(n c:Nat)(w:World):Calls Tryz.prog 130 #[.slice none n c] w fun e w'=>e=.returned (.slice none 0 0)∧za [] w w':=by
 have q:∀ (w:World) (a:Option Addr) (n c n' c':Nat),(binOp .eql 48 (.slice a n c) (.slice none n' c')).run Tryz.prog w=.ok (.bool a.isNone) w:=fun w a n c n' c'=>Lib.run_eql_slice_nil w _ _ a n c n' c' Tryz.underlying48;go_enter Tryz.func130,Tryz.ntmps130;go_wp2;go_ret;exact ⟨rfl,za.refl _ _⟩
theorem zaL(ad:Addr)(n c:Nat)(xs:List Value)(w:World)(hl:xs.length=n * 5)(hx:∀ j u,xs[j]? = some u→w.cell? (ad.add j)=some u)(h1:∀ u∈xs,u.oneCell'=true)(hb:n≤1000000):
  Calls Tryz.prog 130 #[.slice (some ad) n c] w fun e w'=>∃ g cap,e=.returned (.slice (some ⟨g,0,none⟩) n cap)∧w'.ownsRow w.heap.size 68 5 (.slice (some ⟨g,0,none⟩) n cap) n xs∧w.heap.size≤g∧za [] w w':=by
 have q:∀ (w:World) (a:Option Addr) (n c n' c':Nat),(binOp .eql 48 (.slice a n c) (.slice none n' c')).run Tryz.prog w=.ok (.bool a.isNone) w:=fun w a n c n' c'=>Lib.run_eql_slice_nil w _ _ a n c n' c' Tryz.underlying48;obtain ⟨f1,f2,f3,f4,f5⟩:=zcM;have H:=hid hx;have HL:=hid hl;have H1:=hid h1;clear hl hx h1;go_enter Tryz.func130,Tryz.ntmps130;go_wp2_with (at_builtin;go_must (refine wpList_append_own _ rfl _ _ 48 rfl w.heap.size 68 Tryz.t68 (agg #[.slice none 0 0,int i64 0,int i64 0,int i64 0,int i64 0]) 5 56 f1 f2 f3 f4 f5 rfl (by decide) _ _ _ rfl (World.ownsRow_made w #[] 0 (Nat.le_refl _) (Nat.zero_le _) rfl) ad n c xs rfl (by rw[HL.o]) (fun j u hj=>Lib.cell?_alloc_some _ (H.o j u hj)) H1.o (by unfold maxLen;omega) (by omega) (by simp) ?_;intro v' w1 hown hgrow hnil));have HO:=hid hown;have hg2:(w.alloc (Obj.cells #[] 68)).grownBy w1 (some w.heap.size):=hgrow;have HK:=hid ((za.alloc [] w _).trans (za.grown [w.heap.size] hg2 (fun k hk=>by simp at hk;simp[hk])) (fun x hx hlt=>by simp at hx;omega):za [] w w1);have HNL:=hid hnil;clear hown hgrow hnil hg2;go_wp2_with fail;go_ret;have HO9:w1.ownsRow w.heap.size 68 5 v' n xs:=by simpa using HO.o
 rcases HO9.2 with ⟨hv,h0⟩ | ⟨g,cap,cur,hv,hb9,_⟩
 ·exact absurd (show Value.slice (some ⟨w.heap.size,0,none⟩) 0 0=Value.slice none 0 0 from (HNL.o.1 hv).1) (by simp)
 ·rw[hv] at HO9
  exact ⟨g,cap,by rw[hv];rfl,HO9,hb9,HK.o⟩
theorem zdg:Tryz.prog.underlying 66=some (.slice 65)∧Tryz.prog.info? 65=some Tryz.t65∧Tryz.t65.zero=some (agg #[int i64 0,int i64 0,int i64 0,int i64 0,int i64 0,.slice none 0 0])∧Tryz.t65.size=6∧Tryz.t65.bytes=64:=⟨by kernel_rfl,by kernel_rfl,by kernel_rfl,by kernel_rfl,by kernel_rfl⟩
theorem zee(n c:Nat)(w:World):Calls Tryz.prog 131 #[.slice none n c] w fun e w'=>e=.returned (.slice none 0 0)∧za [] w w':=by
 have q:∀ (w:World) (a:Option Addr) (n c n' c':Nat),(binOp .eql 66 (.slice a n c) (.slice none n' c')).run Tryz.prog w=.ok (.bool a.isNone) w:=fun w a n c n' c'=>Lib.run_eql_slice_nil w _ _ a n c n' c' Tryz.underlying66;go_enter Tryz.func131,Tryz.ntmps131;go_wp2;go_ret;exact ⟨rfl,za.refl _ _⟩
theorem zaI(ad:Addr)(n c:Nat)(xs:List Value)(w:World)(hl:xs.length=n * 6)(hx:∀ j u,xs[j]? = some u→w.cell? (ad.add j)=some u)(h1:∀ u∈xs,u.oneCell'=true)(hb:n≤1000000):
  Calls Tryz.prog 131 #[.slice (some ad) n c] w fun e w'=>∃ g cap,e=.returned (.slice (some ⟨g,0,none⟩) n cap)∧w'.ownsRow w.heap.size 65 6 (.slice (some ⟨g,0,none⟩) n cap) n xs∧w.heap.size≤g∧za [] w w':=by
 have q:∀ (w:World) (a:Option Addr) (n c n' c':Nat),(binOp .eql 66 (.slice a n c) (.slice none n' c')).run Tryz.prog w=.ok (.bool a.isNone) w:=fun w a n c n' c'=>Lib.run_eql_slice_nil w _ _ a n c n' c' Tryz.underlying66;obtain ⟨f1,f2,f3,f4,f5⟩:=zdg;have H:=hid hx;have HL:=hid hl;have H1:=hid h1;clear hl hx h1;go_enter Tryz.func131,Tryz.ntmps131;go_wp2_with (at_builtin;go_must (refine wpList_append_own _ rfl _ _ 66 rfl w.heap.size 65 Tryz.t65 (agg #[int i64 0,int i64 0,int i64 0,int i64 0,int i64 0,.slice none 0 0]) 6 64 f1 f2 f3 f4 f5 rfl (by decide) _ _ _ rfl (World.ownsRow_made w #[] 0 (Nat.le_refl _) (Nat.zero_le _) rfl) ad n c xs rfl (by rw[HL.o]) (fun j u hj=>Lib.cell?_alloc_some _ (H.o j u hj)) H1.o (by unfold maxLen;omega) (by omega) (by simp) ?_;intro v' w1 hown hgrow hnil));have HO:=hid hown;have hg2:(w.alloc (Obj.cells #[] 65)).grownBy w1 (some w.heap.size):=hgrow;have HK:=hid ((za.alloc [] w _).trans (za.grown [w.heap.size] hg2 (fun k hk=>by simp at hk;simp[hk])) (fun x hx hlt=>by simp at hx;omega):za [] w w1);have HNL:=hid hnil;clear hown hgrow hnil hg2;go_wp2_with fail;go_ret;have HO9:w1.ownsRow w.heap.size 65 6 v' n xs:=by simpa using HO.o
 rcases HO9.2 with ⟨hv,h0⟩ | ⟨g,cap,cur,hv,hb9,_⟩
 ·exact absurd (show Value.slice (some ⟨w.heap.size,0,none⟩) 0 0=Value.slice none 0 0 from (HNL.o.1 hv).1) (by simp)
 ·rw[hv] at HO9
  exact ⟨g,cap,by rw[hv];rfl,HO9,hb9,HK.o⟩
theorem zdp:Tryz.prog.underlying 23=some (.slice 2)∧Tryz.prog.info? 2=some Tryz.t2∧Tryz.t2.zero=some (int i64 0)∧Tryz.t2.size=1∧Tryz.t2.bytes=8:=⟨by kernel_rfl,by kernel_rfl,by kernel_rfl,by kernel_rfl,by kernel_rfl⟩
theorem zfq(n c:Nat)(w:World):Calls Tryz.prog 47 #[.slice none n c] w fun e w'=>e=.returned (.slice none 0 0)∧za [] w w':=by
 have q:∀ (w:World) (a:Option Addr) (n c n' c':Nat),(binOp .eql 23 (.slice a n c) (.slice none n' c')).run Tryz.prog w=.ok (.bool a.isNone) w:=fun w a n c n' c'=>Lib.run_eql_slice_nil w _ _ a n c n' c' Tryz.underlying23;go_enter Tryz.func47,Tryz.ntmps47;go_wp2;go_ret;exact ⟨rfl,za.refl _ _⟩
theorem zaP(ad:Addr)(n c:Nat)(xs:List Value)(w:World)(hl:xs.length=n * 1)(hx:∀ j u,xs[j]? = some u→w.cell? (ad.add j)=some u)(h1:∀ u∈xs,u.oneCell'=true)(hb:n≤1000000):
  Calls Tryz.prog 47 #[.slice (some ad) n c] w fun e w'=>∃ g cap,e=.returned (.slice (some ⟨g,0,none⟩) n cap)∧w'.ownsRow w.heap.size 2 1 (.slice (some ⟨g,0,none⟩) n cap) n xs∧w.heap.size≤g∧za [] w w':=by
 have q:∀ (w:World) (a:Option Addr) (n c n' c':Nat),(binOp .eql 23 (.slice a n c) (.slice none n' c')).run Tryz.prog w=.ok (.bool a.isNone) w:=fun w a n c n' c'=>Lib.run_eql_slice_nil w _ _ a n c n' c' Tryz.underlying23;obtain ⟨f1,f2,f3,f4,f5⟩:=zdp;have H:=hid hx;have HL:=hid hl;have H1:=hid h1;clear hl hx h1;go_enter Tryz.func47,Tryz.ntmps47;go_wp2_with (at_builtin;go_must (refine wpList_append_own _ rfl _ _ 23 rfl w.heap.size 2 Tryz.t2 (int i64 0) 1 8 f1 f2 f3 f4 f5 rfl (by decide) _ _ _ rfl (World.ownsRow_made w #[] 0 (Nat.le_refl _) (Nat.zero_le _) rfl) ad n c xs rfl (by rw[HL.o]) (fun j u hj=>Lib.cell?_alloc_some _ (H.o j u hj)) H1.o (by unfold maxLen;omega) (by omega) (by simp) ?_;intro v' w1 hown hgrow hnil));have HO:=hid hown;have hg2:(w.alloc (Obj.cells #[] 2)).grownBy w1 (some w.heap.size):=hgrow;have HK:=hid ((za.alloc [] w _).trans (za.grown [w.heap.size] hg2 (fun k hk=>by simp at hk;simp[hk])) (fun x hx hlt=>by simp at hx;omega):za [] w w1);have HNL:=hid hnil;clear hown hgrow hnil hg2;go_wp2_with fail;go_ret;have HO9:w1.ownsRow w.heap.size 2 1 v' n xs:=by simpa using HO.o
 rcases HO9.2 with ⟨hv,h0⟩ | ⟨g,cap,cur,hv,hb9,_⟩
 ·exact absurd (show Value.slice (some ⟨w.heap.size,0,none⟩) 0 0=Value.slice none 0 0 from (HNL.o.1 hv).1) (by simp)
 ·rw[hv] at HO9
  exact ⟨g,cap,by rw[hv];rfl,HO9,hb9,HK.o⟩
end Go.Proofs.YtgmbkiagdhjpnaaGreatDoor
