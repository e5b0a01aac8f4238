import Derived.Test.YthflgjkmbakedaaGreatDoorN11

namespace Go.Proofs.YthflgjkmbakedaaGreatDoor
open Go.RowKit
open Go.Value (int pointer agg)
open Go.IntKind (i64)
set_option maxHeartbeats 4000000
set_option maxRecDepth 20000
variable {b f mp n pp r ta tb:Nat}{w:World}
abbrev jm (m:Ma) (pp hb fg fc:Nat) (rv:Value) (oa:Option Addr) (oc:Nat):Array Value:=
 #[pointer (some ⟨pp,0,none⟩),.slice oa m.ora.length oc,pointer (some ⟨hb,0,none⟩),rv,.slice (some ⟨fg,0,none⟩) (m.bot.length+1) fc,.bool m.lc,int i64 m.lf,.bool m.sk,int i64 m.res.1,int i64 m.res.2.1,.bool m.res.2.2]
structure MaS (W0 w:World) (mp pp fg:Nat) (P:Pr8) (m:Ma) (F:List Nat) (hb fc:Nat) (rv:Value) (oa:Option Addr) (oc:Nat) (os:List Ob) (Fh:List Nat):Prop where
 box:w.heap[mp]? = some (.cells (jm m pp hb fg fc rv oa oc) 119 (0,0))
 frs:zV w (.slice (some ⟨fg,0,none⟩) (m.bot.length+1) fc) (m.bot ++ [m.top])
 rcs:w.ownsRow 0 3 1 rv m.rc.length (Z9 m.rc)
 hp:Hp w hb os Fh
 bar:os.map zbM=m.hp
 mp_in:mp∈F
 fg_in:fg∈F
 rv_in:∀ b,rv.ownBlock=some b→b∈F
 fh_in:∀ x,x∈Fh→x∈F
 off:∀ x,x∈Fh→x≠mp∧x≠fg∧rv.ownBlock≠some x
 prc:PrC W0 pp 0 P
 orc:zv W0 1 zH oa m.ora
 sub:∀ u,za F w u→Sub W0 u
 ocap:m.ora.length≤oc∧m.ora.length≤maxLen
 lt:∀ x,x∈F→x<w.heap.size
theorem qM{w':World}{F F':List Nat}{Q:World→Prop}(s:∀ u,za F w u→Q u)(k:za F w w')(n:jx w F F'):∀ u,za F' w' u→Q u:=fun u ku=>s u (k.trans ku fun x hx hl=>(n x hx).resolve_right (by omega))
theorem jx.refl(w:World)(F:List Nat):jx w F F:=fun _ hx=>.inl hx
section
variable {W0 w w':World}{mp pp fg:Nat}{P:Pr8}{m:Ma}{F:List Nat}{hb fc:Nat}{rv:Value}{oa:Option Addr}{oc:Nat}{os:List Ob}{Fh:List Nat}
theorem MaS.rv_ne(h:MaS W0 w mp pp fg P m F hb fc rv oa oc os Fh):mp≠fg∧rv.ownBlock≠some mp∧rv.ownBlock≠some fg:=by
 obtain ⟨g,cap,e,_,_⟩:=h.frs.form (by simp);have hf:=h.frs.own;rcases hf.2 with ⟨h',_⟩ | ⟨g',cap',cur,h',_,hg,_⟩
 ·simp at h'
 ·simp only[Value.slice.injEq,Option.some.injEq,Addr.mk.injEq,and_true] at h'
  obtain ⟨rfl,_,rfl⟩:=h';refine ⟨fun e=> ?_,fun e=> ?_,fun e=> ?_⟩
  ·subst e
   have:=h.box;rw[hg] at this;simp at this
  ·rcases h.rcs.2 with ⟨rfl,_⟩ | ⟨g',cap',cur',rfl,_,hg',_⟩
   ·simp[Value.ownBlock] at e
   ·simp[Value.ownBlock] at e
    subst e;have:=h.box;rw[hg'] at this;simp at this
  ·rcases h.rcs.2 with ⟨rfl,_⟩ | ⟨g',cap',cur',rfl,_,hg',_⟩
   ·simp[Value.ownBlock] at e
   ·simp[Value.ownBlock] at e
    subst e;rw[hg] at hg';simp at hg'
theorem MaS.quiet(h:MaS W0 w mp pp fg P m F hb fc rv oa oc os Fh)(k:za [] w w'):MaS W0 w' mp pp fg P m F hb fc rv oa oc os Fh:=
 ⟨ze h.box k,h.frs.quiet k,zh h.rcs k (fun _ _=>by simp),h.hp.quiet k,h.bar,h.mp_in,h.fg_in,h.rv_in,h.fh_in,h.off,h.prc,h.orc,qM h.sub (k.mono fun _ hx=>by cases hx) (jx.refl w F),h.ocap,fun x hx=>Nat.lt_of_lt_of_le (h.lt x hx) k.size⟩
theorem MaS.fr(h:MaS W0 w mp pp fg P m F hb fc rv oa oc os Fh)(k:za [fg] w w'){t:Fr}(f:zV w' (.slice (some ⟨fg,0,none⟩) (m.bot.length+1) fc) (m.bot ++ [t])):MaS W0 w' mp pp fg P { m with top:=t } F hb fc rv oa oc os Fh:=by
 have n:=h.rv_ne;have k':za F w w':=k.mono fun x hx=>by rw[List.mem_singleton.1 hx];exact h.fg_in
 exact ⟨(k.block mp (zx h.box) (by simp;exact n.1)).trans h.box,f,zh h.rcs k (fun b hb hm=>n.2.2 (by rw[hb,List.mem_singleton.1 hm])),h.hp.kept k (fun x hx hm=>(h.off x hx).2.1 (List.mem_singleton.1 hm)),h.bar,h.mp_in,h.fg_in,h.rv_in,h.fh_in,h.off,h.prc,h.orc,qM h.sub k' (jx.refl w F),h.ocap,fun x hx=>Nat.lt_of_lt_of_le (h.lt x hx) k.size⟩
theorem Zb{α:Type}(l:List α)(x y:α):(l ++ [x]).set l.length y=l ++ [y]:=by
 rw[List.set_append_right _ _ (Nat.le_refl _),Nat.sub_self];rfl
theorem qu{α:Type}(l:List α)(x:α):(l ++ [x])[l.length]? = some x:=by simp
theorem MaS.put(h:MaS W0 w mp pp fg P m F hb fc rv oa oc os Fh){r:Nat}(hr:r<16)(v:V3):
  MaS W0 ((((w.setCell ⟨fg,m.bot.length * 67+3+r * 4,none⟩ (int i64 v.1)).setCell ⟨fg,m.bot.length * 67+3+r * 4+1,none⟩ (int i64 v.2.1)).setCell ⟨fg,m.bot.length * 67+3+r * 4+2,none⟩ (.bool v.2.2)).setCell ⟨fg,m.bot.length * 67+3+r * 4+3,none⟩ (.bool true)) mp pp fg P (m.put (r:Int) v) F hb fc rv oa oc os Fh:=by
 have f:=h.frs.set (qu m.bot m.top) hr v;have e:∀ k,m.bot.length * 67+(3+r * 4+k)=m.bot.length * 67+3+r * 4+k:=fun k=>by omega
 rw[Zb,e,e,e,e,Nat.add_zero] at f;exact h.fr (((za.setCell [fg] _ _ _ (List.mem_singleton.2 rfl)).step (za.setCell [fg] _ _ _ (List.mem_singleton.2 rfl))).step (za.setCell [fg] _ _ _ (List.mem_singleton.2 rfl)) |>.step (za.setCell [fg] _ _ _ (List.mem_singleton.2 rfl))) f
theorem MaS.reg(h:MaS W0 w mp pp fg P m F hb fc rv oa oc os Fh){r:Nat}(hr:r<16):
  w.cell? ⟨fg,m.bot.length * 67+3+r * 4,none⟩=some (int i64 (m.top.get (r:Int)).1)∧w.cell? ⟨fg,m.bot.length * 67+3+r * 4+1,none⟩=some (int i64 (m.top.get (r:Int)).2.1)∧w.cell? ⟨fg,m.bot.length * 67+3+r * 4+2,none⟩=some (.bool (m.top.get (r:Int)).2.2)∧w.cell? ⟨fg,m.bot.length * 67+3+r * 4+3,none⟩=some (.bool (m.top.rs.getD r rg0).2)∧∀ i,w.frozen? ⟨fg,i,none⟩=false:=by
 have sz:=h.frs.sz _ (List.mem_append_right _ (List.mem_singleton.2 rfl));obtain ⟨y,hy⟩:∃ y,m.top.rs[r]? = some y:=⟨_,List.getElem?_eq_getElem (by omega)⟩;have e1:m.top.rs.getD r rg0=y:=by rw[List.getD_eq_getElem?_getD,hy];rfl
 have e2:m.top.get (r:Int)=y.1:=by unfold Fr.get;rw[show ((r:Int)).toNat=r by omega,e1]
 have e:∀ k,m.bot.length * 67+(3+r * 4+k)=m.bot.length * 67+3+r * 4+k:=fun k=>by omega
 have g:∀ k,k<4→∀ v,(rgC y)[k]? = some v→w.cell? ⟨fg,m.bot.length * 67+3+r * 4+k,none⟩=some v:=fun k hk v hv=>by
  rw[← e];exact h.frs.cell (qu m.bot m.top) ((zh5 hy hk).trans hv)
 rw[e1,e2];exact ⟨g 0 (by omega) _ rfl,g 1 (by omega) _ rfl,g 2 (by omega) _ rfl,g 3 (by omega) _ rfl,h.frs.thaw⟩
theorem MaS.pt(h:MaS W0 w mp pp fg P m F hb fc rv oa oc os Fh):w.cell? ⟨fg,m.bot.length * 67,none⟩=some (int i64 (m.top.f:Int))∧w.cell? ⟨fg,m.bot.length * 67+1,none⟩=some (int i64 (m.top.b:Int))∧w.cell? ⟨fg,m.bot.length * 67+2,none⟩=some (int i64 (m.top.i:Int)):=
 ⟨by have a:=h.frs.cell (j:=m.bot.length) (i:=0) (qu m.bot m.top) (v:=int i64 (m.top.f:Int)) rfl;rw[Nat.add_zero] at a;exact a,h.frs.cell (j:=m.bot.length) (i:=1) (qu m.bot m.top) rfl,h.frs.cell (j:=m.bot.length) (i:=2) (qu m.bot m.top) rfl⟩
theorem zka(x:Fr):(frC x)[0]? = some (int i64 x.f)∧(frC x)[1]? = some (int i64 x.b)∧(frC x)[2]? = some (int i64 x.i):=⟨rfl,rfl,rfl⟩
theorem MaS.next(h:MaS W0 w mp pp fg P m F hb fc rv oa oc os Fh):MaS W0 (w.setCell ⟨fg,m.bot.length * 67+2,none⟩ (int i64 ((m.top.i+1:Nat):Int))) mp pp fg P { m with top:=m.top.next } F hb fc rv oa oc os Fh:=by
 have sz:=h.frs.sz _ (List.mem_append_right _ (List.mem_singleton.2 rfl));have f:=h.frs.put (y:=m.top.next) (i:=2) (v:=int i64 ((m.top.i+1:Nat):Int)) (qu m.bot m.top) (by omega) sz rfl;rw[Zb] at f;exact h.fr (zV.keeps _ _ _ _ _) f
theorem MaS.go(h:MaS W0 w mp pp fg P m F hb fc rv oa oc os Fh)(b:Nat):MaS W0 (((w.setCell ⟨fg,m.bot.length * 67+0,none⟩ (int i64 (m.top.f:Int))).setCell ⟨fg,m.bot.length * 67+1,none⟩ (int i64 (b:Int))).setCell ⟨fg,m.bot.length * 67+2,none⟩ (int i64 0)) mp pp fg P { m with top:=m.top.go b } F hb fc rv oa oc os Fh:=by
 have sz:=h.frs.sz _ (List.mem_append_right _ (List.mem_singleton.2 rfl));have f0:=h.frs.put (y:=m.top) (i:=0) (v:=int i64 (m.top.f:Int)) (qu m.bot m.top) (by omega) sz rfl;rw[Zb] at f0;have f1:=f0.put (y:={ m.top with b:=b }) (i:=1) (v:=int i64 (b:Int)) (qu m.bot m.top) (by omega) sz rfl;rw[Zb] at f1;have f2:=f1.put (y:=m.top.go b) (i:=2) (v:=int i64 0) (qu m.bot _) (by omega) sz rfl;rw[Zb] at f2;exact h.fr (((zV.keeps _ _ _ _ _).step (zV.keeps _ _ _ _ _)).step (zV.keeps _ _ _ _ _)) f2
theorem MaS.bx(h:MaS W0 w mp pp fg P m F hb fc rv oa oc os Fh)(k:za [mp] w w'){m':Ma}{oa':Option Addr}{oc':Nat}(hbx:w'.heap[mp]? = some (.cells (jm m' pp hb fg fc rv oa' oc') 119 (0,0)))(e1:m'.bot=m.bot)(e2:m'.top=m.top)(e3:m'.hp=m.hp)(e4:m'.rc=m.rc)(s:zv W0 1 zH oa m.ora→zv W0 1 zH oa' m'.ora)(oc9:m'.ora.length≤oc'∧m'.ora.length≤maxLen):MaS W0 w' mp pp fg P m' F hb fc rv oa' oc' os Fh:=by
 have n:=h.rv_ne;have k':za F w w':=k.mono fun x hx=>by rw[List.mem_singleton.1 hx];exact h.mp_in
 refine ⟨hbx,?_,?_,h.hp.kept k (fun x hx hm=>(h.off x hx).1 (List.mem_singleton.1 hm)),by rw[e3];exact h.bar,h.mp_in,h.fg_in,h.rv_in,h.fh_in,h.off,h.prc,s h.orc,qM h.sub k' (jx.refl w F),oc9,fun x hx=>Nat.lt_of_lt_of_le (h.lt x hx) k.size⟩
 ·rw[e1,e2]
  exact h.frs.kept k (fun b hb hm=>by
   simp[Value.ownBlock] at hb;rw[List.mem_singleton] at hm
   exact n.1 (hm ▸ hb.symm))
 ·rw[e4]
  exact zh h.rcs k (fun b hb hm=>n.2.1 (by rw[hb,List.mem_singleton.1 hm]))
theorem zv.tail{α:Type}{w:World}{R:World→Nat→Nat→α→Prop}{b off:Nat}{l:List α}(h:zv w 1 R (some ⟨b,off,none⟩) l):zv w 1 R (some ⟨b,off+1,none⟩) l.tail:=by
 rcases h with h | ⟨b',off',h1,h2⟩
 ·exact .inl (by rw[h];rfl)
 ·cases h1
  refine .inr ⟨b,off+1,rfl,fun j y hy=> ?_⟩;have:=h2 (j+1) y (by cases l with | nil=>simp at hy | cons q l=>exact hy);rw[show off+1+j * 1=off+(j+1) * 1 by omega];exact this
theorem MaS.took(h:MaS W0 w mp pp fg P m F hb fc rv oa oc os Fh){n:Nat}(hn:m.ora.length=n+1){a':Option Addr}{c':Nat}(r:zv W0 1 zH a' m.ora.tail)(hc:n≤c')(k:za [mp] w w')(hbx:w'.heap[mp]? = some (.cells ((jm m pp hb fg fc rv oa oc).setIfInBounds 1 (.slice a' n c')) 119 (0,0))):MaS W0 w' mp pp fg P { m with ora:=m.ora.tail } F hb fc rv a' c' os Fh:=by
 have e:m.ora.tail.length=n:=by rw[List.length_tail,hn];rfl
 have hl:=h.ocap;have f:∀ k,m.ora.tail.length=k→jm { m with ora:=m.ora.tail } pp hb fg fc rv a' c'=(jm m pp hb fg fc rv oa oc).setIfInBounds 1 (.slice a' k c'):=fun k e=>by
  subst e;rfl
 refine h.bx k ?_ rfl rfl rfl rfl (fun _=>r) ⟨by show m.ora.tail.length≤c';omega,by show m.ora.tail.length≤maxLen;omega⟩;rw[f n e];exact hbx
theorem MaS.heap(h:MaS W0 w mp pp fg P m F hb fc rv oa oc os Fh){os':List Ob}{Fh':List Nat}(k:za Fh w w')(n:jx w Fh Fh')(hh:Hp w' hb os' Fh'):MaS W0 w' mp pp fg P { m with hp:=os'.map zbM } (F ++ Fh') hb fc rv oa oc os' Fh':=by
 have k':za F w w':=k.mono h.fh_in;have ne:∀ b,b∈F→(b∈Fh→False)→b ∉ Fh':=fun b hb hn hm=>by
  rcases n b hm with h1 | h1
  ·exact hn h1
  ·have:=h.lt b hb
   omega
 refine ⟨(k.block mp (zx h.box) (fun hm=>(h.off mp hm).1 rfl)).trans h.box,h.frs.kept k (fun b hb hm=> ?_),zh h.rcs k (fun b hb hm=>(h.off b hm).2.2 hb),hh,rfl,List.mem_append_left _ h.mp_in,List.mem_append_left _ h.fg_in,fun b hb=>List.mem_append_left _ (h.rv_in b hb),fun x hx=>List.mem_append_right _ hx,fun x hx=>⟨fun e=> ?_,fun e=> ?_,fun e=> ?_⟩,h.prc,h.orc,qM h.sub k' (fun x hx=> ?_),h.ocap,fun x hx=> ?_⟩
 ·simp[Value.ownBlock] at hb
  exact (h.off b hm).2.1 hb.symm
 ·exact ne mp h.mp_in (fun hm=>(h.off mp hm).1 rfl) (e ▸ hx)
 ·exact ne fg h.fg_in (fun hm=>(h.off fg hm).2.1 rfl) (e ▸ hx)
 ·exact ne x (h.rv_in x e) (fun hm=>(h.off x hm).2.2 e) hx
 ·rcases List.mem_append.1 hx with hx | hx
  ·exact .inl hx
  ·exact (n x hx).imp (h.fh_in x) id
 ·rcases List.mem_append.1 hx with hx | hx
  ·exact Nat.lt_of_lt_of_le (h.lt x hx) k.size
  ·exact hh.lt x hx
theorem qZ{w:World}{base n c b:Nat}{v:Value}{xs:List Value}{T U:TypeId}{cs:Array Value}(h:w.ownsRow base T c v n xs)(hb:w.heap[b]? = some (.cells cs U (0,0)))(hne:T≠U):v.ownBlock≠some b:=by
 intro e;rcases h.2 with ⟨rfl,_⟩ | ⟨g,cap,cur,rfl,_,hg,_⟩
 ·simp[Value.ownBlock] at e
 ·simp[Value.ownBlock] at e
  subst e;rw[hg] at hb;simp at hb;exact hne hb.2
theorem MaS.recs(h:MaS W0 w mp pp fg P m F hb fc rv oa oc os Fh){wa w5:World}(ka:za [] w wa){z:Int}{rv':Value}(own:w5.ownsRow 0 3 1 rv' (m.rc.length+1) (Z9 m.rc ++ [int i64 z]))(hg:wa.grownBy w5 rv.ownBlock)(hl:∀ k,rv'.ownBlock=some k→rv.ownBlock=some k∨wa.heap.size≤k):
  MaS W0 (w5.setCell ⟨mp,3,none⟩ rv') mp pp fg P { m with rc:=m.rc ++ [z] } (F ++ rv'.ownBlock.toList) hb fc rv' oa oc os Fh∧za F w (w5.setCell ⟨mp,3,none⟩ rv')∧jx w F (F ++ rv'.ownBlock.toList):=by
 have n:=h.rv_ne;have kg:za rv.ownBlock.toList wa w5:=za.grown _ hg (fun k hk=>by rw[hk];simp);have hbx:w5.heap[mp]? = some (.cells (jm m pp hb fg fc rv oa oc) 119 (0,0)):=by
  have:=ze h.box ka;rw[kg.block mp (zx this) (by simpa using n.2.1)];exact this
 have k5:za [mp] w5 (w5.setCell ⟨mp,3,none⟩ rv'):=za.setCell _ _ _ _ (List.mem_singleton.2 rfl);have kL:za (mp :: rv.ownBlock.toList) w (w5.setCell ⟨mp,3,none⟩ rv'):=((ka.mono (fun _ hx=>by cases hx)).step (kg.mono fun x hx=>List.mem_cons_of_mem _ hx)).step (k5.mono fun x hx=>by rw[List.mem_singleton.1 hx];exact List.mem_cons_self);have kF:za F w (w5.setCell ⟨mp,3,none⟩ rv'):=kL.mono fun x hx=>by
  rcases List.mem_cons.1 hx with rfl | hx
  ·exact h.mp_in
  ·exact h.rv_in x (by simpa using hx)
 have near:jx w F (F ++ rv'.ownBlock.toList):=fun x hx=>by
  rcases List.mem_append.1 hx with hx | hx
  ·exact .inl hx
  ·rcases hl x (by simpa using hx) with e | e
   ·exact .inl (h.rv_in x e)
   ·exact .inr (Nat.le_trans ka.size e)
 refine ⟨⟨heap_setCell_same w5 mp 3 _ _ rv' hbx,h.frs.kept kL (fun b hb hm=> ?_),?_,h.hp.kept kL (fun x hx hm=> ?_),h.bar,List.mem_append_left _ h.mp_in,List.mem_append_left _ h.fg_in,fun b hb=>by simp[hb],fun x hx=>List.mem_append_left _ (h.fh_in x hx),fun x hx=>⟨(h.off x hx).1,(h.off x hx).2.1,fun e=> ?_⟩,h.prc,h.orc,qM h.sub kF near,h.ocap,fun x hx=> ?_⟩,kF,near⟩
 ·simp[Value.ownBlock] at hb
  subst hb;rcases List.mem_cons.1 hm with e | hm
  ·exact n.1 e.symm
  ·exact n.2.2 (by simpa using hm)
 ·show (w5.setCell ⟨mp,3,none⟩ rv').ownsRow 0 3 1 rv' (m.rc ++ [z]).length (Z9 (m.rc ++ [z]))
  rw[List.length_append];unfold Z9 at own ⊢;rw[List.map_append];exact zh own k5 (fun b hb hm=>qZ own hbx (by decide) (by rw[hb,List.mem_singleton.1 hm]))
 ·rcases List.mem_cons.1 hm with e | hm
  ·exact (h.off x hx).1 e
  ·exact (h.off x hx).2.2 (by simpa using hm)
 ·rcases hl x e with e' | e'
  ·exact (h.off x hx).2.2 e'
  ·have:=h.lt x (h.fh_in x hx)
   have:=ka.size;omega
 ·rcases List.mem_append.1 hx with hx | hx
  ·exact Nat.lt_of_lt_of_le (h.lt x hx) kL.size
  ·exact Nat.lt_of_lt_of_le (own.lt x (by simpa using hx)).2 k5.size
end
theorem zgU{fg fc:Nat}(h:w.cell? ⟨mp,4,none⟩=some (.slice (some ⟨fg,0,none⟩) (n+1) fc))(hn:n≤1000):Calls Tryz.prog 58 #[pointer (some ⟨mp,0,none⟩)] w fun e w'=>e=.returned (pointer (some ⟨fg,n * 67,none⟩))∧za [] w w':=by
 go_enter Tryz.func58,Tryz.ntmps58;go_upto_region 1 with fail;go_quiet (fail);go_wp2_with fail;go_ret;exact ⟨rfl,za.drewN [] _ _⟩
theorem zbU{fb fo fcp bb bo bcp N M:Nat}(h0:w.cell? ⟨mp,0,none⟩=some (pointer (some ⟨pp,0,none⟩)))(h4:w.cell? ⟨pp,4,none⟩=some (.slice (some ⟨fb,fo,none⟩) N fcp))(hf:f<N)(h2:w.cell? ⟨fb,fo+f * 3+2,none⟩=some (.slice (some ⟨bb,bo,none⟩) M bcp))(hb:b<M)(t0:w.cell? ⟨tb,ta,none⟩=some (int i64 (f:Int)))(t1:w.cell? ⟨tb,ta+1,none⟩=some (int i64 (b:Int))):
  Calls Tryz.prog 94 #[pointer (some ⟨mp,0,none⟩),pointer (some ⟨tb,ta,none⟩)] w fun e w'=>e=.returned (pointer (some ⟨bb,bo+b * 5,none⟩))∧za [] w w':=by
 have g3:(f:Int)<(N:Int):=by omega
 have g4:(b:Int)<(M:Int):=by omega
 go_enter Tryz.func94,Tryz.ntmps94;go_upto_region 1 with fail;go_quiet (fail);go_wp2_with fail;go_ret;exact ⟨rfl,za.drewN [] _ _⟩
theorem zeV{v:V3}(hr:r<16)(c0:w.cell? ⟨tb,ta+3+r * 4,none⟩=some (int i64 v.1))(c1:w.cell? ⟨tb,ta+3+r * 4+1,none⟩=some (int i64 v.2.1))(c2:w.cell? ⟨tb,ta+3+r * 4+2,none⟩=some (.bool v.2.2)):
  Calls Tryz.prog 142 #[pointer (some ⟨tb,ta,none⟩),int i64 (r:Int)] w fun e w'=>e=.returned (vlV v)∧za [] w w':=by
 have g3:(r:Int)<16:=by omega
 have ka:=za.alloc [] w (.cells #[int i64 0,int i64 0,.bool false] 30);have d0:=zb ka c0;have d1:=zb ka c1;have d2:=zb ka c2;clear c0 c1 c2 ka;go_enter Tryz.func142,Tryz.ntmps142;go_wp2_with fail;exact bodyPost_ret (v:=vlV v) (by simp[results,Tryz.results142,go_sem]) rfl ⟨rfl,za.alloc [] _ _⟩
theorem zfL(v:V3)(hr:r<16){u0 u1 u2 u3:Value}(c0:w.cell? ⟨tb,ta+3+r * 4,none⟩=some u0)(c1:w.cell? ⟨tb,ta+3+r * 4+1,none⟩=some u1)(c2:w.cell? ⟨tb,ta+3+r * 4+2,none⟩=some u2)(c3:w.cell? ⟨tb,ta+3+r * 4+3,none⟩=some u3)(hz:∀ i,w.frozen? ⟨tb,i,none⟩=false):
  Calls Tryz.prog 145 #[pointer (some ⟨tb,ta,none⟩),int i64 (r:Int),vlV v] w fun e w'=>e=.returned (.tuple #[])∧∃ w1,za [] w w1∧za [] ((((w1.setCell ⟨tb,ta+3+r * 4,none⟩ (int i64 v.1)).setCell ⟨tb,ta+3+r * 4+1,none⟩ (int i64 v.2.1)).setCell ⟨tb,ta+3+r * 4+2,none⟩ (.bool v.2.2)).setCell ⟨tb,ta+3+r * 4+3,none⟩ (.bool true)) w':=by
 have g3:(r:Int)<16:=by omega
 have hn:=zd w (.cells #[int i64 v.1,int i64 v.2.1,.bool v.2.2] 30);have ka:=za.alloc [] w (.cells #[int i64 v.1,int i64 v.2.1,.bool v.2.2] 30);have KA:=hid ka;have d0:=zb ka c0;have d1:=zb ka c1;have d2:=zb ka c2;have d3:=zb ka c3;have hlt:tb<w.heap.size:=block_lt_of_cell c0;have hz':∀ i,(w.alloc (.cells #[int i64 v.1,int i64 v.2.1,.bool v.2.2] 30)).frozen? ⟨tb,i,none⟩=false:=fun i=>by
  have:=hz i;unfold World.frozen? at this ⊢;rw[show (w.alloc (Obj.cells #[Value.int .i64 v.1,Value.int .i64 v.2.1,Value.bool v.2.2] 30)).heap[tb]? = w.heap[tb]? from ka.block tb hlt (by simp)];exact this
 have z0:=hz' (ta+3+r * 4);have z1:=hz' (ta+3+r * 4+1);have z2:=hz' (ta+3+r * 4+2);have z3:=hz' (ta+3+r * 4+3);have e0:=zc hn 0;have e1:=zc hn 1;have e2:=zc hn 2;clear c0 c1 c2 c3 ka hz hz' hlt hn;go_enter Tryz.func145,Tryz.ntmps145;go_upto_region 1 with fail;generalize w.alloc (.cells #[int i64 v.1,int i64 v.2.1,.bool v.2.2] 30)=w1 at *
 go_region
 go_wp2_with fail
 go_end0
 exact ⟨rfl,_,KA.o,za.drew [] _⟩
theorem Zu(v:V3)(w:World):Calls Tryz.prog 151 #[vlV v] w fun e w'=>e=.returned (int i64 (Zj v))∧za [] w w':=by
 obtain ⟨k,n,t⟩:=v;by_cases h:k=2
 ·subst h
  go_enter Tryz.func151,Tryz.ntmps151;go_wp2;go_ret;exact ⟨rfl,za.alloc [] _ _⟩
 ·have e:Zj (k,n,t)=0:=if_neg h
  have h':(k != 2)=true:=by simpa using h
  rw[e];clear e;go_enter Tryz.func151,Tryz.ntmps151;go_wp2;go_ret;exact ⟨rfl,za.alloc [] _ _⟩
section
variable {W0 w:World}{mp pp fg:Nat}{P:Pr8}{m:Ma}{F:List Nat}{hb fc:Nat}{rv:Value}{oa:Option Addr}{oc:Nat}{os:List Ob}{Fh:List Nat}
theorem qh(h:MaS W0 w mp pp fg P m F hb fc rv oa oc os Fh){r:Int}(h0:0≤r)(hr:r<16):Calls Tryz.prog 142 #[pointer (some ⟨fg,m.bot.length * 67,none⟩),int i64 r] w fun e w'=>e=.returned (vlV (m.top.get r))∧za [] w w':=by
 obtain ⟨k,rfl⟩:∃ k:Nat,r=(k:Int):=⟨r.toNat,by omega⟩;obtain ⟨c0,c1,c2,_⟩:=h.reg (r:=k) (by omega);exact zeV (by omega) c0 c1 c2
theorem qf(h:MaS W0 w mp pp fg P m F hb fc rv oa oc os Fh)(v:V3){r:Int}(h0:0≤r)(hr:r<16):Calls Tryz.prog 145 #[pointer (some ⟨fg,m.bot.length * 67,none⟩),int i64 r,vlV v] w fun e w'=>e=.returned (.tuple #[])∧MaS W0 w' mp pp fg P (m.put r v) F hb fc rv oa oc os Fh∧za [fg] w w':=by
 obtain ⟨k,rfl⟩:∃ k:Nat,r=(k:Int):=⟨r.toNat,by omega⟩;obtain ⟨c0,c1,c2,c3,z⟩:=h.reg (r:=k) (by omega);refine (zfL v (by omega) c0 c1 c2 c3 z).mono ?_;rintro e w' ⟨rfl,w1,k1,k2⟩;exact ⟨rfl,((h.quiet k1).put (by omega) v).quiet k2,((k1.mono fun _ hx=>by cases hx).step (((za.setCell [fg] _ _ _ (List.mem_singleton.2 rfl)).step (za.setCell [fg] _ _ _ (List.mem_singleton.2 rfl))).step (za.setCell [fg] _ _ _ (List.mem_singleton.2 rfl)) |>.step (za.setCell [fg] _ _ _ (List.mem_singleton.2 rfl)))).quiet k2⟩
theorem ze1(h:MaS W0 w mp pp fg P m F hb fc rv oa oc os Fh)(hn:m.bot.length≤100):Calls Tryz.prog 58 #[pointer (some ⟨mp,0,none⟩)] w fun e w'=>e=.returned (pointer (some ⟨fg,m.bot.length * 67,none⟩))∧za [] w w':=zgU (zc h.box 4) (by omega)
theorem MaS.now(h:MaS W0 w mp pp fg P m F hb fc rv oa oc os Fh):Sub W0 w:=h.sub w (za.refl _ _)
theorem zgg{P:Pr8}{f:Nat}(hf:f<P.funcs.length):P.funcs[f]? = some (zf P f):=by
 unfold zf;rw[List.getD_eq_getElem?_getD,List.getElem?_eq_getElem hf];rfl
theorem ziL{x:Fu8}{b:Nat}(hb:b<x.blocks.length):x.blocks[b]? = some (zq x b):=by
 unfold zq;rw[List.getD_eq_getElem?_getD,List.getElem?_eq_getElem hb];rfl
theorem zhX{x:Bl8}{i:Nat}(hi:i<x.code.length):x.code[i]? = some (qm x i):=by
 unfold qm;rw[List.getD_eq_getElem?_getD,List.getElem?_eq_getElem hi];rfl
theorem zfA(h:MaS W0 w mp pp fg P m F hb fc rv oa oc os Fh)(hp:ZB P m.top.f m.top.b m.top.i):∃ bb bo,BlC W0 bb bo (m.top.blk P)∧∀ w',za [] w w'→Calls Tryz.prog 94 #[pointer (some ⟨mp,0,none⟩),pointer (some ⟨fg,m.bot.length * 67,none⟩)] w' fun e w2=>e=.returned (pointer (some ⟨bb,bo,none⟩))∧za [] w' w2:=by
 obtain ⟨fa,fcp,c4,r4,_⟩:=h.prc.c4;obtain ⟨fb,fo,rfl,y⟩:=r4.at (zgg hp.1);obtain ⟨ba,bcp,c2,r2,_⟩:=y.c2;obtain ⟨bb,bo,rfl,z⟩:=r2.at (ziL hp.2.1);refine ⟨bb,bo+m.top.b * 5,z,fun w' k=> ?_⟩;have h':=h.quiet k;exact zbU (bb:=bb) (bo:=bo) (zc h'.box 0) (h'.now _ _ c4) hp.1 (h'.now _ _ c2) hp.2.1 h'.pt.1 h'.pt.2.1
theorem zhp{w:World}{mp pp tb ta fb fo fcp rb ro rcp N M f r:Nat}{t:Int × Int}(h0:w.cell? ⟨mp,0,none⟩=some (pointer (some ⟨pp,0,none⟩)))(h4:w.cell? ⟨pp,4,none⟩=some (.slice (some ⟨fb,fo,none⟩) N fcp))(hf:f<N)(h1:w.cell? ⟨fb,fo+f * 3+1,none⟩=some (.slice (some ⟨rb,ro,none⟩) M rcp))(hr:r<M)(t0:w.cell? ⟨tb,ta,none⟩=some (int i64 (f:Int)))(c0:w.cell? ⟨rb,ro+r * 2,none⟩=some (int i64 t.1))(c1:w.cell? ⟨rb,ro+r * 2+1,none⟩=some (int i64 t.2)):
  Calls Tryz.prog 221 #[pointer (some ⟨mp,0,none⟩),pointer (some ⟨tb,ta,none⟩),int i64 (r:Int)] w fun e w'=>e=.returned (tyV t)∧za [] w w':=by
 have g3:(f:Int)<(N:Int):=by omega
 have g4:(r:Int)<(M:Int):=by omega
 have ka:=za.alloc [] w (.cells #[int i64 0,int i64 0] 52);have KA:=hid ka;have hn:=zd w (.cells #[int i64 0,int i64 0] 52);have HN:=hid hn;have d0:=zb ka h0;have d1:=zb ka h4;have d2:=zb ka h1;have d3:=zb ka t0;have d4:=zb ka c0;have d5:=zb ka c1;have e0:=zc hn 0;have e1:=zc hn 1;have z0:=zg hn 0;have z1:=zg hn 1;clear h0 h4 h1 t0 c0 c1 hf hr ka hn;go_enter Tryz.func221,Tryz.ntmps221;go_upto_region 1 with fail;generalize w.alloc (.cells #[int i64 0,int i64 0] 52)=w1 at *
 go_region
 go_wp2_with fail;have HS:=zjB HN.o (int i64 t.1) (int i64 t.2);have K3:=hid (KA.o.trans (Jo w1 w.heap.size (int i64 t.1) (int i64 t.2)) (fun x hx hl=>by rw[List.mem_singleton.1 hx] at hl;omega));generalize (w1.setCell ⟨w.heap.size,0,none⟩ (int i64 t.1)).setCell ⟨w.heap.size,1,none⟩ (int i64 t.2)=w2 at *;have r0:=zc HS 0;have r1:=zc HS 1;exact bodyPost_ret (v:=tyV t) (by simp[results,Tryz.results221,go_sem,r0,r1]) rfl ⟨rfl,K3.o.quiet (za.drew [] _)⟩
theorem zik{x:Fu8}{r:Nat}(hr:r<x.regs.length):x.regs[r]? = some (x.regs.getD r (0,0)):=by
 rw[List.getD_eq_getElem?_getD,List.getElem?_eq_getElem hr];rfl
theorem za1(h:MaS W0 w mp pp fg P m F hb fc rv oa oc os Fh)(hf:m.top.f<P.funcs.length){r:Int}(h0:0≤r)(hr:r<((zf P m.top.f).regs.length:Int)):Calls Tryz.prog 221 #[pointer (some ⟨mp,0,none⟩),pointer (some ⟨fg,m.bot.length * 67,none⟩),int i64 r] w fun e w'=>e=.returned (tyV (Qr P m.top r))∧za [] w w':=by
 obtain ⟨k,rfl⟩:∃ k:Nat,r=(k:Int):=⟨r.toNat,by omega⟩;have s:=h.now;obtain ⟨fa,fcp,c4,r4,_⟩:=h.prc.c4;obtain ⟨fb,fo,rfl,y⟩:=r4.at (zgg hf);obtain ⟨ra,rcp,c1,r1,_⟩:=y.c1;have hk:k<(zf P m.top.f).regs.length:=by omega
 obtain ⟨rb,ro,rfl,z⟩:=r1.at (zik hk);have e:Qr P m.top (k:Int)=(zf P m.top.f).regs.getD k (0,0):=by unfold Qr;rw[show ((k:Int)).toNat=k by omega]
 rw[e];exact zhp (zc h.box 0) (s _ _ c4) hf (s _ _ c1) hk h.pt.1 (s _ _ z.c0.1) (s _ _ z.c1.1)
end
def zhn(P:Pr8)(rec iface n:Int):Option Int:=(zgZ P rec iface).map fun q=>q.2.2.getD n.toNat 0
abbrev zjY (o:Option Int):Value:=.tuple #[int i64 (o.getD 0),.bool o.isSome]
theorem jO{α:Type}{l:List α}{k:Nat}(d:α)(h:k<l.length):l[k]? = some (l.getD k d):=by
 rw[List.getD_eq_getElem?_getD,List.getElem?_eq_getElem h];rfl
theorem JM{W0:World}{P:Pr8}(hm:w.cell? ⟨mp,0,none⟩=some (pointer (some ⟨pp,0,none⟩)))(hp:PrC W0 pp 0 P)(hs:Sub W0 w)(rec iface n:Int)(hq:∀ q,zgZ P rec iface=some q→0≤n∧n<(q.2.2.length:Int)):
  Calls Tryz.prog 220 #[pointer (some ⟨mp,0,none⟩),int i64 rec,int i64 iface,int i64 n] w fun e w'=>e=.returned (zjY (zhn P rec iface n))∧za [] w w':=by
 obtain ⟨a,cp,c3,hr,_,hl⟩:=hp.c3;replace c3:=hs _ _ c3;have HR:=hid hr;have HS:=hid hs;have HQ:=hid hq;obtain ⟨N,hn⟩:∃ N,N=P.ims.length:=⟨_,rfl⟩;rw[← hn] at c3 hl;have HL:=hid hn;have hn1:(N:Int)≤9223372036854775807:=by unfold maxLen at hl;omega
 clear hp hr hn hl hs hq;go_enter Tryz.func220,Tryz.ntmps220;go_wp2_with fail
 go_loopw [20] (fun kv wr=>∃ k:Nat,k≤N∧kv=int i64 (k:Int)∧wr=w∧Box (∀ j y,j<k→P.ims[j]? = some y→(y.1 == rec && y.2.1 == iface)=false)) (fun kv _=>N - (intOf kv).toNat)
 case atStart=>exact ⟨0,by omega,rfl,rfl,hid fun j y hj=>by omega⟩
 case round=>
  obtain ⟨k,hk,rfl,hwr,HB⟩:=hrel;subst hwr;by_cases hlt:k<N
  ·have hlt':(k:Int)<(N:Int):=by omega
   have HY:=hid (jO (l:=P.ims) (k:=k) (0,0,[]) (by rw[← HL.o];exact hlt));obtain ⟨b,off,rfl,hc⟩:=HR.o.at HY.o;have d0:=HS.o _ _ hc.c0.1;have d1:=HS.o _ _ hc.c1.1;obtain ⟨fa,fcp,d2,fr,_⟩:=hc.c2;replace d2:=HS.o _ _ d2;have FR:=hid fr;have NEXT:Box (∀ y,P.ims[k]? = some y→(y.1 == rec && y.2.1 == iface)=false→∀ j z,j<k+1→P.ims[j]? = some z→(z.1 == rec && z.2.1 == iface)=false):=hid fun y hy hg j z hj hz=>by
    by_cases e:j<k
    ·exact HB.o j z e hz
    ·obtain rfl:j=k:=by omega
     rw[hy] at hz;cases hz;exact hg
   have FND:Box (∀ y,P.ims[k]? = some y→(y.1 == rec && y.2.1 == iface)=true→zgZ P rec iface=some y):=hid fun y hy hg=>by
    unfold zgZ;have hk:k<P.ims.length:=(List.getElem?_eq_some_iff.1 hy).1
    rw[← List.take_append_drop k P.ims,List.find?_append,List.drop_eq_getElem_cons hk,List.find?_eq_none.2 (fun z hz=>by
     obtain ⟨j,hj,e⟩:=List.getElem_of_mem hz;have hj':j<k:=by rw[List.length_take] at hj;omega
     rw[List.getElem_take] at e;rw[HB.o j z hj' (by rw[List.getElem?_eq_getElem (by omega),e])]
     simp)]
    have e:P.ims[k]=y:=(List.getElem?_eq_some_iff.1 hy).2;rw[Option.none_or,List.find?_cons,e,hg]
   clear hc HB fr;generalize P.ims.getD k (0,0,[])=y at *;by_cases e1:y.1=rec
   ·have q1:(y.1 == rec)=true:=eqb e1
    by_cases e2:y.2.1=iface
    ·have q2:(y.2.1 == iface)=true:=eqb e2
     have hf:=FND.o y HY.o (by rw[q1,q2];rfl);obtain ⟨h0,h1⟩:=HQ.o y hf;obtain ⟨j,rfl⟩:∃ j:Nat,n=(j:Int):=⟨n.toNat,by omega⟩;have hj:j<y.2.2.length:=by omega
     obtain ⟨gb,go,rfl,hg⟩:=FR.o.at (jO 0 hj);have d3:=HS.o _ _ hg.1;have e3:Box (zhn P rec iface (j:Int)=some (y.2.2.getD j 0)):=hid (by unfold zhn;rw[hf,show ((j:Int)).toNat=j by omega];rfl);rw[Nat.mul_one] at d3;generalize y.2.2.length=M at *;have hj':(j:Int)<(M:Int):=by omega
     clear e1 e2 NEXT FND hf h0 h1 hg HQ;go_wp2_with fail
     go_ret2
     exact ⟨by rw[e3.o];rfl,za.refl _ _⟩
    ·have q2:(y.2.1 == iface)=false:=neb e2
     have HN:=hid (NEXT.o y HY.o (by rw[q1,q2];rfl));clear e1 e2 NEXT FND;go_wp2_with fail;go_roundw
     case rel=>exact ⟨k+1,by omega,by go_num,trivial,HN⟩
     case measure=>simp[intOf];omega
   ·have q1:(y.1 == rec)=false:=neb e1
    have HN:=hid (NEXT.o y HY.o (by rw[q1];rfl));clear e1 NEXT FND;go_wp2_with fail;go_roundw
    case rel=>exact ⟨k+1,by omega,by go_num,trivial,HN⟩
    case measure=>simp[intOf];omega
  ·obtain rfl:N=k:=by omega
   have e:Box (zhn P rec iface n=none):=hid (by
    unfold zhn zgZ
    rw[List.find?_eq_none.2 fun z hz=>by
     obtain ⟨j,hj,e⟩:=List.getElem_of_mem hz;rw[HB.o j z (by rw[HL.o];exact hj) (by rw[List.getElem?_eq_getElem hj,e])]
     simp]
    rfl)
   go_wp2_with fail
   go_ret2
   exact ⟨by rw[e.o];rfl,za.refl _ _⟩
def zjr(P:Pr8)(m:Ma)(x:In8):Prop:=x.op=12∨(0≤x.a∧x.a<16∧((m.top.get x.a).1=2→1≤(m.top.get x.a).2.1∧(m.top.get x.a).2.1≤(m.rc.length:Int)∧m.top.f<P.funcs.length∧x.a<((zf P m.top.f).regs.length:Int)∧∀ q,zgZ P (m.rc.getD ((m.top.get x.a).2.1 - 1).toNat 0) (Qr P m.top x.a).2=some q→0≤x.n∧x.n<(q.2.2.length:Int)))
section
variable {W0 w:World}{mp pp fg:Nat}{P:Pr8}{m:Ma}{F:List Nat}{hb fc:Nat}{rv:Value}{oa:Option Addr}{oc:Nat}{os:List Ob}{Fh:List Nat}
theorem MaS.rcAt(h:MaS W0 w mp pp fg P m F hb fc rv oa oc os Fh){j:Nat}(hj:j<m.rc.length):∃ g cap,rv=.slice (some ⟨g,0,none⟩) m.rc.length cap∧w.cell? ⟨g,j,none⟩=some (int i64 (m.rc.getD j 0)):=by
 rcases h.rcs.2 with ⟨_,h0⟩ | ⟨g,cap,cur,hv,_,hg,hn,_⟩
 ·omega
 ·have own:=h.rcs
  rw[hv] at own;refine ⟨g,cap,hv,(own.cellAt _ (by omega)).trans ?_⟩;unfold Z9;rw[List.getElem?_map,jO 0 hj];rfl
theorem zhT(h:MaS W0 w mp pp fg P m F hb fc rv oa oc os Fh)(x:In8)(ax:Value)(ok:zjr P m x):
  Calls Tryz.prog 143 #[pointer (some ⟨mp,0,none⟩),pointer (some ⟨fg,m.bot.length * 67,none⟩),zt x ax] w fun e w'=>e=.returned (zjY (callee P m x))∧za [] w w':=by
 have ka:=za.alloc [] w (.cells #[int i64 x.op,int i64 x.dst,int i64 x.a,int i64 x.b,int i64 x.n,ax] 54);have hn:=zd w (.cells #[int i64 x.op,int i64 x.dst,int i64 x.a,int i64 x.b,int i64 x.n,ax] 54);by_cases h12:x.op=12
 ·have q1:(x.op == 12)=true:=eqb h12
  have e:Box (callee P m x=some x.n):=hid (if_pos h12);have KA:=hid ka;clear h ok ka hn h12;unfold zt;go_enter Tryz.func143,Tryz.ntmps143;go_wp2_with fail
  go_ret2
  exact ⟨by rw[e.o];rfl,KA.o⟩
 ·have q1:(x.op == 12)=false:=neb h12
  obtain ⟨a0,a1,ok⟩:=ok.resolve_left h12;have HG:=hid (qh (h.quiet ka) a0 a1);have KA:=hid ka;have HH:=hid (h.quiet ka);have HN:=hid hn;by_cases e3:(m.top.get x.a).1=3
  ·have q3:((m.top.get x.a).1 == 3)=true:=eqb e3
   have e:Box (callee P m x=some (m.top.get x.a).2.1):=hid (by unfold callee;rw[if_neg h12,if_pos e3]);clear h ok ka hn h12 e3;unfold zt;go_enter Tryz.func143,Tryz.ntmps143;go_wp2_with fail;refine HG.o.mono ?_;rintro e1 w2 ⟨rfl,k2⟩;have K2:=hid (KA.o.quiet k2);clear HG k2;go_wp2_with fail
   go_ret2
   exact ⟨by rw[e.o];rfl,K2.o.quiet (za.alloc [] _ _)⟩
  ·have q3:((m.top.get x.a).1 == 3)=false:=neb e3
   by_cases e2:(m.top.get x.a).1=2
   ·have q2:((m.top.get x.a).1 == 2)=true:=eqb e2
    obtain ⟨b0,b1,hf,a2,hq⟩:=ok e2;obtain ⟨j,hj⟩:∃ j:Nat,(m.top.get x.a).2.1=(j:Int)+1:=⟨((m.top.get x.a).2.1 - 1).toNat,by omega⟩;have hjl:j<m.rc.length:=by omega
    have hj':((m.top.get x.a).2.1 - 1).toNat=j:=by omega
    rw[hj'] at hq;obtain ⟨g,cap,hrv,c5⟩:=h.rcAt hjl;have c3:=zc h.box 3;have e:Box (callee P m x=zhn P (m.rc.getD j 0) (Qr P m.top x.a).2 x.n):=hid (by unfold callee zhn;rw[if_neg h12,if_neg e3,if_pos e2,hj']);have HRT:=hid fun (w':World) (k:za [] w w')=>za1 (h.quiet k) hf a0 a2;have HM:=hid fun (w':World) (k:za [] w w')=>JM (zc (h.quiet k).box 0) h.prc (h.quiet k).now (m.rc.getD j 0) (Qr P m.top x.a).2 x.n hq;have hgl:=hid hj;have hjz:(j:Int)<(m.rc.length:Int):=by omega
    have hb9:(j:Int)+1<9223372036854775808:=by
     rcases h.rcs.2 with ⟨_,h0⟩ | ⟨_,cp,_,_,_,_,h1,h2,_⟩
     ·omega
     ·unfold maxLen at h2
      omega
    generalize m.rc.length=M at *;generalize m.rc.getD j 0=rj at *;generalize Qr P m.top x.a=ty at *;obtain ⟨tk,tn⟩:=ty;generalize hv:m.top.get x.a=v at *;obtain ⟨vk,vn,vt⟩:=v;have e2':vk=2:=e2;have hj9:vn=(j:Int)+1:=hj;subst e2' hj9;have KS:=hid fun (w':World) (k:za [] w w')=>And.intro (zb k c3) (zb k c5);clear h ok h12 q3 e3 e2 b0 b1 hf a0 a1 a2 hq hj hgl c3 c5 HH hn hv q2 hj';rw[hrv] at KS;clear hrv;have HE:=hid e.o;clear e;unfold zt;go_enter Tryz.func143,Tryz.ntmps143;go_wp2_with fail;refine HG.o.mono ?_;rintro e1 w2 ⟨rfl,k2⟩;have K2:=hid (KA.o.quiet k2);have HN2:=hid (ze HN.o k2);clear HG k2 KA HN ka;go_upto_region 8 with fail;have HN3:=hid (zd w2 (.cells #[int i64 2,int i64 ((j:Int)+1),.bool vt] 30));have K3:=hid (K2.o.quiet (za.alloc [] w2 (.cells #[int i64 2,int i64 ((j:Int)+1),.bool vt] 30)));have HN4:=hid (ze HN2.o (za.alloc [] w2 (.cells #[int i64 2,int i64 ((j:Int)+1),.bool vt] 30)));generalize w2.alloc (.cells #[int i64 2,int i64 ((j:Int)+1),.bool vt] 30)=w3 at *;have HS:=hid fun (w':World) (k:za [] w3 w')=>And.intro (KS.o w' (K3.o.quiet k)) (And.intro (zc (ze HN3.o k) 1) (And.intro (zc (ze HN4.o k) 2) (zc (ze HN4.o k) 4)));obtain ⟨⟨s0,s1⟩,s2,s3,s4⟩:=HS.o w3 (za.refl _ _);have kd:za [] w3 w3.drew:=za.drew _ _;have HRT3:=hid fun (w':World) (k:za [] w3 w')=>HRT.o w' (K3.o.quiet k);have HM3:=hid fun (w':World) (k:za [] w3 w')=>HM.o w' (K3.o.quiet k);clear HN2 HN3 HN4 KS K2 HRT HM;have hfl:∀ w':World,(Instr.field 52 (tyV (tk,tn)) 1).run Tryz.prog w'=.ok (int i64 tn) w':=fun w'=>by kernel_rfl
    have hw9:IntKind.i64.wrap (j:Int)=(j:Int):=IntWalk.i64_in _ (by omega)
    go_region_held3 (fun w'=>w'.cell? ⟨mp,3,none⟩=some (.slice (some ⟨g,0,none⟩) M cap)∧w'.cell? ⟨g,j,none⟩=some (int i64 rj)∧w'.cell? ⟨w2.heap.size,1,none⟩=some (int i64 ((j:Int)+1))∧w'.cell? ⟨w.heap.size,2,none⟩=some (int i64 x.a)∧w'.cell? ⟨w.heap.size,4,none⟩=some (int i64 x.n)) (go_keep) (first
     | (go_at_call 221;refine (HRT3.o _ kd).mono ?_;rintro e w5 ⟨rfl,k5⟩;have kk5:=kd.quiet k5;obtain ⟨⟨f50,f51⟩,f52,f53,f54⟩:=HS.o _ kk5;clear k5)
     | (go_at_call 220;refine (HM3.o _ kk5).mono ?_;rintro e w6 ⟨rfl,k6⟩;have kk6:=kk5.quiet k6;obtain ⟨⟨f60,f61⟩,f62,f63,f64⟩:=HS.o _ kk6;clear k6))
    all_goals
     clear hfl hw9;go_wp2_with fail
     go_ret2
     exact ⟨by rw[HE.o];rfl,K3.o.quiet kk6⟩
   ·have q2:((m.top.get x.a).1 == 2)=false:=neb e2
    have e:Box (callee P m x=none):=hid (by unfold callee;rw[if_neg h12,if_neg e3,if_neg e2]);clear h ok ka hn h12 e3 e2;unfold zt;go_enter Tryz.func143,Tryz.ntmps143;go_wp2_with fail;refine HG.o.mono ?_;rintro e1 w2 ⟨rfl,k2⟩;have K2:=hid (KA.o.quiet k2);clear HG k2;go_wp2_with fail
    go_ret2
    exact ⟨by rw[e.o];rfl,K2.o.quiet (za.alloc [] _ _)⟩
def zgE(m:Ma):V3:=(0,m.ora.headD 0,true)
theorem zbk(h:MaS W0 w mp pp fg P m F hb fc rv oa oc os Fh):Calls Tryz.prog 147 #[pointer (some ⟨mp,0,none⟩)] w fun e w'=>∃ oa' oc',e=.returned (vlV (zgE m))∧MaS W0 w' mp pp fg P { m with ora:=m.ora.tail } F hb fc rv oa' oc' os Fh∧za [mp] w w':=by
 have kA:=(za.alloc [] w (.cells #[int i64 0,int i64 0,.bool false] 30)).quiet (za.alloc [] _ (.cells #[int i64 0,int i64 0,.bool true] 30));have hA:=ze (zd w (.cells #[int i64 0,int i64 0,.bool false] 30)) (za.alloc [] _ (.cells #[int i64 0,int i64 0,.bool true] 30));have hB:=zd (w.alloc (.cells #[int i64 0,int i64 0,.bool false] 30)) (.cells #[int i64 0,int i64 0,.bool true] 30);rw[World.size_alloc] at hB;have c1:w.cell? ⟨mp,1,none⟩=some (.slice oa m.ora.length oc):=zc h.box 1;have z1:=zg (ze h.box kA) 1;replace c1:=zb kA c1;have HH:=hid h;have KA:=hid kA;have HA:=hid hA;have HB:=hid hB;have hns:=h.ocap;have hmp:=zx h.box;have HB9:=hid (ze h.box kA);have s0:=zc hA 0;have s1:=zc hA 1;have s2:=zc hA 2;have y0:=zg hA 0;have y1:=zg hA 1;have y2:=zg hA 2;have t0:=zc hB 0;have t1:=zc hB 1;have t2:=zc hB 2;have x1:=zg hB 1;by_cases hc:m.ora=[]
 ·have e0:Box (zgE m=(0,0,true)):=hid (by unfold zgE;rw[hc];rfl)
  have e1:Box ({ m with ora:=m.ora.tail }=m):=hid (by
   have:m.ora.tail=m.ora:=by rw[hc];rfl
   rw[this])
  rw[show m.ora.length=0 by rw[hc];rfl] at c1;clear h hns hc kA hA hB;go_enter Tryz.func147,Tryz.ntmps147;go_upto_region 2 with fail;generalize (w.alloc (.cells #[int i64 0,int i64 0,.bool false] 30)).alloc (.cells #[int i64 0,int i64 0,.bool true] 30)=w2 at *;go_wp2_with fail;have HS:=JF HA.o (int i64 0) (int i64 0) (.bool true);have K3:=hid (KA.o.trans (jF w2 w.heap.size (int i64 0) (int i64 0) (.bool true)) (fun x hx hl=>by rw[List.mem_singleton.1 hx] at hl;omega));have HM:=hid (HH.o.quiet K3.o);have K4:=hid (K3.o.mono (L':=[mp]) fun _ hx=>by cases hx);generalize ((w2.setCell ⟨w.heap.size,0,none⟩ (int i64 0)).setCell ⟨w.heap.size,1,none⟩ (int i64 0)).setCell ⟨w.heap.size,2,none⟩ (.bool true)=w4 at *;have r0:=zc HS 0;have r1:=zc HS 1;have r2:=zc HS 2;exact bodyPost_ret (v:=vlV (0,0,true)) (by simp[results,Tryz.results147,go_sem,r0,r1,r2]) rfl ⟨oa,oc,by rw[e0.o],by rw[e1.o];exact HM.o,K4.o⟩
 ·obtain ⟨b,off,hoa,hq⟩:=h.orc.at (jO 0 (List.length_pos_iff.2 hc))
  have d0:=zb kA (h.now _ _ hq.1);obtain ⟨n,hn⟩:∃ n,m.ora.length=n+1:=⟨m.ora.length - 1,by have:=List.length_pos_iff.2 hc;omega⟩
  have e0:Box (zgE m=(0,m.ora.getD 0 0,true)):=hid (by
   unfold zgE
   rw[List.getD_eq_getElem?_getD,List.headD_eq_head?_getD,List.head?_eq_getElem?])
  rw[hn,hoa] at c1;rw[Nat.zero_mul,Nat.add_zero] at d0;have hn2:(n:Int)+1<9223372036854775808:=by
   have:=hns.2;unfold maxLen at this;omega
  generalize m.ora.getD 0 0=q at *;clear h hq kA hA hB;go_enter Tryz.func147,Tryz.ntmps147;go_upto_region 2 with fail;generalize (w.alloc (.cells #[int i64 0,int i64 0,.bool false] 30)).alloc (.cells #[int i64 0,int i64 0,.bool true] 30)=w2 at *;have z1':(w2.setCell ⟨w.heap.size+1,1,none⟩ (int i64 q)).frozen? ⟨mp,1,none⟩=false:=by
   unfold World.frozen? at z1 ⊢;rw[heap_setCell_other _ _ _ _ (by show mp≠w.heap.size+1;omega)];exact z1
  have c1':(w2.setCell ⟨w.heap.size+1,1,none⟩ (int i64 q)).cell? ⟨mp,1,none⟩=some (.slice (some ⟨b,off,none⟩) (n+1) oc):=by
   rw[(za.setCell [w.heap.size+1] w2 ⟨w.heap.size+1,1,none⟩ (int i64 q) (List.mem_singleton.2 rfl)).cell (block_lt_of_cell c1) (by simp;omega)];exact c1
  have hle1:(1:Int)≤(n:Int)+1:=by omega
  have RT:Box (∀ u0 u1 u2,((((w2.setCell ⟨w.heap.size+1,1,none⟩ (int i64 q)).setCell ⟨mp,1,none⟩ (.slice (if oc=1 then some ⟨b,off,none⟩ else some ⟨b,off+1,none⟩) n (oc - 1))).drew.setCell ⟨w.heap.size,0,none⟩ u0).setCell ⟨w.heap.size,1,none⟩ u1).setCell ⟨w.heap.size,2,none⟩ u2 |>.heap[mp]? = some (.cells ((jm m pp hb fg fc rv oa oc).setIfInBounds 1 (.slice (if oc=1 then some ⟨b,off,none⟩ else some ⟨b,off+1,none⟩) n (oc - 1))) 119 (0,0))):=hid fun u0 u1 u2=>by
   rw[heap_setCell_other _ _ _ _ (by show mp≠w.heap.size;omega),heap_setCell_other _ _ _ _ (by show mp≠w.heap.size;omega),heap_setCell_other _ _ _ _ (by show mp≠w.heap.size;omega)];refine heap_setCell_same _ mp 1 _ _ _ ?_;rw[heap_setCell_other _ _ _ _ (by show mp≠w.heap.size+1;omega)];exact HB9.o
  have HA3:Box (((w2.setCell ⟨w.heap.size+1,1,none⟩ (int i64 q)).setCell ⟨mp,1,none⟩ (.slice (if oc=1 then some ⟨b,off,none⟩ else some ⟨b,off+1,none⟩) n (oc - 1))).drew.heap[w.heap.size]? = some (.cells #[int i64 0,int i64 0,.bool false] 30 (0,0))):=hid (by
   show ((w2.setCell ⟨w.heap.size+1,1,none⟩ (int i64 q)).setCell ⟨mp,1,none⟩ _).heap[w.heap.size]? = _;rw[heap_setCell_other _ _ _ _ (by show w.heap.size≠mp;omega),heap_setCell_other _ _ _ _ (by show w.heap.size≠w.heap.size+1;omega)]
   exact HA.o)
  have HB3:Box (((w2.setCell ⟨w.heap.size+1,1,none⟩ (int i64 q)).setCell ⟨mp,1,none⟩ (.slice (if oc=1 then some ⟨b,off,none⟩ else some ⟨b,off+1,none⟩) n (oc - 1))).drew.heap[w.heap.size+1]? = some (.cells #[int i64 0,int i64 q,.bool true] 30 (0,0))):=hid (by
   show ((w2.setCell ⟨w.heap.size+1,1,none⟩ (int i64 q)).setCell ⟨mp,1,none⟩ _).heap[w.heap.size+1]? = _;rw[heap_setCell_other _ _ _ _ (by show w.heap.size+1≠mp;omega)]
   exact heap_setCell_same _ _ 1 _ _ _ HB.o)
  have KB:Box (za [mp] w ((w2.setCell ⟨w.heap.size+1,1,none⟩ (int i64 q)).setCell ⟨mp,1,none⟩ (.slice (if oc=1 then some ⟨b,off,none⟩ else some ⟨b,off+1,none⟩) n (oc - 1))).drew):=hid (((KA.o.trans (za.setCell [w.heap.size+1] _ _ _ (List.mem_singleton.2 rfl)) (L:=[]) (fun x hx hl=>by rw[List.mem_singleton.1 hx] at hl;omega)).mono (fun _ hx=>by cases hx)).step (za.setCell [mp] _ _ _ (List.mem_singleton.2 rfl)) |>.quiet (za.drew [] _))
  have RO:Box (zv W0 1 zH (if oc=1 then some ⟨b,off,none⟩ else some ⟨b,off+1,none⟩) m.ora.tail):=hid (by
   by_cases h1:oc=1
   ·refine .inl (List.eq_nil_of_length_eq_zero ?_)
    rw[List.length_tail];have:=hns.1;omega
   ·rw[if_neg h1]
    have:=HH.o.orc;rw[hoa] at this
    exact this.tail)
  have hns1:n≤oc - 1:=by have:=hns.1;omega
  clear hc hoa;go_upto_region 3 with fail
  go_region
  generalize (if oc=1 then some (Addr.mk b off none) else some (Addr.mk b (off+1) none))=a' at *;generalize ((w2.setCell ⟨w.heap.size+1,1,none⟩ (int i64 q)).setCell ⟨mp,1,none⟩ (.slice a' n (oc - 1))).drew=w3 at *;clear s0 s1 s2 y0 y1 y2 t0 t1 t2 x1 c1 c1' z1 z1' d0;have s0:=zc HA3.o 0;have s1:=zc HA3.o 1;have s2:=zc HA3.o 2;have y0:=zg HA3.o 0;have y1:=zg HA3.o 1;have y2:=zg HA3.o 2;have t0:=zc HB3.o 0;have t1:=zc HB3.o 1;have t2:=zc HB3.o 2;go_wp2_with fail;have HS:=JF HA3.o (int i64 0) (int i64 q) (.bool true);have K3:=hid (KB.o.trans (jF w3 w.heap.size (int i64 0) (int i64 q) (.bool true)) (fun x hx hl=>by rw[List.mem_singleton.1 hx] at hl;omega));have HM:=hid (HH.o.took hn RO.o hns1 K3.o (RT.o _ _ _));generalize ((w3.setCell ⟨w.heap.size,0,none⟩ (int i64 0)).setCell ⟨w.heap.size,1,none⟩ (int i64 q)).setCell ⟨w.heap.size,2,none⟩ (.bool true)=w4 at *;have r0:=zc HS 0;have r1:=zc HS 1;have r2:=zc HS 2;exact bodyPost_ret (v:=vlV (0,q,true)) (by simp[results,Tryz.results147,go_sem,r0,r1,r2]) rfl ⟨a',oc - 1,by rw[e0.o],HM.o,K3.o⟩
end
end Go.Proofs.YthflgjkmbakedaaGreatDoor
