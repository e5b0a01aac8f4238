import Derived.Lib.SliceRun
import Derived.Test.YthflgjkmbakedaaGreatDoorL01
set_option maxHeartbeats 1000000
namespace Go.Proofs.YthflgjkmbakedaaGreatDoor
open Go.Value (int pointer agg)
open Go.IntKind (i64)
open Go.RowKit
theorem j0w{α:Type}{f:α→List Value}{c:Nat}:∀ {l:List α},(∀ x,x∈l→(f x).length=c)→(l.flatMap f).length=l.length * c
 | [],_=>by simp
 | x :: l,h=>by
  rw[List.flatMap_cons,List.length_append,h x List.mem_cons_self,j0w (l:=l) (fun y hy=>h y (List.mem_cons_of_mem _ hy)),List.length_cons,Nat.succ_mul,Nat.add_comm]
theorem j0x{α:Type}{f:α→List Value}{c:Nat}:∀ {l:List α},(∀ x,x∈l→(f x).length=c)→∀ {j i:Nat}{x:α},l[j]? = some x→i<c→(l.flatMap f)[j * c+i]? = (f x)[i]?
 | [],_,j,i,x,hj,_=>by simp at hj
 | y :: l,h,0,i,x,hj,hi=>by
  simp at hj;subst hj;rw[List.flatMap_cons,Nat.zero_mul,Nat.zero_add,List.getElem?_append_left (by rw[h y List.mem_cons_self];exact hi)]
 | y :: l,h,j+1,i,x,hj,hi=>by
  rw[List.flatMap_cons,List.getElem?_append_right (by rw[h y List.mem_cons_self,Nat.succ_mul];omega),h y List.mem_cons_self,show (j+1) * c+i - c=j * c+i by rw[Nat.succ_mul];omega];exact j0x (l:=l) (fun z hz=>h z (List.mem_cons_of_mem _ hz)) (by simpa using hj) hi
theorem j0y{α:Type}{f:α→List Value}{c:Nat}:∀ {l:List α},(∀ x,x∈l→(f x).length=c)→∀ {j i:Nat}{x y:α}{v:Value},l[j]? = some x→i<c→f y=(f x).set i v→(l.set j y).flatMap f=(l.flatMap f).set (j * c+i) v
 | [],_,j,i,x,y,v,hj,_,_=>by simp at hj
 | z :: l,h,0,i,x,y,v,hj,hi,e=>by
  simp at hj;subst hj;rw[List.set_cons_zero,List.flatMap_cons,List.flatMap_cons,e,Nat.zero_mul,Nat.zero_add,List.set_append_left _ _ (by rw[h z List.mem_cons_self];exact hi)]
 | z :: l,h,j+1,i,x,y,v,hj,hi,e=>by
  rw[List.set_cons_succ,List.flatMap_cons,List.flatMap_cons,j0y (l:=l) (fun q hq=>h q (List.mem_cons_of_mem _ hq)) (by simpa using hj) hi e,List.set_append_right _ _ (by rw[h z List.mem_cons_self,Nat.succ_mul];omega),h z List.mem_cons_self,show (j+1) * c+i - c=j * c+i by rw[Nat.succ_mul];omega]
theorem j0z(l:List Rg):(l.flatMap rgC).length=l.length * 4:=j0w fun _ _=>rfl
theorem j00{x:Fr}(h:x.rs.length=16):(frC x).length=67:=by
 unfold frC;simp only[List.length_cons];rw[j0z,h]
theorem j01{x:Fr}{r:Nat}{y:Rg}(hr:x.rs[r]? = some y){i:Nat}(hi:i<4):(frC x)[3+r * 4+i]? = (rgC y)[i]? := by
 unfold frC;rw[show 3+r * 4+i=(r * 4+i)+1+1+1 by omega,List.getElem?_cons_succ,List.getElem?_cons_succ,List.getElem?_cons_succ];exact j0x (f:=rgC) (c:=4) (fun _ _=>rfl) hr hi
theorem znG.kept{w w':World}{fv:Value}{l:List Fr}{L:List Nat}(h:znG w fv l)(k:zc L w w')(hL:∀ b,fv.ownBlock=some b→b ∉ L):znG w' fv l:=⟨zj h.own k hL,h.sz⟩
theorem znG.quiet{w w':World}{fv:Value}{l:List Fr}(h:znG w fv l)(k:zc [] w w'):znG w' fv l:=h.kept k fun _ _=>by simp
theorem znG.form{w:World}{fv:Value}{l:List Fr}(h:znG w fv l)(hl:l≠[]):∃ g cap,fv=.slice (some ⟨g,0,none⟩) l.length cap∧l.length≤cap∧g<w.heap.size:=by
 rcases h.own.2 with ⟨_,h0⟩ | ⟨g,cap,cur,hv,_,hg,hn,_⟩
 ·exact absurd (List.eq_nil_of_length_eq_zero h0) hl
 ·exact ⟨g,cap,hv,hn,zQ hg⟩
theorem znG.len{w:World}{l:List Fr}{g n cap:Nat}(h:znG w (.slice (some ⟨g,0,none⟩) n cap) l):n=l.length:=by
 rcases h.own.2 with ⟨h',_⟩ | ⟨g',cap',cur,h',_⟩
 ·simp at h'
 ·simp only[Value.slice.injEq] at h'
  exact h'.2.1
theorem znG.cell{w:World}{l:List Fr}{g n cap:Nat}(h:znG w (.slice (some ⟨g,0,none⟩) n cap) l){j:Nat}{x:Fr}(hj:l[j]? = some x){i:Nat}{v:Value}(hi:(frC x)[i]? = some v):w.cell? ⟨g,j * 67+i,none⟩=some v:=by
 obtain rfl:=h.len;have hx:=j00 (h.sz x (List.mem_of_getElem? hj));have hi':i<67:=by rw[← hx];exact (List.getElem?_eq_some_iff.1 hi).1
 have hjl:=(List.getElem?_eq_some_iff.1 hj).1;rw[h.own.cellAt _ (by omega),j0x (fun y hy=>j00 (h.sz y hy)) hj hi',hi]
theorem znG.thaw{w:World}{l:List Fr}{g cap n:Nat}(h:znG w (.slice (some ⟨g,0,none⟩) n cap) l)(i:Nat):w.frozen? ⟨g,i,none⟩=false:=by
 have own:=h.own;rcases own.2 with ⟨h',_⟩ | ⟨g',cap',cur,h',_,hg,_⟩
 ·simp at h'
 ·simp only[Value.slice.injEq,Option.some.injEq,Addr.mk.injEq,and_true] at h'
  obtain ⟨rfl,_,rfl⟩:=h';exact zi hg i
theorem znG.put{w:World}{l:List Fr}{g n cap:Nat}(h:znG w (.slice (some ⟨g,0,none⟩) n cap) l){j:Nat}{x y:Fr}(hj:l[j]? = some x){i:Nat}{v:Value}(hi:i<67)(hy:y.rs.length=16)(e:frC y=(frC x).set i v):
  znG (w.setCell ⟨g,j * 67+i,none⟩ v) (.slice (some ⟨g,0,none⟩) n cap) (l.set j y):=by
 obtain rfl:=h.len;refine ⟨?_,fun z hz=> ?_⟩
 ·rw[List.length_set,j0y (fun q hq=>j00 (h.sz q hq)) hj hi e]
  exact (h.own.stored _ v).1
 ·rcases List.mem_or_eq_of_mem_set hz with hz | rfl
  ·exact h.sz z hz
  ·exact hy
theorem znG.keeps(w:World)(g j i:Nat)(v:Value):zc [g] w (w.setCell ⟨g,j * 67+i,none⟩ v):=zc.setCell _ _ _ _ (List.mem_singleton.2 rfl)
theorem znG.set{w:World}{l:List Fr}{g n cap:Nat}(h:znG w (.slice (some ⟨g,0,none⟩) n cap) l){j:Nat}{x:Fr}(hj:l[j]? = some x){r:Nat}(hr:r<16)(v:V3):
  znG ((((w.setCell ⟨g,j * 67+(3+r * 4+0),none⟩ (int i64 v.1)).setCell ⟨g,j * 67+(3+r * 4+1),none⟩ (int i64 v.2.1)).setCell ⟨g,j * 67+(3+r * 4+2),none⟩ (.bool v.2.2)).setCell ⟨g,j * 67+(3+r * 4+3),none⟩ (.bool true)) (.slice (some ⟨g,0,none⟩) n cap) (l.set j (x.set (r:Int) v)):=by
 have hx:=h.sz x (List.mem_of_getElem? hj);obtain ⟨y,hy⟩:∃ y,x.rs[r]? = some y:=⟨_,List.getElem?_eq_getElem (by omega)⟩;have hjl:=(List.getElem?_eq_some_iff.1 hj).1;have one:∀ (z:Fr) (q q':Rg) (i:Nat) (u:Value),z.rs.length=16→z.rs[r]? = some q→i<4→rgC q'=(rgC q).set i u→frC { z with rs:=z.rs.set r q' }=(frC z).set (3+r * 4+i) u:=by
  intro z q q' i u _ hq hi e;unfold frC;rw[show 3+r * 4+i=(r * 4+i)+1+1+1 by omega,List.set_cons_succ,List.set_cons_succ,List.set_cons_succ];show _ :: _ :: _ :: (z.rs.set r q').flatMap rgC=_;rw[j0y (f:=rgC) (c:=4) (fun _ _=>rfl) hq hi e]
 obtain ⟨⟨y1,y2,y3⟩,y4⟩:=y;have a0:=h.put (y:={ x with rs:=x.rs.set r ((v.1,y2,y3),y4) }) (v:=int i64 v.1) hj (show 3+r * 4+0<67 by omega) (by simpa using hx) (one x _ _ 0 _ hx hy (by omega) rfl);have l1:∀ (z:Fr),(l.set j z)[j]? = some z:=fun z=>List.getElem?_set_self hjl;have g1:∀ (q:Rg),(x.rs.set r q)[r]? = some q:=fun q=>List.getElem?_set_self (by omega);have e1:∀ (z z':Fr),(l.set j z).set j z'=l.set j z':=fun z z'=>List.set_set ..;have e2:∀ (q q':Rg),(x.rs.set r q).set r q'=x.rs.set r q':=fun q q'=>List.set_set ..
 have a1:=a0.put (y:={ x with rs:=x.rs.set r ((v.1,v.2.1,y3),y4) }) (v:=int i64 v.2.1) (l1 _) (show 3+r * 4+1<67 by omega) (by simpa using hx) (by
  have:=one { x with rs:=x.rs.set r ((v.1,y2,y3),y4) } ((v.1,y2,y3),y4) ((v.1,v.2.1,y3),y4) 1 (int i64 v.2.1) (by simpa using hx) (g1 _) (by omega) rfl
  rw[← this];simp only[e2])
 rw[e1] at a1
 have a2:=a1.put (y:={ x with rs:=x.rs.set r ((v.1,v.2.1,v.2.2),y4) }) (v:=.bool v.2.2) (l1 _) (show 3+r * 4+2<67 by omega) (by simpa using hx) (by
  have:=one { x with rs:=x.rs.set r ((v.1,v.2.1,y3),y4) } ((v.1,v.2.1,y3),y4) ((v.1,v.2.1,v.2.2),y4) 2 (.bool v.2.2) (by simpa using hx) (g1 _) (by omega) rfl
  rw[← this];simp only[e2])
 rw[e1] at a2
 have a3:=a2.put (y:={ x with rs:=x.rs.set r ((v.1,v.2.1,v.2.2),true) }) (v:=.bool true) (l1 _) (show 3+r * 4+3<67 by omega) (by simpa using hx) (by
  have:=one { x with rs:=x.rs.set r ((v.1,v.2.1,v.2.2),y4) } ((v.1,v.2.1,v.2.2),y4) ((v.1,v.2.1,v.2.2),true) 3 (.bool true) (by simpa using hx) (g1 _) (by omega) rfl
  rw[← this];simp only[e2])
 rw[e1] at a3;exact a3
theorem j02{w w':World}{F F':List Nat}{Q:World→Prop}(s:∀ u,zc F w u→Q u)(k:zc F w w')(n:znR w F F'):∀ u,zc F' w' u→Q u:=fun u ku=>s u (k.trans ku fun x hx hl=>(n x hx).resolve_right (by omega))
theorem znR.refl(w:World)(F:List Nat):znR w F F:=fun _ hx=>.inl hx
section
variable {W0 w w':World}{mp pp fg:Nat}{P:Pr8}{m:Ma}{F:List Nat}{hb fc:Nat}{rv:Value}{oa:Option Addr}{oc:Nat}{os:List Ob}{Fh:List Nat}
theorem MaS.rv_ne(h:MaS W0 w mp pp fg P m F hb fc rv oa oc os Fh):mp≠fg∧rv.ownBlock≠some mp∧rv.ownBlock≠some fg:=by
 obtain ⟨g,cap,e,_,_⟩:=h.frs.form (by simp);have hf:=h.frs.own;rcases hf.2 with ⟨h',_⟩ | ⟨g',cap',cur,h',_,hg,_⟩
 ·simp at h'
 ·simp only[Value.slice.injEq,Option.some.injEq,Addr.mk.injEq,and_true] at h'
  obtain ⟨rfl,_,rfl⟩:=h';refine ⟨fun e=> ?_,fun e=> ?_,fun e=> ?_⟩
  ·subst e
   have:=h.box;rw[hg] at this;simp at this
  ·rcases h.rcs.2 with ⟨rfl,_⟩ | ⟨g',cap',cur',rfl,_,hg',_⟩
   ·simp[Value.ownBlock] at e
   ·simp[Value.ownBlock] at e
    subst e;have:=h.box;rw[hg'] at this;simp at this
  ·rcases h.rcs.2 with ⟨rfl,_⟩ | ⟨g',cap',cur',rfl,_,hg',_⟩
   ·simp[Value.ownBlock] at e
   ·simp[Value.ownBlock] at e
    subst e;rw[hg] at hg';simp at hg'
theorem MaS.quiet(h:MaS W0 w mp pp fg P m F hb fc rv oa oc os Fh)(k:zc [] w w'):MaS W0 w' mp pp fg P m F hb fc rv oa oc os Fh:=
 ⟨ze h.box k,h.frs.quiet k,zj h.rcs k (fun _ _=>by simp),h.hp.quiet k,h.bar,h.mp_in,h.fg_in,h.rv_in,h.fh_in,h.off,h.prc,h.orc,j02 h.sub (k.mono fun _ hx=>by cases hx) (znR.refl w F),h.ocap,fun x hx=>Nat.lt_of_lt_of_le (h.lt x hx) k.size⟩
theorem MaS.fr(h:MaS W0 w mp pp fg P m F hb fc rv oa oc os Fh)(k:zc [fg] w w'){t:Fr}(f:znG w' (.slice (some ⟨fg,0,none⟩) (m.bot.length+1) fc) (m.bot ++ [t])):MaS W0 w' mp pp fg P { m with top:=t } F hb fc rv oa oc os Fh:=by
 have n:=h.rv_ne;have k':zc F w w':=k.mono fun x hx=>by rw[List.mem_singleton.1 hx];exact h.fg_in
 exact ⟨(k.block mp (zQ h.box) (by simp;exact n.1)).trans h.box,f,zj h.rcs k (fun b hb hm=>n.2.2 (by rw[hb,List.mem_singleton.1 hm])),h.hp.kept k (fun x hx hm=>(h.off x hx).2.1 (List.mem_singleton.1 hm)),h.bar,h.mp_in,h.fg_in,h.rv_in,h.fh_in,h.off,h.prc,h.orc,j02 h.sub k' (znR.refl w F),h.ocap,fun x hx=>Nat.lt_of_lt_of_le (h.lt x hx) k.size⟩
theorem j03{α:Type}(l:List α)(x y:α):(l ++ [x]).set l.length y=l ++ [y]:=by
 rw[List.set_append_right _ _ (Nat.le_refl _),Nat.sub_self];rfl
theorem j04{α:Type}(l:List α)(x:α):(l ++ [x])[l.length]? = some x:=by simp
theorem MaS.put(h:MaS W0 w mp pp fg P m F hb fc rv oa oc os Fh){r:Nat}(hr:r<16)(v:V3):
  MaS W0 ((((w.setCell ⟨fg,m.bot.length * 67+3+r * 4,none⟩ (int i64 v.1)).setCell ⟨fg,m.bot.length * 67+3+r * 4+1,none⟩ (int i64 v.2.1)).setCell ⟨fg,m.bot.length * 67+3+r * 4+2,none⟩ (.bool v.2.2)).setCell ⟨fg,m.bot.length * 67+3+r * 4+3,none⟩ (.bool true)) mp pp fg P (m.put (r:Int) v) F hb fc rv oa oc os Fh:=by
 have f:=h.frs.set (j04 m.bot m.top) hr v;have e:∀ k,m.bot.length * 67+(3+r * 4+k)=m.bot.length * 67+3+r * 4+k:=fun k=>by omega
 rw[j03,e,e,e,e,Nat.add_zero] at f;exact h.fr (((zc.setCell [fg] _ _ _ (List.mem_singleton.2 rfl)).step (zc.setCell [fg] _ _ _ (List.mem_singleton.2 rfl))).step (zc.setCell [fg] _ _ _ (List.mem_singleton.2 rfl)) |>.step (zc.setCell [fg] _ _ _ (List.mem_singleton.2 rfl))) f
theorem MaS.reg(h:MaS W0 w mp pp fg P m F hb fc rv oa oc os Fh){r:Nat}(hr:r<16):
  w.cell? ⟨fg,m.bot.length * 67+3+r * 4,none⟩=some (int i64 (m.top.get (r:Int)).1)∧w.cell? ⟨fg,m.bot.length * 67+3+r * 4+1,none⟩=some (int i64 (m.top.get (r:Int)).2.1)∧w.cell? ⟨fg,m.bot.length * 67+3+r * 4+2,none⟩=some (.bool (m.top.get (r:Int)).2.2)∧w.cell? ⟨fg,m.bot.length * 67+3+r * 4+3,none⟩=some (.bool (m.top.rs.getD r rg0).2)∧∀ i,w.frozen? ⟨fg,i,none⟩=false:=by
 have sz:=h.frs.sz _ (List.mem_append_right _ (List.mem_singleton.2 rfl));obtain ⟨y,hy⟩:∃ y,m.top.rs[r]? = some y:=⟨_,List.getElem?_eq_getElem (by omega)⟩;have e1:m.top.rs.getD r rg0=y:=by rw[List.getD_eq_getElem?_getD,hy];rfl
 have e2:m.top.get (r:Int)=y.1:=by unfold Fr.get;rw[show ((r:Int)).toNat=r by omega,e1]
 have e:∀ k,m.bot.length * 67+(3+r * 4+k)=m.bot.length * 67+3+r * 4+k:=fun k=>by omega
 have g:∀ k,k<4→∀ v,(rgC y)[k]? = some v→w.cell? ⟨fg,m.bot.length * 67+3+r * 4+k,none⟩=some v:=fun k hk v hv=>by
  rw[← e];exact h.frs.cell (j04 m.bot m.top) ((j01 hy hk).trans hv)
 rw[e1,e2];exact ⟨g 0 (by omega) _ rfl,g 1 (by omega) _ rfl,g 2 (by omega) _ rfl,g 3 (by omega) _ rfl,h.frs.thaw⟩
theorem MaS.pt(h:MaS W0 w mp pp fg P m F hb fc rv oa oc os Fh):w.cell? ⟨fg,m.bot.length * 67,none⟩=some (int i64 (m.top.f:Int))∧w.cell? ⟨fg,m.bot.length * 67+1,none⟩=some (int i64 (m.top.b:Int))∧w.cell? ⟨fg,m.bot.length * 67+2,none⟩=some (int i64 (m.top.i:Int)):=
 ⟨by have a:=h.frs.cell (j:=m.bot.length) (i:=0) (j04 m.bot m.top) (v:=int i64 (m.top.f:Int)) rfl;rw[Nat.add_zero] at a;exact a,h.frs.cell (j:=m.bot.length) (i:=1) (j04 m.bot m.top) rfl,h.frs.cell (j:=m.bot.length) (i:=2) (j04 m.bot m.top) rfl⟩
theorem MaS.next(h:MaS W0 w mp pp fg P m F hb fc rv oa oc os Fh):MaS W0 (w.setCell ⟨fg,m.bot.length * 67+2,none⟩ (int i64 ((m.top.i+1:Nat):Int))) mp pp fg P { m with top:=m.top.next } F hb fc rv oa oc os Fh:=by
 have sz:=h.frs.sz _ (List.mem_append_right _ (List.mem_singleton.2 rfl));have f:=h.frs.put (y:=m.top.next) (i:=2) (v:=int i64 ((m.top.i+1:Nat):Int)) (j04 m.bot m.top) (by omega) sz rfl;rw[j03] at f;exact h.fr (znG.keeps _ _ _ _ _) f
theorem MaS.bx(h:MaS W0 w mp pp fg P m F hb fc rv oa oc os Fh)(k:zc [mp] w w'){m':Ma}{oa':Option Addr}{oc':Nat}(hbx:w'.heap[mp]? = some (.cells (zku m' pp hb fg fc rv oa' oc') 119 (0,0)))(e1:m'.bot=m.bot)(e2:m'.top=m.top)(e3:m'.hp=m.hp)(e4:m'.rc=m.rc)(s:z7 W0 1 ji oa m.ora→z7 W0 1 ji oa' m'.ora)(oc9:m'.ora.length≤oc'∧m'.ora.length≤maxLen):MaS W0 w' mp pp fg P m' F hb fc rv oa' oc' os Fh:=by
 have n:=h.rv_ne;have k':zc F w w':=k.mono fun x hx=>by rw[List.mem_singleton.1 hx];exact h.mp_in
 refine ⟨hbx,?_,?_,h.hp.kept k (fun x hx hm=>(h.off x hx).1 (List.mem_singleton.1 hm)),by rw[e3];exact h.bar,h.mp_in,h.fg_in,h.rv_in,h.fh_in,h.off,h.prc,s h.orc,j02 h.sub k' (znR.refl w F),oc9,fun x hx=>Nat.lt_of_lt_of_le (h.lt x hx) k.size⟩
 ·rw[e1,e2]
  exact h.frs.kept k (fun b hb hm=>by
   simp[Value.ownBlock] at hb;rw[List.mem_singleton] at hm
   exact n.1 (hm ▸ hb.symm))
 ·rw[e4]
  exact zj h.rcs k (fun b hb hm=>n.2.1 (by rw[hb,List.mem_singleton.1 hm]))
end
theorem j05{w:World}{mp:Nat}{a:Addr}(h:w.cell? ⟨mp,0,none⟩=some (.pointer (some a))):Calls Tryz.prog 57 #[pointer (some ⟨mp,0,none⟩)] w fun e w'=>e=.returned (.bool true)∧zc [] w w':=by
 go_enter Tryz.func57,Tryz.ntmps57;go_wp2;go_ret;exact ⟨rfl,zc.refl _ _⟩
theorem j06(w:World):Calls Tryz.prog 57 #[.pointer none] w fun e w'=>e=.returned (.bool false)∧zc [] w w':=by
 go_enter Tryz.func57,Tryz.ntmps57;go_wp2;go_ret;exact ⟨rfl,zc.refl _ _⟩
theorem j07{w:World}{mp fg n fc:Nat}(h:w.cell? ⟨mp,4,none⟩=some (.slice (some ⟨fg,0,none⟩) (n+1) fc))(hn:n≤1000):Calls Tryz.prog 58 #[pointer (some ⟨mp,0,none⟩)] w fun e w'=>e=.returned (pointer (some ⟨fg,n * 67,none⟩))∧zc [] w w':=by
 go_enter Tryz.func58,Tryz.ntmps58;go_upto_region 1 with fail;go_quiet (fail);go_wp2_with fail;go_ret;exact ⟨rfl,zc.drewN [] _ _⟩
theorem j08{w:World}{mp pp tb ta fb fo fcp bb bo bcp N M f b:Nat}(h0:w.cell? ⟨mp,0,none⟩=some (pointer (some ⟨pp,0,none⟩)))(h4:w.cell? ⟨pp,4,none⟩=some (.slice (some ⟨fb,fo,none⟩) N fcp))(hf:f<N)(h2:w.cell? ⟨fb,fo+f * 3+2,none⟩=some (.slice (some ⟨bb,bo,none⟩) M bcp))(hb:b<M)(t0:w.cell? ⟨tb,ta,none⟩=some (int i64 (f:Int)))(t1:w.cell? ⟨tb,ta+1,none⟩=some (int i64 (b:Int))):
  Calls Tryz.prog 94 #[pointer (some ⟨mp,0,none⟩),pointer (some ⟨tb,ta,none⟩)] w fun e w'=>e=.returned (pointer (some ⟨bb,bo+b * 5,none⟩))∧zc [] w w':=by
 have g3:(f:Int)<(N:Int):=by omega
 have g4:(b:Int)<(M:Int):=by omega
 go_enter Tryz.func94,Tryz.ntmps94;go_upto_region 1 with fail;go_quiet (fail);go_wp2_with fail;go_ret;exact ⟨rfl,zc.drewN [] _ _⟩
theorem j09{w:World}{tb ta:Nat}{v:V3}{r:Nat}(hr:r<16)(c0:w.cell? ⟨tb,ta+3+r * 4,none⟩=some (int i64 v.1))(c1:w.cell? ⟨tb,ta+3+r * 4+1,none⟩=some (int i64 v.2.1))(c2:w.cell? ⟨tb,ta+3+r * 4+2,none⟩=some (.bool v.2.2)):
  Calls Tryz.prog 142 #[pointer (some ⟨tb,ta,none⟩),int i64 (r:Int)] w fun e w'=>e=.returned (vlV v)∧zc [] w w':=by
 have g3:(r:Int)<16:=by omega
 have ka:=zc.alloc [] w (.cells #[int i64 0,int i64 0,.bool false] 30);have d0:=za ka c0;have d1:=za ka c1;have d2:=za ka c2;clear c0 c1 c2 ka;go_enter Tryz.func142,Tryz.ntmps142;go_wp2_with fail;exact bodyPost_ret (v:=vlV v) (by simp[results,Tryz.results142,go_sem]) rfl ⟨rfl,zc.alloc [] _ _⟩
theorem j1a{w:World}{tb ta:Nat}(v:V3){r:Nat}(hr:r<16){u0 u1 u2 u3:Value}(c0:w.cell? ⟨tb,ta+3+r * 4,none⟩=some u0)(c1:w.cell? ⟨tb,ta+3+r * 4+1,none⟩=some u1)(c2:w.cell? ⟨tb,ta+3+r * 4+2,none⟩=some u2)(c3:w.cell? ⟨tb,ta+3+r * 4+3,none⟩=some u3)(hz:∀ i,w.frozen? ⟨tb,i,none⟩=false):
  Calls Tryz.prog 145 #[pointer (some ⟨tb,ta,none⟩),int i64 (r:Int),vlV v] w fun e w'=>e=.returned (.tuple #[])∧∃ w1,zc [] w w1∧zc [] ((((w1.setCell ⟨tb,ta+3+r * 4,none⟩ (int i64 v.1)).setCell ⟨tb,ta+3+r * 4+1,none⟩ (int i64 v.2.1)).setCell ⟨tb,ta+3+r * 4+2,none⟩ (.bool v.2.2)).setCell ⟨tb,ta+3+r * 4+3,none⟩ (.bool true)) w':=by
 have g3:(r:Int)<16:=by omega
 have hn:=zh w (.cells #[int i64 v.1,int i64 v.2.1,.bool v.2.2] 30);have ka:=zc.alloc [] w (.cells #[int i64 v.1,int i64 v.2.1,.bool v.2.2] 30);have KA:=hid ka;have d0:=za ka c0;have d1:=za ka c1;have d2:=za ka c2;have d3:=za ka c3;have hlt:tb<w.heap.size:=block_lt_of_cell c0;have hz':∀ i,(w.alloc (.cells #[int i64 v.1,int i64 v.2.1,.bool v.2.2] 30)).frozen? ⟨tb,i,none⟩=false:=fun i=>by
  have:=hz i;unfold World.frozen? at this ⊢;rw[show (w.alloc (Obj.cells #[Value.int .i64 v.1,Value.int .i64 v.2.1,Value.bool v.2.2] 30)).heap[tb]? = w.heap[tb]? from ka.block tb hlt (by simp)];exact this
 have z0:=hz' (ta+3+r * 4);have z1:=hz' (ta+3+r * 4+1);have z2:=hz' (ta+3+r * 4+2);have z3:=hz' (ta+3+r * 4+3);have e0:=zd hn 0;have e1:=zd hn 1;have e2:=zd hn 2;clear c0 c1 c2 c3 ka hz hz' hlt hn;go_enter Tryz.func145,Tryz.ntmps145;go_upto_region 1 with fail;generalize w.alloc (.cells #[int i64 v.1,int i64 v.2.1,.bool v.2.2] 30)=w1 at *
 go_region
 go_wp2_with fail
 go_end0
 exact ⟨rfl,_,KA.o,zc.drew [] _⟩
section
variable {W0 w:World}{mp pp fg:Nat}{P:Pr8}{m:Ma}{F:List Nat}{hb fc:Nat}{rv:Value}{oa:Option Addr}{oc:Nat}{os:List Ob}{Fh:List Nat}
theorem j1b(h:MaS W0 w mp pp fg P m F hb fc rv oa oc os Fh){r:Int}(h0:0≤r)(hr:r<16):Calls Tryz.prog 142 #[pointer (some ⟨fg,m.bot.length * 67,none⟩),int i64 r] w fun e w'=>e=.returned (vlV (m.top.get r))∧zc [] w w':=by
 obtain ⟨k,rfl⟩:∃ k:Nat,r=(k:Int):=⟨r.toNat,by omega⟩;obtain ⟨c0,c1,c2,_⟩:=h.reg (r:=k) (by omega);exact j09 (by omega) c0 c1 c2
theorem j1c(h:MaS W0 w mp pp fg P m F hb fc rv oa oc os Fh)(v:V3){r:Int}(h0:0≤r)(hr:r<16):Calls Tryz.prog 145 #[pointer (some ⟨fg,m.bot.length * 67,none⟩),int i64 r,vlV v] w fun e w'=>e=.returned (.tuple #[])∧MaS W0 w' mp pp fg P (m.put r v) F hb fc rv oa oc os Fh∧zc [fg] w w':=by
 obtain ⟨k,rfl⟩:∃ k:Nat,r=(k:Int):=⟨r.toNat,by omega⟩;obtain ⟨c0,c1,c2,c3,z⟩:=h.reg (r:=k) (by omega);refine (j1a v (by omega) c0 c1 c2 c3 z).mono ?_;rintro e w' ⟨rfl,w1,k1,k2⟩;exact ⟨rfl,((h.quiet k1).put (by omega) v).quiet k2,((k1.mono fun _ hx=>by cases hx).step (((zc.setCell [fg] _ _ _ (List.mem_singleton.2 rfl)).step (zc.setCell [fg] _ _ _ (List.mem_singleton.2 rfl))).step (zc.setCell [fg] _ _ _ (List.mem_singleton.2 rfl)) |>.step (zc.setCell [fg] _ _ _ (List.mem_singleton.2 rfl)))).quiet k2⟩
theorem j1d(h:MaS W0 w mp pp fg P m F hb fc rv oa oc os Fh)(hn:m.bot.length≤100):Calls Tryz.prog 58 #[pointer (some ⟨mp,0,none⟩)] w fun e w'=>e=.returned (pointer (some ⟨fg,m.bot.length * 67,none⟩))∧zc [] w w':=j07 (zd h.box 4) (by omega)
theorem MaS.now(h:MaS W0 w mp pp fg P m F hb fc rv oa oc os Fh):Sub W0 w:=h.sub w (zc.refl _ _)
theorem j1e{P:Pr8}{f:Nat}(hf:f<P.funcs.length):P.funcs[f]? = some (zf P f):=by
 unfold zf;rw[List.getD_eq_getElem?_getD,List.getElem?_eq_getElem hf];rfl
theorem j1f{x:Fu8}{b:Nat}(hb:b<x.blocks.length):x.blocks[b]? = some (zr x b):=by
 unfold zr;rw[List.getD_eq_getElem?_getD,List.getElem?_eq_getElem hb];rfl
theorem j1g{x:Bl8}{i:Nat}(hi:i<x.code.length):x.code[i]? = some (zT x i):=by
 unfold zT;rw[List.getD_eq_getElem?_getD,List.getElem?_eq_getElem hi];rfl
theorem j1h(h:MaS W0 w mp pp fg P m F hb fc rv oa oc os Fh)(hp:Zh P m.top.f m.top.b m.top.i):∃ bb bo,BlC W0 bb bo (m.top.blk P)∧∀ w',zc [] w w'→Calls Tryz.prog 94 #[pointer (some ⟨mp,0,none⟩),pointer (some ⟨fg,m.bot.length * 67,none⟩)] w' fun e w2=>e=.returned (pointer (some ⟨bb,bo,none⟩))∧zc [] w' w2:=by
 obtain ⟨fa,fcp,c4,r4,_⟩:=h.prc.c4;obtain ⟨fb,fo,rfl,y⟩:=r4.at (j1e hp.1);obtain ⟨ba,bcp,c2,r2,_⟩:=y.c2;obtain ⟨bb,bo,rfl,z⟩:=r2.at (j1f hp.2.1);refine ⟨bb,bo+m.top.b * 5,z,fun w' k=> ?_⟩;have h':=h.quiet k;exact j08 (bb:=bb) (bo:=bo) (zd h'.box 0) (h'.now _ _ c4) hp.1 (h'.now _ _ c2) hp.2.1 h'.pt.1 h'.pt.2.1
end
end Go.Proofs.YthflgjkmbakedaaGreatDoor
namespace Go.Proofs.YthflgjkmbakedaaGreatDoor
open Go.RowKit
structure KL {α:Type}(V:World→Value→α→Prop) (w:World) (A B g n c cap:Nat) (T:TypeId) (l:List α) (rs xs:List Value):Prop where
 own:w.ownsRow B T c (.slice (some ⟨g,0,none⟩) n cap) n rs
 done:∀ (j:Nat) (y:α),l[j]? = some y→∃ v,V (zod A w) v y∧∀ i,i<c→rs[j * c+i]? = v.cells[i]?
 rest:∀ m,l.length * c≤m→rs[m]? = xs[m]?
theorem KL.next{α:Type}{V:World→Value→α→Prop}(hV:zov V){w w':World}{A B g n c cap:Nat}{T:TypeId}{l:List α}{rs rs' xs:List Value}(h:KL V w A B g n c cap T l rs xs)(hA:g<A)(k:zc [g] w w')(own':w'.ownsRow B T c (.slice (some ⟨g,0,none⟩) n cap) n rs')(same:∀ m,m<l.length * c∨l.length * c+c≤m→rs'[m]? = rs[m]?){v:Value}{y:α}(hv:V (zod A w') v y)(hc:∀ i,i<c→rs'[l.length * c+i]? = v.cells[i]?):KL V w' A B g n c cap T (l ++ [y]) rs' xs:=by
 have hs:=Sub.kept (B:=A) k (fun x hx=>by rw[List.mem_singleton] at hx;omega);refine ⟨own',fun j z hz=> ?_,fun m hm=> ?_⟩
 ·by_cases hj:j<l.length
  ·rw[List.getElem?_append_left hj] at hz
   obtain ⟨u,h4,h5⟩:=h.done j z hz;refine ⟨u,hV _ _ _ _ hs h4,fun i hi=> ?_⟩
   rw[same _ (.inl (by
    have:j * c+c≤l.length * c:=by rw[← Nat.succ_mul];exact Nat.mul_le_mul_right c hj
    omega))]
   exact h5 i hi
  ·rw[List.getElem?_append_right (by omega)] at hz
   have e0:j - l.length=0:=by
    apply Classical.byContradiction;intro hne;rw[List.getElem?_eq_none (by simp;omega)] at hz;cases hz
   rw[e0] at hz;simp at hz;subst hz;obtain rfl:j=l.length:=by omega
   exact ⟨v,hv,hc⟩
 ·rw[List.length_append] at hm
  have:(l.length+1) * c=l.length * c+c:=Nat.succ_mul _ _;have hm':l.length * c+c≤m:=by simpa [this] using hm
  rw[same m (.inr hm'),h.rest m (by omega)]
theorem KL.quiet{α:Type}{V:World→Value→α→Prop}(hV:zov V){w w':World}{A B g n c cap:Nat}{T:TypeId}{l:List α}{rs xs:List Value}(h:KL V w A B g n c cap T l rs xs)(k:zc [] w w'):KL V w' A B g n c cap T l rs xs:=
 ⟨zj h.own k (fun _ _=>by simp),fun j y hy=>by
  obtain ⟨v,h1,h2⟩:=h.done j y hy
  exact ⟨v,hV _ _ _ _ (Sub.kept k (fun x hx=>by cases hx)) h1,h2⟩,h.rest⟩
theorem KL.rows{α:Type}{V:World→Value→α→Prop}{R:World→Nat→Nat→α→Prop}{w:World}{A B g n c cap:Nat}{T:TypeId}{l:List α}{rs xs:List Value}(hV:zov V)(hL:Links c V R)(h:KL V w A B g n c cap T l rs xs)(hBA:B≤A)(hl:l.length=n)(hm:n≤maxLen)(hn:n * c=rs.length):SlV c R (zod B w) (.slice (some ⟨g,0,none⟩) l.length cap) l:=by
 rcases h.own.2 with ⟨h',_⟩ | ⟨g',cap',cur,h',hB,hg,hle,_⟩
 ·simp at h'
 ·simp only[Value.slice.injEq,Option.some.injEq,Addr.mk.injEq,and_true,true_and] at h'
  obtain ⟨rfl,rfl⟩:=h';refine ⟨some ⟨g,0,none⟩,cap,rfl,.inr ⟨g,0,rfl,fun j y hy=> ?_⟩,by omega,by omega⟩;have hj:j<n:=by rw[← hl];exact (List.getElem?_eq_some_iff.1 hy).1
  have hjc:j * c+c≤n * c:=by rw[← Nat.succ_mul];exact Nat.mul_le_mul_right c hj
  obtain ⟨v,h1,h2⟩:=h.done j y hy;refine (hL (zod B w) v y g (0+j * c) (hV _ _ _ _ (Sub.down w hBA) h1)).2 (fun i hi=> ?_);rw[Nat.zero_add, ← h2 i hi,World.cell?_of_block (w:=w) (j0s hB)];exact h.own.cellAt _ (by omega)
theorem KL.far{α:Type}{V:World→Value→α→Prop}(hV:zov V){w w':World}{A B g n c cap:Nat}{T:TypeId}{l:List α}{rs xs:List Value}(h:KL V w A B g n c cap T l rs xs){b:Nat}(k:zc [b] w w')(hb:b<A)(hn:b≠g):KL V w' A B g n c cap T l rs xs:=
 ⟨zj h.own k (fun x hx hm=>by
  simp[Value.ownBlock] at hx;rw[List.mem_singleton] at hm
  exact hn (hm.symm.trans hx.symm)),fun j y hy=>by
  obtain ⟨v,h1,h2⟩:=h.done j y hy
  exact ⟨v,hV _ _ _ _ (Sub.kept k (fun x hx=>by rw[List.mem_singleton.1 hx];exact hb)) h1,h2⟩,h.rest⟩
end Go.Proofs.YthflgjkmbakedaaGreatDoor
