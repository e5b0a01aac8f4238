import Derived.Deep.WholeRow
import Derived.Test.YtgmbkiagdhjpnaaGreatDoorU28

namespace Go.Proofs.YtgmbkiagdhjpnaaGreatDoor
open Go.RowKit
open Go.Value (int pointer agg)
open Go.IntKind (i64)
set_option maxRecDepth 20000
set_option maxHeartbeats 4000000
variable {A B c cap cp g k n:Nat}{T:TypeId}{a:Option Addr}{rs xs:List Value}{v:Value}{w w' w0 wc wr:World}
structure zlz (P:Pr8) (m:Ma) (x:In8):Prop where
 cal:zjH P m x
 pas:∀ r,r∈zx x→0≤r∧r<16
 len:(zx x).length≤16
 fun0:∀ f,callee P m x=some f→0≤f
 bot:m.bot.length≤100
 arg:x.args.length≤1000
theorem Fr.set_len(y:Fr)(r:Int)(v:V3):(y.set r v).rs.length=y.rs.length:=by
 unfold Fr.set;simp
theorem zam(x:Fr):∀ (l:List Int) (k:Nat) (y:Fr),(jl x k y l).rs.length=y.rs.length
 | [],_,_=>rfl
 | r :: l,k,y=>by
  rw[jl,zam x l,Fr.set_len]
section
variable {W0 w w':World}{mp pp fg:Nat}{P:Pr8}{m:Ma}{F:List Nat}{hb fc:Nat}{rv:Value}{oa:Option Addr}{oc:Nat}{os:List Ob}{Fh:List Nat}
theorem MaS.push(h:MaS W0 w mp pp fg P m F hb fc rv oa oc os Fh){wa w5:World}(ka:za [] w wa){y:Fr}(hy:y.rs.length=16){g cap:Nat}(own:w5.ownsRow 0 99 67 (.slice (some ⟨g,0,none⟩) (m.bot.length+1+1) cap) (m.bot.length+1+1) ((m.bot ++ [m.top]).flatMap frC ++ frC y))(hg:wa.grownBy w5 (some fg))(hl:fg=g∨wa.heap.size≤g):
  MaS W0 (w5.setCell ⟨mp,4,none⟩ (.slice (some ⟨g,0,none⟩) (m.bot.length+1+1) cap)) mp pp g P { m with bot:=m.bot ++ [m.top],top:=y } (F ++ [g]) hb cap rv oa oc os Fh∧za F w (w5.setCell ⟨mp,4,none⟩ (.slice (some ⟨g,0,none⟩) (m.bot.length+1+1) cap))∧ja w F (F ++ [g]):=by
 have n:=h.rv_ne;have kg:za [fg] wa w5:=za.grown _ hg (fun k hk=>by cases hk;simp);have hbx:w5.heap[mp]? = some (.cells (jk m pp hb fg fc rv oa oc) 104 (0,0)):=by
  have:=zd h.box ka;rw[kg.block mp (zt this) (by simpa using n.1)];exact this
 have k5:za [mp] w5 (w5.setCell ⟨mp,4,none⟩ (.slice (some ⟨g,0,none⟩) (m.bot.length+1+1) cap)):=za.setCell _ _ _ _ (List.mem_singleton.2 rfl);have kL:za [mp,fg] w (w5.setCell ⟨mp,4,none⟩ (.slice (some ⟨g,0,none⟩) (m.bot.length+1+1) cap)):=((ka.mono (fun _ hx=>by cases hx)).step (kg.mono fun x hx=>by rw[List.mem_singleton.1 hx];simp)).step (k5.mono fun x hx=>by rw[List.mem_singleton.1 hx];simp);have kF:za F w (w5.setCell ⟨mp,4,none⟩ (.slice (some ⟨g,0,none⟩) (m.bot.length+1+1) cap)):=kL.mono fun x hx=>by
  simp at hx;rcases hx with rfl | rfl
  ·exact h.mp_in
  ·exact h.fg_in
 have near:ja w F (F ++ [g]):=fun x hx=>by
  rcases List.mem_append.1 hx with hx | hx
  ·exact .inl hx
  ·rw[List.mem_singleton.1 hx]
   rcases hl with e | e
   ·exact .inl (e ▸ h.fg_in)
   ·exact .inr (Nat.le_trans ka.size e)
 have hne:g≠mp:=fun e=>zdU own hbx (by decide) (by rw[e];rfl);have gF:∀ x,x∈F→x≠fg→x≠g:=fun x hx hn e=>by
  subst e;rcases hl with e | e
  ·exact hn e.symm
  ·have:=h.lt x hx
   have:=ka.size;omega
 have hlen:(m.bot ++ [m.top]).length=m.bot.length+1:=by rw[List.length_append];rfl
 have hb4:=heap_setCell_same w5 mp 4 _ _ (.slice (some ⟨g,0,none⟩) (m.bot.length+1+1) cap) hbx;refine ⟨⟨?_,⟨?_,fun z hz=> ?_⟩,zh h.rcs kL (fun b hb hm=> ?_),h.hp.kept kL (fun x hx hm=> ?_),h.bar,List.mem_append_left _ h.mp_in,List.mem_append_right _ (List.mem_singleton.2 rfl),fun b hb=>List.mem_append_left _ (h.rv_in b hb),fun x hx=>List.mem_append_left _ (h.fh_in x hx),fun x hx=>⟨(h.off x hx).1,gF x (h.fh_in x hx) (h.off x hx).2.1,(h.off x hx).2.2⟩,h.prc,h.orc,qL h.sub kF near,h.ocap,fun x hx=> ?_⟩,kF,near⟩
 ·rw[hb4]
  show _=some (Obj.cells #[_,_,_,_,.slice (some ⟨g,0,none⟩) ((m.bot ++ [m.top]).length+1) cap,_,_,_,_,_,_] _ _);rw[hlen];rfl
 ·have:(m.bot ++ [m.top] ++ [y]).length=m.bot.length+1+1:=by rw[List.length_append,hlen];rfl
  show (w5.setCell ⟨mp,4,none⟩ _).ownsRow 0 99 67 (.slice (some ⟨g,0,none⟩) ((m.bot ++ [m.top]).length+1) cap) (m.bot ++ [m.top] ++ [y]).length ((m.bot ++ [m.top] ++ [y]).flatMap frC);rw[this,hlen,List.flatMap_append,List.flatMap_singleton]
  exact zh own k5 (fun b hb hm=>by
   simp[Value.ownBlock] at hb;rw[List.mem_singleton] at hm
   exact hne (hb.trans hm))
 ·rcases List.mem_append.1 hz with hz | hz
  ·exact h.frs.sz z hz
  ·rw[List.mem_singleton.1 hz]
   exact hy
 ·simp at hm
  rcases hm with rfl | rfl
  ·exact n.2.1 hb
  ·exact n.2.2 hb
 ·simp at hm
  rcases hm with rfl | rfl
  ·exact (h.off _ hx).1 rfl
  ·exact (h.off _ hx).2.1 rfl
 ·rcases List.mem_append.1 hx with hx | hx
  ·exact Nat.lt_of_lt_of_le (h.lt x hx) kL.size
  ·exact Nat.lt_of_lt_of_le (own.lt x (by rw[List.mem_singleton.1 hx];rfl)).2 k5.size
end
def CpP(w:World)(n c:Nat)(T:TypeId)(hx:List Value→Prop)(e:Ending)(w':World):Prop:=
 ∃ a cap,e=.returned (.slice a n cap)∧((a=none∧n=0∧cap=0)∨∃ g xs,a=some ⟨g,0,none⟩∧w'.ownsRow w.heap.size T c (.slice (some ⟨g,0,none⟩) n cap) n xs∧w.heap.size≤g∧hx xs)∧za [] w w'
theorem zgO{l:List In8}(h:zq w 6 InC a l)(hl:l.length≤1000):Calls Tryz.prog 131 #[.slice a l.length cp] w (CpP w l.length 6 65 fun xs=>l≠[]→∃ b off,a=some ⟨b,off,none⟩∧(∀ m u,xs[m]? = some u→w.cell? ⟨b,off+m,none⟩=some u)∧xs.length=l.length * 6):=by
 cases a with
 | none=>
  have e:l=[]:=by
   rcases h with e | ⟨b,off,e,_⟩
   ·exact e
   ·cases e
  subst e;refine (zee 0 cp w).mono ?_;rintro e w' ⟨rfl,k⟩;exact ⟨none,0,rfl,.inl ⟨rfl,rfl,rfl⟩,k⟩
 | some ad=>
  by_cases e:l=[]
  ·subst e
   refine (zaI ad 0 cp [] w rfl (fun j u hu=>by simp at hu) (fun u hu=>by cases hu) (by omega)).mono ?_;rintro e w' ⟨g,cap,rfl,own,hg,k⟩;exact ⟨_,cap,rfl,.inr ⟨g,[],rfl,own,hg,fun h=>absurd rfl h⟩,k⟩
  ·rcases h with e' | ⟨b,off,e',hr⟩
   ·exact absurd e' e
   ·cases e'
    obtain ⟨xs,x1,x2,x3⟩:=zhg zk1 l off hr;refine (zaI ⟨b,off,none⟩ l.length cp xs w x1 (fun j u hu=>by rw[ji];exact x2 j u hu) x3 (by omega)).mono ?_;rintro e9 w' ⟨g,cap,rfl,own,hg,k⟩;exact ⟨_,cap,rfl,.inr ⟨g,xs,rfl,own,hg,fun _=>⟨b,off,rfl,x2,x1⟩⟩,k⟩
theorem zhz{l:List Bl8}(h:zq w 5 BlC a l)(hl:l.length≤1000):Calls Tryz.prog 130 #[.slice a l.length cp] w (CpP w l.length 5 68 fun xs=>l≠[]→∃ b off,a=some ⟨b,off,none⟩∧(∀ m u,xs[m]? = some u→w.cell? ⟨b,off+m,none⟩=some u)∧xs.length=l.length * 5):=by
 cases a with
 | none=>
  have e:l=[]:=by
   rcases h with e | ⟨b,off,e,_⟩
   ·exact e
   ·cases e
  subst e;refine (zeo 0 cp w).mono ?_;rintro e w' ⟨rfl,k⟩;exact ⟨none,0,rfl,.inl ⟨rfl,rfl,rfl⟩,k⟩
 | some ad=>
  by_cases e:l=[]
  ·subst e
   refine (zaL ad 0 cp [] w rfl (fun j u hu=>by simp at hu) (fun u hu=>by cases hu) (by omega)).mono ?_;rintro e w' ⟨g,cap,rfl,own,hg,k⟩;exact ⟨_,cap,rfl,.inr ⟨g,[],rfl,own,hg,fun h=>absurd rfl h⟩,k⟩
  ·rcases h with e' | ⟨b,off,e',hr⟩
   ·exact absurd e' e
   ·cases e'
    obtain ⟨xs,x1,x2,x3⟩:=zhg zlF l off hr;refine (zaL ⟨b,off,none⟩ l.length cp xs w x1 (fun j u hu=>by rw[ji];exact x2 j u hu) x3 (by omega)).mono ?_;rintro e9 w' ⟨g,cap,rfl,own,hg,k⟩;exact ⟨_,cap,rfl,.inr ⟨g,xs,rfl,own,hg,fun _=>⟨b,off,rfl,x2,x1⟩⟩,k⟩
def CdI(w0 wr:World)(a:Option Addr)(n cap:Nat)(l:List In8)(k:Nat)(xs:List Value):Prop:=
 (a=none∧n=0∧cap=0)∨∃ g rs,a=some ⟨g,0,none⟩∧KL InV wr (g+1) w0.heap.size g n 6 cap 65 (l.take k) rs xs∧w0.heap.size≤g
theorem CdI.quiet{l:List In8}(h:CdI w0 wr a n cap l k xs)(q:za [] wr w'):CdI w0 w' a n cap l k xs:=by
 rcases h with h | ⟨g,rs,h1,h2,h3⟩
 ·exact .inl h
 ·exact .inr ⟨g,rs,h1,h2.quiet InV.sub q,h3⟩
theorem CdI.all{l:List In8}(h:CdI w0 wr a n cap l n xs)(hn:n=l.length)(hm:n≤1000):zjF (zQ w0.heap.size wr) (.slice a l.length cap) l:=by
 rcases h with ⟨rfl,h0,rfl⟩ | ⟨g,rs,rfl,h2,h3⟩
 ·have:l=[]:=List.eq_nil_of_length_eq_zero (by omega)
  subst this;exact ⟨none,0,rfl,.inl rfl,Nat.le_refl _,Nat.zero_le _⟩
 ·subst hn
  rw[List.take_length] at h2;exact h2.rows InV.sub InV.links (by omega) rfl (by unfold maxLen;omega) h2.own.1.symm
def BkI(w0 wr:World)(a:Option Addr)(n cap:Nat)(l:List Bl8)(k:Nat)(xs:List Value):Prop:=
 (a=none∧n=0∧cap=0)∨∃ g rs,a=some ⟨g,0,none⟩∧KL BlV wr (g+1) w0.heap.size g n 5 cap 68 (l.take k) rs xs∧w0.heap.size≤g
theorem BkI.all{l:List Bl8}(h:BkI w0 wr a n cap l n xs)(hn:n=l.length)(hm:n≤1000):zia (zQ w0.heap.size wr) (.slice a l.length cap) l:=by
 rcases h with ⟨rfl,h0,rfl⟩ | ⟨g,rs,rfl,h2,h3⟩
 ·have:l=[]:=List.eq_nil_of_length_eq_zero (by omega)
  subst this;exact ⟨none,0,rfl,.inl rfl,Nat.le_refl _,Nat.zero_le _⟩
 ·subst hn
  rw[List.take_length] at h2;exact h2.rows BlV.sub BlV.links (by omega) rfl (by unfold maxLen;omega) h2.own.1.symm
theorem ZH{α:Type}{R:World→Nat→Nat→α→Prop}{l:List α}(h:SlV c R w v l):∃ a cp,v=.slice a l.length cp:=by
 obtain ⟨a,cp,h1,_⟩:=h;exact ⟨a,cp,h1⟩
theorem CdI.step{l:List In8}{x:In8}(h:KL InV wr (g+1) w0.heap.size g n 6 cap 65 (l.take k) rs xs)(hg:w0.heap.size≤g)(hk:k<n)(hn:n=l.length)(hx:l[k]? = some x)(kc:za [] wr wc)(hv:jO (zQ wr.heap.size wc) (.slice a x.args.length cp) x.args)(c:∀ i u,(Value.agg #[int i64 x.op,int i64 x.dst,int i64 x.a,int i64 x.b,int i64 x.n,.slice a x.args.length cp]).cells[i]? = some u→i<5→xs[k * 6+i]? = some u)(hb:b64 x.op∧b64 x.dst∧b64 x.a∧b64 x.b∧b64 x.n):
  CdI w0 (wc.setCell ⟨g,k * 6+5,none⟩ (.slice a x.args.length cp)) (some ⟨g,0,none⟩) n cap l (k+1) xs:=by
 have hl:(l.take k).length=k:=by rw[List.length_take];omega
 have own:=zh h.own kc (fun _ _=>by simp);have hrl:rs.length=n * 6:=h.own.1;have o2:=(own.stored (k * 6+5) (.slice a x.args.length cp)).1;have glt:g<wr.heap.size:=(h.own.lt g rfl).2;refine .inr ⟨g,rs.set (k * 6+5) (.slice a x.args.length cp),rfl,?_,hg⟩;rw[List.take_add_one,hx];have kk:za [g] wr (wc.setCell ⟨g,k * 6+5,none⟩ (.slice a x.args.length cp)):=(kc.mono fun _ hz=>by cases hz).step (za.setCell _ _ _ _ (List.mem_singleton.2 rfl));refine h.next InV.sub (Nat.lt_succ_self g) kk o2 (fun m hm=> ?_) (v:=agg #[int i64 x.op,int i64 x.dst,int i64 x.a,int i64 x.b,int i64 x.n,.slice a x.args.length cp]) ⟨a,cp,rfl,hb.1,hb.2.1,hb.2.2.1,hb.2.2.2.1,hb.2.2.2.2,?_⟩ (fun i hi=> ?_)
 ·rw[hl] at hm
  rw[List.getElem?_set_ne (by omega)]
 ·refine jO.sub _ _ _ _ ?_ hv
  refine (Sub.kept (B:=wr.heap.size) (za.setCell [g] wc ⟨g,k * 6+5,none⟩ (.slice a x.args.length cp) (List.mem_singleton.2 rfl)) (fun z hz=>by rw[List.mem_singleton.1 hz];exact glt)).trans (Sub.down _ glt)
 ·rw[hl]
  by_cases h5:i=5
  ·subst h5
   rw[List.getElem?_set_self (by omega)];rfl
  ·rw[List.getElem?_set_ne (by omega),h.rest _ (by rw[hl];omega)]
   have hi5:i<5:=by omega
   have:∃ u,(Value.agg #[int i64 x.op,int i64 x.dst,int i64 x.a,int i64 x.b,int i64 x.n,.slice a x.args.length cp]).cells[i]? = some u:=⟨_,Array.getElem?_eq_getElem (by show i<6;omega)⟩;obtain ⟨u,hu⟩:=this;rw[hu];exact c i u hu hi5
theorem zcT{l:List Bl8}(h:zq w 5 BlC a l)(hl:l.length≤1000)(hc:∀ y,y∈l→y.code.length≤1000∧∀ x,x∈y.code→x.args.length≤1000):
  Calls Tryz.prog 82 #[.slice a l.length cp] w fun e w'=>∃ v,e=.returned v∧zia (zQ w.heap.size w') v l∧za [] w w':=by
 have HC:=hid (zhz (cp:=cp) h hl);have HY:=hid hc;have HR:=hid h;obtain ⟨n,hN⟩:∃ n,n=l.length:=⟨_,rfl⟩;have HL:=hid hN;have hNE:n≠0→l≠[]:=fun h0 e=>h0 (by rw[hN,e];rfl);rw[← hN] at HC hl ⊢;clear h hc hN;go_enter Tryz.func82,Tryz.ntmps82;go_wp2_with fail;refine HC.o.mono ?_;rintro e w1 ⟨a1,cap,rfl,d1,k1⟩;have K1:=hid k1;obtain ⟨xs,hx,B0⟩:∃ xs,(n≠0→∃ b off,a=some ⟨b,off,none⟩∧(∀ m u,xs[m]? = some u→w.cell? ⟨b,off+m,none⟩=some u)∧xs.length=n * 5)∧BkI w w1 a1 n cap l 0 xs:=by
  rcases d1 with ⟨e1,e2,e3⟩ | ⟨g,xs,e1,own,hg,hx⟩
  ·exact ⟨[],fun hn=>absurd e2 hn,.inl ⟨e1,e2,e3⟩⟩
  ·exact ⟨xs,fun h0=>hx (hNE h0),.inr ⟨g,xs,e1,⟨own,fun j y hy=>by simp at hy,fun _ _=>rfl⟩,hg⟩⟩
 have HX:=hid hx;have G0:=hid B0;clear HC d1 k1 hx B0;go_wp2_with fail
 go_loopw [11] (fun iv wr=>∃ k:Nat,k≤n∧iv=int i64 (k:Int)∧Box (BkI w wr a1 n cap l k xs)∧Box (za [] w wr)) (fun iv _=>n - (intOf iv).toNat)
 case atStart=>exact ⟨0,by omega,rfl,G0,K1⟩
 case round=>
  obtain ⟨k,hk,rfl,HB,HK⟩:=hrel;clear G0;obtain ⟨wk,hwk⟩:∃ wk,wk=wr:=⟨_,rfl⟩;subst hwk;by_cases hlt:k<n
  ·have hlt':(k:Int)<(n:Int):=by omega
   rcases HB.o with ⟨_,h0,_⟩ | ⟨g,rs,ha1,KLk,hg⟩
   ·omega
   subst ha1;obtain ⟨y,hy⟩:∃ y,l[k]? = some y:=⟨_,List.getElem?_eq_getElem (by rw[← HL.o];exact hlt)⟩;obtain ⟨sb,so,ha9,bl⟩:=HR.o.at hy;obtain ⟨sb',so',ha8,hxs,hxl⟩:=HX.o (by omega);rw[ha9] at ha8;cases ha8;clear ha9;have hlk:(l.take k).length=k:=by rw[List.length_take, ← HL.o];omega
   obtain ⟨ca,ccp,q0,q1,_⟩:=bl.c0;have hr0:rs[k * 5]? = some (.slice ca y.code.length ccp):=by
    rw[KLk.rest (k * 5) (by rw[hlk];exact Nat.le_refl _)];exact Qg hxl hxs (by omega) q0
   have p0:=(qg KLk.own hr0).2;have z0:=KLk.own.frozenAt (k * 5);have KLB:=hid KLk;have BLB:=hid bl;have HXS:=hid (And.intro hxs hxl);have HQ1:=hid q1;have YY:=hid (HY.o y (List.mem_of_getElem? hy));have HYK:=hid hy;have HCI:=hid (zgO (cp:=ccp) (q1.quiet InC.stays HK.o) YY.o.1);obtain ⟨m,hm⟩:∃ m,m=y.code.length:=⟨_,rfl⟩;have HM:=hid hm;rw[← hm] at HCI p0;clear hxs hxl bl KLk q0 q1 hr0 hy HB hm;go_wp2_with fail;refine HCI.o.mono ?_;rintro e w2 ⟨a2,cap2,rfl,d2,k2⟩;have K2:=hid k2;have D2:=hid d2;have own2:=zh KLB.o.own k2 (fun _ _=>by simp);have p2:w2.cell? ⟨g,k * 5,none⟩=some (.slice ca m ccp):=zb k2 p0;have z2:=own2.frozenAt (k * 5);have OW2:=hid own2;clear HCI d2 k2 p0 z0 own2;go_upto_region 6 with fail;obtain ⟨xs2,hx2,C0⟩:∃ xs2,(m≠0→∃ b off,ca=some ⟨b,off,none⟩∧(∀ m u,xs2[m]? = some u→wk.cell? ⟨b,off+m,none⟩=some u)∧xs2.length=m * 6)∧CdI wk (w2.setCell ⟨g,k * 5,none⟩ (.slice a2 m cap2)) a2 m cap2 y.code 0 xs2:=by
    have glt:g<wk.heap.size:=(KLB.o.own.lt g rfl).2;rcases D2.o with ⟨e1,e2,e3⟩ | ⟨g2,xs2,e1,own,hg2,hx⟩
    ·exact ⟨[],fun hn=>absurd e2 hn,.inl ⟨e1,e2,e3⟩⟩
    ·refine ⟨xs2,fun h0=>hx (fun e=>h0 (by rw[HM.o,e];rfl)),.inr ⟨g2,xs2,e1,⟨zh own (za.setCell [g] _ _ _ (List.mem_singleton.2 rfl)) (fun b hb hm=> ?_),fun j y hy=>by simp at hy,fun _ _=>rfl⟩,hg2⟩⟩
     simp[Value.ownBlock] at hb;rw[List.mem_singleton] at hm;omega
   have HX2:=hid hx2;have CD0:=hid C0;have O3:=hid (OW2.o.stored (k * 5) (.slice a2 m cap2)).1;have KG:Box (za [g] wk (w2.setCell ⟨g,k * 5,none⟩ (.slice a2 m cap2))):=hid ((K2.o.mono fun _ hz=>by cases hz).step (za.setCell _ _ _ _ (List.mem_singleton.2 rfl)));have hrl:k * 5<rs.length:=by rw[KLB.o.own.1];omega
   have HRL:=hid hrl;generalize w2.setCell ⟨g,k * 5,none⟩ (.slice a2 m cap2)=w3 at *;clear p2 z2 OW2 D2 K2 hx2 C0 hrl;have p3:=(qg O3.o (List.getElem?_set_self HRL.o)).2;have hm1:m≤1000:=by have:=HM.o;have:=YY.o.1;omega
   go_wp2_with fail
   go_loopw [30] (fun iv wq=>∃ i:Nat,i≤m∧iv=int i64 (i:Int)∧Box (CdI wk wq a2 m cap2 y.code i xs2)∧Box (wq.ownsRow w.heap.size 68 5 (.slice (some ⟨g,0,none⟩) n cap) n (rs.set (k * 5) (.slice a2 m cap2)))∧Box (za [g] wk wq)) (fun iv _=>m - (intOf iv).toNat)
   case atStart=>exact ⟨0,by omega,rfl,CD0,O3,KG⟩
   case round=>
    obtain ⟨i,hi,rfl,HD,HO,HG⟩:=hrel;clear CD0 O3 KG p3;by_cases hli:i<m
    ·have hli':(i:Int)<(m:Int):=by omega
     rcases HD.o with ⟨_,h0,_⟩ | ⟨g2,rs2,ha2,KLi,hg2⟩
     ·omega
     subst ha2;obtain ⟨x,hx⟩:∃ x,y.code[i]? = some x:=⟨_,List.getElem?_eq_getElem (by rw[← HM.o];exact hli)⟩;obtain ⟨ib,io,hca,ic⟩:=HQ1.o.at hx;obtain ⟨ib',io',hca',hxs,hxl⟩:=HX2.o (by omega);rw[hca] at hca';cases hca';clear hca;have hlk2:(y.code.take i).length=i:=by rw[List.length_take, ← HM.o];omega
     obtain ⟨xa,xcp,q5,q6,_⟩:=ic.c5;have cell:∀ (j:Nat) (u:Value),j<6→w.cell? ⟨ib,io+i * 6+j,none⟩=some u→xs2[i * 6+j]? = some u∧wr.cell? ⟨g2,i * 6+j,none⟩=some u:=fun j u hj hu=>by
      have h2:=Qg hxl hxs (m:=i * 6+j) (by omega) (by rw[← Nat.add_assoc];exact zb HK.o hu);exact ⟨h2,(qg KLi.own ((KLi.rest _ (by rw[hlk2];omega)).trans h2)).2⟩
     have x0:=cell 0 _ (by omega) ic.c0.1;have x1:=cell 1 _ (by omega) ic.c1.1;have x2:=cell 2 _ (by omega) ic.c2.1;have x3:=cell 3 _ (by omega) ic.c3.1;have x4:=cell 4 _ (by omega) ic.c4.1;have x5:=cell 5 _ (by omega) q5;have y5:=KLi.own.frozenAt (i * 6+5);have XX:=hid (And.intro x0.1 (And.intro x1.1 (And.intro x2.1 (And.intro x3.1 x4.1))));have HB64:Box (b64 x.op∧b64 x.dst∧b64 x.a∧b64 x.b∧b64 x.n):=hid ⟨ic.c0.2,ic.c1.2,ic.c2.2,ic.c3.2,ic.c4.2⟩;have z0:wr.cell? ⟨g2,i * 6,none⟩=some (int i64 x.op):=x0.2;obtain ⟨-,z1⟩:=x1;obtain ⟨-,z2⟩:=x2;obtain ⟨-,z3⟩:=x3;obtain ⟨-,z4⟩:=x4;obtain ⟨-,z5⟩:=x5;have p3:=(qg HO.o (List.getElem?_set_self HRL.o)).2;have HGW:Box (za [] w wr):=hid (HK.o.trans HG.o (fun z hz hl=>by rw[List.mem_singleton.1 hz] at hl;omega));have HCL:=hid fun (w':World) (k9:za [] wr w')=>zcx (cp:=xcp) (q6.quiet zI.stays (HGW.o.quiet k9)) (YY.o.2 x (List.mem_of_getElem? hx));have KLI:=hid KLi;have HX9:=hid hx;clear cell ic q5 q6 hx hxs hxl KLi HD;go_upto_region 9 with fail;have P9:=hid fun (w':World) (k9:za [] wr w')=>zb k9 p3;have N9:=hid (ze wr (.cells #[int i64 x.op,int i64 x.dst,int i64 x.a,int i64 x.b,int i64 x.n,.slice xa x.args.length xcp] 65));have A9:=hid (za.alloc [] wr (.cells #[int i64 x.op,int i64 x.dst,int i64 x.a,int i64 x.b,int i64 x.n,.slice xa x.args.length xcp] 65));have Z9:=hid fun (w':World) (k9:za [] wr w')=>And.intro (zb k9 z5) ((zh KLI.o.own k9 (fun _ _=>by simp)).frozenAt (i * 6+5));generalize wr.alloc (.cells #[int i64 x.op,int i64 x.dst,int i64 x.a,int i64 x.b,int i64 x.n,.slice xa x.args.length xcp] 65)=wz at *;have NG:Box (g ∉ [g2]):=hid fun hm=>by
      have h1:=(KLB.o.own.lt g rfl).2;rw[List.mem_singleton.1 hm] at h1;omega
     have NW:Box (wr.heap.size ∉ [g2]):=hid fun hm=>by
      have h1:=(KLI.o.own.lt g2 rfl).2;rw[← List.mem_singleton.1 hm] at h1;omega
     have c5:=zc N9.o 5;have c3:=P9.o wz A9.o;have kd:za [] wz wz.drew:=za.drew _ _;clear z0 z1 z2 z3 z4 z5 p3 y5
     go_region_held3 (fun w'=>w'.cell? ⟨g,k * 5,none⟩=some (.slice (some ⟨g2,0,none⟩) m cap2)∧w'.cell? ⟨wr.heap.size,5,none⟩=some (.slice xa x.args.length xcp)) (go_keep) (first
      | (go_at_call 81;refine (HCL.o _ (A9.o.quiet kd)).mono ?_;rintro e5 w5 ⟨v5,rfl,r5,k5⟩;obtain ⟨a5,c55,e5⟩:=ZH r5;subst e5;have R5:=hid r5;have kk5:=kd.quiet k5;have f50:=P9.o _ (A9.o.quiet kk5);have f51:=zc (zd N9.o kk5) 5;obtain ⟨f52,f53⟩:=Z9.o _ (A9.o.quiet kk5);have s50:=((za.setCell [g2] w5 ⟨g2,i * 6+5,none⟩ (.slice a5 x.args.length c55) (List.mem_singleton.2 rfl)).cell (block_lt_of_cell f50) NG.o).trans f50;have s51:=((za.setCell [g2] w5 ⟨g2,i * 6+5,none⟩ (.slice a5 x.args.length c55) (List.mem_singleton.2 rfl)).cell (block_lt_of_cell f51) NW.o).trans f51;clear r5 k5))
     all_goals
      have KC:=hid (A9.o.quiet kk5)
      have CD:Box (CdI wk (w5.setCell ⟨g2,i * 6+5,none⟩ (.slice a5 x.args.length c55)) (some ⟨g2,0,none⟩) m cap2 y.code (i+1) xs2):=hid (CdI.step KLI.o hg2 hli HM.o HX9.o KC.o (jO.sub _ _ _ _ (Sub.down _ A9.o.size) R5.o) (fun j u hu hj=>by
       match j,hj with
       | 0,_=>cases hu;exact XX.o.1
       | 1,_=>cases hu;exact XX.o.2.1
       | 2,_=>cases hu;exact XX.o.2.2.1
       | 3,_=>cases hu;exact XX.o.2.2.2.1
       | 4,_=>cases hu;exact XX.o.2.2.2.2) HB64.o)
      have OD:=hid (zh (zh HO.o KC.o (fun _ _=>by simp)) (za.setCell [g2] w5 ⟨g2,i * 6+5,none⟩ (.slice a5 x.args.length c55) (List.mem_singleton.2 rfl)) (fun b hb hm=>by
       simp[Value.ownBlock] at hb;subst hb
       exact NG.o hm))
      have GD:Box (za [g] wk (w5.setCell ⟨g2,i * 6+5,none⟩ (.slice a5 x.args.length c55))):=hid ((HG.o.quiet KC.o).trans (za.setCell [g2] _ _ _ (List.mem_singleton.2 rfl)) (fun z hz hl=>by rw[List.mem_singleton.1 hz] at hl;omega));clear f50 f51 f52 f53 s50 s51 kk5 kd c5 c3 HO HG;generalize w5.setCell ⟨g2,i * 6+5,none⟩ (.slice a5 x.args.length c55)=w6 at *;go_wp2_with fail;go_roundw
      case rel=>exact ⟨i+1,by omega,by go_num,CD,OD,GD⟩
      case measure=>simp[intOf];omega
    ·obtain rfl:m=i:=by omega
     have CA:=hid (HD.o.all HM.o hm1)
     have BK:Box (BkI w wr (some ⟨g,0,none⟩) n cap l (k+1) xs):=hid (by
      refine .inr ⟨g,rs.set (k * 5) (.slice a2 m cap2),rfl,?_,hg⟩;have hlk:(l.take k).length=k:=by rw[List.length_take, ← HL.o];omega
      rw[List.take_add_one,HYK.o];have glt:g<wk.heap.size:=(KLB.o.own.lt g rfl).2;have cellb:∀ (j:Nat) (u:Value),j<5→w.cell? ⟨sb,so+k * 5+j,none⟩=some u→xs[k * 5+j]? = some u:=fun j u hj hu=>Qg HXS.o.2 HXS.o.1 (by omega) (by rw[← Nat.add_assoc];exact hu);refine KLB.o.next BlV.sub (Nat.lt_succ_self g) HG.o HO.o (fun q hq=> ?_) (v:=agg #[.slice a2 y.code.length cap2,int i64 y.fin,int i64 y.reg,int i64 y.to,int i64 y.els]) ⟨a2,cap2,rfl,zjF.sub _ _ _ _ (Sub.down _ glt) CA.o,BLB.o.c1.2,BLB.o.c2.2,BLB.o.c3.2,BLB.o.c4.2⟩ (fun j hj=> ?_)
      ·rw[hlk] at hq
       rw[List.getElem?_set_ne (by omega)]
      ·rw[hlk]
       match j,hj with
       | 0,_=>rw[Nat.add_zero,List.getElem?_set_self HRL.o,HM.o];rfl
       | 1,_=>rw[List.getElem?_set_ne (by omega),KLB.o.rest _ (by rw[hlk];omega),cellb 1 _ (by omega) BLB.o.c1.1];rfl
       | 2,_=>rw[List.getElem?_set_ne (by omega),KLB.o.rest _ (by rw[hlk];omega),cellb 2 _ (by omega) BLB.o.c2.1];rfl
       | 3,_=>rw[List.getElem?_set_ne (by omega),KLB.o.rest _ (by rw[hlk];omega),cellb 3 _ (by omega) BLB.o.c3.1];rfl
       | 4,_=>rw[List.getElem?_set_ne (by omega),KLB.o.rest _ (by rw[hlk];omega),cellb 4 _ (by omega) BLB.o.c4.1];rfl)
     have HKW:Box (za [] w wr):=hid (HK.o.trans HG.o (fun z hz hl=>by rw[List.mem_singleton.1 hz] at hl;omega));clear HD HO HG CA;go_wp2_with fail;go_roundw
     case rel=>exact ⟨k+1,by omega,by go_num,BK,HKW⟩
     case measure=>simp[intOf];omega
  ·obtain rfl:n=k:=by omega
   have BA:=hid (HB.o.all HL.o hl);have HKW:=hid HK.o;clear HB HK;go_wp2_with fail;go_ret;exact ⟨_,rfl,by rw[← HL.o] at BA;exact BA.o,HKW.o⟩
theorem zfL{l:List (List (Int × Int))}(h:zq w 1 (SlC 2 TyC) a l)(hl:l.length≤1000):Calls Tryz.prog 77 #[.slice a l.length cp] w (CpP w l.length 1 47 fun xs=>l≠[]→∃ b off,a=some ⟨b,off,none⟩∧(∀ m u,xs[m]? = some u→w.cell? ⟨b,off+m,none⟩=some u)∧xs.length=l.length * 1):=by
 cases a with
 | none=>
  have e:l=[]:=by
   rcases h with e | ⟨b,off,e,_⟩
   ·exact e
   ·cases e
  subst e;refine (zet 0 cp w).mono ?_;rintro e w' ⟨rfl,k⟩;exact ⟨none,0,rfl,.inl ⟨rfl,rfl,rfl⟩,k⟩
 | some ad=>
  by_cases e:l=[]
  ·subst e
   refine (zaz ad 0 cp [] w rfl (fun j u hu=>by simp at hu) (fun u hu=>by cases hu) (by omega)).mono ?_;rintro e w' ⟨g,cap,rfl,own,hg,k⟩;exact ⟨_,cap,rfl,.inr ⟨g,[],rfl,own,hg,fun h=>absurd rfl h⟩,k⟩
  ·rcases h with e' | ⟨b,off,e',hr⟩
   ·exact absurd e' e
   ·cases e'
    obtain ⟨xs,x1,x2,x3⟩:=zhg zlB l off hr;refine (zaz ⟨b,off,none⟩ l.length cp xs w x1 (fun j u hu=>by rw[ji];exact x2 j u hu) x3 (by omega)).mono ?_;rintro e9 w' ⟨g,cap,rfl,own,hg,k⟩;exact ⟨_,cap,rfl,.inr ⟨g,xs,rfl,own,hg,fun _=>⟨b,off,rfl,x2,x1⟩⟩,k⟩
theorem zgj{l:List (Int × Int × List Int)}(h:zq w 3 ImC a l)(hl:l.length≤1000):Calls Tryz.prog 78 #[.slice a l.length cp] w (CpP w l.length 3 80 fun xs=>l≠[]→∃ b off,a=some ⟨b,off,none⟩∧(∀ m u,xs[m]? = some u→w.cell? ⟨b,off+m,none⟩=some u)∧xs.length=l.length * 3):=by
 cases a with
 | none=>
  have e:l=[]:=by
   rcases h with e | ⟨b,off,e,_⟩
   ·exact e
   ·cases e
  subst e;refine (zho 0 cp w).mono ?_;rintro e w' ⟨rfl,k⟩;exact ⟨none,0,rfl,.inl ⟨rfl,rfl,rfl⟩,k⟩
 | some ad=>
  by_cases e:l=[]
  ·subst e
   refine (zco ad 0 cp [] w rfl (fun j u hu=>by simp at hu) (fun u hu=>by cases hu) (by omega)).mono ?_;rintro e w' ⟨g,cap,rfl,own,hg,k⟩;exact ⟨_,cap,rfl,.inr ⟨g,[],rfl,own,hg,fun h=>absurd rfl h⟩,k⟩
  ·rcases h with e' | ⟨b,off,e',hr⟩
   ·exact absurd e' e
   ·cases e'
    obtain ⟨xs,x1,x2,x3⟩:=zhg zlO l off hr;refine (zco ⟨b,off,none⟩ l.length cp xs w x1 (fun j u hu=>by rw[ji];exact x2 j u hu) x3 (by omega)).mono ?_;rintro e9 w' ⟨g,cap,rfl,own,hg,k⟩;exact ⟨_,cap,rfl,.inr ⟨g,xs,rfl,own,hg,fun _=>⟨b,off,rfl,x2,x1⟩⟩,k⟩
theorem zh3{l:List (Fu8)}(h:zq w 3 FuC a l)(hl:l.length≤1000):Calls Tryz.prog 79 #[.slice a l.length cp] w (CpP w l.length 3 50 fun xs=>l≠[]→∃ b off,a=some ⟨b,off,none⟩∧(∀ m u,xs[m]? = some u→w.cell? ⟨b,off+m,none⟩=some u)∧xs.length=l.length * 3):=by
 cases a with
 | none=>
  have e:l=[]:=by
   rcases h with e | ⟨b,off,e,_⟩
   ·exact e
   ·cases e
  subst e;refine (zgP 0 cp w).mono ?_;rintro e w' ⟨rfl,k⟩;exact ⟨none,0,rfl,.inl ⟨rfl,rfl,rfl⟩,k⟩
 | some ad=>
  by_cases e:l=[]
  ·subst e
   refine (zbN ad 0 cp [] w rfl (fun j u hu=>by simp at hu) (fun u hu=>by cases hu) (by omega)).mono ?_;rintro e w' ⟨g,cap,rfl,own,hg,k⟩;exact ⟨_,cap,rfl,.inr ⟨g,[],rfl,own,hg,fun h=>absurd rfl h⟩,k⟩
  ·rcases h with e' | ⟨b,off,e',hr⟩
   ·exact absurd e' e
   ·cases e'
    obtain ⟨xs,x1,x2,x3⟩:=zhg zl4 l off hr;refine (zbN ⟨b,off,none⟩ l.length cp xs w x1 (fun j u hu=>by rw[ji];exact x2 j u hu) x3 (by omega)).mono ?_;rintro e9 w' ⟨g,cap,rfl,own,hg,k⟩;exact ⟨_,cap,rfl,.inr ⟨g,xs,rfl,own,hg,fun _=>⟨b,off,rfl,x2,x1⟩⟩,k⟩
theorem Qm{T:Nat}(h:w.ownsRow B T c (.slice (some ⟨g,0,none⟩) n cap) n rs):∃ cs,w.heap[g]? = some (.cells cs T (0,0)):=by
 rcases h.2 with ⟨h',_⟩ | ⟨g',cap',cur,h',_,hg,_⟩
 ·simp at h'
 ·simp only[Value.slice.injEq,Option.some.injEq,Addr.mk.injEq,and_true,true_and] at h'
  obtain ⟨rfl,rfl⟩:=h';exact ⟨_,hg⟩
theorem Zk{T:Nat}(h:w.ownsRow B T c (.slice (some ⟨g,0,none⟩) n cap) n rs){b T':Nat}{cs:Array Value}(hb:w.heap[b]? = some (.cells cs T' (0,0)))(hT:T'≠T):b≠g:=by
 rintro rfl;obtain ⟨cs',h'⟩:=Qm h;rw[hb] at h';simp at h';exact hT h'.2
theorem zjI{B' T:Nat}(h:w.ownsRow B T c (.slice (some ⟨g,0,none⟩) n cap) n rs)(hB:B'≤B):w.ownsRow B' T c (.slice (some ⟨g,0,none⟩) n cap) n rs:=by
 refine ⟨h.1,?_⟩;rcases h.2 with h' | ⟨g',cap',cur,h',hb,hg⟩
 ·exact .inl h'
 ·exact .inr ⟨g',cap',cur,h',Nat.le_trans hB hb,hg⟩
def LsI{α:Type}(V:World→Value→α→Prop)(c:Nat)(T:TypeId)(w0 wr:World)(A:Nat)(a:Option Addr)(n cap:Nat)(l:List α)(k:Nat)(xs:List Value):Prop:=
 (a=none∧n=0∧cap=0)∨∃ g rs,a=some ⟨g,0,none⟩∧KL V wr A w0.heap.size g n c cap T (l.take k) rs xs∧w0.heap.size≤g∧g<A
theorem LsI.quiet{α:Type}{V:World→Value→α→Prop}(hV:JK V){l:List α}(h:LsI V c T w0 wr A a n cap l k xs)(q:za [] wr w'):LsI V c T w0 w' A a n cap l k xs:=by
 rcases h with h | ⟨g,rs,h1,h2,h3⟩
 ·exact .inl h
 ·exact .inr ⟨g,rs,h1,h2.quiet hV q,h3⟩
theorem LsI.far{α:Type}{V:World→Value→α→Prop}(hV:JK V){l:List α}(h:LsI V c T w0 wr A a n cap l k xs){b T':Nat}{cs:Array Value}(q:za [b] wr w')(hb:b<A)(ht:wr.heap[b]? = some (.cells cs T' (0,0)))(hT:T'≠T):LsI V c T w0 w' A a n cap l k xs:=by
 rcases h with h | ⟨g,rs,h1,h2,h3⟩
 ·exact .inl h
 ·exact .inr ⟨g,rs,h1,h2.far hV q hb (Zk h2.own ht hT),h3⟩
theorem LsI.all{α:Type}{V:World→Value→α→Prop}{R:World→Nat→Nat→α→Prop}(hV:JK V)(hL:zbj c V R){l:List α}(h:LsI V c T w0 wr A a n cap l n xs)(hn:n=l.length)(hm:n≤1000):SlV c R (zQ w0.heap.size wr) (.slice a l.length cap) l:=by
 rcases h with ⟨rfl,h0,rfl⟩ | ⟨g,rs,rfl,h2,h3,h4⟩
 ·have:l=[]:=List.eq_nil_of_length_eq_zero (by omega)
  subst this;exact ⟨none,0,rfl,.inl rfl,Nat.le_refl _,Nat.zero_le _⟩
 ·subst hn
  rw[List.take_length] at h2;exact h2.rows hV hL (by omega) rfl (by unfold maxLen;omega) h2.own.1.symm
theorem zab{wp:World}(k:za [] w wp)(h:∃ b off,a=some ⟨b,off,none⟩∧(∀ m u,xs[m]? = some u→wp.cell? ⟨b,off+m,none⟩=some u)∧xs.length=n * c):∃ b off,a=some ⟨b,off,none⟩∧∀ m u,m<n * c→w.cell? ⟨b,off+m,none⟩=some u→xs[m]? = some u:=by
 obtain ⟨b,off,h1,h2,h3⟩:=h;exact ⟨b,off,h1,fun m u hm hu=>Qg h3 h2 hm (zb k hu)⟩
theorem LsI.zero{α:Type}{V:World→Value→α→Prop}{wz:World}{l:List α}{hx:List Value→Prop}(d:(a=none∧n=0∧cap=0)∨∃ g xs,a=some ⟨g,0,none⟩∧wc.ownsRow B T c (.slice (some ⟨g,0,none⟩) n cap) n xs∧B≤g∧hx xs)(hB:w0.heap.size≤B)(k:za [] wc wz)(hA:wc.heap.size≤A):∃ xs,(n≠0→hx xs)∧LsI V c T w0 wz A a n cap l 0 xs:=by
 rcases d with ⟨e1,e2,e3⟩ | ⟨g,xs,e1,own,hg,h⟩
 ·exact ⟨[],fun hn=>absurd e2 hn,.inl ⟨e1,e2,e3⟩⟩
 ·refine ⟨xs,fun _=>h,.inr ⟨g,xs,e1,⟨zh (zjI own hB) k (fun _ _=>by simp),fun j y hy=>by simp at hy,fun _ _=>rfl⟩,Nat.le_trans hB hg,Nat.lt_of_lt_of_le (own.lt g rfl).2 hA⟩⟩
theorem LsI.next{α:Type}{V:World→Value→α→Prop}(hV:JK V){l:List α}{rs':List Value}(h:KL V wr A w0.heap.size g n c cap T (l.take k) rs xs)(hg:w0.heap.size≤g)(hA:g<A){y:α}(hy:l[k]? = some y)(kk:za [g] wr w')(own':w'.ownsRow w0.heap.size T c (.slice (some ⟨g,0,none⟩) n cap) n rs')(same:∀ m,m<k * c∨k * c+c≤m→rs'[m]? = rs[m]?)(hv:V (zQ A w') v y)(hc:∀ i,i<c→rs'[k * c+i]? = v.cells[i]?):LsI V c T w0 w' A (some ⟨g,0,none⟩) n cap l (k+1) xs:=by
 have hl:(l.take k).length=k:=by
  have:=(List.getElem?_eq_some_iff.1 hy).1;rw[List.length_take];omega
 refine .inr ⟨g,rs',rfl,?_,hg,hA⟩;rw[List.take_add_one,hy];refine h.next hV hA kk own' ?_ hv ?_
 ·rw[hl];exact same
 ·rw[hl];exact hc
theorem SlV.put{α:Type}{R:World→Nat→Nat→α→Prop}(hR:zbC R){w5:World}{i:Nat}{u:Value}{l:List α}(hA:A≤wc.heap.size)(hg:g<A)(h:SlV c R (zQ wc.heap.size w5) v l):SlV c R (zQ A (w5.setCell ⟨g,i,none⟩ u)) v l:=
 SlV.sub hR _ _ _ _ ((Sub.down w5 hA).trans (Sub.kept (za.setCell [g] w5 ⟨g,i,none⟩ u (List.mem_singleton.2 rfl)) (fun z hz=>by rw[List.mem_singleton.1 hz];exact hg))) h
structure KpS (w0 wr:World) (A q:Nat) (P:Pr8) (a1 a2 a3:Option Addr) (n1 n2 n3 c1 c2 c3 k1 k2 k3:Nat) (x1 x2 x3:List Value):Prop where
 box:wr.heap[q]? = some (.cells #[.slice a1 n1 c1,.slice none 0 0,.slice none 0 0,.slice a2 n2 c2,.slice a3 n3 c3,int i64 0] 57 (0,0))
 l1:LsI QO 1 47 w0 wr A a1 n1 c1 P.recs k1 x1
 l2:LsI ImV 3 80 w0 wr A a2 n2 c2 P.ims k2 x2
 l3:LsI FuV 3 50 w0 wr A a3 n3 c3 P.funcs k3 x3
 keep:za [] w0 wr
 low:w0.heap.size≤q
section
variable {w0 wr w':World}{A q:Nat}{P:Pr8}{a1 a2 a3:Option Addr}{n1 n2 n3 c1 c2 c3 k1 k2 k3:Nat}{x1 x2 x3:List Value}
theorem KpS.quiet(h:KpS w0 wr A q P a1 a2 a3 n1 n2 n3 c1 c2 c3 k1 k2 k3 x1 x2 x3)(k:za [] wr w'):KpS w0 w' A q P a1 a2 a3 n1 n2 n3 c1 c2 c3 k1 k2 k3 x1 x2 x3:=
 ⟨zd h.box k,h.l1.quiet QO.sub k,h.l2.quiet ImV.sub k,h.l3.quiet FuV.sub k,h.keep.quiet k,h.low⟩
theorem KpS.all(h:KpS w0 wr A q P a1 a2 a3 n1 n2 n3 c1 c2 c3 n1 n2 n3 x1 x2 x3)(e1:n1=P.recs.length)(e2:n2=P.ims.length)(e3:n3=P.funcs.length)(m1:n1≤1000)(m2:n2≤1000)(m3:n3≤1000):PrC (zQ w0.heap.size wr) q 0 { P with sigs:=[],ifs:=[],main:=0 }:=by
 have s1:=h.l1.all QO.sub SlV.links e1 m1;have s2:=h.l2.all ImV.sub ImV.links e2 m2;have s3:=h.l3.all FuV.sub FuV.links e3 m3;have hc:∀ i,(zQ w0.heap.size wr).cell? ⟨q,i,none⟩=(#[.slice a1 n1 c1,.slice none 0 0,.slice none 0 0,.slice a2 n2 c2,.slice a3 n3 c3,int i64 0]:Array Value)[i]? := fun i=>by
  rw[World.cell?_of_block (w:=wr) (Qs h.low)];exact zc h.box i
 subst e1 e2 e3;exact ⟨⟨a1,c1,hc 0,s1.slice.2⟩,⟨none,0,hc 1,.inl rfl,Nat.le_refl _,Nat.zero_le _⟩,⟨none,0,hc 2,.inl rfl,Nat.le_refl _,Nat.zero_le _⟩,⟨a2,c2,hc 3,s2.slice.2⟩,⟨a3,c3,hc 4,s3.slice.2⟩,⟨hc 5,by show b64 0;unfold b64;omega⟩⟩
theorem KpS.put1(h:KpS w0 wr A q P a1 a2 a3 n1 n2 n3 c1 c2 c3 k1 k2 k3 x1 x2 x3){g B:Nat}{rs:List Value}(own:wr.ownsRow B 47 1 (.slice (some ⟨g,0,none⟩) n1 c1) n1 rs)(hg:w0.heap.size≤g)(hA:g<A)(k:za [g] wr w'){j1:Nat}(l1:LsI QO 1 47 w0 w' A a1 n1 c1 P.recs j1 x1):KpS w0 w' A q P a1 a2 a3 n1 n2 n3 c1 c2 c3 j1 k2 k3 x1 x2 x3:=by
 obtain ⟨cs,ht⟩:=Qm own;have nq:=Zk own h.box (by decide);exact ⟨(k.block q (zt h.box) (by simpa using nq)).trans h.box,l1,h.l2.far ImV.sub k hA ht (by decide),h.l3.far FuV.sub k hA ht (by decide),h.keep.trans k (fun x hx hl=>by rw[List.mem_singleton.1 hx] at hl;omega),h.low⟩
theorem KpS.put2(h:KpS w0 wr A q P a1 a2 a3 n1 n2 n3 c1 c2 c3 k1 k2 k3 x1 x2 x3){g B:Nat}{rs:List Value}(own:wr.ownsRow B 80 3 (.slice (some ⟨g,0,none⟩) n2 c2) n2 rs)(hg:w0.heap.size≤g)(hA:g<A)(k:za [g] wr w'){j2:Nat}(l2:LsI ImV 3 80 w0 w' A a2 n2 c2 P.ims j2 x2):KpS w0 w' A q P a1 a2 a3 n1 n2 n3 c1 c2 c3 k1 j2 k3 x1 x2 x3:=by
 obtain ⟨cs,ht⟩:=Qm own;have nq:=Zk own h.box (by decide);exact ⟨(k.block q (zt h.box) (by simpa using nq)).trans h.box,h.l1.far QO.sub k hA ht (by decide),l2,h.l3.far FuV.sub k hA ht (by decide),h.keep.trans k (fun x hx hl=>by rw[List.mem_singleton.1 hx] at hl;omega),h.low⟩
theorem KpS.put3(h:KpS w0 wr A q P a1 a2 a3 n1 n2 n3 c1 c2 c3 k1 k2 k3 x1 x2 x3){g B:Nat}{rs:List Value}(own:wr.ownsRow B 50 3 (.slice (some ⟨g,0,none⟩) n3 c3) n3 rs)(hg:w0.heap.size≤g)(hA:g<A)(k:za [g] wr w'){j3:Nat}(l3:LsI FuV 3 50 w0 w' A a3 n3 c3 P.funcs j3 x3):KpS w0 w' A q P a1 a2 a3 n1 n2 n3 c1 c2 c3 k1 k2 j3 x1 x2 x3:=by
 obtain ⟨cs,ht⟩:=Qm own;have nq:=Zk own h.box (by decide);exact ⟨(k.block q (zt h.box) (by simpa using nq)).trans h.box,h.l1.far QO.sub k hA ht (by decide),h.l2.far ImV.sub k hA ht (by decide),l3,h.keep.trans k (fun x hx hl=>by rw[List.mem_singleton.1 hx] at hl;omega),h.low⟩
end
section
variable {W0 w w':World}{mp pp fg:Nat}{P:Pr8}{m:Ma}{F:List Nat}{hb fc:Nat}{rv:Value}{oa:Option Addr}{oc:Nat}{os:List Ob}{Fh:List Nat}
theorem zcX(h:MaS W0 w mp pp fg P m F hb fc rv oa oc os Fh):Calls Tryz.prog 39 #[pointer (some ⟨mp,0,none⟩)] w fun e w'=>e=.returned (vlV m.res)∧za [] w w':=by
 have HI:=hid fun (w':World) (k:za [] w w')=>QR (zc (h.quiet k).box 0);have H:=hid h;clear h;go_enter Tryz.func39,Tryz.ntmps39;go_wp2_with fail;have A0:=hid (za.alloc [] w (.cells #[int i64 0,int i64 0,.bool false] 39));have N0:=hid (ze w (.cells #[int i64 0,int i64 0,.bool false] 39));generalize w.alloc (.cells #[int i64 0,int i64 0,.bool false] 39)=wz at *;refine (HI.o _ A0.o).mono ?_;rintro e w2 ⟨rfl,k2⟩;have M2:=hid (H.o.quiet (A0.o.quiet k2));have K2':=hid k2;have n2:=zd N0.o k2;have p0:=zc n2 0;have p1:=zc n2 1;have p2:=zc n2 2;have d8:=zc M2.o.box 8;have d9:=zc M2.o.box 9;have d10:=zc M2.o.box 10;have y0:=zg n2 0;have y1:=zg n2 1;have y2:=zg n2 2;clear k2 n2;go_wp2_with fail
 exact bodyPost_ret (v:=vlV m.res) (by
  have q:∀ (i:Nat),i<3→(((w2.setCell ⟨w.heap.size,0,none⟩ (int i64 m.res.1)).setCell ⟨w.heap.size,1,none⟩ (int i64 m.res.2.1)).setCell ⟨w.heap.size,2,none⟩ (.bool m.res.2.2)).cell? ⟨w.heap.size,i,none⟩=(#[int i64 m.res.1,int i64 m.res.2.1,.bool m.res.2.2]:Array Value)[i]? := fun i _=>zc (Jt (zd N0.o K2'.o) _ _ _) i
  simp[results,Tryz.results39,go_sem,q 0 (by omega),q 1 (by omega),q 2 (by omega)]) rfl ⟨rfl,(A0.o.quiet K2'.o).trans (jh w2 _ _ _ _) (fun x hx hl=>by rw[List.mem_singleton.1 hx] at hl;omega)⟩
theorem zgy(h:MaS W0 w mp pp fg P m F hb fc rv oa oc os Fh):Calls Tryz.prog 34 #[pointer (some ⟨mp,0,none⟩)] w fun e w'=>e=.returned (.bool m.sk)∧za [] w w':=by
 have HI:=hid (QR (zc h.box 0));have H:=hid h;clear h;go_enter Tryz.func34,Tryz.ntmps34;go_wp2_with fail;refine HI.o.mono ?_;rintro e w2 ⟨rfl,k2⟩;have M2:=hid (H.o.quiet k2);have K2:=hid k2;have d7:=zc M2.o.box 7;clear k2;go_wp2_with fail;go_ret;exact ⟨rfl,K2.o⟩
theorem zc7(h:MaS W0 w mp pp fg P m F hb fc rv oa oc os Fh):Calls Tryz.prog 33 #[pointer (some ⟨mp,0,none⟩)] w fun e w'=>e=.returned (int i64 (if m.lc=true then m.lf else -1))∧za [] w w':=by
 have HI:=hid (QR (zc h.box 0));have H:=hid h;clear h;go_enter Tryz.func33,Tryz.ntmps33;go_wp2_with fail;refine HI.o.mono ?_;rintro e w2 ⟨rfl,k2⟩;have M2:=hid (H.o.quiet k2);have K2:=hid k2;have d5:w2.cell? ⟨mp,5,none⟩=some (.bool m.lc):=zc M2.o.box 5;have d6:=zc M2.o.box 6;clear k2;cases hc:m.lc
 ·rw[hc] at d5
  go_wp2_with fail
  all_goals
   go_ret;exact ⟨rfl,K2.o⟩
 ·rw[hc] at d5
  go_wp2_with fail
  all_goals
   go_ret;exact ⟨rfl,K2.o⟩
theorem ziR(h:MaS W0 w mp pp fg P m F hb fc rv oa oc os Fh)(hn:m.bot.length≤100)(r:Nat)(hr:r<16):Calls Tryz.prog 32 #[pointer (some ⟨mp,0,none⟩),int i64 (r:Int)] w fun e w'=>e=.returned (.tuple #[vlV (m.top.get (r:Int)),.bool (m.top.rs.getD r rg0).2])∧za [] w w':=by
 have A0:=hid (za.alloc [] w (.cells #[int i64 0,int i64 0,.bool false] 39));have N0:=hid (ze w (.cells #[int i64 0,int i64 0,.bool false] 39));have HI:=hid fun (w':World) (k:za [] w w')=>QR (zc (h.quiet k).box 0);have HT:=hid fun (w':World) (k:za [] w w')=>jY (h.quiet k) hn;have H:=hid h;have g1:((r:Int)<0)=False:=by simp
 have g2:((16:Int)≤(r:Int))=False:=by simp;omega
 have g3:(r:Int)<16:=by omega
 clear h;go_enter Tryz.func32,Tryz.ntmps32;go_wp2_with fail;generalize w.alloc (.cells #[int i64 0,int i64 0,.bool false] 39)=wz at *;refine (HI.o _ A0.o).mono ?_;rintro e w2 ⟨rfl,k2⟩;have K2:=hid k2;clear k2;go_wp2_with fail;refine (HT.o _ (A0.o.quiet K2.o)).mono ?_;rintro e w3 ⟨rfl,k3⟩;have K3:=hid (K2.o.quiet k3);obtain ⟨d0,d1,d2,d3,_⟩:=(H.o.quiet (A0.o.quiet K3.o)).reg hr;have n2:=zd N0.o K3.o;have p0:=zc n2 0;have p1:=zc n2 1;have p2:=zc n2 2;have y0:=zg n2 0;have y1:=zg n2 1;have y2:=zg n2 2;clear k3 n2;go_wp2_with fail;have e8:∃ v,m.top.get (r:Int)=v:=⟨_,rfl⟩;obtain ⟨v,hv⟩:=e8;rw[hv];have HV:=hid hv;clear hv;have e9:m.top.rs[r]?.getD rg0=m.top.rs.getD r rg0:=List.getD_eq_getElem?_getD.symm;rw[e9];have e7:∃ ok,(m.top.rs.getD r rg0).2=ok:=⟨_,rfl⟩;obtain ⟨ok,hok⟩:=e7;rw[hok];have HK:=hid hok;clear hok;clear e9 g1 g2 g3 d0 d1 d2 d3 p0 p1 p2 y0 y1 y2;have KX:=hid (K3.o.quiet (za.alloc [] w3 (.cells #[int i64 v.1,int i64 v.2.1,.bool v.2.2,.bool ok] 96)));have n3:=zd N0.o KX.o;have p0:=zc n3 0;have p1:=zc n3 1;have p2:=zc n3 2;have y0:=zg n3 0;have y1:=zg n3 1;have y2:=zg n3 2;have nx:=ze w3 (.cells #[int i64 v.1,int i64 v.2.1,.bool v.2.2,.bool ok] 96);have HB:=hid (Jt n3 (int i64 v.1) (int i64 v.2.1) (.bool v.2.2));have hle:w.heap.size<w3.heap.size:=by
  have h1:=(zt (zd N0.o K3.o));omega
 have NE:w3.heap.size ∉ [w.heap.size]:=by simp;omega
 generalize w3.alloc (.cells #[int i64 v.1,int i64 v.2.1,.bool v.2.2,.bool ok] 96)=wx at *;generalize w3.heap.size=qb at *;have c0:=zc nx 0;have c1:=zc nx 1;have c2:=zc nx 2;have c3:=zc nx 3;have KS:=hid (jh wx w.heap.size (int i64 v.1) (int i64 v.2.1) (.bool v.2.2));have s0:=(KS.o.cell (block_lt_of_cell c0) NE).trans c0;have s1:=(KS.o.cell (block_lt_of_cell c1) NE).trans c1;have s2:=(KS.o.cell (block_lt_of_cell c2) NE).trans c2;have s3:=(KS.o.cell (block_lt_of_cell c3) NE).trans c3;clear n3 nx NE
 go_region_held3 (fun w'=>w'.cell? ⟨qb,0,none⟩=some (int i64 v.1)∧w'.cell? ⟨qb,1,none⟩=some (int i64 v.2.1)∧w'.cell? ⟨qb,2,none⟩=some (.bool v.2.2)∧w'.cell? ⟨qb,3,none⟩=some (.bool ok)) (go_keep) (fail)
 all_goals
  have KD:=hid (((A0.o.quiet KX.o).trans KS.o (fun x hx hl=>by rw[List.mem_singleton.1 hx] at hl;omega)).quiet (za.drew _ _));have nf:=zd HB.o (za.drew [] _);have q0:=zc nf 0;have q1:=zc nf 1;have q2:=zc nf 2;clear s0 s1 s2 s3 HB KS;generalize (((wx.setCell ⟨w.heap.size,0,none⟩ (int i64 v.1)).setCell ⟨w.heap.size,1,none⟩ (int i64 v.2.1)).setCell ⟨w.heap.size,2,none⟩ (.bool v.2.2)).drew=wf at *;go_wp2_with fail;exact bodyPost_ret (v:=.tuple #[vlV v,.bool ok]) (by simp[results,Tryz.results32,go_sem,q0,q1,q2]) rfl ⟨by rw[HV.o,HK.o],KD.o⟩
theorem zly(h:MaS W0 w mp pp fg P m F hb fc rv oa oc os Fh)(hn:m.bot.length≤100)(hs:Sm8 P):Calls Tryz.prog 22 #[pointer (some ⟨mp,0,none⟩)] w fun e w'=>e=.returned (int i64 (zhP P m.top.f m.top.b m.top.i))∧za [] w w':=by
 have HI:=hid (QR (zc h.box 0));have HT:=hid fun (w':World) (k:za [] w w')=>jY (h.quiet k) hn;have HN:=hid fun (w':World) (k:za [] w w')=>Ji (PrC.sub _ _ _ _ _ (h.quiet k).now h.prc) hs m.top.f m.top.b m.top.i;have Z:=hid fun (w':World) (k:za [] w w')=>And.intro (zc (h.quiet k).box 0) (h.quiet k).pt;clear h;go_enter Tryz.func22,Tryz.ntmps22;go_wp2_with fail;refine HI.o.mono ?_;rintro e w2 ⟨rfl,k2⟩;have K2:=hid k2;clear k2;go_upto_region 3 with fail;obtain ⟨c0,c1,c2,c3⟩:=Z.o w2 K2.o;have kd:za [] w2 w2.drew:=za.drew _ _
 go_region_held3 (fun w'=>w'.cell? ⟨mp,0,none⟩=some (pointer (some ⟨pp,0,none⟩))∧w'.cell? ⟨fg,m.bot.length * 67,none⟩=some (int i64 (m.top.f:Int))∧w'.cell? ⟨fg,m.bot.length * 67+1,none⟩=some (int i64 (m.top.b:Int))∧w'.cell? ⟨fg,m.bot.length * 67+2,none⟩=some (int i64 (m.top.i:Int))) (go_keep) (first
  | (go_at_call 52;refine (HT.o _ (K2.o.quiet kd)).mono ?_;rintro e w5 ⟨rfl,k5⟩;have kk5:=kd.quiet k5;obtain ⟨f50,f51,f52,f53⟩:=Z.o _ (K2.o.quiet kk5);clear k5)
  | (go_at_call 51;refine (HN.o _ (K2.o.quiet kk5)).mono ?_;rintro e w6 ⟨rfl,k6⟩;have kk6:=kk5.quiet k6;obtain ⟨f60,f61,f62,f63⟩:=Z.o _ (K2.o.quiet kk6);clear k6))
 all_goals
  go_wp2_with fail;go_ret;exact ⟨rfl,K2.o.quiet kk6⟩
end
theorem zlw(w:World):Calls Tryz.prog 22 #[.pointer none] w fun e w'=>e=.returned (int i64 (-1))∧za [] w w':=by
 have HI:=hid (Qc w);go_enter Tryz.func22,Tryz.ntmps22;go_wp2_with fail;refine HI.o.mono ?_;rintro e w2 ⟨rfl,k2⟩;go_wp2_with fail;go_ret;exact ⟨rfl,k2⟩
theorem zbF(w:World):Calls Tryz.prog 21 #[.pointer none] w fun e w'=>e=.returned (int i64 4)∧za [] w w':=by
 have HI:=hid (Qc w);go_enter Tryz.func21,Tryz.ntmps21;go_wp2_with fail;refine HI.o.mono ?_;rintro e w2 ⟨rfl,k2⟩;go_wp2_with fail;go_ret;exact ⟨rfl,k2⟩
theorem zdJ(w:World):Calls Tryz.prog 23 #[.pointer none] w fun e w'=>e=.returned (int i64 0)∧za [] w w':=by
 have HI:=hid (Qc w);go_enter Tryz.func23,Tryz.ntmps23;go_wp2_with fail;refine HI.o.mono ?_;rintro e w2 ⟨rfl,k2⟩;go_wp2_with fail;go_ret;exact ⟨rfl,k2⟩
theorem zcQ(w:World):Calls Tryz.prog 33 #[.pointer none] w fun e w'=>e=.returned (int i64 (-1))∧za [] w w':=by
 have HI:=hid (Qc w);go_enter Tryz.func33,Tryz.ntmps33;go_wp2_with fail;refine HI.o.mono ?_;rintro e w2 ⟨rfl,k2⟩;go_wp2_with fail;go_ret;exact ⟨rfl,k2⟩
theorem zgA(w:World):Calls Tryz.prog 34 #[.pointer none] w fun e w'=>e=.returned (.bool false)∧za [] w w':=by
 have HI:=hid (Qc w);go_enter Tryz.func34,Tryz.ntmps34;go_wp2_with fail;refine HI.o.mono ?_;rintro e w2 ⟨rfl,k2⟩;go_wp2_with fail;go_ret;exact ⟨rfl,k2⟩
end Go.Proofs.YtgmbkiagdhjpnaaGreatDoor
