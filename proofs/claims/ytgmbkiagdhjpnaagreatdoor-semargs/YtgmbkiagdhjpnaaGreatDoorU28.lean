import Derived.Test.YtgmbkiagdhjpnaaGreatDoorU27

namespace Go.Proofs.YtgmbkiagdhjpnaaGreatDoor
open Go.RowKit
open Go.Value (int pointer agg)
open Go.IntKind (i64)
set_option maxHeartbeats 8000000
set_option maxRecDepth 20000
variable {P:Pr8}{b c f mp n pp r ta tb:Nat}{w:World}
def zhQ{α:Type}(c:Nat)(R:World→Nat→Nat→α→Prop):Prop:=∀ w b o y,R w b o y→∃ us:List Value,us.length=c∧(∀ i u,us[i]? = some u→w.cell? ⟨b,o+i,none⟩=some u)∧∀ u,u∈us→u.oneCell'=true
theorem zhg{α:Type}{c:Nat}{R:World→Nat→Nat→α→Prop}(hR:zhQ c R){w:World}{b:Nat}:∀ (l:List α) (off:Nat),(∀ j y,l[j]? = some y→R w b (off+j * c) y)→∃ xs:List Value,xs.length=l.length * c∧(∀ m u,xs[m]? = some u→w.cell? ⟨b,off+m,none⟩=some u)∧∀ u,u∈xs→u.oneCell'=true
 | [],off,_=>⟨[],by simp,fun m u h=>by simp at h,fun u h=>by cases h⟩
 | q :: l,off,h=>by
  obtain ⟨us,h1,h2,h3⟩:=hR w b (off+0 * c) q (h 0 q rfl);rw[Nat.zero_mul,Nat.add_zero] at h2
  obtain ⟨xs,g1,g2,g3⟩:=zhg hR l (off+c) (fun j y hy=>by
   have:=h (j+1) y (by simpa using hy)
   rwa [show off+(j+1) * c=off+c+j * c by rw[Nat.succ_mul];omega] at this)
  refine ⟨us ++ xs,by rw[List.length_append,h1,g1,List.length_cons,Nat.succ_mul,Nat.add_comm],fun m u hm=> ?_,fun u hu=> ?_⟩
  ·by_cases hlt:m<us.length
   ·rw[List.getElem?_append_left hlt] at hm
    exact h2 m u hm
   ·rw[List.getElem?_append_right (by omega)] at hm
    have:=g2 _ u hm
    rwa [show off+c+(m - us.length)=off+m by omega] at this
  ·rcases List.mem_append.1 hu with hu | hu
   ·exact h3 u hu
   ·exact g3 u hu
theorem zf7:zhQ 1 zI:=fun w b o y h=>⟨[int i64 y],rfl,fun i u hu=>by
 cases i with
 | zero=>simp at hu;subst hu;exact h.1
 | succ i=>simp at hu,fun u hu=>by simp at hu;subst hu;rfl⟩
theorem zlB{α:Type}{R:World→Nat→Nat→α→Prop}:zhQ 1 (SlC c R):=fun w b o y ⟨a,cp,h,_⟩=>⟨[.slice a y.length cp],rfl,fun i u hu=>by
 cases i with
 | zero=>simp at hu;subst hu;exact h
 | succ i=>simp at hu,fun u hu=>by simp at hu;subst hu;rfl⟩
theorem zat{o:Nat}(us:List Value)(hl:us.length=c)(h:∀ i,i<c→w.cell? ⟨b,o+i,none⟩=us[i]?):∀ i u,us[i]? = some u→w.cell? ⟨b,o+i,none⟩=some u:=fun i u hu=>by
 rw[h i (by rw[← hl];exact (List.getElem?_eq_some_iff.1 hu).1),hu]
theorem zkM:zhQ 2 TyC:=fun w b o y h=>⟨[int i64 y.1,int i64 y.2],rfl,zat _ rfl (fun i hi=>by
 match i,hi with
 | 0,_=>exact h.c0.1
 | 1,_=>exact h.c1.1),fun u hu=>by simp at hu;rcases hu with rfl | rfl <;> rfl⟩
theorem zlO:zhQ 3 ImC:=fun w b o y h=>by
 obtain ⟨a,cp,h2,_⟩:=h.c2
 exact ⟨[int i64 y.1,int i64 y.2.1,.slice a y.2.2.length cp],rfl,zat _ rfl (fun i hi=>by
  match i,hi with
  | 0,_=>exact h.c0.1
  | 1,_=>exact h.c1.1
  | 2,_=>exact h2),fun u hu=>by simp at hu;rcases hu with rfl | rfl | rfl <;> rfl⟩
theorem zl4:zhQ 3 FuC:=fun w b o y h=>by
 obtain ⟨a,cp,h1,_⟩:=h.c1;obtain ⟨a',cp',h2,_⟩:=h.c2
 exact ⟨[int i64 y.sig,.slice a y.regs.length cp,.slice a' y.blocks.length cp'],rfl,zat _ rfl (fun i hi=>by
  match i,hi with
  | 0,_=>exact h.c0.1
  | 1,_=>exact h1
  | 2,_=>exact h2),fun u hu=>by simp at hu;rcases hu with rfl | rfl | rfl <;> rfl⟩
theorem zlF:zhQ 5 BlC:=fun w b o y h=>by
 obtain ⟨a,cp,h0,_⟩:=h.c0
 exact ⟨[.slice a y.code.length cp,int i64 y.fin,int i64 y.reg,int i64 y.to,int i64 y.els],rfl,zat _ rfl (fun i hi=>by
  match i,hi with
  | 0,_=>exact h0
  | 1,_=>exact h.c1.1
  | 2,_=>exact h.c2.1
  | 3,_=>exact h.c3.1
  | 4,_=>exact h.c4.1),fun u hu=>by simp at hu;rcases hu with rfl | rfl | rfl | rfl | rfl <;> rfl⟩
theorem zk1:zhQ 6 InC:=fun w b o y h=>by
 obtain ⟨a,cp,h5,_⟩:=h.c5
 exact ⟨[int i64 y.op,int i64 y.dst,int i64 y.a,int i64 y.b,int i64 y.n,.slice a y.args.length cp],rfl,zat _ rfl (fun i hi=>by
  match i,hi with
  | 0,_=>exact h.c0.1
  | 1,_=>exact h.c1.1
  | 2,_=>exact h.c2.1
  | 3,_=>exact h.c3.1
  | 4,_=>exact h.c4.1
  | 5,_=>exact h5),fun u hu=>by simp at hu;rcases hu with rfl | rfl | rfl | rfl | rfl | rfl <;> rfl⟩
theorem qg{B g cap:Nat}{T:TypeId}{rs:List Value}(h:w.ownsRow B T c (.slice (some ⟨g,0,none⟩) n cap) n rs){m:Nat}{u:Value}(hu:rs[m]? = some u):(zQ B w).cell? ⟨g,m,none⟩=some u∧w.cell? ⟨g,m,none⟩=some u:=by
 rcases h.2 with ⟨h',_⟩ | ⟨g',cap',cur,h',hB,hg,_⟩
 ·simp at h'
 ·simp only[Value.slice.injEq,Option.some.injEq,Addr.mk.injEq,and_true,true_and] at h'
  obtain ⟨rfl,rfl⟩:=h';have e:=(h.cellAt m (by rw[← h.1];exact (List.getElem?_eq_some_iff.1 hu).1)).trans hu;exact ⟨Q7 hB e,e⟩
theorem ji(b off:Nat)(j:Nat):(⟨b,off,none⟩:Addr).add j=⟨b,off+j,none⟩:=by unfold Addr.add;split <;> simp_all
theorem Qg{off:Nat}{xs:List Value}(hl:xs.length=n * c)(hx:∀ m u,xs[m]? = some u→w.cell? ⟨b,off+m,none⟩=some u){m:Nat}(hm:m<n * c){u:Value}(hu:w.cell? ⟨b,off+m,none⟩=some u):xs[m]? = some u:=by
 have h:=List.getElem?_eq_getElem (l:=xs) (i:=m) (by omega);rw[h];have:=hx m _ h;rw[hu] at this;exact this.symm
theorem zcu{a:Option Addr}{cp:Nat}{l:List (Int × Int)}(h:zq w 2 TyC a l)(hl:l.length≤1000):Calls Tryz.prog 80 #[.slice a l.length cp] w fun e w'=>∃ v,e=.returned v∧QO (zQ w.heap.size w') v l∧za [] w w':=by
 cases a with
 | none=>
  have e:l=[]:=by
   rcases h with e | ⟨b,off,e,_⟩
   ·exact e
   ·cases e
  subst e;refine (zhI 0 cp w).mono ?_;rintro e w' ⟨rfl,k⟩;exact ⟨_,rfl,⟨none,0,rfl,.inl rfl,Nat.le_refl _,Nat.zero_le _⟩,k⟩
 | some ad=>
  by_cases e:l=[]
  ·subst e
   refine (zbX ad 0 cp [] w rfl (fun j u hu=>by simp at hu) (fun u hu=>by cases hu) (by omega)).mono ?_;rintro e w' ⟨g,cap,rfl,own,_,k⟩;exact ⟨_,rfl,⟨_,cap,rfl,.inl rfl,Nat.zero_le _,Nat.zero_le _⟩,k⟩
  ·rcases h with e' | ⟨b,off,e',hr⟩
   ·exact absurd e' e
   ·cases e'
    obtain ⟨xs,x1,x2,x3⟩:=zhg zkM l off hr;refine (zbX ⟨b,off,none⟩ l.length cp xs w x1 (fun j u hu=>by rw[ji];exact x2 j u hu) x3 (by omega)).mono ?_;rintro e9 w' ⟨g,cap,rfl,own,hg,k⟩;refine ⟨_,rfl,⟨_,cap,rfl,.inr ⟨g,0,rfl,fun j y hy=> ?_⟩,?_,by unfold maxLen;omega⟩,k⟩
    ·have hj:=(List.getElem?_eq_some_iff.1 hy).1
     have r:=hr j y hy;rw[Nat.zero_add];exact ⟨⟨(qg own (Qg x1 x2 (by omega) r.c0.1)).1,r.c0.2⟩,⟨(qg own (Qg x1 x2 (by omega) (by rw[← Nat.add_assoc];exact r.c1.1))).1,r.c1.2⟩⟩
    ·rcases own.2 with ⟨h',_⟩ | ⟨g',cap',cur,h',_,_,hn,_⟩
     ·simp at h'
     ·simp at h'
      omega
theorem zcx{a:Option Addr}{cp:Nat}{l:List Int}(h:zq w 1 zI a l)(hl:l.length≤1000):Calls Tryz.prog 81 #[.slice a l.length cp] w fun e w'=>∃ v,e=.returned v∧jO (zQ w.heap.size w') v l∧za [] w w':=by
 cases a with
 | none=>
  have e:l=[]:=by
   rcases h with e | ⟨b,off,e,_⟩
   ·exact e
   ·cases e
  subst e;refine (zjY 0 cp w).mono ?_;rintro e w' ⟨rfl,k⟩;exact ⟨_,rfl,⟨none,0,rfl,.inl rfl,Nat.le_refl _,Nat.zero_le _⟩,k⟩
 | some ad=>
  by_cases e:l=[]
  ·subst e
   refine (zfc ad 0 cp [] w rfl (fun j u hu=>by simp at hu) (fun u hu=>by cases hu) (by omega)).mono ?_;rintro e w' ⟨g,cap,rfl,own,_,k⟩;exact ⟨_,rfl,⟨_,cap,rfl,.inl rfl,Nat.zero_le _,Nat.zero_le _⟩,k⟩
  ·rcases h with e' | ⟨b,off,e',hr⟩
   ·exact absurd e' e
   ·cases e'
    obtain ⟨xs,x1,x2,x3⟩:=zhg zf7 l off hr;refine (zfc ⟨b,off,none⟩ l.length cp xs w x1 (fun j u hu=>by rw[ji];exact x2 j u hu) x3 (by omega)).mono ?_;rintro e9 w' ⟨g,cap,rfl,own,hg,k⟩;refine ⟨_,rfl,⟨_,cap,rfl,.inr ⟨g,0,rfl,fun j y hy=> ?_⟩,?_,by unfold maxLen;omega⟩,k⟩
    ·have hj:=(List.getElem?_eq_some_iff.1 hy).1
     have r:=hr j y hy;rw[Nat.zero_add];exact ⟨(qg own (Qg x1 x2 (by omega) r.1)).1,r.2⟩
    ·rcases own.2 with ⟨h',_⟩ | ⟨g',cap',cur,h',_,_,hn,_⟩
     ·simp at h'
     ·simp at h'
      omega
theorem QR{a:Addr}(h:w.cell? ⟨mp,0,none⟩=some (.pointer (some a))):Calls Tryz.prog 49 #[pointer (some ⟨mp,0,none⟩)] w fun e w'=>e=.returned (.bool true)∧za [] w w':=by
 go_enter Tryz.func49,Tryz.ntmps49;go_wp2;go_ret;exact ⟨rfl,za.refl _ _⟩
theorem Qc(w:World):Calls Tryz.prog 49 #[.pointer none] w fun e w'=>e=.returned (.bool false)∧za [] w w':=by
 go_enter Tryz.func49,Tryz.ntmps49;go_wp2;go_ret;exact ⟨rfl,za.refl _ _⟩
theorem ziF{fg fc:Nat}(h:w.cell? ⟨mp,4,none⟩=some (.slice (some ⟨fg,0,none⟩) (n+1) fc))(hn:n≤1000):Calls Tryz.prog 52 #[pointer (some ⟨mp,0,none⟩)] w fun e w'=>e=.returned (pointer (some ⟨fg,n * 67,none⟩))∧za [] w w':=by
 go_enter Tryz.func52,Tryz.ntmps52;go_upto_region 1 with fail;go_quiet (fail);go_wp2_with fail;go_ret;exact ⟨rfl,za.drewN [] _ _⟩
theorem zcH{fb fo fcp bb bo bcp N M:Nat}(h0:w.cell? ⟨mp,0,none⟩=some (pointer (some ⟨pp,0,none⟩)))(h4:w.cell? ⟨pp,4,none⟩=some (.slice (some ⟨fb,fo,none⟩) N fcp))(hf:f<N)(h2:w.cell? ⟨fb,fo+f * 3+2,none⟩=some (.slice (some ⟨bb,bo,none⟩) M bcp))(hb:b<M)(t0:w.cell? ⟨tb,ta,none⟩=some (int i64 (f:Int)))(t1:w.cell? ⟨tb,ta+1,none⟩=some (int i64 (b:Int))):
  Calls Tryz.prog 83 #[pointer (some ⟨mp,0,none⟩),pointer (some ⟨tb,ta,none⟩)] w fun e w'=>e=.returned (pointer (some ⟨bb,bo+b * 5,none⟩))∧za [] w w':=by
 have g3:(f:Int)<(N:Int):=by omega
 have g4:(b:Int)<(M:Int):=by omega
 go_enter Tryz.func83,Tryz.ntmps83;go_upto_region 1 with fail;go_quiet (fail);go_wp2_with fail;go_ret;exact ⟨rfl,za.drewN [] _ _⟩
theorem zgF{v:V3}(hr:r<16)(c0:w.cell? ⟨tb,ta+3+r * 4,none⟩=some (int i64 v.1))(c1:w.cell? ⟨tb,ta+3+r * 4+1,none⟩=some (int i64 v.2.1))(c2:w.cell? ⟨tb,ta+3+r * 4+2,none⟩=some (.bool v.2.2)):
  Calls Tryz.prog 133 #[pointer (some ⟨tb,ta,none⟩),int i64 (r:Int)] w fun e w'=>e=.returned (vlV v)∧za [] w w':=by
 have g3:(r:Int)<16:=by omega
 have ka:=za.alloc [] w (.cells #[int i64 0,int i64 0,.bool false] 39);have d0:=zb ka c0;have d1:=zb ka c1;have d2:=zb ka c2;clear c0 c1 c2 ka;go_enter Tryz.func133,Tryz.ntmps133;go_wp2_with fail;exact bodyPost_ret (v:=vlV v) (by simp[results,Tryz.results133,go_sem]) rfl ⟨rfl,za.alloc [] _ _⟩
theorem zbJ(v:V3)(hr:r<16){u0 u1 u2 u3:Value}(c0:w.cell? ⟨tb,ta+3+r * 4,none⟩=some u0)(c1:w.cell? ⟨tb,ta+3+r * 4+1,none⟩=some u1)(c2:w.cell? ⟨tb,ta+3+r * 4+2,none⟩=some u2)(c3:w.cell? ⟨tb,ta+3+r * 4+3,none⟩=some u3)(hz:∀ i,w.frozen? ⟨tb,i,none⟩=false):
  Calls Tryz.prog 136 #[pointer (some ⟨tb,ta,none⟩),int i64 (r:Int),vlV v] w fun e w'=>e=.returned (.tuple #[])∧∃ w1,za [] w w1∧za [] ((((w1.setCell ⟨tb,ta+3+r * 4,none⟩ (int i64 v.1)).setCell ⟨tb,ta+3+r * 4+1,none⟩ (int i64 v.2.1)).setCell ⟨tb,ta+3+r * 4+2,none⟩ (.bool v.2.2)).setCell ⟨tb,ta+3+r * 4+3,none⟩ (.bool true)) w':=by
 have g3:(r:Int)<16:=by omega
 have hn:=ze w (.cells #[int i64 v.1,int i64 v.2.1,.bool v.2.2] 39);have ka:=za.alloc [] w (.cells #[int i64 v.1,int i64 v.2.1,.bool v.2.2] 39);have KA:=hid ka;have d0:=zb ka c0;have d1:=zb ka c1;have d2:=zb ka c2;have d3:=zb ka c3;have hlt:tb<w.heap.size:=block_lt_of_cell c0;have hz':∀ i,(w.alloc (.cells #[int i64 v.1,int i64 v.2.1,.bool v.2.2] 39)).frozen? ⟨tb,i,none⟩=false:=fun i=>by
  have:=hz i;unfold World.frozen? at this ⊢;rw[show (w.alloc (Obj.cells #[Value.int .i64 v.1,Value.int .i64 v.2.1,Value.bool v.2.2] 39)).heap[tb]? = w.heap[tb]? from ka.block tb hlt (by simp)];exact this
 have z0:=hz' (ta+3+r * 4);have z1:=hz' (ta+3+r * 4+1);have z2:=hz' (ta+3+r * 4+2);have z3:=hz' (ta+3+r * 4+3);have e0:=zc hn 0;have e1:=zc hn 1;have e2:=zc hn 2;clear c0 c1 c2 c3 ka hz hz' hlt hn;go_enter Tryz.func136,Tryz.ntmps136;go_upto_region 1 with fail;generalize w.alloc (.cells #[int i64 v.1,int i64 v.2.1,.bool v.2.2] 39)=w1 at *
 go_region
 go_wp2_with fail
 go_end0
 exact ⟨rfl,_,KA.o,za.drew [] _⟩
theorem ZS(v:V3)(w:World):Calls Tryz.prog 141 #[vlV v] w fun e w'=>e=.returned (int i64 (j9 v))∧za [] w w':=by
 obtain ⟨k,n,t⟩:=v;by_cases h:k=2
 ·subst h
  go_enter Tryz.func141,Tryz.ntmps141;go_wp2;go_ret;exact ⟨rfl,za.alloc [] _ _⟩
 ·have e:j9 (k,n,t)=0:=if_neg h
  have h':(k != 2)=true:=by simpa using h
  rw[e];clear e;go_enter Tryz.func141,Tryz.ntmps141;go_wp2;go_ret;exact ⟨rfl,za.alloc [] _ _⟩
section
variable {W0 w:World}{mp pp fg:Nat}{P:Pr8}{m:Ma}{F:List Nat}{hb fc:Nat}{rv:Value}{oa:Option Addr}{oc:Nat}{os:List Ob}{Fh:List Nat}
theorem qc(h:MaS W0 w mp pp fg P m F hb fc rv oa oc os Fh){r:Int}(h0:0≤r)(hr:r<16):Calls Tryz.prog 133 #[pointer (some ⟨fg,m.bot.length * 67,none⟩),int i64 r] w fun e w'=>e=.returned (vlV (m.top.get r))∧za [] w w':=by
 obtain ⟨k,rfl⟩:∃ k:Nat,r=(k:Int):=⟨r.toNat,by omega⟩;obtain ⟨c0,c1,c2,_⟩:=h.reg (r:=k) (by omega);exact zgF (by omega) c0 c1 c2
theorem qz(h:MaS W0 w mp pp fg P m F hb fc rv oa oc os Fh)(v:V3){r:Int}(h0:0≤r)(hr:r<16):Calls Tryz.prog 136 #[pointer (some ⟨fg,m.bot.length * 67,none⟩),int i64 r,vlV v] w fun e w'=>e=.returned (.tuple #[])∧MaS W0 w' mp pp fg P (m.put r v) F hb fc rv oa oc os Fh∧za [fg] w w':=by
 obtain ⟨k,rfl⟩:∃ k:Nat,r=(k:Int):=⟨r.toNat,by omega⟩;obtain ⟨c0,c1,c2,c3,z⟩:=h.reg (r:=k) (by omega);refine (zbJ v (by omega) c0 c1 c2 c3 z).mono ?_;rintro e w' ⟨rfl,w1,k1,k2⟩;exact ⟨rfl,((h.quiet k1).put (by omega) v).quiet k2,((k1.mono fun _ hx=>by cases hx).step (((za.setCell [fg] _ _ _ (List.mem_singleton.2 rfl)).step (za.setCell [fg] _ _ _ (List.mem_singleton.2 rfl))).step (za.setCell [fg] _ _ _ (List.mem_singleton.2 rfl)) |>.step (za.setCell [fg] _ _ _ (List.mem_singleton.2 rfl)))).quiet k2⟩
theorem jY(h:MaS W0 w mp pp fg P m F hb fc rv oa oc os Fh)(hn:m.bot.length≤100):Calls Tryz.prog 52 #[pointer (some ⟨mp,0,none⟩)] w fun e w'=>e=.returned (pointer (some ⟨fg,m.bot.length * 67,none⟩))∧za [] w w':=ziF (zc h.box 4) (by omega)
theorem MaS.now(h:MaS W0 w mp pp fg P m F hb fc rv oa oc os Fh):Sub W0 w:=h.sub w (za.refl _ _)
theorem zhL{P:Pr8}{f:Nat}(hf:f<P.funcs.length):P.funcs[f]? = some (zf P f):=by
 unfold zf;rw[List.getD_eq_getElem?_getD,List.getElem?_eq_getElem hf];rfl
theorem zkL{x:Fu8}{b:Nat}(hb:b<x.blocks.length):x.blocks[b]? = some (zA x b):=by
 unfold zA;rw[List.getD_eq_getElem?_getD,List.getElem?_eq_getElem hb];rfl
theorem zfO{x:Bl8}{i:Nat}(hi:i<x.code.length):x.code[i]? = some (jI x i):=by
 unfold jI;rw[List.getD_eq_getElem?_getD,List.getElem?_eq_getElem hi];rfl
theorem Qy(h:MaS W0 w mp pp fg P m F hb fc rv oa oc os Fh)(hp:ZM P m.top.f m.top.b m.top.i):∃ bb bo,BlC W0 bb bo (m.top.blk P)∧∀ w',za [] w w'→Calls Tryz.prog 83 #[pointer (some ⟨mp,0,none⟩),pointer (some ⟨fg,m.bot.length * 67,none⟩)] w' fun e w2=>e=.returned (pointer (some ⟨bb,bo,none⟩))∧za [] w' w2:=by
 obtain ⟨fa,fcp,c4,r4,_⟩:=h.prc.c4;obtain ⟨fb,fo,rfl,y⟩:=r4.at (zhL hp.1);obtain ⟨ba,bcp,c2,r2,_⟩:=y.c2;obtain ⟨bb,bo,rfl,z⟩:=r2.at (zkL hp.2.1);refine ⟨bb,bo+m.top.b * 5,z,fun w' k=> ?_⟩;have h':=h.quiet k;exact zcH (bb:=bb) (bo:=bo) (zc h'.box 0) (h'.now _ _ c4) hp.1 (h'.now _ _ c2) hp.2.1 h'.pt.1 h'.pt.2.1
theorem zja{w:World}{mp pp tb ta fb fo fcp rb ro rcp N M f r:Nat}{t:Int × Int}(h0:w.cell? ⟨mp,0,none⟩=some (pointer (some ⟨pp,0,none⟩)))(h4:w.cell? ⟨pp,4,none⟩=some (.slice (some ⟨fb,fo,none⟩) N fcp))(hf:f<N)(h1:w.cell? ⟨fb,fo+f * 3+1,none⟩=some (.slice (some ⟨rb,ro,none⟩) M rcp))(hr:r<M)(t0:w.cell? ⟨tb,ta,none⟩=some (int i64 (f:Int)))(c0:w.cell? ⟨rb,ro+r * 2,none⟩=some (int i64 t.1))(c1:w.cell? ⟨rb,ro+r * 2+1,none⟩=some (int i64 t.2)):
  Calls Tryz.prog 198 #[pointer (some ⟨mp,0,none⟩),pointer (some ⟨tb,ta,none⟩),int i64 (r:Int)] w fun e w'=>e=.returned (tyV t)∧za [] w w':=by
 have g3:(f:Int)<(N:Int):=by omega
 have g4:(r:Int)<(M:Int):=by omega
 have ka:=za.alloc [] w (.cells #[int i64 0,int i64 0] 60);have KA:=hid ka;have hn:=ze w (.cells #[int i64 0,int i64 0] 60);have HN:=hid hn;have d0:=zb ka h0;have d1:=zb ka h4;have d2:=zb ka h1;have d3:=zb ka t0;have d4:=zb ka c0;have d5:=zb ka c1;have e0:=zc hn 0;have e1:=zc hn 1;have z0:=zg hn 0;have z1:=zg hn 1;clear h0 h4 h1 t0 c0 c1 hf hr ka hn;go_enter Tryz.func198,Tryz.ntmps198;go_upto_region 1 with fail;generalize w.alloc (.cells #[int i64 0,int i64 0] 60)=w1 at *
 go_region
 go_wp2_with fail;have HS:=zm1 HN.o (int i64 t.1) (int i64 t.2);have K3:=hid (KA.o.trans (zas w1 w.heap.size (int i64 t.1) (int i64 t.2)) (fun x hx hl=>by rw[List.mem_singleton.1 hx] at hl;omega));generalize (w1.setCell ⟨w.heap.size,0,none⟩ (int i64 t.1)).setCell ⟨w.heap.size,1,none⟩ (int i64 t.2)=w2 at *;have r0:=zc HS 0;have r1:=zc HS 1;exact bodyPost_ret (v:=tyV t) (by simp[results,Tryz.results198,go_sem,r0,r1]) rfl ⟨rfl,K3.o.quiet (za.drew [] _)⟩
theorem zkQ{x:Fu8}{r:Nat}(hr:r<x.regs.length):x.regs[r]? = some (x.regs.getD r (0,0)):=by
 rw[List.getD_eq_getElem?_getD,List.getElem?_eq_getElem hr];rfl
theorem zbO(h:MaS W0 w mp pp fg P m F hb fc rv oa oc os Fh)(hf:m.top.f<P.funcs.length){r:Int}(h0:0≤r)(hr:r<((zf P m.top.f).regs.length:Int)):Calls Tryz.prog 198 #[pointer (some ⟨mp,0,none⟩),pointer (some ⟨fg,m.bot.length * 67,none⟩),int i64 r] w fun e w'=>e=.returned (tyV (QN P m.top r))∧za [] w w':=by
 obtain ⟨k,rfl⟩:∃ k:Nat,r=(k:Int):=⟨r.toNat,by omega⟩;have s:=h.now;obtain ⟨fa,fcp,c4,r4,_⟩:=h.prc.c4;obtain ⟨fb,fo,rfl,y⟩:=r4.at (zhL hf);obtain ⟨ra,rcp,c1,r1,_⟩:=y.c1;have hk:k<(zf P m.top.f).regs.length:=by omega
 obtain ⟨rb,ro,rfl,z⟩:=r1.at (zkQ hk);have e:QN P m.top (k:Int)=(zf P m.top.f).regs.getD k (0,0):=by unfold QN;rw[show ((k:Int)).toNat=k by omega]
 rw[e];exact zja (zc h.box 0) (s _ _ c4) hf (s _ _ c1) hk h.pt.1 (s _ _ z.c0.1) (s _ _ z.c1.1)
end
def ziW(P:Pr8)(rec iface n:Int):Option Int:=(zfQ P rec iface).map fun q=>q.2.2.getD n.toNat 0
abbrev zmW (o:Option Int):Value:=.tuple #[int i64 (o.getD 0),.bool o.isSome]
theorem jm{α:Type}{l:List α}{k:Nat}(d:α)(h:k<l.length):l[k]? = some (l.getD k d):=by
 rw[List.getD_eq_getElem?_getD,List.getElem?_eq_getElem h];rfl
theorem zbA{W0:World}(hm:w.cell? ⟨mp,0,none⟩=some (pointer (some ⟨pp,0,none⟩)))(hp:PrC W0 pp 0 P)(hs:Sub W0 w)(rec iface n:Int)(hq:∀ q,zfQ P rec iface=some q→0≤n∧n<(q.2.2.length:Int)):
  Calls Tryz.prog 197 #[pointer (some ⟨mp,0,none⟩),int i64 rec,int i64 iface,int i64 n] w fun e w'=>e=.returned (zmW (ziW P rec iface n))∧za [] w w':=by
 obtain ⟨a,cp,c3,hr,_,hl⟩:=hp.c3;replace c3:=hs _ _ c3;have HR:=hid hr;have HS:=hid hs;have HQ:=hid hq;obtain ⟨N,hn⟩:∃ N,N=P.ims.length:=⟨_,rfl⟩;rw[← hn] at c3 hl;have HL:=hid hn;have hn1:(N:Int)≤9223372036854775807:=by unfold maxLen at hl;omega
 clear hp hr hn hl hs hq;go_enter Tryz.func197,Tryz.ntmps197;go_wp2_with fail
 go_loopw [20] (fun kv wr=>∃ k:Nat,k≤N∧kv=int i64 (k:Int)∧wr=w∧Box (∀ j y,j<k→P.ims[j]? = some y→(y.1 == rec && y.2.1 == iface)=false)) (fun kv _=>N - (intOf kv).toNat)
 case atStart=>exact ⟨0,by omega,rfl,rfl,hid fun j y hj=>by omega⟩
 case round=>
  obtain ⟨k,hk,rfl,hwr,HB⟩:=hrel;subst hwr;by_cases hlt:k<N
  ·have hlt':(k:Int)<(N:Int):=by omega
   have HY:=hid (jm (l:=P.ims) (k:=k) (0,0,[]) (by rw[← HL.o];exact hlt));obtain ⟨b,off,rfl,hc⟩:=HR.o.at HY.o;have d0:=HS.o _ _ hc.c0.1;have d1:=HS.o _ _ hc.c1.1;obtain ⟨fa,fcp,d2,fr,_⟩:=hc.c2;replace d2:=HS.o _ _ d2;have FR:=hid fr;have NEXT:Box (∀ y,P.ims[k]? = some y→(y.1 == rec && y.2.1 == iface)=false→∀ j z,j<k+1→P.ims[j]? = some z→(z.1 == rec && z.2.1 == iface)=false):=hid fun y hy hg j z hj hz=>by
    by_cases e:j<k
    ·exact HB.o j z e hz
    ·obtain rfl:j=k:=by omega
     rw[hy] at hz;cases hz;exact hg
   have FND:Box (∀ y,P.ims[k]? = some y→(y.1 == rec && y.2.1 == iface)=true→zfQ P rec iface=some y):=hid fun y hy hg=>by
    unfold zfQ;have hk:k<P.ims.length:=(List.getElem?_eq_some_iff.1 hy).1
    rw[← List.take_append_drop k P.ims,List.find?_append,List.drop_eq_getElem_cons hk,List.find?_eq_none.2 (fun z hz=>by
     obtain ⟨j,hj,e⟩:=List.getElem_of_mem hz;have hj':j<k:=by rw[List.length_take] at hj;omega
     rw[List.getElem_take] at e;rw[HB.o j z hj' (by rw[List.getElem?_eq_getElem (by omega),e])]
     simp)]
    have e:P.ims[k]=y:=(List.getElem?_eq_some_iff.1 hy).2;rw[Option.none_or,List.find?_cons,e,hg]
   clear hc HB fr;generalize P.ims.getD k (0,0,[])=y at *;by_cases e1:y.1=rec
   ·have q1:(y.1 == rec)=true:=eqb e1
    by_cases e2:y.2.1=iface
    ·have q2:(y.2.1 == iface)=true:=eqb e2
     have hf:=FND.o y HY.o (by rw[q1,q2];rfl);obtain ⟨h0,h1⟩:=HQ.o y hf;obtain ⟨j,rfl⟩:∃ j:Nat,n=(j:Int):=⟨n.toNat,by omega⟩;have hj:j<y.2.2.length:=by omega
     obtain ⟨gb,go,rfl,hg⟩:=FR.o.at (jm 0 hj);have d3:=HS.o _ _ hg.1;have e3:Box (ziW P rec iface (j:Int)=some (y.2.2.getD j 0)):=hid (by unfold ziW;rw[hf,show ((j:Int)).toNat=j by omega];rfl);rw[Nat.mul_one] at d3;generalize y.2.2.length=M at *;have hj':(j:Int)<(M:Int):=by omega
     clear e1 e2 NEXT FND hf h0 h1 hg HQ;go_wp2_with fail
     go_ret2
     exact ⟨by rw[e3.o];rfl,za.refl _ _⟩
    ·have q2:(y.2.1 == iface)=false:=neb e2
     have HN:=hid (NEXT.o y HY.o (by rw[q1,q2];rfl));clear e1 e2 NEXT FND;go_wp2_with fail;go_roundw
     case rel=>exact ⟨k+1,by omega,by go_num,trivial,HN⟩
     case measure=>simp[intOf];omega
   ·have q1:(y.1 == rec)=false:=neb e1
    have HN:=hid (NEXT.o y HY.o (by rw[q1];rfl));clear e1 NEXT FND;go_wp2_with fail;go_roundw
    case rel=>exact ⟨k+1,by omega,by go_num,trivial,HN⟩
    case measure=>simp[intOf];omega
  ·obtain rfl:N=k:=by omega
   have e:Box (ziW P rec iface n=none):=hid (by
    unfold ziW zfQ
    rw[List.find?_eq_none.2 fun z hz=>by
     obtain ⟨j,hj,e⟩:=List.getElem_of_mem hz;rw[HB.o j z (by rw[HL.o];exact hj) (by rw[List.getElem?_eq_getElem hj,e])]
     simp]
    rfl)
   go_wp2_with fail
   go_ret2
   exact ⟨by rw[e.o];rfl,za.refl _ _⟩
def zjH(P:Pr8)(m:Ma)(x:In8):Prop:=x.op=12∨(0≤x.a∧x.a<16∧((m.top.get x.a).1=2→1≤(m.top.get x.a).2.1∧(m.top.get x.a).2.1≤(m.rc.length:Int)∧m.top.f<P.funcs.length∧x.a<((zf P m.top.f).regs.length:Int)∧∀ q,zfQ P (m.rc.getD ((m.top.get x.a).2.1 - 1).toNat 0) (QN P m.top x.a).2=some q→0≤x.n∧x.n<(q.2.2.length:Int)))
section
variable {W0 w:World}{mp pp fg:Nat}{P:Pr8}{m:Ma}{F:List Nat}{hb fc:Nat}{rv:Value}{oa:Option Addr}{oc:Nat}{os:List Ob}{Fh:List Nat}
theorem MaS.rcAt(h:MaS W0 w mp pp fg P m F hb fc rv oa oc os Fh){j:Nat}(hj:j<m.rc.length):∃ g cap,rv=.slice (some ⟨g,0,none⟩) m.rc.length cap∧w.cell? ⟨g,j,none⟩=some (int i64 (m.rc.getD j 0)):=by
 rcases h.rcs.2 with ⟨_,h0⟩ | ⟨g,cap,cur,hv,_,hg,hn,_⟩
 ·omega
 ·have own:=h.rcs
  rw[hv] at own;refine ⟨g,cap,hv,(own.cellAt _ (by omega)).trans ?_⟩;unfold Qd;rw[List.getElem?_map,jm 0 hj];rfl
theorem ZP(h:MaS W0 w mp pp fg P m F hb fc rv oa oc os Fh)(x:In8)(ax:Value)(ok:zjH P m x):
  Calls Tryz.prog 134 #[pointer (some ⟨mp,0,none⟩),pointer (some ⟨fg,m.bot.length * 67,none⟩),zu x ax] w fun e w'=>e=.returned (zmW (callee P m x))∧za [] w w':=by
 have ka:=za.alloc [] w (.cells #[int i64 x.op,int i64 x.dst,int i64 x.a,int i64 x.b,int i64 x.n,ax] 65);have hn:=ze w (.cells #[int i64 x.op,int i64 x.dst,int i64 x.a,int i64 x.b,int i64 x.n,ax] 65);by_cases h12:x.op=12
 ·have q1:(x.op == 12)=true:=eqb h12
  have e:Box (callee P m x=some x.n):=hid (if_pos h12);have KA:=hid ka;clear h ok ka hn h12;unfold zu;go_enter Tryz.func134,Tryz.ntmps134;go_wp2_with fail
  go_ret2
  exact ⟨by rw[e.o];rfl,KA.o⟩
 ·have q1:(x.op == 12)=false:=neb h12
  obtain ⟨a0,a1,ok⟩:=ok.resolve_left h12;have HG:=hid (qc (h.quiet ka) a0 a1);have KA:=hid ka;have HH:=hid (h.quiet ka);have HN:=hid hn;by_cases e3:(m.top.get x.a).1=3
  ·have q3:((m.top.get x.a).1 == 3)=true:=eqb e3
   have e:Box (callee P m x=some (m.top.get x.a).2.1):=hid (by unfold callee;rw[if_neg h12,if_pos e3]);clear h ok ka hn h12 e3;unfold zu;go_enter Tryz.func134,Tryz.ntmps134;go_wp2_with fail;refine HG.o.mono ?_;rintro e1 w2 ⟨rfl,k2⟩;have K2:=hid (KA.o.quiet k2);clear HG k2;go_wp2_with fail
   go_ret2
   exact ⟨by rw[e.o];rfl,K2.o.quiet (za.alloc [] _ _)⟩
  ·have q3:((m.top.get x.a).1 == 3)=false:=neb e3
   by_cases e2:(m.top.get x.a).1=2
   ·have q2:((m.top.get x.a).1 == 2)=true:=eqb e2
    obtain ⟨b0,b1,hf,a2,hq⟩:=ok e2;obtain ⟨j,hj⟩:∃ j:Nat,(m.top.get x.a).2.1=(j:Int)+1:=⟨((m.top.get x.a).2.1 - 1).toNat,by omega⟩;have hjl:j<m.rc.length:=by omega
    have hj':((m.top.get x.a).2.1 - 1).toNat=j:=by omega
    rw[hj'] at hq;obtain ⟨g,cap,hrv,c5⟩:=h.rcAt hjl;have c3:=zc h.box 3;have e:Box (callee P m x=ziW P (m.rc.getD j 0) (QN P m.top x.a).2 x.n):=hid (by unfold callee ziW;rw[if_neg h12,if_neg e3,if_pos e2,hj']);have HRT:=hid fun (w':World) (k:za [] w w')=>zbO (h.quiet k) hf a0 a2;have HM:=hid fun (w':World) (k:za [] w w')=>zbA (zc (h.quiet k).box 0) h.prc (h.quiet k).now (m.rc.getD j 0) (QN P m.top x.a).2 x.n hq;have hgl:=hid hj;have hjz:(j:Int)<(m.rc.length:Int):=by omega
    have hb9:(j:Int)+1<9223372036854775808:=by
     rcases h.rcs.2 with ⟨_,h0⟩ | ⟨_,cp,_,_,_,_,h1,h2,_⟩
     ·omega
     ·unfold maxLen at h2
      omega
    generalize m.rc.length=M at *;generalize m.rc.getD j 0=rj at *;generalize QN P m.top x.a=ty at *;obtain ⟨tk,tn⟩:=ty;generalize hv:m.top.get x.a=v at *;obtain ⟨vk,vn,vt⟩:=v;have e2':vk=2:=e2;have hj9:vn=(j:Int)+1:=hj;subst e2' hj9;have KS:=hid fun (w':World) (k:za [] w w')=>And.intro (zb k c3) (zb k c5);clear h ok h12 q3 e3 e2 b0 b1 hf a0 a1 a2 hq hj hgl c3 c5 HH hn hv q2 hj';rw[hrv] at KS;clear hrv;have HE:=hid e.o;clear e;unfold zu;go_enter Tryz.func134,Tryz.ntmps134;go_wp2_with fail;refine HG.o.mono ?_;rintro e1 w2 ⟨rfl,k2⟩;have K2:=hid (KA.o.quiet k2);have HN2:=hid (zd HN.o k2);clear HG k2 KA HN ka;go_upto_region 8 with fail;have HN3:=hid (ze w2 (.cells #[int i64 2,int i64 ((j:Int)+1),.bool vt] 39));have K3:=hid (K2.o.quiet (za.alloc [] w2 (.cells #[int i64 2,int i64 ((j:Int)+1),.bool vt] 39)));have HN4:=hid (zd HN2.o (za.alloc [] w2 (.cells #[int i64 2,int i64 ((j:Int)+1),.bool vt] 39)));generalize w2.alloc (.cells #[int i64 2,int i64 ((j:Int)+1),.bool vt] 39)=w3 at *;have HS:=hid fun (w':World) (k:za [] w3 w')=>And.intro (KS.o w' (K3.o.quiet k)) (And.intro (zc (zd HN3.o k) 1) (And.intro (zc (zd HN4.o k) 2) (zc (zd HN4.o k) 4)));obtain ⟨⟨s0,s1⟩,s2,s3,s4⟩:=HS.o w3 (za.refl _ _);have kd:za [] w3 w3.drew:=za.drew _ _;have HRT3:=hid fun (w':World) (k:za [] w3 w')=>HRT.o w' (K3.o.quiet k);have HM3:=hid fun (w':World) (k:za [] w3 w')=>HM.o w' (K3.o.quiet k);clear HN2 HN3 HN4 KS K2 HRT HM;have hfl:∀ w':World,(Instr.field 60 (tyV (tk,tn)) 1).run Tryz.prog w'=.ok (int i64 tn) w':=fun w'=>by kernel_rfl
    have hw9:IntKind.i64.wrap (j:Int)=(j:Int):=IntWalk.i64_in _ (by omega)
    go_region_held3 (fun w'=>w'.cell? ⟨mp,3,none⟩=some (.slice (some ⟨g,0,none⟩) M cap)∧w'.cell? ⟨g,j,none⟩=some (int i64 rj)∧w'.cell? ⟨w2.heap.size,1,none⟩=some (int i64 ((j:Int)+1))∧w'.cell? ⟨w.heap.size,2,none⟩=some (int i64 x.a)∧w'.cell? ⟨w.heap.size,4,none⟩=some (int i64 x.n)) (go_keep) (first
     | (go_at_call 198;refine (HRT3.o _ kd).mono ?_;rintro e w5 ⟨rfl,k5⟩;have kk5:=kd.quiet k5;obtain ⟨⟨f50,f51⟩,f52,f53,f54⟩:=HS.o _ kk5;clear k5)
     | (go_at_call 197;refine (HM3.o _ kk5).mono ?_;rintro e w6 ⟨rfl,k6⟩;have kk6:=kk5.quiet k6;obtain ⟨⟨f60,f61⟩,f62,f63,f64⟩:=HS.o _ kk6;clear k6))
    all_goals
     clear hfl hw9;go_wp2_with fail
     go_ret2
     exact ⟨by rw[HE.o];rfl,K3.o.quiet kk6⟩
   ·have q2:((m.top.get x.a).1 == 2)=false:=neb e2
    have e:Box (callee P m x=none):=hid (by unfold callee;rw[if_neg h12,if_neg e3,if_neg e2]);clear h ok ka hn h12 e3 e2;unfold zu;go_enter Tryz.func134,Tryz.ntmps134;go_wp2_with fail;refine HG.o.mono ?_;rintro e1 w2 ⟨rfl,k2⟩;have K2:=hid (KA.o.quiet k2);clear HG k2;go_wp2_with fail
    go_ret2
    exact ⟨by rw[e.o];rfl,K2.o.quiet (za.alloc [] _ _)⟩
def ziJ(m:Ma):V3:=(0,m.ora.headD 0,true)
theorem zc1(h:MaS W0 w mp pp fg P m F hb fc rv oa oc os Fh):Calls Tryz.prog 138 #[pointer (some ⟨mp,0,none⟩)] w fun e w'=>∃ oa' oc',e=.returned (vlV (ziJ m))∧MaS W0 w' mp pp fg P { m with ora:=m.ora.tail } F hb fc rv oa' oc' os Fh∧za [mp] w w':=by
 have kA:=(za.alloc [] w (.cells #[int i64 0,int i64 0,.bool false] 39)).quiet (za.alloc [] _ (.cells #[int i64 0,int i64 0,.bool true] 39));have hA:=zd (ze w (.cells #[int i64 0,int i64 0,.bool false] 39)) (za.alloc [] _ (.cells #[int i64 0,int i64 0,.bool true] 39));have hB:=ze (w.alloc (.cells #[int i64 0,int i64 0,.bool false] 39)) (.cells #[int i64 0,int i64 0,.bool true] 39);rw[World.size_alloc] at hB;have c1:w.cell? ⟨mp,1,none⟩=some (.slice oa m.ora.length oc):=zc h.box 1;have z1:=zg (zd h.box kA) 1;replace c1:=zb kA c1;have HH:=hid h;have KA:=hid kA;have HA:=hid hA;have HB:=hid hB;have hns:=h.ocap;have hmp:=zt h.box;have HB9:=hid (zd h.box kA);have s0:=zc hA 0;have s1:=zc hA 1;have s2:=zc hA 2;have y0:=zg hA 0;have y1:=zg hA 1;have y2:=zg hA 2;have t0:=zc hB 0;have t1:=zc hB 1;have t2:=zc hB 2;have x1:=zg hB 1;by_cases hc:m.ora=[]
 ·have e0:Box (ziJ m=(0,0,true)):=hid (by unfold ziJ;rw[hc];rfl)
  have e1:Box ({ m with ora:=m.ora.tail }=m):=hid (by
   have:m.ora.tail=m.ora:=by rw[hc];rfl
   rw[this])
  rw[show m.ora.length=0 by rw[hc];rfl] at c1;clear h hns hc kA hA hB;go_enter Tryz.func138,Tryz.ntmps138;go_upto_region 2 with fail;generalize (w.alloc (.cells #[int i64 0,int i64 0,.bool false] 39)).alloc (.cells #[int i64 0,int i64 0,.bool true] 39)=w2 at *;go_wp2_with fail;have HS:=Jt HA.o (int i64 0) (int i64 0) (.bool true);have K3:=hid (KA.o.trans (jh w2 w.heap.size (int i64 0) (int i64 0) (.bool true)) (fun x hx hl=>by rw[List.mem_singleton.1 hx] at hl;omega));have HM:=hid (HH.o.quiet K3.o);have K4:=hid (K3.o.mono (L':=[mp]) fun _ hx=>by cases hx);generalize ((w2.setCell ⟨w.heap.size,0,none⟩ (int i64 0)).setCell ⟨w.heap.size,1,none⟩ (int i64 0)).setCell ⟨w.heap.size,2,none⟩ (.bool true)=w4 at *;have r0:=zc HS 0;have r1:=zc HS 1;have r2:=zc HS 2;exact bodyPost_ret (v:=vlV (0,0,true)) (by simp[results,Tryz.results138,go_sem,r0,r1,r2]) rfl ⟨oa,oc,by rw[e0.o],by rw[e1.o];exact HM.o,K4.o⟩
 ·obtain ⟨b,off,hoa,hq⟩:=h.orc.at (jm 0 (List.length_pos_iff.2 hc))
  have d0:=zb kA (h.now _ _ hq.1);obtain ⟨n,hn⟩:∃ n,m.ora.length=n+1:=⟨m.ora.length - 1,by have:=List.length_pos_iff.2 hc;omega⟩
  have e0:Box (ziJ m=(0,m.ora.getD 0 0,true)):=hid (by
   unfold ziJ
   rw[List.getD_eq_getElem?_getD,List.headD_eq_head?_getD,List.head?_eq_getElem?])
  rw[hn,hoa] at c1;rw[Nat.zero_mul,Nat.add_zero] at d0;have hn2:(n:Int)+1<9223372036854775808:=by
   have:=hns.2;unfold maxLen at this;omega
  generalize m.ora.getD 0 0=q at *;clear h hq kA hA hB;go_enter Tryz.func138,Tryz.ntmps138;go_upto_region 2 with fail;generalize (w.alloc (.cells #[int i64 0,int i64 0,.bool false] 39)).alloc (.cells #[int i64 0,int i64 0,.bool true] 39)=w2 at *;have z1':(w2.setCell ⟨w.heap.size+1,1,none⟩ (int i64 q)).frozen? ⟨mp,1,none⟩=false:=by
   unfold World.frozen? at z1 ⊢;rw[heap_setCell_other _ _ _ _ (by show mp≠w.heap.size+1;omega)];exact z1
  have c1':(w2.setCell ⟨w.heap.size+1,1,none⟩ (int i64 q)).cell? ⟨mp,1,none⟩=some (.slice (some ⟨b,off,none⟩) (n+1) oc):=by
   rw[(za.setCell [w.heap.size+1] w2 ⟨w.heap.size+1,1,none⟩ (int i64 q) (List.mem_singleton.2 rfl)).cell (block_lt_of_cell c1) (by simp;omega)];exact c1
  have hle1:(1:Int)≤(n:Int)+1:=by omega
  have RT:Box (∀ u0 u1 u2,((((w2.setCell ⟨w.heap.size+1,1,none⟩ (int i64 q)).setCell ⟨mp,1,none⟩ (.slice (if oc=1 then some ⟨b,off,none⟩ else some ⟨b,off+1,none⟩) n (oc - 1))).drew.setCell ⟨w.heap.size,0,none⟩ u0).setCell ⟨w.heap.size,1,none⟩ u1).setCell ⟨w.heap.size,2,none⟩ u2 |>.heap[mp]? = some (.cells ((jk m pp hb fg fc rv oa oc).setIfInBounds 1 (.slice (if oc=1 then some ⟨b,off,none⟩ else some ⟨b,off+1,none⟩) n (oc - 1))) 104 (0,0))):=hid fun u0 u1 u2=>by
   rw[heap_setCell_other _ _ _ _ (by show mp≠w.heap.size;omega),heap_setCell_other _ _ _ _ (by show mp≠w.heap.size;omega),heap_setCell_other _ _ _ _ (by show mp≠w.heap.size;omega)];refine heap_setCell_same _ mp 1 _ _ _ ?_;rw[heap_setCell_other _ _ _ _ (by show mp≠w.heap.size+1;omega)];exact HB9.o
  have HA3:Box (((w2.setCell ⟨w.heap.size+1,1,none⟩ (int i64 q)).setCell ⟨mp,1,none⟩ (.slice (if oc=1 then some ⟨b,off,none⟩ else some ⟨b,off+1,none⟩) n (oc - 1))).drew.heap[w.heap.size]? = some (.cells #[int i64 0,int i64 0,.bool false] 39 (0,0))):=hid (by
   show ((w2.setCell ⟨w.heap.size+1,1,none⟩ (int i64 q)).setCell ⟨mp,1,none⟩ _).heap[w.heap.size]? = _;rw[heap_setCell_other _ _ _ _ (by show w.heap.size≠mp;omega),heap_setCell_other _ _ _ _ (by show w.heap.size≠w.heap.size+1;omega)]
   exact HA.o)
  have HB3:Box (((w2.setCell ⟨w.heap.size+1,1,none⟩ (int i64 q)).setCell ⟨mp,1,none⟩ (.slice (if oc=1 then some ⟨b,off,none⟩ else some ⟨b,off+1,none⟩) n (oc - 1))).drew.heap[w.heap.size+1]? = some (.cells #[int i64 0,int i64 q,.bool true] 39 (0,0))):=hid (by
   show ((w2.setCell ⟨w.heap.size+1,1,none⟩ (int i64 q)).setCell ⟨mp,1,none⟩ _).heap[w.heap.size+1]? = _;rw[heap_setCell_other _ _ _ _ (by show w.heap.size+1≠mp;omega)]
   exact heap_setCell_same _ _ 1 _ _ _ HB.o)
  have KB:Box (za [mp] w ((w2.setCell ⟨w.heap.size+1,1,none⟩ (int i64 q)).setCell ⟨mp,1,none⟩ (.slice (if oc=1 then some ⟨b,off,none⟩ else some ⟨b,off+1,none⟩) n (oc - 1))).drew):=hid (((KA.o.trans (za.setCell [w.heap.size+1] _ _ _ (List.mem_singleton.2 rfl)) (L:=[]) (fun x hx hl=>by rw[List.mem_singleton.1 hx] at hl;omega)).mono (fun _ hx=>by cases hx)).step (za.setCell [mp] _ _ _ (List.mem_singleton.2 rfl)) |>.quiet (za.drew [] _))
  have RO:Box (zq W0 1 zI (if oc=1 then some ⟨b,off,none⟩ else some ⟨b,off+1,none⟩) m.ora.tail):=hid (by
   by_cases h1:oc=1
   ·refine .inl (List.eq_nil_of_length_eq_zero ?_)
    rw[List.length_tail];have:=hns.1;omega
   ·rw[if_neg h1]
    have:=HH.o.orc;rw[hoa] at this
    exact this.tail)
  have hns1:n≤oc - 1:=by have:=hns.1;omega
  clear hc hoa;go_upto_region 3 with fail
  go_region
  generalize (if oc=1 then some (Addr.mk b off none) else some (Addr.mk b (off+1) none))=a' at *;generalize ((w2.setCell ⟨w.heap.size+1,1,none⟩ (int i64 q)).setCell ⟨mp,1,none⟩ (.slice a' n (oc - 1))).drew=w3 at *;clear s0 s1 s2 y0 y1 y2 t0 t1 t2 x1 c1 c1' z1 z1' d0;have s0:=zc HA3.o 0;have s1:=zc HA3.o 1;have s2:=zc HA3.o 2;have y0:=zg HA3.o 0;have y1:=zg HA3.o 1;have y2:=zg HA3.o 2;have t0:=zc HB3.o 0;have t1:=zc HB3.o 1;have t2:=zc HB3.o 2;go_wp2_with fail;have HS:=Jt HA3.o (int i64 0) (int i64 q) (.bool true);have K3:=hid (KB.o.trans (jh w3 w.heap.size (int i64 0) (int i64 q) (.bool true)) (fun x hx hl=>by rw[List.mem_singleton.1 hx] at hl;omega));have HM:=hid (HH.o.took hn RO.o hns1 K3.o (RT.o _ _ _));generalize ((w3.setCell ⟨w.heap.size,0,none⟩ (int i64 0)).setCell ⟨w.heap.size,1,none⟩ (int i64 q)).setCell ⟨w.heap.size,2,none⟩ (.bool true)=w4 at *;have r0:=zc HS 0;have r1:=zc HS 1;have r2:=zc HS 2;exact bodyPost_ret (v:=vlV (0,q,true)) (by simp[results,Tryz.results138,go_sem,r0,r1,r2]) rfl ⟨a',oc - 1,by rw[e0.o],HM.o,K3.o⟩
end
def OpP(W0 w:World)(mp pp fg:Nat)(P:Pr8)(F:List Nat)(hb fc:Nat)(r:Int × Ma)(e:Ending)(w':World):Prop:=
 e=.returned (int i64 r.1)∧∃ F' rv' oa' oc' os' Fh',MaS W0 w' mp pp fg P r.2 F' hb fc rv' oa' oc' os' Fh'∧za F w w'∧ja w F F'
def zkU(P:Pr8)(m:Ma)(x:In8):Prop:=ZM P m.top.f m.top.b m.top.i∧0≤x.dst∧x.dst<16∧x.dst<((zf P m.top.f).regs.length:Int)∧0≤(QN P m.top x.dst).2∧(QN P m.top x.dst).2<(P.recs.length:Int)∧(zd3 P (QN P m.top x.dst).2).length≤1000∧m.rc.length≤1000
theorem ja.step{w':World}{F F' F'':List Nat}(n:ja w F F')(s:w.heap.size≤w'.heap.size)(n':ja w' F' F''):ja w F F'':=fun x hx=>by
 rcases n' x hx with h | h
 ·exact n x h
 ·exact .inr (Nat.le_trans s h)
theorem za.next{w' w'':World}{F F':List Nat}(k:za F w w')(n:ja w F F')(k':za F' w' w''):za F w w'':=k.trans k' fun x hx hl=>(n x hx).resolve_right (by omega)
section
variable {W0 w:World}{mp pp fg:Nat}{P:Pr8}{m:Ma}{F:List Nat}{hb fc:Nat}{rv:Value}{oa:Option Addr}{oc:Nat}{os:List Ob}{Fh:List Nat}
theorem MaS.rvForm(h:MaS W0 w mp pp fg P m F hb fc rv oa oc os Fh):∃ a cap,rv=.slice a m.rc.length cap:=by
 rcases h.rcs.2 with ⟨hv,h0⟩ | ⟨g,cap,cur,hv,_⟩
 ·exact ⟨none,0,by rw[hv,h0]⟩
 ·exact ⟨_,cap,hv⟩
theorem MaS.osLen(h:MaS W0 w mp pp fg P m F hb fc rv oa oc os Fh):os.length=m.hp.length:=by rw[← h.bar,List.length_map]
theorem MaS.grownBox(h:MaS W0 w mp pp fg P m F hb fc rv oa oc os Fh){wa w5:World}(ka:za [] w wa)(hg:wa.grownBy w5 rv.ownBlock):w5.heap[mp]? = some (.cells (jk m pp hb fg fc rv oa oc) 104 (0,0)):=by
 have:=zd h.box ka;rw[hg.block mp (zt this) (fun e=>h.rv_ne.2.1 e.symm)];exact this
theorem zjJ{P:Pr8}{f b i:Nat}(h:ZM P f b i):zhP P f b i=(zae P f b i:Int):=by
 unfold zhP;rw[if_pos ⟨by omega,by have:=h.1;omega,by have:=h.2.1;simpa using this⟩,if_pos ⟨by omega,by have:=h.2.2;simpa using this⟩];simp
theorem zd0(h:MaS W0 w mp pp fg P m F hb fc rv oa oc os Fh)(hsm:Sm8 P)(x:In8)(hx:x.op=5)(ok:zkU P m x):
  Calls Tryz.prog 139 #[pointer (some ⟨mp,0,none⟩),pointer (some ⟨fg,m.bot.length * 67,none⟩),int i64 x.dst] w (OpP W0 w mp pp fg P F hb fc (qr P m x)):=by
 obtain ⟨hpt,d0,d1,d2,t0,t1,hl,hrc⟩:=ok;have HRT:=hid (zbO h hpt.1 d0 d2);obtain ⟨n,hn⟩:∃ n:Nat,(QN P m.top x.dst).2=(n:Int):=⟨(QN P m.top x.dst).2.toNat,by omega⟩;have hrn:zd3 P (QN P m.top x.dst).2=P.recs.getD n []:=by unfold zd3;rw[hn];rfl
 have hnr:n<P.recs.length:=by omega
 obtain ⟨ra,rcp,q0,r0,_⟩:=h.prc.c0;obtain ⟨rb,ro,hra,q1⟩:=r0.at (jm [] hnr);subst hra;obtain ⟨la,lcp,q1,q2,_⟩:=q1;rw[← hrn] at q1 q2;rw[Nat.mul_one] at q1;have hnum:=zjJ hpt
 have E:Box (qr P m x=if 400≤m.hp.length then (6,m) else (0,{ m with hp:=m.hp ++ [Ob.mk (zae P m.top.f m.top.b m.top.i:Int) false (.slice none 0 0) ((zd3 P (QN P m.top x.dst).2).map qX)],rc:=m.rc ++ [(QN P m.top x.dst).2] }.put x.dst (2,(m.hp.length:Int)+1,false))):=hid (by
  unfold qr
  rw[if_neg (by omega),if_neg (by omega),if_neg (by omega),if_neg (by omega),if_pos hx])
 generalize zd3 P (QN P m.top x.dst).2=rec at *;generalize hty:QN P m.top x.dst=ty at *;obtain ⟨tk,tn⟩:=ty;have hn':tn=(n:Int):=hn;subst hn';have HH:=hid h;have hnz:(n:Int)<(P.recs.length:Int):=by omega
 have HNU:=hid fun (w':World) (k:za [] w w')=>Ji (PrC.sub _ _ _ _ _ (h.quiet k).now h.prc) hsm (m.top.f:Int) (m.top.b:Int) (m.top.i:Int);rw[hnum] at HNU;generalize (zae P m.top.f m.top.b m.top.i:Int)=site at *;have HR2:=hid fun (w':World) (s:Sub W0 w')=>q2.sub TyC.sub s
 have HS:=hid fun (w':World) (F':List Nat) (m':Ma) (rv':Value) (os':List Ob) (Fh':List Nat) (h':MaS W0 w' mp pp fg P m' F' hb fc rv' oa oc os' Fh') (e1:m'.bot=m.bot) (e2:m'.top=m.top)=>(show (w'.cell? ⟨mp,2,none⟩=some (pointer (some ⟨hb,0,none⟩))∧w'.cell? ⟨mp,0,none⟩=some (pointer (some ⟨pp,0,none⟩))∧w'.cell? ⟨fg,m.bot.length * 67,none⟩=some (int i64 (m.top.f:Int))∧w'.cell? ⟨fg,m.bot.length * 67+1,none⟩=some (int i64 (m.top.b:Int))∧w'.cell? ⟨fg,m.bot.length * 67+2,none⟩=some (int i64 (m.top.i:Int))∧w'.cell? ⟨pp,0,none⟩=some (.slice (some ⟨rb,ro,none⟩) P.recs.length rcp)∧w'.cell? ⟨rb,ro+n,none⟩=some (.slice la rec.length lcp)) from by
  have p:=h'.pt;rw[e1,e2] at p
  exact ⟨zc h'.box 2,zc h'.box 0,p.1,p.2.1,p.2.2,h'.now _ _ q0,h'.now _ _ q1⟩)
 have hfl:∀ w':World,(Instr.field 60 (tyV (tk,(n:Int))) 1).run Tryz.prog w'=.ok (int i64 (n:Int)) w':=fun w'=>by kernel_rfl
 by_cases hfull:400≤m.hp.length
 ·rw[if_pos hfull] at E
  have HAL:=hid fun (w':World) (k:za [] w w')=>zc8 (h.quiet k).hp (by rw[h.osLen];exact hfull) site (.slice la rec.length lcp);clear h q0 q1 q2 hx hpt hn hnr d2 t0 t1 hnum r0 hrn hsm;go_enter Tryz.func139,Tryz.ntmps139;go_wp2_with fail;refine HRT.o.mono ?_;rintro e w2 ⟨rfl,k2⟩;have H2:=hid (HH.o.quiet k2);have K2:=hid k2;clear HRT k2 HH;go_upto_region 2 with fail;obtain ⟨c0,c1,c2,c3,c4,c5,c6⟩:=HS.o _ _ _ _ _ _ H2.o rfl rfl;have kd:za [] w2 w2.drew:=za.drew _ _
  go_region_held3 (fun w'=>w'.cell? ⟨mp,2,none⟩=some (pointer (some ⟨hb,0,none⟩))∧w'.cell? ⟨mp,0,none⟩=some (pointer (some ⟨pp,0,none⟩))∧w'.cell? ⟨fg,m.bot.length * 67,none⟩=some (int i64 (m.top.f:Int))∧w'.cell? ⟨fg,m.bot.length * 67+1,none⟩=some (int i64 (m.top.b:Int))∧w'.cell? ⟨fg,m.bot.length * 67+2,none⟩=some (int i64 (m.top.i:Int))∧w'.cell? ⟨pp,0,none⟩=some (.slice (some ⟨rb,ro,none⟩) P.recs.length rcp)∧w'.cell? ⟨rb,ro+n,none⟩=some (.slice la rec.length lcp)) (go_keep) (first
   | (go_at_call 51;refine (HNU.o _ (K2.o.quiet kd)).mono ?_;rintro e w5 ⟨rfl,k5⟩;have kk5:=kd.quiet k5;obtain ⟨f50,f51,f52,f53,f54,f55,f56⟩:=HS.o _ _ _ _ _ _ (H2.o.quiet kk5) rfl rfl;clear k5)
   | (go_at_call 90;refine (HAL.o _ (K2.o.quiet kk5)).mono ?_;rintro e w6 ⟨rfl,k6⟩;have kk6:=kk5.quiet k6;obtain ⟨f60,f61,f62,f63,f64,f65,f66⟩:=HS.o _ _ _ _ _ _ (H2.o.quiet kk6) rfl rfl;clear k6))
  all_goals
   go_wp2_with fail;go_ret;refine ⟨by rw[E.o];rfl,F,rv,oa,oc,os,Fh,?_,(K2.o.quiet kk6).mono (fun _ hx=>by cases hx),ja.refl _ _⟩;rw[E.o];exact H2.o.quiet kk6
 ·rw[if_neg hfull] at E
  have HAL:=hid fun (w':World) (k:za [] w w')=>zcB (h.quiet k).hp (by rw[h.osLen];omega) site (cp:=lcp) (HR2.o _ (h.quiet k).now) hl;have HLN:=hid h.osLen;have HBR:=hid h.bar;have hne0:(((os.length:Int)+1) == 0)=false:=neb (by omega);obtain ⟨sa,sc,hrv⟩:=h.rvForm;have HRV:=hid hrv;have hrb:=hrc;clear h q0 q1 q2 hx hpt hn hnr d2 t0 t1 hnum r0 hrn hsm hrv hfull;go_enter Tryz.func139,Tryz.ntmps139;go_wp2_with fail;refine HRT.o.mono ?_;rintro e w2 ⟨rfl,k2⟩;have H2:=hid (HH.o.quiet k2);have K2:=hid k2;clear HRT k2 HH;go_upto_region 2 with fail;obtain ⟨c0,c1,c2,c3,c4,c5,c6⟩:=HS.o _ _ _ _ _ _ H2.o rfl rfl;have kd:za [] w2 w2.drew:=za.drew _ _
  go_region_held3 (fun w'=>w'.cell? ⟨mp,2,none⟩=some (pointer (some ⟨hb,0,none⟩))∧w'.cell? ⟨mp,0,none⟩=some (pointer (some ⟨pp,0,none⟩))∧w'.cell? ⟨fg,m.bot.length * 67,none⟩=some (int i64 (m.top.f:Int))∧w'.cell? ⟨fg,m.bot.length * 67+1,none⟩=some (int i64 (m.top.b:Int))∧w'.cell? ⟨fg,m.bot.length * 67+2,none⟩=some (int i64 (m.top.i:Int))∧w'.cell? ⟨pp,0,none⟩=some (.slice (some ⟨rb,ro,none⟩) P.recs.length rcp)∧w'.cell? ⟨rb,ro+n,none⟩=some (.slice la rec.length lcp)) (go_keep) (first
   | (go_at_call 51;refine (HNU.o _ (K2.o.quiet kd)).mono ?_;rintro e w5 ⟨rfl,k5⟩;have kk5:=kd.quiet k5;obtain ⟨f50,f51,f52,f53,f54,f55,f56⟩:=HS.o _ _ _ _ _ _ (H2.o.quiet kk5) rfl rfl;clear k5)
   | (go_at_call 90;refine (HAL.o _ (K2.o.quiet kk5)).mono ?_;rintro e w6 ⟨rfl,fs6,F6,hp6,k6,n6,i6⟩;have M6:=(H2.o.quiet kk5).heap k6 n6 hp6;have kk6:=k6.mono H2.o.fh_in;obtain ⟨f60,f61,f62,f63,f64,f65,f66⟩:=HS.o _ _ _ _ _ _ M6 rfl rfl;have n9:=hid n6;clear hp6 i6 n6))
  all_goals
   have M6':=hid M6;have KF6:=hid (((K2.o.quiet kk5).mono (L':=F) (fun _ hx=>by cases hx)).step kk6);have p3:w6.cell? ⟨mp,3,none⟩=some (.slice sa m.rc.length sc):=by rw[← HRV.o];exact zc M6.box 3
   have z3:=zg M6.box 3;have hbl:=zt M6.box;have own:=M6.rcs;rw[HRV.o] at own;have HOW:=hid own;have NR:Box (ja w F (F ++ F6)):=hid fun x hx=>by
    rcases List.mem_append.1 hx with hx | hx
    ·exact .inl hx
    ·rcases n9.o x hx with e | e
     ·exact .inl (H2.o.fh_in x e)
     ·exact .inr (Nat.le_trans (K2.o.quiet kk5).size e)
   clear M6 kk6 k6 own kk5;generalize hM:m.rc.length=M at *;generalize m.hp.length=L at *;go_wp2_with (at_builtin;go_must (refine wpList_append_lies _ rfl _ _ _ rfl 0 3 Tryz.t3 (int i64 0) 1 8 zU q7 j8 jv qT rfl (by decide) (.slice sa M sc) M (Qd m.rc) rfl (HOW.o.alloc _) ⟨w6.heap.size,0,none⟩ 1 1 [int i64 (n:Int)] rfl rfl (World.news_of_block (cs:=#[int i64 (n:Int)]) (t:=3) (fr:=(0,0)) (ze w6 _)) (fun u hu=>by rw[List.mem_singleton.1 hu];rfl) (by omega) (by unfold maxLen;omega) (by omega) (by simp) (w6.heap.size+1) (by simp) ?_;intro g5 cap5 w5 hown5 hgrow5 hat5 hlt5;have hbx:=M6'.o.grownBox (za.alloc [] w6 (.cells #[int i64 (n:Int)] 3)) (by rw[HRV.o];exact hgrow5);have p5:=zc hbx 3;have z5:=zg hbx 3;have HO5:=hid hown5;have HG5:=hid hgrow5;have HA5:=hid hat5;clear hown5 hgrow5 hat5 hbx))
   have R:=M6'.o.recs (z:=(n:Int)) (rv':=.slice (some ⟨g5,0,none⟩) (M+1) cap5) (za.alloc [] w6 (.cells #[int i64 (n:Int)] 3)) (by show w5.ownsRow 0 3 1 _ (m.rc.length+1) _;rw[hM];exact HO5.o) (by rw[HRV.o];exact HG5.o) (fun k hk=>by
    simp[Value.ownBlock] at hk;subst hk;rcases HA5.o with e | e
    ·exact .inl (by rw[HRV.o];exact e)
    ·exact .inr (by rw[World.size_alloc];omega))
   have M7:=hid R.1;have K7:=hid (KF6.o.next NR.o R.2.1);have N7:=hid (NR.o.step KF6.o.size R.2.2);clear R HO5 HG5 HA5;refine (qz M7.o (2,(os.length:Int)+1,false) d0 d1).mono ?_;rintro e w8 ⟨rfl,m8,k8⟩;have M8:=hid m8;have K8:=hid (K7.o.next N7.o (k8.mono fun y hy=>by rw[List.mem_singleton.1 hy];exact M7.o.fg_in));clear m8 k8;go_wp2_with fail;go_ret;refine ⟨by rw[E.o];rfl,_,.slice (some ⟨g5,0,none⟩) (M+1) cap5,oa,oc,os ++ [Ob.mk site false fs6 (rec.map qX)],F6,?_,K8.o,N7.o⟩;rw[E.o];have:=M8.o;rw[List.map_append,HBR.o,HLN.o] at this;exact this
end
end Go.Proofs.YtgmbkiagdhjpnaaGreatDoor
