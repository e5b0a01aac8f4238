import Derived.Deep.MidRow
import Derived.Great.BuildSlice
import Derived.Deep.WholeRow
import Derived.Lib.SliceRun
import Derived.Test.YthflgjkmbakedaaGreatDoorA18
import Derived.Test.YthflgjkmbakedaaGreatDoorA25

namespace Go.Proofs.YthflgjkmbakedaaGreatDoor
open Go.RowKit
open Go.Value (int pointer agg)
open Go.IntKind (i64)
set_option maxHeartbeats 4000000
set_option maxRecDepth 20000
variable {B b base c fb fo gb k k1 k2 n p p1 p2 par q r:Nat}{F:Fu8}{T:TypeId}{a:Option Addr}{v:Value}{w wr wy:World}{x:Bl8}{xs:List Value}
theorem zdW{g:List (List Nat)}(hg:Ok g){s:Nat→Bool}(hs:∀ u,s u=true→∀ v,v∈nb g u→s v=true){z:Nat}(hz:z<g.length):
  (∀ u,(vis g (g.length+1) z (s,[])).1 u=true ↔ s u=true∨Pth g noS z u)∧∀ u,(vis g (g.length+1) z (s,[])).1 u=true→∀ v,v∈nb g u→(vis g (g.length+1) z (s,[])).1 v=true:=by
 obtain ⟨N,e,h⟩:=zd5 g hg (g.length+1) z s [] hz (Nat.lt_succ_of_le (zgT g _));rw[e];have hcl:∀ u,orL s N u=true→∀ v,v∈nb g u→orL s N v=true:=by
  intro u hu v hv;rcases qV.1 hu with h1 | h1
  ·exact qV.2 (.inl (hs u h1 v hv))
  ·rcases h.good.closed u h1 v hv with h2 | h2
   ·exact qV.2 (.inl h2)
   ·exact qV.2 (.inr h2)
 refine ⟨fun u=>⟨fun hu=> ?_,?_⟩,hcl⟩
 ·rcases qV.1 hu with h1 | h1
  ·exact .inl h1
  ·obtain ⟨n,hn,p⟩:=(h.iff u).1 h1
   rw[List.mem_singleton.1 hn] at p;exact .inr (p.mono fun _ _=>rfl)
 ·rintro (h1 | p)
  ·exact qV.2 (.inl h1)
  ·refine p.carry (C:=fun u=>orL s N u=true) (fun u hu _ v hv _=>hcl u hu v hv) ?_
   rcases h.all z (by simp) with h1 | h1
   ·exact qV.2 (.inl h1)
   ·exact qV.2 (.inr h1)
theorem zbn{g:List (List Nat)}(hg:Ok g):∀ (zs:List Int) (s:Nat→Bool),(∀ u,s u=true→∀ v,v∈nb g u→s v=true)→∀ u,zb5 g zs s u=true ↔ s u=true∨∃ z,z∈Qt g.length zs∧Pth g noS z u
 | [],s,_,u=>by simp[zb5,Qt]
 | z :: zs,s,hs,u=>by
  show zb5 g zs (if 0≤z∧z<(g.length:Int) then (vis g (g.length+1) z.toNat (s,[])).1 else s) u=true ↔ _;by_cases h:0≤z∧z<(g.length:Int)
  ·rw[if_pos h]
   have hv:=zdW hg hs (z:=z.toNat) (by omega);rw[zbn hg zs _ hv.2 u,hv.1 u,or_assoc];refine or_congr Iff.rfl ?_;have e:∀ x,x∈Qt g.length (z :: zs) ↔ x=z.toNat∨x∈Qt g.length zs:=by
    intro x;rw[Zc,Zc,List.mem_cons];constructor
    ·rintro ⟨h1 | h1,h2⟩
     ·exact .inl (by omega)
     ·exact .inr ⟨h1,h2⟩
    ·rintro (h1 | ⟨h1,h2⟩)
     ·exact ⟨.inl (by omega),by omega⟩
     ·exact ⟨.inr h1,h2⟩
   constructor
   ·rintro (p | ⟨x,hx,p⟩)
    ·exact ⟨z.toNat,(e _).2 (.inl rfl),p⟩
    ·exact ⟨x,(e _).2 (.inr hx),p⟩
   ·rintro ⟨x,hx,p⟩
    rcases (e x).1 hx with rfl | h1
    ·exact .inl p
    ·exact .inr ⟨x,h1,p⟩
  ·rw[if_neg h,zbn hg zs s hs u]
   refine or_congr Iff.rfl ?_;have e:∀ x,x∈Qt g.length (z :: zs) ↔ x∈Qt g.length zs:=by
    intro x;rw[Zc,Zc,List.mem_cons];constructor
    ·rintro ⟨h1 | h1,h2⟩
     ·exact absurd (by omega) h
     ·exact ⟨h1,h2⟩
    ·rintro ⟨h1,h2⟩
     exact ⟨.inr h1,h2⟩
   exact ⟨fun ⟨x,hx,p⟩=>⟨x,(e x).2 hx,p⟩,fun ⟨x,hx,p⟩=>⟨x,(e x).1 hx,p⟩⟩
theorem zcO{g:List (List Nat)}(hg:Ok g)(zs:List Int)(u:Nat):rch g zs u=true ↔ ∃ z,z∈Qt g.length zs∧Pth g noS z u:=by
 unfold rch;rw[zbn hg zs zM (fun u hu=>by cases hu) u];constructor
 ·rintro (h | h)
  ·cases h
  ·exact h
 ·exact .inr
def zdx:Value:=.pointer none
theorem zjJ(n:Nat)(hn:n≤1000000)(w:World):(Instr.makeSlice 201 (int i64 (n:Int)) (int i64 (n:Int))).run Tryz.prog w=.ok (.slice (some ⟨w.heap.size,0,none⟩) n n) (w.alloc (.cells (madeCells #[zdx] n) 198)):=
 run_make_row' (P:=Tryz.prog) 201 198 zdx 8 Tryz.underlying201 (by kernel_rfl) rfl .i64 .i64 n (by omega) (by omega) w
theorem zfd(w:World)(n base:Nat)(hb:base≤w.heap.size)(hn:n≤maxLen):qQ (w.alloc (.cells (madeCells #[zdx] n) 198)) base w.heap.size n 198 (fun _=>zdx):=by
 refine qQ.made (z:=zdx) ⟨?_,.inr ⟨w.heap.size,n,_,rfl,hb,heap_alloc_new w _,Nat.le_refl _,hn,?_,?_⟩⟩ rfl
 ·rw[Array.length_toList,size_madeCells]
 ·rw[size_madeCells,Nat.mul_one]
 ·rw[Nat.mul_one]
  exact List.take_of_length_le (by rw[Array.length_toList,size_madeCells];exact Nat.le_refl _)
def pv(k:Nat)(d:Nat→Nat)(i:Nat):Value:=if i<k then pointer (some ⟨d i,0,none⟩) else .pointer none
structure HS (wr:World) (base q p n k:Nat) (d:Nat→Nat) (D:Nat→Nat→Bool):Prop where
 row:qQ wr base p n 198 (pv k d)
 set:∀ i,i<k→zJ wr (d i) (D i)
 new:∀ i,i<k→q≤d i
 inj:∀ i j,i<k→j<k→i≠j→d i≠d j
theorem zJ.lt'{s:Nat→Bool}(h:zJ w b s):b<w.heap.size:=(Array.getElem?_eq_some_iff.1 h.heap).1
theorem HS.kept{d:Nat→Nat}{D:Nat→Nat→Bool}{L:List Nat}(h:HS wr base q p n k d D)(kk:zc L wr wy)(hp:p ∉ L)(hd:∀ i,i<k→d i ∉ L):HS wy base q p n k d D:=
 ⟨h.row.kept kk hp,fun i hi=>(h.set i hi).kept kk (hd i hi),h.new,h.inj⟩
theorem HS.quiet{d:Nat→Nat}{D:Nat→Nat→Bool}(h:HS wr base q p n k d D)(kk:zc [] wr wy):HS wy base q p n k d D:=h.kept kk (by simp) (by simp)
theorem HS.put{d:Nat→Nat}{D:Nat→Nat→Bool}(h:HS wr base q p n k d D)(hpq:p<q){s:Nat→Bool}(hb:zJ wr b s)(hq:q≤b)(hn:∀ i,i<k→d i≠b):
  HS (wr.setCell ⟨p,k,none⟩ (pointer (some ⟨b,0,none⟩))) base q p n (k+1) (fun i=>if i=k then b else d i) (fun i=>if i=k then s else D i):=by
 have kk:zc [p] wr (wr.setCell ⟨p,k,none⟩ (pointer (some ⟨b,0,none⟩))):=zc.setCell _ _ _ _ (by simp);refine ⟨(h.row.put k _).congr (fun i _=> ?_),fun i hi=> ?_,fun i hi=> ?_,fun i j hi hj e=> ?_⟩
 ·unfold pv
  by_cases e:i=k
  ·subst e;simp
  ·rw[if_neg e]
   by_cases c:i<k
   ·rw[if_pos c,if_pos (by omega)];show _=Value.pointer (some ⟨if i=k then b else d i,0,none⟩);rw[if_neg e]
   ·rw[if_neg c,if_neg (by omega)]
 ·by_cases e:i=k
  ·rw[if_pos e,if_pos e];exact hb.kept kk (by simp;omega)
  ·rw[if_neg e,if_neg e];exact (h.set i (by omega)).kept kk (by have:=h.new i (by omega);simp;omega)
 ·by_cases e:i=k
  ·rw[if_pos e];exact hq
  ·rw[if_neg e];exact h.new i (by omega)
 ·by_cases e1:i=k
  ·rw[if_pos e1,if_neg (by omega)];exact fun e2=>hn j (by omega) e2.symm
  ·by_cases e2:j=k
   ·rw[if_neg e1,if_pos e2];exact hn i (by omega)
   ·rw[if_neg e1,if_neg e2];exact h.inj i j (by omega) (by omega) e
theorem HS.turn{d:Nat→Nat}{D:Nat→Nat→Bool}(h:HS wr base q p n k d D)(hpq:p<q){j:Nat}(hj:j<k){s:Nat→Bool}(kk:zc [d j] wr wy)(hs:zJ wy (d j) s):HS wy base q p n k d (fun i=>if i=j then s else D i):=by
 refine ⟨h.row.kept kk (by have:=h.new j hj;simp;omega),fun i hi=> ?_,h.new,h.inj⟩;by_cases e:i=j
 ·subst e;rw[if_pos rfl];exact hs
 ·rw[if_neg e];exact (h.set i hi).kept kk (by have:=h.inj i j hi hj e;simpa using this)
theorem HS.congr{d:Nat→Nat}{D E:Nat→Nat→Bool}(h:HS wr base q p n k d D)(e:∀ i,i<k→D i=E i):HS wr base q p n k d E:=
 ⟨h.row,fun i hi=>by rw[← e i hi];exact h.set i hi,h.new,h.inj⟩
theorem HS.ps{d:Nat→Nat}{D:Nat→Nat→Bool}(h:HS wr base q p n n d D):PS wr base p n d D:=
 ⟨h.row.congr (fun i hi=>by unfold pv;rw[if_pos hi]),h.set⟩
def zji(y f b i:Int)(w:World)(e:Ending)(w':World):Prop:=∃ p,e=.returned (Jz p)∧J0 w' p y f b i∧zc [] w w'
theorem zd8(y f b i:Int)(w:World):Calls Tryz.prog 135 #[int i64 y,agg #[int i64 f,int i64 b,int i64 i],.nilIface] w (zji y f b i w):=by
 have k2:=((zc.refl [] w).step (zc.alloc [] w (.cells #[int i64 f,int i64 b,int i64 i] 99))).step (zc.alloc [] _ (.cells #[int i64 y,int i64 f,int i64 b,int i64 i,.nilIface] 208));have hn:=zh (w.alloc (.cells #[int i64 f,int i64 b,int i64 i] 99)) (.cells #[int i64 y,int i64 f,int i64 b,int i64 i,.nilIface] 208);rw[World.size_alloc] at hn;have H:=hid (show J0 _ (w.heap.size+1) y f b i from hn);have K:=hid k2;clear k2 hn;go_enter Tryz.func135,Tryz.ntmps135;go_wp2;go_ret;exact ⟨w.heap.size+1,rfl,H.o,K.o⟩
theorem Q7(g:List (List Nat))(hs:Sm g)(a:Option Addr)(cap B:Nat)(w:World)(hG:GAt w B a g)(hB:B≤w.heap.size):
  Calls Tryz.prog 133 #[agg #[int i64 (g.length:Int),.slice a g.length cap]] w fun e w'=>∃ b,e=.returned (pointer (some ⟨b,0,none⟩))∧zJ w' b (rch g [0])∧zc [] w w'∧w.heap.size≤b:=by
 have k1:=zc.alloc [] w (.cells #[int i64 (g.length:Int),.slice a g.length cap] 195);have k2:=zc.alloc [] (w.alloc (.cells #[int i64 (g.length:Int),.slice a g.length cap] 195)) (.cells #[int i64 0] 3);have hz:zbc ((w.alloc (.cells #[int i64 (g.length:Int),.slice a g.length cap] 195)).alloc (.cells #[int i64 0] 3)) ((w.alloc (.cells #[int i64 (g.length:Int),.slice a g.length cap] 195)).alloc (.cells #[int i64 0] 3)).heap.size (some ⟨w.heap.size+1,0,none⟩) [0]:=by
  refine .inr ⟨w.heap.size+1,0,rfl,by simp,fun i hi=> ?_⟩;obtain rfl:i=0:=by simpa using hi
  rw[World.cell?_alloc_at _ _ _ _ (by simp)];rfl
 have HR:=hid (zfg g hs a cap B _ ((hG.quiet k1).quiet k2) (by simp;omega) (some ⟨w.heap.size+1,0,none⟩) 1 _ [0] hz (by simp) (Nat.le_refl _));have K:=hid (k1.quiet k2);clear hz k1 k2 hG;go_enter Tryz.func133,Tryz.ntmps133;go_wp2_with (go_at_call 202;refine HR.o.mono ?_;rintro e w3 ⟨b,rfl,h3,k3,h4⟩);go_ret;exact ⟨b,rfl,h3,K.o.quiet k3,Nat.le_trans K.o.size h4⟩
def zeO(P:Pr8)(F:Fu8):Nat:=if inB F.sig P.sigs.length=true then (P.sigs.getD F.sig.toNat ([],0,0)).1.length else 0
theorem zdw(h:FuC w fb fo F)(hr:F.regs.length≤5000):
  Calls Tryz.prog 208 #[pointer (some ⟨fb,fo,none⟩)] w fun e w'=>e=.returned (int i64 (F.regs.length:Int))∧w'=w:=by
 obtain ⟨ra,rp,c1, -⟩:=h.c1;clear h;generalize F.regs.length=R at *;by_cases e:R=5000
 ·subst e
  go_enter Tryz.func208,Tryz.ntmps208;go_wp2;go_ret;exact ⟨rfl,rfl⟩
 ·have h1:(R:Int)<5000:=by omega
  go_enter Tryz.func208,Tryz.ntmps208;go_wp2;go_ret;exact ⟨by first | rfl | (show Ending.returned (Value.int .i64 (min (R:Int) 5000))=_;rw[Int.min_eq_left (by omega)]),rfl⟩
theorem zeE{pb po:Nat}{P:Pr8}(hp:PrC w pb po P)(h:FuC w fb fo F):
  Calls Tryz.prog 207 #[pointer (some ⟨pb,po,none⟩),pointer (some ⟨fb,fo,none⟩)] w fun e w'=>e=.returned (int i64 (zeO P F:Int))∧zc [] w w':=by
 obtain ⟨sa,sp,c1,r1,_⟩:=hp.c1;have c0:=h.c0.1;unfold zeO;by_cases hi:inB F.sig P.sigs.length=true
 ·have HW:Box (∀ w,Calls Tryz.prog 199 #[int i64 F.sig,int i64 (P.sigs.length:Int)] w fun e w'=>e=.returned (.bool true)∧w'=w):=hid fun w=>by
   have:=qB F.sig P.sigs.length w;rw[hi] at this;exact this
  rw[if_pos hi];have hh:=zt.1 hi;obtain ⟨s,hs'⟩:∃ s:Nat,F.sig=(s:Int):=⟨F.sig.toNat,by omega⟩;rw[hs'] at c0 HW hh ⊢;rw[Int.toNat_natCast];obtain ⟨sb,so,rfl,hsg⟩:=r1.at (j:=s) (y:=P.sigs.getD s ([],0,0)) (zg (by omega));obtain ⟨ta,tp,ct,_⟩:=hsg.c0;have hl:=hh.2;clear hi h hp r1 hsg hs';generalize (P.sigs.getD s ([],0,0)).1.length=T at *;generalize P.sigs.length=N at *;go_enter Tryz.func207,Tryz.ntmps207;go_wp2_with fail;go_quiet ((go_at_call 199;exact Calls.quiet_of_same (HW.o _)));go_wp2_with fail;go_quiet (fail);go_wp2_with fail;go_ret;exact ⟨rfl,(zc.drewN [] _ _).quiet (zc.drewN [] _ _)⟩
 ·rw[Bool.not_eq_true] at hi
  have HW:Box (∀ w,Calls Tryz.prog 199 #[int i64 F.sig,int i64 (P.sigs.length:Int)] w fun e w'=>e=.returned (.bool false)∧w'=w):=hid fun w=>by
   have:=qB F.sig P.sigs.length w;rw[hi] at this;exact this
  rw[if_neg (by simp[hi])];clear hi h hp r1;generalize P.sigs.length=N at *;go_enter Tryz.func207,Tryz.ntmps207;go_wp2_with fail;go_quiet ((go_at_call 199;exact Calls.quiet_of_same (HW.o _)));go_wp2_with fail;go_ret;exact ⟨rfl,zc.drewN [] _ _⟩
def zet(R:Nat):Nat→Bool:=fun m=>decide (m<R)
theorem zhU{R:Nat}(h:R≤5000):Fit (zet R):=fun n hn=>by unfold zet;simp;omega
theorem zgS:zet 0=zM:=by funext m;unfold zet zM;simp
theorem zgf{R:Nat}(h:R<5000):zct (zet R) (R:Int)=zet (R+1):=by
 funext m
 unfold zct zet;have:(R:Int)<5000:=by omega
 rw[Bool.eq_iff_iff];simp[this];omega
theorem zb0(h:FuC w fb fo F)(hr:F.regs.length≤5000):
  Calls Tryz.prog 205 #[pointer (some ⟨fb,fo,none⟩)] w fun e w'=>∃ b,e=.returned (pointer (some ⟨b,0,none⟩))∧zJ w' b (zet F.regs.length)∧zc [] w w'∧w.heap.size≤b:=by
 have HO:=hid (zdl none 0 w);have HG:=hid fun (w':World) (k:zc [] w w')=>zdw (FuC.stays _ _ _ _ _ k h) hr;clear h;generalize F.regs.length=R at *;go_enter Tryz.func205,Tryz.ntmps205;go_wp2_with (first | (go_at_call 244;refine HO.o.mono ?_;rintro e w1 ⟨rfl,h1,k1⟩) | (go_at_call 208;refine (HG.o _ k1).mono ?_;rintro e w2 ⟨rfl,rfl⟩));rw[← zgS] at h1;have H1:=hid h1;have K1:=hid k1;clear HO HG h1 k1;obtain ⟨q,hq⟩:∃ q,w.heap.size=q:=⟨_,rfl⟩;rw[hq] at H1 ⊢;have HQ:=hid hq;clear hq
 go_loopw [8] (fun i wr=>∃ k:Nat,k≤R∧i=int i64 (k:Int)∧Box (zJ wr q (zet k))∧Box (zc [q] w2 wr)) (fun i _=>R - (intOf i).toNat)
 case atStart=>exact ⟨0,by omega,rfl,H1,hid (zc.refl _ _)⟩
 case round=>
  clear H1;obtain ⟨k,hk,rfl,HS,HK⟩:=hrel;by_cases hlt:k<R
  ·have hlt':(k:Int)<(R:Int):=by omega
   have HA:=hid (zbt q (zet k) (k:Int) wr HS.o (zhU (by omega)));rw[zgf (by omega)] at HA;go_wp2_with (go_at_call 215;refine HA.o.mono ?_;rintro e w3 ⟨rfl,h3,k3⟩);go_roundw
   case rel=>exact ⟨k+1,by omega,by go_num,hid h3,hid (HK.o.step k3)⟩
   case measure=>simp[intOf];omega
  ·obtain rfl:k=R:=by omega
   go_wp2;go_ret;exact ⟨q,rfl,HS.o,K1.o.fresh HK.o (fun x hx=>by have:=HQ.o;simp at hx;omega),by rw[HQ.o];exact Nat.le_refl _⟩
def dfS(c:List In8)(s:Nat→Bool):Nat→Bool:=c.foldl (fun s i=>if zD i then zct s i.dst else s) s
theorem zaY:∀ (c:List In8) (s:Nat→Bool),Fit s→Fit (dfS c s)
 | [],_,h=>h
 | i :: c,s,h=>by
  show Fit (dfS c (if zD i then zct s i.dst else s));refine zaY c _ ?_;split
  ·exact h.ins _
  ·exact h
theorem zdh(c:List In8)(s:Nat→Bool)(i:In8):dfS (c ++ [i]) s=if zD i then zct (dfS c s) i.dst else dfS c s:=by
 unfold dfS;rw[List.foldl_append];rfl
theorem zcD{bb bo:Nat}(h:BlC w bb bo x)(hl:x.code.length≤1000000):
  Calls Tryz.prog 206 #[pointer (some ⟨bb,bo,none⟩)] w fun e w'=>∃ b,e=.returned (pointer (some ⟨b,0,none⟩))∧zJ w' b (dfS x.code zM)∧zc [] w w'∧w.heap.size≤b:=by
 have HO:=hid (zdl none 0 w);obtain ⟨ca,cp,c0,hrows, -⟩:=h.c0;have C0:Box (∀ w',zc [] w w'→w'.cell? ⟨bb,bo,none⟩=some (.slice ca x.code.length cp)):=hid fun w' k=>za k c0;have HR:=hid hrows;clear h c0 hrows;obtain ⟨L,hL⟩:∃ L,x.code.length=L:=⟨_,rfl⟩;rw[hL] at C0 hl;have HL:=hid hL;clear hL;go_enter Tryz.func206,Tryz.ntmps206;go_wp2_with (go_at_call 244;refine HO.o.mono ?_;rintro e w1 ⟨rfl,h1,k1⟩;have c1:=C0.o _ k1);have H1:=hid h1;have K1:=hid k1;clear HO h1 k1 C0 c1;obtain ⟨q,hq⟩:∃ q,w.heap.size=q:=⟨_,rfl⟩;rw[hq] at H1 ⊢;have HQ:=hid hq;have HQL:Box (∀ y∈[q],w.heap.size≤y):=hid fun y hy=>by simp at hy;omega
 clear hq
 go_loopw [14] (fun i wr=>∃ k:Nat,k≤L∧i=int i64 (k:Int)∧Box (zJ wr q (dfS (x.code.take k) zM))∧Box (zc [] w wr)) (fun i _=>L - (intOf i).toNat)
 case atStart=>exact ⟨0,by omega,rfl,by rw[List.take_zero];exact H1,K1⟩
 case round=>
  clear H1 K1;obtain ⟨k,hk,rfl,HS,HK⟩:=hrel;by_cases hlt:k<L
  ·have hlt':(k:Int)<(L:Int):=by omega
   have hlt2:k<x.code.length:=by rw[HL.o];exact hlt
   have HTK:=hid (qe x.code k ⟨0,0,0,0,0,[]⟩ hlt2);obtain ⟨ib,io,rfl,hin⟩:=(HR.o.quiet InC.stays HK.o).at (j:=k) (y:=x.code.getD k ⟨0,0,0,0,0,[]⟩) (zg hlt2);clear hlt2;obtain ⟨i,hi⟩:∃ i,x.code.getD k ⟨0,0,0,0,0,[]⟩=i:=⟨_,rfl⟩;rw[hi] at hin HTK;clear hi;obtain ⟨aa,ap,h5, -⟩:=hin.c5;have h0:=hin.c0.1;have h1:=hin.c1.1;have h2:=hin.c2.1;have h3:=hin.c3.1;have h4:=hin.c4.1;clear hin;have HD:=hid fun (w':World)=>zaL i (.slice aa i.args.length ap) w';unfold z8 QC at HD;have ka:=zc.alloc [] wr (.cells #[int i64 i.op,int i64 i.dst,int i64 i.a,int i64 i.b,int i64 i.n,.slice aa i.args.length ap] 54);have HS2:=hid (HS.o.kept ka (by simp));have HK2:=hid (HK.o.quiet ka);have HF:=hid (zaY (x.code.take k) zM QV);have HSN:=hid (zdh (x.code.take k) zM i);rw[← HTK.o] at HSN;clear ka HS HK HTK;generalize i.args.length=al at *;cases hd:zD i with
   | true=>
    rw[hd] at HD HSN;rw[if_pos rfl] at HD HSN;clear hd;generalize hs1:dfS (x.code.take k) zM=s at *;clear hs1;have HA:=hid fun (w':World) (h:zJ w' q s)=>zbt q s i.dst w' h HF.o;go_wp2_with (first | (go_at_call 214;refine (HD.o _).mono ?_;rintro e w3 ⟨rfl,k3⟩;have H3:=hid (HS2.o.kept k3 (by simp));have K3:=hid (HK2.o.quiet k3)) | (go_at_call 215;refine (HA.o _ H3.o).mono ?_;rintro e w4 ⟨rfl,h4,k4⟩));go_roundw
    case rel=>exact ⟨k+1,by omega,by go_num,hid (by rw[HSN.o];exact h4),hid (K3.o.fresh k4 HQL.o)⟩
    case measure=>simp[intOf];omega
   | false=>
    rw[hd] at HD HSN;rw[if_neg (by decide)] at HD HSN;clear hd;go_wp2_with (go_at_call 214;refine (HD.o _).mono ?_;rintro e w3 ⟨rfl,k3⟩;have H3:=hid (HS2.o.kept k3 (by simp));have K3:=hid (HK2.o.quiet k3));go_roundw
    case rel=>exact ⟨k+1,by omega,by go_num,hid (by rw[HSN.o];exact H3.o),K3⟩
    case measure=>simp[intOf];omega
  ·obtain rfl:k=L:=by omega
   go_wp2;go_ret;rw[← HL.o,List.take_length] at HS;exact ⟨q,rfl,HS.o,HK.o,by rw[HQ.o];exact Nat.le_refl _⟩
theorem zed{s:Nat→Bool}(hs:zJ w b s)(hf:Fit s){l:List Int}(c:Nat)(hl:zw w a l)(hn:l.length≤2000000):
  Calls Tryz.prog 212 #[pointer (some ⟨b,0,none⟩),.slice a l.length c] w fun e w'=>e=.returned (.bool (l.all (ZL s)))∧∃ m,w'=w.drewN m:=by
 have HH:=hid fun (z:Int) (m:Nat)=>Q3 b s z (w.drewN m) (hs.kept (zc.drewN [] w m) (by simp)) hf;have HL:=hid hl;clear hl hs hf;obtain ⟨n,hln⟩:∃ n,l.length=n:=⟨_,rfl⟩;have HN:=hid hln;rw[hln] at hn ⊢;clear hln;go_enter Tryz.func212,Tryz.ntmps212;go_wp2_with fail
 go_loopw [9] (fun i wr=>∃ k m:Nat,k≤n∧i=int i64 (k:Int)∧wr=w.drewN m∧Box ((l.take k).all (ZL s)=true)) (fun i _=>n - (intOf i).toNat)
 case atStart=>exact ⟨0,0,by omega,rfl,rfl,hid (by simp)⟩
 case round=>
  obtain ⟨k,m,hk,rfl,rfl,HA⟩:=hrel;by_cases hlt:k<n
  ·have hlt':(k:Int)<(n:Int):=by omega
   have hlt2:k<l.length:=by rw[HN.o];exact hlt
   rcases HL.o with h0 | ⟨bz,oz,rfl,hcz⟩
   ·exfalso
    rw[h0] at hlt2;simp at hlt2
   have hc:(w.drewN m).cell? ⟨bz,oz+k,none⟩=some (int i64 (l.getD k 0)):=hcz k hlt2;have HTK:=hid (qe l k 0 hlt2);have HM:=hid (qg l k 0 hlt2);obtain ⟨z,hz⟩:∃ z,l.getD k 0=z:=⟨_,rfl⟩;rw[hz] at hc HTK HM;clear hz hlt2 hcz;have HZ:=hid (HH.o z m);cases hb:ZL s z with
   | true=>
    rw[hb] at HZ;have HB:=hid hb;clear hb;go_wp2_with (go_at_call 134;refine HZ.o.mono ?_;rintro e w3 ⟨rfl,m3,rfl⟩);go_roundw
    case rel=>exact ⟨k+1,m+m3,by omega,by go_num,rfl,hid (by rw[HTK.o,List.all_append,HA.o];simp[HB.o])⟩
    case measure=>simp[intOf];omega
   | false=>
    rw[hb] at HZ;have HB:Box (l.all (ZL s)=false):=hid (by rw[List.all_eq_false];exact ⟨z,HM.o,by simp[hb]⟩);clear hb;go_wp2_with (go_at_call 134;refine HZ.o.mono ?_;rintro e w3 ⟨rfl,m3,rfl⟩);go_ret;exact ⟨by rw[HB.o];rfl,m+m3,rfl⟩
  ·obtain rfl:k=n:=by omega
   rw[← HN.o,List.take_length] at HA;go_wp2;go_ret;exact ⟨by rw[HA.o];rfl,m,rfl⟩
def ZU(x:Bl8)(s:Nat→Bool)(k:Nat):Bool:=
 if k<x.code.length then !((zN (zT x k)).all (ZL (dfS (x.code.take k) s))) else decide (x.fin=2∨x.fin=3) && !ZL (dfS x.code s) x.reg
def zbw(x:Bl8)(s:Nat→Bool)(b:Nat)(w:World)(e:Ending)(w':World):Prop:=
 ((∃ k:Nat,k≤x.code.length∧e=.returned (int i64 (k:Int))∧ZU x s k=true∧∀ j,j<k→ZU x s j=false)∨(e=.returned (int i64 (-1))∧∀ k,k≤x.code.length→ZU x s k=false))∧zc [b] w w'
theorem zdF{s:Nat→Bool}(h:k<x.code.length):ZU x s k= !((zN (zT x k)).all (ZL (dfS (x.code.take k) s))):=by unfold ZU;rw[if_pos h]
theorem zco(x:Bl8)(s:Nat→Bool):ZU x s x.code.length=(decide (x.fin=2∨x.fin=3) && !ZL (dfS x.code s) x.reg):=by unfold ZU;rw[if_neg (by omega)]
theorem zbm{w0:World}{bb bo:Nat}(h:BlC w0 bb bo x)(k0:zc [] w0 w)(hl:x.code.length≤1000000)(hfew:∀ k,k<x.code.length→(zT x k).args.length≤1000){s:Nat→Bool}(hs:zJ w b s)(hf:Fit s)(hb:w0.heap.size≤b):
  Calls Tryz.prog 137 #[pointer (some ⟨bb,bo,none⟩),pointer (some ⟨b,0,none⟩)] w (zbw x s b w):=by
 obtain ⟨ca,cp,c0,hrows, -⟩:=h.c0;have C0:Box (∀ w',zc [] w0 w'→w'.cell? ⟨bb,bo,none⟩=some (.slice ca x.code.length cp)∧w'.cell? ⟨bb,bo+1,none⟩=some (int i64 x.fin)∧w'.cell? ⟨bb,bo+2,none⟩=some (int i64 x.reg)):=hid fun w' k=>⟨za k c0,za k h.c1.1,za k h.c2.1⟩;have HR:=hid hrows;have HS0:=hid hs;have HK0:=hid k0;have HFEW:=hid hfew;have HBB:Box (∀ y∈[b],w0.heap.size≤y):=hid fun y hy=>by simp at hy;omega
 have HFT:=hid fun (k:Nat)=>zaY (x.code.take k) s hf;clear h c0 hrows hs k0 hfew hf hb;obtain ⟨L,hL⟩:∃ L,x.code.length=L:=⟨_,rfl⟩;rw[hL] at C0 hl;have HL:=hid hL;clear hL;obtain ⟨cc, -, -⟩:=C0.o _ HK0.o;go_enter Tryz.func137,Tryz.ntmps137;go_wp2_with fail;clear cc
 go_loopw [14] (fun i wr=>∃ k:Nat,k≤L∧i=int i64 (k:Int)∧Box (zJ wr b (dfS (x.code.take k) s))∧Box (zc [b] w wr)∧Box (∀ j,j<k→ZU x s j=false)) (fun i _=>L - (intOf i).toNat)
 case atStart=>exact ⟨0,by omega,rfl,by rw[List.take_zero];exact HS0,hid (zc.refl _ _),hid (fun j hj=>by omega)⟩
 case round=>
  clear HS0;obtain ⟨k,hk,rfl,HS,HK,HJ⟩:=hrel;have HKW:=hid (HK0.o.fresh HK.o HBB.o);by_cases hlt:k<L
  ·have hlt':(k:Int)<(L:Int):=by omega
   have hlt2:k<x.code.length:=by rw[HL.o];exact hlt
   have HTK:=hid (qe x.code k ⟨0,0,0,0,0,[]⟩ hlt2);have HBA:=hid (zdF (s:=s) hlt2);have hfw:=HFEW.o k hlt2;obtain ⟨ib,io,rfl,hin⟩:=(HR.o.quiet InC.stays HKW.o).at (j:=k) (y:=zT x k) (zg hlt2);have HTK2:Box (x.code.take (k+1)=x.code.take k ++ [zT x k]):=HTK;clear hlt2 HTK;obtain ⟨i,hi⟩:∃ i,zT x k=i:=⟨_,rfl⟩;rw[hi] at hin HTK2 HBA hfw;clear hi;obtain ⟨aa,ap,h5,hz5, -⟩:=hin.c5;have h0:=hin.c0.1;have h1:=hin.c1.1;have h2:=hin.c2.1;have h3:=hin.c3.1;have h4:=hin.c4.1;clear hin;have ka:=zc.alloc [] wr (.cells #[int i64 i.op,int i64 i.dst,int i64 i.a,int i64 i.b,int i64 i.n,.slice aa i.args.length ap] 54);have hnw:=zh wr (.cells #[int i64 i.op,int i64 i.dst,int i64 i.a,int i64 i.b,int i64 i.n,.slice aa i.args.length ap] 54);have hz:=jL hz5;have HU:=hid (zbq i aa ap _ (hz.kept ka (fun _ _ _=>by simp)) (by omega));have HD:=hid fun (w':World)=>zaL i (.slice aa i.args.length ap) w';have HLU:Box ((zN i).length≤2000000):=hid (by have:=Zm i;omega);have HS2:=hid (HS.o.kept ka (by simp));have HK2:=hid (HK.o.quiet ka);have HNW:=hid hnw;have HSN:=hid (zdh (x.code.take k) s i);rw[← HTK2.o] at HSN;have HF:=hid (HFT.o k);unfold z8 at HU HD;unfold QC at HD;clear ka HS HK HTK2 hz hz5 hnw;generalize hal:i.args.length=al at *;clear hal;generalize hs1:dfS (x.code.take k) s=s1 at *;clear hs1;go_upto_region 4 with fail;generalize wr.alloc (.cells #[int i64 i.op,int i64 i.dst,int i64 i.a,int i64 i.b,int i64 i.n,.slice aa al ap] 54)=wa at *;generalize hws:wr.heap.size=u at *;clear hws;have e0:=zd HNW.o 0;have e1:=zd HNW.o 1;have e2:=zd HNW.o 2;have e3:=zd HNW.o 3;have e4:=zd HNW.o 4;have e5:=zd HNW.o 5;have HHA:=hid fun (a:Option Addr) (c:Nat) (w':World) (h':zJ w' b s1) (hz:zw w' a (zN i))=>zed h' HF.o c hz HLU.o;have HNE:Box (∀ w',zc [] wa w'→w'.heap[u]? = some (.cells #[int i64 i.op,int i64 i.dst,int i64 i.a,int i64 i.b,int i64 i.n,.slice aa al ap] 54 (0,0))):=hid fun w' k'=>ze HNW.o k';cases hall:(zN i).all (ZL s1) with
   | false=>
    rw[hall] at HBA HHA
    go_wp2_with (first
     | (go_at_call 213;refine HU.o.mono ?_;rintro e w3 ⟨a3,c3,rfl,h3,k3⟩)
     | (go_at_call 212;refine (HHA.o a3 c3 _ (HS2.o.kept k3 (by simp)) h3).mono ?_;rintro e w4 ⟨rfl,m4,rfl⟩))
    go_ret;exact ⟨.inl ⟨k,by rw[HL.o];omega,rfl,HBA.o,HJ.o⟩,(HK2.o.quiet k3).quiet (zc.drewN [] _ _)⟩
   | true=>
    rw[hall] at HBA HHA;have HA:=hid fun (w':World) (h':zJ w' b s1)=>zbt b s1 i.dst w' h' HF.o;cases hd:zD i with
    | true=>
     rw[hd] at HD HSN;rw[if_pos rfl] at HD HSN
     go_wp2_with (first
      | (go_at_call 213;refine HU.o.mono ?_;rintro e w3 ⟨a3,c3,rfl,h3,k3⟩)
      | (go_at_call 212;refine (HHA.o a3 c3 _ (HS2.o.kept k3 (by simp)) h3).mono ?_;rintro e w4 ⟨rfl,m4,rfl⟩;have k4:=k3.quiet (zc.drewN [] w3 m4);have hh:=HNE.o _ k4;have q0:=zd hh 0;have q1:=zd hh 1;have q2:=zd hh 2;have q3:=zd hh 3;have q4:=zd hh 4;have q5:=zd hh 5)
      | (go_at_call 214;refine (HD.o _).mono ?_;rintro e w5 ⟨rfl,k5⟩;have k6:=k4.quiet k5)
      | (go_at_call 215;refine (HA.o _ (HS2.o.kept k6 (by simp))).mono ?_;rintro e w7 ⟨rfl,h7,k7⟩))
     go_roundw
     case rel=>exact ⟨k+1,by omega,by go_num,hid (by rw[HSN.o];exact h7),hid ((HK2.o.quiet k6).step k7),hid (fun j hj=>by
      by_cases e:j=k
      ·subst e;exact HBA.o
      ·exact HJ.o j (by omega))⟩
     case measure=>simp[intOf];omega
    | false=>
     rw[hd] at HD HSN;rw[if_neg (by decide)] at HD HSN
     go_wp2_with (first
      | (go_at_call 213;refine HU.o.mono ?_;rintro e w3 ⟨a3,c3,rfl,h3,k3⟩)
      | (go_at_call 212;refine (HHA.o a3 c3 _ (HS2.o.kept k3 (by simp)) h3).mono ?_;rintro e w4 ⟨rfl,m4,rfl⟩;have k4:=k3.quiet (zc.drewN [] w3 m4);have hh:=HNE.o _ k4;have q0:=zd hh 0;have q1:=zd hh 1;have q2:=zd hh 2;have q3:=zd hh 3;have q4:=zd hh 4;have q5:=zd hh 5)
      | (go_at_call 214;refine (HD.o _).mono ?_;rintro e w5 ⟨rfl,k5⟩;have k6:=k4.quiet k5))
     go_roundw
     case rel=>exact ⟨k+1,by omega,by go_num,hid (by rw[HSN.o];exact HS2.o.kept k6 (by simp)),hid (HK2.o.quiet k6),hid (fun j hj=>by
      by_cases e:j=k
      ·subst e;exact HBA.o
      ·exact HJ.o j (by omega))⟩
     case measure=>simp[intOf];omega
  ·obtain rfl:k=L:=by omega
   have HBE:=hid (zco x s);have htk:x.code.take k=x.code:=by rw[← HL.o,List.take_length]
   rw[htk] at HS;rw[HL.o] at HBE;have HF:Box (Fit (dfS x.code s)):=hid (by have:=HFT.o k;rw[htk] at this;exact this);have HH:=hid fun (z:Int) (w':World) (h':zJ w' b (dfS x.code s))=>Q3 b _ z w' h' HF.o;obtain ⟨q0,q1,q2⟩:=C0.o _ HKW.o;clear htk;by_cases f2:x.fin=2
   ·have HFI:Box (x.fin=2∨x.fin=3):=hid (.inl f2)
    rw[f2] at q1;clear f2;have HZ:=hid (HH.o x.reg wr HS.o);cases hz:ZL (dfS x.code s) x.reg with
    | true=>
     rw[hz] at HZ HBE;go_wp2_with (go_at_call 134;refine HZ.o.mono ?_;rintro e w3 ⟨rfl,m3,rfl⟩);go_ret
     exact ⟨.inr ⟨rfl,fun j hj=>by
      by_cases e:j=k
      ·subst e;rw[HBE.o];simp
      ·exact HJ.o j (by rw[HL.o] at hj;omega)⟩,HK.o.quiet (zc.drewN [] _ _)⟩
    | false=>
     rw[hz] at HZ HBE;go_wp2_with (go_at_call 134;refine HZ.o.mono ?_;rintro e w3 ⟨rfl,m3,rfl⟩;have q0':(wr.drewN m3).cell? ⟨bb,bo,none⟩=some (.slice ca k cp):=q0);go_ret;exact ⟨.inl ⟨k,by rw[HL.o];omega,rfl,by rw[HBE.o];simp[HFI.o],HJ.o⟩,HK.o.quiet (zc.drewN [] _ _)⟩
   by_cases f3:x.fin=3
   ·have HFI:Box (x.fin=2∨x.fin=3):=hid (.inr f3)
    rw[f3] at q1;clear f2 f3;have HZ:=hid (HH.o x.reg wr HS.o);cases hz:ZL (dfS x.code s) x.reg with
    | true=>
     rw[hz] at HZ HBE;go_wp2_with (go_at_call 134;refine HZ.o.mono ?_;rintro e w3 ⟨rfl,m3,rfl⟩);go_ret
     exact ⟨.inr ⟨rfl,fun j hj=>by
      by_cases e:j=k
      ·subst e;rw[HBE.o];simp
      ·exact HJ.o j (by rw[HL.o] at hj;omega)⟩,HK.o.quiet (zc.drewN [] _ _)⟩
    | false=>
     rw[hz] at HZ HBE;go_wp2_with (go_at_call 134;refine HZ.o.mono ?_;rintro e w3 ⟨rfl,m3,rfl⟩;have q0':(wr.drewN m3).cell? ⟨bb,bo,none⟩=some (.slice ca k cp):=q0);go_ret;exact ⟨.inl ⟨k,by rw[HL.o];omega,rfl,by rw[HBE.o];simp[HFI.o],HJ.o⟩,HK.o.quiet (zc.drewN [] _ _)⟩
   have HFI:Box (¬ (x.fin=2∨x.fin=3)):=hid (fun h=>h.elim f2 f3);have o2:(x.fin == 2)=false:=by simpa using f2
   have o3:(x.fin == 3)=false:=by simpa using f3
   clear f2 f3;go_wp2;go_ret
   exact ⟨.inr ⟨rfl,fun j hj=>by
    by_cases e:j=k
    ·subst e;rw[HBE.o];simp[HFI.o]
    ·exact HJ.o j (by rw[HL.o] at hj;omega)⟩,HK.o⟩
def js(F:Fu8)(r:Nat):Nat→Bool:=rch (Zn (zy F) (fun b=>dfS (zr F b).code zM) r) [0]
def inK(F:Fu8)(par r b:Nat):Nat→Bool:=fun m=>decide (m<F.regs.length) && !(decide (par≤m) && (decide (m<r) && js F m b))
def inS(P:Pr8)(F:Fu8)(b:Nat):Nat→Bool:=fun m=>decide (m<F.regs.length) && !(decide (zeO P F≤m) && js F m b)
theorem zfm(h:F.regs.length≤5000)(par r b:Nat):Fit (inK F par r b):=fun n hn=>by
 unfold inK;rw[decide_eq_false (by omega)];rfl
theorem zfi(F:Fu8)(par b:Nat):inK F par par b=zet F.regs.length:=by
 funext m
 unfold inK zet;by_cases h:m<F.regs.length
 ·by_cases h2:par≤m
  ·have h3:¬ m<par:=by omega
   simp[h,h3]
  ·simp[h,h2]
 ·simp[h]
theorem zli{P:Pr8}(h:F.regs.length≤r)(b:Nat):inK F (zeO P F) r b=inS P F b:=by
 funext m
 unfold inK inS;by_cases h1:m<F.regs.length
 ·have h2:m<r:=by omega
  simp[h2]
 ·simp[h1]
def inC(F:Fu8)(par r c b:Nat):Nat→Bool:=if b<c∧js F r b=true then zi5 (inK F par r b) (r:Int) else inK F par r b
theorem zlk(h:F.regs.length≤5000)(par r c b:Nat):Fit (inC F par r c b):=by
 unfold inC;split
 ·intro n hn
  unfold zi5;rw[zfm h par r b n hn];rfl
 ·exact zfm h par r b
theorem zhT(F:Fu8)(par r b:Nat):inC F par r 0 b=inK F par r b:=by unfold inC;rw[if_neg (by omega)]
theorem zd1{c':Nat}(hc:c≤c')(h:∀ j,c≤j→j<c'→js F r j=false):inC F par r c b=inC F par r c' b:=by
 unfold inC;by_cases h1:b<c∧js F r b=true
 ·rw[if_pos h1,if_pos ⟨by omega,h1.2⟩]
 ·rw[if_neg h1]
  by_cases h2:b<c'∧js F r b=true
  ·exfalso
   have:=h b (by
    rcases Nat.lt_or_ge b c with h3 | h3
    ·exact absurd ⟨h3,h2.2⟩ h1
    ·exact h3) h2.1
   rw[this] at h2;exact absurd h2.2 (by decide)
  ·rw[if_neg h2]
theorem zi6(hr:par≤r)(h:b<c):inC F par r c b=inK F par (r+1) b:=by
 funext m
 unfold inC;by_cases h1:js F r b=true
 ·rw[if_pos ⟨h,h1⟩]
  unfold zi5 inK;by_cases e:m=r
  ·subst e
   simp[h1,hr]
  ·have e1:¬ ((m:Int)=(r:Int)):=by omega
   have e2:decide (m<r+1)=decide (m<r):=by rw[decide_eq_decide];omega
   simp[e1,e2]
 ·rw[if_neg (fun h=>h1 h.2)]
  unfold inK;by_cases e:m=r
  ·subst e
   rw[Bool.not_eq_true] at h1;simp[h1]
  ·have e2:decide (m<r+1)=decide (m<r):=by rw[decide_eq_decide];omega
   rw[e2]
theorem zlQ(h:js F r b=true)(j:Nat):(if j=b then zi5 (inC F par r b b) (r:Int) else inC F par r b j)=inC F par r (b+1) j:=by
 by_cases e:j=b
 ·subst e
  rw[if_pos rfl];unfold inC;rw[if_neg (by omega),if_pos ⟨by omega,h⟩]
 ·rw[if_neg e]
  unfold inC;by_cases c:j<b∧js F r j=true
  ·rw[if_pos c,if_pos ⟨by omega,c.2⟩]
  ·rw[if_neg c,if_neg (fun h=>c ⟨by omega,h.2⟩)]
structure IM (w wr:World) (q p1 p2 n k1 k2:Nat) (d1 d2:Nat→Nat) (D1 D2:Nat→Nat→Bool) (gb:Nat) (a:Option Addr) (g:List (List Nat)) (B:Nat):Prop where
 h1:HS wr w.heap.size q p1 n k1 d1 D1
 h2:HS wr w.heap.size q p2 n k2 d2 D2
 cross:∀ i j,i<k1→j<k2→d1 i≠d2 j
 keep:zc [] w wr
 box:jg wr gb (int i64 (n:Int)) (.slice a n n)
 gr:GAt wr B a g
theorem IM.quiet{d1 d2:Nat→Nat}{D1 D2:Nat→Nat→Bool}{g:List (List Nat)}(h:IM w wr q p1 p2 n k1 k2 d1 d2 D1 D2 gb a g B)(k:zc [] wr wy):IM w wy q p1 p2 n k1 k2 d1 d2 D1 D2 gb a g B:=
 ⟨h.h1.quiet k,h.h2.quiet k,h.cross,h.keep.quiet k,h.box.kept k (by simp),h.gr.quiet k⟩
structure IL (w:World) (q p1 p2 gb B:Nat):Prop where
 l1:w.heap.size≤p1
 l2:w.heap.size≤p2
 q1:p1<q
 q2:p2<q
 ne:p1≠p2
 g1:gb≠p1
 g2:gb≠p2
 gq:gb<q
 b1:B≤p1
 b2:B≤p2
 bq:B≤q
theorem IM.put1{d1 d2:Nat→Nat}{D1 D2:Nat→Nat→Bool}{g:List (List Nat)}(h:IM w wr q p1 p2 n k1 k2 d1 d2 D1 D2 gb a g B)(L:IL w q p1 p2 gb B)(k:zc [] wr wy){s:Nat→Bool}(hb:zJ wy b s)(hq:q≤wr.heap.size)(hn:wr.heap.size≤b):
  IM w (wy.setCell ⟨p1,k1,none⟩ (pointer (some ⟨b,0,none⟩))) q p1 p2 n (k1+1) k2 (fun i=>if i=k1 then b else d1 i) d2 (fun i=>if i=k1 then s else D1 i) D2 gb a g B:=by
 have h':=h.quiet k;have kk:zc [p1] wy (wy.setCell ⟨p1,k1,none⟩ (pointer (some ⟨b,0,none⟩))):=zc.setCell _ _ _ _ (by simp);have o1:∀ i,i<k1→d1 i≠b:=fun i hi e=>by have:=(h.h1.set i hi).lt';omega
 have o2:∀ i,i<k2→d2 i≠b:=fun i hi e=>by have:=(h.h2.set i hi).lt';omega
 refine ⟨h'.h1.put L.q1 hb (by omega) o1,h'.h2.kept kk (by have:=L.ne;simp;omega) (fun i hi=>by have:=h.h2.new i hi;have:=L.q1;simp;omega),fun i j hi hj=> ?_,h'.keep.fresh kk (fun x hx=>by have:=L.l1;simp at hx;omega),h'.box.kept kk (by have:=L.g1;simp;omega),h'.gr.kept kk (fun x hx=>by have:=L.b1;simp at hx;omega)⟩;by_cases e:i=k1
 ·rw[if_pos e];exact fun e2=>o2 j hj e2.symm
 ·rw[if_neg e];exact h.cross i j (by omega) hj
theorem IM.put2{d1 d2:Nat→Nat}{D1 D2:Nat→Nat→Bool}{g:List (List Nat)}(h:IM w wr q p1 p2 n k1 k2 d1 d2 D1 D2 gb a g B)(L:IL w q p1 p2 gb B)(k:zc [] wr wy){s:Nat→Bool}(hb:zJ wy b s)(hq:q≤wr.heap.size)(hn:wr.heap.size≤b):
  IM w (wy.setCell ⟨p2,k2,none⟩ (pointer (some ⟨b,0,none⟩))) q p1 p2 n k1 (k2+1) d1 (fun i=>if i=k2 then b else d2 i) D1 (fun i=>if i=k2 then s else D2 i) gb a g B:=by
 have h':=h.quiet k;have kk:zc [p2] wy (wy.setCell ⟨p2,k2,none⟩ (pointer (some ⟨b,0,none⟩))):=zc.setCell _ _ _ _ (by simp);have o1:∀ i,i<k1→d1 i≠b:=fun i hi e=>by have:=(h.h1.set i hi).lt';omega
 have o2:∀ i,i<k2→d2 i≠b:=fun i hi e=>by have:=(h.h2.set i hi).lt';omega
 refine ⟨h'.h1.kept kk (by have:=L.ne;simp;omega) (fun i hi=>by have:=h.h1.new i hi;have:=L.q2;simp;omega),h'.h2.put L.q2 hb (by omega) o2,fun i j hi hj=> ?_,h'.keep.fresh kk (fun x hx=>by have:=L.l2;simp at hx;omega),h'.box.kept kk (by have:=L.g2;simp;omega),h'.gr.kept kk (fun x hx=>by have:=L.b2;simp at hx;omega)⟩;by_cases e:j=k2
 ·rw[if_pos e];exact o1 i hi
 ·rw[if_neg e];exact h.cross i j hi (by omega)
theorem IM.turn{d1 d2:Nat→Nat}{D1 D2:Nat→Nat→Bool}{g:List (List Nat)}(h:IM w wr q p1 p2 n k1 k2 d1 d2 D1 D2 gb a g B)(L:IL w q p1 p2 gb B){j:Nat}(hj:j<k1){s:Nat→Bool}(kk:zc [d1 j] wr wy)(hs:zJ wy (d1 j) s):
  IM w wy q p1 p2 n k1 k2 d1 d2 (fun i=>if i=j then s else D1 i) D2 gb a g B:=by
 have hn:=h.h1.new j hj;refine ⟨h.h1.turn L.q1 hj kk hs,h.h2.kept kk (by have:=L.q2;simp;omega) (fun i hi=>by have:=h.cross j i hj hi;simp;omega),h.cross,h.keep.fresh kk (fun x hx=>by have:=L.l1;have:=L.q1;simp at hx;omega),h.box.kept kk (by have:=L.gq;simp;omega),h.gr.kept kk (fun x hx=>by have:=L.bq;simp at hx;omega)⟩
theorem JZ{B' n' c':Nat}{v':Value}{xs':List Value}{U:TypeId}(h:w.ownsRow B T c v n xs)(h':w.ownsRow B' U c' v' n' xs')(hne:T≠U)(hb:v.ownBlock=some b):v'.ownBlock≠some b:=by
 rcases h.2 with ⟨rfl,_⟩ | ⟨g,cap,cur,rfl,_,hg,_⟩
 ·simp[Value.ownBlock] at hb
 ·simp[Value.ownBlock] at hb
  subst hb;exact qM h' hg (fun e=>hne e.symm)
theorem zfH(h:w.ownsRow B T c v n xs)(hb:v.ownBlock=some b):B≤b:=by
 rcases h.2 with ⟨rfl,_⟩ | ⟨g,cap,cur,rfl,h1,_⟩
 ·simp[Value.ownBlock] at hb
 ·simp[Value.ownBlock] at hb
  omega
theorem zdf{e:TypeId}{size:Nat}(h:w.ownsRow base e size v n xs):w.drew.ownsRow base e size v n xs:=h
structure TbM (B C:Nat) (w:World) (tb:Nat) (bv sv:Value) (nd:Int) (nb:Nat) (bs:List Value) (ns:Nat) (ss:List Value):Prop where
 box:w.heap[tb]? = some (.cells #[bv,sv,int i64 nd] 141 (0,0))
 bo:w.ownsRow B 3 1 bv nb bs
 so:w.ownsRow C 144 4 sv ns ss
 new:B≤tb
section
variable {B C:Nat}{w wa w5:World}{tb:Nat}{bv sv v5:Value}{nd:Int}{nb:Nat}{bs bs':List Value}{ns:Nat}{ss ss':List Value}
theorem TbM.quiet{w':World}(h:TbM B C w tb bv sv nd nb bs ns ss)(k:zc [] w w'):TbM B C w' tb bv sv nd nb bs ns ss:=
 ⟨ze h.box k,zj h.bo k (fun _ _=>by simp),zj h.so k (fun _ _=>by simp),h.new⟩
theorem TbM.num(h:TbM B C w tb bv sv nd nb bs ns ss)(n:Int):TbM B C (w.setCell ⟨tb,2,none⟩ (int i64 n)) tb bv sv n nb bs ns ss:=by
 have ks:zc [tb] w (w.setCell ⟨tb,2,none⟩ (int i64 n)):=zc.setCell _ _ _ _ (List.mem_singleton.2 rfl);exact ⟨heap_setCell_same _ _ 2 _ _ _ h.box,zj h.bo ks (fun b hb hm=>qM h.bo h.box (by decide) (by rw[hb,List.mem_singleton.1 hm])),zj h.so ks (fun b hb hm=>qM h.so h.box (by decide) (by rw[hb,List.mem_singleton.1 hm])),h.new⟩
theorem TbM.far(h:TbM B C w tb bv sv nd nb bs ns ss)(ka:zc [] w wa){D:Nat}{T:TypeId}{c n:Nat}{v:Value}{xs:List Value}(hr:w.ownsRow D T c v n xs)(hT:T≠141)(hg:wa.grownBy w5 v.ownBlock):w5.heap[tb]? = some (.cells #[bv,sv,int i64 nd] 141 (0,0))∧∀ {wS:World},wS.heap.size=D→zc [tb] wS w→∀ (i:Nat) (x:Value),zc [tb] wS (w5.setCell ⟨tb,i,none⟩ x):=by
 have h9:=h.quiet ka;have hr9:=zj hr ka (fun _ _=>by simp);have kg:zc v.ownBlock.toList wa w5:=zc.grown _ hg (fun k hk=>by rw[hk];simp);refine ⟨?_,fun {wS} hS k i x=> ?_⟩
 ·rw[kg.block tb (zQ h9.box) (fun hm=>qM hr9 h9.box hT (by simpa using hm))]
  exact h9.box
 ·refine ((k.quiet ka).trans kg (fun x hx hl=> ?_)).step (zc.setCell _ _ _ _ (List.mem_singleton.2 rfl))
  have:=zfH hr9 (b:=x) (by simpa using hx);omega
theorem TbM.app1(h:TbM B C w tb bv sv nd nb bs ns ss)(ka:zc [] w wa){m:Nat}(ho:w5.ownsRow B 3 1 v5 m bs')(hg:wa.grownBy w5 bv.ownBlock):TbM B C (w5.setCell ⟨tb,0,none⟩ v5) tb v5 sv nd m bs' ns ss:=by
 have h9:=h.quiet ka;have kg:zc bv.ownBlock.toList wa w5:=zc.grown _ hg (fun k hk=>by rw[hk];simp);have hb:=(h.far ka h.bo (by decide) hg).1;have gs:w5.ownsRow C 144 4 sv ns ss:=zj h9.so kg (fun b hb hm=>JZ h9.so h9.bo (by decide) hb (by simpa using hm));have ks:zc [tb] w5 (w5.setCell ⟨tb,0,none⟩ v5):=zc.setCell _ _ _ _ (List.mem_singleton.2 rfl);exact ⟨heap_setCell_same _ _ 0 _ _ _ hb,zj ho ks (fun b hc hm=>qM ho hb (by decide) (by rw[hc,List.mem_singleton.1 hm])),zj gs ks (fun b hc hm=>qM gs hb (by decide) (by rw[hc,List.mem_singleton.1 hm])),h.new⟩
theorem TbM.app2(h:TbM B C w tb bv sv nd nb bs ns ss)(ka:zc [] w wa){m:Nat}(ho:w5.ownsRow C 144 4 v5 m ss')(hg:wa.grownBy w5 sv.ownBlock):TbM B C (w5.setCell ⟨tb,1,none⟩ v5) tb bv v5 nd nb bs m ss':=by
 have h9:=h.quiet ka;have kg:zc sv.ownBlock.toList wa w5:=zc.grown _ hg (fun k hk=>by rw[hk];simp);have hb:=(h.far ka h.so (by decide) hg).1;have gs:w5.ownsRow B 3 1 bv nb bs:=zj h9.bo kg (fun b hb hm=>JZ h9.bo h9.so (by decide) hb (by simpa using hm));have ks:zc [tb] w5 (w5.setCell ⟨tb,1,none⟩ v5):=zc.setCell _ _ _ _ (List.mem_singleton.2 rfl);exact ⟨heap_setCell_same _ _ 1 _ _ _ hb,zj gs ks (fun b hc hm=>qM gs hb (by decide) (by rw[hc,List.mem_singleton.1 hm])),zj ho ks (fun b hc hm=>qM ho hb (by decide) (by rw[hc,List.mem_singleton.1 hm])),h.new⟩
theorem TbM.off(h:TbM B C w tb bv sv nd nb bs ns ss){b o:Nat}{x y:Int}(h0:w.cell? ⟨b,o,none⟩=some (int i64 x))(h1:w.cell? ⟨b,o+1,none⟩=some (int i64 y)):b≠tb:=by
 rintro rfl;rw[zd h.box] at h0 h1;have hv:∃ a n c,sv=.slice a n c:=by
  rcases h.so.2 with ⟨hv,_⟩ | ⟨g,cap,cur,hv,_⟩
  ·exact ⟨_,_,_,hv⟩
  ·exact ⟨_,_,_,hv⟩
 obtain ⟨a,n,c,rfl⟩:=hv;rcases o with _ | _ | o
 ·simp at h1
 ·simp at h0
 ·simp at h1
end
theorem zfN:Tryz.prog.underlying 139=some (.slice 144):=by kernel_rfl
theorem zhE:Tryz.prog.info? 144=some Tryz.t144:=by kernel_rfl
theorem zik:Tryz.t144.zero=some (agg #[int i64 0,int i64 0,int i64 0,int i64 0]):=by kernel_rfl
theorem zir:Tryz.t144.size=4:=by kernel_rfl
theorem zgi:Tryz.t144.bytes=32:=by kernel_rfl
def zeS(l:List St):List Value:=l.flatMap fun s=>[int i64 (s.p:Int),int i64 s.r,int i64 (s.c:Int),int i64 (s.n:Int)]
theorem zhm(l:List St)(s:St):zeS (l ++ [s])=zeS l ++ [int i64 (s.p:Int),int i64 s.r,int i64 (s.c:Int),int i64 (s.n:Int)]:=by
 unfold zeS;rw[List.flatMap_append,List.flatMap_singleton]
theorem ziZ(a b c d:Int):∀ u∈[Value.int .i64 a,int i64 b,int i64 c,int i64 d],u.oneCell'=true:=by
 intro u hu;simp at hu;rcases hu with rfl | rfl | rfl | rfl <;> rfl
end Go.Proofs.YthflgjkmbakedaaGreatDoor
