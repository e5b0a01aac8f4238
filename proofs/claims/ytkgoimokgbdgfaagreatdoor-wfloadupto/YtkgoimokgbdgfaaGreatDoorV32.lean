import Derived.Test.YtkgoimokgbdgfaaGreatDoorV23
import Derived.Test.YtkgoimokgbdgfaaGreatDoorV31

namespace Go.Proofs.YtkgoimokgbdgfaaGreatDoor
open Go.RowKit
open Go.Value (int pointer agg)
open Go.IntKind (i64)
set_option maxRecDepth 20000
set_option maxHeartbeats 8000000
variable {B b f gb i k k1 k2 m n p1 p2 par q r:Nat}{F:Fu8}{P:Pr8}{a:Option Addr}{w wr wy:World}{x:Bl8}
def jU(F:Fu8)(r:Nat):Nat→Bool:=rch (ZW (zz F) (fun b=>dfS (zr F b).code zY) r) [0]
def inK(F:Fu8)(par r b:Nat):Nat→Bool:=fun m=>decide (m<F.regs.length) && !(decide (par≤m) && (decide (m<r) && jU F m b))
def inS(P:Pr8)(F:Fu8)(b:Nat):Nat→Bool:=fun m=>decide (m<F.regs.length) && !(decide (zgM P F≤m) && jU F m b)
theorem zhl(h:F.regs.length≤5000)(par r b:Nat):Fit (inK F par r b):=fun n hn=>by
 unfold inK;rw[decide_eq_false (by omega)];rfl
theorem zix(F:Fu8)(par b:Nat):inK F par par b=zfS F.regs.length:=by
 funext m
 unfold inK zfS;by_cases h:m<F.regs.length
 ·by_cases h2:par≤m
  ·have h3:¬ m<par:=by omega
   simp[h,h3]
  ·simp[h,h2]
 ·simp[h]
theorem zmm(h:F.regs.length≤r)(b:Nat):inK F (zgM P F) r b=inS P F b:=by
 funext m
 unfold inK inS;by_cases h1:m<F.regs.length
 ·have h2:m<r:=by omega
  simp[h2]
 ·simp[h1]
def inC(F:Fu8)(par r c b:Nat):Nat→Bool:=if b<c∧jU F r b=true then zjF (inK F par r b) (r:Int) else inK F par r b
theorem zmI(h:F.regs.length≤5000)(par r c b:Nat):Fit (inC F par r c b):=by
 unfold inC;split
 ·intro n hn
  unfold zjF;rw[zhl h par r b n hn];rfl
 ·exact zhl h par r b
theorem zlb(F:Fu8)(par r b:Nat):inC F par r 0 b=inK F par r b:=by unfold inC;rw[if_neg (by omega)]
theorem zfi{c c':Nat}(hc:c≤c')(h:∀ j,c≤j→j<c'→jU F r j=false):inC F par r c b=inC F par r c' b:=by
 unfold inC;by_cases h1:b<c∧jU F r b=true
 ·rw[if_pos h1,if_pos ⟨by omega,h1.2⟩]
 ·rw[if_neg h1]
  by_cases h2:b<c'∧jU F r b=true
  ·exfalso
   have:=h b (by
    rcases Nat.lt_or_ge b c with h3 | h3
    ·exact absurd ⟨h3,h2.2⟩ h1
    ·exact h3) h2.1
   rw[this] at h2;exact absurd h2.2 (by decide)
  ·rw[if_neg h2]
theorem zjB{c:Nat}(hr:par≤r)(h:b<c):inC F par r c b=inK F par (r+1) b:=by
 funext m
 unfold inC;by_cases h1:jU F r b=true
 ·rw[if_pos ⟨h,h1⟩]
  unfold zjF inK;by_cases e:m=r
  ·subst e
   simp[h1,hr]
  ·have e1:¬ ((m:Int)=(r:Int)):=by omega
   have e2:decide (m<r+1)=decide (m<r):=by rw[decide_eq_decide];omega
   simp[e1,e2]
 ·rw[if_neg (fun h=>h1 h.2)]
  unfold inK;by_cases e:m=r
  ·subst e
   rw[Bool.not_eq_true] at h1;simp[h1]
  ·have e2:decide (m<r+1)=decide (m<r):=by rw[decide_eq_decide];omega
   rw[e2]
theorem zou(h:jU F r b=true)(j:Nat):(if j=b then zjF (inC F par r b b) (r:Int) else inC F par r b j)=inC F par r (b+1) j:=by
 by_cases e:j=b
 ·subst e
  rw[if_pos rfl];unfold inC;rw[if_neg (by omega),if_pos ⟨by omega,h⟩]
 ·rw[if_neg e]
  unfold inC;by_cases c:j<b∧jU F r j=true
  ·rw[if_pos c,if_pos ⟨by omega,c.2⟩]
  ·rw[if_neg c,if_neg (fun h=>c ⟨by omega,h.2⟩)]
structure IM (w wr:World) (q p1 p2 n k1 k2:Nat) (d1 d2:Nat→Nat) (D1 D2:Nat→Nat→Bool) (gb:Nat) (a:Option Addr) (g:List (List Nat)) (B:Nat):Prop where
 h1:HS wr w.heap.size q p1 n k1 d1 D1
 h2:HS wr w.heap.size q p2 n k2 d2 D2
 cross:∀ i j,i<k1→j<k2→d1 i≠d2 j
 keep:zc [] w wr
 box:jC wr gb (int i64 (n:Int)) (.slice a n n)
 gr:GAt wr B a g
theorem IM.quiet{d1 d2:Nat→Nat}{D1 D2:Nat→Nat→Bool}{g:List (List Nat)}(h:IM w wr q p1 p2 n k1 k2 d1 d2 D1 D2 gb a g B)(k:zc [] wr wy):IM w wy q p1 p2 n k1 k2 d1 d2 D1 D2 gb a g B:=
 ⟨h.h1.quiet k,h.h2.quiet k,h.cross,h.keep.quiet k,h.box.kept k (by simp),h.gr.quiet k⟩
structure IL (w:World) (q p1 p2 gb B:Nat):Prop where
 l1:w.heap.size≤p1
 l2:w.heap.size≤p2
 q1:p1<q
 q2:p2<q
 ne:p1≠p2
 g1:gb≠p1
 g2:gb≠p2
 gq:gb<q
 b1:B≤p1
 b2:B≤p2
 bq:B≤q
theorem IM.put1{d1 d2:Nat→Nat}{D1 D2:Nat→Nat→Bool}{g:List (List Nat)}(h:IM w wr q p1 p2 n k1 k2 d1 d2 D1 D2 gb a g B)(L:IL w q p1 p2 gb B)(k:zc [] wr wy){s:Nat→Bool}(hb:zV wy b s)(hq:q≤wr.heap.size)(hn:wr.heap.size≤b):
  IM w (wy.setCell ⟨p1,k1,none⟩ (pointer (some ⟨b,0,none⟩))) q p1 p2 n (k1+1) k2 (fun i=>if i=k1 then b else d1 i) d2 (fun i=>if i=k1 then s else D1 i) D2 gb a g B:=by
 have h':=h.quiet k;have kk:zc [p1] wy (wy.setCell ⟨p1,k1,none⟩ (pointer (some ⟨b,0,none⟩))):=zc.setCell _ _ _ _ (by simp);have o1:∀ i,i<k1→d1 i≠b:=fun i hi e=>by have:=(h.h1.set i hi).lt';omega
 have o2:∀ i,i<k2→d2 i≠b:=fun i hi e=>by have:=(h.h2.set i hi).lt';omega
 refine ⟨h'.h1.put L.q1 hb (by omega) o1,h'.h2.kept kk (by have:=L.ne;simp;omega) (fun i hi=>by have:=h.h2.new i hi;have:=L.q1;simp;omega),fun i j hi hj=> ?_,h'.keep.fresh kk (fun x hx=>by have:=L.l1;simp at hx;omega),h'.box.kept kk (by have:=L.g1;simp;omega),h'.gr.kept kk (fun x hx=>by have:=L.b1;simp at hx;omega)⟩;by_cases e:i=k1
 ·rw[if_pos e];exact fun e2=>o2 j hj e2.symm
 ·rw[if_neg e];exact h.cross i j (by omega) hj
theorem IM.put2{d1 d2:Nat→Nat}{D1 D2:Nat→Nat→Bool}{g:List (List Nat)}(h:IM w wr q p1 p2 n k1 k2 d1 d2 D1 D2 gb a g B)(L:IL w q p1 p2 gb B)(k:zc [] wr wy){s:Nat→Bool}(hb:zV wy b s)(hq:q≤wr.heap.size)(hn:wr.heap.size≤b):
  IM w (wy.setCell ⟨p2,k2,none⟩ (pointer (some ⟨b,0,none⟩))) q p1 p2 n k1 (k2+1) d1 (fun i=>if i=k2 then b else d2 i) D1 (fun i=>if i=k2 then s else D2 i) gb a g B:=by
 have h':=h.quiet k;have kk:zc [p2] wy (wy.setCell ⟨p2,k2,none⟩ (pointer (some ⟨b,0,none⟩))):=zc.setCell _ _ _ _ (by simp);have o1:∀ i,i<k1→d1 i≠b:=fun i hi e=>by have:=(h.h1.set i hi).lt';omega
 have o2:∀ i,i<k2→d2 i≠b:=fun i hi e=>by have:=(h.h2.set i hi).lt';omega
 refine ⟨h'.h1.kept kk (by have:=L.ne;simp;omega) (fun i hi=>by have:=h.h1.new i hi;have:=L.q2;simp;omega),h'.h2.put L.q2 hb (by omega) o2,fun i j hi hj=> ?_,h'.keep.fresh kk (fun x hx=>by have:=L.l2;simp at hx;omega),h'.box.kept kk (by have:=L.g2;simp;omega),h'.gr.kept kk (fun x hx=>by have:=L.b2;simp at hx;omega)⟩;by_cases e:j=k2
 ·rw[if_pos e];exact o1 i hi
 ·rw[if_neg e];exact h.cross i j hi (by omega)
theorem IM.turn{d1 d2:Nat→Nat}{D1 D2:Nat→Nat→Bool}{g:List (List Nat)}(h:IM w wr q p1 p2 n k1 k2 d1 d2 D1 D2 gb a g B)(L:IL w q p1 p2 gb B){j:Nat}(hj:j<k1){s:Nat→Bool}(kk:zc [d1 j] wr wy)(hs:zV wy (d1 j) s):
  IM w wy q p1 p2 n k1 k2 d1 d2 (fun i=>if i=j then s else D1 i) D2 gb a g B:=by
 have hn:=h.h1.new j hj;refine ⟨h.h1.turn L.q1 hj kk hs,h.h2.kept kk (by have:=L.q2;simp;omega) (fun i hi=>by have:=h.cross j i hj hi;simp;omega),h.cross,h.keep.fresh kk (fun x hx=>by have:=L.l1;have:=L.q1;simp at hx;omega),h.box.kept kk (by have:=L.gq;simp;omega),h.gr.kept kk (fun x hx=>by have:=L.bq;simp at hx;omega)⟩
theorem ziR(hb:F.blocks.length≤600)(r m:Nat)(h:F.blocks.length≤m):jU F r m=false:=
 zm7 (zcL (jJ hb) _ r).ok [0] m (by rw[jr,zZ];exact h)
theorem zp4{j:Nat}{v:Int}(hj:j<k)(h:v= -1∨∃ i:Nat,v=(i:Int)∧j<i∧i<k):(if intOf (int i64 v)<0 then 0 else k+1 - (intOf (int i64 v)).toNat)<(if intOf (int i64 (j:Int))<0 then 0 else k+1 - (intOf (int i64 (j:Int))).toNat):=by
 show (if v<0 then 0 else k+1 - v.toNat)<(if (j:Int)<0 then 0 else k+1 - (j:Int).toNat);rw[if_neg (by omega:¬ ((j:Int)<0))];rcases h with rfl | ⟨i,rfl,h1,h2⟩
 ·rw[if_pos (by omega)]
  omega
 ·rw[if_neg (by omega)]
  omega
def zii(w:World)(P:Pr8)(F:Fu8)(e:Ending)(w':World):Prop:=∃ p d q,e=.returned (.slice (some ⟨p,0,none⟩) F.blocks.length F.blocks.length)∧HS w' w.heap.size q p F.blocks.length F.blocks.length d (inS P F)∧p<q∧w.heap.size≤p∧zc [] w w'
theorem zoA{pb po:Nat}(h:PrC w pb po P)(hT:jS w)(hf:f<P.funcs.length)(hb0:0<(zg P f).blocks.length)(hb:(zg P f).blocks.length≤600)(hr:(zg P f).regs.length≤1000)(hc:∀ b,(zr (zg P f) b).code.length≤1000000):
  Calls Tryz.prog 61 #[pointer (some ⟨pb,po,none⟩),int i64 (f:Int)] w (zii w P (zg P f)):=by
 have HFL:=hid fun (w':World) (k:zc [] w w')=>zcU (PrC.stays _ _ _ _ _ k h) hf hb;obtain ⟨fa,fcp,H⟩:=h.fns;have h4:=H.cell;have C4:Box (∀ w',zc [] w w'→w'.cell? ⟨pb,po+4,none⟩=some (.slice fa P.funcs.length fcp)):=hid fun w' k=>za k h4;obtain ⟨fb,fo,rfl,hfu0⟩:=H.rows.at (zh (d:=⟨0,[],[]⟩) hf);have hfu:FuC w fb (fo+f * 3) (zg P f):=hfu0;obtain ⟨fb',fo',ba,bcp,e,BB⟩:=H.at hf;simp only[Option.some.injEq,Addr.mk.injEq,and_true] at e;obtain ⟨rfl,rfl⟩:=e;have h2:=BB.cell;have C2:Box (∀ w',zc [] w w'→w'.cell? ⟨fb,fo+f * 3+2,none⟩=some (.slice ba (zg P f).blocks.length bcp)):=hid fun w' k=>za k h2;have BA:Box (∀ b,b<(zg P f).blocks.length→∃ bb bo,ba=some ⟨bb,bo,none⟩∧∀ w',zc [] w w'→Calls Tryz.prog 112 #[pointer (some ⟨bb,bo+b * 5,none⟩)] w' fun e w''=>∃ b',e=.returned (pointer (some ⟨b',0,none⟩))∧zV w'' b' (dfS (zr (zg P f) b).code zY)∧zc [] w' w''∧w'.heap.size≤b'):=hid fun b hb=>by
  obtain ⟨bb,bo,e,hbl⟩:=BB.at hb;exact ⟨bb,bo,e,fun w' k=>zet (BlC.stays _ _ _ _ _ k hbl) (hc b)⟩
 have HRS:=hid fun (w':World) (k:zc [] w w')=>zcJ (FuC.stays _ _ _ _ _ k hfu) (show (zg P f).regs.length≤5000 by omega);have HRG:=hid fun (w':World) (k:zc [] w w')=>zfn (FuC.stays _ _ _ _ _ k hfu) (show (zg P f).regs.length≤5000 by omega);have HPA:=hid fun (w':World) (k:zc [] w w')=>zgt (PrC.stays _ _ _ _ _ k h) (FuC.stays _ _ _ _ _ k hfu);have HTB:Box (∀ w',zc [] w w'→jS w'):=hid fun w' k=>hT.kept k (by simp);have HSM:=hid (jJ hb);have HBO:=hid (ziR hb);have HMY:=hid fun (a:Option Addr) (cap B:Nat) (w':World) (hG:GAt w' B a (zz (zg P f)))=>zcO (zz (zg P f)) HSM.o a cap B w' hG;rw[zZ] at HFL HMY;unfold zii;have HRK:=hid fun (par r c b:Nat)=>zmI (show (zg P f).regs.length≤5000 by omega) par r c b;clear h h4 hfu hfu0 BB H h2 hc hT;have gf:(f:Int)<(P.funcs.length:Int):=by omega
 generalize P.funcs.length=N at *;have HFN:=hid (zZ (zg P f));generalize zg P f=F at *;generalize F.blocks.length=n at *;have hmk:=zmF n (by omega);have hb0':¬ ((n:Int)=0):=by omega
 have hbe:((n:Int) == 0)=false:=by simpa using hb0'
 go_enter Tryz.func61,Tryz.ntmps61;go_upto_region 2 with (go_at_call 56;refine (HFL.o _ (zc.refl _ _)).mono ?_;rintro e w1 ⟨a,rfl,hg1,k1⟩)
 have ka:=zc.alloc [] w1 (.cells #[int i64 (n:Int),.slice a n n] 107);have HBX:=hid (jC.new w1 (int i64 (n:Int)) (.slice a n n));have HGR:Box (GAt (w1.alloc (.cells #[int i64 (n:Int),.slice a n n] 107)) w1.heap.size a (zz F)):=hid (hg1.quiet ka);have HK1:=hid (k1.quiet ka);have HSZ:Box ((w1.alloc (.cells #[int i64 (n:Int),.slice a n n] 107)).heap.size=w1.heap.size+1):=hid (by simp);have HW1:=hid k1.size;clear ka hg1 k1 HFL;generalize w1.alloc (.cells #[int i64 (n:Int),.slice a n n] 107)=W1 at *;generalize w1.heap.size=gb at *;have c0:=HBX.o.c0;have c1:=HBX.o.c1;go_upto_region 4 with (go_at_call 57;refine (HMY.o a n gb _ HGR.o).mono ?_;rintro e w2 ⟨rfl,k2⟩;have HBX2:=hid (HBX.o.kept k2 (by simp));have d0:=HBX2.o.c0;have d1:=HBX2.o.c1;have d4:=C4.o _ (HK1.o.quiet k2))
 clear d1 c0 c1 HMY;have HK2:=hid (HK1.o.quiet k2);have HGR2:=hid (HGR.o.quiet k2);have HS2:Box (gb<w2.heap.size):=hid HBX2.o.lt;clear HBX HGR HK1 HSZ k2;have hm1:Box (∀ wa,zc [] w2 wa→IM w ((wa.alloc (.cells (madeCells #[zf0] n) 110)).alloc (.cells (madeCells #[zf0] n) 110)) (wa.heap.size+2) wa.heap.size (wa.heap.size+1) n 0 0 (fun _=>0) (fun _=>0) (fun _=>zY) (fun _=>zY) gb a (zz F) gb):=hid fun wa ka=>by
  have k3:=zc.alloc [] wa (.cells (madeCells #[zf0] n) 110);have k4:=zc.alloc [] (wa.alloc (.cells (madeCells #[zf0] n) 110)) (.cells (madeCells #[zf0] n) 110);have s1:=(HK2.o.quiet ka).size;have r1:=(zhx wa n w.heap.size s1 (by unfold maxLen;omega)).kept k4 (by simp);have r2:=zhx (wa.alloc (.cells (madeCells #[zf0] n) 110)) n w.heap.size (by simp;omega) (by unfold maxLen;omega);rw[World.size_alloc] at r2;exact ⟨⟨r1,fun i hi=>by omega,fun i hi=>by omega,fun i j hi=>by omega⟩,⟨r2,fun i hi=>by omega,fun i hi=>by omega,fun i j hi=>by omega⟩,fun i j hi=>by omega,((HK2.o.quiet ka).quiet k3).quiet k4,((HBX2.o.kept ka (by simp)).kept k3 (by simp)).kept k4 (by simp),((HGR2.o.quiet ka).quiet k3).quiet k4⟩
 have hm2:Box (∀ wa,zc [] w2 wa→IM w ((wa.alloc (.cells (madeCells #[zf0] n) 110)).alloc (.cells (madeCells #[zf0] n) 110)) (wa.heap.size+2) (wa.heap.size+1) wa.heap.size n 0 0 (fun _=>0) (fun _=>0) (fun _=>zY) (fun _=>zY) gb a (zz F) gb):=hid fun wa ka=>by
  have:=hm1.o wa ka;exact ⟨this.h2,this.h1,fun i j hi=>by omega,this.keep,this.box,this.gr⟩
 have d0a:=za (zc.alloc [] w2 (.cells (madeCells #[zf0] n) 110)) d0;go_upto_region 5 with fail
 go_cut [7,8] (fun t7 t8 wz=>∃ p1 p2 q,t7=.slice (some ⟨p1,0,none⟩) n n∧t8=.slice (some ⟨p2,0,none⟩) n n∧Box (IM w wz q p1 p2 n 0 0 (fun _=>0) (fun _=>0) (fun _=>zY) (fun _=>zY) gb a (zz F) gb)∧Box (IL w q p1 p2 gb gb)∧Box (q≤wz.heap.size))
 case first=>
  go_region
  all_goals
   go_wp2_with fail;go_meet;have s1:=HK2.o.size;have s2:=HS2.o
   first
    | exact ⟨_,_,w2.heap.size+2,rfl,rfl,hid ((hm1.o w2 (zc.refl _ _)).quiet (zc.drew [] _)),hid ⟨by omega,by omega,by omega,by omega,by omega,by omega,by omega,by omega,by omega,by omega,by omega⟩,hid (by simp)⟩
    | exact ⟨_,_,w2.heap.size+2,rfl,rfl,hid ((hm2.o w2 (zc.refl _ _)).quiet (zc.drew [] _)),hid ⟨by omega,by omega,by omega,by omega,by omega,by omega,by omega,by omega,by omega,by omega,by omega⟩,hid (by simp)⟩
 case rest=>
  clear hm1 hm2 d0a d0 d4 HK2 HGR2 HS2 HBX2;obtain ⟨p1,p2,q,rfl,rfl,HM,HL,HQ⟩:=hcut;have c0:=HM.o.box.c0;go_wp2_with fail;clear c0
  go_loopw [38] (fun i wr=>∃ (k:Nat) (d1 d2:Nat→Nat),k≤n∧i=int i64 (k:Int)∧Box (IM w wr q p1 p2 n k k d1 d2 (fun _=>zfS F.regs.length) (fun b=>dfS (zr F b).code zY) gb a (zz F) gb)∧Box (q≤wr.heap.size)) (fun i _=>n - (intOf i).toNat)
  case atStart=>exact ⟨0,_,_,by omega,rfl,hid ⟨HM.o.h1.congr (fun i hi=>by omega),HM.o.h2.congr (fun i hi=>by omega),HM.o.cross,HM.o.keep,HM.o.box,HM.o.gr⟩,HQ⟩
  case round=>
   clear HM HQ;obtain ⟨k,d1,d2,hk,rfl,HM,HQ⟩:=hrel;by_cases hlt:k<n
   ·have hlt':(k:Int)<(n:Int):=by omega
    obtain ⟨bb,bo,rfl,hdf⟩:=BA.o k hlt;have HDF:=hid hdf;clear hdf;have cz:=HM.o.h1.row.cell hlt;have fz:=HM.o.h1.row.frozen k;go_upto_region 9 with fail;go_upto_region 10 with (go_at_call 111;refine (HRS.o _ HM.o.keep).mono ?_;rintro e w5 ⟨b5,rfl,h5,k5,n5⟩;have cz':=za k5 cz;have fz':=(HM.o.h1.row.kept k5 (by simp)).frozen k)
    have HM1:=hid (HM.o.put1 HL.o k5 h5 HQ.o n5);have HQ1:Box (q≤(w5.setCell ⟨p1,k,none⟩ (pointer (some ⟨b5,0,none⟩))).heap.size):=hid (by have:=HQ.o;have:=k5.size;simp[World.setCell];omega);clear HM HQ cz fz cz' fz' k5 n5 h5;generalize w5.setCell ⟨p1,k,none⟩ (pointer (some ⟨b5,0,none⟩))=w6 at *;have c2:=C2.o _ HM1.o.keep;have cz:=HM1.o.h2.row.cell hlt;have fz:=HM1.o.h2.row.frozen k;go_wp2_with (go_at_call 112;refine (HDF.o _ HM1.o.keep).mono ?_;rintro e w7 ⟨b7,rfl,h7,k7,n7⟩;have cz':=za k7 cz;have fz':=(HM1.o.h2.row.kept k7 (by simp)).frozen k);have HM2:=hid (HM1.o.put2 HL.o k7 h7 HQ1.o n7);have HQ2:Box (q≤(w7.setCell ⟨p2,k,none⟩ (pointer (some ⟨b7,0,none⟩))).heap.size):=hid (by have:=HQ1.o;have:=k7.size;simp[World.setCell];omega);go_roundw
    case rel=>exact ⟨k+1,_,_,by omega,by go_num,hid ⟨HM2.o.h1.congr (fun i hi=>by split <;> rfl),HM2.o.h2.congr (fun i hi=>by
     split
     ·next e=>rw[e]
     ·rfl),HM2.o.cross,HM2.o.keep,HM2.o.box,HM2.o.gr⟩,HQ2⟩
    case measure=>simp[intOf];omega
   ·obtain rfl:k=n:=by omega
    clear HRS BA C2 C4;go_upto_region 13 with (go_at_call 113;refine (HPA.o _ HM.o.keep).mono ?_;rintro e w5 ⟨rfl,k5⟩)
    have HM0:Box (IM w w5 q p1 p2 k k k d1 d2 (inK F (zgM P F) (zgM P F)) (fun b=>dfS (zr F b).code zY) gb a (zz F) gb):=hid (by
     have h5:=HM.o.quiet k5
     exact ⟨h5.h1.congr (fun i _=>(zix F _ i).symm),h5.h2,h5.cross,h5.keep,h5.box,h5.gr⟩)
    have HQ0:Box (q≤w5.heap.size):=hid (Nat.le_trans HQ.o k5.size);have HEND:=hid fun (r b:Nat) (h:F.regs.length≤r)=>zmm (P:=P) h b;clear HM HQ k5 HPA;generalize zgM P F=par at *;have HST:Box (∀ (w':World) (r:Nat) (D1:Nat→Nat→Bool),IM w w' q p1 p2 k k k d1 d2 D1 (fun b=>dfS (zr F b).code zY) gb a (zz F) gb→Calls Tryz.prog 115 #[agg #[int i64 (k:Int),.slice a k k],.slice (some ⟨p2,0,none⟩) k k,int i64 (r:Int)] w' fun e w''=>∃ a',e=.returned (agg #[int i64 (k:Int),.slice a' k k])∧GAt w'' w''.heap.size a' (ZW (zz F) (fun b=>dfS (zr F b).code zY) r)∧zc [] w' w''):=hid fun w' r D1 hM=>by
     have:=zeL (zz F) HSM.o a k gb w' hM.gr (by have:=hM.box.lt;omega) (base:=w.heap.size) (p:=p2) (d:=d2) (D:=fun b=>dfS (zr F b).code zY) (by rw[HFN.o];exact hM.h2.ps) (fun i=>zcn _ _ JO) r;rw[jr,HFN.o] at this;exact this
    have HRE:Box (∀ (w':World) (r:Nat) (a':Option Addr),GAt w' w'.heap.size a' (ZW (zz F) (fun b=>dfS (zr F b).code zY) r)→Calls Tryz.prog 58 #[agg #[int i64 (k:Int),.slice a' k k]] w' fun e w''=>∃ b,e=.returned (pointer (some ⟨b,0,none⟩))∧zV w'' b (jU F r)∧zc [] w' w''∧w'.heap.size≤b):=hid fun w' r a' hG=>by
     have:=Jw (ZW (zz F) (fun b=>dfS (zr F b).code zY) r) (zcL HSM.o _ r) a' k w'.heap.size w' hG (Nat.le_refl _);rw[jr,HFN.o] at this;exact this
    have HBF:Box (∀ r,Fit (jU F r)):=hid fun r m hm=>HBO.o r m (by omega);obtain ⟨R,hR⟩:∃ R,F.regs.length=R:=⟨_,rfl⟩;rw[hR] at HRG hr HEND;clear hR HSM HFN
    go_loopw [10] (fun i wr=>∃ r:Nat,par≤r∧(r≤R∨r=par)∧i=int i64 (r:Int)∧Box (IM w wr q p1 p2 k k k d1 d2 (inK F par r) (fun b=>dfS (zr F b).code zY) gb a (zz F) gb)∧Box (q≤wr.heap.size)) (fun i _=>R - (intOf i).toNat)
    case atStart=>exact ⟨par,Nat.le_refl _,.inr rfl,rfl,HM0,HQ0⟩
    case round=>
     clear HM0 HQ0;obtain ⟨r,hpr,hrR,rfl,HM,HQ⟩:=hrel;by_cases hlt:r<R
     ·have hlt':(r:Int)<(R:Int):=by omega
      have c0:=HM.o.box.c0;have c1:=HM.o.box.c1
      go_upto_region 16 with (first
       | (go_at_call 114;refine (HRG.o _ HM.o.keep).mono ?_;rintro e w6 ⟨rfl,rfl⟩)
       | (go_at_call 115;refine (HST.o _ r _ HM.o).mono ?_;rintro e w6 ⟨a6,rfl,g6,k6⟩)
       | (go_at_call 58;refine (HRE.o _ r a6 g6).mono ?_;rintro e w7 ⟨b7,rfl,h7,k7,n7⟩))
      have HNE:Box (∀ i,i<k→d1 i≠b7):=hid fun i hi e=>by
       have:=(HM.o.h1.set i hi).lt';have:=k6.size;omega
      have HM7:=hid ((HM.o.quiet k6).quiet k7);have HQ7:Box (q≤w7.heap.size):=hid (Nat.le_trans HQ.o (Nat.le_trans k6.size k7.size));have H7:=hid h7;clear HM HQ c0 c1 g6 k6 h7 k7 n7 HST HRE HRG;have HFI:Box (∀ (w':World) (c:Nat),zc [] w w'→zV w' b7 (jU F r)→Calls Tryz.prog 116 #[pointer (some ⟨b7,0,none⟩),int i64 (c:Int)] w' fun e w''=>∃ v:Int,e=.returned (int i64 v)∧((v= -1∧∀ m,c≤m→jU F r m=false)∨∃ j:Nat,v=(j:Int)∧c≤j∧j<k∧jU F r j=true∧∀ m,c≤m→m<j→jU F r m=false)∧∃ m,w''=w'.drewN m):=hid fun w' c kw hset=>by
       refine (zin b7 (jU F r) (c:Int) w' hset (HBF.o r) (HTB.o _ kw)).mono ?_;rintro e w'' ⟨rfl,m,rfl⟩;refine ⟨_,rfl,?_,m,rfl⟩;rcases Qq (jU F r) (c:Int) with ⟨h1,h2⟩ | ⟨j,h1,h2,h3,h4,h5⟩
       ·refine .inl ⟨h1,fun m hm=> ?_⟩
        by_cases hk5:m<5000
        ·exact h2 m hk5 (by omega)
        ·exact HBF.o r m (by omega)
       ·refine .inr ⟨j,h1,by omega,?_,h4,fun m hm hj=>h5 m hj (by omega)⟩
        rcases Nat.lt_or_ge j k with h6 | h6
        ·exact h6
        ·rw[HBO.o r j h6] at h4
         cases h4
      go_wp2_with (go_at_call 116;refine (HFI.o _ 0 HM7.o.keep H7.o).mono ?_;rintro e w8 ⟨v8,rfl,hv8,m8,rfl⟩);have kd:=zc.drewN [] w7 m8
      have HM8:Box (IM w (w7.drewN m8) q p1 p2 k k k d1 d2 (inC F par r 0) (fun b=>dfS (zr F b).code zY) gb a (zz F) gb):=hid (by
       have h5:=HM7.o.quiet kd
       exact ⟨h5.h1.congr (fun i _=>(zlb F _ _ i).symm),h5.h2,h5.cross,h5.keep,h5.box,h5.gr⟩)
      have H8:=hid (H7.o.kept kd (by simp));have HQ8:Box (q≤(w7.drewN m8).heap.size):=hid HQ7.o;have HV8:=hid hv8;have hkk:(k:Int)≤600:=by omega
      clear HM7 H7 HQ7 kd hv8
      go_loopw [12] (fun i wr=>∃ (c:Nat) (v:Int),i=int i64 v∧c≤k∧Box ((v= -1∧∀ m,c≤m→jU F r m=false)∨∃ j:Nat,v=(j:Int)∧c≤j∧j<k∧jU F r j=true∧∀ m,c≤m→m<j→jU F r m=false)∧Box (IM w wr q p1 p2 k k k d1 d2 (inC F par r c) (fun b=>dfS (zr F b).code zY) gb a (zz F) gb)∧Box (zV wr b7 (jU F r))∧Box (q≤wr.heap.size)) (fun i _=>if intOf i<0 then 0 else k+1 - (intOf i).toNat)
      case atStart=>exact ⟨0,v8,rfl,by omega,HV8,HM8,H8,HQ8⟩
      case round=>
       clear HM8 H8 HQ8 HV8;obtain ⟨c,v,rfl,hc,HV,HM,H7,HQ⟩:=hrel;rcases HV.o with ⟨rfl,hno⟩ | ⟨j,rfl,hcj,hjk,hbj,hno⟩
       ·have HNO:=hid hno
        clear HV hno;go_wp2;go_roundw
        case rel=>exact ⟨r+1,by omega,.inl (by omega),by go_num,hid ⟨HM.o.h1.congr (fun i hi=>by
         rw[zfi (c':=k) hc (fun j h1 _=>HNO.o j h1)]
         exact zjB hpr hi),HM.o.h2,HM.o.cross,HM.o.keep,HM.o.box,HM.o.gr⟩,HQ⟩
        case measure=>simp[intOf];omega
       ·have HJ:Box (IM w wr q p1 p2 k k k d1 d2 (inC F par r j) (fun b=>dfS (zr F b).code zY) gb a (zz F) gb):=hid ⟨HM.o.h1.congr (fun i hi=>zfi hcj hno),HM.o.h2,HM.o.cross,HM.o.keep,HM.o.box,HM.o.gr⟩
        have HB:=hid hbj;have hj0:(0:Int)≤(j:Int):=by omega
        have hjk':(j:Int)<(k:Int):=by omega
        have hj6:(j:Int)<600:=by omega
        have cz:=HJ.o.h1.row.cell hjk;unfold pv at cz;rw[if_pos hjk] at cz;have HRM:=hid (zmU (d1 j) (inC F par r j j) (r:Int) wr (HJ.o.h1.set j hjk) (HRK.o par r j j));clear HM HV hno hbj
        go_wp2_with (first
         | (go_at_call 117;refine HRM.o.mono ?_;rintro e w9 ⟨rfl,h9,k9⟩;have HM9:=hid (HJ.o.turn HL.o hjk k9 h9);have H9:=hid (H7.o.kept k9 (by have:=HNE.o j hjk;simp;omega));have HQ9:Box (q≤w9.heap.size):=hid (Nat.le_trans HQ.o k9.size))
         | (go_at_call 116;refine (HFI.o _ (j+1) HM9.o.keep H9.o).mono ?_;rintro e w10 ⟨v10,rfl,hv10,m10,rfl⟩))
        have kd:=zc.drewN [] w9 m10;go_roundw
        case rel=>exact ⟨j+1,v10,rfl,by omega,hid hv10,hid (by
         have h5:=HM9.o.quiet kd
         exact ⟨h5.h1.congr (fun i _=>zou HB.o i),h5.h2,h5.cross,h5.keep,h5.box,h5.gr⟩),hid (H9.o.kept kd (by simp)),hid HQ9.o⟩
        case measure=>
         refine zp4 hjk ?_;rcases hv10 with ⟨h0,_⟩ | ⟨i,h0,h1,h2,_⟩
         ·exact .inl h0
         ·exact .inr ⟨i,h0,by omega,h2⟩
     ·go_wp2_with (go_at_call 114;refine (HRG.o _ HM.o.keep).mono ?_;rintro e w6 ⟨rfl,rfl⟩)
      go_ret;exact ⟨p1,d1,q,rfl,HM.o.h1.congr (fun i _=>HEND.o r i (by omega)),HL.o.q1,HL.o.l1,HM.o.keep⟩
structure SzP (P:Pr8):Prop where
 fn:P.funcs.length≤1000
 bk0:∀ f,f<P.funcs.length→0<(zg P f).blocks.length
 bk:∀ f,f<P.funcs.length→(zg P f).blocks.length≤600
 rg:∀ f,f<P.funcs.length→(zg P f).regs.length≤1000
 code:∀ f b,f<P.funcs.length→(zr (zg P f) b).code.length≤1000000
 few:∀ f b k,f<P.funcs.length→k<(zr (zg P f) b).code.length→(qQ (zr (zg P f) b) k).args.length≤1000
def zbM(P:Pr8)(q:Nat × Nat × Nat):Bool:=rch (zz (zg P q.1)) [0] q.2.1 && Q4 (zr (zg P q.1) q.2.1) (inS P (zg P q.1) q.2.1) q.2.2
def Q1(B:Nat × Nat × Nat→Bool)(l:List (Nat × Nat × Nat)):Prop:=∀ q,q∈l→B q=false
theorem Q1.nil(B:Nat × Nat × Nat→Bool):Q1 B []:=fun q hq=>by cases hq
theorem Q1.app{B:Nat × Nat × Nat→Bool}{l m:List (Nat × Nat × Nat)}(h:Q1 B l)(k:Q1 B m):Q1 B (l ++ m):=fun q hq=>by
 rcases List.mem_append.1 hq with h1 | h1
 ·exact h q h1
 ·exact k q h1
theorem zhA(P:Pr8):∀ {f m:Nat},f<m→∃ r,ptP P m=ptP P f ++ (ptF (zg P f) f (zg P f).blocks.length ++ r)
 | f,0,h=>absurd h (Nat.not_lt_zero _)
 | f,m+1,h=>by
  by_cases e:f=m
  ·subst e
   exact ⟨[],by rw[Qi,List.append_nil]⟩
  ·obtain ⟨r,hr⟩:=zhA P (f:=f) (m:=m) (by omega)
   exact ⟨r ++ ptF (zg P m) m (zg P m).blocks.length,by rw[Qi,hr];simp[List.append_assoc]⟩
theorem zdC(f b:Nat):∀ {i n:Nat},i<n→∃ r,ptB f b n=ptB f b i ++ ((f,b,i) :: r)
 | i,0,h=>absurd h (Nat.not_lt_zero _)
 | i,n+1,h=>by
  by_cases e:i=n
  ·subst e
   exact ⟨[],by rw[Zm]⟩
  ·obtain ⟨r,hr⟩:=zdC f b (i:=i) (n:=n) (by omega)
   exact ⟨r ++ [(f,b,n)],by rw[Zm,hr];simp⟩
theorem zgZ(h:J1 P f b i):∃ r,pts P=(ptP P f ++ (ptF (zg P f) f b ++ ptB f b i)) ++ (f,b,i) :: r:=by
 obtain ⟨r1,h1⟩:=zhA P h.1;obtain ⟨r2,h2⟩:=zbh (zg P f) f h.2.1;obtain ⟨r3,h3⟩:=zdC f b (i:=i) (n:=(zr (zg P f) b).code.length+1) (by have:=h.2.2;omega);refine ⟨r3 ++ r2 ++ r1,?_⟩;unfold pts;rw[h1,h2,h3];simp[List.append_assoc]
theorem zfO{B:Nat × Nat × Nat→Bool}(h:J1 P f b i)(hw:Q1 B (ptP P f ++ (ptF (zg P f) f b ++ ptB f b i)))(hb:B (f,b,i)=true):(pts P).find? B=some (f,b,i):=by
 obtain ⟨r,hr⟩:=zgZ h;rw[hr,List.find?_append,List.find?_eq_none.2 (fun q hq=>by simp[hw q hq]),List.find?_cons_of_pos hb];rfl
theorem Q7{B:Nat × Nat × Nat→Bool}(hw:Q1 B (pts P)):(pts P).find? B=none:=List.find?_eq_none.2 fun q hq=>by simp[hw q hq]
theorem zkZ(h:rch (zz (zg P f)) [0] b=false)(n:Nat):Q1 (zbM P) (ptB f b n):=fun q hq=>by
 unfold ptB at hq;obtain ⟨i,_,rfl⟩:=List.mem_map.1 hq;show (rch (zz (zg P f)) [0] b && _)=false;rw[h];rfl
theorem zjd(h:∀ i,i<n→Q4 (zr (zg P f) b) (inS P (zg P f) b) i=false):Q1 (zbM P) (ptB f b n):=fun q hq=>by
 unfold ptB at hq;obtain ⟨i,hi,rfl⟩:=List.mem_map.1 hq;show (_ && Q4 (zr (zg P f) b) (inS P (zg P f) b) i)=false;rw[h i (List.mem_range.1 hi),Bool.and_false]
def ZU(o:Option (Nat × Nat × Nat))(y:Int)(w:World)(e:Ending)(w':World):Prop:=match o with
 | none=>e=.returned .nilIface∧zc [] w w'
 | some q=>zlf y (q.1:Int) (q.2.1:Int) (q.2.2:Int) w e w'
def za7(c:In8)(r:Nat):Bool:=zP c && decide (c.dst=(r:Int))
def zfK(x:Bl8)(r i:Nat):Bool:=(x.code.take i).all fun c=> !za7 c r
theorem zcX:∀ (c:List In8) (s:Nat→Bool) (r:Nat),r<5000→dfS c s r=(s r || c.any fun i=>za7 i r)
 | [],s,r,_=>by simp[dfS]
 | i :: c,s,r,h=>by
  show dfS c (if zP i then zdY s i.dst else s) r=_;rw[zcX c _ r h,List.any_cons];unfold za7;cases zP i with
  | false=>simp
  | true=>
   rw[if_pos rfl];unfold zdY;by_cases e:i.dst=(r:Int)
   ·have e2:(r:Int)<5000:=by omega
    simp[e,e2]
   ·have e':¬ ((r:Int)=i.dst):=fun h=>e h.symm
    simp[e,e']
theorem zmb(hr:r<5000)(h:zfK x r x.code.length=true):dfS x.code zY r=false:=by
 rw[zcX _ _ _ hr];unfold zfK at h;rw[List.take_length] at h;have:(x.code.any fun i=>za7 i r)=false:=by
  rw[List.any_eq_false];intro c hc;have:=(List.all_eq_true.1 h) c hc;simpa using this
 rw[this];rfl
theorem zm5(hr:r<5000)(h:dfS x.code zY r=false)(i:Nat):zfK x r i=true:=by
 rw[zcX _ _ _ hr] at h;have h2:(x.code.any fun i=>za7 i r)=false:=by
  cases e:(x.code.any fun i=>za7 i r) with
  | false=>rfl
  | true=>rw[e,Bool.or_true] at h;cases h
 unfold zfK;rw[List.all_eq_true];intro c hc;have:=(List.any_eq_false.1 h2) c (List.mem_of_mem_take hc);simpa using this
theorem zeY(x:Bl8)(r:Nat):zfK x r 0=true:=by unfold zfK;simp
theorem zfq(h:i<x.code.length):zfK x r (i+1)=(zfK x r i && !za7 (qQ x i) r):=by
 unfold zfK;rw[show x.code.take (i+1)=x.code.take i ++ [qQ x i] from qC x.code i ⟨0,0,0,0,0,[]⟩ h,List.all_append];simp
def JD(P:Pr8)(f r b i:Nat):Bool:=decide (i<(zr (zg P f) b).code.length) && za7 (qQ (zr (zg P f) b) i) r
def frB(P:Pr8)(f r b i:Nat):Bool:=jU (zg P f) r b && zfK (zr (zg P f) b) r i
theorem ziC{u:Nat}:u∈tgB n x ↔ ∃ z,z∈zcM x∧inB z n=true∧z.toNat=u:=by
 unfold tgB zcM;rw[List.mem_append];by_cases f1:x.fin=1
 ·have f2:¬ x.fin=2:=by omega
  simp[f1];exact fun _=>eq_comm
 ·by_cases f2:x.fin=2
  ·by_cases e:x.els=x.to
   ·simp[f2,e]
    exact fun _=>eq_comm
   ·simp[f2,e]
    constructor
    ·rintro (⟨h1,h2⟩ | ⟨h1,h2⟩)
     ·exact .inl ⟨h1,h2.symm⟩
     ·exact .inr ⟨h1,h2.symm⟩
    ·rintro (⟨h1,h2⟩ | ⟨h1,h2⟩)
     ·exact .inl ⟨h1,h2.symm⟩
     ·exact .inr ⟨h1,h2.symm⟩
  ·simp[f1,f2]
theorem zfx{q:Nat × Nat × Nat}:q∈JN P f (zcM (zr (zg P f) b)) ↔ ∃ u,u∈tgB (zg P f).blocks.length (zr (zg P f) b)∧q=(f,u,0):=by
 unfold JN;rw[List.mem_map];constructor
 ·rintro ⟨z,hz,rfl⟩
  rw[List.mem_filter] at hz;have h9:=of_decide_eq_true hz.2;exact ⟨z.toNat,ziC.2 ⟨z,hz.1,zq.2 h9,rfl⟩,rfl⟩
 ·rintro ⟨u,hu,rfl⟩
  obtain ⟨z,h1,h2,h3⟩:=ziC.1 hu;exact ⟨z,List.mem_filter.2 ⟨h1,decide_eq_true (zq.1 h2)⟩,by rw[h3]⟩
theorem JT(hb:F.blocks.length≤600)(h0:0<F.blocks.length)(r b:Nat):jU F r b=true ↔ Pth (ZW (zz F) (fun b=>dfS (zr F b).code zY) r) noS 0 b:=by
 unfold jU;rw[zeB (zcL (jJ hb) _ r).ok];constructor
 ·rintro ⟨z,hz,p⟩
  have:=(ZH.1 hz).1;have e:(z:Int)=0:=by simpa using this
  obtain rfl:z=0:=by omega
  exact p
 ·intro p
  exact ⟨0,ZH.2 ⟨by simp,by rw[jr,zZ];exact h0⟩,p⟩
theorem zes(hb:b<F.blocks.length):nb (ZW (zz F) (fun b=>dfS (zr F b).code zY) r) b=if dfS (zr F b).code zY r then [] else tgB F.blocks.length (zr F b):=by
 rw[zaI (by rw[zZ];exact hb),Jc hb]
theorem zkj(r:Nat)(hb:(zg P f).blocks.length≤600)(h0:0<(zg P f).blocks.length):frB P f r 0 0=true:=by
 unfold frB;rw[zeY,Bool.and_true,JT hb h0];exact Pth.refl rfl
theorem zml(hr:r<5000)(hb:(zg P f).blocks.length≤600)(h0:0<(zg P f).blocks.length)(hp:J1 P f b i)(h:frB P f r b i=true)(hd:JD P f r b i=false){q:Nat × Nat × Nat}(hq:q∈JZ P f b i):
  q.1=f∧frB P f r q.2.1 q.2.2=true:=by
 unfold frB at h;rw[Bool.and_eq_true] at h;unfold JZ at hq;by_cases hi:i<(zr (zg P f) b).code.length
 ·rw[if_pos hi] at hq
  obtain rfl:=List.mem_singleton.1 hq;unfold JD at hd;rw[decide_eq_true hi,Bool.true_and] at hd;refine ⟨rfl,?_⟩;show frB P f r b (i+1)=true;unfold frB;rw[h.1,zfq hi,h.2,hd];rfl
 ·rw[if_neg hi] at hq
  obtain ⟨u,hu,rfl⟩:=zfx.1 hq;refine ⟨rfl,?_⟩;show frB P f r u 0=true;unfold frB;rw[zeY,Bool.and_true,JT hb h0];have hi2:i=(zr (zg P f) b).code.length:=by have:=hp.2.2;omega
  have hn:=zmb hr (by rw[← hi2];exact h.2);refine Pth.snoc ((JT hb h0 r b).1 h.1) ?_ rfl;rw[zes hp.2.1,hn];exact hu
theorem zo0(hr:r<5000)(hf:f<P.funcs.length)(hb:(zg P f).blocks.length≤600)(h0:0<(zg P f).blocks.length){S:Nat × Nat × Nat→Prop}(s0:S (f,0,0))(st:∀ b i,J1 P f b i→S (f,b,i)→JD P f r b i=false→∀ q,q∈JZ P f b i→S q)(hp:J1 P f b i)(h:frB P f r b i=true):S (f,b,i):=by
 have up:∀ b,b<(zg P f).blocks.length→S (f,b,0)→∀ i,i≤(zr (zg P f) b).code.length→zfK (zr (zg P f) b) r i=true→S (f,b,i):=by
  intro b hb' hs i
  induction i with
  | zero=>intro _ _;exact hs
  | succ i ih=>
   intro hi hc;have hi':i<(zr (zg P f) b).code.length:=hi;rw[zfq hi',Bool.and_eq_true] at hc;refine st b i ⟨hf,hb',by omega⟩ (ih (by omega) hc.1) ?_ _ ?_
   ·unfold JD
    rw[decide_eq_true hi',Bool.true_and];simpa using hc.2
   ·unfold JZ
    rw[if_pos hi'];exact List.mem_singleton.2 rfl
 unfold frB at h;rw[Bool.and_eq_true] at h;refine up b hp.2.1 ?_ i hp.2.2 h.2;have key:b<(zg P f).blocks.length∧S (f,b,0):=by
  refine ((JT hb h0 r b).1 h.1).carry (C:=fun u=>u<(zg P f).blocks.length∧S (f,u,0)) ?_ ⟨h0,s0⟩;intro u hu _ v hv _;rw[zes hu.1] at hv;cases hd:dfS (zr (zg P f) u).code zY r with
  | true=>rw[hd,if_pos rfl] at hv;cases hv
  | false=>
   rw[hd,if_neg (by decide)] at hv;refine ⟨zjb v hv,?_⟩;have h1:=up u hu.1 hu.2 _ (Nat.le_refl _) (zm5 hr hd _);refine st u _ ⟨hf,hu.1,Nat.le_refl _⟩ h1 ?_ _ ?_
   ·unfold JD
    rw[decide_eq_false (by omega)];rfl
   ·unfold JZ
    rw[if_neg (by omega)];exact zfx.2 ⟨v,hv,rfl⟩
 exact key.2
def ZX(P:Pr8)(f r b i:Nat):Bool:=decide (zgM P (zg P f)≤r) && frB P f r b i
theorem zms{q r:Nat × Nat × Nat}(h:ptI q=ptI r):q=r:=by
 obtain ⟨a,b,c⟩:=q;obtain ⟨a',b',c'⟩:=r;unfold ptI at h;simp only[Prod.mk.injEq] at h;obtain ⟨h1,h2,h3⟩:=h;simp only[Prod.mk.injEq];omega
theorem zgX{S:List (Nat × Nat × Nat)}{q:Nat × Nat × Nat}:ptI q∈S.map ptI ↔ q∈S:=by
 rw[List.mem_map];exact ⟨fun ⟨r,h1,h2⟩=>zms h2 ▸ h1,fun h=>⟨q,h,rfl⟩⟩
structure FrS (P:Pr8) (f r b i:Nat) (S:List (Nat × Nat × Nat)) (k:Nat):Prop where
 start:(f,0,0)∈S
 nd:S.Nodup
 good:∀ q,q∈S→q.1=f∧J1 P q.1 q.2.1 q.2.2∧frB P f r q.2.1 q.2.2=true
 done:∀ j q,j<k→S[j]? = some q→q≠(f,b,i)∧(JD P f r q.2.1 q.2.2=false→∀ q',q'∈JZ P f q.2.1 q.2.2→q'∈S)
 le:k≤S.length
theorem FrS.begin(hf:f<P.funcs.length)(hb:(zg P f).blocks.length≤600)(h0:0<(zg P f).blocks.length):FrS P f r b i [(f,0,0)] 0:=
 ⟨by simp,by simp,fun q hq=>by
  rw[List.mem_singleton.1 hq]
  exact ⟨rfl,⟨hf,h0,Nat.zero_le _⟩,zkj r hb h0⟩,fun j q hj=>by omega,Nat.zero_le _⟩
theorem FrS.len{S:List (Nat × Nat × Nat)}(h:FrS P f r b i S k):S.length≤(pts P).length:=
 List.Nodup.length_le_of_subset h.nd (fun q hq=>by
  obtain ⟨a,c,d⟩:=q
  exact zc8.2 (h.good _ hq).2.1)
theorem FrS.pass{S:List (Nat × Nat × Nat)}(h:FrS P f r b i S k){q:Nat × Nat × Nat}(hq:S[k]? = some q)(hne:q≠(f,b,i))(hd:JD P f r q.2.1 q.2.2=true):FrS P f r b i S (k+1):=
 ⟨h.start,h.nd,h.good,fun j x hj hx=>by
  by_cases e:j=k
  ·subst e
   rw[hq] at hx;obtain rfl:=Option.some.inj hx;exact ⟨hne,fun h0=>by rw[hd] at h0;cases h0⟩
  ·exact h.done j x (by omega) hx,by
  have:=(List.getElem?_eq_some_iff.1 hq).1
  omega⟩
structure FrM (P:Pr8) (f r b i:Nat) (S:List (Nat × Nat × Nat)) (k:Nat) (q:Nat × Nat × Nat) (m:Nat):Prop where
 base:FrS P f r b i S k
 at':S[k]? = some q
 ne:q≠(f,b,i)
 nd:JD P f r q.2.1 q.2.2=false
 seen:∀ x,x∈(JZ P f q.2.1 q.2.2).take m→x∈S
theorem FrM.go{S:List (Nat × Nat × Nat)}{q x:Nat × Nat × Nat}(h:FrM P f r b i S k q m)(hm:m<(JZ P f q.2.1 q.2.2).length)(hx:(JZ P f q.2.1 q.2.2).getD m (0,0,0)=x)(hin:x∈S):FrM P f r b i S k q (m+1):=
 ⟨h.base,h.at',h.ne,h.nd,fun y hy=>by
  rw[qC _ m (0,0,0) hm,hx] at hy;rcases List.mem_append.1 hy with h1 | h1
  ·exact h.seen y h1
  ·rw[List.mem_singleton.1 h1];exact hin⟩
theorem FrM.add{S:List (Nat × Nat × Nat)}{q x:Nat × Nat × Nat}(hr:r<5000)(hb:(zg P f).blocks.length≤600)(h0:0<(zg P f).blocks.length)(h:FrM P f r b i S k q m)(hm:m<(JZ P f q.2.1 q.2.2).length)(hx:(JZ P f q.2.1 q.2.2).getD m (0,0,0)=x)(hin:x ∉ S):FrM P f r b i (S ++ [x]) k q (m+1):=by
 have hxm:x∈JZ P f q.2.1 q.2.2:=by
  rw[← hx];exact qD _ m (0,0,0) hm
 have hqS:q∈S:=List.mem_of_getElem? h.at';obtain ⟨hq1,hq2,hq3⟩:=h.base.good q hqS;have hq2':J1 P f q.2.1 q.2.2:=by rw[← hq1];rw[hq1] at hq2 ⊢;exact hq2
 have hst:=zml hr hb h0 hq2' hq3 h.nd hxm;have hpt:=zoe hq2' x hxm;have hk:k<S.length:=(List.getElem?_eq_some_iff.1 h.at').1;refine ⟨⟨List.mem_append_left _ h.base.start,?_,fun y hy=> ?_,fun j y hj hy=> ?_,by rw[List.length_append];have:=h.base.le;omega⟩,by rw[List.getElem?_append_left hk];exact h.at',h.ne,h.nd,fun y hy=> ?_⟩
 ·rw[List.nodup_append]
  exact ⟨h.base.nd,by simp,fun a ha c hc e=>hin (by rw[List.mem_singleton.1 hc] at e;exact e ▸ ha)⟩
 ·rcases List.mem_append.1 hy with h1 | h1
  ·exact h.base.good y h1
  ·rw[List.mem_singleton.1 h1]
   exact ⟨hst.1,hpt,hst.2⟩
 ·rw[List.getElem?_append_left (by omega)] at hy
  obtain ⟨h1,h2⟩:=h.base.done j y hj hy;exact ⟨h1,fun h3 q' hq'=>List.mem_append_left _ (h2 h3 q' hq')⟩
 ·rw[qC _ m (0,0,0) hm,hx] at hy
  rcases List.mem_append.1 hy with h1 | h1
  ·exact List.mem_append_left _ (h.seen y h1)
  ·exact List.mem_append_right _ h1
theorem FrM.end{S:List (Nat × Nat × Nat)}{q:Nat × Nat × Nat}(h:FrM P f r b i S k q m)(hm:(JZ P f q.2.1 q.2.2).length≤m):FrS P f r b i S (k+1):=
 ⟨h.base.start,h.base.nd,h.base.good,fun j x hj hx=>by
  by_cases e:j=k
  ·subst e
   rw[h.at'] at hx;obtain rfl:=Option.some.inj hx;exact ⟨h.ne,fun _ y hy=>h.seen y (by rw[List.take_of_length_le hm];exact hy)⟩
  ·exact h.base.done j x (by omega) hx,by
  have:=(List.getElem?_eq_some_iff.1 h.at').1
  omega⟩
theorem FrS.none{S:List (Nat × Nat × Nat)}(hr:r<5000)(hb:(zg P f).blocks.length≤600)(hp:J1 P f b i)(h:FrS P f r b i S k)(hk:S.drop k=[]):frB P f r b i=false:=by
 cases e:frB P f r b i with
 | false=>rfl
 | true=>
  exfalso;have hlen:S.length≤k:=by
   have:=congrArg List.length hk;rw[List.length_drop] at this;simp at this;omega
  have hmem:(f,b,i)∈S:=zo0 hr hp.1 hb (by have:=hp.2.1;omega) (S:=fun q=>q∈S) h.start (fun b' i' hp' hs hd q hq=>by
   obtain ⟨j,hj⟩:=List.getElem?_of_mem hs;have hjl:=(List.getElem?_eq_some_iff.1 hj).1
   exact (h.done j (f,b',i') (by omega) hj).2 hd q hq) hp e
  obtain ⟨j,hj⟩:=List.getElem?_of_mem hmem;have hjl:=(List.getElem?_eq_some_iff.1 hj).1;exact (h.done j (f,b,i) (by omega) hj).1 rfl
theorem FrS.yes{S:List (Nat × Nat × Nat)}(h:FrS P f r b i S k)(hq:S[k]? = some (f,b,i)):frB P f r b i=true:=(h.good _ (List.mem_of_getElem? hq)).2.2
theorem zmM{p:Nat}{y:Int}{v:Value}(hg:JX w)(h:zb5 w p y (f:Int) (b:Int) (i:Int) v)(hy:y≠0):Calls Tryz.prog 12 #[Zj p,int i64 y,agg #[int i64 (f:Int),int i64 (b:Int),int i64 (i:Int)]] w fun e w'=>e=.returned (.bool true)∧zc [] w w':=by
 have ka:=zc.alloc [] w (.cells #[int i64 (f:Int),int i64 (b:Int),int i64 (i:Int)] 55);have hn:=zf w (.cells #[int i64 (f:Int),int i64 (b:Int),int i64 (i:Int)] 55);have H1:=hid (ziX (hg.quiet ka) (h.quiet ka) (by omega));have H2:=hid fun (w':World) (k:zc [] w w')=>Jz (hg.quiet k) (h.quiet k);have KA:=hid ka;have HN:=hid hn;have o0:=neb hy;have hd:decide ((0:Int)≤(f:Int))=true:=by simp
 have on:(y != y)=false:=by simp
 clear hg h ka hn hy;go_enter Tryz.func12,Tryz.ntmps12;go_wp2_with fail;generalize w.alloc (.cells #[int i64 (f:Int),int i64 (b:Int),int i64 (i:Int)] 55)=WA at *;generalize w.heap.size=q at *;refine H1.o.mono ?_;rintro e w1 ⟨rfl,k1⟩;have K1:=hid ((KA.o.quiet k1).quiet (zc.alloc [] w1 (.cells #[int i64 (f:Int),int i64 (b:Int),int i64 (i:Int)] 55)));have HN1:=hid (ze HN.o (k1.quiet (zc.alloc [] w1 (.cells #[int i64 (f:Int),int i64 (b:Int),int i64 (i:Int)] 55))));have HN2:=hid (zf w1 (.cells #[int i64 (f:Int),int i64 (b:Int),int i64 (i:Int)] 55));clear k1;go_upto_region 6 with fail;generalize w1.alloc (.cells #[int i64 (f:Int),int i64 (b:Int),int i64 (i:Int)] 55)=w2 at *;generalize w1.heap.size=q2 at *;go_wp2_with fail;refine (H2.o _ K1.o).mono ?_;rintro e w3 ⟨rfl,k3⟩;have K3:=hid (K1.o.quiet k3);have h3:=ze HN1.o k3;have h4:=ze HN2.o k3;have q0:=zd h3 0;have q1:=zd h3 1;have q2':=zd h3 2;have r0:=zd h4 0;have r1:=zd h4 1;have r2:=zd h4 2;clear k3 h3 h4;go_wp2_with fail;go_ret;exact ⟨rfl,K3.o⟩
theorem JF{α:Type}{l:List α}{d:α}(h:¬ k<l.length):l.getD k d=d:=by rw[List.getD_eq_getElem?_getD,List.getElem?_eq_none (by omega)];rfl
structure Rt (P:Pr8):Prop where
 bnd:jl P=true
 sm:Sm8 P
 nm:zM P=none
theorem Rt.few(h:Rt P):zlS P:=zae h.bnd
theorem zcf(h:jl P=true)(hf:f<P.funcs.length):(zg P f).regs.length≤16∧0<(zg P f).blocks.length∧(zg P f).blocks.length≤12:=by
 have h1:fnB (zg P f)=true:=qS (zaf h) (zh hf);unfold fnB at h1;simp only[Bool.and_eq_true,decide_eq_true_eq] at h1;exact ⟨h1.1,h1.2.1,zaJ h1.2.2⟩
theorem Rt.sz(h:Rt P):SzP P:=by
 have sm10:=Jr (zaf h.bnd);refine ⟨Nat.le_trans h.sm.fn (by decide),fun f hf=>(zcf h.bnd hf).2.1,fun f hf=>Nat.le_trans (zcf h.bnd hf).2.2 (by decide),fun f hf=>Nat.le_trans (zcf h.bnd hf).1 (by decide),fun f b hf=> ?_,fun f b k hf hk=> ?_⟩
 ·by_cases hb:b<(zg P f).blocks.length
  ·exact Nat.le_trans (sm10.code hf hb) (by decide)
  ·unfold zr
   rw[JF hb];simp
 ·by_cases hb:b<(zg P f).blocks.length
  ·exact h.few f b k hf hb hk
  ·unfold zr at hk
   rw[JF hb] at hk;simp at hk
def bkF(f m:Nat):List (Nat × Nat × Nat):=(List.range m).map fun b=>(f,b,0)
def bkP(P:Pr8)(k:Nat):List (Nat × Nat × Nat):=(List.range k).flatMap fun f=>bkF f (zg P f).blocks.length
def bks(P:Pr8):List (Nat × Nat × Nat):=bkP P P.funcs.length
def jP(P:Pr8)(q:Nat × Nat × Nat):Bool:= !rch (zz (zg P q.1)) [0] q.2.1
theorem zaK(f m:Nat):bkF f (m+1)=bkF f m ++ [(f,m,0)]:=by unfold bkF;rw[List.range_succ,List.map_append];rfl
theorem zaM(P:Pr8)(k:Nat):bkP P (k+1)=bkP P k ++ bkF k (zg P k).blocks.length:=by unfold bkP;rw[List.range_succ,List.flatMap_append,List.flatMap_singleton]
theorem zdo(f:Nat):∀ {b m:Nat},b<m→∃ r,bkF f m=bkF f b ++ ((f,b,0) :: r)
 | b,0,h=>absurd h (Nat.not_lt_zero _)
 | b,m+1,h=>by
  by_cases e:b=m
  ·subst e
   exact ⟨[],by rw[zaK]⟩
  ·obtain ⟨r,hr⟩:=zdo f (b:=b) (m:=m) (by omega)
   exact ⟨r ++ [(f,m,0)],by rw[zaK,hr];simp⟩
theorem zhY(P:Pr8):∀ {f m:Nat},f<m→∃ r,bkP P m=bkP P f ++ (bkF f (zg P f).blocks.length ++ r)
 | f,0,h=>absurd h (Nat.not_lt_zero _)
 | f,m+1,h=>by
  by_cases e:f=m
  ·subst e
   exact ⟨[],by rw[zaM,List.append_nil]⟩
  ·obtain ⟨r,hr⟩:=zhY P (f:=f) (m:=m) (by omega)
   exact ⟨r ++ bkF m (zg P m).blocks.length,by rw[zaM,hr];simp[List.append_assoc]⟩
theorem zll(hf:f<P.funcs.length)(hb:b<(zg P f).blocks.length)(hw:Q1 (jP P) (bkP P f ++ bkF f b))(h:jP P (f,b,0)=true):(bks P).find? (jP P)=some (f,b,0):=by
 obtain ⟨r1,h1⟩:=zhY P hf;obtain ⟨r2,h2⟩:=zdo f hb;have e:bks P=(bkP P f ++ bkF f b) ++ (f,b,0) :: (r2 ++ r1):=by
  unfold bks;rw[h1,h2];simp[List.append_assoc]
 rw[e,List.find?_append,List.find?_eq_none.2 (fun q hq=>by simp[hw q hq]),List.find?_cons_of_pos h];rfl
theorem zfy(hw:Q1 (jP P) (bkP P P.funcs.length)):(bks P).find? (jP P)=none:=List.find?_eq_none.2 fun q hq=>by simp[hw q hq]
theorem Q1.one{B:Nat × Nat × Nat→Bool}{q:Nat × Nat × Nat}(h:B q=false):Q1 B [q]:=fun x hx=>by rw[List.mem_singleton.1 hx];exact h
end Go.Proofs.YtkgoimokgbdgfaaGreatDoor
