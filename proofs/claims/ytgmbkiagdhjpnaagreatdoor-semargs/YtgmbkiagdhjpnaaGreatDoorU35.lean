import Derived.Laws.IdiomCopy
import Derived.Deep.LoopGhost
import Derived.ProofKit
import Derived.OpenShut
import Derived.ChangeOld
import Derived.Deep.DeepHandedRow
import Derived.Deep.Slices
import Derived.SizedLaws
import Derived.Shelf.Strconv.Itoa3
import Derived.Test.YtgmbkiagdhjpnaaGreatDoorU29
import Derived.Test.YtgmbkiagdhjpnaaGreatDoorU34

namespace Go.Proofs.YtgmbkiagdhjpnaaGreatDoor
open Go.RowKit
open Go.Value (int pointer agg)
open Go.IntKind (i64)
set_option maxRecDepth 20000
set_option maxHeartbeats 8000000
variable {B b base f gb j k k1 k2 n p p1 p2 par q r:Nat}{F:Fu8}{P:Pr8}{a:Option Addr}{w wr wy:World}
def zca:Value:=.pointer none
theorem ziM(n:Nat)(hn:n≤1000000)(w:World):(Instr.makeSlice 188 (int i64 (n:Int)) (int i64 (n:Int))).run Tryz.prog w=.ok (.slice (some ⟨w.heap.size,0,none⟩) n n) (w.alloc (.cells (madeCells #[zca] n) 185)):=
 run_make_row' (P:=Tryz.prog) 188 185 zca 8 Tryz.underlying188 (by kernel_rfl) rfl .i64 .i64 n (by omega) (by omega) w
theorem ze8(w:World)(n base:Nat)(hb:base≤w.heap.size)(hn:n≤maxLen):qu (w.alloc (.cells (madeCells #[zca] n) 185)) base w.heap.size n 185 (fun _=>zca):=by
 refine qu.made (z:=zca) ⟨?_,.inr ⟨w.heap.size,n,_,rfl,hb,heap_alloc_new w _,Nat.le_refl _,hn,?_,?_⟩⟩ rfl
 ·rw[Array.length_toList,size_madeCells]
 ·rw[size_madeCells,Nat.mul_one]
 ·rw[Nat.mul_one]
  exact List.take_of_length_le (by rw[Array.length_toList,size_madeCells];exact Nat.le_refl _)
def pv(k:Nat)(d:Nat→Nat)(i:Nat):Value:=if i<k then pointer (some ⟨d i,0,none⟩) else .pointer none
structure HS (wr:World) (base q p n k:Nat) (d:Nat→Nat) (D:Nat→Nat→Bool):Prop where
 row:qu wr base p n 185 (pv k d)
 set:∀ i,i<k→zB wr (d i) (D i)
 new:∀ i,i<k→q≤d i
 inj:∀ i j,i<k→j<k→i≠j→d i≠d j
theorem zB.lt'{s:Nat→Bool}(h:zB w b s):b<w.heap.size:=(Array.getElem?_eq_some_iff.1 h.heap).1
theorem HS.kept{d:Nat→Nat}{D:Nat→Nat→Bool}{L:List Nat}(h:HS wr base q p n k d D)(kk:za L wr wy)(hp:p ∉ L)(hd:∀ i,i<k→d i ∉ L):HS wy base q p n k d D:=
 ⟨h.row.kept kk hp,fun i hi=>(h.set i hi).kept kk (hd i hi),h.new,h.inj⟩
theorem HS.quiet{d:Nat→Nat}{D:Nat→Nat→Bool}(h:HS wr base q p n k d D)(kk:za [] wr wy):HS wy base q p n k d D:=h.kept kk (by simp) (by simp)
theorem HS.put{d:Nat→Nat}{D:Nat→Nat→Bool}(h:HS wr base q p n k d D)(hpq:p<q){s:Nat→Bool}(hb:zB wr b s)(hq:q≤b)(hn:∀ i,i<k→d i≠b):
  HS (wr.setCell ⟨p,k,none⟩ (pointer (some ⟨b,0,none⟩))) base q p n (k+1) (fun i=>if i=k then b else d i) (fun i=>if i=k then s else D i):=by
 have kk:za [p] wr (wr.setCell ⟨p,k,none⟩ (pointer (some ⟨b,0,none⟩))):=za.setCell _ _ _ _ (by simp);refine ⟨(h.row.put k _).congr (fun i _=> ?_),fun i hi=> ?_,fun i hi=> ?_,fun i j hi hj e=> ?_⟩
 ·unfold pv
  by_cases e:i=k
  ·subst e;simp
  ·rw[if_neg e]
   by_cases c:i<k
   ·rw[if_pos c,if_pos (by omega)];show _=Value.pointer (some ⟨if i=k then b else d i,0,none⟩);rw[if_neg e]
   ·rw[if_neg c,if_neg (by omega)]
 ·by_cases e:i=k
  ·rw[if_pos e,if_pos e];exact hb.kept kk (by simp;omega)
  ·rw[if_neg e,if_neg e];exact (h.set i (by omega)).kept kk (by have:=h.new i (by omega);simp;omega)
 ·by_cases e:i=k
  ·rw[if_pos e];exact hq
  ·rw[if_neg e];exact h.new i (by omega)
 ·by_cases e1:i=k
  ·rw[if_pos e1,if_neg (by omega)];exact fun e2=>hn j (by omega) e2.symm
  ·by_cases e2:j=k
   ·rw[if_neg e1,if_pos e2];exact hn i (by omega)
   ·rw[if_neg e1,if_neg e2];exact h.inj i j (by omega) (by omega) e
theorem HS.turn{d:Nat→Nat}{D:Nat→Nat→Bool}(h:HS wr base q p n k d D)(hpq:p<q)(hj:j<k){s:Nat→Bool}(kk:za [d j] wr wy)(hs:zB wy (d j) s):HS wy base q p n k d (fun i=>if i=j then s else D i):=by
 refine ⟨h.row.kept kk (by have:=h.new j hj;simp;omega),fun i hi=> ?_,h.new,h.inj⟩;by_cases e:i=j
 ·subst e;rw[if_pos rfl];exact hs
 ·rw[if_neg e];exact (h.set i hi).kept kk (by have:=h.inj i j hi hj e;simpa using this)
theorem HS.congr{d:Nat→Nat}{D E:Nat→Nat→Bool}(h:HS wr base q p n k d D)(e:∀ i,i<k→D i=E i):HS wr base q p n k d E:=
 ⟨h.row,fun i hi=>by rw[← e i hi];exact h.set i hi,h.new,h.inj⟩
theorem HS.ps{d:Nat→Nat}{D:Nat→Nat→Bool}(h:HS wr base q p n n d D):PS wr base p n d D:=
 ⟨h.row.congr (fun i hi=>by unfold pv;rw[if_pos hi]),h.set⟩
theorem zjd(f:Nat)(w:World):(Instr.buildSlice 100 1 #[(0,.agg (frC (fr0 f)).toArray)]).run Tryz.prog w=.ok (.slice (some ⟨w.heap.size,0,none⟩) 1 1) (w.alloc (.cells (frC (fr0 f)).toArray 99)):=by
 have hl:(fr0 f).rs.length=16:=List.length_replicate;obtain ⟨z,hz,hzs⟩:∃ z,Tryz.t99.zero=some z∧z.cells.size=67:=by
  have:=zdK;cases e:Tryz.t99.zero with
  | none=>rw[e] at this;simp at this
  | some z=>rw[e] at this;exact ⟨z,rfl,by simpa using this⟩
 have hc:(Value.agg (frC (fr0 f)).toArray).cells.size=67:=by
  show (frC (fr0 f)).toArray.size=67;rw[List.size_toArray,qC hl]
 have hf:=Go.Great.fill_whole (s:=67) (by omega) [.agg (frC (fr0 f)).toArray] ((Array.range (1 * 67)).map (z.cells[· % z.cells.size]!)) (fun v hv=>by rw[List.mem_singleton.1 hv];exact hc) (by simp)
 exact run_buildSlice (P:=Tryz.prog) w 100 99 1 #[(0,.agg (frC (fr0 f)).toArray)] (frC (fr0 f)).toArray Tryz.t99 z zbt zep hz (by rw[zbw];omega) (by rw[zbw];omega) (by
  rw[zbw];refine hf.trans ?_
  simp[Value.cells])
theorem zlp(p0 p2:Option Addr)(a b:Option Addr)(n c n' c':Nat)(w:World):(Instr.build 104 #[(0,.pointer p0),(1,.slice a n c),(2,.pointer p2),(4,.slice b n' c')]).run Tryz.prog w=.ok (agg #[.pointer p0,.slice a n c,.pointer p2,.slice none 0 0,.slice b n' c',.bool false,int i64 0,.bool false,int i64 0,int i64 0,.bool false]) w:=run_build w _ _ _ (by kernel_rfl)
theorem zj6(f:Nat)(w:World):(Instr.build 99 #[(0,agg #[int i64 (f:Int),int i64 0,int i64 0])]).run Tryz.prog w=.ok (.agg (frC (fr0 f)).toArray) w:=run_build w _ _ _ (by kernel_rfl)
theorem zdY{cp:Nat}{l:List Int}(h:zq w 1 zI a l)(hl:l.length≤1000000):Calls Tryz.prog 47 #[.slice a l.length cp] w fun e w'=>∃ v,e=.returned v∧jO (zQ w.heap.size w') v l∧za [] w w':=by
 cases a with
 | none=>
  have e:l=[]:=by
   rcases h with e | ⟨b,off,e,_⟩
   ·exact e
   ·cases e
  subst e;refine (zfq 0 cp w).mono ?_;rintro e w' ⟨rfl,k⟩;exact ⟨_,rfl,⟨none,0,rfl,.inl rfl,Nat.le_refl _,Nat.zero_le _⟩,k⟩
 | some ad=>
  by_cases e:l=[]
  ·subst e
   refine (zaP ad 0 cp [] w rfl (fun j u hu=>by simp at hu) (fun u hu=>by cases hu) (by omega)).mono ?_;rintro e w' ⟨g,cap,rfl,own,_,k⟩;exact ⟨_,rfl,⟨_,cap,rfl,.inl rfl,Nat.zero_le _,Nat.zero_le _⟩,k⟩
  ·rcases h with e' | ⟨b,off,e',hr⟩
   ·exact absurd e' e
   ·cases e'
    obtain ⟨xs,x1,x2,x3⟩:=zhg zf7 l off hr;refine (zaP ⟨b,off,none⟩ l.length cp xs w x1 (fun j u hu=>by rw[ji];exact x2 j u hu) x3 (by omega)).mono ?_;rintro e9 w' ⟨g,cap,rfl,own,hg,k⟩;refine ⟨_,rfl,⟨_,cap,rfl,.inr ⟨g,0,rfl,fun j y hy=> ?_⟩,?_,by unfold maxLen;omega⟩,k⟩
    ·have hj:=(List.getElem?_eq_some_iff.1 hy).1
     have r:=hr j y hy;rw[Nat.zero_add];exact ⟨(qg own (Qg x1 x2 (by omega) r.1)).1,r.2⟩
    ·rcases own.2 with ⟨h',_⟩ | ⟨g',cap',cur,h',_,_,hn,_⟩
     ·simp at h'
     ·simp at h'
      omega
def zfR(P:Pr8):Pr8:={ P with sigs:=[],ifs:=[],main:=0 }
def qZ(F:Fu8)(r:Nat):Nat→Bool:=rch (jG (zw F) (fun b=>dfS (zA F b).code zF) r) [0]
def inK(F:Fu8)(par r b:Nat):Nat→Bool:=fun m=>decide (m<F.regs.length) && !(decide (par≤m) && (decide (m<r) && qZ F m b))
def inS(P:Pr8)(F:Fu8)(b:Nat):Nat→Bool:=fun m=>decide (m<F.regs.length) && !(decide (ziD P F≤m) && qZ F m b)
theorem zfM(h:F.regs.length≤5000)(par r b:Nat):Fit (inK F par r b):=fun n hn=>by
 unfold inK;rw[decide_eq_false (by omega)];rfl
theorem zf1(F:Fu8)(par b:Nat):inK F par par b=zcC F.regs.length:=by
 funext m
 unfold inK zcC;by_cases h:m<F.regs.length
 ·by_cases h2:par≤m
  ·have h3:¬ m<par:=by omega
   simp[h,h3]
  ·simp[h,h2]
 ·simp[h]
theorem ziA(h:F.regs.length≤r)(b:Nat):inK F (ziD P F) r b=inS P F b:=by
 funext m
 unfold inK inS;by_cases h1:m<F.regs.length
 ·have h2:m<r:=by omega
  simp[h2]
 ·simp[h1]
def inC(F:Fu8)(par r c b:Nat):Nat→Bool:=if b<c∧qZ F r b=true then zg7 (inK F par r b) (r:Int) else inK F par r b
theorem ziC(h:F.regs.length≤5000)(par r c b:Nat):Fit (inC F par r c b):=by
 unfold inC;split
 ·intro n hn
  unfold zg7;rw[zfM h par r b n hn];rfl
 ·exact zfM h par r b
theorem zhH(F:Fu8)(par r b:Nat):inC F par r 0 b=inK F par r b:=by unfold inC;rw[if_neg (by omega)]
theorem zcr{c c':Nat}(hc:c≤c')(h:∀ j,c≤j→j<c'→qZ F r j=false):inC F par r c b=inC F par r c' b:=by
 unfold inC;by_cases h1:b<c∧qZ F r b=true
 ·rw[if_pos h1,if_pos ⟨by omega,h1.2⟩]
 ·rw[if_neg h1]
  by_cases h2:b<c'∧qZ F r b=true
  ·exfalso
   have:=h b (by
    rcases Nat.lt_or_ge b c with h3 | h3
    ·exact absurd ⟨h3,h2.2⟩ h1
    ·exact h3) h2.1
   rw[this] at h2;exact absurd h2.2 (by decide)
  ·rw[if_neg h2]
theorem zgT{c:Nat}(hr:par≤r)(h:b<c):inC F par r c b=inK F par (r+1) b:=by
 funext m
 unfold inC;by_cases h1:qZ F r b=true
 ·rw[if_pos ⟨h,h1⟩]
  unfold zg7 inK;by_cases e:m=r
  ·subst e
   simp[h1,hr]
  ·have e1:¬ ((m:Int)=(r:Int)):=by omega
   have e2:decide (m<r+1)=decide (m<r):=by rw[decide_eq_decide];omega
   simp[e1,e2]
 ·rw[if_neg (fun h=>h1 h.2)]
  unfold inK;by_cases e:m=r
  ·subst e
   rw[Bool.not_eq_true] at h1;simp[h1]
  ·have e2:decide (m<r+1)=decide (m<r):=by rw[decide_eq_decide];omega
   rw[e2]
theorem zll(h:qZ F r b=true)(j:Nat):(if j=b then zg7 (inC F par r b b) (r:Int) else inC F par r b j)=inC F par r (b+1) j:=by
 by_cases e:j=b
 ·subst e
  rw[if_pos rfl];unfold inC;rw[if_neg (by omega),if_pos ⟨by omega,h⟩]
 ·rw[if_neg e]
  unfold inC;by_cases c:j<b∧qZ F r j=true
  ·rw[if_pos c,if_pos ⟨by omega,c.2⟩]
  ·rw[if_neg c,if_neg (fun h=>c ⟨by omega,h.2⟩)]
structure IM (w wr:World) (q p1 p2 n k1 k2:Nat) (d1 d2:Nat→Nat) (D1 D2:Nat→Nat→Bool) (gb:Nat) (a:Option Addr) (g:List (List Nat)) (B:Nat):Prop where
 h1:HS wr w.heap.size q p1 n k1 d1 D1
 h2:HS wr w.heap.size q p2 n k2 d2 D2
 cross:∀ i j,i<k1→j<k2→d1 i≠d2 j
 keep:za [] w wr
 box:ql wr gb (int i64 (n:Int)) (.slice a n n)
 gr:GAt wr B a g
theorem IM.quiet{d1 d2:Nat→Nat}{D1 D2:Nat→Nat→Bool}{g:List (List Nat)}(h:IM w wr q p1 p2 n k1 k2 d1 d2 D1 D2 gb a g B)(k:za [] wr wy):IM w wy q p1 p2 n k1 k2 d1 d2 D1 D2 gb a g B:=
 ⟨h.h1.quiet k,h.h2.quiet k,h.cross,h.keep.quiet k,h.box.kept k (by simp),h.gr.quiet k⟩
structure IL (w:World) (q p1 p2 gb B:Nat):Prop where
 l1:w.heap.size≤p1
 l2:w.heap.size≤p2
 q1:p1<q
 q2:p2<q
 ne:p1≠p2
 g1:gb≠p1
 g2:gb≠p2
 gq:gb<q
 b1:B≤p1
 b2:B≤p2
 bq:B≤q
theorem IM.put1{d1 d2:Nat→Nat}{D1 D2:Nat→Nat→Bool}{g:List (List Nat)}(h:IM w wr q p1 p2 n k1 k2 d1 d2 D1 D2 gb a g B)(L:IL w q p1 p2 gb B)(k:za [] wr wy){s:Nat→Bool}(hb:zB wy b s)(hq:q≤wr.heap.size)(hn:wr.heap.size≤b):
  IM w (wy.setCell ⟨p1,k1,none⟩ (pointer (some ⟨b,0,none⟩))) q p1 p2 n (k1+1) k2 (fun i=>if i=k1 then b else d1 i) d2 (fun i=>if i=k1 then s else D1 i) D2 gb a g B:=by
 have h':=h.quiet k;have kk:za [p1] wy (wy.setCell ⟨p1,k1,none⟩ (pointer (some ⟨b,0,none⟩))):=za.setCell _ _ _ _ (by simp);have o1:∀ i,i<k1→d1 i≠b:=fun i hi e=>by have:=(h.h1.set i hi).lt';omega
 have o2:∀ i,i<k2→d2 i≠b:=fun i hi e=>by have:=(h.h2.set i hi).lt';omega
 refine ⟨h'.h1.put L.q1 hb (by omega) o1,h'.h2.kept kk (by have:=L.ne;simp;omega) (fun i hi=>by have:=h.h2.new i hi;have:=L.q1;simp;omega),fun i j hi hj=> ?_,h'.keep.fresh kk (fun x hx=>by have:=L.l1;simp at hx;omega),h'.box.kept kk (by have:=L.g1;simp;omega),h'.gr.kept kk (fun x hx=>by have:=L.b1;simp at hx;omega)⟩;by_cases e:i=k1
 ·rw[if_pos e];exact fun e2=>o2 j hj e2.symm
 ·rw[if_neg e];exact h.cross i j (by omega) hj
theorem IM.put2{d1 d2:Nat→Nat}{D1 D2:Nat→Nat→Bool}{g:List (List Nat)}(h:IM w wr q p1 p2 n k1 k2 d1 d2 D1 D2 gb a g B)(L:IL w q p1 p2 gb B)(k:za [] wr wy){s:Nat→Bool}(hb:zB wy b s)(hq:q≤wr.heap.size)(hn:wr.heap.size≤b):
  IM w (wy.setCell ⟨p2,k2,none⟩ (pointer (some ⟨b,0,none⟩))) q p1 p2 n k1 (k2+1) d1 (fun i=>if i=k2 then b else d2 i) D1 (fun i=>if i=k2 then s else D2 i) gb a g B:=by
 have h':=h.quiet k;have kk:za [p2] wy (wy.setCell ⟨p2,k2,none⟩ (pointer (some ⟨b,0,none⟩))):=za.setCell _ _ _ _ (by simp);have o1:∀ i,i<k1→d1 i≠b:=fun i hi e=>by have:=(h.h1.set i hi).lt';omega
 have o2:∀ i,i<k2→d2 i≠b:=fun i hi e=>by have:=(h.h2.set i hi).lt';omega
 refine ⟨h'.h1.kept kk (by have:=L.ne;simp;omega) (fun i hi=>by have:=h.h1.new i hi;have:=L.q2;simp;omega),h'.h2.put L.q2 hb (by omega) o2,fun i j hi hj=> ?_,h'.keep.fresh kk (fun x hx=>by have:=L.l2;simp at hx;omega),h'.box.kept kk (by have:=L.g2;simp;omega),h'.gr.kept kk (fun x hx=>by have:=L.b2;simp at hx;omega)⟩;by_cases e:j=k2
 ·rw[if_pos e];exact o1 i hi
 ·rw[if_neg e];exact h.cross i j hi (by omega)
theorem IM.turn{d1 d2:Nat→Nat}{D1 D2:Nat→Nat→Bool}{g:List (List Nat)}(h:IM w wr q p1 p2 n k1 k2 d1 d2 D1 D2 gb a g B)(L:IL w q p1 p2 gb B)(hj:j<k1){s:Nat→Bool}(kk:za [d1 j] wr wy)(hs:zB wy (d1 j) s):
  IM w wy q p1 p2 n k1 k2 d1 d2 (fun i=>if i=j then s else D1 i) D2 gb a g B:=by
 have hn:=h.h1.new j hj;refine ⟨h.h1.turn L.q1 hj kk hs,h.h2.kept kk (by have:=L.q2;simp;omega) (fun i hi=>by have:=h.cross j i hj hi;simp;omega),h.cross,h.keep.fresh kk (fun x hx=>by have:=L.l1;have:=L.q1;simp at hx;omega),h.box.kept kk (by have:=L.gq;simp;omega),h.gr.kept kk (fun x hx=>by have:=L.bq;simp at hx;omega)⟩
theorem zeA(hb:F.blocks.length≤600)(r m:Nat)(h:F.blocks.length≤m):qZ F r m=false:=
 ziu (zcp (jC hb) _ r).ok [0] m (by rw[qp,qe];exact h)
theorem zmj{v:Int}(hj:j<k)(h:v= -1∨∃ i:Nat,v=(i:Int)∧j<i∧i<k):(if intOf (int i64 v)<0 then 0 else k+1 - (intOf (int i64 v)).toNat)<(if intOf (int i64 (j:Int))<0 then 0 else k+1 - (intOf (int i64 (j:Int))).toNat):=by
 show (if v<0 then 0 else k+1 - v.toNat)<(if (j:Int)<0 then 0 else k+1 - (j:Int).toNat);rw[if_neg (by omega:¬ ((j:Int)<0))];rcases h with rfl | ⟨i,rfl,h1,h2⟩
 ·rw[if_pos (by omega)]
  omega
 ·rw[if_neg (by omega)]
  omega
def zeK(w:World)(P:Pr8)(F:Fu8)(e:Ending)(w':World):Prop:=∃ p d q,e=.returned (.slice (some ⟨p,0,none⟩) F.blocks.length F.blocks.length)∧HS w' w.heap.size q p F.blocks.length F.blocks.length d (inS P F)∧p<q∧w.heap.size≤p∧za [] w w'
theorem zkN{pb po:Nat}(h:PrC w pb po P)(hT:jb w)(hf:f<P.funcs.length)(hb0:0<(zf P f).blocks.length)(hb:(zf P f).blocks.length≤600)(hr:(zf P f).regs.length≤1000)(hc:∀ b,(zA (zf P f) b).code.length≤1000000):
  Calls Tryz.prog 127 #[pointer (some ⟨pb,po,none⟩),int i64 (f:Int)] w (zeK w P (zf P f)):=by
 have HFL:=hid fun (w':World) (k:za [] w w')=>J6 (PrC.stays _ _ _ _ _ k h) hf hb;obtain ⟨fa,fcp,H⟩:=h.fns;have h4:=H.cell;have C4:Box (∀ w',za [] w w'→w'.cell? ⟨pb,po+4,none⟩=some (.slice fa P.funcs.length fcp)):=hid fun w' k=>zb k h4;obtain ⟨fb,fo,rfl,hfu0⟩:=H.rows.at (zi (d:=⟨0,[],[]⟩) hf);have hfu:FuC w fb (fo+f * 3) (zf P f):=hfu0;obtain ⟨fb',fo',ba,bcp,e,BB⟩:=H.at hf;simp only[Option.some.injEq,Addr.mk.injEq,and_true] at e;obtain ⟨rfl,rfl⟩:=e;have h2:=BB.cell;have C2:Box (∀ w',za [] w w'→w'.cell? ⟨fb,fo+f * 3+2,none⟩=some (.slice ba (zf P f).blocks.length bcp)):=hid fun w' k=>zb k h2;have BA:Box (∀ b,b<(zf P f).blocks.length→∃ bb bo,ba=some ⟨bb,bo,none⟩∧∀ w',za [] w w'→Calls Tryz.prog 183 #[pointer (some ⟨bb,bo+b * 5,none⟩)] w' fun e w''=>∃ b',e=.returned (pointer (some ⟨b',0,none⟩))∧zB w'' b' (dfS (zA (zf P f) b).code zF)∧za [] w' w''∧w'.heap.size≤b'):=hid fun b hb=>by
  obtain ⟨bb,bo,e,hbl⟩:=BB.at hb;exact ⟨bb,bo,e,fun w' k=>zb5 (BlC.stays _ _ _ _ _ k hbl) (hc b)⟩
 have HRS:=hid fun (w':World) (k:za [] w w')=>JN (FuC.stays _ _ _ _ _ k hfu) (show (zf P f).regs.length≤5000 by omega);have HRG:=hid fun (w':World) (k:za [] w w')=>zbV (FuC.stays _ _ _ _ _ k hfu) (show (zf P f).regs.length≤5000 by omega);have HPA:=hid fun (w':World) (k:za [] w w')=>zdl (PrC.stays _ _ _ _ _ k h) (FuC.stays _ _ _ _ _ k hfu);have HTB:Box (∀ w',za [] w w'→jb w'):=hid fun w' k=>hT.kept k (by simp);have HSM:=hid (jC hb);have HBO:=hid (zeA hb);have HMY:=hid fun (a:Option Addr) (cap B:Nat) (w':World) (hG:GAt w' B a (zw (zf P f)))=>JX (zw (zf P f)) HSM.o a cap B w' hG;rw[qe] at HFL HMY;unfold zeK;have HRK:=hid fun (par r c b:Nat)=>ziC (show (zf P f).regs.length≤5000 by omega) par r c b;clear h h4 hfu hfu0 BB H h2 hc hT;have gf:(f:Int)<(P.funcs.length:Int):=by omega
 generalize P.funcs.length=N at *;have HFN:=hid (qe (zf P f));generalize zf P f=F at *;generalize F.blocks.length=n at *;have hmk:=ziM n (by omega);have hb0':¬ ((n:Int)=0):=by omega
 have hbe:((n:Int) == 0)=false:=by simpa using hb0'
 go_enter Tryz.func127,Tryz.ntmps127;go_upto_region 2 with (go_at_call 122;refine (HFL.o _ (za.refl _ _)).mono ?_;rintro e w1 ⟨a,rfl,hg1,k1⟩)
 have ka:=za.alloc [] w1 (.cells #[int i64 (n:Int),.slice a n n] 182);have HBX:=hid (ql.new w1 (int i64 (n:Int)) (.slice a n n));have HGR:Box (GAt (w1.alloc (.cells #[int i64 (n:Int),.slice a n n] 182)) w1.heap.size a (zw F)):=hid (hg1.quiet ka);have HK1:=hid (k1.quiet ka);have HSZ:Box ((w1.alloc (.cells #[int i64 (n:Int),.slice a n n] 182)).heap.size=w1.heap.size+1):=hid (by simp);have HW1:=hid k1.size;clear ka hg1 k1 HFL;generalize w1.alloc (.cells #[int i64 (n:Int),.slice a n n] 182)=W1 at *;generalize w1.heap.size=gb at *;have c0:=HBX.o.c0;have c1:=HBX.o.c1;go_upto_region 4 with (go_at_call 123;refine (HMY.o a n gb _ HGR.o).mono ?_;rintro e w2 ⟨rfl,k2⟩;have HBX2:=hid (HBX.o.kept k2 (by simp));have d0:=HBX2.o.c0;have d1:=HBX2.o.c1;have d4:=C4.o _ (HK1.o.quiet k2))
 clear d1 c0 c1 HMY;have HK2:=hid (HK1.o.quiet k2);have HGR2:=hid (HGR.o.quiet k2);have HS2:Box (gb<w2.heap.size):=hid HBX2.o.lt;clear HBX HGR HK1 HSZ k2;have hm1:Box (∀ wa,za [] w2 wa→IM w ((wa.alloc (.cells (madeCells #[zca] n) 185)).alloc (.cells (madeCells #[zca] n) 185)) (wa.heap.size+2) wa.heap.size (wa.heap.size+1) n 0 0 (fun _=>0) (fun _=>0) (fun _=>zF) (fun _=>zF) gb a (zw F) gb):=hid fun wa ka=>by
  have k3:=za.alloc [] wa (.cells (madeCells #[zca] n) 185);have k4:=za.alloc [] (wa.alloc (.cells (madeCells #[zca] n) 185)) (.cells (madeCells #[zca] n) 185);have s1:=(HK2.o.quiet ka).size;have r1:=(ze8 wa n w.heap.size s1 (by unfold maxLen;omega)).kept k4 (by simp);have r2:=ze8 (wa.alloc (.cells (madeCells #[zca] n) 185)) n w.heap.size (by simp;omega) (by unfold maxLen;omega);rw[World.size_alloc] at r2;exact ⟨⟨r1,fun i hi=>by omega,fun i hi=>by omega,fun i j hi=>by omega⟩,⟨r2,fun i hi=>by omega,fun i hi=>by omega,fun i j hi=>by omega⟩,fun i j hi=>by omega,((HK2.o.quiet ka).quiet k3).quiet k4,((HBX2.o.kept ka (by simp)).kept k3 (by simp)).kept k4 (by simp),((HGR2.o.quiet ka).quiet k3).quiet k4⟩
 have hm2:Box (∀ wa,za [] w2 wa→IM w ((wa.alloc (.cells (madeCells #[zca] n) 185)).alloc (.cells (madeCells #[zca] n) 185)) (wa.heap.size+2) (wa.heap.size+1) wa.heap.size n 0 0 (fun _=>0) (fun _=>0) (fun _=>zF) (fun _=>zF) gb a (zw F) gb):=hid fun wa ka=>by
  have:=hm1.o wa ka;exact ⟨this.h2,this.h1,fun i j hi=>by omega,this.keep,this.box,this.gr⟩
 have d0a:=zb (za.alloc [] w2 (.cells (madeCells #[zca] n) 185)) d0;go_upto_region 5 with fail
 go_cut [7,8] (fun t7 t8 wz=>∃ p1 p2 q,t7=.slice (some ⟨p1,0,none⟩) n n∧t8=.slice (some ⟨p2,0,none⟩) n n∧Box (IM w wz q p1 p2 n 0 0 (fun _=>0) (fun _=>0) (fun _=>zF) (fun _=>zF) gb a (zw F) gb)∧Box (IL w q p1 p2 gb gb)∧Box (q≤wz.heap.size))
 case first=>
  go_region
  all_goals
   go_wp2_with fail;go_meet;have s1:=HK2.o.size;have s2:=HS2.o
   first
    | exact ⟨_,_,w2.heap.size+2,rfl,rfl,hid ((hm1.o w2 (za.refl _ _)).quiet (za.drew [] _)),hid ⟨by omega,by omega,by omega,by omega,by omega,by omega,by omega,by omega,by omega,by omega,by omega⟩,hid (by simp)⟩
    | exact ⟨_,_,w2.heap.size+2,rfl,rfl,hid ((hm2.o w2 (za.refl _ _)).quiet (za.drew [] _)),hid ⟨by omega,by omega,by omega,by omega,by omega,by omega,by omega,by omega,by omega,by omega,by omega⟩,hid (by simp)⟩
 case rest=>
  clear hm1 hm2 d0a d0 d4 HK2 HGR2 HS2 HBX2;obtain ⟨p1,p2,q,rfl,rfl,HM,HL,HQ⟩:=hcut;have c0:=HM.o.box.c0;go_wp2_with fail;clear c0
  go_loopw [38] (fun i wr=>∃ (k:Nat) (d1 d2:Nat→Nat),k≤n∧i=int i64 (k:Int)∧Box (IM w wr q p1 p2 n k k d1 d2 (fun _=>zcC F.regs.length) (fun b=>dfS (zA F b).code zF) gb a (zw F) gb)∧Box (q≤wr.heap.size)) (fun i _=>n - (intOf i).toNat)
  case atStart=>exact ⟨0,_,_,by omega,rfl,hid ⟨HM.o.h1.congr (fun i hi=>by omega),HM.o.h2.congr (fun i hi=>by omega),HM.o.cross,HM.o.keep,HM.o.box,HM.o.gr⟩,HQ⟩
  case round=>
   clear HM HQ;obtain ⟨k,d1,d2,hk,rfl,HM,HQ⟩:=hrel;by_cases hlt:k<n
   ·have hlt':(k:Int)<(n:Int):=by omega
    obtain ⟨bb,bo,rfl,hdf⟩:=BA.o k hlt;have HDF:=hid hdf;clear hdf;have cz:=HM.o.h1.row.cell hlt;have fz:=HM.o.h1.row.frozen k;go_upto_region 9 with fail;go_upto_region 10 with (go_at_call 182;refine (HRS.o _ HM.o.keep).mono ?_;rintro e w5 ⟨b5,rfl,h5,k5,n5⟩;have cz':=zb k5 cz;have fz':=(HM.o.h1.row.kept k5 (by simp)).frozen k)
    have HM1:=hid (HM.o.put1 HL.o k5 h5 HQ.o n5);have HQ1:Box (q≤(w5.setCell ⟨p1,k,none⟩ (pointer (some ⟨b5,0,none⟩))).heap.size):=hid (by have:=HQ.o;have:=k5.size;simp[World.setCell];omega);clear HM HQ cz fz cz' fz' k5 n5 h5;generalize w5.setCell ⟨p1,k,none⟩ (pointer (some ⟨b5,0,none⟩))=w6 at *;have c2:=C2.o _ HM1.o.keep;have cz:=HM1.o.h2.row.cell hlt;have fz:=HM1.o.h2.row.frozen k;go_wp2_with (go_at_call 183;refine (HDF.o _ HM1.o.keep).mono ?_;rintro e w7 ⟨b7,rfl,h7,k7,n7⟩;have cz':=zb k7 cz;have fz':=(HM1.o.h2.row.kept k7 (by simp)).frozen k);have HM2:=hid (HM1.o.put2 HL.o k7 h7 HQ1.o n7);have HQ2:Box (q≤(w7.setCell ⟨p2,k,none⟩ (pointer (some ⟨b7,0,none⟩))).heap.size):=hid (by have:=HQ1.o;have:=k7.size;simp[World.setCell];omega);go_roundw
    case rel=>exact ⟨k+1,_,_,by omega,by go_num,hid ⟨HM2.o.h1.congr (fun i hi=>by split <;> rfl),HM2.o.h2.congr (fun i hi=>by
     split
     ·next e=>rw[e]
     ·rfl),HM2.o.cross,HM2.o.keep,HM2.o.box,HM2.o.gr⟩,HQ2⟩
    case measure=>simp[intOf];omega
   ·obtain rfl:k=n:=by omega
    clear HRS BA C2 C4;go_upto_region 13 with (go_at_call 184;refine (HPA.o _ HM.o.keep).mono ?_;rintro e w5 ⟨rfl,k5⟩)
    have HM0:Box (IM w w5 q p1 p2 k k k d1 d2 (inK F (ziD P F) (ziD P F)) (fun b=>dfS (zA F b).code zF) gb a (zw F) gb):=hid (by
     have h5:=HM.o.quiet k5
     exact ⟨h5.h1.congr (fun i _=>(zf1 F _ i).symm),h5.h2,h5.cross,h5.keep,h5.box,h5.gr⟩)
    have HQ0:Box (q≤w5.heap.size):=hid (Nat.le_trans HQ.o k5.size);have HEND:=hid fun (r b:Nat) (h:F.regs.length≤r)=>ziA (P:=P) h b;clear HM HQ k5 HPA;generalize ziD P F=par at *;have HST:Box (∀ (w':World) (r:Nat) (D1:Nat→Nat→Bool),IM w w' q p1 p2 k k k d1 d2 D1 (fun b=>dfS (zA F b).code zF) gb a (zw F) gb→Calls Tryz.prog 186 #[agg #[int i64 (k:Int),.slice a k k],.slice (some ⟨p2,0,none⟩) k k,int i64 (r:Int)] w' fun e w''=>∃ a',e=.returned (agg #[int i64 (k:Int),.slice a' k k])∧GAt w'' w''.heap.size a' (jG (zw F) (fun b=>dfS (zA F b).code zF) r)∧za [] w' w''):=hid fun w' r D1 hM=>by
     have:=zb7 (zw F) HSM.o a k gb w' hM.gr (by have:=hM.box.lt;omega) (base:=w.heap.size) (p:=p2) (d:=d2) (D:=fun b=>dfS (zA F b).code zF) (by rw[HFN.o];exact hM.h2.ps) (fun i=>JB _ _ ZD) r;rw[qp,HFN.o] at this;exact this
    have HRE:Box (∀ (w':World) (r:Nat) (a':Option Addr),GAt w' w'.heap.size a' (jG (zw F) (fun b=>dfS (zA F b).code zF) r)→Calls Tryz.prog 124 #[agg #[int i64 (k:Int),.slice a' k k]] w' fun e w''=>∃ b,e=.returned (pointer (some ⟨b,0,none⟩))∧zB w'' b (qZ F r)∧za [] w' w''∧w'.heap.size≤b):=hid fun w' r a' hG=>by
     have:=Zq (jG (zw F) (fun b=>dfS (zA F b).code zF) r) (zcp HSM.o _ r) a' k w'.heap.size w' hG (Nat.le_refl _);rw[qp,HFN.o] at this;exact this
    have HBF:Box (∀ r,Fit (qZ F r)):=hid fun r m hm=>HBO.o r m (by omega);obtain ⟨R,hR⟩:∃ R,F.regs.length=R:=⟨_,rfl⟩;rw[hR] at HRG hr HEND;clear hR HSM HFN
    go_loopw [10] (fun i wr=>∃ r:Nat,par≤r∧(r≤R∨r=par)∧i=int i64 (r:Int)∧Box (IM w wr q p1 p2 k k k d1 d2 (inK F par r) (fun b=>dfS (zA F b).code zF) gb a (zw F) gb)∧Box (q≤wr.heap.size)) (fun i _=>R - (intOf i).toNat)
    case atStart=>exact ⟨par,Nat.le_refl _,.inr rfl,rfl,HM0,HQ0⟩
    case round=>
     clear HM0 HQ0;obtain ⟨r,hpr,hrR,rfl,HM,HQ⟩:=hrel;by_cases hlt:r<R
     ·have hlt':(r:Int)<(R:Int):=by omega
      have c0:=HM.o.box.c0;have c1:=HM.o.box.c1
      go_upto_region 16 with (first
       | (go_at_call 185;refine (HRG.o _ HM.o.keep).mono ?_;rintro e w6 ⟨rfl,rfl⟩)
       | (go_at_call 186;refine (HST.o _ r _ HM.o).mono ?_;rintro e w6 ⟨a6,rfl,g6,k6⟩)
       | (go_at_call 124;refine (HRE.o _ r a6 g6).mono ?_;rintro e w7 ⟨b7,rfl,h7,k7,n7⟩))
      have HNE:Box (∀ i,i<k→d1 i≠b7):=hid fun i hi e=>by
       have:=(HM.o.h1.set i hi).lt';have:=k6.size;omega
      have HM7:=hid ((HM.o.quiet k6).quiet k7);have HQ7:Box (q≤w7.heap.size):=hid (Nat.le_trans HQ.o (Nat.le_trans k6.size k7.size));have H7:=hid h7;clear HM HQ c0 c1 g6 k6 h7 k7 n7 HST HRE HRG;have HFI:Box (∀ (w':World) (c:Nat),za [] w w'→zB w' b7 (qZ F r)→Calls Tryz.prog 187 #[pointer (some ⟨b7,0,none⟩),int i64 (c:Int)] w' fun e w''=>∃ v:Int,e=.returned (int i64 v)∧((v= -1∧∀ m,c≤m→qZ F r m=false)∨∃ j:Nat,v=(j:Int)∧c≤j∧j<k∧qZ F r j=true∧∀ m,c≤m→m<j→qZ F r m=false)∧∃ m,w''=w'.drewN m):=hid fun w' c kw hset=>by
       refine (zdG b7 (qZ F r) (c:Int) w' hset (HBF.o r) (HTB.o _ kw)).mono ?_;rintro e w'' ⟨rfl,m,rfl⟩;refine ⟨_,rfl,?_,m,rfl⟩;rcases j7 (qZ F r) (c:Int) with ⟨h1,h2⟩ | ⟨j,h1,h2,h3,h4,h5⟩
       ·refine .inl ⟨h1,fun m hm=> ?_⟩
        by_cases hk5:m<5000
        ·exact h2 m hk5 (by omega)
        ·exact HBF.o r m (by omega)
       ·refine .inr ⟨j,h1,by omega,?_,h4,fun m hm hj=>h5 m hj (by omega)⟩
        rcases Nat.lt_or_ge j k with h6 | h6
        ·exact h6
        ·rw[HBO.o r j h6] at h4
         cases h4
      go_wp2_with (go_at_call 187;refine (HFI.o _ 0 HM7.o.keep H7.o).mono ?_;rintro e w8 ⟨v8,rfl,hv8,m8,rfl⟩);have kd:=za.drewN [] w7 m8
      have HM8:Box (IM w (w7.drewN m8) q p1 p2 k k k d1 d2 (inC F par r 0) (fun b=>dfS (zA F b).code zF) gb a (zw F) gb):=hid (by
       have h5:=HM7.o.quiet kd
       exact ⟨h5.h1.congr (fun i _=>(zhH F _ _ i).symm),h5.h2,h5.cross,h5.keep,h5.box,h5.gr⟩)
      have H8:=hid (H7.o.kept kd (by simp));have HQ8:Box (q≤(w7.drewN m8).heap.size):=hid HQ7.o;have HV8:=hid hv8;have hkk:(k:Int)≤600:=by omega
      clear HM7 H7 HQ7 kd hv8
      go_loopw [12] (fun i wr=>∃ (c:Nat) (v:Int),i=int i64 v∧c≤k∧Box ((v= -1∧∀ m,c≤m→qZ F r m=false)∨∃ j:Nat,v=(j:Int)∧c≤j∧j<k∧qZ F r j=true∧∀ m,c≤m→m<j→qZ F r m=false)∧Box (IM w wr q p1 p2 k k k d1 d2 (inC F par r c) (fun b=>dfS (zA F b).code zF) gb a (zw F) gb)∧Box (zB wr b7 (qZ F r))∧Box (q≤wr.heap.size)) (fun i _=>if intOf i<0 then 0 else k+1 - (intOf i).toNat)
      case atStart=>exact ⟨0,v8,rfl,by omega,HV8,HM8,H8,HQ8⟩
      case round=>
       clear HM8 H8 HQ8 HV8;obtain ⟨c,v,rfl,hc,HV,HM,H7,HQ⟩:=hrel;rcases HV.o with ⟨rfl,hno⟩ | ⟨j,rfl,hcj,hjk,hbj,hno⟩
       ·have HNO:=hid hno
        clear HV hno;go_wp2;go_roundw
        case rel=>exact ⟨r+1,by omega,.inl (by omega),by go_num,hid ⟨HM.o.h1.congr (fun i hi=>by
         rw[zcr (c':=k) hc (fun j h1 _=>HNO.o j h1)]
         exact zgT hpr hi),HM.o.h2,HM.o.cross,HM.o.keep,HM.o.box,HM.o.gr⟩,HQ⟩
        case measure=>simp[intOf];omega
       ·have HJ:Box (IM w wr q p1 p2 k k k d1 d2 (inC F par r j) (fun b=>dfS (zA F b).code zF) gb a (zw F) gb):=hid ⟨HM.o.h1.congr (fun i hi=>zcr hcj hno),HM.o.h2,HM.o.cross,HM.o.keep,HM.o.box,HM.o.gr⟩
        have HB:=hid hbj;have hj0:(0:Int)≤(j:Int):=by omega
        have hjk':(j:Int)<(k:Int):=by omega
        have hj6:(j:Int)<600:=by omega
        have cz:=HJ.o.h1.row.cell hjk;unfold pv at cz;rw[if_pos hjk] at cz;have HRM:=hid (zjc (d1 j) (inC F par r j j) (r:Int) wr (HJ.o.h1.set j hjk) (HRK.o par r j j));clear HM HV hno hbj
        go_wp2_with (first
         | (go_at_call 188;refine HRM.o.mono ?_;rintro e w9 ⟨rfl,h9,k9⟩;have HM9:=hid (HJ.o.turn HL.o hjk k9 h9);have H9:=hid (H7.o.kept k9 (by have:=HNE.o j hjk;simp;omega));have HQ9:Box (q≤w9.heap.size):=hid (Nat.le_trans HQ.o k9.size))
         | (go_at_call 187;refine (HFI.o _ (j+1) HM9.o.keep H9.o).mono ?_;rintro e w10 ⟨v10,rfl,hv10,m10,rfl⟩))
        have kd:=za.drewN [] w9 m10;go_roundw
        case rel=>exact ⟨j+1,v10,rfl,by omega,hid hv10,hid (by
         have h5:=HM9.o.quiet kd
         exact ⟨h5.h1.congr (fun i _=>zll HB.o i),h5.h2,h5.cross,h5.keep,h5.box,h5.gr⟩),hid (H9.o.kept kd (by simp)),hid HQ9.o⟩
        case measure=>
         refine zmj hjk ?_;rcases hv10 with ⟨h0,_⟩ | ⟨i,h0,h1,h2,_⟩
         ·exact .inl h0
         ·exact .inr ⟨i,h0,by omega,h2⟩
     ·go_wp2_with (go_at_call 185;refine (HRG.o _ HM.o.keep).mono ?_;rintro e w6 ⟨rfl,rfl⟩)
      go_ret;exact ⟨p1,d1,q,rfl,HM.o.h1.congr (fun i _=>HEND.o r i (by omega)),HL.o.q1,HL.o.l1,HM.o.keep⟩
structure SzP (P:Pr8):Prop where
 fn:P.funcs.length≤1000
 bk0:∀ f,f<P.funcs.length→0<(zf P f).blocks.length
 bk:∀ f,f<P.funcs.length→(zf P f).blocks.length≤600
 rg:∀ f,f<P.funcs.length→(zf P f).regs.length≤1000
 code:∀ f b,f<P.funcs.length→(zA (zf P f) b).code.length≤1000000
 few:∀ f b k,f<P.funcs.length→k<(zA (zf P f) b).code.length→(jI (zA (zf P f) b) k).args.length≤1000
def zd5(P:Pr8)(q:Nat × Nat × Nat):Bool:=rch (zw (zf P q.1)) [0] q.2.1 && Zo (zA (zf P q.1) q.2.1) (inS P (zf P q.1) q.2.1) q.2.2
def QB(B:Nat × Nat × Nat→Bool)(l:List (Nat × Nat × Nat)):Prop:=∀ q,q∈l→B q=false
theorem QB.nil(B:Nat × Nat × Nat→Bool):QB B []:=fun q hq=>by cases hq
theorem QB.app{B:Nat × Nat × Nat→Bool}{l m:List (Nat × Nat × Nat)}(h:QB B l)(k:QB B m):QB B (l ++ m):=fun q hq=>by
 rcases List.mem_append.1 hq with h1 | h1
 ·exact h q h1
 ·exact k q h1
theorem zfa(P:Pr8):∀ {f m:Nat},f<m→∃ r,ptP P m=ptP P f ++ (ptF (zf P f) f (zf P f).blocks.length ++ r)
 | f,0,h=>absurd h (Nat.not_lt_zero _)
 | f,m+1,h=>by
  by_cases e:f=m
  ·subst e
   exact ⟨[],by rw[j5,List.append_nil]⟩
  ·obtain ⟨r,hr⟩:=zfa P (f:=f) (m:=m) (by omega)
   exact ⟨r ++ ptF (zf P m) m (zf P m).blocks.length,by rw[j5,hr];simp[List.append_assoc]⟩
theorem zaO(f b:Nat):∀ {i n:Nat},i<n→∃ r,ptB f b n=ptB f b i ++ ((f,b,i) :: r)
 | i,0,h=>absurd h (Nat.not_lt_zero _)
 | i,n+1,h=>by
  by_cases e:i=n
  ·subst e
   exact ⟨[],by rw[ZI]⟩
  ·obtain ⟨r,hr⟩:=zaO f b (i:=i) (n:=n) (by omega)
   exact ⟨r ++ [(f,b,n)],by rw[ZI,hr];simp⟩
theorem zfw{i:Nat}(h:ZM P f b i):∃ r,pts P=(ptP P f ++ (ptF (zf P f) f b ++ ptB f b i)) ++ (f,b,i) :: r:=by
 obtain ⟨r1,h1⟩:=zfa P h.1;obtain ⟨r2,h2⟩:=ZC (zf P f) f h.2.1;obtain ⟨r3,h3⟩:=zaO f b (i:=i) (n:=(zA (zf P f) b).code.length+1) (by have:=h.2.2;omega);refine ⟨r3 ++ r2 ++ r1,?_⟩;unfold pts;rw[h1,h2,h3];simp[List.append_assoc]
theorem zdh{B:Nat × Nat × Nat→Bool}{i:Nat}(h:ZM P f b i)(hw:QB B (ptP P f ++ (ptF (zf P f) f b ++ ptB f b i)))(hb:B (f,b,i)=true):(pts P).find? B=some (f,b,i):=by
 obtain ⟨r,hr⟩:=zfw h;rw[hr,List.find?_append,List.find?_eq_none.2 (fun q hq=>by simp[hw q hq]),List.find?_cons_of_pos hb];rfl
theorem za6{B:Nat × Nat × Nat→Bool}(hw:QB B (pts P)):(pts P).find? B=none:=List.find?_eq_none.2 fun q hq=>by simp[hw q hq]
theorem zgk(h:rch (zw (zf P f)) [0] b=false)(n:Nat):QB (zd5 P) (ptB f b n):=fun q hq=>by
 unfold ptB at hq;obtain ⟨i,_,rfl⟩:=List.mem_map.1 hq;show (rch (zw (zf P f)) [0] b && _)=false;rw[h];rfl
theorem zdC(h:∀ i,i<n→Zo (zA (zf P f) b) (inS P (zf P f) b) i=false):QB (zd5 P) (ptB f b n):=fun q hq=>by
 unfold ptB at hq;obtain ⟨i,hi,rfl⟩:=List.mem_map.1 hq;show (_ && Zo (zA (zf P f) b) (inS P (zf P f) b) i)=false;rw[h i (List.mem_range.1 hi),Bool.and_false]
def ju(o:Option (Nat × Nat × Nat))(y:Int)(w:World)(e:Ending)(w':World):Prop:=match o with
 | none=>e=.returned .nilIface∧za [] w w'
 | some q=>zhR y (q.1:Int) (q.2.1:Int) (q.2.2:Int) w e w'
theorem zgV{x:Bl8}{s:Nat→Bool}{fn:Nat}{args:Array Value}(h:Calls Tryz.prog fn args w (Jy x s b w)):Calls Tryz.prog fn args w fun e w'=>∃ v:Int,e=.returned (int i64 v)∧((∃ k:Nat,k≤x.code.length∧v=(k:Int)∧Zo x s k=true∧∀ j,j<k→Zo x s j=false)∨(v= -1∧∀ k,k≤x.code.length→Zo x s k=false))∧za [b] w w':=by
 refine h.mono ?_;rintro e w' ⟨⟨k,h1,rfl,h2⟩ | ⟨rfl,h2⟩,h3⟩
 ·exact ⟨_,rfl,.inl ⟨k,h1,rfl,h2⟩,h3⟩
 ·exact ⟨_,rfl,.inr ⟨rfl,h2⟩,h3⟩
theorem zeP{pb po:Nat}(h:PrC w pb po P)(hT:jb w)(hz:SzP P):
  Calls Tryz.prog 75 #[pointer (some ⟨pb,po,none⟩)] w (ju ((pts P).find? (zd5 P)) 5 w):=by
 have HFL:Box (∀ (w':World) (f:Nat),za [] w w'→f<P.funcs.length→Calls Tryz.prog 122 #[pointer (some ⟨pb,po,none⟩),int i64 (f:Int)] w' fun e w''=>∃ a,e=.returned (agg #[int i64 ((zw (zf P f)).length:Int),.slice a (zw (zf P f)).length (zw (zf P f)).length])∧GAt w'' w''.heap.size a (zw (zf P f))∧za [] w' w''):=hid fun w' f k hf=>J6 (PrC.stays _ _ _ _ _ k h) hf (hz.bk f hf);have HRE:Box (∀ (w':World) (f:Nat) (a:Option Addr),f<P.funcs.length→GAt w' w'.heap.size a (zw (zf P f))→Calls Tryz.prog 124 #[agg #[int i64 ((zw (zf P f)).length:Int),.slice a (zw (zf P f)).length (zw (zf P f)).length]] w' fun e w''=>∃ b,e=.returned (pointer (some ⟨b,0,none⟩))∧zB w'' b (rch (zw (zf P f)) [0])∧za [] w' w''∧w'.heap.size≤b):=hid fun w' f a hf hG=>Zq (zw (zf P f)) (jC (hz.bk f hf)) a _ w'.heap.size w' hG (Nat.le_refl _);have HRF:Box (∀ f,f<P.funcs.length→Fit (rch (zw (zf P f)) [0])):=hid fun f hf=>Qz (jC (hz.bk f hf)) [0] zF ZD;have HIN:Box (∀ (w':World) (f:Nat),za [] w w'→f<P.funcs.length→Calls Tryz.prog 127 #[pointer (some ⟨pb,po,none⟩),int i64 (f:Int)] w' (zeK w' P (zf P f))):=hid fun w' f k hf=>zkN (PrC.stays _ _ _ _ _ k h) (hT.kept k (by simp)) hf (hz.bk0 f hf) (hz.bk f hf) (hz.rg f hf) (fun b=>hz.code f b hf);obtain ⟨fa,fcp,H⟩:=h.fns;have h4:=H.cell;have C4:Box (∀ w',za [] w w'→w'.cell? ⟨pb,po+4,none⟩=some (.slice fa P.funcs.length fcp)):=hid fun w' k=>zb k h4;have FA:Box (∀ f,f<P.funcs.length→∃ fb fo ba bcp,fa=some ⟨fb,fo,none⟩∧zhp w fb fo P f ba bcp):=hid fun f hf=>H.at hf;have HZ:=hid hz;have hN:=hz.fn;clear h H h4 hT hz;obtain ⟨N,hNe⟩:∃ N,P.funcs.length=N:=⟨_,rfl⟩;have HN:=hid hNe;rw[hNe] at HFL HRE HRF HIN C4 FA hN;clear hNe;have c4:=C4.o _ (za.refl _ _);go_enter Tryz.func75,Tryz.ntmps75;go_wp2_with fail;clear c4
 go_loopw [15] (fun i wr=>∃ f:Nat,f≤N∧i=int i64 (f:Int)∧Box (za [] w wr)∧Box (QB (zd5 P) (ptP P f))) (fun i _=>N - (intOf i).toNat)
 case atStart=>exact ⟨0,by omega,rfl,hid (za.refl _ _),hid (QB.nil _)⟩
 case round=>
  obtain ⟨f,hf,rfl,HK,HW⟩:=hrel;by_cases hlt:f<N
  ·have hlt':(f:Int)<(N:Int):=by omega
   go_upto_region 8 with (first
    | (go_at_call 122;refine (HFL.o _ f HK.o hlt).mono ?_;rintro e w1 ⟨a1,rfl,g1,k1⟩)
    | (go_at_call 124;refine (HRE.o _ f a1 hlt g1).mono ?_;rintro e w2 ⟨b2,rfl,h2,k2,n2⟩)
    | (go_at_call 127;refine (HIN.o _ f ((HK.o.quiet k1).quiet k2) hlt).mono ?_;rintro e w3 ⟨p3,d3,q3,rfl,h3,l3,m3,k3⟩))
   have HH3:=hid h3;have HK3:=hid (((HK.o.quiet k1).quiet k2).quiet k3);have H2:=hid (h2.kept k3 (by simp));have hb2:b2<w2.heap.size:=h2.lt';have hw2:w.heap.size≤w2.heap.size:=((HK.o.quiet k1).quiet k2).size;have HNEW:Box (∀ j,j<(zf P f).blocks.length→q3≤d3 j):=hid h3.new;have HINJ:=hid h3.inj;have HHF:=hid (HRF.o f hlt)
   have HIF:=hid fun (b:Nat)=>(show Fit (inS P (zf P f) b) from fun m hm=>by
    have:=HZ.o.rg f (by rw[HN.o];exact hlt);unfold inS;rw[decide_eq_false (by omega)]
    rfl)
   have HBF:Box (∀ b,b<(zf P f).blocks.length→∀ (w':World) (db:Nat),za [] w w'→zB w' db (inS P (zf P f) b)→w.heap.size≤db→∃ fb fo bb bo bcp,fa=some ⟨fb,fo,none⟩∧w'.cell? ⟨fb,fo+f * 3+2,none⟩=some (.slice (some ⟨bb,bo,none⟩) (zf P f).blocks.length bcp)∧Calls Tryz.prog 128 #[pointer (some ⟨bb,bo+b * 5,none⟩),pointer (some ⟨db,0,none⟩)] w' (Jy (zA (zf P f) b) (inS P (zf P f) b) db w')):=hid fun b hb w' db k' hs' hdb=>by
    obtain ⟨fb,fo,ba,bcp,e,BB⟩:=FA.o f hlt;obtain ⟨bb,bo,rfl,hbl⟩:=BB.at hb;have hf':f<P.funcs.length:=by rw[HN.o];exact hlt
    exact ⟨fb,fo,bb,bo,bcp,e,zb k' BB.cell,JU hbl k' (HZ.o.code f b hf') (fun k hk=>HZ.o.few f b k hf' hk) hs' (HIF.o b) hdb⟩
   have HPT:=hid fun (b i:Nat) (hb:b<(zf P f).blocks.length) (hi:i≤(zA (zf P f) b).code.length)=>(show ZM P f b i from ⟨by rw[HN.o];exact hlt,hb,hi⟩);have HB6:Box ((zf P f).blocks.length≤600):=hid (HZ.o.bk f (by rw[HN.o];exact hlt));have hB6:=HB6.o;clear h2 h3 k1 k2 k3 n2 g1 HK;obtain ⟨n,hn⟩:∃ n,(zf P f).blocks.length=n:=⟨_,rfl⟩;have HNB:=hid hn;rw[hn] at HH3 HNEW HINJ HBF HPT hB6 ⊢;clear hn
   go_loopw [26] (fun i wr=>∃ b:Nat,b≤n∧i=int i64 (b:Int)∧Box (za [] w wr)∧Box (zB wr b2 (rch (zw (zf P f)) [0]))∧Box (qu wr w2.heap.size p3 n 185 (pv n d3))∧Box (∀ j,b≤j→j<n→zB wr (d3 j) (inS P (zf P f) j))∧Box (QB (zd5 P) (ptF (zf P f) f b))) (fun i _=>n - (intOf i).toNat)
   case atStart=>exact ⟨0,by omega,rfl,HK3,H2,hid HH3.o.row,hid (fun j _ hj=>HH3.o.set j hj),hid (QB.nil _)⟩
   case round=>
    clear HK3 H2 HH3;obtain ⟨b,hb,rfl,HK,H2,HRO,HST,HWB⟩:=hrel;by_cases hlb:b<n
    ·have hlb':(b:Int)<(n:Int):=by omega
     have cz:=HRO.o.cell hlb;unfold pv at cz;rw[if_pos hlb] at cz;have HHS:Box (∀ w',zB w' b2 (rch (zw (zf P f)) [0])→Calls Tryz.prog 125 #[pointer (some ⟨b2,0,none⟩),int i64 (b:Int)] w' fun e w''=>e=.returned (.bool (rch (zw (zf P f)) [0] b))∧∃ m,w''=w'.drewN m):=hid fun w' h'=>by
      have:=Zm b2 (rch (zw (zf P f)) [0]) (b:Int) w' h' HHF.o;unfold Zr at this;rw[Int.toNat_natCast,decide_eq_true (by omega:(0:Int)≤(b:Int)),Bool.true_and] at this;exact this
     cases hm:rch (zw (zf P f)) [0] b with
     | false=>
      rw[hm] at HHS;have HWN:=hid (zgk hm ((zA (zf P f) b).code.length+1));clear hm;go_wp2_with (go_at_call 125;refine (HHS.o _ H2.o).mono ?_;rintro e w5 ⟨rfl,m5,rfl⟩);have kd:=za.drewN [] wr m5;go_roundw
      case rel=>exact ⟨b+1,by omega,by go_num,hid (HK.o.quiet kd),hid (H2.o.kept kd (by simp)),hid (HRO.o.kept kd (by simp)),hid (fun j h1 h2=>(HST.o j (by omega) h2).kept kd (by simp)),hid (by rw[qF];exact HWB.o.app HWN.o)⟩
      case measure=>simp[intOf];omega
     | true=>
      rw[hm] at HHS;have HM:=hid hm;clear hm;have HDB:Box (w.heap.size≤d3 b):=hid (by have:=HNEW.o b hlb;omega);have HD2:Box (d3 b≠b2):=hid (by have:=HNEW.o b hlb;omega);have HDP:Box (p3≠d3 b):=hid (by have:=HNEW.o b hlb;omega);go_upto_region 11 with (go_at_call 125;refine (HHS.o _ H2.o).mono ?_;rintro e w5 ⟨rfl,m5,rfl⟩)
      have kd:=za.drewN [] wr m5;have HK5:=hid (HK.o.quiet kd);have H25:=hid (H2.o.kept kd (by simp));have HR5:=hid (HRO.o.kept kd (by simp));have HS5:Box (∀ j,b≤j→j<n→zB (wr.drewN m5) (d3 j) (inS P (zf P f) j)):=hid (fun j h1 h2=>(HST.o j h1 h2).kept kd (by simp));clear HK H2 HRO HST kd cz HHS;generalize wr.drewN m5=w6 at *;obtain ⟨fb,fo,bb,bo,bcp,rfl,c2,hbare⟩:=HBF.o b hlb w6 (d3 b) HK5.o (HS5.o b (Nat.le_refl _) hlb) HDB.o;have c4:=C4.o _ HK5.o;have HBR:=hid (zgV hbare);clear hbare;go_upto_region 12 with (go_at_call 128;refine HBR.o.mono ?_;rintro e w7 ⟨v7,rfl,h7,k7⟩)
      have HKN:=hid (HK5.o.fresh k7 (fun x hx=>by have:=HDB.o;simp at hx;omega));rcases h7 with ⟨k,hk,rfl,hbad,hgood⟩ | ⟨rfl,hgood⟩
      ·have hk0:(0:Int)≤(k:Int):=by omega
       have HFD:Box ((pts P).find? (zd5 P)=some (f,b,k)):=hid (zdh (HPT.o b k hlb hk) (HW.o.app (HWB.o.app (zdC hgood))) (by
        show (rch (zw (zf P f)) [0] b && Zo (zA (zf P f) b) (inS P (zf P f) b) k)=true;rw[HM.o,hbad]
        rfl))
       clear hbad hgood hk;go_wp2_with (go_at_call 126;refine (zcj _ _ _ _ _).mono ?_;rintro e w8 ⟨p8,rfl,h8,k8⟩);go_ret;unfold ju;rw[HFD.o];exact ⟨p8,rfl,h8,HKN.o.quiet k8⟩
      ·have HWN:=hid (zdC (P:=P) (f:=f) (b:=b) (n:=(zA (zf P f) b).code.length+1) (fun i hi=>hgood i (by omega)))
       clear hgood;go_wp2_with fail;go_roundw
       case rel=>exact ⟨b+1,by omega,by go_num,HKN,hid (H25.o.kept k7 (by have:=HD2.o;simp;omega)),hid (HR5.o.kept k7 (by have:=HDP.o;simp;omega)),hid (fun j h1 h2=>(HS5.o j (by omega) h2).kept k7 (by have:=HINJ.o j b h2 hlb (by omega);simp;omega)),hid (by rw[qF];exact HWB.o.app HWN.o)⟩
       case measure=>simp[intOf];omega
    ·obtain rfl:b=n:=by omega
     rw[← HNB.o] at HWB;go_wp2_with fail;go_roundw
     case rel=>exact ⟨f+1,by omega,by go_num,HK,hid (by rw[j5];exact HW.o.app HWB.o)⟩
     case measure=>simp[intOf];omega
  ·obtain rfl:f=N:=by omega
   have HFD:Box ((pts P).find? (zd5 P)=none):=hid (za6 (by unfold pts;rw[HN.o];exact HW.o));go_wp2;go_ret;unfold ju;rw[HFD.o];exact ⟨rfl,HK.o⟩
def bkF(f m:Nat):List (Nat × Nat × Nat):=(List.range m).map fun b=>(f,b,0)
def bkP(P:Pr8)(k:Nat):List (Nat × Nat × Nat):=(List.range k).flatMap fun f=>bkF f (zf P f).blocks.length
def bks(P:Pr8):List (Nat × Nat × Nat):=bkP P P.funcs.length
def jJ(P:Pr8)(q:Nat × Nat × Nat):Bool:= !rch (zw (zf P q.1)) [0] q.2.1
theorem J3(f m:Nat):bkF f (m+1)=bkF f m ++ [(f,m,0)]:=by unfold bkF;rw[List.range_succ,List.map_append];rfl
theorem JV(P:Pr8)(k:Nat):bkP P (k+1)=bkP P k ++ bkF k (zf P k).blocks.length:=by unfold bkP;rw[List.range_succ,List.flatMap_append,List.flatMap_singleton]
theorem zaE(f:Nat):∀ {b m:Nat},b<m→∃ r,bkF f m=bkF f b ++ ((f,b,0) :: r)
 | b,0,h=>absurd h (Nat.not_lt_zero _)
 | b,m+1,h=>by
  by_cases e:b=m
  ·subst e
   exact ⟨[],by rw[J3]⟩
  ·obtain ⟨r,hr⟩:=zaE f (b:=b) (m:=m) (by omega)
   exact ⟨r ++ [(f,m,0)],by rw[J3,hr];simp⟩
theorem zdE(P:Pr8):∀ {f m:Nat},f<m→∃ r,bkP P m=bkP P f ++ (bkF f (zf P f).blocks.length ++ r)
 | f,0,h=>absurd h (Nat.not_lt_zero _)
 | f,m+1,h=>by
  by_cases e:f=m
  ·subst e
   exact ⟨[],by rw[JV,List.append_nil]⟩
  ·obtain ⟨r,hr⟩:=zdE P (f:=f) (m:=m) (by omega)
   exact ⟨r ++ bkF m (zf P m).blocks.length,by rw[JV,hr];simp[List.append_assoc]⟩
theorem zkE(hf:f<P.funcs.length)(hb:b<(zf P f).blocks.length)(hw:QB (jJ P) (bkP P f ++ bkF f b))(h:jJ P (f,b,0)=true):(bks P).find? (jJ P)=some (f,b,0):=by
 obtain ⟨r1,h1⟩:=zdE P hf;obtain ⟨r2,h2⟩:=zaE f hb;have e:bks P=(bkP P f ++ bkF f b) ++ (f,b,0) :: (r2 ++ r1):=by
  unfold bks;rw[h1,h2];simp[List.append_assoc]
 rw[e,List.find?_append,List.find?_eq_none.2 (fun q hq=>by simp[hw q hq]),List.find?_cons_of_pos h];rfl
theorem zgY(hw:QB (jJ P) (bkP P P.funcs.length)):(bks P).find? (jJ P)=none:=List.find?_eq_none.2 fun q hq=>by simp[hw q hq]
theorem QB.one{B:Nat × Nat × Nat→Bool}{q:Nat × Nat × Nat}(h:B q=false):QB B [q]:=fun x hx=>by rw[List.mem_singleton.1 hx];exact h
end Go.Proofs.YtgmbkiagdhjpnaaGreatDoor
