import Derived.Test.YtkgoimokgbdgfaaGreatDoorV10

namespace Go.Proofs.YtkgoimokgbdgfaaGreatDoor
open Go.RowKit
open Go.Value (int pointer agg)
open Go.IntKind (i64)
set_option maxRecDepth 20000
set_option maxHeartbeats 8000000
variable {P:Pr8}{b base k n p pb po:Nat}{lv v:Value}{vs:List Value}{w w' wr wy:World}
def zpV(w:World)(b:Nat)(v0:Value)(t1 t2:Int):Prop:=w.heap[b]? = some (.cells #[v0,int i64 t1,int i64 t2] 36 (0,0))
theorem qR.open{o:Option (List (Int × Int) × Int × Int)}{w0:World}{e:Ending}(h:qR o w0 w e w'):zc [] w w'∧∃ a cp n t1 t2,e=.returned (.tuple #[agg #[.slice a n cp,int i64 t1,int i64 t2],.bool o.isSome])∧(∀ s,o=some s→n=s.1.length∧t1=s.2.1∧t2=s.2.2∧zy w0 2 TyC a s.1∧n≤maxLen):=by
 obtain ⟨k,h⟩:=h;refine ⟨k,?_⟩;cases o with
 | none=>exact ⟨none,0,0,0,0,h,fun s e=>by cases e⟩
 | some s=>
  obtain ⟨v,rfl,a,cp,rfl,hv,_⟩:=h;obtain ⟨_,hr,_,hl⟩:=hv.slice;exact ⟨a,cp,s.1.length,s.2.1,s.2.2,rfl,fun s' e=>by cases e;exact ⟨rfl,rfl,rfl,hr,hl⟩⟩
def Q5(P:Pr8):Bool:=match (if inB P.main P.funcs.length then Jh P (zg P P.main.toNat).sig else none) with
 | some s=>decide (s.1.length=0) && decide (s.2.1=0)
 | none=>false
theorem zkX(h:PrC w pb po P):Calls Tryz.prog 55 #[pointer (some ⟨pb,po,none⟩)] w fun e w'=>e=.returned (.bool (Q5 P))∧zc [] w w':=by
 obtain ⟨fa,fp,c4,r4,_⟩:=h.c4;have c5:=h.c5.1;have HP:=hid h;have HW:=hid fun (w':World)=>zC P.main P.funcs.length w';have HR:=hid r4;clear h r4;cases hin:inB P.main P.funcs.length with
 | false=>
  rw[hin] at HW;have HE:Box (Q5 P=false):=hid (by unfold Q5;rw[hin];rfl);clear hin HP HR;generalize P.funcs.length=n at *;go_enter Tryz.func55,Tryz.ntmps55;go_upto_region 1 with fail;go_quiet ((go_at_call 50;exact Calls.quiet_of_same (HW.o _)));go_wp2_with fail;go_ret;exact ⟨by rw[HE.o];rfl,zc.drewN _ _ _⟩
 | true=>
  rw[hin] at HW;obtain ⟨g0,g1⟩:=zq.1 hin;obtain ⟨m,hm⟩:∃ m:Nat,P.main=(m:Int):=⟨P.main.toNat,by omega⟩;obtain ⟨fb,fo,rfl,hfu⟩:=HR.o.at (zh (l:=P.funcs) (k:=m) (d:=⟨0,[],[]⟩) (by omega))
  have HE:Box (Q5 P=match Jh P (zg P m).sig with
   | some s=>decide (s.1.length=0) && decide (s.2.1=0)
   | none=>false):=hid (by unfold Q5;rw[hin,hm];rfl)
  have e0:w.cell? ⟨fb,fo+m * 3,none⟩=some (int i64 (zg P m).sig):=hfu.c0.1;have HSG:=hid fun (w':World) (k:zc [] w w')=>zad HP.o k (zg P m).sig;rw[hm] at c5 HW g1;have hmn:(m:Int)<(P.funcs.length:Int):=g1;generalize hO:Jh P (zg P m).sig=O at *;have C4:Box (∀ w',zc [] w w'→w'.cell? ⟨pb,po+4,none⟩=some (.slice (some ⟨fb,fo,none⟩) P.funcs.length fp)∧w'.cell? ⟨pb,po+5,none⟩=some (int i64 (m:Int))∧w'.cell? ⟨fb,fo+m * 3,none⟩=some (int i64 (zg P m).sig)):=hid fun w' k=>⟨za k c4,za k c5,za k e0⟩;clear hin g0 hm hfu hO HP HR;generalize P.funcs.length=n at *;generalize (zg P m).sig=sg at *;go_enter Tryz.func55,Tryz.ntmps55;go_upto_region 1 with fail;go_quiet ((go_at_call 50;exact Calls.quiet_of_same (HW.o _)));go_upto_region 3 with fail;generalize hwd:w.drewN nq=wd at *;have KD:zc [] w wd:=by rw[← hwd];exact zc.drewN _ _ _
  have HKD:=hid KD;clear hwd KD c4 c5 e0;obtain ⟨c4,c5,e0⟩:=C4.o _ HKD.o
  go_cut [3,4] (fun v3 v4 wz=>∃ b a cp k t1 t2,v3=pointer (some ⟨b,0,none⟩)∧v4=.bool O.isSome∧Box (zpV wz b (.slice a k cp) t1 t2)∧Box (∀ s,O=some s→k=s.1.length∧t1=s.2.1)∧Box (zc [] w wz))
  case first=>
   have n1:=World.new_ne wd _ c4;have n2:=World.new_ne wd _ c5;have n3:=World.new_ne wd _ e0
   go_region_held3 (fun w'=>w'.cell? ⟨pb,po+4,none⟩=some (.slice (some ⟨fb,fo,none⟩) n fp)∧w'.cell? ⟨pb,po+5,none⟩=some (int i64 (m:Int))∧w'.cell? ⟨fb,fo+m * 3,none⟩=some (int i64 sg)) (first | go_keep | simp (maxDischargeDepth:=10) [*,World.cell?_alloc_some,World.cell?_setCell_far]) (first
    | (go_at_call 101;refine (HSG.o _ (HKD.o.quiet (zc.drew [] _))).mono ?_;intro e w5 h5;obtain ⟨k5,a,cp,k,t1,t2,rfl,h6⟩:=h5.open;have K5:=(HKD.o.quiet (zc.drew [] _)).quiet k5;obtain ⟨f51,f52,f53⟩:=C4.o _ K5;have H6:=hid h6;have HK5:=hid K5;clear k5 h5 h6)
    | (go_at_call 101;refine (HSG.o _ ((HKD.o.quiet (zc.drew [] _)).quiet (zc.alloc [] _ _))).mono ?_;intro e w5 h5;obtain ⟨k5,a,cp,k,t1,t2,rfl,h6⟩:=h5.open;have K5:=((HKD.o.quiet (zc.drew [] _)).quiet (zc.alloc [] _ _)).quiet k5;obtain ⟨f51,f52,f53⟩:=C4.o _ K5;have H6:=hid h6;have HK5:=hid K5;have hb:w5.heap[wd.heap.size]? = some (.cells #[.slice none 0 0,int i64 0,int i64 0] 36 (0,0)):=ze (zf wd.drew (.cells #[.slice none 0 0,int i64 0,int i64 0] 36)) k5;have z0:=zi hb 0;have z1:=zi hb 1;have z2:=zi hb 2;have y0:=zd hb 0;have y1:=zd hb 1;have y2:=zd hb 2;have HB:=hid hb;clear k5 h5 h6 hb))
   ·go_wp2_with fail
    go_meet;exact ⟨w5.heap.size,a,cp,k,t1,t2,rfl,rfl,hid (zf w5 _),hid fun s hs=>⟨(H6.o s hs).1,(H6.o s hs).2.1⟩,hid (HK5.o.quiet (zc.alloc _ _ _))⟩
   ·go_wp2_with fail
    go_meet;exact ⟨wd.heap.size,a,cp,k,t1,t2,rfl,rfl,hid (ZC HB.o _ _ _),hid fun s hs=>⟨(H6.o s hs).1,(H6.o s hs).2.1⟩,hid (HK5.o.trans (jd _ wd.heap.size _ _ _) (fun x hx hl=>by simp at hx;have:=HKD.o.size;omega))⟩
  case rest=>
   obtain ⟨b,a,cp,k,t1,t2,rfl,rfl,HB,HS,HKZ⟩:=hcut;have s0:=zd HB.o 0;have s1:=zd HB.o 1;clear c4 c5 e0;cases O with
   | none=>
    have HF:Box (Q5 P=false):=hid HE.o;clear HE HS;go_wp2_with fail;go_ret;exact ⟨by rw[HF.o];rfl,HKZ.o⟩
   | some s=>
    obtain ⟨e1,e2⟩:=HS.o s rfl;have HF:Box (Q5 P=(decide (k=0) && decide (t1=0))):=hid (by rw[HE.o,e1,e2]);clear HE HS e1 e2;by_cases hk:k=0
    ·have hk':((k:Int) == 0)=true:=eqb (by omega)
     have HG:Box (Q5 P=(t1 == 0)):=hid (by rw[HF.o,hk];rfl);clear hk HF;go_wp2_with fail;go_ret;exact ⟨by rw[HG.o];rfl,HKZ.o⟩
    ·have hk':((k:Int) == 0)=false:=neb (by omega)
     have HG:Box (Q5 P=false):=hid (by rw[HF.o];simp[hk]);clear hk HF;go_wp2_with fail;go_ret;exact ⟨by rw[HG.o];rfl,HKZ.o⟩
def pc(q:Int × Int × Int):List Value:=[int i64 q.1,int i64 q.2.1,int i64 q.2.2]
def zdN:List (Int × Int × Int)→List Value
 | []=>[]
 | q :: l=>int i64 q.1 :: int i64 q.2.1 :: int i64 q.2.2 :: zdN l
theorem ZK:∀ l:List (Int × Int × Int),(zdN l).length=l.length * 3
 | []=>rfl
 | q :: l=>by
  have:=ZK l;simp only[zdN,List.length_cons];omega
theorem zb1:∀ (l:List (Int × Int × Int)) (q:Int × Int × Int),zdN (l ++ [q])=zdN l ++ pc q
 | [],_=>rfl
 | a :: l,q=>by
  have:=zb1 l q;simp only[List.cons_append,zdN,this]
structure zj8 (w:World) (g off n:Nat) (vs:List Value):Prop where
 cell:∀ i,i<vs.length→w.cell? ⟨g,off+i,none⟩=vs[i]?
 room:∀ k,k<n→(w.cell? ⟨g,off+k,none⟩).isSome=true∧w.frozen? ⟨g,off+k,none⟩=false
 len:vs.length≤n
 lt:g<w.heap.size
theorem zj8.kept{g off:Nat}{L:List Nat}(h : zj8 w g off n vs)(k : zc L w w')(hn : g ∉ L): zj8 w' g off n vs :=
  ⟨fun i hi => by rw [k.cell (p := ⟨g, off + i, none⟩) h.lt hn]; exact h.cell i hi,
   fun i hi => by rw [k.cell (p := ⟨g, off + i, none⟩) h.lt hn, World.frozen?_of_block (w := w) (k.block g h.lt hn)]; exact h.room i hi,
   h.len, Nat.lt_of_lt_of_le h.lt k.size⟩
structure ZQ (w:World) (base:Nat) (lv:Value) (l:List (Int × Int × Int)):Prop where
 val:∃ g off cap,lv=.slice (some ⟨g,off,none⟩) l.length cap∧base≤g∧zj8 w g off (cap * 3) (zdN l)∧cap≤maxLen∧l.length≤cap
theorem ZQ.own{l:List (Int × Int × Int)}(h:ZQ w base lv l):∃ g,lv.ownBlock=some g∧base≤g∧g<w.heap.size:=by
 obtain ⟨g,off,cap,rfl,h1,h2,_⟩:=h.val;exact ⟨g,rfl,h1,h2.lt⟩
theorem ZQ.kept{l:List (Int × Int × Int)}{L:List Nat}(h:ZQ w base lv l)(k:zc L w w')(hL:∀ x,lv.ownBlock=some x→x ∉ L):ZQ w' base lv l:=by
 obtain ⟨g,off,cap,rfl,h1,h2,h3⟩:=h.val;exact ⟨g,off,cap,rfl,h1,h2.kept k (hL g rfl),h3⟩
theorem ZQ.first{q:Int × Int × Int}{l:List (Int × Int × Int)}(h:ZQ w base lv (q :: l)):
  ∃ g off cap,lv=.slice (some ⟨g,off,none⟩) (l.length+1) cap∧1≤cap∧cap≤maxLen∧w.cell? ⟨g,off,none⟩=some (int i64 q.1)∧w.cell? ⟨g,off+1,none⟩=some (int i64 q.2.1)∧w.cell? ⟨g,off+2,none⟩=some (int i64 q.2.2)∧(1<cap→ZQ w base (.slice (some ⟨g,off+3,none⟩) l.length (cap - 1)) l)∧(cap=1→l=[]∧ZQ w base (.slice (some ⟨g,off,none⟩) 0 0) []):=by
 obtain ⟨g,off,cap,rfl,h1,h2,h3,h4⟩:=h.val;simp only[List.length_cons] at h4;have hl:=ZK l;refine ⟨g,off,cap,rfl,by omega,h3,h2.cell 0 (by simp[zdN]),h2.cell 1 (by simp[zdN]),h2.cell 2 (by simp[zdN]),fun hc=> ?_,fun hc=> ?_⟩
 ·refine ⟨g,off+3,cap - 1,rfl,h1,⟨fun i hi=> ?_,fun k hk=> ?_,by omega,h2.lt⟩,by omega,by omega⟩
  ·have:=h2.cell (i+3) (by simp only[zdN,List.length_cons];omega)
   rw[show off+3+i=off+(i+3) by omega,this];rfl
  ·rw[show off+3+k=off+(k+3) by omega]
   exact h2.room (k+3) (by omega)
 ·have hn:l=[]:=List.eq_nil_of_length_eq_zero (by omega)
  exact ⟨hn,⟨g,off,0,rfl,h1,⟨fun i hi=>by simp[zdN] at hi,fun k hk=>by omega,by simp[zdN],h2.lt⟩,by omega,by simp⟩⟩
theorem zfH{l:List (Int × Int × Int)}(h:w.ownsRow base 55 3 v n (zdN l))(hn:0<n):ZQ w base v l:=by
 have hl:l.length=n:=by have:=h.1;rw[ZK] at this;omega
 rcases h.2 with ⟨_,e⟩ | ⟨g,cap,cur,rfl,hb,hg,hnc,hcm,hcs,ht⟩
 ·omega
 ·refine ⟨g,0,cap,by rw[hl],hb,⟨fun i hi=> ?_,fun k hk=> ?_,by rw[ZK];omega,(Array.getElem?_eq_some_iff.1 hg).1⟩,hcm,by omega⟩
  ·rw[cell_of_row w g _ _ _ _ hg,Nat.zero_add, ← ht,List.getElem?_take_of_lt (by rw[ZK] at hi;omega),Array.getElem?_toList]
  ·refine ⟨?_,frozen_of_row w g _ _ _ hg⟩
   rw[cell_of_row w g _ _ _ _ hg,Nat.zero_add,Array.getElem?_eq_getElem (by omega)];rfl
theorem zoX(q:Int × Int × Int):∀ u∈pc q,u.oneCell'=true:=JP _ _ _
theorem zbB(w:World)(ty:TypeId)(base:Nat)(hw:base≤w.heap.size)(l:List (Int × Int × Int))(q:Int × Int × Int)(lv:Value)(hv:ZQ w base lv l)(ad:Addr)(c:Nat)
  (hnew:∀ j u,(pc q)[j]? = some u→w.cell? (ad.add j)=some u) (hb:l.length<1000000):
  ∃ v' w',(Builtin.append_ #[101,101] ty #[lv,.slice (some ad) 1 c]).run Tryz.prog w=.ok v' w'∧ZQ w' base v' (l ++ [q])∧zc lv.ownBlock.toList w w'∧(v'.ownBlock=lv.ownBlock∨∃ g,v'.ownBlock=some g∧w.heap.size≤g):=by
 obtain ⟨g,off,cap,rfl,hg,hline,hcm,hlc⟩:=hv.val;have hfl:=ZK l;by_cases hroom:l.length+1≤cap
 ·have hr:=run_append_room_cells (P:=Tryz.prog) w 101 ty 55 Tryz.t55 Q9 zbn g off l.length cap ad 1 c (pc q) (by rw[QJ];rfl) hnew (zoX q) hroom
   (fun j hj=>by (have hj':j<3:=hj);rw[QJ,Nat.add_assoc];exact (hline.room _ (by omega)).1) (fun j hj=>by (have hj':j<3:=hj);rw[QJ,Nat.add_assoc];exact (hline.room _ (by omega)).2)
  rw[QJ] at hr;have ht:∀ j,j<(pc q).length→(w.cell? ⟨g,off+l.length * 3+j,none⟩).isSome=true:=fun j hj=>by
   have hj':j<3:=hj;rw[Nat.add_assoc];exact (hline.room _ (by omega)).1
  refine ⟨_,_,hr,⟨g,off,cap,by simp,hg,⟨fun i hi=> ?_,fun k hk=>⟨JU w g _ _ (pc q) ht (hline.room k hk).1,by rw[World.frozen?_setCells];exact (hline.room k hk).2⟩,by rw[ZK,List.length_append];simp;omega,Nat.lt_of_lt_of_le hline.lt (zc.setCells g (pc q) _ w).size⟩,hcm,by simpa using hroom⟩,zc.setCells g (pc q) _ w,.inl rfl⟩;rw[Qg w g _ _ (pc q) ht,zb1];rw[ZK,List.length_append] at hi;simp at hi;by_cases hlt:i<l.length * 3
  ·rw[if_neg (by omega),hline.cell i (by omega),List.getElem?_append_left (by omega)]
  ·rw[if_pos (by simp[pc];omega),List.getElem?_append_right (by omega),hfl,show off+i - (off+l.length * 3)=i - l.length * 3 by omega]
 ·have hol:∀ j u,(zdN l)[j]? = some u→w.cell? ((⟨g,off,none⟩:Addr).add j)=some u:=by
   intro j u hu;rw[Addr.add_lit,hline.cell j (List.getElem?_eq_some_iff.1 hu).1];exact hu
  obtain ⟨v',w',hr,ho,hgr⟩:=run_append_arg_grows (P:=Tryz.prog) w 101 ty 55 Tryz.t55 (agg #[int i64 0,int i64 0,int i64 0]) 3 24 Q9 zbn zcE QJ zaC rfl (by decide) ⟨g,off,none⟩ l.length cap (zdN l) hfl hol ad 1 c (pc q) rfl hnew (by omega) (by unfold maxLen;omega) (by omega);rw[← zb1] at ho;have hp:=zfH ho (by omega);refine ⟨v',w',hr,?_,zc.grown _ hgr (fun k hk=>by cases hk),.inr ?_⟩
  ·obtain ⟨g',off',cap',e,h1,h2⟩:=hp.val
   exact ⟨g',off',cap',e,Nat.le_trans hw h1,h2⟩
  ·obtain ⟨g',h1,h2,_⟩:=hp.own
   exact ⟨g',h1,h2⟩
theorem zaw{ops:Array Oper}{rest:List Oper}{o:Oper}{a:Act}{Q:Exit→Act→World→Prop}(w:World)(hgd:o.guard=none)(s x':Operand)
  (ho:o.op=.call { callee:=.builtin .append,args:=#[s,x'],argTypes:=#[101,101] })
  (base:Nat) (hw:base≤w.heap.size) (l:List (Int × Int × Int)) (q:Int × Int × Int) (lv:Value) (hs:a.eval s=lv) (hv:ZQ w base lv l)
  (ad:Addr) (c:Nat) (hx:a.eval x'=.slice (some ad) 1 c) (hnew:∀ j u,(pc q)[j]? = some u→w.cell? (ad.add j)=some u) (hb:l.length<1000000)
  (h:∀ v' w',ZQ w' base v' (l ++ [q])→zc lv.ownBlock.toList w w'→(v'.ownBlock=lv.ownBlock∨∃ g,v'.ownBlock=some g∧w.heap.size≤g)→wpList Tryz.prog ops Q rest (a.put o.dst v') w'):
  wpList Tryz.prog ops Q (o :: rest) a w:=by
 refine wpList_plain hgd fun K hK=> ?_;obtain ⟨v',w',hr,h2,h3,h4⟩:=zbB w o.type base hw l q lv hv ad c hnew hb;unfold Oper.wp execOp;simp only[ho,resolve,invoke,builtin,Sem.run_bind,Sem.run_pure,Result.andThen_ok,List.map_toArray,List.map_cons,List.map_nil,hs,hx,hr];exact hK _ _ (h v' w' h2 h3 h4)
def zb8:Value:=.slice none 0 0
theorem zhz(n:Nat)(hn:n≤1000000)(w:World):(Instr.makeSlice 105 (int i64 (n:Int)) (int i64 (n:Int))).run Tryz.prog w=.ok (.slice (some ⟨w.heap.size,0,none⟩) n n) (w.alloc (.cells (madeCells #[zb8] n) 37)):=
 run_make_row' (P:=Tryz.prog) 105 37 zb8 24 Tryz.underlying105 (by kernel_rfl) rfl .i64 .i64 n (by omega) (by omega) w
theorem zh9(w:World)(n base:Nat)(hb:base≤w.heap.size)(hn:n≤maxLen):ju (w.alloc (.cells (madeCells #[zb8] n) 37)) base w.heap.size n 37 (fun _=>zb8):=by
 refine ju.made (z:=zb8) ⟨?_,.inr ⟨w.heap.size,n,_,rfl,hb,heap_alloc_new w _,Nat.le_refl _,hn,?_,?_⟩⟩ rfl
 ·rw[Array.length_toList,size_madeCells]
 ·rw[size_madeCells,Nat.mul_one]
 ·rw[Nat.mul_one]
  exact List.take_of_length_le (by rw[Array.length_toList,size_madeCells];exact Nat.le_refl _)
structure FW (w wr:World) (p n:Nat) (c:Nat→Value) (g:List (List Nat)) (k:Nat):Prop where
 row:ju wr w.heap.size p n 37 c
 own:∀ j,j<k→wr.ownsRow (p+1) 3 1 (c j) (nb g j).length (QK (nb g j))
 keep:zc [] w wr
theorem FW.quiet{c:Nat→Value}{g:List (List Nat)}(h:FW w wr p n c g k)(q:zc [] wr wy):FW w wy p n c g k:=
 ⟨h.row.kept q (by simp),fun j hj=>zB (h.own j hj) q (fun _ _=>by simp),h.keep.quiet q⟩
theorem FW.put{c:Nat→Value}{g:List (List Nat)}(h:FW w wr p n c g k)(q:zc [] wr wy)(hv:zoY wr wy v (nb g k)):FW w (wy.setCell ⟨p,k,none⟩ v) p n (fun i=>if i=k then v else c i) g (k+1):=by
 have h2:=h.quiet q;have kk:zc [p] wy (wy.setCell ⟨p,k,none⟩ v):=zc.setCell _ _ _ _ (by simp);have hp:=h.row.lt;refine ⟨h2.row.put k v,fun j hj=> ?_,h2.keep.fresh kk (fun x hx=>by simp at hx;omega)⟩;by_cases e:j=k
 ·subst e
  rw[if_pos rfl];have hv2:wy.ownsRow (p+1) 3 1 v (nb g j).length (QK (nb g j)):=by
   refine ⟨hv.1,?_⟩;rcases hv.2 with hn | ⟨b,cap,cur,h1,h2,h3⟩
   ·exact .inl hn
   ·exact .inr ⟨b,cap,cur,h1,by omega,h3⟩
  exact zB hv2 kk (fun b hb hx=>by have:=(hv2.lt b hb).1;simp at hx;omega)
 ·rw[if_neg e]
  have:=h2.own j (by omega);exact zB this kk (fun b hb hx=>by have:=(this.lt b hb).1;simp at hx;omega)
theorem FW.kept1{r:Nat}{c:Nat→Value}{g:List (List Nat)}(h:FW w wr p n c g k)(q:zc [r] wr wy)(h1:w.heap.size≤r)(h2:r<p):FW w wy p n c g k:=
 ⟨h.row.kept q (by simp;omega),fun j hj=>zB (h.own j hj) q (fun b hb hx=>by have:=((h.own j hj).lt b hb).1;simp at hx;omega),h.keep.fresh q (fun x hx=>by simp at hx;omega)⟩
theorem Ql{l:List Nat}(h:w.ownsRow base 3 1 v l.length (QK l)):∃ a c,v=.slice a l.length c∧zcu w w.heap.size a (Zb l):=by
 rcases h.2 with ⟨e,h0⟩ | ⟨g,cap,cur,rfl,hb,hg,hr⟩
 ·have:l=[]:=List.eq_nil_of_length_eq_zero h0
  subst this;exact ⟨none,0,e,.inl rfl⟩
 ·refine ⟨_,_,rfl,.inr ⟨g,0,rfl,(Array.getElem?_eq_some_iff.1 hg).1,fun i hi=> ?_⟩⟩
  rw[qu] at hi;rw[Nat.zero_add,h.cellAt i (by omega),zbq];unfold QK;rw[List.getElem?_map,List.getD_eq_getElem?_getD,List.getElem?_eq_getElem hi];rfl
theorem FW.done{c:Nat→Value}{g:List (List Nat)}(h:FW w wr p n c g n)(hn:g.length=n):GAt wr wr.heap.size (some ⟨p,0,none⟩) g:=by
 refine .inr ⟨p,0,rfl,h.row.lt.2,fun j hj=> ?_⟩;rw[Zr] at hj;rw[j9,qu,Nat.zero_add,h.row.cell (by omega)];obtain ⟨a,cp,e,hi⟩:=Ql (h.own j (by omega));exact ⟨a,cp,by rw[e],hi⟩
theorem zcU(h:PrC w pb po P){f:Nat}(hf:f<P.funcs.length)(hb:(zg P f).blocks.length≤600):
  Calls Tryz.prog 56 #[pointer (some ⟨pb,po,none⟩),int i64 (f:Int)] w fun e w'=>∃ a,e=.returned (agg #[int i64 ((zz (zg P f)).length:Int),.slice a (zz (zg P f)).length (zz (zg P f)).length])∧GAt w' w'.heap.size a (zz (zg P f))∧zc [] w w':=by
 have HW:Box (∀ w,Calls Tryz.prog 105 #[int i64 (f:Int),int i64 (P.funcs.length:Int)] w fun e w'=>e=.returned (.bool true)∧w'=w):=hid fun w=>by
  have:=qZ (f:Int) P.funcs.length w;rw[show inB (f:Int) P.funcs.length=true from zq.2 ⟨by omega,by omega⟩] at this;exact this
 obtain ⟨fa,fcp,H⟩:=h.fns;obtain ⟨fb,fo,ba,bcp,rfl,B⟩:=H.at hf;have h4:=H.cell;have h2:=B.cell;have BA:Box (∀ b,b<(zg P f).blocks.length→∃ bb bo,ba=some ⟨bb,bo,none⟩∧BlC w bb (bo+b * 5) (zr (zg P f) b)):=hid fun b hb=>B.at hb;have GN:Box (∀ b,b<(zg P f).blocks.length→nb (zz (zg P f)) b=tgB (zg P f).blocks.length (zr (zg P f) b)):=hid fun b hb=>Jc hb;have GL:=hid (zZ (zg P f));rw[zZ];clear h H B;generalize hfn:P.funcs.length=N at *;generalize hbn:(zg P f).blocks.length=n at *;generalize zz (zg P f)=g at *;clear hfn hbn;have gf:(f:Int)<(N:Int):=by omega
 have hmk:=zhz n (by omega);have k0:zc [] w (w.alloc (.cells #[int i64 0,.slice none 0 0] 107)):=zc.alloc _ _ _;have HR:Box (jC (w.alloc (.cells #[int i64 0,.slice none 0 0] 107)) w.heap.size (int i64 0) (.slice none 0 0)):=hid (jC.new _ _ _);have c4:=za k0 h4;have c2:=za k0 h2;go_enter Tryz.func56,Tryz.ntmps56;go_upto_region 1 with fail;generalize w.alloc (.cells #[int i64 0,.slice none 0 0] 107)=W at *;go_upto_region 4 with (go_at_call 105;refine (HW.o _).mono ?_;rintro e w3 ⟨rfl,rfl⟩)
 have ka:zc [] w3 (w3.alloc (.cells (madeCells #[zb8] n) 37)):=zc.alloc _ _ _;have kb:zc [] (w3.alloc (.cells (madeCells #[zb8] n) 37)) ((w3.alloc (.cells (madeCells #[zb8] n) 37)).alloc (.cells #[int i64 (n:Int),.slice (some ⟨w3.heap.size,0,none⟩) n n] 107)):=zc.alloc _ _ _;have HF:Box (FW w ((w3.alloc (.cells (madeCells #[zb8] n) 37)).alloc (.cells #[int i64 (n:Int),.slice (some ⟨w3.heap.size,0,none⟩) n n] 107)) w3.heap.size n (fun _=>zb8) g 0):=hid ⟨(zh9 w3 n w.heap.size k0.size (by unfold maxLen;omega)).kept kb (by simp),fun j hj=>by omega,(k0.quiet ka).quiet kb⟩;have HG:Box (jC ((w3.alloc (.cells (madeCells #[zb8] n) 37)).alloc (.cells #[int i64 (n:Int),.slice (some ⟨w3.heap.size,0,none⟩) n n] 107)) (w3.heap.size+1) (int i64 (n:Int)) (.slice (some ⟨w3.heap.size,0,none⟩) n n)):=hid (by have:=jC.new (w3.alloc (.cells (madeCells #[zb8] n) 37)) (int i64 (n:Int)) (.slice (some ⟨w3.heap.size,0,none⟩) n n);rw[World.size_alloc] at this;exact this);have HR2:=hid ((HR.o.kept ka (by simp)).kept kb (by simp));have hpp:w.heap.size<w3.heap.size:=HR.o.lt;clear HR ka kb k0 c4 c2 h4 h2 HW;go_upto_region 5 with fail;generalize (w3.alloc (.cells (madeCells #[zb8] n) 37)).alloc (.cells #[int i64 (n:Int),.slice (some ⟨w3.heap.size,0,none⟩) n n] 107)=W4 at *;generalize w3.heap.size=p at *;go_wp2_with fail
 go_loopw [37] (fun i wr=>∃ (k:Nat) (c:Nat→Value),k≤n∧i=int i64 (k:Int)∧Box (FW w wr p n c g k)∧Box (jC wr (p+1) (int i64 (n:Int)) (.slice (some ⟨p,0,none⟩) n n))∧Box (jC wr w.heap.size (int i64 0) (.slice none 0 0))) (fun i _=>n - (intOf i).toNat)
 case atStart=>exact ⟨0,_,by omega,rfl,HF,HG,HR2⟩
 case round=>
  clear HF HG HR2;obtain ⟨k,c,hk,rfl,HF,HG,HR⟩:=hrel;by_cases hlt:k<n
  ·have hlt':(k:Int)<(n:Int):=by omega
   obtain ⟨bb,bo,rfl,hbl⟩:=BA.o k hlt;have HT:Box (∀ w',zc [] w w'→Calls Tryz.prog 106 #[pointer (some ⟨bb,bo+k * 5,none⟩),int i64 (n:Int)] w' fun e w''=>∃ a cp,e=.returned (.slice a (nb g k).length cp)∧zoY w' w'' (.slice a (nb g k).length cp) (nb g k)∧zc [] w' w''):=hid fun w' kw=>by
    rw[GN.o k hlt];refine (zei (BlC.stays _ _ _ _ _ kw hbl) n).mono ?_;rintro e w'' ⟨v,rfl,hv,hq⟩;obtain ⟨a,cp,rfl,_⟩:=Ql hv;exact ⟨a,cp,rfl,hv,hq⟩
   have c1:=HG.o.c1;have fz:=HF.o.row.frozen k;have cz:=HF.o.row.cell hlt;clear hbl;go_wp2_with fail
   go_region_with (go_at_call 106;refine (HT.o _ (HF.o.keep.quiet (zc.drewN [] _ _))).mono ?_;rintro e w5 ⟨a5,p5,rfl,hv,k5⟩;have c1':=za k5 c1;have cz':=za k5 cz;have fz':=((HF.o.row.kept (zc.drewN [] _ _) (by simp)).kept k5 (by simp)).frozen k)
   all_goals
    have HF2:=hid ((HF.o.quiet (zc.drewN [] _ _)).put k5 hv);have kp:zc [p] w5 (w5.setCell ⟨p,k,none⟩ (.slice a5 (nb g k).length p5)):=zc.setCell _ _ _ _ (by simp);have HG2:=hid (((HG.o.kept (zc.drewN [] _ _) (by simp)).kept k5 (by simp)).kept kp (by simp));have HR2:=hid (((HR.o.kept (zc.drewN [] _ _) (by simp)).kept k5 (by simp)).kept kp (by simp;omega));clear HF HG HR c1 fz cz c1' fz' cz' hv k5 HT;generalize w5.setCell ⟨p,k,none⟩ (.slice a5 (nb g k).length p5)=w6 at *;go_wp2_with fail;go_roundw
    case rel=>exact ⟨k+1,_,by omega,by go_num,HF2,HG2,HR2⟩
    case measure=>simp[intOf];omega
  ·obtain rfl:k=n:=by omega
   have c0:=HG.o.c0;have c1:=HG.o.c1;have r0:=HR.o.c0;have r1:=HR.o.c1;have z0:=HR.o.frozen 0;have z1:=HR.o.frozen 1;go_wp2_with fail;have k1:zc [w.heap.size] wr (wr.setCell ⟨w.heap.size,0,none⟩ (int i64 (k:Int))):=zc.setCell _ _ _ _ (by simp);have k2:zc [w.heap.size] (wr.setCell ⟨w.heap.size,0,none⟩ (int i64 (k:Int))) ((wr.setCell ⟨w.heap.size,0,none⟩ (int i64 (k:Int))).setCell ⟨w.heap.size,1,none⟩ (.slice (some ⟨p,0,none⟩) k k)):=zc.setCell _ _ _ _ (by simp);have HF2:=HF.o.kept1 (k1.step k2) (Nat.le_refl _) hpp;have hb2:jC ((wr.setCell ⟨w.heap.size,0,none⟩ (int i64 (k:Int))).setCell ⟨w.heap.size,1,none⟩ (.slice (some ⟨p,0,none⟩) k k)) w.heap.size (int i64 (k:Int)) (.slice (some ⟨p,0,none⟩) k k):=by
    have h1:=heap_setCell_same wr w.heap.size 0 _ _ (int i64 (k:Int)) HR.o.heap;have h2:=heap_setCell_same _ w.heap.size 1 _ _ (.slice (some ⟨p,0,none⟩) k k) h1;exact ⟨h2⟩
   have hd0:=hb2.c0;have hd1:=hb2.c1;generalize (wr.setCell ⟨w.heap.size,0,none⟩ (int i64 (k:Int))).setCell ⟨w.heap.size,1,none⟩ (.slice (some ⟨p,0,none⟩) k k)=w9 at hd0 hd1 HF2 ⊢;exact bodyPost_ret (v:=agg #[int i64 (k:Int),.slice (some ⟨p,0,none⟩) k k]) (by simp[results,Tryz.results56,go_sem,hd0,hd1]) rfl ⟨_,rfl,HF2.done GL.o,HF2.keep⟩
theorem zgu:Tryz.t37.zero=some (.slice none 0 0):=by kernel_rfl
theorem zfW:Tryz.t37.size=1:=by kernel_rfl
theorem zea:Tryz.t37.bytes=24:=by kernel_rfl
theorem zgl:Tryz.prog.info? 37=some Tryz.t37:=by kernel_rfl
theorem zdT:Tryz.prog.underlying 105=some (.slice 37):=by kernel_rfl
theorem zfB{e:TypeId}{size:Nat}{xs:List Value}(h:w.ownsRow base e size v n xs)(hb:v.ownBlock=some b):∃ cur,w.heap[b]? = some (.cells cur e (0,0)):=by
 rcases h.2 with ⟨rfl,_⟩ | ⟨g,cap,cur,rfl,_,hg,_⟩
 ·simp[Value.ownBlock] at hb
 ·simp[Value.ownBlock] at hb
  subst hb;exact ⟨cur,hg⟩
structure LsY (w:World) (base:Nat) (v:Value) (vs:List Value) (ps:List (List Nat)):Prop where
 outer:w.ownsRow base 37 1 v ps.length vs
 inner:∀ i,i<ps.length→w.ownsRow base 3 1 (vs.getD i zb8) (nb ps i).length (QK (nb ps i))
theorem LsY.quiet{ps:List (List Nat)}(h:LsY w base v vs ps)(k:zc [] w w'):LsY w' base v vs ps:=
 ⟨zB h.outer k (fun _ _=>by simp),fun i hi=>zB (h.inner i hi) k (fun _ _=>by simp)⟩
theorem LsY.graph{ps:List (List Nat)}(h:LsY w base v vs ps):∃ a cap,v=.slice a ps.length cap∧GAt w w.heap.size a ps:=by
 have hvl:vs.length=ps.length:=by have:=h.outer.1;omega
 rcases h.outer.2 with ⟨rfl,h0⟩ | ⟨p,cap,cur,rfl,_,hg,_⟩
 ·have:ps=[]:=List.length_eq_zero_iff.1 h0
  subst this;exact ⟨none,0,rfl,.inl rfl⟩
 ·have zd:∀ j,j<ps.length→w.cell? ⟨p,j,none⟩=some (vs.getD j zb8):=by
   intro j hj;rw[h.outer.cellAt j (by omega),List.getD_eq_getElem?_getD,List.getElem?_eq_getElem (by omega)];rfl
  refine ⟨_,cap,rfl,.inr ⟨p,0,rfl,(Array.getElem?_eq_some_iff.1 hg).1,fun j hj=> ?_⟩⟩;rw[Zr] at hj;obtain ⟨a,c,hv,hn⟩:=Ql (h.inner j hj);refine ⟨a,c,?_,?_⟩
  ·rw[Nat.zero_add,zd j hj,hv,j9,qu]
  ·rw[j9];exact hn
theorem LsY.snoc{wa:World}{v' x:Value}{ps:List (List Nat)}{l:List Nat}(h:LsY w base v vs ps)(ka:zc [] w wa)(hx:w.ownsRow base 3 1 x l.length (QK l))(ho:w'.ownsRow base 37 1 v' (ps.length+1) (vs ++ [x]))(hg:wa.grownBy w' v.ownBlock):
  LsY w' base v' (vs ++ [x]) (ps ++ [l]):=by
 have hvl:vs.length=ps.length:=by have:=h.outer.1;omega
 have k:zc v.ownBlock.toList wa w':=zc.grown _ hg (fun y hy=>by rw[hy];simp);have ow:=zB h.outer ka (by simp);have stay:∀ (u:Value) (m:List Nat),w.ownsRow base 3 1 u m.length (QK m)→w'.ownsRow base 3 1 u m.length (QK m):=by
  intro u m hu;have hu2:=zB hu ka (by simp);refine zB hu2 k (fun b hb hx=> ?_);obtain ⟨cur,hc⟩:=zfB hu2 hb;exact Lib.ownBlock_ne ow hc (by decide) (by simpa using hx)
 refine ⟨by rw[List.length_append];exact ho,fun i hi=> ?_⟩;rw[List.length_append] at hi;by_cases e:i<ps.length
 ·have e1:(vs ++ [x]).getD i zb8=vs.getD i zb8:=by rw[List.getD_eq_getElem?_getD,List.getD_eq_getElem?_getD,List.getElem?_append_left (by omega)]
  have e2:nb (ps ++ [l]) i=nb ps i:=by unfold nb;rw[List.getD_eq_getElem?_getD,List.getD_eq_getElem?_getD,List.getElem?_append_left e]
  rw[e1,e2];exact stay _ _ (h.inner i e)
 ·obtain rfl:i=ps.length:=by simp at hi;omega
  have e1:(vs ++ [x]).getD ps.length zb8=x:=by rw[List.getD_eq_getElem?_getD, ← hvl];simp
  have e2:nb (ps ++ [l]) ps.length=l:=by unfold nb;rw[List.getD_eq_getElem?_getD];simp
  rw[e1,e2];exact stay _ _ hx
theorem Qr{ops:Array Oper}{rest:List Oper}{o:Oper}{a:Act}{Q:Exit→Act→World→Prop}(w0 wr w:World)(hgd:o.guard=none)(s x':Operand)
  (ho:o.op=.call { callee:=.builtin .append,args:=#[s,x'],argTypes:=#[105,105] })
  {v x:Value}{vs:List Value}{ps:List (List Nat)}{l:List Nat}(hs:a.eval s=v) (hv:LsY wr w0.heap.size v vs ps) (ka:zc [] wr w) (k:zc [] w0 wr) (hx1:wr.ownsRow w0.heap.size 3 1 x l.length (QK l))
  (b c:Nat) (hx:a.eval x'=.slice (some ⟨b,0,none⟩) 1 c) (hb:w.cell? ⟨b,0,none⟩=some x) (hl:ps.length<1000)
  (h:∀ v' w',LsY w' w0.heap.size v' (vs ++ [x]) (ps ++ [l])→zc [] w0 w'→wpList Tryz.prog ops Q rest (a.put o.dst v') w'):
  wpList Tryz.prog ops Q (o :: rest) a w:=by
 refine wpList_plain hgd fun K hK=> ?_;have hvo:=zB hv.outer ka (fun _ _=>by simp);have hone:x.oneCell'=true:=by
  obtain ⟨a,c,rfl,_⟩:=Ql hx1;rfl
 obtain ⟨v',w',hr,h2,hg,_⟩:=run_append_own (P:=Tryz.prog) w w0.heap.size 105 o.type 37 Tryz.t37 (.slice none 0 0) 1 24 zdT zgl zgu zfW zea rfl (by decide) v ps.length vs hvo ⟨b,0,none⟩ 1 c [x] rfl (fun j u e=>by
  cases j with
  | zero=>simp at e;subst e;exact hb
  | succ j=>simp at e) (fun u hu=>by simp at hu;subst hu;exact hone) (by unfold maxLen;omega) (by omega) (k.quiet ka).size
 unfold Oper.wp execOp;simp only[ho,resolve,invoke,builtin,Sem.run_bind,Sem.run_pure,Result.andThen_ok,List.map_toArray,List.map_cons,List.map_nil,hs,hx,hr];exact hK _ _ (h v' w' (hv.snoc ka hx1 h2 hg) ((k.quiet ka).appended hvo hg (Nat.le_refl _)))
def zia(F:Fu8):Prop:=∀ b,b<F.blocks.length→((zr F b).fin=1∨(zr F b).fin=2→inB (zr F b).to F.blocks.length=true)∧((zr F b).fin=2→inB (zr F b).els F.blocks.length=true)
theorem zhr{F:Fu8}(h:k<F.blocks.length):(zz F).take (k+1)=(zz F).take k ++ [tgB F.blocks.length (zr F k)]:=by
 have:=qC (zz F) k [] (by rw[zZ];exact h);rw[this];have e:(zz F).getD k []=nb (zz F) k:=rfl;rw[e,Jc h]
theorem zej(F:Fu8)(s:Int)(ra:Option Addr)(R rp:Nat)(ba:Option Addr)(bcp:Nat)(hB:zy w 5 BlC ba F.blocks)(hE:zia F)(hn:F.blocks.length≤600):
  Calls Tryz.prog 77 #[agg #[int i64 s,.slice ra R rp,.slice ba F.blocks.length bcp]] w fun e w'=>∃ a cp,e=.returned (.slice a F.blocks.length cp)∧GAt w' w'.heap.size a (zz F)∧zc [] w w':=by
 obtain ⟨n,hne⟩:∃ n,F.blocks.length=n:=⟨_,rfl⟩;have HNE:=hid hne;have hn':n≤600:=hne ▸ hn;have k0:=zc.alloc [] w (.cells #[int i64 s,.slice ra R rp,.slice ba n bcp] 45);have hh:=zf w (.cells #[int i64 s,.slice ra R rp,.slice ba n bcp] 45);have c2:=zd hh 2;have HRW:=hid (hB.quiet BlC.stays k0);have HE:=hid hE;have HK0:=hid k0;rw[hne];clear hB hE hn hne hh k0;go_enter Tryz.func77,Tryz.ntmps77;go_upto_region 1 with fail;generalize hbx:w.heap.size=bx at *;generalize w.alloc (.cells #[int i64 s,.slice ra R rp,.slice ba n bcp] 45)=W at *;clear hbx;have HC2:Box (∀ w',zc [] W w'→w'.cell? ⟨bx,2,none⟩=some (.slice ba n bcp)):=hid fun w' k=>za k c2;clear c2;go_wp2_with fail;generalize hv0:Value.slice none 0 0=v0;have H0:Box (LsY W W.heap.size v0 [] ((zz F).take 0)):=hid (by rw[← hv0];exact ⟨World.ownsRow_nil W _ _ _,fun i hi=>by simp at hi⟩);have HV0:=hid hv0;clear hv0
 go_loopw [3,4] (fun lv iv wr=>∃ (k:Nat) (v:Value) (vs:List Value),k≤n∧v=lv∧iv=int i64 (k:Int)∧Box (LsY wr W.heap.size v vs ((zz F).take k))∧Box (zc [] W wr)) (fun _ iv _=>n - (intOf iv).toNat)
 case atStart=>exact ⟨0,v0,[],by omega,rfl,rfl,H0,hid (zc.refl _ _)⟩
 case round=>
  clear H0;obtain ⟨k,v,vs,hk,rfl,rfl,HL,HK⟩:=hrel;have c2:=HC2.o _ HK.o;by_cases hlt:k<n
  ·have hlt':(k:Int)<(n:Int):=by omega
   have hlt2:k<F.blocks.length:=by rw[HNE.o];exact hlt
   obtain ⟨bb,bo,rfl,hbl⟩:=(HRW.o.quiet BlC.stays HK.o).at (j:=k) (y:=zr F k) (zh hlt2);have HTK:=hid (zhr hlt2);have hee:=HE.o k hlt2;have HLT:Box (((zz F).take k).length<1000):=hid (by rw[List.length_take,zZ,HNE.o];omega);rw[HNE.o] at HTK hee;obtain ⟨x,hx⟩:∃ x,zr F k=x:=⟨_,rfl⟩;rw[hx] at hbl hee HTK;clear hx hlt2;have q1:=hbl.c1.1;have q3:=hbl.c3.1;have q4:=hbl.c4.1;have Q:Box (∀ w',zc [] wr w'→w'.cell? ⟨bb,bo+k * 5+1,none⟩=some (int i64 x.fin)∧w'.cell? ⟨bb,bo+k * 5+3,none⟩=some (int i64 x.to)∧w'.cell? ⟨bb,bo+k * 5+4,none⟩=some (int i64 x.els)):=hid fun w' kk=>⟨za kk q1,za kk q3,za kk q4⟩;clear hbl;have HNIL:Box (wr.ownsRow wr.heap.size 3 1 v0 ([]:List Nat).length (QK [])):=hid (by rw[← HV0.o];exact World.ownsRow_nil wr _ _ _);have ct:Box (∀ (w':World) v,(w'.alloc (.cells #[v] 3)).cell? ⟨w'.heap.size,0,none⟩=some v):=hid fun w' v=>by rw[World.cell?_alloc_at _ _ _ _ rfl];rfl
   have cl:Box (∀ (w':World) v,(w'.alloc (.cells #[v] 37)).cell? ⟨w'.heap.size,0,none⟩=some v):=hid fun w' v=>by rw[World.cell?_alloc_at _ _ _ _ rfl];rfl
   have HSZ:Box (W.heap.size≤wr.heap.size):=hid HK.o.size
   have FIN:Box (∀ (wy:World) (u:Value) (l:List Nat),zc [] wr wy→wy.ownsRow wr.heap.size 3 1 u l.length (QK l)→wy.ownsRow W.heap.size 3 1 u l.length (QK l)∧LsY wy W.heap.size v vs ((zz F).take k)∧zc [] W wy):=hid fun wy u l ky hu=>⟨⟨hu.1,by
     rcases hu.2 with hn | ⟨b,cap,cur,h1,h2,h3⟩
     ·exact .inl hn
     ·exact .inr ⟨b,cap,cur,h1,Nat.le_trans HSZ.o h2,h3⟩⟩,HL.o.quiet ky,HK.o.quiet ky⟩
   by_cases f1:x.fin=1
   ·have HTG:Box (tgB n x=[] ++ [x.to.toNat]):=hid (by unfold tgB;simp[f1,hee.1 (.inl f1)])
    have ht:=hid (show x.to=(x.to.toNat:Int) by have:=zq.1 (hee.1 (.inl f1));omega);rw[f1] at q1 Q;clear f1 hee;go_upto_region 7 with fail;go_upto_region 8 with (at_builtin;go_must (refine qH wr _ rfl _ _ rfl [] x.to.toNat v0 rfl (HNIL.o.alloc _) (zc.alloc [] _ _) x.to ht.o _ _ rfl (ct.o _ _) (by simp) ?_;intro v1 w4 ho4 hk4))
    have HO4:=hid ho4;have HK4:=hid hk4;obtain ⟨p1,p3,p4⟩:=Q.o _ hk4;have p2:=za hk4 c2;clear ho4 hk4 q1 q3 q4 c2;go_quiet (fail);obtain ⟨y1,y2,y3⟩:=FIN.o (w4.drewN nq) v1 _ (HK4.o.quiet (zc.drewN [] _ _)) (zB HO4.o (zc.drewN [] _ _) (fun _ _=>by simp));have Y1:=hid y1;have Y2:=hid y2;have Y3:=hid y3;clear y1 y2 y3 HO4 HK4 p1 p2 p3 p4 FIN HNIL;generalize w4.drewN nq=wz at *;obtain ⟨ax,cx,hvx, -⟩:=Ql Y1.o;subst hvx;go_wp2_with (at_builtin;go_must (refine Qr W wz _ rfl _ _ rfl rfl Y2.o (zc.alloc [] _ _) Y3.o Y1.o _ _ rfl (cl.o _ _) HLT.o ?_;intro v6 w6 h6 k6));go_roundw
    case rel=>exact ⟨k+1,v6,_,by omega,rfl,by go_num,hid (by rw[HTK.o,HTG.o];exact h6),hid k6⟩
    case measure=>simp[intOf];omega
   by_cases f2:x.fin=2
   ·by_cases e1:x.els=x.to
    ·have HTG:Box (tgB n x=[] ++ [x.to.toNat]):=hid (by unfold tgB;simp[f2,e1,hee.1 (.inr f2)])
     have ht:=hid (show x.to=(x.to.toNat:Int) by have:=zq.1 (hee.1 (.inr f2));omega);have o1:=(show (x.fin == 1)=false by simpa using f1);have o3:(x.els != x.to)=false:=by simpa using e1
     rw[f2] at q1 Q o1;clear f1 f2 hee e1;go_upto_region 7 with fail;go_upto_region 8 with (at_builtin;go_must (refine qH wr _ rfl _ _ rfl [] x.to.toNat v0 rfl (HNIL.o.alloc _) (zc.alloc [] _ _) x.to ht.o _ _ rfl (ct.o _ _) (by simp) ?_;intro v1 w4 ho4 hk4))
     have HO4:=hid ho4;have HK4:=hid hk4;obtain ⟨p1,p3,p4⟩:=Q.o _ hk4;have p2:=za hk4 c2;clear ho4 hk4 q1 q3 q4 c2;go_quiet (fail);obtain ⟨y1,y2,y3⟩:=FIN.o (w4.drewN nq) v1 _ (HK4.o.quiet (zc.drewN [] _ _)) (zB HO4.o (zc.drewN [] _ _) (fun _ _=>by simp));have Y1:=hid y1;have Y2:=hid y2;have Y3:=hid y3;clear y1 y2 y3 HO4 HK4 p1 p2 p3 p4 FIN HNIL;generalize w4.drewN nq=wz at *;obtain ⟨ax,cx,hvx, -⟩:=Ql Y1.o;subst hvx;go_wp2_with (at_builtin;go_must (refine Qr W wz _ rfl _ _ rfl rfl Y2.o (zc.alloc [] _ _) Y3.o Y1.o _ _ rfl (cl.o _ _) HLT.o ?_;intro v6 w6 h6 k6));go_roundw
     case rel=>exact ⟨k+1,v6,_,by omega,rfl,by go_num,hid (by rw[HTK.o,HTG.o];exact h6),hid k6⟩
     case measure=>simp[intOf];omega
    ·have HTG:Box (tgB n x=([] ++ [x.to.toNat]) ++ [x.els.toNat]):=hid (by unfold tgB;simp[f2,e1,hee.1 (.inr f2),hee.2 f2])
     have ht:=hid (show x.to=(x.to.toNat:Int) by have:=zq.1 (hee.1 (.inr f2));omega);have hu:=hid (show x.els=(x.els.toNat:Int) by have:=zq.1 (hee.2 f2);omega);have o1:=(show (x.fin == 1)=false by simpa using f1);have o3:(x.els != x.to)=true:=by simpa using e1
     rw[f2] at q1 Q o1;clear f1 f2 hee e1;go_upto_region 7 with fail;go_upto_region 8 with (at_builtin;go_must (refine qH wr _ rfl _ _ rfl [] x.to.toNat v0 rfl (HNIL.o.alloc _) (zc.alloc [] _ _) x.to ht.o _ _ rfl (ct.o _ _) (by simp) ?_;intro v1 w4 ho4 hk4))
     have HO4:=hid ho4;have HK4:=hid hk4;obtain ⟨p1,p3,p4⟩:=Q.o _ hk4;have p2:=za hk4 c2;clear ho4 hk4 q1 q3 q4 c2;go_quiet (fail);have HO5:=hid (zB HO4.o (zc.drewN [] w4 nq) (fun _ _=>by simp));have HK5:=hid (HK4.o.quiet (zc.drewN [] w4 nq));have e1':(w4.drewN nq).cell? ⟨bb,bo+k * 5+4,none⟩=some (int i64 x.els):=p4;have e2':(w4.drewN nq).cell? ⟨bx,2,none⟩=some (.slice (some ⟨bb,bo,none⟩) n bcp):=p2;clear HO4 HK4 p1 p2 p3 p4 HNIL;generalize w4.drewN nq=wz at *;go_upto_region 10 with (at_builtin;go_must (refine qH wr _ rfl _ _ rfl ([] ++ [x.to.toNat]) x.els.toNat v1 rfl (HO5.o.alloc _) (HK5.o.quiet (zc.alloc [] _ _)) x.els hu.o _ _ rfl (ct.o _ _) (by simp) ?_;intro v2 w5 ho5 hk5))
     obtain ⟨y1,y2,y3⟩:=FIN.o w5 v2 _ hk5 ho5;have Y1:=hid y1;have Y2:=hid y2;have Y3:=hid y3;clear y1 y2 y3 HO5 HK5 ho5 hk5 e1' e2' FIN;obtain ⟨ax,cx,hvx, -⟩:=Ql Y1.o;subst hvx;go_wp2_with (at_builtin;go_must (refine Qr W w5 _ rfl _ _ rfl rfl Y2.o (zc.alloc [] _ _) Y3.o Y1.o _ _ rfl (cl.o _ _) HLT.o ?_;intro v6 w6 h6 k6));go_roundw
     case rel=>exact ⟨k+1,v6,_,by omega,rfl,by go_num,hid (by rw[HTK.o,HTG.o];exact h6),hid k6⟩
     case measure=>simp[intOf];omega
   have HTG:Box (tgB n x=[]):=hid (by unfold tgB;simp[f1,f2]);have o1:=(show (x.fin == 1)=false by simpa using f1);have o2:=(show (x.fin == 2)=false by simpa using f2);clear f1 f2 hee;go_upto_region 8 with fail;go_quiet (fail);obtain ⟨y1,y2,y3⟩:=FIN.o (wr.drewN nq) v0 [] (zc.drewN [] _ _) (zB HNIL.o (zc.drewN [] _ _) (fun _ _=>by simp));have Y1:=hid y1;have Y2:=hid y2;have Y3:=hid y3;clear y1 y2 y3 q1 q3 q4 c2 FIN HNIL;generalize wr.drewN nq=wz at *;have hv0:=HV0.o;clear HV0;subst hv0;go_wp2_with (at_builtin;go_must (refine Qr W wz _ rfl _ _ rfl rfl Y2.o (zc.alloc [] _ _) Y3.o Y1.o _ _ rfl (cl.o _ _) HLT.o ?_;intro v6 w6 h6 k6));go_roundw
   case rel=>exact ⟨k+1,v6,_,by omega,rfl,by go_num,hid (by rw[HTK.o,HTG.o];exact h6),hid k6⟩
   case measure=>simp[intOf];omega
  ·obtain rfl:k=n:=by omega
   have hall:(zz F).take k=zz F:=List.take_of_length_le (by rw[zZ,HNE.o];exact Nat.le_refl _);rw[hall] at HL;obtain ⟨a,cp,hve,hgr⟩:=HL.o.graph;rw[zZ,HNE.o] at hve;have HG:=hid hgr;clear hgr hall HL;subst hve;go_wp2_with fail;go_ret;exact ⟨a,cp,rfl,HG.o,HK0.o.quiet HK.o⟩
def tyE(s t:Int × Int):Bool:=s.1 == t.1 && s.2 == t.2
theorem Q3(a b c d:Int)(w:World):(binOp .eql 34 (agg #[int i64 a,int i64 b]) (agg #[int i64 c,int i64 d])).run Tryz.prog w=.ok (.bool (tyE (a,b) (c,d))) w:=by
 go_simp
 unfold tyE;by_cases h:a=c <;> by_cases h':b=d <;> simp[h,h']
theorem zhR(a b c d:Int)(w:World):(binOp .neq 34 (agg #[int i64 a,int i64 b]) (agg #[int i64 c,int i64 d])).run Tryz.prog w=.ok (.bool (!tyE (a,b) (c,d))) w:=by
 go_simp
 unfold tyE;by_cases h:a=c <;> by_cases h':b=d <;> simp[h,h']
def JY(P:Pr8)(f:Fu8):Bool:=match Jh P f.sig with
 | none=>false
 | some s=>decide (s.1.length≤f.regs.length) && (List.range s.1.length).all fun k=>tyE (f.regs.getD k (0,0)) (s.1.getD k (0,0))
theorem zmD{fb fo:Nat}{f:Fu8}(h:PrC w pb po P)(hf:FuC w fb fo f):Calls Tryz.prog 51 #[pointer (some ⟨pb,po,none⟩),pointer (some ⟨fb,fo,none⟩)] w fun e w'=>e=.returned (.bool (JY P f))∧zc [] w w':=by
 have HSG:=hid (zad h (zc.refl [] w) f.sig);obtain ⟨ra,rp,c1,rr,_,hrl⟩:=hf.c1;have c0:=hf.c0.1;have HRR:=hid rr;have C1:Box (∀ w',zc [] w w'→w'.cell? ⟨fb,fo+1,none⟩=some (.slice ra f.regs.length rp)):=hid fun w' k=>za k c1
 have HE:Box (JY P f=match Jh P f.sig with
  | none=>false
  | some s=>decide (s.1.length≤f.regs.length) && (List.range s.1.length).all fun k=>tyE (f.regs.getD k (0,0)) (s.1.getD k (0,0))):=hid rfl
 obtain ⟨R,hR⟩:∃ R,R=f.regs.length:=⟨_,rfl⟩;have HRN:=hid hR;rw[← hR] at C1;clear h hf rr c1 hrl hR;generalize Jh P f.sig=O at *;go_enter Tryz.func51,Tryz.ntmps51;go_wp2_with fail;refine HSG.o.mono ?_;intro e w1 h1;obtain ⟨k1,sa,sp,n,t1,t2,rfl,hs⟩:=h1.open;have hb:=zf w1 (.cells #[.slice sa n sp,int i64 t1,int i64 t2] 36);have K1:=hid (k1.quiet (zc.alloc [] w1 (.cells #[.slice sa n sp,int i64 t1,int i64 t2] 36)));have HB:=hid hb;have HS:=hid hs;clear h1 k1 hb hs c0;go_upto_region 2 with fail;generalize w1.alloc (.cells #[.slice sa n sp,int i64 t1,int i64 t2] 36)=w2 at *;generalize w1.heap.size=q at *;have c1:=C1.o _ K1.o;have s0:=zd HB.o 0;cases O with
 | none=>
  have HF:Box (JY P f=false):=hid HE.o;clear HE HS;go_quiet (fail);go_wp2_with fail;go_ret;exact ⟨by rw[HF.o];rfl,K1.o.quiet (zc.drewN _ _ _)⟩
 | some s=>
  obtain ⟨e1,_,_,hrs,hm⟩:=HS.o s rfl;have HSL:=hid e1;have HSR:=hid hrs;have hn9:(n:Int)≤9223372036854775807:=by unfold maxLen at hm;omega
  have HF:Box (JY P f=(decide (n≤R) && (List.range n).all fun k=>tyE (f.regs.getD k (0,0)) (s.1.getD k (0,0)))):=hid (by rw[HE.o,HSL.o,HRN.o]);clear HE HS e1 hrs hm;by_cases hle:n≤R
  case neg=>
   have hle':(R:Int)<(n:Int):=by omega
   have HG:Box (JY P f=false):=hid (by rw[HF.o];simp[hle]);clear hle HF;go_quiet (fail);go_wp2_with fail;go_ret;exact ⟨by rw[HG.o];rfl,K1.o.quiet (zc.drewN _ _ _)⟩
  have hle':¬ (R:Int)<(n:Int):=by omega
  have HG:Box (JY P f=(List.range n).all fun k=>tyE (f.regs.getD k (0,0)) (s.1.getD k (0,0))):=hid (by rw[HF.o];simp[hle]);clear HF;go_quiet (fail);go_upto_region 4 with fail;generalize hwd:w2.drewN nq=wd at *;have KD:zc [] w2 wd:=by rw[← hwd];exact zc.drewN _ _ _
  have K2:=hid (K1.o.quiet KD);have HBD:=hid (ze HB.o KD);have s0:=zd HBD.o 0;clear hwd KD c1;go_wp2_with fail;clear s0
  go_loopw [34] (fun kv wr=>∃ k:Nat,k≤n∧kv=int i64 (k:Int)∧Box (zc [] w wr)∧Box (∀ j,j<k→tyE (f.regs.getD j (0,0)) (s.1.getD j (0,0))=true)) (fun kv _=>n - (intOf kv).toNat)
  case atStart=>exact ⟨0,by omega,rfl,K2,hid fun j hj=>by omega⟩
  case round=>
   obtain ⟨k,hk,rfl,HK,HA⟩:=hrel;by_cases hlt:k<n
   ·have hlt':(k:Int)<(n:Int):=by omega
    have hkr:(k:Int)<(R:Int):=by omega
    obtain ⟨b,off,rfl,hc⟩:=HSR.o.at (zh (l:=s.1) (k:=k) (d:=(0,0)) (by rw[← HSL.o];exact hlt));obtain ⟨b',off',rfl,hc'⟩:=HRR.o.at (zh (l:=f.regs) (k:=k) (d:=(0,0)) (by rw[← HRN.o];omega));have d0:=za HK.o hc.c0.1;have d1:=za HK.o hc.c1.1;have KA:=hid (HK.o.quiet (zc.alloc [] wr (.cells #[int i64 (s.1.getD k (0,0)).1,int i64 (s.1.getD k (0,0)).2] 34)));have hn:=zf wr (.cells #[int i64 (s.1.getD k (0,0)).1,int i64 (s.1.getD k (0,0)).2] 34);have g0:=za KA.o hc'.c0.1;have g1:=za KA.o hc'.c1.1;have c1:=C1.o _ KA.o;have REL:Box (tyE (f.regs.getD k (0,0)) (s.1.getD k (0,0))=true→∀ j,j<k+1→tyE (f.regs.getD j (0,0)) (s.1.getD j (0,0))=true):=hid fun hg j hj=>by
     by_cases e:j<k
     ·exact HA.o j e
     ·obtain rfl:j=k:=by omega
      exact hg
    have BAD:Box (tyE (f.regs.getD k (0,0)) (s.1.getD k (0,0))=false→JY P f=false):=hid fun hg=>by
     rw[HG.o,List.all_eq_false];exact ⟨k,List.mem_range.2 hlt,by rw[hg];simp⟩
    have HNW:=hid hn;clear hc hc' hn;generalize s.1.getD k (0,0)=T at *;generalize f.regs.getD k (0,0)=U at *;go_upto_region 7 with fail;generalize wr.alloc (.cells #[int i64 T.1,int i64 T.2] 34)=w5 at *;generalize wr.heap.size=q5 at *;have f0:=zd HNW.o 0;have f1:=zd HNW.o 1;have rn:=fun w'=>zhR U.1 U.2 T.1 T.2 w';clear d0 d1;cases hg:tyE U T with
    | true=>
     have hg':tyE (U.1,U.2) (T.1,T.2)=true:=hg;rw[hg'] at rn;have HR2:=hid (REL.o hg);clear hg hg';go_quiet (fail);go_wp2_with fail;go_roundw
     case rel=>exact ⟨k+1,by omega,by go_num,hid (KA.o.quiet (zc.drewN _ _ _)),HR2⟩
     case measure=>simp[intOf];omega
    | false=>
     have hg':tyE (U.1,U.2) (T.1,T.2)=false:=hg;rw[hg'] at rn;have HF:=hid (BAD.o hg);clear hg hg';go_quiet (fail);go_wp2_with fail;go_ret;exact ⟨by rw[HF.o];rfl,KA.o.quiet (zc.drewN _ _ _)⟩
   ·obtain rfl:n=k:=by omega
    have HF:Box (JY P f=true):=hid (by rw[HG.o,List.all_eq_true];exact fun j hj=>HA.o j (List.mem_range.1 hj));go_wp2_with fail;go_ret;exact ⟨by rw[HF.o];rfl,HK.o⟩
structure zpa (w:World) (n:Nat) (r:Int):Prop where
 h0:w.heap[n]? = some (.cells #[.slice none 0 0,int i64 0,int i64 0] 36 (0,0))
 h1:w.heap[n+1]? = some (.cells #[int i64 0,int i64 0] 34 (0,0))
 h2:w.heap[n+2]? = some (.cells #[int i64 1,int i64 0,int i64 0,int i64 0,int i64 7,.slice none 0 0] 39 (0,0))
 h3:w.heap[n+3]? = some (.cells #[.slice (some ⟨n+2,0,none⟩) 1 1,int i64 3,int i64 r,int i64 0,int i64 0] 42 (0,0))
 h4:w.heap[n+4]? = some (.cells #[int i64 0,.slice (some ⟨n+1,0,none⟩) 1 1,.slice (some ⟨n+3,0,none⟩) 1 1] 45 (0,0))
 h5:w.heap[n+5]? = some (.cells #[.slice none 0 0,.slice (some ⟨n,0,none⟩) 1 1,.slice none 0 0,.slice none 0 0,.slice (some ⟨n+4,0,none⟩) 1 1,int i64 0] 32 (0,0))
def in1:In8:=⟨1,0,0,0,7,[]⟩
def bl1(r:Int):Bl8:=⟨[in1],3,r,0,0⟩
def fu1(r:Int):Fu8:=⟨0,[(0,0)],[bl1 r]⟩
theorem zy.one{α:Type}{c:Nat}{R:World→Nat→Nat→α→Prop}{x:α}(h:R w b 0 x):zy w c R (some ⟨b,0,none⟩) [x]:=
 .inr ⟨b,0,rfl,fun j y hy=>by
  cases j with
  | zero=>simp at hy;subst hy;simpa using h
  | succ j=>simp at hy⟩
theorem SlC.one{α:Type}{c:Nat}{R:World→Nat→Nat→α→Prop}{o b':Nat}{x:α}(hc:w.cell? ⟨b,o,none⟩=some (.slice (some ⟨b',0,none⟩) 1 1))(h:R w b' 0 x):SlC c R w b o [x]:=
 ⟨_,1,hc,zy.one h,Nat.le_refl _,by unfold maxLen;simp⟩
theorem zap{o:Obj}(h:w.heap.size=n):(w.alloc o).heap[n]? = some o:=by subst h;exact zf w o
theorem znj(w:World):Calls Tryz.prog 9 #[] w fun e w'=>e=.returned (pointer (some ⟨w.heap.size+5,0,none⟩))∧zpa w' w.heap.size 0∧zc [] w w':=by
 obtain ⟨n,hn⟩:∃ n,n=w.heap.size:=⟨_,rfl⟩;rw[← hn];obtain ⟨w1,e1⟩:∃ w1,w1=w.alloc (.cells #[.slice none 0 0,int i64 0,int i64 0] 36):=⟨_,rfl⟩;obtain ⟨w2,e2⟩:∃ w2,w2=w1.alloc (.cells #[int i64 0,int i64 0] 34):=⟨_,rfl⟩;obtain ⟨w3,e3⟩:∃ w3,w3=w2.alloc (.cells #[int i64 1,int i64 0,int i64 0,int i64 0,int i64 7,.slice none 0 0] 39):=⟨_,rfl⟩;obtain ⟨w4,e4⟩:∃ w4,w4=w3.alloc (.cells #[.slice (some ⟨n+2,0,none⟩) 1 1,int i64 3,int i64 0,int i64 0,int i64 0] 42):=⟨_,rfl⟩;obtain ⟨w5,e5⟩:∃ w5,w5=w4.alloc (.cells #[int i64 0,.slice (some ⟨n+1,0,none⟩) 1 1,.slice (some ⟨n+3,0,none⟩) 1 1] 45):=⟨_,rfl⟩;obtain ⟨w6,e6⟩:∃ w6,w6=w5.alloc (.cells #[.slice none 0 0,.slice (some ⟨n,0,none⟩) 1 1,.slice none 0 0,.slice none 0 0,.slice (some ⟨n+4,0,none⟩) 1 1,int i64 0] 32):=⟨_,rfl⟩;have s1:w1.heap.size=n+1:=by rw[e1,World.size_alloc,hn]
 have s2:w2.heap.size=n+2:=by rw[e2,World.size_alloc,s1]
 have s3:w3.heap.size=n+3:=by rw[e3,World.size_alloc,s2]
 have s4:w4.heap.size=n+4:=by rw[e4,World.size_alloc,s3]
 have s5:w5.heap.size=n+5:=by rw[e5,World.size_alloc,s4]
 have k1:zc [] w w1:=by rw[e1];exact zc.alloc _ _ _
 have k2:zc [] w1 w2:=by rw[e2];exact zc.alloc _ _ _
 have k3:zc [] w2 w3:=by rw[e3];exact zc.alloc _ _ _
 have k4:zc [] w3 w4:=by rw[e4];exact zc.alloc _ _ _
 have k5:zc [] w4 w5:=by rw[e5];exact zc.alloc _ _ _
 have k6:zc [] w5 w6:=by rw[e6];exact zc.alloc _ _ _
 have H:Box (zpa w6 n 0∧zc [] w w6):=hid ⟨⟨
  ze (by rw[e1];exact zap hn.symm) ((((k2.quiet k3).quiet k4).quiet k5).quiet k6),
  ze (by rw[e2];exact zap s1) (((k3.quiet k4).quiet k5).quiet k6),
  ze (by rw[e3];exact zap s2) ((k4.quiet k5).quiet k6),
  ze (w:=w4) (by rw[e4];exact zap s3) (k5.quiet k6),
  ze (w:=w5) (by rw[e5];exact zap s4) k6,
  by rw[e6];exact zap s5⟩,((((k1.quiet k2).quiet k3).quiet k4).quiet k5).quiet k6⟩
 have HW:=hid e6;subst e5 e4 e3 e2 e1;clear s1 s2 s3 s4 s5 k1 k2 k3 k4 k5 k6 e6;subst hn;rw[HW.o] at H;clear HW;go_enter Tryz.func9,Tryz.ntmps9;go_wp2_with fail;go_ret;exact ⟨rfl,H.o⟩
end Go.Proofs.YtkgoimokgbdgfaaGreatDoor
