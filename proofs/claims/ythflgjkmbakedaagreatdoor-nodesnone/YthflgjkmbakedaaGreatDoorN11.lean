import Derived.Test.YthflgjkmbakedaaGreatDoorN10

namespace Go.Proofs.YthflgjkmbakedaaGreatDoor
open Go.RowKit
open Go.Value (int pointer agg)
open Go.IntKind (i64)
set_option maxRecDepth 20000
set_option maxHeartbeats 8000000
variable {P:Pr8}{c cap fb fo g i j n pb po:Nat}{f:Fu8}{fv:Value}{w:World}
theorem zjl(hf:FuC w fb fo f)(x:In8)(ar:Value)(hop:x.op=3):Calls Tryz.prog 241 #[pointer (some ⟨pb,po,none⟩),pointer (some ⟨fb,fo,none⟩),zt x ar] w fun e w'=>e=.returned (.bool ((zk f x.dst).1 == 0))∧za [] w w':=by
 have ka:=za.alloc [] w (.cells #[int i64 x.op,int i64 x.dst,int i64 x.a,int i64 x.b,int i64 x.n,ar] 54);have hn:=zd w (.cells #[int i64 x.op,int i64 x.dst,int i64 x.a,int i64 x.b,int i64 x.n,ar] 54);have HRT:=hid fun (r:Int) (w':World) (k:za [] w w')=>zn (FuC.stays _ _ _ _ _ k hf) r;have KA:=hid ka;have HN:=hid hn;clear hf ka hn;unfold zt;rw[hop] at KA HN ⊢;go_enter Tryz.func241,Tryz.ntmps241;go_upto_region 1 with fail;generalize w.alloc (.cells #[int i64 3,int i64 x.dst,int i64 x.a,int i64 x.b,int i64 x.n,ar] 54)=WA at *;generalize w.heap.size=q at *;have H1:=hid fun (w':World) (k:za [] WA w')=>HRT.o x.dst w' (KA.o.quiet k);have H2:=hid fun (w':World) (k:za [] WA w')=>HRT.o x.a w' (KA.o.quiet k);have H3:=hid fun (w':World) (k:za [] WA w')=>HRT.o x.b w' (KA.o.quiet k);generalize hT1:zk f x.dst=T1 at *;generalize hT2:zk f x.a=T2 at *;generalize hT3:zk f x.b=T3 at *;have HT1:=hid hT1;have HT2:=hid hT2;have HT3:=hid hT3;clear hT1 hT2 hT3;refine zT HN.o H1.o H2.o H3.o (fun _ _ _ _ _ h=>h) (fun w1 b7 b8 b9 hk t7 t8 t9=> ?_)
 all_goals
  have T7:Box (zY w1 b7 T1):=hid t7;have T8:Box (zY w1 b8 T2):=hid t8;have T9:Box (zY w1 b9 T3):=hid t9;have K1:=hid (KA.o.quiet hk);have h5:=ze HN.o hk;have i0:=zc h5 0;have HI5:=hid h5;clear t7 t8 t9 h5 H1 H2 H3 HN hk;have s0:=zc T7.o 0;have s1:=zc T7.o 1;have p0:=zc T8.o 0;have p1:=zc T8.o 1;have r0:=zc T9.o 0;have r1:=zc T9.o 1;go_wp2_with fail;go_ret;exact ⟨by simp only[HT1.o];rfl,K1.o⟩
theorem zjs(hf:FuC w fb fo f)(x:In8)(ar:Value)(hop:x.op=4):Calls Tryz.prog 241 #[pointer (some ⟨pb,po,none⟩),pointer (some ⟨fb,fo,none⟩),zt x ar] w fun e w'=>e=.returned (.bool ((zk f x.dst).1 != 0))∧za [] w w':=by
 have ka:=za.alloc [] w (.cells #[int i64 x.op,int i64 x.dst,int i64 x.a,int i64 x.b,int i64 x.n,ar] 54);have hn:=zd w (.cells #[int i64 x.op,int i64 x.dst,int i64 x.a,int i64 x.b,int i64 x.n,ar] 54);have HRT:=hid fun (r:Int) (w':World) (k:za [] w w')=>zn (FuC.stays _ _ _ _ _ k hf) r;have KA:=hid ka;have HN:=hid hn;clear hf ka hn;unfold zt;rw[hop] at KA HN ⊢;go_enter Tryz.func241,Tryz.ntmps241;go_upto_region 1 with fail;generalize w.alloc (.cells #[int i64 4,int i64 x.dst,int i64 x.a,int i64 x.b,int i64 x.n,ar] 54)=WA at *;generalize w.heap.size=q at *;have H1:=hid fun (w':World) (k:za [] WA w')=>HRT.o x.dst w' (KA.o.quiet k);have H2:=hid fun (w':World) (k:za [] WA w')=>HRT.o x.a w' (KA.o.quiet k);have H3:=hid fun (w':World) (k:za [] WA w')=>HRT.o x.b w' (KA.o.quiet k);generalize hT1:zk f x.dst=T1 at *;generalize hT2:zk f x.a=T2 at *;generalize hT3:zk f x.b=T3 at *;have HT1:=hid hT1;have HT2:=hid hT2;have HT3:=hid hT3;clear hT1 hT2 hT3;refine zT HN.o H1.o H2.o H3.o (fun _ _ _ _ _ h=>h) (fun w1 b7 b8 b9 hk t7 t8 t9=> ?_)
 all_goals
  have T7:Box (zY w1 b7 T1):=hid t7;have T8:Box (zY w1 b8 T2):=hid t8;have T9:Box (zY w1 b9 T3):=hid t9;have K1:=hid (KA.o.quiet hk);have h5:=ze HN.o hk;have i0:=zc h5 0;have HI5:=hid h5;clear t7 t8 t9 h5 H1 H2 H3 HN hk;have s0:=zc T7.o 0;have s1:=zc T7.o 1;have p0:=zc T8.o 0;have p1:=zc T8.o 1;have r0:=zc T9.o 0;have r1:=zc T9.o 1;go_wp2_with fail;go_ret;exact ⟨by simp only[HT1.o];rfl,K1.o⟩
theorem zj8(hf:FuC w fb fo f)(x:In8)(ar:Value)(hop:x.op=5):Calls Tryz.prog 241 #[pointer (some ⟨pb,po,none⟩),pointer (some ⟨fb,fo,none⟩),zt x ar] w fun e w'=>e=.returned (.bool ((zk f x.dst).1 == 1))∧za [] w w':=by
 have ka:=za.alloc [] w (.cells #[int i64 x.op,int i64 x.dst,int i64 x.a,int i64 x.b,int i64 x.n,ar] 54);have hn:=zd w (.cells #[int i64 x.op,int i64 x.dst,int i64 x.a,int i64 x.b,int i64 x.n,ar] 54);have HRT:=hid fun (r:Int) (w':World) (k:za [] w w')=>zn (FuC.stays _ _ _ _ _ k hf) r;have KA:=hid ka;have HN:=hid hn;clear hf ka hn;unfold zt;rw[hop] at KA HN ⊢;go_enter Tryz.func241,Tryz.ntmps241;go_upto_region 1 with fail;generalize w.alloc (.cells #[int i64 5,int i64 x.dst,int i64 x.a,int i64 x.b,int i64 x.n,ar] 54)=WA at *;generalize w.heap.size=q at *;have H1:=hid fun (w':World) (k:za [] WA w')=>HRT.o x.dst w' (KA.o.quiet k);have H2:=hid fun (w':World) (k:za [] WA w')=>HRT.o x.a w' (KA.o.quiet k);have H3:=hid fun (w':World) (k:za [] WA w')=>HRT.o x.b w' (KA.o.quiet k);generalize hT1:zk f x.dst=T1 at *;generalize hT2:zk f x.a=T2 at *;generalize hT3:zk f x.b=T3 at *;have HT1:=hid hT1;have HT2:=hid hT2;have HT3:=hid hT3;clear hT1 hT2 hT3;refine zT HN.o H1.o H2.o H3.o (fun _ _ _ _ _ h=>h) (fun w1 b7 b8 b9 hk t7 t8 t9=> ?_)
 all_goals
  have T7:Box (zY w1 b7 T1):=hid t7;have T8:Box (zY w1 b8 T2):=hid t8;have T9:Box (zY w1 b9 T3):=hid t9;have K1:=hid (KA.o.quiet hk);have h5:=ze HN.o hk;have i0:=zc h5 0;have HI5:=hid h5;clear t7 t8 t9 h5 H1 H2 H3 HN hk;have s0:=zc T7.o 0;have s1:=zc T7.o 1;have p0:=zc T8.o 0;have p1:=zc T8.o 1;have r0:=zc T9.o 0;have r1:=zc T9.o 1;go_wp2_with fail;go_ret;exact ⟨by simp only[HT1.o];rfl,K1.o⟩
theorem zjO(hf:FuC w fb fo f)(x:In8)(ar:Value)(hop:x.op=9):Calls Tryz.prog 241 #[pointer (some ⟨pb,po,none⟩),pointer (some ⟨fb,fo,none⟩),zt x ar] w fun e w'=>e=.returned (.bool ((zk f x.a).1 == 1))∧za [] w w':=by
 have ka:=za.alloc [] w (.cells #[int i64 x.op,int i64 x.dst,int i64 x.a,int i64 x.b,int i64 x.n,ar] 54);have hn:=zd w (.cells #[int i64 x.op,int i64 x.dst,int i64 x.a,int i64 x.b,int i64 x.n,ar] 54);have HRT:=hid fun (r:Int) (w':World) (k:za [] w w')=>zn (FuC.stays _ _ _ _ _ k hf) r;have KA:=hid ka;have HN:=hid hn;clear hf ka hn;unfold zt;rw[hop] at KA HN ⊢;go_enter Tryz.func241,Tryz.ntmps241;go_upto_region 1 with fail;generalize w.alloc (.cells #[int i64 9,int i64 x.dst,int i64 x.a,int i64 x.b,int i64 x.n,ar] 54)=WA at *;generalize w.heap.size=q at *;have H1:=hid fun (w':World) (k:za [] WA w')=>HRT.o x.dst w' (KA.o.quiet k);have H2:=hid fun (w':World) (k:za [] WA w')=>HRT.o x.a w' (KA.o.quiet k);have H3:=hid fun (w':World) (k:za [] WA w')=>HRT.o x.b w' (KA.o.quiet k);generalize hT1:zk f x.dst=T1 at *;generalize hT2:zk f x.a=T2 at *;generalize hT3:zk f x.b=T3 at *;have HT1:=hid hT1;have HT2:=hid hT2;have HT3:=hid hT3;clear hT1 hT2 hT3;refine zT HN.o H1.o H2.o H3.o (fun _ _ _ _ _ h=>h) (fun w1 b7 b8 b9 hk t7 t8 t9=> ?_)
 all_goals
  have T7:Box (zY w1 b7 T1):=hid t7;have T8:Box (zY w1 b8 T2):=hid t8;have T9:Box (zY w1 b9 T3):=hid t9;have K1:=hid (KA.o.quiet hk);have h5:=ze HN.o hk;have i0:=zc h5 0;have HI5:=hid h5;clear t7 t8 t9 h5 H1 H2 H3 HN hk;have s0:=zc T7.o 0;have s1:=zc T7.o 1;have p0:=zc T8.o 0;have p1:=zc T8.o 1;have r0:=zc T9.o 0;have r1:=zc T9.o 1;go_wp2_with fail;go_ret;exact ⟨by simp only[HT2.o];rfl,K1.o⟩
theorem zih(hf:FuC w fb fo f)(x:In8)(ar:Value)(hop:x.op=15):Calls Tryz.prog 241 #[pointer (some ⟨pb,po,none⟩),pointer (some ⟨fb,fo,none⟩),zt x ar] w fun e w'=>e=.returned (.bool ((zk f x.a).1 == 0))∧za [] w w':=by
 have ka:=za.alloc [] w (.cells #[int i64 x.op,int i64 x.dst,int i64 x.a,int i64 x.b,int i64 x.n,ar] 54);have hn:=zd w (.cells #[int i64 x.op,int i64 x.dst,int i64 x.a,int i64 x.b,int i64 x.n,ar] 54);have HRT:=hid fun (r:Int) (w':World) (k:za [] w w')=>zn (FuC.stays _ _ _ _ _ k hf) r;have KA:=hid ka;have HN:=hid hn;clear hf ka hn;unfold zt;rw[hop] at KA HN ⊢;go_enter Tryz.func241,Tryz.ntmps241;go_upto_region 1 with fail;generalize w.alloc (.cells #[int i64 15,int i64 x.dst,int i64 x.a,int i64 x.b,int i64 x.n,ar] 54)=WA at *;generalize w.heap.size=q at *;have H1:=hid fun (w':World) (k:za [] WA w')=>HRT.o x.dst w' (KA.o.quiet k);have H2:=hid fun (w':World) (k:za [] WA w')=>HRT.o x.a w' (KA.o.quiet k);have H3:=hid fun (w':World) (k:za [] WA w')=>HRT.o x.b w' (KA.o.quiet k);generalize hT1:zk f x.dst=T1 at *;generalize hT2:zk f x.a=T2 at *;generalize hT3:zk f x.b=T3 at *;have HT1:=hid hT1;have HT2:=hid hT2;have HT3:=hid hT3;clear hT1 hT2 hT3;refine zT HN.o H1.o H2.o H3.o (fun _ _ _ _ _ h=>h) (fun w1 b7 b8 b9 hk t7 t8 t9=> ?_)
 all_goals
  have T7:Box (zY w1 b7 T1):=hid t7;have T8:Box (zY w1 b8 T2):=hid t8;have T9:Box (zY w1 b9 T3):=hid t9;have K1:=hid (KA.o.quiet hk);have h5:=ze HN.o hk;have i0:=zc h5 0;have HI5:=hid h5;clear t7 t8 t9 h5 H1 H2 H3 HN hk;have s0:=zc T7.o 0;have s1:=zc T7.o 1;have p0:=zc T8.o 0;have p1:=zc T8.o 1;have r0:=zc T9.o 0;have r1:=zc T9.o 1;go_wp2_with fail;go_ret;exact ⟨by simp only[HT2.o];rfl,K1.o⟩
theorem jZ{α:Type}{f:α→List Value}{c:Nat}:∀ {l:List α},(∀ x,x∈l→(f x).length=c)→(l.flatMap f).length=l.length * c
 | [],_=>by simp
 | x :: l,h=>by
  rw[List.flatMap_cons,List.length_append,h x List.mem_cons_self,jZ (l:=l) (fun y hy=>h y (List.mem_cons_of_mem _ hy)),List.length_cons,Nat.succ_mul,Nat.add_comm]
theorem Q6{α:Type}{f:α→List Value}{c:Nat}:∀ {l:List α},(∀ x,x∈l→(f x).length=c)→∀ {j i:Nat}{x:α},l[j]? = some x→i<c→(l.flatMap f)[j * c+i]? = (f x)[i]?
 | [],_,j,i,x,hj,_=>by simp at hj
 | y :: l,h,0,i,x,hj,hi=>by
  simp at hj;subst hj;rw[List.flatMap_cons,Nat.zero_mul,Nat.zero_add,List.getElem?_append_left (by rw[h y List.mem_cons_self];exact hi)]
 | y :: l,h,j+1,i,x,hj,hi=>by
  rw[List.flatMap_cons,List.getElem?_append_right (by rw[h y List.mem_cons_self,Nat.succ_mul];omega),h y List.mem_cons_self,show (j+1) * c+i - c=j * c+i by rw[Nat.succ_mul];omega];exact Q6 (l:=l) (fun z hz=>h z (List.mem_cons_of_mem _ hz)) (by simpa using hj) hi
theorem QC{α:Type}{f:α→List Value}{c:Nat}:∀ {l:List α},(∀ x,x∈l→(f x).length=c)→∀ {j i:Nat}{x y:α}{v:Value},l[j]? = some x→i<c→f y=(f x).set i v→(l.set j y).flatMap f=(l.flatMap f).set (j * c+i) v
 | [],_,j,i,x,y,v,hj,_,_=>by simp at hj
 | z :: l,h,0,i,x,y,v,hj,hi,e=>by
  simp at hj;subst hj;rw[List.set_cons_zero,List.flatMap_cons,List.flatMap_cons,e,Nat.zero_mul,Nat.zero_add,List.set_append_left _ _ (by rw[h z List.mem_cons_self];exact hi)]
 | z :: l,h,j+1,i,x,y,v,hj,hi,e=>by
  rw[List.set_cons_succ,List.flatMap_cons,List.flatMap_cons,QC (l:=l) (fun q hq=>h q (List.mem_cons_of_mem _ hq)) (by simpa using hj) hi e,List.set_append_right _ _ (by rw[h z List.mem_cons_self,Nat.succ_mul];omega),h z List.mem_cons_self,show (j+1) * c+i - c=j * c+i by rw[Nat.succ_mul];omega]
def rgC(r:Rg):List Value:=[int i64 r.1.1,int i64 r.1.2.1,.bool r.1.2.2,.bool r.2]
def frC(x:Fr):List Value:=int i64 x.f :: int i64 x.b :: int i64 x.i :: x.rs.flatMap rgC
theorem zh2(l:List Rg):(l.flatMap rgC).length=l.length * 4:=jZ fun _ _=>rfl
theorem ZT{x:Fr}(h:x.rs.length=16):(frC x).length=67:=by
 unfold frC;simp only[List.length_cons];rw[zh2,h]
theorem zh5{x:Fr}{r:Nat}{y:Rg}(hr:x.rs[r]? = some y)(hi:i<4):(frC x)[3+r * 4+i]? = (rgC y)[i]? := by
 unfold frC;rw[show 3+r * 4+i=(r * 4+i)+1+1+1 by omega,List.getElem?_cons_succ,List.getElem?_cons_succ,List.getElem?_cons_succ];exact Q6 (f:=rgC) (c:=4) (fun _ _=>rfl) hr hi
structure zV (w:World) (fv:Value) (l:List Fr):Prop where
 own:w.ownsRow 0 114 67 fv l.length (l.flatMap frC)
 sz:∀ x,x∈l→x.rs.length=16
theorem zV.kept{w':World}{l:List Fr}{L:List Nat}(h:zV w fv l)(k:za L w w')(hL:∀ b,fv.ownBlock=some b→b ∉ L):zV w' fv l:=⟨zh h.own k hL,h.sz⟩
theorem zV.quiet{w':World}{l:List Fr}(h:zV w fv l)(k:za [] w w'):zV w' fv l:=h.kept k fun _ _=>by simp
theorem zV.form{l:List Fr}(h:zV w fv l)(hl:l≠[]):∃ g cap,fv=.slice (some ⟨g,0,none⟩) l.length cap∧l.length≤cap∧g<w.heap.size:=by
 rcases h.own.2 with ⟨_,h0⟩ | ⟨g,cap,cur,hv,_,hg,hn,_⟩
 ·exact absurd (List.eq_nil_of_length_eq_zero h0) hl
 ·exact ⟨g,cap,hv,hn,zx hg⟩
theorem zV.len{l:List Fr}(h:zV w (.slice (some ⟨g,0,none⟩) n cap) l):n=l.length:=by
 rcases h.own.2 with ⟨h',_⟩ | ⟨g',cap',cur,h',_⟩
 ·simp at h'
 ·simp only[Value.slice.injEq] at h'
  exact h'.2.1
theorem zV.cell{l:List Fr}(h:zV w (.slice (some ⟨g,0,none⟩) n cap) l){x:Fr}(hj:l[j]? = some x){v:Value}(hi:(frC x)[i]? = some v):w.cell? ⟨g,j * 67+i,none⟩=some v:=by
 obtain rfl:=h.len;have hx:=ZT (h.sz x (List.mem_of_getElem? hj));have hi':i<67:=by rw[← hx];exact (List.getElem?_eq_some_iff.1 hi).1
 have hjl:=(List.getElem?_eq_some_iff.1 hj).1;rw[h.own.cellAt _ (by omega),Q6 (fun y hy=>ZT (h.sz y hy)) hj hi',hi]
theorem zV.thaw{l:List Fr}(h:zV w (.slice (some ⟨g,0,none⟩) n cap) l)(i:Nat):w.frozen? ⟨g,i,none⟩=false:=by
 have own:=h.own;rcases own.2 with ⟨h',_⟩ | ⟨g',cap',cur,h',_,hg,_⟩
 ·simp at h'
 ·simp only[Value.slice.injEq,Option.some.injEq,Addr.mk.injEq,and_true] at h'
  obtain ⟨rfl,_,rfl⟩:=h';exact zg hg i
theorem zV.put{l:List Fr}(h:zV w (.slice (some ⟨g,0,none⟩) n cap) l){x y:Fr}(hj:l[j]? = some x){v:Value}(hi:i<67)(hy:y.rs.length=16)(e:frC y=(frC x).set i v):
  zV (w.setCell ⟨g,j * 67+i,none⟩ v) (.slice (some ⟨g,0,none⟩) n cap) (l.set j y):=by
 obtain rfl:=h.len;refine ⟨?_,fun z hz=> ?_⟩
 ·rw[List.length_set,QC (fun q hq=>ZT (h.sz q hq)) hj hi e]
  exact (h.own.stored _ v).1
 ·rcases List.mem_or_eq_of_mem_set hz with hz | rfl
  ·exact h.sz z hz
  ·exact hy
theorem zV.keeps(w:World)(g j i:Nat)(v:Value):za [g] w (w.setCell ⟨g,j * 67+i,none⟩ v):=za.setCell _ _ _ _ (List.mem_singleton.2 rfl)
theorem zV.set{l:List Fr}(h:zV w (.slice (some ⟨g,0,none⟩) n cap) l){x:Fr}(hj:l[j]? = some x){r:Nat}(hr:r<16)(v:V3):
  zV ((((w.setCell ⟨g,j * 67+(3+r * 4+0),none⟩ (int i64 v.1)).setCell ⟨g,j * 67+(3+r * 4+1),none⟩ (int i64 v.2.1)).setCell ⟨g,j * 67+(3+r * 4+2),none⟩ (.bool v.2.2)).setCell ⟨g,j * 67+(3+r * 4+3),none⟩ (.bool true)) (.slice (some ⟨g,0,none⟩) n cap) (l.set j (x.set (r:Int) v)):=by
 have hx:=h.sz x (List.mem_of_getElem? hj);obtain ⟨y,hy⟩:∃ y,x.rs[r]? = some y:=⟨_,List.getElem?_eq_getElem (by omega)⟩;have hjl:=(List.getElem?_eq_some_iff.1 hj).1;have one:∀ (z:Fr) (q q':Rg) (i:Nat) (u:Value),z.rs.length=16→z.rs[r]? = some q→i<4→rgC q'=(rgC q).set i u→frC { z with rs:=z.rs.set r q' }=(frC z).set (3+r * 4+i) u:=by
  intro z q q' i u _ hq hi e;unfold frC;rw[show 3+r * 4+i=(r * 4+i)+1+1+1 by omega,List.set_cons_succ,List.set_cons_succ,List.set_cons_succ];show _ :: _ :: _ :: (z.rs.set r q').flatMap rgC=_;rw[QC (f:=rgC) (c:=4) (fun _ _=>rfl) hq hi e]
 obtain ⟨⟨y1,y2,y3⟩,y4⟩:=y;have a0:=h.put (y:={ x with rs:=x.rs.set r ((v.1,y2,y3),y4) }) (v:=int i64 v.1) hj (show 3+r * 4+0<67 by omega) (by simpa using hx) (one x _ _ 0 _ hx hy (by omega) rfl);have l1:∀ (z:Fr),(l.set j z)[j]? = some z:=fun z=>List.getElem?_set_self hjl;have g1:∀ (q:Rg),(x.rs.set r q)[r]? = some q:=fun q=>List.getElem?_set_self (by omega);have e1:∀ (z z':Fr),(l.set j z).set j z'=l.set j z':=fun z z'=>List.set_set ..;have e2:∀ (q q':Rg),(x.rs.set r q).set r q'=x.rs.set r q':=fun q q'=>List.set_set ..
 have a1:=a0.put (y:={ x with rs:=x.rs.set r ((v.1,v.2.1,y3),y4) }) (v:=int i64 v.2.1) (l1 _) (show 3+r * 4+1<67 by omega) (by simpa using hx) (by
  have:=one { x with rs:=x.rs.set r ((v.1,y2,y3),y4) } ((v.1,y2,y3),y4) ((v.1,v.2.1,y3),y4) 1 (int i64 v.2.1) (by simpa using hx) (g1 _) (by omega) rfl
  rw[← this];simp only[e2])
 rw[e1] at a1
 have a2:=a1.put (y:={ x with rs:=x.rs.set r ((v.1,v.2.1,v.2.2),y4) }) (v:=.bool v.2.2) (l1 _) (show 3+r * 4+2<67 by omega) (by simpa using hx) (by
  have:=one { x with rs:=x.rs.set r ((v.1,v.2.1,y3),y4) } ((v.1,v.2.1,y3),y4) ((v.1,v.2.1,v.2.2),y4) 2 (.bool v.2.2) (by simpa using hx) (g1 _) (by omega) rfl
  rw[← this];simp only[e2])
 rw[e1] at a2
 have a3:=a2.put (y:={ x with rs:=x.rs.set r ((v.1,v.2.1,v.2.2),true) }) (v:=.bool true) (l1 _) (show 3+r * 4+3<67 by omega) (by simpa using hx) (by
  have:=one { x with rs:=x.rs.set r ((v.1,v.2.1,v.2.2),y4) } ((v.1,v.2.1,v.2.2),y4) ((v.1,v.2.1,v.2.2),true) 3 (.bool true) (by simpa using hx) (g1 _) (by omega) rfl
  rw[← this];simp only[e2])
 rw[e1] at a3;exact a3
theorem zV.drop{l:List Fr}{x:Fr}(h:zV w (.slice (some ⟨g,0,none⟩) n cap) (l ++ [x])):zV w (.slice (some ⟨g,0,none⟩) l.length cap) l:=by
 have sz:∀ z,z∈l→z.rs.length=16:=fun z hz=>h.sz z (List.mem_append_left _ hz);refine ⟨⟨jZ fun z hz=>ZT (sz z hz),.inr ?_⟩,sz⟩;rcases h.own.2 with ⟨h',_⟩ | ⟨g',cap',cur,h',hb,hg,hn,hm,hs,ht⟩
 ·simp at h'
 ·simp only[Value.slice.injEq,Option.some.injEq,Addr.mk.injEq,and_true] at h'
  obtain ⟨rfl,_,rfl⟩:=h';rw[List.length_append] at hn;refine ⟨g,cap,cur,rfl,hb,hg,by omega,hm,hs,?_⟩;have e2:(l.flatMap frC).length=l.length * 67:=jZ fun z hz=>ZT (sz z hz);have e:=congrArg (List.take (l.length * 67)) ht;rw[List.take_take,List.flatMap_append,List.take_append_of_le_length (Nat.le_of_eq e2.symm),List.take_of_length_le (l:=l.flatMap frC) (Nat.le_of_eq e2),List.length_append,Nat.min_eq_left (Nat.mul_le_mul_right _ (Nat.le_add_right _ _))] at e;exact e
def Zy(P:Pr8)(k:Int):List (Int × Int):=P.recs.getD k.toNat []
def zbC(P:Pr8)(k:Int):List Int:=P.ifs.getD k.toNat []
def zQ(P:Pr8)(t:Int × Int)(n:Int):Option (Int × Int):=if t.1=1∧inB t.2 P.recs.length=true∧inB n (Zy P t.2).length=true then some ((Zy P t.2).getD n.toNat (0,0)) else none
def zaO(o:Option (Int × Int)):Value:=.tuple #[tyV (o.getD (0,0)),.bool o.isSome]
theorem zjf{a b:Int}(h:a=b):(a != b)=false:=by simpa using h
theorem ziY{a b:Int}(h:a≠b):(a != b)=true:=by simpa using h
theorem ZH(h:PrC w pb po P)(t:Int × Int)(n:Int):Calls Tryz.prog 255 #[pointer (some ⟨pb,po,none⟩),tyV t,int i64 n] w fun e w'=>e=.returned (zaO (zQ P t n))∧za [] w w':=by
 obtain ⟨a,cp,c0,hr,_⟩:=h.c0;obtain ⟨W,hW⟩:∃ W,W=(w.alloc (.cells #[int i64 t.1,int i64 t.2] 52)).alloc (.cells #[int i64 0,int i64 0] 52):=⟨_,rfl⟩;have k2:za [] w W:=by rw[hW];exact (za.alloc [] w _).quiet (za.alloc [] _ _)
 replace c0:=zb k2 c0;have hn1:W.heap[w.heap.size]? = some (.cells #[int i64 t.1,int i64 t.2] 52 (0,0)):=by rw[hW];exact ze (zd w _) (za.alloc [] _ _)
 have hn2:W.heap[w.heap.size+1]? = some (.cells #[int i64 0,int i64 0] 52 (0,0)):=by
  have:=zd (w.alloc (.cells #[int i64 t.1,int i64 t.2] 52)) (.cells #[int i64 0,int i64 0] 52);rw[World.size_alloc] at this;rw[hW];exact this
 have HWI:=hid fun (k:Int) (n:Nat) (w:World)=>zo k n w;have K2:=hid k2;have HR:=hid hr;have HN2:=hid hn2;have s0:=zc hn1 0;have s1:=zc hn1 1;have z0:=zg hn2 0;have z1:=zg hn2 1;have q0:=zc hn2 0;have q1:=zc hn2 1;have HWE:=hid hW;have HL:Box (W.heap.size=w.heap.size+2∧za [w.heap.size+1] W W):=hid ⟨by rw[hW];simp,za.refl _ _⟩;have fin:∀ W' u0 u1,za [] W W'→za [] w ((W'.setCell ⟨w.heap.size+1,0,none⟩ u0).setCell ⟨w.heap.size+1,1,none⟩ u1):=fun W' u0 u1 k=>(K2.o.quiet k).trans (Jo _ (w.heap.size+1) _ _) (fun x hx hl=>by simp at hx;omega);have FIN:=hid fin;have E:Box (∀ W' u0 u1,za [] W W'→(((W'.setCell ⟨w.heap.size+1,0,none⟩ u0).setCell ⟨w.heap.size+1,1,none⟩ u1)).heap[w.heap.size+1]? = some (.cells #[u0,u1] 52 (0,0))):=hid fun W' u0 u1 k=>zjB (ze HN2.o k) u0 u1;clear h hr hW k2 hn1 hn2 fin;obtain ⟨t1,t2⟩:=t;simp only at *;by_cases h1:t1=1
 case neg=>
  have HE:Box (zQ P (t1,t2) n=none):=hid (by unfold zQ;rw[if_neg (fun h=>h1 h.1)]);have o1:=ziY h1;clear h1;go_enter Tryz.func255,Tryz.ntmps255;go_upto_region 1 with fail;rw[← HWE.o];clear HWE;generalize w.heap.size=q at *;go_quiet (fail);go_wp2_with fail;have e0:=fun m=>zc (E.o (W.drewN m) (int i64 0) (int i64 0) (za.drewN [] W m)) 0;have e1:=fun m=>zc (E.o (W.drewN m) (int i64 0) (int i64 0) (za.drewN [] W m)) 1;exact bodyPost_ret (v:=.tuple #[agg #[int i64 0,int i64 0],.bool false]) (by simp[results,Tryz.results255,go_sem,e0,e1]) rfl ⟨by rw[HE.o];rfl,FIN.o _ _ _ (za.drewN [] W _)⟩
 subst h1;cases h2:inB t2 P.recs.length with
 | false=>
  have HE:Box (zQ P (1,t2) n=none):=hid (by unfold zQ;rw[if_neg (fun h=>by rw[h2] at h;exact Bool.noConfusion h.2.1)]);have HW1:Box (∀ w,Calls Tryz.prog 123 #[int i64 t2,int i64 (P.recs.length:Int)] w fun e w'=>e=.returned (.bool false)∧w'=w):=hid fun w=>by rw[← h2];exact HWI.o _ _ w
  clear h2;generalize P.recs.length=N at *;go_enter Tryz.func255,Tryz.ntmps255;go_upto_region 1 with fail;rw[← HWE.o];clear HWE;generalize w.heap.size=q at *;go_quiet ((go_at_call 123;exact Calls.quiet_of_same (HW1.o _)));go_wp2_with fail;have e0:=fun m=>zc (E.o (W.drewN m) (int i64 0) (int i64 0) (za.drewN [] W m)) 0;have e1:=fun m=>zc (E.o (W.drewN m) (int i64 0) (int i64 0) (za.drewN [] W m)) 1;exact bodyPost_ret (v:=.tuple #[agg #[int i64 0,int i64 0],.bool false]) (by simp[results,Tryz.results255,go_sem,e0,e1]) rfl ⟨by rw[HE.o];rfl,FIN.o _ _ _ (za.drewN [] W _)⟩
 | true=>
  obtain ⟨g0,g1⟩:=z6.1 h2;have HW1:Box (∀ w,Calls Tryz.prog 123 #[int i64 t2,int i64 (P.recs.length:Int)] w fun e w'=>e=.returned (.bool true)∧w'=w):=hid fun w=>by rw[← h2];exact HWI.o _ _ w
  obtain ⟨k,rfl⟩:∃ k:Nat,t2=(k:Int):=⟨t2.toNat,by omega⟩;have ek:((k:Int)).toNat=k:=by omega
  obtain ⟨b,off,rfl,hc⟩:=HR.o.at (zi (l:=P.recs) (k:=k) (d:=[]) (by omega));rw[Nat.mul_one] at hc;obtain ⟨ra,rp,e5,hrr,_⟩:=hc;have d5:=zb K2.o e5;have HRR:=hid hrr;have er:Zy P (k:Int)=P.recs.getD k []:=by unfold Zy;rw[ek]
  rw[← er] at d5 HRR;clear e5 hrr er;cases h3:inB n (Zy P (k:Int)).length with
  | false=>
   have HE:Box (zQ P (1,(k:Int)) n=none):=hid (by unfold zQ;rw[if_neg (fun h=>by rw[h3] at h;exact Bool.noConfusion h.2.2)]);have HW2:Box (∀ w,Calls Tryz.prog 123 #[int i64 n,int i64 ((Zy P (k:Int)).length:Int)] w fun e w'=>e=.returned (.bool false)∧w'=w):=hid fun w=>by rw[← h3];exact HWI.o _ _ w
   clear h2 h3 HRR HR;generalize (Zy P (k:Int)).length=M at *;generalize P.recs.length=N at *;go_enter Tryz.func255,Tryz.ntmps255;go_upto_region 1 with fail;rw[← HWE.o];clear HWE;generalize w.heap.size=q at *;go_quiet ((go_at_call 123;first | with_reducible exact Calls.quiet_of_same (HW1.o _) | with_reducible exact Calls.quiet_of_same (HW2.o _)));go_wp2_with fail;have e0:=fun m=>zc (E.o (W.drewN m) (int i64 0) (int i64 0) (za.drewN [] W m)) 0;have e1:=fun m=>zc (E.o (W.drewN m) (int i64 0) (int i64 0) (za.drewN [] W m)) 1;exact bodyPost_ret (v:=.tuple #[agg #[int i64 0,int i64 0],.bool false]) (by simp[results,Tryz.results255,go_sem,e0,e1]) rfl ⟨by rw[HE.o];rfl,FIN.o _ _ _ (za.drewN [] W _)⟩
  | true=>
   obtain ⟨g2,g3⟩:=z6.1 h3;have HE:Box (zQ P (1,(k:Int)) n=some ((Zy P (k:Int)).getD n.toNat (0,0))):=hid (by unfold zQ;rw[if_pos ⟨rfl,h2,h3⟩]);have HW2:Box (∀ w,Calls Tryz.prog 123 #[int i64 n,int i64 ((Zy P (k:Int)).length:Int)] w fun e w'=>e=.returned (.bool true)∧w'=w):=hid fun w=>by rw[← h3];exact HWI.o _ _ w
   obtain ⟨j,rfl⟩:∃ j:Nat,n=(j:Int):=⟨n.toNat,by omega⟩;have ej:((j:Int)).toNat=j:=by omega
   rw[ej] at HE;obtain ⟨fb,fo,rfl,hf⟩:=HRR.o.at (zi (l:=Zy P (k:Int)) (k:=j) (d:=(0,0)) (by omega));have f0:=zb K2.o hf.c0.1;have f1:=zb K2.o hf.c1.1;clear hf h2 h3 HRR HR;generalize (Zy P (k:Int)).getD j (0,0)=T at *;generalize (Zy P (k:Int)).length=M at *;generalize P.recs.length=N at *;go_enter Tryz.func255,Tryz.ntmps255;go_upto_region 1 with fail;rw[← HWE.o];clear HWE;generalize w.heap.size=q at *;go_quiet ((go_at_call 123;first | with_reducible exact Calls.quiet_of_same (HW1.o _) | with_reducible exact Calls.quiet_of_same (HW2.o _)));go_upto_region 3 with fail
   go_region
   go_wp2_with fail;have e0:=fun m=>zc (E.o (W.drewN m) (int i64 T.1) (int i64 T.2) (za.drewN [] W m)) 0;have e1:=fun m=>zc (E.o (W.drewN m) (int i64 T.1) (int i64 T.2) (za.drewN [] W m)) 1;exact bodyPost_ret (v:=.tuple #[agg #[int i64 T.1,int i64 T.2],.bool true]) (by simp[results,Tryz.results255,go_sem,e0,e1]) rfl ⟨by rw[HE.o];rfl,FIN.o _ _ _ (za.drewN [] W _)⟩
def qV(P:Pr8)(t:Int × Int)(n:Int):Option (List (Int × Int) × Int × Int):=if t.1=3∧inB t.2 P.ifs.length=true∧inB n (zbC P t.2).length=true then jN P ((zbC P t.2).getD n.toNat 0) else none
theorem Qj{w0:World}(h:PrC w0 pb po P)(k0:za [] w0 w)(t:Int × Int)(n:Int):Calls Tryz.prog 256 #[pointer (some ⟨pb,po,none⟩),tyV t,int i64 n] w (zM (qV P t n) w0 w):=by
 obtain ⟨a,cp,c0,hr,_⟩:=h.c2;obtain ⟨W,hW⟩:∃ W,W=(w.alloc (.cells #[int i64 t.1,int i64 t.2] 52)).alloc (.cells #[.slice none 0 0,int i64 0,int i64 0] 59):=⟨_,rfl⟩;have k2:za [] w W:=by rw[hW];exact (za.alloc [] w _).quiet (za.alloc [] _ _)
 replace c0:=zb (k0.quiet k2) c0;have hn1:W.heap[w.heap.size]? = some (.cells #[int i64 t.1,int i64 t.2] 52 (0,0)):=by rw[hW];exact ze (zd w _) (za.alloc [] _ _)
 have hn2:W.heap[w.heap.size+1]? = some (.cells #[.slice none 0 0,int i64 0,int i64 0] 59 (0,0)):=by
  have:=zd (w.alloc (.cells #[int i64 t.1,int i64 t.2] 52)) (.cells #[.slice none 0 0,int i64 0,int i64 0] 59);rw[World.size_alloc] at this;rw[hW];exact this
 have HWI:=hid fun (k:Int) (n:Nat) (w:World)=>zo k n w;have K2:=hid k2;have K02:=hid (k0.quiet k2);have HR:=hid hr;have HN2:=hid hn2;have s0:=zc hn1 0;have s1:=zc hn1 1;have z0:=zg hn2 0;have z1:=zg hn2 1;have z2:=zg hn2 2;have q0:=zc hn2 0;have q1:=zc hn2 1;have q2:=zc hn2 2;have HWE:=hid hW;have HL:Box (W.heap.size=w.heap.size+2∧za [w.heap.size+1] W W):=hid ⟨by rw[hW];simp,za.refl _ _⟩;have fin:∀ W' u0 u1 u2,za [] W W'→za [] w (((W'.setCell ⟨w.heap.size+1,0,none⟩ u0).setCell ⟨w.heap.size+1,1,none⟩ u1).setCell ⟨w.heap.size+1,2,none⟩ u2):=fun W' u0 u1 u2 k=>(K2.o.quiet k).trans (jF _ (w.heap.size+1) _ _ _) (fun x hx hl=>by simp at hx;omega);have FIN:=hid fin;have E:Box (∀ W' u0 u1 u2,za [] W W'→((((W'.setCell ⟨w.heap.size+1,0,none⟩ u0).setCell ⟨w.heap.size+1,1,none⟩ u1)).setCell ⟨w.heap.size+1,2,none⟩ u2).heap[w.heap.size+1]? = some (.cells #[u0,u1,u2] 59 (0,0))):=hid fun W' u0 u1 u2 k=>JF (ze HN2.o k) u0 u1 u2;have HP:=hid h;clear h hr hW k2 k0 hn1 hn2 fin;obtain ⟨t1,t2⟩:=t;simp only at *;by_cases h1:t1=3
 case neg=>
  have HE:Box (qV P (t1,t2) n=none):=hid (by unfold qV;rw[if_neg (fun h=>h1 h.1)]);have o1:=ziY h1;clear h1;go_enter Tryz.func256,Tryz.ntmps256;go_upto_region 1 with fail;rw[← HWE.o];clear HWE;generalize w.heap.size=q at *;go_quiet (fail);go_wp2_with fail;have e0:=fun m=>zc (E.o (W.drewN m) (.slice none 0 0) (int i64 0) (int i64 0) (za.drewN [] W m)) 0;have e1:=fun m=>zc (E.o (W.drewN m) (.slice none 0 0) (int i64 0) (int i64 0) (za.drewN [] W m)) 1;have e2:=fun m=>zc (E.o (W.drewN m) (.slice none 0 0) (int i64 0) (int i64 0) (za.drewN [] W m)) 2;exact bodyPost_ret (v:=.tuple #[agg #[.slice none 0 0,int i64 0,int i64 0],.bool false]) (by simp[results,Tryz.results256,go_sem,e0,e1,e2]) rfl (by rw[HE.o];exact ⟨FIN.o _ _ _ _ (za.drewN [] W _),rfl⟩)
 subst h1;cases h2:inB t2 P.ifs.length with
 | false=>
  have HE:Box (qV P (3,t2) n=none):=hid (by unfold qV;rw[if_neg (fun h=>by rw[h2] at h;exact Bool.noConfusion h.2.1)]);have HW1:Box (∀ w,Calls Tryz.prog 123 #[int i64 t2,int i64 (P.ifs.length:Int)] w fun e w'=>e=.returned (.bool false)∧w'=w):=hid fun w=>by rw[← h2];exact HWI.o _ _ w
  clear h2;generalize P.ifs.length=N at *;go_enter Tryz.func256,Tryz.ntmps256;go_upto_region 1 with fail;rw[← HWE.o];clear HWE;generalize w.heap.size=q at *;go_quiet ((go_at_call 123;exact Calls.quiet_of_same (HW1.o _)));go_wp2_with fail;have e0:=fun m=>zc (E.o (W.drewN m) (.slice none 0 0) (int i64 0) (int i64 0) (za.drewN [] W m)) 0;have e1:=fun m=>zc (E.o (W.drewN m) (.slice none 0 0) (int i64 0) (int i64 0) (za.drewN [] W m)) 1;have e2:=fun m=>zc (E.o (W.drewN m) (.slice none 0 0) (int i64 0) (int i64 0) (za.drewN [] W m)) 2;exact bodyPost_ret (v:=.tuple #[agg #[.slice none 0 0,int i64 0,int i64 0],.bool false]) (by simp[results,Tryz.results256,go_sem,e0,e1,e2]) rfl (by rw[HE.o];exact ⟨FIN.o _ _ _ _ (za.drewN [] W _),rfl⟩)
 | true=>
  obtain ⟨g0,g1⟩:=z6.1 h2;have HW1:Box (∀ w,Calls Tryz.prog 123 #[int i64 t2,int i64 (P.ifs.length:Int)] w fun e w'=>e=.returned (.bool true)∧w'=w):=hid fun w=>by rw[← h2];exact HWI.o _ _ w
  obtain ⟨k,rfl⟩:∃ k:Nat,t2=(k:Int):=⟨t2.toNat,by omega⟩;have ek:((k:Int)).toNat=k:=by omega
  obtain ⟨b,off,rfl,hc⟩:=HR.o.at (zi (l:=P.ifs) (k:=k) (d:=[]) (by omega));rw[Nat.mul_one] at hc;obtain ⟨ra,rp,e5,hrr,_⟩:=hc;have d5:=zb K02.o e5;have HRR:=hid hrr;have er:zbC P (k:Int)=P.ifs.getD k []:=by unfold zbC;rw[ek]
  rw[← er] at d5 HRR;clear e5 hrr er;cases h3:inB n (zbC P (k:Int)).length with
  | false=>
   have HE:Box (qV P (3,(k:Int)) n=none):=hid (by unfold qV;rw[if_neg (fun h=>by rw[h3] at h;exact Bool.noConfusion h.2.2)]);have HW2:Box (∀ w,Calls Tryz.prog 123 #[int i64 n,int i64 ((zbC P (k:Int)).length:Int)] w fun e w'=>e=.returned (.bool false)∧w'=w):=hid fun w=>by rw[← h3];exact HWI.o _ _ w
   clear h2 h3 HRR HR;generalize (zbC P (k:Int)).length=M at *;generalize P.ifs.length=N at *;go_enter Tryz.func256,Tryz.ntmps256;go_upto_region 1 with fail;rw[← HWE.o];clear HWE;generalize w.heap.size=q at *;go_quiet ((go_at_call 123;first | with_reducible exact Calls.quiet_of_same (HW1.o _) | with_reducible exact Calls.quiet_of_same (HW2.o _)));go_wp2_with fail;have e0:=fun m=>zc (E.o (W.drewN m) (.slice none 0 0) (int i64 0) (int i64 0) (za.drewN [] W m)) 0;have e1:=fun m=>zc (E.o (W.drewN m) (.slice none 0 0) (int i64 0) (int i64 0) (za.drewN [] W m)) 1;have e2:=fun m=>zc (E.o (W.drewN m) (.slice none 0 0) (int i64 0) (int i64 0) (za.drewN [] W m)) 2;exact bodyPost_ret (v:=.tuple #[agg #[.slice none 0 0,int i64 0,int i64 0],.bool false]) (by simp[results,Tryz.results256,go_sem,e0,e1,e2]) rfl (by rw[HE.o];exact ⟨FIN.o _ _ _ _ (za.drewN [] W _),rfl⟩)
  | true=>
   obtain ⟨g2,g3⟩:=z6.1 h3;have HE:Box (qV P (3,(k:Int)) n=jN P ((zbC P (k:Int)).getD n.toNat 0)):=hid (by unfold qV;rw[if_pos ⟨rfl,h2,h3⟩]);have HW2:Box (∀ w,Calls Tryz.prog 123 #[int i64 n,int i64 ((zbC P (k:Int)).length:Int)] w fun e w'=>e=.returned (.bool true)∧w'=w):=hid fun w=>by rw[← h3];exact HWI.o _ _ w
   obtain ⟨j,rfl⟩:∃ j:Nat,n=(j:Int):=⟨n.toNat,by omega⟩;have ej:((j:Int)).toNat=j:=by omega
   rw[ej] at HE;obtain ⟨fb,fo,rfl,hf⟩:=HRR.o.at (zi (l:=zbC P (k:Int)) (k:=j) (d:=0) (by omega));rw[Nat.mul_one] at hf;have f0:=zb K02.o hf.1;have HSG:=hid fun (w':World) (kk:za [] W w')=>Zo HP.o (K02.o.quiet kk) ((zbC P (k:Int)).getD j 0);rw[HE.o];clear hf h2 h3 HRR HR HE;generalize (zbC P (k:Int)).getD j 0=T at *;generalize (zbC P (k:Int)).length=M at *;generalize P.ifs.length=N at *;go_enter Tryz.func256,Tryz.ntmps256;go_upto_region 1 with fail;rw[← HWE.o];clear HWE;generalize w.heap.size=q at *;go_quiet ((go_at_call 123;first | with_reducible exact Calls.quiet_of_same (HW1.o _) | with_reducible exact Calls.quiet_of_same (HW2.o _)));go_upto_region 3 with fail;cases hs:jN P T with
   | none=>
    rw[hs] at HSG
    go_region_with (go_at_call 196;refine (HSG.o _ (by first | exact za.drewN _ _ _ | exact (za.drewN _ _ _).quiet (za.drew _ _))).mono ?_;rintro e w5 ⟨k5,rfl⟩;have hb5:w5.heap[q+1]? = some (.cells #[.slice none 0 0,int i64 0,int i64 0] 59 (0,0)):=(k5.block (q+1) (zx HN2.o) (by simp)).trans HN2.o;have K5:za [] W w5:=⟨k5.os,k5.tape,k5.output,k5.size,k5.block⟩;have y0:=zg hb5 0;have y1:=zg hb5 1;have y2:=zg hb5 2;have x0:=zc hb5 0;have x1:=zc hb5 1;have x2:=zc hb5 2;have KK5:=hid K5;have HB5:=hid hb5;clear hb5 K5 k5)
    all_goals (
     go_wp2_with fail;have h3:=JF HB5.o (.slice none 0 0) (int i64 0) (int i64 0);have e0:=zc h3 0;have e1:=zc h3 1;have e2:=zc h3 2
     exact bodyPost_ret (v:=.tuple #[agg #[.slice none 0 0,int i64 0,int i64 0],.bool false]) (by simp[results,Tryz.results256,go_sem,e0,e1,e2]) rfl ⟨FIN.o _ _ _ _ KK5.o,by rw[hs]⟩)
   | some sg=>
    rw[hs] at HSG
    go_region_with (go_at_call 196;refine (HSG.o _ (by first | exact za.drewN _ _ _ | exact (za.drewN _ _ _).quiet (za.drew _ _))).mono ?_;rintro e w5 ⟨k5,v5,rfl,hv5⟩;have hb5:w5.heap[q+1]? = some (.cells #[.slice none 0 0,int i64 0,int i64 0] 59 (0,0)):=(k5.block (q+1) (zx HN2.o) (by simp)).trans HN2.o;have K5:za [] W w5:=⟨k5.os,k5.tape,k5.output,k5.size,k5.block⟩;have y0:=zg hb5 0;have y1:=zg hb5 1;have y2:=zg hb5 2;have x0:=zc hb5 0;have x1:=zc hb5 1;have x2:=zc hb5 2;have KK5:=hid K5;have HB5:=hid hb5;obtain ⟨ga,gp,rfl,hv6⟩:=hv5;have HV6:=hid hv6;clear hv6;clear hb5 K5 k5)
    all_goals (
     go_wp2_with fail;have h3:=JF HB5.o (.slice ga sg.1.length gp) (int i64 sg.2.1) (int i64 sg.2.2);have e0:=zc h3 0;have e1:=zc h3 1;have e2:=zc h3 2
     exact bodyPost_ret (v:=.tuple #[agg #[.slice ga sg.1.length gp,int i64 sg.2.1,int i64 sg.2.2],.bool true]) (by simp[results,Tryz.results256,go_sem,e0,e1,e2]) rfl ⟨FIN.o _ _ _ _ KK5.o,by rw[hs];exact ⟨_,rfl,ga,gp,rfl,HV6.o⟩⟩)
def ZY(P:Pr8)(f:Fu8)(x:In8):Bool:=
 if x.op=10∨x.op=12 then inB x.n P.funcs.length
 else if x.op=7∨x.op=8 then (zQ P (zk f x.a) x.n).isSome || decide ((zk f x.a).1≠1)
 else if x.op=14 then (qV P (zk f x.a) x.n).isSome || decide ((zk f x.a).1≠3) else true
theorem zhC(h:PrC w pb po P)(x:In8)(ar:Value)(hop:x.op=10∨x.op=12):Calls Tryz.prog 238 #[pointer (some ⟨pb,po,none⟩),pointer (some ⟨fb,fo,none⟩),zt x ar] w fun e w'=>e=.returned (.bool (ZY P f x))∧za [] w w':=by
 have HE:Box (ZY P f x=inB x.n P.funcs.length):=hid (by unfold ZY;rw[if_pos hop]);obtain ⟨fa,fp,c4,_⟩:=h.c4;have ka:=za.alloc [] w (.cells #[int i64 x.op,int i64 x.dst,int i64 x.a,int i64 x.b,int i64 x.n,ar] 54);replace c4:=zb ka c4;have KA:=hid ka;have HW:=hid fun (w:World)=>zo x.n P.funcs.length w;clear h ka;unfold zt;generalize ZY P f x=res at *;generalize inB x.n P.funcs.length=r at *;generalize P.funcs.length=n at *;rcases hop with e | e
 ·rw[e] at KA c4 ⊢
  go_enter Tryz.func238,Tryz.ntmps238;go_upto_region 4 with fail;go_quiet ((go_at_call 123;exact Calls.quiet_of_same (HW.o _)));go_wp2_with fail;go_ret;exact ⟨by rw[HE.o];rfl,KA.o.quiet (za.drewN _ _ _)⟩
 ·rw[e] at KA c4 ⊢
  go_enter Tryz.func238,Tryz.ntmps238;go_upto_region 4 with fail;go_quiet ((go_at_call 123;exact Calls.quiet_of_same (HW.o _)));go_wp2_with fail;go_ret;exact ⟨by rw[HE.o];rfl,KA.o.quiet (za.drewN _ _ _)⟩
theorem jI(o:Option (Int × Int)):∃ t b,zaO o=.tuple #[tyV t,.bool b]∧b=o.isSome:=⟨o.getD (0,0),o.isSome,rfl,rfl⟩
theorem zc5(h:PrC w pb po P)(hf:FuC w fb fo f)(x:In8)(ar:Value)(hop:x.op=7∨x.op=8):Calls Tryz.prog 238 #[pointer (some ⟨pb,po,none⟩),pointer (some ⟨fb,fo,none⟩),zt x ar] w fun e w'=>e=.returned (.bool (ZY P f x))∧za [] w w':=by
 have HE:Box (ZY P f x=((zQ P (zk f x.a) x.n).isSome || decide ((zk f x.a).1≠1))):=hid (by unfold ZY;rw[if_neg (by omega),if_pos hop]);have ka:=za.alloc [] w (.cells #[int i64 x.op,int i64 x.dst,int i64 x.a,int i64 x.b,int i64 x.n,ar] 54);have hn:=zd w (.cells #[int i64 x.op,int i64 x.dst,int i64 x.a,int i64 x.b,int i64 x.n,ar] 54);have HRT:=hid (zn (FuC.stays _ _ _ _ _ ka hf) x.a);have HFI:=hid fun (w':World) (k:za [] w w')=>ZH (PrC.stays _ _ _ _ _ k h) (zk f x.a) x.n;have KA:=hid ka;have HN:=hid hn;clear h hf ka hn;unfold zt;generalize ZY P f x=res at *;obtain ⟨t,b,hv,hb⟩:=jI (zQ P (zk f x.a) x.n);rw[hv] at HFI;rw[← hb] at HE;clear hv hb;generalize zk f x.a=T at *;have go:∀ (o:Int),x.op=o→((o == 10)=false)→((o == 12)=false)→((o == 7)=true∨((o == 7)=false∧(o == 8)=true))→Calls Tryz.prog 238 #[pointer (some ⟨pb,po,none⟩),pointer (some ⟨fb,fo,none⟩),agg #[int i64 x.op,int i64 x.dst,int i64 x.a,int i64 x.b,int i64 x.n,ar]] w fun e w'=>e=.returned (.bool res)∧za [] w w':=by
  intro o e o1 o2 o3;rw[e] at KA HN HRT ⊢;clear e;rcases o3 with o7 | ⟨o7,o8⟩
  all_goals (
   go_enter Tryz.func238,Tryz.ntmps238;go_upto_region 7 with fail;generalize w.alloc (.cells #[int i64 o,int i64 x.dst,int i64 x.a,int i64 x.b,int i64 x.n,ar] 54)=WA at *;have q2:=zc HN.o 2;generalize w.heap.size=q at *;go_wp2_with fail;refine HRT.o.mono ?_;rintro e w1 ⟨rfl,k1⟩;have h1:=ze HN.o (k1.quiet (za.alloc [] w1 (.cells #[int i64 T.1,int i64 T.2] 52)));have q4:=zc h1 4;have hn2:=zd w1 (.cells #[int i64 T.1,int i64 T.2] 52);have K1:=hid ((KA.o.quiet k1).quiet (za.alloc [] w1 (.cells #[int i64 T.1,int i64 T.2] 52)));have r0:=zc hn2 0;have r1:=zc hn2 1;have HN2:=hid hn2;clear k1 h1 hn2 q2;go_upto_region 8 with fail;generalize w1.alloc (.cells #[int i64 T.1,int i64 T.2] 52)=w2 at *;generalize w1.heap.size=q1 at *;go_wp2_with fail;refine (HFI.o _ K1.o).mono ?_;rintro e w3 ⟨rfl,k3⟩;have h3:=ze HN2.o (k3.quiet (za.alloc [] w3 (.cells #[int i64 t.1,int i64 t.2] 52)));have s0:=zc h3 0;have K3:=hid ((K1.o.quiet k3).quiet (za.alloc [] w3 (.cells #[int i64 t.1,int i64 t.2] 52)));clear k3 h3 r0 r1 q4;cases b with
   | true=>
    have HR:Box (res=true):=hid (by rw[HE.o];rfl);go_wp2_with fail;go_ret;exact ⟨by rw[HR.o];rfl,K3.o⟩
   | false=>
    have HR:Box (res=decide (T.1≠1)):=hid (by rw[HE.o,Bool.false_or]);have hd:(T.1 != 1)=decide (T.1≠1):=by by_cases e:T.1=1 <;> simp[e]
    rw[← hd] at HR;clear hd HE;go_wp2_with fail;go_ret
    exact ⟨by rw[HR.o];rfl,K3.o⟩)
 rcases hop with e | e
 ·exact go 7 e rfl rfl (.inl rfl)
 ·exact go 8 e rfl rfl (.inr ⟨rfl,rfl⟩)
theorem zfj(h:PrC w pb po P)(hf:FuC w fb fo f)(x:In8)(ar:Value)(hop:x.op=14):Calls Tryz.prog 238 #[pointer (some ⟨pb,po,none⟩),pointer (some ⟨fb,fo,none⟩),zt x ar] w fun e w'=>e=.returned (.bool (ZY P f x))∧za [] w w':=by
 have HE:Box (ZY P f x=((qV P (zk f x.a) x.n).isSome || decide ((zk f x.a).1≠3))):=hid (by unfold ZY;rw[if_neg (by omega),if_neg (by omega),if_pos hop]);have ka:=za.alloc [] w (.cells #[int i64 x.op,int i64 x.dst,int i64 x.a,int i64 x.b,int i64 x.n,ar] 54);have hn:=zd w (.cells #[int i64 x.op,int i64 x.dst,int i64 x.a,int i64 x.b,int i64 x.n,ar] 54);have HRT:=hid (zn (FuC.stays _ _ _ _ _ ka hf) x.a);have HFI:=hid fun (w':World) (k:za [] w w')=>Qj h k (zk f x.a) x.n;have KA:=hid ka;have HN:=hid hn;clear h hf ka hn;unfold zt;generalize ZY P f x=res at *;generalize qV P (zk f x.a) x.n=O at *;generalize zk f x.a=T at *;rw[hop] at KA HN HRT ⊢;go_enter Tryz.func238,Tryz.ntmps238;go_upto_region 11 with fail;generalize w.alloc (.cells #[int i64 14,int i64 x.dst,int i64 x.a,int i64 x.b,int i64 x.n,ar] 54)=WA at *;have q2:=zc HN.o 2;generalize w.heap.size=q at *;go_wp2_with fail;refine HRT.o.mono ?_;rintro e w1 ⟨rfl,k1⟩;have h1:=ze HN.o (k1.quiet (za.alloc [] w1 (.cells #[int i64 T.1,int i64 T.2] 52)));have q4:=zc h1 4;have hn2:=zd w1 (.cells #[int i64 T.1,int i64 T.2] 52);have K1:=hid ((KA.o.quiet k1).quiet (za.alloc [] w1 (.cells #[int i64 T.1,int i64 T.2] 52)));have r0:=zc hn2 0;have r1:=zc hn2 1;have HN2:=hid hn2;clear k1 h1 hn2 q2;go_upto_region 12 with fail;generalize w1.alloc (.cells #[int i64 T.1,int i64 T.2] 52)=w2 at *;generalize w1.heap.size=q1 at *;go_wp2_with fail;refine (HFI.o _ K1.o).mono ?_;cases O with
 | none=>
  rintro e w3 ⟨k3,rfl⟩;have h3:=ze HN2.o (k3.quiet (za.alloc [] w3 (.cells #[.slice none 0 0,int i64 0,int i64 0] 59)));have s0:=zc h3 0;have K3:=hid ((K1.o.quiet k3).quiet (za.alloc [] w3 (.cells #[.slice none 0 0,int i64 0,int i64 0] 59)));clear k3 h3 r0 r1 q4;have HR:Box (res=decide (T.1≠3)):=hid (by rw[HE.o,Option.isSome_none,Bool.false_or]);have hd:(T.1 != 3)=decide (T.1≠3):=by by_cases e:T.1=3 <;> simp[e]
  rw[← hd] at HR;clear hd HE;go_wp2_with fail;go_ret;exact ⟨by rw[HR.o];rfl,K3.o⟩
 | some sg=>
  rintro e w3 ⟨k3,v,rfl,ga,gp,rfl,_⟩;have h3:=ze HN2.o (k3.quiet (za.alloc [] w3 (.cells #[.slice ga sg.1.length gp,int i64 sg.2.1,int i64 sg.2.2] 59)));have s0:=zc h3 0;have K3:=hid ((K1.o.quiet k3).quiet (za.alloc [] w3 (.cells #[.slice ga sg.1.length gp,int i64 sg.2.1,int i64 sg.2.2] 59)));clear k3 h3 r0 r1 q4;have HR:Box (res=true):=hid (by rw[HE.o];rfl);go_wp2_with fail;go_ret;exact ⟨by rw[HR.o];rfl,K3.o⟩
theorem zid(x:In8)(ar:Value)(h1:¬ (x.op=10∨x.op=12))(h2:¬ (x.op=7∨x.op=8))(h3:¬ x.op=14):Calls Tryz.prog 238 #[pointer (some ⟨pb,po,none⟩),pointer (some ⟨fb,fo,none⟩),zt x ar] w fun e w'=>e=.returned (.bool (ZY P f x))∧za [] w w':=by
 have HE:Box (ZY P f x=true):=hid (by unfold ZY;rw[if_neg h1,if_neg h2,if_neg h3]);have o10:=neb (show x.op≠10 by omega);have o12:=neb (show x.op≠12 by omega);have o7:=neb (show x.op≠7 by omega);have o8:=neb (show x.op≠8 by omega);have o14:=neb (show x.op≠14 by omega);clear h1 h2 h3;unfold zt;go_enter Tryz.func238,Tryz.ntmps238;go_wp2_with fail;go_ret;exact ⟨by rw[HE.o];rfl,za.alloc _ _ _⟩
theorem zh9(h:PrC w pb po P)(hf:FuC w fb fo f)(x:In8)(ar:Value):Calls Tryz.prog 238 #[pointer (some ⟨pb,po,none⟩),pointer (some ⟨fb,fo,none⟩),zt x ar] w fun e w'=>e=.returned (.bool (ZY P f x))∧za [] w w':=by
 by_cases h1:x.op=10∨x.op=12
 ·exact zhC h x ar h1
 by_cases h2:x.op=7∨x.op=8
 ·exact zc5 h hf x ar h2
 by_cases h3:x.op=14
 ·exact zfj h hf x ar h3
 exact zid x ar h1 h2 h3
theorem zjh{s t:Int × Int}:tyE s t=true ↔ s=t:=by
 unfold tyE;rw[Bool.and_eq_true,beq_iff_eq,beq_iff_eq];exact ⟨fun h=>Prod.ext h.1 h.2,fun h=>by rw[h];exact ⟨rfl,rfl⟩⟩
def zj1(P:Pr8)(n:Int):List (Int × Int) × Int × Int:=P.sigs.getD n.toNat ([],0,0)
def if8(P:Pr8)(n:Int):List Int:=P.ifs.getD n.toNat []
def im8(P:Pr8)(k:Nat):Int × Int × List Int:=P.ims.getD k (0,0,[])
def mtB(r:Int)(s t:List (Int × Int) × Int × Int):Bool:=decide (s.1=(1,r) :: t.1) && tyE s.2 t.2
def isM(P:Pr8)(r f n:Int):Bool:=inB f P.funcs.length && (inB (zf P f.toNat).sig P.sigs.length && (inB n P.sigs.length && mtB r (zj1 P (zf P f.toNat).sig) (zj1 P n)))
def JT(P:Pr8)(m:Int × Int × List Int):Bool:=inB m.1 P.recs.length && (inB m.2.1 P.ifs.length && (decide (m.2.2.length=(if8 P m.2.1).length) && (List.range m.2.2.length).all fun k=>isM P m.1 (m.2.2.getD k 0) ((if8 P m.2.1).getD k 0)))
def zib(P:Pr8):List (Int × Int):=P.ims.map fun m=>(m.1,m.2.1)
def za7(P:Pr8):Bool:=decide (zib P).Nodup && P.ims.all (JT P)
theorem JY(h:i<P.ims.length):P.ims[i]? = some (im8 P i):=zi h
end Go.Proofs.YthflgjkmbakedaaGreatDoor
