import Derived.Laws.IdiomStrings
import Derived.Test.YtkgoimokgbdgfaaGreatDoorV13

namespace Go.Proofs.YtkgoimokgbdgfaaGreatDoor
open Go.RowKit
theorem jQ{α:Type}{E:α→List UInt8}{l:List α}{M K:Nat}(hb:b64 (l.length:Int))(h:∀ x,x∈l→(E x).length≤M)(hK:l.length≤K):(Za E l).length≤10+K * M:=by
 have h1:(l.flatMap E).length≤l.length * M:=by
  clear hb hK
  induction l with
  | nil=>simp
  | cons x l ih=>
   rw[List.flatMap_cons,List.length_append,List.length_cons,Nat.succ_mul];have h1:=h x (List.mem_cons_self ..);have h2:=ih (fun y hy=>h y (List.mem_cons_of_mem _ hy));omega
 have h2:=qq hb;have h3:l.length * M≤K * M:=Nat.mul_le_mul_right M hK;rw[Za,List.length_append];omega
theorem zeI{α:Type}{l:List α}{x:α}(h:x∈l):∃ j,l[j]? = some x∧j<l.length:=by
 obtain ⟨i,hi,e⟩:=List.getElem_of_mem h;exact ⟨i,by rw[List.getElem?_eq_getElem hi,e],hi⟩
theorem zk3{x:Int × Int}(h:zlj x):(zb2 x).length≤20:=by
 rw[zb2,qw,List.length_append];have h1:=qq h.1;have h2:=qq h.2;omega
theorem zly{P:Pr8}(hok:zhW P)(hz:Sz9 P)(hf:zn5 1048576 P):(prE P).length≤35184372088832:=by
 obtain ⟨o1,o2,o3,o4,o5,o6⟩:=hok;obtain ⟨f1,f2,f3,f4,f5⟩:=hf
 have a1:(zbf P.recs).length≤10+12 * 20971530:=jQ o1.1 (fun x hx=>by
  obtain ⟨j,hj,_⟩:=zeI hx
  exact Nat.le_trans (jQ (o1.2 x hx).1 (fun y hy=>zk3 ((o1.2 x hx).2 y hy)) (f1 j x hj)) (by omega)) hz.recs
 have a2:(ziV P.sigs).length≤10+12 * 20971550:=jQ o2.1 (fun x hx=>by
  obtain ⟨j,hj,_⟩:=zeI hx;have h1:(ZE x.1).length≤10+1048576 * 20:=jQ (o2.2 x hx).1.1 (fun y hy=>zk3 ((o2.2 x hx).1.2 y hy)) (f2 j x hj);have h2:=zk3 (o2.2 x hx).2;rw[sgE,qw,List.length_append]
  omega) hz.sigs
 have a3:(ziS P.ifs).length≤10+12 * 10485770:=jQ o3.1 (fun x hx=>by
  obtain ⟨j,hj,_⟩:=zeI hx
  exact Nat.le_trans (jQ (o3.2 x hx).1 (fun y hy=>qq ((o3.2 x hx).2 y hy)) (f3 j x hj)) (by omega)) hz.ifs
 have a4:(zhV P.ims).length≤10+14 * 10485790:=jQ o4.1 (fun x hx=>by
  obtain ⟨j,hj,_⟩:=zeI hx;have h1:(qE x.2.2).length≤10+1048576 * 10:=jQ (o4.2 x hx).2.2.1 (fun y hy=>qq ((o4.2 x hx).2.2.2 y hy)) (f4 j x hj);have h2:=qq (o4.2 x hx).1;have h3:=qq (o4.2 x hx).2.1;rw[imE,qw,qw,List.length_append,List.length_append]
  omega) hz.ims
 have a5:(zi1 P.funcs).length≤10+12 * 21900000000:=jQ o5.1 (fun x hx=>by
  obtain ⟨j,hj,hjl⟩:=zeI hx;have ho:=o5.2 x hx;have ex:zg P j=x:=by
   have:=zh (d:=⟨0,[],[]⟩) hjl;rw[hj] at this;exact (Option.some.inj this).symm
  have hr:x.regs.length≤20:=by have:=hz.regs j hjl;rw[ex] at this;exact this
  have hk:x.blocks.length≤14:=by have:=hz.sm.bk j hjl;rw[ex] at this;exact this
  have h1:(ZE x.regs).length≤10+20 * 20:=jQ ho.2.1.1 (fun y hy=>zk3 (ho.2.1.2 y hy)) hr;have h2:=qq ho.1
  have h3:(zgI x.blocks).length≤10+14 * 1562400000:=jQ ho.2.2.1 (fun y hy=>by
   obtain ⟨i,hi,hil⟩:=zeI hy;have hb:=ho.2.2.2 y hy;have ey:zr (zg P j) i=y:=by
    rw[ex];have:=zh (d:=⟨[],0,0,0,0⟩) hil;rw[hi] at this;exact (Option.some.inj this).symm
   have hc:y.code.length≤149:=by have:=hz.sm.code hjl (b:=i) (by rw[ex];exact hil);rw[ey] at this;exact this
   have h4:(zjn y.code).length≤10+149 * 10485820:=jQ hb.1.1 (fun z hz9=>by
    obtain ⟨m,hm,_⟩:=zeI hz9;have hn:=hb.1.2 z hz9;have h5:(qE z.args).length≤10+1048576 * 10:=jQ hn.2.2.2.2.2.1 (fun u hu=>qq (hn.2.2.2.2.2.2 u hu)) (f5 j x hj i y hi m z hm);have g1:=qq hn.1;have g2:=qq hn.2.1;have g3:=qq hn.2.2.1;have g4:=qq hn.2.2.2.1;have g5:=qq hn.2.2.2.2.1;simp only at g1 g2 g3 g4 g5;simp only[inE,qw,List.length_append]
    omega) hc
   have g1:=qq hb.2.1;have g2:=qq hb.2.2.1;have g3:=qq hb.2.2.2.1;have g4:=qq hb.2.2.2.2;simp only at g1 g2 g3 g4;simp only[blE,qw,List.length_append]
   omega) hk
  simp only at h2;simp only[fuE,qw,List.length_append]
  omega) hz.sm.fn
 have a6:=qq o6;simp only at a6;simp only[prE,qw,List.length_append];omega
end Go.Proofs.YtkgoimokgbdgfaaGreatDoor
