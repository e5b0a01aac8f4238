import Derived.Test.YtkgoimokgbdgfaaGreatDoorV13

namespace Go.Proofs.YtkgoimokgbdgfaaGreatDoor
open Go.RowKit
set_option maxRecDepth 100000
variable {B L1:List UInt8}{a:Option Addr}{cp g j m n1:Nat}{w w0:World}
section
open Go.ChangeShapes Go.WideShapes Go.ChangeAt
theorem zoG{n:Int}(h:(Lit.int .u8 n).wf=true):0≤n∧n<256:=by
 have h1:(decide (IntKind.u8.min≤n) && decide (n≤IntKind.u8.max))=true:=h;have a:IntKind.u8.min=0:=by decide
 have b:IntKind.u8.max=255:=by decide
 rw[a,b] at h1;simp at h1;omega
def U8C(w:World)(b o:Nat)(c:UInt8):Prop:=w.cell? ⟨b,o,none⟩=some (.int .u8 (c.toNat:Int))
theorem zjN{H:Type}{enc:TypeId × Value→H}{spare:Nat→Bool}{held:Bool}{G:TypeId→DataW H→Prop}:ZD enc Tryz.prog w spare held G 5 U8C (fun _=>True):=by
 intro fuel b o cs x hcell h _;obtain ⟨n,rfl,_,hw⟩:=DataW.trod_int Tryz.underlying5 h;obtain ⟨h1,h2⟩:=zoG hw;refine ⟨UInt8.ofNat n.toNat,?_,trivial⟩;have hc:Tryz.prog.cellsOf 5=1:=by kernel_rfl
 have:=hcell 0 (by rw[hc];omega);rw[Nat.add_zero] at this;show w.cell? ⟨b,o,none⟩=_;rw[this,qO (by omega)];show some (Value.int .u8 n)=_;rw[Int.toNat_of_nonneg h1]
theorem zfA{l:List UInt8}(h:zy w 1 U8C a l):qi w a l:=by
 rcases h with h | ⟨b,off,h1,h2⟩
 ·exact .inl h
 ·refine .inr ⟨b,off,h1,fun i hi=> ?_⟩
  have:=h2 i l[i] (List.getElem?_eq_getElem hi);rw[Nat.mul_one] at this;rw[this,List.getD_eq_getElem?_getD,List.getElem?_eq_getElem hi];rfl
theorem zfE{H:Type}{enc:TypeId × Value→H}{spare:Nat→Bool}{held:Bool}{r:Reach}{b0:Nat}{v:Value}{d:DataW H}{p:List MemPlace}(hval:Value.okWide Tryz.prog w r b0 63 v)
  (h:∃ fuel,DataW.trod enc Tryz.prog w 0 spare held fuel 63 v.cells.toList=some (d,p)):∃ a cp l,v=.slice a l.length cp∧qi w a l∧l.length≤cp∧l.length≤maxLen:=by
 obtain ⟨a,len,cp,rfl⟩:=okWide_slice Tryz.underlying63 hval;obtain ⟨fuel,hf⟩:=h;have hc:Tryz.prog.cellsOf 5=1:=by kernel_rfl
 obtain ⟨a',cp',l,e,q1,q2,q3,_⟩:=zbg (G:=fun _ _=>True) zgp Tryz.underlying63 (by rw[hc];omega) zjN hf trivial;simp[Value.cells] at e;obtain ⟨rfl,rfl,rfl⟩:=e;rw[hc] at q1;exact ⟨a,cp,l,rfl,zfA q1,q2,q3⟩
end
theorem qi.take{L:List UInt8}(h:qi w a L)(k:Nat):qi w a (L.take k):=by
 rcases h with h | ⟨b,off,h1,h2⟩
 ·exact .inl (by rw[h];simp)
 ·refine .inr ⟨b,off,h1,fun i hi=> ?_⟩
  rw[List.length_take] at hi;rw[h2 i (by omega),List.getD_eq_getElem?_getD,List.getD_eq_getElem?_getD,List.getElem?_take,if_pos (by omega)]
theorem qi.row{L:List UInt8}(h:qi w a L)(hL:L≠[]):∃ b off,a=some ⟨b,off,none⟩∧∀ i,i<L.length→w.cell? ⟨b,off+i,none⟩=some (.int .u8 ((L.getD i 0).toNat:Int)):=by
 rcases h with h | h
 ·exact absurd h hL
 ·exact h
theorem zc1(h:OB w0 w (.slice (some ⟨g,0,none⟩) m cp) B)(hL:L1=B.take n1):qi w (some ⟨g,0,none⟩) L1:=by
 obtain ⟨a,c,e,hb,_⟩:=h.open;simp only[Value.slice.injEq] at e;obtain ⟨rfl,_⟩:=e;rw[hL];exact hb.take n1
theorem zio(h:OB w0 w (.slice (some ⟨g,0,none⟩) m cp) B)(j:Nat):w.frozen? ⟨g,j,none⟩=false:=by
 rcases h.own.2 with ⟨e,_⟩ | ⟨g',cap,cur,e,_,hg,_⟩
 ·cases e
 ·simp only[Value.slice.injEq,Option.some.injEq,Addr.mk.injEq,and_true] at e
  obtain ⟨rfl,_⟩:=e;exact zL hg j
theorem znk{c:UInt8}(h:OB w0 w (.slice (some ⟨g,0,none⟩) m cp) B)(hL:L1=B.take n1)(hc:L1[j]? = some c):w.cell? ⟨g,j,none⟩=some (.int .u8 (c.toNat:Int))∧w.frozen? ⟨g,j,none⟩=false:=by
 refine ⟨?_,zio h j⟩;have hj:j<L1.length:=by
  rcases Nat.lt_or_ge j L1.length with h | h
  ·exact h
  ·rw[List.getElem?_eq_none h] at hc;cases hc
 obtain ⟨b,off,e,h9⟩:=(zc1 h hL).row (fun e=>by rw[e] at hj;simp at hj);cases e;have:=h9 j hj;rw[Nat.zero_add,List.getD_eq_getElem?_getD,hc] at this;exact this
theorem zp7(h:OB w0 w (.slice (some ⟨g,0,none⟩) m cp) B):w0.heap.size≤g∧g<w.heap.size:=h.own.lt g rfl
theorem zd5{v:Value}(h:OB w0 w (.slice (some ⟨g,0,none⟩) m cp) B):zc [] w0 (w.setCell ⟨g,j,none⟩ v):=
 h.keeps.trans (zc.setCell [g] w _ _ (List.mem_singleton.2 rfl)) (fun x hx hlt=>by rw[List.mem_singleton] at hx;have:=(zp7 h).1;omega)
theorem znA(h:OB w0 w (.slice (some ⟨g,0,none⟩) m cp) B)(hL:L1=B.take n1)(z:UInt8):qi (w.setCell ⟨g,j,none⟩ (.int .u8 (z.toNat:Int))) (some ⟨g,0,none⟩) (L1.set j z):=by
 by_cases hne:L1=[]
 ·exact .inl (by rw[hne];rfl)
 ·obtain ⟨b,off,e,h9⟩:=(zc1 h hL).row hne
  cases e;refine .inr ⟨g,0,rfl,fun i hi=> ?_⟩;rw[List.length_set] at hi;have h1:=h9 i hi;rw[Nat.zero_add] at h1 ⊢;rcases h.own.2 with ⟨e,_⟩ | ⟨g',cap,cur,e,_,hg,_⟩
  ·cases e
  ·simp only[Value.slice.injEq,Option.some.injEq,Addr.mk.injEq,and_true] at e
   obtain ⟨rfl,_⟩:=e;rw[zd (heap_setCell_same w g j cur _ _ hg) i];rw[zd hg i] at h1;rw[Array.getElem?_setIfInBounds,List.getD_eq_getElem?_getD,List.getElem?_set];by_cases e:j=i
   ·subst e
    have hlt:j<cur.size:=(Array.getElem?_eq_some_iff.1 h1).1;simp[hlt,hi]
   ·rw[if_neg e,if_neg e,h1,List.getD_eq_getElem?_getD]
end Go.Proofs.YtkgoimokgbdgfaaGreatDoor
