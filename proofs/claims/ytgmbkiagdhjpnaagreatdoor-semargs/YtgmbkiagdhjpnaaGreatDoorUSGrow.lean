/-
  A program in place while its main's code grows.
-/
import Derived.Test.YtgmbkiagdhjpnaaGreatDoorUSLit
import Derived.Test.YtgmbkiagdhjpnaaGreatDoorU26
import Derived.Deep.RegionLaw
import Derived.Deep.AppendLies
namespace Go.Proofs.YtgmbkiagdhjpnaaGreatDoor
open Go.RowKit
def insC(x:In8):List Value:=[.int .i64 x.op,.int .i64 x.dst,.int .i64 x.a,.int .i64 x.b,.int .i64 x.n,.slice none 0 0]
def insCs(l:List In8):List Value:=l.flatMap insC
theorem gunder_ins:Tryz.prog.underlying 66=some (.slice 65):=by kernel_rfl
theorem ginfo_in:Tryz.prog.info? 65=some Tryz.t65:=by kernel_rfl
theorem gzero_in:Tryz.t65.zero=some (.agg #[.int .i64 0,.int .i64 0,.int .i64 0,.int .i64 0,.int .i64 0,.slice none 0 0]):=by kernel_rfl
theorem gsize_in:Tryz.t65.size=6:=by kernel_rfl
theorem gbytes_in:Tryz.t65.bytes=64:=by kernel_rfl
theorem gdrew{w:World}{base:Nat}{e:TypeId}{size:Nat}{v:Value}{n:Nat}{xs:List Value}(h:w.ownsRow base e size v n xs):w.drew.ownsRow base e size v n xs:=h
theorem insC_one(l:List In8):∀ u∈insCs l,u.oneCell'=true:=by
 intro u hu
 unfold insCs at hu
 rw[List.mem_flatMap] at hu
 obtain ⟨x,_,hx⟩:=hu
 unfold insC at hx
 simp only[List.mem_cons,List.not_mem_nil,or_false] at hx
 rcases hx with rfl | rfl | rfl | rfl | rfl | rfl <;> rfl
def InB(x:In8):Prop:=(b64 x.op∧b64 x.dst∧b64 x.a∧b64 x.b∧b64 x.n)∧x.args=[]
theorem gcode_row{w:World}{base:Nat}{v:Value}{l:List In8}{b o:Nat}(h:w.ownsRow base 65 6 v l.length (insCs l))(hc:w.cell? ⟨b,o,none⟩=some v)(hb:∀ x,x∈l→InB x)(hl:l.length≤1000):SlC 6 InC w b o l:=by
 have hw:=h
 rcases h.2 with ⟨rfl,h0⟩ | ⟨g,cap,cur,rfl,_,_,hn,_⟩
 ·rw[List.eq_nil_of_length_eq_zero h0]
  exact SlC.xnone hc
 ·refine ⟨_,cap,hc,.inr ⟨g,0,rfl,fun j x hx=> ?_⟩,hn,by unfold maxLen;omega⟩
  have hj:=(List.getElem?_eq_some_iff.1 hx).1
  have q:=hb x (List.mem_of_getElem? hx)
  have at9:∀ i,i<6→w.cell? ⟨g,0+j * 6+i,none⟩=(insC x)[i]? := fun i hi=>by
   rw[Nat.zero_add,hw.cellAt _ (by omega)]
   exact J9 (f:=insC) (c:=6) (fun _ _=>rfl) hx hi
  exact in_lit q.1 q.2 (at9 0 (by omega)) (at9 1 (by omega)) (at9 2 (by omega)) (at9 3 (by omega)) (at9 4 (by omega)) (at9 5 (by omega))
structure GrI (B:Nat) (w:World) (q:Nat) (rv cv:Value) (nr:Nat) (L:List In8):Prop where
 h0:w.heap[q]? = some (.cells #[.slice none 0 0,.int .i64 0,.int .i64 0] 75 (0,0))
 h3:w.heap[q+3]? = some (.cells #[cv,.int .i64 3,.int .i64 0,.int .i64 0,.int .i64 0] 68 (0,0))
 h4:w.heap[q+4]? = some (.cells #[.int .i64 0,rv,.slice (some ⟨q+3,0,none⟩) 1 1] 50 (0,0))
 h5:w.heap[q+5]? = some (.cells #[.slice none 0 0,.slice (some ⟨q,0,none⟩) 1 1,.slice none 0 0,.slice none 0 0,.slice (some ⟨q+4,0,none⟩) 1 1,.int .i64 0] 57 (0,0))
 rg:w.ownsRow B 60 2 rv nr (List.replicate (nr * 2) (.int .i64 0))
 own:w.ownsRow B 65 6 cv L.length (insCs L)
 new:B≤q
theorem one_row{w:World}{base b n c:Nat}{cs:Array Value}{T:TypeId}(h:w.heap[b]? = some (.cells cs T (0,0)))(hb:base≤b)(hn:n≤maxLen)(hs:cs.size=n * c):w.ownsRow base T c (.slice (some ⟨b,0,none⟩) n n) n cs.toList:=
 ⟨by rw[Array.length_toList];exact hs,.inr ⟨b,n,cs,rfl,hb,h,Nat.le_refl _,hn,hs,List.take_of_length_le (by rw[Array.length_toList,hs];exact Nat.le_refl _)⟩⟩
theorem GrI.start{w:World}{q B:Nat}(h:zi1 w q 0)(hb:B≤q):GrI B w q (.slice (some ⟨q+1,0,none⟩) 1 1) (.slice (some ⟨q+2,0,none⟩) 1 1) 1 [in1]:=
 ⟨h.h0,h.h3,h.h4,h.h5,one_row h.h1 (by omega) (by unfold maxLen;omega) rfl,one_row h.h2 (by omega) (by unfold maxLen;omega) rfl,hb⟩
theorem GrI.quiet{B:Nat}{w w':World}{q nr:Nat}{rv cv:Value}{L:List In8}(h:GrI B w q rv cv nr L)(k:za [] w w'):GrI B w' q rv cv nr L:=
 ⟨zd h.h0 k,zd h.h3 k,zd h.h4 k,zd h.h5 k,zh h.rg k (fun _ _=>by simp),zh h.own k (fun _ _=>by simp),h.new⟩
def prG(nr:Nat)(L:List In8):Pr8:=⟨[],[([],0,0)],[],[],[⟨0,List.replicate nr (0,0),[⟨L,3,0,0,0⟩]⟩],0⟩
theorem GrI.prc{B:Nat}{w:World}{q nr:Nat}{rv cv:Value}{L:List In8}(h:GrI B w q rv cv nr L)(hb:∀ x,x∈L→InB x)(hl:L.length≤1000)(hr:nr≤1000):PrC w (q+5) 0 (prG nr L):=by
 have rc:=zc h.h4 1
 have rr:SlC 2 TyC w (q+4) 1 (List.replicate nr (0,0)):=by
  have hw:=h.rg
  rcases h.rg.2 with ⟨rfl,h0⟩ | ⟨g,cap,cur,rfl,_,_,hn,_⟩
  ·rw[h0]
   exact SlC.xnone rc
  ·refine ⟨_,cap,by rw[List.length_replicate];exact rc,.inr ⟨g,0,rfl,fun j x hx=> ?_⟩,by rw[List.length_replicate];exact hn,by rw[List.length_replicate];unfold maxLen;omega⟩
   have hj:=(List.getElem?_eq_some_iff.1 hx).1
   rw[List.length_replicate] at hj
   obtain rfl:=(List.mem_replicate.1 (List.mem_of_getElem? hx)).2
   have at9:∀ i,i<2→w.cell? ⟨g,0+j * 2+i,none⟩=some (.int .i64 0):=fun i hi=>by
    rw[Nat.zero_add,hw.cellAt _ (by omega),List.getElem?_replicate,if_pos (by omega)]
   exact ⟨zI.xof (at9 0 (by omega)) (by simp),zI.xof (at9 1 (by omega)) (by simp)⟩
 have b0:BlC w (q+3) 0 ⟨L,3,0,0,0⟩:=⟨gcode_row h.own (zc h.h3 0) hb hl,zI.xof (zc h.h3 1) (by simp),zI.xof (zc h.h3 2) (by simp),zI.xof (zc h.h3 3) (by simp),zI.xof (zc h.h3 4) (by simp)⟩
 have f:FuC w (q+4) 0 ⟨0,List.replicate nr (0,0),[⟨L,3,0,0,0⟩]⟩:=⟨zI.xof (zc h.h4 0) (by simp),rr,SlC.one (zc h.h4 2) b0⟩
 exact ⟨SlC.xnone (zc h.h5 0),SlC.one (zc h.h5 1) (show SgC _ q 0 ([],0,0) from ⟨SlC.xnone (zc h.h0 0),zI.xof (zc h.h0 1) (by simp),zI.xof (zc h.h0 2) (by simp)⟩),SlC.xnone (zc h.h5 2),SlC.xnone (zc h.h5 3),SlC.one (zc h.h5 4) f,zI.xof (zc h.h5 5) (by simp[prG])⟩
theorem rows_apart{w:World}{B B' n n' c c':Nat}{v v':Value}{xs xs':List Value}{T U:TypeId}(h:w.ownsRow B T c v n xs)(h':w.ownsRow B' U c' v' n' xs')(hne:T≠U){b:Nat}(hb:v.ownBlock=some b):v'.ownBlock≠some b:=by
 rcases h.2 with ⟨rfl,_⟩ | ⟨g,cap,cur,rfl,_,hg,_⟩
 ·simp[Value.ownBlock] at hb
 ·simp[Value.ownBlock] at hb
  subst hb
  exact zdU h' hg (fun e=>hne e.symm)
theorem own_ge{w:World}{B n c:Nat}{v:Value}{xs:List Value}{T:TypeId}(h:w.ownsRow B T c v n xs){b:Nat}(hb:v.ownBlock=some b):B≤b:=by
 rcases h.2 with ⟨rfl,_⟩ | ⟨g,cap,cur,rfl,h1,_⟩
 ·simp[Value.ownBlock] at hb
 ·simp[Value.ownBlock] at hb
  omega
structure GrA (B:Nat) (w w5:World) (q:Nat) (rv cv:Value) (nr:Nat) (L M:List In8) (g cap:Nat):Prop where
 h3:w5.heap[q+3]? = some (.cells #[cv,.int .i64 3,.int .i64 0,.int .i64 0,.int .i64 0] 68 (0,0))
 h4:w5.heap[q+4]? = some (.cells #[.int .i64 0,rv,.slice (some ⟨q+3,0,none⟩) 1 1] 50 (0,0))
 fin:GrI B (w5.setCell ⟨q+3,0,none⟩ (.slice (some ⟨g,0,none⟩) (L.length+M.length) cap)) q rv (.slice (some ⟨g,0,none⟩) (L.length+M.length) cap) nr (L ++ M)
 keep:∀ wS:World,wS.heap.size=B→za [] wS w→za [] wS (w5.setCell ⟨q+3,0,none⟩ (.slice (some ⟨g,0,none⟩) (L.length+M.length) cap))
theorem GrI.app{B:Nat}{w wa w5:World}{q nr:Nat}{rv cv:Value}{L M:List In8}{g cap:Nat}(h:GrI B w q rv cv nr L)(ka:za [] w wa)(ho:w5.ownsRow B 65 6 (.slice (some ⟨g,0,none⟩) (L.length+M.length) cap) (L.length+M.length) (insCs L ++ insCs M))(hg:wa.grownBy w5 cv.ownBlock):GrA B w w5 q rv cv nr L M g cap:=by
 have h9:=h.quiet ka
 have kg:za cv.ownBlock.toList wa w5:=za.grown _ hg (fun k hk=>by rw[hk];simp)
 have far:∀ (b:Nat) (cs:Array Value) (U:TypeId),wa.heap[b]? = some (.cells cs U (0,0))→65≠U→w5.heap[b]? = some (.cells cs U (0,0)):=fun b cs U hb hne=>by
  rw[kg.block b (zt hb) (fun hm=>zdU h9.own hb hne (by simpa using hm))]
  exact hb
 have g0:=far _ _ _ h9.h0 (by decide)
 have g3:=far _ _ _ h9.h3 (by decide)
 have g4:=far _ _ _ h9.h4 (by decide)
 have g5:=far _ _ _ h9.h5 (by decide)
 have grg:w5.ownsRow B 60 2 rv nr (List.replicate (nr * 2) (.int .i64 0)):=zh h9.rg kg (fun b hb hm=>rows_apart h9.rg h9.own (by decide) hb (by simpa using hm))
 have ks:za [q+3] w5 (w5.setCell ⟨q+3,0,none⟩ (.slice (some ⟨g,0,none⟩) (L.length+M.length) cap)):=za.setCell _ _ _ _ (List.mem_singleton.2 rfl)
 refine ⟨g3,g4,⟨?_,heap_setCell_same _ _ 0 _ _ _ g3,?_,?_,?_,?_,h.new⟩,fun wS hS k=> ?_⟩
 ·exact (heap_setCell_other _ _ _ _ (by show q≠q+3;omega)).trans g0
 ·exact (heap_setCell_other _ _ _ _ (by show q+4≠q+3;omega)).trans g4
 ·exact (heap_setCell_other _ _ _ _ (by show q+5≠q+3;omega)).trans g5
 ·exact zh grg ks (fun b hb hm=>zdU grg g3 (by decide) (by rw[hb,List.mem_singleton.1 hm]))
 ·have e:insCs (L ++ M)=insCs L ++ insCs M:=List.flatMap_append
  rw[List.length_append,e]
  exact zh ho ks (fun b hb hm=>zdU ho g3 (by decide) (by rw[hb,List.mem_singleton.1 hm]))
 ·refine ((k.quiet ka).trans kg (fun x hx hl=> ?_)).trans ks (fun x hx hl=> ?_)
  ·have:=own_ge h9.own (b:=x) (by simpa using hx)
   omega
  ·rw[List.mem_singleton.1 hx] at hl
   have:=h.new
   omega
end Go.Proofs.YtgmbkiagdhjpnaaGreatDoor
