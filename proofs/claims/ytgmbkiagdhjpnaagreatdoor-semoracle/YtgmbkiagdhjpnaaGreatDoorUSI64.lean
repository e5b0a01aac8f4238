/-
  A slice of int64 numbers that came in.
-/
import Derived.Test.YtgmbkiagdhjpnaaGreatDoorU13
namespace Go.Proofs.YtgmbkiagdhjpnaaGreatDoor
open Go.ChangeShapes Go.WideShapes Go.ChangeAt Go.RowKit
set_option maxRecDepth 100000 in
theorem i64s_open{H:Type}{enc:TypeId × Value→H}{w:World}{spare:Nat→Bool}{held:Bool}{r:Reach}{b0:Nat}{v:Value}{d:DataW H}{p:List MemPlace}(hval:Value.okWide Tryz.prog w r b0 23 v)
  (h:∃ fuel,DataW.trod enc Tryz.prog w 0 spare held fuel 23 v.cells.toList=some (d,p)):∃ a cp l,v=.slice a l.length cp∧zq w 1 zI a l∧l.length≤cp∧l.length≤maxLen:=by
 obtain ⟨a,len,cp,rfl⟩:=okWide_slice Tryz.underlying23 hval
 obtain ⟨fuel,hf⟩:=h
 have hc:Tryz.prog.cellsOf 2=1:=by kernel_rfl
 obtain ⟨a',cp',l,e,q1,q2,q3,_⟩:=Q5 (G:=fun _ _=>True) zcJ Tryz.underlying23 (by rw[hc];omega) (zd8 Tryz.underlying2 (by kernel_rfl)) hf trivial
 simp[Value.cells] at e
 obtain ⟨rfl,rfl,rfl⟩:=e
 rw[hc] at q1
 exact ⟨a,cp,l,rfl,q1,q2,q3⟩
end Go.Proofs.YtgmbkiagdhjpnaaGreatDoor
