/-
  A program in place while its main's code grows: its registers, what lies elsewhere.
-/
import Derived.Test.YtgmbkiagdhjpnaaGreatDoorUSGrow
namespace Go.Proofs.YtgmbkiagdhjpnaaGreatDoor
open Go.RowKit
theorem GrI.mid{B:Nat}{w wa w5:World}{q nr:Nat}{rv cv:Value}{L:List In8}(h:GrI B w q rv cv nr L)(ka:za [] w wa)(hg:wa.grownBy w5 cv.ownBlock){wS:World}(hS:wS.heap.size=B)(k:za [] wS w):za [] wS w5:=
 (k.quiet ka).trans (za.grown cv.ownBlock.toList hg (fun k hk=>by rw[hk];simp)) (fun x hx hl=>by
  have:=own_ge (h.quiet ka).own (b:=x) (by simpa using hx)
  omega)
theorem GrI.reg{B:Nat}{w wa w5:World}{q:Nat}{rv cv:Value}{L:List In8}{g cap:Nat}(h:GrI B w q rv cv 1 L)(ka:za [] w wa)(ho:w5.ownsRow B 60 2 (.slice (some ⟨g,0,none⟩) 2 cap) 2 [.int .i64 0,.int .i64 0,.int .i64 0,.int .i64 0])(hg:wa.grownBy w5 rv.ownBlock):
  w5.heap[q+4]? = some (.cells #[.int .i64 0,rv,.slice (some ⟨q+3,0,none⟩) 1 1] 50 (0,0))∧GrI B (w5.setCell ⟨q+4,1,none⟩ (.slice (some ⟨g,0,none⟩) 2 cap)) q (.slice (some ⟨g,0,none⟩) 2 cap) cv 2 L∧∀ wS:World,wS.heap.size=B→za [] wS w→za [] wS (w5.setCell ⟨q+4,1,none⟩ (.slice (some ⟨g,0,none⟩) 2 cap)):=by
 have h9:=h.quiet ka
 have kg:za rv.ownBlock.toList wa w5:=za.grown _ hg (fun k hk=>by rw[hk];simp)
 have far:∀ (b:Nat) (cs:Array Value) (U:TypeId),wa.heap[b]? = some (.cells cs U (0,0))→60≠U→w5.heap[b]? = some (.cells cs U (0,0)):=fun b cs U hb hne=>by
  rw[kg.block b (zt hb) (fun hm=>zdU h9.rg hb hne (by simpa using hm))]
  exact hb
 have g0:=far _ _ _ h9.h0 (by decide)
 have g3:=far _ _ _ h9.h3 (by decide)
 have g4:=far _ _ _ h9.h4 (by decide)
 have g5:=far _ _ _ h9.h5 (by decide)
 have gow:w5.ownsRow B 65 6 cv L.length (insCs L):=zh h9.own kg (fun b hb hm=>rows_apart h9.own h9.rg (by decide) hb (by simpa using hm))
 have ks:za [q+4] w5 (w5.setCell ⟨q+4,1,none⟩ (.slice (some ⟨g,0,none⟩) 2 cap)):=za.setCell _ _ _ _ (List.mem_singleton.2 rfl)
 refine ⟨g4,⟨?_,?_,heap_setCell_same _ _ 1 _ _ _ g4,?_,?_,?_,h.new⟩,fun wS hS k=> ?_⟩
 ·exact (heap_setCell_other _ _ _ _ (by show q≠q+4;omega)).trans g0
 ·exact (heap_setCell_other _ _ _ _ (by show q+3≠q+4;omega)).trans g3
 ·exact (heap_setCell_other _ _ _ _ (by show q+5≠q+4;omega)).trans g5
 ·exact zh ho ks (fun b hb hm=>zdU ho g4 (by decide) (by rw[hb,List.mem_singleton.1 hm]))
 ·exact zh gow ks (fun b hb hm=>zdU gow g4 (by decide) (by rw[hb,List.mem_singleton.1 hm]))
 ·refine ((k.quiet ka).trans kg (fun x hx hl=> ?_)).trans ks (fun x hx hl=> ?_)
  ·have:=own_ge h9.rg (b:=x) (by simpa using hx)
   omega
  ·rw[List.mem_singleton.1 hx] at hl
   have:=h.new
   omega
theorem gunder_ty:Tryz.prog.underlying 47=some (.slice 60):=by kernel_rfl
theorem ginfo_ty:Tryz.prog.info? 60=some Tryz.t60:=by kernel_rfl
theorem gzero_ty:Tryz.t60.zero=some (.agg #[.int .i64 0,.int .i64 0]):=by kernel_rfl
theorem gsize_ty:Tryz.t60.size=2:=by kernel_rfl
theorem gbytes_ty:Tryz.t60.bytes=16:=by kernel_rfl
end Go.Proofs.YtgmbkiagdhjpnaaGreatDoor
