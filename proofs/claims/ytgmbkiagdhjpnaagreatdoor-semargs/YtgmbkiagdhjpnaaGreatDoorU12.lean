import Derived.Test.YtgmbkiagdhjpnaaGreatDoorCards
import Derived.Test.YtgmbkiagdhjpnaaGreatDoorTie
import Derived.ProofKit
import Derived.OpenShut
import Derived.ChangeOld
import Derived.Deep.DeepHandedRow
import Derived.Lib.LaidTab
import Derived.LaidHandle
import Derived.Stop.LaidErr
import Derived.Test.YtgmbkiagdhjpnaaGreatDoorU03
import Derived.Test.YtgmbkiagdhjpnaaGreatDoorU07

namespace Go.Proofs.YtgmbkiagdhjpnaaGreatDoor
open Go.ChangeAt Go.ChangeShapes Go.RowKit Go.WideShapes
open Go.Value (int pointer agg)
open Go.IntKind (i64)
theorem za.below{L:List Nat}{w w':World}(h:za L w w'){B:Nat}(hB:B≤w.heap.size)(hL:∀ x,x∈L→B≤x):Below B w w':=
 ⟨h.os,h.tape,h.output,h.size,fun k hk=>h.block k (by omega) (fun hx=>by have:=hL k hx;omega)⟩
theorem own:ownKnob Tryz.prog.godebug=none:=by kernel_rfl
theorem zmn:laidOutB Tryz.prog=true:=by kernel_rfl
theorem zmo:Tryz.prog.globalNamed "errors.errorType" = some 0:=by kernel_rfl
theorem zhd:(Tryz.prog.cutTypes.find? (·.1 == "internal/reflectlite.rtype")).map (·.2)=some 282:=by kernel_rfl
theorem zeO:Tryz.prog.types.size=332:=by kernel_rfl
theorem zgw:((List.range 332).filter fun t=>Tryz.prog.rowNamed t [101,114,114,111,114])=[92]:=by kernel_rfl
theorem znd:Tryz.prog.globalNamed "math/bits.deBruijn64tab" = some 1:=by kernel_rfl
theorem zhu:(Tryz.prog.globals[1]?).map (·.type)=some 301:=by kernel_rfl
theorem zhy:Tryz.prog.cellsOf 301=64:=by kernel_rfl
theorem zj9:Tryz.prog.cellsOf 5=1:=by kernel_rfl
def zbg:List Int:=[0,1,56,2,57,49,28,3,61,58,42,50,38,29,17,4,62,47,59,36,45,43,51,22,53,39,33,30,24,18,12,5,63,55,48,27,60,41,37,16,46,35,44,21,52,32,23,11,54,26,40,15,34,20,31,10,25,14,19,9,13,8,7,6]
theorem zkp:∀ j,j<64→zbg.getD j 0=((Go.Lib.deBruijn64tab.getD j 0:Nat):Int):=by decide +kernel
theorem zaA{W:World}(h:laidMetH Tryz.prog [("math/bits.deBruijn64tab",Rows.laid_math_bits_deBruijn64tab),("errors.errorType",Rows.laid_errors_errorType)] W):zbq W:=by
 have h':laidMet Tryz.prog [("math/bits.deBruijn64tab",Rows.laid_math_bits_deBruijn64tab)] W∧handlesMet Tryz.prog [("errors.errorType",Rows.laid_errors_errorType)] W:=h;constructor;obtain ⟨name,u,ty,e1,e2,e3,e4,e5⟩:=h'.2 _ (List.mem_singleton.2 rfl);have en:name=[101,114,114,111,114]:=(Option.some.inj e1).symm;subst en;obtain rfl:=Option.some.inj (zhd.symm.trans e2);have hm:ty∈(List.range 332).filter fun t=>Tryz.prog.rowNamed t [101,114,114,111,114]:=List.mem_filter.2 ⟨List.mem_range.2 (by rw[← zeO];exact e3),e4⟩;rw[zgw] at hm;obtain rfl:=List.mem_singleton.1 hm;have hh:typeHandle Tryz.prog 92=pointer (some ⟨2,92,none⟩):=by kernel_rfl
 rw[hh] at e5;simpa using World.var?_cell zmo e5 0
theorem zaa{W:World}(h:laidMetH Tryz.prog [("math/bits.deBruijn64tab",Rows.laid_math_bits_deBruijn64tab),("errors.errorType",Rows.laid_errors_errorType)] W):jb W:=by
 have h':laidMet Tryz.prog [("math/bits.deBruijn64tab",Rows.laid_math_bits_deBruijn64tab)] W∧handlesMet Tryz.prog [("errors.errorType",Rows.laid_errors_errorType)] W:=h;have ht:Lib.TabIs Tryz.prog W "math/bits.deBruijn64tab" .u8 zbg:=Lib.tabIs_of_head (rest:=[]) znd zhu Tryz.underlying301 Tryz.underlying5 zj9 zhy h'.1;intro j hj;have hc:=ht.cell znd j hj;rw[zkp j hj] at hc;exact hc
def zcm(cs:Array Value):Obj→Obj
 | .cells _ t frozen=>.cells cs t frozen
 | o=>o
def Q3(P:Program)(os:Os):World:=
 { World.holding P os ⟨#[],#[],[]⟩ with heap:=((World.holding P os ⟨#[],#[],[]⟩).heap.modify 0 (zcm #[.iface 282 (agg #[pointer (some ⟨2,92,none⟩)])])).modify 1 (zcm (zbg.map fun n=>Value.int .u8 n).toArray) }
end Go.Proofs.YtgmbkiagdhjpnaaGreatDoor
