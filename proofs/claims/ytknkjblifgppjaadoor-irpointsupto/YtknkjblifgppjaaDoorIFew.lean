/-
  An instruction's arguments, bounded by the program's bound.
-/
import Derived.Test.YtknkjblifgppjaaDoorIProg
namespace Go.Proofs.YtknkjblifgppjaaDoor
/-- An instruction of P, by its place. -/
theorem FewP.at {N : Nat} {P : Pr8} (h : FewP N P) {f b i : Nat} (hf : f < P.funcs.length) (hb : b < (fun8 P f).blocks.length) (hi : i < (blk8 (fun8 P f) b).code.length) : (ins8 (blk8 (fun8 P f) b) i).args.length ≤ N :=
  h f (fun8 P f) (getD_get hf) b (blk8 (fun8 P f) b) (getD_get hb) i (ins8 (blk8 (fun8 P f) b) i) (ins_get hi)
theorem FewP.few {P : Pr8} (h : FewP 1048576 P) : Few8 P := fun _ _ hf hb _ hi => h.at hf hb hi
end Go.Proofs.YtknkjblifgppjaaDoor
