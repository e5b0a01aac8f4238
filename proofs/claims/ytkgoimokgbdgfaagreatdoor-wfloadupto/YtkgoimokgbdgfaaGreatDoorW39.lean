import Derived.Test.YtkgoimokgbdgfaaGreatDoorV20
import Derived.Test.YtkgoimokgbdgfaaGreatDoorW38

namespace Go.Proofs.YtkgoimokgbdgfaaGreatDoor
open Go.RowKit
open Go.Value (int pointer agg)
open Go.IntKind (i64)
set_option maxRecDepth 20000
set_option maxHeartbeats 8000000
theorem zn5.bnd{P:Pr8}(h:jl P=true):zn5 1048576 P:=by
 unfold jl zgA at h;simp only[Bool.and_eq_true] at h;obtain ⟨⟨-,h0,h1,h2,h3,h4⟩, -⟩:=h;refine ⟨fun j y hy=> ?_,fun j y hy=> ?_,fun j y hy=> ?_,fun j y hy=> ?_,fun j y hy=> ?_⟩
 ·have:=qS h0 hy
  unfold zed at this;simp at this;omega
 ·have:=qS h1 hy
  unfold zdO at this;simp at this;omega
 ·have:=qS h2 hy
  unfold ifB at this;simp at this;omega
 ·have:=qS h3 hy
  unfold imB at this;simp at this;omega
 ·have:=qS h4 hy
  unfold fnB at this;simp only[Bool.and_eq_true] at this;intro k z hz;have h5:=qS this.2.2 hz;unfold zdj at h5;intro m x hx;have h6:=qS h5 hx;unfold zfD at h6;simp at h6;show x.args.length≤1048576;omega
end Go.Proofs.YtkgoimokgbdgfaaGreatDoor
