/-
  No cell of these rows narrows 'for every input' (looked for: loops, veiled, ifaces, maps, wideKeys, modest, calm, conditions, laid).
  DERIVED. THE GIVEN ROWS OF THIS SEAT. 6 by the template 'for every input the law returns true; each argument reads behind the call as it read before'; 0 by the template 'total and deterministic' (their statements: YtokoebbghkbliaaTotals.lean).
  GIVEN WITH THE SEED: the statements are not yours to turn. If you find one false, say at which input.
  Laid BY PROGRAM, IN A SANDBOX (cutbox-rows.mjs): the forced cells as the released guide's own fill.sh prints them over the translation a6a3f50ff269ef44… (all of the seat's roots in one cut). By AI agents, Wed Nov 11 2026. No macro, syntax, notation, axiom, sorry.
-/
import Derived.Test.YtokoebbghkbliaaChecked
import GoSem.Claim
import GoSem.ClaimJoined
import GoSem.ClaimMapViews
import Derived.JoinedTies
import Derived.KernelRfl
namespace Go.Proofs.Ytokoebbghkbliaa
/- THE CELL 'sum', in the pinned program and in every row, IS THE sha256 OF THE DUMP (.gsa) THAT YtokoebbghkbliaaProg.lean LOADS. Nothing in Lean hashes anything: it is a label: what it is worth is what the hold of that sum in a sandbox is worth. -/
noncomputable def Try.pinned : Pinned := { name := "ytokoebbghkbliaa", sum := "a6a3f50ff269ef4481dadf961cd1ba951e0fb1486c441d26d146d5ee47f5d7b3", checked := Try.checked }
namespace Rows
def none {H : Type} : Left H := { results := [], args := [] }

/-- 'haruspexlaw2.UnionAll': WHATEVER THE INPUT: true; the input reads as it did. -/
def unionAllSpec : ChangeSpec := { name := "unionAll", fn := fun _ => fun
  | [d1, d2] => { results := [.lit (.bool true)], args := [d1, d2] }
  | _ => none }
def unionAllRow : OpenClaim := { program := "ytokoebbghkbliaa", sum := "a6a3f50ff269ef4481dadf961cd1ba951e0fb1486c441d26d146d5ee47f5d7b3", func := "haruspex/haruspexlaw2.UnionAll", spec := "unionAll", apart := false }
def UnionAllSaid : Prop := unionAllRow.holds Try.pinned (OpenSpec.ofChange unionAllSpec)

/-- ITS FALSE NEIGHBOUR: 'it returns false'. Refute it at one input. -/
def unionAllWrong : ChangeSpec := { name := "unionAll", fn := fun _ => fun
  | [d1, d2] => { results := [.lit (.bool false)], args := [d1, d2] }
  | _ => none }
def UnionAllWrongFalsely : Prop := unionAllRow.holds Try.pinned (OpenSpec.ofChange unionAllWrong)

/-- 'haruspexlaw2.UnionTurned': WHATEVER THE INPUT: true; the input reads as it did. -/
def unionTurnedSpec : ChangeSpec := { name := "unionTurned", fn := fun _ => fun
  | [d1, d2] => { results := [.lit (.bool true)], args := [d1, d2] }
  | _ => none }
def unionTurnedRow : OpenClaim := { program := "ytokoebbghkbliaa", sum := "a6a3f50ff269ef4481dadf961cd1ba951e0fb1486c441d26d146d5ee47f5d7b3", func := "haruspex/haruspexlaw2.UnionTurned", spec := "unionTurned", apart := false }
def UnionTurnedSaid : Prop := unionTurnedRow.holds Try.pinned (OpenSpec.ofChange unionTurnedSpec)

/-- ITS FALSE NEIGHBOUR: 'it returns false'. Refute it at one input. -/
def unionTurnedWrong : ChangeSpec := { name := "unionTurned", fn := fun _ => fun
  | [d1, d2] => { results := [.lit (.bool false)], args := [d1, d2] }
  | _ => none }
def UnionTurnedWrongFalsely : Prop := unionTurnedRow.holds Try.pinned (OpenSpec.ofChange unionTurnedWrong)

/-- 'haruspexlaw2.UnionNone': WHATEVER THE INPUT: true; the input reads as it did. -/
def unionNoneSpec : ChangeSpec := { name := "unionNone", fn := fun _ => fun
  | [] => { results := [.lit (.bool true)], args := [] }
  | _ => none }
def unionNoneRow : OpenClaim := { program := "ytokoebbghkbliaa", sum := "a6a3f50ff269ef4481dadf961cd1ba951e0fb1486c441d26d146d5ee47f5d7b3", func := "haruspex/haruspexlaw2.UnionNone", spec := "unionNone", apart := false }
def UnionNoneSaid : Prop := unionNoneRow.holds Try.pinned (OpenSpec.ofChange unionNoneSpec)

/-- ITS FALSE NEIGHBOUR: 'it returns false'. Refute it at one input. -/
def unionNoneWrong : ChangeSpec := { name := "unionNone", fn := fun _ => fun
  | [] => { results := [.lit (.bool false)], args := [] }
  | _ => none }
def UnionNoneWrongFalsely : Prop := unionNoneRow.holds Try.pinned (OpenSpec.ofChange unionNoneWrong)

/-- 'haruspexlaw2.UnionFind': WHATEVER THE INPUT: true; the input reads as it did. -/
def unionFindSpec : ChangeSpec := { name := "unionFind", fn := fun _ => fun
  | [d1, d2, d3, d4] => { results := [.lit (.bool true)], args := [d1, d2, d3, d4] }
  | _ => none }
def unionFindRow : OpenClaim := { program := "ytokoebbghkbliaa", sum := "a6a3f50ff269ef4481dadf961cd1ba951e0fb1486c441d26d146d5ee47f5d7b3", func := "haruspex/haruspexlaw2.UnionFind", spec := "unionFind", apart := false }
def UnionFindSaid : Prop := unionFindRow.holds Try.pinned (OpenSpec.ofChange unionFindSpec)

/-- ITS FALSE NEIGHBOUR: 'it returns false'. Refute it at one input. -/
def unionFindWrong : ChangeSpec := { name := "unionFind", fn := fun _ => fun
  | [d1, d2, d3, d4] => { results := [.lit (.bool false)], args := [d1, d2, d3, d4] }
  | _ => none }
def UnionFindWrongFalsely : Prop := unionFindRow.holds Try.pinned (OpenSpec.ofChange unionFindWrong)

/-- 'haruspexlaw2.UnionChain': WHATEVER THE INPUT: true; the input reads as it did. -/
def unionChainSpec : ChangeSpec := { name := "unionChain", fn := fun _ => fun
  | [d] => { results := [.lit (.bool true)], args := [d] }
  | _ => none }
def unionChainRow : OpenClaim := { program := "ytokoebbghkbliaa", sum := "a6a3f50ff269ef4481dadf961cd1ba951e0fb1486c441d26d146d5ee47f5d7b3", func := "haruspex/haruspexlaw2.UnionChain", spec := "unionChain", apart := false }
def UnionChainSaid : Prop := unionChainRow.holds Try.pinned (OpenSpec.ofChange unionChainSpec)

/-- ITS FALSE NEIGHBOUR: 'it returns false'. Refute it at one input. -/
def unionChainWrong : ChangeSpec := { name := "unionChain", fn := fun _ => fun
  | [d] => { results := [.lit (.bool false)], args := [d] }
  | _ => none }
def UnionChainWrongFalsely : Prop := unionChainRow.holds Try.pinned (OpenSpec.ofChange unionChainWrong)

/-- 'haruspexlaw2.UnionOwn': WHATEVER THE INPUT: true; the input reads as it did. -/
def unionOwnSpec : ChangeSpec := { name := "unionOwn", fn := fun _ => fun
  | [d1, d2] => { results := [.lit (.bool true)], args := [d1, d2] }
  | _ => none }
def unionOwnRow : OpenClaim := { program := "ytokoebbghkbliaa", sum := "a6a3f50ff269ef4481dadf961cd1ba951e0fb1486c441d26d146d5ee47f5d7b3", func := "haruspex/haruspexlaw2.UnionOwn", spec := "unionOwn", apart := false }
def UnionOwnSaid : Prop := unionOwnRow.holds Try.pinned (OpenSpec.ofChange unionOwnSpec)

/-- ITS FALSE NEIGHBOUR: 'it returns false'. Refute it at one input. -/
def unionOwnWrong : ChangeSpec := { name := "unionOwn", fn := fun _ => fun
  | [d1, d2] => { results := [.lit (.bool false)], args := [d1, d2] }
  | _ => none }
def UnionOwnWrongFalsely : Prop := unionOwnRow.holds Try.pinned (OpenSpec.ofChange unionOwnWrong)

/- THE SECOND FORM. 'bulk': how many values and letters a reading holds, each counted each time it is reached (what is shared counts as often as it is met; a slice's spare places count too). A statement '..UptoSaid' is the law's where the arguments, and the package variables that the reading takes, are together of bulk at most 1048576: NARROWER than '..Said'. Prove '..Said' where nothing that the law and all that it calls make is longer than what came in: it says more and counts as full. Else prove '..UptoSaid'. A law counts once. -/
mutual
def uptoBulk {H : Type} : DataW H → Nat
  | .lit (.string bytes) => bytes.length + 1
  | .lit _ => 1
  | .nil => 1
  | .ptr d => uptoBulk d + 1
  | .slice elems spare => uptoBulkAll elems + uptoBulkAll spare + 1
  | .agg parts => uptoBulkAll parts + 1
  | .iface _ d => uptoBulk d + 1
  | .map entries => uptoBulkEntries entries + 1
  | .held _ => 1
def uptoBulkAll {H : Type} : List (DataW H) → Nat
  | [] => 0
  | d :: r => uptoBulk d + uptoBulkAll r
def uptoBulkEntries {H : Type} : List (Lit × DataW H) → Nat
  | [] => 0
  | x :: r => uptoBulkEntry x + uptoBulkEntries r
def uptoBulkEntry {H : Type} : Lit × DataW H → Nat
  | (.string bytes, d) => bytes.length + uptoBulk d + 1
  | (_, d) => uptoBulk d + 1
 end
def uptoSmall : (H : Type) → List (DataW H) → Bool := fun _ ds => decide (uptoBulkAll ds ≤ 1048576)
def OpenSpec.upto (s : _root_.Go.ChangeSpec) : _root_.Go.OpenSpec := { _root_.Go.OpenSpec.ofChange s with cond := some uptoSmall }

/-- 'haruspexlaw2.UnionAll', WHERE WHAT IT READS IS OF BULK AT MOST 1048576: true; the input reads as it did. -/
def unionAllUptoRow : OpenClaim := { program := "ytokoebbghkbliaa", sum := "a6a3f50ff269ef4481dadf961cd1ba951e0fb1486c441d26d146d5ee47f5d7b3", func := "haruspex/haruspexlaw2.UnionAll", spec := "unionAll", apart := false, narrowed := true }
def UnionAllUptoSaid : Prop := unionAllUptoRow.holds Try.pinned (OpenSpec.upto unionAllSpec)

/-- 'haruspexlaw2.UnionTurned', WHERE WHAT IT READS IS OF BULK AT MOST 1048576: true; the input reads as it did. -/
def unionTurnedUptoRow : OpenClaim := { program := "ytokoebbghkbliaa", sum := "a6a3f50ff269ef4481dadf961cd1ba951e0fb1486c441d26d146d5ee47f5d7b3", func := "haruspex/haruspexlaw2.UnionTurned", spec := "unionTurned", apart := false, narrowed := true }
def UnionTurnedUptoSaid : Prop := unionTurnedUptoRow.holds Try.pinned (OpenSpec.upto unionTurnedSpec)

/-- 'haruspexlaw2.UnionNone', WHERE WHAT IT READS IS OF BULK AT MOST 1048576: true; the input reads as it did. -/
def unionNoneUptoRow : OpenClaim := { program := "ytokoebbghkbliaa", sum := "a6a3f50ff269ef4481dadf961cd1ba951e0fb1486c441d26d146d5ee47f5d7b3", func := "haruspex/haruspexlaw2.UnionNone", spec := "unionNone", apart := false, narrowed := true }
def UnionNoneUptoSaid : Prop := unionNoneUptoRow.holds Try.pinned (OpenSpec.upto unionNoneSpec)

/-- 'haruspexlaw2.UnionFind', WHERE WHAT IT READS IS OF BULK AT MOST 1048576: true; the input reads as it did. -/
def unionFindUptoRow : OpenClaim := { program := "ytokoebbghkbliaa", sum := "a6a3f50ff269ef4481dadf961cd1ba951e0fb1486c441d26d146d5ee47f5d7b3", func := "haruspex/haruspexlaw2.UnionFind", spec := "unionFind", apart := false, narrowed := true }
def UnionFindUptoSaid : Prop := unionFindUptoRow.holds Try.pinned (OpenSpec.upto unionFindSpec)

/-- 'haruspexlaw2.UnionChain', WHERE WHAT IT READS IS OF BULK AT MOST 1048576: true; the input reads as it did. -/
def unionChainUptoRow : OpenClaim := { program := "ytokoebbghkbliaa", sum := "a6a3f50ff269ef4481dadf961cd1ba951e0fb1486c441d26d146d5ee47f5d7b3", func := "haruspex/haruspexlaw2.UnionChain", spec := "unionChain", apart := false, narrowed := true }
def UnionChainUptoSaid : Prop := unionChainUptoRow.holds Try.pinned (OpenSpec.upto unionChainSpec)

/-- 'haruspexlaw2.UnionOwn', WHERE WHAT IT READS IS OF BULK AT MOST 1048576: true; the input reads as it did. -/
def unionOwnUptoRow : OpenClaim := { program := "ytokoebbghkbliaa", sum := "a6a3f50ff269ef4481dadf961cd1ba951e0fb1486c441d26d146d5ee47f5d7b3", func := "haruspex/haruspexlaw2.UnionOwn", spec := "unionOwn", apart := false, narrowed := true }
def UnionOwnUptoSaid : Prop := unionOwnUptoRow.holds Try.pinned (OpenSpec.upto unionOwnSpec)

end Rows
end Go.Proofs.Ytokoebbghkbliaa
