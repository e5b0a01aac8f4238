/-
  A program of few bytes has short lists.
-/
import Derived.Test.YtmipbaihlodmdaaDoorJTxt
import Derived.Test.YtmipbaihlodmdaaDoorCBg
namespace Go.Proofs.YtmipbaihlodmdaaDoor
open Go.RowKit

theorem el_le {α : Type} {E : α → List UInt8} {l : List α} {x : α} (h : x ∈ l) : (E x).length ≤ (listE E l).length := by
  have h1 : (E x).length ≤ (l.flatMap E).length := by
    induction l with
    | nil => cases h
    | cons y l ih =>
      rw [List.flatMap_cons, List.length_append]
      rcases List.mem_cons.1 h with rfl | h
      · omega
      · have := ih h; omega
  rw [listE, List.length_append]
  omega
theorem getD_mem {α : Type} {l : List α} {k : Nat} {d : α} (h : k < l.length) : l.getD k d ∈ l := List.mem_of_getElem? (getD_get h)
theorem few8_of {P : Pr8} (h : (prE P).length ≤ 20000) : Few8 P := by
  intro f b hf hb i hi
  have h1 : (fuE (fun8 P f)).length ≤ (fusE P.funcs).length := el_le (getD_mem hf)
  have h2 : (blE (blk8 (fun8 P f) b)).length ≤ (blsE (fun8 P f).blocks).length := el_le (getD_mem hb)
  have h3 : (inE (ins8 (blk8 (fun8 P f) b) i)).length ≤ (insE (blk8 (fun8 P f) b).code).length := el_le (getD_mem hi)
  generalize ins8 (blk8 (fun8 P f) b) i = x at *
  generalize blk8 (fun8 P f) b = y at *
  generalize fun8 P f = z at *
  have h4 : x.args.length ≤ (intsE x.args).length := by
    rw [intsE, listE, List.length_append]
    have := flat_len numE_pos x.args
    omega
  have h5 : (intsE x.args).length ≤ (inE x).length := by simp only [inE, pairE, List.length_append]; omega
  have h6 : (insE y.code).length ≤ (blE y).length := by simp only [blE, pairE, List.length_append]; omega
  have h7 : (blsE z.blocks).length ≤ (fuE z).length := by simp only [fuE, pairE, List.length_append]; omega
  have h8 : (fusE P.funcs).length ≤ (prE P).length := by simp only [prE, pairE, List.length_append]; omega
  omega
end Go.Proofs.YtmipbaihlodmdaaDoor
