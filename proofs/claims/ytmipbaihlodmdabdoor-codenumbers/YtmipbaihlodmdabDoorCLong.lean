/-
  CodeLong: 20,000 bytes may be, more are refused.
-/
import Derived.Test.YtmipbaihlodmdabDoorCBg
namespace Go.Proofs.YtmipbaihlodmdabDoor
open Go.RowKit

def prN (l : List Int) : Pr8 := ⟨[], [], [l], [], [], 0⟩
theorem prN_len (l : List Int) : (prE (prN l)).length ≤ 70 + (l.flatMap numE).length + (numE (l.length : Int)).length := by
  have e : prE (prN l) = numE 0 ++ numE 0 ++ numE 1 ++ numE (l.length : Int) ++ l.flatMap numE ++ numE 0 ++ numE 0 ++ numE 0 := by
    simp [prE, pairE, tyssE, intsE, listE, sgsE, ifsE, imsE, fusE, prN]
  rw [e]
  simp only [List.length_append]
  have h0 := numE_len (n := 0) (by unfold b64; omega)
  have h1 := numE_len (n := 1) (by unfold b64; omega)
  omega
theorem flat_le {l : List Int} (h : ∀ x, x ∈ l → b64 x) : (l.flatMap numE).length ≤ 10 * l.length := by
  induction l with
  | nil => simp
  | cons x l ih =>
    rw [List.flatMap_cons, List.length_append, List.length_cons]
    have h1 := numE_len (h x (List.mem_cons_self ..))
    have h2 := ih (fun y hy => h y (List.mem_cons_of_mem _ hy))
    omega
theorem prcN {w : World} {g1 g2 n cp : Nat} {a : Option Addr} {l : List Int} (hn : n = l.length) (hl : IntsV w (.slice a l.length cp) l)
    (h1 : w.heap[g1]? = some (.cells #[.slice a n cp] 26 (0, 0)))
    (h2 : w.heap[g2]? = some (.cells #[.slice none 0 0, .slice none 0 0, .slice (some ⟨g1, 0, none⟩) 1 1, .slice none 0 0, .slice none 0 0, .int .i64 0] 33 (0, 0))) : PrC w g2 0 (prN l) := by
  subst hn
  have b0 : b64 0 := by unfold b64; omega
  have hs : IntsC w g1 0 l := SlV.cell hl (hcell h1 0)
  exact ⟨sl_nil (hcell h2 0), sl_nil (hcell h2 1), sl_one (hcell h2 2) (Nat.le_refl _) hs, sl_nil (hcell h2 3), sl_nil (hcell h2 4), ⟨hcell h2 5, b0⟩⟩
end Go.Proofs.YtmipbaihlodmdabDoor
