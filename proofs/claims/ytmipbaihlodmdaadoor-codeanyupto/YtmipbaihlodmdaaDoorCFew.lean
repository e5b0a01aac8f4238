/-
  A small program of short lists has few bytes.
-/
import Derived.Test.YtmipbaihlodmdaaDoorCSm
import Derived.Test.YtmipbaihlodmdaaDoorCOpen
import Derived.Test.YtmipbaihlodmdaaDoorCBg
namespace Go.Proofs.YtmipbaihlodmdaaDoor
open Go.RowKit

theorem list_le {α : Type} {E : α → List UInt8} {l : List α} {M K : Nat} (hb : b64 (l.length : Int)) (h : ∀ x, x ∈ l → (E x).length ≤ M) (hK : l.length ≤ K) : (listE E l).length ≤ 10 + K * M := by
  have h1 : (l.flatMap E).length ≤ l.length * M := by
    clear hb hK
    induction l with
    | nil => simp
    | cons x l ih =>
      rw [List.flatMap_cons, List.length_append, List.length_cons, Nat.succ_mul]
      have h1 := h x (List.mem_cons_self ..)
      have h2 := ih (fun y hy => h y (List.mem_cons_of_mem _ hy))
      omega
  have h2 := numE_len hb
  have h3 : l.length * M ≤ K * M := Nat.mul_le_mul_right M hK
  rw [listE, List.length_append]
  omega
theorem at_of {α : Type} {l : List α} {x : α} (h : x ∈ l) : ∃ j, l[j]? = some x ∧ j < l.length := by
  obtain ⟨i, hi, e⟩ := List.getElem_of_mem h
  exact ⟨i, by rw [List.getElem?_eq_getElem hi, e], hi⟩
theorem ty_le {x : Int × Int} (h : tyOk x) : (tyE x).length ≤ 20 := by
  rw [tyE, pairE, List.length_append]
  have h1 := numE_len h.1
  have h2 := numE_len h.2
  omega
theorem few_le {P : Pr8} (hok : prOk P) (hz : Sz9 P) (hf : FewP 1048576 P) : (prE P).length ≤ 35184372088832 := by
  obtain ⟨o1, o2, o3, o4, o5, o6⟩ := hok
  obtain ⟨f1, f2, f3, f4, f5⟩ := hf
  have a1 : (tyssE P.recs).length ≤ 10 + 12 * 20971530 := list_le o1.1 (fun x hx => by
    obtain ⟨j, hj, _⟩ := at_of hx
    exact Nat.le_trans (list_le (o1.2 x hx).1 (fun y hy => ty_le ((o1.2 x hx).2 y hy)) (f1 j x hj)) (by omega)) hz.recs
  have a2 : (sgsE P.sigs).length ≤ 10 + 12 * 20971550 := list_le o2.1 (fun x hx => by
    obtain ⟨j, hj, _⟩ := at_of hx
    have h1 : (tysE x.1).length ≤ 10 + 1048576 * 20 := list_le (o2.2 x hx).1.1 (fun y hy => ty_le ((o2.2 x hx).1.2 y hy)) (f2 j x hj)
    have h2 := ty_le (o2.2 x hx).2
    rw [sgE, pairE, List.length_append]
    omega) hz.sigs
  have a3 : (ifsE P.ifs).length ≤ 10 + 12 * 10485770 := list_le o3.1 (fun x hx => by
    obtain ⟨j, hj, _⟩ := at_of hx
    exact Nat.le_trans (list_le (o3.2 x hx).1 (fun y hy => numE_len ((o3.2 x hx).2 y hy)) (f3 j x hj)) (by omega)) hz.ifs
  have a4 : (imsE P.ims).length ≤ 10 + 14 * 10485790 := list_le o4.1 (fun x hx => by
    obtain ⟨j, hj, _⟩ := at_of hx
    have h1 : (intsE x.2.2).length ≤ 10 + 1048576 * 10 := list_le (o4.2 x hx).2.2.1 (fun y hy => numE_len ((o4.2 x hx).2.2.2 y hy)) (f4 j x hj)
    have h2 := numE_len (o4.2 x hx).1
    have h3 := numE_len (o4.2 x hx).2.1
    rw [imE, pairE, pairE, List.length_append, List.length_append]
    omega) hz.ims
  have a5 : (fusE P.funcs).length ≤ 10 + 12 * 21900000000 := list_le o5.1 (fun x hx => by
    obtain ⟨j, hj, hjl⟩ := at_of hx
    have ho := o5.2 x hx
    have ex : fun8 P j = x := by
      have := getD_get (d := ⟨0, [], []⟩) hjl
      rw [hj] at this
      exact (Option.some.inj this).symm
    have hr : x.regs.length ≤ 20 := by have := hz.regs j hjl; rw [ex] at this; exact this
    have hk : x.blocks.length ≤ 14 := by have := hz.sm.bk j hjl; rw [ex] at this; exact this
    have h1 : (tysE x.regs).length ≤ 10 + 20 * 20 := list_le ho.2.1.1 (fun y hy => ty_le (ho.2.1.2 y hy)) hr
    have h2 := numE_len ho.1
    have h3 : (blsE x.blocks).length ≤ 10 + 14 * 1562400000 := list_le ho.2.2.1 (fun y hy => by
      obtain ⟨i, hi, hil⟩ := at_of hy
      have hb := ho.2.2.2 y hy
      have ey : blk8 (fun8 P j) i = y := by
        rw [ex]
        have := getD_get (d := ⟨[], 0, 0, 0, 0⟩) hil
        rw [hi] at this
        exact (Option.some.inj this).symm
      have hc : y.code.length ≤ 149 := by have := hz.sm.code hjl (b := i) (by rw [ex]; exact hil); rw [ey] at this; exact this
      have h4 : (insE y.code).length ≤ 10 + 149 * 10485820 := list_le hb.1.1 (fun z hz9 => by
        obtain ⟨m, hm, _⟩ := at_of hz9
        have hn := hb.1.2 z hz9
        have h5 : (intsE z.args).length ≤ 10 + 1048576 * 10 := list_le hn.2.2.2.2.2.1 (fun u hu => numE_len (hn.2.2.2.2.2.2 u hu)) (f5 j x hj i y hi m z hm)
        have g1 := numE_len hn.1
        have g2 := numE_len hn.2.1
        have g3 := numE_len hn.2.2.1
        have g4 := numE_len hn.2.2.2.1
        have g5 := numE_len hn.2.2.2.2.1
        simp only at g1 g2 g3 g4 g5
        simp only [inE, pairE, List.length_append]
        omega) hc
      have g1 := numE_len hb.2.1
      have g2 := numE_len hb.2.2.1
      have g3 := numE_len hb.2.2.2.1
      have g4 := numE_len hb.2.2.2.2
      simp only at g1 g2 g3 g4
      simp only [blE, pairE, List.length_append]
      omega) hk
    simp only at h2
    simp only [fuE, pairE, List.length_append]
    omega) hz.sm.fn
  have a6 := numE_len o6
  simp only at a6
  simp only [prE, pairE, List.length_append]
  omega
end Go.Proofs.YtmipbaihlodmdaaDoor
