/-
  AssignDiamond, plain: a program of two branches, which registers they assign.
-/
import Derived.Test.YtmebkeidpklcbaaDoorZ35
import Derived.Test.YtmebkeidpklcbaaDoorZ34
import Derived.Test.YtmebkeidpklcbaaDoorZ09
namespace Go.Proofs.YtmebkeidpklcbaaDoor
open Go.RowKit

def ik (k : Nat) : In8 := ⟨1, (k : Int) + 1, 0, 0, 0, []⟩
def fuD (cl cr : List Nat) (g : Int) : Fu8 := ⟨0, [(0, 0), (0, 0), (0, 0), (0, 0), (0, 0), (0, 0)], [⟨[in1], 2, 0, 1, 2⟩, ⟨cl.map ik, 1, 0, 3, 0⟩, ⟨cr.map ik, 1, 0, 3, 0⟩, ⟨[], 3, g, 0, 0⟩]⟩
def prD (cl cr : List Nat) (g : Int) : Pr8 := ⟨[], [([], 0, 0)], [], [], [fuD cl cr g], 0⟩
theorem fun_D (cl cr : List Nat) (g : Int) : fun8 (prD cl cr g) 0 = fuD cl cr g := rfl
theorem flow_D (cl cr : List Nat) (g : Int) : flowF (fuD cl cr g) = [[1, 2], [3], [3], []] := rfl
theorem ik_defs (k r : Nat) : defsR (ik k) r = decide (k + 1 = r) := by
  unfold defsR
  have h1 : isDef (ik k) = true := by unfold isDef ik; simp
  rw [h1, Bool.true_and, decide_eq_decide]
  show (k : Int) + 1 = (r : Int) ↔ k + 1 = r
  omega
theorem any_ik (cl : List Nat) (k : Nat) : ((cl.map ik).any fun i => defsR i (k + 1)) = decide (k ∈ cl) := by
  rw [Bool.eq_iff_iff, List.any_eq_true, decide_eq_true_eq]
  constructor
  · rintro ⟨x, hx, hd⟩
    obtain ⟨j, hj, rfl⟩ := List.mem_map.1 hx
    rw [ik_defs, decide_eq_true_eq] at hd
    obtain rfl : j = k := by omega
    exact hj
  · intro h
    exact ⟨ik k, List.mem_map.2 ⟨k, h, rfl⟩, by rw [ik_defs]; simp⟩
theorem df_ik {cl : List Nat} {k : Nat} (hk : k < 5) : dfS (cl.map ik) none_ (k + 1) = decide (k ∈ cl) := by
  rw [dfS_iff _ _ _ (by omega), any_ik]
  rfl
def gD (x y : Bool) : List (List Nat) := [[1, 2], if x then [] else [3], if y then [] else [3], []]
theorem stop_D {cl cr : List Nat} {g : Int} {k : Nat} (hk : k < 5) : stopG (flowF (fuD cl cr g)) (fun b => dfS (blk8 (fuD cl cr g) b).code none_) (k + 1) = gD (decide (k ∈ cl)) (decide (k ∈ cr)) := by
  have e0 : dfS (blk8 (fuD cl cr g) 0).code none_ (k + 1) = false := by
    show dfS [in1] none_ (k + 1) = false
    rw [dfS_iff _ _ _ (by omega)]
    have : defsR in1 (k + 1) = false := by
      unfold defsR
      rw [decide_eq_false (show ¬ in1.dst = ((k + 1 : Nat) : Int) by show ¬ (0 : Int) = _; omega), Bool.and_false]
    simp [this, none_]
  have e1 : dfS (blk8 (fuD cl cr g) 1).code none_ (k + 1) = decide (k ∈ cl) := df_ik hk
  have e2 : dfS (blk8 (fuD cl cr g) 2).code none_ (k + 1) = decide (k ∈ cr) := df_ik hk
  have e3 : dfS (blk8 (fuD cl cr g) 3).code none_ (k + 1) = false := rfl
  unfold stopG
  rw [flow_D]
  show [if dfS (blk8 (fuD cl cr g) 0).code none_ (k + 1) then [] else [1, 2], if dfS (blk8 (fuD cl cr g) 1).code none_ (k + 1) then [] else [3], if dfS (blk8 (fuD cl cr g) 2).code none_ (k + 1) then [] else [3], if dfS (blk8 (fuD cl cr g) 3).code none_ (k + 1) then [] else []] = _
  rw [e0, e1, e2, e3]
  rfl
theorem stop_D0 (cl cr : List Nat) (g : Int) : rch (stopG (flowF (fuD cl cr g)) (fun b => dfS (blk8 (fuD cl cr g) b).code none_) 0) [0] 3 = false := by
  have e0 : dfS (blk8 (fuD cl cr g) 0).code none_ 0 = true := (show dfS [in1] none_ 0 = true by decide +kernel)
  cases e : rch (stopG (flowF (fuD cl cr g)) (fun b => dfS (blk8 (fuD cl cr g) b).code none_) 0) [0] 3 with
  | false => rfl
  | true =>
    exfalso
    have hb : (fuD cl cr g).blocks.length = 4 := rfl
    have p := (bare_iff (F := fuD cl cr g) (by rw [hb]; decide) (by rw [hb]; decide) 0 3).1 e
    have : (3 : Nat) = 0 := by
      refine p.carry (C := fun u => u = 0) ?_ rfl
      intro u hu _ v hv _
      subst hu
      rw [stop_nb (by rw [hb]; decide), e0, if_pos rfl] at hv
      cases hv
    cases this
theorem rch_D (x y : Bool) : rch (gD x y) [0] 3 = !(x && y) ∧ rch (gD x y) [0] 1 = true := by cases x <;> cases y <;> exact ⟨by decide +kernel, by decide +kernel⟩
theorem par_D (cl cr : List Nat) (g : Int) : parN (prD cl cr g) (fuD cl cr g) = 0 := rfl
theorem in_D3 {cl cr : List Nat} {g : Int} {k : Nat} (hk : k < 5) : inS (prD cl cr g) (fuD cl cr g) 3 (k + 1) = (decide (k ∈ cl) && decide (k ∈ cr)) := by
  unfold inS bareS
  rw [stop_D hk, (rch_D _ _).1, par_D, decide_eq_true (show k + 1 < (fuD cl cr g).regs.length by show k + 1 < 6; omega)]
  simp
theorem in_D1 {cl cr : List Nat} {g : Int} {k : Nat} (hk : k < 5) : inS (prD cl cr g) (fuD cl cr g) 1 (k + 1) = false := by
  unfold inS bareS
  rw [stop_D hk, (rch_D _ _).2, par_D]
  simp
theorem in_D0 (cl cr : List Nat) (g : Int) : inS (prD cl cr g) (fuD cl cr g) 3 0 = true := by
  unfold inS bareS
  rw [stop_D0]
  simp [fuD]
theorem sz_D {cl cr : List Nat} (h1 : cl.length ≤ 6) (h2 : cr.length ≤ 6) (g : Int) : SzP (prD cl cr g) := by
  refine szB_sz ?_
  have e : ∀ l : List Nat, ((l.map ik).all fun c => decide (c.args.length ≤ 1000)) = true := fun l => by
    rw [List.all_eq_true]
    intro x hx
    obtain ⟨j, _, rfl⟩ := List.mem_map.1 hx
    rfl
  have e1 : decide ((cl.map ik).length ≤ 1000000) = true := by rw [List.length_map]; exact decide_eq_true (by omega)
  have e2 : decide ((cr.map ik).length ≤ 1000000) = true := by rw [List.length_map]; exact decide_eq_true (by omega)
  unfold szB prD fuD
  simp only [List.all_cons, List.all_nil, e, e1, e2]
  rfl
theorem low_D {cl cr : List Nat} {g : Int} {b i : Nat} (hb : b < 3) (hi : i ≤ (blk8 (fuD cl cr g) b).code.length) : badP (prD cl cr g) (0, b, i) = false := by
  show (rch (flowF (fuD cl cr g)) [0] b && badAt (blk8 (fuD cl cr g) b) (inS (prD cl cr g) (fuD cl cr g) b) i) = false
  have key : ∀ s, badAt (blk8 (fuD cl cr g) b) s i = false := by
    intro s
    have hik : ∀ (l : List Nat) (x : Bl8), x.code = l.map ik → x.fin = 1 → i ≤ x.code.length → badAt x s i = false := by
      intro l x hx hf hi'
      by_cases hlt : i < x.code.length
      · rw [badAt_in hlt]
        have : ins8 x i ∈ l.map ik := by rw [← hx]; exact getD_mem _ _ _ hlt
        obtain ⟨j, _, e⟩ := List.mem_map.1 this
        rw [← e]
        rfl
      · obtain rfl : i = x.code.length := by omega
        rw [badAt_end, hf]
        rfl
    match b, hb, hi with
    | 0, _, hi =>
      have hi' : i ≤ 1 := hi
      match i, hi' with
      | 0, _ => rfl
      | 1, _ =>
        show badAt ⟨[in1], 2, 0, 1, 2⟩ s 1 = false
        unfold badAt
        rw [if_neg (by decide)]
        simp [hasI, dfS, isDef, in1, insI]
    | 1, _, hi => exact hik cl _ rfl rfl hi
    | 2, _, hi => exact hik cr _ rfl rfl hi
  rw [key, Bool.and_false]
theorem top_D (cl cr : List Nat) (g : Int) : badP (prD cl cr g) (0, 3, 0) = !hasI (inS (prD cl cr g) (fuD cl cr g) 3) g := by
  show (rch (flowF (fuD cl cr g)) [0] 3 && badAt ⟨[], 3, g, 0, 0⟩ (inS (prD cl cr g) (fuD cl cr g) 3) 0) = _
  rw [flow_D, show rch [[1, 2], [3], [3], []] [0] 3 = true by decide +kernel, Bool.true_and]
  unfold badAt
  rw [if_neg (by simp)]
  simp [dfS]
theorem find_D (cl cr : List Nat) (g : Int) : (pts (prD cl cr g)).find? (badP (prD cl cr g)) = if hasI (inS (prD cl cr g) (fuD cl cr g) 3) g then none else some (0, 3, 0) := by
  cases h : hasI (inS (prD cl cr g) (fuD cl cr g) 3) g with
  | true =>
    rw [if_pos rfl]
    refine find_pt_none (fun q hq => ?_)
    obtain ⟨f, b, i⟩ := q
    obtain ⟨h1, h2, h3⟩ := mem_pts.1 hq
    have hf : f < 1 := h1
    obtain rfl : f = 0 := by omega
    have hb : b < 4 := h2
    by_cases e : b < 3
    · exact low_D e h3
    · obtain rfl : b = 3 := by omega
      have hi : i ≤ 0 := h3
      obtain rfl : i = 0 := by omega
      rw [top_D, h]
      rfl
  | false =>
    rw [if_neg (by decide)]
    refine find_pt_at ⟨by show 0 < 1; decide, by show 3 < 4; decide, Nat.zero_le _⟩ (fun q hq => ?_) (by rw [top_D, h]; rfl)
    rcases List.mem_append.1 hq with h1 | h1
    · cases h1
    · rcases List.mem_append.1 h1 with h2 | h2
      · obtain ⟨b, i, h3, h4, rfl⟩ := mem_ptF.1 h2
        exact low_D h3 h4
      · cases h2
theorem chk_D0 (cl cr : List Nat) : (pts (prD cl cr 0)).find? (badP (prD cl cr 0)) = none := by
  rw [find_D]
  have : hasI (inS (prD cl cr 0) (fuD cl cr 0) 3) 0 = true := by
    unfold hasI
    rw [show (0 : Int).toNat = 0 from rfl, in_D0]
    rfl
  rw [this, if_pos rfl]
theorem chk_D {cl cr : List Nat} {k : Nat} (hk : k < 5) : (pts (prD cl cr ((k : Int) + 1))).find? (badP (prD cl cr ((k : Int) + 1))) = if decide (k ∈ cl) && decide (k ∈ cr) then none else some (0, 3, 0) := by
  rw [find_D]
  have : hasI (inS (prD cl cr ((k : Int) + 1)) (fuD cl cr ((k : Int) + 1)) 3) ((k : Int) + 1) = (decide (k ∈ cl) && decide (k ∈ cr)) := by
    unfold hasI
    rw [show ((k : Int) + 1).toNat = k + 1 by omega, in_D3 hk, decide_eq_true (by omega : (0 : Int) ≤ (k : Int) + 1), Bool.true_and]
  rw [this]
theorem shp_D (cl cr : List Nat) (g : Int) : (bks (prD cl cr g)).find? (lostP (prD cl cr g)) = none := by
  refine List.find?_eq_none.2 fun q hq => ?_
  have e : bks (prD cl cr g) = [(0, 0, 0), (0, 1, 0), (0, 2, 0), (0, 3, 0)] := rfl
  rw [e] at hq
  have hl : ∀ b, lostP (prD cl cr g) (0, b, 0) = !rch [[1, 2], [3], [3], []] [0] b := fun b => rfl
  simp only [List.mem_cons, List.not_mem_nil, or_false] at hq
  rcases hq with rfl | rfl | rfl | rfl <;> rw [hl] <;> decide +kernel
end Go.Proofs.YtmebkeidpklcbaaDoor
