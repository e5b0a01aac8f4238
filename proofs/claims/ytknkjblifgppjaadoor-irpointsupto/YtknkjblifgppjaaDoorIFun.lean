/-
  A program in memory, looked at; ir.size, ir.block, ir.total, ir.first.
-/
import Derived.Test.YtknkjblifgppjaaDoorIPl
import Derived.Test.YtknkjblifgppjaaDoorIRow
import Derived.Deep.DeepCutAuto
namespace Go.Proofs.YtknkjblifgppjaaDoor
open Go.RowKit

/-- The program at p: its functions' slice; function f's blocks' slice. -/
structure FnAt (w : World) (pb po : Nat) (P : Pr8) (fa : Option Addr) (fcp : Nat) : Prop where
  cell : w.cell? ⟨pb, po + 4, none⟩ = some (.slice fa P.funcs.length fcp)
  rows : RowsAt w 3 FuC fa P.funcs
  cap : P.funcs.length ≤ fcp
  len : P.funcs.length ≤ maxLen
theorem PrC.fns {w : World} {pb po : Nat} {P : Pr8} (h : PrC w pb po P) : ∃ fa fcp, FnAt w pb po P fa fcp := by
  obtain ⟨fa, fcp, h1, h2, h3, h4⟩ := h.c4
  exact ⟨fa, fcp, h1, h2, h3, h4⟩
structure BksAt (w : World) (fb fo : Nat) (P : Pr8) (f : Nat) (ba : Option Addr) (bcp : Nat) : Prop where
  cell : w.cell? ⟨fb, fo + f * 3 + 2, none⟩ = some (.slice ba (fun8 P f).blocks.length bcp)
  rows : RowsAt w 5 BlC ba (fun8 P f).blocks
  cap : (fun8 P f).blocks.length ≤ bcp
  len : (fun8 P f).blocks.length ≤ maxLen
theorem getD_get {α : Type} {l : List α} {k : Nat} {d : α} (h : k < l.length) : l[k]? = some (l.getD k d) := by
  rw [List.getD_eq_getElem?_getD, List.getElem?_eq_getElem h]
  rfl
theorem FnAt.at {w : World} {pb po : Nat} {P : Pr8} {fa : Option Addr} {fcp : Nat} (h : FnAt w pb po P fa fcp) {f : Nat} (hf : f < P.funcs.length) : ∃ fb fo ba bcp, fa = some ⟨fb, fo, none⟩ ∧ BksAt w fb fo P f ba bcp := by
  obtain ⟨fb, fo, h1, h2⟩ := h.rows.at (getD_get (d := ⟨0, [], []⟩) hf)
  obtain ⟨ba, bcp, g1, g2, g3, g4⟩ := h2.c2
  exact ⟨fb, fo, ba, bcp, h1, g1, g2, g3, g4⟩
theorem BksAt.at {w : World} {fb fo : Nat} {P : Pr8} {f : Nat} {ba : Option Addr} {bcp : Nat} (h : BksAt w fb fo P f ba bcp) {b : Nat} (hb : b < (fun8 P f).blocks.length) : ∃ bb bo, ba = some ⟨bb, bo, none⟩ ∧ BlC w bb (bo + b * 5) (blk8 (fun8 P f) b) := by
  have e : (fun8 P f).blocks[b]? = some (blk8 (fun8 P f) b) := getD_get hb
  exact h.rows.at e
/-- Not too great. -/
structure Sm8 (P : Pr8) : Prop where
  fn : P.funcs.length ≤ 12
  bk : ∀ f, f < P.funcs.length → (fun8 P f).blocks.length ≤ 14
  pt : (pts P).length ≤ 150

theorem size_any (bb o n cp : Nat) (a : Option Addr) (w : World) (h : w.cell? ⟨bb, o, none⟩ = some (.slice a n cp)) (hn : n ≤ 1000) :
    Calls Tryd.prog 28 #[.pointer (some ⟨bb, o, none⟩)] w fun e w' => e = .returned (.int .i64 ((n + 1 : Nat) : Int)) ∧ w' = w := by
  have h1 : (n : Int) ≤ 1000 := by omega
  go_enter Tryd.func28, Tryd.ntmps28
  go_wp2
  go_ret
  exact ⟨by go_num, rfl⟩

theorem block_nil (f b : Int) (w : World) : Calls Tryd.prog 29 #[.pointer none, .int .i64 f, .int .i64 b] w fun e w' => e = .returned (.pointer none) ∧ w' = w := by
  go_enter Tryd.func29, Tryd.ntmps29
  go_wp2
  go_ret
  exact ⟨rfl, rfl⟩
set_option maxHeartbeats 2000000 in
theorem block_in (pb po fb fo fcp bb bo bcp N M f b : Nat) (w : World) (h4 : w.cell? ⟨pb, po + 4, none⟩ = some (.slice (some ⟨fb, fo, none⟩) N fcp)) (hf : f < N) (h2 : w.cell? ⟨fb, fo + f * 3 + 2, none⟩ = some (.slice (some ⟨bb, bo, none⟩) M bcp)) (hb : b < M) :
    Calls Tryd.prog 29 #[.pointer (some ⟨pb, po, none⟩), .int .i64 (f : Int), .int .i64 (b : Int)] w fun e w' => e = .returned (.pointer (some ⟨bb, bo + b * 5, none⟩)) ∧ w' = w := by
  have g1 : ¬ (f : Int) < 0 := by omega
  have g2 : ¬ (b : Int) < 0 := by omega
  have g3 : (f : Int) < (N : Int) := by omega
  have g4 : (b : Int) < (M : Int) := by omega
  go_enter Tryd.func29, Tryd.ntmps29
  go_wp2
  go_ret
  exact ⟨rfl, rfl⟩
set_option maxHeartbeats 2000000 in
theorem block_outf (pb po fcp N : Nat) (fa : Option Addr) (f b : Int) (w : World) (h4 : w.cell? ⟨pb, po + 4, none⟩ = some (.slice fa N fcp)) (hf : f < 0 ∨ (N : Int) ≤ f) :
    Calls Tryd.prog 29 #[.pointer (some ⟨pb, po, none⟩), .int .i64 f, .int .i64 b] w fun e w' => e = .returned (.pointer none) ∧ w' = w := by
  by_cases g : f < 0
  · clear hf
    go_enter Tryd.func29, Tryd.ntmps29
    go_wp2
    go_ret
    exact ⟨rfl, rfl⟩
  · have g2 : (N : Int) ≤ f := by omega
    clear hf
    go_enter Tryd.func29, Tryd.ntmps29
    go_wp2
    go_ret
    exact ⟨rfl, rfl⟩
set_option maxHeartbeats 2000000 in
theorem block_outb (pb po fb fo fcp bcp N M f : Nat) (ba : Option Addr) (b : Int) (w : World) (h4 : w.cell? ⟨pb, po + 4, none⟩ = some (.slice (some ⟨fb, fo, none⟩) N fcp)) (hf : f < N) (h2 : w.cell? ⟨fb, fo + f * 3 + 2, none⟩ = some (.slice ba M bcp)) (hb : b < 0 ∨ (M : Int) ≤ b) :
    Calls Tryd.prog 29 #[.pointer (some ⟨pb, po, none⟩), .int .i64 (f : Int), .int .i64 b] w fun e w' => e = .returned (.pointer none) ∧ w' = w := by
  have g1 : ¬ (f : Int) < 0 := by omega
  have g3 : (f : Int) < (N : Int) := by omega
  by_cases g : b < 0
  · clear hb
    go_enter Tryd.func29, Tryd.ntmps29
    go_wp2
    go_ret
    exact ⟨rfl, rfl⟩
  · have g2 : (M : Int) ≤ b := by omega
    clear hb
    go_enter Tryd.func29, Tryd.ntmps29
    go_wp2
    go_ret
    exact ⟨rfl, rfl⟩
/-- Is there a block b of a function f? -/
abbrev IsBk (P : Pr8) (f b : Int) : Prop := 0 ≤ f ∧ f < (P.funcs.length : Int) ∧ 0 ≤ b ∧ b < ((fun8 P f.toNat).blocks.length : Int)
theorem block_yes {w : World} {pb po : Nat} {P : Pr8} (h : PrC w pb po P) {f b : Int} (hb : IsBk P f b) : ∃ q o, BlC w q o (blk8 (fun8 P f.toNat) b.toNat) ∧ Calls Tryd.prog 29 #[.pointer (some ⟨pb, po, none⟩), .int .i64 f, .int .i64 b] w fun e w' => e = .returned (.pointer (some ⟨q, o, none⟩)) ∧ w' = w := by
  obtain ⟨h1, h2, h3, h4⟩ := hb
  obtain ⟨fa, fcp, H⟩ := h.fns
  obtain ⟨fb, fo, ba, bcp, rfl, B⟩ := H.at (f := f.toNat) (by omega)
  obtain ⟨bb, bo, rfl, L⟩ := B.at (b := b.toNat) (by omega)
  refine ⟨bb, bo + b.toNat * 5, L, ?_⟩
  have := block_in pb po fb fo fcp bb bo bcp _ _ f.toNat b.toNat w H.cell (by omega) B.cell (by omega)
  rw [show ((f.toNat : Nat) : Int) = f by omega, show ((b.toNat : Nat) : Int) = b by omega] at this
  exact this
theorem block_no {w : World} {pb po : Nat} {P : Pr8} (h : PrC w pb po P) {f b : Int} (hb : ¬ IsBk P f b) : Calls Tryd.prog 29 #[.pointer (some ⟨pb, po, none⟩), .int .i64 f, .int .i64 b] w fun e w' => e = .returned (.pointer none) ∧ w' = w := by
  obtain ⟨fa, fcp, H⟩ := h.fns
  by_cases hf : f < 0 ∨ (P.funcs.length : Int) ≤ f
  · exact block_outf pb po fcp _ fa f b w H.cell hf
  · obtain ⟨fb, fo, ba, bcp, rfl, B⟩ := H.at (f := f.toNat) (by omega)
    have hb' : b < 0 ∨ (((fun8 P f.toNat).blocks.length : Nat) : Int) ≤ b := by
      apply Classical.byContradiction
      intro hn
      exact hb ⟨by omega, by omega, by omega, by omega⟩
    have := block_outb pb po fb fo fcp bcp _ _ f.toNat ba b w H.cell (by omega) B.cell hb'
    rw [show ((f.toNat : Nat) : Int) = f by omega] at this
    exact this

/-- How many points the first m blocks have. -/
def cntF (x : Fu8) (m : Nat) : Nat := (ptF x 0 m).length
theorem ptF_len (x : Fu8) (f m : Nat) : (ptF x f m).length = cntF x m := by
  unfold cntF
  induction m with
  | zero => rfl
  | succ m ih => rw [ptF_succ, ptF_succ, List.length_append, List.length_append, ptB_len, ptB_len, ih]
theorem cntF_zero (x : Fu8) : cntF x 0 = 0 := rfl
theorem cntF_succ (x : Fu8) (m : Nat) : cntF x (m + 1) = cntF x m + ((blk8 x m).code.length + 1) := by
  unfold cntF
  rw [ptF_succ, List.length_append, ptB_len]
theorem cntF_mono (x : Fu8) {m n : Nat} (h : m ≤ n) : cntF x m ≤ cntF x n := by
  induction n with
  | zero => rw [show m = 0 by omega]; exact Nat.le_refl _
  | succ n ih =>
    by_cases e : m = n + 1
    · rw [e]; exact Nat.le_refl _
    · have := ih (by omega)
      rw [cntF_succ]
      omega
/-- How many points the first k functions have. -/
def cntP (P : Pr8) (k : Nat) : Nat := (ptP P k).length
theorem cntP_zero (P : Pr8) : cntP P 0 = 0 := rfl
theorem cntP_succ (P : Pr8) (k : Nat) : cntP P (k + 1) = cntP P k + cntF (fun8 P k) (fun8 P k).blocks.length := by
  unfold cntP
  rw [ptP_succ, List.length_append, ptF_len]
theorem cntP_mono (P : Pr8) {m n : Nat} (h : m ≤ n) : cntP P m ≤ cntP P n := by
  induction n with
  | zero => rw [show m = 0 by omega]; exact Nat.le_refl _
  | succ n ih =>
    by_cases e : m = n + 1
    · rw [e]; exact Nat.le_refl _
    · have := ih (by omega)
      rw [cntP_succ]
      omega
theorem pos8_cnt (P : Pr8) (f b i : Nat) : pos8 P f b i = cntP P f + cntF (fun8 P f) b + i := by
  unfold pos8
  rw [ptF_len]
  rfl
theorem pts_cnt (P : Pr8) : (pts P).length = cntP P P.funcs.length := rfl
theorem Sm8.cntF {P : Pr8} (h : Sm8 P) {f b : Nat} (hf : f < P.funcs.length) (hb : b ≤ (fun8 P f).blocks.length) : cntP P f + Go.Proofs.YtknkjblifgppjaaDoor.cntF (fun8 P f) b ≤ 150 := by
  have h1 := h.pt
  rw [pts_cnt] at h1
  have h2 := cntP_mono P (show f + 1 ≤ P.funcs.length by omega)
  rw [cntP_succ] at h2
  have h3 := cntF_mono (fun8 P f) hb
  omega
theorem Sm8.code {P : Pr8} (h : Sm8 P) {f b : Nat} (hf : f < P.funcs.length) (hb : b < (fun8 P f).blocks.length) : (blk8 (fun8 P f) b).code.length ≤ 149 := by
  have := h.cntF hf (show b + 1 ≤ _ by omega)
  rw [cntF_succ] at this
  omega

set_option maxHeartbeats 2000000 in
theorem total_any (x : Fu8) (ba : Option Addr) (n cp : Nat) (w : World) (hr : RowsAt w 5 BlC ba x.blocks) (hn : n ≤ x.blocks.length) (hs : cntF x n ≤ 150) :
    Calls Tryd.prog 45 #[.slice ba n cp] w fun e w' => e = .returned (.int .i64 (cntF x n : Int)) ∧ w' = w := by
  have HR := hid hr
  have HN := hid hn
  have HS := hid hs
  have hm : n ≤ 150 := by
    have : ∀ m, m ≤ cntF x m := by
      intro m
      induction m with
      | zero => exact Nat.zero_le _
      | succ m ih => rw [cntF_succ]; omega
    have := this n
    omega
  have hm1 : (n : Int) ≤ 150 := by omega
  clear hr hn hs
  go_enter Tryd.func45, Tryd.ntmps45
  go_wp2
  go_loop [3, 7] (fun s i => ∃ k : Nat, k ≤ n ∧ i = .int .i64 (k : Int) ∧ s = .int .i64 (cntF x k : Int)) (fun _ i => n - (intOf i).toNat)
  case atStart => exact ⟨0, by omega, rfl, rfl⟩
  case round =>
    obtain ⟨k, hk, rfl, rfl⟩ := hrel
    by_cases hlt : k < n
    · have hlt' : (k : Int) < (n : Int) := by omega
      have hk0 : (0 : Int) ≤ (k : Int) := by omega
      have e0 : x.blocks[k]? = some (blk8 x k) := getD_get (by have := HN.out; omega)
      obtain ⟨bb, bo, rfl, L⟩ := HR.out.at e0
      obtain ⟨ca, ccp, hc, _⟩ := L.c0
      have hs := cntF_succ x k
      have hle : cntF x (k + 1) ≤ 150 := Nat.le_trans (cntF_mono x (by omega)) HS.out
      have hcall := hid (size_any bb (bo + k * 5) _ ccp ca w hc (by omega))
      clear L e0 hc
      generalize (blk8 x k).code.length = c at hs hcall
      generalize hA : cntF x k = A at *
      generalize hB : cntF x (k + 1) = B at *
      have HB := hid hB
      have HS2 := hid hs
      have w1 : ((A : Nat) : Int) + ((c + 1 : Nat) : Int) = ((B : Nat) : Int) := by omega
      have w2 : (B : Int) ≤ 150 := by omega
      have w3 : (0 : Int) ≤ (B : Int) := by omega
      have w4 : IntKind.i64.wrap ((A : Int) + ((c + 1 : Nat) : Int)) = (B : Int) := by rw [w1]; exact IntWalk.i64_in _ (by omega)
      clear hB hs hA
      go_wp2_with (go_at_call 28; refine hcall.out.mono ?_; rintro e w' ⟨rfl, rfl⟩)
      go_round
      case rel => exact ⟨k + 1, by omega, by go_num, by rw [HB.out]; first | rfl | go_num | (congr 1; omega)⟩
      case measure => simp [intOf]; omega
    · obtain rfl : k = n := by omega
      go_wp2
      go_ret
      exact ⟨rfl, rfl⟩
end Go.Proofs.YtknkjblifgppjaaDoor
