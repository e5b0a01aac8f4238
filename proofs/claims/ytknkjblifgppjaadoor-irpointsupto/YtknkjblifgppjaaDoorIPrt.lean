/-
  ir.Print: a program as text.
-/
import Derived.Test.YtknkjblifgppjaaDoorIPrn
namespace Go.Proofs.YtknkjblifgppjaaDoor
open Go.RowKit Go.Shelf

def funH : ByteArray := ⟨#[102, 117, 110, 99, 32]⟩
def blkH : ByteArray := ⟨#[32, 32, 98, 108, 111, 99, 107, 32]⟩
def funT (x : Fu8) (m : Nat) : List UInt8 := (List.range m).flatMap fun b : Nat => lnT blkH (decB (b : Int)) ++ blkL (blk8 x b)
def prT (P : Pr8) (k : Nat) : List UInt8 := (List.range k).flatMap fun f : Nat => lnT funH (decB (f : Int)) ++ funT (fun8 P f) (fun8 P f).blocks.length
def textL (P : Pr8) : List UInt8 := prT P P.funcs.length
theorem funT_succ (x : Fu8) (m : Nat) : funT x (m + 1) = funT x m ++ (lnT blkH (decB (m : Int)) ++ blkL (blk8 x m)) := by
  unfold funT
  rw [List.range_succ, List.flatMap_append, List.flatMap_singleton]
theorem prT_succ (P : Pr8) (k : Nat) : prT P (k + 1) = prT P k ++ (lnT funH (decB (k : Int)) ++ funT (fun8 P k) (fun8 P k).blocks.length) := by
  unfold prT
  rw [List.range_succ, List.flatMap_append, List.flatMap_singleton]
def Few8 (P : Pr8) : Prop := ∀ f b, f < P.funcs.length → b < (fun8 P f).blocks.length → Few (blk8 (fun8 P f) b)
def Okk8 (P : Pr8) : Prop := ∀ f b, f < P.funcs.length → b < (fun8 P f).blocks.length → Okk (blk8 (fun8 P f) b) ∧ (endB (blk8 (fun8 P f) b)).size ≤ 80
theorem PrC.okk {w : World} {pb po : Nat} {P : Pr8} (h : PrC w pb po P) : Okk8 P := fun f b hf hb => by
  obtain ⟨fa, fcp, H⟩ := h.fns
  obtain ⟨fb, fo, ba, bcp, _, B⟩ := H.at hf
  obtain ⟨bb, bo, _, L⟩ := B.at hb
  exact ⟨L.okk, endB_size _ L.c2.2 L.c3.2 L.c4.2⟩
theorem blkL_len (x : Bl8) (h : Few x) (ho : Okk x) (he : (endB x).size ≤ 80) : (blkL x).length ≤ 24117500 * (x.code.length + 1) := by
  have h1 := blkT_len x h ho x.code.length (Nat.le_refl _)
  unfold blkL
  rw [List.length_append, lnT_len]
  have : padB.size = 4 := rfl
  omega
theorem small_dec {k : Nat} (h : k ≤ 1000) : (decB (k : Int)).size ≤ 20 := decB_size _ ⟨by omega, by omega⟩
theorem funT_len (P : Pr8) (hf : Few8 P) (ho : Okk8 P) {f : Nat} (hl : f < P.funcs.length) (h14 : (fun8 P f).blocks.length ≤ 1000) : ∀ m, m ≤ (fun8 P f).blocks.length → (funT (fun8 P f) m).length ≤ 24117600 * cntF (fun8 P f) m
  | 0, _ => Nat.zero_le _
  | m + 1, hm => by
    have h1 := funT_len P hf ho hl h14 m (by omega)
    have h2 := blkL_len _ (hf f m hl (by omega)) (ho f m hl (by omega)).1 (ho f m hl (by omega)).2
    have h3 := small_dec (k := m) (by omega)
    rw [funT_succ, List.length_append, List.length_append, lnT_len, cntF_succ]
    have : blkH.size = 8 := rfl
    omega
theorem prT_len (P : Pr8) (hf : Few8 P) (ho : Okk8 P) (hs : Sm8 P) : ∀ k, k ≤ P.funcs.length → (prT P k).length ≤ 24117600 * cntP P k + 100 * k
  | 0, _ => Nat.zero_le _
  | k + 1, hk => by
    have h1 := prT_len P hf ho hs k (by omega)
    have h14 := hs.bk k (by omega)
    have h12 := hs.fn
    have h2 := funT_len P hf ho (f := k) (by omega) (by omega) _ (Nat.le_refl _)
    have h3 := small_dec (k := k) (by omega)
    rw [prT_succ, List.length_append, List.length_append, lnT_len, cntP_succ]
    have : funH.size = 5 := rfl
    omega

theorem print_nil (w : World) : Calls Tryd.prog 23 #[.pointer none] w fun e w' => e = .returned (.string ⟨#[]⟩) ∧ w' = w := by
  go_enter Tryd.func23, Tryd.ntmps23
  go_wp2
  go_ret
  exact ⟨rfl, rfl⟩

set_option maxRecDepth 20000 in
set_option maxHeartbeats 8000000 in
theorem print_any {w : World} {pb po : Nat} {P : Pr8} (h : PrC w pb po P) (hs : Sm8 P) (hf : Few8 P) (hg : Glob w) : Calls Tryd.prog 23 #[.pointer (some ⟨pb, po, none⟩)] w fun e w' => e = .returned (.string ⟨(textL P).toArray⟩) ∧ Keeps [] w w' := by
  have HO := hid h.okk
  have HS := hid hs
  have HFw := hid hf
  have HG := hid hg
  have HP := hid h
  obtain ⟨fa, fcp, H⟩ := h.fns
  have h4 := H.cell
  have hN := hs.fn
  obtain ⟨N, hNN⟩ : ∃ N, N = P.funcs.length := ⟨_, rfl⟩
  have HN := hid hNN
  rw [← hNN] at h4 hN
  have H4 : Box (∀ w', Keeps [] w w' → w'.cell? ⟨pb, po + 4, none⟩ = some (.slice fa N fcp)) := hid (by
    have h4' := h4
    intro w' k
    exact cell_stays k h4')
  have HF := hid H
  have HB0 := hid (BuW.new w)
  have h5 := H4.out _ HB0.out.keeps
  clear h hs hf hg H hNN h4
  go_enter Tryd.func23, Tryd.ntmps23
  go_wp2_with fail
  generalize w.alloc (.cells #[.pointer none, .slice none 0 0] 71) = W at *
  generalize hbq : w.heap.size = bq at *
  clear hbq
  go_wp2_with fail
  clear h5
  go_loopw [13] (fun fv wr => ∃ k : Nat, k ≤ N ∧ fv = .int .i64 (k : Int) ∧ Box (BuW w wr bq (prT P k))) (fun fv _ => N - (intOf fv).toNat)
  case atStart => exact ⟨0, by omega, rfl, HB0⟩
  case round =>
    obtain ⟨k, hk, rfl, HB⟩ := hrel
    clear HB0
    by_cases hlt : k < N
    · have hlt' : (k : Int) < (N : Int) := by omega
      have hkf : k < P.funcs.length := by rw [← HN.out]; exact hlt
      obtain ⟨fb, fo, ba, bcp, rfl, B⟩ := HF.out.at hkf
      have hM := HS.out.bk k hkf
      have HBk := hid B
      obtain ⟨M, hMM⟩ : ∃ M, M = (fun8 P k).blocks.length := ⟨_, rfl⟩
      have HM := hid hMM
      rw [← hMM] at hM
      have G2 : Box (∀ w', Keeps [] w w' → w'.cell? ⟨fb, fo + k * 3 + 2, none⟩ = some (.slice ba M bcp)) := hid (by
        have h2' := B.cell
        rw [← hMM] at h2'
        intro w' kk
        exact cell_stays kk h2')
      have hpl := prT_len P HFw.out HO.out HS.out k (by omega)
      have h150 : cntP P k ≤ 150 := by have := HS.out.cntF hkf (Nat.zero_le _); omega
      have hds := small_dec (k := k) (by omega)
      have hit := hid (itoa_keep (k : Int) ⟨by omega, by omega⟩ wr (HG.out.quiet HB.out.keeps))
      have hwr := hid fun (w' : World) (kk : Keeps [] wr w') => write_any (HB.out.quiet kk) funH (decB (k : Int)) (by have : funH.size = 5 := rfl; omega)
      have hE : Box (prT P k ++ lnT funH (decB (k : Int)) = prT P k ++ lnT funH (decB (k : Int)) ++ funT (fun8 P k) 0) := hid (by rw [show funT (fun8 P k) 0 = [] from rfl, List.append_nil])
      have HPL := hid hpl
      have HDS := hid hds
      clear B hMM hpl hds HB
      unfold funH at hwr
      go_wp2_with fail
      refine hit.out.mono ?_
      rintro e w1 ⟨rfl, k1⟩
      go_wp2_with fail
      refine (hwr.out _ k1).mono ?_
      rintro e w2 ⟨rfl, B2⟩
      have g4 := H4.out _ B2.keeps
      have g2 := G2.out _ B2.keeps
      have HB2 := hid B2
      clear B2 k1 hit hwr
      go_wp2_with fail
      clear g4 g2
      go_loopw [28] (fun bv wr => ∃ b : Nat, b ≤ M ∧ bv = .int .i64 (b : Int) ∧ Box (BuW w wr bq (prT P k ++ lnT funH (decB (k : Int)) ++ funT (fun8 P k) b))) (fun bv _ => M - (intOf bv).toNat)
      case atStart => exact ⟨0, by omega, rfl, hid (by rw [← hE.out]; exact HB2.out)⟩
      case round =>
        obtain ⟨b, hb, rfl, HB⟩ := hrel
        clear HB2
        by_cases hlb : b < M
        · have hlb' : (b : Int) < (M : Int) := by omega
          have hbf : b < (fun8 P k).blocks.length := by rw [← HM.out]; exact hlb
          obtain ⟨bb, bo, rfl, L⟩ := HBk.out.at hbf
          have hfl := funT_len P HFw.out HO.out hkf (by rw [← HM.out]; omega) b (by omega)
          have hcs := HS.out.cntF hkf (show b + 1 ≤ _ by omega)
          rw [cntF_succ] at hcs
          have hds := small_dec (k := b) (by omega)
          have hpl := HPL.out
          have hdk := HDS.out
          have e5 : funH.size = 5 := rfl
          have e8 : blkH.size = 8 := rfl
          have hlen : (prT P k ++ lnT funH (decB (k : Int)) ++ funT (fun8 P k) b).length ≤ 24117600 * (cntP P k + cntF (fun8 P k) b) + 100 * k + 26 := by
            rw [List.length_append, List.length_append, lnT_len]
            omega
          have hit := hid (itoa_keep (b : Int) ⟨by omega, by omega⟩ wr (HG.out.quiet HB.out.keeps))
          have hwr := hid fun (w' : World) (kk : Keeps [] wr w') => write_any (HB.out.quiet kk) blkH (decB (b : Int)) (by omega)
          have hpb := hid fun (w' : World) (hb9 : BuW w w' bq (prT P k ++ lnT funH (decB (k : Int)) ++ funT (fun8 P k) b ++ lnT blkH (decB (b : Int)))) => printBlock_any L hb9 HG.out (HFw.out k b hkf hbf) (by omega) (by rw [List.length_append, lnT_len]; omega)
          have hE2 : Box (prT P k ++ lnT funH (decB (k : Int)) ++ funT (fun8 P k) (b + 1) = prT P k ++ lnT funH (decB (k : Int)) ++ funT (fun8 P k) b ++ lnT blkH (decB (b : Int)) ++ blkL (blk8 (fun8 P k) b)) := hid (by rw [funT_succ]; simp only [List.append_assoc])
          clear L hfl hcs hds hpl hdk e5 e8 hlen HB
          unfold blkH at hwr
          go_wp2_with fail
          refine hit.out.mono ?_
          rintro e w1 ⟨rfl, k1⟩
          go_wp2_with fail
          refine (hwr.out _ k1).mono ?_
          rintro e w2 ⟨rfl, B2⟩
          have g4 := H4.out _ B2.keeps
          have g2 := G2.out _ B2.keeps
          have HB2 := hid B2
          clear B2 k1 hit hwr
          go_wp2_with fail
          refine (hpb.out _ HB2.out).mono ?_
          rintro e w3 ⟨rfl, B3⟩
          have HB3 := hid B3
          clear B3 HB2 g4 g2 hpb
          go_wp2_with fail
          go_roundw
          case rel => exact ⟨b + 1, by omega, by go_num, hid (by rw [hE2.out]; exact HB3.out)⟩
          case measure => simp [intOf]; omega
        · obtain rfl : b = M := by omega
          have hE3 : Box (prT P (k + 1) = prT P k ++ lnT funH (decB (k : Int)) ++ funT (fun8 P k) b) := hid (by rw [prT_succ, ← HM.out, List.append_assoc])
          go_wp2_with fail
          go_roundw
          case rel => exact ⟨k + 1, by omega, by go_num, hid (by rw [hE3.out]; exact HB.out)⟩
          case measure => simp [intOf]; omega
    · obtain rfl : k = N := by omega
      have hst := hid (bs_any HB.out)
      have hE : Box (textL P = prT P k) := hid (by unfold textL; rw [HN.out])
      go_wp2_with fail
      refine hst.out.mono ?_
      rintro e w1 ⟨rfl, k1⟩
      go_wp2_with fail
      go_ret
      exact ⟨by rw [hE.out]; rfl, k1⟩
end Go.Proofs.YtknkjblifgppjaaDoor
