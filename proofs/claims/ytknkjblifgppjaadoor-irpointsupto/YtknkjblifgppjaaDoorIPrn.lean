/-
  ir.printBlock, ir.Print: a program as text.
-/
import Derived.Test.YtknkjblifgppjaaDoorIWr
import Derived.Test.YtknkjblifgppjaaDoorIPl
namespace Go.Proofs.YtknkjblifgppjaaDoor
open Go.RowKit Go.Shelf

theorem InC.open {w : World} {b o : Nat} {x : In8} (h : InC w b o x) : InOk x ∧ ∃ ar cp, w.cell? ⟨b, o + 5, none⟩ = some (.slice ar x.args.length cp) ∧ IntsAt w ar x.args ∧ x.args.length ≤ cp := by
  obtain ⟨ar, cp, h1, h2, h3, _⟩ := h.c5
  refine ⟨⟨h.c0.2, h.c1.2, h.c2.2, h.c3.2, h.c4.2, fun z hz => ?_⟩, ar, cp, h1, rows_ints h2, h3⟩
  obtain ⟨i, hi, e⟩ := List.getElem_of_mem hz
  obtain ⟨_, _, _, h9⟩ := h2.at (j := i) (y := z) (by rw [List.getElem?_eq_getElem hi, e])
  exact h9.2
def padB : ByteArray := ⟨#[32, 32, 32, 32]⟩
def blkT (x : Bl8) (n : Nat) : List UInt8 := (List.range n).flatMap fun i => lnT padB (lineB (ins8 x i))
def blkL (x : Bl8) : List UInt8 := blkT x x.code.length ++ lnT padB (endB x)
theorem blkT_succ (x : Bl8) (n : Nat) : blkT x (n + 1) = blkT x n ++ lnT padB (lineB (ins8 x n)) := by
  unfold blkT
  rw [List.range_succ, List.flatMap_append, List.flatMap_singleton]
/-- Its arguments are not too many. -/
def Few (x : Bl8) : Prop := ∀ i, i < x.code.length → (ins8 x i).args.length ≤ 1048576
def Okk (x : Bl8) : Prop := ∀ i, i < x.code.length → InOk (ins8 x i)
theorem blkT_len (x : Bl8) (h : Few x) (ho : Okk x) : ∀ n, n ≤ x.code.length → (blkT x n).length ≤ 24117500 * n
  | 0, _ => Nat.zero_le _
  | n + 1, hn => by
    have h1 := blkT_len x h ho n (by omega)
    have h2 := lineB_size _ (ho n (by omega)) (h n (by omega))
    rw [blkT_succ, List.length_append, lnT_len]
    have : padB.size = 4 := rfl
    omega
theorem ins_get {x : Bl8} {i : Nat} (h : i < x.code.length) : x.code[i]? = some (ins8 x i) := by
  unfold ins8
  rw [List.getD_eq_getElem?_getD, List.getElem?_eq_getElem h]
  rfl
theorem BlC.okk {w : World} {b o : Nat} {x : Bl8} (h : BlC w b o x) : Okk x := fun i hi => by
  obtain ⟨ca, cp, h1, h2, _⟩ := h.c0
  obtain ⟨cb, co, _, h3⟩ := h2.at (ins_get hi)
  exact h3.open.1

set_option maxRecDepth 20000 in
set_option maxHeartbeats 8000000 in
theorem printBlock_any {w0 w : World} {bb q o : Nat} {l : List UInt8} {x : Bl8} (hB : BlC w0 q o x) (hb : BuW w0 w bb l) (hg : Glob w0) (hf : Few x) (hc : x.code.length ≤ 1000) (hl : l.length + 24117500 * (x.code.length + 1) ≤ 140737488355328) :
    Calls Tryd.prog 41 #[.pointer (some ⟨bb, 0, none⟩), .pointer (some ⟨q, o, none⟩)] w fun e w' => e = .returned (.tuple #[]) ∧ BuW w0 w' bb (l ++ blkL x) := by
  obtain ⟨ca, ccp, hcc, hrows, _⟩ := hB.c0
  have HB := hid hB
  have HW := hid hb
  have HG := hid hg
  have HF := hid hf
  have HL := hid hl
  have HR := hid hrows
  have cc := cell_stays hb.keeps hcc
  obtain ⟨n, hn⟩ : ∃ n, n = x.code.length := ⟨_, rfl⟩
  have HN := hid hn
  rw [← hn] at cc hc
  clear hB hb hg hf hl hrows hn hcc
  have hc' : (n : Int) ≤ 1000 := by omega
  go_enter Tryd.func41, Tryd.ntmps41
  go_wp2_with fail
  clear cc
  go_loopw [11] (fun kv wr => ∃ k : Nat, k ≤ n ∧ kv = .int .i64 (k : Int) ∧ Box (BuW w0 wr bb (l ++ blkT x k))) (fun kv _ => n - (intOf kv).toNat)
  case atStart => exact ⟨0, by omega, rfl, hid (by rw [show blkT x 0 = [] from rfl, List.append_nil]; exact HW.out)⟩
  case round =>
    obtain ⟨k, hk, rfl, HK⟩ := hrel
    by_cases hlt : k < n
    · have hlt' : (k : Int) < (n : Int) := by omega
      have hkl : k < x.code.length := by rw [← HN.out]; exact hlt
      obtain ⟨cb, co, rfl, h3⟩ := HR.out.at (ins_get hkl)
      have h4 := InC.stays _ _ _ _ _ HK.out.keeps h3
      obtain ⟨hok, ar, acp, h5, h6, _⟩ := h4.open
      have c0 := h4.c0.1
      have c1 := h4.c1.1
      have c2 := h4.c2.1
      have c3 := h4.c3.1
      have c4 := h4.c4.1
      have hfew := HF.out k hkl
      have hbl := blkT_len x HF.out HB.out.okk k (by omega)
      have hls := lineB_size _ hok hfew
      have ht := HL.out
      rw [← HN.out] at ht
      have hE : Box (l ++ blkT x (k + 1) = l ++ blkT x k ++ lnT padB (lineB (ins8 x k))) := hid (by rw [blkT_succ, List.append_assoc])
      have hline := hid fun (w' : World) (kk : Keeps [] wr w') => line_any (ins8 x k) ar acp hok w' (HG.out.quiet (HK.out.keeps.quiet kk)) ⟨h6.kept kk (fun _ _ _ => by simp), hfew⟩
      have hwr := hid fun (w' : World) (kk : Keeps [] wr w') => write_any (HK.out.quiet kk) padB (lineB (ins8 x k)) (by rw [List.length_append]; have : padB.size = 4 := rfl; omega)
      unfold insV at hline
      clear h3 h4 h6 hok hfew hbl hls ht HK
      generalize (ins8 x k).op = y0 at *
      generalize (ins8 x k).dst = y1 at *
      generalize (ins8 x k).a = y2 at *
      generalize (ins8 x k).b = y3 at *
      generalize (ins8 x k).n = y4 at *
      generalize (ins8 x k).args.length = y5 at *
      generalize lineB (ins8 x k) = T at *
      unfold padB at hwr hE
      go_wp2_with fail
      have KA := hid (Keeps.alloc [] wr (.cells #[.int .i64 y0, .int .i64 y1, .int .i64 y2, .int .i64 y3, .int .i64 y4, .slice ar y5 acp] 34))
      generalize wr.alloc (.cells #[.int .i64 y0, .int .i64 y1, .int .i64 y2, .int .i64 y3, .int .i64 y4, .slice ar y5 acp] 34) = wa at *
      refine (hline.out _ KA.out).mono ?_
      rintro e w1 ⟨rfl, k1⟩
      have K1 := hid (KA.out.quiet k1)
      clear k1 KA
      go_wp2_with fail
      refine (hwr.out _ K1.out).mono ?_
      rintro e w2 ⟨rfl, B2⟩
      have HB2 := hid B2
      clear B2 K1
      go_wp2_with fail
      go_roundw
      case rel => exact ⟨k + 1, by omega, by go_num, hid (by rw [hE.out]; exact HB2.out)⟩
      case measure => simp [intOf]; omega
    · obtain rfl : k = n := by omega
      have hBl := BlC.stays _ _ _ _ _ HK.out.keeps HB.out
      have hend := hid (end_any hBl (HG.out.quiet HK.out.keeps))
      have hbl := blkT_len x HF.out HB.out.okk k (by have := HN.out; omega)
      have hes := endB_size x hBl.c2.2 hBl.c3.2 hBl.c4.2
      have ht := HL.out
      rw [← HN.out] at ht
      have hE : Box (l ++ blkL x = l ++ blkT x k ++ lnT padB (endB x)) := hid (by unfold blkL; rw [← HN.out, List.append_assoc])
      have hwr := hid fun (w' : World) (kk : Keeps [] wr w') => write_any (HK.out.quiet kk) padB (endB x) (by rw [List.length_append]; have : padB.size = 4 := rfl; omega)
      clear hBl hbl hes ht
      generalize endB x = T at *
      unfold padB at hwr hE
      go_wp2_with fail
      refine hend.out.mono ?_
      rintro e w1 ⟨rfl, k1⟩
      go_wp2_with fail
      refine (hwr.out _ k1).mono ?_
      rintro e w2 ⟨rfl, B2⟩
      go_wp2_with fail
      go_end0
      exact ⟨rfl, by rw [hE.out]; exact B2⟩
end Go.Proofs.YtknkjblifgppjaaDoor
