/-
  types.Names.
-/
import Derived.Test.YtlopddflbhnjdaaDoorTFn
import Derived.Test.YtlopddflbhnjdaaDoorTTab
namespace Go.Proofs.YtlopddflbhnjdaaDoor
open Go.RowKit

set_option maxRecDepth 20000 in
set_option maxHeartbeats 8000000 in
theorem names_any {w : World} {pb po : Nat} {P : Pr8} (h : PrC w pb po P) (ha : FewA P) : Calls Tryd.prog 20 #[.pointer (some ⟨pb, po, none⟩)] w (EPost (namesO P) 3 w) := by
  have HT := hid (tables_any h)
  have HF := hid fun (w' : World) (k : Keeps [] w w') (f : Nat) (hf : f < P.funcs.length) => fnames_any (PrC.stays _ _ _ _ _ k h) ha hf
  have HRF := hid fun (w' : World) => refused_any 3 w'
  have HW := hid fun (w' : World) => within_any P.main P.funcs.length w'
  obtain ⟨fa, fp, c4, _, _, hfl⟩ := h.c4
  have c5 := h.c5.1
  have C4 : Box (∀ w', Keeps [] w w' → w'.cell? ⟨pb, po + 4, none⟩ = some (.slice fa P.funcs.length fp)) := hid fun w' k => cell_stays k c4
  have C5 : Box (∀ w', Keeps [] w w' → w'.cell? ⟨pb, po + 5, none⟩ = some (.int .i64 P.main)) := hid fun w' k => cell_stays k c5
  have HT0 := hid (namesO_tab (P := P))
  have HFN := hid fun (h1 : tablesB P = true) (k : Nat) (h2 : k < P.funcs.length) (h3 : ∀ j, j < k → fnNm P j = none) (q : Int × Int × Int) (h4 : fnNm P k = some q) => namesO_fn h1 h2 h3 h4
  have HEND := hid fun (h1 : tablesB P = true) (h3 : ∀ j, j < P.funcs.length → fnNm P j = none) => namesO_end h1 h3
  clear h ha c4 c5
  obtain ⟨n, hn⟩ : ∃ n, n = P.funcs.length := ⟨_, rfl⟩
  rw [← hn] at C4 hfl HW HEND
  have HN := hid hn
  have hn9 : (n : Int) ≤ 9223372036854775807 := by unfold maxLen at hfl; omega
  clear hn hfl
  go_enter Tryd.func20, Tryd.ntmps20
  go_wp2_with fail
  refine HT.out.mono ?_
  rintro e w1 ⟨rfl, k1⟩
  have K1 := hid k1
  clear k1 HT
  cases ht : tablesB P with
  | false =>
    have HQ := hid (HT0.out ht)
    go_wp2_with fail
    refine (HRF.out _).mono ?_
    rintro e w2 ⟨p, rfl, h1, h2⟩
    go_wp2_with fail
    go_ret
    exact EPost.no HQ.out ⟨p, rfl, h1, K1.out.quiet h2⟩
  | true =>
    have HTT := hid ht
    clear ht
    have c4 := C4.out _ K1.out
    go_wp2_with fail
    clear c4
    go_loopw [18] (fun kv wr => ∃ k : Nat, k ≤ n ∧ kv = .int .i64 (k : Int) ∧ Box (Keeps [] w wr) ∧ Box (∀ j, j < k → fnNm P j = none)) (fun kv _ => n - (intOf kv).toNat)
    case atStart => exact ⟨0, by omega, rfl, K1, hid fun j hj => by omega⟩
    case round =>
      obtain ⟨k, hk, rfl, HK, HB⟩ := hrel
      clear K1
      by_cases hlt : k < n
      · have hlt' : (k : Int) < (n : Int) := by omega
        have HC := hid (HF.out wr HK.out k (by rw [← HN.out]; exact hlt))
        go_wp2_with fail
        refine HC.out.mono ?_
        intro e w2 hp
        cases hq : fnNm P k with
        | none =>
          rw [hq] at hp
          obtain ⟨rfl, k2⟩ := hp
          have K2 := hid (HK.out.quiet k2)
          have HB2 : Box (∀ j, j < k + 1 → fnNm P j = none) := hid fun j hj => by
            by_cases e : j < k
            · exact HB.out j e
            · obtain rfl : j = k := by omega
              exact hq
          clear k2 hq
          go_wp2_with fail
          go_roundw
          case rel => exact ⟨k + 1, by omega, by go_num, K2, HB2⟩
          case measure => simp [intOf]; omega
        | some q =>
          rw [hq] at hp
          obtain ⟨p, rfl, h1, k2⟩ := hp
          have HQ := hid (HFN.out HTT.out k (by rw [← HN.out]; exact hlt) HB.out q hq)
          have H1 := hid h1
          have K2 := hid (HK.out.quiet k2)
          clear k2 hq h1
          go_wp2_with fail
          go_ret
          exact EPost.no HQ.out ⟨p, rfl, H1.out, K2.out⟩
      · obtain rfl : n = k := by omega
        have HE := hid (HEND.out HTT.out HB.out)
        have c4 := C4.out _ HK.out
        have c5 := C5.out _ HK.out
        go_upto_region 10 with fail
        cases hm : inB P.main n with
        | true =>
          rw [hm] at HW HE
          have HQ : Box (namesO P = none) := hid (by rw [HE.out]; rfl)
          clear hm
          go_quiet ((go_at_call 29; exact Calls.quiet_of_same (HW.out _)))
          go_wp2_with fail
          go_ret
          exact EPost.yes HQ.out ⟨rfl, HK.out.quiet (Keeps.drewN _ _ _)⟩
        | false =>
          rw [hm] at HW HE
          have HQ : Box (namesO P = some (-1, 0, 0)) := hid (by rw [HE.out]; rfl)
          clear hm
          go_quiet ((go_at_call 29; exact Calls.quiet_of_same (HW.out _)))
          go_wp2_with fail
          refine (HRF.out _).mono ?_
          rintro e w2 ⟨p, rfl, h1, h2⟩
          go_wp2_with fail
          go_ret
          exact EPost.no HQ.out ⟨p, rfl, h1, (HK.out.quiet (Keeps.drewN _ _ _)).quiet h2⟩
end Go.Proofs.YtlopddflbhnjdaaDoor
