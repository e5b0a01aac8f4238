/-
  code's reader: length.
-/
import Derived.Test.YtmipbaihlodmdaaDoorCRn
namespace Go.Proofs.YtmipbaihlodmdaaDoor
open Go.RowKit

/-- What length tells. -/
def LenPost (w : World) (rb : Nat) (s : Option (List UInt8)) (e : Ending) (w' : World) : Prop := ∃ n s', e = .returned (.int .i64 ((n : Nat) : Int)) ∧ n ≤ 20000 ∧ LenS s n s' ∧ RdAt w' rb s' ∧ Keeps [rb] w w'
theorem Stp.short {s s' : Option (List UInt8)} {n : Int} {R : List UInt8} (h : Stp numE b64 s n s') (e : s' = some R) : s ≠ none := fun e' => by
  have := h.2.1 e'
  rw [e] at this
  cases this
set_option maxHeartbeats 2000000 in
theorem rlength_any {w : World} {rb : Nat} {s : Option (List UInt8)} (h : RdAt w rb s) : Calls Tryd.prog 68 #[.pointer (some ⟨rb, 0, none⟩)] w (LenPost w rb s) := by
  have HN := hid (rnumber_any h)
  clear h
  go_enter Tryd.func68, Tryd.ntmps68
  go_wp2_with fail
  refine HN.out.mono ?_
  rintro e w1 ⟨v, x, s1, rfl, ⟨rfl, hx⟩, h1, h2, h3⟩
  have HF := hid (fail_any h2)
  have HS := hid h1
  have HK := hid h3
  have HR := hid h2
  cases s1 with
  | none =>
    have h' : w1.heap[rb]? = _ := h2
    have c0 := hcell h' 0
    clear h' h2 h1 h3 HN
    by_cases hx0 : x < 0
    · clear hx
      go_wp2_with fail
      refine HF.out.mono ?_
      rintro e w2 ⟨rfl, h4, h5⟩
      go_wp2_with fail
      go_ret
      refine ⟨0, none, rfl, by omega, ⟨fun _ => rfl, fun _ => rfl, (fun _ _ _ e => by cases e), fun L e1 _ m R hm e => ?_⟩, h4, HK.out.step h5⟩
      exact absurd e (HS.out.2.2.2 L e1 rfl _ R hm)
    · by_cases hx1 : 0 < x
      · clear hx
        go_wp2_with fail
        refine HF.out.mono ?_
        rintro e w2 ⟨rfl, h4, h5⟩
        go_wp2_with fail
        go_ret
        refine ⟨0, none, rfl, by omega, ⟨fun _ => rfl, fun _ => rfl, (fun _ _ _ e => by cases e), fun L e1 _ m R hm e => ?_⟩, h4, HK.out.step h5⟩
        exact absurd e (HS.out.2.2.2 L e1 rfl _ R hm)
      · have hx2 : x = 0 := by omega
        subst hx2
        clear hx
        go_wp2_with fail
        go_ret
        refine ⟨0, none, rfl, by omega, ⟨fun _ => rfl, fun _ => rfl, (fun _ _ _ e => by cases e), fun L e1 _ m R hm e => ?_⟩, HR.out, HK.out⟩
        exact absurd e (HS.out.2.2.2 L e1 rfl _ R hm)
  | some R =>
    obtain ⟨a, cp, h', _, _, hl, _⟩ := h2
    have c0 := hcell h' 0
    obtain ⟨n, hn⟩ : ∃ n, n = R.length := ⟨_, rfl⟩
    have HL := hid hn
    rw [← hn] at c0 hl
    clear h' h1 h3 HN hn
    by_cases hx0 : x < 0
    · clear hx
      go_wp2_with fail
      refine HF.out.mono ?_
      rintro e w2 ⟨rfl, h4, h5⟩
      go_wp2_with fail
      go_ret
      exact ⟨0, none, rfl, by omega, LenS.bad HS.out (.inl hx0), h4, HK.out.step h5⟩
    · by_cases hx1 : (n : Int) < x
      · clear hx
        go_wp2_with fail
        refine HF.out.mono ?_
        rintro e w2 ⟨rfl, h4, h5⟩
        go_wp2_with fail
        go_ret
        exact ⟨0, none, rfl, by omega, LenS.bad HS.out (.inr (by rw [← HL.out]; exact hx1)), h4, HK.out.step h5⟩
      · clear hx
        go_wp2_with fail
        go_ret
        refine ⟨x.toNat, some R, by rw [Int.toNat_of_nonneg (by omega)]; rfl, by omega, LenS.of HS.out (fun R' e => ?_) (fun e => by cases e), HR.out, HK.out⟩
        cases e
        rw [← HL.out]
        omega
end Go.Proofs.YtmipbaihlodmdaaDoor
