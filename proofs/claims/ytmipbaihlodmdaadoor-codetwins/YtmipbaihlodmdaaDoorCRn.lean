/-
  code's reader: number.
-/
import Derived.Test.YtmipbaihlodmdaaDoorCRd
namespace Go.Proofs.YtmipbaihlodmdaaDoor
open Go.RowKit

/-- A bad reader reads 0. -/
theorem number_bad {w : World} {rb : Nat} (h : RdAt w rb none) : Calls Tryd.prog 55 #[.pointer (some ⟨rb, 0, none⟩)] w fun e w' => e = .returned (.int .i64 0) ∧ RdAt w' rb none ∧ Keeps [rb] w w' := by
  have HF := hid (fail_any h)
  have h' : w.heap[rb]? = _ := h
  have c0 := hcell h' 0
  clear h h'
  go_enter Tryd.func55, Tryd.ntmps55
  go_wp2_with fail
  go_loop [11] (fun kv => kv = .int .i64 0) (fun _ => 0)
  case atStart => rfl
  case round =>
    subst hrel
    go_wp2_with fail
    refine HF.out.mono ?_
    rintro e w1 ⟨rfl, h1, h2⟩
    go_wp2_with fail
    go_ret
    exact ⟨rfl, h1, h2⟩
theorem or_shift {u x k : Nat} (hu : u < 128 ^ k) (h : u + x * 128 ^ k < 18446744073709551616) : bits BinOp.or IntKind.u64 (u : Int) ((x * 128 ^ k : Nat) : Int) = ((u + x * 128 ^ k : Nat) : Int) := by
  have := u64_or_nat u (x * 128 ^ k) (by omega) (by omega)
  rw [this]
  congr 1
  have e : (128 : Nat) ^ k = 2 ^ (7 * k) := by rw [Nat.pow_mul]
  rw [e] at hu ⊢
  have := Nat.shiftLeft_add_eq_or_of_lt hu x
  rw [Nat.shiftLeft_eq] at this
  rw [Nat.or_comm, ← this, Nat.add_comm]
theorem shl_seven {x k : Nat} (h : x * 128 ^ k < 18446744073709551616) : IntKind.u64.wrap ((x : Int) * 2 ^ (7 * k)) = ((x * 128 ^ k : Nat) : Int) := by
  have e : (128 : Nat) ^ k = 2 ^ (7 * k) := by rw [Nat.pow_mul]
  rw [e] at h ⊢
  have e2 : ((x : Int) * 2 ^ (7 * k)) = ((x * 2 ^ (7 * k) : Nat) : Int) := by
    rw [Int.natCast_mul, Int.natCast_pow]
    rfl
  rw [e2, IntKind.wrap_u64]
  omega
theorem pow_le {k : Nat} (h : k ≤ 9) : 128 ^ k ≤ 9223372036854775808 := by
  have := Nat.pow_le_pow_right (show 0 < 128 by omega) h
  exact this
/-- What is left, behind k + 1 bytes. -/
theorem rest_at {w : World} {rb b off n cp k : Nat} {L : List UInt8} {v : Value} (h : RdAt w rb (some L)) (hb : w.cell? ⟨rb, 0, none⟩ = some (.slice (some ⟨b, off, none⟩) n cp)) (hn : n = L.length) (hk : k < n) (hv : v = .slice (some ⟨b, off + (k + 1), none⟩) (n - (k + 1)) (cp - (k + 1)) ∨ (cp = k + 1 ∧ v = .slice (some ⟨b, off, none⟩) (n - (k + 1)) 0)) :
    RdAt (w.setCell ⟨rb, 0, none⟩ v) rb (some (L.drop (k + 1))) ∧ Keeps [rb] w (w.setCell ⟨rb, 0, none⟩ v) := by
  have hk9 : Keeps [rb] w (w.setCell ⟨rb, 0, none⟩ v) := Keeps.setCell [rb] _ _ _ (List.mem_singleton.2 rfl)
  refine ⟨?_, hk9⟩
  obtain ⟨a, cp', h1, h2, h3, h4, h5⟩ := h
  have e := hcell h1 0
  rw [hb] at e
  simp only [List.getElem?_toArray, List.getElem?_cons_zero, Option.some.injEq, Value.slice.injEq] at e
  obtain ⟨e1, e2, e3⟩ := e
  subst e3
  subst hn
  have hne : L ≠ [] := fun e9 => by rw [e9] at hk; simp at hk
  have hs := heap_setCell_same w rb 0 _ _ v h1
  have hlen : (L.drop (k + 1)).length = L.length - (k + 1) := List.length_drop
  rcases hv with rfl | ⟨hc, rfl⟩
  · refine ⟨some ⟨b, off + (k + 1), none⟩, cp - (k + 1), by rw [hlen]; exact hs, ?_, by rw [hlen]; omega, by rw [hlen]; omega, fun _ b' off' e9 => ?_⟩
    · rcases h2 with h2 | ⟨b2, off2, ea, h2⟩
      · exact absurd h2 hne
      · rw [← e1] at ea
        cases ea
        refine .inr ⟨b, off + (k + 1), rfl, fun i hi => ?_⟩
        have hlt : b < rb := h5 hne b off e1.symm
        have := h2 (k + 1 + i) (by omega)
        rw [show off + (k + 1 + i) = off + (k + 1) + i by omega] at this
        rw [hk9.cell (p := ⟨b, off + (k + 1) + i, none⟩) (block_lt_of_cell this) (by simp; omega), this]
        rw [List.getD_eq_getElem?_getD, List.getD_eq_getElem?_getD, List.getElem?_drop]
    · cases e9
      exact h5 hne b off e1.symm
  · have h0 : L.length - (k + 1) = 0 := by omega
    have hnil : L.drop (k + 1) = [] := List.eq_nil_of_length_eq_zero (by omega)
    rw [hnil, h0]
    rw [h0] at hs
    exact ⟨some ⟨b, off, none⟩, 0, hs, .inl rfl, Nat.le_refl _, by simp, fun e9 => absurd rfl e9⟩
theorem stp_read {L : List UInt8} {k : Nat} {c : UInt8} (hL : L = L.take k ++ c :: L.drop (k + 1)) (hm : Mores (L.take k)) (hk : (L.take k).length = k) (hc : c.toNat < 128) (h0 : 0 < k → c.toNat ≠ 0) {u : Nat} (hu : val7 (L.take k ++ [c]) = u) (hu9 : u < 18446744073709551616) : Stp numE b64 (some L) (unfN u) (some (L.drop (k + 1))) := by
  refine ⟨unfN_b64 hu9, (fun e => by cases e), fun L' R' e1 e2 => ?_, fun _ _ e => by cases e⟩
  cases e1
  cases e2
  have h1 := num_read hm hc (by
    by_cases e : 0 < k
    · exact .inr (h0 e)
    · exact .inl (List.eq_nil_of_length_eq_zero (by omega)))
  rw [hu] at h1
  rw [h1, List.append_assoc]
  exact hL
theorem stp_none {L : List UInt8} (h : ∀ n R, b64 n → L ≠ numE n ++ R) : Stp numE b64 (some L) 0 none :=
  ⟨by unfold b64; omega, (fun e => by cases e), (fun _ _ _ e => by cases e), fun L' e _ n R hn => by cases e; exact h n R hn⟩
set_option maxRecDepth 20000 in
set_option maxHeartbeats 2000000 in
theorem number_good {w : World} {rb : Nat} {L : List UInt8} (h : RdAt w rb (some L)) : Calls Tryd.prog 55 #[.pointer (some ⟨rb, 0, none⟩)] w (RdPost IntV numE b64 w rb (some L)) := by
  have HF := hid (fail_any h)
  have HR := hid h
  obtain ⟨a, cp, h1, h2, h3, h4, h5⟩ := h
  have c0 : w.cell? ⟨rb, 0, none⟩ = some (.slice a L.length cp) := hcell h1 0
  have z0 := pfrozen h1 0
  have HB := hid h2
  obtain ⟨n, hn⟩ : ∃ n, n = L.length := ⟨_, rfl⟩
  have HN := hid hn
  rw [← hn] at c0 h3 h4
  have hn0 : (0 : Int) ≤ (n : Int) := by omega
  have hn1 : (n : Int) ≤ 20000 := by omega
  clear h1 h2 hn h5
  go_enter Tryd.func55, Tryd.ntmps55
  go_wp2_with fail
  go_loop [3, 11] (fun uv kv => ∃ k : Nat, k ≤ n ∧ k ≤ 9 ∧ kv = .int .i64 (k : Int) ∧ uv = .int .u64 (val7 (L.take k) : Int) ∧ Box (Mores (L.take k))) (fun _ kv => n - (intOf kv).toNat)
  case atStart => exact ⟨0, by omega, by omega, rfl, by simp [val7], hid (fun c hc => by simp at hc)⟩
  case round =>
    obtain ⟨k, hk, hk9, rfl, rfl, HM⟩ := hrel
    by_cases hlt : k < n
    · have hlt' : (k : Int) < (n : Int) := by omega
      have hkL : k < L.length := by rw [← HN.out]; exact hlt
      obtain ⟨c, hc⟩ : ∃ c, L[k]? = some c := ⟨_, List.getElem?_eq_getElem hkL⟩
      have hL : Box (L = L.take k ++ c :: L.drop (k + 1)) := hid (by
        have := List.getElem?_eq_some_iff.1 hc
        obtain ⟨_, e⟩ := this
        rw [← e, List.getElem_cons_drop, List.take_append_drop])
      have htk : Box ((L.take k).length = k) := hid (by rw [List.length_take]; omega)
      rcases HB.out with e | ⟨b, off, rfl, hcs⟩
      · rw [e] at hkL
        simp at hkL
      have d0 := hcs k hkL
      have ec : (L.getD k 0) = c := by rw [List.getD_eq_getElem?_getD, hc]; rfl
      rw [ec] at d0
      have hx := c.toNat_lt
      have hu := val7_lt (L.take k)
      rw [htk.out] at hu
      have hv : Box (L.take (k + 1) = L.take k ++ [c]) := hid (by rw [List.take_add_one, hc]; rfl)
      have hv2 : Box (val7 (L.take k ++ [c]) = val7 (L.take k) + (c.toNat % 128) * 128 ^ k) := hid (by rw [val7_snoc, htk.out])
      have C0 := hid c0
      obtain ⟨x, hxc⟩ : ∃ x, x = c.toNat := ⟨_, rfl⟩
      have HX := hid hxc
      rw [← hxc] at d0 hx hv2
      obtain ⟨u, hue⟩ : ∃ u, u = val7 (L.take k) := ⟨_, rfl⟩
      have HU := hid hue
      rw [← hue] at hu hv2 ⊢
      clear hcs ec hxc hue hc hkL
      have hx0 : (0 : Int) ≤ (x : Int) := by omega
      have hx1 : (x : Int) < 256 := by omega
      have ea : bits BinOp.and IntKind.u8 (x : Int) 127 = (x : Int) % 128 := by
        have := u8_and_nat x 127 (by omega) (by omega)
        rw [show x &&& 127 = x % 128 from Nat.and_two_pow_sub_one_eq_mod x 7] at this
        exact this.trans (by omega)
      have hp9 := pow_le hk9
      by_cases hk9' : k = 9
      · have HK9 := hid hk9'
        have q1 : ((k : Int) == 9) = true := by rw [hk9']; rfl
        have q2 : (0 : Int) < (k : Int) := by omega
        clear hk9'
        by_cases b1 : 1 < x
        · have b1' : (1 : Int) < (x : Int) := by omega
          go_wp2_with fail
          refine HF.out.mono ?_
          rintro e w1 ⟨rfl, h1, h2⟩
          go_wp2_with fail
          go_ret
          exact ⟨_, 0, none, rfl, ⟨rfl, by unfold b64; omega⟩, stp_none (fun m R hm => (by rw [hL.out]; exact num_great HM.out (htk.out.trans HK9.out) (by rw [← HX.out]; exact b1) m hm R)), h1, h2⟩
        have r1 : ¬ (1 : Int) < (x : Int) := by omega
        by_cases b2 : x = 0
        · have b2' : (x : Int) = 0 := by omega
          have hB2 := hid b2
          have b3 : ((x : Int) == 0) = true := by rw [b2']; rfl
          clear b2 b2'
          go_wp2_with fail
          refine HF.out.mono ?_
          rintro e w1 ⟨rfl, h1, h2⟩
          go_wp2_with fail
          go_ret
          exact ⟨_, 0, none, rfl, ⟨rfl, by unfold b64; omega⟩, stp_none (fun m R hm => (by rw [hL.out]; exact num_zero HM.out (fun e => by have := htk.out; rw [e, HK9.out] at this; simp at this) (by rw [← HX.out]; exact hB2.out) m R)), h1, h2⟩
        have b3 : ((x : Int) == 0) = false := by
          rw [beq_eq_false_iff_ne]; omega
        have hU9 : u + x % 128 * 128 ^ k < 18446744073709551616 := by
          have h2 : x % 128 ≤ 1 := by omega
          have h3 : x % 128 * 128 ^ k ≤ 1 * 128 ^ k := Nat.mul_le_mul_right _ h2
          omega
        have esh : IntKind.u64.wrap ((x : Int) % 128 * 2 ^ (7 * k)) = ((x % 128 * 128 ^ k : Nat) : Int) := by
          rw [show (x : Int) % 128 = ((x % 128 : Nat) : Int) by omega]
          exact shl_seven (by have := hU9; omega)
        have eor := or_shift (x := x % 128) hu hU9
        have HUF := hid fun (w' : World) => unfold_any _ hU9 w'
        have hx8 : x < 128 := by omega
        have hx9 : (x : Int) < 128 := by omega
        have HST : Box (Stp numE b64 (some L) (unfN (u + x % 128 * 128 ^ k)) (some (L.drop (k + 1)))) := hid (stp_read hL.out HM.out htk.out (by rw [← HX.out]; exact hx8) (by rw [← HX.out]; omega) hv2.out hU9)
        clear hv hv2 HU hp9 HM
        generalize hG : u + x % 128 * 128 ^ k = u2 at *
        generalize hG2 : x % 128 * 128 ^ k = u3 at *
        clear hG hG2 hU9 hu
        by_cases hcp : cp = k + 1
        · have RA := hid (rest_at (v := .slice (some ⟨b, off, none⟩) (n - (k + 1)) 0) HR.out C0.out HN.out hlt (.inr ⟨hcp, rfl⟩))
          go_wp2_with fail
          refine (HUF.out _).mono ?_
          rintro e w1 ⟨rfl, rfl⟩
          go_wp2_with fail
          go_ret
          exact ⟨_, _, _, rfl, ⟨rfl, HST.out.1⟩, HST.out, RA.out.1, RA.out.2⟩
        · have RA := hid (rest_at (v := .slice (some ⟨b, off + (k + 1), none⟩) (n - (k + 1)) (cp - (k + 1))) HR.out C0.out HN.out hlt (.inl rfl))
          go_wp2_with fail
          refine (HUF.out _).mono ?_
          rintro e w1 ⟨rfl, rfl⟩
          go_wp2_with fail
          go_ret
          exact ⟨_, _, _, rfl, ⟨rfl, HST.out.1⟩, HST.out, RA.out.1, RA.out.2⟩
      have q1 : ¬ (k : Int) = 9 := by omega
      have hU9 : u + x % 128 * 128 ^ k < 18446744073709551616 := by
        have h2 : x % 128 ≤ 127 := by omega
        have h3 : x % 128 * 128 ^ k ≤ 127 * 128 ^ k := Nat.mul_le_mul_right _ h2
        have h4 := pow_le (show k ≤ 8 + 1 by omega)
        have h5 : 128 * 128 ^ k ≤ 9223372036854775808 := by
          have := pow_le (show k + 1 ≤ 9 by omega)
          rw [Nat.pow_succ] at this
          omega
        omega
      by_cases hk0 : 0 < k
      · have q2 : (0 : Int) < (k : Int) := by omega
        by_cases b2 : x = 0
        · have b2' : (x : Int) = 0 := by omega
          have hB2 := hid b2
          have b3 : ((x : Int) == 0) = true := by rw [b2']; rfl
          clear b2 b2' hU9 hu
          go_wp2_with fail
          refine HF.out.mono ?_
          rintro e w1 ⟨rfl, h1, h2⟩
          go_wp2_with fail
          go_ret
          exact ⟨_, 0, none, rfl, ⟨rfl, by unfold b64; omega⟩, stp_none (fun m R hm => (by rw [hL.out]; exact num_zero HM.out (fun e => by have := htk.out; rw [e] at this; simp at this; omega) (by rw [← HX.out]; exact hB2.out) m R)), h1, h2⟩
        have b3 : ((x : Int) == 0) = false := by
          rw [beq_eq_false_iff_ne]; omega
        by_cases hr : x < 128
        · have esh : IntKind.u64.wrap ((x : Int) % 128 * 2 ^ (7 * k)) = ((x % 128 * 128 ^ k : Nat) : Int) := by
            rw [show (x : Int) % 128 = ((x % 128 : Nat) : Int) by omega]
            exact shl_seven (by have := hU9; omega)
          have eor := or_shift (x := x % 128) hu hU9
          have HUF := hid fun (w' : World) => unfold_any _ hU9 w'
          have hx8 : x < 128 := by omega
          have hx9 : (x : Int) < 128 := by omega
          have HST : Box (Stp numE b64 (some L) (unfN (u + x % 128 * 128 ^ k)) (some (L.drop (k + 1)))) := hid (stp_read hL.out HM.out htk.out (by rw [← HX.out]; exact hx8) (by rw [← HX.out]; omega) hv2.out hU9)
          clear hv hv2 HU hp9 HM
          generalize hG : u + x % 128 * 128 ^ k = u2 at *
          generalize hG2 : x % 128 * 128 ^ k = u3 at *
          clear hG hG2 hU9 hu
          by_cases hcp : cp = k + 1
          · have RA := hid (rest_at (v := .slice (some ⟨b, off, none⟩) (n - (k + 1)) 0) HR.out C0.out HN.out hlt (.inr ⟨hcp, rfl⟩))
            go_wp2_with fail
            refine (HUF.out _).mono ?_
            rintro e w1 ⟨rfl, rfl⟩
            go_wp2_with fail
            go_ret
            exact ⟨_, _, _, rfl, ⟨rfl, HST.out.1⟩, HST.out, RA.out.1, RA.out.2⟩
          · have RA := hid (rest_at (v := .slice (some ⟨b, off + (k + 1), none⟩) (n - (k + 1)) (cp - (k + 1))) HR.out C0.out HN.out hlt (.inl rfl))
            go_wp2_with fail
            refine (HUF.out _).mono ?_
            rintro e w1 ⟨rfl, rfl⟩
            go_wp2_with fail
            go_ret
            exact ⟨_, _, _, rfl, ⟨rfl, HST.out.1⟩, HST.out, RA.out.1, RA.out.2⟩
        · have hx8 : ¬ x < 128 := by omega
          have hx9 : ¬ (x : Int) < 128 := by omega
          have hkl : k + 1 ≤ 9 := by omega
          have esh : IntKind.u64.wrap ((x : Int) % 128 * 2 ^ (7 * k)) = ((x % 128 * 128 ^ k : Nat) : Int) := by
            rw [show (x : Int) % 128 = ((x % 128 : Nat) : Int) by omega]
            exact shl_seven (by have := hU9; omega)
          have eor := or_shift (x := x % 128) hu hU9
          have HV : Box (u + x % 128 * 128 ^ k = val7 (L.take (k + 1)) ∧ Mores (L.take (k + 1))) := hid ⟨by rw [hv.out, hv2.out], by
            rw [hv.out]
            intro d hd
            rcases List.mem_append.1 hd with hd | hd
            · exact HM.out d hd
            · rw [List.mem_singleton.1 hd, ← HX.out]; omega⟩
          clear hv hv2 HU hp9 HM
          generalize hG : u + x % 128 * 128 ^ k = u2 at *
          generalize hG2 : x % 128 * 128 ^ k = u3 at *
          clear hG hG2 hU9 hu
          go_wp2_with fail
          go_round
          case rel => exact ⟨k + 1, by omega, by omega, by go_num, by rw [← HV.out.1], hid HV.out.2⟩
          case measure => simp [intOf]; omega
      · have q2 : ¬ (0 : Int) < (k : Int) := by omega
        by_cases hr : x < 128
        · have esh : IntKind.u64.wrap ((x : Int) % 128 * 2 ^ (7 * k)) = ((x % 128 * 128 ^ k : Nat) : Int) := by
            rw [show (x : Int) % 128 = ((x % 128 : Nat) : Int) by omega]
            exact shl_seven (by have := hU9; omega)
          have eor := or_shift (x := x % 128) hu hU9
          have HUF := hid fun (w' : World) => unfold_any _ hU9 w'
          have hx8 : x < 128 := by omega
          have hx9 : (x : Int) < 128 := by omega
          have HST : Box (Stp numE b64 (some L) (unfN (u + x % 128 * 128 ^ k)) (some (L.drop (k + 1)))) := hid (stp_read hL.out HM.out htk.out (by rw [← HX.out]; exact hx8) (by rw [← HX.out]; omega) hv2.out hU9)
          clear hv hv2 HU hp9 HM
          generalize hG : u + x % 128 * 128 ^ k = u2 at *
          generalize hG2 : x % 128 * 128 ^ k = u3 at *
          clear hG hG2 hU9 hu
          by_cases hcp : cp = k + 1
          · have RA := hid (rest_at (v := .slice (some ⟨b, off, none⟩) (n - (k + 1)) 0) HR.out C0.out HN.out hlt (.inr ⟨hcp, rfl⟩))
            go_wp2_with fail
            refine (HUF.out _).mono ?_
            rintro e w1 ⟨rfl, rfl⟩
            go_wp2_with fail
            go_ret
            exact ⟨_, _, _, rfl, ⟨rfl, HST.out.1⟩, HST.out, RA.out.1, RA.out.2⟩
          · have RA := hid (rest_at (v := .slice (some ⟨b, off + (k + 1), none⟩) (n - (k + 1)) (cp - (k + 1))) HR.out C0.out HN.out hlt (.inl rfl))
            go_wp2_with fail
            refine (HUF.out _).mono ?_
            rintro e w1 ⟨rfl, rfl⟩
            go_wp2_with fail
            go_ret
            exact ⟨_, _, _, rfl, ⟨rfl, HST.out.1⟩, HST.out, RA.out.1, RA.out.2⟩
        · have hx8 : ¬ x < 128 := by omega
          have hx9 : ¬ (x : Int) < 128 := by omega
          have hkl : k + 1 ≤ 9 := by omega
          have esh : IntKind.u64.wrap ((x : Int) % 128 * 2 ^ (7 * k)) = ((x % 128 * 128 ^ k : Nat) : Int) := by
            rw [show (x : Int) % 128 = ((x % 128 : Nat) : Int) by omega]
            exact shl_seven (by have := hU9; omega)
          have eor := or_shift (x := x % 128) hu hU9
          have HV : Box (u + x % 128 * 128 ^ k = val7 (L.take (k + 1)) ∧ Mores (L.take (k + 1))) := hid ⟨by rw [hv.out, hv2.out], by
            rw [hv.out]
            intro d hd
            rcases List.mem_append.1 hd with hd | hd
            · exact HM.out d hd
            · rw [List.mem_singleton.1 hd, ← HX.out]; omega⟩
          clear hv hv2 HU hp9 HM
          generalize hG : u + x % 128 * 128 ^ k = u2 at *
          generalize hG2 : x % 128 * 128 ^ k = u3 at *
          clear hG hG2 hU9 hu
          go_wp2_with fail
          go_round
          case rel => exact ⟨k + 1, by omega, by omega, by go_num, by rw [← HV.out.1], hid HV.out.2⟩
          case measure => simp [intOf]; omega
    · obtain rfl : k = n := by omega
      have HM2 : Box (Mores L) := hid (by have := HM.out; rw [HN.out, List.take_length] at this; exact this)
      clear HM
      go_wp2_with fail
      refine HF.out.mono ?_
      rintro e w1 ⟨rfl, h1, h2⟩
      go_wp2_with fail
      go_ret
      exact ⟨_, 0, none, rfl, ⟨rfl, by unfold b64; omega⟩, stp_none (fun m R hm => num_none HM2.out m R), h1, h2⟩
theorem rnumber_any {w : World} {rb : Nat} {s : Option (List UInt8)} (h : RdAt w rb s) : Calls Tryd.prog 55 #[.pointer (some ⟨rb, 0, none⟩)] w (RdPost IntV numE b64 w rb s) := by
  cases s with
  | none =>
    refine (number_bad h).mono ?_
    rintro e w1 ⟨rfl, h1, h2⟩
    exact ⟨_, 0, none, rfl, ⟨rfl, by unfold b64; omega⟩, ⟨by unfold b64; omega, fun _ => rfl, (fun _ _ e => by cases e), (fun _ e => by cases e)⟩, h1, h2⟩
  | some L => exact number_good h
end Go.Proofs.YtmipbaihlodmdaaDoor
