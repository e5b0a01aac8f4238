/-
  refuse.leads at the first refusal of a chain; refuse.next.
-/
import Derived.Test.YtjofffhfabmfkaaDoorRWhere
namespace Go.Proofs.YtjofffhfabmfkaaDoor
open Go.RowKit Go.Extern.Stop Go.Stop Go.Extern

theorem compP : (Tryd.prog.info? 33).map (·.comparable) = some true := by kernel_rfl
theorem sizeE : (Tryd.prog.info? 44).map (·.size) = some 5 := by kernel_rfl
theorem compO : (Tryd.prog.info? 48).map (·.comparable) = some true := by kernel_rfl
theorem sizeO : (Tryd.prog.info? 50).map (·.size) = some 2 := by kernel_rfl

theorem eq_same (a : Addr) (w : World) : (binOp .eql 25 (.iface 33 (.pointer (some a))) (.iface 33 (.pointer (some a)))).run Tryd.prog w = .ok (.bool true) w := by
  obtain ⟨i, hi, hcmp⟩ := Option.map_eq_some_iff.1 compP
  obtain ⟨j, hj, hjs⟩ := Option.map_eq_some_iff.1 sizeE
  exact run_eql_iface_ptr_same (P := Tryd.prog) w a Tryd.underlying25 Tryd.underlying33 hi hcmp hj
theorem eq_other {a b : Nat} {ca cb : Array Value} {ta tb : TypeId} {w : World} (hne : a ≠ b) (ha : w.heap[a]? = some (.cells ca ta (0, 0))) (hb : w.heap[b]? = some (.cells cb tb (0, 0))) :
    (binOp .eql 25 (.iface 33 (.pointer (some ⟨a, 0, none⟩))) (.iface 33 (.pointer (some ⟨b, 0, none⟩)))).run Tryd.prog w = .ok (.bool false) w := by
  obtain ⟨i, hi, hcmp⟩ := Option.map_eq_some_iff.1 compP
  obtain ⟨j, hj, hjs⟩ := Option.map_eq_some_iff.1 sizeE
  exact run_eql_iface_ptr_other (P := Tryd.prog) w Tryd.underlying25 Tryd.underlying33 hi hcmp hj (by rw [hjs]; decide) (fun e => hne (congrArg Addr.block e)) ha hb
theorem eq_otherO {a b : Nat} {ca cb : Array Value} {ta tb : TypeId} {w : World} (hne : a ≠ b) (ha : w.heap[a]? = some (.cells ca ta (0, 0))) (hb : w.heap[b]? = some (.cells cb tb (0, 0))) :
    (binOp .eql 25 (.iface 48 (.pointer (some ⟨a, 0, none⟩))) (.iface 48 (.pointer (some ⟨b, 0, none⟩)))).run Tryd.prog w = .ok (.bool false) w := by
  obtain ⟨i, hi, hcmp⟩ := Option.map_eq_some_iff.1 compO
  obtain ⟨j, hj, hjs⟩ := Option.map_eq_some_iff.1 sizeO
  exact run_eql_iface_ptr_other (P := Tryd.prog) w Tryd.underlying25 Tryd.underlying48 hi hcmp hj (by rw [hjs]; decide) (fun e => hne (congrArg Addr.block e)) ha hb
theorem eq_types (tx ty : TypeId) (vx vy : Value) (h : tx ≠ ty) (w : World) : (binOp .eql 25 (.iface tx vx) (.iface ty vy)).run Tryd.prog w = .ok (.bool false) w :=
  run_eql_iface_types (P := Tryd.prog) tx ty vx vy Tryd.underlying25 h w

set_option maxHeartbeats 2000000 in
theorem leads_first (l : List Lk) (p : Nat) (w : World) (hc : ChainAt w l) (hF : Falls l) (hp : firstP l = some ⟨p, 0, none⟩) :
    Calls Tryd.prog 36 #[headV l, .pointer (some ⟨p, 0, none⟩)] w fun e w' => e = .returned (.bool true) ∧ Keeps [] w w' := by
  have HS := hid (show ChainAt w l ∧ Falls l ∧ firstP l = some ⟨p, 0, none⟩ from ⟨hc, hF, hp⟩)
  clear hc hF hp
  have hes := fun w => eq_same ⟨p, 0, none⟩ w
  go_enter Tryd.func36, Tryd.ntmps36
  go_wp2
  go_loopw [0] (fun v wr => ∃ l', v = headV l' ∧ Box ((ChainAt w l' ∧ Falls l' ∧ firstP l' = some ⟨p, 0, none⟩) ∧ Keeps [] w wr)) (fun v _ => downV v)
  case atStart => exact ⟨l, rfl, hid ⟨HS.out, Keeps.refl _ _⟩⟩
  case round =>
    obtain ⟨l', rfl, hb⟩ := hrel
    obtain ⟨⟨h1, h2, h3⟩, hk⟩ := hb.out
    clear hb
    rcases l' with _ | ⟨x, r⟩
    · simp [firstP] at h3
    · have HM := hid (chain_measure h2)
      rcases lk_cases x with ⟨q, why, f, b, i, rfl⟩ | ⟨q, tx, rfl⟩
      · obtain rfl : q = p := by simpa [firstP] using h3
        have HK := hid hk
        clear h1 h2 h3 hk HM
        change Code.wp _ _ _ { tmps := #[.iface 33 (.pointer (some ⟨q, 0, none⟩)), _, _, _, _, _, _, _, _, _, _, _, _], defers := _ } _
        go_wp2
        go_ret
        exact ⟨rfl, HK.out⟩
      · have hu := hid (unwrap_any (.oth q tx :: r) _ (h1.quiet hk))
        have HK := hid hk
        have H3 := hid (show ChainAt w r ∧ Falls r ∧ firstP r = some ⟨p, 0, none⟩ from ⟨h1.2, h2.2, h3⟩)
        have het := fun w => eq_types 48 33 (.pointer (some ⟨q, 0, none⟩)) (.pointer (some ⟨p, 0, none⟩)) (by decide) w
        clear h1 h2 h3 hk
        change Code.wp _ _ _ { tmps := #[.iface 48 (.pointer (some ⟨q, 0, none⟩)), _, _, _, _, _, _, _, _, _, _, _, _], defers := _ } _
        go_wp2_with (go_at_call 35; refine hu.out.mono ?_; rintro e w' ⟨rfl, hk⟩; have HK2 := hid (HK.out.step hk); clear hk)
        go_roundw
        case rel => exact ⟨r, rfl, hid ⟨H3.out, HK2.out⟩⟩
        case measure => exact HM.out

set_option maxHeartbeats 2000000 in
/-- refuse.next: the first refusal of the chain. -/
theorem next_any (l : List Lk) (w : World) (hg : Glob w) (hc : ChainAt w l) (hF : Falls l) :
    Calls Tryd.prog 25 #[headV l] w fun e w' => e = .returned (.pointer (firstP l)) ∧ Keeps [] w w' := by
  have hf := hid (first_any l w hg hc hF)
  cases hp : firstP l with
  | none =>
    rw [hp] at hf
    have hcases := headV_cases l
    rcases hcases with e2 | ⟨T, q, e2⟩
    · rw [e2]
      go_enter Tryd.func25, Tryd.ntmps25
      go_wp2
      go_loop [0] (fun v => v = .nilIface) (fun _ => 0)
      case atStart => rfl
      case round =>
        subst hrel
        go_wp2
        go_ret
        exact ⟨rfl, Keeps.refl _ _⟩
    · rw [e2] at hf ⊢
      clear hg hc hF hp e2
      go_enter Tryd.func25, Tryd.ntmps25
      go_wp2
      go_loop [0] (fun v => v = .iface T (.pointer (some ⟨q, 0, none⟩))) (fun _ => 0)
      case atStart => rfl
      case round =>
        subst hrel
        go_wp2_with (go_at_call 24; refine hf.out.mono ?_; rintro e w' ⟨rfl, hk⟩; have HK := hid hk; clear hk)
        go_ret
        exact ⟨rfl, HK.out⟩
  | some a =>
    obtain ⟨p, y, f, b, i, v, rfl, ho, hh⟩ := first_some hc hp
    rw [hp] at hf
    have hl := hid fun w' (k : Keeps [] w w') => leads_first l p w' (hc.quiet k) hF hp
    have hcases := headV_cases l
    rcases hcases with e2 | ⟨T, q, e2⟩
    · rcases l with _ | ⟨x, r⟩
      · simp [firstP] at hp
      · rcases lk_cases x with ⟨_, _, _, _, _, rfl⟩ | ⟨_, _, rfl⟩ <;> simp [headV] at e2
    · rw [e2] at hf hl ⊢
      clear hg hc hF hp e2 ho hh
      go_enter Tryd.func25, Tryd.ntmps25
      go_wp2
      go_loop [0] (fun v => v = .iface T (.pointer (some ⟨q, 0, none⟩))) (fun _ => 0)
      case atStart => rfl
      case round =>
        subst hrel
        go_wp2_with (first | (go_at_call 24; refine hf.out.mono ?_; rintro e w' ⟨rfl, hk⟩; have HK := hid hk; clear hk) | (go_at_call 36; refine (hl.out _ HK.out).mono ?_; rintro e w2 ⟨rfl, hk⟩; have HK2 := hid (HK.out.step hk); clear hk))
        go_ret
        exact ⟨rfl, HK2.out⟩
end Go.Proofs.YtjofffhfabmfkaaDoor
