/-
  errors.is and errors.Is at a chain: asked is each refusal of it.
-/
import Derived.Test.YtjofffhfabmfkaaDoorRIs
import Derived.Test.YtjofffhfabmfkaaDoorRChain
namespace Go.Proofs.YtjofffhfabmfkaaDoor
open Go.RowKit Go.Extern.Stop Go.Stop Go.Extern

set_option maxHeartbeats 4000000 in
theorem is_any (l : List Lk) (T q : Nat) (hit : Int → Bool) (w : World) (hl : l ≠ []) (hc : ChainAt w l) (hF : Falls l)
    (HI : Box (∀ (p : Nat) (y f b i : Int) (v : Value) (w' : World), Keeps [] w w' → w'.heap[p]? = some (.cells #[.int .i64 y, .int .i64 f, .int .i64 b, .int .i64 i, v] 44 (0, 0)) →
      Calls Tryd.prog 20 #[.pointer (some ⟨p, 0, none⟩), .iface T (.pointer (some ⟨q, 0, none⟩))] w' fun e w2 => e = .returned (.bool (hit y)) ∧ Keeps [] w' w2))
    (HE : Box (∀ (x : Lk) (w' : World), x ∈ l → Keeps [] w w' → (binOp .eql 25 (headV [x]) (.iface T (.pointer (some ⟨q, 0, none⟩)))).run Tryd.prog w' = .ok (.bool false) w')) :
    Calls Tryd.prog 33 #[headV l, .iface T (.pointer (some ⟨q, 0, none⟩)), .bool true] w fun e w' => e = .returned (.bool ((whys l).any hit)) ∧ Keeps [] w w' := by
  have f1 := f_noIsO
  have f2 := f_hasIsP
  have f3 := f_hasUnwO
  have f4 := f_hasUnwP
  have f5 := f_methodUnwO
  have f6 := f_methodUnwP
  have f7 := f_methodIsP
  have HS := hid (show l ≠ [] ∧ ChainAt w l ∧ Falls l from ⟨hl, hc, hF⟩)
  clear hl hc hF
  go_enter Tryd.func33, Tryd.ntmps33
  go_wp2
  go_loopw [0] (fun v wr => ∃ l', v = headV l' ∧ Box (l' ≠ [] ∧ ChainAt w l' ∧ Falls l' ∧ (∀ x, x ∈ l' → x ∈ l) ∧ (whys l).any hit = (whys l').any hit ∧ Keeps [] w wr)) (fun v _ => downV v)
  case atStart => exact ⟨l, rfl, hid ⟨HS.out.1, HS.out.2.1, HS.out.2.2, fun _ h => h, rfl, Keeps.refl _ _⟩⟩
  case round =>
    clear HS
    obtain ⟨l', rfl, hb⟩ := hrel
    obtain ⟨h1, h2, h3, h4, h5, h6⟩ := hb.out
    clear hb
    rcases l' with _ | ⟨x, r⟩
    · exact absurd rfl h1
    · have HM := hid (chain_measure h3)
      have he0 := HE.out x wr (h4 x (List.mem_cons_self ..)) h6
      have HR : Box (ChainAt w r ∧ Falls r ∧ (∀ x, x ∈ r → x ∈ l)) := hid ⟨h2.tail, h3.2, fun y hy => h4 y (List.mem_cons_of_mem _ hy)⟩
      rcases lk_cases x with ⟨p, y, f, b, i, rfl⟩ | ⟨p, t, rfl⟩
      · have hp := (h6.block p (heap_lt h2.1) (by simp)).trans h2.1
        have hI := hid (HI.out p y f b i _ wr h6 hp)
        have H5 : Box ((whys l).any hit = (hit y || (whys r).any hit)) := hid (by rw [h5]; rfl)
        have HK := hid h6
        have HP := hid hp
        clear h1 h2 h3 h4 h5 h6 hp
        change Sem.run Tryd.prog (binOp BinOp.eql 25 (.iface 33 (.pointer (some ⟨p, 0, none⟩))) _) wr = _ at he0
        have hu := hid fun w' (k : Keeps [] wr w') => unwP_any p _ _ _ _ _ w' ((k.block p (heap_lt HP.out) (by simp)).trans HP.out)
        cases hh : hit y with
        | true =>
          rw [hh] at hI
          change Code.wp _ _ _ { tmps := #[.iface 33 (.pointer (some ⟨p, 0, none⟩)), _, _, _, _, _, _, _, _, _, _, _, _, _, _, _, _, _, _, _, _, _, _, _, _, _, _, _, _, _, _, _, _, _, _, _, _, _, _, _, _, _, _, _, _, _, _, _, _, _, _, _, _, _], defers := _ } _
          go_wp2_with (go_at_call 20; refine hI.out.mono ?_; rintro e w' ⟨rfl, hk⟩; have HK2 := hid (HK.out.step hk); clear hk)
          go_ret
          rw [H5.out, hh]
          exact ⟨rfl, HK2.out⟩
        | false =>
          rw [hh] at hI
          rcases r with _ | ⟨z, r⟩
          · simp only [headV] at hu
            change Code.wp _ _ _ { tmps := #[.iface 33 (.pointer (some ⟨p, 0, none⟩)), _, _, _, _, _, _, _, _, _, _, _, _, _, _, _, _, _, _, _, _, _, _, _, _, _, _, _, _, _, _, _, _, _, _, _, _, _, _, _, _, _, _, _, _, _, _, _, _, _, _, _, _, _], defers := _ } _
            go_wp2_with (first | (go_at_call 20; refine hI.out.mono ?_; rintro e w' ⟨rfl, hk⟩; have HK2 := hid hk; clear hk) | (go_at_call 19; refine (hu.out _ HK2.out).mono ?_; rintro e w2 ⟨rfl, rfl⟩))
            go_ret
            rw [H5.out, hh]
            exact ⟨rfl, HK.out.step HK2.out⟩
          · obtain ⟨T2, p2, e2⟩ : ∃ T2 p2, headV (z :: r) = .iface T2 (.pointer (some ⟨p2, 0, none⟩)) := (headV_cases (z :: r)).resolve_left (by rcases lk_cases z with ⟨_, _, _, _, _, rfl⟩ | ⟨_, _, rfl⟩ <;> simp [headV])
            rw [e2] at hu
            have E2 := hid e2
            clear e2
            change Code.wp _ _ _ { tmps := #[.iface 33 (.pointer (some ⟨p, 0, none⟩)), _, _, _, _, _, _, _, _, _, _, _, _, _, _, _, _, _, _, _, _, _, _, _, _, _, _, _, _, _, _, _, _, _, _, _, _, _, _, _, _, _, _, _, _, _, _, _, _, _, _, _, _, _], defers := _ } _
            go_wp2_with (first | (go_at_call 20; refine hI.out.mono ?_; rintro e w' ⟨rfl, hk⟩; have HK2 := hid hk; clear hk) | (go_at_call 19; refine (hu.out _ HK2.out).mono ?_; rintro e w2 ⟨rfl, rfl⟩))
            go_roundw
            case rel => exact ⟨z :: r, E2.out.symm, hid ⟨by simp, HR.out.1, HR.out.2.1, HR.out.2.2, by rw [H5.out, hh]; rfl, HK.out.step HK2.out⟩⟩
            case measure => rw [← E2.out]; exact HM.out
      · have hp := (h6.block p (heap_lt h2.1) (by simp)).trans h2.1
        have H5 : Box ((whys l).any hit = (whys r).any hit) := hid (by rw [h5]; rfl)
        have HK := hid h6
        have hu := hid (unwO_any p _ _ wr hp)
        clear h1 h2 h3 h4 h5 h6 hp
        change Sem.run Tryd.prog (binOp BinOp.eql 25 (.iface 48 (.pointer (some ⟨p, 0, none⟩))) _) wr = _ at he0
        rcases r with _ | ⟨z, r⟩
        · simp only [headV] at hu
          change Code.wp _ _ _ { tmps := #[.iface 48 (.pointer (some ⟨p, 0, none⟩)), _, _, _, _, _, _, _, _, _, _, _, _, _, _, _, _, _, _, _, _, _, _, _, _, _, _, _, _, _, _, _, _, _, _, _, _, _, _, _, _, _, _, _, _, _, _, _, _, _, _, _, _, _], defers := _ } _
          go_wp2_with (go_at_call 71; refine hu.out.mono ?_; rintro e w2 ⟨rfl, rfl⟩)
          go_ret
          rw [H5.out]
          exact ⟨rfl, HK.out⟩
        · obtain ⟨T2, p2, e2⟩ : ∃ T2 p2, headV (z :: r) = .iface T2 (.pointer (some ⟨p2, 0, none⟩)) := (headV_cases (z :: r)).resolve_left (by rcases lk_cases z with ⟨_, _, _, _, _, rfl⟩ | ⟨_, _, rfl⟩ <;> simp [headV])
          rw [e2] at hu
          have E2 := hid e2
          clear e2
          change Code.wp _ _ _ { tmps := #[.iface 48 (.pointer (some ⟨p, 0, none⟩)), _, _, _, _, _, _, _, _, _, _, _, _, _, _, _, _, _, _, _, _, _, _, _, _, _, _, _, _, _, _, _, _, _, _, _, _, _, _, _, _, _, _, _, _, _, _, _, _, _, _, _, _, _], defers := _ } _
          go_wp2_with (go_at_call 71; refine hu.out.mono ?_; rintro e w2 ⟨rfl, rfl⟩)
          go_roundw
          case rel => exact ⟨z :: r, E2.out.symm, hid ⟨by simp, HR.out.1, HR.out.2.1, HR.out.2.2, H5.out, HK.out⟩⟩
          case measure => rw [← E2.out]; exact HM.out

end Go.Proofs.YtjofffhfabmfkaaDoor
