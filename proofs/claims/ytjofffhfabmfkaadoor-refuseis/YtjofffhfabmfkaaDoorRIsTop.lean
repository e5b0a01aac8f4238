/-
  errors.Is at a chain, the target a refusal or another.
-/
import Derived.Test.YtjofffhfabmfkaaDoorRIsAny
namespace Go.Proofs.YtjofffhfabmfkaaDoor
open Go.RowKit Go.Extern.Stop Go.Stop Go.Extern

theorem f_methodComparable (v : Value) (w : World) : (Go.method 239 81 v "Comparable").run Tryd.prog w = .ok (77, v) w := by kernel_rfl
theorem f_typeOfCallP (v : Value) (w : World) : (callFunc 32 #[.iface 33 v]).run Tryd.prog w = .ok (.value (.iface 81 (.agg #[.pointer (some ⟨4, 33, none⟩)]))) w := by kernel_rfl
theorem f_typeOfCallO (v : Value) (w : World) : (callFunc 32 #[.iface 48 v]).run Tryd.prog w = .ok (.value (.iface 81 (.agg #[.pointer (some ⟨4, 48, none⟩)]))) w := by kernel_rfl
theorem f_compCallP (w : World) : (callFunc 77 #[.agg #[.pointer (some ⟨4, 33, none⟩)]]).run Tryd.prog w = .ok (.value (.bool true)) w := by kernel_rfl
theorem f_compCallO (w : World) : (callFunc 77 #[.agg #[.pointer (some ⟨4, 48, none⟩)]]).run Tryd.prog w = .ok (.value (.bool true)) w := by kernel_rfl

set_option maxHeartbeats 2000000 in
/-- errors.Is, the target of one of the two types. -/
theorem Is_any (l : List Lk) (T q : Nat) (hT : T = 33 ∨ T = 48) (hit : Int → Bool) (w : World)
    (ha : l ≠ [] → Calls Tryd.prog 33 #[headV l, .iface T (.pointer (some ⟨q, 0, none⟩)), .bool true] w fun e w' => e = .returned (.bool ((whys l).any hit)) ∧ Keeps [] w w') :
    Calls Tryd.prog 17 #[headV l, .iface T (.pointer (some ⟨q, 0, none⟩))] w fun e w' => e = .returned (.bool ((whys l).any hit)) ∧ Keeps [] w w' := by
  by_cases hl : l = []
  · subst hl
    have hn := run_eql_iface_nil_left (P := Tryd.prog) w T (.pointer (some ⟨q, 0, none⟩)) Tryd.underlying25
    clear ha
    simp only [headV]
    go_enter Tryd.func17, Tryd.ntmps17
    go_wp2
    go_ret
    exact ⟨rfl, Keeps.refl _ _⟩
  · have HA := hid (ha hl)
    clear ha
    have f1 := f_methodComparable
    have f2 := f_typeOfCallP
    have f3 := f_typeOfCallO
    have f4 := f_compCallP
    have f5 := f_compCallO
    obtain ⟨T2, p2, e2⟩ : ∃ T2 p2, headV l = .iface T2 (.pointer (some ⟨p2, 0, none⟩)) := (headV_cases l).resolve_left (by
      rcases l with _ | ⟨x, r⟩
      · exact absurd rfl hl
      · rcases lk_cases x with ⟨_, _, _, _, _, rfl⟩ | ⟨_, _, rfl⟩ <;> simp [headV])
    rw [e2] at HA ⊢
    clear e2 hl
    rcases hT with rfl | rfl
    · go_enter Tryd.func17, Tryd.ntmps17
      go_wp2_with (go_at_call 33; refine HA.out.mono ?_; rintro e w' ⟨rfl, hk⟩; have HK := hid hk; clear hk)
      go_ret
      exact ⟨rfl, HK.out⟩
    · go_enter Tryd.func17, Tryd.ntmps17
      go_wp2_with (go_at_call 33; refine HA.out.mono ?_; rintro e w' ⟨rfl, hk⟩; have HK := hid hk; clear hk)
      go_ret
      exact ⟨rfl, HK.out⟩

theorem chain_cells {w : World} {p : Nat} {y f b i : Int} : ∀ {l : List Lk}, ChainAt w l → .ref p y f b i ∈ l → ∃ cs, w.heap[p]? = some (.cells cs 44 (0, 0))
  | x :: l, hc, hx => by
    rcases List.mem_cons.1 hx with rfl | hx
    · exact ⟨_, hc.1⟩
    · exact chain_cells hc.tail hx
theorem chain_cellsO {w : World} {p : Nat} {t : ByteArray} : ∀ {l : List Lk}, ChainAt w l → .oth p t ∈ l → ∃ cs, w.heap[p]? = some (.cells cs 50 (0, 0))
  | x :: l, hc, hx => by
    rcases List.mem_cons.1 hx with rfl | hx
    · exact ⟨_, hc.1⟩
    · exact chain_cellsO hc.tail hx

/-- Is a refusal of the chain asked for by the reason k (0: any)? -/
def asked (k y : Int) : Bool := decide (k = 0 ∨ k = y)

/-- errors.Is at a target that is a refusal made behind the chain. -/
theorem Is_ref (l : List Lk) (q : Nat) (k f b i : Int) (w : World) (hg : Glob w) (hc : ChainAt w l) (hF : Falls l) (hq : ChainAt w [.ref q k f b i]) (hn : ∀ x, x ∈ l → x.at ≠ q) :
    Calls Tryd.prog 17 #[headV l, .iface 33 (.pointer (some ⟨q, 0, none⟩))] w fun e w' => e = .returned (.bool ((whys l).any (asked k))) ∧ Keeps [] w w' := by
  refine Is_any l 33 q (Or.inl rfl) (asked k) w fun hl => is_any l 33 q (asked k) w hl hc hF (hid fun p y f' b' i' v w' kk hp => ?_) (hid fun x w' hx kk => ?_)
  · exact is_ref p q y f' b' i' k f b i v w' (hg.quiet kk) hp (hq.quiet kk)
  · have hne := hn x hx
    have hqh := (hq.quiet kk).1
    rcases lk_cases x with ⟨p, y, f', b', i', rfl⟩ | ⟨p, t, rfl⟩
    · have hp : ∃ cs, w'.heap[p]? = some (.cells cs 44 (0, 0)) := chain_cells (hc.quiet kk) hx
      obtain ⟨cs, hp⟩ := hp
      exact eq_other hne hp hqh
    · exact eq_types _ _ _ _ (by decide) w'

/-- errors.Is at a target that is another, made behind the chain. -/
theorem Is_oth (l : List Lk) (q : Nat) (t : ByteArray) (w : World) (hg : Glob w) (hc : ChainAt w l) (hF : Falls l) (hq : ChainAt w [.oth q t]) (hn : ∀ x, x ∈ l → x.at ≠ q) :
    Calls Tryd.prog 17 #[headV l, .iface 48 (.pointer (some ⟨q, 0, none⟩))] w fun e w' => e = .returned (.bool false) ∧ Keeps [] w w' := by
  have h : ∀ ys : List Int, ys.any (fun _ => false) = false := fun ys => by simp
  have := Is_any l 48 q (Or.inr rfl) (fun _ => false) w fun hl => is_any l 48 q (fun _ => false) w hl hc hF (hid fun p y f' b' i' v w' kk hp => is_oth p q t w' (hg.quiet kk) (hq.quiet kk)) (hid fun x w' hx kk => by
    have hne := hn x hx
    have hqh := (hq.quiet kk).1
    rcases lk_cases x with ⟨p, y, f', b', i', rfl⟩ | ⟨p, t', rfl⟩
    · exact eq_types _ _ _ _ (by decide) w'
    · obtain ⟨cs, hp⟩ : ∃ cs, w'.heap[p]? = some (.cells cs 50 (0, 0)) := chain_cellsO (hc.quiet kk) hx
      exact eq_otherO hne hp hqh)
  rw [h] at this
  exact this
end Go.Proofs.YtjofffhfabmfkaaDoor
