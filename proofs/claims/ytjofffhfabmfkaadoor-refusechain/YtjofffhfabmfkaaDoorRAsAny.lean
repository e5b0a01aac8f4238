/-
  errors.as and errors.As at a chain: the first refusal of it is found and laid into the target; else nothing.
-/
import Derived.Test.YtjofffhfabmfkaaDoorRAs
namespace Go.Proofs.YtjofffhfabmfkaaDoor
open Go.RowKit Go.Extern.Stop Go.Stop Go.Extern

/-- The first refusal of a chain. -/
def firstP : List Lk → Option Addr
  | [] => none
  | Sum.inl (p, _, _, _, _) :: _ => some ⟨p, 0, none⟩
  | Sum.inr (_, _) :: r => firstP r

/-- The block that an error points to, and one. -/
def downV : Value → Nat
  | .iface _ (.pointer (some a)) => a.block + 1
  | _ => 0

theorem heap_new (w : World) (o : Obj) : (w.alloc o).heap[w.heap.size]? = some o := by
  show (w.heap.push o)[w.heap.size]? = some o
  simp

theorem chain_measure {x : Lk} {r : List Lk} (h : Falls (x :: r)) : downV (headV r) < downV (headV (x :: r)) := by
  rcases r with _ | ⟨y, r⟩
  · rcases lk_cases x with ⟨_, _, _, _, _, rfl⟩ | ⟨_, _, rfl⟩ <;> simp [headV, downV]
  · have := h.1 y (by simp)
    rcases lk_cases x with ⟨_, _, _, _, _, rfl⟩ | ⟨_, _, rfl⟩ <;> rcases lk_cases y with ⟨_, _, _, _, _, rfl⟩ | ⟨_, _, rfl⟩ <;> simp_all [headV, downV, Lk.at]

set_option maxHeartbeats 4000000 in
theorem as_any (l : List Lk) (t a : Nat) (w : World) (hl : l ≠ []) (hc : ChainAt w l) (hF : Falls l) (ht : w.heap[t]? = some (.cells #[.pointer none] 33 (0, 0))) (ha : w.heap[a]? = some (.cells #[.pointer (some ⟨t, 0, none⟩)] 35 (0, 0))) :
    Calls Tryd.prog 29 #[headV l, .iface 35 (.pointer (some ⟨t, 0, none⟩)), .agg #[.pointer (some ⟨4, 35, none⟩), .pointer (some ⟨a, 0, none⟩), .int .u64 150], .iface 81 (.agg #[.pointer (some ⟨4, 33, none⟩)])] w
      fun e w' => e = .returned (.bool (firstP l).isSome) ∧ Keeps [t] w w' ∧ w'.heap[t]? = some (.cells #[.pointer (firstP l)] 33 (0, 0)) := by
  have h26 := @run_callFunc_extern Tryd.prog 26 _ (fun args => ReflectliteValue.unpack (args.getD 0 (.tuple #[]))) Tryd.func26 (by kernel_rfl) (by kernel_rfl) (by kernel_rfl) (by kernel_rfl)
  have h32 := @run_callFunc_extern Tryd.prog 32 _ ReflectliteType.typeOf Tryd.func32 (by kernel_rfl) (by kernel_rfl) (by kernel_rfl) (by kernel_rfl)
  have h76 := @run_callFunc_extern Tryd.prog 76 _ (ReflectliteType.relation "AssignableTo" ReflectliteType.assignableTo) Tryd.func76 (by kernel_rfl) (by kernel_rfl) (by kernel_rfl) (by kernel_rfl)
  have h37 := @run_callFunc_extern Tryd.prog 37 _ (ReflectliteValue.method (ReflectliteValue.valueError "reflectlite.Value.Elem" 0) ReflectliteValue.elem) Tryd.func37 (by kernel_rfl) (by kernel_rfl) (by kernel_rfl) (by kernel_rfl)
  have h38 := @run_callFunc_extern Tryd.prog 38 _ ReflectliteValue.set Tryd.func38 (by kernel_rfl) (by kernel_rfl) (by kernel_rfl) (by kernel_rfl)
  have f1 := f_typeOfP
  have f2 := f_typeOfO
  have f3 := f_methodAssignableTo
  have f4 := f_assignableP
  have f5 := f_assignableO
  have f6 := f_valueOfP
  have f7 := f_noAsO
  have f8 := f_hasUnwO
  have f9 := f_methodUnwO
  have htl := heap_lt ht
  have hal := heap_lt ha
  have k1 : Keeps [t] w (w.alloc (.cells #[.pointer (some ⟨4, 35, none⟩), .pointer (some ⟨a, 0, none⟩), .int .u64 150] 65)) := Keeps.alloc _ _ _
  have hc1 := hid (hc.quiet (Keeps.alloc [] w (.cells #[.pointer (some ⟨4, 35, none⟩), .pointer (some ⟨a, 0, none⟩), .int .u64 150] 65)))
  have b1 := (Keeps.alloc [] w (.cells #[.pointer (some ⟨4, 35, none⟩), .pointer (some ⟨a, 0, none⟩), .int .u64 150] 65)).block
  have hb1 : (w.alloc (.cells #[.pointer (some ⟨4, 35, none⟩), .pointer (some ⟨a, 0, none⟩), .int .u64 150] 65)).heap[w.heap.size]? = some (.cells #[.pointer (some ⟨4, 35, none⟩), .pointer (some ⟨a, 0, none⟩), .int .u64 150] 65 (0, 0)) := heap_new _ _
  have ht1 := hid ((b1 t htl (by simp)).trans ht)
  have ha1 := hid ((b1 a hal (by simp)).trans ha)
  go_enter Tryd.func29, Tryd.ntmps29
  go_wp2
  clear ht ha hc b1
  generalize w.alloc (.cells #[.pointer (some ⟨4, 35, none⟩), .pointer (some ⟨a, 0, none⟩), .int .u64 150] 65) = w1 at *
  have c0 : w1.cell? ⟨w.heap.size, 0, none⟩ = some (.pointer (some ⟨4, 35, none⟩)) := pcell hb1 0
  have c1 : w1.cell? ⟨w.heap.size, 1, none⟩ = some (.pointer (some ⟨a, 0, none⟩)) := pcell hb1 1
  have c2 : w1.cell? ⟨w.heap.size, 2, none⟩ = some (.int .u64 150) := pcell hb1 2
  have HB := hid hb1
  clear hb1
  generalize w.heap.size = q at *
  have K1 := hid k1
  clear k1
  have HF := hid hF
  have HL := hid hl
  clear hF hl
  go_loop [0] (fun v => ∃ l', v = headV l' ∧ Box (l' ≠ [] ∧ ChainAt w1 l' ∧ Falls l' ∧ firstP l' = firstP l)) (fun v => downV v)
  case atStart => exact ⟨l, rfl, hid ⟨HL.out, hc1.out, HF.out, rfl⟩⟩
  case round =>
    obtain ⟨l', rfl, hb⟩ := hrel
    obtain ⟨h1, h2, h3, h4⟩ := hb.out
    clear hb
    rcases l' with _ | ⟨x, r⟩
    · exact absurd rfl h1
    · have HM := hid (chain_measure h3)
      rcases lk_cases x with ⟨p, why, f, b, i, rfl⟩ | ⟨p, tx, rfl⟩
      · have H4 := hid h4
        clear h1 h2 h3 h4 HM
        have el := f_elemVPP ⟨a, 0, none⟩ ⟨t, 0, none⟩ w1 (pcell ha1.out 0)
        have htl1 := heap_lt ht1.out
        have st := f_setP ⟨t, 0, none⟩ ⟨w1.heap.size, 0, none⟩ ⟨p, 0, none⟩ (.pointer none) (w1.alloc (.cells #[.pointer (some ⟨p, 0, none⟩)] 33)) (by simp) (by rw [World.cell?_alloc_lt _ _ ⟨t, 0, none⟩ htl1]; exact pcell ht1.out 0)
          (by rw [World.frozen?_alloc_old _ _ ⟨t, 0, none⟩ (Nat.ne_of_lt htl1)]; exact pfrozen ht1.out 0)
        simp only [headV]
        go_wp2
        go_ret
        have e4 := H4.out
        simp only [firstP] at e4
        rw [← e4]
        have ks : Keeps [t] w1 (w1.setCell ⟨t, 0, none⟩ (.pointer (some ⟨p, 0, none⟩))) := Keeps.setCell [t] _ _ _ (List.mem_singleton.2 rfl)
        refine ⟨rfl, (K1.out.step ks).step (Keeps.alloc [t] _ _), ?_⟩
        rw [(Keeps.alloc [] _ _).block t (Nat.lt_of_lt_of_le htl1 ks.size) (by simp), heap_setCell_same _ t 0 _ _ _ ht1.out]
        rfl
      · have hp := h2.1
        have HC := hid h2.2
        have HF2 := hid h3.2
        have H4 := hid (show firstP r = firstP l from h4)
        clear h1 h2 h3 h4
        have hu := unwO_any p tx (headV r) w1 hp
        have HP := hid hp
        clear hp
        rcases r with _ | ⟨y, r⟩
        · simp only [headV] at hu ⊢
          go_wp2_with (go_at_call 71; refine hu.mono ?_; rintro e w' ⟨rfl, rfl⟩)
          go_ret
          have e4 := H4.out
          simp only [firstP] at e4
          rw [← e4]
          exact ⟨rfl, K1.out, ht1.out⟩
        · have hne := hid (List.cons_ne_nil y r)
          rcases lk_cases y with ⟨p2, why, f, b, i, rfl⟩ | ⟨p2, t2, rfl⟩
          · simp only [headV] at hu ⊢
            go_wp2_with (go_at_call 71; refine hu.mono ?_; rintro e w' ⟨rfl, rfl⟩)
            go_round
            case rel => exact ⟨_, rfl, hid ⟨hne.out, HC.out, HF2.out, H4.out⟩⟩
            case measure => exact HM.out
          · simp only [headV] at hu ⊢
            go_wp2_with (go_at_call 71; refine hu.mono ?_; rintro e w' ⟨rfl, rfl⟩)
            go_round
            case rel => exact ⟨_, rfl, hid ⟨hne.out, HC.out, HF2.out, H4.out⟩⟩
            case measure => exact HM.out

set_option maxHeartbeats 4000000 in
/-- errors.As at a target that holds nil: the first refusal of the chain. -/
theorem As_any (l : List Lk) (t : Nat) (w : World) (hg : Glob w) (hc : ChainAt w l) (hF : Falls l) (ht : w.heap[t]? = some (.cells #[.pointer none] 33 (0, 0))) :
    Calls Tryd.prog 14 #[headV l, .iface 35 (.pointer (some ⟨t, 0, none⟩))] w
      fun e w' => e = .returned (.bool (firstP l).isSome) ∧ Keeps [t] w w' ∧ w'.heap[t]? = some (.cells #[.pointer (firstP l)] 33 (0, 0)) := by
  by_cases hl : l = []
  · subst hl
    simp only [headV]
    go_enter Tryd.func14, Tryd.ntmps14
    go_wp2
    go_ret
    exact ⟨rfl, Keeps.refl _ _, ht⟩
  have hnil : ∀ w, (binOp .eql 25 (headV l) .nilIface).run Tryd.prog w = .ok (.bool false) w := by
    intro w
    rcases l with _ | ⟨x, r⟩
    · exact absurd rfl hl
    · rcases lk_cases x with ⟨_, _, _, _, _, rfl⟩ | ⟨_, _, rfl⟩ <;> kernel_rfl
  have hgd : ∀ w, (eqGuard .eql 25 (.tmp 8) (.const .nilIface) (headV l) .nilIface).run Tryd.prog w = .ok () w := by
    intro w
    rcases l with _ | ⟨x, r⟩
    · exact absurd rfl hl
    · rcases lk_cases x with ⟨_, _, _, _, _, rfl⟩ | ⟨_, _, rfl⟩ <;> kernel_rfl
  have h26 := @run_callFunc_extern Tryd.prog 26 _ (fun args => ReflectliteValue.unpack (args.getD 0 (.tuple #[]))) Tryd.func26 (by kernel_rfl) (by kernel_rfl) (by kernel_rfl) (by kernel_rfl)
  have h27 := @run_callFunc_extern Tryd.prog 27 _ (ReflectliteValue.methodAny (ReflectliteValue.valueError "reflectlite.Value.Type" 0) (fun t _ _ _ => ReflectliteType.toType t)) Tryd.func27 (by kernel_rfl) (by kernel_rfl) (by kernel_rfl) (by kernel_rfl)
  have h28 := @run_callFunc_extern Tryd.prog 28 _ (ReflectliteValue.method (ReflectliteValue.valueError "reflectlite.Value.IsNil" 0) ReflectliteValue.isNil) Tryd.func28 (by kernel_rfl) (by kernel_rfl) (by kernel_rfl) (by kernel_rfl)
  have h67 := @run_callFunc_extern Tryd.prog 67 _ (ReflectliteType.abiMethod fun t => do pure (.int .u8 (← Rtype.kind t))) Tryd.func67 (by kernel_rfl) (by kernel_rfl) (by kernel_rfl) (by kernel_rfl)
  have h78 := @run_callFunc_extern Tryd.prog 78 _ (ReflectliteType.method ReflectliteType.elem) Tryd.func78 (by kernel_rfl) (by kernel_rfl) (by kernel_rfl) (by kernel_rfl)
  have h79 := @run_callFunc_extern Tryd.prog 79 _ (ReflectliteType.relation "Implements" ReflectliteType.implements_) Tryd.func79 (by kernel_rfl) (by kernel_rfl) (by kernel_rfl) (by kernel_rfl)
  have f1 := f_valueOfPP
  have f2 := f_typePP
  have f3 := f_methodKind
  have f4 := f_kindPP
  have f5 := f_kindP
  have f6 := f_methodElem
  have f7 := f_methodImplements
  have f8 := f_elemPP
  have f9 := f_implementsP
  have n8 := f_isNilPP ⟨w.heap.size, 0, none⟩ ⟨t, 0, none⟩ ((w.alloc (.cells #[.pointer (some ⟨t, 0, none⟩)] 35)).alloc (.cells #[.pointer (some ⟨4, 35, none⟩), .pointer (some ⟨w.heap.size, 0, none⟩), .int .u64 150] 65)) (by simp)
  have k2 := ((Keeps.refl [] w).step (Keeps.alloc [] w (.cells #[.pointer (some ⟨t, 0, none⟩)] 35))).step (Keeps.alloc [] _ (.cells #[.pointer (some ⟨4, 35, none⟩), .pointer (some ⟨w.heap.size, 0, none⟩), .int .u64 150] 65))
  have g2 := (hg.quiet k2).et
  have HA := hid (as_any l t w.heap.size ((w.alloc (.cells #[.pointer (some ⟨t, 0, none⟩)] 35)).alloc (.cells #[.pointer (some ⟨4, 35, none⟩), .pointer (some ⟨w.heap.size, 0, none⟩), .int .u64 150] 65)) hl (hc.quiet k2) hF
    ((k2.block t (heap_lt ht) (by simp)).trans ht) (by rw [(Keeps.alloc [] _ _).block _ (by simp) (by simp)]; exact heap_new _ _))
  have K2 := hid k2
  clear k2
  generalize headV l = v at *
  go_enter Tryd.func14, Tryd.ntmps14
  go_wp2_with (go_at_call 29; refine HA.out.mono ?_; rintro e w' ⟨rfl, hk, hh⟩)
  go_ret
  exact ⟨rfl, (K2.out.mono (by simp)).step hk, hh⟩
end Go.Proofs.YtjofffhfabmfkaaDoor
