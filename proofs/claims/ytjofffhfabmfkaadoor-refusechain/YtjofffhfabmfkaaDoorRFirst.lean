/-
  refuse.first (errors.As under a deferred recover), errors.Unwrap, refuse.unwrap.
-/
import Derived.Test.YtjofffhfabmfkaaDoorRAsAny
import Derived.Defers
import Derived.Recover
namespace Go.Proofs.YtjofffhfabmfkaaDoor
open Go.RowKit Go.Extern.Stop Go.Stop Go.Extern

theorem first1_idle (p q : Addr) (w : World) :
    CallsD Tryd.prog 34 #[.pointer (some p), .pointer (some q)] .returning w fun e u' w' => e = .returned (.tuple #[]) ∧ u' = .returning ∧ w' = w := by
  refine callsD_of_wpS Tryd.func34 rfl fun c₀ cs hu => ?_
  apply wpS_seq
  apply wpS_region
  simp [wpOpsS, go_sem, recoverD, hu, Tryd.ntmps34, Exit.thenS]
  refine wpS_cond (t := false) (by simp [Act.eval, Array.replicate]) ?_
  simp only [Bool.false_eq_true, if_false]
  refine wpS_of_wp (wp_skip ?_)
  cases c₀
  simp_all [bodyPostS, results, Tryd.results34]

theorem unwrap1_idle (p : Addr) (w : World) :
    CallsD Tryd.prog 40 #[.pointer (some p)] .returning w fun e u' w' => e = .returned (.tuple #[]) ∧ u' = .returning ∧ w' = w := by
  refine callsD_of_wpS Tryd.func40 rfl fun c₀ cs hu => ?_
  apply wpS_seq
  apply wpS_region
  simp [wpOpsS, go_sem, recoverD, hu, Tryd.ntmps40, Exit.thenS]
  refine wpS_cond (t := false) (by simp [Act.eval, Array.replicate]) ?_
  simp only [Bool.false_eq_true, if_false]
  refine wpS_of_wp (wp_skip ?_)
  cases c₀
  simp_all [bodyPostS, results, Tryd.results40]

set_option maxHeartbeats 1000000 in
theorem eunwrap_any (l : List Lk) (w : World) (hc : ChainAt w l) :
    Calls Tryd.prog 22 #[headV l] w fun e w' => e = .returned (headV l.tail) ∧ w' = w := by
  have f1 := f_hasUnwO
  have f2 := f_hasUnwP
  have f3 := f_methodUnwO
  have f4 := f_methodUnwP
  rcases l with _ | ⟨x, r⟩
  · have f5 : ∀ w, (Instr.typeAssert .nilIface 25 76 true).run Tryd.prog w = .ok (.tuple #[.nilIface, .bool false]) w := fun w => by kernel_rfl
    simp only [headV, List.tail_nil]
    go_enter Tryd.func22, Tryd.ntmps22
    go_wp2
    go_ret
    exact ⟨rfl, rfl⟩
  · rcases lk_cases x with ⟨p, why, f, b, i, rfl⟩ | ⟨p, t, rfl⟩
    · have hu := unwP_any p _ _ _ _ _ w hc.1
      show Calls Tryd.prog 22 #[.iface 33 (.pointer (some ⟨p, 0, none⟩))] w fun e w' => e = .returned (headV r) ∧ w' = w
      clear hc
      generalize headV r = v at *
      go_enter Tryd.func22, Tryd.ntmps22
      go_wp2_with (go_at_call 19; refine hu.mono ?_; rintro e w' ⟨rfl, rfl⟩)
      go_ret
      exact ⟨rfl, rfl⟩
    · have hu := unwO_any p _ _ w hc.1
      show Calls Tryd.prog 22 #[.iface 48 (.pointer (some ⟨p, 0, none⟩))] w fun e w' => e = .returned (headV r) ∧ w' = w
      clear hc
      generalize headV r = v at *
      go_enter Tryd.func22, Tryd.ntmps22
      go_wp2_with (go_at_call 71; refine hu.mono ?_; rintro e w' ⟨rfl, rfl⟩)
      go_ret
      exact ⟨rfl, rfl⟩

theorem headV_cases (l : List Lk) : headV l = .nilIface ∨ ∃ T p, headV l = .iface T (.pointer (some ⟨p, 0, none⟩)) := by
  rcases l with _ | ⟨x, r⟩
  · exact Or.inl rfl
  · rcases lk_cases x with ⟨_, _, _, _, _, rfl⟩ | ⟨_, _, rfl⟩
    · exact Or.inr ⟨_, _, rfl⟩
    · exact Or.inr ⟨_, _, rfl⟩

set_option maxHeartbeats 1000000 in
theorem unwrap_any (l : List Lk) (w : World) (hc : ChainAt w l) :
    Calls Tryd.prog 35 #[headV l] w fun e w' => e = .returned (headV l.tail) ∧ Keeps [] w w' := by
  have hmf : ∀ (fn : Fn) (first cap : Array Value) (w : World), (Instr.makeFunc fn first cap).run Tryd.prog w = .ok (.func fn first cap) w := fun _ _ _ _ => rfl
  have ka := Keeps.alloc [] w (.cells #[.nilIface] 25)
  have hu := eunwrap_any l _ (hc.quiet ka)
  clear hc ka
  generalize headV l = v at *
  rcases headV_cases l.tail with e2 | ⟨T, p, e2⟩
  · rw [e2] at hu ⊢
    clear e2
    go_enter_defers Tryd.func35, Tryd.ntmps35
    go_wp2_with (go_at_call 22; refine hu.mono ?_; rintro e w' ⟨rfl, rfl⟩)
    refine leaves_cons (f := 40) (args := #[.pointer (some ⟨w.heap.size, 0, none⟩)]) (by simp) (by simp [go_sem]) ?_
    refine (unwrap1_idle ⟨w.heap.size, 0, none⟩ _).mono ?_
    rintro e u' w'' ⟨rfl, rfl, rfl⟩
    simp [Leaves, settle, results, Tryd.results35, go_sem]
    exact Keeps.alloc [] _ _
  · rw [e2] at hu ⊢
    clear e2
    go_enter_defers Tryd.func35, Tryd.ntmps35
    go_wp2_with (go_at_call 22; refine hu.mono ?_; rintro e w' ⟨rfl, rfl⟩)
    refine leaves_cons (f := 40) (args := #[.pointer (some ⟨w.heap.size, 0, none⟩)]) (by simp) (by simp [go_sem]) ?_
    refine (unwrap1_idle ⟨w.heap.size, 0, none⟩ _).mono ?_
    rintro e u' w'' ⟨rfl, rfl, rfl⟩
    simp [Leaves, settle, results, Tryd.results35, go_sem]
    exact Keeps.alloc [] _ _

theorem set_cell {w : World} {b : Nat} {c : Value} {T : TypeId} (h : w.heap[b]? = some (.cells #[c] T (0, 0))) (u : Value) : (w.setCell ⟨b, 0, none⟩ u).cell? ⟨b, 0, none⟩ = some u := by
  have e := heap_setCell_same w b 0 _ _ u h
  exact (pcell e 0).trans rfl
theorem heap_setCell_other (w : World) (a : Addr) (u : Value) (k : Nat) (h : a.block ≠ k) : (w.setCell a u).heap[k]? = w.heap[k]? := Below.heap_setCell _ _ _ _ h.symm

set_option maxHeartbeats 1000000 in
/-- refuse.first: the first refusal of the chain, if there is one. -/
theorem first_any (l : List Lk) (w : World) (hg : Glob w) (hc : ChainAt w l) (hF : Falls l) :
    Calls Tryd.prog 24 #[headV l] w fun e w' => e = .returned (.tuple #[.pointer (firstP l), .bool (firstP l).isSome]) ∧ Keeps [] w w' := by
  have hmf : ∀ (fn : Fn) (first cap : Array Value) (w : World), (Instr.makeFunc fn first cap).run Tryd.prog w = .ok (.func fn first cap) w := fun _ _ _ _ => rfl
  have k2 := ((Keeps.refl [] w).step (Keeps.alloc [] w (.cells #[.pointer none] 33))).step (Keeps.alloc [] _ (.cells #[.bool false] 4))
  have hA := hid (As_any l w.heap.size ((w.alloc (.cells #[.pointer none] 33)).alloc (.cells #[.bool false] 4)) (hg.quiet k2) (hc.quiet k2) hF (by rw [(Keeps.alloc [] _ _).block _ (by simp) (by simp)]; exact heap_new _ _))
  have hb : ((w.alloc (.cells #[.pointer none] 33)).alloc (.cells #[.bool false] 4)).heap[w.heap.size + 1]? = some (.cells #[.bool false] 4 (0, 0)) := by
    have := heap_new (w.alloc (.cells #[.pointer none] 33)) (.cells #[.bool false] 4)
    simpa using this
  have HB := hid hb
  have K := hid k2
  clear hc k2 hF hg hb
  have hfin : ∀ w1 u v x y, Keeps [w.heap.size] ((w.alloc (.cells #[.pointer none] 33)).alloc (.cells #[.bool false] 4)) w1 → Keeps [] w ((w1.setCell ⟨w.heap.size, x, none⟩ u).setCell ⟨w.heap.size + 1, y, none⟩ v) := by
    intro w1 u v x y h
    refine ((K.out.trans h ?_).trans (Keeps.setCell [w.heap.size] _ _ _ (List.mem_singleton.2 rfl)) ?_).trans (Keeps.setCell [w.heap.size + 1] _ _ _ (List.mem_singleton.2 rfl)) ?_
    all_goals (intro x hx hl; simp at hx; omega)
  generalize headV l = v at *
  cases hp : firstP l with
  | none =>
    rw [hp] at hA
    go_enter_defers Tryd.func24, Tryd.ntmps24
    go_wp2_with (go_at_call 14; refine hA.out.mono ?_; rintro e w' ⟨rfl, hk, hh⟩; have c0 := pcell hh 0; have z0 := pfrozen hh 0; have hh1 := (hk.block (w.heap.size + 1) (by simp) (by simp)).trans HB.out; have c1 := pcell hh1 0; have z1 := pfrozen hh1 0; have HK := hid hk; have HH := hid hh; have HH1 := hid hh1; clear hh hh1 hk)
    refine leaves_cons (f := 34) (args := #[.pointer (some ⟨w.heap.size, 0, none⟩), .pointer (some ⟨w.heap.size + 1, 0, none⟩)]) (by simp) (by simp [go_sem]) ?_
    refine (first1_idle ⟨w.heap.size, 0, none⟩ ⟨w.heap.size + 1, 0, none⟩ _).mono ?_
    rintro e u' w'' ⟨rfl, rfl, rfl⟩
    simp [Leaves, settle, results, Tryd.results24, go_sem]
    have e0 : ∀ u, (w'.setCell ⟨w.heap.size, 0, none⟩ u).cell? ⟨w.heap.size, 0, none⟩ = some u := fun u => set_cell HH.out u
    have e1 : ∀ u v, ((w'.setCell ⟨w.heap.size, 0, none⟩ v).setCell ⟨w.heap.size + 1, 0, none⟩ u).cell? ⟨w.heap.size + 1, 0, none⟩ = some u := fun u v =>
      set_cell (by rw [heap_setCell_other _ _ _ _ (by simp)]; exact HH1.out) u
    simp [e0, e1]
    exact hfin _ _ _ _ _ HK.out
  | some a =>
    rw [hp] at hA
    go_enter_defers Tryd.func24, Tryd.ntmps24
    go_wp2_with (go_at_call 14; refine hA.out.mono ?_; rintro e w' ⟨rfl, hk, hh⟩; have c0 := pcell hh 0; have z0 := pfrozen hh 0; have hh1 := (hk.block (w.heap.size + 1) (by simp) (by simp)).trans HB.out; have c1 := pcell hh1 0; have z1 := pfrozen hh1 0; have HK := hid hk; have HH := hid hh; have HH1 := hid hh1; clear hh hh1 hk)
    refine leaves_cons (f := 34) (args := #[.pointer (some ⟨w.heap.size, 0, none⟩), .pointer (some ⟨w.heap.size + 1, 0, none⟩)]) (by simp) (by simp [go_sem]) ?_
    refine (first1_idle ⟨w.heap.size, 0, none⟩ ⟨w.heap.size + 1, 0, none⟩ _).mono ?_
    rintro e u' w'' ⟨rfl, rfl, rfl⟩
    simp [Leaves, settle, results, Tryd.results24, go_sem]
    have e0 : ∀ u, (w'.setCell ⟨w.heap.size, 0, none⟩ u).cell? ⟨w.heap.size, 0, none⟩ = some u := fun u => set_cell HH.out u
    have e1 : ∀ u v, ((w'.setCell ⟨w.heap.size, 0, none⟩ v).setCell ⟨w.heap.size + 1, 0, none⟩ u).cell? ⟨w.heap.size + 1, 0, none⟩ = some u := fun u v =>
      set_cell (by rw [heap_setCell_other _ _ _ _ (by simp)]; exact HH1.out) u
    simp [e0, e1]
    exact hfin _ _ _ _ _ HK.out
end Go.Proofs.YtjofffhfabmfkaaDoor
