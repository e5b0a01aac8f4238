/-
  types.field, method.
-/
import Derived.Test.YtlopddflbhnjdaaDoorTReg
namespace Go.Proofs.YtlopddflbhnjdaaDoor
open Go.RowKit

def recOf (P : Pr8) (k : Int) : List (Int × Int) := P.recs.getD k.toNat []
def ifOf (P : Pr8) (k : Int) : List Int := P.ifs.getD k.toNat []
/-- A field's type. -/
def fieldO (P : Pr8) (t : Int × Int) (n : Int) : Option (Int × Int) := if t.1 = 1 ∧ inB t.2 P.recs.length = true ∧ inB n (recOf P t.2).length = true then some ((recOf P t.2).getD n.toNat (0, 0)) else none
def fieldV (o : Option (Int × Int)) : Value := .tuple #[tyV (o.getD (0, 0)), .bool o.isSome]
theorem neqb {a b : Int} (h : a = b) : (a != b) = false := by simpa using h
theorem nneb {a b : Int} (h : a ≠ b) : (a != b) = true := by simpa using h
set_option maxHeartbeats 4000000 in
theorem field_any {w : World} {pb po : Nat} {P : Pr8} (h : PrC w pb po P) (t : Int × Int) (n : Int) : Calls Tryd.prog 65 #[.pointer (some ⟨pb, po, none⟩), tyV t, .int .i64 n] w fun e w' => e = .returned (fieldV (fieldO P t n)) ∧ Keeps [] w w' := by
  obtain ⟨a, cp, c0, hr, _⟩ := h.c0
  obtain ⟨W, hW⟩ : ∃ W, W = (w.alloc (.cells #[.int .i64 t.1, .int .i64 t.2] 39)).alloc (.cells #[.int .i64 0, .int .i64 0] 39) := ⟨_, rfl⟩
  have k2 : Keeps [] w W := by rw [hW]; exact (Keeps.alloc [] w _).quiet (Keeps.alloc [] _ _)
  replace c0 := cell_stays k2 c0
  have hn1 : W.heap[w.heap.size]? = some (.cells #[.int .i64 t.1, .int .i64 t.2] 39 (0, 0)) := by rw [hW]; exact keep_heap (heap_new w _) (Keeps.alloc [] _ _)
  have hn2 : W.heap[w.heap.size + 1]? = some (.cells #[.int .i64 0, .int .i64 0] 39 (0, 0)) := by
    have := heap_new (w.alloc (.cells #[.int .i64 t.1, .int .i64 t.2] 39)) (.cells #[.int .i64 0, .int .i64 0] 39)
    rw [World.size_alloc] at this
    rw [hW]
    exact this
  have HWI := hid fun (k : Int) (n : Nat) (w : World) => within_any k n w
  have K2 := hid k2
  have HR := hid hr
  have HN2 := hid hn2
  have s0 := hcell hn1 0
  have s1 := hcell hn1 1
  have z0 := hfrozen hn2 0
  have z1 := hfrozen hn2 1
  have q0 := hcell hn2 0
  have q1 := hcell hn2 1
  have HWE := hid hW
  have HL : Box (W.heap.size = w.heap.size + 2 ∧ Keeps [w.heap.size + 1] W W) := hid ⟨by rw [hW]; simp, Keeps.refl _ _⟩
  have fin : ∀ W' u0 u1, Keeps [] W W' → Keeps [] w ((W'.setCell ⟨w.heap.size + 1, 0, none⟩ u0).setCell ⟨w.heap.size + 1, 1, none⟩ u1) := fun W' u0 u1 k => (K2.out.quiet k).trans (keeps2 _ (w.heap.size + 1) _ _) (fun x hx hl => by simp at hx; omega)
  have FIN := hid fin
  have E : Box (∀ W' u0 u1, Keeps [] W W' → (((W'.setCell ⟨w.heap.size + 1, 0, none⟩ u0).setCell ⟨w.heap.size + 1, 1, none⟩ u1)).heap[w.heap.size + 1]? = some (.cells #[u0, u1] 39 (0, 0))) := hid fun W' u0 u1 k => set2 (keep_heap HN2.out k) u0 u1
  clear h hr hW k2 hn1 hn2 fin
  obtain ⟨t1, t2⟩ := t
  simp only at *
  by_cases h1 : t1 = 1
  case neg =>
    have HE : Box (fieldO P (t1, t2) n = none) := hid (by unfold fieldO; rw [if_neg (fun h => h1 h.1)])
    have o1 := nneb h1
    clear h1
    go_enter Tryd.func65, Tryd.ntmps65
    go_upto_region 1 with fail
    rw [← HWE.out]
    clear HWE
    generalize w.heap.size = q at *
    go_quiet (fail)
    go_wp2_with fail
    have e0 := fun m => hcell (E.out (W.drewN m) (.int .i64 0) (.int .i64 0) (Keeps.drewN [] W m)) 0
    have e1 := fun m => hcell (E.out (W.drewN m) (.int .i64 0) (.int .i64 0) (Keeps.drewN [] W m)) 1
    exact bodyPost_ret (v := .tuple #[.agg #[.int .i64 0, .int .i64 0], .bool false]) (by simp [results, Tryd.results65, go_sem, e0, e1]) rfl ⟨by rw [HE.out]; rfl, FIN.out _ _ _ (Keeps.drewN [] W _)⟩
  subst h1
  cases h2 : inB t2 P.recs.length with
  | false =>
    have HE : Box (fieldO P (1, t2) n = none) := hid (by unfold fieldO; rw [if_neg (fun h => by rw [h2] at h; exact Bool.noConfusion h.2.1)])
    have HW1 : Box (∀ w, Calls Tryd.prog 29 #[.int .i64 t2, .int .i64 (P.recs.length : Int)] w fun e w' => e = .returned (.bool false) ∧ w' = w) := hid fun w => by rw [← h2]; exact HWI.out _ _ w
    clear h2
    generalize P.recs.length = N at *
    go_enter Tryd.func65, Tryd.ntmps65
    go_upto_region 1 with fail
    rw [← HWE.out]
    clear HWE
    generalize w.heap.size = q at *
    go_quiet ((go_at_call 29; exact Calls.quiet_of_same (HW1.out _)))
    go_wp2_with fail
    have e0 := fun m => hcell (E.out (W.drewN m) (.int .i64 0) (.int .i64 0) (Keeps.drewN [] W m)) 0
    have e1 := fun m => hcell (E.out (W.drewN m) (.int .i64 0) (.int .i64 0) (Keeps.drewN [] W m)) 1
    exact bodyPost_ret (v := .tuple #[.agg #[.int .i64 0, .int .i64 0], .bool false]) (by simp [results, Tryd.results65, go_sem, e0, e1]) rfl ⟨by rw [HE.out]; rfl, FIN.out _ _ _ (Keeps.drewN [] W _)⟩
  | true =>
    obtain ⟨g0, g1⟩ := inB_iff.1 h2
    have HW1 : Box (∀ w, Calls Tryd.prog 29 #[.int .i64 t2, .int .i64 (P.recs.length : Int)] w fun e w' => e = .returned (.bool true) ∧ w' = w) := hid fun w => by rw [← h2]; exact HWI.out _ _ w
    obtain ⟨k, rfl⟩ : ∃ k : Nat, t2 = (k : Int) := ⟨t2.toNat, by omega⟩
    have ek : ((k : Int)).toNat = k := by omega
    obtain ⟨b, off, rfl, hc⟩ := HR.out.at (getD_get (l := P.recs) (k := k) (d := []) (by omega))
    rw [Nat.mul_one] at hc
    obtain ⟨ra, rp, e5, hrr, _⟩ := hc
    have d5 := cell_stays K2.out e5
    have HRR := hid hrr
    have er : recOf P (k : Int) = P.recs.getD k [] := by unfold recOf; rw [ek]
    rw [← er] at d5 HRR
    clear e5 hrr er
    cases h3 : inB n (recOf P (k : Int)).length with
    | false =>
      have HE : Box (fieldO P (1, (k : Int)) n = none) := hid (by unfold fieldO; rw [if_neg (fun h => by rw [h3] at h; exact Bool.noConfusion h.2.2)])
      have HW2 : Box (∀ w, Calls Tryd.prog 29 #[.int .i64 n, .int .i64 ((recOf P (k : Int)).length : Int)] w fun e w' => e = .returned (.bool false) ∧ w' = w) := hid fun w => by rw [← h3]; exact HWI.out _ _ w
      clear h2 h3 HRR HR
      generalize (recOf P (k : Int)).length = M at *
      generalize P.recs.length = N at *
      go_enter Tryd.func65, Tryd.ntmps65
      go_upto_region 1 with fail
      rw [← HWE.out]
      clear HWE
      generalize w.heap.size = q at *
      go_quiet ((go_at_call 29; first | with_reducible exact Calls.quiet_of_same (HW1.out _) | with_reducible exact Calls.quiet_of_same (HW2.out _)))
      go_wp2_with fail
      have e0 := fun m => hcell (E.out (W.drewN m) (.int .i64 0) (.int .i64 0) (Keeps.drewN [] W m)) 0
      have e1 := fun m => hcell (E.out (W.drewN m) (.int .i64 0) (.int .i64 0) (Keeps.drewN [] W m)) 1
      exact bodyPost_ret (v := .tuple #[.agg #[.int .i64 0, .int .i64 0], .bool false]) (by simp [results, Tryd.results65, go_sem, e0, e1]) rfl ⟨by rw [HE.out]; rfl, FIN.out _ _ _ (Keeps.drewN [] W _)⟩
    | true =>
      obtain ⟨g2, g3⟩ := inB_iff.1 h3
      have HE : Box (fieldO P (1, (k : Int)) n = some ((recOf P (k : Int)).getD n.toNat (0, 0))) := hid (by unfold fieldO; rw [if_pos ⟨rfl, h2, h3⟩])
      have HW2 : Box (∀ w, Calls Tryd.prog 29 #[.int .i64 n, .int .i64 ((recOf P (k : Int)).length : Int)] w fun e w' => e = .returned (.bool true) ∧ w' = w) := hid fun w => by rw [← h3]; exact HWI.out _ _ w
      obtain ⟨j, rfl⟩ : ∃ j : Nat, n = (j : Int) := ⟨n.toNat, by omega⟩
      have ej : ((j : Int)).toNat = j := by omega
      rw [ej] at HE
      obtain ⟨fb, fo, rfl, hf⟩ := HRR.out.at (getD_get (l := recOf P (k : Int)) (k := j) (d := (0, 0)) (by omega))
      have f0 := cell_stays K2.out hf.c0.1
      have f1 := cell_stays K2.out hf.c1.1
      clear hf h2 h3 HRR HR
      generalize (recOf P (k : Int)).getD j (0, 0) = T at *
      generalize (recOf P (k : Int)).length = M at *
      generalize P.recs.length = N at *
      go_enter Tryd.func65, Tryd.ntmps65
      go_upto_region 1 with fail
      rw [← HWE.out]
      clear HWE
      generalize w.heap.size = q at *
      go_quiet ((go_at_call 29; first | with_reducible exact Calls.quiet_of_same (HW1.out _) | with_reducible exact Calls.quiet_of_same (HW2.out _)))
      go_upto_region 3 with fail
      go_region
      go_wp2_with fail
      have e0 := fun m => hcell (E.out (W.drewN m) (.int .i64 T.1) (.int .i64 T.2) (Keeps.drewN [] W m)) 0
      have e1 := fun m => hcell (E.out (W.drewN m) (.int .i64 T.1) (.int .i64 T.2) (Keeps.drewN [] W m)) 1
      exact bodyPost_ret (v := .tuple #[.agg #[.int .i64 T.1, .int .i64 T.2], .bool true]) (by simp [results, Tryd.results65, go_sem, e0, e1]) rfl ⟨by rw [HE.out]; rfl, FIN.out _ _ _ (Keeps.drewN [] W _)⟩
/-- A method's signature. -/
def methO (P : Pr8) (t : Int × Int) (n : Int) : Option (List (Int × Int) × Int × Int) := if t.1 = 3 ∧ inB t.2 P.ifs.length = true ∧ inB n (ifOf P t.2).length = true then sigO P ((ifOf P t.2).getD n.toNat 0) else none
set_option maxHeartbeats 4000000 in
theorem method_any {w0 w : World} {pb po : Nat} {P : Pr8} (h : PrC w0 pb po P) (k0 : Keeps [] w0 w) (t : Int × Int) (n : Int) : Calls Tryd.prog 80 #[.pointer (some ⟨pb, po, none⟩), tyV t, .int .i64 n] w (SigPost (methO P t n) w0 w) := by
  obtain ⟨a, cp, c0, hr, _⟩ := h.c2
  obtain ⟨W, hW⟩ : ∃ W, W = (w.alloc (.cells #[.int .i64 t.1, .int .i64 t.2] 39)).alloc (.cells #[.slice none 0 0, .int .i64 0, .int .i64 0] 41) := ⟨_, rfl⟩
  have k2 : Keeps [] w W := by rw [hW]; exact (Keeps.alloc [] w _).quiet (Keeps.alloc [] _ _)
  replace c0 := cell_stays (k0.quiet k2) c0
  have hn1 : W.heap[w.heap.size]? = some (.cells #[.int .i64 t.1, .int .i64 t.2] 39 (0, 0)) := by rw [hW]; exact keep_heap (heap_new w _) (Keeps.alloc [] _ _)
  have hn2 : W.heap[w.heap.size + 1]? = some (.cells #[.slice none 0 0, .int .i64 0, .int .i64 0] 41 (0, 0)) := by
    have := heap_new (w.alloc (.cells #[.int .i64 t.1, .int .i64 t.2] 39)) (.cells #[.slice none 0 0, .int .i64 0, .int .i64 0] 41)
    rw [World.size_alloc] at this
    rw [hW]
    exact this
  have HWI := hid fun (k : Int) (n : Nat) (w : World) => within_any k n w
  have K2 := hid k2
  have K02 := hid (k0.quiet k2)
  have HR := hid hr
  have HN2 := hid hn2
  have s0 := hcell hn1 0
  have s1 := hcell hn1 1
  have z0 := hfrozen hn2 0
  have z1 := hfrozen hn2 1
  have z2 := hfrozen hn2 2
  have q0 := hcell hn2 0
  have q1 := hcell hn2 1
  have q2 := hcell hn2 2
  have HWE := hid hW
  have HL : Box (W.heap.size = w.heap.size + 2 ∧ Keeps [w.heap.size + 1] W W) := hid ⟨by rw [hW]; simp, Keeps.refl _ _⟩
  have fin : ∀ W' u0 u1 u2, Keeps [] W W' → Keeps [] w (((W'.setCell ⟨w.heap.size + 1, 0, none⟩ u0).setCell ⟨w.heap.size + 1, 1, none⟩ u1).setCell ⟨w.heap.size + 1, 2, none⟩ u2) := fun W' u0 u1 u2 k => (K2.out.quiet k).trans (keeps3 _ (w.heap.size + 1) _ _ _) (fun x hx hl => by simp at hx; omega)
  have FIN := hid fin
  have E : Box (∀ W' u0 u1 u2, Keeps [] W W' → ((((W'.setCell ⟨w.heap.size + 1, 0, none⟩ u0).setCell ⟨w.heap.size + 1, 1, none⟩ u1)).setCell ⟨w.heap.size + 1, 2, none⟩ u2).heap[w.heap.size + 1]? = some (.cells #[u0, u1, u2] 41 (0, 0))) := hid fun W' u0 u1 u2 k => set3 (keep_heap HN2.out k) u0 u1 u2
  have HP := hid h
  clear h hr hW k2 k0 hn1 hn2 fin
  obtain ⟨t1, t2⟩ := t
  simp only at *
  by_cases h1 : t1 = 3
  case neg =>
    have HE : Box (methO P (t1, t2) n = none) := hid (by unfold methO; rw [if_neg (fun h => h1 h.1)])
    have o1 := nneb h1
    clear h1
    go_enter Tryd.func80, Tryd.ntmps80
    go_upto_region 1 with fail
    rw [← HWE.out]
    clear HWE
    generalize w.heap.size = q at *
    go_quiet (fail)
    go_wp2_with fail
    have e0 := fun m => hcell (E.out (W.drewN m) (.slice none 0 0) (.int .i64 0) (.int .i64 0) (Keeps.drewN [] W m)) 0
    have e1 := fun m => hcell (E.out (W.drewN m) (.slice none 0 0) (.int .i64 0) (.int .i64 0) (Keeps.drewN [] W m)) 1
    have e2 := fun m => hcell (E.out (W.drewN m) (.slice none 0 0) (.int .i64 0) (.int .i64 0) (Keeps.drewN [] W m)) 2
    exact bodyPost_ret (v := .tuple #[.agg #[.slice none 0 0, .int .i64 0, .int .i64 0], .bool false]) (by simp [results, Tryd.results80, go_sem, e0, e1, e2]) rfl (by rw [HE.out]; exact ⟨FIN.out _ _ _ _ (Keeps.drewN [] W _), rfl⟩)
  subst h1
  cases h2 : inB t2 P.ifs.length with
  | false =>
    have HE : Box (methO P (3, t2) n = none) := hid (by unfold methO; rw [if_neg (fun h => by rw [h2] at h; exact Bool.noConfusion h.2.1)])
    have HW1 : Box (∀ w, Calls Tryd.prog 29 #[.int .i64 t2, .int .i64 (P.ifs.length : Int)] w fun e w' => e = .returned (.bool false) ∧ w' = w) := hid fun w => by rw [← h2]; exact HWI.out _ _ w
    clear h2
    generalize P.ifs.length = N at *
    go_enter Tryd.func80, Tryd.ntmps80
    go_upto_region 1 with fail
    rw [← HWE.out]
    clear HWE
    generalize w.heap.size = q at *
    go_quiet ((go_at_call 29; exact Calls.quiet_of_same (HW1.out _)))
    go_wp2_with fail
    have e0 := fun m => hcell (E.out (W.drewN m) (.slice none 0 0) (.int .i64 0) (.int .i64 0) (Keeps.drewN [] W m)) 0
    have e1 := fun m => hcell (E.out (W.drewN m) (.slice none 0 0) (.int .i64 0) (.int .i64 0) (Keeps.drewN [] W m)) 1
    have e2 := fun m => hcell (E.out (W.drewN m) (.slice none 0 0) (.int .i64 0) (.int .i64 0) (Keeps.drewN [] W m)) 2
    exact bodyPost_ret (v := .tuple #[.agg #[.slice none 0 0, .int .i64 0, .int .i64 0], .bool false]) (by simp [results, Tryd.results80, go_sem, e0, e1, e2]) rfl (by rw [HE.out]; exact ⟨FIN.out _ _ _ _ (Keeps.drewN [] W _), rfl⟩)
  | true =>
    obtain ⟨g0, g1⟩ := inB_iff.1 h2
    have HW1 : Box (∀ w, Calls Tryd.prog 29 #[.int .i64 t2, .int .i64 (P.ifs.length : Int)] w fun e w' => e = .returned (.bool true) ∧ w' = w) := hid fun w => by rw [← h2]; exact HWI.out _ _ w
    obtain ⟨k, rfl⟩ : ∃ k : Nat, t2 = (k : Int) := ⟨t2.toNat, by omega⟩
    have ek : ((k : Int)).toNat = k := by omega
    obtain ⟨b, off, rfl, hc⟩ := HR.out.at (getD_get (l := P.ifs) (k := k) (d := []) (by omega))
    rw [Nat.mul_one] at hc
    obtain ⟨ra, rp, e5, hrr, _⟩ := hc
    have d5 := cell_stays K02.out e5
    have HRR := hid hrr
    have er : ifOf P (k : Int) = P.ifs.getD k [] := by unfold ifOf; rw [ek]
    rw [← er] at d5 HRR
    clear e5 hrr er
    cases h3 : inB n (ifOf P (k : Int)).length with
    | false =>
      have HE : Box (methO P (3, (k : Int)) n = none) := hid (by unfold methO; rw [if_neg (fun h => by rw [h3] at h; exact Bool.noConfusion h.2.2)])
      have HW2 : Box (∀ w, Calls Tryd.prog 29 #[.int .i64 n, .int .i64 ((ifOf P (k : Int)).length : Int)] w fun e w' => e = .returned (.bool false) ∧ w' = w) := hid fun w => by rw [← h3]; exact HWI.out _ _ w
      clear h2 h3 HRR HR
      generalize (ifOf P (k : Int)).length = M at *
      generalize P.ifs.length = N at *
      go_enter Tryd.func80, Tryd.ntmps80
      go_upto_region 1 with fail
      rw [← HWE.out]
      clear HWE
      generalize w.heap.size = q at *
      go_quiet ((go_at_call 29; first | with_reducible exact Calls.quiet_of_same (HW1.out _) | with_reducible exact Calls.quiet_of_same (HW2.out _)))
      go_wp2_with fail
      have e0 := fun m => hcell (E.out (W.drewN m) (.slice none 0 0) (.int .i64 0) (.int .i64 0) (Keeps.drewN [] W m)) 0
      have e1 := fun m => hcell (E.out (W.drewN m) (.slice none 0 0) (.int .i64 0) (.int .i64 0) (Keeps.drewN [] W m)) 1
      have e2 := fun m => hcell (E.out (W.drewN m) (.slice none 0 0) (.int .i64 0) (.int .i64 0) (Keeps.drewN [] W m)) 2
      exact bodyPost_ret (v := .tuple #[.agg #[.slice none 0 0, .int .i64 0, .int .i64 0], .bool false]) (by simp [results, Tryd.results80, go_sem, e0, e1, e2]) rfl (by rw [HE.out]; exact ⟨FIN.out _ _ _ _ (Keeps.drewN [] W _), rfl⟩)
    | true =>
      obtain ⟨g2, g3⟩ := inB_iff.1 h3
      have HE : Box (methO P (3, (k : Int)) n = sigO P ((ifOf P (k : Int)).getD n.toNat 0)) := hid (by unfold methO; rw [if_pos ⟨rfl, h2, h3⟩])
      have HW2 : Box (∀ w, Calls Tryd.prog 29 #[.int .i64 n, .int .i64 ((ifOf P (k : Int)).length : Int)] w fun e w' => e = .returned (.bool true) ∧ w' = w) := hid fun w => by rw [← h3]; exact HWI.out _ _ w
      obtain ⟨j, rfl⟩ : ∃ j : Nat, n = (j : Int) := ⟨n.toNat, by omega⟩
      have ej : ((j : Int)).toNat = j := by omega
      rw [ej] at HE
      obtain ⟨fb, fo, rfl, hf⟩ := HRR.out.at (getD_get (l := ifOf P (k : Int)) (k := j) (d := 0) (by omega))
      rw [Nat.mul_one] at hf
      have f0 := cell_stays K02.out hf.1
      have HSG := hid fun (w' : World) (kk : Keeps [] W w') => sig_any HP.out (K02.out.quiet kk) ((ifOf P (k : Int)).getD j 0)
      rw [HE.out]
      clear hf h2 h3 HRR HR HE
      generalize (ifOf P (k : Int)).getD j 0 = T at *
      generalize (ifOf P (k : Int)).length = M at *
      generalize P.ifs.length = N at *
      go_enter Tryd.func80, Tryd.ntmps80
      go_upto_region 1 with fail
      rw [← HWE.out]
      clear HWE
      generalize w.heap.size = q at *
      go_quiet ((go_at_call 29; first | with_reducible exact Calls.quiet_of_same (HW1.out _) | with_reducible exact Calls.quiet_of_same (HW2.out _)))
      go_upto_region 3 with fail
      cases hs : sigO P T with
      | none =>
        rw [hs] at HSG
        go_region_with (go_at_call 69; refine (HSG.out _ (by first | exact Keeps.drewN _ _ _ | exact (Keeps.drewN _ _ _).quiet (Keeps.drew _ _))).mono ?_; rintro e w5 ⟨k5, rfl⟩; have hb5 : w5.heap[q + 1]? = some (.cells #[.slice none 0 0, .int .i64 0, .int .i64 0] 41 (0, 0)) := (k5.block (q + 1) (heap_lt HN2.out) (by simp)).trans HN2.out; have K5 : Keeps [] W w5 := ⟨k5.os, k5.tape, k5.output, k5.size, k5.block⟩; have y0 := hfrozen hb5 0; have y1 := hfrozen hb5 1; have y2 := hfrozen hb5 2; have x0 := hcell hb5 0; have x1 := hcell hb5 1; have x2 := hcell hb5 2; have KK5 := hid K5; have HB5 := hid hb5; clear hb5 K5 k5)
        all_goals (
          go_wp2_with fail
          have h3 := set3 HB5.out (.slice none 0 0) (.int .i64 0) (.int .i64 0)
          have e0 := hcell h3 0
          have e1 := hcell h3 1
          have e2 := hcell h3 2
          exact bodyPost_ret (v := .tuple #[.agg #[.slice none 0 0, .int .i64 0, .int .i64 0], .bool false]) (by simp [results, Tryd.results80, go_sem, e0, e1, e2]) rfl ⟨FIN.out _ _ _ _ KK5.out, by rw [hs]⟩)
      | some sg =>
        rw [hs] at HSG
        go_region_with (go_at_call 69; refine (HSG.out _ (by first | exact Keeps.drewN _ _ _ | exact (Keeps.drewN _ _ _).quiet (Keeps.drew _ _))).mono ?_; rintro e w5 ⟨k5, v5, rfl, hv5⟩; have hb5 : w5.heap[q + 1]? = some (.cells #[.slice none 0 0, .int .i64 0, .int .i64 0] 41 (0, 0)) := (k5.block (q + 1) (heap_lt HN2.out) (by simp)).trans HN2.out; have K5 : Keeps [] W w5 := ⟨k5.os, k5.tape, k5.output, k5.size, k5.block⟩; have y0 := hfrozen hb5 0; have y1 := hfrozen hb5 1; have y2 := hfrozen hb5 2; have x0 := hcell hb5 0; have x1 := hcell hb5 1; have x2 := hcell hb5 2; have KK5 := hid K5; have HB5 := hid hb5; obtain ⟨ga, gp, rfl, hv6⟩ := hv5; have HV6 := hid hv6; clear hv6;clear hb5 K5 k5)
        all_goals (
          go_wp2_with fail
          have h3 := set3 HB5.out (.slice ga sg.1.length gp) (.int .i64 sg.2.1) (.int .i64 sg.2.2)
          have e0 := hcell h3 0
          have e1 := hcell h3 1
          have e2 := hcell h3 2
          exact bodyPost_ret (v := .tuple #[.agg #[.slice ga sg.1.length gp, .int .i64 sg.2.1, .int .i64 sg.2.2], .bool true]) (by simp [results, Tryd.results80, go_sem, e0, e1, e2]) rfl ⟨FIN.out _ _ _ _ KK5.out, by rw [hs]; exact ⟨_, rfl, ga, gp, rfl, HV6.out⟩⟩)
end Go.Proofs.YtlopddflbhnjdaaDoor
