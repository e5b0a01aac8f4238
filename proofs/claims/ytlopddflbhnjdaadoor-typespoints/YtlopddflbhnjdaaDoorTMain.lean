/-
  types.mainFits.
-/
import Derived.Test.YtlopddflbhnjdaaDoorTFit
namespace Go.Proofs.YtlopddflbhnjdaaDoor
open Go.RowKit

/-- A signature in a box. -/
def SgAt (w : World) (b : Nat) (v0 : Value) (t1 t2 : Int) : Prop := w.heap[b]? = some (.cells #[v0, .int .i64 t1, .int .i64 t2] 41 (0, 0))
theorem SgAt.quiet {w w' : World} {b : Nat} {v0 : Value} {t1 t2 : Int} (h : SgAt w b v0 t1 t2) (k : Keeps [] w w') : SgAt w' b v0 t1 t2 := keep_heap h k
/-- What sig tells, as values. -/
theorem SigPost.open {o : Option (List (Int × Int) × Int × Int)} {w0 w w' : World} {e : Ending} (h : SigPost o w0 w e w') : Keeps [] w w' ∧ ∃ a cp n t1 t2, e = .returned (.tuple #[.agg #[.slice a n cp, .int .i64 t1, .int .i64 t2], .bool o.isSome]) ∧ (∀ s, o = some s → n = s.1.length ∧ t1 = s.2.1 ∧ t2 = s.2.2 ∧ RowsAt w0 2 TyC a s.1 ∧ n ≤ maxLen) := by
  obtain ⟨k, h⟩ := h
  refine ⟨k, ?_⟩
  cases o with
  | none => exact ⟨none, 0, 0, 0, 0, h, fun s e => by cases e⟩
  | some s =>
    obtain ⟨v, rfl, a, cp, rfl, hv, _⟩ := h
    obtain ⟨_, hr, _, hl⟩ := hv.slice
    exact ⟨a, cp, s.1.length, s.2.1, s.2.2, rfl, fun s' e => by cases e; exact ⟨rfl, rfl, rfl, hr, hl⟩⟩
def mainB (P : Pr8) : Bool := match (if inB P.main P.funcs.length then sigO P (fun8 P P.main.toNat).sig else none) with
  | some s => decide (s.1.length = 0) && decide (s.2.1 = 0)
  | none => false
set_option maxRecDepth 20000 in
set_option maxHeartbeats 4000000 in
theorem main_any {w : World} {pb po : Nat} {P : Pr8} (h : PrC w pb po P) : Calls Tryd.prog 41 #[.pointer (some ⟨pb, po, none⟩)] w fun e w' => e = .returned (.bool (mainB P)) ∧ Keeps [] w w' := by
  obtain ⟨fa, fp, c4, r4, _⟩ := h.c4
  have c5 := h.c5.1
  have HP := hid h
  have HW := hid fun (w' : World) => within_any P.main P.funcs.length w'
  have HR := hid r4
  clear h r4
  cases hin : inB P.main P.funcs.length with
  | false =>
    rw [hin] at HW
    have HE : Box (mainB P = false) := hid (by unfold mainB; rw [hin]; rfl)
    clear hin HP HR
    generalize P.funcs.length = n at *
    go_enter Tryd.func41, Tryd.ntmps41
    go_upto_region 1 with fail
    go_quiet ((go_at_call 29; exact Calls.quiet_of_same (HW.out _)))
    go_wp2_with fail
    go_ret
    exact ⟨by rw [HE.out]; rfl, Keeps.drewN _ _ _⟩
  | true =>
    rw [hin] at HW
    obtain ⟨g0, g1⟩ := inB_iff.1 hin
    obtain ⟨m, hm⟩ : ∃ m : Nat, P.main = (m : Int) := ⟨P.main.toNat, by omega⟩
    obtain ⟨fb, fo, rfl, hfu⟩ := HR.out.at (getD_get (l := P.funcs) (k := m) (d := ⟨0, [], []⟩) (by omega))
    have HE : Box (mainB P = match sigO P (fun8 P m).sig with
      | some s => decide (s.1.length = 0) && decide (s.2.1 = 0)
      | none => false) := hid (by unfold mainB; rw [hin, hm]; rfl)
    have e0 : w.cell? ⟨fb, fo + m * 3, none⟩ = some (.int .i64 (fun8 P m).sig) := hfu.c0.1
    have HSG := hid fun (w' : World) (k : Keeps [] w w') => sig_any HP.out k (fun8 P m).sig
    rw [hm] at c5 HW g1
    have hmn : (m : Int) < (P.funcs.length : Int) := g1
    generalize hO : sigO P (fun8 P m).sig = O at *
    have C4 : Box (∀ w', Keeps [] w w' → w'.cell? ⟨pb, po + 4, none⟩ = some (.slice (some ⟨fb, fo, none⟩) P.funcs.length fp) ∧ w'.cell? ⟨pb, po + 5, none⟩ = some (.int .i64 (m : Int)) ∧ w'.cell? ⟨fb, fo + m * 3, none⟩ = some (.int .i64 (fun8 P m).sig)) := hid fun w' k => ⟨cell_stays k c4, cell_stays k c5, cell_stays k e0⟩
    clear hin g0 hm hfu hO HP HR
    generalize P.funcs.length = n at *
    generalize (fun8 P m).sig = sg at *
    go_enter Tryd.func41, Tryd.ntmps41
    go_upto_region 1 with fail
    go_quiet ((go_at_call 29; exact Calls.quiet_of_same (HW.out _)))
    go_upto_region 3 with fail
    generalize hwd : w.drewN nq = wd at *
    have KD : Keeps [] w wd := by rw [← hwd]; exact Keeps.drewN _ _ _
    have HKD := hid KD
    clear hwd KD c4 c5 e0
    obtain ⟨c4, c5, e0⟩ := C4.out _ HKD.out
    go_cut [3, 4] (fun v3 v4 wz => ∃ b a cp k t1 t2, v3 = .pointer (some ⟨b, 0, none⟩) ∧ v4 = .bool O.isSome ∧ Box (SgAt wz b (.slice a k cp) t1 t2) ∧ Box (∀ s, O = some s → k = s.1.length ∧ t1 = s.2.1) ∧ Box (Keeps [] w wz))
    case first =>
      have n1 := World.new_ne wd _ c4
      have n2 := World.new_ne wd _ c5
      have n3 := World.new_ne wd _ e0
      go_region_held3 (fun w' => w'.cell? ⟨pb, po + 4, none⟩ = some (.slice (some ⟨fb, fo, none⟩) n fp) ∧ w'.cell? ⟨pb, po + 5, none⟩ = some (.int .i64 (m : Int)) ∧ w'.cell? ⟨fb, fo + m * 3, none⟩ = some (.int .i64 sg)) (first | go_keep | simp (maxDischargeDepth := 10) [*, World.cell?_alloc_some, World.cell?_setCell_far]) (first
        | (go_at_call 69; refine (HSG.out _ (HKD.out.quiet (Keeps.drew [] _))).mono ?_; intro e w5 h5; obtain ⟨k5, a, cp, k, t1, t2, rfl, h6⟩ := h5.open; have K5 := (HKD.out.quiet (Keeps.drew [] _)).quiet k5; obtain ⟨f51, f52, f53⟩ := C4.out _ K5; have H6 := hid h6; have HK5 := hid K5; clear k5 h5 h6)
        | (go_at_call 69; refine (HSG.out _ ((HKD.out.quiet (Keeps.drew [] _)).quiet (Keeps.alloc [] _ _))).mono ?_; intro e w5 h5; obtain ⟨k5, a, cp, k, t1, t2, rfl, h6⟩ := h5.open; have K5 := ((HKD.out.quiet (Keeps.drew [] _)).quiet (Keeps.alloc [] _ _)).quiet k5; obtain ⟨f51, f52, f53⟩ := C4.out _ K5; have H6 := hid h6; have HK5 := hid K5; have hb : w5.heap[wd.heap.size]? = some (.cells #[.slice none 0 0, .int .i64 0, .int .i64 0] 41 (0, 0)) := keep_heap (heap_new wd.drew (.cells #[.slice none 0 0, .int .i64 0, .int .i64 0] 41)) k5; have z0 := hfrozen hb 0; have z1 := hfrozen hb 1; have z2 := hfrozen hb 2; have y0 := hcell hb 0; have y1 := hcell hb 1; have y2 := hcell hb 2; have HB := hid hb; clear k5 h5 h6 hb))
      · go_wp2_with fail
        go_meet
        exact ⟨w5.heap.size, a, cp, k, t1, t2, rfl, rfl, hid (heap_new w5 _), hid fun s hs => ⟨(H6.out s hs).1, (H6.out s hs).2.1⟩, hid (HK5.out.quiet (Keeps.alloc _ _ _))⟩
      · go_wp2_with fail
        go_meet
        exact ⟨wd.heap.size, a, cp, k, t1, t2, rfl, rfl, hid (set3 HB.out _ _ _), hid fun s hs => ⟨(H6.out s hs).1, (H6.out s hs).2.1⟩, hid (HK5.out.trans (keeps3 _ wd.heap.size _ _ _) (fun x hx hl => by simp at hx; have := HKD.out.size; omega))⟩
    case rest =>
      obtain ⟨b, a, cp, k, t1, t2, rfl, rfl, HB, HS, HKZ⟩ := hcut
      have s0 := hcell HB.out 0
      have s1 := hcell HB.out 1
      clear c4 c5 e0
      cases O with
      | none =>
        have HF : Box (mainB P = false) := hid HE.out
        clear HE HS
        go_wp2_with fail
        go_ret
        exact ⟨by rw [HF.out]; rfl, HKZ.out⟩
      | some s =>
        obtain ⟨e1, e2⟩ := HS.out s rfl
        have HF : Box (mainB P = (decide (k = 0) && decide (t1 = 0))) := hid (by rw [HE.out, e1, e2])
        clear HE HS e1 e2
        by_cases hk : k = 0
        · have hk' : ((k : Int) == 0) = true := eqb (by omega)
          have HG : Box (mainB P = (t1 == 0)) := hid (by rw [HF.out, hk]; rfl)
          clear hk HF
          go_wp2_with fail
          go_ret
          exact ⟨by rw [HG.out]; rfl, HKZ.out⟩
        · have hk' : ((k : Int) == 0) = false := neb (by omega)
          have HG : Box (mainB P = false) := hid (by rw [HF.out]; simp [hk])
          clear hk HF
          go_wp2_with fail
          go_ret
          exact ⟨by rw [HG.out]; rfl, HKZ.out⟩
end Go.Proofs.YtlopddflbhnjdaaDoor
