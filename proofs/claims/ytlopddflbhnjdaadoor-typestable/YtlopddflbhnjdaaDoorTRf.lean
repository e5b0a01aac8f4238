/-
  The document's own in, eq, typ, named, Impl, call.
-/
import Derived.Test.YtlopddflbhnjdaaDoorTCal
import Derived.Test.YtlopddflbhnjdaaDoorTDet
namespace Go.Proofs.YtlopddflbhnjdaaDoor
open Go.RowKit

theorem rfin_any (k : Int) (n : Nat) (w : World) : Calls Tryd.prog 26 #[.int .i64 k, .int .i64 (n : Int)] w fun e w' => e = .returned (.bool (inB k n)) ∧ w' = w := by
  have HE : Box (inB k n = (decide (0 ≤ k) && decide (k < (n : Int)))) := hid rfl
  by_cases h : 0 ≤ k
  · have HF : Box (inB k n = decide (k < (n : Int))) := hid (by rw [HE.out]; simp [h])
    clear HE
    go_enter Tryd.func26, Tryd.ntmps26
    go_wp2_with fail
    go_ret
    exact ⟨by rw [HF.out]; rfl, rfl⟩
  · have HF : Box (inB k n = false) := hid (by rw [HE.out]; simp [h])
    clear HE
    go_enter Tryd.func26, Tryd.ntmps26
    go_wp2_with fail
    go_ret
    exact ⟨by rw [HF.out]; rfl, rfl⟩
set_option maxHeartbeats 1000000 in
theorem req_any (s t : Int × Int) (w : World) : Calls Tryd.prog 34 #[tyV s, tyV t] w fun e w' => e = .returned (.bool (tyE s t)) ∧ Keeps [] w w' := by
  have HK : Box (Keeps [] w ((w.alloc (.cells #[.int .i64 s.1, .int .i64 s.2] 39)).alloc (.cells #[.int .i64 t.1, .int .i64 t.2] 39))) := hid ((Keeps.alloc [] _ _).quiet (Keeps.alloc [] _ _))
  have HE : Box (tyE s t = (s.1 == t.1 && s.2 == t.2)) := hid rfl
  unfold tyV
  by_cases h : s.1 = t.1
  · have o1 : (s.1 == t.1) = true := eqb h
    have HF : Box (tyE s t = (s.2 == t.2)) := hid (by rw [HE.out, o1]; rfl)
    clear HE h
    go_enter Tryd.func34, Tryd.ntmps34
    go_wp2_with fail
    go_ret
    exact ⟨by rw [HF.out]; rfl, HK.out⟩
  · have o1 : (s.1 == t.1) = false := neb h
    have HF : Box (tyE s t = false) := hid (by rw [HE.out, o1]; rfl)
    clear HE h
    go_enter Tryd.func34, Tryd.ntmps34
    go_wp2_with fail
    go_ret
    exact ⟨by rw [HF.out]; rfl, HK.out⟩
/-- A function by value. -/
def fnV (sg : Int) (ra : Option Addr) (R rp : Nat) (bv : Value) : Value := .agg #[.int .i64 sg, .slice ra R rp, bv]
set_option maxHeartbeats 1000000 in
theorem rtyp_any {w : World} {l : List (Int × Int)} {ra : Option Addr} {R : Nat} (hr : RowsAt w 2 TyC ra l) (hR : R = l.length) (rp : Nat) (sg : Int) (bv : Value) (r : Int) (hin : inB r R = true) : Calls Tryd.prog 33 #[fnV sg ra R rp bv, .int .i64 r] w fun e w' => e = .returned (tyV (l.getD r.toNat (0, 0))) ∧ Keeps [] w w' := by
  obtain ⟨W, hW⟩ : ∃ W, W = (w.alloc (.cells #[.int .i64 sg, .slice ra R rp, bv] 29)).alloc (.cells #[.int .i64 0, .int .i64 0] 39) := ⟨_, rfl⟩
  have k2 : Keeps [] w W := by rw [hW]; exact (Keeps.alloc [] w _).quiet (Keeps.alloc [] _ _)
  have hn1 : W.heap[w.heap.size]? = some (.cells #[.int .i64 sg, .slice ra R rp, bv] 29 (0, 0)) := by rw [hW]; exact keep_heap (heap_new w _) (Keeps.alloc [] _ _)
  have hn2 : W.heap[w.heap.size + 1]? = some (.cells #[.int .i64 0, .int .i64 0] 39 (0, 0)) := by
    have := heap_new (w.alloc (.cells #[.int .i64 sg, .slice ra R rp, bv] 29)) (.cells #[.int .i64 0, .int .i64 0] 39)
    rw [World.size_alloc] at this
    rw [hW]
    exact this
  obtain ⟨h0, h1⟩ := inB_iff.1 hin
  obtain ⟨k, rfl⟩ : ∃ k : Nat, r = (k : Int) := ⟨r.toNat, by omega⟩
  have ek : ((k : Int)).toNat = k := by omega
  rw [ek]
  obtain ⟨b, off, rfl, hc⟩ := hr.at (getD_get (l := l) (k := k) (d := (0, 0)) (by omega))
  have d0 := cell_stays k2 hc.c0.1
  have d1 := cell_stays k2 hc.c1.1
  have f1 := hcell hn1 1
  have z0 := hfrozen hn2 0
  have z1 := hfrozen hn2 1
  have q0 := hcell hn2 0
  have q1 := hcell hn2 1
  have HN2 := hid hn2
  have HK := hid k2
  have HWE := hid hW
  have HL : Box (∀ u0 u1, Keeps [] w ((W.setCell ⟨w.heap.size + 1, 0, none⟩ u0).setCell ⟨w.heap.size + 1, 1, none⟩ u1)) := hid fun u0 u1 => k2.trans (keeps2 _ _ _ _) (fun x hx hl => by simp at hx; omega)
  clear hr hR k2 hn1 hn2 hc hin h0 ek hW
  generalize l.getD k (0, 0) = t at *
  unfold fnV
  go_enter Tryd.func33, Tryd.ntmps33
  go_upto_region 1 with fail
  rw [← HWE.out]
  clear HWE
  generalize w.heap.size = q at *
  go_wp2_with fail
  have h2 := set2 HN2.out (.int .i64 t.1) (.int .i64 t.2)
  have e0 := hcell h2 0
  have e1 := hcell h2 1
  exact bodyPost_ret (v := .agg #[.int .i64 t.1, .int .i64 t.2]) (by simp [results, Tryd.results33, go_sem, e0, e1]) rfl ⟨rfl, HL.out _ _⟩
set_option maxHeartbeats 2000000 in
theorem rnamed_any {w : World} {pb po : Nat} {P : Pr8} (h : PrC w pb po P) (t : Int × Int) : Calls Tryd.prog 25 #[.pointer (some ⟨pb, po, none⟩), tyV t] w fun e w' => e = .returned (.bool (tyB P t)) ∧ Keeps [] w w' := by
  have ka := Keeps.alloc [] w (.cells #[.int .i64 t.1, .int .i64 t.2] 39)
  have hn := heap_new w (.cells #[.int .i64 t.1, .int .i64 t.2] 39)
  obtain ⟨a0, p0, c0, _⟩ := h.c0
  obtain ⟨a1, p1, c1, _⟩ := h.c1
  obtain ⟨a2, p2, c2, _⟩ := h.c2
  replace c0 := cell_stays ka c0
  replace c1 := cell_stays ka c1
  replace c2 := cell_stays ka c2
  have t0 := hcell hn 0
  have t1 := hcell hn 1
  have HK := hid ka
  have HE : Box (tyB P t = if t.1 = 0 then decide (t.2 = 0) else if t.1 = 1 then inB t.2 P.recs.length else if t.1 = 2 then inB t.2 P.sigs.length else if t.1 = 3 then inB t.2 P.ifs.length else false) := hid rfl
  clear h ka hn
  generalize tyB P t = res at *
  generalize P.recs.length = n0 at *
  generalize P.sigs.length = n1 at *
  generalize P.ifs.length = n2 at *
  obtain ⟨k, n⟩ := t
  simp only at *
  unfold tyV
  by_cases h0 : k = 0
  · subst h0
    have HF : Box (res = (n == 0)) := hid (by rw [HE.out, if_pos rfl]; by_cases e : n = 0 <;> simp [e])
    clear HE
    go_enter Tryd.func25, Tryd.ntmps25
    go_wp2_with fail
    go_ret
    exact ⟨by rw [HF.out]; rfl, HK.out⟩
  by_cases h1 : k = 1
  · subst h1
    have HF : Box (res = inB n n0) := hid (by rw [HE.out]; simp)
    clear HE
    by_cases hn : 0 ≤ n
    · have g1 : decide ((0 : Int) ≤ n) = true := decide_eq_true hn
      have HG : Box (res = decide (n < (n0 : Int))) := hid (by rw [HF.out]; unfold inB; rw [g1]; rfl)
      clear HF
      go_enter Tryd.func25, Tryd.ntmps25
      go_upto_region 5 with fail
      go_quiet (fail)
      go_wp2_with fail
      go_ret
      exact ⟨by rw [HG.out]; rfl, HK.out.quiet (Keeps.drewN _ _ _)⟩
    · have g1 : decide ((0 : Int) ≤ n) = false := decide_eq_false hn
      have HG : Box (res = false) := hid (by rw [HF.out]; unfold inB; rw [g1]; rfl)
      clear HF
      go_enter Tryd.func25, Tryd.ntmps25
      go_upto_region 5 with fail
      go_quiet (fail)
      go_wp2_with fail
      go_ret
      exact ⟨by rw [HG.out]; rfl, HK.out.quiet (Keeps.drewN _ _ _)⟩
  by_cases h2 : k = 2
  · subst h2
    have HF : Box (res = inB n n1) := hid (by rw [HE.out]; simp)
    clear HE
    by_cases hn : 0 ≤ n
    · have g1 : decide ((0 : Int) ≤ n) = true := decide_eq_true hn
      have HG : Box (res = decide (n < (n1 : Int))) := hid (by rw [HF.out]; unfold inB; rw [g1]; rfl)
      clear HF
      go_enter Tryd.func25, Tryd.ntmps25
      go_upto_region 7 with fail
      go_quiet (fail)
      go_wp2_with fail
      go_ret
      exact ⟨by rw [HG.out]; rfl, HK.out.quiet (Keeps.drewN _ _ _)⟩
    · have g1 : decide ((0 : Int) ≤ n) = false := decide_eq_false hn
      have HG : Box (res = false) := hid (by rw [HF.out]; unfold inB; rw [g1]; rfl)
      clear HF
      go_enter Tryd.func25, Tryd.ntmps25
      go_upto_region 7 with fail
      go_quiet (fail)
      go_wp2_with fail
      go_ret
      exact ⟨by rw [HG.out]; rfl, HK.out.quiet (Keeps.drewN _ _ _)⟩
  by_cases h3 : k = 3
  · subst h3
    have HF : Box (res = inB n n2) := hid (by rw [HE.out]; simp)
    clear HE
    by_cases hn : 0 ≤ n
    · have g1 : decide ((0 : Int) ≤ n) = true := decide_eq_true hn
      have HG : Box (res = decide (n < (n2 : Int))) := hid (by rw [HF.out]; unfold inB; rw [g1]; rfl)
      clear HF
      go_enter Tryd.func25, Tryd.ntmps25
      go_upto_region 9 with fail
      go_quiet (fail)
      go_wp2_with fail
      go_ret
      exact ⟨by rw [HG.out]; rfl, HK.out.quiet (Keeps.drewN _ _ _)⟩
    · have g1 : decide ((0 : Int) ≤ n) = false := decide_eq_false hn
      have HG : Box (res = false) := hid (by rw [HF.out]; unfold inB; rw [g1]; rfl)
      clear HF
      go_enter Tryd.func25, Tryd.ntmps25
      go_upto_region 9 with fail
      go_quiet (fail)
      go_wp2_with fail
      go_ret
      exact ⟨by rw [HG.out]; rfl, HK.out.quiet (Keeps.drewN _ _ _)⟩
  have o0 := neb h0
  have o1 := neb h1
  have o2 := neb h2
  have o3 := neb h3
  have HF : Box (res = false) := hid (by rw [HE.out, if_neg h0, if_neg h1, if_neg h2, if_neg h3])
  clear HE h0 h1 h2 h3
  go_enter Tryd.func25, Tryd.ntmps25
  go_wp2_with fail
  go_ret
  exact ⟨by rw [HF.out]; rfl, HK.out⟩
/-- Which Impl, or -1. -/
def implI (P : Pr8) (r i : Int) : Int := match P.ims.findIdx? fun m => m.1 == r && m.2.1 == i with
  | some k => (k : Int)
  | none => -1
theorem implI_some {P : Pr8} {r i : Int} {k : Nat} {y : Int × Int × List Int} (hy : P.ims[k]? = some y) (h : (y.1 == r && y.2.1 == i) = true) (hb : ∀ j z, j < k → P.ims[j]? = some z → (z.1 == r && z.2.1 == i) = false) : implI P r i = (k : Int) := by
  have : P.ims.findIdx? (fun m => m.1 == r && m.2.1 == i) = some k := by
    rw [List.findIdx?_eq_some_iff_getElem]
    obtain ⟨hk, e⟩ := List.getElem?_eq_some_iff.1 hy
    refine ⟨hk, by rw [e]; exact h, fun j hj => ?_⟩
    have := hb j _ hj (List.getElem?_eq_getElem (by omega))
    rw [this]
    simp
  unfold implI
  rw [this]
theorem implI_none {P : Pr8} {r i : Int} (hb : ∀ (j : Nat) (z : Int × Int × List Int), P.ims[j]? = some z → (z.1 == r && z.2.1 == i) = false) : implI P r i = -1 := by
  have : P.ims.findIdx? (fun m => m.1 == r && m.2.1 == i) = none := by
    rw [List.findIdx?_eq_none_iff]
    intro y hy
    obtain ⟨j, hj, e⟩ := List.getElem_of_mem hy
    exact hb j y (by rw [List.getElem?_eq_getElem hj, e])
  unfold implI
  rw [this]
theorem implI_ge (P : Pr8) (r i : Int) : decide (0 ≤ implI P r i) = implB P r i := by
  unfold implI implB
  cases h : P.ims.findIdx? (fun m => m.1 == r && m.2.1 == i) with
  | none =>
    rw [List.findIdx?_eq_none_iff] at h
    have : (P.ims.any fun m => m.1 == r && m.2.1 == i) = false := List.any_eq_false.2 fun y hy => by rw [h y hy]; simp
    rw [this]
    rfl
  | some k =>
    rw [List.findIdx?_eq_some_iff_getElem] at h
    obtain ⟨hk, e, _⟩ := h
    have : (P.ims.any fun m => m.1 == r && m.2.1 == i) = true := List.any_eq_true.2 ⟨_, List.getElem_mem hk, e⟩
    rw [this]
    simp
set_option maxHeartbeats 4000000 in
theorem rimpl_any {w : World} {pb po : Nat} {P : Pr8} (h : PrC w pb po P) (r i : Int) : Calls Tryd.prog 35 #[.pointer (some ⟨pb, po, none⟩), .int .i64 r, .int .i64 i] w fun e w' => e = .returned (.int .i64 (implI P r i)) ∧ w' = w := by
  obtain ⟨a, cp, c3, hr, _, hm⟩ := h.c3
  have HR := hid hr
  obtain ⟨n, hn⟩ : ∃ n, n = P.ims.length := ⟨_, rfl⟩
  rw [← hn] at c3 hm
  have HL := hid hn
  have hn1 : (n : Int) ≤ 9223372036854775807 := by unfold maxLen at hm; omega
  clear h hr hn hm
  go_enter Tryd.func35, Tryd.ntmps35
  go_wp2_with fail
  go_loop [7] (fun kv => ∃ k : Nat, k ≤ n ∧ kv = .int .i64 (k : Int) ∧ Box (∀ j y, j < k → P.ims[j]? = some y → (y.1 == r && y.2.1 == i) = false)) (fun kv => n - (intOf kv).toNat)
  case atStart => exact ⟨0, by omega, rfl, hid fun j y hj => by omega⟩
  case round =>
    obtain ⟨k, hk, rfl, HB⟩ := hrel
    by_cases hlt : k < n
    · have hlt' : (k : Int) < (n : Int) := by omega
      have HY := hid (getD_get (l := P.ims) (k := k) (d := (0, 0, [])) (by rw [← HL.out]; exact hlt))
      obtain ⟨b, off, rfl, hc⟩ := HR.out.at HY.out
      have d0 := hc.c0.1
      have d1 := hc.c1.1
      have NEXT : Box (∀ y, P.ims[k]? = some y → (y.1 == r && y.2.1 == i) = false → ∀ j z, j < k + 1 → P.ims[j]? = some z → (z.1 == r && z.2.1 == i) = false) := hid fun y hy hg j z hj hz => by
        by_cases e : j < k
        · exact HB.out j z e hz
        · obtain rfl : j = k := by omega
          rw [hy] at hz
          cases hz
          exact hg
      clear hc
      generalize P.ims.getD k (0, 0, []) = y at *
      by_cases e1 : y.1 = r
      · have q1 : (y.1 == r) = true := eqb e1
        by_cases e2 : y.2.1 = i
        · have q2 : (y.2.1 == i) = true := eqb e2
          have HT : Box (implI P r i = (k : Int)) := hid (implI_some HY.out (by rw [q1, q2]; rfl) HB.out)
          clear e1 e2 NEXT
          go_wp2_with fail
          go_ret
          exact ⟨by rw [HT.out]; rfl, rfl⟩
        · have q2 : (y.2.1 == i) = false := neb e2
          have HN := hid (NEXT.out y HY.out (by rw [q1, q2]; rfl))
          clear e1 e2 NEXT
          go_wp2_with fail
          go_round
          case rel => exact ⟨k + 1, by omega, by go_num, HN⟩
          case measure => simp [intOf]; omega
      · have q1 : (y.1 == r) = false := neb e1
        have HN := hid (NEXT.out y HY.out (by rw [q1]; rfl))
        clear e1 NEXT
        go_wp2_with fail
        go_round
        case rel => exact ⟨k + 1, by omega, by go_num, HN⟩
        case measure => simp [intOf]; omega
    · obtain rfl : n = k := by omega
      have HF : Box (implI P r i = -1) := hid (implI_none fun j z hz => HB.out j z (by rw [HL.out]; exact (List.getElem?_eq_some_iff.1 hz).1) hz)
      go_wp2_with fail
      go_ret
      exact ⟨by rw [HF.out]; rfl, rfl⟩
/-- Do arguments and a result go with a signature? (The registers are there.) -/
def callB (f : Fu8) (x : In8) (s : List (Int × Int) × Int × Int) : Bool := argsB f x.args s.1 && tyE (regT f x.dst) s.2
set_option maxRecDepth 20000 in
set_option maxHeartbeats 4000000 in
theorem rcall_any {w : World} {pb po : Nat} {f : Fu8} {ra : Option Addr} {R : Nat} (hr : RowsAt w 2 TyC ra f.regs) (hR : R = f.regs.length) (rp : Nat) (bv : Value) (x : In8) {a : Option Addr} {cp : Nat} (hz : IntsAt w a x.args) (hl : x.args.length ≤ 1000) {s : List (Int × Int) × Int × Int} {sa : Option Addr} {sp : Nat} (hs : RowsAt w 2 TyC sa s.1) (hd : inB x.dst R = true) (ha : insB x.args R = true) :
    Calls Tryd.prog 36 #[.pointer (some ⟨pb, po, none⟩), fnV f.sig ra R rp bv, insV x (.slice a x.args.length cp), .agg #[.slice sa s.1.length sp, .int .i64 s.2.1, .int .i64 s.2.2]] w fun e w' => e = .returned (.bool (callB f x s)) ∧ Keeps [] w w' := by
  obtain ⟨W, hW⟩ : ∃ W, W = ((w.alloc (.cells #[.int .i64 f.sig, .slice ra R rp, bv] 29)).alloc (.cells #[.int .i64 x.op, .int .i64 x.dst, .int .i64 x.a, .int .i64 x.b, .int .i64 x.n, .slice a x.args.length cp] 54)).alloc (.cells #[.slice sa s.1.length sp, .int .i64 s.2.1, .int .i64 s.2.2] 41) := ⟨_, rfl⟩
  have k2 : Keeps [] w W := by rw [hW]; exact ((Keeps.alloc [] w _).quiet (Keeps.alloc [] _ _)).quiet (Keeps.alloc [] _ _)
  have hn1 : W.heap[w.heap.size]? = some (.cells #[.int .i64 f.sig, .slice ra R rp, bv] 29 (0, 0)) := by rw [hW]; exact keep_heap (heap_new w _) ((Keeps.alloc [] _ _).quiet (Keeps.alloc [] _ _))
  have hn2 : W.heap[w.heap.size + 1]? = some (.cells #[.int .i64 x.op, .int .i64 x.dst, .int .i64 x.a, .int .i64 x.b, .int .i64 x.n, .slice a x.args.length cp] 54 (0, 0)) := by
    have := heap_new (w.alloc (.cells #[.int .i64 f.sig, .slice ra R rp, bv] 29)) (.cells #[.int .i64 x.op, .int .i64 x.dst, .int .i64 x.a, .int .i64 x.b, .int .i64 x.n, .slice a x.args.length cp] 54)
    rw [World.size_alloc] at this
    rw [hW]
    exact keep_heap this (Keeps.alloc [] _ _)
  have hn3 : W.heap[w.heap.size + 2]? = some (.cells #[.slice sa s.1.length sp, .int .i64 s.2.1, .int .i64 s.2.2] 41 (0, 0)) := by
    have := heap_new ((w.alloc (.cells #[.int .i64 f.sig, .slice ra R rp, bv] 29)).alloc (.cells #[.int .i64 x.op, .int .i64 x.dst, .int .i64 x.a, .int .i64 x.b, .int .i64 x.n, .slice a x.args.length cp] 54)) (.cells #[.slice sa s.1.length sp, .int .i64 s.2.1, .int .i64 s.2.2] 41)
    rw [World.size_alloc, World.size_alloc] at this
    rw [hW]
    exact this
  have B : Box (∀ w', Keeps [] W w' → w'.cell? ⟨w.heap.size, 1, none⟩ = some (.slice ra R rp) ∧ w'.cell? ⟨w.heap.size + 1, 1, none⟩ = some (.int .i64 x.dst) ∧ w'.cell? ⟨w.heap.size + 1, 5, none⟩ = some (.slice a x.args.length cp) ∧ w'.cell? ⟨w.heap.size + 2, 0, none⟩ = some (.slice sa s.1.length sp) ∧ w'.cell? ⟨w.heap.size + 2, 1, none⟩ = some (.int .i64 s.2.1) ∧ w'.cell? ⟨w.heap.size + 2, 2, none⟩ = some (.int .i64 s.2.2)) := hid fun w' k => ⟨hcell (keep_heap hn1 k) 1, hcell (keep_heap hn2 k) 1, hcell (keep_heap hn2 k) 5, hcell (keep_heap hn3 k) 0, hcell (keep_heap hn3 k) 1, hcell (keep_heap hn3 k) 2⟩
  have HRR := hid hr
  have HZ := hid hz
  have HS := hid hs
  have HA := hid ha
  have HWE := hid hW
  have HK2 := hid k2
  have HR := hid hR
  have HEQ := hid fun (s t : Int × Int) (w : World) => req_any s t w
  have HE : Box (callB f x s = (argsB f x.args s.1 && tyE (regT f x.dst) s.2)) := hid rfl
  have HAB : Box (argsB f x.args s.1 = (decide (x.args.length = s.1.length) && (List.range x.args.length).all fun k => tyE (regT f (x.args.getD k 0)) (s.1.getD k (0, 0)))) := hid rfl
  obtain ⟨g0, g1⟩ := inB_iff.1 hd
  obtain ⟨D, hD⟩ : ∃ D : Nat, x.dst = (D : Int) := ⟨x.dst.toNat, by omega⟩
  obtain ⟨rb, ro, rfl, hdc⟩ := hr.at (getD_get (l := f.regs) (k := D) (d := (0, 0)) (by omega))
  have HTD : Box (regT f x.dst = f.regs.getD D (0, 0)) := hid (by rw [hD, regT_in (by rw [← hR, ← hD]; exact hd)]; rfl)
  have DC : Box (∀ w', Keeps [] W w' → w'.cell? ⟨rb, ro + D * 2, none⟩ = some (.int .i64 (f.regs.getD D (0, 0)).1) ∧ w'.cell? ⟨rb, ro + D * 2 + 1, none⟩ = some (.int .i64 (f.regs.getD D (0, 0)).2)) := hid fun w' k => ⟨cell_stays (k2.quiet k) hdc.c0.1, cell_stays (k2.quiet k) hdc.c1.1⟩
  have hDR : (D : Int) < (R : Int) := by omega
  obtain ⟨n, hn⟩ : ∃ n, n = x.args.length := ⟨_, rfl⟩
  obtain ⟨m, hm⟩ : ∃ m, m = s.1.length := ⟨_, rfl⟩
  rw [← hn, ← hm] at HAB B
  have HN := hid hn
  have HM := hid hm
  have hn1' : (n : Int) ≤ 9223372036854775807 := by omega
  have HDD := hid hD
  unfold fnV insV
  rw [← hn, ← hm]
  rw [← hn, ← hm] at HWE
  clear hr hz hs ha hW k2 hR hn1 hn2 hn3 hdc hd g0 g1 hn hm hl
  rw [hD] at B HWE ⊢
  clear hD
  generalize f.regs.getD D (0, 0) = TD at *
  go_enter Tryd.func36, Tryd.ntmps36
  go_upto_region 1 with fail
  rw [← HWE.out]
  clear HWE
  generalize w.heap.size = q at *
  obtain ⟨b1, b2, b3, b4, b5, b6⟩ := B.out _ (Keeps.refl _ _)
  by_cases hnm : n = m
  case neg =>
    have q1 : ((n : Int) != (m : Int)) = true := nneb (by omega)
    have HF : Box (callB f x s = false) := hid (by rw [HE.out, HAB.out]; simp [hnm])
    clear hnm HE HAB
    go_wp2_with fail
    go_ret
    exact ⟨by rw [HF.out]; rfl, HK2.out⟩
  obtain rfl : m = n := hnm.symm
  have q1 : ((m : Int) != (m : Int)) = false := neqb rfl
  have HAC : Box (argsB f x.args s.1 = (List.range m).all fun k => tyE (regT f (x.args.getD k 0)) (s.1.getD k (0, 0))) := hid (by rw [HAB.out]; simp)
  clear hnm HAB
  go_wp2_with fail
  clear b1 b2 b3 b4 b5 b6
  go_loopw [9] (fun kv wr => ∃ k : Nat, k ≤ m ∧ kv = .int .i64 (k : Int) ∧ Box (Keeps [] W wr) ∧ Box (∀ j, j < k → tyE (regT f (x.args.getD j 0)) (s.1.getD j (0, 0)) = true)) (fun kv _ => m - (intOf kv).toNat)
  case atStart => exact ⟨0, by omega, rfl, hid (Keeps.refl _ _), hid fun j hj => by omega⟩
  case round =>
    obtain ⟨k, hk, rfl, HK, HB⟩ := hrel
    obtain ⟨b1, b2, b3, b4, b5, b6⟩ := B.out _ HK.out
    by_cases hlt : k < m
    · have hlt' : (k : Int) < (m : Int) := by omega
      have hkl : k < x.args.length := by rw [← HN.out]; exact hlt
      obtain ⟨zb, zo, rfl, hc⟩ : ∃ b off, a = some ⟨b, off, none⟩ ∧ w.cell? ⟨b, off + k, none⟩ = some (.int .i64 (x.args.getD k 0)) := by
        rcases HZ.out with e | ⟨b, off, e, h⟩
        · rw [e] at hkl; simp at hkl
        · exact ⟨b, off, e, h k hkl⟩
      have hin : inB (x.args.getD k 0) R = true := all_at HA.out (getD_get (d := 0) hkl)
      obtain ⟨sb, so, rfl, hsc⟩ := HS.out.at (getD_get (l := s.1) (k := k) (d := (0, 0)) (by rw [← HM.out]; exact hlt))
      obtain ⟨g0, g1⟩ := inB_iff.1 hin
      have REL : Box (tyE (regT f (x.args.getD k 0)) (s.1.getD k (0, 0)) = true → ∀ j, j < k + 1 → tyE (regT f (x.args.getD j 0)) (s.1.getD j (0, 0)) = true) := hid fun hg j hj => by
        by_cases e : j < k
        · exact HB.out j e
        · obtain rfl : j = k := by omega
          exact hg
      have BAD : Box (tyE (regT f (x.args.getD k 0)) (s.1.getD k (0, 0)) = false → callB f x s = false) := hid fun hg => by
        have : argsB f x.args s.1 = false := by
          rw [HAC.out, List.all_eq_false]
          exact ⟨k, List.mem_range.2 hlt, by rw [hg]; simp⟩
        rw [HE.out, this]
        rfl
      have hTr : regT f (x.args.getD k 0) = f.regs.getD (x.args.getD k 0).toNat (0, 0) := regT_in (by rw [← HR.out]; exact hin)
      obtain ⟨r, hrr⟩ : ∃ r : Nat, x.args.getD k 0 = (r : Int) := ⟨(x.args.getD k 0).toNat, by omega⟩
      have hrl : r < f.regs.length := by have := HR.out; omega
      obtain ⟨b', off', heq, hrc⟩ := HRR.out.at (getD_get (l := f.regs) (k := r) (d := (0, 0)) hrl)
      cases heq
      rw [hrr] at hTr hc g1
      rw [show ((r : Int)).toNat = r by omega] at hTr
      rw [hrr, hTr] at REL BAD
      have hrR : (r : Int) < (R : Int) := g1
      have kW := HK2.out.quiet HK.out
      have d := cell_stays kW hc
      have d0 := cell_stays kW hrc.c0.1
      have d1 := cell_stays kW hrc.c1.1
      have e0 := cell_stays kW hsc.c0.1
      have e1 := cell_stays kW hsc.c1.1
      clear hc hsc hrc hin g0 g1 hTr hrr hrl kW hkl
      generalize f.regs.getD r (0, 0) = U at *
      generalize s.1.getD k (0, 0) = T at *
      have HC := hid (HEQ.out U T)
      unfold tyV at HC
      have CC : Box (∀ w', Keeps [] wr w' → w'.cell? ⟨q, 1, none⟩ = some (.slice (some ⟨rb, ro, none⟩) R rp) ∧ w'.cell? ⟨q + 1, 5, none⟩ = some (.slice (some ⟨zb, zo, none⟩) m cp) ∧ w'.cell? ⟨q + 2, 0, none⟩ = some (.slice (some ⟨sb, so, none⟩) m sp) ∧ w'.cell? ⟨zb, zo + k, none⟩ = some (.int .i64 (r : Int)) ∧ w'.cell? ⟨rb, ro + r * 2, none⟩ = some (.int .i64 U.1) ∧ w'.cell? ⟨rb, ro + r * 2 + 1, none⟩ = some (.int .i64 U.2) ∧ w'.cell? ⟨sb, so + k * 2, none⟩ = some (.int .i64 T.1) ∧ w'.cell? ⟨sb, so + k * 2 + 1, none⟩ = some (.int .i64 T.2)) := hid (by
        intro w' kk
        exact ⟨cell_stays kk b1, cell_stays kk b3, cell_stays kk b4, cell_stays kk d, cell_stays kk d0, cell_stays kk d1, cell_stays kk e0, cell_stays kk e1⟩)
      cases hg : tyE U T with
      | true =>
        rw [hg] at HC
        have HR2 := hid (REL.out hg)
        clear hg REL BAD
        go_upto_region 6 with fail
        go_region_held3 (fun w' => w'.cell? ⟨q, 1, none⟩ = some (.slice (some ⟨rb, ro, none⟩) R rp) ∧ w'.cell? ⟨q + 1, 5, none⟩ = some (.slice (some ⟨zb, zo, none⟩) m cp) ∧ w'.cell? ⟨q + 2, 0, none⟩ = some (.slice (some ⟨sb, so, none⟩) m sp) ∧ w'.cell? ⟨zb, zo + k, none⟩ = some (.int .i64 (r : Int)) ∧ w'.cell? ⟨rb, ro + r * 2, none⟩ = some (.int .i64 U.1) ∧ w'.cell? ⟨rb, ro + r * 2 + 1, none⟩ = some (.int .i64 U.2) ∧ w'.cell? ⟨sb, so + k * 2, none⟩ = some (.int .i64 T.1) ∧ w'.cell? ⟨sb, so + k * 2 + 1, none⟩ = some (.int .i64 T.2)) (go_keep) (first | (go_at_call 34; refine (HC.out _).mono ?_; rintro e w5 ⟨rfl, k5⟩; obtain ⟨y1, y2, y3, y4, y5, y6, y7, y8⟩ := CC.out _ ((Keeps.drew [] _).quiet k5); have K5 := hid (HK.out.quiet ((Keeps.drew [] _).quiet k5)); clear k5))
        go_wp2_with fail
        go_roundw
        case rel => exact ⟨k + 1, by omega, by go_num, K5, HR2⟩
        case measure => simp [intOf]; omega
      | false =>
        rw [hg] at HC
        have HF := hid (BAD.out hg)
        clear hg REL BAD
        go_upto_region 6 with fail
        go_region_held3 (fun w' => w'.cell? ⟨q, 1, none⟩ = some (.slice (some ⟨rb, ro, none⟩) R rp) ∧ w'.cell? ⟨q + 1, 5, none⟩ = some (.slice (some ⟨zb, zo, none⟩) m cp) ∧ w'.cell? ⟨q + 2, 0, none⟩ = some (.slice (some ⟨sb, so, none⟩) m sp) ∧ w'.cell? ⟨zb, zo + k, none⟩ = some (.int .i64 (r : Int)) ∧ w'.cell? ⟨rb, ro + r * 2, none⟩ = some (.int .i64 U.1) ∧ w'.cell? ⟨rb, ro + r * 2 + 1, none⟩ = some (.int .i64 U.2) ∧ w'.cell? ⟨sb, so + k * 2, none⟩ = some (.int .i64 T.1) ∧ w'.cell? ⟨sb, so + k * 2 + 1, none⟩ = some (.int .i64 T.2)) (go_keep) (first | (go_at_call 34; refine (HC.out _).mono ?_; rintro e w5 ⟨rfl, k5⟩; obtain ⟨y1, y2, y3, y4, y5, y6, y7, y8⟩ := CC.out _ ((Keeps.drew [] _).quiet k5); have K5 := hid (HK.out.quiet ((Keeps.drew [] _).quiet k5)); clear k5))
        go_wp2_with fail
        go_ret
        exact ⟨by rw [HF.out]; rfl, HK2.out.quiet K5.out⟩
    · obtain rfl : m = k := by omega
      have HF : Box (callB f x s = tyE TD s.2) := hid (by
        have : argsB f x.args s.1 = true := by rw [HAC.out, List.all_eq_true]; exact fun j hj => HB.out j (List.mem_range.1 hj)
        rw [HE.out, this, HTD.out]
        rfl)
      obtain ⟨d0, d1⟩ := DC.out _ HK.out
      have HC := hid (HEQ.out TD s.2)
      unfold tyV at HC
      generalize tyE TD s.2 = res at *
      have CC : Box (∀ w', Keeps [] wr w' → w'.cell? ⟨q, 1, none⟩ = some (.slice (some ⟨rb, ro, none⟩) R rp) ∧ w'.cell? ⟨q + 1, 1, none⟩ = some (.int .i64 (D : Int)) ∧ w'.cell? ⟨q + 2, 1, none⟩ = some (.int .i64 s.2.1) ∧ w'.cell? ⟨q + 2, 2, none⟩ = some (.int .i64 s.2.2) ∧ w'.cell? ⟨rb, ro + D * 2, none⟩ = some (.int .i64 TD.1) ∧ w'.cell? ⟨rb, ro + D * 2 + 1, none⟩ = some (.int .i64 TD.2)) := hid (by
        intro w' kk
        exact ⟨cell_stays kk b1, cell_stays kk b2, cell_stays kk b5, cell_stays kk b6, cell_stays kk d0, cell_stays kk d1⟩)
      go_upto_region 8 with fail
      go_region_held3 (fun w' => w'.cell? ⟨q, 1, none⟩ = some (.slice (some ⟨rb, ro, none⟩) R rp) ∧ w'.cell? ⟨q + 1, 1, none⟩ = some (.int .i64 (D : Int)) ∧ w'.cell? ⟨q + 2, 1, none⟩ = some (.int .i64 s.2.1) ∧ w'.cell? ⟨q + 2, 2, none⟩ = some (.int .i64 s.2.2) ∧ w'.cell? ⟨rb, ro + D * 2, none⟩ = some (.int .i64 TD.1) ∧ w'.cell? ⟨rb, ro + D * 2 + 1, none⟩ = some (.int .i64 TD.2)) (go_keep) (first | (go_at_call 34; refine (HC.out _).mono ?_; rintro e w5 ⟨rfl, k5⟩; obtain ⟨y1, y2, y3, y4, y5, y6⟩ := CC.out _ ((Keeps.drew [] _).quiet k5); have K5 := hid (HK.out.quiet ((Keeps.drew [] _).quiet k5)); clear k5))
      go_wp2_with fail
      go_ret
      exact ⟨by rw [HF.out]; rfl, HK2.out.quiet K5.out⟩
end Go.Proofs.YtlopddflbhnjdaaDoor
