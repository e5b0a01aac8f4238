/-
  The statements' own beginning, begun(): one object is made, read, written, freed.
-/
import Derived.Test.YtpllhcifoiahpaaHpAlloc
namespace Go.Proofs.Ytpllhcifoiahpaa
open Go.RowKit

/-- What a call that keeps to F, all of F younger than w, does to w. -/
theorem Keeps.young {w w1 w2 : World} {F : List Nat} (h : Keeps [] w w1) (k : Keeps F w1 w2) (hF : ∀ x, x ∈ F → w.heap.size ≤ x) : Keeps [] w w2 :=
  h.trans k (fun x hx hlt => by have := hF x hx; omega)
theorem Near.young {w w1 : World} {F F' : List Nat} (h : Keeps [] w w1) (k : Near w1 F F') (hF : ∀ x, x ∈ F → w.heap.size ≤ x) : ∀ x, x ∈ F' → w.heap.size ≤ x := by
  intro x hx
  rcases k x hx with e | e
  · exact hF x e
  · exact Nat.le_trans h.size e
/-- A heap that has been made since w0. -/
structure Mine (w0 w : World) (hp : Nat) (os : List Ob) (F : List Nat) : Prop where
  has : Hp w hp os F
  keeps : Keeps [] w0 w
  young : ∀ x, x ∈ F → w0.heap.size ≤ x
theorem Mine.quiet {w0 w w' : World} {hp : Nat} {os : List Ob} {F : List Nat} (h : Mine w0 w hp os F) (k : Keeps [] w w') : Mine w0 w' hp os F := ⟨h.has.quiet k, h.keeps.quiet k, h.young⟩
theorem Mine.step {w0 w w' : World} {hp : Nat} {os os' : List Ob} {F : List Nat} (h : Mine w0 w hp os F) (h' : Hp w' hp os' F) (k : Keeps F w w') : Mine w0 w' hp os' F := ⟨h', h.keeps.young k h.young, h.young⟩
theorem Mine.more {w0 w w' : World} {hp : Nat} {os os' : List Ob} {F F' : List Nat} (h : Mine w0 w hp os F) (h' : Hp w' hp os' F') (k : Keeps F w w') (n : Near w F F') : Mine w0 w' hp os' F' := ⟨h', h.keeps.young k h.young, n.young h.keeps h.young⟩
theorem Mine.new {w w1 : World} {hp : Nat} (h : Hp w1 w.heap.size [] [w.heap.size]) (k : Keeps [] w w1) (e : hp = w.heap.size) : Mine w w1 hp [] [hp] := by
  subst e
  exact ⟨h, k, fun x hx => by rw [List.mem_singleton.1 hx]; exact Nat.le_refl _⟩
theorem Mine.off {w0 w : World} {hp : Nat} {os : List Ob} {F : List Nat} (h : Mine w0 w hp os F) {b : Nat} (hb : w.heap.size ≤ b) : b ∉ F := fun hx => by
  have := h.has.lt b hx
  omega
theorem two_rec (w : World) : RowsAt (w.alloc (.cells #[.int .i64 0, .int .i64 0, .int .i64 1, .int .i64 0] 37)) 2 TyC (some ⟨w.heap.size, 0, none⟩) [(0, 0), (1, 0)] := by
  refine .inr ⟨_, _, rfl, fun j y hj => ?_⟩
  have hh := heap_new w (.cells #[.int .i64 0, .int .i64 0, .int .i64 1, .int .i64 0] 37)
  match j, hj with
  | 0, hj =>
    simp at hj
    subst hj
    exact ⟨⟨hcell hh 0, by unfold b64; decide⟩, ⟨hcell hh 1, by unfold b64; decide⟩⟩
  | 1, hj =>
    simp at hj
    subst hj
    exact ⟨⟨hcell hh 2, by unfold b64; decide⟩, ⟨hcell hh 3, by unfold b64; decide⟩⟩
  | j + 2, hj => simp at hj
theorem bg_get1 (fs : Value) : slW [⟨7, false, fs, [(0, 0, false), (1, 0, false)]⟩] 1 1 = 0 ∧ getV [⟨7, false, fs, [(0, 0, false), (1, 0, false)]⟩] 1 1 = (1, 0, false) := ⟨rfl, rfl⟩
theorem bg_set (fs : Value) : slW [⟨7, false, fs, [(0, 0, false), (1, 0, false)]⟩] 1 0 = 0 ∧ setO [⟨7, false, fs, [(0, 0, false), (1, 0, false)]⟩] 1 0 (0, 5, true) = [⟨7, false, fs, [(0, 5, true), (1, 0, false)]⟩] := ⟨rfl, rfl⟩
theorem bg_get2 (fs : Value) : slW [⟨7, false, fs, [(0, 5, true), (1, 0, false)]⟩] 1 0 = 0 ∧ getV [⟨7, false, fs, [(0, 5, true), (1, 0, false)]⟩] 1 0 = (0, 5, true) := ⟨rfl, rfl⟩
theorem bg_free (fs : Value) : foW [⟨7, false, fs, [(0, 5, true), (1, 0, false)]⟩] 1 = 0 ∧ freeO [⟨7, false, fs, [(0, 5, true), (1, 0, false)]⟩] 1 = [⟨7, true, .slice none 0 0, []⟩] := ⟨rfl, rfl⟩
theorem bg_get3 : slW [⟨7, true, .slice none 0 0, []⟩] 1 0 = 2 ∧ getV [⟨7, true, .slice none 0 0, []⟩] 1 0 = (0, 0, false) := ⟨rfl, rfl⟩
theorem bg_rest : siteO [⟨7, true, .slice none 0 0, []⟩] 1 = 7 ∧ freedO [⟨7, true, .slice none 0 0, []⟩] 1 = true := ⟨rfl, rfl⟩
set_option maxRecDepth 20000 in
set_option maxHeartbeats 4000000 in
theorem begun_any (w : World) : Calls Try.prog 8 #[] w fun e w' => e = .returned (.bool true) ∧ Keeps [] w w' := by
  go_enter Try.func8, Try.ntmps8
  go_wp2_with fail
  refine (new_hp w).mono ?_
  rintro e w1 ⟨rfl, hh, hk⟩
  obtain ⟨hp, hhp⟩ : ∃ hp, hp = w.heap.size := ⟨_, rfl⟩
  have M1 := hid (Mine.new hh hk hhp)
  rw [← hhp]
  clear hh hk hhp
  have KA := hid (Keeps.alloc [] w1 (.cells #[.int .i64 0, .int .i64 0, .int .i64 1, .int .i64 0] 37))
  have R := hid (two_rec w1)
  generalize hw2 : w1.alloc (.cells #[.int .i64 0, .int .i64 0, .int .i64 1, .int .i64 0] 37) = w2 at KA R
  have M2 := hid (M1.out.quiet KA.out)
  have C := hid (alloc_room (site := 7) (cp := 2) M2.out.has (by decide) R.out (by decide))
  rw [show ([((0 : Int), (0 : Int)), (1, 0)]).length = 2 from rfl] at C
  go_wp2_with fail
  refine C.out.mono ?_
  rintro e w3 ⟨rfl, fs, F, h3, k3, n3, -⟩
  have M3 : Box (Mine w w3 hp [⟨7, false, fs, [(0, 0, false), (1, 0, false)]⟩] F) := hid (M2.out.more h3 k3 n3)
  clear C R KA M1 M2 h3 k3 n3 hw2
  have C := hid (get_any M3.out.has 1 1)
  rw [(bg_get1 fs).1, (bg_get1 fs).2] at C
  go_wp2_with fail
  refine C.out.mono ?_
  rintro e w4 ⟨rfl, k4⟩
  have M4 := hid (M3.out.quiet k4)
  clear C M3 k4
  go_upto_region 6 with fail
  have M5 := hid (M4.out.quiet (Keeps.alloc [] w4 (.cells #[.int .i64 1, .int .i64 0, .bool false] 29)))
  have V5 := hid (heap_new w4 (.cells #[.int .i64 1, .int .i64 0, .bool false] 29))
  have N5 := hid (M4.out.off (Nat.le_refl _))
  generalize w4.alloc (.cells #[.int .i64 1, .int .i64 0, .bool false] 29) = w5 at *
  generalize w4.heap.size = vb at *
  clear M4
  have C := hid (set_any M5.out.has 1 0 (0, 5, true))
  rw [(bg_set fs).1, (bg_set fs).2] at C
  go_wp2_with fail
  refine C.out.mono ?_
  rintro e w6 ⟨rfl, h6, k6⟩
  have M6 := hid (M5.out.step h6 k6)
  have V6 := hid ((k6.block vb (heap_lt V5.out) N5.out).trans V5.out)
  clear C M5 V5 h6 k6
  have C := hid (get_any M6.out.has 1 0)
  rw [(bg_get2 fs).1, (bg_get2 fs).2] at C
  go_wp2_with fail
  refine C.out.mono ?_
  rintro e w7 ⟨rfl, k7⟩
  have M7 := hid (M6.out.quiet k7)
  have V7 := hid (keep_heap V6.out k7)
  clear C M6 V6 k7
  go_upto_region 8 with fail
  have KA := hid (Keeps.alloc [] w7 (.cells #[.int .i64 0, .int .i64 5, .bool true] 29))
  have M8 := hid (M7.out.quiet KA.out)
  have V8 := hid (keep_heap V7.out KA.out)
  have U8 := hid (heap_new w7 (.cells #[.int .i64 0, .int .i64 5, .bool true] 29))
  have P8 := hid (M7.out.off (Nat.le_refl _))
  generalize w7.alloc (.cells #[.int .i64 0, .int .i64 5, .bool true] 29) = w8 at *
  generalize w7.heap.size = ub at *
  clear M7 V7 KA
  have C := hid (free_any M8.out.has 1)
  rw [(bg_free fs).1, (bg_free fs).2] at C
  go_wp2_with fail
  refine C.out.mono ?_
  rintro e w9 ⟨rfl, h9, k9⟩
  have M9 := hid (M8.out.step h9 k9)
  have V9 := hid ((k9.block vb (heap_lt V8.out) N5.out).trans V8.out)
  have U9 := hid ((k9.block ub (heap_lt U8.out) P8.out).trans U8.out)
  clear C M8 V8 U8 h9 k9 N5 P8
  have C := hid (get_any M9.out.has 1 0)
  rw [bg_get3.1, bg_get3.2] at C
  go_wp2_with fail
  refine C.out.mono ?_
  rintro e wa ⟨rfl, ka⟩
  have MA := hid (M9.out.quiet ka)
  have VA := hid (keep_heap V9.out ka)
  have UA := hid (keep_heap U9.out ka)
  clear C M9 V9 U9 ka
  go_upto_region 10 with fail
  have KA := hid (Keeps.alloc [] wa (.cells #[.int .i64 0, .int .i64 0, .bool false] 29))
  have MB := hid (MA.out.quiet KA.out)
  have VB := hid (keep_heap VA.out KA.out)
  have UB := hid (keep_heap UA.out KA.out)
  generalize wa.alloc (.cells #[.int .i64 0, .int .i64 0, .bool false] 29) = wb at *
  generalize wa.heap.size = xb at *
  clear MA VA UA KA
  have v0 := hcell VB.out 0
  have u1 := hcell UB.out 1
  have u2 := hcell UB.out 2
  have C := hid (site_any MB.out.has 1)
  rw [bg_rest.1] at C
  go_wp2_with fail
  refine C.out.mono ?_
  rintro e wc ⟨rfl, kc⟩
  have MC := hid (MB.out.quiet kc)
  clear C MB v0 u1 u2 VB UB kc
  have C := hid (freed_any MC.out.has 1)
  rw [bg_rest.2] at C
  go_wp2_with fail
  refine C.out.mono ?_
  rintro e wd ⟨rfl, kd⟩
  have MD := hid (MC.out.quiet kd)
  clear C MC kd
  go_wp2_with fail
  go_ret
  exact ⟨rfl, MD.out.keeps⟩
end Go.Proofs.Ytpllhcifoiahpaa
