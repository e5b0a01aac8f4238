/-
  refuse.Where; leads and next.
-/
import Derived.Test.YtjofffhfabmfkaaDoorRNext
namespace Go.Proofs.YtjofffhfabmfkaaDoor
open Go.RowKit Go.Extern.Stop Go.Stop Go.Extern

/-- What Where tells. -/
def whereV (l : List Lk) : Value :=
  match firstOf l with
  | some (_, f, b, i) => if 0 ≤ f then .tuple #[.agg #[.int .i64 f, .int .i64 b, .int .i64 i], .bool true] else .tuple #[.agg #[.int .i64 0, .int .i64 0, .int .i64 0], .bool false]
  | none => .tuple #[.agg #[.int .i64 0, .int .i64 0, .int .i64 0], .bool false]

theorem set3 {w : World} {b : Nat} {x y z : Value} {T : TypeId} (h : w.heap[b]? = some (.cells #[x, y, z] T (0, 0))) (u0 u1 u2 : Value) :
    (((w.setCell ⟨b, 0, none⟩ u0).setCell ⟨b, 1, none⟩ u1).setCell ⟨b, 2, none⟩ u2).heap[b]? = some (.cells #[u0, u1, u2] T (0, 0)) :=
  heap_setCell_same _ b 2 _ _ u2 (heap_setCell_same _ b 1 _ _ u1 (heap_setCell_same w b 0 _ _ u0 h))
theorem keeps3 (w : World) (b : Nat) (u0 u1 u2 : Value) : Keeps [b] w (((w.setCell ⟨b, 0, none⟩ u0).setCell ⟨b, 1, none⟩ u1).setCell ⟨b, 2, none⟩ u2) :=
  ((Keeps.setCell [b] _ _ _ (List.mem_singleton.2 rfl)).step (Keeps.setCell [b] _ _ _ (List.mem_singleton.2 rfl))).step (Keeps.setCell [b] _ _ _ (List.mem_singleton.2 rfl))

set_option maxHeartbeats 1000000 in
theorem where_any (l : List Lk) (w : World) (hg : Glob w) (hc : ChainAt w l) (hF : Falls l) :
    Calls Tryd.prog 16 #[headV l] w fun e w' => e = .returned (whereV l) ∧ Keeps [] w w' := by
  have ka := Keeps.alloc [] w (.cells #[.int .i64 0, .int .i64 0, .int .i64 0] 38)
  have hn := hid (heap_new w (.cells #[.int .i64 0, .int .i64 0, .int .i64 0] 38))
  have hf := hid (first_any l _ (hg.quiet ka) (hc.quiet ka) hF)
  have hc1 := hc.quiet ka
  have KA := hid ka
  clear ka
  unfold whereV
  cases hp : firstP l with
  | none =>
    have ho := first_none hp
    rw [ho]
    rw [hp] at hf
    clear hp ho hg hc hF hc1
    generalize headV l = v at *
    go_enter Tryd.func16, Tryd.ntmps16
    go_wp2_with (first | (go_at_call 24; refine hf.out.mono ?_; rintro e w' ⟨rfl, hk⟩; have hb := (hk.block w.heap.size (by simp) (by simp)).trans hn.out; have z0 := pfrozen hb 0; have z1 := pfrozen hb 1; have z2 := pfrozen hb 2; have c0 := pcell hb 0; have c1 := pcell hb 1; have c2 := pcell hb 2; have HK := hid hk; have HB := hid hb; clear hk hb) | (go_at_call 30; refine (placed_nil _).mono ?_; rintro e w' ⟨rfl, rfl⟩))
    have h3 := set3 HB.out (.int .i64 0) (.int .i64 0) (.int .i64 0)
    have e0 := pcell h3 0
    have e1 := pcell h3 1
    have e2 := pcell h3 2
    exact bodyPost_ret (v := .tuple #[.agg #[.int .i64 0, .int .i64 0, .int .i64 0], .bool false]) (by simp [results, Tryd.results16, go_sem, e0, e1, e2]) rfl ⟨rfl, (KA.out.step HK.out).trans (keeps3 _ _ _ _ _) (fun x hx hl => by simp at hx; omega)⟩
  | some a =>
    obtain ⟨p, y, f, b, i, v, rfl, ho, hh⟩ := first_some hc1 hp
    rw [ho]
    rw [hp] at hf
    have HH := hid hh
    clear hp ho hg hc hF hh hc1
    generalize headV l = vl at *
    by_cases h0 : 0 ≤ f
    · have hd : decide (0 ≤ f) = true := by simpa using h0
      simp only [if_pos h0]
      go_enter Tryd.func16, Tryd.ntmps16
      go_wp2_with (first | (go_at_call 24; refine hf.out.mono ?_; rintro e w' ⟨rfl, hk⟩; have hb := (hk.block w.heap.size (by simp) (by simp)).trans hn.out; have z0 := pfrozen hb 0; have z1 := pfrozen hb 1; have z2 := pfrozen hb 2; have c0 := pcell hb 0; have c1 := pcell hb 1; have c2 := pcell hb 2; have HK := hid hk; have HB := hid hb; have hq := (hk.block p (heap_lt HH.out) (by simp)).trans HH.out; have HP := hid (placed_any p y f b i v _ hq); have d0 := pcell hq 0; have d1 := pcell hq 1; have d2 := pcell hq 2; have d3 := pcell hq 3; clear hk hb hq) | (go_at_call 30; refine HP.out.mono ?_; rintro e w' ⟨rfl, rfl⟩))
      have h3 := set3 HB.out (.int .i64 f) (.int .i64 b) (.int .i64 i)
      have e0 := pcell h3 0
      have e1 := pcell h3 1
      have e2 := pcell h3 2
      exact bodyPost_ret (v := .tuple #[.agg #[.int .i64 f, .int .i64 b, .int .i64 i], .bool true]) (by simp [results, Tryd.results16, go_sem, e0, e1, e2]) rfl ⟨rfl, (KA.out.step HK.out).trans (keeps3 _ _ _ _ _) (fun x hx hl => by simp at hx; omega)⟩
    · have hd : decide (0 ≤ f) = false := by simpa using h0
      simp only [if_neg h0]
      go_enter Tryd.func16, Tryd.ntmps16
      go_wp2_with (first | (go_at_call 24; refine hf.out.mono ?_; rintro e w' ⟨rfl, hk⟩; have hb := (hk.block w.heap.size (by simp) (by simp)).trans hn.out; have z0 := pfrozen hb 0; have z1 := pfrozen hb 1; have z2 := pfrozen hb 2; have c0 := pcell hb 0; have c1 := pcell hb 1; have c2 := pcell hb 2; have HK := hid hk; have HB := hid hb; have hq := (hk.block p (heap_lt HH.out) (by simp)).trans HH.out; have HP := hid (placed_any p y f b i v _ hq); have d0 := pcell hq 0; have d1 := pcell hq 1; have d2 := pcell hq 2; have d3 := pcell hq 3; clear hk hb hq) | (go_at_call 30; refine HP.out.mono ?_; rintro e w' ⟨rfl, rfl⟩))
      have h3 := set3 HB.out (.int .i64 0) (.int .i64 0) (.int .i64 0)
      have e0 := pcell h3 0
      have e1 := pcell h3 1
      have e2 := pcell h3 2
      exact bodyPost_ret (v := .tuple #[.agg #[.int .i64 0, .int .i64 0, .int .i64 0], .bool false]) (by simp [results, Tryd.results16, go_sem, e0, e1, e2]) rfl ⟨rfl, (KA.out.step HK.out).trans (keeps3 _ _ _ _ _) (fun x hx hl => by simp at hx; omega)⟩
end Go.Proofs.YtjofffhfabmfkaaDoor
