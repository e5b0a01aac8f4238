/-
  Contracts: union's has, Find, Len.
-/
import Derived.Test.YtllfgbgbbjajoaaUZero
import Derived.Deep.QuietTactic
import Derived.BigQuiet
import Derived.RegionTactic
import Derived.ChangeAlike
namespace Go.Proofs.Ytllfgbgbbjajoaa
open Go.RowKit

set_option maxHeartbeats 400000 in
theorem uhas_nil (a : Int) (w : World) :
    Calls Try.prog 12 #[.pointer none, .int .i64 a] w fun e w' => e = .returned (.bool false) ∧ w' = w := by
  go_enter Try.func12, Try.ntmps12
  go_wp2
  go_ret
  exact ⟨rfl, rfl⟩

set_option maxHeartbeats 400000 in
theorem uhas_any (b n : Nat) (a : Int) (w : World) (hc : w.cell? ⟨b, 0, none⟩ = some (.int .i64 (n : Nat))) :
    Calls Try.prog 12 #[.pointer (some ⟨b, 0, none⟩), .int .i64 a] w fun e w' => e = .returned (.bool (decide (0 ≤ a ∧ a < n))) ∧ w' = w := by
  by_cases h0 : 0 ≤ a <;> by_cases h1 : a < n <;> (go_enter Try.func12, Try.ntmps12; go_wp2; go_ret; exact ⟨by simp [h0, h1], rfl⟩)

set_option maxHeartbeats 400000 in
theorem find_nil (a : Int) (w : World) :
    Calls Try.prog 8 #[.pointer none, .int .i64 a] w fun e w' => e = .returned (.int .i64 (-1)) ∧ w' = w := by
  go_enter Try.func8, Try.ntmps8
  go_wp2_with fail
  refine (uhas_nil _ _).mono ?_
  rintro e w' ⟨rfl, rfl⟩
  go_wp2
  go_ret
  exact ⟨rfl, rfl⟩

set_option maxHeartbeats 400000 in
theorem find_out (b n : Nat) (a : Int) (w : World) (hc : w.cell? ⟨b, 0, none⟩ = some (.int .i64 (n : Nat))) (h : ¬ (0 ≤ a ∧ a < n)) :
    Calls Try.prog 8 #[.pointer (some ⟨b, 0, none⟩), .int .i64 a] w fun e w' => e = .returned (.int .i64 (-1)) ∧ w' = w := by
  have H := hid (uhas_any b n a w hc)
  rw [decide_eq_false h] at H
  clear hc h
  go_enter Try.func8, Try.ntmps8
  go_wp2_with fail
  refine H.out.mono ?_
  rintro e w' ⟨rfl, rfl⟩
  go_wp2
  go_ret
  exact ⟨rfl, rfl⟩

theorem keeps_put {w wr : World} {b : Nat} (h : Keeps [b] w wr) (k : Nat) (v : Value) : Keeps [b] w (wr.setCell ⟨b, k, none⟩ v) :=
  h.step (Keeps.setCell [b] wr ⟨b, k, none⟩ v (by simp))

theorem cell_put {wr : World} {b n g : Nat} {f : Nat → Nat} (h : URow wr b n g f) (k v : Nat) (hk : k < 5000) : (wr.setCell ⟨b, 2 + k, none⟩ (.int .i64 (v : Nat))).cell? ⟨b, 2 + k, none⟩ = some (.int .i64 (v : Nat)) := by
  have := (h.put k v).above hk
  rw [upd_at] at this
  exact this

set_option maxHeartbeats 1000000 in
theorem find_raw (b n g a : Nat) (f r : Nat → Nat) (w : World) (hu : URow w b n g f) (ht : Tree n f r) (hn : n ≤ 5000) (ha : a < n) :
    Calls Try.prog 8 #[.pointer (some ⟨b, 0, none⟩), .int .i64 (a : Int)] w fun e w' => e = .returned (.int .i64 (r a : Nat)) ∧ ∃ f', URow w' b n g f' ∧ Tree n f' r ∧ Keeps [b] w w' := by
  have H := hid (uhas_any b n a w hu.size)
  rw [decide_eq_true (by omega)] at H
  have HU := hid (And.intro hu ht)
  clear hu ht
  go_enter Try.func8, Try.ntmps8
  go_wp2_with fail
  refine H.out.mono ?_
  rintro e w1 ⟨rfl, hw⟩
  obtain rfl := hw.symm
  clear hw H
  go_wp2
  go_loopw [1] (fun i wr => ∃ (k : Nat) (f : Nat → Nat), k < n ∧ i = .int .i64 k ∧ Box (URow wr b n g f ∧ Tree n f r ∧ r k = r a) ∧ Keeps [b] w wr) (fun i _ => (intOf i).toNat)
  case atStart => exact ⟨a, f, ha, rfl, hid ⟨HU.out.1, HU.out.2, rfl⟩, Keeps.refl _ _⟩
  case round =>
    clear HU
    obtain ⟨k, f, hk, rfl, hb, hkw⟩ := hrel
    have hk5 : k < 5000 := by omega
    have c1 := hb.out.1.above hk5
    have hle := hb.out.2.1.le k hk
    by_cases hfix : f k = k
    · have hrk := hid (hb.out.2.1.fix k hk hfix)
      rw [hfix] at c1
      have hbe : ((k : Int) != (k : Int)) = false := by simp
      clear hfix hle
      go_wp2
      go_ret
      refine ⟨?_, f, hb.out.1, hb.out.2.1, hkw⟩
      rw [← hb.out.2.2, hrk.out]
      rfl
    · have hx5 : f k < 5000 := by omega
      have c2 := hb.out.1.above hx5
      have hle2 := hb.out.2.1.le (f k) (by omega)
      have hfz := hb.out.1.frozen (2 + k)
      have c3 := cell_put hb.out.1 k (f (f k)) hk5
      have hb2 : Box (URow (wr.setCell ⟨b, 2 + k, none⟩ (.int .i64 (f (f k) : Nat))) b n g (upd f k (f (f k))) ∧ Tree n (upd f k (f (f k))) r ∧ r (f (f k)) = r a) :=
        hid ⟨hb.out.1.put k _, hb.out.2.1.halve hk, by rw [hb.out.2.1.step (f k) (by omega), hb.out.2.1.step k hk, hb.out.2.2]⟩
      have hk2 := keeps_put hkw (2 + k) (.int .i64 (f (f k) : Nat))
      have hne : (((f k : Nat) : Int) != (k : Int)) = true := by rw [bne_iff_ne]; omega
      generalize upd f k (f (f k)) = f2 at hb2
      generalize f (f k) = y at *
      generalize f k = x at *
      clear hb
      go_wp2
      go_region
      go_wp2
      go_roundw
      case rel => exact ⟨y, f2, by omega, rfl, hid ⟨hb2.out.1.drewN _, hb2.out.2⟩, hk2.quiet (Keeps.drewN _ _ _)⟩
      case measure => simp [intOf]; omega

/-- Find: every number. -/
theorem find_any (b n : Nat) (r : Nat → Nat) (a : Int) (w : World) (hu : UAt w b n r) :
    Calls Try.prog 8 #[.pointer (some ⟨b, 0, none⟩), .int .i64 a] w fun e w' => e = .returned (.int .i64 (findI n r a)) ∧ UAt w' b n r ∧ Keeps [b] w w' := by
  obtain ⟨f, h1, h2⟩ := hu.has
  by_cases h : 0 ≤ a ∧ a < n
  · obtain ⟨k, rfl⟩ := Int.eq_ofNat_of_zero_le h.1
    refine (find_raw b n _ k f r w h1 h2 hu.le (by omega)).mono ?_
    rintro e w' ⟨he, f', h3, h4, h5⟩
    exact ⟨by rw [he, findI_in n r k (by omega)], ⟨⟨f', h3, h4⟩, hu.le⟩, h5⟩
  · refine (find_out b n a w h1.size h).mono ?_
    rintro e w' ⟨he, hw⟩
    subst hw
    exact ⟨by rw [he, findI_out n r a h], hu, Keeps.refl _ _⟩

set_option maxHeartbeats 400000 in
theorem ulen_nil (w : World) :
    Calls Try.prog 11 #[.pointer none] w fun e w' => e = .returned (.int .i64 0) ∧ w' = w := by
  go_enter Try.func11, Try.ntmps11
  go_wp2
  go_ret
  exact ⟨rfl, rfl⟩

set_option maxHeartbeats 400000 in
theorem ulen_raw (b g : Nat) (w : World) (hc : w.cell? ⟨b, 1, none⟩ = some (.int .i64 (g : Nat))) :
    Calls Try.prog 11 #[.pointer (some ⟨b, 0, none⟩)] w fun e w' => e = .returned (.int .i64 (g : Nat)) ∧ w' = w := by
  go_enter Try.func11, Try.ntmps11
  go_wp2
  go_ret
  exact ⟨rfl, rfl⟩

theorem ulen_any (b n : Nat) (r : Nat → Nat) (w : World) (hu : UAt w b n r) :
    Calls Try.prog 11 #[.pointer (some ⟨b, 0, none⟩)] w fun e w' => e = .returned (.int .i64 ((leads n r).length : Nat)) ∧ w' = w := by
  obtain ⟨f, h1, _⟩ := hu.has
  exact ulen_raw b _ w h1.groups
end Go.Proofs.Ytllfgbgbbjajoaa
