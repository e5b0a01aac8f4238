/-
  The statement UnionFind: its walk.
-/
import Derived.Test.YtokoebbghkbliaaUBegun
import Derived.Test.YtokoebbghkbliaaUPairs
import Derived.Deep.RegionWith
namespace Go.Proofs.Ytokoebbghkbliaa
open Go.RowKit

theorem joined_left (r : Nat → Nat) (a b : Nat) : joined r (r a) (r b) a = min (r a) (r b) := by
  unfold joined
  by_cases h : r a = max (r a) (r b)
  · rw [if_pos h]
  · rw [if_neg h]; omega
theorem joined_right (r : Nat → Nat) (a b : Nat) : joined r (r a) (r b) b = min (r a) (r b) := by
  unfold joined
  by_cases h : r b = max (r a) (r b)
  · rw [if_pos h]
  · rw [if_neg h]; omega

/-- One union. -/
structure One (w wr : World) (b n : Nat) (r : Nat → Nat) : Prop where
  u : UAt wr b n r
  keep : Keeps [] w wr
  lo : w.heap.size ≤ b
theorem One.on {w wr w1 : World} {b n : Nat} {r r' : Nat → Nat} (h : One w wr b n r) (hu : UAt w1 b n r') (hk : Keeps [b] wr w1) : One w w1 b n r' := by
  have h1 := h.lo
  exact ⟨hu, h.keep.trans hk fun x hx hl => by simp at hx; omega, h1⟩
theorem One.quiet {w wr w1 : World} {b n : Nat} {r : Nat → Nat} (h : One w wr b n r) (hk : Keeps [] wr w1) : One w w1 b n r :=
  ⟨h.u.kept hk (by simp), h.keep.quiet hk, h.lo⟩
theorem one_join {w wr : World} {b n : Nat} {r : Nat → Nat} (h : One w wr b n r) (x y : Int) :
    Calls Try.prog 11 #[.pointer (some ⟨b, 0, none⟩), .int .i64 x, .int .i64 y] wr fun e w' => e = .returned (.bool (joinB n r x y)) ∧ One w w' b n (joinI n r x y) :=
  (join_any b n r x y wr h.u).mono fun _ _ ⟨he, h1, h2⟩ => ⟨he, h.on h1 h2⟩
theorem one_find {w wr : World} {b n : Nat} {r : Nat → Nat} (h : One w wr b n r) (x : Int) :
    Calls Try.prog 13 #[.pointer (some ⟨b, 0, none⟩), .int .i64 x] wr fun e w' => e = .returned (.int .i64 (findI n r x)) ∧ One w w' b n r :=
  (find_any b n r x wr h.u).mono fun _ _ ⟨he, h1, h2⟩ => ⟨he, h.on h1 h2⟩
theorem one_same {w wr : World} {b n : Nat} {r : Nat → Nat} (h : One w wr b n r) (x y : Int) :
    Calls Try.prog 12 #[.pointer (some ⟨b, 0, none⟩), .int .i64 x, .int .i64 y] wr fun e w' => e = .returned (.bool (sameB n r x y)) ∧ One w w' b n r :=
  (same_any b n r x y wr h.u).mono fun _ _ ⟨he, h1, h2⟩ => ⟨he, h.on h1 h2⟩

set_option maxHeartbeats 2000000 in
theorem find_law_in (n a b : Nat) (pa : Option Addr) (L cap : Nat) (zs : List (Int × Int)) (w : World) (hz : PairsAt w pa zs) (hL : zs.length = L) (hn1 : 1 ≤ n) (hn : n ≤ 60) (ha : a < n) (hb : b < n) (hL2 : L ≤ 9223372036854775807) :
    Calls Try.prog 6 #[.int .i64 (n : Int), .slice pa L cap, .int .i64 (a : Int), .int .i64 (b : Int)] w fun e w' => e = .returned (.bool true) ∧ Keeps [] w w' := by
  have HA := hid (begun_any w)
  have HZ := hid hz
  have HL := hid hL
  clear hz hL
  have f1 : decide ((n : Int) < 1) = false := decide_eq_false (by omega)
  have f2 : decide ((60 : Int) < (n : Int)) = false := decide_eq_false (by omega)
  have f3 : decide ((a : Int) < 0) = false := decide_eq_false (by omega)
  have f4 : decide ((n : Int) ≤ (a : Int)) = false := decide_eq_false (by omega)
  have f5 : decide ((b : Int) < 0) = false := decide_eq_false (by omega)
  have f6 : decide ((n : Int) ≤ (b : Int)) = false := decide_eq_false (by omega)
  go_enter Try.func6, Try.ntmps6
  go_wp2_with fail
  refine HA.out.mono ?_
  rintro e w1 ⟨rfl, hk1⟩
  clear HA
  have HA := hid (new_nat n w1 (by omega))
  go_wp2_with fail
  refine HA.out.mono ?_
  rintro e w2 ⟨rfl, hu2, hk2⟩
  have hO : Box (One w w2 w1.heap.size n fun k => k) := hid ⟨hu2, hk1.quiet hk2, hk1.size⟩
  clear HA hk1 hu2 hk2
  generalize w1.heap.size = bl at hO ⊢
  go_wp2_with fail
  go_loopw [11] (fun i wr => ∃ (k : Nat) (r : Nat → Nat), k ≤ L ∧ k ≤ 40 ∧ i = .int .i64 k ∧ Box (One w wr bl n r)) (fun i _ => L - (intOf i).toNat)
  case atStart => exact ⟨0, _, by omega, by omega, rfl, hO⟩
  case round =>
    clear hO
    obtain ⟨k, r, hk, hk40, rfl, hO⟩ := hrel
    by_cases hgo : k < L ∧ k < 40
    · obtain ⟨hlt, hlt40⟩ := hgo
      have hlt' : (k : Int) < (L : Int) := by omega
      have hlt40' : (k : Int) < 40 := by omega
      rcases HZ.out with h0 | ⟨bp, op, rfl, hc⟩
      · have := HL.out
        rw [h0] at this
        simp at this
        omega
      · obtain ⟨c1, c2⟩ := hc k (by rw [HL.out]; exact hlt)
        have d1 := (hO.out.keep.cell (p := ⟨bp, op + k * 2, none⟩) (block_lt_of_cell c1) (by simp)).trans c1
        have d2 := (hO.out.keep.cell (p := ⟨bp, op + k * 2 + 1, none⟩) (block_lt_of_cell c2) (by simp)).trans c2
        have HJ := hid fun (w9 : World) (h9 : Keeps [] wr w9) => one_join (hO.out.quiet h9) (zs.getD k (0, 0)).1 (zs.getD k (0, 0)).2
        clear c1 c2 hc
        generalize (zs.getD k (0, 0)).1 = p at d1 HJ
        generalize (zs.getD k (0, 0)).2 = q at d2 HJ
        have hkd : Keeps [] wr wr.drew := Keeps.drew _ _
        clear hO
        go_wp2
        go_region_with (first | (go_at_call 11; refine (HJ.out _ hkd).mono ?_; rintro e w5 ⟨rfl, hO5⟩; have hO6 := hid hO5; clear hO5))
        all_goals
          go_wp2
          go_roundw
          case rel => exact ⟨k + 1, _, by omega, by omega, by go_num, hO6⟩
          case measure => simp [intOf]; omega
    · have hex : Box (k = L ∨ k = 40) := hid (by omega)
      have hl := hO.out.u.least
      have ix := hl.idem a ha
      have hxa := hl.below a ha
      have hxn := hl.lt ha
      have hyn := hl.lt hb
      have eS : sameB n r (a : Int) (b : Int) = (((r a : Nat) : Int) == ((r b : Nat) : Int)) := by
        unfold sameB
        by_cases h : r a = r b
        · have h2 : (((r a : Nat) : Int) == ((r b : Nat) : Int)) = true := by rw [h]; simp
          rw [h2]
          exact decide_eq_true ⟨by omega, by omega, by simpa using h⟩
        · have h2 : ¬ ((r a : Nat) : Int) = ((r b : Nat) : Int) := by omega
          rw [beq_eq_false_iff_ne.2 h2]
          exact decide_eq_false fun hh => h (by simpa using hh.2.2)
      have eS2 : sameB n r (a : Int) ((r a : Nat) : Int) = true := by
        unfold sameB
        refine decide_eq_true ⟨by omega, by omega, ?_⟩
        simp [ix]
      have eJ : joinB n r (a : Int) (b : Int) = (((r a : Nat) : Int) != ((r b : Nat) : Int)) := by
        unfold joinB
        by_cases h : r a = r b
        · have h2 : (((r a : Nat) : Int) != ((r b : Nat) : Int)) = false := by rw [h]; simp
          rw [h2]
          exact decide_eq_false fun hh => hh.2.2 (by simpa using h)
        · have h2 : ¬ ((r a : Nat) : Int) = ((r b : Nat) : Int) := by omega
          rw [bne_iff_ne.2 h2]
          exact decide_eq_true ⟨by omega, by omega, by simpa using h⟩
      have eA : findI n (joinI n r (a : Int) (b : Int)) (a : Int) = ((min (r a) (r b) : Nat) : Int) := by rw [joinI_in n r a b ha hb, findI_in n _ a ha, joined_left]
      have eB : findI n (joinI n r (a : Int) (b : Int)) (b : Int) = ((min (r a) (r b) : Nat) : Int) := by rw [joinI_in n r a b ha hb, findI_in n _ b hb, joined_right]
      have HFa := hid fun (w9 : World) (h9 : One w w9 bl n r) => one_find h9 (a : Int)
      have HFb := hid fun (w9 : World) (h9 : One w w9 bl n r) => one_find h9 (b : Int)
      have HFx := hid fun (w9 : World) (h9 : One w w9 bl n r) => one_find h9 ((r a : Nat) : Int)
      have HS := hid fun (w9 : World) (h9 : One w w9 bl n r) => one_same h9 (a : Int) (b : Int)
      have HS2 := hid fun (w9 : World) (h9 : One w w9 bl n r) => one_same h9 (a : Int) ((r a : Nat) : Int)
      have HJ := hid fun (w9 : World) (h9 : One w w9 bl n r) => one_join h9 (a : Int) (b : Int)
      have HGa := hid fun (w9 : World) (h9 : One w w9 bl n (joinI n r (a : Int) (b : Int))) => one_find h9 (a : Int)
      have HGb := hid fun (w9 : World) (h9 : One w w9 bl n (joinI n r (a : Int) (b : Int))) => one_find h9 (b : Int)
      rw [findI_in n r a ha] at HFa
      rw [findI_in n r b hb] at HFb
      rw [findI_in n r (r a) hxn, ix] at HFx
      rw [eS] at HS
      rw [eS2] at HS2
      rw [eJ] at HJ
      rw [eA] at HGa
      rw [eB] at HGb
      clear eS eS2 eJ eA eB ix hl
      generalize joinI n r (a : Int) (b : Int) = r2 at HJ HGa HGb
      generalize r a = x at *
      generalize r b = y at *
      have hle : decide ((x : Int) ≤ (a : Int)) = true := decide_eq_true (by omega)
      have hxx : ((x : Int) == (x : Int)) = true := by simp
      obtain ⟨Q, hQ⟩ : ∃ Q, ((x : Int) == (y : Int)) = Q := ⟨_, rfl⟩
      obtain ⟨Q2, hQ2⟩ : ∃ Q2, ((x : Int) != (y : Int)) = Q2 := ⟨_, rfl⟩
      have hqq : (Q == Q) = true := by simp
      have hqq2 : (Q2 == Q2) = true := by simp
      rw [hQ] at HS
      rw [hQ2] at HJ
      have hguard : (¬ k < L ∧ decide ((k : Int) < (L : Int)) = false ∧ decide (k < L) = false) ∨ ((k < L ∧ decide ((k : Int) < (L : Int)) = true ∧ decide (k < L) = true) ∧ ¬ k < 40 ∧ decide ((k : Int) < 40) = false ∧ decide (k < 40) = false) := by
        by_cases h2 : k < L
        · right; exact ⟨⟨h2, decide_eq_true (by omega), decide_eq_true h2⟩, by omega, decide_eq_false (by omega), decide_eq_false (by omega)⟩
        · left; exact ⟨h2, decide_eq_false (by omega), decide_eq_false h2⟩
      clear hgo hex
      rcases hguard with ⟨hg, hg', hg''⟩ | ⟨⟨hg, hg', hg''⟩, hh, hh', hh''⟩
      all_goals
        go_wp2_with fail
        refine (HFa.out _ hO.out).mono ?_
        rintro e w5 ⟨rfl, hO5⟩
        have H5 := hid hO5
        clear hO5 hO
        go_wp2_with fail
        refine (HFb.out _ H5.out).mono ?_
        rintro e w6 ⟨rfl, hO6⟩
        have H6 := hid hO6
        clear hO6 H5
        go_wp2_with fail
        refine (HFx.out _ H6.out).mono ?_
        rintro e w7 ⟨rfl, hO7⟩
        have H7 := hid hO7
        clear hO7 H6
        go_wp2_with fail
        refine (HS.out _ H7.out).mono ?_
        rintro e w8 ⟨rfl, hO8⟩
        have H8 := hid hO8
        clear hO8 H7
        go_wp2_with fail
        refine (HS2.out _ H8.out).mono ?_
        rintro e w10 ⟨rfl, hO10⟩
        have H10 := hid hO10
        clear hO10 H8
        go_wp2_with fail
        refine (HJ.out _ H10.out).mono ?_
        rintro e w11 ⟨rfl, hO11⟩
        have H11 := hid hO11
        clear hO11 H10
        go_wp2_with fail
        refine (HGa.out _ H11.out).mono ?_
        rintro e w12 ⟨rfl, hO12⟩
        have H12 := hid hO12
        clear hO12 H11
        clear hQ hQ2 HFa HFb HFx HS HS2 HJ HGa
        have hyy : ((y : Int) == (y : Int)) = true := by simp
        by_cases hxy : x ≤ y
        · have hm : min x y = x := by omega
          rw [hm] at HGb ⊢
          have hd : decide ((x : Int) ≤ (y : Int)) = true := decide_eq_true (by omega)
          by_cases hxe : x = y
          · subst hxe
            go_wp2_with fail
            refine (HGb.out _ H12.out).mono ?_
            rintro e w13 ⟨rfl, hO13⟩
            go_wp2
            go_ret
            exact ⟨rfl, hO13.keep⟩
          · have hlt : x < y := by omega
            go_wp2_with fail
            refine (HGb.out _ H12.out).mono ?_
            rintro e w13 ⟨rfl, hO13⟩
            go_wp2
            go_ret
            exact ⟨rfl, hO13.keep⟩
        · have hm : min x y = y := by omega
          have hlt : y < x := by omega
          rw [hm] at HGb ⊢
          go_wp2_with fail
          refine (HGb.out _ H12.out).mono ?_
          rintro e w13 ⟨rfl, hO13⟩
          go_wp2
          go_ret
          exact ⟨rfl, hO13.keep⟩

theorem find_law_out (n a b : Int) (pv : Value) (w : World) (h : n < 1 ∨ 60 < n ∨ a < 0 ∨ n ≤ a ∨ b < 0 ∨ n ≤ b) :
    Calls Try.prog 6 #[.int .i64 n, pv, .int .i64 a, .int .i64 b] w fun e w' => e = .returned (.bool true) ∧ Keeps [] w w' := by
  have HA := hid (begun_any w)
  have hor : (decide (n < 1) || decide (60 < n) || decide (a < 0) || decide (n ≤ a) || decide (b < 0) || decide (n ≤ b)) = true := by
    simp
    omega
  clear h
  generalize hd1 : decide (n < 1) = d1 at hor
  generalize hd2 : decide (60 < n) = d2 at hor
  generalize hd3 : decide (a < 0) = d3 at hor
  generalize hd4 : decide (n ≤ a) = d4 at hor
  generalize hd5 : decide (b < 0) = d5 at hor
  generalize hd6 : decide (n ≤ b) = d6 at hor
  cases d1
  case true =>
    clear hor
    go_enter Try.func6, Try.ntmps6
    go_wp2_with fail
    refine HA.out.mono ?_
    rintro e w1 ⟨rfl, hk1⟩
    go_wp2
    go_ret
    exact ⟨rfl, hk1⟩
  case false =>
    cases d2
    case true =>
      clear hor
      go_enter Try.func6, Try.ntmps6
      go_wp2_with fail
      refine HA.out.mono ?_
      rintro e w1 ⟨rfl, hk1⟩
      go_wp2
      go_ret
      exact ⟨rfl, hk1⟩
    case false =>
      cases d3
      case true =>
        clear hor
        go_enter Try.func6, Try.ntmps6
        go_wp2_with fail
        refine HA.out.mono ?_
        rintro e w1 ⟨rfl, hk1⟩
        go_wp2
        go_ret
        exact ⟨rfl, hk1⟩
      case false =>
        cases d4
        case true =>
          clear hor
          go_enter Try.func6, Try.ntmps6
          go_wp2_with fail
          refine HA.out.mono ?_
          rintro e w1 ⟨rfl, hk1⟩
          go_wp2
          go_ret
          exact ⟨rfl, hk1⟩
        case false =>
          cases d5
          case true =>
            clear hor
            go_enter Try.func6, Try.ntmps6
            go_wp2_with fail
            refine HA.out.mono ?_
            rintro e w1 ⟨rfl, hk1⟩
            go_wp2
            go_ret
            exact ⟨rfl, hk1⟩
          case false =>
            cases d6
            case true =>
              clear hor
              go_enter Try.func6, Try.ntmps6
              go_wp2_with fail
              refine HA.out.mono ?_
              rintro e w1 ⟨rfl, hk1⟩
              go_wp2
              go_ret
              exact ⟨rfl, hk1⟩
            case false => simp at hor

theorem find_law_any (n : Int) (pa : Option Addr) (cap : Nat) (zs : List (Int × Int)) (a b : Int) (w : World) (hz : PairsAt w pa zs) (hl : zs.length ≤ maxLen) (_hc : zs.length ≤ cap) :
    Calls Try.prog 6 #[.int .i64 n, .slice pa zs.length cap, .int .i64 a, .int .i64 b] w fun e w' => e = .returned (.bool true) ∧ Keeps [] w w' := by
  by_cases h : n < 1 ∨ 60 < n ∨ a < 0 ∨ n ≤ a ∨ b < 0 ∨ n ≤ b
  · exact find_law_out n a b _ w h
  · obtain ⟨n', rfl⟩ := Int.eq_ofNat_of_zero_le (show 0 ≤ n by omega)
    obtain ⟨a', rfl⟩ := Int.eq_ofNat_of_zero_le (show 0 ≤ a by omega)
    obtain ⟨b', rfl⟩ := Int.eq_ofNat_of_zero_le (show 0 ≤ b by omega)
    exact find_law_in n' a' b' pa zs.length cap zs w hz rfl (by omega) (by omega) (by omega) (by omega) (by unfold maxLen at hl; omega)
end Go.Proofs.Ytokoebbghkbliaa
