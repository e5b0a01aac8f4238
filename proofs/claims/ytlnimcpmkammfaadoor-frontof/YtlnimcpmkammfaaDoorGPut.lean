/-
  Contracts: the documents' own In and Put.
-/
import Derived.Test.YtlnimcpmkammfaaDoorRef
import Derived.Test.YtlnimcpmkammfaaDoorGLst
import Derived.Deep.RegionLawGrows
namespace Go.Proofs.YtlnimcpmkammfaaDoor
open Go.RowKit

/-- Numbers as values. -/
def vals (l : List Int) : List Value := l.map fun z => Value.int .i64 z

theorem vals_one (l : List Int) : ∀ u ∈ vals l, u.oneCell' = true := by
  intro u hu
  unfold vals at hu
  rw [List.mem_map] at hu
  obtain ⟨z, _, rfl⟩ := hu
  rfl
theorem vals_len (l : List Int) : (vals l).length = l.length := by simp [vals]

theorem addr_add (b off j : Nat) : (⟨b, off, none⟩ : Addr).add j = ⟨b, off + j, none⟩ := by
  unfold Addr.add
  by_cases h : j = 0
  · subst h; simp
  · rw [if_neg h]

theorem vals_at {w : World} {b off : Nat} {l : List Int} (h : ∀ i, i < l.length → w.cell? ⟨b, off + i, none⟩ = some (.int .i64 (l.getD i 0))) : ∀ j u, (vals l)[j]? = some u → w.cell? ((⟨b, off, none⟩ : Addr).add j) = some u := by
  intro j u hu
  unfold vals at hu
  rw [List.getElem?_map] at hu
  by_cases hj : j < l.length
  · rw [addr_add, h j hj]
    simp [List.getElem?_eq_getElem hj] at hu
    simp [List.getD, List.getElem?_eq_getElem hj, hu]
  · rw [List.getElem?_eq_none (by omega)] at hu
    cases hu

theorem ownsRow_baseP {w : World} {base base' : Nat} {e : TypeId} {size : Nat} {v : Value} {n : Nat} {xs : List Value} (h : w.ownsRow base e size v n xs) (hb : base' ≤ base) : w.ownsRow base' e size v n xs := by
  obtain ⟨h1, h2⟩ := h
  refine ⟨h1, ?_⟩
  rcases h2 with h2 | ⟨g, cap, cur, hv, hg, r⟩
  · exact Or.inl h2
  · exact Or.inr ⟨g, cap, cur, hv, by omega, r⟩

/-- A row that the call has made, written out. -/
theorem ownsRow_open {w : World} {base : Nat} {v : Value} {n : Nat} {l : List Int} (h : w.ownsRow base 3 1 v n (vals l)) (hn : 0 < n) : ∃ g cap, v = .slice (some ⟨g, 0, none⟩) n cap ∧ base ≤ g ∧ n ≤ cap ∧ n = l.length ∧ ∀ i, i < l.length → w.cell? ⟨g, 0 + i, none⟩ = some (.int .i64 (l.getD i 0)) := by
  obtain ⟨h1, h2⟩ := h
  rcases h2 with ⟨_, h0⟩ | ⟨g, cap, cur, rfl, hg, hh, hle, _, hsz, ht⟩
  · omega
  · rw [vals_len] at h1
    refine ⟨g, cap, rfl, hg, hle, by omega, fun i hi => ?_⟩
    rw [Nat.zero_add, cell_of_row w g i cur _ _ hh]
    have e1 : cur[i]? = cur.toList[i]? := by simp
    have e2 : (cur.toList.take (n * 1))[i]? = cur.toList[i]? := by rw [List.getElem?_take, if_pos (by omega)]
    rw [e1, ← e2, ht]
    simp [vals, List.getD, List.getElem?_eq_getElem hi]

theorem drop_getDP (zs : List Int) (k i : Nat) : (zs.drop k).getD i 0 = zs.getD (k + i) 0 := by simp [List.getD]
theorem take_getD (zs : List Int) (k i : Nat) (h : i < k) : (zs.take k).getD i 0 = zs.getD i 0 := by
  simp only [List.getD, List.getElem?_take]
  rw [if_pos h]

set_option maxHeartbeats 400000 in
theorem rin_empty (a : Option Addr) (cap : Nat) (n : Int) (w : World) :
    Calls Tryd.prog 14 #[.slice a 0 cap, .int .i64 n] w fun e w' => e = .returned (.bool false) ∧ w' = w := by
  go_enter Tryd.func14, Tryd.ntmps14
  go_wp2
  go_loop [5] (fun i => i = .int .i64 0) (fun _ => 0)
  case atStart => rfl
  case round =>
    subst hrel
    go_wp2
    go_ret
    exact ⟨rfl, rfl⟩

theorem getD_mem' (zs : List Int) (j : Nat) (h : j < zs.length) : zs.getD j 0 ∈ zs := by
  simp [List.getD, List.getElem?_eq_getElem h]
theorem mem_getD {zs : List Int} {n : Int} (h : n ∈ zs) : ∃ j, j < zs.length ∧ zs.getD j 0 = n := by
  obtain ⟨i, hi, he⟩ := List.getElem_of_mem h
  exact ⟨i, hi, by simp [List.getD, List.getElem?_eq_getElem hi, he]⟩

set_option maxHeartbeats 1000000 in
theorem rin_raw (b off len cap : Nat) (zs : List Int) (n : Int) (w : World) (hl : zs.length = len) (hm : len ≤ 1000000) (hc : ∀ i, i < len → w.cell? ⟨b, off + i, none⟩ = some (.int .i64 (zs.getD i 0))) :
    Calls Tryd.prog 14 #[.slice (some ⟨b, off, none⟩) len cap, .int .i64 n] w fun e w' => e = .returned (.bool (decide (n ∈ zs))) ∧ w' = w := by
  have HL := hid hl
  have HC := hid hc
  clear hl hc
  go_enter Tryd.func14, Tryd.ntmps14
  go_wp2
  go_loop [5] (fun i => ∃ k : Nat, k ≤ len ∧ i = .int .i64 k ∧ Box (∀ j, j < k → zs.getD j 0 ≠ n)) (fun i => len - (intOf i).toNat)
  case atStart => exact ⟨0, by omega, rfl, hid fun j hj => by omega⟩
  case round =>
    obtain ⟨k, hk, rfl, hno⟩ := hrel
    by_cases hlt : k < len
    · have e1 := HC.out k hlt
      have hmem : Box (zs.getD k 0 = n → n ∈ zs) := hid fun h => by rw [← h]; exact getD_mem' zs k (by rw [HL.out]; exact hlt)
      have hnx : Box (zs.getD k 0 ≠ n → ∀ j, j < k + 1 → zs.getD j 0 ≠ n) := hid fun h j hj => by
        by_cases hjk : j < k
        · exact hno.out j hjk
        · have : j = k := by omega
          rw [this]; exact h
      generalize zs.getD k 0 = z at e1 hmem hnx
      by_cases hz : z = n
      · have hin := hid (hmem.out hz)
        have hb : (z == n) = true := by simpa using hz
        clear hz
        go_wp2
        go_ret
        exact ⟨by rw [decide_eq_true hin.out]; rfl, rfl⟩
      · have hs := hid (hnx.out hz)
        have hb : (z == n) = false := by simpa using hz
        clear hz
        go_wp2
        go_round
        case rel => exact ⟨k + 1, by omega, by go_num, hs⟩
        case measure => simp [intOf]; omega
    · obtain rfl : k = len := by omega
      have hout : Box (n ∉ zs) := hid fun hin => by
        obtain ⟨j, hj, he⟩ := mem_getD hin
        exact hno.out j (by rw [← HL.out]; exact hj) he
      go_wp2
      go_ret
      exact ⟨by rw [decide_eq_false hout.out]; rfl, rfl⟩

/-- In: is n among zs? -/
theorem rin_any (a : Option Addr) (cap : Nat) (zs : List Int) (n : Int) (w : World) (hz : IntsAt w a zs) (hm : zs.length ≤ 1000000) :
    Calls Tryd.prog 14 #[.slice a zs.length cap, .int .i64 n] w fun e w' => e = .returned (.bool (decide (n ∈ zs))) ∧ w' = w := by
  rcases hz with rfl | ⟨b, off, rfl, hc⟩
  · exact rin_empty a cap n w
  · exact rin_raw b off zs.length cap zs n w rfl hm hc

set_option maxHeartbeats 400000 in
theorem put_in (a : Option Addr) (len cap : Nat) (n : Int) (w : World) (h : Calls Tryd.prog 14 #[.slice a len cap, .int .i64 n] w fun e w' => e = .returned (.bool true) ∧ w' = w) :
    Calls Tryd.prog 15 #[.slice a len cap, .int .i64 n] w fun e w' => e = .returned (.slice a len cap) ∧ w' = w := by
  have H := hid h
  clear h
  go_enter Tryd.func15, Tryd.ntmps15
  go_wp2_with fail
  refine H.out.mono ?_
  rintro e w1 ⟨rfl, rfl⟩
  go_wp2
  go_ret
  exact ⟨rfl, rfl⟩

set_option maxHeartbeats 1000000 in
theorem put_raw (b off len cap : Nat) (zs : List Int) (n : Int) (w : World) (hl : zs.length = len) (hpos : 0 < len) (hcap : len ≤ cap) (hm : len ≤ 10000) (hc : ∀ i, i < len → w.cell? ⟨b, off + i, none⟩ = some (.int .i64 (zs.getD i 0)))
    (h : Calls Tryd.prog 14 #[.slice (some ⟨b, off, none⟩) len cap, .int .i64 n] w fun e w' => e = .returned (.bool false) ∧ w' = w) :
    Calls Tryd.prog 15 #[.slice (some ⟨b, off, none⟩) len cap, .int .i64 n] w fun e w' => ∃ (k : Nat) (v : Value), e = .returned v ∧ k ≤ len ∧ (∀ j, j < k → zs.getD j 0 < n) ∧ (k < len → n ≤ zs.getD k 0) ∧
      w'.ownsRow w.heap.size 3 1 v (len + 1) (vals (zs.take k ++ n :: zs.drop k)) ∧ Keeps [] w w' := by
  have HL := hid hl
  have HC := hid hc
  have H := hid h
  clear hl hc h
  go_enter Tryd.func15, Tryd.ntmps15
  go_wp2_with fail
  refine H.out.mono ?_
  rintro e w1 ⟨rfl, hw⟩
  obtain rfl := hw.symm
  clear hw H
  go_wp2_with fail
  go_loop [5] (fun i => ∃ k : Nat, k ≤ len ∧ i = .int .i64 k ∧ Box (∀ j, j < k → zs.getD j 0 < n)) (fun i => len - (intOf i).toNat)
  case atStart => exact ⟨0, by omega, rfl, hid fun j hj => by omega⟩
  case round =>
    obtain ⟨k, hk, rfl, hlow⟩ := hrel
    by_cases hgo : k < len ∧ zs.getD k 0 < n
    · obtain ⟨hlt, hz⟩ := hgo
      have e1 := HC.out k hlt
      have hs : Box (∀ j, j < k + 1 → zs.getD j 0 < n) := hid fun j hj => by
        by_cases hjk : j < k
        · exact hlow.out j hjk
        · have : j = k := by omega
          rw [this]; exact hz
      generalize zs.getD k 0 = z at e1 hz
      go_wp2
      go_round
      case rel => exact ⟨k + 1, by omega, by go_num, hs⟩
      case measure => simp [intOf]; omega
    · have hstop : Box (k < len → n ≤ zs.getD k 0) := hid fun hlt => by
        have : ¬ zs.getD k 0 < n := fun hz => hgo ⟨hlt, hz⟩
        omega
      by_cases hlt : k < len
      · have e1 := HC.out k hlt
        have hz : ¬ zs.getD k 0 < n := fun hz => hgo ⟨hlt, hz⟩
        clear hgo
        generalize hzz : zs.getD k 0 = z at e1 hz
        have hZ := hid hzz
        clear hzz
        go_wp2
        have hkc : k ≤ cap := by omega
        have hne : ¬ cap = k := by omega
        have hbw : b < w.heap.size := block_lt_of_cell e1
        have hkA : Keeps [] w (w.alloc (Obj.cells #[Value.int IntKind.i64 n] 3)).drew := (Keeps.alloc [] w _).quiet (Keeps.drew _ _)
        have hold : Box (∀ b', some (⟨w.heap.size, 0, none⟩ : Addr) = some b' → ∀ j u, (vals [n])[j]? = some u → (w.alloc (Obj.cells #[Value.int IntKind.i64 n] 3)).drew.cell? (b'.add j) = some u) := hid fun b' hb' => by
          cases hb'
          exact vals_at fun i hi => by
            have h0 : i = 0 := by simp at hi; omega
            subst h0
            exact (cell_of_row _ _ _ _ _ _ (heap_alloc_new w _)).trans rfl
        have hsrc : Box (∀ j u, (vals (zs.drop k))[j]? = some u → (w.alloc (Obj.cells #[Value.int IntKind.i64 n] 3)).drew.cell? ((⟨b, off + k, none⟩ : Addr).add j) = some u) := hid (vals_at fun i hi => by
          rw [List.length_drop, HL.out] at hi
          rw [hkA.cell (p := ⟨b, off + k + i, none⟩) hbw (by simp), drop_getDP, Nat.add_assoc]
          exact HC.out (k + i) (by omega))
        have hld : Box ((vals (zs.drop k)).length = (len - k) * 1) := hid (by rw [vals_len, List.length_drop, HL.out]; omega)
        have htk : Box (∀ w1 : World, Keeps [] w w1 → ∀ b', some (⟨b, off, none⟩ : Addr) = some b' → ∀ j u, (vals (zs.take k))[j]? = some u → w1.cell? (b'.add j) = some u) := hid fun w1 hk1 b' hb' => by
          cases hb'
          exact vals_at fun i hi => by
            rw [List.length_take, HL.out] at hi
            rw [hk1.cell (p := ⟨b, off + i, none⟩) hbw (by simp), take_getD zs k i (by omega)]
            exact HC.out i (by omega)
        have hlt' : Box ((vals (zs.take k)).length = k * 1) := hid (by rw [vals_len, List.length_take, HL.out]; omega)
        have hall : Box (vals (zs.take k) ++ (vals [n] ++ vals (zs.drop k)) = vals (zs.take k ++ n :: zs.drop k)) := hid (by simp [vals])
        go_region_law (first
          | (refine step_append_grows rfl (.tmp 29) (.tmp 32) 23 rfl 3 Tryd.t3 (.int .i64 0) 1 8 under_ints info_int zero_int size_int bytes_int rfl (by decide) (some ⟨w.heap.size, 0, none⟩) 1 1 (vals [n]) (by rfl) (by simp) rfl hold.out ⟨b, off + k, none⟩ (len - k) (cap - k) (vals (zs.drop k)) (by rfl) hld.out hsrc.out (vals_one _) (by omega) (by unfold maxLen; omega) (by omega) ?_
             intro v33 w33 hown33 hgrow33
             have hK33 : Keeps [] w w33 := hkA.quiet (Keeps.grown [] hgrow33 (by simp))
             have hown33' : w33.ownsRow ((w.alloc (Obj.cells #[Value.int IntKind.i64 n] 3)).drew.heap.size) 3 1 v33 (1 + (len - k)) (vals (n :: zs.drop k)) := hown33
             obtain ⟨g, c33, hv33, _, _, hl33, hcell33⟩ := ownsRow_open hown33' (by omega)
             rw [hv33]
             have hsrc34 := hid (vals_at hcell33)
             have hl34 : Box ((vals (n :: zs.drop k)).length = (1 + (len - k)) * 1) := hid (by rw [vals_len]; omega)
             clear hown33 hgrow33 hown33' hl33 hcell33 hv33)
          | (refine step_append_grows rfl (.tmp 27) (.tmp 33) 23 rfl 3 Tryd.t3 (.int .i64 0) 1 8 under_ints info_int zero_int size_int bytes_int rfl (by decide) (some ⟨b, off, none⟩) k k (vals (zs.take k)) (by rfl) (by simp) hlt'.out (htk.out w33 hK33) ⟨g, 0, none⟩ (1 + (len - k)) c33 (vals (n :: zs.drop k)) (by rfl) hl34.out hsrc34.out (vals_one _) (by omega) (by unfold maxLen; omega) (by omega) ?_
             intro v34 w34 hown34 hgrow34))
        have hK34 : Keeps [] w w34 := hK33.quiet (Keeps.grown [] hgrow34 (by simp))
        have hfin : Box (w34.ownsRow w.heap.size 3 1 v34 (len + 1) (vals (zs.take k ++ n :: zs.drop k))) := hid (by
          have h1 := ownsRow_baseP hown34 hK33.size
          have e2 : k + (1 + (len - k)) = len + 1 := by omega
          rw [e2] at h1
          rw [← hall.out]
          exact h1)
        clear hold hsrc hld htk hlt' hall hK33 hsrc34 hl34 hown34 hgrow34 hkA
        go_wp2
        go_ret
        exact ⟨k, v34, rfl, hk, hlow.out, hstop.out, hfin.out, hK34⟩
      · obtain rfl : k = len := by omega
        clear hgo hlt
        have hkc : k ≤ cap := hcap
        have hbw : b < w.heap.size := block_lt_of_cell (HC.out 0 hpos)
        have hkA : Keeps [] w (w.alloc (Obj.cells #[Value.int IntKind.i64 n] 3)).drew := (Keeps.alloc [] w _).quiet (Keeps.drew _ _)
        have hsrc34 : Box (∀ j u, (vals [n])[j]? = some u → (w.alloc (Obj.cells #[Value.int IntKind.i64 n] 3)).drew.cell? ((⟨w.heap.size, 0, none⟩ : Addr).add j) = some u) := hid (vals_at fun i hi => by
            have h0 : i = 0 := by simp at hi; omega
            subst h0
            exact (cell_of_row _ _ _ _ _ _ (heap_alloc_new w _)).trans rfl)
        have htk : Box (∀ w1 : World, Keeps [] w w1 → ∀ b', some (⟨b, off, none⟩ : Addr) = some b' → ∀ j u, (vals zs)[j]? = some u → w1.cell? (b'.add j) = some u) := hid fun w1 hk1 b' hb' => by
          cases hb'
          exact vals_at fun i hi => by
            rw [HL.out] at hi
            rw [hk1.cell (p := ⟨b, off + i, none⟩) hbw (by simp)]
            exact HC.out i hi
        have hlt' : Box ((vals zs).length = k * 1) := hid (by rw [vals_len, HL.out]; omega)
        have hall : Box (vals zs ++ vals [n] = vals (zs.take k ++ n :: zs.drop k)) := hid (by rw [List.take_of_length_le (by rw [HL.out]; omega), List.drop_eq_nil_of_le (by rw [HL.out]; omega)]; simp [vals])
        go_wp2
        by_cases hce : cap = k
        · subst hce
          go_region_law (first
            | (refine step_append_room rfl (.tmp 29) (.tmp 32) 23 rfl 3 Tryd.t3 1 under_ints info_int size_int w.heap.size 0 1 1 (by rfl) ⟨b, off, none⟩ 0 0 [] (by simp [Act.eval]) rfl (by simp) (by simp) (by omega) (by simp) ?_)
            | (refine step_append_grows rfl (.tmp 27) (.tmp 33) 23 rfl 3 Tryd.t3 (.int .i64 0) 1 8 under_ints info_int zero_int size_int bytes_int rfl (by decide) (some ⟨b, off, none⟩) cap cap (vals zs) (by rfl) (by simp) hlt'.out (htk.out _ hkA) ⟨w.heap.size, 0, none⟩ 1 1 (vals [n]) (by rfl) rfl hsrc34.out (vals_one _) (by omega) (by unfold maxLen; omega) (by omega) ?_
               intro v34 w34 hown34 hgrow34))
          have hK34 : Keeps [] w w34 := hkA.quiet (Keeps.grown [] hgrow34 (by simp))
          have hfin : Box (w34.ownsRow w.heap.size 3 1 v34 (cap + 1) (vals (zs.take cap ++ n :: zs.drop cap))) := hid (by
            rw [← hall.out]
            exact ownsRow_baseP hown34 hkA.size)
          clear htk hlt' hall hsrc34 hown34 hgrow34 hkA
          go_wp2
          go_ret
          exact ⟨cap, v34, rfl, hk, hlow.out, hstop.out, hfin.out, hK34⟩
        · go_region_law (first
            | (refine step_append_room rfl (.tmp 29) (.tmp 32) 23 rfl 3 Tryd.t3 1 under_ints info_int size_int w.heap.size 0 1 1 (by rfl) ⟨b, off + k, none⟩ 0 (cap - k) [] (by simp [Act.eval]) rfl (by simp) (by simp) (by omega) (by simp) ?_)
            | (refine step_append_grows rfl (.tmp 27) (.tmp 33) 23 rfl 3 Tryd.t3 (.int .i64 0) 1 8 under_ints info_int zero_int size_int bytes_int rfl (by decide) (some ⟨b, off, none⟩) k k (vals zs) (by rfl) (by simp) hlt'.out (htk.out _ hkA) ⟨w.heap.size, 0, none⟩ 1 1 (vals [n]) (by rfl) rfl hsrc34.out (vals_one _) (by omega) (by unfold maxLen; omega) (by omega) ?_
               intro v34 w34 hown34 hgrow34))
          have hK34 : Keeps [] w w34 := hkA.quiet (Keeps.grown [] hgrow34 (by simp))
          have hfin : Box (w34.ownsRow w.heap.size 3 1 v34 (k + 1) (vals (zs.take k ++ n :: zs.drop k))) := hid (by
            rw [← hall.out]
            exact ownsRow_baseP hown34 hkA.size)
          clear htk hlt' hall hsrc34 hown34 hgrow34 hkA
          go_wp2
          go_ret
          exact ⟨k, v34, rfl, hk, hlow.out, hstop.out, hfin.out, hK34⟩

set_option maxHeartbeats 1000000 in
theorem put_nil (n : Int) (w : World) :
    Calls Tryd.prog 15 #[.slice none 0 0, .int .i64 n] w fun e w' => ∃ v : Value, e = .returned v ∧ w'.ownsRow w.heap.size 3 1 v 1 (vals [n]) ∧ Keeps [] w w' := by
  have H := hid (rin_empty none 0 n w)
  go_enter Tryd.func15, Tryd.ntmps15
  go_wp2_with fail
  refine H.out.mono ?_
  rintro e w1 ⟨rfl, hw⟩
  obtain rfl := hw.symm
  clear hw H
  go_wp2_with fail
  go_loop [5] (fun i => i = .int .i64 0) (fun _ => 0)
  case atStart => rfl
  case round =>
    subst hrel
    go_wp2
    have hkA : Keeps [] w (w.alloc (Obj.cells #[Value.int IntKind.i64 n] 3)).drew := (Keeps.alloc [] w _).quiet (Keeps.drew _ _)
    have hsrc34 : Box (∀ j u, (vals [n])[j]? = some u → (w.alloc (Obj.cells #[Value.int IntKind.i64 n] 3)).drew.cell? ((⟨w.heap.size, 0, none⟩ : Addr).add j) = some u) := hid (vals_at fun i hi => by
        have h0 : i = 0 := by simp at hi; omega
        subst h0
        exact (cell_of_row _ _ _ _ _ _ (heap_alloc_new w _)).trans rfl)
    go_region_law (refine step_append_grows rfl (.tmp 27) (.tmp 33) 23 rfl 3 Tryd.t3 (.int .i64 0) 1 8 under_ints info_int zero_int size_int bytes_int rfl (by decide) none 0 0 [] (by rfl) (by simp) rfl (by simp) ⟨w.heap.size, 0, none⟩ 1 1 (vals [n]) (by rfl) rfl hsrc34.out (vals_one _) (by omega) (by unfold maxLen; omega) (by omega) ?_
                   intro v34 w34 hown34 hgrow34)
    have hK34 : Keeps [] w w34 := hkA.quiet (Keeps.grown [] hgrow34 (by simp))
    have hfin : Box (w34.ownsRow w.heap.size 3 1 v34 1 (vals [n])) := hid (ownsRow_baseP hown34 hkA.size)
    clear hsrc34 hown34 hgrow34 hkA
    go_wp2
    go_ret
    exact ⟨v34, rfl, hfin.out, hK34⟩

/-- A list of numbers that the call has made: nil, or a row of its own. -/
def Lst (w : World) (base : Nat) (v : Value) (l : List Int) : Prop :=
  (l = [] ∧ v = .slice none 0 0) ∨ (l ≠ [] ∧ w.ownsRow base 3 1 v l.length (vals l))

theorem Lst.open {w : World} {base : Nat} {v : Value} {l : List Int} (h : Lst w base v l) : ∃ a cap, v = .slice a l.length cap ∧ IntsAt w a l ∧ l.length ≤ cap ∧ (∀ b off, a = some ⟨b, off, none⟩ → base ≤ b) := by
  rcases h with ⟨rfl, rfl⟩ | ⟨hne, h⟩
  · exact ⟨none, 0, rfl, Or.inl rfl, by simp, fun b off h => by cases h⟩
  · obtain ⟨g, cap, rfl, hg, hle, _, hc⟩ := ownsRow_open h (List.length_pos_iff.2 hne)
    exact ⟨_, cap, rfl, Or.inr ⟨g, 0, rfl, hc⟩, hle, fun b off h => by cases h; exact hg⟩

theorem Lst.kept {w w' : World} {base : Nat} {v : Value} {l : List Int} {L : List Nat} (h : Lst w base v l) (k : Keeps L w w') (hL : ∀ x, x ∈ L → x < base) : Lst w' base v l := by
  rcases h with h | ⟨hne, h1, h2⟩
  · exact Or.inl h
  · refine Or.inr ⟨hne, h1, ?_⟩
    rcases h2 with h2 | ⟨g, cap, cur, hv, hg, hh, r⟩
    · exact Or.inl h2
    · have hlt : g < w.heap.size := (Array.getElem?_eq_some_iff.1 hh).1
      exact Or.inr ⟨g, cap, cur, hv, hg, by rw [k.block g hlt (fun hx => by have := hL g hx; omega)]; exact hh, r⟩

/-- What Put gives. -/
def PutIs (l : List Int) (n : Int) (l' : List Int) : Prop :=
  (n ∈ l ∧ l' = l) ∨ (n ∉ l ∧ ∃ k : Nat, k ≤ l.length ∧ (∀ j, j < k → l.getD j 0 < n) ∧ (k < l.length → n ≤ l.getD k 0) ∧ l' = l.take k ++ n :: l.drop k)

/-- Put: a number among rising ones. -/
theorem put_any (base : Nat) (v : Value) (l : List Int) (n : Int) (w : World) (hv : Lst w base v l) (hb : base ≤ w.heap.size) (hm : l.length ≤ 10000) :
    Calls Tryd.prog 15 #[v, .int .i64 n] w fun e w' => ∃ v' l', e = .returned v' ∧ PutIs l n l' ∧ Lst w' base v' l' ∧ Keeps [] w w' := by
  rcases hv with ⟨rfl, rfl⟩ | ⟨hne, hown⟩
  · refine (put_nil n w).mono ?_
    rintro e w' ⟨v', he, ho, hk⟩
    refine ⟨v', [n], he, Or.inr ⟨by simp, 0, by simp, fun j hj => by omega, fun h => by simp at h, rfl⟩, Or.inr ⟨by simp, ownsRow_baseP ho hb⟩, hk⟩
  · obtain ⟨g, cap, rfl, hg, hle, _, hc⟩ := ownsRow_open hown (List.length_pos_iff.2 hne)
    have hin := rin_any (some ⟨g, 0, none⟩) cap l n w (Or.inr ⟨g, 0, rfl, hc⟩) (by omega)
    by_cases hmem : n ∈ l
    · rw [decide_eq_true hmem] at hin
      refine (put_in _ _ cap n w hin).mono ?_
      rintro e w' ⟨he, hw⟩
      subst hw
      exact ⟨_, l, he, Or.inl ⟨hmem, rfl⟩, Or.inr ⟨hne, hown⟩, Keeps.refl _ _⟩
    · rw [decide_eq_false hmem] at hin
      refine (put_raw g 0 l.length cap l n w rfl (List.length_pos_iff.2 hne) hle hm hc hin).mono ?_
      rintro e w' ⟨k, v', he, hk, h1, h2, ho, hK⟩
      have hlen : (l.take k ++ n :: l.drop k).length = l.length + 1 := by
        rw [List.length_append, List.length_cons, List.length_take, List.length_drop]; omega
      refine ⟨v', _, he, Or.inr ⟨hmem, k, hk, h1, h2, rfl⟩, Or.inr ⟨?_, ?_⟩, hK⟩
      · intro hnil
        have := congrArg List.length hnil
        rw [hlen] at this
        simp at this
      · rw [hlen]
        exact ownsRow_baseP ho hb
end Go.Proofs.YtlnimcpmkammfaaDoor
