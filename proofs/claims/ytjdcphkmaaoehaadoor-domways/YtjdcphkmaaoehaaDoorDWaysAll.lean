/-
  Contract: the document's own In.
  Contract: graph's Path, where an end is no node.
  Plain: the way that the walk by breadth finds is a way of edges, a shortest one, and of these the least.
  The statement DomWays.
-/
import Derived.Test.YtjdcphkmaaoehaaDoorRef
import Derived.Test.YtjdcphkmaaoehaaDoorGLst
import Derived.Test.YtjdcphkmaaoehaaDoorGPath
import Derived.Test.YtjdcphkmaaoehaaDoorDBegun
import Derived.Test.YtjdcphkmaaoehaaDoorGLaw

namespace Go.Proofs.YtjdcphkmaaoehaaDoor
open Go.RowKit

set_option maxHeartbeats 400000 in
theorem rin_empty (a : Option Addr) (cap : Nat) (n : Int) (w : World) :
    Calls Tryd.prog 9 #[.slice a 0 cap, .int .i64 n] w fun e w' => e = .returned (.bool false) ∧ w' = w := by
  go_enter Tryd.func9, Tryd.ntmps9
  go_wp2
  go_loop [5] (fun i => i = .int .i64 0) (fun _ => 0)
  case atStart => rfl
  case round =>
    subst hrel
    go_wp2
    go_ret
    exact ⟨rfl, rfl⟩

theorem getD_mem' (zs : List Int) (j : Nat) (h : j < zs.length) : zs.getD j 0 ∈ zs := by
  simp [List.getD, List.getElem?_eq_getElem h]
theorem mem_getD {zs : List Int} {n : Int} (h : n ∈ zs) : ∃ j, j < zs.length ∧ zs.getD j 0 = n := by
  obtain ⟨i, hi, he⟩ := List.getElem_of_mem h
  exact ⟨i, hi, by simp [List.getD, List.getElem?_eq_getElem hi, he]⟩

set_option maxHeartbeats 1000000 in
theorem rin_raw (b off len cap : Nat) (zs : List Int) (n : Int) (w : World) (hl : zs.length = len) (hm : len ≤ 1000000) (hc : ∀ i, i < len → w.cell? ⟨b, off + i, none⟩ = some (.int .i64 (zs.getD i 0))) :
    Calls Tryd.prog 9 #[.slice (some ⟨b, off, none⟩) len cap, .int .i64 n] w fun e w' => e = .returned (.bool (decide (n ∈ zs))) ∧ w' = w := by
  have HL := hid hl
  have HC := hid hc
  clear hl hc
  go_enter Tryd.func9, Tryd.ntmps9
  go_wp2
  go_loop [5] (fun i => ∃ k : Nat, k ≤ len ∧ i = .int .i64 k ∧ Box (∀ j, j < k → zs.getD j 0 ≠ n)) (fun i => len - (intOf i).toNat)
  case atStart => exact ⟨0, by omega, rfl, hid fun j hj => by omega⟩
  case round =>
    obtain ⟨k, hk, rfl, hno⟩ := hrel
    by_cases hlt : k < len
    · have e1 := HC.out k hlt
      have hmem : Box (zs.getD k 0 = n → n ∈ zs) := hid fun h => by rw [← h]; exact getD_mem' zs k (by rw [HL.out]; exact hlt)
      have hnx : Box (zs.getD k 0 ≠ n → ∀ j, j < k + 1 → zs.getD j 0 ≠ n) := hid fun h j hj => by
        by_cases hjk : j < k
        · exact hno.out j hjk
        · have : j = k := by omega
          rw [this]; exact h
      generalize zs.getD k 0 = z at e1 hmem hnx
      by_cases hz : z = n
      · have hin := hid (hmem.out hz)
        have hb : (z == n) = true := by simpa using hz
        clear hz
        go_wp2
        go_ret
        exact ⟨by rw [decide_eq_true hin.out]; rfl, rfl⟩
      · have hs := hid (hnx.out hz)
        have hb : (z == n) = false := by simpa using hz
        clear hz
        go_wp2
        go_round
        case rel => exact ⟨k + 1, by omega, by go_num, hs⟩
        case measure => simp [intOf]; omega
    · obtain rfl : k = len := by omega
      have hout : Box (n ∉ zs) := hid fun hin => by
        obtain ⟨j, hj, he⟩ := mem_getD hin
        exact hno.out j (by rw [← HL.out]; exact hj) he
      go_wp2
      go_ret
      exact ⟨by rw [decide_eq_false hout.out]; rfl, rfl⟩

/-- In: is n among zs? -/
theorem rin_any (a : Option Addr) (cap : Nat) (zs : List Int) (n : Int) (w : World) (hz : IntsAt w a zs) (hm : zs.length ≤ 1000000) :
    Calls Tryd.prog 9 #[.slice a zs.length cap, .int .i64 n] w fun e w' => e = .returned (.bool (decide (n ∈ zs))) ∧ w' = w := by
  rcases hz with rfl | ⟨b, off, rfl, hc⟩
  · exact rin_empty a cap n w
  · exact rin_raw b off zs.length cap zs n w rfl hm hc

end Go.Proofs.YtjdcphkmaaoehaaDoor

namespace Go.Proofs.YtjdcphkmaaoehaaDoor
open Go.RowKit

set_option maxHeartbeats 2000000 in
theorem path_out1 (g : List (List Nat)) (hs : Sm g) (a : Option Addr) (cap B : Nat) (fr t : Int) (w : World) (hG : GAt w B a g) (hn : ¬ (0 ≤ fr ∧ fr < (g.length : Int))) :
    Calls Tryd.prog 7 #[.agg #[.int .i64 (g.length : Int), .slice a g.length cap], .int .i64 fr, .int .i64 t] w fun e w' => e = .returned (.slice none 0 0) ∧ Keeps [] w w' := by
  have hk1 : Keeps [] w (w.alloc (Obj.cells #[.int .i64 (g.length : Int), .slice a g.length cap] 26)) := Keeps.alloc _ _ _
  have HB1 := hid (BoxAt.new w (g.length : Int) a g.length cap)
  have HG1 := hid (hG.quiet hk1)
  have HC : Box (∀ w, GAt w B a g → Calls Tryd.prog 12 #[.agg #[.int .i64 (g.length : Int), .slice a g.length cap]] w fun e w' => e = .returned (.bool true) ∧ Keeps [] w w') := hid (fun w => gmay_yes g hs a cap B w)
  have H1 := hid (fun w1 => ghas_no (g.length : Int) fr a g.length cap w1 hn)
  clear hG hs hn
  go_enter Tryd.func7, Tryd.ntmps7
  go_wp2_with fail
  generalize w.alloc (Obj.cells #[.int .i64 (g.length : Int), .slice a g.length cap] 26) = w1 at hk1 HB1 HG1 ⊢
  refine (HC.out w1 HG1.out).mono ?_
  rintro e w2 ⟨rfl, hk2⟩
  have HB2 := HB1.out.kept hk2 (by simp)
  have hc0 := HB2.c0
  have hc1 := HB2.c1
  clear HB2 HB1 HG1 HC
  go_wp2_with fail
  refine (H1.out w2).mono ?_
  rintro e w3 ⟨rfl, hk3⟩
  go_wp2
  go_ret
  exact ⟨rfl, (hk1.quiet hk2).quiet hk3⟩

set_option maxHeartbeats 2000000 in
theorem path_out2 (g : List (List Nat)) (hs : Sm g) (a : Option Addr) (cap B : Nat) (fr t : Int) (w : World) (hG : GAt w B a g) (hf : 0 ≤ fr ∧ fr < (g.length : Int)) (hn : ¬ (0 ≤ t ∧ t < (g.length : Int))) :
    Calls Tryd.prog 7 #[.agg #[.int .i64 (g.length : Int), .slice a g.length cap], .int .i64 fr, .int .i64 t] w fun e w' => e = .returned (.slice none 0 0) ∧ Keeps [] w w' := by
  have hk1 : Keeps [] w (w.alloc (Obj.cells #[.int .i64 (g.length : Int), .slice a g.length cap] 26)) := Keeps.alloc _ _ _
  have HB1 := hid (BoxAt.new w (g.length : Int) a g.length cap)
  have HG1 := hid (hG.quiet hk1)
  have HC : Box (∀ w, GAt w B a g → Calls Tryd.prog 12 #[.agg #[.int .i64 (g.length : Int), .slice a g.length cap]] w fun e w' => e = .returned (.bool true) ∧ Keeps [] w w') := hid (fun w => gmay_yes g hs a cap B w)
  have H1 := hid (fun w1 => ghas_yes (g.length : Int) fr a g.length cap w1 hf.1 hf.2)
  have H2 := hid (fun w1 => ghas_no (g.length : Int) t a g.length cap w1 hn)
  clear hG hs hn hf
  go_enter Tryd.func7, Tryd.ntmps7
  go_wp2_with fail
  generalize w.alloc (Obj.cells #[.int .i64 (g.length : Int), .slice a g.length cap] 26) = w1 at hk1 HB1 HG1 ⊢
  refine (HC.out w1 HG1.out).mono ?_
  rintro e w2 ⟨rfl, hk2⟩
  have HB2 := hid (HB1.out.kept hk2 (by simp))
  have hc0 := HB2.out.c0
  have hc1 := HB2.out.c1
  clear HB1 HG1 HC
  go_wp2_with fail
  refine (H1.out w2).mono ?_
  rintro e w3 ⟨rfl, hk3⟩
  have HB3 := HB2.out.kept hk3 (by simp)
  clear hc0 hc1 HB2
  have hc0 := HB3.c0
  have hc1 := HB3.c1
  clear HB3
  go_wp2_with fail
  refine (H2.out w3).mono ?_
  rintro e w4 ⟨rfl, hk4⟩
  go_wp2
  go_ret
  exact ⟨rfl, ((hk1.quiet hk2).quiet hk3).quiet hk4⟩

/-- Path from a node to any number: what it leaves. -/
theorem path_quiet (g : List (List Nat)) (hs : Sm g) (a : Option Addr) (cap B fr : Nat) (t : Int) (w : World) (hG : GAt w B a g) (hT : TabAt w) (hf : fr < g.length) :
    Calls Tryd.prog 7 #[.agg #[.int .i64 (g.length : Int), .slice a g.length cap], .int .i64 (fr : Int), .int .i64 t] w fun e w' => (∃ v, e = .returned v) ∧ Keeps [] w w' := by
  by_cases h : 0 ≤ t ∧ t < (g.length : Int)
  · obtain ⟨m, rfl⟩ := Int.eq_ofNat_of_zero_le h.1
    refine (path_in g hs a cap B fr m w hG hT hf (by omega)).mono ?_
    rintro e w' ⟨v, rfl, _, k⟩
    exact ⟨⟨v, rfl⟩, k⟩
  · refine (path_out2 g hs a cap B fr t w hG (by omega) h).mono ?_
    rintro e w' ⟨rfl, k⟩
    exact ⟨⟨_, rfl⟩, k⟩
end Go.Proofs.YtjdcphkmaaoehaaDoor

namespace Go.Proofs.YtjdcphkmaaoehaaDoor
open Go.RowKit

theorem idx_app {l r : List Nat} {y : Nat} (h : y ∈ l) : (l ++ r).idxOf y = l.idxOf y := by rw [List.idxOf_append, if_pos h]
theorem idx_app_new {l r : List Nat} {y : Nat} (h : y ∉ l) : (l ++ r).idxOf y = r.idxOf y + l.length := by rw [List.idxOf_append, if_neg h]
theorem idx_lt {l : List Nat} {y : Nat} (h : y ∈ l) : l.idxOf y < l.length := List.idxOf_lt_length_of_mem h
theorem idx_getD {l : List Nat} {y : Nat} (h : y ∈ l) : l.getD (l.idxOf y) 0 = y := by
  rw [List.getD_eq_getElem?_getD, List.getElem?_eq_getElem (idx_lt h), Option.getD_some]
  exact List.getElem_idxOf (idx_lt h)
theorem idx_inj {l : List Nat} {x y : Nat} (hx : x ∈ l) (hy : y ∈ l) (e : l.idxOf x = l.idxOf y) : x = y := by
  rw [← idx_getD hx, ← idx_getD hy, e]
theorem getD_idx {l : List Nat} (hn : l.Nodup) {k : Nat} (hk : k < l.length) : l.idxOf (l.getD k 0) = k := by
  rw [List.getD_eq_getElem?_getD, List.getElem?_eq_getElem hk, Option.getD_some]
  exact List.Nodup.idxOf_getElem hn k hk
theorem idx_sorted {l : List Nat} (hs : l.Pairwise (· < ·)) {x y : Nat} (hx : x ∈ l) (hy : y ∈ l) (h : l.idxOf x ≤ l.idxOf y) : x ≤ y := by
  by_cases e : l.idxOf x = l.idxOf y
  · rw [idx_inj hx hy e]; exact Nat.le_refl _
  · have h1 := List.pairwise_iff_getElem.1 hs (l.idxOf x) (l.idxOf y) (idx_lt hx) (idx_lt hy) (by omega)
    rw [List.getElem_idxOf, List.getElem_idxOf] at h1
    omega

structure Bq (g : List (List Nat)) (fr : Nat) (line : List Nat) (bf : Nat → Nat) (k : Nat) : Prop where
  bs : Bf g fr line bf
  le : k ≤ line.length
  edge : ∀ y, y ∈ line → y ≠ fr → y ∈ nb g (bf y) ∧ bf y ∈ line ∧ line.idxOf (bf y) < k
  first : ∀ y, y ∈ line → y ≠ fr → ∀ x, y ∈ nb g x → line.idxOf (bf y) ≤ line.idxOf x
  mono : ∀ y z, y ∈ line → z ∈ line → y ≠ fr → z ≠ fr → line.idxOf y ≤ line.idxOf z → line.idxOf (bf y) ≤ line.idxOf (bf z) ∧ (bf y = bf z → y ≤ z)
  seen : ∀ x, x ∈ line → line.idxOf x < k → ∀ y, y ∈ nb g x → y ∈ line
theorem Bf.fr_mem {g : List (List Nat)} {fr : Nat} {line : List Nat} {bf : Nat → Nat} (h : Bf g fr line bf) : fr ∈ line := h.head.2 ▸ getD_mem line 0 0 h.head.1
theorem Bf.fr_idx {g : List (List Nat)} {fr : Nat} {line : List Nat} {bf : Nat → Nat} (h : Bf g fr line bf) : line.idxOf fr = 0 := by
  have := getD_idx h.nodup h.head.1
  rw [h.head.2] at this
  exact this
theorem Bq.start {g : List (List Nat)} {fr : Nat} (h : fr < g.length) (bf : Nat → Nat) : Bq g fr [fr] bf 0 := by
  have key : ∀ y, y ∈ [fr] → y ≠ fr → False := fun y hy hne => hne (List.mem_singleton.1 hy)
  exact ⟨Bf.start h bf, Nat.zero_le _, fun y hy hn => (key y hy hn).elim, fun y hy hn => (key y hy hn).elim, fun y z hy _ hn => (key y hy hn).elim, fun _ _ h => absurd h (Nat.not_lt_zero _)⟩
theorem Bq.step {g : List (List Nat)} {fr : Nat} {line : List Nat} {bf : Nat → Nat} {k : Nat} (h : Bq g fr line bf k) (hg : Ok g) (hk : k < line.length) : Bq g fr (line ++ nxs g line (line.getD k 0) g.length) (bfJ g line (line.getD k 0) bf g.length) (k + 1) := by
  have hB := h.bs.step hg hk
  have hxi := getD_idx h.bs.nodup hk
  have hxl : line.getD k 0 ∈ line := getD_mem line k 0 hk
  generalize line.getD k 0 = x at hB hxi hxl ⊢
  have hnew : ∀ y, y ∈ line ++ nxs g line x g.length → y ∉ line → y ∈ nb g x ∧ bfJ g line x bf g.length y = x ∧ y ∈ nxs g line x g.length := by
    intro y hy hn
    have hm := (List.mem_append.1 hy).resolve_left hn
    obtain ⟨h1, h2, h3⟩ := nxs_mem.1 hm
    refine ⟨h2, ?_, hm⟩
    unfold bfJ
    rw [if_pos (by rw [nxt_iff.2 ⟨h2, h3⟩]; simp [h1])]
  have hold : ∀ y, y ∈ line → bfJ g line x bf g.length y = bf y := fun y hy => bfJ_old y hy
  have hfr := h.bs.fr_mem
  have hge : ∀ y, y ∉ line → line.length ≤ (line ++ nxs g line x g.length).idxOf y := fun y hy => by rw [idx_app_new hy]; omega
  refine ⟨hB, by rw [List.length_append]; omega, fun y hy hne => ?_, fun y hy hne x0 hx0 => ?_, fun y z hy hz hny hnz hle => ?_, fun x0 hx0 hi y hy => ?_⟩
  · by_cases ho : y ∈ line
    · obtain ⟨h1, h2, h3⟩ := h.edge y ho hne
      rw [hold y ho, idx_app h2]
      exact ⟨h1, List.mem_append_left _ h2, by omega⟩
    · obtain ⟨h1, h2, _⟩ := hnew y hy ho
      rw [h2, idx_app hxl, hxi]
      exact ⟨h1, List.mem_append_left _ hxl, by omega⟩
  · by_cases ho : y ∈ line
    · obtain ⟨_, h2, h3⟩ := h.edge y ho hne
      have h4 := h.first y ho hne x0 hx0
      rw [hold y ho, idx_app h2]
      by_cases hx : x0 ∈ line
      · rw [idx_app hx]; exact h4
      · have := hge x0 hx; omega
    · obtain ⟨_, h2, _⟩ := hnew y hy ho
      rw [h2, idx_app hxl, hxi]
      by_cases hx : x0 ∈ line
      · rw [idx_app hx]
        apply Classical.byContradiction
        intro hlt
        exact ho (h.seen x0 hx (by omega) y hx0)
      · have := hge x0 hx; omega
  · by_cases ho : y ∈ line
    · by_cases ho2 : z ∈ line
      · rw [hold y ho, hold z ho2, idx_app (h.edge y ho hny).2.1, idx_app (h.edge z ho2 hnz).2.1]
        rw [idx_app ho, idx_app ho2] at hle
        exact h.mono y z ho ho2 hny hnz hle
      · obtain ⟨_, h2, _⟩ := hnew z hz ho2
        obtain ⟨_, h3, h4⟩ := h.edge y ho hny
        rw [hold y ho, h2, idx_app h3, idx_app hxl, hxi]
        exact ⟨by omega, fun e => by rw [e, hxi] at h4; omega⟩
    · have h1 := hge y ho
      by_cases ho2 : z ∈ line
      · rw [idx_app ho2] at hle
        have := idx_lt ho2
        omega
      · obtain ⟨_, h2, h3⟩ := hnew y hy ho
        obtain ⟨_, h4, h5⟩ := hnew z hz ho2
        rw [h2, h4]
        refine ⟨Nat.le_refl _, fun _ => ?_⟩
        rw [idx_app_new ho, idx_app_new ho2] at hle
        have hso : (nxs g line x g.length).Pairwise (· < ·) := List.Pairwise.sublist List.filter_sublist List.pairwise_lt_range
        exact idx_sorted hso h3 h5 (by omega)
  · by_cases ho : x0 ∈ line
    · rw [idx_app ho] at hi
      by_cases e : line.idxOf x0 < k
      · exact List.mem_append_left _ (h.seen x0 ho e y hy)
      · have : x0 = x := idx_inj ho hxl (by omega)
        subst this
        by_cases hyl : y ∈ line
        · exact List.mem_append_left _ hyl
        · exact List.mem_append_right _ (nxs_mem.2 ⟨hg x0 y hy, hy, hyl⟩)
    · have := hge x0 ho; omega
theorem Bf.short {g : List (List Nat)} {fr : Nat} {line : List Nat} {bf : Nat → Nat} (h : Bf g fr line bf) : line.length ≤ g.length := by
  have := List.Nodup.length_le_of_subset h.nodup (l₂ := List.range g.length) (fun m hm => List.mem_range.2 (h.lt m hm))
  rw [List.length_range] at this
  exact this
theorem pthS_spec {g : List (List Nat)} (hg : Ok g) {fr t : Nat} : ∀ (f k : Nat) (line : List Nat) (bf : Nat → Nat), Bq g fr line bf k → g.length + 1 ≤ f + k → ∃ k', Bq g fr (pthS g t f k line bf).1 (pthS g t f k line bf).2 k' ∧ (t ∈ (pthS g t f k line bf).1 ∨ k' = (pthS g t f k line bf).1.length)
  | 0, k, line, bf, h, hf => by have := h.le; have := h.bs.short; omega
  | f + 1, k, line, bf, h, hf => by
    by_cases hc : k < line.length ∧ t ∉ line
    · rw [pthS_step hc]
      exact pthS_spec hg f (k + 1) _ _ (h.step hg hc.1) (by omega)
    · rw [pthS_end hc]
      refine ⟨k, h, ?_⟩
      by_cases ht : t ∈ line
      · exact .inl ht
      · exact .inr (by have := h.le; have : ¬ k < line.length := fun q => hc ⟨q, ht⟩; show k = line.length; omega)

/-- Ways, the last edge last. -/
def Wz (g : List (List Nat)) : Nat → Nat → Nat → Prop
  | 0, a, z => z = a
  | m + 1, a, z => ∃ y, Wz g m a y ∧ z ∈ nb g y
theorem Bq.back {g : List (List Nat)} {fr : Nat} {line : List Nat} {bf : Nat → Nat} {k : Nat} (h : Bq g fr line bf k) {y z u : Nat} (hy : y ∈ line) (hn : y ≠ fr) (hz : z ∈ nb g u) (hle : line.idxOf y ≤ line.idxOf z) : line.idxOf (bf y) ≤ line.idxOf u := by
  have hy0 : line.idxOf y ≠ 0 := fun e => hn (idx_inj hy h.bs.fr_mem (by rw [e, h.bs.fr_idx]))
  have hzf : z ≠ fr := fun e => by rw [e, h.bs.fr_idx] at hle; omega
  by_cases hzl : z ∈ line
  · exact Nat.le_trans (h.mono y z hy hzl hn hzf hle).1 (h.first z hzl hzf u hz)
  · have h1 := (h.edge y hy hn).2.2
    by_cases hu : u ∈ line
    · apply Classical.byContradiction
      intro hlt
      exact hzl (h.seen u hu (by omega) z hz)
    · have := List.idxOf_eq_length hu
      have := h.le
      omega
theorem Bq.short {g : List (List Nat)} {fr : Nat} {line : List Nat} {bf : Nat → Nat} {k : Nat} (h : Bq g fr line bf k) : ∀ (m z : Nat), Wz g m fr z → ∀ d y, Back line bf fr d y → line.idxOf y ≤ line.idxOf z → d ≤ m
  | 0, z, hw, d, y, hb, hle => by
    have hw' : z = fr := hw
    rw [hw', h.bs.fr_idx] at hle
    have : y = fr := idx_inj hb.mem h.bs.fr_mem (by rw [h.bs.fr_idx]; omega)
    cases d with
    | zero => exact Nat.le_refl _
    | succ d => exact absurd this hb.1
  | m + 1, z, hw, d, y, hb, hle => by
    cases d with
    | zero => omega
    | succ d =>
      obtain ⟨u, hu, hz⟩ := hw
      have := h.short m u hu d (bf y) hb.2.2 (h.back hb.2.1 hb.1 hz hle)
      omega
/-- What pathM is. -/
theorem path_spec {g : List (List Nat)} (hg : Ok g) {a b : Nat} (ha : a < g.length) :
    (pathM g a b = [] ∧ ∀ m, ¬ Wz g m a b) ∨ ∃ line bf k d, Bq g a line bf k ∧ Back line bf a d b ∧ d ≤ g.length ∧ pathM g a b = (wb bf d b).reverse := by
  obtain ⟨k, hq, hend⟩ := pthS_spec hg (t := b) (g.length + 1) 0 [a] (fun _ => 0) (Bq.start ha _) (by omega)
  unfold pathM
  generalize pthS g b (g.length + 1) 0 [a] (fun _ => 0) = s at hq hend
  by_cases hb : b ∈ s.1
  · right
    have hi := idx_lt hb
    obtain ⟨d, hd, hbk⟩ := hq.bs.back _ hi
    rw [idx_getD hb] at hbk
    have := hq.bs.short
    refine ⟨s.1, s.2, k, d, hq, hbk, by omega, ?_⟩
    show (if b ∈ s.1 then (wbk s.2 a g.length b).reverse else []) = _
    rw [if_pos hb, wbk_wb d g.length b (by omega) hbk]
  · left
    refine ⟨by show (if b ∈ s.1 then (wbk s.2 a g.length b).reverse else []) = _; rw [if_neg hb], ?_⟩
    have hk := hend.resolve_left hb
    have key : ∀ m z, Wz g m a z → z ∈ s.1 := by
      intro m
      induction m with
      | zero => intro z hz; have : z = a := hz; rw [this]; exact hq.bs.fr_mem
      | succ m ih =>
        rintro z ⟨u, hu, hz⟩
        exact hq.seen u (ih u hu) (by rw [hk]; exact idx_lt (ih u hu)) z hz
    exact fun m hm => hb (key m b hm)
/-- A way, written out. -/
structure Way (g : List (List Nat)) (a b d : Nat) (P : List Nat) : Prop where
  len : P.length = d + 1
  head : P.getD 0 0 = a
  last : P.getD d 0 = b
  edge : ∀ i, i < d → P.getD (i + 1) 0 ∈ nb g (P.getD i 0)
theorem snoc_old {P : List Nat} {y i : Nat} (h : i < P.length) : (P ++ [y]).getD i 0 = P.getD i 0 := by
  rw [List.getD_eq_getElem?_getD, List.getElem?_append_left h, List.getD_eq_getElem?_getD]
theorem snoc_new (P : List Nat) (y : Nat) : (P ++ [y]).getD P.length 0 = y := by
  rw [List.getD_eq_getElem?_getD, List.getElem?_append_right (Nat.le_refl _)]
  simp
theorem Bq.way {g : List (List Nat)} {fr : Nat} {line : List Nat} {bf : Nat → Nat} {k : Nat} (h : Bq g fr line bf k) : ∀ (d y : Nat), Back line bf fr d y → Way g fr y d (wb bf d y).reverse
  | 0, y, hb => by
    refine ⟨rfl, ?_, rfl, fun i hi => by omega⟩
    exact hb.1
  | d + 1, y, hb => by
    have ih := h.way d (bf y) hb.2.2
    have e : (wb bf (d + 1) y).reverse = (wb bf d (bf y)).reverse ++ [y] := by
      show (y :: wb bf d (bf y)).reverse = _
      rw [List.reverse_cons]
    rw [e]
    generalize (wb bf d (bf y)).reverse = P at ih
    have hl := ih.len
    refine ⟨by rw [List.length_append, hl]; rfl, ?_, ?_, fun i hi => ?_⟩
    · rw [snoc_old (by omega)]; exact ih.head
    · rw [← hl]; exact snoc_new P y
    · by_cases h1 : i < d
      · rw [snoc_old (by omega), snoc_old (by omega)]
        exact ih.edge i h1
      · obtain rfl : i = d := by omega
        rw [snoc_old (by omega), ih.last, ← hl, snoc_new]
        exact (h.edge y hb.2.1 hb.1).1
theorem Way.to {g : List (List Nat)} {a b d : Nat} {P : List Nat} (h : Way g a b d P) : ∀ i, i ≤ d → Wz g i a (P.getD i 0)
  | 0, _ => h.head
  | i + 1, hi => ⟨P.getD i 0, h.to i (by omega), h.edge i (by omega)⟩
theorem Wz.lt {g : List (List Nat)} (hg : Ok g) {a : Nat} (ha : a < g.length) : ∀ {m z : Nat}, Wz g m a z → z < g.length
  | 0, z, h => by have : z = a := h; omega
  | m + 1, z, ⟨y, _, hz⟩ => hg y z hz
/-- Path's answer between nodes. -/
theorem path_way {g : List (List Nat)} (hg : Ok g) {a b : Nat} (ha : a < g.length) :
    (pathM g a b = [] ∧ ∀ m, ¬ Wz g m a b) ∨ ∃ d, d ≤ g.length ∧ Way g a b d (pathM g a b) ∧ ∀ m, Wz g m a b → d ≤ m := by
  rcases path_spec hg (b := b) ha with h | ⟨line, bf, k, d, hq, hb, hd, e⟩
  · exact .inl h
  · refine .inr ⟨d, hd, by rw [e]; exact hq.way d b hb, fun m hm => hq.short m b hm d b hb (Nat.le_refl _)⟩
theorem Wk.snoc {g : List (List Nat)} {s : Nat → Bool} : ∀ {k a b c : Nat}, Wk g s k a b → c ∈ nb g b → s c = false → Wk g s (k + 1) a c
  | 0, a, b, c, h, hc, hs => by
    obtain ⟨h1, rfl⟩ := h
    exact ⟨h1, c, hc, hs, rfl⟩
  | k + 1, a, b, c, h, hc, hs => by
    obtain ⟨h1, x, hx, hw⟩ := h
    exact ⟨h1, x, hx, hw.snoc hc hs⟩
theorem wz_pth {g : List (List Nat)} {a : Nat} : ∀ {m z : Nat}, Wz g m a z → Pth g noS a z
  | 0, z, h => by have : z = a := h; rw [this]; exact Pth.refl rfl
  | m + 1, z, ⟨y, hy, hz⟩ => by
    obtain ⟨k, hk⟩ := wz_pth hy
    exact ⟨k + 1, hk.snoc hz rfl⟩
theorem wk_wz {g : List (List Nat)} {s : Nat → Bool} {a : Nat} : ∀ {k m x z : Nat}, Wz g m a x → Wk g s k x z → Wz g (m + k) a z
  | 0, m, x, z, h, hw => by obtain ⟨_, rfl⟩ := hw; exact h
  | k + 1, m, x, z, h, hw => by
    obtain ⟨_, y, hy, hw⟩ := hw
    have := wk_wz (m := m + 1) ⟨x, h, hy⟩ hw
    rw [show m + 1 + k = m + (k + 1) by omega] at this
    exact this
theorem pth_wz {g : List (List Nat)} {s : Nat → Bool} {a z : Nat} (h : Pth g s a z) : ∃ m, Wz g m a z := by
  obtain ⟨k, hk⟩ := h
  exact ⟨0 + k, wk_wz (m := 0) rfl hk⟩
end Go.Proofs.YtjdcphkmaaoehaaDoor

namespace Go.Proofs.YtjdcphkmaaoehaaDoor
open Go.RowKit

theorem tab_of {w wz : World} (hT : TabAt w) (k : Keeps [] w wz) : TabAt wz := hT.kept k (by simp)
/-- Who stands on each way stands on this one. -/
theorem dom_way {g : List (List Nat)} {r b d : Nat} {P : List Nat} (hw : Way g r b d P) {a : Nat} (h : Dom g r a b) : a ∈ P := by
  apply Classical.byContradiction
  intro hn
  have key : ∀ i, i ≤ d → Pth g (eqB a) r (P.getD i 0) := by
    have hne : ∀ i, i ≤ d → eqB a (P.getD i 0) = false := fun i hi => eqB_false.2 (fun e => hn (e ▸ getD_mem P i 0 (by rw [hw.len]; omega)))
    intro i
    induction i with
    | zero => intro _; have := hne 0 (by omega); rw [hw.head] at this ⊢; exact Pth.refl this
    | succ i ih => intro hi; exact (ih (by omega)).snoc (hw.edge i (by omega)) (hne (i + 1) hi)
  have := key d (Nat.le_refl _)
  rw [hw.last] at this
  exact h.2 this

set_option maxRecDepth 20000 in
set_option maxHeartbeats 8000000 in
theorem ways_law (n : Int) (pa : Option Addr) (cap : Nat) (zs : List (Int × Int)) (fr tt : Int) (w : World) (hT : TabAt w) (hz : PairsAt w pa zs) (hl : zs.length ≤ maxLen) :
    Calls Tryd.prog 3 #[.int .i64 n, .slice pa zs.length cap, .int .i64 fr, .int .i64 tt] w fun e w' => e = .returned (.bool true) ∧ Keeps [] w w' := by
  have HBG := hid (begun6_any w)
  obtain ⟨N, g, L, hN2, hN1, hgl, hsm, hgd, hnn, hmd⟩ := made_pack n zs hl
  have HMD := hid (fun wz (k : Keeps [] w wz) => hmd pa cap wz (hz.kept k (fun _ _ _ => by simp)))
  have HS := hid hsm
  have HGD := hid hgd
  have HN := hid hgl
  have HT := hid (fun wz (k : Keeps [] w wz) => tab_of hT k)
  clear hT hz hl hmd hsm hgd hgl hnn
  generalize zs.length = zl at HMD
  go_enter Tryd.func3, Tryd.ntmps3
  go_wp2_with fail
  refine HBG.out.mono ?_
  rintro e w1 ⟨rfl, k1⟩
  clear HBG
  go_wp2_with fail
  refine (HMD.out w1 k1).mono ?_
  rintro e w2 ⟨p, vs, rfl, ho2, k2⟩
  have L3 := hid (LG.make ho2 (k1.quiet k2))
  rw [← HGD.out] at L3
  clear ho2 k2 k1 HMD HGD
  go_upto_region 5 with fail
  generalize w2.alloc (Obj.cells #[.int .i64 (N : Int), .slice (some ⟨p, 0, none⟩) N N] 26) = w3 at L3 ⊢
  obtain ⟨B, hB⟩ : ∃ B, w2.heap.size + 1 = B := ⟨_, rfl⟩
  rw [hB] at L3
  generalize w2.heap.size = bx at L3 ⊢
  clear hB
  have t3 := L3.out.two
  rw [HN.out] at t3
  have c0 := t3.c0
  have c1 := t3.c1
  have T3 := hid t3
  clear t3
  have h00 : ((0 : Int) == 0) = true := rfl
  by_cases hin : 0 ≤ fr ∧ fr < (N : Int)
  · obtain ⟨r, rfl⟩ := Int.eq_ofNat_of_zero_le hin.1
    have hrN : r < N := by omega
    have q1 : ¬ (r : Int) < 0 := by omega
    have q2 : ¬ (N : Int) ≤ (r : Int) := by omega
    clear hin
    have HUP := hid (up_in g HS.out (some ⟨p, 0, none⟩) g.length B r w3 L3.out.gr L3.out.le (by rw [HN.out]; exact hrN))
    rw [HN.out] at HUP
    go_wp2_with fail
    refine HUP.out.mono ?_
    rintro e w4 ⟨pu, U, rfl, r4, u4, k4⟩
    have L4 := hid (L3.out.quiet k4)
    have T4 := hid (T3.out.kept k4 (by simp))
    have U4 := hid u4
    have R4 := hid r4
    clear c0 c1 r4 u4 k4 HUP L3 T3
    have c0 := T4.out.c0
    have c1 := T4.out.c1
    by_cases hin2 : 0 ≤ tt ∧ tt < (N : Int)
    · obtain ⟨t, rfl⟩ := Int.eq_ofNat_of_zero_le hin2.1
      have htN : t < N := by omega
      have htN' : (t : Int) < (N : Int) := by omega
      have q3 : ¬ (t : Int) < 0 := by omega
      have q4 : ¬ (N : Int) ≤ (t : Int) := by omega
      clear hin2
      have HPA := hid (path_in g HS.out (some ⟨p, 0, none⟩) g.length B r t w4 L4.out.gr (HT.out w4 L4.out.keep) (by rw [HN.out]; exact hrN) (by rw [HN.out]; exact htN))
      have HPW := hid (path_way HS.out.ok (a := r) (b := t) (by rw [HN.out]; exact hrN))
      rw [HN.out] at HPA
      generalize pathM g r t = P at HPA HPW
      go_wp2_with fail
      refine HPA.out.mono ?_
      rintro e w5 ⟨v5, rfl, h5, k5⟩
      have L5 := hid (L4.out.quiet k5)
      have T5 := hid (T4.out.kept k5 (by simp))
      have R5 := hid (R4.out.kept k5 (by simp))
      obtain ⟨a5, c5, hv5, n5, _, _⟩ := ownsRow_nat h5
      subst hv5
      have N5 := hid n5
      clear c0 c1 h5 n5 k5 HPA L4 T4 R4
      have c0 := T5.out.c0
      have c1 := T5.out.c1
      have hpw := HPW.out
      clear HPW
      rcases hpw with ⟨rfl, hno⟩ | ⟨d, hd, hway, hmin⟩
      · have hU : U t = -1 := U4.out.out t (by rw [HN.out]; exact htN) (fun q => by
          obtain ⟨m, hm⟩ := pth_wz q
          exact hno m hm)
        have cu := R5.out.cell htN
        unfold numI at cu
        rw [hU] at cu
        clear hno hU
        go_wp2
        go_ret
        exact ⟨rfl, L5.out.keep⟩
      · have HWY := hid hway
        have hlen := hway.len
        have hPl : ((P.length : Int) == 0) = false := by rw [hlen, beq_eq_false_iff_ne]; omega
        have hP6 : P.length ≤ 1000000 := by have := HS.out.len; omega
        have hNN : ((N : Int) != (N : Int)) = false := by simp
        have HAB := hid (fun wz (hc : ∀ i, i < N → wz.cell? ⟨pu, i, none⟩ = some (.int .i64 (U i))) (a b : Int) dd (hd : dd = true ↔ DomI g r a b) => above_any g HS.out r (by rw [HN.out]; exact hrN) U U4.out pu wz (by rw [HN.out]; exact hc) a b dd hd)
        rw [HN.out] at HAB
        have HIN := hid (fun wz (k : Keeps [] w5 wz) (z : Int) => rin_any a5 c5 (intsI P) z wz (InAt.ints (InAt.kept N5.out k (by simp))) (by rw [intsI_len]; exact hP6))
        have HMEM : Box (∀ z : Nat, Dom g r z t → ((z : Int) ∈ intsI P)) := hid (fun z hz => List.mem_map.2 ⟨z, dom_way HWY.out hz, rfl⟩)
        have HRO : Box (Dom g r r t) := hid (Dom.root (by
          have := HWY.out.to d (Nat.le_refl _)
          rw [HWY.out.last] at this
          exact wz_pth this))
        rw [intsI_len] at HIN
        clear hway hmin hlen HWY
        generalize P.length = pl at hPl hP6 HIN ⊢
        have HC : Box (∀ i, i < N → w5.cell? ⟨pu, i, none⟩ = some (.int .i64 (U i))) := hid (fun i hi => R5.out.cell hi)
        have K5 := hid L5.out.keep
        clear N5 R5 L5 HT
        go_wp2_with fail
        clear c0 c1
        go_loopw [13] (fun zv wr => ∃ z : Nat, zv = .int .i64 (z : Int) ∧ z ≤ N ∧ wr = w5) (fun zv _ => N - (intOf zv).toNat)
        case atStart => exact ⟨0, rfl, by omega, rfl⟩
        case round =>
          obtain ⟨z, rfl, hz, hw5⟩ := hrel
          subst wr
          have c0 := T5.out.c0
          have c1 := T5.out.c1
          by_cases hlz : z < N
          · have hlz' : (z : Int) < (N : Int) := by omega
            by_cases hdm : Dom g r z t
            · have HA := hid (HAB.out w5 HC.out (z : Int) (t : Int) true ⟨fun _ => ⟨z, t, rfl, rfl, hdm⟩, fun _ => rfl⟩)
              have HI := hid (HIN.out w5 (Keeps.refl _ _) (z : Int))
              rw [decide_eq_true (HMEM.out z hdm)] at HI
              clear hdm
              go_wp2_with fail
              refine HA.out.mono ?_
              rintro e w6 ⟨rfl, hw6⟩
              subst w6
              clear HA
              go_wp2_with fail
              refine HI.out.mono ?_
              rintro e w6 ⟨rfl, hw6⟩
              subst w6
              clear HI
              go_wp2
              go_roundw
              case rel => exact ⟨z + 1, by go_num, by omega, (by first | trivial | rfl)⟩
              case measure => simp [intOf]; omega
            · have HA := hid (HAB.out w5 HC.out (z : Int) (t : Int) false ⟨fun h => (by cases h), fun ⟨i, j, e1, e2, h⟩ => by
                obtain rfl : z = i := by omega
                obtain rfl : t = j := by omega
                exact absurd h hdm⟩)
              clear hdm
              go_wp2_with fail
              refine HA.out.mono ?_
              rintro e w6 ⟨rfl, hw6⟩
              subst w6
              clear HA
              go_wp2
              go_roundw
              case rel => exact ⟨z + 1, by go_num, by omega, (by first | trivial | rfl)⟩
              case measure => simp [intOf]; omega
          · obtain rfl : z = N := by omega
            have HA := hid (HAB.out w5 HC.out (r : Int) (t : Int) true ⟨fun _ => ⟨r, t, rfl, rfl, HRO.out⟩, fun _ => rfl⟩)
            go_wp2_with fail
            refine HA.out.mono ?_
            rintro e w6 ⟨rfl, hw6⟩
            subst w6
            go_wp2
            go_ret
            exact ⟨rfl, K5.out⟩
    · have HPA := hid (path_out2 g HS.out (some ⟨p, 0, none⟩) g.length B (r : Int) tt w4 L4.out.gr (by rw [HN.out]; omega) (by rw [HN.out]; exact hin2))
      rw [HN.out] at HPA
      go_wp2_with fail
      refine HPA.out.mono ?_
      rintro e w5 ⟨rfl, k5⟩
      have K5 := hid (L4.out.quiet k5).keep
      have T5 := hid (T4.out.kept k5 (by simp))
      clear c0 c1 HPA k5 L4 T4
      have c0 := T5.out.c0
      have c1 := T5.out.c1
      by_cases h3 : tt < 0
      · clear hin2
        go_wp2
        go_ret
        exact ⟨rfl, K5.out⟩
      · have h4 : (N : Int) ≤ tt := by omega
        clear hin2
        go_wp2
        go_ret
        exact ⟨rfl, K5.out⟩
  · have HUP := hid (up_out g HS.out (some ⟨p, 0, none⟩) g.length B fr w3 L3.out.gr (by rw [HN.out]; exact hin))
    have HPA := hid (fun wz (k : Keeps [] w3 wz) => path_out1 g HS.out (some ⟨p, 0, none⟩) g.length B fr tt wz (L3.out.quiet k).gr (by rw [HN.out]; exact hin))
    rw [HN.out] at HUP HPA
    go_wp2_with fail
    refine HUP.out.mono ?_
    rintro e w4 ⟨rfl, k4⟩
    have T4 := hid (T3.out.kept k4 (by simp))
    have HP4 := hid (HPA.out w4 k4)
    clear c0 c1
    have c0 := T4.out.c0
    have c1 := T4.out.c1
    go_wp2_with fail
    refine HP4.out.mono ?_
    rintro e w5 ⟨rfl, k5⟩
    have K5 := hid (L3.out.quiet (k4.quiet k5)).keep
    have T5 := hid (T4.out.kept k5 (by simp))
    clear c0 c1 HPA HP4 HUP k5 k4 L3 T3 T4
    have c0 := T5.out.c0
    have c1 := T5.out.c1
    by_cases h3 : fr < 0
    · clear hin
      go_wp2
      go_ret
      exact ⟨rfl, K5.out⟩
    · have h4 : (N : Int) ≤ fr := by omega
      clear hin
      go_wp2
      go_ret
      exact ⟨rfl, K5.out⟩
end Go.Proofs.YtjdcphkmaaoehaaDoor
