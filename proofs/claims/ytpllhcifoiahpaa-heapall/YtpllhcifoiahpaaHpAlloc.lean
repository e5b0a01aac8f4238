/-
  value's Alloc.
-/
import Derived.Test.YtpllhcifoiahpaaHpOps2
import Derived.Deep.OwnRows
import Derived.Deep.DeepCutAuto
namespace Go.Proofs.Ytpllhcifoiahpaa
open Go.RowKit

theorem info_obj : Try.prog.info? 58 = some Try.t58 := by kernel_rfl
theorem under_objs : Try.prog.underlying 54 = some (.slice 58) := by kernel_rfl
theorem zero_obj : Try.t58.zero = some (.agg #[.int .i64 0, .bool false, .slice none 0 0]) := by kernel_rfl
theorem size_obj : Try.t58.size = 3 := by kernel_rfl
theorem bytes_obj : Try.t58.bytes = 40 := by kernel_rfl
theorem info_vl : Try.prog.info? 29 = some Try.t29 := by kernel_rfl
theorem under_vls : Try.prog.underlying 32 = some (.slice 29) := by kernel_rfl
theorem zero_vl : Try.t29.zero = some (.agg #[.int .i64 0, .int .i64 0, .bool false]) := by kernel_rfl
theorem size_vl : Try.t29.size = 3 := by kernel_rfl
theorem bytes_vl : Try.t29.bytes = 24 := by kernel_rfl
/-- The fields while they are laid. -/
def fill (l : List (Int × Int)) (k : Nat) : List V3 := (l.take k).map zeroV ++ List.replicate (l.length - k) (0, 0, false)
theorem fill_len (l : List (Int × Int)) (k : Nat) : (fill l k).length = l.length := by
  unfold fill
  rw [List.length_append, List.length_map, List.length_take, List.length_replicate]
  omega
theorem fill_all (l : List (Int × Int)) : fill l l.length = l.map zeroV := by
  unfold fill
  rw [List.take_length, Nat.sub_self]
  simp
theorem fill_at {l : List (Int × Int)} {k : Nat} (h : k < l.length) : ∃ v, (fill l k)[k]? = some v := ⟨_, List.getElem?_eq_getElem (by rw [fill_len]; exact h)⟩
theorem fill_step {l : List (Int × Int)} {k : Nat} {t : Int × Int} (h : l[k]? = some t) : (fill l k).set k (zeroV t) = fill l (k + 1) := by
  have hk := (List.getElem?_eq_some_iff.1 h).1
  unfold fill
  have hl : ((l.take k).map zeroV).length = k := by rw [List.length_map, List.length_take]; omega
  rw [List.set_append_right _ _ (by omega), hl, Nat.sub_self, List.take_add_one, h, show l.length - k = (l.length - (k + 1)) + 1 by omega, List.replicate_succ]
  simp
theorem made_get (Z : Array Value) (n j i : Nat) (hj : j < n) (hi : i < Z.size) : (madeCells Z (n * Z.size))[j * Z.size + i]? = Z[i]? := by
  have hlt : j * Z.size + i < n * Z.size := by
    have h1 : (j + 1) * Z.size ≤ n * Z.size := Nat.mul_le_mul_right _ hj
    rw [Nat.add_mul] at h1
    omega
  unfold madeCells
  rw [Array.getElem?_map, Array.getElem?_eq_getElem (by simpa using hlt)]
  simp only [Array.getElem_range, Option.map_some]
  rw [Nat.add_comm, Nat.add_mul_mod_self_right, Nat.mod_eq_of_lt hi, Array.getElem?_eq_getElem hi, getElem!_pos Z i hi]
theorem made_row (n : Nat) : (madeCells #[.int .i64 0, .int .i64 0, .bool false] (n * 3)).toList = row3 v3 (List.replicate n (0, 0, false)) := by
  apply List.ext_getElem?
  intro j
  by_cases hj : j < n * 3
  · have hr : (List.replicate n ((0, 0, false) : V3))[j / 3]? = some (0, 0, false) := by rw [List.getElem?_replicate, if_pos (by omega)]
    obtain ⟨g0, g1, g2⟩ := row3_get v3 _ _ _ hr
    have hm : j % 3 = 0 ∨ j % 3 = 1 ∨ j % 3 = 2 := by omega
    have hc : ∀ i, i < 3 → j % 3 = i → (madeCells #[.int .i64 0, .int .i64 0, .bool false] (n * 3)).toList[j]? = (#[.int .i64 0, .int .i64 0, .bool false] : Array Value)[i]? := fun i hi e => by
      have := made_get (#[.int .i64 0, .int .i64 0, .bool false] : Array Value) n (j / 3) i (by omega) (by show i < 3; omega)
      rw [show j / 3 * (#[.int .i64 0, .int .i64 0, .bool false] : Array Value).size + i = j by show j / 3 * 3 + i = j; omega] at this
      rw [Array.getElem?_toList]
      exact this
    rcases hm with e | e | e
    · rw [hc 0 (by omega) e, show j = j / 3 * 3 by omega, g0]; rfl
    · rw [hc 1 (by omega) e, show j = j / 3 * 3 + 1 by omega, g1]; rfl
    · rw [hc 2 (by omega) e, show j = j / 3 * 3 + 2 by omega, g2]; rfl
  · rw [List.getElem?_eq_none (by simp [madeCells]; omega), List.getElem?_eq_none (by rw [row3_len, List.length_replicate]; omega)]
theorem run_vals (n : Nat) (hn : n ≤ 1000000) (w : World) : (Instr.makeSlice 32 (.int .i64 (n : Int)) (.int .i64 (n : Int))).run Try.prog w = .ok (.slice (some ⟨w.heap.size, 0, none⟩) n n) (w.alloc (.cells (madeCells #[.int .i64 0, .int .i64 0, .bool false] (n * 3)) 29)) := by
  have := run_make (P := Try.prog) w 32 29 Try.t29 (.agg #[.int .i64 0, .int .i64 0, .bool false]) under_vls info_vl zero_vl .i64 .i64 n n (by omega) (by omega) (by rw [bytes_vl]; omega) (by omega)
  rw [size_vl, Int.toNat_natCast] at this
  exact this
/-- The fields' row at round k. -/
structure Fil (w0 wr : World) (q : Nat) (l : List (Int × Int)) (k : Nat) : Prop where
  own : wr.ownsRow 0 29 3 (.slice (some ⟨q, 0, none⟩) l.length l.length) l.length (row3 v3 (fill l k))
  keeps : Keeps [] w0 wr
  new : w0.heap.size ≤ q
theorem Fil.still {w0 wr w1 : World} {q : Nat} {l : List (Int × Int)} {k : Nat} (h : Fil w0 wr q l k) (k1 : Keeps [] wr w1) : Fil w0 w1 q l k := ⟨ownsRow_keeps h.own k1 (fun _ _ => by simp), h.keeps.quiet k1, h.new⟩
theorem Fil.step {w0 wr : World} {q : Nat} {l : List (Int × Int)} {k : Nat} (h : Fil w0 wr q l k) {t : Int × Int} (ht : l[k]? = some t) :
    Fil w0 (((wr.setCell ⟨q, k * 3, none⟩ (v3 (zeroV t)).1).setCell ⟨q, k * 3 + 1, none⟩ (v3 (zeroV t)).2.1).setCell ⟨q, k * 3 + 2, none⟩ (v3 (zeroV t)).2.2) q l (k + 1) := by
  obtain ⟨v, hv⟩ := fill_at (List.getElem?_eq_some_iff.1 ht).1
  have o3 := (((h.own.stored (k * 3) (v3 (zeroV t)).1).1.stored (k * 3 + 1) (v3 (zeroV t)).2.1).1.stored (k * 3 + 2) (v3 (zeroV t)).2.2).1
  rw [← row3_set v3 _ k v _ hv, fill_step ht] at o3
  refine ⟨o3, h.keeps.trans (L' := [q]) (((Keeps.setCell [q] _ _ _ (List.mem_singleton.2 rfl)).step (Keeps.setCell [q] _ _ _ (List.mem_singleton.2 rfl))).step (Keeps.setCell [q] _ _ _ (List.mem_singleton.2 rfl))) (fun x hx hl => ?_), h.new⟩
  rw [List.mem_singleton.1 hx] at hl
  have := h.new
  omega
/-- What Alloc makes. -/
def AlP (w : World) (hp : Nat) (os : List Ob) (F : List Nat) (site : Int) (l : List (Int × Int)) (e : Ending) (w' : World) : Prop :=
  e = .returned (.int .i64 ((os.length : Int) + 1)) ∧ ∃ fs F', Hp w' hp (os ++ [⟨site, false, fs, l.map zeroV⟩]) F' ∧ Keeps F w w' ∧ Near w F F' ∧ ∀ x, x ∈ F → x ∈ F'
theorem alloc_full {w : World} {hp : Nat} {os : List Ob} {F : List Nat} (h : Hp w hp os F) (hn : 400 ≤ os.length) (site : Int) (rv : Value) :
    Calls Try.prog 11 #[.pointer (some ⟨hp, 0, none⟩), .int .i64 site, rv] w fun e w' => e = .returned (.int .i64 0) ∧ Keeps [] w w' := by
  obtain ⟨sv, h⟩ := h
  obtain ⟨a, cap, hs, _⟩ := h.obs.len
  have p0 := hcell h.box 0
  rw [hs] at p0
  generalize os.length = n at *
  have hn' : (400 : Int) ≤ (n : Int) := by omega
  clear h hs hn
  go_enter Try.func11, Try.ntmps11
  go_wp2
  go_ret
  exact ⟨rfl, Keeps.refl _ _⟩
theorem alloc_nil (w : World) (site : Int) (rv : Value) : Calls Try.prog 11 #[.pointer none, .int .i64 site, rv] w fun e w' => e = .returned (.int .i64 0) ∧ Keeps [] w w' := by
  go_enter Try.func11, Try.ntmps11
  go_wp2
  go_ret
  exact ⟨rfl, Keeps.refl _ _⟩
/-- A block of another type is written. -/
theorem Obs.far {w w' : World} {T U : TypeId} {f : Ob → Value × Value × Value} {sv : Value} {os : List Ob} {F : List Nat} (h : Obs w T f sv os F) {b : Nat} {cs : Array Value} (hb : w.heap[b]? = some (.cells cs U (0, 0))) (h1 : T ≠ U) (h2 : 29 ≠ U) (k : Keeps [b] w w') : Obs w' T f sv os F := by
  have ne : ∀ {V : TypeId} {v : Value} {n : Nat} {xs : List Value}, w.ownsRow 0 V 3 v n xs → V ≠ U → ∀ c, v.ownBlock = some c → c ∉ [b] := fun ho hne c hc hx => by
    rw [List.mem_singleton] at hx
    subst hx
    rcases ho.2 with ⟨rfl, _⟩ | ⟨g, cap, cur, rfl, _, hg, _⟩
    · simp [Value.ownBlock] at hc
    · simp [Value.ownBlock] at hc
      subst hc
      rw [hg] at hb
      simp at hb
      exact hne hb.2
  exact ⟨ownsRow_keeps h.own k (ne h.own h1), fun j o hj => ownsRow_keeps (h.fld j o hj) k (ne (h.fld j o hj) h2), h.apart, h.row, h.fin, fun x hx => Nat.lt_of_lt_of_le (h.lt x hx) k.size⟩
theorem HpV.still {w wa w5 : World} {hp : Nat} {sv : Value} {os : List Ob} {F : List Nat} (h : HpV w hp sv os F) (ka : Keeps [] w wa) (hg : wa.grownBy w5 sv.ownBlock) : w5.heap[hp]? = some (.cells #[sv] 56 (0, 0)) := by
  have hj := keep_heap h.box ka
  rw [hg.block hp (heap_lt hj) (fun e => ?_)]
  · exact hj
  · rcases (h.obs.quiet ka).own.2 with ⟨hv, _⟩ | ⟨g, cap, cur, hv, _, hh, _⟩
    · rw [hv] at e
      simp [Value.ownBlock] at e
    · rw [hv] at e
      simp [Value.ownBlock] at e
      subst e
      rw [hh] at hj
      simp at hj
theorem HpV.push {w wa w5 : World} {hp : Nat} {sv sv' : Value} {os : List Ob} {F : List Nat} {o : Ob} (h : HpV w hp sv os F) (ka : Keeps [] w wa) (ho : wa.ownsRow 0 29 3 o.fs o.vs.length (row3 v3 o.vs)) (hnew : ∀ k, o.fs.ownBlock = some k → k ∉ F) (own : w5.ownsRow 0 58 3 sv' (os.length + 1) (row3 ob3 (os ++ [o]))) (hg : wa.grownBy w5 sv.ownBlock) :
    HpV (w5.setCell ⟨hp, 0, none⟩ sv') hp sv' (os ++ [o]) (F ++ (sv'.ownBlock.toList ++ o.fs.ownBlock.toList)) ∧ Keeps F wa (w5.setCell ⟨hp, 0, none⟩ sv') := by
  have box := h.still ka hg
  have k5 : Keeps [hp] w5 (w5.setCell ⟨hp, 0, none⟩ sv') := Keeps.setCell _ _ _ _ (List.mem_singleton.2 rfl)
  refine ⟨⟨heap_setCell_same _ _ 0 _ _ _ box, List.mem_append_left _ h.hin, (h.obs.push (by decide) ka ho hnew own hg).far box (by decide) (by decide) k5⟩, ?_⟩
  exact (Keeps.grown F hg (fun k hk => h.obs.row k hk)).step (k5.mono (fun x hx => by rw [List.mem_singleton.1 hx]; exact h.hin))
theorem three_obj (site : Int) (fs : Value) (h : fs.oneCell' = true) : ∀ u ∈ [Value.int .i64 site, .bool false, fs], u.oneCell' = true := by
  intro u hu
  simp at hu
  rcases hu with rfl | rfl | rfl
  · rfl
  · rfl
  · exact h
set_option maxRecDepth 20000 in
set_option maxHeartbeats 4000000 in
theorem alloc_room {w : World} {hp : Nat} {os : List Ob} {F : List Nat} (h : Hp w hp os F) (hn : os.length < 400) (site : Int) {a : Option Addr} {cp : Nat} {l : List (Int × Int)} (hr : RowsAt w 2 TyC a l) (hl : l.length ≤ 1000) :
    Calls Try.prog 11 #[.pointer (some ⟨hp, 0, none⟩), .int .i64 site, .slice a l.length cp] w (AlP w hp os F site l) := by
  obtain ⟨sv, h⟩ := h
  obtain ⟨sa, sc, hs, _⟩ := h.obs.len
  have HH := hid h
  have HS := hid hs
  have HR := hid hr
  have p0 := hcell h.box 0
  rw [hs] at p0
  have hn' : ¬ (400 : Int) ≤ (os.length : Int) := by omega
  obtain ⟨n, hN⟩ : ∃ n, n = os.length := ⟨_, rfl⟩
  rw [← hN] at p0 hn' hn
  have HN := hid hN
  obtain ⟨m, hM⟩ : ∃ m, m = l.length := ⟨_, rfl⟩
  rw [← hM]
  rw [← hM] at hl
  have HM := hid hM
  have mk := run_vals m (by omega)
  clear h hs hr hN hM
  go_enter Try.func11, Try.ntmps11
  go_upto_region 4 with fail
  have G0 : Box (Fil w (w.alloc (.cells (madeCells #[.int .i64 0, .int .i64 0, .bool false] (m * 3)) 29)) w.heap.size l 0) := hid (by
    refine ⟨?_, Keeps.alloc [] _ _, Nat.le_refl _⟩
    have := World.ownsRow_lit (base := 0) (e := 29) (size := 3) w (madeCells #[.int .i64 0, .int .i64 0, .bool false] (m * 3)) m (Nat.zero_le _) (by unfold maxLen; omega) (by simp [madeCells])
    rw [made_row] at this
    rw [← HM.out]
    unfold fill
    rw [← HM.out]
    exact this)
  generalize w.alloc (.cells (madeCells #[.int .i64 0, .int .i64 0, .bool false] (m * 3)) 29) = w1 at *
  obtain ⟨q, hq⟩ : ∃ q, q = w.heap.size := ⟨_, rfl⟩
  rw [← hq] at G0 ⊢
  clear hq mk p0
  go_wp2_with fail
  go_loopw [25] (fun iv wr => ∃ (k : Nat), k ≤ m ∧ iv = .int .i64 (k : Int) ∧ Box (Fil w wr q l k)) (fun iv _ => m - (intOf iv).toNat)
  case atStart => exact ⟨0, by omega, rfl, G0⟩
  case round =>
    obtain ⟨k, hk, rfl, HF⟩ := hrel
    clear G0
    by_cases hlt9 : k < m
    · have hlt' : (k : Int) < (m : Int) := by omega
      obtain ⟨t, ht⟩ : ∃ t, l[k]? = some t := ⟨_, List.getElem?_eq_getElem (by rw [← HM.out]; exact hlt9)⟩
      have HT := hid ht
      obtain ⟨rb, ro, rfl, hc⟩ := (HR.out.quiet TyC.stays HF.out.keeps).at ht
      have c0 := hc.c0.1
      have c1 := hc.c1.1
      have hrb := block_lt_of_cell c0
      clear hc ht
      go_upto_region 7 with fail
      have F1 := hid (HF.out.still (Keeps.alloc [] wr (.cells #[.int .i64 t.1, .int .i64 t.2] 37)))
      have n0 := hcell (heap_new wr (.cells #[.int .i64 t.1, .int .i64 t.2] 37)) 0
      have n1 := hcell (heap_new wr (.cells #[.int .i64 t.1, .int .i64 t.2] 37)) 1
      generalize wr.alloc (.cells #[.int .i64 t.1, .int .i64 t.2] 37) = w2 at *
      generalize wr.heap.size = tb at *
      go_wp2_with fail
      refine (zero_any t _).mono ?_
      rintro e w3 ⟨rfl, k3⟩
      have F2 := hid (F1.out.still k3)
      clear k3 F1 HF n0 n1 c0 c1 hrb
      obtain ⟨v, hv⟩ := fill_at (l := l) (k := k) (by rw [← HM.out]; exact hlt9)
      obtain ⟨g0, g1, g2⟩ := row3_get v3 _ _ _ hv
      have p0 := (F2.out.own.cellAt (k * 3) (by rw [← HM.out]; omega)).trans g0
      have p1 := (F2.out.own.cellAt (k * 3 + 1) (by rw [← HM.out]; omega)).trans g1
      have p2 := (F2.out.own.cellAt (k * 3 + 2) (by rw [← HM.out]; omega)).trans g2
      have z0 := F2.out.own.frozenAt (k * 3)
      have z1 := F2.out.own.frozenAt (k * 3 + 1)
      have z2 := F2.out.own.frozenAt (k * 3 + 2)
      have F3 := hid (F2.out.step HT.out)
      clear F2 hv g0 g1 g2
      go_wp2_with fail
      go_roundw
      case rel => exact ⟨k + 1, by omega, by go_num, F3⟩
      case measure => simp [intOf]; omega
    · obtain rfl : m = k := by omega
      have HK := hid HF.out.keeps
      have HV := hid (HH.out.kept HK.out (fun _ _ => by simp))
      have p0 := hcell HV.out.box 0
      rw [HS.out, ← HN.out] at p0
      have z0 := hfrozen HV.out.box 0
      have hbl := heap_lt HV.out.box
      have own := HV.out.obs.own
      rw [HS.out, ← HN.out] at own
      have HOW := hid own
      have hfo : Box (wr.ownsRow 0 29 3 (.slice (some ⟨q, 0, none⟩) m m) (l.map zeroV).length (row3 v3 (l.map zeroV))) := hid (by
        have := HF.out.own
        rw [← HM.out, show fill l m = l.map zeroV by rw [HM.out]; exact fill_all l] at this
        rw [List.length_map, ← HM.out]
        exact this)
      have hqn := HF.out.new
      clear own HR
      go_wp2_with (at_builtin; go_must (refine wpList_append_lies _ rfl _ _ _ rfl 0 58 Try.t58 (.agg #[.int .i64 0, .bool false, .slice none 0 0]) 3 40 under_objs info_obj zero_obj size_obj bytes_obj rfl (by decide) (.slice sa n sc) n (row3 ob3 os) rfl (HOW.out.alloc _) ⟨wr.heap.size, 0, none⟩ 1 1 [.int .i64 site, .bool false, .slice (some ⟨q, 0, none⟩) m m] rfl rfl (World.news_of_block (cs := #[.int .i64 site, .bool false, .slice (some ⟨q, 0, none⟩) m m]) (t := 58) (fr := (0, 0)) (heap_new wr _)) (three_obj _ _ rfl) (by omega) (by unfold maxLen; omega) (by omega) (by simp) (wr.heap.size + 1) (by simp) ?_; intro g5 cap5 w5 hown5 hgrow5 hat5 hlt5; have hbx := HV.out.still (Keeps.alloc [] wr (.cells #[.int .i64 site, .bool false, .slice (some ⟨q, 0, none⟩) m m] 58)) (by rw [HS.out, ← HN.out]; exact hgrow5); have p5 := hcell hbx 0; have z5 := hfrozen hbx 0; have HO5 := hid hown5; have HG5 := hid hgrow5; have HA5 := hid hat5; clear hown5 hgrow5 hat5 hbx))
      go_ret
      have P := HV.out.push (o := ⟨site, false, .slice (some ⟨q, 0, none⟩) m m, l.map zeroV⟩) (sv' := .slice (some ⟨g5, 0, none⟩) (n + 1) cap5) (Keeps.alloc [] wr (.cells #[.int .i64 site, .bool false, .slice (some ⟨q, 0, none⟩) m m] 58)) (hfo.out.alloc _) (fun k hk hx => by
        simp [Value.ownBlock] at hk
        subst hk
        have := HH.out.obs.lt _ hx
        omega) (by rw [row3_snoc, ← HN.out]; exact HO5.out) (by rw [HS.out, ← HN.out]; exact HG5.out)
      refine ⟨by rw [← HN.out]; simp, _, _, ⟨_, P.1⟩, (HK.out.mono (L' := F) (fun x hx => by cases hx)).step (((Keeps.alloc [] _ _).mono (L' := F) (fun x hx => by cases hx)).step P.2), fun x hx => ?_, fun x hx => List.mem_append_left _ hx⟩
      rcases List.mem_append.1 hx with hx | hx
      · exact .inl hx
      · rcases List.mem_append.1 hx with hx | hx
        · simp [Value.ownBlock] at hx
          subst hx
          rcases HA5.out with e | e
          · refine .inl (HH.out.obs.row _ ?_)
            rw [HS.out, ← HN.out]
            exact e
          · have := HK.out.size
            exact .inr (by omega)
        · simp [Value.ownBlock] at hx
          subst hx
          exact .inr hqn
end Go.Proofs.Ytpllhcifoiahpaa
