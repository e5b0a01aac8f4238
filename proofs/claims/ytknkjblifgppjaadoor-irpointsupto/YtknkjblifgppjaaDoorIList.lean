/-
  ir.list: a call's arguments as text.
-/
import Derived.Test.YtknkjblifgppjaaDoorIPart
import Derived.Test.YtknkjblifgppjaaDoorIRow
namespace Go.Proofs.YtknkjblifgppjaaDoor
open Go.RowKit Go.Shelf

/-- The names of registers, a comma and a blank between. -/
def argsL (l : List Int) : List UInt8 := Lib.join (l.map fun z => (regB z).data.toList) [44, 32]
def listB (l : List Int) : ByteArray := ⟨#[40]⟩ ++ ⟨(argsL l).toArray⟩ ++ ⟨#[41]⟩
theorem argsL_len : ∀ (l : List Int), (∀ z, z ∈ l → wf64 z) → (argsL l).length ≤ 23 * l.length
  | [], _ => by simp [argsL, Lib.join_nil]
  | x :: r, h => by
    have hx := regB_size x (h x (List.mem_cons_self ..))
    have hxl : (regB x).data.toList.length ≤ 21 := by rw [Array.length_toList]; exact hx
    have hr : (Lib.joinTail [44, 32] (r.map fun z => (regB z).data.toList)).length ≤ 23 * r.length := by
      have h' : ∀ z, z ∈ r → wf64 z := fun z hz => h z (List.mem_cons_of_mem _ hz)
      clear h hx hxl
      induction r with
      | nil => simp [Lib.joinTail]
      | cons y r ih =>
        have hy := regB_size y (h' y (List.mem_cons_self ..))
        have hyl : (regB y).data.toList.length ≤ 21 := by rw [Array.length_toList]; exact hy
        have := ih (fun z hz => h' z (List.mem_cons_of_mem _ hz))
        unfold Lib.joinTail at this ⊢
        simp only [List.map_cons, List.flatten_cons, List.length_append, List.length_cons, List.length_nil] at this ⊢
        omega
    unfold argsL
    rw [List.map_cons, Lib.join_cons, List.length_append, List.length_cons]
    omega
theorem listB_size (l : List Int) (h : ∀ z, z ∈ l → wf64 z) : (listB l).size ≤ 23 * l.length + 2 := by
  have := argsL_len l h
  unfold listB
  rw [ByteArray.size_append, ByteArray.size_append]
  show 1 + (argsL l).toArray.size + 1 ≤ _
  rw [List.size_toArray]
  omega
theorem zero_str : Tryd.t9.zero = some (.string ⟨#[]⟩) := by kernel_rfl
theorem size_str : Tryd.t9.size = 1 := by kernel_rfl
theorem bytes_str : Tryd.t9.bytes = 16 := by kernel_rfl
theorem info_str : Tryd.prog.info? 9 = some Tryd.t9 := by kernel_rfl
theorem under_strs : Tryd.prog.underlying 86 = some (.slice 9) := by kernel_rfl
theorem run_strs (n : Nat) (hn : n ≤ 1048576) (w : World) : (Instr.makeSlice 86 (.int .i64 (n : Int)) (.int .i64 (n : Int))).run Tryd.prog w = .ok (.slice (some ⟨w.heap.size, 0, none⟩) n n) (w.alloc (.cells (madeCells #[.string ⟨#[]⟩] n) 9)) :=
  run_make_row 86 9 Tryd.t9 (.string ⟨#[]⟩) under_strs info_str zero_str size_str rfl .i64 .i64 n (by rw [bytes_str]; omega) (by omega) w
theorem strs_new (w : World) (n base : Nat) (hb : base ≤ w.heap.size) (hn : n ≤ maxLen) : RowAt (w.alloc (.cells (madeCells #[.string ⟨#[]⟩] n) 9)) base w.heap.size n 9 (fun _ => .string ⟨#[]⟩) := by
  have h := World.ownsRow_lit (base := base) (e := 9) (size := 1) w (madeCells #[.string ⟨#[]⟩] n) n hb hn (by rw [size_madeCells, Nat.mul_one])
  refine RowAt.made (z := .string ⟨#[]⟩) ?_ rfl
  rw [Nat.mul_one]
  exact h
/-- The names so far. -/
def nmsV (l : List Int) (k : Nat) (j : Nat) : Value := if j < k then .string (regB (l.getD j 0)) else .string ⟨#[]⟩
theorem join_any (bk c : Nat) (xs : List ByteArray) (w : World) (hcells : ∀ (j : Nat) x, xs[j]? = some x → w.cell? ⟨bk, 0 + j, none⟩ = some (.string x)) (hbk : bk < w.heap.size) (hN : xs.length ≤ 140737488355328) (hcap : xs.length ≤ c) (hlen : (Lib.join (xs.map (·.data.toList)) [44, 32]).length ≤ 140737488355328) :
    Calls Tryd.prog 51 #[.slice (some ⟨bk, 0, none⟩) xs.length c, .string ⟨#[44, 32]⟩] w fun e w' => e = .returned (.string ⟨(Lib.join (xs.map (·.data.toList)) [44, 32]).toArray⟩) ∧ Keeps [] w w' :=
  (Any.strings_Join jnLays bExtra bk 0 c xs ⟨#[44, 32]⟩ w hcells hbk hN hcap hlen).mono fun _ _ h => ⟨h.1, Keeps.of_below h.2⟩

set_option maxHeartbeats 4000000 in
theorem list_any (a : Option Addr) (cp : Nat) (l : List Int) (w : World) (hg : Glob w) (hz : IntsAt w a l) (ho : ∀ z, z ∈ l → wf64 z) (hm : l.length ≤ 1048576) :
    Calls Tryd.prog 46 #[.slice a l.length cp] w fun e w' => e = .returned (.string (listB l)) ∧ Keeps [] w w' := by
  obtain ⟨n, hn⟩ : ∃ n, n = l.length := ⟨_, rfl⟩
  rw [← hn]
  have hmn : n ≤ 1048576 := by omega
  have hmk := fun w => run_strs n hmn w
  have hb0 : ¬ (9223372036854775807 : Int) < (n : Int) := by omega
  have hR0 := hid (strs_new w n w.heap.size (Nat.le_refl _) (by unfold maxLen; omega))
  have hK0 := hid (Keeps.alloc [] w (.cells (madeCells #[.string ⟨#[]⟩] n) 9))
  have HZ := hid hz
  have HG := hid hg
  have HO := hid ho
  have HM := hid hm
  have HN := hid hn
  clear hz hg ho hm hn
  go_enter Tryd.func46, Tryd.ntmps46
  go_wp2_with fail
  generalize w.alloc (.cells (madeCells #[.string ⟨#[]⟩] n) 9) = w0 at hR0 hK0 ⊢
  obtain ⟨p, HP⟩ : ∃ p, Box (p = w.heap.size) := ⟨_, hid rfl⟩
  rw [← HP.out] at hR0 ⊢
  go_loopw [11] (fun i wr => ∃ k : Nat, k ≤ n ∧ i = .int .i64 (k : Int) ∧ Box (RowAt wr p p n 9 (nmsV l k)) ∧ Box (Keeps [] w wr)) (fun i _ => n - (intOf i).toNat)
  case atStart => exact ⟨0, by omega, rfl, hid (hR0.out.congr fun i _ => by unfold nmsV; rw [if_neg (by omega)]), hK0⟩
  case round =>
    obtain ⟨k, hk, rfl, HR, HK⟩ := hrel
    clear hR0 hK0
    by_cases hlt : k < n
    · have hlt' : (k : Int) < (n : Int) := by omega
      obtain ⟨b, off, rfl, hc⟩ : ∃ b off, a = some ⟨b, off, none⟩ ∧ wr.cell? ⟨b, off + k, none⟩ = some (.int .i64 (l.getD k 0)) := by
        rcases HZ.out with h | ⟨b, off, h1, h2⟩
        · exfalso; have := HN.out; rw [h] at this; simp at this; omega
        · exact ⟨b, off, h1, by rw [HK.out.cell (p := ⟨b, off + k, none⟩) (block_lt_of_cell (h2 k (by rw [← HN.out]; omega))) (by simp)]; exact h2 k (by rw [← HN.out]; omega)⟩
      have hok : wf64 (l.getD k 0) := HO.out _ (by rw [List.getD_eq_getElem?_getD, List.getElem?_eq_getElem (by rw [← HN.out]; exact hlt)]; exact List.getElem_mem _)
      have hcall := hid (reg_any (l.getD k 0) hok wr (HG.out.quiet HK.out))
      have hstep : Box (∀ w1, Keeps [] wr w1 → w1.cell? ⟨p, k, none⟩ = some (.string ⟨#[]⟩) ∧ w1.frozen? ⟨p, k, none⟩ = false ∧ Box (RowAt (w1.setCell ⟨p, k, none⟩ (.string (regB (l.getD k 0)))) p p n 9 (nmsV l (k + 1))) ∧ Box (Keeps [] w (w1.setCell ⟨p, k, none⟩ (.string (regB (l.getD k 0)))))) := hid fun w1 k1 => by
        have r1 := HR.out.kept k1 (by simp)
        refine ⟨by rw [r1.cell hlt]; unfold nmsV; rw [if_neg (by omega)], r1.frozen k, hid ((r1.put k _).congr fun i hi => ?_), hid ((HK.out.quiet k1).fresh (Keeps.setCell [p] _ _ _ (by simp)) (fun x hx => by have := HP.out; simp at hx; omega))⟩
        unfold nmsV
        by_cases e : i = k
        · subst e; rw [if_pos rfl, if_pos (by omega)]
        · rw [if_neg e]
          by_cases e2 : i < k
          · rw [if_pos e2, if_pos (by omega)]
          · rw [if_neg e2, if_neg (by omega)]
      clear hok HR
      generalize l.getD k 0 = z at hc hcall hstep
      go_wp2_with (go_at_call 33; refine hcall.out.mono ?_; rintro e w1 ⟨rfl, hk1⟩; obtain ⟨f1, f2, HR1, HK1⟩ := hstep.out _ hk1; clear hk1)
      go_roundw
      case rel => exact ⟨k + 1, by omega, by go_num, HR1, HK1⟩
      case measure => simp [intOf]; omega
    · obtain rfl : k = n := by omega
      have hj : Box (Calls Tryd.prog 51 #[.slice (some ⟨p, 0, none⟩) k k, .string ⟨#[44, 32]⟩] wr fun e w' => e = .returned (.string ⟨(argsL l).toArray⟩) ∧ Keeps [] wr w') := hid (by
        have hx := join_any p k (l.map regB) wr (fun j x hx => by
          rw [List.getElem?_map] at hx
          have hjl : j < l.length := by
            rcases Nat.lt_or_ge j l.length with h | h
            · exact h
            · rw [List.getElem?_eq_none h] at hx; simp at hx
          rw [List.getElem?_eq_getElem hjl] at hx
          rw [Nat.zero_add, HR.out.cell (by rw [HN.out]; exact hjl)]
          unfold nmsV
          rw [if_pos (by rw [HN.out]; exact hjl), List.getD_eq_getElem?_getD, List.getElem?_eq_getElem hjl]
          simp at hx
          rw [← hx]
          rfl) HR.out.lt.2 (by rw [List.length_map]; have := HM.out; omega) (by rw [List.length_map]; have := HN.out; omega) (by
            have := argsL_len l HO.out
            unfold argsL at this
            rw [List.map_map]
            have h2 := HM.out
            exact Nat.le_trans this (by omega))
        rw [List.length_map, List.map_map, ← HN.out] at hx
        exact hx)
      have hzz : (⟨(argsL l).toArray⟩ : ByteArray).size ≤ 24117248 := by
        have := argsL_len l HO.out
        have h2 := HM.out
        show (argsL l).toArray.size ≤ _
        rw [List.size_toArray]
        omega
      have hLB : Box (listB l = ⟨#[40]⟩ ++ ⟨(argsL l).toArray⟩ ++ ⟨#[41]⟩) := hid rfl
      generalize (⟨(argsL l).toArray⟩ : ByteArray) = J at hj hzz hLB
      have a1 := fun w => add_big ⟨#[40]⟩ J (by have : (⟨#[40]⟩ : ByteArray).size = 1 := rfl; omega) w
      have e1 : (⟨#[40]⟩ ++ J : ByteArray).size = J.size + 1 := by rw [ByteArray.size_append]; show 1 + _ = _; omega
      generalize hS : (⟨#[40]⟩ ++ J : ByteArray) = S1 at a1 e1 hLB
      have a2 := fun w => add_big S1 ⟨#[41]⟩ (by have : (⟨#[41]⟩ : ByteArray).size = 1 := rfl; omega) w
      have b1 : ¬ 9223372036854775807 < J.size + 1 := by omega
      have b2 : ¬ 9223372036854775807 < J.size + 1 + 1 := by omega
      go_wp2_with (go_at_call 51; refine hj.out.mono ?_; rintro e w1 ⟨rfl, hk1⟩; have HK1 := hid hk1; clear hk1)
      go_ret
      exact ⟨by rw [hLB.out]; rfl, HK.out.quiet HK1.out⟩
end Go.Proofs.YtknkjblifgppjaaDoor
