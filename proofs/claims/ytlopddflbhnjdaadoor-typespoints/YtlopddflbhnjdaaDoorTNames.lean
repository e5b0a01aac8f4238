/-
  Names, plain: the first that is none.
  types.funcNames.
  types.tablesNamed.
  types.Names.
-/
import Derived.Test.YtlopddflbhnjdaaDoorTIns
import Derived.Test.YtlopddflbhnjdaaDoorTEnd
import Derived.Test.YtlopddflbhnjdaaDoorTNam
import Derived.Deep.RegionHeld3

namespace Go.Proofs.YtlopddflbhnjdaaDoor

/-- Are a point's names right? -/
def ptOk (P : Pr8) (q : Nat × Nat × Nat) : Bool :=
  if q.2.2 < (blk8 (fun8 P q.1) q.2.1).code.length then insOk P (fun8 P q.1) (ins8 (blk8 (fun8 P q.1) q.2.1) q.2.2)
  else endB (fun8 P q.1).regs.length (fun8 P q.1).blocks.length (blk8 (fun8 P q.1) q.2.1).fin (blk8 (fun8 P q.1) q.2.1).reg (blk8 (fun8 P q.1) q.2.1).to (blk8 (fun8 P q.1) q.2.1).els
def ptI (q : Nat × Nat × Nat) : Int × Int × Int := (q.1, q.2.1, q.2.2)
def headOk (P : Pr8) (f : Nat) : Bool := inB (fun8 P f).sig P.sigs.length && tysB P (fun8 P f).regs
/-- A function's first name that is none. -/
def fnNm (P : Pr8) (f : Nat) : Option (Int × Int × Int) := if headOk P f then ((ptF (fun8 P f) f (fun8 P f).blocks.length).find? fun q => !ptOk P q).map ptI else some (-1, 0, 0)
/-- A program's. -/
def namesO (P : Pr8) : Option (Int × Int × Int) :=
  if tablesB P then (match (List.range P.funcs.length).findSome? (fnNm P) with
    | some q => some q
    | none => if inB P.main P.funcs.length then none else some (-1, 0, 0)) else some (-1, 0, 0)
theorem ptOk_in {P : Pr8} {f b i : Nat} (h : i < (blk8 (fun8 P f) b).code.length) : ptOk P (f, b, i) = insOk P (fun8 P f) (ins8 (blk8 (fun8 P f) b) i) := by unfold ptOk; rw [if_pos h]
theorem ptOk_end (P : Pr8) (f b : Nat) : ptOk P (f, b, (blk8 (fun8 P f) b).code.length) = endB (fun8 P f).regs.length (fun8 P f).blocks.length (blk8 (fun8 P f) b).fin (blk8 (fun8 P f) b).reg (blk8 (fun8 P f) b).to (blk8 (fun8 P f) b).els := by unfold ptOk; rw [if_neg (by simp)]
theorem find_first {α : Type} {p : α → Bool} {l r : List α} {q : α} (hl : ∀ x, x ∈ l → p x = false) (hq : p q = true) : (l ++ q :: r).find? p = some q := by
  rw [List.find?_append]
  have h1 : l.find? p = none := List.find?_eq_none.2 fun x hx => by rw [hl x hx]; simp
  rw [h1, List.find?_cons, hq]
  rfl
theorem find_none {α : Type} {p : α → Bool} {l : List α} (hl : ∀ x, x ∈ l → p x = false) : l.find? p = none := List.find?_eq_none.2 fun x hx => by rw [hl x hx]; simp
/-- All that stand ahead are right. -/
def AllOk (P : Pr8) (l : List (Nat × Nat × Nat)) : Prop := ∀ q, q ∈ l → ptOk P q = true
theorem AllOk.nil (P : Pr8) : AllOk P [] := fun q hq => by cases hq
theorem AllOk.snoc {P : Pr8} {l : List (Nat × Nat × Nat)} {q : Nat × Nat × Nat} (h : AllOk P l) (hq : ptOk P q = true) : AllOk P (l ++ [q]) := fun x hx => by
  rcases List.mem_append.1 hx with h1 | h1
  · exact h x h1
  · rw [List.mem_singleton.1 h1]; exact hq
theorem AllOk.cast {P : Pr8} {l l' : List (Nat × Nat × Nat)} (h : AllOk P l) (e : l = l') : AllOk P l' := e ▸ h
theorem range_cut {n k : Nat} (h : k < n) : ∃ r, List.range n = List.range k ++ k :: r := by
  refine ⟨(List.range n).drop (k + 1), ?_⟩
  have h2 := List.take_append_drop k (List.range n)
  rw [List.drop_eq_getElem_cons (by simpa using h), List.getElem_range] at h2
  conv => lhs; rw [← h2]
  congr 1
  rw [List.take_range, Nat.min_eq_left (by omega)]
theorem ptB_cut (f b : Nat) {i n : Nat} (h : i < n) : ∃ r, ptB f b n = ptB f b i ++ (f, b, i) :: r := by
  obtain ⟨r, hr⟩ := range_cut h
  refine ⟨r.map fun j => (f, b, j), ?_⟩
  unfold ptB
  rw [hr, List.map_append, List.map_cons]
theorem fnNm_bad {P : Pr8} {f b i : Nat} (hh : headOk P f = true) (hb : b < (fun8 P f).blocks.length) (hi : i ≤ (blk8 (fun8 P f) b).code.length) (hl : AllOk P (ptF (fun8 P f) f b ++ ptB f b i)) (hq : ptOk P (f, b, i) = false) : fnNm P f = some ((f : Int), (b : Int), (i : Int)) := by
  unfold fnNm
  rw [if_pos hh]
  obtain ⟨r1, h1⟩ := ptF_split (fun8 P f) f hb
  obtain ⟨r2, h2⟩ := ptB_cut f b (show i < (blk8 (fun8 P f) b).code.length + 1 by omega)
  rw [h1, h2, show ptF (fun8 P f) f b ++ (ptB f b i ++ (f, b, i) :: r2 ++ r1) = (ptF (fun8 P f) f b ++ ptB f b i) ++ (f, b, i) :: (r2 ++ r1) by simp [List.append_assoc]]
  rw [find_first (fun x hx => by rw [hl x hx]; rfl) (by rw [hq]; rfl)]
  rfl
theorem fnNm_good {P : Pr8} {f : Nat} (hh : headOk P f = true) (hl : AllOk P (ptF (fun8 P f) f (fun8 P f).blocks.length)) : fnNm P f = none := by
  unfold fnNm
  rw [if_pos hh, find_none (fun x hx => by rw [hl x hx]; rfl)]
  rfl
theorem fnNm_head {P : Pr8} {f : Nat} (hh : headOk P f = false) : fnNm P f = some (-1, 0, 0) := by
  unfold fnNm
  rw [hh]
  rfl
theorem some_first {α β : Type} {p : α → Option β} {l r : List α} {q : α} {y : β} (hl : ∀ x, x ∈ l → p x = none) (hq : p q = some y) : (l ++ q :: r).findSome? p = some y := by
  rw [List.findSome?_append]
  have h1 : l.findSome? p = none := List.findSome?_eq_none_iff.2 hl
  rw [h1, List.findSome?_cons, hq]
  rfl
theorem namesO_tab {P : Pr8} (h : tablesB P = false) : namesO P = some (-1, 0, 0) := by unfold namesO; rw [h]; rfl
theorem namesO_fn {P : Pr8} (h : tablesB P = true) {k : Nat} (hk : k < P.funcs.length) (hl : ∀ j, j < k → fnNm P j = none) {q : Int × Int × Int} (hq : fnNm P k = some q) : namesO P = some q := by
  unfold namesO
  obtain ⟨r, hr⟩ := range_cut hk
  rw [if_pos h, hr, some_first (fun x hx => hl x (List.mem_range.1 hx)) hq]
theorem namesO_end {P : Pr8} (h : tablesB P = true) (hl : ∀ j, j < P.funcs.length → fnNm P j = none) : namesO P = if inB P.main P.funcs.length then none else some (-1, 0, 0) := by
  unfold namesO
  rw [if_pos h, List.findSome?_eq_none_iff.2 (fun x hx => hl x (List.mem_range.1 hx))]
/-- What a call tells: nil, or a refusal. -/
def EPost (o : Option (Int × Int × Int)) (y : Int) (w : World) (e : Ending) (w' : World) : Prop := match o with
  | none => e = .returned .nilIface ∧ Keeps [] w w'
  | some q => RefPost y q.1 q.2.1 q.2.2 w e w'
theorem EPost.no {o : Option (Int × Int × Int)} {q : Int × Int × Int} {y : Int} {w w' : World} {e : Ending} (h : o = some q) (r : RefPost y q.1 q.2.1 q.2.2 w e w') : EPost o y w e w' := by subst h; exact r
theorem EPost.yes {o : Option (Int × Int × Int)} {y : Int} {w w' : World} {e : Ending} (h : o = none) (r : e = .returned .nilIface ∧ Keeps [] w w') : EPost o y w e w' := by subst h; exact r
end Go.Proofs.YtlopddflbhnjdaaDoor

namespace Go.Proofs.YtlopddflbhnjdaaDoor
open Go.RowKit

/-- Arguments are few. -/
def FewA (P : Pr8) : Prop := ∀ f b i, f < P.funcs.length → b < (fun8 P f).blocks.length → i < (blk8 (fun8 P f) b).code.length → (ins8 (blk8 (fun8 P f) b) i).args.length ≤ 1000
set_option maxRecDepth 20000 in
set_option maxHeartbeats 8000000 in
theorem fnames_any {w : World} {pb po : Nat} {P : Pr8} (h : PrC w pb po P) (ha : FewA P) {f : Nat} (hf : f < P.funcs.length) : Calls Tryd.prog 43 #[.pointer (some ⟨pb, po, none⟩), .int .i64 (f : Int)] w (EPost (fnNm P f) 3 w) := by
  obtain ⟨fa, fp, c4, r4, _, hfl⟩ := h.c4
  obtain ⟨sa, sp, c1, _⟩ := h.c1
  obtain ⟨fb, fo, rfl, hfu0⟩ := r4.at (getD_get (d := ⟨0, [], []⟩) hf)
  have hfu : FuC w fb (fo + f * 3) (fun8 P f) := hfu0
  obtain ⟨ra, rp, e1, q1⟩ := hfu.c1.val
  obtain ⟨ba, bp, e2, rb, _, hbl⟩ := hfu.c2
  have e0 := hfu.c0.1
  have hf' : (f : Int) < (P.funcs.length : Int) := by omega
  have HW := hid fun (w' : World) => within_any (fun8 P f).sig P.sigs.length w'
  have HT := hid fun (w' : World) (k : Keeps [] w w') => tysnamed_any (PrC.stays _ _ _ _ _ k h) (q1.keeps TyC.stays k)
  have HRF := hid fun (w' : World) => refused_any 3 w'
  have HRA := hid fun (b i : Int) (w' : World) => refusedAt_any 3 (f : Int) b i w'
  have HIN := hid fun (w' : World) (k : Keeps [] w w') (x : In8) (a : Option Addr) (cp : Nat) (hz : IntsAt w' a x.args) (hl : x.args.length ≤ 1000) => ins_any (cp := cp) (PrC.stays _ _ _ _ _ k h) (FuC.stays _ _ _ _ _ k hfu) x hz hl
  have HEN := hid fun (w' : World) (k : Keeps [] w w') (bb bo : Nat) (y : Bl8) (hb : BlC w' bb bo y) => end_any (FuC.stays _ _ _ _ _ k hfu) hb
  have HA : Box (∀ b i, b < (fun8 P f).blocks.length → i < (blk8 (fun8 P f) b).code.length → (ins8 (blk8 (fun8 P f) b) i).args.length ≤ 1000) := hid fun b i h1 h2 => ha f b i hf h1 h2
  have HRB := hid rb
  have HH : Box (headOk P f = (inB (fun8 P f).sig P.sigs.length && tysB P (fun8 P f).regs)) := hid rfl
  have HBAD := hid fun (hh : headOk P f = true) (b i : Nat) => fnNm_bad (P := P) (f := f) (b := b) (i := i) hh
  have HGOOD := hid fun (hh : headOk P f = true) => fnNm_good (P := P) (f := f) hh
  have HHD := hid (fnNm_head (P := P) (f := f))
  have E2 : Box (∀ w', Keeps [] w w' → w'.cell? ⟨fb, fo + f * 3 + 2, none⟩ = some (.slice ba (fun8 P f).blocks.length bp)) := hid fun w' k => cell_stays k e2
  have E1 : Box (∀ w', Keeps [] w w' → w'.cell? ⟨fb, fo + f * 3 + 1, none⟩ = some (.slice ra (fun8 P f).regs.length rp)) := hid fun w' k => cell_stays k e1
  have E0 : Box (∀ w', Keeps [] w w' → w'.cell? ⟨fb, fo + f * 3, none⟩ = some (.int .i64 (fun8 P f).sig)) := hid fun w' k => cell_stays k e0
  have S1 : Box (∀ w', Keeps [] w w' → w'.cell? ⟨pb, po + 1, none⟩ = some (.slice sa P.sigs.length sp)) := hid fun w' k => cell_stays k c1
  clear h hfu0 hfu r4 rb ha
  obtain ⟨bn, hbn⟩ : ∃ m, m = (fun8 P f).blocks.length := ⟨_, rfl⟩
  rw [← hbn] at E2 hbl e2
  have HBN := hid hbn
  have hbl9 : (bn : Int) ≤ 9223372036854775807 := by unfold maxLen at hbl; omega
  generalize P.funcs.length = FN at *
  generalize P.sigs.length = SN at *
  generalize hsg : (fun8 P f).sig = sg at *
  obtain ⟨RN, hrn⟩ : ∃ m, m = (fun8 P f).regs.length := ⟨_, rfl⟩
  rw [← hrn] at E1 e1 HT
  have HRN := hid hrn
  clear hrn
  clear hbn hsg hbl
  cases hw : inB sg SN with
  | false =>
    rw [hw] at HW
    rw [HHD.out (by rw [HH.out, hw]; rfl)]
    clear hw
    go_enter Tryd.func43, Tryd.ntmps43
    go_upto_region 2 with fail
    go_quiet ((go_at_call 29; exact Calls.quiet_of_same (HW.out _)))
    go_wp2_with fail
    refine (HRF.out _).mono ?_
    rintro e w1 ⟨p, rfl, h1, h2⟩
    go_wp2_with fail
    go_ret
    exact ⟨p, rfl, h1, (Keeps.drewN _ _ _).quiet h2⟩
  | true =>
    rw [hw] at HW
    go_enter Tryd.func43, Tryd.ntmps43
    go_upto_region 2 with fail
    cases ht : tysB P (fun8 P f).regs with
    | false =>
      rw [ht] at HT
      have HQ := hid (HHD.out (by rw [HH.out, hw, ht]; rfl))
      clear hw ht
      go_region_held3 (fun w' => w'.cell? ⟨pb, po + 1, none⟩ = some (.slice sa SN sp) ∧ w'.cell? ⟨fb, fo + f * 3, none⟩ = some (.int .i64 sg) ∧ w'.cell? ⟨fb, fo + f * 3 + 1, none⟩ = some (.slice ra RN rp)) (go_keep) (first
        | (go_at_call 29; refine (HW.out _).mono ?_; rintro e w5 ⟨rfl, hw5⟩; have K5 : Keeps [] w w5 := (by rw [hw5]; exact Keeps.drew _ _); have f51 := S1.out _ K5; have f52 := E0.out _ K5; have f53 := E1.out _ K5; clear hw5)
        | (go_at_call 73; refine (HT.out _ K5).mono ?_; rintro e w6 ⟨rfl, k6⟩; have K6 := K5.quiet k6; have f61 := S1.out _ K6; have f62 := E0.out _ K6; have f63 := E1.out _ K6; clear k6))
      go_wp2_with fail
      refine (HRF.out _).mono ?_
      rintro e w1 ⟨p, rfl, h1, h2⟩
      go_wp2_with fail
      go_ret
      exact EPost.no HQ.out ⟨p, rfl, h1, K6.quiet h2⟩
    | true =>
      rw [ht] at HT
      have HHT : Box (headOk P f = true) := hid (by rw [HH.out, hw, ht]; rfl)
      clear hw ht
      go_region_held3 (fun w' => w'.cell? ⟨pb, po + 1, none⟩ = some (.slice sa SN sp) ∧ w'.cell? ⟨fb, fo + f * 3, none⟩ = some (.int .i64 sg) ∧ w'.cell? ⟨fb, fo + f * 3 + 1, none⟩ = some (.slice ra RN rp)) (go_keep) (first
        | (go_at_call 29; refine (HW.out _).mono ?_; rintro e w5 ⟨rfl, hw5⟩; have K5 : Keeps [] w w5 := (by rw [hw5]; exact Keeps.drew _ _); have f51 := S1.out _ K5; have f52 := E0.out _ K5; have f53 := E1.out _ K5; clear hw5)
        | (go_at_call 73; refine (HT.out _ K5).mono ?_; rintro e w6 ⟨rfl, k6⟩; have K6 := K5.quiet k6; have f61 := S1.out _ K6; have f62 := E0.out _ K6; have f63 := E1.out _ K6; have HK6 := hid K6; have g2 := E2.out _ K6; clear k6))
      go_wp2_with fail
      clear f51 f52 f53 f61 f62 f63 K5 K6 g2
      clear e0 e1 e2 c1 c4 hf'
      go_loopw [41] (fun bv wr => ∃ b : Nat, b ≤ bn ∧ bv = .int .i64 (b : Int) ∧ Box (Keeps [] w wr) ∧ Box (AllOk P (ptF (fun8 P f) f b))) (fun bv _ => bn - (intOf bv).toNat)
      case atStart => exact ⟨0, by omega, rfl, HK6, hid (AllOk.nil P)⟩
      case round =>
        obtain ⟨b, hb, rfl, HK, HAL⟩ := hrel
        clear HK6
        by_cases hlt : b < bn
        · have hlt' : (b : Int) < (bn : Int) := by omega
          have hbf : Box (b < (fun8 P f).blocks.length) := hid (by rw [← HBN.out]; exact hlt)
          have g2 := E2.out _ HK.out
          obtain ⟨bb, bo, rfl, hbl0⟩ := HRB.out.at (show (fun8 P f).blocks[b]? = some (blk8 (fun8 P f) b) from getD_get hbf.out)
          have HBL := hid hbl0
          obtain ⟨ca, cp, e3, rc, _, hcl⟩ := hbl0.c0
          have E3 := cell_stays HK.out e3
          have E3B : Box (∀ w', Keeps [] w w' → w'.cell? ⟨bb, bo + b * 5, none⟩ = some (.slice ca (blk8 (fun8 P f) b).code.length cp)) := hid fun w' k => cell_stays k e3
          have HRC := hid rc
          obtain ⟨cn, hcn⟩ : ∃ m, m = (blk8 (fun8 P f) b).code.length := ⟨_, rfl⟩
          rw [← hcn] at E3 hcl
          have HCN := hid hcn
          have hcl9 : (cn : Int) ≤ 9223372036854775807 := by unfold maxLen at hcl; omega
          have HAL2 : Box (AllOk P (ptF (fun8 P f) f b ++ ptB f b 0)) := hid (HAL.out.cast (by rw [ptB_zero, List.append_nil]))
          clear hbl0 e3 rc hcn hcl
          go_wp2_with fail
          clear g2 E3
          have HK0 := HK
          clear HK
          go_loopw [54] (fun iv wr => ∃ i : Nat, i ≤ cn ∧ iv = .int .i64 (i : Int) ∧ Box (Keeps [] w wr) ∧ Box (AllOk P (ptF (fun8 P f) f b ++ ptB f b i))) (fun iv _ => cn - (intOf iv).toNat)
          case atStart => exact ⟨0, by omega, rfl, HK0, HAL2⟩
          case round =>
            obtain ⟨i, hi, rfl, HK, HAL⟩ := hrel
            clear HK0 HAL2
            by_cases hli : i < cn
            · have hli' : (i : Int) < (cn : Int) := by omega
              have hif : Box (i < (blk8 (fun8 P f) b).code.length) := hid (by rw [← HCN.out]; exact hli)
              obtain ⟨ib, io, rfl, hin⟩ := HRC.out.at (show (blk8 (fun8 P f) b).code[i]? = some (ins8 (blk8 (fun8 P f) b) i) from getD_get hif.out)
              obtain ⟨ga, gp, e5, q5⟩ := SlC.val hin.c5
              have hz : IntsAt w ga (ins8 (blk8 (fun8 P f) b) i).args := rows_ints q5.slice.2.1
              have F0 := cell_stays HK.out hin.c0.1
              have F1 := cell_stays HK.out hin.c1.1
              have F2 := cell_stays HK.out hin.c2.1
              have F3 := cell_stays HK.out hin.c3.1
              have F4 := cell_stays HK.out hin.c4.1
              have F5 := cell_stays HK.out e5
              have HC := hid (HIN.out wr HK.out (ins8 (blk8 (fun8 P f) b) i) ga gp (hz.kept HK.out (fun _ _ _ => by simp)) (HA.out b i hbf.out hif.out))
              have HPT := hid (ptOk_in (P := P) (f := f) (b := b) hif.out)
              have HSN : Box (ptF (fun8 P f) f b ++ ptB f b (i + 1) = (ptF (fun8 P f) f b ++ ptB f b i) ++ [(f, b, i)]) := hid (by rw [ptB_succ, ← List.append_assoc])
              unfold insV at HC
              clear hin e5 q5 hz
              cases hok : insOk P (fun8 P f) (ins8 (blk8 (fun8 P f) b) i) with
              | true =>
                rw [hok] at HC
                have HAL9 : Box (AllOk P (ptF (fun8 P f) f b ++ ptB f b (i + 1))) := hid ((HAL.out.snoc (q := (f, b, i)) (by rw [HPT.out, hok])).cast HSN.out.symm)
                clear hok
                go_wp2_with fail
                refine HC.out.mono ?_
                rintro e w3 ⟨rfl, k3⟩
                have K3 := hid (HK.out.quiet k3)
                clear k3
                go_wp2_with fail
                go_roundw
                case rel => exact ⟨i + 1, by omega, by go_num, K3, HAL9⟩
                case measure => simp [intOf]; omega
              | false =>
                rw [hok] at HC
                have HQ := hid (HBAD.out HHT.out b i hbf.out (Nat.le_of_lt hif.out) HAL.out (by rw [HPT.out, hok]))
                clear hok
                go_wp2_with fail
                refine HC.out.mono ?_
                rintro e w3 ⟨rfl, k3⟩
                have K3 := hid (HK.out.quiet k3)
                clear k3
                go_wp2_with fail
                refine (HRA.out _ _ _).mono ?_
                rintro e w4 ⟨p, rfl, h1, h2⟩
                go_wp2_with fail
                go_ret
                exact EPost.no HQ.out ⟨p, rfl, h1, K3.out.quiet h2⟩
            · obtain rfl : i = cn := by omega
              have g2 := E2.out _ HK.out
              have HC := hid (HEN.out wr HK.out bb (bo + b * 5) (blk8 (fun8 P f) b) (BlC.stays _ _ _ _ _ HK.out HBL.out))
              have HPT := hid (ptOk_end P f b)
              generalize endB (fun8 P f).regs.length (fun8 P f).blocks.length (blk8 (fun8 P f) b).fin (blk8 (fun8 P f) b).reg (blk8 (fun8 P f) b).to (blk8 (fun8 P f) b).els = eb at *
              cases eb with
              | true =>
                have HAL9 : Box (AllOk P (ptF (fun8 P f) f (b + 1))) := hid ((HAL.out.snoc (q := (f, b, i)) (by rw [HCN.out, HPT.out])).cast (by rw [ptF_succ, ← HCN.out, ptB_succ, ← List.append_assoc]))
                go_wp2_with fail
                refine HC.out.mono ?_
                rintro e w3 ⟨rfl, k3⟩
                have K3 := hid (HK.out.quiet k3)
                clear k3
                go_wp2_with fail
                go_roundw
                case rel => exact ⟨b + 1, by omega, by go_num, K3, HAL9⟩
                case measure => simp [intOf]; omega
              | false =>
                have HQ := hid (HBAD.out HHT.out b i hbf.out (by rw [HCN.out]; exact Nat.le_refl _) HAL.out (by rw [HCN.out, HPT.out]))
                go_wp2_with fail
                refine HC.out.mono ?_
                rintro e w3 ⟨rfl, k3⟩
                have K3 := hid (HK.out.quiet k3)
                clear k3
                go_wp2_with fail
                refine (HRA.out _ _ _).mono ?_
                rintro e w4 ⟨p, rfl, h1, h2⟩
                go_wp2_with fail
                go_ret
                exact EPost.no HQ.out ⟨p, rfl, h1, K3.out.quiet h2⟩
        · obtain rfl : b = bn := by omega
          have HQ := hid (HGOOD.out HHT.out (HAL.out.cast (by rw [HBN.out])))
          go_wp2_with fail
          go_ret
          exact EPost.yes HQ.out ⟨rfl, HK.out⟩
end Go.Proofs.YtlopddflbhnjdaaDoor

namespace Go.Proofs.YtlopddflbhnjdaaDoor
open Go.RowKit

theorem tab_no0 {P : Pr8} (h : P.recs.all (tysB P) = false) : tablesB P = false := by unfold tablesB; rw [h]; rfl
theorem tab_no1 {P : Pr8} (h : P.sigs.all (sgnB P) = false) : tablesB P = false := by unfold tablesB; rw [h]; simp
theorem tab_no2 {P : Pr8} (h : P.ifs.all (fun l => insB l P.sigs.length) = false) : tablesB P = false := by unfold tablesB; rw [h]; simp
theorem tab_no3 {P : Pr8} (h : P.ims.all (imnB P) = false) : tablesB P = false := by unfold tablesB; rw [h]; simp
set_option maxRecDepth 20000 in
set_option maxHeartbeats 8000000 in
theorem tables_any {w : World} {pb po : Nat} {P : Pr8} (h : PrC w pb po P) : Calls Tryd.prog 42 #[.pointer (some ⟨pb, po, none⟩)] w fun e w' => e = .returned (.bool (tablesB P)) ∧ Keeps [] w w' := by
  obtain ⟨a0, p0, c0, r0, _, l0⟩ := h.c0
  have R0 := hid r0
  obtain ⟨n0, hn0⟩ : ∃ n, n = P.recs.length := ⟨_, rfl⟩
  rw [← hn0] at c0 l0
  have N0 := hid hn0
  have m0 : (n0 : Int) ≤ 9223372036854775807 := by unfold maxLen at l0; omega
  have C0 : Box (∀ w', Keeps [] w w' → w'.cell? ⟨pb, po, none⟩ = some (.slice a0 n0 p0)) := hid (by have c := c0; exact fun w' k => cell_stays k c)
  obtain ⟨a1, p1, c1, r1, _, l1⟩ := h.c1
  have R1 := hid r1
  obtain ⟨n1, hn1⟩ : ∃ n, n = P.sigs.length := ⟨_, rfl⟩
  rw [← hn1] at c1 l1
  have N1 := hid hn1
  have m1 : (n1 : Int) ≤ 9223372036854775807 := by unfold maxLen at l1; omega
  have C1 : Box (∀ w', Keeps [] w w' → w'.cell? ⟨pb, po + 1, none⟩ = some (.slice a1 n1 p1)) := hid (by have c := c1; exact fun w' k => cell_stays k c)
  obtain ⟨a2, p2, c2, r2, _, l2⟩ := h.c2
  have R2 := hid r2
  obtain ⟨n2, hn2⟩ : ∃ n, n = P.ifs.length := ⟨_, rfl⟩
  rw [← hn2] at c2 l2
  have N2 := hid hn2
  have m2 : (n2 : Int) ≤ 9223372036854775807 := by unfold maxLen at l2; omega
  have C2 : Box (∀ w', Keeps [] w w' → w'.cell? ⟨pb, po + 2, none⟩ = some (.slice a2 n2 p2)) := hid (by have c := c2; exact fun w' k => cell_stays k c)
  obtain ⟨a3, p3, c3, r3, _, l3⟩ := h.c3
  have R3 := hid r3
  obtain ⟨n3, hn3⟩ : ∃ n, n = P.ims.length := ⟨_, rfl⟩
  rw [← hn3] at c3 l3
  have N3 := hid hn3
  have m3 : (n3 : Int) ≤ 9223372036854775807 := by unfold maxLen at l3; omega
  have C3 : Box (∀ w', Keeps [] w w' → w'.cell? ⟨pb, po + 3, none⟩ = some (.slice a3 n3 p3)) := hid (by have c := c3; exact fun w' k => cell_stays k c)
  obtain ⟨a4, p4, c4, r4, _, l4⟩ := h.c4
  have R4 := hid r4
  obtain ⟨n4, hn4⟩ : ∃ n, n = P.funcs.length := ⟨_, rfl⟩
  rw [← hn4] at c4 l4
  have N4 := hid hn4
  have m4 : (n4 : Int) ≤ 9223372036854775807 := by unfold maxLen at l4; omega
  have C4 : Box (∀ w', Keeps [] w w' → w'.cell? ⟨pb, po + 4, none⟩ = some (.slice a4 n4 p4)) := hid (by have c := c4; exact fun w' k => cell_stays k c)
  have HT := hid fun (w' : World) (k : Keeps [] w w') (v : Value) (l : List (Int × Int)) (hv : TysV w v l) => tysnamed_any (PrC.stays _ _ _ _ _ k h) (hv.keeps TyC.stays k)
  have HTY := hid fun (w' : World) (k : Keeps [] w w') (t : Int × Int) => tnamed_any (PrC.stays _ _ _ _ _ k h) t
  have HW := hid fun (k : Int) (n : Nat) (w' : World) => within_any k n w'
  have HAW := hid fun (w' : World) (k : Keeps [] w w') (a : Option Addr) (cp : Nat) (l : List Int) (hz : IntsAt w a l) (hl : l.length ≤ maxLen) (m : Nat) => allwithin_any (cp := cp) (hz.kept k (fun _ _ _ => by simp)) hl m
  clear r0 r1 r2 r3 r4 hn0 hn1 hn2 hn3 hn4 l0 l1 l2 l3 l4 h m4
  go_enter Tryd.func42, Tryd.ntmps42
  go_wp2_with fail
  have K0 := hid (Keeps.refl [] w)
  clear c1 c2 c3 c4
  go_loopw [16] (fun kv wr => ∃ k : Nat, k ≤ n0 ∧ kv = .int .i64 (k : Int) ∧ Box (Keeps [] w wr) ∧ Box (∀ j y, j < k → P.recs[j]? = some y → tysB P y = true)) (fun kv _ => n0 - (intOf kv).toNat)
  case atStart => exact ⟨0, by omega, rfl, K0, hid fun j y hj => by omega⟩
  case round =>
    obtain ⟨k, hk, rfl, HK, HB⟩ := hrel
    clear K0 c0
    by_cases hlt : k < n0
    · have hlt' : (k : Int) < (n0 : Int) := by omega
      obtain ⟨y, hy⟩ : ∃ y, P.recs[k]? = some y := ⟨_, List.getElem?_eq_getElem (by rw [← N0.out]; exact hlt)⟩
      obtain ⟨b, off, rfl, hc⟩ := R0.out.at hy
      rw [Nat.mul_one] at hc
      obtain ⟨ga, gp, e5, q5⟩ := hc.val
      have d5 := cell_stays HK.out e5
      have HC := hid (HT.out wr HK.out _ _ q5)
      clear e5 q5
      have HY := hid hy
      clear hy hc
      have REL : Box (tysB P y = true → ∀ j z, j < k + 1 → P.recs[j]? = some z → tysB P z = true) := hid fun hg j z hj hz => by
        by_cases e : j < k
        · exact HB.out j z e hz
        · obtain rfl : j = k := by omega
          rw [HY.out] at hz
          cases hz
          exact hg
      cases hg : tysB P y with
      | true =>
        rw [hg] at HC
        have HG := hid hg
        clear hg
        go_wp2_with fail
        refine HC.out.mono ?_
        rintro e w3 ⟨rfl, k3⟩
        have K3 := hid (HK.out.quiet k3)
        clear k3
        go_wp2_with fail
        go_roundw
        case rel => exact ⟨k + 1, by omega, by go_num, K3, hid (REL.out HG.out)⟩
        case measure => simp [intOf]; omega
      | false =>
        rw [hg] at HC
        have HE : Box (tablesB P = false) := hid (tab_no0 (all_bad HY.out hg))
        clear hg
        go_wp2_with fail
        refine HC.out.mono ?_
        rintro e w3 ⟨rfl, k3⟩
        have K3 := hid (HK.out.quiet k3)
        clear k3
        go_wp2_with fail
        go_ret
        exact ⟨by rw [HE.out]; rfl, K3.out⟩
    · obtain rfl : n0 = k := by omega
      have T0 : Box (P.recs.all (tysB P) = true) := hid (all_good (fun j y hy => HB.out j y (by rw [N0.out]; exact (List.getElem?_eq_some_iff.1 hy).1) hy))
      have c1 := C1.out _ HK.out
      clear HB hk
      go_wp2_with fail
      clear hlt
      have K1 := HK
      clear HK
      go_loopw [30] (fun kv wr => ∃ k : Nat, k ≤ n1 ∧ kv = .int .i64 (k : Int) ∧ Box (Keeps [] w wr) ∧ Box (∀ j y, j < k → P.sigs[j]? = some y → sgnB P y = true)) (fun kv _ => n1 - (intOf kv).toNat)
      case atStart => exact ⟨0, by omega, rfl, K1, hid fun j y hj => by omega⟩
      case round =>
        obtain ⟨k, hk, rfl, HK, HB⟩ := hrel
        clear K1 c1
        by_cases hlt : k < n1
        · have hlt' : (k : Int) < (n1 : Int) := by omega
          obtain ⟨y, hy⟩ : ∃ y, P.sigs[k]? = some y := ⟨_, List.getElem?_eq_getElem (by rw [← N1.out]; exact hlt)⟩
          obtain ⟨b, off, rfl, hc⟩ := R1.out.at hy
          obtain ⟨ga, gp, e5, q5⟩ := hc.c0.val
          have d0 := cell_stays HK.out e5
          have d1 := cell_stays HK.out hc.c1.1
          have d2 := cell_stays HK.out hc.c2.1
          have HN := hid (heap_new wr (.cells #[.slice ga y.1.length gp, .int .i64 y.2.1, .int .i64 y.2.2] 41))
          have HKA := hid (HK.out.quiet (Keeps.alloc [] wr (.cells #[.slice ga y.1.length gp, .int .i64 y.2.1, .int .i64 y.2.2] 41)))
          have HC := hid (HT.out _ HKA.out _ _ q5)
          have HSG : Box (sgnB P y = (tysB P y.1 && tyB P y.2)) := hid rfl
          clear e5 q5
          have HY := hid hy
          clear hy hc
          have REL : Box (sgnB P y = true → ∀ j z, j < k + 1 → P.sigs[j]? = some z → sgnB P z = true) := hid fun hg j z hj hz => by
            by_cases e : j < k
            · exact HB.out j z e hz
            · obtain rfl : j = k := by omega
              rw [HY.out] at hz
              cases hz
              exact hg
          go_upto_region 10 with fail
          generalize wr.alloc (.cells #[.slice ga y.1.length gp, .int .i64 y.2.1, .int .i64 y.2.2] 41) = w2 at *
          generalize wr.heap.size = q at *
          have s0 := hcell HN.out 0
          cases h1 : tysB P y.1 with
          | false =>
            rw [h1] at HC
            have HE : Box (tablesB P = false) := hid (tab_no1 (all_bad HY.out (by rw [HSG.out, h1]; rfl)))
            clear h1
            go_wp2_with fail
            refine HC.out.mono ?_
            rintro e w3 ⟨rfl, k3⟩
            have K3 := hid (HKA.out.quiet k3)
            clear k3
            go_wp2_with fail
            go_ret
            exact ⟨by rw [HE.out]; rfl, K3.out⟩
          | true =>
            rw [h1] at HC
            go_wp2_with fail
            refine HC.out.mono ?_
            rintro e w3 ⟨rfl, k3⟩
            have K3 := hid (HKA.out.quiet k3)
            have h3 := keep_heap HN.out k3
            have s1 := hcell h3 1
            have s2 := hcell h3 2
            have HC2 := hid (HTY.out w3 K3.out y.2)
            clear k3 h3 s0
            cases h2 : tyB P y.2 with
            | false =>
              rw [h2] at HC2
              have HE : Box (tablesB P = false) := hid (tab_no1 (all_bad HY.out (by rw [HSG.out, h1, h2]; rfl)))
              clear h1 h2
              go_wp2_with fail
              refine HC2.out.mono ?_
              rintro e w4 ⟨rfl, k3⟩
              have K4 := hid (K3.out.quiet k3)
              clear k3
              go_wp2_with fail
              go_ret
              exact ⟨by rw [HE.out]; rfl, K4.out⟩
            | true =>
              rw [h2] at HC2
              have HG : Box (sgnB P y = true) := hid (by rw [HSG.out, h1, h2]; rfl)
              clear h1 h2
              go_wp2_with fail
              refine HC2.out.mono ?_
              rintro e w4 ⟨rfl, k3⟩
              have K4 := hid (K3.out.quiet k3)
              clear k3
              go_wp2_with fail
              go_roundw
              case rel => exact ⟨k + 1, by omega, by go_num, K4, hid (REL.out HG.out)⟩
              case measure => simp [intOf]; omega
        · obtain rfl : n1 = k := by omega
          have T1 : Box (P.sigs.all (sgnB P) = true) := hid (all_good (fun j y hy => HB.out j y (by rw [N1.out]; exact (List.getElem?_eq_some_iff.1 hy).1) hy))
          have c2 := C2.out _ HK.out
          clear HB hk
          go_wp2_with fail
          clear hlt
          have K2 := HK
          clear HK
          go_loopw [52] (fun kv wr => ∃ k : Nat, k ≤ n2 ∧ kv = .int .i64 (k : Int) ∧ Box (Keeps [] w wr) ∧ Box (∀ j y, j < k → P.ifs[j]? = some y → insB y P.sigs.length = true)) (fun kv _ => n2 - (intOf kv).toNat)
          case atStart => exact ⟨0, by omega, rfl, K2, hid fun j y hj => by omega⟩
          case round =>
            obtain ⟨k, hk, rfl, HK, HB⟩ := hrel
            clear K2 c2
            by_cases hlt : k < n2
            · have hlt' : (k : Int) < (n2 : Int) := by omega
              obtain ⟨y, hy⟩ : ∃ y, P.ifs[k]? = some y := ⟨_, List.getElem?_eq_getElem (by rw [← N2.out]; exact hlt)⟩
              obtain ⟨b, off, rfl, hc⟩ := R2.out.at hy
              rw [Nat.mul_one] at hc
              obtain ⟨ga, gp, e5, q5⟩ := SlC.val hc
              have d0 := cell_stays HK.out e5
              have HN := hid (heap_new wr (.cells #[.slice ga y.length gp] 61))
              have HKA := hid (HK.out.quiet (Keeps.alloc [] wr (.cells #[.slice ga y.length gp] 61)))
              have HZ := hid (rows_ints q5.slice.2.1)
              have HL := hid q5.slice.2.2.2
              clear e5 q5
              have HY := hid hy
              clear hy hc
              have REL : Box (insB y P.sigs.length = true → ∀ j z, j < k + 1 → P.ifs[j]? = some z → insB z P.sigs.length = true) := hid fun hg j z hj hz => by
                by_cases e : j < k
                · exact HB.out j z e hz
                · obtain rfl : j = k := by omega
                  rw [HY.out] at hz
                  cases hz
                  exact hg
              go_upto_region 16 with fail
              generalize wr.alloc (.cells #[.slice ga y.length gp] 61) = w2 at *
              generalize wr.heap.size = q at *
              have s0 := hcell HN.out 0
              have c1 := C1.out _ HKA.out
              have HC := hid fun (m : Nat) => HAW.out (w2.drewN m) (HKA.out.quiet (Keeps.drewN _ _ _)) ga gp y HZ.out HL.out P.sigs.length
              rw [← N1.out] at HC REL
              cases hg : insB y n1 with
              | true =>
                rw [hg] at HC
                have HG := hid hg
                clear hg
                go_quiet ((go_at_call 74; exact Calls.quiet_of_same (HC.out _)))
                go_wp2_with fail
                go_roundw
                case rel => exact ⟨k + 1, by omega, by go_num, hid (HKA.out.quiet (Keeps.drewN _ _ _)), hid (by rw [← N1.out]; exact REL.out HG.out)⟩
                case measure => simp [intOf]; omega
              | false =>
                rw [hg] at HC
                have HE : Box (tablesB P = false) := hid (tab_no2 (all_bad HY.out (by rw [← N1.out]; exact hg)))
                clear hg
                go_quiet ((go_at_call 74; exact Calls.quiet_of_same (HC.out _)))
                go_wp2_with fail
                go_ret
                exact ⟨by rw [HE.out]; rfl, HKA.out.quiet (Keeps.drewN _ _ _)⟩
            · obtain rfl : n2 = k := by omega
              have T2 : Box (P.ifs.all (fun l => insB l P.sigs.length) = true) := hid (all_good (fun j y hy => HB.out j y (by rw [N2.out]; exact (List.getElem?_eq_some_iff.1 hy).1) hy))
              have c3 := C3.out _ HK.out
              clear HB hk
              go_wp2_with fail
              clear hlt
              have K3 := HK
              clear HK
              go_loopw [71] (fun kv wr => ∃ k : Nat, k ≤ n3 ∧ kv = .int .i64 (k : Int) ∧ Box (Keeps [] w wr) ∧ Box (∀ j y, j < k → P.ims[j]? = some y → imnB P y = true)) (fun kv _ => n3 - (intOf kv).toNat)
              case atStart => exact ⟨0, by omega, rfl, K3, hid fun j y hj => by omega⟩
              case round =>
                obtain ⟨k, hk, rfl, HK, HB⟩ := hrel
                clear K3 c3
                by_cases hlt : k < n3
                · have hlt' : (k : Int) < (n3 : Int) := by omega
                  obtain ⟨y, hy⟩ : ∃ y, P.ims[k]? = some y := ⟨_, List.getElem?_eq_getElem (by rw [← N3.out]; exact hlt)⟩
                  obtain ⟨b, off, rfl, hc⟩ := R3.out.at hy
                  obtain ⟨ga, gp, e5, q5⟩ := SlC.val hc.c2
                  have d0 := cell_stays HK.out hc.c0.1
                  have d1 := cell_stays HK.out hc.c1.1
                  have d2 := cell_stays HK.out e5
                  have HN := hid (heap_new wr (.cells #[.int .i64 y.1, .int .i64 y.2.1, .slice ga y.2.2.length gp] 63))
                  have HKA := hid (HK.out.quiet (Keeps.alloc [] wr (.cells #[.int .i64 y.1, .int .i64 y.2.1, .slice ga y.2.2.length gp] 63)))
                  have HZ := hid (rows_ints q5.slice.2.1)
                  have HL := hid q5.slice.2.2.2
                  clear e5 q5
                  have HY := hid hy
                  clear hy hc
                  have REL : Box (imnB P y = true → ∀ j z, j < k + 1 → P.ims[j]? = some z → imnB P z = true) := hid fun hg j z hj hz => by
                    by_cases e : j < k
                    · exact HB.out j z e hz
                    · obtain rfl : j = k := by omega
                      rw [HY.out] at hz
                      cases hz
                      exact hg
                  go_upto_region 22 with fail
                  generalize wr.alloc (.cells #[.int .i64 y.1, .int .i64 y.2.1, .slice ga y.2.2.length gp] 63) = w2 at *
                  generalize wr.heap.size = q at *
                  have s0 := hcell HN.out 0
                  have s1 := hcell HN.out 1
                  have s2 := hcell HN.out 2
                  have c0 := C0.out _ HKA.out
                  have c2 := C2.out _ HKA.out
                  have c4 := C4.out _ HKA.out
                  have H1 := hid fun (m : Nat) => HW.out y.1 n0 (w2.drewN m)
                  have H2 := hid fun (m : Nat) => HW.out y.2.1 n2 (w2.drewN m)
                  have H3 := hid fun (m : Nat) => HAW.out (w2.drewN m) (HKA.out.quiet (Keeps.drewN _ _ _)) ga gp y.2.2 HZ.out HL.out n4
                  have HIM : Box (imnB P y = (inB y.1 n0 && (inB y.2.1 n2 && insB y.2.2 n4))) := hid (by rw [N0.out, N2.out, N4.out]; rfl)
                  cases h1 : inB y.1 n0 with
                  | false =>
                    rw [h1] at H1
                    have HE : Box (tablesB P = false) := hid (tab_no3 (all_bad HY.out (by rw [HIM.out, h1]; rfl)))
                    clear h1
                    go_quiet (first | (go_at_call 29; with_reducible exact Calls.quiet_of_same (H1.out _)))
                    go_wp2_with fail
                    go_ret
                    exact ⟨by rw [HE.out]; rfl, HKA.out.quiet (Keeps.drewN _ _ _)⟩
                  | true =>
                    rw [h1] at H1
                    cases h2 : inB y.2.1 n2 with
                    | false =>
                      rw [h2] at H2
                      have HE : Box (tablesB P = false) := hid (tab_no3 (all_bad HY.out (by rw [HIM.out, h1, h2]; rfl)))
                      clear h1 h2
                      go_quiet (first | (go_at_call 29; with_reducible exact Calls.quiet_of_same (H1.out _)) | (go_at_call 29; with_reducible exact Calls.quiet_of_same (H2.out _)))
                      go_wp2_with fail
                      go_ret
                      exact ⟨by rw [HE.out]; rfl, HKA.out.quiet (Keeps.drewN _ _ _)⟩
                    | true =>
                      rw [h2] at H2
                      cases h3 : insB y.2.2 n4 with
                      | false =>
                        rw [h3] at H3
                        have HE : Box (tablesB P = false) := hid (tab_no3 (all_bad HY.out (by rw [HIM.out, h1, h2, h3]; rfl)))
                        clear h1 h2 h3
                        go_quiet (first | (go_at_call 29; with_reducible exact Calls.quiet_of_same (H1.out _)) | (go_at_call 29; with_reducible exact Calls.quiet_of_same (H2.out _)) | (go_at_call 74; with_reducible exact Calls.quiet_of_same (H3.out _)))
                        go_wp2_with fail
                        go_ret
                        exact ⟨by rw [HE.out]; rfl, HKA.out.quiet (Keeps.drewN _ _ _)⟩
                      | true =>
                        rw [h3] at H3
                        have HG : Box (imnB P y = true) := hid (by rw [HIM.out, h1, h2, h3]; rfl)
                        clear h1 h2 h3
                        go_quiet (first | (go_at_call 29; with_reducible exact Calls.quiet_of_same (H1.out _)) | (go_at_call 29; with_reducible exact Calls.quiet_of_same (H2.out _)) | (go_at_call 74; with_reducible exact Calls.quiet_of_same (H3.out _)))
                        go_wp2_with fail
                        go_roundw
                        case rel => exact ⟨k + 1, by omega, by go_num, hid (HKA.out.quiet (Keeps.drewN _ _ _)), hid (REL.out HG.out)⟩
                        case measure => simp [intOf]; omega
                · obtain rfl : n3 = k := by omega
                  have T3 : Box (P.ims.all (imnB P) = true) := hid (all_good (fun j y hy => HB.out j y (by rw [N3.out]; exact (List.getElem?_eq_some_iff.1 hy).1) hy))
                  have HE : Box (tablesB P = true) := hid (by unfold tablesB; rw [T0.out, T1.out, T2.out, T3.out]; rfl)
                  clear HB hk
                  go_wp2_with fail
                  go_ret
                  exact ⟨by rw [HE.out]; rfl, HK.out⟩
end Go.Proofs.YtlopddflbhnjdaaDoor

namespace Go.Proofs.YtlopddflbhnjdaaDoor
open Go.RowKit

set_option maxRecDepth 20000 in
set_option maxHeartbeats 8000000 in
theorem names_any {w : World} {pb po : Nat} {P : Pr8} (h : PrC w pb po P) (ha : FewA P) : Calls Tryd.prog 20 #[.pointer (some ⟨pb, po, none⟩)] w (EPost (namesO P) 3 w) := by
  have HT := hid (tables_any h)
  have HF := hid fun (w' : World) (k : Keeps [] w w') (f : Nat) (hf : f < P.funcs.length) => fnames_any (PrC.stays _ _ _ _ _ k h) ha hf
  have HRF := hid fun (w' : World) => refused_any 3 w'
  have HW := hid fun (w' : World) => within_any P.main P.funcs.length w'
  obtain ⟨fa, fp, c4, _, _, hfl⟩ := h.c4
  have c5 := h.c5.1
  have C4 : Box (∀ w', Keeps [] w w' → w'.cell? ⟨pb, po + 4, none⟩ = some (.slice fa P.funcs.length fp)) := hid fun w' k => cell_stays k c4
  have C5 : Box (∀ w', Keeps [] w w' → w'.cell? ⟨pb, po + 5, none⟩ = some (.int .i64 P.main)) := hid fun w' k => cell_stays k c5
  have HT0 := hid (namesO_tab (P := P))
  have HFN := hid fun (h1 : tablesB P = true) (k : Nat) (h2 : k < P.funcs.length) (h3 : ∀ j, j < k → fnNm P j = none) (q : Int × Int × Int) (h4 : fnNm P k = some q) => namesO_fn h1 h2 h3 h4
  have HEND := hid fun (h1 : tablesB P = true) (h3 : ∀ j, j < P.funcs.length → fnNm P j = none) => namesO_end h1 h3
  clear h ha c4 c5
  obtain ⟨n, hn⟩ : ∃ n, n = P.funcs.length := ⟨_, rfl⟩
  rw [← hn] at C4 hfl HW HEND
  have HN := hid hn
  have hn9 : (n : Int) ≤ 9223372036854775807 := by unfold maxLen at hfl; omega
  clear hn hfl
  go_enter Tryd.func20, Tryd.ntmps20
  go_wp2_with fail
  refine HT.out.mono ?_
  rintro e w1 ⟨rfl, k1⟩
  have K1 := hid k1
  clear k1 HT
  cases ht : tablesB P with
  | false =>
    have HQ := hid (HT0.out ht)
    go_wp2_with fail
    refine (HRF.out _).mono ?_
    rintro e w2 ⟨p, rfl, h1, h2⟩
    go_wp2_with fail
    go_ret
    exact EPost.no HQ.out ⟨p, rfl, h1, K1.out.quiet h2⟩
  | true =>
    have HTT := hid ht
    clear ht
    have c4 := C4.out _ K1.out
    go_wp2_with fail
    clear c4
    go_loopw [18] (fun kv wr => ∃ k : Nat, k ≤ n ∧ kv = .int .i64 (k : Int) ∧ Box (Keeps [] w wr) ∧ Box (∀ j, j < k → fnNm P j = none)) (fun kv _ => n - (intOf kv).toNat)
    case atStart => exact ⟨0, by omega, rfl, K1, hid fun j hj => by omega⟩
    case round =>
      obtain ⟨k, hk, rfl, HK, HB⟩ := hrel
      clear K1
      by_cases hlt : k < n
      · have hlt' : (k : Int) < (n : Int) := by omega
        have HC := hid (HF.out wr HK.out k (by rw [← HN.out]; exact hlt))
        go_wp2_with fail
        refine HC.out.mono ?_
        intro e w2 hp
        cases hq : fnNm P k with
        | none =>
          rw [hq] at hp
          obtain ⟨rfl, k2⟩ := hp
          have K2 := hid (HK.out.quiet k2)
          have HB2 : Box (∀ j, j < k + 1 → fnNm P j = none) := hid fun j hj => by
            by_cases e : j < k
            · exact HB.out j e
            · obtain rfl : j = k := by omega
              exact hq
          clear k2 hq
          go_wp2_with fail
          go_roundw
          case rel => exact ⟨k + 1, by omega, by go_num, K2, HB2⟩
          case measure => simp [intOf]; omega
        | some q =>
          rw [hq] at hp
          obtain ⟨p, rfl, h1, k2⟩ := hp
          have HQ := hid (HFN.out HTT.out k (by rw [← HN.out]; exact hlt) HB.out q hq)
          have H1 := hid h1
          have K2 := hid (HK.out.quiet k2)
          clear k2 hq h1
          go_wp2_with fail
          go_ret
          exact EPost.no HQ.out ⟨p, rfl, H1.out, K2.out⟩
      · obtain rfl : n = k := by omega
        have HE := hid (HEND.out HTT.out HB.out)
        have c4 := C4.out _ HK.out
        have c5 := C5.out _ HK.out
        go_upto_region 10 with fail
        cases hm : inB P.main n with
        | true =>
          rw [hm] at HW HE
          have HQ : Box (namesO P = none) := hid (by rw [HE.out]; rfl)
          clear hm
          go_quiet ((go_at_call 29; exact Calls.quiet_of_same (HW.out _)))
          go_wp2_with fail
          go_ret
          exact EPost.yes HQ.out ⟨rfl, HK.out.quiet (Keeps.drewN _ _ _)⟩
        | false =>
          rw [hm] at HW HE
          have HQ : Box (namesO P = some (-1, 0, 0)) := hid (by rw [HE.out]; rfl)
          clear hm
          go_quiet ((go_at_call 29; exact Calls.quiet_of_same (HW.out _)))
          go_wp2_with fail
          refine (HRF.out _).mono ?_
          rintro e w2 ⟨p, rfl, h1, h2⟩
          go_wp2_with fail
          go_ret
          exact EPost.no HQ.out ⟨p, rfl, h1, (HK.out.quiet (Keeps.drewN _ _ _)).quiet h2⟩
end Go.Proofs.YtlopddflbhnjdaaDoor
