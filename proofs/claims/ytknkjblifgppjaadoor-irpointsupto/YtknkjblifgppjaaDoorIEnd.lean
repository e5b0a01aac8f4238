/-
  ir.endLine, ir.write: a block's end as text; a line written.
-/
import Derived.Test.YtknkjblifgppjaaDoorILine
import Derived.Test.YtknkjblifgppjaaDoorIFun
namespace Go.Proofs.YtknkjblifgppjaaDoor
open Go.RowKit Go.Shelf

def endB (x : Bl8) : ByteArray :=
  if x.fin = 1 then ⟨#[106, 117, 109, 112, 32]⟩ ++ decB x.to
  else if x.fin = 2 then ⟨#[98, 114, 97, 110, 99, 104, 32]⟩ ++ regB x.reg ++ ⟨#[32]⟩ ++ decB x.to ++ ⟨#[32]⟩ ++ decB x.els
  else if x.fin = 3 then ⟨#[114, 101, 116, 117, 114, 110, 32]⟩ ++ regB x.reg
  else ⟨#[63]⟩
theorem endB_size (x : Bl8) (h1 : wf64 x.reg) (h2 : wf64 x.to) (h3 : wf64 x.els) : (endB x).size ≤ 80 := by
  have g1 := regB_size x.reg h1
  have g2 := decB_size x.to h2
  have g3 := decB_size x.els h3
  unfold endB
  by_cases f1 : x.fin = 1
  · rw [if_pos f1, ByteArray.size_append]
    show 5 + (decB x.to).size ≤ 80
    omega
  rw [if_neg f1]
  by_cases f2 : x.fin = 2
  · rw [if_pos f2, ByteArray.size_append, ByteArray.size_append, ByteArray.size_append, ByteArray.size_append, ByteArray.size_append]
    show 7 + (regB x.reg).size + 1 + (decB x.to).size + 1 + (decB x.els).size ≤ 80
    omega
  rw [if_neg f2]
  by_cases f3 : x.fin = 3
  · rw [if_pos f3, ByteArray.size_append]
    show 7 + (regB x.reg).size ≤ 80
    omega
  rw [if_neg f3]
  show 1 ≤ 80
  omega

set_option maxHeartbeats 8000000 in
theorem end_any {w : World} {q o : Nat} {x : Bl8} (h : BlC w q o x) (hg : Glob w) :
    Calls Tryd.prog 50 #[.pointer (some ⟨q, o, none⟩)] w fun e w' => e = .returned (.string (endB x)) ∧ Keeps [] w w' := by
  have c1 := h.c1.1
  have c2 := h.c2.1
  have c3 := h.c3.1
  have c4 := h.c4.1
  have r2 := h.c2.2
  have r3 := h.c3.2
  have r4 := h.c4.2
  unfold endB
  by_cases f1 : x.fin = 1
  · rw [if_pos f1]
    rw [f1] at c1
    have HN := hid (itoa_keep x.to r3 w hg)
    have z := decB_size x.to r3
    generalize decB x.to = D at *
    have a1 := fun w => add_big ⟨#[106, 117, 109, 112, 32]⟩ D (by have : (⟨#[106, 117, 109, 112, 32]⟩ : ByteArray).size = 5 := rfl; omega) w
    have b1 : ¬ 9223372036854775807 < D.size + 5 := by omega
    have b2 : ¬ 9223372036854775807 < 5 + D.size := by omega
    clear h hg r2 r3 r4
    go_enter Tryd.func50, Tryd.ntmps50
    go_wp2_with (go_at_call 40; refine HN.out.mono ?_; rintro e w1 ⟨rfl, K1⟩)
    go_ret
    exact ⟨rfl, K1⟩
  rw [if_neg f1]
  have o1 := neb f1
  by_cases f2 : x.fin = 2
  · rw [if_pos f2]
    rw [f2] at c1
    have hw : ∀ {f : Nat} {args : Array Value} {r : Value} {w' : World} (k : Keeps [] w w') (hc : Calls Tryd.prog f args w' fun e w2 => e = .returned r ∧ Keeps [] w' w2), Calls Tryd.prog f args w' fun e w2 => e = .returned r ∧ Keeps [] w w2 ∧ w2.cell? ⟨q, o + 2, none⟩ = some (.int .i64 x.reg) ∧ w2.cell? ⟨q, o + 3, none⟩ = some (.int .i64 x.to) ∧ w2.cell? ⟨q, o + 4, none⟩ = some (.int .i64 x.els) := fun k hc =>
      hc.mono fun _ _ h9 => ⟨h9.1, k.quiet h9.2, cell_stays (k.quiet h9.2) c2, cell_stays (k.quiet h9.2) c3, cell_stays (k.quiet h9.2) c4⟩
    have HR := hid fun (w' : World) (k : Keeps [] w w') => hw k (reg_any x.reg r2 w' (hg.quiet k))
    have HT := hid fun (w' : World) (k : Keeps [] w w') => hw k (itoa_keep x.to r3 w' (hg.quiet k))
    have HE := hid fun (w' : World) (k : Keeps [] w w') => hw k (itoa_keep x.els r4 w' (hg.quiet k))
    have z1 := regB_size x.reg r2
    have z2 := decB_size x.to r3
    have z3 := decB_size x.els r4
    have e7 : (⟨#[98, 114, 97, 110, 99, 104, 32]⟩ : ByteArray).size = 7 := rfl
    have e8 : (⟨#[32]⟩ : ByteArray).size = 1 := rfl
    generalize regB x.reg = R at *
    generalize decB x.to = T at *
    generalize decB x.els = E at *
    have b1 : ¬ 9223372036854775807 < 7 + R.size := by omega
    have b2 : ¬ 9223372036854775807 < 7 + R.size + 1 := by omega
    have b3 : ¬ 9223372036854775807 < 7 + R.size + 1 + T.size := by omega
    have b4 : ¬ 9223372036854775807 < 7 + R.size + 1 + T.size + 1 := by omega
    have b5 : ¬ 9223372036854775807 < 7 + R.size + 1 + T.size + 1 + E.size := by omega
    clear h hg r2 r3 r4 hw e7 e8
    go_enter Tryd.func50, Tryd.ntmps50
    go_wp2_with fail
    go_region_held3 (fun w' => w'.cell? ⟨q, o + 2, none⟩ = some (.int .i64 x.reg) ∧ w'.cell? ⟨q, o + 3, none⟩ = some (.int .i64 x.to) ∧ w'.cell? ⟨q, o + 4, none⟩ = some (.int .i64 x.els)) (go_keep) (first
      | (go_at_call 33; refine (HR.out _ (by first | assumption | exact Keeps.drew _ _)).mono ?_; rintro e w1 ⟨rfl, K1, d2, d3, d4⟩)
      | (go_at_call 40; first | (refine (HT.out _ (by first | assumption | exact Keeps.drew _ _)).mono ?_; rintro e w1 ⟨rfl, K1, d2, d3, d4⟩) | (refine (HE.out _ (by first | assumption | exact Keeps.drew _ _)).mono ?_; rintro e w1 ⟨rfl, K1, d2, d3, d4⟩)))
    go_wp2_with fail
    go_ret
    exact ⟨rfl, by assumption⟩
  rw [if_neg f2]
  have o2 := neb f2
  by_cases f3 : x.fin = 3
  · rw [if_pos f3]
    rw [f3] at c1
    have HN := hid (reg_any x.reg r2 w hg)
    have z := regB_size x.reg r2
    generalize regB x.reg = D at *
    have a1 := fun w => add_big ⟨#[114, 101, 116, 117, 114, 110, 32]⟩ D (by have : (⟨#[114, 101, 116, 117, 114, 110, 32]⟩ : ByteArray).size = 7 := rfl; omega) w
    have b1 : ¬ 9223372036854775807 < D.size + 7 := by omega
    have b2 : ¬ 9223372036854775807 < 7 + D.size := by omega
    clear h hg r2 r3 r4
    go_enter Tryd.func50, Tryd.ntmps50
    go_wp2_with (go_at_call 33; refine HN.out.mono ?_; rintro e w1 ⟨rfl, K1⟩)
    go_ret
    exact ⟨rfl, K1⟩
  rw [if_neg f3]
  have o3 := neb f3
  clear h hg r2 r3 r4
  go_enter Tryd.func50, Tryd.ntmps50
  go_wp2
  go_ret
  exact ⟨rfl, Keeps.refl _ _⟩
end Go.Proofs.YtknkjblifgppjaaDoor
