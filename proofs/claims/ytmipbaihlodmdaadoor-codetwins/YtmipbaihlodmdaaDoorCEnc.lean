/-
  code's writer of a program; Encode.
-/
import Derived.Test.YtmipbaihlodmdaaDoorCWb
import Derived.Test.YtmipbaihlodmdaaDoorQAs
namespace Go.Proofs.YtmipbaihlodmdaaDoor
open Go.RowKit

theorem PrC.ok {w : World} {b o : Nat} {P : Pr8} (h : PrC w b o P) : prOk P := by
  have hlen : ∀ {n : Nat}, n ≤ maxLen → b64 (n : Int) := fun h => by unfold b64; unfold maxLen at h; omega
  have lst : ∀ {α : Type} {c : Nat} {R : World → Nat → Nat → α → Prop} {ok : α → Prop} (hR : ∀ b o x, R w b o x → ok x) {b o : Nat} {l : List α}, SlC c R w b o l → listOk ok l := fun {α c R ok} hR {b o l} h => by
    obtain ⟨a, cp, _, h2, _, h4⟩ := h
    refine ⟨hlen h4, fun x hx => ?_⟩
    obtain ⟨i, hi, e⟩ := List.getElem_of_mem hx
    obtain ⟨_, _, _, h9⟩ := h2.at (j := i) (y := x) (by rw [List.getElem?_eq_getElem hi, e])
    exact hR _ _ _ h9
  have i1 : ∀ b o x, IntC w b o x → b64 x := fun _ _ _ h => h.2
  have t1 : ∀ b o x, TyC w b o x → tyOk x := fun _ _ _ h => ⟨h.c0.2, h.c1.2⟩
  have is : ∀ b o x, IntsC w b o x → intsOk x := fun _ _ _ h => lst i1 h
  have ts : ∀ b o x, SlC 2 TyC w b o x → tysOk x := fun _ _ _ h => lst t1 h
  have s1 : ∀ b o x, SgC w b o x → sgOk x := fun _ _ _ h => ⟨ts _ _ _ h.c0, h.c1.2, h.c2.2⟩
  have m1 : ∀ b o x, ImC w b o x → imOk x := fun _ _ _ h => ⟨h.c0.2, h.c1.2, is _ _ _ h.c2⟩
  have n1 : ∀ b o x, InC w b o x → inOk x := fun _ _ _ h => ⟨h.c0.2, h.c1.2, h.c2.2, h.c3.2, h.c4.2, is _ _ _ h.c5⟩
  have b1 : ∀ b o x, BlC w b o x → blOk x := fun _ _ _ h => ⟨lst n1 h.c0, h.c1.2, h.c2.2, h.c3.2, h.c4.2⟩
  have f1 : ∀ b o x, FuC w b o x → fuOk x := fun _ _ _ h => ⟨h.c0.2, ts _ _ _ h.c1, lst b1 h.c2⟩
  exact ⟨lst ts h.c0, lst s1 h.c1, lst is h.c2, lst m1 h.c3, lst f1 h.c4, h.c5.2⟩

set_option maxRecDepth 20000 in
set_option maxHeartbeats 4000000 in
theorem wprog_any {w0 w : World} {wb pb po : Nat} {B : List UInt8} {P : Pr8} (h : WrW w0 w wb B) (hP : PrC w0 pb po P) : Calls Tryd.prog 23 #[.pointer (some ⟨wb, 0, none⟩), .pointer (some ⟨pb, po, none⟩)] w (NumPost w0 w wb B (prE P)) := by
  obtain ⟨a0, p0, e0, v0⟩ := hP.c0.val
  obtain ⟨a1, p1, e1, v1⟩ := hP.c1.val
  obtain ⟨a2, p2, e2, v2⟩ := hP.c2.val
  obtain ⟨a3, p3, e3, v3⟩ := hP.c3.val
  obtain ⟨a4, p4, e4, v4⟩ := hP.c4.val
  have e5 := hP.c5.1
  have v5 := hP.c5.2
  have H0 := hid fun (w' : World) (B1 : List UInt8) (h : WrW w0 w' wb B1) => wtyss_any h v0
  have H1 := hid fun (w' : World) (B1 : List UInt8) (h : WrW w0 w' wb B1) => wsgs_any h v1
  have H2 := hid fun (w' : World) (B1 : List UInt8) (h : WrW w0 w' wb B1) => wifs_any h v2
  have H3 := hid fun (w' : World) (B1 : List UInt8) (h : WrW w0 w' wb B1) => wims_any h v3
  have H4 := hid fun (w' : World) (B1 : List UInt8) (h : WrW w0 w' wb B1) => wfus_any h v4
  have H5 := hid fun (w' : World) (B1 : List UInt8) (h : WrW w0 w' wb B1) => number_any h P.main v5
  have HC : Box (∀ w', Keeps [] w0 w' → w'.cell? ⟨pb, po, none⟩ = some (.slice a0 P.recs.length p0) ∧ w'.cell? ⟨pb, po + 1, none⟩ = some (.slice a1 P.sigs.length p1) ∧ w'.cell? ⟨pb, po + 2, none⟩ = some (.slice a2 P.ifs.length p2) ∧ w'.cell? ⟨pb, po + 3, none⟩ = some (.slice a3 P.ims.length p3) ∧ w'.cell? ⟨pb, po + 4, none⟩ = some (.slice a4 P.funcs.length p4) ∧ w'.cell? ⟨pb, po + 5, none⟩ = some (.int .i64 P.main)) := hid (by
    have e0' := e0
    have e1' := e1
    have e2' := e2
    have e3' := e3
    have e4' := e4
    have e5' := e5
    exact fun w' k => ⟨cell_stays k e0', cell_stays k e1', cell_stays k e2', cell_stays k e3', cell_stays k e4', cell_stays k e5'⟩)
  have HE : Box (tyssE P.recs ++ sgsE P.sigs ++ ifsE P.ifs ++ imsE P.ims ++ fusE P.funcs ++ numE P.main = prE P) := hid (by simp only [prE, pairE, List.append_assoc])
  clear v0 v1 v2 v3 v4 v5 e0 e1 e2 e3 e4 e5 hP
  obtain ⟨e0, _⟩ := HC.out _ h.keeps
  go_enter Tryd.func23, Tryd.ntmps23
  go_wp2_with fail
  refine (H0.out _ _ h).mono ?_
  rintro e w1 ⟨rfl, B1, W1, A1, X1⟩
  clear e0 H0
  obtain ⟨_, e1, _⟩ := HC.out _ W1.keeps
  go_wp2_with fail
  refine (H1.out _ _ W1).mono ?_
  rintro e w2 ⟨rfl, B2, W2, A2, X2⟩
  clear e1 H1
  obtain ⟨_, _, e2, _⟩ := HC.out _ W2.keeps
  go_wp2_with fail
  refine (H2.out _ _ W2).mono ?_
  rintro e w3 ⟨rfl, B3, W3, A3, X3⟩
  clear e2 H2
  obtain ⟨_, _, _, e3, _⟩ := HC.out _ W3.keeps
  go_wp2_with fail
  refine (H3.out _ _ W3).mono ?_
  rintro e w4 ⟨rfl, B4, W4, A4, X4⟩
  clear e3 H3
  obtain ⟨_, _, _, _, e4, _⟩ := HC.out _ W4.keeps
  go_wp2_with fail
  refine (H4.out _ _ W4).mono ?_
  rintro e w5 ⟨rfl, B5, W5, A5, X5⟩
  clear e4 H4
  obtain ⟨_, _, _, _, _, e5⟩ := HC.out _ W5.keeps
  go_wp2_with fail
  refine (H5.out _ _ W5).mono ?_
  rintro e w6 ⟨rfl, B6, W6, A6, X6⟩
  go_wp2_with fail
  go_end0
  exact ⟨rfl, B6, W6, (((((A1.trans A2).trans A3).trans A4).trans A5).trans A6).cast HE.out, ((((X1.trans X2).trans X3).trans X4).trans X5).trans X6⟩

/-- What Encode tells. -/
def EncPost (w : World) (P : Pr8) (e : Ending) (w' : World) : Prop :=
  Keeps [] w w' ∧ (((prE P).length ≤ 20000 ∧ ∃ a cp, e = .returned (.tuple #[.slice a (prE P).length cp, .nilIface]) ∧ BytesAt w' a (prE P) ∧ (prE P).length ≤ cp) ∨ (20000 < (prE P).length ∧ ∃ p, e = .returned (.tuple #[.slice none 0 0, errV p]) ∧ RefAt w' p))
set_option maxRecDepth 20000 in
set_option maxHeartbeats 4000000 in
theorem encode_any {w : World} {pb po : Nat} {P : Pr8} (hP : PrC w pb po P) : Calls Tryd.prog 12 #[.pointer (some ⟨pb, po, none⟩)] w (EncPost w P) := by
  have k0 := Keeps.alloc [] w (.cells #[.slice none 0 0] 69)
  have W0 : WrW w (w.alloc (.cells #[.slice none 0 0] 69)) w.heap.size [] := ⟨⟨_, heap_new _ _, OB.nil k0⟩, Nat.le_refl _, by simp⟩
  have HP := hid (wprog_any W0 hP)
  have HR := hid fun (w' : World) => refused_any w'
  clear hP k0 W0
  go_enter Tryd.func12, Tryd.ntmps12
  go_wp2_with fail
  refine HP.out.mono ?_
  rintro e w1 ⟨rfl, B1, W1, A1, _⟩
  have HF := hid (full_any W1)
  have HW := hid W1
  have HA := hid A1
  generalize w.heap.size = wb at *
  by_cases hf : 20000 < B1.length
  · rw [decide_eq_true hf] at HF
    clear HP W1 A1
    go_wp2_with fail
    refine HF.out.mono ?_
    rintro e w2 ⟨rfl, rfl⟩
    go_wp2_with fail
    refine (HR.out _).mono ?_
    rintro e w3 ⟨p, rfl, h1, h2⟩
    go_wp2_with fail
    go_ret2
    refine ⟨HW.out.keeps.quiet h2, .inr ⟨?_, p, rfl, h1⟩⟩
    apply Classical.byContradiction
    intro hn
    have e := HA.out.1 (by simp; omega)
    rw [e] at hf
    simp at hf
    omega
  · rw [decide_eq_false hf] at HF
    obtain ⟨v, hv, hO⟩ := W1.ex
    obtain ⟨a, cp, rfl, hB, hcp, _⟩ := hO.open
    have c0 := hcell hv 0
    have hle : (prE P).length ≤ 20000 := by
      apply Classical.byContradiction
      intro hn
      exact hf (A1.2 (by simp; omega))
    have e := A1.1 (by simp; omega)
    rw [List.nil_append] at e
    subst e
    have HB := hid hB
    have HC := hid (And.intro hle hcp)
    clear HP W1 A1 hv hO hB hf hle hcp HA
    obtain ⟨n, hn⟩ : ∃ n, n = (prE P).length := ⟨_, rfl⟩
    have HN := hid hn
    rw [← hn] at c0
    clear hn
    go_wp2_with fail
    refine HF.out.mono ?_
    rintro e w2 ⟨rfl, rfl⟩
    go_wp2_with fail
    go_ret2
    exact ⟨HW.out.keeps, .inl ⟨HC.out.1, a, cp, by rw [HN.out]; rfl, HB.out, HC.out.2⟩⟩
theorem encode_nil (w : World) : Calls Tryd.prog 12 #[.pointer none] w fun e w' => ∃ p, e = .returned (.tuple #[.slice none 0 0, errV p]) ∧ RefAt w' p ∧ Keeps [] w w' := by
  have HR := hid (refused_any w)
  go_enter Tryd.func12, Tryd.ntmps12
  go_wp2_with fail
  refine HR.out.mono ?_
  rintro e w3 ⟨p, rfl, h1, h2⟩
  go_wp2_with fail
  go_ret2
  exact ⟨p, rfl, h1, h2⟩
end Go.Proofs.YtmipbaihlodmdaaDoor
