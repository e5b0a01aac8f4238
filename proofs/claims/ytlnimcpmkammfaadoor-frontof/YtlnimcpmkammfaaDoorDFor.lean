/-
  Contracts: dom's forest: link, least.
-/
import Derived.Test.YtlnimcpmkammfaaDoorDPre
import Derived.Test.YtlnimcpmkammfaaDoorGTurn
import Derived.Deep.RegionHeld3
import Derived.Deep.DrawnRows
import Derived.Deep.DeepCutAuto
namespace Go.Proofs.YtlnimcpmkammfaaDoor
open Go.RowKit
attribute [local go_sem ↓] Go.wp_at_zero Go.wp_at_succ

/-- A struct in its block. -/
structure StAt (w : World) (b : Nat) (T : TypeId) (vs : Array Value) : Prop where
  heap : w.heap[b]? = some (.cells vs T (0, 0))
theorem StAt.cell {w : World} {b : Nat} {T : TypeId} {vs : Array Value} (h : StAt w b T vs) (k : Nat) : w.cell? ⟨b, k, none⟩ = vs[k]? := cell_of_row w b k _ _ _ h.heap
theorem StAt.frozen {w : World} {b : Nat} {T : TypeId} {vs : Array Value} (h : StAt w b T vs) (k : Nat) : w.frozen? ⟨b, k, none⟩ = false := frozen_of_row w b k _ _ h.heap
theorem StAt.lt {w : World} {b : Nat} {T : TypeId} {vs : Array Value} (h : StAt w b T vs) : b < w.heap.size := (Array.getElem?_eq_some_iff.1 h.heap).1
theorem StAt.kept {w w' : World} {b : Nat} {T : TypeId} {vs : Array Value} {L : List Nat} (h : StAt w b T vs) (k : Keeps L w w') (hb : b ∉ L) : StAt w' b T vs := ⟨by rw [k.block b h.lt hb]; exact h.heap⟩
theorem StAt.new (w : World) (T : TypeId) (vs : Array Value) : StAt (w.alloc (.cells vs T)) w.heap.size T vs := ⟨heap_alloc_new w _⟩
theorem StAt.ne_row {w : World} {b base p n : Nat} {T S : TypeId} {vs : Array Value} {c : Nat → Value} (h : StAt w b T vs) (hr : RowAt w base p n S c) (hT : T ≠ S) : b ≠ p := by
  rintro rfl
  obtain ⟨cur, hc⟩ := hr.heap
  have := h.heap
  rw [hc] at this
  injection this with e
  injection e with _ e2
  exact hT e2.symm

/-- Numbers, some of which may be -1. -/
def numI (c : Nat → Int) : Nat → Value := fun i => .int .i64 (c i)
theorem numI_put {w : World} {base p n : Nat} {A : Nat → Int} (h : RowAt w base p n 3 (numI A)) (x : Nat) (v : Int) : RowAt (w.setCell ⟨p, x, none⟩ (.int .i64 v)) base p n 3 (numI (fun i => if i = x then v else A i)) := by
  refine (h.put x (.int .i64 v)).congr (fun i _ => ?_)
  unfold numI
  by_cases e : i = x
  · simp [e]
  · simp [e]
theorem num_put {w : World} {base p n : Nat} {A : Nat → Nat} (h : RowAt w base p n 3 (num A)) (x v : Nat) : RowAt (w.setCell ⟨p, x, none⟩ (.int .i64 ((v : Nat) : Int))) base p n 3 (num (fun i => if i = x then v else A i)) := by
  refine (h.put x (.int .i64 ((v : Nat) : Int))).congr (fun i _ => ?_)
  unfold num
  by_cases e : i = x
  · simp [e]
  · simp [e]

/-- A forest in memory. -/
structure ForAt (w : World) (base b pa pl K : Nat) (A : Nat → Int) (L : Nat → Nat) : Prop where
  st : StAt w b 85 #[.slice (some ⟨pa, 0, none⟩) K K, .slice (some ⟨pl, 0, none⟩) K K]
  ab : RowAt w base pa K 3 (numI A)
  lo : RowAt w base pl K 3 (num L)
  ne : pa ≠ pl
theorem ForAt.kept {w w' : World} {base b pa pl K : Nat} {A : Nat → Int} {L : Nat → Nat} {F : List Nat} (h : ForAt w base b pa pl K A L) (k : Keeps F w w') (hb : b ∉ F) (ha : pa ∉ F) (hl : pl ∉ F) : ForAt w' base b pa pl K A L :=
  ⟨h.st.kept k hb, h.ab.kept k ha, h.lo.kept k hl, h.ne⟩
theorem ForAt.quiet {w w' : World} {base b pa pl K : Nat} {A : Nat → Int} {L : Nat → Nat} (h : ForAt w base b pa pl K A L) (k : Keeps [] w w') : ForAt w' base b pa pl K A L := h.kept k (by simp) (by simp) (by simp)
theorem ForAt.b_ne {w : World} {base b pa pl K : Nat} {A : Nat → Int} {L : Nat → Nat} (h : ForAt w base b pa pl K A L) : b ≠ pa ∧ b ≠ pl := ⟨h.st.ne_row h.ab (by decide), h.st.ne_row h.lo (by decide)⟩
theorem ForAt.setA {w : World} {base b pa pl K : Nat} {A : Nat → Int} {L : Nat → Nat} (h : ForAt w base b pa pl K A L) (x : Nat) (v : Int) : ForAt (w.setCell ⟨pa, x, none⟩ (.int .i64 v)) base b pa pl K (fun i => if i = x then v else A i) L := by
  have k : Keeps [pa] w (w.setCell ⟨pa, x, none⟩ (.int .i64 v)) := Keeps.setCell [pa] _ _ _ (by simp)
  exact ⟨h.st.kept k (by simp; exact h.b_ne.1), numI_put h.ab x v, h.lo.kept k (by simp; exact fun e => h.ne e.symm), h.ne⟩
theorem ForAt.setL {w : World} {base b pa pl K : Nat} {A : Nat → Int} {L : Nat → Nat} (h : ForAt w base b pa pl K A L) (x v : Nat) : ForAt (w.setCell ⟨pl, x, none⟩ (.int .i64 ((v : Nat) : Int))) base b pa pl K A (fun i => if i = x then v else L i) := by
  have k : Keeps [pl] w (w.setCell ⟨pl, x, none⟩ (.int .i64 ((v : Nat) : Int))) := Keeps.setCell [pl] _ _ _ (by simp)
  exact ⟨h.st.kept k (by simp; exact h.b_ne.2), h.ab.kept k (by simp; exact h.ne), num_put h.lo x v, h.ne⟩
theorem ForAt.c0 {w : World} {base b pa pl K : Nat} {A : Nat → Int} {L : Nat → Nat} (h : ForAt w base b pa pl K A L) : w.cell? ⟨b, 0, none⟩ = some (.slice (some ⟨pa, 0, none⟩) K K) := h.st.cell 0
theorem ForAt.c1 {w : World} {base b pa pl K : Nat} {A : Nat → Int} {L : Nat → Nat} (h : ForAt w base b pa pl K A L) : w.cell? ⟨b, 1, none⟩ = some (.slice (some ⟨pl, 0, none⟩) K K) := h.st.cell 1

set_option maxHeartbeats 1000000 in
theorem link_any (base b pa pl K k q s : Nat) (A : Nat → Int) (L : Nat → Nat) (w : World) (h : ForAt w base b pa pl K A L) (hk : k < K) :
    Calls Tryd.prog 50 #[.pointer (some ⟨b, 0, none⟩), .int .i64 (k : Int), .int .i64 (q : Int), .int .i64 (s : Int)] w fun e w' => e = .returned (.tuple #[]) ∧ ForAt w' base b pa pl K (fun i => if i = k then (q : Int) else A i) (fun i => if i = k then s else L i) ∧ Keeps [pa, pl] w w' := by
  have H := hid h
  have c0 := h.c0
  have c1 := h.c1
  have fa := h.ab.frozen k
  have fl := h.lo.frozen k
  have ca := h.ab.cell hk
  have cl := h.lo.cell hk
  have hk' : (k : Int) < (K : Int) := by omega
  have hne := h.ne
  clear h
  go_enter Tryd.func50, Tryd.ntmps50
  go_region
  have h1 := (H.out.setA k (q : Int)).setL k s
  have k1 : Keeps [pa, pl] w (w.setCell ⟨pa, k, none⟩ (.int .i64 (q : Int))) := Keeps.setCell _ _ _ _ (by simp)
  have k2 : Keeps [pa, pl] (w.setCell ⟨pa, k, none⟩ (.int .i64 (q : Int))) ((w.setCell ⟨pa, k, none⟩ (.int .i64 (q : Int))).setCell ⟨pl, k, none⟩ (.int .i64 (s : Int))) := Keeps.setCell _ _ _ _ (by simp)
  go_end0
  exact ⟨rfl, h1.quiet (Keeps.drew [] _), (k1.step k2).quiet (Keeps.drew [] _)⟩

theorem min_nat (a b : Nat) : (if b < a then (b : Int) else (a : Int)) = ((min a b : Nat) : Int) := by
  by_cases h : b < a
  · rw [if_pos h]; congr 1; omega
  · rw [if_neg h]; congr 1; omega

set_option maxRecDepth 20000 in
set_option maxHeartbeats 2000000 in
theorem least_any {K : Nat} {E : Nat → Nat → Prop} {p : Nat → Nat} {semi : Nat → Nat} {k : Nat} (t : Tr K E p) (base b pa pl : Nat) (hK : K ≤ 600) :
    ∀ (n x : Nat) (A : Nat → Int) (L : Nat → Nat) (w : World), x ≤ n → x < K → Fo K p semi k A L → ForAt w base b pa pl K A L →
    Calls Tryd.prog 49 #[.pointer (some ⟨b, 0, none⟩), .int .i64 (x : Int)] w fun e w' => ∃ A' L' r, e = .returned (.int .i64 ((r : Nat) : Int)) ∧ ForAt w' base b pa pl K A' L' ∧ Fo K p semi k A' L' ∧ Low p semi k x r ∧ (∀ y, x < y → A' y = A y ∧ L' y = L y) ∧ (k < x → ∃ t : Nat, A' x = (t : Int) ∧ t ≤ k) ∧ Keeps [pa, pl] w w'
  | n, x, A, L, w, hxn, hx, hfo, h => by
    have HT := hid t
    have H := hid h
    have HF := hid hfo
    have c0 := h.c0
    have c1 := h.c1
    have cl := h.lo.cell hx
    have ca := h.ab.cell hx
    have hx' : (x : Int) < (K : Int) := by omega
    have hx6 : x < 600 := by omega
    unfold num at cl
    unfold numI at ca
    by_cases hkx : x ≤ k
    · have e1 := (hfo.top x hkx hx).1
      have HL := hid (hfo.low hx (fun a ha => by rw [e1] at ha; omega))
      rw [e1] at ca
      clear h hfo t e1
      go_enter Tryd.func49, Tryd.ntmps49
      go_wp2
      go_ret
      exact ⟨A, L, L x, rfl, H.out, HF.out, HL.out, fun _ _ => ⟨rfl, rfl⟩, fun h => by omega, Keeps.refl _ _⟩
    · obtain ⟨a, h1, h2, h3, _⟩ := hfo.above x (by omega) hx
      have cb := h.ab.cell (k := a) (by omega)
      unfold numI at cb
      have ha6 : a < 600 := by omega
      have ha' : (a : Int) < (K : Int) := by omega
      have hne : ((a : Int) != (-1)) = true := by simp
      rw [h1] at ca
      by_cases hka : a ≤ k
      · have e1 := (hfo.top a hka (by omega)).1
        have HL := hid (hfo.low hx (fun a' ha => by rw [h1] at ha; omega))
        have HA := hid h1
        rw [e1] at cb
        clear h hfo t e1 h1 h3
        go_enter Tryd.func49, Tryd.ntmps49
        go_wp2
        go_ret
        exact ⟨A, L, L x, rfl, H.out, HF.out, HL.out, fun _ _ => ⟨rfl, rfl⟩, fun _ => ⟨a, HA.out, hka⟩, Keeps.refl _ _⟩
      · obtain ⟨b1, g1, g2, _⟩ := hfo.above a (by omega) (by omega)
        rw [g1] at cb
        have hne2 : ((b1 : Int) != (-1)) = true := by simp
        match n, hxn with
        | 0, hxn => omega
        | n + 1, hxn =>
          have HFshort := hid (fun A1 L1 r b1 (q1 : Fo K p semi k A1 L1) (q2 : A1 x = (a : Int)) (q3 : A1 a = ((b1 : Nat) : Int)) (q4 : b1 ≤ k) (q5 : Low p semi k a r) => q1.short t hx q2 (by omega) q3 q4 q5)
          have HC := hid (fun w9 (k9 : Keeps [] w w9) => least_any t base b pa pl hK n a A L w9 (by omega) (by omega) hfo (h.quiet k9))
          have HA := hid h1
          have hbl := h.b_ne.2
          have hba := h.b_ne.1
          have hpp := h.ne
          clear h hfo t h1 h3 g1
          go_enter Tryd.func49, Tryd.ntmps49
          go_upto_region 3 with fail
          have kd : Keeps [] w w.drew := Keeps.drew _ _
          go_cut [] (fun wx => ∃ A1 L1 r, Box (ForAt wx base b pa pl K A1 (fun i => if i = x then min (L x) r else L1 i)) ∧ Box (Fo K p semi k A1 L1) ∧ Box (Low p semi k a r) ∧ Box (∀ y, a < y → A1 y = A y ∧ L1 y = L y) ∧ Box (k < a → ∃ t : Nat, A1 a = (t : Int) ∧ t ≤ k) ∧ Box (Keeps [pa, pl] w wx))
          case first =>
            go_region_with (first | (go_at_call 49; refine (HC.out _ kd).mono ?_; rintro e w1 ⟨A1, L1, r, rfl, H1, F1, O1, S1, T1, K1⟩; have d1 := H1.c1; have dl := H1.lo.cell hx; unfold num at dl; rw [(S1 x h2).2] at dl; have fl := H1.lo.frozen x; have G1 := hid H1; have G2 := hid F1; have G3 := hid O1; have G4 := hid S1; have G5 := hid T1; have G6 := hid K1; clear H1 F1 O1 S1 T1 K1))
            all_goals
              rw [min_nat]
              go_wp2_with fail
              go_meet
              exact ⟨A1, L1, r, hid (G1.out.setL x (min (L x) r)), G2, G3, G4, G5, hid ((kd.mono (by simp)).step (G6.out.step (Keeps.setCell _ _ _ _ (by simp))))⟩
          case rest =>
            obtain ⟨A1, L1, r, H2, G2, G3, G4, G5, K2⟩ := hcut
            obtain ⟨t1, ht1, htk⟩ := G5.out (by omega)
            have HQ := hid (HFshort.out A1 L1 r t1 G2.out ((G4.out x h2).1.trans HA.out) ht1 htk G3.out)
            rw [(G4.out x h2).2] at HQ
            have e0 := H2.out.c0
            have ea := H2.out.ab.cell (k := a) (by omega)
            unfold numI at ea
            rw [ht1] at ea
            have fa := H2.out.ab.frozen x
            have ea2 := H2.out.ab.cell hx
            clear c0 c1 cl ca cb HC kd
            go_wp2_with fail
            go_region
            have H3 := hid (H2.out.setA x (t1 : Int))
            have k3 : Keeps [pa, pl] wc (wc.setCell ⟨pa, x, none⟩ (.int .i64 (t1 : Int))) := Keeps.setCell _ _ _ _ (by simp)
            have c1 := H3.out.c1
            have el := H3.out.lo.cell hx
            unfold num at el
            simp only [if_true] at el
            clear e0 ea fa ea2
            generalize wc.setCell ⟨pa, x, none⟩ (.int .i64 (t1 : Int)) = w3 at H3 k3 c1 el ⊢
            generalize min (L x) r = m at H3 el HQ ⊢
            go_wp2
            go_ret
            refine ⟨_, _, m, rfl, H3.out.quiet (Keeps.drew [] _), HQ.out.1, HQ.out.2, fun y hy => ?_, fun _ => ⟨t1, by simp, htk⟩, (K2.out.step k3).quiet (Keeps.drew [] _)⟩
            have hya : a < y := by omega
            simp only [show y ≠ x by omega, if_false]
            exact G4.out y hya
end Go.Proofs.YtlnimcpmkammfaaDoor
