/-
  Contract: the statements' own Up.
-/
import Derived.Test.YtjdcphkmaaoehaaDRef
namespace Go.Proofs.Ytjdcphkmaaoehaa
open Go.RowKit

theorem uBs : Try.prog.underlying 50 = some (.slice 36) := by kernel_rfl
theorem iBs : Try.prog.info? 36 = some Try.t36 := by kernel_rfl
theorem zBs : Try.t36.zero = some (.slice none 0 0) := by kernel_rfl
theorem sBs : Try.t36.size = 1 := by kernel_rfl
theorem yBs : Try.t36.bytes = 24 := by kernel_rfl
theorem bw_set {w : World} {B0 b gn : Nat} {s : Nat → Bool} (h : RowAt w B0 b gn 4 (bw s)) (n : Nat) (v : Bool) : RowAt (w.setCell ⟨b, n, none⟩ (.bool v)) B0 b gn 4 (bw fun i => if i = n then v else s i) := by
  refine (h.put n (.bool v)).congr (fun i _ => ?_)
  unfold bw
  by_cases e : i = n
  · subst e; simp
  · simp [e]
theorem cell_kept {w w' : World} {p : Addr} {v : Value} (k : Keeps [] w w') (h : w.cell? p = some v) : w'.cell? p = some v := by
  rw [k.cell (block_lt_of_cell h) (by simp)]
  exact h

/-- The table who stands above whom. -/
def bvs (pr : Nat → Nat) (N k : Nat) : List Value := (List.range k).map fun i => .slice (some ⟨pr i, 0, none⟩) N N
structure Mat (w : World) (base : Nat) (v : Value) (k N : Nat) (pr : Nat → Nat) (F : Nat → Nat → Bool) : Prop where
  own : w.ownsRow base 36 1 v k (bvs pr N k)
  row : ∀ i, i < k → RowAt w base (pr i) N 4 (bw (F i))
theorem mat_ne {w : World} {base : Nat} {v : Value} {n : Nat} {xs : List Value} (h : w.ownsRow base 36 1 v n xs) {b0 p N : Nat} {f : Nat → Value} (hr : RowAt w b0 p N 4 f) : p ∉ v.ownBlock.toList := by
  obtain ⟨cur, hg⟩ := hr.heap
  intro hx
  exact Lib.ownBlock_ne h hg (by decide) (by simpa using hx)
theorem Mat.quiet {w w' : World} {base : Nat} {v : Value} {k N : Nat} {pr : Nat → Nat} {F : Nat → Nat → Bool} (h : Mat w base v k N pr F) (q : Keeps [] w w') : Mat w' base v k N pr F :=
  ⟨ownsRow_keeps h.own q (fun _ _ => by simp), fun i hi => (h.row i hi).kept q (by simp)⟩
theorem bvs_snoc (pr : Nat → Nat) (N k p : Nat) : bvs (fun i => if i = k then p else pr i) N (k + 1) = bvs pr N k ++ [.slice (some ⟨p, 0, none⟩) N N] := by
  unfold bvs
  rw [List.range_succ, List.map_append]
  congr 1
  · refine List.map_congr_left (fun i hi => ?_)
    have : i ≠ k := by have := List.mem_range.1 hi; omega
    simp [this]
  · simp
theorem Mat.push {w wa w5 : World} {base : Nat} {v v5 : Value} {k N p b0 : Nat} {pr : Nat → Nat} {F : Nat → Nat → Bool} (h : Mat w base v k N pr F) (hr : RowAt w b0 p N 4 (bw (F k))) (hb : base ≤ b0) (ka : Keeps [] w wa) (h5 : w5.ownsRow base 36 1 v5 (k + 1) (bvs pr N k ++ [.slice (some ⟨p, 0, none⟩) N N])) (k5 : Keeps v.ownBlock.toList wa w5) : Mat w5 base v5 (k + 1) N (fun i => if i = k then p else pr i) F := by
  have h2 := h.quiet ka
  have hr2 := hr.kept ka (by simp)
  refine ⟨by rw [bvs_snoc]; exact h5, fun i hi => ?_⟩
  by_cases e : i = k
  · subst e
    simp only [if_true]
    exact (hr2.kept k5 (mat_ne h2.own hr2)).base hb
  · simp only [e, if_false]
    have := h2.row i (by omega)
    exact this.kept k5 (mat_ne h2.own this)
theorem Mat.open {w : World} {base : Nat} {v : Value} {N : Nat} {pr : Nat → Nat} {F : Nat → Nat → Bool} (h : Mat w base v N N pr F) (hN : 0 < N) : ∃ q cap, v = .slice (some ⟨q, 0, none⟩) N cap ∧ (∀ i, i < N → w.cell? ⟨q, i, none⟩ = some (.slice (some ⟨pr i, 0, none⟩) N N)) ∧ ∀ i, i < N → ∀ j, j < N → w.cell? ⟨pr i, j, none⟩ = some (.bool (F i j)) := by
  have h0 := h.own
  rcases h0.2 with ⟨_, h1⟩ | ⟨g, cap, cur, rfl, hb, hg, hn, _, _, ht⟩
  · omega
  · refine ⟨g, cap, rfl, fun i hi => ?_, fun i hi j hj => (h.row i hi).cell hj⟩
    rw [h0.cellAt i (by omega)]
    unfold bvs
    rw [List.getElem?_map, List.getElem?_range hi]
    rfl

/-- Who stands next above. -/
theorem up_near {g : List (List Nat)} (hg : Ok g) {r : Nat} (hr : r < g.length) {U : Nat → Int} (h : UpOf g r U) (b : Nat) (hb : b < g.length) (hp : rB g r b = true) (hne : b ≠ r) : ∃ z : Nat, U b = (z : Int) ∧ z ≠ b ∧ z < g.length ∧ domB g r z b = true ∧ ∀ a, a ≠ b → domB g r a b = true → ((∀ c, c < g.length → c ≠ b → domB g r c b = true → domB g r c a = true) ↔ a = z) := by
  have hp' := (rB_iff hg b hr).1 hp
  obtain ⟨z, h1, h2, h3, h4⟩ := h.next b hb hp' hne
  refine ⟨z, h1, h2, h3.on.lt hg hr, (domB_iff hg hr z b).2 h3, fun a ha hd => ⟨fun q => ?_, ?_⟩⟩
  · have e1 := (domB_iff hg hr z a).1 (q z (h3.on.lt hg hr) h2 ((domB_iff hg hr z b).2 h3))
    have e2 := h4 a ha ((domB_iff hg hr a b).1 hd)
    exact Dom.anti hg hr e2 e1
  · rintro rfl c _ hc hcb
    exact (domB_iff hg hr c a).2 (h4 c hc ((domB_iff hg hr c b).1 hcb))

/-- What stands in the list while node b's place is looked for. -/
def upB (U : Nat → Int) (b : Nat) (x : Int) (i : Nat) : Int := if i = b then x else if i < b then U i else 0
theorem upB_put {w : World} {base p N : Nat} {U : Nat → Int} {b : Nat} {x : Int} (h : RowAt w base p N 3 (numI (upB U b x))) (y : Int) : RowAt (w.setCell ⟨p, b, none⟩ (.int .i64 y)) base p N 3 (numI (upB U b y)) :=
  (numI_put h b y).congr (fun i _ => by unfold numI upB; by_cases e : i = b <;> simp [e])
theorem upB_next {w : World} {base p N : Nat} {U : Nat → Int} {b : Nat} {x : Int} (h : RowAt w base p N 3 (numI (upB U b x))) (hx : x = U b) : RowAt w base p N 3 (numI (upB U (b + 1) 0)) :=
  h.congr (fun i _ => by
    unfold numI upB
    by_cases e : i = b
    · subst e; simp [hx]
    · by_cases e2 : i = b + 1
      · subst e2
        have h1 : ¬ b + 1 < b := by omega
        simp [h1]
      · have : i < b + 1 ↔ i < b := by omega
        simp only [e, e2, if_false, this])

set_option maxRecDepth 20000 in
set_option maxHeartbeats 8000000 in
theorem rup_any (g : List (List Nat)) (hs : Sm g) (a : Option Addr) (cap B : Nat) (w : World) (hG : GAt w B a g) (r : Nat) (hr : r < g.length) (U : Nat → Int) (hU : UpOf g r U) :
    Calls Try.prog 11 #[.slice a g.length cap, .int .i64 (r : Int)] w fun e w' => ∃ po, e = .returned (.slice (some ⟨po, 0, none⟩) g.length g.length) ∧ RowAt w' w.heap.size po g.length 3 (numI U) ∧ Keeps [] w w' := by
  have HDC := hid (fun x y => domB_cases hs.ok hr x y)
  have HRE := hid (fun wz (k : Keeps [] w wz) z => rreach_any g hs a cap B (wz.alloc (Obj.cells #[.int .i64 (r : Int)] 3)) (hG.quiet (k.quiet (Keeps.alloc _ _ _))) (some ⟨wz.heap.size, 0, none⟩) 1 _ [(r : Int)] (rone_at wz (r : Int)) (by simp) z)
  have HRA := hid (fun s h => rone_all hs.ok hr (s := s) h)
  have HRW := hid (fun s x h => rone_without hs.ok hr (s := s) (x := x) h)
  have HNO : Box (∀ b, b < g.length → rB g r b = false → U b = -1) := hid (fun b hb h => hU.out b hb (fun q => by rw [(rB_iff hs.ok b hr).2 q] at h; cases h))
  have HNR := hid hU.root
  have HNE := hid (fun b hb hp hne => up_near hs.ok hr hU b hb hp hne)
  have hg6 := hs.len
  obtain ⟨N, hN⟩ : ∃ N, g.length = N := ⟨_, rfl⟩
  rw [hN] at HRE HRA HRW HNO HNE hg6 hr ⊢
  clear hs hG hN hU
  go_enter Try.func11, Try.ntmps11
  go_wp2_with fail
  refine (HRE.out w (Keeps.refl _ _) (-1)).mono ?_
  rintro e w2 ⟨ps, rfl, s, r2, k2, h2⟩
  have K2 := hid ((Keeps.alloc [] w (Obj.cells #[.int .i64 (r : Int)] 3)).quiet k2)
  have HA : Box (∀ j, j < N → w2.cell? ⟨ps, j, none⟩ = some (.bool (rB g r j))) := hid (fun j hj => by
    have := r2.cell hj
    unfold bw at this
    rw [HRA.out s h2] at this
    exact this)
  have M2 : Box (Mat w2 w2.heap.size (.slice none 0 0) 0 N (fun _ => 0) (domB g r)) := hid ⟨⟨rfl, .inl ⟨rfl, rfl⟩⟩, fun i hi => by omega⟩
  clear r2 k2 h2 HRA
  go_wp2_with fail
  go_loopw [7, 8] (fun vv iv wr => ∃ (i : Nat) (v : Value) (pr : Nat → Nat), v = vv ∧ iv = .int .i64 (i : Int) ∧ i ≤ N ∧ Box (Mat wr w2.heap.size v i N pr (domB g r)) ∧ Box (Keeps [] w2 wr)) (fun _ iv _ => N - (intOf iv).toNat)
  case atStart => exact ⟨0, _, _, rfl, rfl, by omega, M2, hid (Keeps.refl _ _)⟩
  case round =>
    clear M2
    obtain ⟨i, v, pr, rfl, rfl, hi, HM, HK⟩ := hrel
    by_cases hlt : i < N
    · have hlt' : (i : Int) < (N : Int) := by omega
      have HC := hid (HRE.out wr (K2.out.quiet HK.out) (i : Int))
      go_wp2_with fail
      refine HC.out.mono ?_
      rintro e w3 ⟨pt, rfl, t, r3, k3, h3⟩
      have k13 := (Keeps.alloc [] wr (Obj.cells #[.int .i64 (r : Int)] 3)).quiet k3
      have K3 := hid (HK.out.quiet k13)
      have M3 := hid (HM.out.quiet k13)
      have HT : Box (∀ j, j < N → w3.cell? ⟨pt, j, none⟩ = some (.bool (avB g r i j))) := hid (fun j hj => by
        have := r3.cell hj
        unfold bw at this
        rw [HRW.out t i h3] at this
        exact this)
      clear r3 k3 h3 HC HM HK k13 HRE
      have hww : w3.heap.size ≤ w3.heap.size := Nat.le_refl _
      go_wp2_with (at_make; go_must (refine wpList_make_full _ rfl _ _ 36 rfl w3.heap.size 4 Try.t4 (.bool false) 1 bunder binfo bzero bsize .i64 .i64 _ _ N rfl rfl rfl rfl (by rw [bbytes]; omega) (by unfold maxLen; omega) hww ?_; intro w4 hown4 hgrow4))
      have K34 : Box (Keeps [] w3 w4) := hid (Keeps.grown [] hgrow4 (by simp))
      obtain ⟨p, hp⟩ : ∃ p, w3.heap.size = p := ⟨_, rfl⟩
      have HP := hid hp
      rw [hp] at hown4 ⊢
      have R4 : Box (RowAt w4 p p N 4 (bw fun b => if b < 0 then domB g r i b else false)) := hid ((RowAt.made hown4 rfl).congr (fun i _ => rfl))
      clear hown4 hgrow4 hww hp
      go_loopw [11] (fun jv wr => ∃ j : Nat, jv = .int .i64 (j : Int) ∧ j ≤ N ∧ Box (RowAt wr p p N 4 (bw fun b => if b < j then domB g r i b else false)) ∧ Box (Keeps [] w3 wr)) (fun jv _ => N - (intOf jv).toNat)
      case atStart => exact ⟨0, rfl, by omega, R4, K34⟩
      case round =>
        clear R4 K34
        obtain ⟨j, rfl, hj, HR, HK⟩ := hrel
        by_cases hlj : j < N
        · have hlj' : (j : Int) < (N : Int) := by omega
          have ca := cell_kept (K3.out.quiet HK.out) (HA.out i hlt)
          have cb := cell_kept (K3.out.quiet HK.out) (HA.out j hlj)
          have ct := cell_kept HK.out (HT.out j hlj)
          have cr := HR.out.cell hlj
          have fr := HR.out.frozen j
          have hdc := HDC.out i j
          have HS : Box (∀ x, domB g r i j = x → RowAt (wr.setCell ⟨p, j, none⟩ (.bool x)) p p N 4 (bw fun b => if b < j + 1 then domB g r i b else false)) := hid (fun x hx => by
            refine (bw_set HR.out j x).congr (fun b _ => ?_)
            unfold bw
            by_cases e : b = j
            · subst e; simp [hx]
            · have : b < j + 1 ↔ b < j := by omega
              simp only [e, if_false, this])
          have HKS : Box (∀ x, Keeps [] w3 (wr.setCell ⟨p, j, none⟩ (.bool x))) := hid (fun x => HK.out.fresh (Keeps.setCell [p] wr ⟨p, j, none⟩ (.bool x) (by simp)) (fun y hy => by simp at hy; have := HP.out; omega))
          clear HR
          cases h1 : rB g r i with
          | false =>
            rw [h1] at ca hdc
            have hd : domB g r i j = false := by rw [hdc]; rfl
            have HS1 := hid (HS.out _ hd)
            clear hd hdc h1 HS cb ct
            go_wp2
            go_roundw
            case rel => exact ⟨j + 1, by go_num, by omega, HS1, hid (HKS.out _)⟩
            case measure => simp [intOf]; omega
          | true =>
            rw [h1] at ca hdc
            cases h2 : rB g r j with
            | false =>
              rw [h2] at cb hdc
              have hd : domB g r i j = false := by rw [hdc]; rfl
              have HS1 := hid (HS.out _ hd)
              clear hd hdc h1 h2 HS ct
              go_wp2
              go_roundw
              case rel => exact ⟨j + 1, by go_num, by omega, HS1, hid (HKS.out _)⟩
              case measure => simp [intOf]; omega
            | true =>
              rw [h2] at cb hdc
              by_cases e : i = j
              · have hb : ((i : Int) == (j : Int)) = true := by rw [e]; simp
                have hd : domB g r i j = true := by rw [hdc, e]; simp
                have HS1 := hid (HS.out _ hd)
                clear hd hdc h1 h2 HS ct e
                go_wp2
                go_roundw
                case rel => exact ⟨j + 1, by go_num, by omega, HS1, hid (HKS.out _)⟩
                case measure => simp [intOf]; omega
              · have hb : ((i : Int) == (j : Int)) = false := by rw [beq_eq_false_iff_ne]; omega
                have he : (i == j) = false := by simp [e]
                have hd : domB g r i j = !avB g r i j := by rw [hdc, he]; simp
                have HS1 := hid (HS.out _ hd)
                clear hd hdc h1 h2 HS e he
                generalize avB g r i j = av at ct HS1
                go_wp2
                go_roundw
                case rel => exact ⟨j + 1, by go_num, by omega, HS1, hid (HKS.out _)⟩
                case measure => simp [intOf]; omega
        · obtain rfl : j = N := by omega
          have R5 : Box (RowAt wr p p j 4 (bw (domB g r i))) := hid (HR.out.congr (fun b hb => by show Value.bool (if b < j then domB g r i b else false) = _; rw [if_pos hb]; rfl))
          have M5 := hid (M3.out.quiet HK.out)
          have K5 := hid (K3.out.quiet HK.out)
          have hsz : w2.heap.size ≤ wr.heap.size := K5.out.size
          have hbp : w2.heap.size ≤ p := by have := K3.out.size; have := HP.out; omega
          clear HR HK M3 K3 HT HNE HNO HDC
          go_wp2_with (at_builtin; go_must (refine wpList_append_own _ rfl _ _ 50 rfl w2.heap.size 36 Try.t36 (.slice none 0 0) 1 24 uBs iBs zBs sBs yBs rfl (by decide) v _ _ rfl (M5.out.own.alloc _) _ 1 1 [.slice (some ⟨p, 0, none⟩) j j] rfl rfl (cell_one_new _ _ _) (fun x hx => by simp at hx; subst hx; rfl) (by unfold maxLen; omega) (by omega) (by simp; omega) ?_; intro v8 w8 hown8 hgrow8 hnil8))
          have k8 : Keeps v.ownBlock.toList _ w8 := Keeps.grown v.ownBlock.toList hgrow8 (fun y hy => by rw [hy]; simp)
          have M8 := hid (M5.out.push R5.out hbp (Keeps.alloc [] _ _) hown8 k8)
          have K8 := hid ((K5.out.quiet (Keeps.alloc [] _ _)).fresh k8 (own_new M5.out.own))
          clear hown8 hnil8 M5 R5
          go_roundw
          case rel => exact ⟨i + 1, v8, _, rfl, by go_num, by omega, M8, K8⟩
          case measure => simp [intOf]; omega
    · obtain rfl : i = N := by omega
      have K5 := hid (K2.out.quiet HK.out)
      obtain ⟨q, cq, hv, hq1, hq2⟩ := HM.out.open (by omega)
      subst hv
      have HV := hid hq1
      have HF := hid hq2
      have HA5 : Box (∀ j, j < i → wr.cell? ⟨ps, j, none⟩ = some (.bool (rB g r j))) := hid (fun j hj => cell_kept HK.out (HA.out j hj))
      clear hq1 hq2 HM HK HA K2 HRE HRW HDC
      generalize wr = w5 at K5 HV HF HA5 ⊢
      have hww : w5.heap.size ≤ w5.heap.size := Nat.le_refl _
      go_wp2_with (at_make; go_must (refine wpList_make_full _ rfl _ _ 28 rfl w5.heap.size 3 Try.t3 (.int .i64 0) 1 under_ints info_int zero_int size_int .i64 .i64 _ _ i rfl rfl rfl rfl (by rw [bytes_int]; omega) (by unfold maxLen; omega) hww ?_; intro w6 hown6 hgrow6))
      have K6 : Box (Keeps [] w5 w6) := hid (Keeps.grown [] hgrow6 (by simp))
      have R6 : Box (RowAt w6 w5.heap.size w5.heap.size i 3 (numI (upB U 0 0))) := hid ((RowAt.made hown6 rfl).congr (fun i _ => by unfold numI upB; simp))
      clear hown6 hgrow6 hww
      obtain ⟨po, hpo⟩ : ∃ po, w5.heap.size = po := ⟨_, rfl⟩
      have HPO := hid hpo
      rw [hpo] at R6 ⊢
      clear hpo
      go_loopw [13] (fun bv wr => ∃ b : Nat, bv = .int .i64 (b : Int) ∧ b ≤ i ∧ Box (RowAt wr po po i 3 (numI (upB U b 0))) ∧ Box (Keeps [] w5 wr)) (fun bv _ => i - (intOf bv).toNat)
      case atStart => exact ⟨0, rfl, by omega, R6, K6⟩
      case round =>
        clear R6 K6
        obtain ⟨b, rfl, hb, HR, HK⟩ := hrel
        by_cases hlb : b < i
        · have hlb' : (b : Int) < (i : Int) := by omega
          have HPUT : Box (∀ (wz : World) (x y : Int), Keeps [] w5 wz → RowAt wz po po i 3 (numI (upB U b x)) → Keeps [] w5 (wz.setCell ⟨po, b, none⟩ (.int .i64 y)) ∧ RowAt (wz.setCell ⟨po, b, none⟩ (.int .i64 y)) po po i 3 (numI (upB U b y))) := hid (fun wz x y kz hz => ⟨kz.fresh (Keeps.setCell [po] wz ⟨po, b, none⟩ (.int .i64 y) (by simp)) (fun y hy => by simp at hy; have := HPO.out; omega), upB_put hz y⟩)
          have cr := HR.out.cell hlb
          have fr := HR.out.frozen b
          have h7 := HPUT.out wr 0 (-1) HK.out HR.out
          have K7 := hid h7.1
          have R7 := hid h7.2
          have ca := cell_kept h7.1 (HA5.out b hlb)
          clear h7 HR HK
          cases h1 : rB g r b with
          | false =>
            rw [h1] at ca
            have HN := hid (upB_next R7.out (HNO.out b hlb h1).symm)
            clear h1 R7
            go_wp2
            go_roundw
            case rel => exact ⟨b + 1, by go_num, by omega, HN, K7⟩
            case measure => simp [intOf]; omega
          | true =>
            rw [h1] at ca
            go_upto_region 19 with fail
            have cr7 := R7.out.cell hlb
            have fr7 := R7.out.frozen b
            clear cr fr
            generalize wr.setCell ⟨po, b, none⟩ (.int .i64 (-1)) = w7 at K7 R7 ca cr7 fr7 ⊢
            by_cases e : b = r
            · subst e
              have h8 := HPUT.out w7 (-1) (b : Int) K7.out R7.out
              have K8 := hid h8.1
              have HN := hid (upB_next h8.2 HNR.out.symm)
              clear h8 h1 R7 K7
              go_wp2
              go_roundw
              case rel => exact ⟨b + 1, by go_num, by omega, HN, K8⟩
              case measure => simp [intOf]; omega
            · obtain ⟨z, hz1, hz2, hz3, hz4, hz5⟩ := HNE.out b hlb h1 e
              have hbr : ((b : Int) == (r : Int)) = false := by rw [beq_eq_false_iff_ne]; omega
              have HZ1 := hid hz1
              have HZ5 := hid hz5
              have R8 : Box (RowAt w7 po po i 3 (numI (upB U b (if z < 0 then (z : Int) else -1)))) := hid R7.out
              clear h1 e hz1 hz5 R7 cr7 fr7
              go_wp2_with fail
              clear ca
              go_loopw [14] (fun av wr => ∃ a' : Nat, av = .int .i64 (a' : Int) ∧ a' ≤ i ∧ Box (RowAt wr po po i 3 (numI (upB U b (if z < a' then (z : Int) else -1)))) ∧ Box (Keeps [] w5 wr)) (fun av _ => i - (intOf av).toNat)
              case atStart => exact ⟨0, rfl, by omega, R8, K7⟩
              case round =>
                clear R8 K7
                obtain ⟨x, rfl, hx, HR, HK⟩ := hrel
                by_cases hlx : x < i
                · have hlx' : (x : Int) < (i : Int) := by omega
                  have cv := cell_kept HK.out (HV.out x hlx)
                  have cf := cell_kept HK.out (HF.out x hlx b hlb)
                  by_cases exb : x = b
                  · have hb1 : ((x : Int) == (b : Int)) = true := by rw [exb]; simp
                    have HR2 : Box (RowAt wr po po i 3 (numI (upB U b (if z < x + 1 then (z : Int) else -1)))) := hid (by
                      have : z < x + 1 ↔ z < x := by omega
                      simp only [this]
                      exact HR.out)
                    clear exb cv cf HR
                    go_wp2
                    go_roundw
                    case rel => exact ⟨x + 1, by go_num, by omega, HR2, HK⟩
                    case measure => simp [intOf]; omega
                  · have hb1 : ((x : Int) == (b : Int)) = false := by rw [beq_eq_false_iff_ne]; omega
                    cases hd : domB g r x b with
                    | false =>
                      rw [hd] at cf
                      have hxz : x ≠ z := fun e => by rw [e, hz4] at hd; cases hd
                      have HR2 : Box (RowAt wr po po i 3 (numI (upB U b (if z < x + 1 then (z : Int) else -1)))) := hid (by
                        have : z < x + 1 ↔ z < x := by omega
                        simp only [this]
                        exact HR.out)
                      clear hd HR hxz
                      go_wp2
                      go_roundw
                      case rel => exact ⟨x + 1, by go_num, by omega, HR2, HK⟩
                      case measure => simp [intOf]; omega
                    | true =>
                      rw [hd] at cf
                      have HX := hid (HZ5.out x exb hd)
                      clear hd
                      go_wp2_with fail
                      clear cv cf
                      generalize wr = w8 at HR HK ⊢
                      go_loopw [15, 16] (fun nv cv wr => ∃ (c : Nat) (t : Bool), nv = .bool t ∧ cv = .int .i64 (c : Int) ∧ c ≤ i ∧ wr = w8 ∧ Box (t = true ↔ ∀ k, k < c → k ≠ b → domB g r k b = true → domB g r k x = true)) (fun _ cv _ => i - (intOf cv).toNat)
                      case atStart => exact ⟨0, true, rfl, rfl, by omega, rfl, hid ⟨fun _ k hk => by omega, fun _ => rfl⟩⟩
                      case round =>
                        obtain ⟨c, t, rfl, rfl, hc, rfl, HQ⟩ := hrel
                        by_cases hlc : c < i
                        · have hlc' : (c : Int) < (i : Int) := by omega
                          have cv := cell_kept HK.out (HV.out c hlc)
                          have cb := cell_kept HK.out (HF.out c hlc b hlb)
                          have cx := cell_kept HK.out (HF.out c hlc x hlx)
                          have HST : Box (∀ t' : Bool, (t' = true ↔ t = true ∧ (c ≠ b → domB g r c b = true → domB g r c x = true)) → (t' = true ↔ ∀ k, k < c + 1 → k ≠ b → domB g r k b = true → domB g r k x = true)) := hid (fun t' ht => by
                            rw [ht, HQ.out]
                            constructor
                            · rintro ⟨q1, q2⟩ k hk
                              by_cases e : k = c
                              · subst e; exact q2
                              · exact q1 k (by omega)
                            · intro q
                              exact ⟨fun k hk => q k (by omega), q c (by omega)⟩)
                          clear HQ
                          cases t with
                          | false =>
                            have HQ2 := hid (HST.out false (by simp))
                            clear HST cv cb cx
                            go_wp2
                            go_roundw
                            case rel => exact ⟨c + 1, false, rfl, by go_num, by omega, trivial, HQ2⟩
                            case measure => simp [intOf]; omega
                          | true =>
                            by_cases ecb : c = b
                            · have hb2 : ((c : Int) == (b : Int)) = true := by rw [ecb]; simp
                              have HQ2 := hid (HST.out true (by simp [ecb]))
                              clear HST cv cb cx ecb
                              go_wp2
                              go_roundw
                              case rel => exact ⟨c + 1, true, rfl, by go_num, by omega, trivial, HQ2⟩
                              case measure => simp [intOf]; omega
                            · have hb2 : ((c : Int) == (b : Int)) = false := by rw [beq_eq_false_iff_ne]; omega
                              cases hd : domB g r c b with
                              | false =>
                                rw [hd] at cb
                                have HQ2 := hid (HST.out true (by simp [hd]))
                                clear HST cx ecb hd
                                go_wp2
                                go_roundw
                                case rel => exact ⟨c + 1, true, rfl, by go_num, by omega, trivial, HQ2⟩
                                case measure => simp [intOf]; omega
                              | true =>
                                rw [hd] at cb
                                have HQ2 := hid (HST.out (domB g r c x) (by simp [hd, ecb]))
                                clear HST ecb hd
                                generalize domB g r c x = t2 at cx HQ2
                                go_wp2
                                go_roundw
                                case rel => exact ⟨c + 1, t2, rfl, by go_num, by omega, trivial, HQ2⟩
                                case measure => simp [intOf]; omega
                        · obtain rfl : c = i := by omega
                          have hxz : t = true ↔ x = z := HQ.out.trans HX.out
                          clear HQ HX
                          cases t with
                          | false =>
                            have hne : x ≠ z := fun e => by have := hxz.2 e; cases this
                            have HR2 : Box (RowAt wr po po c 3 (numI (upB U b (if z < x + 1 then (z : Int) else -1)))) := hid (by
                              have : z < x + 1 ↔ z < x := by omega
                              simp only [this]
                              exact HR.out)
                            clear hxz hne HR
                            go_wp2
                            go_roundw
                            case rel => exact ⟨x + 1, by go_num, by omega, HR2, HK⟩
                            case measure => simp [intOf]; omega
                          | true =>
                            have he : x = z := hxz.1 rfl
                            have cr := HR.out.cell hlb
                            have fr := HR.out.frozen b
                            have h9 := HPUT.out wr _ (x : Int) HK.out HR.out
                            have K9 := hid h9.1
                            have HR2 : Box (RowAt (wr.setCell ⟨po, b, none⟩ (.int .i64 (x : Int))) po po c 3 (numI (upB U b (if z < x + 1 then (z : Int) else -1)))) := hid (by
                              rw [if_pos (by omega), ← he]
                              exact h9.2)
                            clear hxz h9 HR HK he
                            go_wp2
                            go_roundw
                            case rel => exact ⟨x + 1, by go_num, by omega, HR2, K9⟩
                            case measure => simp [intOf]; omega
                · obtain rfl : x = i := by omega
                  have HN := hid (upB_next HR.out (by rw [if_pos hz3, HZ1.out]))
                  clear HR
                  go_wp2
                  go_roundw
                  case rel => exact ⟨b + 1, by go_num, by omega, HN, HK⟩
                  case measure => simp [intOf]; omega
        · obtain rfl : b = i := by omega
          go_wp2
          go_ret
          exact ⟨po, rfl, (HR.out.congr (fun k hk => by unfold numI upB; rw [if_neg (by omega), if_pos hk])).base (by have := K5.out.size; have := HPO.out; omega), K5.out.quiet HK.out⟩
end Go.Proofs.Ytjdcphkmaaoehaa
