/-
  Contract: graph's shrink, the graph of the parts.
-/
import Derived.Test.YtngdnjlohmkbiaaDoorGStrong
namespace Go.Proofs.YtngdnjlohmkbiaaDoor
open Go.RowKit

theorem run_nums (n : Nat) (hn : n ≤ 1000000) (w : World) : (Instr.makeSlice 23 (.int .i64 (n : Int)) (.int .i64 (n : Int))).run Tryd.prog w = .ok (.slice (some ⟨w.heap.size, 0, none⟩) n n) (w.alloc (.cells (madeCells #[.int .i64 0] n) 3)) :=
  run_make_row 23 3 Tryd.t3 (.int .i64 0) under_ints info_int zero_int size_int rfl .i64 .i64 n (by rw [bytes_int]; omega) (by omega) w
theorem nums_new (w : World) (n base : Nat) (hb : base ≤ w.heap.size) (hn : n ≤ maxLen) : RowAt (w.alloc (.cells (madeCells #[.int .i64 0] n) 3)) base w.heap.size n 3 (num fun _ => 0) := by
  have h := World.ownsRow_lit (base := base) (e := 3) (size := 1) w (madeCells #[.int .i64 0] n) n hb hn (by rw [size_madeCells, Nat.mul_one])
  refine RowAt.made (z := .int .i64 0) ?_ rfl
  rw [Nat.mul_one]
  exact h

/-- Which part x is in, of the parts below k. -/
def plcK (ps : List (List Nat)) : Nat → Nat → Nat
  | 0, _ => 0
  | k + 1, x => if x ∈ nb ps k then k else plcK ps k x
/-- .. and the first j of part k. -/
def plcT (ps : List (List Nat)) (k j x : Nat) : Nat := if x ∈ (nb ps k).take j then k else plcK ps k x
theorem plcT_zero (ps : List (List Nat)) (k x : Nat) : plcT ps k 0 x = plcK ps k x := by simp [plcT]
theorem plcT_all (ps : List (List Nat)) (k x : Nat) : plcT ps k (nb ps k).length x = plcK ps (k + 1) x := by
  unfold plcT
  rw [List.take_length]
  rfl
theorem plcT_succ (ps : List (List Nat)) (k j x : Nat) (hj : j < (nb ps k).length) : plcT ps k (j + 1) x = if x = (nb ps k).getD j 0 then k else plcT ps k j x := by
  unfold plcT
  rw [take_snoc (nb ps k) j 0 hj]
  generalize (nb ps k).getD j 0 = y
  by_cases h : x = y
  · simp [h]
  · simp [h]
theorem plcK_le (ps : List (List Nat)) (x : Nat) : ∀ k, plcK ps k x ≤ k
  | 0 => Nat.le_refl _
  | k + 1 => by
    have := plcK_le ps x k
    unfold plcK
    by_cases h : x ∈ nb ps k
    · rw [if_pos h]; omega
    · rw [if_neg h]; omega

/-- The parts that the nodes of l have edges to. -/
def plcs (g ps : List (List Nat)) (l : List Nat) : List Nat := (l.flatMap (nb g)).map (plcK ps ps.length)
/-- Part k's edges to other parts, rising. -/
def smallL (g ps : List (List Nat)) (k : Nat) : List Nat := elems (delI (orL none_ (plcs g ps (nb ps k))) (k : Int))

theorem OwnL.set {w : World} {base p n : Nat} {vs : Nat → Value} {L : Nat → List Nat} (h : OwnL w base p n vs L) {k : Nat} {v' : Value} {l' : List Nat}
    (ho : w.ownsRow base 3 1 v' l'.length (ints l')) (hap : ∀ j, j < n → j ≠ k → ∀ q, (vs j).ownBlock = some q → v'.ownBlock ≠ some q) :
    OwnL (w.setCell ⟨p, k, none⟩ v') base p n (fun i => if i = k then v' else vs i) (fun i => if i = k then l' else L i) := by
  obtain ⟨cur, hgc⟩ := h.outer.heap
  refine ⟨h.outer.put k v', fun j hj => ?_, fun i j q hi hj h1 h3 => ?_⟩
  · by_cases e : j = k
    · subst e
      rw [if_pos rfl, if_pos rfl]
      exact ownsRow_setCell_other ho (fun e => Lib.ownBlock_ne ho hgc (by decide) e) _
    · rw [if_neg e, if_neg e]
      exact ownsRow_setCell_other (h.inner j hj) (fun e2 => Lib.ownBlock_ne (h.inner j hj) hgc (by decide) e2) _
  · by_cases ei : i = k
    · by_cases ej : j = k
      · omega
      · rw [if_pos ei] at h1
        rw [if_neg ej] at h3
        exact absurd h1 (hap j hj ej q h3)
    · by_cases ej : j = k
      · rw [if_neg ei] at h1
        rw [if_pos ej] at h3
        exact absurd h3 (hap i hi ei q h1)
      · rw [if_neg ei] at h1
        rw [if_neg ej] at h3
        exact h.apart i j q hi hj h1 h3

/-- In the midst of shrink. -/
structure SH (w wz : World) (a : Option Addr) (cap n m p q pp : Nat) (pf : Nat → Nat) (vs : Nat → Value) (L : Nat → List Nat) : Prop where
  gb : TwoAt wz w.heap.size (.int .i64 (n : Int)) (.slice a n cap)
  rb : TwoAt wz (w.heap.size + 1) (.int .i64 0) (.slice none 0 0)
  tb : TwoAt wz q (.int .i64 (m : Int)) (.slice (some ⟨p, 0, none⟩) m m)
  pl : RowAt wz w.heap.size pp n 3 (num pf)
  own : OwnL wz w.heap.size p m vs L
  keep : Keeps [] w wz
theorem SH.lt {w wz : World} {a : Option Addr} {cap n m p q pp : Nat} {pf : Nat → Nat} {vs : Nat → Value} {L : Nat → List Nat} (h : SH w wz a cap n m p q pp pf vs L) : w.heap.size + 1 < wz.heap.size ∧ q < wz.heap.size ∧ pp < wz.heap.size ∧ p < wz.heap.size :=
  ⟨h.rb.lt, h.tb.lt, h.pl.lt.2, h.own.outer.lt.2⟩
theorem SH.kept {w wz wy : World} {a : Option Addr} {cap n m p q pp : Nat} {pf : Nat → Nat} {vs : Nat → Value} {L : Nat → List Nat} {F : List Nat} (h : SH w wz a cap n m p q pp pf vs L) (k : Keeps F wz wy) (hF : ∀ x, x ∈ F → wz.heap.size ≤ x) : SH w wy a cap n m p q pp pf vs L := by
  have nf : ∀ b, b < wz.heap.size → b ∉ F := fun b hb hx => by have := hF b hx; omega
  have hl := h.lt
  exact ⟨h.gb.kept k (nf _ h.gb.lt), h.rb.kept k (nf _ h.rb.lt), h.tb.kept k (nf _ h.tb.lt), h.pl.kept k (nf _ h.pl.lt.2), h.own.kept k (nf _ h.own.outer.lt.2) (fun i hi b hb => nf b ((h.own.inner i hi).lt b hb).2), h.keep.fresh k (fun x hx => by have := hF x hx; have := h.keep.size; omega)⟩
theorem SH.set {w wz : World} {a : Option Addr} {cap n m p q pp : Nat} {pf : Nat → Nat} {vs : Nat → Value} {L : Nat → List Nat} (h : SH w wz a cap n m p q pp pf vs L) {k : Nat} {v' : Value} {l' : List Nat}
    (ho : wz.ownsRow w.heap.size 3 1 v' l'.length (ints l')) (hap : ∀ j, j < m → j ≠ k → ∀ q, (vs j).ownBlock = some q → v'.ownBlock ≠ some q) :
    SH w (wz.setCell ⟨p, k, none⟩ v') a cap n m p q pp pf (fun i => if i = k then v' else vs i) (fun i => if i = k then l' else L i) := by
  have kk : Keeps [p] wz (wz.setCell ⟨p, k, none⟩ v') := Keeps.setCell _ _ _ _ (by simp)
  have ne : ∀ b x y, TwoAt wz b x y → b ∉ [p] := fun b x y hb hx => two_ne_row hb h.own.outer (by simpa using hx)
  refine ⟨h.gb.kept kk (ne _ _ _ h.gb), h.rb.kept kk (ne _ _ _ h.rb), h.tb.kept kk (ne _ _ _ h.tb), h.pl.kept kk ?_, h.own.set ho hap, h.keep.fresh kk (fun x hx => by have := h.own.outer.lt; simp at hx; omega)⟩
  intro hx
  simp at hx
  subst hx
  obtain ⟨c1, h1⟩ := h.pl.heap
  obtain ⟨c2, h2⟩ := h.own.outer.heap
  rw [h1] at h2
  simp at h2

/-- .. ahead of the small graph. -/
structure SH0 (w wz : World) (a : Option Addr) (cap n pp : Nat) (pf : Nat → Nat) : Prop where
  gb : TwoAt wz w.heap.size (.int .i64 (n : Int)) (.slice a n cap)
  rb : TwoAt wz (w.heap.size + 1) (.int .i64 0) (.slice none 0 0)
  pl : RowAt wz w.heap.size pp n 3 (num pf)
  keep : Keeps [] w wz
theorem SH0.start (w : World) (a : Option Addr) (cap n : Nat) (hn : n ≤ maxLen) :
    SH0 w (((w.alloc (Obj.cells #[.int .i64 (n : Int), .slice a n cap] 27)).alloc (Obj.cells #[.int .i64 0, .slice none 0 0] 27)).alloc (Obj.cells (madeCells #[.int .i64 0] n) 3)) a cap n (w.heap.size + 1 + 1) (fun _ => 0) := by
  have h1 := TwoAt.new w (.int .i64 (n : Int)) (.slice a n cap)
  have k1 : Keeps [] w (w.alloc (Obj.cells #[.int .i64 (n : Int), .slice a n cap] 27)) := Keeps.alloc _ _ _
  have z1 : (w.alloc (Obj.cells #[.int .i64 (n : Int), .slice a n cap] 27)).heap.size = w.heap.size + 1 := by simp
  generalize w.alloc (Obj.cells #[.int .i64 (n : Int), .slice a n cap] 27) = W1 at h1 k1 z1 ⊢
  have h2 := TwoAt.new W1 (.int .i64 0) (.slice none 0 0)
  have k2 : Keeps [] W1 (W1.alloc (Obj.cells #[.int .i64 0, .slice none 0 0] 27)) := Keeps.alloc _ _ _
  have z2 : (W1.alloc (Obj.cells #[.int .i64 0, .slice none 0 0] 27)).heap.size = w.heap.size + 1 + 1 := by simp; omega
  rw [z1] at h2
  generalize W1.alloc (Obj.cells #[.int .i64 0, .slice none 0 0] 27) = W2 at h2 k2 z2 ⊢
  have h3 := nums_new W2 n w.heap.size (k1.quiet k2).size hn
  have k3 : Keeps [] W2 (W2.alloc (Obj.cells (madeCells #[.int .i64 0] n) 3)) := Keeps.alloc _ _ _
  rw [z2] at h3
  exact ⟨h1.kept (k2.quiet k3) (by simp), h2.kept k3 (by simp), h3, (k1.quiet k2).quiet k3⟩
theorem SH0.put {w wz : World} {a : Option Addr} {cap n pp : Nat} {pf : Nat → Nat} (h : SH0 w wz a cap n pp pf) (x y : Nat) : SH0 w (wz.setCell ⟨pp, x, none⟩ (.int .i64 (y : Int))) a cap n pp (fun i => if i = x then y else pf i) := by
  have kk : Keeps [pp] wz (wz.setCell ⟨pp, x, none⟩ (.int .i64 (y : Int))) := Keeps.setCell _ _ _ _ (by simp)
  have ne : ∀ b x y, TwoAt wz b x y → b ∉ [pp] := fun b x y hb hx => two_ne_num hb h.pl (by simpa using hx)
  refine ⟨h.gb.kept kk (ne _ _ _ h.gb), h.rb.kept kk (ne _ _ _ h.rb), (h.pl.put x _).congr (fun i _ => ?_), h.keep.fresh kk (fun x hx => by have := h.pl.lt; simp at hx; omega)⟩
  by_cases e : i = x
  · rw [if_pos e]; exact (num_of (c := fun i => if i = x then y else pf i) (if_pos e)).symm
  · rw [if_neg e]; exact (num_of (c := fun i => if i = x then y else pf i) (if_neg e)).symm
theorem SH0.small {w wz : World} {a : Option Addr} {cap n pp : Nat} {pf : Nat → Nat} (h : SH0 w wz a cap n pp pf) (m : Nat) (hm : m ≤ maxLen) :
    SH w ((wz.alloc (Obj.cells (madeCells #[nilS] m) 23)).alloc (Obj.cells #[.int .i64 (m : Int), .slice (some ⟨wz.heap.size, 0, none⟩) m m] 27)) a cap n m wz.heap.size (wz.heap.size + 1) pp pf (fun _ => nilS) (fun _ => []) := by
  have h1 := row_new wz m w.heap.size h.keep.size hm
  have k1 : Keeps [] wz (wz.alloc (Obj.cells (madeCells #[nilS] m) 23)) := Keeps.alloc _ _ _
  have z1 : (wz.alloc (Obj.cells (madeCells #[nilS] m) 23)).heap.size = wz.heap.size + 1 := by simp
  generalize wz.alloc (Obj.cells (madeCells #[nilS] m) 23) = W1 at h1 k1 z1 ⊢
  have h2 := TwoAt.new W1 (.int .i64 (m : Int)) (.slice (some ⟨wz.heap.size, 0, none⟩) m m)
  have k2 : Keeps [] W1 (W1.alloc (Obj.cells #[.int .i64 (m : Int), .slice (some ⟨wz.heap.size, 0, none⟩) m m] 27)) := Keeps.alloc _ _ _
  rw [z1] at h2
  have kk := k1.quiet k2
  exact ⟨h.gb.kept kk (by simp), h.rb.kept kk (by simp), h2, h.pl.kept kk (by simp), OwnL.nil (h1.kept k2 (by simp)), h.keep.quiet kk⟩
theorem SH0.congr {w wz : World} {a : Option Addr} {cap n pp : Nat} {pf pf' : Nat → Nat} (h : SH0 w wz a cap n pp pf) (e : ∀ i, pf i = pf' i) : SH0 w wz a cap n pp pf' :=
  ⟨h.gb, h.rb, h.pl.congr (fun i _ => by unfold num; rw [e i]), h.keep⟩

theorem plcs_snoc (g ps : List (List Nat)) (l : List Nat) (x : Nat) : plcs g ps (l ++ [x]) = plcs g ps l ++ (nb g x).map (plcK ps ps.length) := by
  unfold plcs
  rw [List.flatMap_append, List.map_append]
  simp
theorem orL_snoc (s : Nat → Bool) (L : List Nat) (x : Nat) : orL s (L ++ [x]) = ins (orL s L) x := by rw [orL_append, orL_ins]
theorem fit_orL {s : Nat → Bool} (hs : Fit s) {L : List Nat} (h : ∀ x, x ∈ L → x < 5000) : Fit (orL s L) := by
  intro m hm
  refine orL_false.2 ⟨hs m hm, fun hx => ?_⟩
  have := h m hx
  omega

set_option maxHeartbeats 4000000 in
theorem shrink_any (g : List (List Nat)) (hs : Sm g) (a : Option Addr) (cap B : Nat) (w : World) (hG : GAt w B a g) (ps : List (List Nat)) (ap : Option Addr) (pcap Bp : Nat) (hP : GAt w Bp ap ps) (hpl : ps.length ≤ 600) (hpx : ∀ k x, x ∈ nb ps k → x < g.length) (hpn : ∀ k, (nb ps k).length ≤ 600) (hT : TabAt w) :
    Calls Tryd.prog 41 #[.agg #[.int .i64 (g.length : Int), .slice a g.length cap], .slice ap ps.length pcap] w fun e w' => ∃ q vs, e = .returned (.agg #[.int .i64 (ps.length : Int), .slice (some ⟨q, 0, none⟩) ps.length ps.length]) ∧ OwnL w' w.heap.size q ps.length vs (smallL g ps) ∧ Keeps [] w w' := by
  have hzero := zero_set
  have HG := hid hG
  have HP := hid hP
  have HS := hid hs
  have HT := hid hT
  have HPX := hid hpx
  have HPN := hid hpn
  have hg6 := hs.len
  obtain ⟨n, hn⟩ : ∃ n, g.length = n := ⟨_, rfl⟩
  obtain ⟨m, hm⟩ : ∃ m, ps.length = m := ⟨_, rfl⟩
  rw [hn] at HPX hg6 ⊢
  rw [hm] at hpl ⊢
  have HN := hid hn
  have HM := hid hm
  clear hG hP hs hT hpx hpn hn hm
  have hmk := run_nums n (by omega)
  have hml := run_lists m (by omega)
  have hmn : n ≤ maxLen := by unfold maxLen; omega
  have hmm : m ≤ maxLen := by unfold maxLen; omega
  go_enter Tryd.func41, Tryd.ntmps41
  go_wp2
  have H0 := hid (SH0.start w a cap n hmn)
  generalize ((w.alloc (Obj.cells #[.int .i64 (n : Int), .slice a n cap] 27)).alloc (Obj.cells #[.int .i64 0, .slice none 0 0] 27)).alloc (Obj.cells (madeCells #[.int .i64 0] n) 3) = w3 at H0 ⊢
  generalize w.heap.size + 1 + 1 = pp at H0 ⊢
  go_loopw [23] (fun i wr => ∃ k : Nat, k ≤ m ∧ i = .int .i64 k ∧ Box (SH0 w wr a cap n pp (plcK ps k))) (fun i _ => m - (intOf i).toNat)
  case atStart => exact ⟨0, by omega, rfl, hid (H0.out.congr (fun _ => rfl))⟩
  case round =>
    clear H0
    obtain ⟨k, hk, rfl, HR⟩ := hrel
    by_cases hlt : k < m
    · obtain ⟨bl, off, ai, ci, rfl, hcw, hin⟩ := HP.out.at (k := k) (by rw [HM.out]; exact hlt)
      have hc := hcw
      rw [← HR.out.keep.cell (p := ⟨bl, off + k, none⟩) (block_lt_of_cell hcw) (by simp)] at hc
      have HI1 := hid hin
      have hlen := HPN.out k
      clear hcw hin
      go_wp2
      have HR0 : Box (SH0 w wr a cap n pp (plcT ps k 0)) := hid (HR.out.congr (fun x => (plcT_zero ps k x).symm))
      go_loopw [30] (fun i wr2 => ∃ j : Nat, j ≤ (nb ps k).length ∧ i = .int .i64 j ∧ Box (SH0 w wr2 a cap n pp (plcT ps k j))) (fun i _ => (nb ps k).length - (intOf i).toNat)
      case atStart => exact ⟨0, by omega, rfl, HR0⟩
      case round =>
        clear hc HR0
        obtain ⟨j, hj, rfl, HR2⟩ := hrel
        have hlt' : (k : Int) < (m : Int) := by omega
        by_cases hjl : j < (nb ps k).length
        · obtain ⟨bm, om, rfl, hcm⟩ := (HI1.out.kept HR2.out.keep (by simp)).at hjl
          have hxn := HPX.out k _ (getD_mem (nb ps k) j 0 hjl)
          have hsc := hid (fun x => plcT_succ ps k j x hjl)
          obtain ⟨x, hx⟩ : ∃ x, (nb ps k).getD j 0 = x := ⟨_, rfl⟩
          rw [hx] at hcm hxn hsc
          clear hx
          have hcell : wr.cell? ⟨pp, x, none⟩ = some (.int .i64 ((plcT ps k j x : Nat) : Int)) := HR2.out.pl.cell hxn
          have hfz := HR2.out.pl.frozen x
          have hput := hid (HR2.out.put x k)
          have hxn' : (x : Int) < (n : Int) := by omega
          go_wp2
          go_roundw
          case rel => exact ⟨j + 1, by omega, by go_num, hid (hput.out.congr (fun i => by rw [hsc.out i]))⟩
          case measure => simp [intOf]; omega
        · obtain rfl : j = (nb ps k).length := by omega
          go_wp2
          go_roundw
          case rel => exact ⟨k + 1, by omega, by go_num, hid (HR2.out.congr (fun x => plcT_all ps k x))⟩
          case measure => simp [intOf]; omega
    · obtain rfl : k = m := by omega
      have H3 := hid (HR.out.small k hmm)
      clear HR
      go_wp2
      generalize (wr.alloc (Obj.cells (madeCells #[nilS] k) 23)).alloc (Obj.cells #[.int .i64 (k : Int), .slice (some ⟨wr.heap.size, 0, none⟩) k k] 27) = w5 at H3 ⊢
      generalize hpq : wr.heap.size = p at H3 ⊢
      generalize p + 1 = q at H3 ⊢
      clear hpq hmk hml
      go_loopw [48] (fun i wr => ∃ (j : Nat) (vs : Nat → Value), j ≤ k ∧ i = .int .i64 j ∧ Box (SH w wr a cap n k p q pp (plcK ps k) vs (fun i => if i < j then smallL g ps i else []))) (fun i _ => k - (intOf i).toNat)
      case atStart => exact ⟨0, _, by omega, rfl, H3⟩
      case round =>
        clear H3
        obtain ⟨j, vs, hj, rfl, HR⟩ := hrel
        by_cases hjlt : j < k
        · obtain ⟨bl, off, ai, ci, rfl, hcw, hin⟩ := HP.out.at (k := j) (by rw [HM.out]; exact hjlt)
          have hc := hcw
          rw [← HR.out.keep.cell (p := ⟨bl, off + j, none⟩) (block_lt_of_cell hcw) (by simp)] at hc
          have HI1 := hid hin
          have hlen := HPN.out j
          clear hcw hin
          obtain ⟨wo, hwo⟩ : ∃ wo, wo = wr := ⟨_, rfl⟩
          subst hwo
          have hkn : Keeps [] wo (wo.alloc (Obj.cells (row none_) 60)) := Keeps.alloc _ _ _
          have HS1 : Box (SetAt (wo.alloc (Obj.cells (row none_) 60)) wo.heap.size (orL none_ (plcs g ps ((nb ps j).take 0)))) := hid (by
            have := setAt_new wo none_
            rw [show plcs g ps ((nb ps j).take 0) = [] from rfl, orL_nil]
            exact this)
          have hbn : w.heap.size ≤ wo.heap.size := HR.out.keep.size
          have hvb := hid (fun i (hi : i < k) b (hb : (vs i).ownBlock = some b) => ((HR.out.own.inner i hi).lt b hb).2)
          have hple := hid (fun x => plcK_le ps x k)
          go_wp2
          generalize wo.alloc (Obj.cells (row none_) 60) = w6 at hkn HS1 ⊢
          obtain ⟨bs, hbs⟩ : ∃ bs, bs = wo.heap.size := ⟨_, rfl⟩
          rw [← hbs] at HS1 hbn hvb ⊢
          have HBS := hid hbs
          clear hbs
          generalize row none_ = R0
          go_loopw [57] (fun i wr2 => ∃ l : Nat, l ≤ (nb ps j).length ∧ i = .int .i64 l ∧ Keeps [] wo wr2 ∧ Box (SetAt wr2 bs (orL none_ (plcs g ps ((nb ps j).take l))))) (fun i _ => (nb ps j).length - (intOf i).toNat)
          case atStart => exact ⟨0, by omega, rfl, hkn, HS1⟩
          case round =>
            clear HS1 hc hkn
            obtain ⟨l, hl, rfl, hkw, HST⟩ := hrel
            have HR2 := hid (HR.out.kept hkw (by simp))
            have hj' : (j : Int) < (k : Int) := by omega
            by_cases hll : l < (nb ps j).length
            · obtain ⟨bm, om, rfl, hcm⟩ := (HI1.out.kept HR2.out.keep (by simp)).at hll
              have hxn := HPX.out j _ (getD_mem (nb ps j) l 0 hll)
              have htk := hid (take_snoc (nb ps j) l 0 hll)
              obtain ⟨x, hx⟩ : ∃ x, (nb ps j).getD l 0 = x := ⟨_, rfl⟩
              rw [hx] at hcm hxn htk
              clear hx
              obtain ⟨bx, ox, ax, cx, rfl, hcxw, hinx⟩ := HG.out.at (k := x) (by rw [HN.out]; exact hxn)
              have hcx := hcxw
              rw [← HR2.out.keep.cell (p := ⟨bx, ox + x, none⟩) (block_lt_of_cell hcxw) (by simp)] at hcx
              have HIX := hid hinx
              have hlx := HS.out.inner x
              have hokx := hid (fun y (hy : y ∈ nb g x) => HS.out.ok x y hy)
              rw [HN.out] at hokx
              have hgb1 := HR2.out.gb.c1
              have hxn' : (x : Int) < (n : Int) := by omega
              clear hcxw hinx
              go_wp2
              have HSX : Box (SetAt wr bs (orL none_ (plcs g ps ((nb ps j).take l) ++ ((nb g x).take 0).map (plcK ps k)))) := hid (by rw [show ((nb g x).take 0).map (plcK ps k) = [] from rfl, List.append_nil]; exact HST.out)
              go_loopw [67] (fun i wr3 => ∃ y : Nat, y ≤ (nb g x).length ∧ i = .int .i64 y ∧ Keeps [] wo wr3 ∧ Box (SetAt wr3 bs (orL none_ (plcs g ps ((nb ps j).take l) ++ ((nb g x).take y).map (plcK ps k))))) (fun i _ => (nb g x).length - (intOf i).toNat)
              case atStart => exact ⟨0, by omega, rfl, hkw, HSX⟩
              case round =>
                clear HSX hcx hcm hgb1
                obtain ⟨y, hy, rfl, hkw3, HS3⟩ := hrel
                have HR3 := hid (HR.out.kept hkw3 (by simp))
                have hl' : (l : Int) < ((nb ps j).length : Int) := by omega
                by_cases hyl : y < (nb g x).length
                · obtain ⟨bz, oz, rfl, hcz⟩ := (HIX.out.kept HR3.out.keep (by simp)).at hyl
                  have hzn := hokx.out _ (getD_mem (nb g x) y 0 hyl)
                  have htz := hid (take_snoc (nb g x) y 0 hyl)
                  obtain ⟨z, hz⟩ : ∃ z, (nb g x).getD y 0 = z := ⟨_, rfl⟩
                  rw [hz] at hcz hzn htz
                  clear hz
                  have hcp : wr.cell? ⟨pp, z, none⟩ = some (.int .i64 ((plcK ps k z : Nat) : Int)) := HR3.out.pl.cell hzn
                  have hpz := hple.out z
                  have hfit : Fit (orL none_ (plcs g ps ((nb ps j).take l) ++ ((nb g x).take y).map (plcK ps k))) := fit_orL fit_none (fun u hu => by
                    have hple' : ∀ u, plcK ps k u < 5000 := fun u => by have := hple.out u; omega
                    rcases List.mem_append.1 hu with h | h
                    · unfold plcs at h
                      rw [List.mem_map] at h
                      obtain ⟨u', _, rfl⟩ := h
                      rw [HM.out]; exact hple' u'
                    · rw [List.mem_map] at h
                      obtain ⟨u', _, rfl⟩ := h
                      exact hple' u')
                  have HA := hid (add_any bs _ ((plcK ps k z : Nat) : Int) wr HS3.out hfit)
                  rw [insI_nat _ _ (by omega), ← orL_snoc] at HA
                  have hnx : Box (((nb g x).take (y + 1)).map (plcK ps k) = ((nb g x).take y).map (plcK ps k) ++ [plcK ps k z]) := hid (by rw [htz.out, List.map_append]; rfl)
                  have hzn' : (z : Int) < (n : Int) := by omega
                  clear hfit
                  generalize plcK ps k z = pz at hcp HA hnx
                  go_wp2_with (go_at_call 51; refine HA.out.mono ?_; rintro e w8 ⟨rfl, hs8, hk8⟩)
                  go_roundw
                  case rel => exact ⟨y + 1, by omega, by go_num, hkw3.fresh hk8 (fun u hu => by have := HBS.out; simp at hu; omega), hid (by rw [hnx.out, ← List.append_assoc]; exact hs8)⟩
                  case measure => simp [intOf]; omega
                · obtain rfl : y = (nb g x).length := by omega
                  go_wp2
                  go_roundw
                  case rel => exact ⟨l + 1, by omega, by go_num, hkw3, hid (by
                    have := HS3.out
                    rw [List.take_length] at this
                    rw [htk.out, plcs_snoc, HM.out]
                    exact this)⟩
                  case measure => simp [intOf]; omega
            · obtain rfl : l = (nb ps j).length := by omega
              rw [List.take_length] at HST
              have hfit : Fit (orL none_ (plcs g ps (nb ps j))) := fit_orL fit_none (fun u hu => by
                unfold plcs at hu
                rw [List.mem_map] at hu
                obtain ⟨u', _, rfl⟩ := hu
                have := hple.out u'
                rw [HM.out]; omega)
              have HRM := hid (rem_any bs _ (j : Int) wr HST.out hfit)
              have hfit2 := hfit.del (j : Int)
              clear hfit
              go_wp2_with fail
              refine HRM.out.mono ?_
              rintro e w8 ⟨rfl, hs8, hk8⟩
              have hk8' : Keeps [] wo w8 := hkw.fresh hk8 (fun u hu => by have := HBS.out; simp at hu; omega)
              have HR8 := hid (HR.out.kept hk8' (by simp))
              have HTA : Box (TabAt w8) := hid (HT.out.kept HR8.out.keep (by simp))
              have HA := hid (fun w9 (h9 : Keeps [] w8 w9) => all_any bs _ w9 (hs8.kept h9 (by simp)) hfit2 (HTA.out.kept h9 (by simp)))
              have hsml : Box (elems (delI (orL none_ (plcs g ps (nb ps j))) (j : Int)) = smallL g ps j) := hid rfl
              rw [hsml.out] at HA
              have ht1 := HR8.out.tb.c1
              have hcp := HR8.out.own.cell hjlt
              have hfp := HR8.out.own.outer.frozen j
              have hp8 := HR8.out.own.outer.lt.2
              have hq8 := HR8.out.tb.lt
              have hkd : Keeps [] w8 w8.drew := Keeps.drew _ _
              obtain ⟨av, cv, hvj, _, _, _⟩ := ownsRow_nat (HR8.out.own.inner j hjlt)
              rw [hvj] at hcp
              clear HRM hs8 hk8 hkw HST
              go_upto_region 26 with fail
              go_region_with (first | (go_at_call 13; refine (HA.out _ hkd).mono ?_; rintro e w9 ⟨v9, rfl, hr9, hk9⟩; have H9 : Box (SH w w9 a cap n k p q pp (plcK ps k) vs (fun i => if i < j then smallL g ps i else [])) := hid (HR8.out.kept (hkd.quiet hk9) (by simp)); have hd1 := H9.out.tb.c1; have hdp := H9.out.own.cell hjlt; have hdf := H9.out.own.outer.frozen j; rw [hvj] at hdp; have HR9 := hid hr9; have HK9 := hid hk9; obtain ⟨a9, c9, hv9, _, _, _⟩ := ownsRow_nat hr9; clear hr9; subst hv9))
              all_goals
                have hset := H9.out.set (k := j) (l' := smallL g ps j) (ownsRow_base HR9.out (by have := HR8.out.keep.size; exact this)) (fun i hi hij b hb e => by
                  have h1 := hvb.out i hi b hb
                  have h2 := (HR9.out.lt b e).1
                  have h3 := hk8'.size
                  have h4 := HBS.out
                  have h5 : w8.drew.heap.size = w8.heap.size := rfl
                  omega)
                have HSET := hid hset
                clear hset
                go_wp2
                go_roundw
                case rel =>
                  refine ⟨j + 1, _, by omega, by go_num, hid (⟨HSET.out.gb, HSET.out.rb, HSET.out.tb, HSET.out.pl, HSET.out.own.congr (fun i _ => ⟨rfl, ?_⟩), HSET.out.keep⟩)⟩
                  by_cases e : i = j
                  · rw [if_pos e, if_pos (by omega), e]
                  · rw [if_neg e]
                    by_cases e2 : i < j
                    · rw [if_pos e2, if_pos (by omega)]
                    · rw [if_neg e2, if_neg (by omega)]
                case measure => simp [intOf]; omega
        · obtain rfl : j = k := by omega
          have ht0 := HR.out.tb.c0
          have ht1 := HR.out.tb.c1
          have hr0 := HR.out.rb.c0
          have hr1 := HR.out.rb.c1
          have hf0 := HR.out.rb.frozen 0
          have hf1 := HR.out.rb.frozen 1
          go_wp2
          have k1 : Keeps [w.heap.size + 1] wr (wr.setCell ⟨w.heap.size + 1, 0, none⟩ (.int .i64 (j : Int))) := Keeps.setCell _ _ _ _ (by simp)
          have k2 : Keeps [w.heap.size + 1] (wr.setCell ⟨w.heap.size + 1, 0, none⟩ (.int .i64 (j : Int))) ((wr.setCell ⟨w.heap.size + 1, 0, none⟩ (.int .i64 (j : Int))).setCell ⟨w.heap.size + 1, 1, none⟩ (.slice (some ⟨p, 0, none⟩) j j)) := Keeps.setCell _ _ _ _ (by simp)
          have k3 := k1.step k2
          have hb2 : TwoAt ((wr.setCell ⟨w.heap.size + 1, 0, none⟩ (.int .i64 (j : Int))).setCell ⟨w.heap.size + 1, 1, none⟩ (.slice (some ⟨p, 0, none⟩) j j)) (w.heap.size + 1) (.int .i64 (j : Int)) (.slice (some ⟨p, 0, none⟩) j j) := by
            have h1 := heap_setCell_same wr (w.heap.size + 1) 0 _ _ (.int .i64 (j : Int)) HR.out.rb.heap
            have h2 := heap_setCell_same _ (w.heap.size + 1) 1 _ _ (.slice (some ⟨p, 0, none⟩) j j) h1
            exact ⟨h2⟩
          have hd0 := hb2.c0
          have hd1 := hb2.c1
          have hown := (HR.out.own.kept k3 (by simp; exact fun e => two_ne_row HR.out.rb HR.out.own.outer e.symm) (fun i hi b hb => by simp; exact fun e => two_ne_own HR.out.rb (HR.out.own.inner i hi) (e ▸ hb))).congr (vs' := vs) (L' := smallL g ps) (fun i hi => ⟨rfl, if_pos hi⟩)
          have hkeep := HR.out.keep.fresh k3 (fun x hx => by simp at hx; omega)
          generalize (wr.setCell ⟨w.heap.size + 1, 0, none⟩ (.int .i64 (j : Int))).setCell ⟨w.heap.size + 1, 1, none⟩ (.slice (some ⟨p, 0, none⟩) j j) = w9 at hd0 hd1 hown hkeep ⊢
          exact bodyPost_ret (v := .agg #[.int .i64 (j : Int), .slice (some ⟨p, 0, none⟩) j j]) (by simp [results, Tryd.results41, go_sem, hd0, hd1]) rfl ⟨p, vs, rfl, hown, hkeep⟩
end Go.Proofs.YtngdnjlohmkbiaaDoor
