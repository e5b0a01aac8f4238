/-
  Contract: graph's ahead.
-/
import Derived.Test.YtngdnjlohmkbiaaDoorGShrink
import Derived.Test.YtngdnjlohmkbiaaDoorGAhd
namespace Go.Proofs.YtngdnjlohmkbiaaDoor
open Go.RowKit

def lenV : Value → Nat
  | .slice _ n _ => n
  | _ => 0
theorem lenV_own {w : World} {base : Nat} {v : Value} {l : List Nat} (h : w.ownsRow base 3 1 v l.length (ints l)) : lenV v = l.length := by
  obtain ⟨a, cap, rfl, _⟩ := ownsRow_nat h
  rfl

/-- In the midst of ahead. -/
structure AH (w wz : World) (a : Option Addr) (cap n pw br : Nat) (vl : Value) (line : List Nat) (wt : Nat → Nat) (rd : Nat → Bool) : Prop where
  gb : TwoAt wz w.heap.size (.int .i64 (n : Int)) (.slice a n cap)
  wt : RowAt wz w.heap.size pw n 3 (num wt)
  rd : SetAt wz br rd
  row : wz.ownsRow w.heap.size 3 1 vl line.length (ints line)
  ne : vl.ownBlock ≠ some pw
  keep : Keeps [] w wz
  low : w.heap.size < br
theorem AH.quiet {w wz wy : World} {a : Option Addr} {cap n pw br : Nat} {vl : Value} {line : List Nat} {wt : Nat → Nat} {rd : Nat → Bool} (h : AH w wz a cap n pw br vl line wt rd) (k : Keeps [] wz wy) : AH w wy a cap n pw br vl line wt rd :=
  ⟨h.gb.kept k (by simp), h.wt.kept k (by simp), h.rd.kept k (by simp), ownsRow_keeps h.row k (by simp), h.ne, h.keep.quiet k, h.low⟩
theorem set_ne_rowat {w : World} {b base p n : Nat} {s : Nat → Bool} {c : Nat → Value} (hs : SetAt w b s) (hr : RowAt w base p n 3 c) : b ≠ p := by
  intro e
  subst e
  obtain ⟨cur, hc⟩ := hr.heap
  rw [hs.heap] at hc
  simp at hc
theorem set_ne_two {w : World} {b c : Nat} {s : Nat → Bool} {x y : Value} (hs : SetAt w b s) (ht : TwoAt w c x y) : b ≠ c := by
  intro e
  subst e
  have := ht.heap
  rw [hs.heap] at this
  simp at this
theorem AH.turn {w wz wy : World} {a : Option Addr} {cap n pw br : Nat} {vl : Value} {line : List Nat} {wt : Nat → Nat} {rd rd' : Nat → Bool} (h : AH w wz a cap n pw br vl line wt rd) (k : Keeps [br] wz wy) (hr : SetAt wy br rd') : AH w wy a cap n pw br vl line wt rd' :=
  ⟨h.gb.kept k (by simp; exact fun e => set_ne_two h.rd h.gb e.symm), h.wt.kept k (by simp; exact fun e => set_ne_rowat h.rd h.wt e.symm), hr, ownsRow_keeps h.row k (fun b hb hx => by simp at hx; subst hx; exact set_ne_row h.rd h.row hb), h.ne, h.keep.fresh k (fun x hx => by have := h.low; simp at hx; omega), h.low⟩
theorem AH.put {w wz : World} {a : Option Addr} {cap n pw br : Nat} {vl : Value} {line : List Nat} {wt : Nat → Nat} {rd : Nat → Bool} (h : AH w wz a cap n pw br vl line wt rd) (x y : Nat) : AH w (wz.setCell ⟨pw, x, none⟩ (.int .i64 (y : Int))) a cap n pw br vl line (fun i => if i = x then y else wt i) rd := by
  have k : Keeps [pw] wz (wz.setCell ⟨pw, x, none⟩ (.int .i64 (y : Int))) := Keeps.setCell _ _ _ _ (by simp)
  refine ⟨h.gb.kept k (by simp; exact fun e => two_ne_num h.gb h.wt e), (h.wt.put x _).congr (fun i _ => ?_), h.rd.kept k (by simp; exact fun e => set_ne_rowat h.rd h.wt e), ownsRow_keeps h.row k (fun b hb hx => by simp at hx; subst hx; exact h.ne hb), h.ne, h.keep.fresh k (fun u hu => by have := h.wt.lt; simp at hu; omega), h.low⟩
  by_cases e : i = x
  · rw [if_pos e]; exact (num_of (c := fun i => if i = x then y else wt i) (if_pos e)).symm
  · rw [if_neg e]; exact (num_of (c := fun i => if i = x then y else wt i) (if_neg e)).symm
theorem AH.append {w wz wa wy : World} {a : Option Addr} {cap n pw br : Nat} {vl v' : Value} {line : List Nat} {wt : Nat → Nat} {rd : Nat → Bool} {x : Nat} (h : AH w wz a cap n pw br vl line wt rd) (ka : Keeps [] wz wa)
    (ho : wy.ownsRow w.heap.size 3 1 v' (line.length + 1) (ints line ++ [.int .i64 (x : Int)])) (hg : wa.grownBy wy vl.ownBlock) (hat : v'.ownBlock = vl.ownBlock ∨ v'.ownBlock = some wa.heap.size) : AH w wy a cap n pw br v' (line ++ [x]) wt rd := by
  have h2 := h.quiet ka
  have k : Keeps vl.ownBlock.toList wa wy := Keeps.grown _ hg (fun y hy => by rw [hy]; simp)
  refine ⟨h2.gb.kept k (fun hx => two_ne_own h2.gb h2.row (by simpa using hx)), h2.wt.kept k (fun hx => h.ne (by simpa using hx)), h2.rd.kept k (fun hx => set_ne_row h2.rd h2.row (by simpa using hx)), ?_, ?_, h2.keep.fresh k (own_new h2.row), h.low⟩
  · rw [List.length_append, show ints (line ++ [x]) = ints line ++ [.int .i64 (x : Int)] from by simp [ints]]
    exact ho
  · intro e
    rcases hat with e2 | e2
    · exact h.ne (e2 ▸ e)
    · rw [e2] at e
      have := h2.wt.lt.2
      simp at e
      omega
theorem AH.congr {w wz : World} {a : Option Addr} {cap n pw br : Nat} {vl : Value} {line : List Nat} {wt wt' : Nat → Nat} {rd rd' : Nat → Bool} (h : AH w wz a cap n pw br vl line wt rd) (e : ∀ i, i < n → wt i = wt' i) (e2 : rd = rd') : AH w wz a cap n pw br vl line wt' rd' :=
  ⟨h.gb, h.wt.congr (fun i hi => by unfold num; rw [e i hi]), e2 ▸ h.rd, h.row, h.ne, h.keep, h.low⟩

/-- ready, when the nodes below k have been looked at. -/
def rdK (g : List (List Nat)) (k m : Nat) : Bool := decide (m < k) && rdy g [] m
theorem rdK_zero (g : List (List Nat)) : rdK g 0 = none_ := by funext m; simp [rdK, none_]
theorem rdK_all (g : List (List Nat)) : rdK g g.length = rdy g [] := by
  funext m
  unfold rdK
  by_cases h : m < g.length
  · simp [h]
  · simp [h, rdy]
theorem rdK_succ (g : List (List Nat)) (k : Nat) (hk : k < g.length) : rdK g (k + 1) = if deg g g.length k = 0 then ins (rdK g k) k else rdK g k := by
  have hr : rdy g [] k = decide (deg g g.length k = 0) := by unfold rdy; rw [wts_nil]; simp [hk]
  by_cases h : deg g g.length k = 0
  · rw [if_pos h]
    funext m
    show (decide (m < k + 1) && rdy g [] m) = ((decide (m < k) && rdy g [] m) || (m == k))
    by_cases e : m = k
    · subst e; rw [hr]; simp [h]
    · have : decide (m < k + 1) = decide (m < k) := by rw [decide_eq_decide]; omega
      rw [this]; simp [e]
  · rw [if_neg h]
    funext m
    show (decide (m < k + 1) && rdy g [] m) = (decide (m < k) && rdy g [] m)
    by_cases e : m = k
    · subst e; rw [hr]; simp [h]
    · have : decide (m < k + 1) = decide (m < k) := by rw [decide_eq_decide]; omega
      rw [this]

set_option maxHeartbeats 4000000 in
theorem ahead_any (g : List (List Nat)) (hs : Sm g) (a : Option Addr) (cap B : Nat) (w : World) (hG : GAt w B a g) (hB : B ≤ w.heap.size) (hT : TabAt w) :
    Calls Tryd.prog 40 #[.agg #[.int .i64 (g.length : Int), .slice a g.length cap]] w fun e w' => ∃ v, e = .returned v ∧ w'.ownsRow w.heap.size 3 1 v (ahd g).length (ints (ahd g)) ∧ Keeps [] w w' := by
  have hzero := zero_set
  have HG := hid hG
  have HS := hid hs
  have HT := hid hT
  have hg6 := hs.len
  have k1 : Keeps [] w (w.alloc (Obj.cells #[.int .i64 (g.length : Int), .slice a g.length cap] 27)) := Keeps.alloc _ _ _
  have H1 := hid (TwoAt.new w (.int .i64 (g.length : Int)) (.slice a g.length cap))
  have HI := hid (into_any g hs a cap B _ (hG.quiet k1) (by have := k1.size; omega))
  obtain ⟨n, hn⟩ : ∃ n, g.length = n := ⟨_, rfl⟩
  rw [hn] at HI hg6 k1 H1 ⊢
  have HN := hid hn
  clear hG hs hT hn
  go_enter Tryd.func40, Tryd.ntmps40
  go_wp2_with fail
  generalize w.alloc (Obj.cells #[.int .i64 (n : Int), .slice a n cap] 27) = w1 at k1 H1 HI ⊢
  refine HI.out.mono ?_
  rintro e w2 ⟨pw, rfl, hrow2, hk2⟩
  have hk3 : Keeps [] w2 (w2.alloc (Obj.cells (row none_) 60)) := Keeps.alloc _ _ _
  have hw2 := k1.quiet hk2
  have A3 : Box (AH w (w2.alloc (Obj.cells (row none_) 60)) a cap n pw w2.heap.size (.slice none 0 0) [] (deg g n) (rdK g 0)) := hid
    ⟨(H1.out.kept hk2 (by simp)).kept hk3 (by simp), (hrow2.base k1.size).kept hk3 (by simp), by rw [rdK_zero]; exact setAt_new w2 none_, nil_row _ _, by simp [Value.ownBlock], hw2.quiet hk3, by have := (H1.out.kept hk2 (by simp)).lt; exact this⟩
  clear HI H1 hrow2 hk2 k1 hw2
  go_wp2_with fail
  generalize w2.alloc (Obj.cells (row none_) 60) = w3 at A3 hk3 ⊢
  generalize w2.heap.size = br at A3 ⊢
  clear hk3
  generalize row none_ = R
  go_loopw [17] (fun i wr => ∃ k : Nat, k ≤ n ∧ i = .int .i64 k ∧ Box (AH w wr a cap n pw br (.slice none 0 0) [] (deg g n) (rdK g k))) (fun i _ => n - (intOf i).toNat)
  case atStart => exact ⟨0, by omega, rfl, A3⟩
  case round =>
    clear A3
    obtain ⟨k, hk, rfl, HR⟩ := hrel
    by_cases hlt : k < n
    · have hcell : wr.cell? ⟨pw, k, none⟩ = some (.int .i64 ((deg g n k : Nat) : Int)) := HR.out.wt.cell hlt
      have hsc := hid (rdK_succ g k (by rw [HN.out]; exact hlt))
      rw [HN.out] at hsc
      by_cases hz : deg g n k = 0
      · have hfit : Fit (rdK g k) := fun m hm => by unfold rdK; have := rdy_fit g (by rw [HN.out]; exact hg6) [] m hm; rw [this]; simp
        have HA := hid (add_any br (rdK g k) k wr HR.out.rd hfit)
        rw [insI_nat _ _ (by omega)] at HA
        rw [if_pos hz] at hsc
        rw [hz] at hcell
        clear hz hfit
        go_wp2_with (go_at_call 51; refine HA.out.mono ?_; rintro e w4 ⟨rfl, hs4, hk4⟩)
        go_roundw
        case rel => exact ⟨k + 1, by omega, by go_num, hid (by rw [hsc.out]; exact HR.out.turn hk4 hs4)⟩
        case measure => simp [intOf]; omega
      · rw [if_neg hz] at hsc
        have hb : (((deg g n k : Nat) : Int) == 0) = false := by rw [beq_eq_false_iff_ne]; omega
        generalize deg g n k = dg at hcell hb
        clear hz
        go_wp2
        go_roundw
        case rel => exact ⟨k + 1, by omega, by go_num, hid (by rw [hsc.out]; exact HR.out)⟩
        case measure => simp [intOf]; omega
    · obtain rfl : k = n := by omega
      have hgb0 := HR.out.gb.c0
      go_wp2_with (at_make; refine wpList_make_own _ rfl _ _ 23 rfl w.heap.size 3 Tryd.t3 (.int .i64 0) 1 under_ints info_int zero_int size_int .i64 .i64 _ k rfl rfl rfl (by rw [bytes_int]; omega) (by unfold maxLen; omega) HR.out.keep.size ?_; intro w5 hown5 hgrow5)
      have hk5 : Keeps [] wr w5 := Keeps.grown [] hgrow5 (by simp)
      have A5 : Box (AH w w5 a cap k pw br (.slice (some ⟨wr.heap.size, 0, none⟩) 0 k) [] (wts g []) (rdy g [])) := hid (by
        have h1 := HR.out.quiet hk5
        refine ⟨h1.gb, h1.wt.congr (fun i _ => ?_), ?_, hown5, ?_, h1.keep, h1.low⟩
        · unfold num
          rw [wts_nil, HN.out]
        · rw [← rdK_all, HN.out]
          exact h1.rd
        · have := HR.out.wt.lt.2
          simp [Value.ownBlock]
          omega)
      have hT5 := HT.out.kept A5.out.keep (by simp)
      have HFI := hid (first_any br _ 0 w5 A5.out.rd (rdy_fit g (by rw [HN.out]; exact hg6) []) hT5)
      clear hown5 hgrow5 hk5 HR hT5 hgb0
      refine HFI.out.mono ?_
      rintro e w6 ⟨rfl, q6, rfl⟩
      have A6 := hid (A5.out.quiet (Keeps.drewN [] w5 q6))
      have hahd : Box (ahd g = ahdL g (k + 1 - ([] : List Nat).length) []) := hid (by unfold ahd; rw [HN.out]; rfl)
      generalize w5.drewN q6 = w6 at A6 ⊢
      generalize wr.heap.size = pl0 at A6 ⊢
      obtain ⟨r0, hr0⟩ : ∃ r0, firstI (rdy g []) 0 = r0 := ⟨_, rfl⟩
      rw [hr0]
      have Hr0 := hid hr0.symm
      clear hr0 A5 HFI
      go_wp2_with fail
      go_loopw [7, 8] (fun v7 v8 wr => ∃ (line : List Nat) (r : Int) (vl : Value), v8 = .int .i64 r ∧ vl = v7 ∧ Box (r = firstI (rdy g line) 0) ∧ Box (Ahd g line) ∧ Box (ahd g = ahdL g (k + 1 - line.length) line) ∧ Box (AH w wr a cap k pw br vl line (wts g line) (rdy g line))) (fun v7 _ _ => k - lenV v7)
      case atStart => exact ⟨[], r0, _, rfl, rfl, Hr0, hid (Ahd.nil g), hahd, A6⟩
      case round =>
        clear A6 Hr0 hahd
        obtain ⟨line, r, vl, rfl, rfl, Hr, HA, HE, HR⟩ := hrel
        rcases firstI_spec (rdy g line) 0 with ⟨e1, _⟩ | ⟨j, e1, _, _, hrj, _⟩
        · have hr1 : r = -1 := Hr.out.trans e1
          have hend := hid (HE.out.trans (ahdL_end g line e1 _))
          subst hr1
          clear e1 Hr
          go_wp2
          go_ret
          refine ⟨_, rfl, ?_, HR.out.keep⟩
          rw [hend.out]
          exact HR.out.row
        · have hr1 : r = (j : Int) := Hr.out.trans e1
          subst hr1
          have Hrj := hid hrj
          obtain ⟨hjk, hjl, _⟩ := rdy_iff.1 hrj
          rw [HN.out] at hjk
          have HA2 := hid (HA.out.snoc hrj)
          have hll : (line ++ [j]).length ≤ k := by
            have := nodup_len_le HA2.out.nodup HA2.out.lt
            rwa [HN.out] at this
          have hll' : line.length + 1 ≤ k := by rw [List.length_append] at hll; exact hll
          have HE2 : Box (ahd g = ahdL g (k + 1 - (line ++ [j]).length) (line ++ [j])) := hid (by
            have e9 : k + 1 - (line ++ [j]).length = k - line.length := by
              rw [List.length_append]
              show k + 1 - (line.length + 1) = _
              omega
            rw [e9, HE.out, show k + 1 - line.length = (k - line.length) + 1 by omega, ahdL_step g line j e1])
          have hmeas : Box (lenV vl = line.length) := hid (lenV_own HR.out.row)
          have hmid := hid (HA.out.mid hrj)
          have HRM := hid (rem_any br _ (j : Int) wr HR.out.rd (rdy_fit g (by rw [HN.out]; exact hg6) line))
          rw [← rdyT_zero g line j hjl (by rw [HN.out]; exact hjk)] at HRM
          have hw0 := hid (fun m => wtsT_zero g line j m hjl (by rw [HN.out]; exact hjk))
          have hj0 : (0 : Int) ≤ (j : Int) := by omega
          clear e1 Hr HE hrj hll
          go_wp2_with fail
          refine HRM.out.mono ?_
          rintro e w7 ⟨rfl, hs7, hk7⟩
          have A7 := hid ((HR.out.turn hk7 hs7).congr (wt' := wtsT g line j 0) (fun i _ => (hw0.out i).symm) rfl)
          have HRW := hid A7.out.row
          have hw7 := A7.out.keep.size
          clear HRM hs7 hk7 HR
          obtain ⟨bl, off, ai, ci, rfl, hcw, hin⟩ := HG.out.at (k := j) (by rw [HN.out]; exact hjk)
          have HIN := hid hin
          have HCW := hid hcw
          have hlen := HS.out.inner j
          have hok := hid (fun y (hy : y ∈ nb g j) => HS.out.ok j y hy)
          rw [HN.out] at hok
          have hjk' : (j : Int) < (k : Int) := by omega
          clear hcw hin
          go_wp2_with (at_builtin; refine wpList_append_own_at _ rfl _ _ 23 rfl w.heap.size 3 Tryd.t3 (.int .i64 0) 1 8 under_ints info_int zero_int size_int bytes_int rfl (by decide) vl _ _ rfl (HRW.out.alloc _) _ 1 1 [.int .i64 (j : Int)] rfl rfl (cell_one_new _ _ _) (fun x hx => by simp at hx; subst hx; rfl) (by unfold maxLen; omega) (by omega) (by simp; omega) ?_; intro v8 w8 hown8 hgrow8 hnil8 hat8; have A8 := hid (A7.out.append (Keeps.alloc [] _ _) hown8 hgrow8 hat8); have hgb1 := A8.out.gb.c1; have hc8 := HCW.out; rw [← A8.out.keep.cell (p := ⟨bl, off + j, none⟩) (block_lt_of_cell hc8) (by simp)] at hc8; clear hown8 hgrow8 hnil8 hat8)
          clear hgb1 hc8
          go_loopw [50] (fun i wr => ∃ y : Nat, y ≤ (nb g j).length ∧ i = .int .i64 y ∧ Box (AH w wr (some ⟨bl, off, none⟩) cap k pw br v8 (line ++ [j]) (wtsT g line j y) (rdyT g line j y))) (fun i _ => (nb g j).length - (intOf i).toNat)
          case atStart => exact ⟨0, by omega, rfl, A8⟩
          case round =>
            clear A8
            obtain ⟨y, hy, rfl, HR2⟩ := hrel
            by_cases hyl : y < (nb g j).length
            · obtain ⟨bz, oz, rfl, hcz⟩ := (HIN.out.kept HR2.out.keep (by simp)).at hyl
              have hxk := hok.out _ (getD_mem (nb g j) y 0 hyl)
              have hws := hid (fun m => wtsT_succ g line j y m hyl)
              have hrs := hid (rdyT_succ g line j y hyl (by rw [HN.out]; exact hxk) (hmid.out y))
              obtain ⟨x, hx⟩ : ∃ x, (nb g j).getD y 0 = x := ⟨_, rfl⟩
              rw [hx] at hcz hxk hws hrs
              clear hx
              have hcx : wr.cell? ⟨pw, x, none⟩ = some (.int .i64 ((wtsT g line j y x : Nat) : Int)) := HR2.out.wt.cell hxk
              have hfx := HR2.out.wt.frozen x
              have hbd : wtsT g line j y x ≤ 1000000 := by
                have h1 := wtsT_zero g line j x hjl (by rw [HN.out]; exact hjk)
                have h2 : wtsT g line j y x ≤ wtsT g line j 0 x := by
                  unfold wtsT
                  rw [List.drop_zero]
                  have : occ ((nb g j).drop y) x ≤ occ (nb g j) x := ((List.drop_sublist y (nb g j)).filter _).length_le
                  omega
                have h3 : wts g line x ≤ deg g k x := by
                  rw [← HN.out]
                  exact wts_le g line x
                have h4 := deg_short HS.out x k
                omega
              have hw1 := hws.out x
              rw [if_pos rfl] at hw1
              have hput := hid (HR2.out.put x (wtsT g line j (y + 1) x))
              have hcong : Box (∀ i, i < k → (if i = x then wtsT g line j (y + 1) x else wtsT g line j y i) = wtsT g line j (y + 1) i) := hid (fun i _ => by
                by_cases e : i = x
                · rw [if_pos e, e]
                · rw [if_neg e, hws.out i, if_neg e, Nat.add_zero])
              rw [hw1] at hcx hbd
              have HP := hid (hput.out.congr hcong.out rfl)
              obtain ⟨z, hz⟩ : ∃ z, wtsT g line j (y + 1) x = z := ⟨_, rfl⟩
              rw [hz] at hcx hbd hrs HP
              have hxk' : (x : Int) < (k : Int) := by omega
              have hcx2 : (wr.setCell ⟨pw, x, none⟩ (.int .i64 (z : Int))).cell? ⟨pw, x, none⟩ = some (.int .i64 (z : Int)) := by
                have := HP.out.wt.cell hxk
                rw [show num (wtsT g line j (y + 1)) x = .int .i64 ((z : Nat) : Int) from num_of hz] at this
                exact this
              clear hput hcong hw1 hz
              by_cases hz0 : z = 0
              · subst hz0
                rw [if_pos rfl] at hrs
                have HAD := hid (add_any br _ (x : Int) _ HP.out.rd (rdyT_fit g (by rw [HN.out]; exact hg6) line j y))
                rw [insI_nat _ _ (by omega)] at HAD
                go_wp2_with (go_at_call 51; refine HAD.out.mono ?_; rintro e w9 ⟨rfl, hs9, hk9⟩)
                go_roundw
                case rel => exact ⟨y + 1, by omega, by go_num, hid (by rw [hrs.out]; exact HP.out.turn hk9 hs9)⟩
                case measure => simp [intOf]; omega
              · rw [if_neg hz0] at hrs
                have hb0 : (((z : Nat) : Int) == 0) = false := by rw [beq_eq_false_iff_ne]; omega
                go_wp2
                go_roundw
                case rel => exact ⟨y + 1, by omega, by go_num, hid (by rw [hrs.out]; exact HP.out)⟩
                case measure => simp [intOf]; omega
            · obtain rfl : y = (nb g j).length := by omega
              have A9 := hid (HR2.out.congr (wt' := wts g (line ++ [j])) (rd' := rdy g (line ++ [j])) (fun i _ => wtsT_all g line j i) (rdyT_all g line j))
              have HFI := hid (first_any br _ 0 wr A9.out.rd (rdy_fit g (by rw [HN.out]; exact hg6) (line ++ [j])) (HT.out.kept A9.out.keep (by simp)))
              obtain ⟨r1, hr1⟩ : ∃ r1, firstI (rdy g (line ++ [j])) 0 = r1 := ⟨_, rfl⟩
              rw [hr1] at HFI
              have Hr1 := hid hr1.symm
              have hmeas2 : Box (lenV v8 = line.length + 1) := hid (by rw [lenV_own HR2.out.row, List.length_append]; rfl)
              clear hr1 HR2
              go_wp2_with fail
              refine HFI.out.mono ?_
              rintro e w9 ⟨rfl, q9, rfl⟩
              have A10 := hid (A9.out.quiet (Keeps.drewN [] _ q9))
              clear A9 HFI
              go_wp2
              go_roundw
              case rel => exact ⟨line ++ [j], r1, v8, rfl, rfl, Hr1, HA2, HE2, A10⟩
              case measure =>
                show k - lenV v8 < k - lenV vl
                rw [hmeas.out, hmeas2.out]
                omega
end Go.Proofs.YtngdnjlohmkbiaaDoor
