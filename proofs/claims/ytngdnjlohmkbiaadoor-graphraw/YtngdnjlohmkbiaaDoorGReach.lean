/-
  Contracts: graph's Reach and Order.
-/
import Derived.Test.YtngdnjlohmkbiaaDoorGRev
import Derived.Test.YtngdnjlohmkbiaaDoorGSm
namespace Go.Proofs.YtngdnjlohmkbiaaDoor
open Go.RowKit

/-- Who is reached from those of zs that are nodes, when s was reached already. -/
def rchS (g : List (List Nat)) (zs : List Int) (s : Nat → Bool) : Nat → Bool := zs.foldl (fun s z => if 0 ≤ z ∧ z < (g.length : Int) then (vis g (g.length + 1) z.toNat (s, [])).1 else s) s
def rch (g : List (List Nat)) (zs : List Int) : Nat → Bool := rchS g zs none_
theorem rchS_snoc (g : List (List Nat)) (zs : List Int) (z : Int) (s : Nat → Bool) : rchS g (zs ++ [z]) s = if 0 ≤ z ∧ z < (g.length : Int) then (vis g (g.length + 1) z.toNat (rchS g zs s, [])).1 else rchS g zs s := by
  unfold rchS
  rw [List.foldl_append]
  rfl
theorem rchS_fit {g : List (List Nat)} (h : Sm g) : ∀ (zs : List Int) (s : Nat → Bool), Fit s → Fit (rchS g zs s)
  | [], _, hs => hs
  | z :: zs, s, hs => by
    show Fit (rchS g zs (if 0 ≤ z ∧ z < (g.length : Int) then (vis g (g.length + 1) z.toNat (s, [])).1 else s))
    refine rchS_fit h zs _ ?_
    by_cases e : 0 ≤ z ∧ z < (g.length : Int)
    · rw [if_pos e]
      exact Fit.node h.len hs (fun m hm => vis_node g h.ok _ z.toNat (s, []) m (by omega) hm)
    · rw [if_neg e]; exact hs


/-- A graph's box, and a new set behind it. -/
structure Two0 (w w2 : World) (B : Nat) (a : Option Addr) (cap : Nat) (g : List (List Nat)) (s : Nat → Bool) : Prop where
  box : BoxAt w2 w.heap.size (g.length : Int) a g.length cap
  set : SetAt w2 (w.heap.size + 1) s
  gr : GAt w2 B a g
  keep : Keeps [] w w2
theorem two_new (w : World) (B : Nat) (a : Option Addr) (cap : Nat) (g : List (List Nat)) (hG : GAt w B a g) :
    Two0 w ((w.alloc (Obj.cells #[.int .i64 (g.length : Int), .slice a g.length cap] 27)).alloc (Obj.cells (row none_) 60)) B a cap g none_ := by
  have hk1 : Keeps [] w (w.alloc (Obj.cells #[.int .i64 (g.length : Int), .slice a g.length cap] 27)) := Keeps.alloc _ _ _
  have hk2 : Keeps [] (w.alloc (Obj.cells #[.int .i64 (g.length : Int), .slice a g.length cap] 27)) ((w.alloc (Obj.cells #[.int .i64 (g.length : Int), .slice a g.length cap] 27)).alloc (Obj.cells (row none_) 60)) := Keeps.alloc _ _ _
  refine ⟨(BoxAt.new w (g.length : Int) a g.length cap).kept hk2 (by simp), ?_, (hG.quiet hk1).quiet hk2, hk1.quiet hk2⟩
  have := setAt_new (w.alloc (Obj.cells #[.int .i64 (g.length : Int), .slice a g.length cap] 27)) none_
  rw [World.size_alloc] at this
  exact this

set_option maxHeartbeats 2000000 in
theorem reach_any (g : List (List Nat)) (hs : Sm g) (a : Option Addr) (cap B : Nat) (w : World) (hG : GAt w B a g) (hB : B ≤ w.heap.size) (af : Option Addr) (fc Bf : Nat) (zs : List Int) (hz : InAt w Bf af zs) (hl : zs.length ≤ 1000000) (hBf : Bf ≤ w.heap.size) :
    Calls Tryd.prog 12 #[.agg #[.int .i64 (g.length : Int), .slice a g.length cap], .slice af zs.length fc] w fun e w' => ∃ b, e = .returned (.pointer (some ⟨b, 0, none⟩)) ∧ SetAt w' b (rch g zs) ∧ Keeps [] w w' ∧ w.heap.size ≤ b := by
  have hzero := zero_set
  have H2 := hid (two_new w B a cap g hG)
  have HZ := hid (hz.kept H2.out.keep (by simp))
  have HS := hid hs
  have HC : Box (∀ w, GAt w B a g → Calls Tryd.prog 24 #[.agg #[.int .i64 (g.length : Int), .slice a g.length cap]] w fun e w' => e = .returned (.bool true) ∧ Keeps [] w w') := hid (fun w => gmay_yes g hs a cap B w)
  clear hG hz hs
  go_enter Tryd.func12, Tryd.ntmps12
  go_wp2_with fail
  generalize (w.alloc (Obj.cells #[.int .i64 (g.length : Int), .slice a g.length cap] 27)).alloc (Obj.cells (row none_) 60) = w2 at H2 HZ ⊢
  refine (HC.out w2 H2.out.gr).mono ?_
  rintro e w3 ⟨rfl, hk3⟩
  have H3 : Box (Two0 w w3 B a cap g (rchS g [] none_)) := hid ⟨H2.out.box.kept hk3 (by simp), H2.out.set.kept hk3 (by simp), H2.out.gr.quiet hk3, H2.out.keep.quiet hk3⟩
  have HZ3 := hid (HZ.out.kept hk3 (by simp))
  clear H2 HZ hk3 HC hzero
  generalize row none_ = R
  obtain ⟨zl, hzl⟩ : ∃ zl, zs.length = zl := ⟨_, rfl⟩
  rw [hzl] at hl ⊢
  have HZL := hid hzl
  clear hzl
  go_wp2_with fail
  go_loopw [16] (fun i wr => ∃ k : Nat, k ≤ zl ∧ i = .int .i64 k ∧ Box (Two0 w wr B a cap g (rchS g (zs.take k) none_)) ∧ Keeps [w.heap.size + 1] w3 wr) (fun i _ => zl - (intOf i).toNat)
  case atStart => exact ⟨0, by omega, rfl, H3, Keeps.refl _ _⟩
  case round =>
    clear H3
    obtain ⟨k, hk, rfl, HR, hkw⟩ := hrel
    by_cases hlt : k < zl
    · obtain ⟨bl, off, rfl, hc⟩ := (HZ3.out.kept hkw (fun x hx => by simp at hx; omega)).at (k := k) (by rw [HZL.out]; exact hlt)
      have hc0 := HR.out.box.c0
      have hc1 := HR.out.box.c1
      have htk := hid (take_snoc zs k 0 (by rw [HZL.out]; exact hlt))
      obtain ⟨z, hzz⟩ : ∃ z, zs.getD k 0 = z := ⟨_, rfl⟩
      rw [hzz] at hc htk
      clear hzz
      by_cases hin : 0 ≤ z ∧ z < (g.length : Int)
      · obtain ⟨n, rfl⟩ := Int.eq_ofNat_of_zero_le hin.1
        have hn : n < g.length := by omega
        have H1 := hid (fun w1 => ghas_yes (g.length : Int) (n : Int) a g.length cap w1 hin.1 hin.2)
        have hfit := hid (rchS_fit HS.out (zs.take k) none_ fit_none)
        have hstep : Box (rchS g (zs.take (k + 1)) none_ = (vis g (g.length + 1) n (rchS g (zs.take k) none_, [])).1) := hid (by rw [htk.out, rchS_snoc, if_pos hin, Int.toNat_natCast])
        obtain ⟨s, hss⟩ : ∃ s, rchS g (zs.take k) none_ = s := ⟨_, rfl⟩
        rw [hss] at HR hstep hfit
        have hun := un_le g s
        have HF := hid (fun w1 (h0 : B ≤ w1.heap.size) h1 h2 h3 => finish_any g HS.out.ok HS.out.len HS.out.inner B (w.heap.size + 1) w1.heap.size a cap (by omega) (by omega) (g.length + 1) n s [] (.slice none 0 0) w1 hn (by omega) (by have := HS.out.len; simp; omega) h1 (Nat.le_refl _) h2 h3 (nil_row w1 _))
        clear hss hin
        go_wp2_with (first | (go_at_call 34; refine (H1.out _).mono ?_; rintro e w4 ⟨rfl, hk4⟩; have H4 : Box (Two0 w w4 B a cap g s) := hid ⟨HR.out.box.kept hk4 (by simp), HR.out.set.kept hk4 (by simp), HR.out.gr.quiet hk4, HR.out.keep.quiet hk4⟩; have hd0 := H4.out.box.c0; have hd1 := H4.out.box.c1) | (go_at_call 35; refine (HF.out _ (by have := H4.out.keep.size; omega) H4.out.gr H4.out.set hfit.out).mono ?_; rintro e w5 ⟨v5, rfl, F5⟩))
        have F5' := hid F5
        clear F5
        go_roundw
        case rel => exact ⟨k + 1, by omega, by go_num, hid ⟨H4.out.box.kept F5'.out.keep (by simp [Value.ownBlock]), by rw [hstep.out]; exact F5'.out.set, H4.out.gr.kept F5'.out.keep (fun x hx => by simp [Value.ownBlock] at hx; omega), H4.out.keep.trans F5'.out.keep (fun x hx hl => by simp [Value.ownBlock] at hx; omega)⟩, (hkw.quiet hk4).trans F5'.out.keep (fun x hx _ => by simpa [Value.ownBlock] using hx)⟩
        case measure => simp [intOf]; omega
      · have H1 := hid (fun w1 => ghas_no (g.length : Int) z a g.length cap w1 hin)
        have hstep : Box (rchS g (zs.take (k + 1)) none_ = rchS g (zs.take k) none_) := hid (by rw [htk.out, rchS_snoc, if_neg hin])
        clear hin
        go_wp2_with (go_at_call 34; refine (H1.out _).mono ?_; rintro e w4 ⟨rfl, hk4⟩)
        go_roundw
        case rel => exact ⟨k + 1, by omega, by go_num, hid (by rw [hstep.out]; exact ⟨HR.out.box.kept hk4 (by simp), HR.out.set.kept hk4 (by simp), HR.out.gr.quiet hk4, HR.out.keep.quiet hk4⟩), hkw.quiet hk4⟩
        case measure => simp [intOf]; omega
    · obtain rfl : k = zl := by omega
      go_wp2
      go_ret
      have hall : zs.take k = zs := by rw [← HZL.out]; exact List.take_length
      have H5 := HR.out
      rw [hall] at H5
      exact ⟨_, rfl, H5.set, H5.keep, by omega⟩

/-- The nodes that are reached from n, in reverse postorder. -/
def ordG (g : List (List Nat)) (n : Nat) : List Nat := (vis g (g.length + 1) n (none_, [])).2.reverse
theorem vis_list_le {g : List (List Nat)} (hs : Sm g) (f n : Nat) (s : Nat → Bool) (hn : n < g.length) : (vis g f n (s, [])).2.length ≤ 600 := by
  have h1 := vis_len g hs.ok f n (s, []) hn
  have h2 := un_le g s
  have h3 := hs.len
  have h4 : (([] : List Nat).length + un g s) = un g s := by simp
  have h5 : (vis g f n (s, [])).2.length + un g (vis g f n (s, [])).1 ≤ un g s := by rw [← h4]; exact h1
  omega

set_option maxHeartbeats 2000000 in
theorem order_in (g : List (List Nat)) (hs : Sm g) (a : Option Addr) (cap B n : Nat) (w : World) (hG : GAt w B a g) (hB : B ≤ w.heap.size) (hn : n < g.length) :
    Calls Tryd.prog 27 #[.agg #[.int .i64 (g.length : Int), .slice a g.length cap], .int .i64 (n : Int)] w fun e w' => ∃ v, e = .returned v ∧ w'.ownsRow w.heap.size 3 1 v (ordG g n).length (ints (ordG g n)) ∧ Keeps [] w w' := by
  have hzero := zero_set
  have hk1 : Keeps [] w (w.alloc (Obj.cells #[.int .i64 (g.length : Int), .slice a g.length cap] 27)) := Keeps.alloc _ _ _
  have HB1 := hid (BoxAt.new w (g.length : Int) a g.length cap)
  have HG1 := hid (hG.quiet hk1)
  have HS := hid hs
  have HC : Box (∀ w, GAt w B a g → Calls Tryd.prog 24 #[.agg #[.int .i64 (g.length : Int), .slice a g.length cap]] w fun e w' => e = .returned (.bool true) ∧ Keeps [] w w') := hid (fun w => gmay_yes g hs a cap B w)
  have H1 := hid (fun w1 => ghas_yes (g.length : Int) (n : Int) a g.length cap w1 (by omega) (by omega))
  have hn' := hid hn
  clear hG hs hn
  go_enter Tryd.func27, Tryd.ntmps27
  go_wp2_with fail
  generalize w.alloc (Obj.cells #[.int .i64 (g.length : Int), .slice a g.length cap] 27) = w1 at hk1 HB1 HG1 ⊢
  refine (HC.out w1 HG1.out).mono ?_
  rintro e w2 ⟨rfl, hk2⟩
  have HB2 := HB1.out.kept hk2 (by simp)
  have HG2 := hid (HG1.out.quiet hk2)
  have hc0 := HB2.c0
  have hc1 := HB2.c1
  have HBX := hid HB2
  clear HB2 HB1 HG1 HC
  have hw2 := hk1.quiet hk2
  clear hk1 hk2
  go_wp2_with fail
  refine (H1.out w2).mono ?_
  rintro e w3 ⟨rfl, hk3⟩
  have HB3 := HBX.out.kept hk3 (by simp)
  have HG3 := HG2.out.quiet hk3
  have hd0 := HB3.c0
  have hd1 := HB3.c1
  have hw3 := hw2.quiet hk3
  clear HBX HG2 H1 hw2 hk3 hc0 hc1
  have hk4 : Keeps [] w3 (w3.alloc (Obj.cells (row none_) 60)) := Keeps.alloc _ _ _
  have HS4 := hid (setAt_new w3 none_)
  have HG4 := hid (HG3.quiet hk4)
  have hw4 := hw3.quiet hk4
  have hsz4 : (w3.alloc (Obj.cells (row none_) 60)).heap.size = w3.heap.size + 1 := by simp
  have hws := hw3.size
  have hlen := hid (vis_list_le HS.out (g.length + 1) n none_ hn'.out)
  have HF := hid (fun w1 h0 h1 h2 => finish_any g HS.out.ok HS.out.len HS.out.inner B w3.heap.size w.heap.size a cap (by omega) (by omega) (g.length + 1) n none_ [] (.slice none 0 0) w1 hn'.out (un_no g) (by have := un_le g none_; have := HS.out.len; simp; omega) h1 h0 h2 fit_none (nil_row w1 _))
  clear HB3 HG3
  go_wp2_with fail
  generalize w3.alloc (Obj.cells (row none_) 60) = w4 at hk4 HS4 HG4 hw4 hsz4 ⊢
  refine (HF.out w4 hw4.size HG4.out HS4.out).mono ?_
  rintro e w5 ⟨v5, rfl, F5⟩
  have F5' := hid F5
  have hw5 : Keeps [] w w5 := hw4.fresh F5.keep (fun x hx => by simp [Value.ownBlock] at hx; omega)
  clear F5 HF HS4 HG4
  have HR := hid (rev_any v5 _ w.heap.size w5 F5'.out.row (Nat.le_trans hlen.out (by omega)))
  go_wp2_with fail
  refine HR.out.mono ?_
  rintro e w6 ⟨rfl, hrow6, hk6⟩
  have HR6 := hid hrow6
  clear hrow6 HR
  go_wp2
  go_ret
  refine ⟨v5, rfl, ?_, hw5.fresh hk6 (own_new F5'.out.row)⟩
  unfold ordG
  rw [List.length_reverse]
  exact HR6.out

set_option maxHeartbeats 2000000 in
theorem order_out (g : List (List Nat)) (hs : Sm g) (a : Option Addr) (cap B : Nat) (n : Int) (w : World) (hG : GAt w B a g) (hn : ¬ (0 ≤ n ∧ n < (g.length : Int))) :
    Calls Tryd.prog 27 #[.agg #[.int .i64 (g.length : Int), .slice a g.length cap], .int .i64 n] w fun e w' => e = .returned (.slice none 0 0) ∧ Keeps [] w w' := by
  have hk1 : Keeps [] w (w.alloc (Obj.cells #[.int .i64 (g.length : Int), .slice a g.length cap] 27)) := Keeps.alloc _ _ _
  have HB1 := hid (BoxAt.new w (g.length : Int) a g.length cap)
  have HG1 := hid (hG.quiet hk1)
  have HC : Box (∀ w, GAt w B a g → Calls Tryd.prog 24 #[.agg #[.int .i64 (g.length : Int), .slice a g.length cap]] w fun e w' => e = .returned (.bool true) ∧ Keeps [] w w') := hid (fun w => gmay_yes g hs a cap B w)
  have H1 := hid (fun w1 => ghas_no (g.length : Int) n a g.length cap w1 hn)
  clear hG hs hn
  go_enter Tryd.func27, Tryd.ntmps27
  go_wp2_with fail
  generalize w.alloc (Obj.cells #[.int .i64 (g.length : Int), .slice a g.length cap] 27) = w1 at hk1 HB1 HG1 ⊢
  refine (HC.out w1 HG1.out).mono ?_
  rintro e w2 ⟨rfl, hk2⟩
  have HB2 := HB1.out.kept hk2 (by simp)
  have hc0 := HB2.c0
  have hc1 := HB2.c1
  clear HB2 HB1 HG1 HC
  go_wp2_with fail
  refine (H1.out w2).mono ?_
  rintro e w3 ⟨rfl, hk3⟩
  go_wp2
  go_ret
  exact ⟨rfl, (hk1.quiet hk2).quiet hk3⟩
end Go.Proofs.YtngdnjlohmkbiaaDoor
