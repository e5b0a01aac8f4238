/-
  The statement DomMore.
-/
import Derived.Test.YtjdcphkmaaoehaaDBegun
import Derived.Test.YtjdcphkmaaoehaaGMo
import Derived.Deep.RegionHeld3
namespace Go.Proofs.Ytjdcphkmaaoehaa
open Go.RowKit
attribute [local go_sem ↓] Go.wp_at_zero Go.wp_at_succ

theorem Wk.more {L : Nat → List Nat} {N x y : Nat} (hx : x < N) {s : Nat → Bool} {b : Nat} : ∀ {k a : Nat}, Wk ((List.range N).map L) s k a b → Wk (moreG L N x y) s k a b
  | 0, _, h => h
  | k + 1, a, h => by
    obtain ⟨h1, c, hc, hw⟩ := h
    exact ⟨h1, c, (nb_more hx c).2 (.inl hc), hw.more hx⟩
theorem dom_more {L : Nat → List Nat} {N x y r a b : Nat} (hx : x < N) (h : Dom (moreG L N x y) r a b) (hb : Pth ((List.range N).map L) noS r b) : Dom ((List.range N).map L) r a b :=
  ⟨hb, fun ⟨k, hk⟩ => h.2 ⟨k, hk.more hx⟩⟩

set_option maxRecDepth 20000 in
set_option maxHeartbeats 8000000 in
theorem domMore_law (n : Int) (pa : Option Addr) (cap : Nat) (zs : List (Int × Int)) (za zb : Int) (w : World) (hz : PairsAt w pa zs) (hl : zs.length ≤ maxLen) (_ : zs.length ≤ cap) :
    Calls Try.prog 6 #[.int .i64 n, .slice pa zs.length cap, .int .i64 za, .int .i64 zb] w fun e w' => e = .returned (.bool true) ∧ Keeps [] w w' := by
  have HBG := hid (begun6_any w)
  obtain ⟨N, g, L, hN2, hN1, hgl, hsm, hgd, hnn, hmd⟩ := made_pack n zs hl
  have HMD := hid (fun wz (k : Keeps [] w wz) => hmd pa cap wz (hz.kept k (fun _ _ _ => by simp)))
  have HS := hid hsm
  have HGD := hid hgd
  have HN := hid hgl
  have HSH : Box (∀ i, i < N → (L i).length ≤ 80) := hid (fun i hi => by
    have h1 := made_short n zs i
    rw [← hnn.2, hgd, nb_map _ _ _ hi] at h1
    exact h1)
  clear hz hl hmd hsm hgd hgl hnn
  generalize zs.length = zl at HMD
  go_enter Try.func6, Try.ntmps6
  go_wp2_with fail
  refine HBG.out.mono ?_
  rintro e w1 ⟨rfl, k1⟩
  clear HBG
  go_wp2_with fail
  refine (HMD.out w1 k1).mono ?_
  rintro e w2 ⟨p, vs, rfl, ho2, k2⟩
  have k12 := k1.quiet k2
  have G2 := hid ho2.graph
  rw [← HGD.out] at G2
  clear ho2
  have kA : Keeps [] w2 (w2.alloc (.cells #[.int .i64 (N : Int), .slice (some ⟨p, 0, none⟩) N N] 26)) := Keeps.alloc _ _ _
  have TA := TwoAt.new w2 (.int .i64 (N : Int)) (.slice (some ⟨p, 0, none⟩) N N)
  have G3 := hid (G2.out.quiet kA)
  have k13 := k12.quiet kA
  have szA : (w2.alloc (.cells #[.int .i64 (N : Int), .slice (some ⟨p, 0, none⟩) N N] 26)).heap.size = w2.heap.size + 1 := by simp
  clear G2 k1 k2 k12
  go_wp2_with fail
  generalize w2.alloc (.cells #[.int .i64 (N : Int), .slice (some ⟨p, 0, none⟩) N N] 26) = wA at kA TA G3 k13 szA ⊢
  generalize w2.heap.size = bx at TA G3 szA ⊢
  refine (HMD.out wA k13).mono ?_
  rintro e w3 ⟨p3, vs3, rfl, ho3, k3⟩
  have kB : Keeps [] w3 (w3.alloc (.cells #[.int .i64 (N : Int), .slice (some ⟨p3, 0, none⟩) N N] 26)) := Keeps.alloc _ _ _
  have M4 : Box (MO w (w3.alloc (.cells #[.int .i64 (N : Int), .slice (some ⟨p3, 0, none⟩) N N] 26)) wA.heap.size p bx w3.heap.size p3 N vs3 L g) := hid ⟨((GAt.up G3.out (by omega)).quiet k3).quiet kB, (TA.kept k3 (by simp)).kept kB (by simp), TwoAt.new w3 _ _, ho3.quiet kB, (k13.quiet k3).quiet kB, k13.size⟩
  have hbxB : bx < wA.heap.size := by omega
  clear HMD G3 ho3 k3 kB TA szA k13 kA
  go_upto_region 6 with fail
  generalize w3.alloc (.cells #[.int .i64 (N : Int), .slice (some ⟨p3, 0, none⟩) N N] 26) = w4 at M4 ⊢
  generalize w3.heap.size = bh at M4 ⊢
  generalize wA.heap.size = B at M4 hbxB
  have c0 := M4.out.tb.c0
  go_quiet (fail)
  rw [node_num za N hN1 (by omega), node_num zb N hN1 (by omega)]
  have hxN := nd_lt hN1 za
  have hyN := nd_lt hN1 zb
  have M5 := hid (M4.out.quiet (Keeps.drewN [] _ nq))
  clear M4 c0
  generalize w4.drewN nq = wx at M5 ⊢
  generalize nd N za = x at hxN ⊢
  generalize nd N zb = y at hyN ⊢
  have HRW := hid (M5.out.own.inner x hxN)
  have hcp := M5.out.own.cell hxN
  have hfp := M5.out.own.outer.frozen x
  have ht1 := M5.out.tb.c1
  have hp := M5.out.own.outer.lt.2
  have hq := M5.out.tb.lt
  have hxN' : (x : Int) < (N : Int) := by omega
  have hws : B ≤ wx.heap.size := by have := M5.out.own.outer.lt; omega
  have hlen := HSH.out x hxN
  obtain ⟨lx, hlx⟩ : ∃ lx, (L x).length = lx := ⟨_, rfl⟩
  have HLX := hid hlx
  rw [hlx] at HRW hlen
  clear hlx
  go_upto_region 7 with fail
  go_cut [] (fun wz => ∃ vs', Box (MO w wz B p bx bh p3 N vs' (fun i => if i = x then L x ++ [y] else L i) g))
  case first =>
    go_region_law (refine step_append_lies _ (by rfl) _ _ _ (by rfl) B 3 Try.t3 (.int .i64 0) 1 8 under_ints info_int zero_int size_int bytes_int rfl (by decide) (vs3 x) lx (ints (L x)) (by rfl) (HRW.out.alloc _) ⟨wx.heap.size, 0, none⟩ 1 1 [.int .i64 (y : Int)] (by rfl) (by rfl) (World.news_of_block (cs := #[.int .i64 (y : Int)]) (t := 3) (fr := (0, 0)) (heap_alloc_new wx _)) (by simp [Value.oneCell']) (by omega) (by unfold maxLen; omega) (by omega) (by simp; omega) (wx.heap.size + 1) (by simp) ?_; intro g5 cap5 w5 hown5 hgrow5 hat5 hlt5; have HG5 := hid (M5.out.grow (v' := .slice (some ⟨g5, 0, none⟩) (lx + 1) cap5) (j := y) ((Keeps.alloc [] _ _).quiet (Keeps.drew [] _)) hxN (by rw [HLX.out]; exact hown5) hgrow5 (hat5.elim (fun e => .inl (by rw [e]; rfl)) (fun e => .inr (by rw [e]; simp [Value.ownBlock])))); have hcp5 := HG5.out.cell; have hq5 := HG5.out.head; have hfp5 := HG5.out.frozen; clear hown5 hgrow5 hat5)
    all_goals
      have HMD5 := hid HG5.out.md
      clear hcp5 hq5 hfp5 HG5 hcp hfp ht1 hp hq hws hlt5
      first
        | (go_meet; exact ⟨_, HMD5⟩)
        | (go_wp2_with fail
           go_meet
           exact ⟨_, HMD5⟩)
  case rest =>
    obtain ⟨vs6, M6⟩ := hcut
    have hta := M6.out.ta
    have htb := M6.out.tb
    have hlb := htb.lt
    have e1 : (moreG L N x y).length = N := by simp [moreG]
    have LGg : Box (LG w wc bx p wc.heap.size g) := hid ⟨by rw [HN.out]; exact hta, GAt.up M6.out.gr (by have := M6.out.own.outer.lt; omega), hta.lt, Nat.le_refl _, M6.out.keep, M6.out.keep.size⟩
    have LGh : Box (LG w wc bh p3 wc.heap.size (moreG L N x y)) := hid ⟨by rw [e1]; exact htb, M6.out.own.graph, hlb, Nat.le_refl _, M6.out.keep, M6.out.keep.size⟩
    have hsm2 : Sm ((List.range N).map L) := by rw [← HGD.out]; exact HS.out
    have HSM := hid (more_sm hsm2 (fun i hi => Nat.le_trans (HSH.out i hi) (by omega)) hxN hyN)
    have HRM := hid (fun a b (h1 : Dom (moreG L N x y) 0 a b) h2 => dom_more hxN h1 h2)
    rw [← HGD.out] at HRM
    obtain ⟨h, hh⟩ : ∃ h, moreG L N x y = h := ⟨_, rfl⟩
    rw [hh] at LGh HSM HRM e1
    have HHN := hid e1
    clear hh e1 M6 HGD HSH hsm2 hta htb hlb M5 HRW HLX hcp hfp ht1 hp hq hws hlen hbxB
    generalize wc.heap.size = C at LGg LGh
    have h0g : 0 < g.length := by rw [HN.out]; omega
    have h0h : 0 < h.length := by rw [HHN.out]; omega
    have HUG := hid (fun w9 (k9 : Keeps [] wc w9) => up_in g HS.out (some ⟨p, 0, none⟩) g.length C 0 w9 (LGg.out.quiet k9).gr (LGg.out.quiet k9).le h0g)
    have HUH := hid (fun w9 (k9 : Keeps [] wc w9) => up_in h HSM.out (some ⟨p3, 0, none⟩) h.length C 0 w9 (LGh.out.quiet k9).gr (LGh.out.quiet k9).le h0h)
    have HAG := hid (fun U (hU : UpOf g 0 U) pu wz (h9 : UAt wz pu g.length U) a b d hd => above_any g HS.out 0 h0g U hU pu wz h9 a b d hd)
    have HAH := hid (fun U (hU : UpOf h 0 U) pu wz (h9 : UAt wz pu h.length U) a b d hd => above_any h HSM.out 0 h0h U hU pu wz h9 a b d hd)
    rw [HN.out] at HUG HAG
    rw [HHN.out] at HUH HAH
    have t6 := LGg.out.two
    rw [HN.out] at t6
    have c0 := t6.c0
    have c1 := t6.c1
    have t7 := LGh.out.two
    rw [HHN.out] at t7
    have d0 := t7.c0
    have d1 := t7.c1
    have T6 := hid t6
    have T7 := hid t7
    clear t6 t7
    go_upto_region 8 with fail
    go_cut [14, 15] (fun t14 t15 wz => ∃ pu U pv V, t14 = .slice (some ⟨pu, 0, none⟩) N N ∧ t15 = .slice (some ⟨pv, 0, none⟩) N N ∧ Box (UpOf g 0 U) ∧ Box (UAt wz pu N U) ∧ Box (UpOf h 0 V) ∧ Box (UAt wz pv N V) ∧ Box (Keeps [] wc wz))
    case first =>
      have kd : Keeps [] wc wc.drew := Keeps.drew _ _
      go_region_held3 (fun w' => w'.cell? ⟨bx, 0, none⟩ = some (.int .i64 (N : Int)) ∧ w'.cell? ⟨bx, 1, none⟩ = some (.slice (some ⟨p, 0, none⟩) N N) ∧ w'.cell? ⟨bh, 0, none⟩ = some (.int .i64 (N : Int)) ∧ w'.cell? ⟨bh, 1, none⟩ = some (.slice (some ⟨p3, 0, none⟩) N N)) (go_keep) (first | (go_at_call 10; revert kq4; intro kq4; refine (HUH.out _ kq4).mono ?_; rintro e wb ⟨pv, V, rfl, rV, uV, kb⟩; have kq5 := kq4.quiet kb; have f0 := (T6.out.kept kq5 (by simp)).c0; have f1 := (T6.out.kept kq5 (by simp)).c1; have g0 := (T7.out.kept kq5 (by simp)).c0; have g1 := (T7.out.kept kq5 (by simp)).c1; have RV := hid rV.uat; have UV := hid uV; have RU2 := hid (RU.out.kept kb (by simp)); clear rV uV kb) | (go_at_call 10; refine (HUG.out _ kd).mono ?_; rintro e wa ⟨pu, U, rfl, rU, uU, ka⟩; have kq4 := kd.quiet ka; have f0 := (T6.out.kept kq4 (by simp)).c0; have f1 := (T6.out.kept kq4 (by simp)).c1; have g0 := (T7.out.kept kq4 (by simp)).c0; have g1 := (T7.out.kept kq4 (by simp)).c1; have RU := hid rU.uat; have UU := hid uU; clear rU uU ka))
      all_goals
        go_wp2_with fail
        go_meet
        exact ⟨pu, U, pv, V, rfl, rfl, UU, RU2, UV, RV, hid kq5⟩
    case rest =>
      obtain ⟨pu, U, pv, V, rfl, rfl, UU, RU, UV, RV, KZ⟩ := hcut
      have HL := hid (LGg.out.keep)
      have HGS : Box (∀ b : Nat, b < N → ¬ Pth g noS 0 b → U b = -1) := hid (fun b hb hp => UU.out.out b (by rw [HN.out]; exact hb) hp)
      have HGU : Box (∀ b : Nat, b < N → Pth g noS 0 b → 0 ≤ U b) := hid (fun b hb hp => by
        by_cases e : b = 0
        · rw [e, UU.out.root]; omega
        · obtain ⟨z, h1, _⟩ := UU.out.step HS.out.ok h0g hp e
          omega)
      have A1 := hid (fun w9 (k9 : Keeps [] wc w9) a b d hd => HAG.out U UU.out pu w9 (RU.out.kept k9 (by simp)) a b d hd)
      have A2 := hid (fun w9 (k9 : Keeps [] wc w9) a b d hd => HAH.out V UV.out pv w9 (RV.out.kept k9 (by simp)) a b d hd)
      have TG := hid (fun w9 (k9 : Keeps [] wc w9) => (T6.out.kept (KZ.out.quiet k9) (by simp)).c0)
      have RU' := hid RU.out
      clear HUG HUH HAG HAH c0 c1 d0 d1 LGh T7 RV UV h0g h0h
      have c0 := TG.out wc (Keeps.refl _ _)
      go_wp2_with fail
      go_loopw [16] (fun iv wr => ∃ i : Nat, iv = .int .i64 (i : Int) ∧ i ≤ N ∧ Box (Keeps [] wc wr)) (fun iv _ => N - (intOf iv).toNat)
      case atStart => exact ⟨0, rfl, by omega, hid (Keeps.refl _ _)⟩
      case round =>
        clear c0
        obtain ⟨i, rfl, hi, HK⟩ := hrel
        have c0 := TG.out wr HK.out
        by_cases hiN : i < N
        · have hiN' : (i : Int) < (N : Int) := by omega
          go_wp2_with fail
          go_loopw [17] (fun kv wr2 => ∃ k : Nat, kv = .int .i64 (k : Int) ∧ k ≤ N ∧ Box (Keeps [] wc wr2)) (fun kv _ => N - (intOf kv).toNat)
          case atStart => exact ⟨0, rfl, by omega, HK⟩
          case round =>
            clear c0 HK
            obtain ⟨k, rfl, hk, HK⟩ := hrel
            have c0 := TG.out wr HK.out
            by_cases hkN : k < N
            · have hkN' : (k : Int) < (N : Int) := by omega
              have ci := (RU.out.kept HK.out (by simp)) i hiN
              have ck := (RU.out.kept HK.out (by simp)) k hkN
              by_cases hpi : Pth g noS 0 i
              · have hui := HGU.out i hiN hpi
                generalize U i = ui at ci hui
                by_cases hpk : Pth g noS 0 k
                · have huk := HGU.out k hkN hpk
                  generalize U k = uk at ck huk
                  by_cases hd : DomI h 0 (i : Int) (k : Int)
                  · have hd2 : DomI g 0 (i : Int) (k : Int) := by
                      obtain ⟨a, b, e1, e2, h3⟩ := hd
                      obtain rfl : i = a := by omega
                      obtain rfl : k = b := by omega
                      exact ⟨i, k, rfl, rfl, HRM.out i k h3 hpk⟩
                    have B1 := hid (A1.out wr HK.out (i : Int) (k : Int) true ⟨fun _ => hd2, fun _ => rfl⟩)
                    have B2 := hid (A2.out wr HK.out (i : Int) (k : Int) true ⟨fun _ => hd, fun _ => rfl⟩)
                    clear hd hd2 hpi hpk
                    go_wp2_with fail
                    refine B2.out.mono ?_
                    intro e wa hh
                    obtain ⟨he, hwa⟩ := hh
                    subst he
                    rw [hwa]
                    clear hwa
                    go_wp2_with fail
                    refine B1.out.mono ?_
                    intro e wa hh
                    obtain ⟨he, hwa⟩ := hh
                    subst he
                    rw [hwa]
                    clear hwa B1 B2
                    go_wp2
                    go_roundw
                    case rel => exact ⟨k + 1, by go_num, by omega, HK⟩
                    case measure => simp [intOf]; omega
                  · have B2 := hid (A2.out wr HK.out (i : Int) (k : Int) false ⟨fun h => (by cases h), fun h => absurd h hd⟩)
                    clear hd hpi hpk
                    go_wp2_with fail
                    refine B2.out.mono ?_
                    intro e wa hh
                    obtain ⟨he, hwa⟩ := hh
                    subst he
                    rw [hwa]
                    clear hwa B2
                    go_wp2
                    go_roundw
                    case rel => exact ⟨k + 1, by go_num, by omega, HK⟩
                    case measure => simp [intOf]; omega
                · have huk := HGS.out k hkN hpk
                  rw [huk] at ck
                  clear huk hpi hpk
                  go_wp2
                  go_roundw
                  case rel => exact ⟨k + 1, by go_num, by omega, HK⟩
                  case measure => simp [intOf]; omega
              · have hui := HGS.out i hiN hpi
                rw [hui] at ci
                clear hui hpi
                go_wp2
                go_roundw
                case rel => exact ⟨k + 1, by go_num, by omega, HK⟩
                case measure => simp [intOf]; omega
            · obtain rfl : k = N := by omega
              go_wp2
              go_roundw
              case rel => exact ⟨i + 1, by go_num, by omega, HK⟩
              case measure => simp [intOf]; omega
        · obtain rfl : i = N := by omega
          go_wp2
          go_ret
          exact ⟨rfl, (HL.out.quiet KZ.out).quiet HK.out⟩
end Go.Proofs.Ytjdcphkmaaoehaa
