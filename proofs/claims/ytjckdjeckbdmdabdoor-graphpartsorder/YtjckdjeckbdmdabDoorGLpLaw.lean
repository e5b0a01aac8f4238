/-
  The statement GraphLoopsParts.
-/
import Derived.Test.YtjckdjeckbdmdabDoorGLaw
import Derived.Test.YtjckdjeckbdmdabDoorGPut
namespace Go.Proofs.YtjckdjeckbdmdabDoor
open Go.RowKit

theorem sccs_part {g : List (List Nat)} {p : List Nat} (hp : p ∈ sccs g) : ∃ a, a < g.length ∧ p = part g a := by
  obtain ⟨a, ha, rfl⟩ := List.mem_map.1 hp
  exact ⟨a, List.mem_range.1 (List.mem_filter.1 ha).1, rfl⟩
theorem sccs_same {g : List (List Nat)} (hg : Ok g) {p q : List Nat} (hp : p ∈ sccs g) (hq : q ∈ sccs g) {x : Nat} (h1 : x ∈ p) (h2 : x ∈ q) : p = q := by
  obtain ⟨a, ha, rfl⟩ := sccs_part hp
  obtain ⟨b, hb, rfl⟩ := sccs_part hq
  exact part_eq hg ha hb (((mem_part hg x ha).1 h1).2.trans ((mem_part hg x hb).1 h2).2.symm)
theorem nb_mem {l : List (List Nat)} {k : Nat} (hk : k < l.length) : nb l k ∈ l := getD_mem l k [] hk
theorem parts_mem {g : List (List Nat)} {p : List Nat} (hp : p ∈ partsM g) : p ∈ sccs g := by
  obtain ⟨k, hk, rfl⟩ := List.mem_map.1 hp
  have h := ahd_lt (smallG g (sccs g)) _ [] (fun _ h => absurd h List.not_mem_nil) k hk
  rw [smallG_len] at h
  exact nb_mem h
theorem loopS_part {g : List (List Nat)} (hg : Ok g) {p : List Nat} (hp : p ∈ sccs g) {x : Nat} (hx : x ∈ p) : loopS g (sccs g) x = loopB g p := by
  unfold loopS
  show (none_ x || decide (x ∈ ((sccs g).filter (loopB g)).flatten)) = _
  cases h : loopB g p
  · rw [decide_eq_false]
    · rfl
    · intro hm
      obtain ⟨q, hq, hxq⟩ := List.mem_flatten.1 hm
      have := sccs_same hg hp (List.mem_filter.1 hq).1 hx hxq
      subst this
      have := (List.mem_filter.1 hq).2
      rw [h] at this
      cases this
  · rw [decide_eq_true]
    · rfl
    · exact List.mem_flatten.2 ⟨p, List.mem_filter.2 ⟨hp, h⟩, hx⟩
theorem loopB_node {g : List (List Nat)} {p : List Nat} {x : Nat} (hx : x ∈ p) : loopB g p = (decide (1 < p.length) || decide (x ∈ nb g x)) := by
  unfold loopB
  by_cases h : 1 < p.length
  · simp [h]
  · have : p = [x] := by
      match p, h with
      | [], _ => cases hx
      | [y], _ => simp at hx; rw [hx]
      | _ :: _ :: _, h => simp at h
    rw [this]
    rfl

set_option maxHeartbeats 4000000 in
theorem lp_law (n : Int) (pa : Option Addr) (cap : Nat) (zs : List (Int × Int)) (w : World) (hT : TabAt w) (hz : PairsAt w pa zs) (hl : zs.length ≤ maxLen) :
    Calls Tryd.prog 3 #[.int .i64 n, .slice pa zs.length cap] w fun e w' => e = .returned (.bool true) ∧ Keeps [] w w' := by
  have HBG := hid (begun5_any w hT)
  obtain ⟨N, g, L, hN2, hN1, hgl, hsm, hgd, hnn, hmd⟩ := made_pack n zs hl
  have HMD := hid (fun wz (k : Keeps [] w wz) => hmd pa cap wz (hz.kept k (fun _ _ _ => by simp)))
  have HS := hid hsm
  have HGD := hid hgd
  have HN := hid hgl
  have HT := hid hT
  clear hT hz hl hmd hsm hgd hgl hnn
  generalize zs.length = zl at HMD
  go_enter Tryd.func3, Tryd.ntmps3
  go_wp2_with fail
  refine HBG.out.mono ?_
  rintro e w1 ⟨rfl, k1⟩
  clear HBG
  go_wp2_with fail
  refine (HMD.out w1 k1).mono ?_
  rintro e w2 ⟨p, vs, rfl, ho2, k2⟩
  have L3 := hid (LG.make ho2 (k1.quiet k2))
  rw [← HGD.out] at L3
  clear ho2 k2 k1 HMD HGD
  have HLO := hid (loops_any g HS.out (some ⟨p, 0, none⟩) g.length _ _ L3.out.gr L3.out.le)
  rw [HN.out] at HLO
  go_wp2_with fail
  generalize w2.alloc (Obj.cells #[.int .i64 (N : Int), .slice (some ⟨p, 0, none⟩) N N] 26) = w3 at L3 HLO ⊢
  obtain ⟨B, hB⟩ : ∃ B, w2.heap.size + 1 = B := ⟨_, rfl⟩
  rw [hB] at L3
  generalize w2.heap.size = bx at L3 ⊢
  clear hB
  refine HLO.out.mono ?_
  rintro e w4 ⟨bl, rfl, hs4, k4, _⟩
  have L4 := hid (L3.out.quiet k4)
  have S4 := hid hs4
  clear HLO L3 hs4 k4
  have HPA := hid (parts_any g HS.out (some ⟨p, 0, none⟩) g.length _ _ L4.out.gr L4.out.le (tab_of HT.out L4.out.keep))
  have t6 := L4.out.two
  rw [HN.out] at HPA t6
  have c0 := t6.c0
  have c1 := t6.c1
  clear t6
  go_wp2_with fail
  refine HPA.out.mono ?_
  rintro e w5 ⟨v5, vs5, rfl, h5, k5⟩
  have L5 := hid (L4.out.quiet k5)
  have S5 := hid (S4.out.kept k5 (by simp))
  have hpl : (partsM g).length ≤ 600 := by
    have h1 := ahd_len (smallG g (sccs g))
    rw [smallG_len] at h1
    have h2 := sccs_len g
    have h3 := HS.out.len
    unfold partsM
    rw [List.length_map]
    omega
  obtain ⟨a5, c5, rfl, hg5, _⟩ := h5.graph
  have P5 := hid hg5
  have HPM := hid (fun k (hk : k < (partsM g).length) => parts_mem (nb_mem hk))
  obtain ⟨ps, hps⟩ : ∃ ps, partsM g = ps := ⟨_, rfl⟩
  rw [hps] at P5 HPM hpl ⊢
  clear HPA L4 S4 k5 c0 c1 h5 hg5 hps
  obtain ⟨m, hm⟩ : ∃ m, ps.length = m := ⟨_, rfl⟩
  have HM := hid hm
  rw [hm] at hpl ⊢
  clear hm
  go_wp2_with fail
  generalize w5.heap.size = C at P5
  go_loopw [9] (fun v wr => ∃ i : Nat, v = .int .i64 (i : Int) ∧ i ≤ m ∧ Box (LG w wr bx p B g) ∧ Box (SetAt wr bl (loopS g (sccs g))) ∧ Box (GAt wr C a5 ps)) (fun v _ => m - (intOf v).toNat)
  case atStart => exact ⟨0, rfl, by omega, L5, S5, P5⟩
  case round =>
    clear L5 S5 P5
    obtain ⟨i, rfl, hi, HL, HSe, HP⟩ := hrel
    by_cases him : i < m
    · have him' : (i : Int) < (m : Int) := by omega
      have hps := HPM.out i (by rw [HM.out]; exact him)
      have hlen : (nb ps i).length ≤ 600 := by
        obtain ⟨j, hj, e⟩ := List.getElem_of_mem hps
        have := sccs_inner HS.out j
        rw [nb, List.getD_eq_getElem?_getD, List.getElem?_eq_getElem hj] at this
        rw [← e]
        exact this
      have HPI := hid hps
      obtain ⟨q, hq⟩ : ∃ q, nb ps i = q := ⟨_, rfl⟩
      rw [hq] at HPI hlen
      have HQ := hid hq
      clear hps hq
      obtain ⟨ql, hql⟩ : ∃ ql, q.length = ql := ⟨_, rfl⟩
      have HQL := hid hql
      rw [hql] at hlen
      clear hql
      go_wp2_with fail
      obtain ⟨wo, hwo⟩ : ∃ wo, wo = wr := ⟨_, rfl⟩
      subst hwo
      go_loopw [10] (fun v wr => ∃ k : Nat, v = .int .i64 (k : Int) ∧ k ≤ ql ∧ Box (LG w wr bx p B g) ∧ Box (SetAt wr bl (loopS g (sccs g))) ∧ Box (GAt wr C a5 ps)) (fun v _ => ql - (intOf v).toNat)
      case atStart => exact ⟨0, rfl, by omega, HL, HSe, HP⟩
      case round =>
        clear HL HSe HP
        obtain ⟨k, rfl, hk, HL, HSe, HP⟩ := hrel
        obtain ⟨bq, oq, ai, ci, rfl, hcg, hin⟩ := HP.out.at (k := i) (by rw [HM.out]; exact him)
        rw [HQ.out] at hcg hin
        rw [HQL.out] at hcg
        by_cases hkq : k < ql
        · have hkq' : (k : Int) < (ql : Int) := by omega
          obtain ⟨bz, oz, rfl, hcz⟩ := hin.at (k := k) (by rw [HQL.out]; exact hkq)
          have hxq : q.getD k 0 ∈ q := getD_mem q k 0 (by rw [HQL.out]; exact hkq)
          obtain ⟨x, hx⟩ : ∃ x, q.getD k 0 = x := ⟨_, rfl⟩
          rw [hx] at hcz hxq
          clear hx hin
          have hxN : x < N := by
            obtain ⟨a, ha, e⟩ := sccs_part HPI.out
            rw [e] at hxq
            have := ((mem_part HS.out.ok x ha).1 hxq).1
            rwa [HN.out] at this
          have hval := loopS_part HS.out.ok HPI.out hxq
          rw [loopB_node hxq, HQL.out] at hval
          obtain ⟨bg, og, ag, cg, hpq, hcx, hnx⟩ := HL.out.gr.at (k := x) (by rw [HN.out]; exact hxN)
          simp only [Option.some.injEq, Addr.mk.injEq, and_true] at hpq
          obtain ⟨rfl, rfl⟩ := hpq
          rw [Nat.zero_add] at hcx
          have t6 := HL.out.two
          rw [HN.out] at t6
          have c1 := t6.c1
          have hfit : Fit (loopS g (sccs g)) := fit_orL fit_none (fun y hy => by
            obtain ⟨l, hl, hyl⟩ := List.mem_flatten.1 hy
            obtain ⟨a, ha, rfl⟩ := sccs_part (List.mem_filter.1 hl).1
            have := ((mem_part HS.out.ok y ha).1 hyl).1
            have := HS.out.len
            omega)
          have HHS := hid (fun w9 (h9 : Keeps [] wr w9) => has_any bl (loopS g (sccs g)) (x : Int) w9 (HSe.out.kept h9 (by simp)) hfit)
          have hhas : hasI (loopS g (sccs g)) (x : Int) = (decide (1 < ql) || decide (x ∈ nb g x)) := by rw [← hval]; simp [hasI]
          rw [hhas] at HHS
          have HIN := hid (fun w9 (h9 : Keeps [] wr w9) => rin_any ag cg (intsI (nb g x)) (x : Int) w9 (hnx.kept h9 (by simp)).ints (by rw [intsI_len]; exact HS.out.inner x))
          have hmem : decide ((x : Int) ∈ intsI (nb g x)) = decide (x ∈ nb g x) := by
            simp only [intsI, List.mem_map, decide_eq_decide]
            constructor
            · rintro ⟨y, hy, he⟩
              have e : y = x := by omega
              rwa [e] at hy
            · exact fun h => ⟨_, h, rfl⟩
          rw [hmem, intsI_len] at HIN
          obtain ⟨b2, hb2⟩ : ∃ b2, decide (x ∈ nb g x) = b2 := ⟨_, rfl⟩
          rw [hb2] at HHS HIN
          clear hb2 hmem hhas hfit hval t6 hnx hxq
          have hxN' : (x : Int) < (N : Int) := by omega
          generalize (nb g x).length = gl at hcx HIN
          by_cases h1 : 1 < ql
          · have hd : decide ((1 : Int) < (ql : Int)) = true := decide_eq_true (by omega)
            rw [decide_eq_true h1, Bool.true_or] at HHS
            have hne : ((true : Bool) != true) = false := rfl
            go_wp2_with fail
            go_quiet (first | (go_at_call 13; exact Calls.quiet_of (HHS.out _ (Keeps.drewN _ _ _))) | (go_at_call 14; exact Calls.quiet_of_same (HIN.out _ (Keeps.drewN _ _ _))))
            have L9 := hid (HL.out.quiet (Keeps.drewN [] _ nq))
            have S9 := hid (HSe.out.kept (Keeps.drewN [] _ nq) (by simp))
            have P9 := hid (HP.out.quiet (Keeps.drewN [] _ nq))
            clear HHS HIN HL HSe HP
            go_wp2
            go_roundw
            case rel => exact ⟨k + 1, by go_num, by omega, L9, S9, P9⟩
            case measure => simp [intOf]; omega
          · have hd : decide ((1 : Int) < (ql : Int)) = false := decide_eq_false (by omega)
            rw [decide_eq_false h1, Bool.false_or] at HHS
            have hne : (b2 != b2) = false := by simp
            go_wp2_with fail
            go_quiet (first | (go_at_call 13; exact Calls.quiet_of (HHS.out _ (Keeps.drewN _ _ _))) | (go_at_call 14; exact Calls.quiet_of_same (HIN.out _ (Keeps.drewN _ _ _))))
            have L9 := hid (HL.out.quiet (Keeps.drewN [] _ nq))
            have S9 := hid (HSe.out.kept (Keeps.drewN [] _ nq) (by simp))
            have P9 := hid (HP.out.quiet (Keeps.drewN [] _ nq))
            clear HHS HIN HL HSe HP
            go_wp2
            go_roundw
            case rel => exact ⟨k + 1, by go_num, by omega, L9, S9, P9⟩
            case measure => simp [intOf]; omega
        · have hkq' : ¬ ((k : Int) < (ql : Int)) := by omega
          go_wp2
          go_roundw
          case rel => exact ⟨i + 1, by go_num, by omega, HL, HSe, HP⟩
          case measure => simp [intOf]; omega
    · obtain rfl : i = m := by omega
      go_wp2
      go_ret
      exact ⟨rfl, HL.out.keep⟩
end Go.Proofs.YtjckdjeckbdmdabDoor
