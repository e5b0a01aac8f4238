/-
  The statements' own beginning: one refusal.
-/
import Derived.Test.YtjofffhfabmfkaaDoorRErr
import Derived.Test.YtjofffhfabmfkaaDoorRLeads
namespace Go.Proofs.YtjofffhfabmfkaaDoor
open Go.RowKit

theorem dec_small (n : Nat) (h : n < 10) : decB (n : Int) = ⟨#[UInt8.ofNat (48 + n)]⟩ := by
  unfold decB Lib.itoa
  rw [if_neg (by omega), Int.toNat_natCast, Lib.decDigits, dif_pos h]
theorem text_begun : textB 4 1 2 3 = ⟨#[116, 121, 112, 101, 32, 97, 116, 32, 49, 46, 50, 46, 51]⟩ := by
  unfold textB
  rw [if_pos (by decide), show decB 1 = ⟨#[UInt8.ofNat (48 + 1)]⟩ from dec_small 1 (by decide), show decB 2 = ⟨#[UInt8.ofNat (48 + 2)]⟩ from dec_small 2 (by decide), show decB 3 = ⟨#[UInt8.ofNat (48 + 3)]⟩ from dec_small 3 (by decide)]
  rfl

set_option maxHeartbeats 4000000 in
theorem begun_any (w : World) (hg : Glob w) : Calls Tryd.prog 7 #[] w fun e w' => e = .returned (.bool true) ∧ Keeps [] w w' := by
  go_enter Tryd.func7, Tryd.ntmps7
  go_wp2_with fail
  refine (new_any 4 1 2 3 [] w trivial trivial).mono ?_
  rintro e w1 ⟨p, he, hc1, hF1, hk1, hp1⟩
  obtain rfl : e = .returned (.iface 33 (.pointer (some ⟨p, 0, none⟩))) := he
  have C1 := hid hc1
  have F1 := hid hF1
  have K1 := hid hk1
  clear hc1 hF1 hk1 hp1
  go_wp2_with fail
  refine (where_any [.ref p 4 1 2 3] w1 (hg.quiet K1.out) C1.out F1.out).mono ?_
  rintro e w2 ⟨he, hk2⟩
  obtain rfl : e = .returned (.tuple #[.agg #[.int .i64 1, .int .i64 2, .int .i64 3], .bool true]) := he
  have K2 := hid (K1.out.step hk2)
  have C2 := hid (C1.out.quiet hk2)
  clear hk2
  go_wp2_with fail
  have k3 := ((Keeps.refl [] w2).step (Keeps.alloc [] w2 (.cells #[.int .i64 1, .int .i64 2, .int .i64 3] 38))).step (Keeps.alloc [] _ (.cells #[.pointer none] 33))
  have hq3 : ((w2.alloc (.cells #[.int .i64 1, .int .i64 2, .int .i64 3] 38)).alloc (.cells #[.pointer none] 33)).heap[w2.heap.size]? = some (.cells #[.int .i64 1, .int .i64 2, .int .i64 3] 38 (0, 0)) := by
    rw [(Keeps.alloc [] _ _).block _ (by simp) (by simp)]; exact heap_new _ _
  have ht3 : ((w2.alloc (.cells #[.int .i64 1, .int .i64 2, .int .i64 3] 38)).alloc (.cells #[.pointer none] 33)).heap[w2.heap.size + 1]? = some (.cells #[.pointer none] 33 (0, 0)) := by
    have := heap_new (w2.alloc (.cells #[.int .i64 1, .int .i64 2, .int .i64 3] 38)) (.cells #[.pointer none] 33)
    simpa using this
  have K3 := hid (K2.out.step k3)
  have C3 := hid (C2.out.quiet k3)
  have hpl : p < w2.heap.size := C2.out.lt _ (List.mem_cons_self ..)
  have hwl := K2.out.size
  refine (As_any [.ref p 4 1 2 3] (w2.heap.size + 1) _ (hg.quiet K3.out) C3.out F1.out ht3).mono ?_
  rintro e w4 ⟨he, hk4, hh4⟩
  obtain rfl : e = .returned (.bool true) := he
  have HH4 : Box (w4.heap[w2.heap.size + 1]? = some (.cells #[.pointer (some ⟨p, 0, none⟩)] 33 (0, 0))) := hid hh4
  have K4 := hid (K3.out.trans hk4 (fun x hx hl => by simp at hx; omega))
  have C4 := hid (C3.out.kept hk4 (fun x hx => by
    have e : x = .ref p 4 1 2 3 := by simpa using hx
    rw [e]
    show p ∉ [w2.heap.size + 1]
    simp
    omega))
  have Q4 := hid ((hk4.block w2.heap.size (by simp; omega) (by simp)).trans hq3)
  have c4 := pcell HH4.out 0
  clear k3 hq3 ht3 hpl hwl hk4 hh4
  go_wp2_with fail
  refine (error_placed p 4 1 2 3 .nilIface w4 C4.out.1 (hg.quiet K4.out) (by decide) ⟨by decide, by decide⟩ ⟨by decide, by decide⟩ ⟨by decide, by decide⟩).mono ?_
  rintro e w5 ⟨he, hk5⟩
  rw [text_begun] at he
  subst he
  have K5 := hid (K4.out.step hk5)
  have C5 := hid (C4.out.quiet hk5)
  have Q5 := hid ((hk5.block w2.heap.size (heap_lt Q4.out) (by simp)).trans Q4.out)
  clear hk5 c4
  go_wp2_with fail
  refine (why_any [.ref p 4 1 2 3] w5 (hg.quiet K5.out) C5.out F1.out).mono ?_
  rintro e w6 ⟨he, hk6⟩
  obtain rfl : e = .returned (.int .i64 4) := he
  have K6 := hid (K5.out.step hk6)
  have c6 := pcell ((hk6.block w2.heap.size (heap_lt Q5.out) (by simp)).trans Q5.out) 2
  clear hk6
  go_wp2_with fail
  refine (name12_any 0 _).mono ?_
  rintro e w7 ⟨he, rfl⟩
  obtain rfl : e = .returned (.string ⟨#[63]⟩) := he
  go_wp2_with fail
  refine (why_any [] _ (hg.quiet K6.out) trivial trivial).mono ?_
  rintro e w8 ⟨he, hk8⟩
  obtain rfl : e = .returned (.int .i64 0) := he
  have K8 := hid (K6.out.step hk8)
  clear hk8
  go_wp2_with fail
  go_ret
  exact ⟨rfl, K8.out⟩
end Go.Proofs.YtjofffhfabmfkaaDoor
