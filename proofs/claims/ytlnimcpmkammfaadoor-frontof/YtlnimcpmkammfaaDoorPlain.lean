/-
  Plain facts on sets of numbers kept as words of 64 bits: what a word's bits are, how many, which is the least. No program stands in it.
-/
import Derived.Lib.TrailingZeros
namespace Go.Proofs.YtlnimcpmkammfaaDoor

/-- The number whose bit i is s (b + i), for i < m. -/
def wdn (s : Nat → Bool) : Nat → Nat → Nat
  | _, 0 => 0
  | b, m + 1 => (s b).toNat + 2 * wdn s (b + 1) m

/-- Word k of a set. -/
def wd (s : Nat → Bool) (k : Nat) : Nat := wdn s (64 * k) 64

/-- How many of s lie in m places from b on. -/
def cnt (s : Nat → Bool) : Nat → Nat → Nat
  | _, 0 => 0
  | b, m + 1 => (s b).toNat + cnt s (b + 1) m

theorem wdn_lt (s : Nat → Bool) : ∀ m b, wdn s b m < 2 ^ m
  | 0, b => by simp [wdn]
  | m + 1, b => by
    have h := wdn_lt s m (b + 1)
    unfold wdn
    have : (s b).toNat ≤ 1 := Bool.toNat_le _
    rw [Nat.pow_succ]; omega

theorem wd_lt (s : Nat → Bool) (k : Nat) : wd s k < 18446744073709551616 := wdn_lt s 64 _

theorem wdn_bit (s : Nat → Bool) : ∀ m b i, (wdn s b m).testBit i = (decide (i < m) && s (b + i))
  | 0, b, i => by simp [wdn]
  | m + 1, b, 0 => by
    unfold wdn
    rw [Nat.testBit_zero]
    cases s b <;> simp <;> omega
  | m + 1, b, i + 1 => by
    unfold wdn
    rw [Nat.testBit_succ]
    have e : ((s b).toNat + 2 * wdn s (b + 1) m) / 2 = wdn s (b + 1) m := by
      have : (s b).toNat ≤ 1 := Bool.toNat_le _
      omega
    rw [e, wdn_bit s m (b + 1) i]
    have e2 : b + 1 + i = b + (i + 1) := by omega
    rw [e2]
    simp

theorem wd_bit (s : Nat → Bool) (k i : Nat) : (wd s k).testBit i = (decide (i < 64) && s (64 * k + i)) := wdn_bit s 64 _ i

theorem wd_eq_of {s : Nat → Bool} {k x : Nat} (h : ∀ i, x.testBit i = (decide (i < 64) && s (64 * k + i))) : x = wd s k :=
  Nat.eq_of_testBit_eq fun i => by rw [h, wd_bit]

theorem wd_congr {s t : Nat → Bool} {k : Nat} (h : ∀ i, i < 64 → s (64 * k + i) = t (64 * k + i)) : wd s k = wd t k :=
  wd_eq_of fun i => by
    rw [wd_bit]
    by_cases hi : i < 64
    · simp [hi, h i hi]
    · simp [hi]

theorem wd_zero : ∀ k, wd (fun _ => false) k = 0 := by
  intro k
  apply Nat.eq_of_testBit_eq
  intro i
  simp [wd_bit]

theorem wd_or (s t : Nat → Bool) (k : Nat) : wd s k ||| wd t k = wd (fun n => s n || t n) k :=
  wd_eq_of fun i => by rw [Nat.testBit_or, wd_bit, wd_bit]; by_cases hi : i < 64 <;> simp [hi]

theorem wd_and (s t : Nat → Bool) (k : Nat) : wd s k &&& wd t k = wd (fun n => s n && t n) k :=
  wd_eq_of fun i => by rw [Nat.testBit_and, wd_bit, wd_bit]; by_cases hi : i < 64 <;> simp [hi]

theorem bit_not (x i : Nat) (hx : x < 18446744073709551616) : (18446744073709551615 - x).testBit i = (decide (i < 64) && !x.testBit i) := by
  have e : 18446744073709551615 - x = 2 ^ 64 - (x + 1) := by omega
  rw [e, Nat.testBit_two_pow_sub_succ (by simpa using hx)]

theorem wd_less (s t : Nat → Bool) (k : Nat) : wd s k &&& (18446744073709551615 - wd t k) = wd (fun n => s n && !t n) k :=
  wd_eq_of fun i => by rw [Nat.testBit_and, bit_not _ _ (wd_lt t k), wd_bit, wd_bit]; by_cases hi : i < 64 <;> simp [hi]

theorem pow_lt64 {i : Nat} (h : i < 64) : 2 ^ i < 18446744073709551616 := by
  have := Nat.pow_lt_pow_right (a := 2) (by decide) h
  simpa using this

/-- The bit of number n in its word. -/
theorem wd_one (n k : Nat) : wd (fun m => m == n) k = if k = n / 64 then 2 ^ (n % 64) else 0 := by
  symm
  apply wd_eq_of
  intro i
  split
  · rename_i h
    rw [Nat.testBit_two_pow]
    by_cases hi : i < 64
    · simp only [hi, decide_true, Bool.true_and]
      rw [Bool.eq_iff_iff]
      simp
      omega
    · simp [hi]; omega
  · rename_i h
    simp
    intro hi
    omega

theorem bit_has (s : Nat → Bool) (n : Nat) : (wd s (n / 64) &&& 2 ^ (n % 64) ≠ 0) ↔ s n = true := by
  have e : wd s (n / 64) &&& 2 ^ (n % 64) = wd (fun m => s m && (m == n)) (n / 64) := by
    have h := wd_one n (n / 64)
    rw [if_pos rfl] at h
    rw [← h, wd_and]
  rw [e]
  constructor
  · intro h
    by_cases hs : s n = true
    · exact hs
    · exfalso
      apply h
      rw [← wd_zero (n / 64)]
      apply wd_congr
      intro i hi
      by_cases hn : 64 * (n / 64) + i = n
      · rw [hn]; simp [hs]
      · simp [hn]
  · intro hs h
    have hb := wd_bit (fun m => s m && (m == n)) (n / 64) (n % 64)
    rw [h] at hb
    have e2 : 64 * (n / 64) + n % 64 = n := by omega
    rw [e2] at hb
    have : n % 64 < 64 := Nat.mod_lt _ (by decide)
    simp [hs, this] at hb

/-- s with n, s without n. -/
def ins (s : Nat → Bool) (n : Nat) : Nat → Bool := fun m => s m || (m == n)
def del (s : Nat → Bool) (n : Nat) : Nat → Bool := fun m => s m && !(m == n)

theorem wd_ins_at (s : Nat → Bool) (n : Nat) : wd s (n / 64) ||| 2 ^ (n % 64) = wd (ins s n) (n / 64) := by
  have h := wd_one n (n / 64)
  rw [if_pos rfl] at h
  rw [← h, wd_or]; rfl

theorem wd_ins_off (s : Nat → Bool) (n k : Nat) (hk : k ≠ n / 64) : wd (ins s n) k = wd s k := by
  apply wd_congr
  intro i hi
  have : 64 * k + i ≠ n := by omega
  simp [ins, this]

theorem wd_del_at (s : Nat → Bool) (n : Nat) : wd s (n / 64) &&& (18446744073709551615 - 2 ^ (n % 64)) = wd (del s n) (n / 64) := by
  have h := wd_one n (n / 64)
  rw [if_pos rfl] at h
  rw [← h, wd_less]; rfl

theorem wd_del_off (s : Nat → Bool) (n k : Nat) (hk : k ≠ n / 64) : wd (del s n) k = wd s k := by
  apply wd_congr
  intro i hi
  have : 64 * k + i ≠ n := by omega
  simp [del, this]

theorem wd_eq_zero (s : Nat → Bool) (k : Nat) : wd s k = 0 ↔ ∀ i, i < 64 → s (64 * k + i) = false := by
  constructor
  · intro h i hi
    have hb := wd_bit s k i
    rw [h] at hb
    simpa [hi] using hb
  · intro h
    rw [← wd_zero k]
    exact wd_congr fun i hi => by simp [h i hi]

/-- The word of 'from', cut: 'w &^ (bit - 1)'. -/
theorem wd_cut (s : Nat → Bool) (n : Nat) : wd s (n / 64) &&& (18446744073709551615 - (2 ^ (n % 64) - 1)) = wd (fun m => s m && decide (n ≤ m)) (n / 64) := by
  have h0 : n % 64 < 64 := Nat.mod_lt _ (by decide)
  have hp := pow_lt64 h0
  apply wd_eq_of
  intro i
  rw [Nat.testBit_and, bit_not _ _ (by omega), wd_bit, Nat.testBit_two_pow_sub_one]
  by_cases hi : i < 64
  · simp only [hi, decide_true, Bool.true_and]
    have : (!decide (i < n % 64)) = decide (n ≤ 64 * (n / 64) + i) := by
      rw [Bool.eq_iff_iff]; simp; omega
    rw [this]
  · simp [hi]

/-- The least number of a word. -/
theorem ctz_bit (x : Nat) (h0 : x ≠ 0) (hx : x < 18446744073709551616) : Go.Lib.ctz 64 x < 64 ∧ x.testBit (Go.Lib.ctz 64 x) = true ∧ ∀ j, j < Go.Lib.ctz 64 x → x.testBit j = false := by
  have hc : Go.Lib.ctz 64 x = Go.Lib.ctzFrom 64 x := by unfold Go.Lib.ctz; rw [if_neg h0]
  obtain ⟨m, hm, hk⟩ := Go.Lib.ctzFrom_spec 64 x (by omega) (by simpa using hx)
  rw [hc]
  generalize Go.Lib.ctzFrom 64 x = k at hm hk ⊢
  refine ⟨hk, ?_, ?_⟩
  · rw [hm, Nat.mul_comm, Nat.testBit_mul_two_pow]
    simp
  · intro j hj
    rw [hm, Nat.mul_comm, Nat.testBit_mul_two_pow]
    simp
    omega

/- How many bits: the sums of neighbours, byte by byte. -/
def m85 : Nat → Nat
  | 0 => 0
  | n + 1 => 256 * m85 n + 85
def m51 : Nat → Nat
  | 0 => 0
  | n + 1 => 256 * m51 n + 51
def m15 : Nat → Nat
  | 0 => 0
  | n + 1 => 256 * m15 n + 15

theorem and_byte (a b c d : Nat) (hb : b < 256) (hd : d < 256) : (256 * a + b) &&& (256 * c + d) = 256 * (a &&& c) + (b &&& d) := by
  have hbd : b &&& d < 2 ^ 8 := Nat.and_lt_two_pow _ hd
  apply Nat.eq_of_testBit_eq
  intro i
  show ((2 ^ 8 * a + b) &&& (2 ^ 8 * c + d)).testBit i = (2 ^ 8 * (a &&& c) + (b &&& d)).testBit i
  rw [Nat.testBit_and, Nat.testBit_two_pow_mul_add _ (by simpa using hb), Nat.testBit_two_pow_mul_add _ (by simpa using hd), Nat.testBit_two_pow_mul_add _ hbd]
  by_cases hi : i < 8
  · simp [hi]
  · simp [hi]

def s1 (n x : Nat) : Nat := ((x / 2) &&& m85 n) + (x &&& m85 n)
def s2 (n x : Nat) : Nat := ((x / 4) &&& m51 n) + (x &&& m51 n)
def s3 (n x : Nat) : Nat := (x / 16 + x) &&& m15 n

theorem b1 : ∀ c, c < 2 → ∀ r, r < 256 → (128 * c + r / 2) &&& 85 = (r / 2) &&& 85 := by decide +kernel
theorem b2 : ∀ c, c < 4 → ∀ r, r < 256 → (64 * c + r / 4) &&& 51 = (r / 4) &&& 51 := by decide +kernel
theorem b3 : ∀ r, r < 256 → ((r / 2) &&& 85) + (r &&& 85) < 256 := by decide +kernel
theorem b4 : ∀ r, r < 256 → ((r / 4) &&& 51) + (r &&& 51) < 256 := by decide +kernel

theorem s1_byte (n q r : Nat) (hr : r < 256) : s1 (n + 1) (256 * q + r) = 256 * s1 n q + (((r / 2) &&& 85) + (r &&& 85)) := by
  unfold s1
  have e0 : m85 (n + 1) = 256 * m85 n + 85 := rfl
  rw [e0]
  have e : (256 * q + r) / 2 = 256 * (q / 2) + (128 * (q % 2) + r / 2) := by omega
  rw [e, and_byte _ _ _ _ (by omega) (by decide), and_byte _ _ _ _ hr (by decide), b1 _ (by omega) r hr]
  omega

theorem s2_byte (n q r : Nat) (hr : r < 256) : s2 (n + 1) (256 * q + r) = 256 * s2 n q + (((r / 4) &&& 51) + (r &&& 51)) := by
  unfold s2
  have e0 : m51 (n + 1) = 256 * m51 n + 51 := rfl
  rw [e0]
  have e : (256 * q + r) / 4 = 256 * (q / 4) + (64 * (q % 4) + r / 4) := by omega
  rw [e, and_byte _ _ _ _ (by omega) (by decide), and_byte _ _ _ _ hr (by decide), b2 _ (by omega) r hr]
  omega

theorem s3_byte (n q r : Nat) (hr : r ≤ 68) (hq : q % 16 ≤ 4) : s3 (n + 1) (256 * q + r) = 256 * s3 n q + (16 * (q % 16) + (r / 16 + r)) % 16 := by
  unfold s3
  have e0 : m15 (n + 1) = 256 * m15 n + 15 := rfl
  rw [e0]
  have e : (256 * q + r) / 16 + (256 * q + r) = 256 * (q / 16 + q) + (16 * (q % 16) + (r / 16 + r)) := by omega
  rw [e, and_byte _ _ _ _ (by omega) (by decide)]
  have : (16 * (q % 16) + (r / 16 + r)) &&& 15 = (16 * (q % 16) + (r / 16 + r)) % 16 := Nat.and_two_pow_sub_one_eq_mod _ 4
  rw [this]

def t2 (r : Nat) : Nat := (((((r / 2) &&& 85) + (r &&& 85)) / 4) &&& 51) + ((((r / 2) &&& 85) + (r &&& 85)) &&& 51)
theorem t2_le : ∀ r, r < 256 → t2 r ≤ 68 ∧ t2 r % 16 ≤ 4 := by decide +kernel

theorem s12_byte (n q r : Nat) (hr : r < 256) : s2 (n + 1) (s1 (n + 1) (256 * q + r)) = 256 * s2 n (s1 n q) + t2 r := by
  rw [s1_byte n q r hr, s2_byte _ _ _ (b3 r hr)]; rfl

theorem s12_mod (n x : Nat) (hx : x < 256 ^ n) : s2 n (s1 n x) % 16 ≤ 4 := by
  cases n with
  | zero => simp [s2, s1, m51]
  | succ n =>
    have e : x = 256 * (x / 256) + x % 256 := by omega
    rw [e, s12_byte _ _ _ (Nat.mod_lt _ (by decide))]
    have := (t2_le (x % 256) (Nat.mod_lt _ (by decide))).2
    omega

def pc8 (r : Nat) : Nat := (t2 r / 16 + t2 r) % 16

theorem s123_byte (n q r : Nat) (hr : r < 256) (hq : q < 256 ^ n) : s3 (n + 1) (s2 (n + 1) (s1 (n + 1) (256 * q + r))) = 256 * s3 n (s2 n (s1 n q)) + pc8 r := by
  rw [s12_byte n q r hr, s3_byte _ _ _ (t2_le r hr).1 (s12_mod n q hq)]
  unfold pc8
  omega

theorem pc8_bits : ∀ b0 b1 b2 b3 b4 b5 b6 b7 : Bool, pc8 (b0.toNat + 2 * (b1.toNat + 2 * (b2.toNat + 2 * (b3.toNat + 2 * (b4.toNat + 2 * (b5.toNat + 2 * (b6.toNat + 2 * b7.toNat))))))) = b0.toNat + (b1.toNat + (b2.toNat + (b3.toNat + (b4.toNat + (b5.toNat + (b6.toNat + b7.toNat)))))) := by decide +kernel

theorem cnt_le (s : Nat → Bool) : ∀ m b, cnt s b m ≤ m
  | 0, b => by simp [cnt]
  | m + 1, b => by
    have := cnt_le s m (b + 1)
    have : (s b).toNat ≤ 1 := Bool.toNat_le _
    unfold cnt; omega

theorem cnt_add (s : Nat → Bool) : ∀ m n b, cnt s b (m + n) = cnt s b m + cnt s (b + m) n
  | 0, n, b => by simp [cnt]
  | m + 1, n, b => by
    have e : m + 1 + n = (m + n) + 1 := by omega
    have e2 : b + 1 + m = b + (m + 1) := by omega
    have e3 : cnt s b (m + n + 1) = (s b).toNat + cnt s (b + 1) (m + n) := rfl
    have e4 : cnt s b (m + 1) = (s b).toNat + cnt s (b + 1) m := rfl
    rw [e, e3, e4, cnt_add s m n (b + 1), e2]; omega

theorem wdn_byte (s : Nat → Bool) (b m : Nat) : wdn s b (m + 8) = 256 * wdn s (b + 8) m + wdn s b 8 := by
  simp only [wdn, Nat.add_assoc, Nat.reduceAdd]
  omega

theorem pc8_wdn (s : Nat → Bool) (b : Nat) : pc8 (wdn s b 8) = cnt s b 8 := by
  simp only [wdn, cnt, Nat.add_assoc, Nat.reduceAdd, Nat.mul_zero, Nat.add_zero]
  exact pc8_bits _ _ _ _ _ _ _ _

theorem s123_step (s : Nat → Bool) (b n : Nat) : s3 (n + 1) (s2 (n + 1) (s1 (n + 1) (wdn s b (8 * n + 8)))) = 256 * s3 n (s2 n (s1 n (wdn s (b + 8) (8 * n)))) + cnt s b 8 := by
  have hp : wdn s (b + 8) (8 * n) < 256 ^ n := by
    have h := wdn_lt s (8 * n) (b + 8)
    rw [Nat.pow_mul] at h; exact h
  rw [wdn_byte, s123_byte n _ _ (wdn_lt s 8 b) hp, pc8_wdn]

theorem div8 (Y p : Nat) (h : p < 256) : (256 * Y + p) / 256 = Y := by omega
theorem div16 (Y p q : Nat) (h : p < 256) (h' : q < 256) : (256 * (256 * Y + p) + q) / 65536 = Y := by omega
theorem div32 (Y p q r t : Nat) (h : p < 256) (h' : q < 256) (h2 : r < 256) (h3 : t < 256) : (256 * (256 * (256 * (256 * Y + p) + q) + r) + t) / 4294967296 = Y := by omega
theorem mod7 (Y p : Nat) (h : p < 128) : (256 * Y + p) % 128 = p := by omega

theorem lin4 (p0 p1 p2 p3 p4 p5 p6 p7 : Nat) : 256 * (256 * (256 * (256 * (256 * (256 * (256 * p7 + p6) + p5) + p4) + p3) + p2) + p1) + p0 + (256 * (256 * (256 * (256 * (256 * (256 * p7 + p6) + p5) + p4) + p3) + p2) + p1) = 256 * (256 * (256 * (256 * (256 * (256 * (256 * p7 + (p6 + p7)) + (p5 + p6)) + (p4 + p5)) + (p3 + p4)) + (p2 + p3)) + (p1 + p2)) + (p0 + p1) := by omega
theorem lin5 (p0 p1 p2 p3 p4 p5 p6 p7 : Nat) : 256 * (256 * (256 * (256 * (256 * (256 * (256 * p7 + (p6 + p7)) + (p5 + p6)) + (p4 + p5)) + (p3 + p4)) + (p2 + p3)) + (p1 + p2)) + (p0 + p1) + (256 * (256 * (256 * (256 * (256 * p7 + (p6 + p7)) + (p5 + p6)) + (p4 + p5)) + (p3 + p4)) + (p2 + p3)) = 256 * (256 * (256 * (256 * (256 * (256 * (256 * p7 + (p6 + p7)) + (p5 + p6 + p7)) + (p4 + p5 + p6 + p7)) + (p3 + p4 + p5 + p6)) + (p2 + p3 + p4 + p5)) + (p1 + p2 + p3 + p4)) + (p0 + p1 + p2 + p3) := by omega
theorem lin6 (p0 p1 p2 p3 p4 p5 p6 p7 : Nat) : 256 * (256 * (256 * (256 * (256 * (256 * (256 * p7 + (p6 + p7)) + (p5 + p6 + p7)) + (p4 + p5 + p6 + p7)) + (p3 + p4 + p5 + p6)) + (p2 + p3 + p4 + p5)) + (p1 + p2 + p3 + p4)) + (p0 + p1 + p2 + p3) + (256 * (256 * (256 * p7 + (p6 + p7)) + (p5 + p6 + p7)) + (p4 + p5 + p6 + p7)) = 256 * (256 * (256 * (256 * (256 * (256 * (256 * p7 + (p6 + p7)) + (p5 + p6 + p7)) + (p4 + p5 + p6 + p7)) + (p3 + p4 + p5 + p6 + p7)) + (p2 + p3 + p4 + p5 + p6 + p7)) + (p1 + p2 + p3 + p4 + p5 + p6 + p7)) + (p0 + p1 + p2 + p3 + p4 + p5 + p6 + p7) := by omega
theorem pop_fold (p0 p1 p2 p3 p4 p5 p6 p7 x : Nat) (h0 : p0 ≤ 8) (h1 : p1 ≤ 8) (h2 : p2 ≤ 8) (h3 : p3 ≤ 8) (h4 : p4 ≤ 8) (h5 : p5 ≤ 8) (h6 : p6 ≤ 8) (h7 : p7 ≤ 8)
    (hx : x = 256 * (256 * (256 * (256 * (256 * (256 * (256 * p7 + p6) + p5) + p4) + p3) + p2) + p1) + p0) :
    ∃ x4 x5 x6, x + x / 256 = x4 ∧ x4 < 18446744073709551616 ∧ x4 + x4 / 65536 = x5 ∧ x5 < 18446744073709551616 ∧ x5 + x5 / 4294967296 = x6 ∧ x6 < 9223372036854775808 ∧ x6 % 128 = p0 + p1 + p2 + p3 + p4 + p5 + p6 + p7 := by
  subst hx
  refine ⟨256 * (256 * (256 * (256 * (256 * (256 * (256 * p7 + (p6 + p7)) + (p5 + p6)) + (p4 + p5)) + (p3 + p4)) + (p2 + p3)) + (p1 + p2)) + (p0 + p1), 256 * (256 * (256 * (256 * (256 * (256 * (256 * p7 + (p6 + p7)) + (p5 + p6 + p7)) + (p4 + p5 + p6 + p7)) + (p3 + p4 + p5 + p6)) + (p2 + p3 + p4 + p5)) + (p1 + p2 + p3 + p4)) + (p0 + p1 + p2 + p3), 256 * (256 * (256 * (256 * (256 * (256 * (256 * p7 + (p6 + p7)) + (p5 + p6 + p7)) + (p4 + p5 + p6 + p7)) + (p3 + p4 + p5 + p6 + p7)) + (p2 + p3 + p4 + p5 + p6 + p7)) + (p1 + p2 + p3 + p4 + p5 + p6 + p7)) + (p0 + p1 + p2 + p3 + p4 + p5 + p6 + p7), ?_, ?_, ?_, ?_, ?_, ?_, ?_⟩
  · rw [div8 _ _ (by omega)]; exact lin4 p0 p1 p2 p3 p4 p5 p6 p7
  · omega
  · rw [div16 _ _ _ (by omega) (by omega)]; exact lin5 p0 p1 p2 p3 p4 p5 p6 p7
  · omega
  · rw [div32 _ _ _ _ _ (by omega) (by omega) (by omega) (by omega)]; exact lin6 p0 p1 p2 p3 p4 p5 p6 p7
  · omega
  · rw [mod7 _ _ (by omega)]

theorem e85 : m85 8 = 6148914691236517205 := by simp [m85]
theorem e51 : m51 8 = 3689348814741910323 := by simp [m51]
theorem e15 : m15 8 = 1085102592571150095 := by simp [m15]

theorem s1_lt (x : Nat) : s1 8 x < 18446744073709551616 := by
  have a1 : (x / 2) &&& m85 8 ≤ m85 8 := Nat.and_le_right
  have a2 : x &&& m85 8 ≤ m85 8 := Nat.and_le_right
  rw [e85] at a1 a2
  unfold s1
  rw [e85]
  omega
theorem s2_le (x : Nat) : s2 8 x ≤ 7378697629483820646 := by
  have a1 : (x / 4) &&& m51 8 ≤ m51 8 := Nat.and_le_right
  have a2 : x &&& m51 8 ≤ m51 8 := Nat.and_le_right
  rw [e51] at a1 a2
  unfold s2
  rw [e51]
  omega

theorem cnt64 (s : Nat → Bool) (b : Nat) : cnt s b 64 = cnt s b 8 + cnt s (b + 8) 8 + cnt s (b + 8 + 8) 8 + cnt s (b + 8 + 8 + 8) 8 + cnt s (b + 8 + 8 + 8 + 8) 8 + cnt s (b + 8 + 8 + 8 + 8 + 8) 8 + cnt s (b + 8 + 8 + 8 + 8 + 8 + 8) 8 + cnt s (b + 8 + 8 + 8 + 8 + 8 + 8 + 8) 8 := by
  have ec := cnt_add s 8 56 b
  have ec2 := cnt_add s 8 48 (b + 8)
  have ec3 := cnt_add s 8 40 (b + 8 + 8)
  have ec4 := cnt_add s 8 32 (b + 8 + 8 + 8)
  have ec5 := cnt_add s 8 24 (b + 8 + 8 + 8 + 8)
  have ec6 := cnt_add s 8 16 (b + 8 + 8 + 8 + 8 + 8)
  have ec7 := cnt_add s 8 8 (b + 8 + 8 + 8 + 8 + 8 + 8)
  simp only [Nat.reduceAdd] at ec ec2 ec3 ec4 ec5 ec6 ec7
  rw [ec, ec2, ec3, ec4, ec5, ec6, ec7]
  omega

theorem s123_all (s : Nat → Bool) (b : Nat) : s3 8 (s2 8 (s1 8 (wdn s b 64))) = 256 * (256 * (256 * (256 * (256 * (256 * (256 * cnt s (b + 8 + 8 + 8 + 8 + 8 + 8 + 8) 8 + cnt s (b + 8 + 8 + 8 + 8 + 8 + 8) 8) + cnt s (b + 8 + 8 + 8 + 8 + 8) 8) + cnt s (b + 8 + 8 + 8 + 8) 8) + cnt s (b + 8 + 8 + 8) 8) + cnt s (b + 8 + 8) 8) + cnt s (b + 8) 8) + cnt s b 8 := by
  have z : ∀ x, s3 0 x = 0 := fun x => by simp [s3, m15]
  rw [s123_step s b 7, s123_step s (b + 8) 6, s123_step s (b + 8 + 8) 5, s123_step s (b + 8 + 8 + 8) 4, s123_step s (b + 8 + 8 + 8 + 8) 3, s123_step s (b + 8 + 8 + 8 + 8 + 8) 2, s123_step s (b + 8 + 8 + 8 + 8 + 8 + 8) 1, s123_step s (b + 8 + 8 + 8 + 8 + 8 + 8 + 8) 0, z, Nat.mul_zero, Nat.zero_add]

/-- What OnesCount64 reckons of a word: how many of the set lie in it. -/
theorem pop_word (s : Nat → Bool) (k : Nat) : ∃ x1 x2 x3 x4 x5 x6, ((wd s k / 2) &&& 6148914691236517205) + (wd s k &&& 6148914691236517205) = x1 ∧ ((x1 / 4) &&& 3689348814741910323) + (x1 &&& 3689348814741910323) = x2 ∧ x1 < 18446744073709551616 ∧ x2 < 18446744073709551616 ∧
    (x2 / 16 + x2) &&& 1085102592571150095 = x3 ∧ x2 / 16 + x2 < 18446744073709551616 ∧ x3 + x3 / 256 = x4 ∧ x4 < 18446744073709551616 ∧ x4 + x4 / 65536 = x5 ∧ x5 < 18446744073709551616 ∧ x5 + x5 / 4294967296 = x6 ∧ x6 < 9223372036854775808 ∧ x6 % 128 = cnt s (64 * k) 64 := by
  obtain ⟨x4, x5, x6, f1, f2, f3, f4, f5, f6, f7⟩ := pop_fold _ _ _ _ _ _ _ _ (s3 8 (s2 8 (s1 8 (wd s k)))) (cnt_le s 8 _) (cnt_le s 8 _) (cnt_le s 8 _) (cnt_le s 8 _) (cnt_le s 8 _) (cnt_le s 8 _) (cnt_le s 8 _) (cnt_le s 8 _) (s123_all s (64 * k))
  have l2 := s2_le (s1 8 (wd s k))
  refine ⟨s1 8 (wd s k), s2 8 (s1 8 (wd s k)), s3 8 (s2 8 (s1 8 (wd s k))), x4, x5, x6, by unfold s1; rw [e85], by unfold s2; rw [e51], s1_lt _, ?_, by unfold s3; rw [e15], ?_, f1, f2, f3, f4, f5, f6, ?_⟩
  · clear f1 f2 f3 f4 f5 f6 f7; omega
  · clear f1 f2 f3 f4 f5 f6 f7; omega
  · rw [f7, cnt64]

end Go.Proofs.YtlnimcpmkammfaaDoor
