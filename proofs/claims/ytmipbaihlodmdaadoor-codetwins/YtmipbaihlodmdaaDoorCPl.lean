/-
  Numbers and programs as bytes, plain: what is written, that it can be read in one way alone, and how a reader goes.
-/
import Derived.Test.YtmipbaihlodmdaaDoorIDat
namespace Go.Proofs.YtmipbaihlodmdaaDoor

/-- Seven bits a byte, the lowest first. -/
def seven (u : Nat) : List UInt8 := if u < 128 then [UInt8.ofNat u] else UInt8.ofNat (u % 128 + 128) :: seven (u / 128)
termination_by u
decreasing_by omega
theorem seven_lt {u : Nat} (h : u < 128) : seven u = [UInt8.ofNat u] := by rw [seven, if_pos h]
theorem seven_ge {u : Nat} (h : ¬ u < 128) : seven u = UInt8.ofNat (u % 128 + 128) :: seven (u / 128) := by rw [seven, if_neg h]
theorem u8_small {n : Nat} (h : n < 256) : (UInt8.ofNat n).toNat = n := by
  rw [UInt8.toNat_ofNat']
  exact Nat.mod_eq_of_lt h
theorem seven_pos (u : Nat) : 0 < (seven u).length := by
  by_cases h : u < 128
  · rw [seven_lt h]; simp
  · rw [seven_ge h]; simp
theorem seven_len : ∀ (k u : Nat), u < 128 ^ (k + 1) → (seven u).length ≤ k + 1
  | 0, u, h => by
    rw [seven_lt (by simpa using h)]
    simp
  | k + 1, u, h => by
    by_cases h1 : u < 128
    · rw [seven_lt h1]; simp
    · rw [seven_ge h1, List.length_cons]
      have := seven_len k (u / 128) (by rw [Nat.div_lt_iff_lt_mul (by omega)]; rw [Nat.pow_succ] at h; exact h)
      omega
/-- A byte that says that another comes. -/
theorem seven_more {u : Nat} {R S : List UInt8} {c : UInt8} (h : seven u ++ R = c :: S) (hc : 128 ≤ c.toNat) : 1 ≤ u / 128 ∧ c.toNat = u % 128 + 128 ∧ seven (u / 128) ++ R = S := by
  by_cases h1 : u < 128
  · rw [seven_lt h1] at h
    have e : UInt8.ofNat u = c := by simpa using congrArg List.head? h
    rw [← e, u8_small (by omega)] at hc
    omega
  · rw [seven_ge h1, List.cons_append] at h
    obtain ⟨e1, e2⟩ := List.cons.inj h
    refine ⟨by omega, ?_, e2⟩
    rw [← e1, u8_small (by omega)]
/-- .. and one that ends. -/
theorem seven_last {u : Nat} {R S : List UInt8} {c : UInt8} (h : seven u ++ R = c :: S) (hc : c.toNat < 128) : u = c.toNat ∧ R = S := by
  by_cases h1 : u < 128
  · rw [seven_lt h1] at h
    obtain ⟨e1, e2⟩ := List.cons.inj h
    exact ⟨by rw [← e1, u8_small (by omega)], by simpa using e2⟩
  · rw [seven_ge h1, List.cons_append] at h
    obtain ⟨e1, _⟩ := List.cons.inj h
    rw [← e1, u8_small (by omega)] at hc
    omega
theorem seven_uniq : ∀ (u v : Nat) (R S : List UInt8), seven u ++ R = seven v ++ S → u = v ∧ R = S := by
  intro u
  induction u using Nat.strongRecOn with
  | ind u ih =>
    intro v R S h
    by_cases h1 : u < 128
    · rw [seven_lt h1] at h
      have := seven_last h.symm (by rw [u8_small (by omega)]; exact h1)
      rw [u8_small (by omega)] at this
      exact ⟨this.1.symm, this.2.symm⟩
    · rw [seven_ge h1] at h
      obtain ⟨a1, a2, a3⟩ := seven_more h.symm (by rw [u8_small (by omega)]; omega)
      rw [u8_small (by omega)] at a2
      obtain ⟨b1, b2⟩ := ih (u / 128) (by omega) (v / 128) R S a3.symm
      exact ⟨by omega, b2⟩

/-- What the bytes of a number stand for, k of them read. -/
def val7 : List UInt8 → Nat
  | [] => 0
  | c :: l => c.toNat % 128 + 128 * val7 l
theorem val7_snoc (l : List UInt8) (c : UInt8) : val7 (l ++ [c]) = val7 l + (c.toNat % 128) * 128 ^ l.length := by
  induction l with
  | nil => simp [val7]
  | cons d l ih =>
    rw [List.cons_append, val7, val7, ih, List.length_cons, Nat.pow_succ]
    rw [Nat.mul_add, ← Nat.add_assoc]
    congr 1
    rw [Nat.mul_comm (128 ^ l.length) 128, ← Nat.mul_assoc, ← Nat.mul_assoc, Nat.mul_comm 128 (c.toNat % 128)]
theorem val7_lt (l : List UInt8) : val7 l < 128 ^ l.length := by
  induction l with
  | nil => simp [val7]
  | cons c l ih =>
    rw [val7, List.length_cons, Nat.pow_succ]
    have := Nat.mod_lt c.toNat (show 0 < 128 by omega)
    omega
def Mores (l : List UInt8) : Prop := ∀ c, c ∈ l → 128 ≤ c.toNat
/-- Read to its end, a number is what is written. -/
theorem seven_read : ∀ (l : List UInt8) (c : UInt8), Mores l → c.toNat < 128 → (l = [] ∨ c.toNat ≠ 0) → seven (val7 (l ++ [c])) = l ++ [c]
  | [], c, _, h, _ => by
    have e : val7 ([] ++ [c]) = c.toNat := by
      show c.toNat % 128 + 128 * 0 = c.toNat
      omega
    rw [e, seven_lt h]
    simp
  | d :: l, c, hm, h, h0 => by
    have hc : c.toNat ≠ 0 := by
      rcases h0 with h0 | h0
      · cases h0
      · exact h0
    have ih := seven_read l c (fun x hx => hm x (List.mem_cons_of_mem _ hx)) h (.inr hc)
    have hd := hm d (List.mem_cons_self ..)
    have hd2 := d.toNat_lt
    have hpos : 1 ≤ val7 (l ++ [c]) := by
      rw [val7_snoc]
      have : 1 ≤ c.toNat % 128 * 128 ^ l.length := Nat.mul_pos (by omega) (Nat.pow_pos (by omega))
      omega
    have e : val7 (d :: l ++ [c]) = d.toNat % 128 + 128 * val7 (l ++ [c]) := rfl
    have e1 : val7 (d :: l ++ [c]) % 128 + 128 = d.toNat := by omega
    have e2 : val7 (d :: l ++ [c]) / 128 = val7 (l ++ [c]) := by omega
    rw [seven_ge (by omega), e1, e2, ih]
    simp
/-- Bytes that each say that another comes, at the head of a number's. -/
theorem seven_head : ∀ (l : List UInt8) (u : Nat) (R S : List UInt8), Mores l → seven u ++ R = l ++ S → seven (u / 128 ^ l.length) ++ R = S ∧ (l = [] ∨ 1 ≤ u / 128 ^ l.length)
  | [], u, R, S, _, h => by
    rw [List.length_nil, Nat.pow_zero, Nat.div_one]
    exact ⟨h, .inl rfl⟩
  | c :: l, u, R, S, hm, h => by
    obtain ⟨h1, _, h3⟩ := seven_more h (hm c (List.mem_cons_self ..))
    have ih := seven_head l (u / 128) R S (fun x hx => hm x (List.mem_cons_of_mem _ hx)) h3
    rw [Nat.div_div_eq_div_mul, Nat.mul_comm, ← Nat.pow_succ] at ih
    refine ⟨ih.1, .inr ?_⟩
    rcases ih.2 with e | e
    · subst e
      exact h1
    · exact e

/-- 2 n, or -2 n - 1 of what is below 0. -/
def foldN (n : Int) : Nat := if n < 0 then (-2 * n - 1).toNat else (2 * n).toNat
theorem foldN_neg {n : Int} (h : n < 0) : (foldN n : Int) = -2 * n - 1 := by
  rw [foldN, if_pos h]; omega
theorem foldN_pos {n : Int} (h : ¬ n < 0) : (foldN n : Int) = 2 * n := by
  rw [foldN, if_neg h]; omega
theorem foldN_inj {n m : Int} (h : foldN n = foldN m) : n = m := by
  by_cases h1 : n < 0 <;> by_cases h2 : m < 0
  · have := foldN_neg h1; have := foldN_neg h2; omega
  · have := foldN_neg h1; have := foldN_pos h2; omega
  · have := foldN_pos h1; have := foldN_neg h2; omega
  · have := foldN_pos h1; have := foldN_pos h2; omega
theorem foldN_lt {n : Int} (h : b64 n) : foldN n < 18446744073709551616 := by
  obtain ⟨a, b⟩ := h
  by_cases h1 : n < 0
  · have := foldN_neg h1; omega
  · have := foldN_pos h1; omega
/-- The number that folds to u. -/
def unfN (u : Nat) : Int := if u % 2 = 1 then -((u / 2 : Nat) : Int) - 1 else ((u / 2 : Nat) : Int)
theorem foldN_unfN (u : Nat) : foldN (unfN u) = u := by
  by_cases h : u % 2 = 1
  · have e : unfN u = -((u / 2 : Nat) : Int) - 1 := by rw [unfN, if_pos h]
    have := foldN_neg (n := unfN u) (by omega)
    omega
  · have e : unfN u = ((u / 2 : Nat) : Int) := by rw [unfN, if_neg h]
    have := foldN_pos (n := unfN u) (by omega)
    omega
theorem unfN_b64 {u : Nat} (h : u < 18446744073709551616) : b64 (unfN u) := by
  unfold b64 unfN
  split <;> omega

/-- A number's bytes. -/
def numE (n : Int) : List UInt8 := seven (foldN n)
theorem numE_pos (n : Int) : 0 < (numE n).length := seven_pos _
theorem numE_len {n : Int} (h : b64 n) : (numE n).length ≤ 10 := seven_len 9 _ (by have := foldN_lt h; omega)
theorem numE_uniq {n m : Int} {R S : List UInt8} (h : numE n ++ R = numE m ++ S) : n = m ∧ R = S := by
  obtain ⟨a, b⟩ := seven_uniq _ _ _ _ h
  exact ⟨foldN_inj a, b⟩
/-- Read to its end. -/
theorem num_read {l : List UInt8} {c : UInt8} (hm : Mores l) (hc : c.toNat < 128) (h0 : l = [] ∨ c.toNat ≠ 0) : numE (unfN (val7 (l ++ [c]))) = l ++ [c] := by
  rw [numE, foldN_unfN]
  exact seven_read l c hm hc h0
/-- No number: it does not end. -/
theorem num_none {l : List UInt8} (hm : Mores l) (n : Int) (R : List UInt8) : l ≠ numE n ++ R := by
  intro h
  have h1 := (seven_head l (foldN n) R [] hm (by rw [List.append_nil]; exact h.symm)).1
  have h2 := seven_pos (foldN n / 128 ^ l.length)
  have := congrArg List.length h1
  simp at this
  rw [this.1] at h2
  simp at h2
/-- .. bits of 0 on top. -/
theorem num_zero {l S : List UInt8} {c : UInt8} (hm : Mores l) (hl : l ≠ []) (hc : c.toNat = 0) (n : Int) (R : List UInt8) : l ++ c :: S ≠ numE n ++ R := by
  intro h
  obtain ⟨h1, h2⟩ := seven_head l (foldN n) R (c :: S) hm h.symm
  have := (seven_last h1 (by omega)).1
  rcases h2 with e | e
  · exact hl e
  · omega
/-- .. beyond 64 bits. -/
theorem num_great {l S : List UInt8} {c : UInt8} (hm : Mores l) (hl : l.length = 9) (hc : 1 < c.toNat) (n : Int) (hn : b64 n) (R : List UInt8) : l ++ c :: S ≠ numE n ++ R := by
  intro h
  have h1 := (seven_head l (foldN n) R (c :: S) hm h.symm).1
  have h3 := foldN_lt hn
  rw [hl] at h1
  have h4 : foldN n / 128 ^ 9 ≤ 1 := by omega
  rw [seven_lt (by omega)] at h1
  have := (List.cons.inj h1).1
  rw [← this, u8_small (by omega)] at hc
  omega

section
variable {α β : Type}
/-- What is written can be read in one way alone. -/
structure Cd (E : α → List UInt8) (ok : α → Prop) : Prop where
  pos : ∀ x, 0 < (E x).length
  uniq : ∀ x y R S, ok x → ok y → E x ++ R = E y ++ S → x = y ∧ R = S
theorem Cd.num : Cd numE b64 := ⟨numE_pos, fun _ _ _ _ _ _ h => numE_uniq h⟩
def pairE (E : α → List UInt8) (F : β → List UInt8) (x : α × β) : List UInt8 := E x.1 ++ F x.2
def pairOk (ok : α → Prop) (ok' : β → Prop) (x : α × β) : Prop := ok x.1 ∧ ok' x.2
theorem Cd.pair {E : α → List UInt8} {F : β → List UInt8} {ok : α → Prop} {ok' : β → Prop} (h : Cd E ok) (k : Cd F ok') : Cd (pairE E F) (pairOk ok ok') := by
  refine ⟨fun x => ?_, fun x y R S hx hy e => ?_⟩
  · rw [pairE, List.length_append]; have := h.pos x.1; omega
  · unfold pairE at e
    rw [List.append_assoc, List.append_assoc] at e
    obtain ⟨e1, e2⟩ := h.uniq _ _ _ _ hx.1 hy.1 e
    obtain ⟨e3, e4⟩ := k.uniq _ _ _ _ hx.2 hy.2 e2
    exact ⟨Prod.ext e1 e3, e4⟩
/-- A list: its length, its parts. -/
def listE (E : α → List UInt8) (l : List α) : List UInt8 := numE (l.length : Int) ++ l.flatMap E
def listOk (ok : α → Prop) (l : List α) : Prop := b64 (l.length : Int) ∧ ∀ x, x ∈ l → ok x
theorem flat_len {E : α → List UInt8} (h : ∀ x, 0 < (E x).length) (l : List α) : l.length ≤ (l.flatMap E).length := by
  induction l with
  | nil => simp
  | cons x l ih =>
    rw [List.flatMap_cons, List.length_append, List.length_cons]
    have := h x
    omega
theorem flat_uniq {E : α → List UInt8} {ok : α → Prop} (h : Cd E ok) : ∀ (l m : List α) (R S : List UInt8), l.length = m.length → (∀ x, x ∈ l → ok x) → (∀ x, x ∈ m → ok x) → l.flatMap E ++ R = m.flatMap E ++ S → l = m ∧ R = S
  | [], m, R, S, hl, _, _, e => by
    have : m = [] := List.eq_nil_of_length_eq_zero hl.symm
    subst this
    exact ⟨rfl, by simpa using e⟩
  | x :: l, [], R, S, hl, _, _, e => by simp at hl
  | x :: l, y :: m, R, S, hl, hx, hy, e => by
    rw [List.flatMap_cons, List.flatMap_cons, List.append_assoc, List.append_assoc] at e
    obtain ⟨e1, e2⟩ := h.uniq _ _ _ _ (hx x (List.mem_cons_self ..)) (hy y (List.mem_cons_self ..)) e
    obtain ⟨e3, e4⟩ := flat_uniq h l m R S (by simpa using hl) (fun z hz => hx z (List.mem_cons_of_mem _ hz)) (fun z hz => hy z (List.mem_cons_of_mem _ hz)) e2
    exact ⟨by rw [e1, e3], e4⟩
theorem Cd.list {E : α → List UInt8} {ok : α → Prop} (h : Cd E ok) : Cd (listE E) (listOk ok) := by
  refine ⟨fun l => ?_, fun l m R S hl hm e => ?_⟩
  · rw [listE, List.length_append]; have := numE_pos (l.length : Int); omega
  · unfold listE at e
    rw [List.append_assoc, List.append_assoc] at e
    obtain ⟨e1, e2⟩ := numE_uniq e
    exact flat_uniq h l m R S (by omega) hl.2 hm.2 e2
theorem Cd.map {E : α → List UInt8} {ok : α → Prop} (h : Cd E ok) {F : β → List UInt8} {ok' : β → Prop} (g : β → α) (hg : ∀ x y, g x = g y → x = y) (hE : ∀ x, F x = E (g x)) (ho : ∀ x, ok' x → ok (g x)) : Cd F ok' := by
  refine ⟨fun x => by rw [hE]; exact h.pos _, fun x y R S hx hy e => ?_⟩
  rw [hE, hE] at e
  obtain ⟨e1, e2⟩ := h.uniq _ _ _ _ (ho x hx) (ho y hy) e
  exact ⟨hg _ _ e1, e2⟩

/-- A reader's state: what is left, or nothing for good. What a step of it has read. -/
def Stp (E : α → List UInt8) (ok : α → Prop) (s : Option (List UInt8)) (x : α) (s' : Option (List UInt8)) : Prop :=
  ok x ∧ (s = none → s' = none) ∧ (∀ L R, s = some L → s' = some R → L = E x ++ R) ∧ (∀ L, s = some L → s' = none → ∀ y R, ok y → L ≠ E y ++ R)
theorem Stp.pair {E : α → List UInt8} {F : β → List UInt8} {ok : α → Prop} {ok' : β → Prop} (c : Cd E ok) {s s1 s2 : Option (List UInt8)} {x : α} {y : β} (h : Stp E ok s x s1) (k : Stp F ok' s1 y s2) : Stp (pairE E F) (pairOk ok ok') s (x, y) s2 := by
  obtain ⟨a0, a1, a2, a3⟩ := h
  obtain ⟨b0, b1, b2, b3⟩ := k
  refine ⟨⟨a0, b0⟩, fun e => b1 (a1 e), fun L R e1 e2 => ?_, fun L e1 e2 z R hz e => ?_⟩
  · cases s1 with
    | none => rw [b1 rfl] at e2; cases e2
    | some M =>
      rw [a2 L M e1 rfl, b2 M R rfl e2]
      unfold pairE
      rw [List.append_assoc]
  · unfold pairE at e
    rw [List.append_assoc] at e
    cases s1 with
    | none => exact a3 L e1 rfl z.1 _ hz.1 e
    | some M =>
      have e3 := a2 L M e1 rfl
      rw [e3] at e
      obtain ⟨_, e4⟩ := c.uniq _ _ _ _ a0 hz.1 e
      exact b3 M rfl e2 z.2 R hz.2 e4
theorem Stp.map {E : α → List UInt8} {ok : α → Prop} {F : β → List UInt8} {ok' : β → Prop} {s s' : Option (List UInt8)} {x : α} (h : Stp E ok s x s') (f : α → β) (g : β → α) (hgf : g (f x) = x) (hE : ∀ y, F y = E (g y)) (ho : ok x → ok' (f x)) (ho' : ∀ y, ok' y → ok (g y)) : Stp F ok' s (f x) s' := by
  obtain ⟨a0, a1, a2, a3⟩ := h
  refine ⟨ho a0, a1, fun L R e1 e2 => ?_, fun L e1 e2 y R hy e => ?_⟩
  · rw [hE, hgf]; exact a2 L R e1 e2
  · rw [hE] at e
    exact a3 L e1 e2 (g y) R (ho' y hy) e
/-- What length tells of a list's length. -/
def LenS (s : Option (List UInt8)) (n : Nat) (s' : Option (List UInt8)) : Prop :=
  (s' = none → n = 0) ∧ (s = none → s' = none) ∧ (∀ L R, s = some L → s' = some R → L = numE (n : Int) ++ R ∧ n ≤ R.length) ∧ (∀ L, s = some L → s' = none → ∀ (m : Nat) R, b64 (m : Int) → L = numE (m : Int) ++ R → R.length < m)
/-- k parts of n have been read. -/
def MidS (E : α → List UInt8) (ok : α → Prop) (s : Option (List UInt8)) (n k : Nat) (l : List α) (s' : Option (List UInt8)) : Prop :=
  l.length = k ∧ (∀ x, x ∈ l → ok x) ∧ ∃ L R, s = some L ∧ s' = some R ∧ L = numE (n : Int) ++ (l.flatMap E ++ R)
theorem MidS.start {E : α → List UInt8} {ok : α → Prop} {s s' : Option (List UInt8)} {n : Nat} (h : LenS s n s') (hn : n ≠ 0) : MidS E ok s n 0 [] s' := by
  obtain ⟨a0, a1, a2, a3⟩ := h
  refine ⟨rfl, (fun x hx => by cases hx), ?_⟩
  cases s' with
  | none => exact absurd (a0 rfl) hn
  | some R =>
    cases s with
    | none => cases a1 rfl
    | some L => exact ⟨L, R, rfl, rfl, by simpa using (a2 L R rfl rfl).1⟩
theorem MidS.next {E : α → List UInt8} {ok : α → Prop} {s s1 s2 : Option (List UInt8)} {n k : Nat} {l : List α} {x : α} (h : MidS E ok s n k l s1) (hx : Stp E ok s1 x s2) (h2 : s2 ≠ none) : MidS E ok s n (k + 1) (l ++ [x]) s2 := by
  obtain ⟨a0, a1, L, R, e1, e2, e3⟩ := h
  obtain ⟨b0, _, b2, _⟩ := hx
  refine ⟨by simp [a0], fun y hy => ?_, ?_⟩
  · rcases List.mem_append.1 hy with hy | hy
    · exact a1 y hy
    · rw [List.mem_singleton.1 hy]; exact b0
  · cases s2 with
    | none => exact absurd rfl h2
    | some R2 =>
      refine ⟨L, R2, e1, rfl, ?_⟩
      rw [e3, b2 R R2 e2 rfl, List.flatMap_append]
      simp
theorem MidS.done {E : α → List UInt8} {ok : α → Prop} {s s' : Option (List UInt8)} {n : Nat} {l : List α} (h : MidS E ok s n n l s') (hn : b64 (n : Int)) : Stp (listE E) (listOk ok) s l s' := by
  obtain ⟨a0, a1, L, R, e1, e2, e3⟩ := h
  refine ⟨⟨by rw [a0]; exact hn, a1⟩, (fun e => by rw [e] at e1; cases e1), fun L' R' e4 e5 => ?_, fun L' e4 e5 => ?_⟩
  · rw [e1] at e4
    rw [e2] at e5
    cases e4
    cases e5
    rw [e3, listE, a0, List.append_assoc]
  · rw [e2] at e5
    cases e5
theorem MidS.fail {E : α → List UInt8} {ok : α → Prop} (c : Cd E ok) {s s1 : Option (List UInt8)} {n k : Nat} {l : List α} {x : α} (h : MidS E ok s n k l s1) (hk : k < n) (hx : Stp E ok s1 x none) : Stp (listE E) (listOk ok) s [] none := by
  obtain ⟨a0, a1, L, R, e1, e2, e3⟩ := h
  obtain ⟨b0, _, _, b3⟩ := hx
  refine ⟨⟨by unfold b64; simp, fun y hy => by cases hy⟩, fun _ => rfl, (fun L' R' _ e => by cases e), fun L' e4 _ m S hm e => ?_⟩
  rw [e1] at e4
  cases e4
  rw [e3] at e
  unfold listE at e
  rw [List.append_assoc] at e
  obtain ⟨e5, e6⟩ := numE_uniq e
  have hlen : m.length = n := by omega
  have hm1 : m = m.take k ++ m.drop k := (List.take_append_drop k m).symm
  rw [hm1, List.flatMap_append, List.append_assoc] at e6
  obtain ⟨_, e7⟩ := flat_uniq c l (m.take k) R ((m.drop k).flatMap E ++ S) (by rw [a0, List.length_take]; omega) a1 (fun y hy => hm.2 y (List.mem_of_mem_take hy)) e6
  cases hd : m.drop k with
  | nil =>
    have := congrArg List.length hd
    rw [List.length_drop] at this
    simp at this
    omega
  | cons y t =>
    rw [hd, List.flatMap_cons, List.append_assoc] at e7
    exact b3 R e2 rfl y _ (hm.2 y (List.mem_of_mem_drop (by rw [hd]; exact List.mem_cons_self ..))) e7
/-- A list of nothing, or one whose length is none. -/
theorem LenS.empty {E : α → List UInt8} {ok : α → Prop} (hp : ∀ x, 0 < (E x).length) {s s' : Option (List UInt8)} (h : LenS s 0 s') : Stp (listE E) (listOk ok) s [] s' := by
  obtain ⟨a0, a1, a2, a3⟩ := h
  refine ⟨⟨by unfold b64; simp, fun y hy => by cases hy⟩, a1, fun L R e1 e2 => ?_, fun L e1 e2 m R hm e => ?_⟩
  · rw [(a2 L R e1 e2).1]
    simp [listE]
  · unfold listE at e
    rw [List.append_assoc] at e
    have := a3 L e1 e2 m.length _ hm.1 e
    rw [List.length_append] at this
    have := flat_len hp m
    omega
theorem LenS.of {s s' : Option (List UInt8)} {n : Int} (h : Stp numE b64 s n s') (hok : ∀ R, s' = some R → 0 ≤ n ∧ n ≤ (R.length : Int)) (hn : s' = none → n = 0) : LenS s n.toNat s' := by
  obtain ⟨a0, a1, a2, a3⟩ := h
  refine ⟨fun e => by rw [hn e]; rfl, a1, fun L R e1 e2 => ?_, fun L e1 e2 m R hm e => absurd e (a3 L e1 e2 _ R hm)⟩
  obtain ⟨b1, b2⟩ := hok R e2
  rw [Int.toNat_of_nonneg b1]
  exact ⟨a2 L R e1 e2, by omega⟩
theorem LenS.bad {s : Option (List UInt8)} {n : Int} {R : List UInt8} (h : Stp numE b64 s n (some R)) (hb : n < 0 ∨ (R.length : Int) < n) : LenS s 0 none := by
  obtain ⟨a0, a1, a2, a3⟩ := h
  refine ⟨fun _ => rfl, fun _ => rfl, (fun L R' _ e => by cases e), fun L e1 _ m S hm e => ?_⟩
  have e3 := a2 L R e1 rfl
  rw [e3] at e
  obtain ⟨e4, e5⟩ := numE_uniq e
  subst e5
  omega
end
end Go.Proofs.YtmipbaihlodmdaaDoor
