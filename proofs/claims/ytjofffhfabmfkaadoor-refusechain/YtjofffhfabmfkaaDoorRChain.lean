/-
  refuse.Chain: the reasons of all refusals of a chain, the outer one first.
-/
import Derived.Test.YtjofffhfabmfkaaDoorRTold
import Derived.OwnWalk
namespace Go.Proofs.YtjofffhfabmfkaaDoor
open Go.RowKit

def nums (l : List Int) : List Value := l.map (Value.int .i64)

/-- The reasons of a chain's refusals. -/
def whys : List Lk → List Int
  | [] => []
  | Sum.inl (_, y, _, _, _) :: r => y :: whys r
  | Sum.inr (_, _) :: r => whys r

theorem whys_none : ∀ {l : List Lk}, firstP l = none → whys l = []
  | [], _ => rfl
  | Sum.inr (_, _) :: r, h => whys_none (l := r) h
theorem whys_le : ∀ l : List Lk, (whys l).length ≤ l.length
  | [] => by simp [whys]
  | Sum.inl (_, _, _, _, _) :: r => by have := whys_le r; simp [whys]; omega
  | Sum.inr (_, _) :: r => by have := whys_le r; simp [whys]; omega
theorem whys_some : ∀ {l : List Lk} {w : World} {a : Addr}, ChainAt w l → Falls l → firstP l = some a →
    ∃ p y f b i r, a = ⟨p, 0, none⟩ ∧ whys l = y :: whys r ∧ ChainAt w (.ref p y f b i :: r) ∧ Falls (.ref p y f b i :: r) ∧ (∀ z, z ∈ .ref p y f b i :: r → z ∈ l)
  | Sum.inl (p, y, f, b, i) :: r, w, a, hc, hF, h => ⟨p, y, f, b, i, r, by simpa [firstP] using h.symm, rfl, hc, hF, fun _ hz => hz⟩
  | Sum.inr (_, _) :: r, w, a, hc, hF, h => by
    obtain ⟨p, y, f, b, i, r', h1, h2, h3, h4, h5⟩ := whys_some (l := r) hc.2 hF.2 h
    exact ⟨p, y, f, b, i, r', h1, h2, h3, h4, fun z hz => List.mem_cons_of_mem _ (h5 z hz)⟩
theorem firstP_mem : ∀ {l : List Lk} {a : Addr}, firstP l = some a → ∃ z, z ∈ l ∧ a.block = z.at
  | Sum.inl (p, y, f, b, i) :: r, a, h => ⟨_, List.mem_cons_self .., by simp only [firstP, Option.some.injEq] at h; rw [← h]; rfl⟩
  | Sum.inr (_, _) :: r, a, h => by
    obtain ⟨z, hz, e⟩ := firstP_mem (l := r) h
    exact ⟨z, List.mem_cons_of_mem _ hz, e⟩

def downP : Value → Nat
  | .pointer (some a) => a.block + 1
  | _ => 0

theorem down_next {p : Nat} {y f b i : Int} {r : List Lk} (h : Falls (.ref p y f b i :: r)) : downP (.pointer (firstP r)) < downP (.pointer (some ⟨p, 0, none⟩)) := by
  cases hp : firstP r with
  | none => simp [downP]
  | some a =>
    obtain ⟨z, hz, e⟩ := firstP_mem hp
    have := h.1 z hz
    simp only [downP, e]
    show z.at + 1 < p + 1
    have : z.at < p := this
    omega

structure ChainSt (w wr : World) (M : Nat) (l l' : List Lk) (done : List Int) (ks : List Nat) (lv : Value) : Prop where
  own : wr.ownsRow w.heap.size 3 1 lv done.length (nums done)
  told : ToldAt wr M ks
  keep : Keeps [] w wr
  chain : ChainAt w l'
  falls : Falls l'
  split : whys l = done ++ whys l'
  apart : ∀ q, q ∈ ks → q < w.heap.size ∧ ∀ y, y ∈ l' → y.at < q

theorem zero_int : Tryd.t3.zero = some (.int .i64 0) := by kernel_rfl
theorem size_int : Tryd.t3.size = 1 := by kernel_rfl
theorem bytes_int : Tryd.t3.bytes = 8 := by kernel_rfl
theorem info_int : Tryd.prog.info? 3 = some Tryd.t3 := by kernel_rfl
theorem under_ints : Tryd.prog.underlying 26 = some (.slice 3) := by kernel_rfl

theorem owns_keep {w w' : World} {L : List Nat} {base : Nat} {e : TypeId} {s : Nat} {v : Value} {n : Nat} {xs : List Value} (h : w.ownsRow base e s v n xs) (k : Keeps L w w') (hn : ∀ g, v.ownBlock = some g → g ∉ L) : w'.ownsRow base e s v n xs := by
  refine ⟨h.1, ?_⟩
  rcases h.2 with h0 | ⟨g, cap, cur, rfl, hbg, hgg, hr⟩
  · exact Or.inl h0
  · exact Or.inr ⟨g, cap, cur, rfl, hbg, (k.block g (heap_lt hgg) (hn g (by simp [Value.ownBlock]))).trans hgg, hr⟩

set_option maxHeartbeats 4000000 in
theorem chain_any (l : List Lk) (w : World) (hg : Glob w) (hc : ChainAt w l) (hF : Falls l) (hl : l.length ≤ 1000) :
    Calls Tryd.prog 10 #[headV l] w fun e w' => ∃ v, e = .returned v ∧ w'.ownsRow w.heap.size 3 1 v (whys l).length (nums (whys l)) ∧ Keeps [] w w' := by
  have HN := hid fun (l' : List Lk) (w' : World) (k : Keeps [] w w') (c : ChainAt w l') (f : Falls l') => next_any l' w' (hg.quiet k) (c.quiet k) f
  have ka := Keeps.alloc [] w (.map #[] 0)
  have h0 := hid (HN.out l _ ka hc hF)
  have hst : Box (∀ w1, Keeps [] (w.alloc (.map #[] 0)) w1 → ChainSt w w1 w.heap.size l l [] [] (.slice none 0 0)) := hid fun w1 k1 =>
    ⟨⟨rfl, Or.inl ⟨rfl, rfl⟩⟩, (ToldAt.made w).kept k1 (by simp) (by simp), ka.step k1, hc, hF, rfl, fun _ h => by cases h⟩
  have hwl := whys_le l
  clear hc hF hg ka
  have hmk : ∀ w, (Instr.makeMap 58 none).run Tryd.prog w = .ok (.map (some w.heap.size)) (w.alloc (.map #[] 0)) := fun w => by kernel_rfl
  generalize headV l = v at *
  go_enter Tryd.func10, Tryd.ntmps10
  go_wp2_with (go_at_call 25; refine h0.out.mono ?_; rintro e w1 ⟨rfl, hk1⟩; have HS := hid (hst.out w1 hk1); clear hk1)
  go_loopw [3, 5] (fun lv x wr => ∃ l' done ks, x = .pointer (firstP l') ∧ Box (ChainSt w wr w.heap.size l l' done ks lv)) (fun _ x _ => downP x)
  case atStart => exact ⟨l, [], [], rfl, HS⟩
  case round =>
    clear HS hst h0
    obtain ⟨l', done, ks, rfl, hb⟩ := hrel
    cases hp : firstP l' with
    | none =>
      have he := hid (whys_none hp)
      clear hp
      go_wp2
      go_ret
      have hs := hb.out.split
      rw [he.out, List.append_nil] at hs
      refine ⟨_, rfl, ?_, hb.out.keep⟩
      rw [hs]
      exact hb.out.own
    | some a =>
      obtain ⟨p, y, f, b, i, r, rfl, hy, hcr, hFr, hsub⟩ := whys_some hb.out.chain hb.out.falls hp
      have hM := hid (down_next hFr)
      have hne : ∀ q, q ∈ ks → p ≠ q := fun q hq e => by
        have := (hb.out.apart q hq).2 _ (hsub _ (List.mem_cons_self ..))
        have : p < q := this
        omega
      have hp0 := hcr.1
      have hpl := heap_lt hp0
      have hpr := (hb.out.keep.block p hpl (by simp)).trans hp0
      have hlook := hb.out.told.look hpr hne
      have k2 := Keeps.alloc [] wr (.cells #[] 60)
      obtain ⟨w3, hput, ht3, k3⟩ := (hb.out.told.kept k2 (by simp) (by simp)).put ((k2.block p (heap_lt hpr) (by simp)).trans hpr) hne
      have hMl : w.heap.size < wr.heap.size := by obtain ⟨es, cl, hh, _⟩ := hb.out.told.heap; exact heap_lt hh
      have k03 : Keeps [] w w3 := (hb.out.keep.step k2).trans k3 (fun x hx hlx => by simp at hx; omega)
      have hp3 := (k03.block p hpl (by simp)).trans hp0
      have c0 := pcell hp3 0
      have hown3 : w3.ownsRow w.heap.size 3 1 u3 done.length (nums done) := by
        refine owns_keep (owns_keep hb.out.own k2 (by simp)) k3 fun g hg hm => ?_
        obtain rfl := List.mem_singleton.1 hm
        obtain ⟨es, cl, hh, _⟩ := hb.out.told.heap
        rcases hb.out.own.2 with ⟨e, _⟩ | ⟨g, cap, cur, e, hbg, hgg, _⟩
        · rw [e] at hg; simp [Value.ownBlock] at hg
        · rw [e] at hg
          simp [Value.ownBlock] at hg
          subst hg
          rw [hh] at hgg
          cases hgg
      have hlen : done.length + 1 ≤ 1000 := by
        have hs := hb.out.split
        rw [hy] at hs
        have := congrArg List.length hs
        simp at this
        omega
      have HX := hid (show True ∧ whys l' = y :: whys r ∧ ChainAt w (.ref p y f b i :: r) ∧ Falls (.ref p y f b i :: r) ∧ (∀ z, z ∈ .ref p y f b i :: r → z ∈ l') from ⟨trivial, hy, hcr, hFr, hsub⟩)
      have HT := hid ht3
      have HK := hid k03
      have HP0 := hid hp0
      clear hp0 hy hcr hFr hsub hpr hp3 ht3 k03 k2 k3 hp hne
      obtain ⟨n, hn⟩ : ∃ n, n = done.length := ⟨_, rfl⟩
      have HO : Box (w3.ownsRow w.heap.size 3 1 u3 n (nums done)) := hid (by rw [hn]; exact hown3)
      have HLen : Box (n + 1 ≤ 1000) := hid (by omega)
      have HN' := hid hn
      clear hlen hl hwl hMl hpl hown3 hn
      go_wp2_with (first
        | (at_builtin; refine wpList_append_own _ rfl _ _ 26 rfl w.heap.size 3 Tryd.t3 (.int .i64 0) 1 8 under_ints info_int zero_int size_int bytes_int rfl (by decide) _ _ _ rfl (HO.out.alloc _) ⟨w3.heap.size, 0, none⟩ 1 1 [.int .i64 y] rfl rfl (cell_one_new _ _ _) (fun x hx => by simp at hx; subst hx; rfl) (by have := HLen.out; unfold maxLen; omega) (by have := HLen.out; omega) (by have := HK.out.size; simp; omega) ?_; intro v' w5 hown5 hgrow5 hnil5; have HG5 := hid hgrow5; have HO5 := hid hown5; have K5 := hid ((HK.out.step (Keeps.alloc [] w3 (Obj.cells #[.int .i64 y] 3))).appended HO.out hgrow5 (Nat.le_refl _)); have hp5 := (K5.out.block p (heap_lt HP0.out) (by simp)).trans HP0.out; have d0 := pcell hp5 0; have d4 := pcell hp5 4; clear hgrow5 hown5 hnil5 hp5)
        | (go_at_call 25; refine (HN.out r _ K5.out HX.out.2.2.1.2 HX.out.2.2.2.1.2).mono ?_; rintro e w6 ⟨rfl, hk6⟩; have HK6 := hid hk6; clear hk6))
      go_roundw
      case rel =>
        refine ⟨r, done ++ [y], ks ++ [p], rfl, hid ?_⟩
        have hg4 := (Keeps.alloc [] w3 (Obj.cells #[.int .i64 y] 3))
        have hg5' : (w3.alloc (Obj.cells #[.int .i64 y] 3)).grownBy w5 u3.ownBlock := HG5.out
        have hg5 := Keeps.grown (Option.toList u3.ownBlock) hg5' (fun k hk => by rw [hk]; simp)
        have hfar : ∀ q, q ∈ Option.toList u3.ownBlock → w.heap.size ≤ q ∧ ∃ cs T, w3.heap[q]? = some (.cells cs T (0, 0)) := by
          intro q hq
          rcases HO.out.2 with ⟨rfl, _⟩ | ⟨g, cap, cur, rfl, hbg, hgg, _⟩
          · simp [Value.ownBlock] at hq
          · simp [Value.ownBlock] at hq
            subst hq
            exact ⟨hbg, cur, _, hgg⟩
        have hapart : ∀ q, q ∈ ks ++ [p] → q < w.heap.size ∧ ∀ z, z ∈ r → z.at < q := by
          intro q hq
          rcases List.mem_append.1 hq with hq | hq
          · exact ⟨(hb.out.apart q hq).1, fun z hz => (hb.out.apart q hq).2 z (HX.out.2.2.2.2 z (List.mem_cons_of_mem _ hz))⟩
          · obtain rfl := List.mem_singleton.1 hq
            exact ⟨heap_lt HP0.out, HX.out.2.2.2.1.1⟩
        refine ⟨?_, ?_, K5.out.step HK6.out, HX.out.2.2.1.2, HX.out.2.2.2.1.2, ?_, hapart⟩
        · have e1 : (done ++ [y]).length = n + 1 := by rw [List.length_append, HN'.out]; rfl
          have e2 : nums (done ++ [y]) = nums done ++ [.int .i64 y] := by simp [nums]
          rw [e1, e2]
          exact owns_keep HO5.out HK6.out (by simp)
        · refine ((HT.out.kept hg4 (by simp) (by simp)).kept hg5 ?_ ?_).kept HK6.out (by simp) (by simp)
          · intro hm
            obtain ⟨_, cs, T, hcs⟩ := hfar _ hm
            obtain ⟨es, cl, hh, _⟩ := HT.out.heap
            rw [hh] at hcs
            cases hcs
          · intro q hq hm
            have := (hfar _ hm).1
            have := (hapart q hq).1
            omega
        · rw [hb.out.split, HX.out.2.1]
          simp
      case measure => exact hM.out
end Go.Proofs.YtjofffhfabmfkaaDoor
