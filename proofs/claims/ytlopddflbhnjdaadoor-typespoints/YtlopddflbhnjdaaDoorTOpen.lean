/-
  A program that came in, opened (out of COpen).
-/
import Derived.Test.YtlopddflbhnjdaaDoorIOpn
import Derived.Test.YtlopddflbhnjdaaDoorTFun
namespace Go.Proofs.YtlopddflbhnjdaaDoor
open Go.ChangeShapes Go.WideShapes Go.ChangeAt Go.RowKit

section
variable {H : Type} {enc : TypeId × Value → H} {w : World} {spare : Nat → Bool} {held : Bool} {G : TypeId → DataW H → Prop} {N : Nat}
/-- Each instruction's arguments are at most N. -/
def FewI (N : Nat) (x : In8) : Prop := x.args.length ≤ N
def FewB (N : Nat) (x : Bl8) : Prop := ∀ (j : Nat) (y : In8), x.code[j]? = some y → FewI N y
def FewF (N : Nat) (x : Fu8) : Prop := ∀ (j : Nat) (y : Bl8), x.blocks[j]? = some y → FewB N y
def FewP (N : Nat) (x : Pr8) : Prop := (∀ (j : Nat) (y : List (Int × Int)), x.recs[j]? = some y → y.length ≤ N) ∧ (∀ (j : Nat) (y : List (Int × Int) × Int × Int), x.sigs[j]? = some y → y.1.length ≤ N) ∧ (∀ (j : Nat) (y : List Int), x.ifs[j]? = some y → y.length ≤ N) ∧ (∀ (j : Nat) (y : Int × Int × List Int), x.ims[j]? = some y → y.2.2.length ≤ N) ∧ ∀ (j : Nat) (y : Fu8), x.funcs[j]? = some y → FewF N y

theorem o_int : Opens enc Tryd.prog w spare held G 3 IntC (fun _ => True) := opens_int Tryd.underlying3 (by kernel_rfl)
theorem o_ints (hG : Downs Tryd.prog G) (hN : ∀ elems rest, G 37 (.slice elems rest) → elems.length ≤ N) : Opens enc Tryd.prog w spare held G 37 IntsC (fun l => l.length ≤ N) := opens_few hG hN Tryd.underlying37 (by kernel_rfl) (by decide) (by kernel_rfl) o_int
theorem o_type (hG : Downs Tryd.prog G) : Opens enc Tryd.prog w spare held G 39 TyC (fun _ => True) := by
  intro fuel b o cs x hc h hg
  have F := fields_open hG Tryd.underlying39 hc h hg
  obtain ⟨y0, h0, q0⟩ := F 0 _ rfl (of_decide_eq_true (by kernel_rfl)) o_int
  obtain ⟨y1, h1, q1⟩ := F 1 _ rfl (of_decide_eq_true (by kernel_rfl)) o_int
  exact ⟨(y0, y1), ⟨h0, h1⟩, trivial⟩
theorem o_types (hG : Downs Tryd.prog G) (hT : ∀ elems rest, G 26 (.slice elems rest) → elems.length ≤ N) : Opens enc Tryd.prog w spare held G 26 (SlC 2 TyC) (fun l => l.length ≤ N) := opens_few hG hT Tryd.underlying26 (by kernel_rfl) (by decide) (by kernel_rfl) (o_type hG)
theorem o_instr (hG : Downs Tryd.prog G) (hN : ∀ elems rest, G 37 (.slice elems rest) → elems.length ≤ N) : Opens enc Tryd.prog w spare held G 54 InC (FewI N) := by
  intro fuel b o cs x hc h hg
  have F := fields_open hG Tryd.underlying54 hc h hg
  obtain ⟨y0, h0, q0⟩ := F 0 _ rfl (of_decide_eq_true (by kernel_rfl)) o_int
  obtain ⟨y1, h1, q1⟩ := F 1 _ rfl (of_decide_eq_true (by kernel_rfl)) o_int
  obtain ⟨y2, h2, q2⟩ := F 2 _ rfl (of_decide_eq_true (by kernel_rfl)) o_int
  obtain ⟨y3, h3, q3⟩ := F 3 _ rfl (of_decide_eq_true (by kernel_rfl)) o_int
  obtain ⟨y4, h4, q4⟩ := F 4 _ rfl (of_decide_eq_true (by kernel_rfl)) o_int
  obtain ⟨y5, h5, q5⟩ := F 5 _ rfl (of_decide_eq_true (by kernel_rfl)) (o_ints hG hN)
  exact ⟨⟨y0, y1, y2, y3, y4, y5⟩, ⟨h0, h1, h2, h3, h4, h5⟩, q5⟩
theorem o_instrs (hG : Downs Tryd.prog G) (hN : ∀ elems rest, G 37 (.slice elems rest) → elems.length ≤ N) : Opens enc Tryd.prog w spare held G 42 (SlC 6 InC) (fun l => ∀ (j : Nat) (y : In8), l[j]? = some y → FewI N y) := opens_slice hG Tryd.underlying42 (by kernel_rfl) (by decide) (by kernel_rfl) (o_instr hG hN)
theorem o_block (hG : Downs Tryd.prog G) (hN : ∀ elems rest, G 37 (.slice elems rest) → elems.length ≤ N) : Opens enc Tryd.prog w spare held G 44 BlC (FewB N) := by
  intro fuel b o cs x hc h hg
  have F := fields_open hG Tryd.underlying44 hc h hg
  obtain ⟨y0, h0, q0⟩ := F 0 _ rfl (of_decide_eq_true (by kernel_rfl)) (o_instrs hG hN)
  obtain ⟨y1, h1, q1⟩ := F 1 _ rfl (of_decide_eq_true (by kernel_rfl)) o_int
  obtain ⟨y2, h2, q2⟩ := F 2 _ rfl (of_decide_eq_true (by kernel_rfl)) o_int
  obtain ⟨y3, h3, q3⟩ := F 3 _ rfl (of_decide_eq_true (by kernel_rfl)) o_int
  obtain ⟨y4, h4, q4⟩ := F 4 _ rfl (of_decide_eq_true (by kernel_rfl)) o_int
  exact ⟨⟨y0, y1, y2, y3, y4⟩, ⟨h0, h1, h2, h3, h4⟩, q0⟩
theorem o_blocks (hG : Downs Tryd.prog G) (hN : ∀ elems rest, G 37 (.slice elems rest) → elems.length ≤ N) : Opens enc Tryd.prog w spare held G 27 (SlC 5 BlC) (fun l => ∀ (j : Nat) (y : Bl8), l[j]? = some y → FewB N y) := opens_slice hG Tryd.underlying27 (by kernel_rfl) (by decide) (by kernel_rfl) (o_block hG hN)
theorem o_func (hG : Downs Tryd.prog G) (hN : ∀ elems rest, G 37 (.slice elems rest) → elems.length ≤ N) (hT : ∀ elems rest, G 26 (.slice elems rest) → elems.length ≤ N) : Opens enc Tryd.prog w spare held G 29 FuC (FewF N) := by
  intro fuel b o cs x hc h hg
  have F := fields_open hG Tryd.underlying29 hc h hg
  obtain ⟨y0, h0, q0⟩ := F 0 _ rfl (of_decide_eq_true (by kernel_rfl)) o_int
  obtain ⟨y1, h1, q1⟩ := F 1 _ rfl (of_decide_eq_true (by kernel_rfl)) (o_types hG hT)
  obtain ⟨y2, h2, q2⟩ := F 2 _ rfl (of_decide_eq_true (by kernel_rfl)) (o_blocks hG hN)
  exact ⟨⟨y0, y1, y2⟩, ⟨h0, h1, h2⟩, q2⟩
theorem o_funcs (hG : Downs Tryd.prog G) (hN : ∀ elems rest, G 37 (.slice elems rest) → elems.length ≤ N) (hT : ∀ elems rest, G 26 (.slice elems rest) → elems.length ≤ N) : Opens enc Tryd.prog w spare held G 34 (SlC 3 FuC) (fun l => ∀ (j : Nat) (y : Fu8), l[j]? = some y → FewF N y) := opens_slice hG Tryd.underlying34 (by kernel_rfl) (by decide) (by kernel_rfl) (o_func hG hN hT)
theorem o_sig (hG : Downs Tryd.prog G) (hT : ∀ elems rest, G 26 (.slice elems rest) → elems.length ≤ N) : Opens enc Tryd.prog w spare held G 41 SgC (fun x => x.1.length ≤ N) := by
  intro fuel b o cs x hc h hg
  have F := fields_open hG Tryd.underlying41 hc h hg
  obtain ⟨y0, h0, q0⟩ := F 0 _ rfl (of_decide_eq_true (by kernel_rfl)) (o_types hG hT)
  obtain ⟨y1, h1, _⟩ := F 1 _ rfl (of_decide_eq_true (by kernel_rfl)) (o_type hG)
  exact ⟨(y0, y1.1, y1.2), ⟨h0, h1.c0, h1.c1⟩, q0⟩
theorem o_iface (hG : Downs Tryd.prog G) (hN : ∀ elems rest, G 37 (.slice elems rest) → elems.length ≤ N) : Opens enc Tryd.prog w spare held G 61 IntsC (fun x => x.length ≤ N) := by
  intro fuel b o cs x hc h hg
  have F := fields_open hG Tryd.underlying61 hc h hg
  obtain ⟨y0, h0, q0⟩ := F 0 _ rfl (of_decide_eq_true (by kernel_rfl)) (o_ints hG hN)
  exact ⟨y0, h0, q0⟩
theorem o_impl (hG : Downs Tryd.prog G) (hN : ∀ elems rest, G 37 (.slice elems rest) → elems.length ≤ N) : Opens enc Tryd.prog w spare held G 63 ImC (fun x => x.2.2.length ≤ N) := by
  intro fuel b o cs x hc h hg
  have F := fields_open hG Tryd.underlying63 hc h hg
  obtain ⟨y0, h0, _⟩ := F 0 _ rfl (of_decide_eq_true (by kernel_rfl)) o_int
  obtain ⟨y1, h1, _⟩ := F 1 _ rfl (of_decide_eq_true (by kernel_rfl)) o_int
  obtain ⟨y2, h2, q2⟩ := F 2 _ rfl (of_decide_eq_true (by kernel_rfl)) (o_ints hG hN)
  exact ⟨(y0, y1, y2), ⟨h0, h1, h2⟩, q2⟩
theorem o_prog (hG : Downs Tryd.prog G) (hN : ∀ elems rest, G 37 (.slice elems rest) → elems.length ≤ N) (hT : ∀ elems rest, G 26 (.slice elems rest) → elems.length ≤ N) : Opens enc Tryd.prog w spare held G 36 PrC (FewP N) := by
  intro fuel b o cs x hc h hg
  have F := fields_open hG Tryd.underlying36 hc h hg
  obtain ⟨y0, h0, q0⟩ := F 0 _ rfl (of_decide_eq_true (by kernel_rfl)) (opens_slice (c := 1) hG Tryd.underlying30 (by kernel_rfl) (by decide) (by kernel_rfl) (o_types hG hT))
  obtain ⟨y1, h1, q1⟩ := F 1 _ rfl (of_decide_eq_true (by kernel_rfl)) (opens_slice (c := 3) hG Tryd.underlying31 (by kernel_rfl) (by decide) (by kernel_rfl) (o_sig hG hT))
  obtain ⟨y2, h2, q2⟩ := F 2 _ rfl (of_decide_eq_true (by kernel_rfl)) (opens_slice (c := 1) hG Tryd.underlying32 (by kernel_rfl) (by decide) (by kernel_rfl) (o_iface hG hN))
  obtain ⟨y3, h3, q3⟩ := F 3 _ rfl (of_decide_eq_true (by kernel_rfl)) (opens_slice (c := 3) hG Tryd.underlying33 (by kernel_rfl) (by decide) (by kernel_rfl) (o_impl hG hN))
  obtain ⟨y4, h4, q4⟩ := F 4 _ rfl (of_decide_eq_true (by kernel_rfl)) (o_funcs hG hN hT)
  obtain ⟨y5, h5, _⟩ := F 5 _ rfl (of_decide_eq_true (by kernel_rfl)) o_int
  exact ⟨⟨y0, y1, y2, y3, y4, y5⟩, ⟨h0, h1, h2, h3, h4, h5⟩, q0, q1, q2, q3, q4⟩

/-- A pointer to a program, or none. -/
def ProgAt (N : Nat) (W : World) (v : Value) : Prop := v = .pointer none ∨ ∃ b o P, v = .pointer (some ⟨b, o, none⟩) ∧ PrC W b o P ∧ FewP N P
set_option maxRecDepth 100000 in
theorem prog_at (hG : Downs Tryd.prog G) (hN : ∀ elems rest, G 37 (.slice elems rest) → elems.length ≤ N) (hT : ∀ elems rest, G 26 (.slice elems rest) → elems.length ≤ N) {r : Reach} {b0 : Nat} {v : Value} {d : DataW H} {p : List MemPlace} (hval : Value.okWide Tryd.prog w r b0 23 v)
    (h : ∃ fuel, DataW.trod enc Tryd.prog w 0 spare held fuel 23 v.cells.toList = some (d, p)) (hg : G 23 d) : ProgAt N w v := by
  obtain ⟨a, rfl⟩ := okWide_pointer Tryd.underlying23 hval
  obtain ⟨fuel, hf⟩ := h
  rcases DataW.trod_pointer Tryd.underlying23 hf with ⟨h1, _⟩ | ⟨a', cs', y, n, _, h1, h2, h3, h4⟩
  · simp [Value.cells] at h1
    exact .inl (by rw [h1])
  · simp [Value.cells] at h1
    subst h1
    obtain ⟨_, g5, g6⟩ := World.cells?_some h3
    have hc6 : Tryd.prog.cellsOf 36 = 6 := by kernel_rfl
    obtain ⟨b, o, spot⟩ := a'
    have g2 := g6 0 (by rw [hc6]; omega)
    rw [List.getElem?_eq_getElem (by rw [g5, hc6]; omega)] at g2
    have hspot : spot = none := by simpa [Addr.add] using World.cell?_spot g2
    subst hspot
    have hd : d = .ptr y.1 := congrArg Prod.fst h2
    rw [hd] at hg
    obtain ⟨P, q1, q2⟩ := o_prog hG hN hT n b o cs' y (fun i hi => by
      have := g6 i hi
      rw [add_plain] at this
      exact this) h4 (hG.ptr Tryd.underlying23 hg)
    exact .inr ⟨b, o, P, rfl, q1, q2⟩
end

/-- No bound: it goes down. -/
theorem downs_true {H : Type} {P : Program} : Downs P (fun (_ : TypeId) (_ : DataW H) => True) := ⟨fun _ _ _ => trivial, fun _ _ _ _ => trivial, fun _ _ => trivial⟩
theorem bulk_mem {H : Type} {d : DataW H} : ∀ {l : List (DataW H)}, d ∈ l → Rows.uptoBulk d ≤ Rows.uptoBulkAll l
  | x :: r, h => by
    rw [Rows.uptoBulkAll]
    rcases List.mem_cons.1 h with rfl | h
    · omega
    · have := bulk_mem h
      omega
theorem bulk_pos {H : Type} : ∀ (d : DataW H), 1 ≤ Rows.uptoBulk d
  | .lit (.string _) => by rw [Rows.uptoBulk]; omega
  | .lit (.bool _) => Nat.le_refl _
  | .lit (.int _ _) => Nat.le_refl _
  | .lit _ => by unfold Rows.uptoBulk; split <;> first | omega | simp
  | .nil => Nat.le_refl _
  | .ptr _ => by rw [Rows.uptoBulk]; omega
  | .slice _ _ => by rw [Rows.uptoBulk]; omega
  | .agg _ => by rw [Rows.uptoBulk]; omega
  | .iface _ _ => by rw [Rows.uptoBulk]; omega
  | .map _ => by rw [Rows.uptoBulk]; omega
  | .held _ => Nat.le_refl _
theorem bulk_len {H : Type} : ∀ (l : List (DataW H)), l.length ≤ Rows.uptoBulkAll l
  | [] => Nat.zero_le _
  | d :: r => by
    have h1 := bulk_pos d
    have h2 := bulk_len r
    rw [Rows.uptoBulkAll, List.length_cons]
    omega
theorem downs_bulk {H : Type} {P : Program} {N : Nat} : Downs P (fun (_ : TypeId) (d : DataW H) => Rows.uptoBulk d ≤ N) := by
  constructor
  · intro t e elems rest d _ h hd
    rw [Rows.uptoBulk] at h
    have := bulk_mem hd
    omega
  · intro t fs parts i f d _ h _ hd
    rw [Rows.uptoBulk] at h
    have := bulk_mem (List.mem_of_getElem? hd)
    omega
  · intro t e d _ h
    rw [Rows.uptoBulk] at h
    omega
set_option maxRecDepth 100000 in
theorem prog_open_upto {H : Type} {enc : TypeId × Value → H} {w : World} {spare : Nat → Bool} {held : Bool} {r : Reach} {b0 : Nat} {v : Value} {d : DataW H} {p : List MemPlace} (hval : Value.okWide Tryd.prog w r b0 23 v)
    (h : ∃ fuel, DataW.trod enc Tryd.prog w 0 spare held fuel 23 v.cells.toList = some (d, p)) (hb : Rows.uptoBulk d ≤ 1048576) : ProgAt 1048576 w v :=
  prog_at (G := fun (_ : TypeId) (d : DataW H) => Rows.uptoBulk d ≤ 1048576) (N := 1048576) downs_bulk (fun elems rest hh => by
    rw [Rows.uptoBulk] at hh
    have := bulk_len elems
    omega) (fun elems rest hh => by
    rw [Rows.uptoBulk] at hh
    have := bulk_len elems
    omega) hval h hb
theorem weights_all {H : Type} {P : Program} {e : TypeId} {d : DataW H} : ∀ {l : List (DataW H)}, d ∈ l → ∀ n, n ∈ d.weights P e → n ∈ DataW.weightsAll P e l
  | x :: r, h, n, hn => by
    rw [DataW.weightsAll]
    rcases List.mem_cons.1 h with rfl | h
    · exact List.mem_append_left _ hn
    · exact List.mem_append_right _ (weights_all h n hn)
/-- Nothing that is read takes more than the form's reach. -/
theorem downs_sized {H : Type} {P : Program} : Downs P (fun (t : TypeId) (d : DataW H) => ∀ n, n ∈ d.weights P t → n ≤ reachBytes) := by
  constructor
  · intro t e elems rest d ht h hd n hn
    refine h n ?_
    rw [DataW.weights]
    simp only [ht]
    exact List.mem_cons_of_mem _ (List.mem_append_left _ (weights_all hd n hn))
  · intro t fs parts i f d ht h hf hd n hn
    refine h n ?_
    rw [DataW.weights]
    simp only [ht]
    refine DataW.weights_mem_each (j := i) (t := f.type) (d := d) ?_ hd n hn
    rw [List.getElem?_map, Array.getElem?_toList, hf]
    rfl
  · intro t e d ht h n hn
    refine h n ?_
    rw [DataW.weights]
    simp only [ht]
    exact hn
set_option maxRecDepth 100000 in
theorem prog_open {H : Type} {enc : TypeId × Value → H} {w : World} {spare : Nat → Bool} {held : Bool} {r : Reach} {b0 : Nat} {v : Value} {d : DataW H} {p : List MemPlace} (hval : Value.okWide Tryd.prog w r b0 23 v)
    (h : ∃ fuel, DataW.trod enc Tryd.prog w 0 spare held fuel 23 v.cells.toList = some (d, p)) (hb : ∀ n, n ∈ d.weights Tryd.prog 23 → n ≤ reachBytes) : ProgAt 17592186044416 w v :=
  prog_at (G := fun (t : TypeId) (d : DataW H) => ∀ n, n ∈ d.weights Tryd.prog t → n ≤ reachBytes) (N := 17592186044416) downs_sized (fun elems rest hh => by
    have h1 := hh ((elems.length + rest.length) * Tryd.prog.bytesOf 3) (by
      rw [DataW.weights]
      simp only [Tryd.underlying37]
      exact List.mem_cons_self ..)
    have h8 : Tryd.prog.bytesOf 3 = 8 := by kernel_rfl
    rw [h8] at h1
    have hr : reachBytes = 140737488351232 := by decide
    rw [hr] at h1
    omega) (fun elems rest hh => by
    have h1 := hh ((elems.length + rest.length) * Tryd.prog.bytesOf 39) (by
      rw [DataW.weights]
      simp only [Tryd.underlying26]
      exact List.mem_cons_self ..)
    have h8 : Tryd.prog.bytesOf 39 = 16 := by kernel_rfl
    rw [h8] at h1
    have hr : reachBytes = 140737488351232 := by decide
    rw [hr] at h1
    omega) hval h hb

end Go.Proofs.YtlopddflbhnjdaaDoor
