/-
  A program, an instruction, a point that came in, opened.
-/
import Derived.Test.YtknkjblifgppjaaDoorIOpn
import Derived.Test.YtknkjblifgppjaaDoorIPrt
namespace Go.Proofs.YtknkjblifgppjaaDoor
open Go.ChangeShapes Go.WideShapes Go.ChangeAt Go.RowKit

section
variable {H : Type} {enc : TypeId × Value → H} {w : World} {spare : Nat → Bool} {held : Bool} {G : TypeId → DataW H → Prop} {N : Nat}
/-- Each instruction's arguments are at most N. -/
def FewI (N : Nat) (x : In8) : Prop := x.args.length ≤ N
def FewB (N : Nat) (x : Bl8) : Prop := ∀ (j : Nat) (y : In8), x.code[j]? = some y → FewI N y
def FewF (N : Nat) (x : Fu8) : Prop := ∀ (j : Nat) (y : Bl8), x.blocks[j]? = some y → FewB N y
def FewP (N : Nat) (x : Pr8) : Prop := ∀ (j : Nat) (y : Fu8), x.funcs[j]? = some y → FewF N y

theorem o_int : Opens enc Tryd.prog w spare held G 3 IntC (fun _ => True) := opens_int Tryd.underlying3 (by kernel_rfl)
theorem o_ints (hG : Downs Tryd.prog G) (hN : ∀ elems rest, G 32 (.slice elems rest) → elems.length ≤ N) : Opens enc Tryd.prog w spare held G 32 IntsC (fun l => l.length ≤ N) := opens_few hG hN Tryd.underlying32 (by kernel_rfl) (by decide) (by kernel_rfl) o_int
theorem o_type (hG : Downs Tryd.prog G) : Opens enc Tryd.prog w spare held G 124 TyC (fun _ => True) := by
  intro fuel b o cs x hc h hg
  have F := fields_open hG Tryd.underlying124 hc h hg
  obtain ⟨y0, h0, q0⟩ := F 0 _ rfl (of_decide_eq_true (by kernel_rfl)) o_int
  obtain ⟨y1, h1, q1⟩ := F 1 _ rfl (of_decide_eq_true (by kernel_rfl)) o_int
  exact ⟨(y0, y1), ⟨h0, h1⟩, trivial⟩
theorem o_types (hG : Downs Tryd.prog G) : Opens enc Tryd.prog w spare held G 57 (SlC 2 TyC) (fun l => ∀ (j : Nat) (y : Int × Int), l[j]? = some y → True) := opens_slice hG Tryd.underlying57 (by kernel_rfl) (by decide) (by kernel_rfl) (o_type hG)
theorem o_instr (hG : Downs Tryd.prog G) (hN : ∀ elems rest, G 32 (.slice elems rest) → elems.length ≤ N) : Opens enc Tryd.prog w spare held G 34 InC (FewI N) := by
  intro fuel b o cs x hc h hg
  have F := fields_open hG Tryd.underlying34 hc h hg
  obtain ⟨y0, h0, q0⟩ := F 0 _ rfl (of_decide_eq_true (by kernel_rfl)) o_int
  obtain ⟨y1, h1, q1⟩ := F 1 _ rfl (of_decide_eq_true (by kernel_rfl)) o_int
  obtain ⟨y2, h2, q2⟩ := F 2 _ rfl (of_decide_eq_true (by kernel_rfl)) o_int
  obtain ⟨y3, h3, q3⟩ := F 3 _ rfl (of_decide_eq_true (by kernel_rfl)) o_int
  obtain ⟨y4, h4, q4⟩ := F 4 _ rfl (of_decide_eq_true (by kernel_rfl)) o_int
  obtain ⟨y5, h5, q5⟩ := F 5 _ rfl (of_decide_eq_true (by kernel_rfl)) (o_ints hG hN)
  exact ⟨⟨y0, y1, y2, y3, y4, y5⟩, ⟨h0, h1, h2, h3, h4, h5⟩, q5⟩
theorem o_instrs (hG : Downs Tryd.prog G) (hN : ∀ elems rest, G 32 (.slice elems rest) → elems.length ≤ N) : Opens enc Tryd.prog w spare held G 53 (SlC 6 InC) (fun l => ∀ (j : Nat) (y : In8), l[j]? = some y → FewI N y) := opens_slice hG Tryd.underlying53 (by kernel_rfl) (by decide) (by kernel_rfl) (o_instr hG hN)
theorem o_block (hG : Downs Tryd.prog G) (hN : ∀ elems rest, G 32 (.slice elems rest) → elems.length ≤ N) : Opens enc Tryd.prog w spare held G 55 BlC (FewB N) := by
  intro fuel b o cs x hc h hg
  have F := fields_open hG Tryd.underlying55 hc h hg
  obtain ⟨y0, h0, q0⟩ := F 0 _ rfl (of_decide_eq_true (by kernel_rfl)) (o_instrs hG hN)
  obtain ⟨y1, h1, q1⟩ := F 1 _ rfl (of_decide_eq_true (by kernel_rfl)) o_int
  obtain ⟨y2, h2, q2⟩ := F 2 _ rfl (of_decide_eq_true (by kernel_rfl)) o_int
  obtain ⟨y3, h3, q3⟩ := F 3 _ rfl (of_decide_eq_true (by kernel_rfl)) o_int
  obtain ⟨y4, h4, q4⟩ := F 4 _ rfl (of_decide_eq_true (by kernel_rfl)) o_int
  exact ⟨⟨y0, y1, y2, y3, y4⟩, ⟨h0, h1, h2, h3, h4⟩, q0⟩
theorem o_blocks (hG : Downs Tryd.prog G) (hN : ∀ elems rest, G 32 (.slice elems rest) → elems.length ≤ N) : Opens enc Tryd.prog w spare held G 56 (SlC 5 BlC) (fun l => ∀ (j : Nat) (y : Bl8), l[j]? = some y → FewB N y) := opens_slice hG Tryd.underlying56 (by kernel_rfl) (by decide) (by kernel_rfl) (o_block hG hN)
theorem o_func (hG : Downs Tryd.prog G) (hN : ∀ elems rest, G 32 (.slice elems rest) → elems.length ≤ N) : Opens enc Tryd.prog w spare held G 59 FuC (FewF N) := by
  intro fuel b o cs x hc h hg
  have F := fields_open hG Tryd.underlying59 hc h hg
  obtain ⟨y0, h0, q0⟩ := F 0 _ rfl (of_decide_eq_true (by kernel_rfl)) o_int
  obtain ⟨y1, h1, q1⟩ := F 1 _ rfl (of_decide_eq_true (by kernel_rfl)) (o_types hG)
  obtain ⟨y2, h2, q2⟩ := F 2 _ rfl (of_decide_eq_true (by kernel_rfl)) (o_blocks hG hN)
  exact ⟨⟨y0, y1, y2⟩, ⟨h0, h1, h2⟩, q2⟩
theorem o_funcs (hG : Downs Tryd.prog G) (hN : ∀ elems rest, G 32 (.slice elems rest) → elems.length ≤ N) : Opens enc Tryd.prog w spare held G 50 (SlC 3 FuC) (fun l => ∀ (j : Nat) (y : Fu8), l[j]? = some y → FewF N y) := opens_slice hG Tryd.underlying50 (by kernel_rfl) (by decide) (by kernel_rfl) (o_func hG hN)
theorem o_sig (hG : Downs Tryd.prog G) : Opens enc Tryd.prog w spare held G 126 SgC (fun _ => True) := by
  intro fuel b o cs x hc h hg
  have F := fields_open hG Tryd.underlying126 hc h hg
  obtain ⟨y0, h0, _⟩ := F 0 _ rfl (of_decide_eq_true (by kernel_rfl)) (o_types hG)
  obtain ⟨y1, h1, _⟩ := F 1 _ rfl (of_decide_eq_true (by kernel_rfl)) (o_type hG)
  exact ⟨(y0, y1.1, y1.2), ⟨h0, h1.c0, h1.c1⟩, trivial⟩
theorem o_iface (hG : Downs Tryd.prog G) (hN : ∀ elems rest, G 32 (.slice elems rest) → elems.length ≤ N) : Opens enc Tryd.prog w spare held G 128 IntsC (fun _ => True) := by
  intro fuel b o cs x hc h hg
  have F := fields_open hG Tryd.underlying128 hc h hg
  obtain ⟨y0, h0, _⟩ := F 0 _ rfl (of_decide_eq_true (by kernel_rfl)) (o_ints hG hN)
  exact ⟨y0, h0, trivial⟩
theorem o_impl (hG : Downs Tryd.prog G) (hN : ∀ elems rest, G 32 (.slice elems rest) → elems.length ≤ N) : Opens enc Tryd.prog w spare held G 130 ImC (fun _ => True) := by
  intro fuel b o cs x hc h hg
  have F := fields_open hG Tryd.underlying130 hc h hg
  obtain ⟨y0, h0, _⟩ := F 0 _ rfl (of_decide_eq_true (by kernel_rfl)) o_int
  obtain ⟨y1, h1, _⟩ := F 1 _ rfl (of_decide_eq_true (by kernel_rfl)) o_int
  obtain ⟨y2, h2, _⟩ := F 2 _ rfl (of_decide_eq_true (by kernel_rfl)) (o_ints hG hN)
  exact ⟨(y0, y1, y2), ⟨h0, h1, h2⟩, trivial⟩
theorem o_prog (hG : Downs Tryd.prog G) (hN : ∀ elems rest, G 32 (.slice elems rest) → elems.length ≤ N) : Opens enc Tryd.prog w spare held G 52 PrC (FewP N) := by
  intro fuel b o cs x hc h hg
  have F := fields_open hG Tryd.underlying52 hc h hg
  obtain ⟨y0, h0, _⟩ := F 0 _ rfl (of_decide_eq_true (by kernel_rfl)) (opens_slice (c := 1) hG Tryd.underlying46 (by kernel_rfl) (by decide) (by kernel_rfl) (o_types hG))
  obtain ⟨y1, h1, _⟩ := F 1 _ rfl (of_decide_eq_true (by kernel_rfl)) (opens_slice (c := 3) hG Tryd.underlying47 (by kernel_rfl) (by decide) (by kernel_rfl) (o_sig hG))
  obtain ⟨y2, h2, _⟩ := F 2 _ rfl (of_decide_eq_true (by kernel_rfl)) (opens_slice (c := 1) hG Tryd.underlying48 (by kernel_rfl) (by decide) (by kernel_rfl) (o_iface hG hN))
  obtain ⟨y3, h3, _⟩ := F 3 _ rfl (of_decide_eq_true (by kernel_rfl)) (opens_slice (c := 3) hG Tryd.underlying49 (by kernel_rfl) (by decide) (by kernel_rfl) (o_impl hG hN))
  obtain ⟨y4, h4, q4⟩ := F 4 _ rfl (of_decide_eq_true (by kernel_rfl)) (o_funcs hG hN)
  obtain ⟨y5, h5, _⟩ := F 5 _ rfl (of_decide_eq_true (by kernel_rfl)) o_int
  exact ⟨⟨y0, y1, y2, y3, y4, y5⟩, ⟨h0, h1, h2, h3, h4, h5⟩, q4⟩

/-- A pointer to a program, or none. -/
def ProgAt (N : Nat) (W : World) (v : Value) : Prop := v = .pointer none ∨ ∃ b o P, v = .pointer (some ⟨b, o, none⟩) ∧ PrC W b o P ∧ FewP N P
set_option maxRecDepth 100000 in
theorem prog_at (hG : Downs Tryd.prog G) (hN : ∀ elems rest, G 32 (.slice elems rest) → elems.length ≤ N) {r : Reach} {b0 : Nat} {v : Value} {d : DataW H} {p : List MemPlace} (hval : Value.okWide Tryd.prog w r b0 22 v)
    (h : ∃ fuel, DataW.trod enc Tryd.prog w 0 spare held fuel 22 v.cells.toList = some (d, p)) (hg : G 22 d) : ProgAt N w v := by
  obtain ⟨a, rfl⟩ := okWide_pointer Tryd.underlying22 hval
  obtain ⟨fuel, hf⟩ := h
  rcases DataW.trod_pointer Tryd.underlying22 hf with ⟨h1, _⟩ | ⟨a', cs', y, n, _, h1, h2, h3, h4⟩
  · simp [Value.cells] at h1
    exact .inl (by rw [h1])
  · simp [Value.cells] at h1
    subst h1
    obtain ⟨_, g5, g6⟩ := World.cells?_some h3
    have hc6 : Tryd.prog.cellsOf 52 = 6 := by kernel_rfl
    obtain ⟨b, o, spot⟩ := a'
    have g2 := g6 0 (by rw [hc6]; omega)
    rw [List.getElem?_eq_getElem (by rw [g5, hc6]; omega)] at g2
    have hspot : spot = none := by simpa [Addr.add] using World.cell?_spot g2
    subst hspot
    have hd : d = .ptr y.1 := congrArg Prod.fst h2
    rw [hd] at hg
    obtain ⟨P, q1, q2⟩ := o_prog hG hN n b o cs' y (fun i hi => by
      have := g6 i hi
      rw [add_plain] at this
      exact this) h4 (hG.ptr Tryd.underlying22 hg)
    exact .inr ⟨b, o, P, rfl, q1, q2⟩
end

/-- No bound: it goes down. -/
theorem downs_true {H : Type} {P : Program} : Downs P (fun (_ : TypeId) (_ : DataW H) => True) := ⟨fun _ _ _ => trivial, fun _ _ _ _ => trivial, fun _ _ => trivial⟩
theorem bulk_mem {H : Type} {d : DataW H} : ∀ {l : List (DataW H)}, d ∈ l → Rows.uptoBulk d ≤ Rows.uptoBulkAll l
  | x :: r, h => by
    rw [Rows.uptoBulkAll]
    rcases List.mem_cons.1 h with rfl | h
    · omega
    · have := bulk_mem h
      omega
theorem bulk_pos {H : Type} : ∀ (d : DataW H), 1 ≤ Rows.uptoBulk d
  | .lit (.string _) => by rw [Rows.uptoBulk]; omega
  | .lit (.bool _) => Nat.le_refl _
  | .lit (.int _ _) => Nat.le_refl _
  | .lit _ => by unfold Rows.uptoBulk; split <;> first | omega | simp
  | .nil => Nat.le_refl _
  | .ptr _ => by rw [Rows.uptoBulk]; omega
  | .slice _ _ => by rw [Rows.uptoBulk]; omega
  | .agg _ => by rw [Rows.uptoBulk]; omega
  | .iface _ _ => by rw [Rows.uptoBulk]; omega
  | .map _ => by rw [Rows.uptoBulk]; omega
  | .held _ => Nat.le_refl _
theorem bulk_len {H : Type} : ∀ (l : List (DataW H)), l.length ≤ Rows.uptoBulkAll l
  | [] => Nat.zero_le _
  | d :: r => by
    have h1 := bulk_pos d
    have h2 := bulk_len r
    rw [Rows.uptoBulkAll, List.length_cons]
    omega
theorem downs_bulk {H : Type} {P : Program} {N : Nat} : Downs P (fun (_ : TypeId) (d : DataW H) => Rows.uptoBulk d ≤ N) := by
  constructor
  · intro t e elems rest d _ h hd
    rw [Rows.uptoBulk] at h
    have := bulk_mem hd
    omega
  · intro t fs parts i f d _ h _ hd
    rw [Rows.uptoBulk] at h
    have := bulk_mem (List.mem_of_getElem? hd)
    omega
  · intro t e d _ h
    rw [Rows.uptoBulk] at h
    omega
set_option maxRecDepth 100000 in
theorem prog_open_upto {H : Type} {enc : TypeId × Value → H} {w : World} {spare : Nat → Bool} {held : Bool} {r : Reach} {b0 : Nat} {v : Value} {d : DataW H} {p : List MemPlace} (hval : Value.okWide Tryd.prog w r b0 22 v)
    (h : ∃ fuel, DataW.trod enc Tryd.prog w 0 spare held fuel 22 v.cells.toList = some (d, p)) (hb : Rows.uptoBulk d ≤ 1048576) : ProgAt 1048576 w v :=
  prog_at (G := fun (_ : TypeId) (d : DataW H) => Rows.uptoBulk d ≤ 1048576) (N := 1048576) downs_bulk (fun elems rest hh => by
    rw [Rows.uptoBulk] at hh
    have := bulk_len elems
    omega) hval h hb
theorem weights_all {H : Type} {P : Program} {e : TypeId} {d : DataW H} : ∀ {l : List (DataW H)}, d ∈ l → ∀ n, n ∈ d.weights P e → n ∈ DataW.weightsAll P e l
  | x :: r, h, n, hn => by
    rw [DataW.weightsAll]
    rcases List.mem_cons.1 h with rfl | h
    · exact List.mem_append_left _ hn
    · exact List.mem_append_right _ (weights_all h n hn)
/-- Nothing that is read takes more than the form's reach. -/
theorem downs_sized {H : Type} {P : Program} : Downs P (fun (t : TypeId) (d : DataW H) => ∀ n, n ∈ d.weights P t → n ≤ reachBytes) := by
  constructor
  · intro t e elems rest d ht h hd n hn
    refine h n ?_
    rw [DataW.weights]
    simp only [ht]
    exact List.mem_cons_of_mem _ (List.mem_append_left _ (weights_all hd n hn))
  · intro t fs parts i f d ht h hf hd n hn
    refine h n ?_
    rw [DataW.weights]
    simp only [ht]
    refine DataW.weights_mem_each (j := i) (t := f.type) (d := d) ?_ hd n hn
    rw [List.getElem?_map, Array.getElem?_toList, hf]
    rfl
  · intro t e d ht h n hn
    refine h n ?_
    rw [DataW.weights]
    simp only [ht]
    exact hn
set_option maxRecDepth 100000 in
theorem prog_open {H : Type} {enc : TypeId × Value → H} {w : World} {spare : Nat → Bool} {held : Bool} {r : Reach} {b0 : Nat} {v : Value} {d : DataW H} {p : List MemPlace} (hval : Value.okWide Tryd.prog w r b0 22 v)
    (h : ∃ fuel, DataW.trod enc Tryd.prog w 0 spare held fuel 22 v.cells.toList = some (d, p)) (hb : ∀ n, n ∈ d.weights Tryd.prog 22 → n ≤ reachBytes) : ProgAt 17592186044416 w v :=
  prog_at (G := fun (t : TypeId) (d : DataW H) => ∀ n, n ∈ d.weights Tryd.prog t → n ≤ reachBytes) (N := 17592186044416) downs_sized (fun elems rest hh => by
    have h1 := hh ((elems.length + rest.length) * Tryd.prog.bytesOf 3) (by
      rw [DataW.weights]
      simp only [Tryd.underlying32]
      exact List.mem_cons_self ..)
    have h8 : Tryd.prog.bytesOf 3 = 8 := by kernel_rfl
    rw [h8] at h1
    have hr : reachBytes = 140737488351232 := by decide
    rw [hr] at h1
    omega) hval h hb

theorem len3 {α : Type} {l : List α} (h : l.length = 3) : ∃ a b c, l = [a, b, c] := by
  match l, h with
  | [a, b, c], _ => exact ⟨a, b, c, rfl⟩
theorem len6 {α : Type} {l : List α} (h : l.length = 6) : ∃ a b c d e f, l = [a, b, c, d, e, f] := by
  match l, h with
  | [a, b, c, d, e, f], _ => exact ⟨a, b, c, d, e, f, rfl⟩
set_option maxRecDepth 100000 in
theorem point_open {H : Type} {enc : TypeId × Value → H} {W : World} {r : Reach} {b0 : Nat} {base : Nat} {spare : Nat → Bool} {held : Bool} {v : Value} {d : DataW H} {p : List MemPlace}
    (hval : Value.okWide Tryd.prog W r b0 24 v) (h : ∃ fuel, DataW.trod enc Tryd.prog W base spare held fuel 24 v.cells.toList = some (d, p)) :
    ∃ f b i : Int, v = .agg #[.int .i64 f, .int .i64 b, .int .i64 i] ∧ b64 f ∧ b64 b ∧ b64 i := by
  obtain ⟨cs, rfl, _⟩ := okWide_struct Tryd.underlying24 hval
  obtain ⟨fuel, hf⟩ := h
  have hf' : DataW.trod enc Tryd.prog W base spare held fuel 24 cs.toList = some (d, p) := hf
  obtain ⟨xs, n, _, _, hl, hxl, hx⟩ := DataW.trod_struct Tryd.underlying24 hf'
  have c3 : Tryd.prog.cellsOf 24 = 3 := by kernel_rfl
  have ci : Tryd.prog.cellsOf 3 = 1 := by kernel_rfl
  rw [c3] at hl
  obtain ⟨v0, v1, v2, e⟩ := len3 hl
  obtain ⟨x0, x1, x2, ex⟩ := len3 (show xs.length = 3 from hxl)
  rw [e, ex] at hx
  have h0 : DataW.trod enc Tryd.prog W base spare held n 3 (([v0, v1, v2].drop 0).take (Tryd.prog.cellsOf 3)) = some x0 := hx 0 _ rfl
  have h1 : DataW.trod enc Tryd.prog W base spare held n 3 (([v0, v1, v2].drop 1).take (Tryd.prog.cellsOf 3)) = some x1 := hx 1 _ rfl
  have h2 : DataW.trod enc Tryd.prog W base spare held n 3 (([v0, v1, v2].drop 2).take (Tryd.prog.cellsOf 3)) = some x2 := hx 2 _ rfl
  simp only [ci] at h0 h1 h2
  obtain ⟨n0, e0, _, w0⟩ := DataW.trod_int Tryd.underlying3 h0
  obtain ⟨n1, e1, _, w1⟩ := DataW.trod_int Tryd.underlying3 h1
  obtain ⟨n2, e2, _, w2⟩ := DataW.trod_int Tryd.underlying3 h2
  simp at e0 e1 e2
  refine ⟨n0, n1, n2, ?_, b64_of w0, b64_of w1, b64_of w2⟩
  congr 1
  apply Array.ext'
  rw [e, e0, e1, e2]
set_option maxRecDepth 100000 in
theorem instr_open {H : Type} {enc : TypeId × Value → H} {W : World} {r : Reach} {b0 : Nat} {spare : Nat → Bool} {held : Bool} {v : Value} {d : DataW H} {p : List MemPlace}
    (hval : Value.okWide Tryd.prog W r b0 34 v) (h : ∃ fuel, DataW.trod enc Tryd.prog W 0 spare held fuel 34 v.cells.toList = some (d, p)) :
    ∃ (x : In8) (a : Option Addr) (cp : Nat), v = insV x (.slice a x.args.length cp) ∧ InOk x ∧ IntsAt W a x.args ∧ (x.args.length ≤ cp ∧ (a = none → cp = 0)) := by
  obtain ⟨cs, rfl, _⟩ := okWide_struct Tryd.underlying34 hval
  obtain ⟨fuel, hf⟩ := h
  have hf' : DataW.trod enc Tryd.prog W 0 spare held fuel 34 cs.toList = some (d, p) := hf
  obtain ⟨xs, n, _, _, hl, hxl, hx⟩ := DataW.trod_struct Tryd.underlying34 hf'
  have c6 : Tryd.prog.cellsOf 34 = 6 := by kernel_rfl
  have ci : Tryd.prog.cellsOf 3 = 1 := by kernel_rfl
  have cs1 : Tryd.prog.cellsOf 32 = 1 := by kernel_rfl
  rw [c6] at hl
  obtain ⟨v0, v1, v2, v3, v4, v5, e⟩ := len6 hl
  obtain ⟨x0, x1, x2, x3, x4, x5, ex⟩ := len6 (show xs.length = 6 from hxl)
  rw [e, ex] at hx
  have h0 : DataW.trod enc Tryd.prog W 0 spare held n 3 (([v0, v1, v2, v3, v4, v5].drop 0).take (Tryd.prog.cellsOf 3)) = some x0 := hx 0 _ rfl
  have h1 : DataW.trod enc Tryd.prog W 0 spare held n 3 (([v0, v1, v2, v3, v4, v5].drop 1).take (Tryd.prog.cellsOf 3)) = some x1 := hx 1 _ rfl
  have h2 : DataW.trod enc Tryd.prog W 0 spare held n 3 (([v0, v1, v2, v3, v4, v5].drop 2).take (Tryd.prog.cellsOf 3)) = some x2 := hx 2 _ rfl
  have h3 : DataW.trod enc Tryd.prog W 0 spare held n 3 (([v0, v1, v2, v3, v4, v5].drop 3).take (Tryd.prog.cellsOf 3)) = some x3 := hx 3 _ rfl
  have h4 : DataW.trod enc Tryd.prog W 0 spare held n 3 (([v0, v1, v2, v3, v4, v5].drop 4).take (Tryd.prog.cellsOf 3)) = some x4 := hx 4 _ rfl
  have h5 : DataW.trod enc Tryd.prog W 0 spare held n 32 (([v0, v1, v2, v3, v4, v5].drop 5).take (Tryd.prog.cellsOf 32)) = some x5 := hx 5 _ rfl
  simp only [ci, cs1] at h0 h1 h2 h3 h4 h5
  obtain ⟨n0, e0, _, w0⟩ := DataW.trod_int Tryd.underlying3 h0
  obtain ⟨n1, e1, _, w1⟩ := DataW.trod_int Tryd.underlying3 h1
  obtain ⟨n2, e2, _, w2⟩ := DataW.trod_int Tryd.underlying3 h2
  obtain ⟨n3, e3, _, w3⟩ := DataW.trod_int Tryd.underlying3 h3
  obtain ⟨n4, e4, _, w4⟩ := DataW.trod_int Tryd.underlying3 h4
  obtain ⟨a, cp, l, e5, q1, q2, _, q4, _, _⟩ := rows_open (G := fun _ _ => True) downs_true Tryd.underlying32 (by rw [ci]; omega) o_int h5 trivial
  simp at e0 e1 e2 e3 e4 e5
  rw [ci] at q1
  refine ⟨⟨n0, n1, n2, n3, n4, l⟩, a, cp, ?_, ⟨b64_of w0, b64_of w1, b64_of w2, b64_of w3, b64_of w4, fun z hz => ?_⟩, rows_ints q1, q2, q4⟩
  · unfold insV
    congr 1
    apply Array.ext'
    rw [e, e0, e1, e2, e3, e4, e5]
  · obtain ⟨i, hi, ez⟩ := List.getElem_of_mem hz
    obtain ⟨_, _, _, h9⟩ := q1.at (j := i) (y := z) (by rw [List.getElem?_eq_getElem hi, ez])
    exact h9.2
end Go.Proofs.YtknkjblifgppjaaDoor
