/-
  Programs in place: lists of two, three parts; instructions, blocks as cells.
-/
import Derived.Test.YtgmbkiagdhjpnaaGreatDoorU40
import Derived.Test.YtgmbkiagdhjpnaaGreatDoorU39
namespace Go.Proofs.YtgmbkiagdhjpnaaGreatDoor
open Go.RowKit
theorem SlC.lit2{α:Type}{w:World}{c:Nat}{R:World→Nat→Nat→α→Prop}{b o b':Nat}{x y:α}(hc:w.cell? ⟨b,o,none⟩=some (.slice (some ⟨b',0,none⟩) 2 2))(h:R w b' 0 x)(h1:R w b' c y):SlC c R w b o [x,y]:=
 ⟨_,2,hc,.inr ⟨b',0,rfl,fun j z hz=>by
  match j,hz with
  | 0,hz=>simp at hz;subst hz;simpa using h
  | 1,hz=>simp at hz;subst hz;simpa using h1
  | j+2,hz=>simp at hz⟩,by simp,by unfold maxLen;simp⟩
theorem SlC.lit3{α:Type}{w:World}{c:Nat}{R:World→Nat→Nat→α→Prop}{b o b':Nat}{x y u:α}(hc:w.cell? ⟨b,o,none⟩=some (.slice (some ⟨b',0,none⟩) 3 3))(h:R w b' 0 x)(h1:R w b' c y)(h2:R w b' (2 * c) u):SlC c R w b o [x,y,u]:=
 ⟨_,3,hc,.inr ⟨b',0,rfl,fun j z hz=>by
  match j,hz with
  | 0,hz=>simp at hz;subst hz;simpa using h
  | 1,hz=>simp at hz;subst hz;simpa using h1
  | 2,hz=>simp at hz;subst hz;simpa using h2
  | j+3,hz=>simp at hz⟩,by simp,by unfold maxLen;simp⟩
theorem SlC.lit4{α:Type}{w:World}{c:Nat}{R:World→Nat→Nat→α→Prop}{b o b':Nat}{x y u v:α}(hc:w.cell? ⟨b,o,none⟩=some (.slice (some ⟨b',0,none⟩) 4 4))(h:R w b' 0 x)(h1:R w b' c y)(h2:R w b' (2 * c) u)(h3:R w b' (3 * c) v):SlC c R w b o [x,y,u,v]:=
 ⟨_,4,hc,.inr ⟨b',0,rfl,fun j z hz=>by
  match j,hz with
  | 0,hz=>simp at hz;subst hz;simpa using h
  | 1,hz=>simp at hz;subst hz;simpa using h1
  | 2,hz=>simp at hz;subst hz;simpa using h2
  | 3,hz=>simp at hz;subst hz;simpa using h3
  | j+4,hz=>simp at hz⟩,by simp,by unfold maxLen;simp⟩
theorem in_lit{w:World}{b o:Nat}{x:In8}(hb:b64 x.op∧b64 x.dst∧b64 x.a∧b64 x.b∧b64 x.n)(ha:x.args=[])(h0:w.cell? ⟨b,o,none⟩=some (.int .i64 x.op))(h1:w.cell? ⟨b,o+1,none⟩=some (.int .i64 x.dst))(h2:w.cell? ⟨b,o+2,none⟩=some (.int .i64 x.a))(h3:w.cell? ⟨b,o+3,none⟩=some (.int .i64 x.b))(h4:w.cell? ⟨b,o+4,none⟩=some (.int .i64 x.n))(h5:w.cell? ⟨b,o+5,none⟩=some (.slice none 0 0)):InC w b o x:=
 ⟨⟨h0,hb.1⟩,⟨h1,hb.2.1⟩,⟨h2,hb.2.2.1⟩,⟨h3,hb.2.2.2.1⟩,⟨h4,hb.2.2.2.2⟩,by rw[ha];exact SlC.xnone h5⟩
theorem mk_ty2(w:World):(Instr.makeSlice 47 (.int .i64 2) (.int .i64 2)).run Tryz.prog w=.ok (.slice (some ⟨w.heap.size,0,none⟩) 2 2) (w.alloc (.cells #[.int .i64 0,.int .i64 0,.int .i64 0,.int .i64 0] 60)):=by kernel_rfl
theorem mk_ty3(w:World):(Instr.makeSlice 47 (.int .i64 3) (.int .i64 3)).run Tryz.prog w=.ok (.slice (some ⟨w.heap.size,0,none⟩) 3 3) (w.alloc (.cells #[.int .i64 0,.int .i64 0,.int .i64 0,.int .i64 0,.int .i64 0,.int .i64 0] 60)):=by kernel_rfl
theorem mk_ty4(w:World):(Instr.makeSlice 47 (.int .i64 4) (.int .i64 4)).run Tryz.prog w=.ok (.slice (some ⟨w.heap.size,0,none⟩) 4 4) (w.alloc (.cells #[.int .i64 0,.int .i64 0,.int .i64 0,.int .i64 0,.int .i64 0,.int .i64 0,.int .i64 0,.int .i64 0] 60)):=by kernel_rfl
theorem mk_ty5(w:World):(Instr.makeSlice 47 (.int .i64 5) (.int .i64 5)).run Tryz.prog w=.ok (.slice (some ⟨w.heap.size,0,none⟩) 5 5) (w.alloc (.cells #[.int .i64 0,.int .i64 0,.int .i64 0,.int .i64 0,.int .i64 0,.int .i64 0,.int .i64 0,.int .i64 0,.int .i64 0,.int .i64 0] 60)):=by kernel_rfl
end Go.Proofs.YtgmbkiagdhjpnaaGreatDoor
