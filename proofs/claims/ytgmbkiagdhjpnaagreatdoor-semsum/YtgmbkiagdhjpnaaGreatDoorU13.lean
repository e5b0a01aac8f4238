/-
    A slice of numbers that came in (of COpen).

-/
import Derived.OwnWalk
import Derived.Deep.QuietTactic
import Derived.BigQuiet
import Derived.Maps.AppendAt
import Derived.Lib.Builder
import Derived.Deep.OwnRows
import Derived.Deep.DeepCutAuto
import Derived.Deep.AppendLies
import Derived.Test.YtgmbkiagdhjpnaaGreatDoorU04

namespace Go.Proofs.YtgmbkiagdhjpnaaGreatDoor
open Go.ChangeAt Go.ChangeShapes Go.RowKit Go.WideShapes
open Go.Value (int pointer agg)
open Go.IntKind (i64)
set_option maxRecDepth 100000
section
variable {H:Type}{enc:TypeId × Value→H}{w:World}{spare:Nat→Bool}{held:Bool}{G:TypeId→DataW H→Prop}{N:Nat}
def zmS(N:Nat)(x:In8):Prop:=x.args.length≤N
def zmN(N:Nat)(x:Bl8):Prop:=∀ (j:Nat) (y:In8),x.code[j]? = some y→zmS N y
def zmi(N:Nat)(x:Fu8):Prop:=∀ (j:Nat) (y:Bl8),x.blocks[j]? = some y→zmN N y
def zna(N:Nat)(x:Pr8):Prop:=(∀ (j:Nat) (y:List (Int × Int)),x.recs[j]? = some y→y.length≤N)∧(∀ (j:Nat) (y:List (Int × Int) × Int × Int),x.sigs[j]? = some y→y.1.length≤N)∧(∀ (j:Nat) (y:List Int),x.ifs[j]? = some y→y.length≤N)∧(∀ (j:Nat) (y:Int × Int × List Int),x.ims[j]? = some y→y.2.2.length≤N)∧∀ (j:Nat) (y:Fu8),x.funcs[j]? = some y→zmi N y
theorem jL:jn enc Tryz.prog w spare held G 3 zI (fun _=>True):=zd8 Tryz.underlying3 (by kernel_rfl)
theorem zf8(hG:jy Tryz.prog G)(hN:∀ elems rest,G 63 (.slice elems rest)→elems.length≤N):jn enc Tryz.prog w spare held G 63 jH (fun l=>l.length≤N):=zav hG hN Tryz.underlying63 (by kernel_rfl) (by decide) (by kernel_rfl) jL
theorem zhM(hG:jy Tryz.prog G):jn enc Tryz.prog w spare held G 60 TyC (fun _=>True):=by
 intro fuel b o cs x hc h hg;have F:=zZ hG Tryz.underlying60 hc h hg;obtain ⟨y0,h0,q0⟩:=F 0 _ rfl (of_decide_eq_true (by kernel_rfl)) jL;obtain ⟨y1,h1,q1⟩:=F 1 _ rfl (of_decide_eq_true (by kernel_rfl)) jL;exact ⟨(y0,y1),⟨h0,h1⟩,trivial⟩
theorem zbe(hG:jy Tryz.prog G)(hT:∀ elems rest,G 47 (.slice elems rest)→elems.length≤N):jn enc Tryz.prog w spare held G 47 (SlC 2 TyC) (fun l=>l.length≤N):=zav hG hT Tryz.underlying47 (by kernel_rfl) (by decide) (by kernel_rfl) (zhM hG)
theorem zjA(hG:jy Tryz.prog G)(hN:∀ elems rest,G 63 (.slice elems rest)→elems.length≤N):jn enc Tryz.prog w spare held G 65 InC (zmS N):=by
 intro fuel b o cs x hc h hg;have F:=zZ hG Tryz.underlying65 hc h hg;obtain ⟨y0,h0,q0⟩:=F 0 _ rfl (of_decide_eq_true (by kernel_rfl)) jL;obtain ⟨y1,h1,q1⟩:=F 1 _ rfl (of_decide_eq_true (by kernel_rfl)) jL;obtain ⟨y2,h2,q2⟩:=F 2 _ rfl (of_decide_eq_true (by kernel_rfl)) jL;obtain ⟨y3,h3,q3⟩:=F 3 _ rfl (of_decide_eq_true (by kernel_rfl)) jL;obtain ⟨y4,h4,q4⟩:=F 4 _ rfl (of_decide_eq_true (by kernel_rfl)) jL;obtain ⟨y5,h5,q5⟩:=F 5 _ rfl (of_decide_eq_true (by kernel_rfl)) (zf8 hG hN);exact ⟨⟨y0,y1,y2,y3,y4,y5⟩,⟨h0,h1,h2,h3,h4,h5⟩,q5⟩
theorem zhx(hG:jy Tryz.prog G)(hN:∀ elems rest,G 63 (.slice elems rest)→elems.length≤N):jn enc Tryz.prog w spare held G 66 (SlC 6 InC) (fun l=>∀ (j:Nat) (y:In8),l[j]? = some y→zmS N y):=qi hG Tryz.underlying66 (by kernel_rfl) (by decide) (by kernel_rfl) (zjA hG hN)
theorem zjN(hG:jy Tryz.prog G)(hN:∀ elems rest,G 63 (.slice elems rest)→elems.length≤N):jn enc Tryz.prog w spare held G 68 BlC (zmN N):=by
 intro fuel b o cs x hc h hg;have F:=zZ hG Tryz.underlying68 hc h hg;obtain ⟨y0,h0,q0⟩:=F 0 _ rfl (of_decide_eq_true (by kernel_rfl)) (zhx hG hN);obtain ⟨y1,h1,q1⟩:=F 1 _ rfl (of_decide_eq_true (by kernel_rfl)) jL;obtain ⟨y2,h2,q2⟩:=F 2 _ rfl (of_decide_eq_true (by kernel_rfl)) jL;obtain ⟨y3,h3,q3⟩:=F 3 _ rfl (of_decide_eq_true (by kernel_rfl)) jL;obtain ⟨y4,h4,q4⟩:=F 4 _ rfl (of_decide_eq_true (by kernel_rfl)) jL;exact ⟨⟨y0,y1,y2,y3,y4⟩,⟨h0,h1,h2,h3,h4⟩,q0⟩
theorem zfY(hG:jy Tryz.prog G)(hN:∀ elems rest,G 63 (.slice elems rest)→elems.length≤N):jn enc Tryz.prog w spare held G 48 (SlC 5 BlC) (fun l=>∀ (j:Nat) (y:Bl8),l[j]? = some y→zmN N y):=qi hG Tryz.underlying48 (by kernel_rfl) (by decide) (by kernel_rfl) (zjN hG hN)
theorem zk2(hG:jy Tryz.prog G)(hN:∀ elems rest,G 63 (.slice elems rest)→elems.length≤N)(hT:∀ elems rest,G 47 (.slice elems rest)→elems.length≤N):jn enc Tryz.prog w spare held G 50 FuC (zmi N):=by
 intro fuel b o cs x hc h hg;have F:=zZ hG Tryz.underlying50 hc h hg;obtain ⟨y0,h0,q0⟩:=F 0 _ rfl (of_decide_eq_true (by kernel_rfl)) jL;obtain ⟨y1,h1,q1⟩:=F 1 _ rfl (of_decide_eq_true (by kernel_rfl)) (zbe hG hT);obtain ⟨y2,h2,q2⟩:=F 2 _ rfl (of_decide_eq_true (by kernel_rfl)) (zfY hG hN);exact ⟨⟨y0,y1,y2⟩,⟨h0,h1,h2⟩,q2⟩
theorem zik(hG:jy Tryz.prog G)(hN:∀ elems rest,G 63 (.slice elems rest)→elems.length≤N)(hT:∀ elems rest,G 47 (.slice elems rest)→elems.length≤N):jn enc Tryz.prog w spare held G 55 (SlC 3 FuC) (fun l=>∀ (j:Nat) (y:Fu8),l[j]? = some y→zmi N y):=qi hG Tryz.underlying55 (by kernel_rfl) (by decide) (by kernel_rfl) (zk2 hG hN hT)
theorem zme(hG:jy Tryz.prog G)(hT:∀ elems rest,G 47 (.slice elems rest)→elems.length≤N):jn enc Tryz.prog w spare held G 75 SgC (fun x=>x.1.length≤N):=by
 intro fuel b o cs x hc h hg;have F:=zZ hG Tryz.underlying75 hc h hg;obtain ⟨y0,h0,q0⟩:=F 0 _ rfl (of_decide_eq_true (by kernel_rfl)) (zbe hG hT);obtain ⟨y1,h1,_⟩:=F 1 _ rfl (of_decide_eq_true (by kernel_rfl)) (zhM hG);exact ⟨(y0,y1.1,y1.2),⟨h0,h1.c0,h1.c1⟩,q0⟩
theorem ziQ(hG:jy Tryz.prog G)(hN:∀ elems rest,G 63 (.slice elems rest)→elems.length≤N):jn enc Tryz.prog w spare held G 78 jH (fun x=>x.length≤N):=by
 intro fuel b o cs x hc h hg;have F:=zZ hG Tryz.underlying78 hc h hg;obtain ⟨y0,h0,q0⟩:=F 0 _ rfl (of_decide_eq_true (by kernel_rfl)) (zf8 hG hN);exact ⟨y0,h0,q0⟩
theorem zl5(hG:jy Tryz.prog G)(hN:∀ elems rest,G 63 (.slice elems rest)→elems.length≤N):jn enc Tryz.prog w spare held G 80 ImC (fun x=>x.2.2.length≤N):=by
 intro fuel b o cs x hc h hg;have F:=zZ hG Tryz.underlying80 hc h hg;obtain ⟨y0,h0,_⟩:=F 0 _ rfl (of_decide_eq_true (by kernel_rfl)) jL;obtain ⟨y1,h1,_⟩:=F 1 _ rfl (of_decide_eq_true (by kernel_rfl)) jL;obtain ⟨y2,h2,q2⟩:=F 2 _ rfl (of_decide_eq_true (by kernel_rfl)) (zf8 hG hN);exact ⟨(y0,y1,y2),⟨h0,h1,h2⟩,q2⟩
theorem zkv(hG:jy Tryz.prog G)(hN:∀ elems rest,G 63 (.slice elems rest)→elems.length≤N)(hT:∀ elems rest,G 47 (.slice elems rest)→elems.length≤N):jn enc Tryz.prog w spare held G 57 PrC (zna N):=by
 intro fuel b o cs x hc h hg;have F:=zZ hG Tryz.underlying57 hc h hg;obtain ⟨y0,h0,q0⟩:=F 0 _ rfl (of_decide_eq_true (by kernel_rfl)) (qi (c:=1) hG Tryz.underlying51 (by kernel_rfl) (by decide) (by kernel_rfl) (zbe hG hT));obtain ⟨y1,h1,q1⟩:=F 1 _ rfl (of_decide_eq_true (by kernel_rfl)) (qi (c:=3) hG Tryz.underlying52 (by kernel_rfl) (by decide) (by kernel_rfl) (zme hG hT));obtain ⟨y2,h2,q2⟩:=F 2 _ rfl (of_decide_eq_true (by kernel_rfl)) (qi (c:=1) hG Tryz.underlying53 (by kernel_rfl) (by decide) (by kernel_rfl) (ziQ hG hN));obtain ⟨y3,h3,q3⟩:=F 3 _ rfl (of_decide_eq_true (by kernel_rfl)) (qi (c:=3) hG Tryz.underlying54 (by kernel_rfl) (by decide) (by kernel_rfl) (zl5 hG hN));obtain ⟨y4,h4,q4⟩:=F 4 _ rfl (of_decide_eq_true (by kernel_rfl)) (zik hG hN hT);obtain ⟨y5,h5,_⟩:=F 5 _ rfl (of_decide_eq_true (by kernel_rfl)) jL;exact ⟨⟨y0,y1,y2,y3,y4,y5⟩,⟨h0,h1,h2,h3,h4,h5⟩,q0,q1,q2,q3,q4⟩
def zky(N:Nat)(W:World)(v:Value):Prop:=v=.pointer none∨∃ b o P,v=pointer (some ⟨b,o,none⟩)∧PrC W b o P∧zna N P
theorem zm8(hG:jy Tryz.prog G)(hN:∀ elems rest,G 63 (.slice elems rest)→elems.length≤N)(hT:∀ elems rest,G 47 (.slice elems rest)→elems.length≤N){r:Reach}{b0:Nat}{v:Value}{d:DataW H}{p:List MemPlace}(hval:Value.okWide Tryz.prog w r b0 22 v)
  (h:∃ fuel,DataW.trod enc Tryz.prog w 0 spare held fuel 22 v.cells.toList=some (d,p)) (hg:G 22 d):zky N w v:=by
 obtain ⟨a,rfl⟩:=okWide_pointer Tryz.underlying22 hval;obtain ⟨fuel,hf⟩:=h;rcases DataW.trod_pointer Tryz.underlying22 hf with ⟨h1,_⟩ | ⟨a',cs',y,n,_,h1,h2,h3,h4⟩
 ·simp[Value.cells] at h1
  exact .inl (by rw[h1])
 ·simp[Value.cells] at h1
  subst h1;obtain ⟨_,g5,g6⟩:=World.cells?_some h3;have hc6:Tryz.prog.cellsOf 57=6:=by kernel_rfl
  obtain ⟨b,o,spot⟩:=a';have g2:=g6 0 (by rw[hc6];omega);rw[List.getElem?_eq_getElem (by rw[g5,hc6];omega)] at g2;have hspot:spot=none:=by simpa [Addr.add] using World.cell?_spot g2
  subst hspot;have hd:d=.ptr y.1:=congrArg Prod.fst h2;rw[hd] at hg
  obtain ⟨P,q1,q2⟩:=zkv hG hN hT n b o cs' y (fun i hi=>by
   have:=g6 i hi;rw[add_plain] at this
   exact this) h4 (hG.ptr Tryz.underlying22 hg)
  exact .inr ⟨b,o,P,rfl,q1,q2⟩
end
theorem zcJ{H:Type}{P:Program}:jy P (fun (_:TypeId) (_:DataW H)=>True):=⟨fun _ _ _=>trivial,fun _ _ _ _=>trivial,fun _ _=>trivial⟩
theorem zkT{H:Type}{enc:TypeId × Value→H}{w:World}{spare:Nat→Bool}{held:Bool}{r:Reach}{b0:Nat}{v:Value}{d:DataW H}{p:List MemPlace}(hval:Value.okWide Tryz.prog w r b0 63 v)
  (h:∃ fuel,DataW.trod enc Tryz.prog w 0 spare held fuel 63 v.cells.toList=some (d,p)):∃ a cp l,v=.slice a l.length cp∧zq w 1 zI a l∧l.length≤cp∧l.length≤maxLen:=by
 obtain ⟨a,len,cp,rfl⟩:=okWide_slice Tryz.underlying63 hval;obtain ⟨fuel,hf⟩:=h;have hc:Tryz.prog.cellsOf 3=1:=by kernel_rfl
 obtain ⟨a',cp',l,e,q1,q2,q3,_⟩:=Q5 (G:=fun _ _=>True) zcJ Tryz.underlying63 (by rw[hc];omega) jL hf trivial;simp[Value.cells] at e;obtain ⟨rfl,rfl,rfl⟩:=e;rw[hc] at q1;exact ⟨a,cp,l,rfl,q1,q2,q3⟩
end Go.Proofs.YtgmbkiagdhjpnaaGreatDoor
