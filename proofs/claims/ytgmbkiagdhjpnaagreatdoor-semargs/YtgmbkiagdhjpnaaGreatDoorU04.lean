import Derived.ProofKit
import Derived.OpenShut
import Derived.ChangeOld
import Derived.Deep.DeepHandedRow
import Derived.Deep.Slices
import Derived.Deep.Fields
import Derived.SizedLaws
import Derived.Test.YtgmbkiagdhjpnaaGreatDoorU01

namespace Go.Proofs.YtgmbkiagdhjpnaaGreatDoor
open Go.ChangeAt Go.ChangeShapes Go.RowKit Go.WideShapes
variable {e t:TypeId}
theorem zku{n:Int}(h:(Lit.int .i64 n).wf=true):b64 n:=by
 have h1:(decide (IntKind.i64.min≤n) && decide (n≤IntKind.i64.max))=true:=h;have a:IntKind.i64.min= -9223372036854775808:=by decide
 have b:IntKind.i64.max=9223372036854775807:=by decide
 rw[a,b] at h1;simpa [b64] using h1
theorem zfk{α:Type}{Q:Nat→α→Prop}:∀ n,(∀ j,j<n→∃ y,Q j y)→∃ l:List α,l.length=n∧∀ j y,l[j]? = some y→Q j y
 | 0,_=>⟨[],rfl,fun j y h=>by simp at h⟩
 | n+1,h=>by
  obtain ⟨l,h1,h2⟩:=zfk n (fun j hj=>h j (by omega));obtain ⟨y,hy⟩:=h n (by omega);refine ⟨l ++ [y],by simp[h1],fun j z hz=> ?_⟩;by_cases e:j<l.length
  ·rw[List.getElem?_append_left e] at hz
   exact h2 j z hz
  ·rw[List.getElem?_append_right (by omega)] at hz
   have e0:j - l.length=0:=by
    apply Classical.byContradiction;intro hne;rw[List.getElem?_eq_none (by simp;omega)] at hz;cases hz
   rw[e0] at hz;simp at hz;rw[← hz,show j=n by omega];exact hy
section
variable {H:Type}{enc:TypeId × Value→H}{P:Program}{w:World}{spare:Nat→Bool}{held:Bool}{G:TypeId→DataW H→Prop}
structure jy (P:Program) (G:TypeId→DataW H→Prop):Prop where
 slice:∀ {t e:TypeId}{elems rest:List (DataW H)}{d:DataW H},P.underlying t=some (.slice e)→G t (.slice elems rest)→d∈elems→G e d
 struct:∀ {t:TypeId}{fs:Array Field}{parts:List (DataW H)}{i:Nat}{f:Field}{d:DataW H},P.underlying t=some (.struct fs)→G t (.agg parts)→fs[i]? = some f→parts[i]? = some d→G f.type d
 ptr:∀ {t e:TypeId}{d:DataW H},P.underlying t=some (.pointer e)→G t (.ptr d)→G e d
def jn{α:Type}(enc:TypeId × Value→H)(P:Program)(w:World)(spare:Nat→Bool)(held:Bool)(G:TypeId→DataW H→Prop)(e:TypeId)(R:World→Nat→Nat→α→Prop)(Q:α→Prop):Prop:=
 ∀ (fuel b o:Nat) (cs:List Value) (x:DataW H × List MemPlace),(∀ i,i<P.cellsOf e→w.cell? ⟨b,o+i,none⟩=cs[i]?)→DataW.trod enc P w 0 spare held fuel e cs=some x→G e x.1→∃ y:α,R w b o y∧Q y
theorem zd8{t:TypeId}(ht:P.underlying t=some (.int .i64))(hc:P.cellsOf t=1):jn enc P w spare held G t zI (fun _=>True):=by
 intro fuel b o cs x hcell h _;obtain ⟨n,rfl,_,hw⟩:=DataW.trod_int ht h;refine ⟨n,⟨?_,zku hw⟩,trivial⟩;have:=hcell 0 (by omega);rw[Nat.add_zero] at this;rw[this];rfl
theorem Q5{α:Type}{t e:TypeId}{R:World→Nat→Nat→α→Prop}{Q:α→Prop}(hG:jy P G)(ht:P.underlying t=some (.slice e))(hpos:0<P.cellsOf e)(hR:jn enc P w spare held G e R Q){fuel:Nat}{cs:List Value}{x:DataW H × List MemPlace}(h:DataW.trod enc P w 0 spare held fuel t cs=some x)(hg:G t x.1):
  ∃ (a:Option Addr) (cp:Nat) (l:List α),cs=[.slice a l.length cp]∧zq w (P.cellsOf e) R a l∧l.length≤cp∧l.length≤maxLen∧(a=none→cp=0)∧(∀ (j:Nat) (y:α),l[j]? = some y→Q y)∧(l=[]∨∃ elems rest,x.1=.slice elems rest∧elems.length=l.length):=by
 rcases Deep.open_slice ht h with ⟨h1,_⟩ | ⟨a,len,cap,m,n,D,Pl,h1,_,h3,h4,h5,hx,h7⟩
 ·exact ⟨none,0,[],h1,.inl rfl,by simp,by simp,(fun _=>rfl),(fun j y hy=>by simp at hy),.inl rfl⟩
 ·have hm:len≤m:=by rw[h5];split <;> omega
  by_cases h0:len=0
  ·subst h0
   exact ⟨some a,cap,[],h1,.inl rfl,by simp,by simp,(fun e=>by cases e),(fun j y hy=>by simp at hy),.inl rfl⟩
  ·obtain ⟨b,off,spot⟩:=a
   obtain ⟨c0,g0,_⟩:=h7 0 (by omega);obtain ⟨_,gl,g1⟩:=World.cells?_some g0;have g2:=g1 0 hpos;rw[List.getElem?_eq_getElem (by omega)] at g2;have hspot:spot=none:=by simpa [Addr.add] using World.cell?_spot g2
   subst hspot;have hx1:x.1=.slice ((List.range len).map D) ((List.range (m - len)).map fun j=>D (len+j)):=by rw[hx]
   obtain ⟨l,hl,hq⟩:=zfk (Q:=fun j y=>R w b (off+j * P.cellsOf e) y∧Q y) len (fun j hj=>by
    obtain ⟨cj,g3,g4⟩:=h7 j (by omega);obtain ⟨_,g5,g6⟩:=World.cells?_some g3;refine hR n b (off+j * P.cellsOf e) cj _ (fun i hi=> ?_) g4 ?_
    ·have:=g6 i hi
     rw[add_plain,add_plain] at this;exact this
    ·rw[hx1] at hg
     exact hG.slice ht hg (List.mem_map.2 ⟨j,List.mem_range.2 hj,rfl⟩))
   exact ⟨some ⟨b,off,none⟩,cap,l,by rw[hl];exact h1,.inr ⟨b,off,rfl,fun j y hy=>(hq j y hy).1⟩,by omega,by omega,(fun e=>by cases e),(fun j y hy=>(hq j y hy).2),.inr ⟨_,_,hx1,by rw[List.length_map,List.length_range,hl]⟩⟩
theorem qi{α:Type}{t e:TypeId}{R:World→Nat→Nat→α→Prop}{Q:α→Prop}{c:Nat}(hG:jy P G)(ht:P.underlying t=some (.slice e))(hc:P.cellsOf e=c)(hpos:0<c)(h1:P.cellsOf t=1)(hR:jn enc P w spare held G e R Q):jn enc P w spare held G t (SlC c R) (fun l=>∀ (j:Nat) (y:α),l[j]? = some y→Q y):=by
 subst hc;intro fuel b o cs x hcell h hg;obtain ⟨a,cp,l,rfl,h2,h3,h4,_,h5,_⟩:=Q5 hG ht hpos hR h hg;refine ⟨l,⟨a,cp,?_,h2,h3,h4⟩,h5⟩;have:=hcell 0 (by omega);rw[Nat.add_zero] at this;rw[this];rfl
theorem zav{α:Type}{t e:TypeId}{R:World→Nat→Nat→α→Prop}{Q:α→Prop}{c N:Nat}(hG:jy P G)(hN:∀ elems rest,G t (.slice elems rest)→elems.length≤N)(ht:P.underlying t=some (.slice e))(hc:P.cellsOf e=c)(hpos:0<c)(h1:P.cellsOf t=1)(hR:jn enc P w spare held G e R Q):jn enc P w spare held G t (SlC c R) (fun l=>l.length≤N):=by
 subst hc;intro fuel b o cs x hcell h hg;obtain ⟨a,cp,l,rfl,h2,h3,h4,_,_,h5⟩:=Q5 hG ht hpos hR h hg;refine ⟨l,⟨a,cp,?_,h2,h3,h4⟩,?_⟩
 ·have:=hcell 0 (by omega)
  rw[Nat.add_zero] at this;rw[this];rfl
 ·rcases h5 with e | ⟨elems,rest,e1,e2⟩
  ·rw[e];exact Nat.zero_le _
  ·rw[e1] at hg
   rw[← e2];exact hN _ _ hg
theorem zZ(hG:jy P G){e:TypeId}{fs:Array Field}(hs:P.underlying e=some (.struct fs)){fuel b o:Nat}{cs:List Value}{x:DataW H × List MemPlace}(hcell:∀ i,i<P.cellsOf e→w.cell? ⟨b,o+i,none⟩=cs[i]?)(h:DataW.trod enc P w 0 spare held fuel e cs=some x)(hg:G e x.1):
  ∀ (i:Nat) (f:Field),fs[i]? = some f→f.offset+P.cellsOf f.type≤P.cellsOf e→∀ {α:Type}{R:World→Nat→Nat→α→Prop}{Q:α→Prop},jn enc P w spare held G f.type R Q→∃ y:α,R w b (o+f.offset) y∧Q y:=by
 intro i f hf hle α R Q hR;obtain ⟨xs,n,_,hxx,hl,hxl,hx⟩:=DataW.trod_struct hs h;have hlt:i<fs.size:=(Array.getElem?_eq_some_iff.1 hf).1;have g:=hx i f hf;rw[List.getElem?_eq_getElem (by omega)] at g;refine hR n b (o+f.offset) _ _ (fun j hj=> ?_) g ?_
 ·rw[Nat.add_assoc,hcell (f.offset+j) (by omega),List.getElem?_take,if_pos hj,List.getElem?_drop]
 ·have hx1:x.1=.agg (xs.map (·.1)):=by rw[hxx]
  rw[hx1] at hg;refine hG.struct hs hg hf ?_;rw[List.getElem?_map,List.getElem?_eq_getElem (by omega)];rfl
end
end Go.Proofs.YtgmbkiagdhjpnaaGreatDoor
