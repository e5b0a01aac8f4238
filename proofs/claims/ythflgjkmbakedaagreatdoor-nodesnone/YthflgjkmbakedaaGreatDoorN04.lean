import Derived.Deep.RegionLaw
import Derived.Deep.RegionLawGrows
import Derived.ArgAppend
import Derived.Lib.UnsafeStr
import Derived.LaidEql
import Derived.Stop.Asserts
import Derived.RowKitTokens
import Derived.Defers
import Derived.Recover
import Derived.Deep.Fields
import Derived.Deep.RegionHeld
import Derived.Deep.RegionWith
import Derived.Deep.RegionHeld3
import Derived.Laws.AppendOwnNone
import Derived.Deep.LoopGhost
import Derived.Shelf.Abstract
import Derived.Test.YthflgjkmbakedaaGreatDoorN03

namespace Go.Proofs.YthflgjkmbakedaaGreatDoor
open Go.RowKit
open Go.Value (int pointer agg)
open Go.IntKind (i64)
set_option maxHeartbeats 400000
variable {B b c f i k n o tb:Nat}{L:List Nat}{P:Pr8}{T:TypeId}{a:Option Addr}{l:Array Bool}{oi:Oper}{v x y:Value}{w w':World}
def SlV{α:Type}(c:Nat)(R:World→Nat→Nat→α→Prop)(w:World)(v:Value)(l:List α):Prop:=
 ∃ a cp,v=.slice a l.length cp∧zv w c R a l∧l.length≤cp∧l.length≤maxLen
def QZ:World→Value→List Int→Prop:=SlV 1 zH
def zeh:World→Value→List (Int × Int)→Prop:=SlV 2 TyC
def SgV(w:World)(v:Value)(x:List (Int × Int) × Int × Int):Prop:=
 ∃ a cp,v=agg #[.slice a x.1.length cp,int i64 x.2.1,int i64 x.2.2]∧zeh w (.slice a x.1.length cp) x.1∧b64 x.2.1∧b64 x.2.2
def IfV(w:World)(v:Value)(x:List Int):Prop:=∃ a cp,v=agg #[.slice a x.length cp]∧QZ w (.slice a x.length cp) x
def ImV(w:World)(v:Value)(x:Int × Int × List Int):Prop:=
 ∃ a cp,v=agg #[int i64 x.1,int i64 x.2.1,.slice a x.2.2.length cp]∧b64 x.1∧b64 x.2.1∧QZ w (.slice a x.2.2.length cp) x.2.2
def InV(w:World)(v:Value)(x:In8):Prop:=
 ∃ a cp,v=agg #[int i64 x.op,int i64 x.dst,int i64 x.a,int i64 x.b,int i64 x.n,.slice a x.args.length cp]∧b64 x.op∧b64 x.dst∧b64 x.a∧b64 x.b∧b64 x.n∧QZ w (.slice a x.args.length cp) x.args
def ziC:World→Value→List In8→Prop:=SlV 6 InC
def BlV(w:World)(v:Value)(x:Bl8):Prop:=
 ∃ a cp,v=agg #[.slice a x.code.length cp,int i64 x.fin,int i64 x.reg,int i64 x.to,int i64 x.els]∧ziC w (.slice a x.code.length cp) x.code∧b64 x.fin∧b64 x.reg∧b64 x.to∧b64 x.els
def zja:World→Value→List Bl8→Prop:=SlV 5 BlC
def FuV(w:World)(v:Value)(x:Fu8):Prop:=
 ∃ a cp a' cp',v=agg #[int i64 x.sig,.slice a x.regs.length cp,.slice a' x.blocks.length cp']∧b64 x.sig∧zeh w (.slice a x.regs.length cp) x.regs∧zja w (.slice a' x.blocks.length cp') x.blocks
theorem SlC.val{α:Type}{R:World→Nat→Nat→α→Prop}{l:List α}(h:SlC c R w b o l):∃ a cp,w.cell? ⟨b,o,none⟩=some (.slice a l.length cp)∧SlV c R w (.slice a l.length cp) l:=by
 obtain ⟨a,cp,h1,h2⟩:=h;exact ⟨a,cp,h1,a,cp,rfl,h2⟩
theorem SlV.slice{α:Type}{R:World→Nat→Nat→α→Prop}{cp:Nat}{l:List α}(h:SlV c R w (.slice a n cp) l):n=l.length∧zv w c R a l∧l.length≤cp∧l.length≤maxLen:=by
 obtain ⟨a',cp',e,h1,h2⟩:=h;simp only[Value.slice.injEq] at e;obtain ⟨rfl,rfl,rfl⟩:=e;exact ⟨rfl,h1,h2⟩
theorem zgA(b:Nat)(a:Int)(w:World)(h:¬ (0≤a∧a<5000)):
  Calls Tryz.prog 215 #[pointer (some ⟨b,0,none⟩),int i64 a] w fun e w'=>e=.returned (.bool false)∧w'=w:=by
 have H:=hid h;clear h;go_enter Tryz.func215,Tryz.ntmps215;go_wp2_with (go_at_call 203;refine (zfT _ _ H.o).mono ?_;rintro e w' ⟨rfl,rfl⟩);go_ret;exact ⟨rfl,rfl⟩
theorem ziw(b n:Nat)(w:World)(h:n<5000)
  (hh:∀ w1,w1=w→Calls Tryz.prog 134 #[pointer (some ⟨b,0,none⟩),int i64 n] w1 fun e w'=>e=.returned (.bool true)∧∃ m,w'=w1.drewN m):
  Calls Tryz.prog 215 #[pointer (some ⟨b,0,none⟩),int i64 n] w fun e w'=>e=.returned (.bool false)∧∃ m,w'=w.drewN m:=by
 have H:=hid hh;clear hh;go_enter Tryz.func215,Tryz.ntmps215;go_wp2_with fail;refine (JR n _ h).mono ?_;rintro e w' ⟨rfl,rfl⟩;go_wp2_with fail;refine (H.o _ rfl).mono ?_;rintro e w' ⟨rfl,m,rfl⟩;go_wp2;go_ret;exact ⟨rfl,_,rfl⟩
theorem zf6(b n k p x z:Nat)(w:World)(h:n<5000)(hk:k<79)(hz:bits BinOp.or IntKind.u64 (x:Int) (p:Int)=(z:Int))(hc:w.cell? ⟨b,k,none⟩=some (.int .u64 x))(hfz:w.frozen? ⟨b,k,none⟩=false)
  (hh:∀ w1,w1=w→Calls Tryz.prog 134 #[pointer (some ⟨b,0,none⟩),int i64 n] w1 fun e w'=>e=.returned (.bool false)∧∃ m,w'=w1.drewN m)
  (hpl:∀ w1,Calls Tryz.prog 204 #[int i64 n] w1 fun e w'=>e=.returned (.tuple #[int i64 k,.int .u64 p])∧∃ m,w'=w1.drewN m):
  Calls Tryz.prog 215 #[pointer (some ⟨b,0,none⟩),int i64 n] w fun e w'=>e=.returned (.bool true)∧∃ m,w'=(w.setCell ⟨b,k,none⟩ (.int .u64 z)).drewN m:=by
 have H:=hid hh;have H2:=hid hpl;clear hh hpl;go_enter Tryz.func215,Tryz.ntmps215;go_wp2_with fail;refine (JR n _ h).mono ?_;rintro e w' ⟨rfl,rfl⟩;go_wp2_with fail;refine (H.o _ rfl).mono ?_;rintro e w' ⟨rfl,m,rfl⟩;go_wp2_with fail;refine (H2.o _).mono ?_;rintro e w' ⟨rfl,m2,rfl⟩;go_wp2
 go_region
 go_wp2;go_ret;exact ⟨rfl,_,rfl⟩
theorem Qz(n:Nat)(hn:n<5000)(w1:World):Calls Tryz.prog 204 #[int i64 (n:Int)] w1 fun e w'=>e=.returned (.tuple #[int i64 ((n / 64:Nat):Int),.int .u64 ((2 ^ (n % 64):Nat):Int)])∧∃ m,w'=w1.drewN m:=by
 refine (Jp n w1 hn).mono ?_;rintro e w' ⟨k,p,he,_,_,hh,hw⟩;obtain ⟨rfl,rfl⟩:=hh.o;exact ⟨he,hw⟩
theorem QS(b:Nat)(s:Nat→Bool)(a:Int)(w:World)(hs:zy w b s)(hf:Fit s):
  Calls Tryz.prog 215 #[pointer (some ⟨b,0,none⟩),int i64 a] w fun e w'=>e=.returned (.bool (decide (0≤a∧a<5000) && !jP s a))∧zy w' b (zaF s a)∧za [b] w w':=by
 by_cases h:0≤a∧a<5000
 ·have hd:decide (0≤a∧a<5000)=true:=by simpa using h
  rw[hd];obtain ⟨n,rfl⟩:=Int.eq_ofNat_of_zero_le h.1;have hn:n<5000:=by omega
  have e2:jP s (n:Int)=s n:=by simp[jP]
  rw[e2];have hh:∀ w1,w1=w→Calls Tryz.prog 134 #[pointer (some ⟨b,0,none⟩),int i64 (n:Int)] w1 fun e w'=>e=.returned (.bool (s n))∧∃ m,w'=w1.drewN m:=by
   intro w1 hw;subst hw;have:=jK b s n w1 hs hf;rw[e2] at this;exact this
  cases hsn:s n
  ·have hp:2 ^ (n % 64)<18446744073709551616:=j4 (Nat.mod_lt _ (by decide))
   have hc:=hs.cell (k:=n / 64) (by omega);rw[hsn] at hh;refine (zf6 b n (n / 64) (2 ^ (n % 64)) (wd s (n / 64)) (wd s (n / 64) ||| 2 ^ (n % 64)) w hn (by omega) (u64_or_nat _ _ (JX s _) hp) hc (hs.frozen _) hh (Qz n hn)).mono ?_;rintro e w' ⟨he,m,hw⟩;subst hw;refine ⟨by rw[he];rfl,?_,?_⟩
   ·rw[zaA s n hn]
    exact (hs.put (ins s n) (n / 64) _ (fun j hj=>zbR s n j hj) (zdO s n)).drewN m
   ·exact (za.setCell [b] w ⟨b,n / 64,none⟩ _ (by simp)).quiet (za.drewN _ _ m)
  ·rw[hsn] at hh
   refine (ziw b n w hn hh).mono ?_;rintro e w' ⟨he,m,hw⟩;subst hw;exact ⟨by rw[he];rfl,by rw[zhg s n hsn];exact hs.drewN m,za.drewN _ _ m⟩
 ·have hd:decide (0≤a∧a<5000)=false:=by simpa using h
  rw[hd];refine (zgA b a w h).mono ?_;rintro e w' ⟨he,hw⟩;subst hw;exact ⟨by rw[he];rfl,by rw[zez s a h];exact hs,za.refl _ _⟩
theorem zhs(pv:Value)(a:Int)(w:World)
  (hh:Calls Tryz.prog 134 #[pv,int i64 a] w fun e w'=>e=.returned (.bool false)∧∃ m,w'=w.drewN m):
  Calls Tryz.prog 211 #[pv,int i64 a] w fun e w'=>e=.returned (.bool false)∧∃ m,w'=w.drewN m:=by
 have H:=hid hh;clear hh;go_enter Tryz.func211,Tryz.ntmps211;go_wp2_with fail;refine H.o.mono ?_;rintro e w' ⟨rfl,m,rfl⟩;go_wp2;go_ret;exact ⟨rfl,_,rfl⟩
theorem zeC(b n k p x z:Nat)(w:World)(hk:k<79)(hz:bits BinOp.andNot IntKind.u64 (x:Int) (p:Int)=(z:Int))(hc:w.cell? ⟨b,k,none⟩=some (.int .u64 x))(hfz:w.frozen? ⟨b,k,none⟩=false)
  (hh:Calls Tryz.prog 134 #[pointer (some ⟨b,0,none⟩),int i64 n] w fun e w'=>e=.returned (.bool true)∧∃ m,w'=w.drewN m)
  (hpl:∀ w1,Calls Tryz.prog 204 #[int i64 n] w1 fun e w'=>e=.returned (.tuple #[int i64 k,.int .u64 p])∧∃ m,w'=w1.drewN m):
  Calls Tryz.prog 211 #[pointer (some ⟨b,0,none⟩),int i64 n] w fun e w'=>e=.returned (.bool true)∧∃ m,w'=(w.setCell ⟨b,k,none⟩ (.int .u64 z)).drewN m:=by
 have H:=hid hh;have H2:=hid hpl;clear hh hpl;go_enter Tryz.func211,Tryz.ntmps211;go_wp2_with fail;refine H.o.mono ?_;rintro e w' ⟨rfl,m,rfl⟩;go_wp2_with fail;refine (H2.o _).mono ?_;rintro e w' ⟨rfl,m2,rfl⟩;go_wp2
 go_region
 go_wp2;go_ret;exact ⟨rfl,_,rfl⟩
theorem zgs(b:Nat)(s:Nat→Bool)(a:Int)(w:World)(hs:zy w b s)(hf:Fit s):
  Calls Tryz.prog 211 #[pointer (some ⟨b,0,none⟩),int i64 a] w fun e w'=>e=.returned (.bool (jP s a))∧zy w' b (zek s a)∧za [b] w w':=by
 have hh:=jK b s a w hs hf;cases hsn:jP s a
 ·rw[hsn] at hh
  refine (zhs _ a w hh).mono ?_;rintro e w' ⟨he,m,hw⟩;subst hw;exact ⟨by rw[he],by rw[zfl s a hsn];exact hs.drewN m,za.drewN _ _ m⟩
 ·rw[hsn] at hh
  have h0:0≤a:=by
   by_cases h0:0≤a
   ·exact h0
   ·simp[jP,h0] at hsn
  obtain ⟨n,rfl⟩:=Int.eq_ofNat_of_zero_le h0;have hsn':s n=true:=by simpa [jP] using hsn
  have hn:n<5000:=by
   apply Nat.lt_of_not_le;intro hle;rw[hf n hle] at hsn';cases hsn'
  have hp:2 ^ (n % 64)<18446744073709551616:=j4 (Nat.mod_lt _ (by decide));have hc:=hs.cell (k:=n / 64) (by omega);refine (zeC b n (n / 64) (2 ^ (n % 64)) (wd s (n / 64)) (wd s (n / 64) &&& (18446744073709551615 - 2 ^ (n % 64))) w (by omega) (u64_andNot_nat _ _ (JX s _) hp) hc (hs.frozen _) hh (Qz n hn)).mono ?_;rintro e w' ⟨he,m,hw⟩;subst hw;refine ⟨by rw[he],?_,?_⟩
  ·rw[ze7 s n]
   exact (hs.put (del s n) (n / 64) _ (fun j hj=>zbq s n j hj) (zck s n)).drewN m
  ·exact (za.setCell [b] w ⟨b,n / 64,none⟩ _ (by simp)).quiet (za.drewN _ _ m)
def QM(l:List Nat):List Int:=l.map fun n:Nat=>(n:Int)
def ZQ(L:List (List Nat)):List (List Int):=L.map QM
theorem qw(l:List Nat):(QM l).length=l.length:=by unfold QM;rw[List.length_map]
theorem qP(L:List (List Nat)):(ZQ L).length=L.length:=by unfold ZQ;rw[List.length_map]
theorem qv(L:List (List Nat))(j:Nat):(ZQ L).getD j []=QM (nb L j):=by
 unfold ZQ nb;rw[List.getD_eq_getElem?_getD,List.getD_eq_getElem?_getD,List.getElem?_map];cases L[j]? <;> rfl
theorem ZK(l:List Nat)(j:Nat):(QM l).getD j 0=((l.getD j 0:Nat):Int):=by
 unfold QM;rw[List.getD_eq_getElem?_getD,List.getD_eq_getElem?_getD,List.getElem?_map];cases l[j]? <;> rfl
def GAt(w:World)(B:Nat)(a:Option Addr)(g:List (List Nat)):Prop:=zb7 w B a (ZQ g)
theorem GAt.kept{g:List (List Nat)}(h:GAt w B a g)(k:za L w w')(hL:∀ x,x∈L→B≤x):GAt w' B a g:=zb7.kept h k hL
theorem GAt.quiet{g:List (List Nat)}(h:GAt w B a g)(k:za [] w w'):GAt w' B a g:=zb7.quiet h k
def NAt(w:World)(B:Nat)(a:Option Addr)(l:List Nat):Prop:=JC w B a (QM l)
theorem NAt.kept{l:List Nat}(h:NAt w B a l)(k:za L w w')(hL:∀ x,x∈L→B≤x):NAt w' B a l:=JC.kept h k hL
theorem GAt.at{g:List (List Nat)}(h:GAt w B a g)(hk:k<g.length):∃ b off ai ci,a=some ⟨b,off,none⟩∧w.cell? ⟨b,off+k,none⟩=some (.slice ai (nb g k).length ci)∧NAt w B ai (nb g k):=by
 obtain ⟨b,off,ai,ci,h1,h2,h3⟩:=zb7.at h (k:=k) (by rw[qP];exact hk);rw[qv,qw] at h2;rw[qv] at h3;exact ⟨b,off,ai,ci,h1,h2,h3⟩
theorem NAt.at{l:List Nat}(h:NAt w B a l)(hk:k<l.length):∃ b off,a=some ⟨b,off,none⟩∧w.cell? ⟨b,off+k,none⟩=some (int i64 ((l.getD k 0:Nat):Int)):=by
 obtain ⟨b,off,h1,h2⟩:=JC.at h (k:=k) (by rw[qw];exact hk);rw[ZK] at h2;exact ⟨b,off,h1,h2⟩
theorem jn{α:Type}(l:List α)(k:Nat)(d:α)(h:k<l.length):l.take (k+1)=l.take k ++ [l.getD k d]:=by
 rw[List.take_succ_eq_append_getElem h,List.getD_eq_getElem?_getD,List.getElem?_eq_getElem h];rfl
theorem QP{α:Type}(l:List α)(k:Nat)(d:α)(h:k<l.length):l.getD k d∈l:=by
 rw[List.getD_eq_getElem?_getD,List.getElem?_eq_getElem h];exact List.getElem_mem h
theorem zba(g:List (List Nat)):∀ (f n:Nat) (st:(Nat→Bool) × List Nat) (m:Nat),st.1 m=true→(vis g f n st).1 m=true
 | 0,_,_,_,h=>h
 | f+1,n,st,m,h=>by
  cases hs:st.1 n with
  | true=>rw[zbe g (f+1) n st hs];exact h
  | false=>
   rw[QB g f n st hs];have go:∀ (ns:List Nat) (t:(Nat→Bool) × List Nat),t.1 m=true→(Qn g f ns t).1 m=true:=by
    intro ns
    induction ns with
    | nil=>intro t ht;exact ht
    | cons a ns ih=>intro t ht;rw[qS];exact ih _ (zba g f a t m ht)
   exact go _ _ (by show (st.1 m || (m == n))=true;rw[h];rfl)
theorem JA(g:List (List Nat))(f:Nat):∀ (ns:List Nat) (st:(Nat→Bool) × List Nat) (m:Nat),st.1 m=true→(Qn g f ns st).1 m=true
 | [],_,_,h=>h
 | a :: ns,st,m,h=>by rw[qS];exact JA g f ns _ m (zba g f a st m h)
theorem Z0(g:List (List Nat))(hg:Ok g):∀ (f n:Nat) (st:(Nat→Bool) × List Nat) (m:Nat),n<g.length→(vis g f n st).1 m=true→st.1 m=true∨m<g.length
 | 0,_,_,_,_,h=>.inl h
 | f+1,n,st,m,hn,h=>by
  cases hs:st.1 n with
  | true=>rw[zbe g (f+1) n st hs] at h;exact .inl h
  | false=>
   rw[QB g f n st hs] at h;have go:∀ (ns:List Nat) (t:(Nat→Bool) × List Nat),(∀ a,a∈ns→a<g.length)→(Qn g f ns t).1 m=true→t.1 m=true∨m<g.length:=by
    intro ns
    induction ns with
    | nil=>intro t _ ht;exact .inl ht
    | cons a ns ih=>
     intro t hns ht;rw[qS] at ht;rcases ih _ (fun x hx=>hns x (by simp[hx])) ht with h1 | h1
     ·exact Z0 g hg f a t m (hns a (by simp)) h1
     ·exact .inr h1
   rcases go _ _ (fun a ha=>hg n a ha) h with h1 | h1
   ·have h2:(st.1 m || (m == n))=true:=h1
    rw[Bool.or_eq_true,beq_iff_eq] at h2;rcases h2 with h2 | h2
    ·exact .inl h2
    ·exact .inr (h2 ▸ hn)
   ·exact .inr h1
theorem JE(g:List (List Nat))(hg:Ok g)(f:Nat):∀ (ns:List Nat) (st:(Nat→Bool) × List Nat) (m:Nat),(∀ a,a∈ns→a<g.length)→(Qn g f ns st).1 m=true→st.1 m=true∨m<g.length
 | [],_,_,_,h=>.inl h
 | a :: ns,st,m,hns,h=>by
  rw[qS] at h;rcases JE g hg f ns _ m (fun x hx=>hns x (by simp[hx])) h with h1 | h1
  ·exact Z0 g hg f a st m (hns a (by simp)) h1
  ·exact .inr h1
theorem zce(g:List (List Nat))(hg:Ok g):∀ (f n:Nat) (st:(Nat→Bool) × List Nat),n<g.length→(vis g f n st).2.length+un g (vis g f n st).1≤st.2.length+un g st.1
 | 0,_,_,_=>Nat.le_refl _
 | f+1,n,st,hn=>by
  cases hs:st.1 n with
  | true=>rw[zbe g (f+1) n st hs];exact Nat.le_refl _
  | false=>
   rw[QB g f n st hs];have hu:=zgh g st.1 n hs hn;have go:∀ (ns:List Nat) (t:(Nat→Bool) × List Nat),(∀ a,a∈ns→a<g.length)→(Qn g f ns t).2.length+un g (Qn g f ns t).1≤t.2.length+un g t.1:=by
    intro ns
    induction ns with
    | nil=>intro t _;exact Nat.le_refl _
    | cons a ns ih=>
     intro t hns;rw[qS];exact Nat.le_trans (ih _ (fun x hx=>hns x (by simp[hx]))) (zce g hg f a t (hns a (by simp)))
   have:=go (nb g n) (ins st.1 n,st.2) (fun a ha=>hg n a ha);generalize Qn g f (nb g n) (ins st.1 n,st.2)=A at this ⊢;have e:A.2.length+un g A.1≤st.2.length+un g (ins st.1 n):=this;show (A.2 ++ [n]).length+un g A.1≤_;rw[List.length_append];have e1:[n].length=1:=rfl;omega
theorem QI(g:List (List Nat))(hg:Ok g)(f:Nat):∀ (ns:List Nat) (st:(Nat→Bool) × List Nat),(∀ a,a∈ns→a<g.length)→(Qn g f ns st).2.length+un g (Qn g f ns st).1≤st.2.length+un g st.1
 | [],_,_=>Nat.le_refl _
 | a :: ns,st,hns=>by
  rw[qS];exact Nat.le_trans (QI g hg f ns _ (fun x hx=>hns x (by simp[hx]))) (zce g hg f a st (hns a (by simp)))
structure Sm (g:List (List Nat)):Prop where
 ok:Ok g
 len:g.length≤600
 short:∀ j,(nb g j).length≤1000
theorem Sm.inner{g:List (List Nat)}(h:Sm g)(j:Nat):(nb g j).length≤1000000:=Nat.le_trans (h.short j) (by decide)
theorem Sm.may{g:List (List Nat)}(h:Sm g):zjD (g.length:Int) (ZQ g):=by
 refine ⟨by omega,by have:=h.len;omega,by rw[qP],fun j _ i hi=> ?_⟩;rw[qv] at hi ⊢;rw[qw] at hi;rw[ZK];have:=h.ok j _ (QP (nb g j) i 0 hi);omega
theorem QR(g:List (List Nat))(hs:Sm g)(a:Option Addr)(cap B:Nat)(w:World)(hG:GAt w B a g):
  Calls Tryz.prog 132 #[agg #[int i64 (g.length:Int),.slice a g.length cap]] w fun e w'=>e=.returned (.bool true)∧za [] w w':=by
 refine (zfv (g.length:Int) a g.length cap B (ZQ g) w hG (qP g) (by omega) (by have:=hs.len;omega) rfl (fun j=>by rw[qv,qw];exact hs.inner j)).mono ?_;rintro e w' ⟨h | h,hk⟩
 ·exact ⟨h.1,hk⟩
 ·exact absurd hs.may h.2
theorem zgi(w:World)(base:Nat):w.ownsRow base 3 1 (.slice none 0 0) ([]:List Nat).length (jB []):=World.ownsRow_nil w _ _ _
structure zX (w:World) (b:Nat) (x y:Value):Prop where
 heap:w.heap[b]? = some (.cells #[x,y] 195 (0,0))
theorem zX.c0(h:zX w b x y):w.cell? ⟨b,0,none⟩=some x:=by rw[cell_of_row w b 0 _ _ _ h.heap];rfl
theorem zX.c1(h:zX w b x y):w.cell? ⟨b,1,none⟩=some y:=by rw[cell_of_row w b 1 _ _ _ h.heap];rfl
theorem zX.frozen(h:zX w b x y)(k:Nat):w.frozen? ⟨b,k,none⟩=false:=frozen_of_row w b k _ _ h.heap
theorem zX.lt(h:zX w b x y):b<w.heap.size:=(Array.getElem?_eq_some_iff.1 h.heap).1
theorem zX.kept(h:zX w b x y)(k:za L w w')(hb:b ∉ L):zX w' b x y:=⟨by rw[k.block b h.lt hb];exact h.heap⟩
theorem zX.new(w:World)(x y:Value):zX (w.alloc (.cells #[x,y] 195)) w.heap.size x y:=⟨heap_alloc_new w _⟩
def Sub(w w':World):Prop:=∀ p v,w.cell? p=some v→w'.cell? p=some v
theorem Sub.of(k:za [] w w'):Sub w w':=fun _ _ h=>zb k h
def za6{α:Type}(R:World→Nat→Nat→α→Prop):Prop:=∀ w w' b o y,Sub w w'→R w b o y→R w' b o y
theorem zv.sub{α:Type}{R:World→Nat→Nat→α→Prop}{l:List α}(h:zv w c R a l)(hR:za6 R)(k:Sub w w'):zv w' c R a l:=by
 rcases h with h | ⟨b,off,h1,h2⟩
 ·exact .inl h
 ·exact .inr ⟨b,off,h1,fun j y hy=>hR w w' b _ y k (h2 j y hy)⟩
theorem zH.sub:za6 zH:=fun _ _ _ _ _ k h=>⟨k _ _ h.1,h.2⟩
theorem SlC.sub{α:Type}{R:World→Nat→Nat→α→Prop}(hR:za6 R):za6 (SlC c R):=by
 rintro w w' b o l k ⟨a,cp,h1,h2,h3⟩;exact ⟨a,cp,k _ _ h1,h2.sub hR k,h3⟩
theorem j7.sub:za6 j7:=SlC.sub zH.sub
theorem TyC.sub:za6 TyC:=fun _ _ _ _ _ k h=>⟨zH.sub _ _ _ _ _ k h.c0,zH.sub _ _ _ _ _ k h.c1⟩
theorem TysC.sub:za6 (SlC 2 TyC):=SlC.sub TyC.sub
theorem InC.sub:za6 InC:=fun _ _ _ _ _ k h=>⟨zH.sub _ _ _ _ _ k h.c0,zH.sub _ _ _ _ _ k h.c1,zH.sub _ _ _ _ _ k h.c2,zH.sub _ _ _ _ _ k h.c3,zH.sub _ _ _ _ _ k h.c4,j7.sub _ _ _ _ _ k h.c5⟩
theorem BlC.sub:za6 BlC:=fun _ _ _ _ _ k h=>⟨SlC.sub InC.sub _ _ _ _ _ k h.c0,zH.sub _ _ _ _ _ k h.c1,zH.sub _ _ _ _ _ k h.c2,zH.sub _ _ _ _ _ k h.c3,zH.sub _ _ _ _ _ k h.c4⟩
theorem FuC.sub:za6 FuC:=fun _ _ _ _ _ k h=>⟨zH.sub _ _ _ _ _ k h.c0,TysC.sub _ _ _ _ _ k h.c1,SlC.sub BlC.sub _ _ _ _ _ k h.c2⟩
theorem SgC.sub:za6 SgC:=fun _ _ _ _ _ k h=>⟨TysC.sub _ _ _ _ _ k h.c0,zH.sub _ _ _ _ _ k h.c1,zH.sub _ _ _ _ _ k h.c2⟩
theorem ImC.sub:za6 ImC:=fun _ _ _ _ _ k h=>⟨zH.sub _ _ _ _ _ k h.c0,zH.sub _ _ _ _ _ k h.c1,j7.sub _ _ _ _ _ k h.c2⟩
theorem PrC.sub:za6 PrC:=fun _ _ _ _ _ k h=>⟨SlC.sub TysC.sub _ _ _ _ _ k h.c0,SlC.sub SgC.sub _ _ _ _ _ k h.c1,SlC.sub j7.sub _ _ _ _ _ k h.c2,SlC.sub ImC.sub _ _ _ _ _ k h.c3,SlC.sub FuC.sub _ _ _ _ _ k h.c4,zH.sub _ _ _ _ _ k h.c5⟩
def Jv(B:Nat)(w:World):World:={ w with heap:=w.heap.mapIdx fun i o=>if i<B then .cells #[] 0 (0,0) else o }
theorem Qm(B:Nat)(w:World)(k:Nat):(Jv B w).heap[k]? = (w.heap[k]?).map fun o=>if k<B then Obj.cells #[] 0 (0,0) else o:=by
 unfold Jv;rw[Array.getElem?_mapIdx]
theorem zay(h:B≤k):(Jv B w).heap[k]? = w.heap[k]? := by
 rw[Qm];have:¬ k<B:=by omega
 simp[this]
theorem Qp{p:Addr}(h:(Jv B w).cell? p=some v):B≤p.block∧w.cell? p=some v:=by
 by_cases hb:p.block<B
 ·exfalso
  unfold World.cell? at h;rw[Qm] at h;cases e:w.heap[p.block]? with
  | none=>rw[e] at h;simp at h
  | some o=>rw[e] at h;simp[hb] at h
 ·refine ⟨by omega,?_⟩
  rw[← World.cell?_of_block (w:=w) (zay (show B≤p.block by omega))];exact h
theorem zdY{p:Addr}(hb:B≤p.block)(h:w.cell? p=some v):(Jv B w).cell? p=some v:=by
 rw[World.cell?_of_block (w:=w) (zay hb)];exact h
theorem Sub.all(B:Nat)(w:World):Sub (Jv B w) w:=fun _ _ e=>(Qp e).2
theorem Sub.kept(k:za L w w')(h:∀ x,x∈L→x<B):Sub (Jv B w) (Jv B w'):=fun p _ e=>by
 obtain ⟨h1,h2⟩:=Qp e;refine zdY h1 ?_;rw[k.cell (block_lt_of_cell h2) (fun hm=>by have:=h _ hm;omega)];exact h2
theorem Sub.trans{a b c:World}(h:Sub a b)(k:Sub b c):Sub a c:=fun p v e=>k p v (h p v e)
def zdR{α:Type}(V:World→Value→α→Prop):Prop:=∀ w w' v y,Sub w w'→V w v y→V w' v y
theorem SlV.sub{α:Type}{R:World→Nat→Nat→α→Prop}(hR:za6 R):zdR (SlV c R):=by
 rintro w w' v l k ⟨a,cp,h1,h2,h3⟩;exact ⟨a,cp,h1,h2.sub hR k,h3⟩
theorem QZ.sub:zdR QZ:=SlV.sub zH.sub
theorem zeh.sub:zdR zeh:=SlV.sub TyC.sub
theorem ziC.sub:zdR ziC:=SlV.sub InC.sub
theorem zja.sub:zdR zja:=SlV.sub BlC.sub
theorem SgV.sub:zdR SgV:=by
 rintro w w' v x k ⟨a,cp,h1,h2,h3⟩;exact ⟨a,cp,h1,zeh.sub _ _ _ _ k h2,h3⟩
theorem IfV.sub:zdR IfV:=by
 rintro w w' v x k ⟨a,cp,h1,h2⟩;exact ⟨a,cp,h1,QZ.sub _ _ _ _ k h2⟩
theorem ImV.sub:zdR ImV:=by
 rintro w w' v x k ⟨a,cp,h1,h2,h3,h4⟩;exact ⟨a,cp,h1,h2,h3,QZ.sub _ _ _ _ k h4⟩
theorem InV.sub:zdR InV:=by
 rintro w w' v x k ⟨a,cp,h1,h2,h3,h4,h5,h6,h7⟩;exact ⟨a,cp,h1,h2,h3,h4,h5,h6,QZ.sub _ _ _ _ k h7⟩
theorem BlV.sub:zdR BlV:=by
 rintro w w' v x k ⟨a,cp,h1,h2,h3⟩;exact ⟨a,cp,h1,ziC.sub _ _ _ _ k h2,h3⟩
theorem FuV.sub:zdR FuV:=by
 rintro w w' v x k ⟨a,cp,a',cp',h1,h2,h3,h4⟩;exact ⟨a,cp,a',cp',h1,h2,zeh.sub _ _ _ _ k h3,zja.sub _ _ _ _ k h4⟩
theorem SlV.cell{α:Type}{R:World→Nat→Nat→α→Prop}{cp:Nat}{l:List α}(h:SlV c R w (.slice a l.length cp) l)(hc:w.cell? ⟨b,o,none⟩=some (.slice a l.length cp)):SlC c R w b o l:=by
 obtain ⟨_,h1⟩:=h.slice;exact ⟨a,cp,hc,h1⟩
structure StC (w:World) (b o:Nat) (s:St):Prop where
 c0:w.cell? ⟨b,o,none⟩=some (int i64 (s.p:Int))
 c1:w.cell? ⟨b,o+1,none⟩=some (int i64 s.r)
 c2:w.cell? ⟨b,o+2,none⟩=some (int i64 (s.c:Int))
 c3:w.cell? ⟨b,o+3,none⟩=some (int i64 (s.n:Int))
theorem StC.stays:jL StC:=fun _ _ _ _ _ k h=>⟨zb k h.c0,zb k h.c1,zb k h.c2,zb k h.c3⟩
structure SmN (P:Pr8):Prop where
 fn:P.funcs.length≤12
 pt:(pts P).length≤150
 rg:∀ f,f<P.funcs.length→(zf P f).regs.length≤16
 fl:∀ r,zcd P r≤1000
theorem SmN.st(h:SmN P):(zcf P).length≤150:=Nat.le_trans (zaa P _) h.pt
theorem SmN.beg(h:SmN P)(hk:k≤P.funcs.length):jQ P k≤204:=by
 have h1:=zdl P h.rg k hk;have h2:=h.fn;have:(16+1) * k≤17 * 12:=Nat.mul_le_mul_left _ (by omega);omega
theorem SmN.nodes(h:SmN P)(hk:k≤(pts P).length):(stN P k).2≤150204:=by
 have h1:=zfX P h.fl k;have h2:=h.beg (Nat.le_refl _);have h3:=h.pt;have:1000 * k≤1000 * 150:=Nat.mul_le_mul_left _ (by omega);omega
structure TbC (w:World) (tb:Nat) (P:Pr8):Prop where
 bs:∃ a cp,w.cell? ⟨tb,0,none⟩=some (.slice a (P.funcs.length+1) cp)∧zw w a (ze9 P P.funcs.length)
 ss:∃ a cp,w.cell? ⟨tb,1,none⟩=some (.slice a (zcf P).length cp)∧zv w 4 StC a (zcf P)
 nn:w.cell? ⟨tb,2,none⟩=some (int i64 (zcy P:Int))
theorem TbC.quiet(h:TbC w tb P)(k:za [] w w'):TbC w' tb P:=by
 obtain ⟨a,cp,h1,h2⟩:=h.bs;obtain ⟨b,cq,h3,h4⟩:=h.ss;exact ⟨⟨a,cp,zb k h1,h2.kept k (fun _ _ _=>by simp)⟩,⟨b,cq,zb k h3,h4.quiet StC.stays k⟩,zb k h.nn⟩
theorem TbC.beg(h:TbC w tb P):∃ b o cp,w.cell? ⟨tb,0,none⟩=some (.slice (some ⟨b,o,none⟩) (P.funcs.length+1) cp)∧∀ f,f≤P.funcs.length→w.cell? ⟨b,o+f,none⟩=some (int i64 (jQ P f:Int)):=by
 obtain ⟨a,cp,h1,h2⟩:=h.bs;rcases h2 with h2 | ⟨b,o,rfl,h2⟩
 ·have:=congrArg List.length h2
  rw[Q5] at this;simp at this
 ·refine ⟨b,o,cp,h1,fun f hf=> ?_⟩
  have:=h2 f (by rw[Q5];omega);rw[List.getD_eq_getElem?_getD,zav P hf] at this;exact this
theorem zax(w:World)(f:Int):Calls Tryz.prog 73 #[.pointer none,int i64 f] w fun e w'=>e=.returned (.bool false)∧w'=w:=by
 go_enter Tryz.func73,Tryz.ntmps73;go_wp2;go_ret;exact ⟨rfl,rfl⟩
theorem zan(h:TbC w tb P)(hs:SmN P)(f:Int):Calls Tryz.prog 73 #[pointer (some ⟨tb,0,none⟩),int i64 f] w fun e w'=>e=.returned (.bool (isF P f))∧w'=w:=by
 obtain ⟨b,o,cp,h1, -⟩:=h.beg;have h2:=hs.fn;unfold isF;clear h hs;generalize P.funcs.length=n at *;by_cases g1:0≤f
 ·by_cases g2:f<(n:Int)
  ·have g3:f<((n+1:Nat):Int) - 1:=by omega
   rw[decide_eq_true g1,decide_eq_true g2];go_enter Tryz.func73,Tryz.ntmps73;go_wp2;go_ret;exact ⟨rfl,rfl⟩
  ·have g3:¬ f<((n+1:Nat):Int) - 1:=by omega
   rw[decide_eq_true g1,decide_eq_false g2];go_enter Tryz.func73,Tryz.ntmps73;go_wp2;go_ret;exact ⟨rfl,rfl⟩
 ·rw[decide_eq_false g1]
  go_enter Tryz.func73,Tryz.ntmps73;go_wp2;go_ret;exact ⟨rfl,rfl⟩
theorem zf7(w:World)(f:Int):Calls Tryz.prog 40 #[.pointer none,int i64 f] w fun e w'=>e=.returned (int i64 (-1))∧w'=w:=by
 go_enter Tryz.func40,Tryz.ntmps40;go_wp2_with fail;refine (zax w f).mono ?_;rintro e w1 ⟨rfl,rfl⟩;go_wp2_with fail;go_ret;exact ⟨rfl,rfl⟩
theorem zaK(h:TbC w tb P)(hs:SmN P)(f:Int):Calls Tryz.prog 40 #[pointer (some ⟨tb,0,none⟩),int i64 f] w fun e w'=>e=.returned (int i64 (zeS P f))∧w'=w:=by
 have hc:=hid (zan h hs f);unfold zeS;by_cases g:isF P f=true
 ·rw[if_pos g]
  rw[g] at hc;obtain ⟨b,o,cp,h1,h2⟩:=h.beg;have g':=g;unfold isF at g';rw[Bool.and_eq_true] at g';have g1:=of_decide_eq_true g'.1;have g2:=of_decide_eq_true g'.2;obtain ⟨k,rfl⟩:∃ k:Nat,f=(k:Int):=⟨f.toNat,by omega⟩;have h3:=h2 (k+1) (by omega);have h5:=hs.beg (k:=k+1) (by omega);have h4:=hs.fn;rw[Int.toNat_natCast];have e:jQ P (k+1)=jQ P k+((zf P k).regs.length+1):=rfl;rw[e] at h3 h5;generalize jQ P k=x at *;generalize (zf P k).regs.length=y at *;clear h h2 hs g' e;generalize P.funcs.length=n at *;have g3:(k:Int)+1<((n+1:Nat):Int):=by omega
  go_enter Tryz.func40,Tryz.ntmps40;go_wp2_with fail;refine hc.o.mono ?_;rintro e w1 ⟨rfl,rfl⟩;go_wp2_with fail;go_ret;exact ⟨by go_num,rfl⟩
 ·rw[if_neg g]
  rw[Bool.not_eq_true] at g;rw[g] at hc;clear h hs;go_enter Tryz.func40,Tryz.ntmps40;go_wp2_with fail;refine hc.o.mono ?_;rintro e w1 ⟨rfl,rfl⟩;go_wp2_with fail;go_ret;exact ⟨rfl,rfl⟩
structure zj6 (w:World) (pb po:Nat) (P:Pr8) (fa:Option Addr) (fcp:Nat):Prop where
 cell:w.cell? ⟨pb,po+4,none⟩=some (.slice fa P.funcs.length fcp)
 rows:zv w 3 FuC fa P.funcs
 cap:P.funcs.length≤fcp
 len:P.funcs.length≤maxLen
theorem PrC.fns{pb po:Nat}(h:PrC w pb po P):∃ fa fcp,zj6 w pb po P fa fcp:=by
 obtain ⟨fa,fcp,h1,h2,h3,h4⟩:=h.c4;exact ⟨fa,fcp,h1,h2,h3,h4⟩
structure zfp (w:World) (fb fo:Nat) (P:Pr8) (f:Nat) (ba:Option Addr) (bcp:Nat):Prop where
 cell:w.cell? ⟨fb,fo+f * 3+2,none⟩=some (.slice ba (zf P f).blocks.length bcp)
 rows:zv w 5 BlC ba (zf P f).blocks
 cap:(zf P f).blocks.length≤bcp
 len:(zf P f).blocks.length≤maxLen
theorem zi{α:Type}{l:List α}{d:α}(h:k<l.length):l[k]? = some (l.getD k d):=by
 rw[List.getD_eq_getElem?_getD,List.getElem?_eq_getElem h];rfl
theorem zj6.at{pb po:Nat}{fa:Option Addr}{fcp:Nat}(h:zj6 w pb po P fa fcp)(hf:f<P.funcs.length):∃ fb fo ba bcp,fa=some ⟨fb,fo,none⟩∧zfp w fb fo P f ba bcp:=by
 obtain ⟨fb,fo,h1,h2⟩:=h.rows.at (zi (d:=⟨0,[],[]⟩) hf);obtain ⟨ba,bcp,g1,g2,g3,g4⟩:=h2.c2;exact ⟨fb,fo,ba,bcp,h1,g1,g2,g3,g4⟩
theorem zfp.at{fb fo:Nat}{ba:Option Addr}{bcp:Nat}(h:zfp w fb fo P f ba bcp)(hb:b<(zf P f).blocks.length):∃ bb bo,ba=some ⟨bb,bo,none⟩∧BlC w bb (bo+b * 5) (zq (zf P f) b):=by
 have e:(zf P f).blocks[b]? = some (zq (zf P f) b):=zi hb;exact h.rows.at e
theorem Z1(bb o n cp:Nat)(a:Option Addr)(w:World)(h:w.cell? ⟨bb,o,none⟩=some (.slice a n cp))(hn:n≤1000):
  Calls Tryz.prog 99 #[pointer (some ⟨bb,o,none⟩)] w fun e w'=>e=.returned (int i64 ((n+1:Nat):Int))∧w'=w:=by
 have h1:(n:Int)≤1000:=by omega
 go_enter Tryz.func99,Tryz.ntmps99;go_wp2;go_ret;exact ⟨by go_num,rfl⟩
def ZZ(x:Fu8)(m:Nat):Nat:=(ptF x 0 m).length
theorem zab(x:Fu8)(f m:Nat):(ptF x f m).length=ZZ x m:=by
 unfold ZZ
 induction m with
 | zero=>rfl
 | succ m ih=>rw[qr,qr,List.length_append,List.length_append,ZO,ZO,ih]
theorem qO(x:Fu8)(m:Nat):ZZ x (m+1)=ZZ x m+((zq x m).code.length+1):=by
 unfold ZZ;rw[qr,List.length_append,ZO]
theorem Jf(x:Fu8){m:Nat}(h:m≤n):ZZ x m≤ZZ x n:=by
 induction n with
 | zero=>rw[show m=0 by omega];exact Nat.le_refl _
 | succ n ih=>
  by_cases e:m=n+1
  ·rw[e];exact Nat.le_refl _
  ·have:=ih (by omega)
   rw[qO];omega
def JG(P:Pr8)(k:Nat):Nat:=(ptP P k).length
theorem jR(P:Pr8)(k:Nat):JG P (k+1)=JG P k+ZZ (zf P k) (zf P k).blocks.length:=by
 unfold JG;rw[jc,List.length_append,zab]
theorem Js(P:Pr8){m:Nat}(h:m≤n):JG P m≤JG P n:=by
 induction n with
 | zero=>rw[show m=0 by omega];exact Nat.le_refl _
 | succ n ih=>
  by_cases e:m=n+1
  ·rw[e];exact Nat.le_refl _
  ·have:=ih (by omega)
   rw[jR];omega
theorem zeN(P:Pr8)(f b i:Nat):J4 P f b i=JG P f+ZZ (zf P f) b+i:=by
 unfold J4;rw[zab];rfl
theorem zaf(P:Pr8):(pts P).length=JG P P.funcs.length:=rfl
theorem SlC.len{α:Type}{R:World→Nat→Nat→α→Prop}{l:List α}(h:SlC c R w b o l):∃ a cp,w.cell? ⟨b,o,none⟩=some (.slice a l.length cp):=by
 obtain ⟨a,cp,h1,_⟩:=h;exact ⟨a,cp,h1⟩
theorem zx{p:Nat}{o:Obj}(h:w.heap[p]? = some o):p<w.heap.size:=by
 rw[Array.getElem?_eq_some_iff] at h;exact h.1
theorem zd(w:World)(o:Obj):(w.alloc o).heap[w.heap.size]? = some o:=heap_alloc_new w o
theorem ze{s:Nat}{o:Obj}(h:w.heap[s]? = some o)(k:za [] w w'):w'.heap[s]? = some o:=(k.block s (zx h) (by simp)).trans h
theorem zc{cs:Array Value}(h:w.heap[b]? = some (.cells cs T (0,0)))(j:Nat):w.cell? ⟨b,j,none⟩=cs[j]? := Lib.cell_of_heap h j
theorem zg{cs:Array Value}(h:w.heap[b]? = some (.cells cs T (0,0)))(j:Nat):w.frozen? ⟨b,j,none⟩=false:=Lib.frozen_of_heap h j
theorem JF{z:Value}(h:w.heap[b]? = some (.cells #[x,y,z] T (0,0)))(u0 u1 u2:Value):
  (((w.setCell ⟨b,0,none⟩ u0).setCell ⟨b,1,none⟩ u1).setCell ⟨b,2,none⟩ u2).heap[b]? = some (.cells #[u0,u1,u2] T (0,0)):=
 heap_setCell_same _ b 2 _ _ u2 (heap_setCell_same _ b 1 _ _ u1 (heap_setCell_same w b 0 _ _ u0 h))
theorem jF(w:World)(b:Nat)(u0 u1 u2:Value):za [b] w (((w.setCell ⟨b,0,none⟩ u0).setCell ⟨b,1,none⟩ u1).setCell ⟨b,2,none⟩ u2):=
 ((za.setCell [b] _ _ _ (List.mem_singleton.2 rfl)).step (za.setCell [b] _ _ _ (List.mem_singleton.2 rfl))).step (za.setCell [b] _ _ _ (List.mem_singleton.2 rfl))
structure PtC (w:World) (b o:Nat) (q:Nat × Nat × Nat):Prop where
 c0:w.cell? ⟨b,o,none⟩=some (int i64 (q.1:Int))
 c1:w.cell? ⟨b,o+1,none⟩=some (int i64 (q.2.1:Int))
 c2:w.cell? ⟨b,o+2,none⟩=some (int i64 (q.2.2:Int))
theorem PtC.stays:jL PtC:=fun _ _ _ _ _ k h=>⟨zb k h.c0,zb k h.c1,zb k h.c2⟩
def Z4(l:List (Nat × Nat × Nat)):List Value:=l.flatMap fun q=>[int i64 (q.1:Int),int i64 (q.2.1:Int),int i64 (q.2.2:Int)]
theorem zdW(l:List (Nat × Nat × Nat))(f b i:Nat):Z4 (l ++ [(f,b,i)])=Z4 l ++ [int i64 (f:Int),int i64 (b:Int),int i64 (i:Int)]:=by
 unfold Z4;rw[List.flatMap_append];rfl
theorem zeQ(l:List (Nat × Nat × Nat)):(Z4 l).length=l.length * 3:=by
 induction l with
 | nil=>rfl
 | cons q l ih=>
  have:Z4 (q :: l)=[int i64 (q.1:Int),int i64 (q.2.1:Int),int i64 (q.2.2:Int)] ++ Z4 l:=rfl;rw[this,List.length_append,ih,List.length_cons];show 3+l.length * 3=(l.length+1) * 3;omega
theorem zfM(l:List (Nat × Nat × Nat)):∀ (j:Nat) (q:Nat × Nat × Nat),l[j]? = some q→(Z4 l)[j * 3]? = some (int i64 (q.1:Int))∧(Z4 l)[j * 3+1]? = some (int i64 (q.2.1:Int))∧(Z4 l)[j * 3+2]? = some (int i64 (q.2.2:Int)):=by
 induction l with
 | nil=>intro j q h;simp at h
 | cons p l ih=>
  intro j q h;have e:Z4 (p :: l)=[int i64 (p.1:Int),int i64 (p.2.1:Int),int i64 (p.2.2:Int)] ++ Z4 l:=rfl;cases j with
  | zero=>
   simp at h;subst h;rw[e];exact ⟨rfl,rfl,rfl⟩
  | succ j=>
   have h':=ih j q (by simpa using h);rw[e,show (j+1) * 3=j * 3+3 by omega];refine ⟨?_,?_,?_⟩ <;> rw[List.getElem?_append_right (by simp)]
   ·exact h'.1
   ·rw[show j * 3+3+1 - [Value.int .i64 (p.1:Int),int i64 (p.2.1:Int),int i64 (p.2.2:Int)].length=j * 3+1 by simp]
    exact h'.2.1
   ·rw[show j * 3+3+2 - [Value.int .i64 (p.1:Int),int i64 (p.2.1:Int),int i64 (p.2.2:Int)].length=j * 3+2 by simp]
    exact h'.2.2
theorem zfa{base:Nat}{l:List (Nat × Nat × Nat)}(h:w.ownsRow base 99 3 v n (Z4 l)):∃ a cp,v=.slice a n cp∧n=l.length∧zv w 3 PtC a l∧l.length≤cp:=by
 have hl:n=l.length:=by have:=h.1;rw[zeQ] at this;omega
 rcases h.2 with ⟨rfl,h0⟩ | ⟨g,cap,cur,rfl,_,hg,hle,_,hs,ht⟩
 ·subst h0
  exact ⟨none,0,rfl,hl,.inl (List.eq_nil_of_length_eq_zero hl.symm),by omega⟩
 ·refine ⟨_,cap,rfl,hl,.inr ⟨g,0,rfl,fun j q hq=> ?_⟩,by omega⟩
  have hj:j<l.length:=by
   rcases Nat.lt_or_ge j l.length with h | h
   ·exact h
   ·rw[List.getElem?_eq_none h] at hq;cases hq
  have key:∀ i,i<n * 3→w.cell? ⟨g,i,none⟩=(Z4 l)[i]? := fun i hi=>by
   rw[cell_of_row w g i cur _ _ hg, ← ht,List.getElem?_take,if_pos hi];simp
  obtain ⟨g0,g1,g2⟩:=zfM l j q hq;rw[Nat.zero_add];exact ⟨(key _ (by omega)).trans g0,(key _ (by omega)).trans g1,(key _ (by omega)).trans g2⟩
theorem zgy:Tryz.t99.zero=some (agg #[int i64 0,int i64 0,int i64 0]):=by kernel_rfl
theorem zhE:Tryz.t99.size=3:=by kernel_rfl
theorem zf1:Tryz.t99.bytes=24:=by kernel_rfl
theorem zgC:Tryz.prog.info? 99=some Tryz.t99:=by kernel_rfl
theorem zdn:Tryz.prog.underlying 100=some (.slice 99):=by kernel_rfl
theorem zeb(x y z:Int):∀ u∈[Value.int .i64 x,int i64 y,int i64 z],u.oneCell'=true:=by
 intro u hu;simp at hu;rcases hu with rfl | rfl | rfl <;> rfl
def Z9(l:List Int):List Value:=l.map fun z=>int i64 z
theorem Z8(l:List Int):(Z9 l).length=l.length:=by unfold Z9;rw[List.length_map]
theorem QO(l:List Int):∀ u∈Z9 l,u.oneCell'=true:=by
 intro u hu;unfold Z9 at hu;rw[List.mem_map] at hu;obtain ⟨z,_,rfl⟩:=hu;rfl
theorem ZR{base:Nat}{l:List Int}(h:w.ownsRow base 3 1 v n (Z9 l)):∃ a cp,v=.slice a n cp∧n=l.length∧zw w a l∧n≤cp∧∀ b off,a=some ⟨b,off,none⟩→base≤b:=by
 have hl:n=l.length:=by have:=h.1;rw[Z8] at this;omega
 rcases h.2 with ⟨rfl,h0⟩ | ⟨g,cap,cur,rfl,hbs,hg,hle,_,hs,ht⟩
 ·subst h0
  exact ⟨none,0,rfl,hl,.inl (List.eq_nil_of_length_eq_zero hl.symm),by omega,fun _ _ e=>by cases e⟩
 ·refine ⟨_,cap,rfl,hl,.inr ⟨g,0,rfl,fun i hi=> ?_⟩,hle,fun b off e=>by cases e;assumption⟩
  rw[Nat.zero_add,cell_of_row w g i cur _ _ hg];have e2:(cur.toList.take (n * 1))[i]? = cur.toList[i]? := by rw[List.getElem?_take,if_pos (by omega)]
  have e1:cur[i]? = cur.toList[i]? := by simp
  rw[e1, ← e2,ht];unfold Z9;rw[List.getElem?_map,List.getElem?_eq_getElem hi,List.getD_eq_getElem?_getD,List.getElem?_eq_getElem hi];rfl
theorem zdv{off:Nat}{l:List Int}(h:∀ i,i<l.length→w.cell? ⟨b,off+i,none⟩=some (int i64 (l.getD i 0))):∀ j u,(Z9 l)[j]? = some u→w.cell? ((⟨b,off,none⟩:Addr).add j)=some u:=by
 intro j u hu;have hadd:(⟨b,off,none⟩:Addr).add j=⟨b,off+j,none⟩:=by unfold Addr.add;by_cases e:j=0 <;> simp[e]
 unfold Z9 at hu;rw[List.getElem?_map] at hu;by_cases hj:j<l.length
 ·rw[hadd,h j hj]
  rw[List.getElem?_eq_getElem hj] at hu;simp at hu;rw[List.getD_eq_getElem?_getD,List.getElem?_eq_getElem hj, ← hu];rfl
 ·rw[List.getElem?_eq_none (by omega)] at hu
  cases hu
def ptV(f b i:Int):Value:=agg #[int i64 f,int i64 b,int i64 i]
abbrev zhJ (n:Int):Prop:=b64 n
def zt(x:In8)(ar:Value):Value:=agg #[int i64 x.op,int i64 x.dst,int i64 x.a,int i64 x.b,int i64 x.n,ar]
structure InW (w:World) (q:Nat) (x:In8) (ar:Value):Prop where
 c0:w.cell? ⟨q,0,none⟩=some (int i64 x.op)
 c1:w.cell? ⟨q,1,none⟩=some (int i64 x.dst)
 c2:w.cell? ⟨q,2,none⟩=some (int i64 x.a)
 c3:w.cell? ⟨q,3,none⟩=some (int i64 x.b)
 c4:w.cell? ⟨q,4,none⟩=some (int i64 x.n)
 c5:w.cell? ⟨q,5,none⟩=some ar
theorem InW.stays{q:Nat}{x:In8}{ar:Value}(h:InW w q x ar)(k:za [] w w'):InW w' q x ar:=
 ⟨zb k h.c0,zb k h.c1,zb k h.c2,zb k h.c3,zb k h.c4,zb k h.c5⟩
theorem InW.new(w:World)(x:In8)(ar:Value)(t:TypeId):InW (w.alloc (.cells #[int i64 x.op,int i64 x.dst,int i64 x.a,int i64 x.b,int i64 x.n,ar] t)) w.heap.size x ar:=by
 constructor <;> rw[World.cell?_alloc_at _ _ _ _ rfl] <;> rfl
structure zkj (x:In8):Prop where
 op:zhJ x.op
 dst:zhJ x.dst
 a:zhJ x.a
 b:zhJ x.b
 n:zhJ x.n
 args:∀ z,z∈x.args→zhJ z
theorem eqb{a b:Int}(h:a=b):(a == b)=true:=by simpa using h
theorem neb{a b:Int}(h:a≠b):(a == b)=false:=by simpa using h
theorem InC.open{x:In8}(h:InC w b o x):zkj x∧∃ ar cp,w.cell? ⟨b,o+5,none⟩=some (.slice ar x.args.length cp)∧zw w ar x.args∧x.args.length≤cp:=by
 obtain ⟨ar,cp,h1,h2,h3,_⟩:=h.c5;refine ⟨⟨h.c0.2,h.c1.2,h.c2.2,h.c3.2,h.c4.2,fun z hz=> ?_⟩,ar,cp,h1,qT h2,h3⟩;obtain ⟨i,hi,e⟩:=List.getElem_of_mem hz;obtain ⟨_,_,_,h9⟩:=h2.at (j:=i) (y:=z) (by rw[List.getElem?_eq_getElem hi,e]);exact h9.2
section
variable {P:Program}{ops:Array Oper}{Q:Exit→Act→World→Prop}{md:Region.Mode}{S:World→Prop}
theorem qp{i d:Nat}{oi:Oper}{v:Value}{fuel:Nat}{listed:Array Bool}{a:Act}{w:World}(hi:ops.toList[i]? = some oi)(hd:oi.dst=some d)
  (hs:Region.noSelect ops=true) (hf:Region.free md ops listed i=true) (hr:(Region.ready md ops listed).contains i=true)
  (hQ:∀ c a w,Q (.panic c) (a.put (some d) v) w→Q (.panic c) a w) (hw:Region.wanted oi (yielded ops a.tmps)=true) (hS:S w)
  (hy:∀ w,S w→(execOp a.eval oi).run P w=.ok (.value v) w)
  (h:wpAnyH P md ops Q S fuel (listed.setIfInBounds i true) (a.put (some d) v) w):wpAnyH P md ops Q S (fuel+1) listed a w:=by
 rw[Array.getElem?_toList] at hi;rw[← hd] at hQ h;exact wpAnyH_take hi hs hf hr hQ (Or.inl ⟨hw,hy⟩) hS h
def left(l:Array Bool):Nat:=l.toList.countP fun b=> !b
theorem za3{l:Array Bool}{i:Nat}(h:l.getD i true=false):left (l.setIfInBounds i true)+1=left l:=by
 have hi:i<l.size:=by
  rcases Nat.lt_or_ge i l.size with h' | h'
  ·exact h'
  ·rw[Array.getD_eq_getD_getElem?,Array.getElem?_eq_none h'] at h
   cases h
 have hv:l.toList[i]'(by simpa using hi)=false:=by
  rw[Array.getD_eq_getD_getElem?,Array.getElem?_eq_getElem hi] at h;simpa using h
 unfold left;rw[Array.toList_setIfInBounds,List.countP_set (by simpa using hi),hv];have hp:0<l.toList.countP fun b=> !b:=List.countP_pos_iff.2 ⟨false,by rw[← hv];exact List.getElem_mem _,rfl⟩;simp only[Bool.not_false,if_true,Bool.not_true,Bool.false_eq_true,if_false];omega
theorem qN(I:Array Bool→Act→World→Prop)(hS:∀ l a w,I l a w→S w)(hd:∀ l a w,I l a w→Region.ready md ops l=[]→Q .normal a w)
  (hstep:∀ l a w i,I l a w→i∈Region.ready md ops l→wpOp P ops Q i (I (l.setIfInBounds i true)) a w):
  ∀ (fuel:Nat) (l:Array Bool) (a:Act) (w:World),I l a w→left l≤fuel→wpAnyH P md ops Q S fuel l a w
 | 0,l,a,w,h,hf=>by
  have hr:Region.ready md ops l=[]:=by
   apply List.eq_nil_iff_forall_not_mem.2;intro i hi;have:=za3 (mem_ready.1 hi).1;omega
  exact ⟨hr,hd l a w h hr⟩
 | fuel+1,l,a,w,h,hf=>⟨hd l a w h,fun i hi=>wpOp_mono (fun a' w' h'=>⟨hS _ _ _ h',qN I hS hd hstep fuel _ a' w' h' (by have:=za3 (mem_ready.1 hi).1;omega)⟩) (hstep l a w i h hi)⟩
theorem qd{l:Array Bool}{i:Nat}(h:i∈Region.ready md ops l)(k:Nat)(hk:(ops[i]?).map (fun o=>o.after.toList.any fun e=>Region.binds md e && e.on == k)=some true):l.getD k false=true:=by
 obtain ⟨_,o,ho,hall⟩:=mem_ready.1 h;rw[ho] at hk;simp only[Option.map_some,Option.some.injEq,List.any_eq_true,Bool.and_eq_true,beq_iff_eq] at hk;obtain ⟨e,he,hb,rfl⟩:=hk;exact hall e (Array.mem_toList_iff.1 he) hb
theorem zfD{l:Array Bool}{i:Nat}(h:i∈Region.ready md ops l):i<ops.size:=by
 obtain ⟨_,o,ho,_⟩:=mem_ready.1 h;exact (Array.getElem?_eq_some_iff.1 ho).1
theorem jz{l:Array Bool}{n:Nat}(hl:l.size=n)(h:Region.ready md ops l=[])(hc:(List.range n).all (fun i=>(ops[i]?).isSome && ((ops[i]?).map (fun o=>o.after.all fun e=> !Region.binds md e || decide (e.on<i))).getD false)=true):∀ i,i<n→l.getD i false=true:=by
 intro i
 induction i using Nat.strongRecOn with
 | _ i ih=>
  intro hi;cases hv:l.getD i false with
  | true=>rfl
  | false=>
   exfalso;have hm:i∈Region.ready md ops l:=by
    rw[mem_ready];have h1:=List.all_eq_true.1 hc i (List.mem_range.2 hi);rw[Bool.and_eq_true] at h1;obtain ⟨o,ho⟩:=Option.isSome_iff_exists.1 h1.1;refine ⟨?_,o,ho,fun e he hb=> ?_⟩
    ·rw[Array.getD_eq_getD_getElem?,Array.getElem?_eq_getElem (by omega)] at hv ⊢
     exact hv
    ·have h2:=h1.2
     rw[ho] at h2;have h3:=Array.all_eq_true_iff_forall_mem.1 h2 e he;rw[hb] at h3;exact ih e.on (by simpa using h3) (Nat.lt_trans (by simpa using h3) hi)
   rw[h] at hm;cases hm
theorem zad{i d:Nat}{oi:Oper}{K:Act→World→Prop}{a:Act}{w:World}(hi:ops.toList[i]? = some oi)(hd:oi.dst=some d)
  (hw:Region.wanted oi (yielded ops a.tmps)=true) (f:Nat) (args:Array Value) (he:(execOp a.eval oi).run P w=.ok (.enter f args) w) {R:Value→World→Prop}
  (hc:Calls P f args w fun e w'=>∃ v,e=.returned v∧R v w') (h:∀ v w',R v w'→K (a.put (some d) v) w'):wpOp P ops Q i K a w:=by
 rw[Array.getElem?_toList] at hi;rw[← hd] at h;refine wpOp_step hi (fun K' hK=> ?_);rw[if_pos hw];unfold Oper.wp;rw[he];simp only[Oper.upon];refine Calls.mono hc (fun e w'=> ?_);rintro ⟨v,rfl,hs⟩;exact hK _ _ (h v w' hs)
theorem zdS{i:Nat}{oi:Oper}{K:Act→World→Prop}{a:Act}{w w':World}{v:Value}(hi:ops.toList[i]? = some oi)(hw:Region.wanted oi (yielded ops a.tmps)=true)
  (he:(execOp a.eval oi).run P w=.ok (.value v) w') (h:K (a.put oi.dst v) w'):wpOp P ops Q i K a w:=by
 rw[Array.getElem?_toList] at hi;refine wpOp_step hi (fun K' hK=> ?_);rw[if_pos hw];unfold Oper.wp;rw[he];exact hK _ _ h
theorem zao{i:Nat}{oi:Oper}{K:Act→World→Prop}{a:Act}{w w':World}(hi:ops.toList[i]? = some oi)(hw:Region.wanted oi (yielded ops a.tmps)=true)
  (he:(execOp a.eval oi).run P w=.ok .skip w') (h:K (a.put oi.dst undef) w'):wpOp P ops Q i K a w:=by
 rw[Array.getElem?_toList] at hi;refine wpOp_step hi (fun K' hK=> ?_);rw[if_pos hw];unfold Oper.wp;rw[he];exact hK _ _ h
theorem Zv{ev:Operand→Value}{oi:Oper}{f:Nat}{x y:Operand}{ts:Array TypeId}{v u:Value}{w:World}(ho:oi.op=.call { callee:=.value (.func f),args:=#[x,y],argTypes:=ts })(hf:ev (.func f)=.func (.func f) #[] #[])(hx:ev x=v)(hy:ev y=u)(hc:(callFunc f #[v,u]).run P w=.ok (.enter f #[v,u]) w):(execOp ev oi).run P w=.ok (.enter f #[v,u]) w:=by
 subst hx;subst hy;simp[execOp,ho,hf,go_sem,hc]
end
theorem zbd{α:Type}{l:List α}{d:α}(h:¬ k<l.length):l.getD k d=d:=by rw[List.getD_eq_getElem?_getD,List.getElem?_eq_none (by omega)];rfl
theorem zaZ(w:World):Calls Tryz.prog 35 #[.pointer none] w fun e w'=>e=.returned (int i64 0)∧w'=w:=by
 go_enter Tryz.func35,Tryz.ntmps35;go_wp2;go_ret;exact ⟨rfl,rfl⟩
theorem zet(h:TbC w tb P):Calls Tryz.prog 35 #[pointer (some ⟨tb,0,none⟩)] w fun e w'=>e=.returned (int i64 (zcy P:Int))∧w'=w:=by
 have h1:=h.nn;clear h;go_enter Tryz.func35,Tryz.ntmps35;go_wp2;go_ret;exact ⟨rfl,rfl⟩
theorem Jk(w:World)(t:Int):Calls Tryz.prog 74 #[.pointer none,int i64 t] w fun e w'=>e=.returned (.tuple #[agg #[int i64 0,int i64 0,int i64 0,int i64 0],.bool false])∧za [] w w':=by
 have K:=za.alloc [] w (.cells #[int i64 0,int i64 0,int i64 0,int i64 0] 144);have hn:=zd w (.cells #[int i64 0,int i64 0,int i64 0,int i64 0] 144);have e0:=zc hn 0;have e1:=zc hn 1;have e2:=zc hn 2;have e3:=zc hn 3;clear hn;go_enter Tryz.func74,Tryz.ntmps74;go_wp2_with fail;exact bodyPost_ret (v:=.tuple #[agg #[int i64 0,int i64 0,int i64 0,int i64 0],.bool false]) (by simp[results,Tryz.results74,go_sem,e0,e1,e2,e3]) rfl ⟨rfl,K⟩
end Go.Proofs.YthflgjkmbakedaaGreatDoor
