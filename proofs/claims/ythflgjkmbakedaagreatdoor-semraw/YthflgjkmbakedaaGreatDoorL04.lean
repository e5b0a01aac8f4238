import Derived.Deep.MidRow
import Derived.Great.BuildSlice
import Derived.Deep.WholeRow
import Derived.ChangeKeysEq
import Derived.Test.YthflgjkmbakedaaGreatDoorL03
set_option maxRecDepth 20000
set_option maxHeartbeats 8000000
namespace Go.Proofs.YthflgjkmbakedaaGreatDoor
open Go.Value (int pointer agg)
open Go.IntKind (i64)
open Go.RowKit
theorem j2m{w:World}{a:Option Addr}{cp:Nat}{l:List (List (Int × Int))}(h:z7 w 1 (SlC 2 TyC) a l)(hl:l.length≤1000):Calls Tryz.prog 88 #[.slice a l.length cp] w (CpP w l.length 1 47 fun xs=>l≠[]→∃ b off,a=some ⟨b,off,none⟩∧(∀ m u,xs[m]? = some u→w.cell? ⟨b,off+m,none⟩=some u)∧xs.length=l.length * 1):=by
 cases a with
 | none=>
  have e:l=[]:=by
   rcases h with e | ⟨b,off,e,_⟩
   ·exact e
   ·cases e
  subst e;refine (j1j 0 cp w).mono ?_;rintro e w' ⟨rfl,k⟩;exact ⟨none,0,rfl,.inl ⟨rfl,rfl,rfl⟩,k⟩
 | some ad=>
  by_cases e:l=[]
  ·subst e
   refine (j1k ad 0 cp [] w rfl (fun j u hu=>by simp at hu) (fun u hu=>by cases hu) (by omega)).mono ?_;rintro e w' ⟨g,cap,rfl,own,hg,k⟩;exact ⟨_,cap,rfl,.inr ⟨g,[],rfl,own,hg,fun h=>absurd rfl h⟩,k⟩
  ·rcases h with e' | ⟨b,off,e',hr⟩
   ·exact absurd e' e
   ·cases e'
    obtain ⟨xs,x1,x2,x3⟩:=raws j17 l off hr;refine (j1k ⟨b,off,none⟩ l.length cp xs w x1 (fun j u hu=>by rw[j2f];exact x2 j u hu) x3 (by omega)).mono ?_;rintro e9 w' ⟨g,cap,rfl,own,hg,k⟩;exact ⟨_,cap,rfl,.inr ⟨g,xs,rfl,own,hg,fun _=>⟨b,off,rfl,x2,x1⟩⟩,k⟩
theorem j2n{w:World}{a:Option Addr}{cp:Nat}{l:List (Int × Int × List Int)}(h:z7 w 3 ImC a l)(hl:l.length≤1000):Calls Tryz.prog 89 #[.slice a l.length cp] w (CpP w l.length 3 61 fun xs=>l≠[]→∃ b off,a=some ⟨b,off,none⟩∧(∀ m u,xs[m]? = some u→w.cell? ⟨b,off+m,none⟩=some u)∧xs.length=l.length * 3):=by
 cases a with
 | none=>
  have e:l=[]:=by
   rcases h with e | ⟨b,off,e,_⟩
   ·exact e
   ·cases e
  subst e;refine (j1m 0 cp w).mono ?_;rintro e w' ⟨rfl,k⟩;exact ⟨none,0,rfl,.inl ⟨rfl,rfl,rfl⟩,k⟩
 | some ad=>
  by_cases e:l=[]
  ·subst e
   refine (j1n ad 0 cp [] w rfl (fun j u hu=>by simp at hu) (fun u hu=>by cases hu) (by omega)).mono ?_;rintro e w' ⟨g,cap,rfl,own,hg,k⟩;exact ⟨_,cap,rfl,.inr ⟨g,[],rfl,own,hg,fun h=>absurd rfl h⟩,k⟩
  ·rcases h with e' | ⟨b,off,e',hr⟩
   ·exact absurd e' e
   ·cases e'
    obtain ⟨xs,x1,x2,x3⟩:=raws j2a l off hr;refine (j1n ⟨b,off,none⟩ l.length cp xs w x1 (fun j u hu=>by rw[j2f];exact x2 j u hu) x3 (by omega)).mono ?_;rintro e9 w' ⟨g,cap,rfl,own,hg,k⟩;exact ⟨_,cap,rfl,.inr ⟨g,xs,rfl,own,hg,fun _=>⟨b,off,rfl,x2,x1⟩⟩,k⟩
theorem j2o{w:World}{a:Option Addr}{cp:Nat}{l:List (Fu8)}(h:z7 w 3 FuC a l)(hl:l.length≤1000):Calls Tryz.prog 90 #[.slice a l.length cp] w (CpP w l.length 3 50 fun xs=>l≠[]→∃ b off,a=some ⟨b,off,none⟩∧(∀ m u,xs[m]? = some u→w.cell? ⟨b,off+m,none⟩=some u)∧xs.length=l.length * 3):=by
 cases a with
 | none=>
  have e:l=[]:=by
   rcases h with e | ⟨b,off,e,_⟩
   ·exact e
   ·cases e
  subst e;refine (j1p 0 cp w).mono ?_;rintro e w' ⟨rfl,k⟩;exact ⟨none,0,rfl,.inl ⟨rfl,rfl,rfl⟩,k⟩
 | some ad=>
  by_cases e:l=[]
  ·subst e
   refine (j1q ad 0 cp [] w rfl (fun j u hu=>by simp at hu) (fun u hu=>by cases hu) (by omega)).mono ?_;rintro e w' ⟨g,cap,rfl,own,hg,k⟩;exact ⟨_,cap,rfl,.inr ⟨g,[],rfl,own,hg,fun h=>absurd rfl h⟩,k⟩
  ·rcases h with e' | ⟨b,off,e',hr⟩
   ·exact absurd e' e
   ·cases e'
    obtain ⟨xs,x1,x2,x3⟩:=raws j2b l off hr;refine (j1q ⟨b,off,none⟩ l.length cp xs w x1 (fun j u hu=>by rw[j2f];exact x2 j u hu) x3 (by omega)).mono ?_;rintro e9 w' ⟨g,cap,rfl,own,hg,k⟩;exact ⟨_,cap,rfl,.inr ⟨g,xs,rfl,own,hg,fun _=>⟨b,off,rfl,x2,x1⟩⟩,k⟩
theorem j2p{w:World}{B T c g n cap:Nat}{rs:List Value}(h:w.ownsRow B T c (.slice (some ⟨g,0,none⟩) n cap) n rs):∃ cs,w.heap[g]? = some (.cells cs T (0,0)):=by
 rcases h.2 with ⟨h',_⟩ | ⟨g',cap',cur,h',_,hg,_⟩
 ·simp at h'
 ·simp only[Value.slice.injEq,Option.some.injEq,Addr.mk.injEq,and_true,true_and] at h'
  obtain ⟨rfl,rfl⟩:=h';exact ⟨_,hg⟩
theorem j2q{w:World}{B T c g n cap:Nat}{rs:List Value}(h:w.ownsRow B T c (.slice (some ⟨g,0,none⟩) n cap) n rs){b T':Nat}{cs:Array Value}(hb:w.heap[b]? = some (.cells cs T' (0,0)))(hT:T'≠T):b≠g:=by
 rintro rfl;obtain ⟨cs',h'⟩:=j2p h;rw[hb] at h';simp at h';exact hT h'.2
theorem j2r{w:World}{B B' T c g n cap:Nat}{rs:List Value}(h:w.ownsRow B T c (.slice (some ⟨g,0,none⟩) n cap) n rs)(hB:B'≤B):w.ownsRow B' T c (.slice (some ⟨g,0,none⟩) n cap) n rs:=by
 refine ⟨h.1,?_⟩;rcases h.2 with h' | ⟨g',cap',cur,h',hb,hg⟩
 ·exact .inl h'
 ·exact .inr ⟨g',cap',cur,h',Nat.le_trans hB hb,hg⟩
def LsI{α:Type}(V:World→Value→α→Prop)(c:Nat)(T:TypeId)(w0 wr:World)(A:Nat)(a:Option Addr)(n cap:Nat)(l:List α)(k:Nat)(xs:List Value):Prop:=
 (a=none∧n=0∧cap=0)∨∃ g rs,a=some ⟨g,0,none⟩∧KL V wr A w0.heap.size g n c cap T (l.take k) rs xs∧w0.heap.size≤g∧g<A
theorem LsI.quiet{α:Type}{V:World→Value→α→Prop}(hV:zov V){c:Nat}{T:TypeId}{w0 wr w':World}{A:Nat}{a:Option Addr}{n cap:Nat}{l:List α}{k:Nat}{xs:List Value}(h:LsI V c T w0 wr A a n cap l k xs)(q:zc [] wr w'):LsI V c T w0 w' A a n cap l k xs:=by
 rcases h with h | ⟨g,rs,h1,h2,h3⟩
 ·exact .inl h
 ·exact .inr ⟨g,rs,h1,h2.quiet hV q,h3⟩
theorem LsI.far{α:Type}{V:World→Value→α→Prop}(hV:zov V){c:Nat}{T:TypeId}{w0 wr w':World}{A:Nat}{a:Option Addr}{n cap:Nat}{l:List α}{k:Nat}{xs:List Value}(h:LsI V c T w0 wr A a n cap l k xs){b T':Nat}{cs:Array Value}(q:zc [b] wr w')(hb:b<A)(ht:wr.heap[b]? = some (.cells cs T' (0,0)))(hT:T'≠T):LsI V c T w0 w' A a n cap l k xs:=by
 rcases h with h | ⟨g,rs,h1,h2,h3⟩
 ·exact .inl h
 ·exact .inr ⟨g,rs,h1,h2.far hV q hb (j2q h2.own ht hT),h3⟩
theorem LsI.all{α:Type}{V:World→Value→α→Prop}{R:World→Nat→Nat→α→Prop}{c:Nat}(hV:zov V)(hL:Links c V R){T:TypeId}{w0 wr:World}{A:Nat}{a:Option Addr}{n cap:Nat}{l:List α}{xs:List Value}(h:LsI V c T w0 wr A a n cap l n xs)(hn:n=l.length)(hm:n≤1000):SlV c R (zod w0.heap.size wr) (.slice a l.length cap) l:=by
 rcases h with ⟨rfl,h0,rfl⟩ | ⟨g,rs,rfl,h2,h3,h4⟩
 ·have:l=[]:=List.eq_nil_of_length_eq_zero (by omega)
  subst this;exact ⟨none,0,rfl,.inl rfl,Nat.le_refl _,Nat.zero_le _⟩
 ·subst hn
  rw[List.take_length] at h2;exact h2.rows hV hL (by omega) rfl (by unfold maxLen;omega) h2.own.1.symm
theorem j2s{w wp:World}(k:zc [] w wp){a:Option Addr}{n c:Nat}{xs:List Value}(h:∃ b off,a=some ⟨b,off,none⟩∧(∀ m u,xs[m]? = some u→wp.cell? ⟨b,off+m,none⟩=some u)∧xs.length=n * c):∃ b off,a=some ⟨b,off,none⟩∧∀ m u,m<n * c→w.cell? ⟨b,off+m,none⟩=some u→xs[m]? = some u:=by
 obtain ⟨b,off,h1,h2,h3⟩:=h;exact ⟨b,off,h1,fun m u hm hu=>j2g h3 h2 hm (za k hu)⟩
theorem LsI.zero{α:Type}{V:World→Value→α→Prop}{c:Nat}{T:TypeId}{w0 wc wz:World}{A B:Nat}{a:Option Addr}{n cap:Nat}{l:List α}{hx:List Value→Prop}(d:(a=none∧n=0∧cap=0)∨∃ g xs,a=some ⟨g,0,none⟩∧wc.ownsRow B T c (.slice (some ⟨g,0,none⟩) n cap) n xs∧B≤g∧hx xs)(hB:w0.heap.size≤B)(k:zc [] wc wz)(hA:wc.heap.size≤A):∃ xs,(n≠0→hx xs)∧LsI V c T w0 wz A a n cap l 0 xs:=by
 rcases d with ⟨e1,e2,e3⟩ | ⟨g,xs,e1,own,hg,h⟩
 ·exact ⟨[],fun hn=>absurd e2 hn,.inl ⟨e1,e2,e3⟩⟩
 ·refine ⟨xs,fun _=>h,.inr ⟨g,xs,e1,⟨zj (j2r own hB) k (fun _ _=>by simp),fun j y hy=>by simp at hy,fun _ _=>rfl⟩,Nat.le_trans hB hg,Nat.lt_of_lt_of_le (own.lt g rfl).2 hA⟩⟩
theorem LsI.next{α:Type}{V:World→Value→α→Prop}(hV:zov V){c:Nat}{T:TypeId}{w0 wr w':World}{A g n cap:Nat}{l:List α}{k:Nat}{rs rs' xs:List Value}(h:KL V wr A w0.heap.size g n c cap T (l.take k) rs xs)(hg:w0.heap.size≤g)(hA:g<A){y:α}(hy:l[k]? = some y)(kk:zc [g] wr w')(own':w'.ownsRow w0.heap.size T c (.slice (some ⟨g,0,none⟩) n cap) n rs')(same:∀ m,m<k * c∨k * c+c≤m→rs'[m]? = rs[m]?){v:Value}(hv:V (zod A w') v y)(hc:∀ i,i<c→rs'[k * c+i]? = v.cells[i]?):LsI V c T w0 w' A (some ⟨g,0,none⟩) n cap l (k+1) xs:=by
 have hl:(l.take k).length=k:=by
  have:=(List.getElem?_eq_some_iff.1 hy).1;rw[List.length_take];omega
 refine .inr ⟨g,rs',rfl,?_,hg,hA⟩;rw[List.take_add_one,hy];refine h.next hV hA kk own' ?_ hv ?_
 ·rw[hl];exact same
 ·rw[hl];exact hc
theorem SlV.put{α:Type}{c:Nat}{R:World→Nat→Nat→α→Prop}(hR:zo3 R){wc w5:World}{A g i:Nat}{u v:Value}{l:List α}(hA:A≤wc.heap.size)(hg:g<A)(h:SlV c R (zod wc.heap.size w5) v l):SlV c R (zod A (w5.setCell ⟨g,i,none⟩ u)) v l:=
 SlV.sub hR _ _ _ _ ((Sub.down w5 hA).trans (Sub.kept (zc.setCell [g] w5 ⟨g,i,none⟩ u (List.mem_singleton.2 rfl)) (fun z hz=>by rw[List.mem_singleton.1 hz];exact hg))) h
structure KpS (w0 wr:World) (A q:Nat) (P:Pr8) (a1 a2 a3:Option Addr) (n1 n2 n3 c1 c2 c3 k1 k2 k3:Nat) (x1 x2 x3:List Value):Prop where
 box:wr.heap[q]? = some (.cells #[.slice a1 n1 c1,.slice none 0 0,.slice none 0 0,.slice a2 n2 c2,.slice a3 n3 c3,int i64 0] 45 (0,0))
 l1:LsI zlv 1 47 w0 wr A a1 n1 c1 P.recs k1 x1
 l2:LsI ImV 3 61 w0 wr A a2 n2 c2 P.ims k2 x2
 l3:LsI FuV 3 50 w0 wr A a3 n3 c3 P.funcs k3 x3
 keep:zc [] w0 wr
 low:w0.heap.size≤q
section
variable {w0 wr w':World}{A q:Nat}{P:Pr8}{a1 a2 a3:Option Addr}{n1 n2 n3 c1 c2 c3 k1 k2 k3:Nat}{x1 x2 x3:List Value}
theorem KpS.quiet(h:KpS w0 wr A q P a1 a2 a3 n1 n2 n3 c1 c2 c3 k1 k2 k3 x1 x2 x3)(k:zc [] wr w'):KpS w0 w' A q P a1 a2 a3 n1 n2 n3 c1 c2 c3 k1 k2 k3 x1 x2 x3:=
 ⟨ze h.box k,h.l1.quiet zlv.sub k,h.l2.quiet ImV.sub k,h.l3.quiet FuV.sub k,h.keep.quiet k,h.low⟩
theorem KpS.all(h:KpS w0 wr A q P a1 a2 a3 n1 n2 n3 c1 c2 c3 n1 n2 n3 x1 x2 x3)(e1:n1=P.recs.length)(e2:n2=P.ims.length)(e3:n3=P.funcs.length)(m1:n1≤1000)(m2:n2≤1000)(m3:n3≤1000):PrC (zod w0.heap.size wr) q 0 { P with sigs:=[],ifs:=[],main:=0 }:=by
 have s1:=h.l1.all zlv.sub SlV.links e1 m1;have s2:=h.l2.all ImV.sub ImV.links e2 m2;have s3:=h.l3.all FuV.sub FuV.links e3 m3;have hc:∀ i,(zod w0.heap.size wr).cell? ⟨q,i,none⟩=(#[.slice a1 n1 c1,.slice none 0 0,.slice none 0 0,.slice a2 n2 c2,.slice a3 n3 c3,int i64 0]:Array Value)[i]? := fun i=>by
  rw[World.cell?_of_block (w:=wr) (j0s h.low)];exact zd h.box i
 subst e1 e2 e3;exact ⟨⟨a1,c1,hc 0,s1.slice.2⟩,⟨none,0,hc 1,.inl rfl,Nat.le_refl _,Nat.zero_le _⟩,⟨none,0,hc 2,.inl rfl,Nat.le_refl _,Nat.zero_le _⟩,⟨a2,c2,hc 3,s2.slice.2⟩,⟨a3,c3,hc 4,s3.slice.2⟩,⟨hc 5,by show b64 0;unfold b64;omega⟩⟩
theorem KpS.put1(h:KpS w0 wr A q P a1 a2 a3 n1 n2 n3 c1 c2 c3 k1 k2 k3 x1 x2 x3){g B:Nat}{rs:List Value}(own:wr.ownsRow B 47 1 (.slice (some ⟨g,0,none⟩) n1 c1) n1 rs)(hg:w0.heap.size≤g)(hA:g<A)(k:zc [g] wr w'){j1:Nat}(l1:LsI zlv 1 47 w0 w' A a1 n1 c1 P.recs j1 x1):KpS w0 w' A q P a1 a2 a3 n1 n2 n3 c1 c2 c3 j1 k2 k3 x1 x2 x3:=by
 obtain ⟨cs,ht⟩:=j2p own;have nq:=j2q own h.box (by decide);exact ⟨(k.block q (zQ h.box) (by simpa using nq)).trans h.box,l1,h.l2.far ImV.sub k hA ht (by decide),h.l3.far FuV.sub k hA ht (by decide),h.keep.trans k (fun x hx hl=>by rw[List.mem_singleton.1 hx] at hl;omega),h.low⟩
theorem KpS.put2(h:KpS w0 wr A q P a1 a2 a3 n1 n2 n3 c1 c2 c3 k1 k2 k3 x1 x2 x3){g B:Nat}{rs:List Value}(own:wr.ownsRow B 61 3 (.slice (some ⟨g,0,none⟩) n2 c2) n2 rs)(hg:w0.heap.size≤g)(hA:g<A)(k:zc [g] wr w'){j2:Nat}(l2:LsI ImV 3 61 w0 w' A a2 n2 c2 P.ims j2 x2):KpS w0 w' A q P a1 a2 a3 n1 n2 n3 c1 c2 c3 k1 j2 k3 x1 x2 x3:=by
 obtain ⟨cs,ht⟩:=j2p own;have nq:=j2q own h.box (by decide);exact ⟨(k.block q (zQ h.box) (by simpa using nq)).trans h.box,h.l1.far zlv.sub k hA ht (by decide),l2,h.l3.far FuV.sub k hA ht (by decide),h.keep.trans k (fun x hx hl=>by rw[List.mem_singleton.1 hx] at hl;omega),h.low⟩
theorem KpS.put3(h:KpS w0 wr A q P a1 a2 a3 n1 n2 n3 c1 c2 c3 k1 k2 k3 x1 x2 x3){g B:Nat}{rs:List Value}(own:wr.ownsRow B 50 3 (.slice (some ⟨g,0,none⟩) n3 c3) n3 rs)(hg:w0.heap.size≤g)(hA:g<A)(k:zc [g] wr w'){j3:Nat}(l3:LsI FuV 3 50 w0 w' A a3 n3 c3 P.funcs j3 x3):KpS w0 w' A q P a1 a2 a3 n1 n2 n3 c1 c2 c3 k1 k2 j3 x1 x2 x3:=by
 obtain ⟨cs,ht⟩:=j2p own;have nq:=j2q own h.box (by decide);exact ⟨(k.block q (zQ h.box) (by simpa using nq)).trans h.box,h.l1.far zlv.sub k hA ht (by decide),h.l2.far ImV.sub k hA ht (by decide),l3,h.keep.trans k (fun x hx hl=>by rw[List.mem_singleton.1 hx] at hl;omega),h.low⟩
end
section
variable {W0 w w':World}{mp pp fg:Nat}{P:Pr8}{m:Ma}{F:List Nat}{hb fc:Nat}{rv:Value}{oa:Option Addr}{oc:Nat}{os:List Ob}{Fh:List Nat}
theorem j2t(h:MaS W0 w mp pp fg P m F hb fc rv oa oc os Fh):Calls Tryz.prog 24 #[pointer (some ⟨mp,0,none⟩)] w fun e w'=>e=.returned (vlV m.res)∧zc [] w w':=by
 have HI:=hid fun (w':World) (k:zc [] w w')=>j05 (zd (h.quiet k).box 0);have H:=hid h;clear h;go_enter Tryz.func24,Tryz.ntmps24;go_wp2_with fail;have A0:=hid (zc.alloc [] w (.cells #[int i64 0,int i64 0,.bool false] 30));have N0:=hid (zh w (.cells #[int i64 0,int i64 0,.bool false] 30));generalize w.alloc (.cells #[int i64 0,int i64 0,.bool false] 30)=wz at *;refine (HI.o _ A0.o).mono ?_;rintro e w2 ⟨rfl,k2⟩;have M2:=hid (H.o.quiet (A0.o.quiet k2));have K2':=hid k2;have n2:=ze N0.o k2;have p0:=zd n2 0;have p1:=zd n2 1;have p2:=zd n2 2;have d8:=zd M2.o.box 8;have d9:=zd M2.o.box 9;have d10:=zd M2.o.box 10;have y0:=zi n2 0;have y1:=zi n2 1;have y2:=zi n2 2;clear k2 n2;go_wp2_with fail
 exact bodyPost_ret (v:=vlV m.res) (by
  have q:∀ (i:Nat),i<3→(((w2.setCell ⟨w.heap.size,0,none⟩ (int i64 m.res.1)).setCell ⟨w.heap.size,1,none⟩ (int i64 m.res.2.1)).setCell ⟨w.heap.size,2,none⟩ (.bool m.res.2.2)).cell? ⟨w.heap.size,i,none⟩=(#[int i64 m.res.1,int i64 m.res.2.1,.bool m.res.2.2]:Array Value)[i]? := fun i _=>zd (jZ (ze N0.o K2'.o) _ _ _) i
  simp[results,Tryz.results24,go_sem,q 0 (by omega),q 1 (by omega),q 2 (by omega)]) rfl ⟨rfl,(A0.o.quiet K2'.o).trans (jc w2 _ _ _ _) (fun x hx hl=>by rw[List.mem_singleton.1 hx] at hl;omega)⟩
theorem j2u(h:MaS W0 w mp pp fg P m F hb fc rv oa oc os Fh)(hn:m.bot.length≤100)(hs:Sm8 P):Calls Tryz.prog 18 #[pointer (some ⟨mp,0,none⟩)] w fun e w'=>e=.returned (int i64 (zo1 P m.top.f m.top.b m.top.i))∧zc [] w w':=by
 have HI:=hid (j05 (zd h.box 0));have HT:=hid fun (w':World) (k:zc [] w w')=>j1d (h.quiet k) hn;have HN:=hid fun (w':World) (k:zc [] w w')=>j0q (PrC.sub _ _ _ _ _ (h.quiet k).now h.prc) hs m.top.f m.top.b m.top.i;have Z:=hid fun (w':World) (k:zc [] w w')=>And.intro (zd (h.quiet k).box 0) (h.quiet k).pt;clear h;go_enter Tryz.func18,Tryz.ntmps18;go_wp2_with fail;refine HI.o.mono ?_;rintro e w2 ⟨rfl,k2⟩;have K2:=hid k2;clear k2;go_upto_region 3 with fail;obtain ⟨c0,c1,c2,c3⟩:=Z.o w2 K2.o;have kd:zc [] w2 w2.drew:=zc.drew _ _
 go_region_held3 (fun w'=>w'.cell? ⟨mp,0,none⟩=some (pointer (some ⟨pp,0,none⟩))∧w'.cell? ⟨fg,m.bot.length * 67,none⟩=some (int i64 (m.top.f:Int))∧w'.cell? ⟨fg,m.bot.length * 67+1,none⟩=some (int i64 (m.top.b:Int))∧w'.cell? ⟨fg,m.bot.length * 67+2,none⟩=some (int i64 (m.top.i:Int))) (go_keep) (first
  | (go_at_call 58;refine (HT.o _ (K2.o.quiet kd)).mono ?_;rintro e w5 ⟨rfl,k5⟩;have kk5:=kd.quiet k5;obtain ⟨f50,f51,f52,f53⟩:=Z.o _ (K2.o.quiet kk5);clear k5)
  | (go_at_call 60;refine (HN.o _ (K2.o.quiet kk5)).mono ?_;rintro e w6 ⟨rfl,k6⟩;have kk6:=kk5.quiet k6;obtain ⟨f60,f61,f62,f63⟩:=Z.o _ (K2.o.quiet kk6);clear k6))
 all_goals
  go_wp2_with fail;go_ret;exact ⟨rfl,K2.o.quiet kk6⟩
end
theorem j2v(w:World):Calls Tryz.prog 18 #[.pointer none] w fun e w'=>e=.returned (int i64 (-1))∧zc [] w w':=by
 have HI:=hid (j06 w);go_enter Tryz.func18,Tryz.ntmps18;go_wp2_with fail;refine HI.o.mono ?_;rintro e w2 ⟨rfl,k2⟩;go_wp2_with fail;go_ret;exact ⟨rfl,k2⟩
theorem j2w(w:World):Calls Tryz.prog 17 #[.pointer none] w fun e w'=>e=.returned (int i64 4)∧zc [] w w':=by
 have HI:=hid (j06 w);go_enter Tryz.func17,Tryz.ntmps17;go_wp2_with fail;refine HI.o.mono ?_;rintro e w2 ⟨rfl,k2⟩;go_wp2_with fail;go_ret;exact ⟨rfl,k2⟩
theorem j2x(w:World):Calls Tryz.prog 19 #[.pointer none] w fun e w'=>e=.returned (int i64 0)∧zc [] w w':=by
 have HI:=hid (j06 w);go_enter Tryz.func19,Tryz.ntmps19;go_wp2_with fail;refine HI.o.mono ?_;rintro e w2 ⟨rfl,k2⟩;go_wp2_with fail;go_ret;exact ⟨rfl,k2⟩
theorem j2y(w:World):Calls Tryz.prog 20 #[.pointer none] w fun e w'=>e=.returned (int i64 (-1))∧zc [] w w':=by
 have HI:=hid (j06 w);go_enter Tryz.func20,Tryz.ntmps20;go_wp2_with fail;refine HI.o.mono ?_;rintro e w2 ⟨rfl,k2⟩;go_wp2_with fail;go_ret;exact ⟨rfl,k2⟩
theorem j2z(w:World):Calls Tryz.prog 21 #[.pointer none] w fun e w'=>e=.returned (.bool false)∧zc [] w w':=by
 have HI:=hid (j06 w);go_enter Tryz.func21,Tryz.ntmps21;go_wp2_with fail;refine HI.o.mono ?_;rintro e w2 ⟨rfl,k2⟩;go_wp2_with fail;go_ret;exact ⟨rfl,k2⟩
def zlK(o:Option (Int × Int × Int × Int))(w:World)(e:Ending)(w':World):Prop:=match o with
 | none=>e=.returned .nilIface∧zc [] w w'
 | some q=>∃ p r,e=.returned (Jz p)∧zgU w' p q.1 q.2.1 q.2.2.1 q.2.2.2 (Jz r)∧J0 w' r q.1 q.2.1 q.2.2.1 q.2.2.2∧r<p∧zc [] w w'
theorem zml(y f b i:Int)(r:Nat)(w:World):Calls Tryz.prog 135 #[int i64 y,agg #[int i64 f,int i64 b,int i64 i],Jz r] w fun e w'=>e=.returned (Jz (w.heap.size+1))∧zgU w' (w.heap.size+1) y f b i (Jz r)∧zc [] w w':=by
 have k2:=((zc.refl [] w).step (zc.alloc [] w (.cells #[int i64 f,int i64 b,int i64 i] 99))).step (zc.alloc [] _ (.cells #[int i64 y,int i64 f,int i64 b,int i64 i,Jz r] 208));have hn:=zh (w.alloc (.cells #[int i64 f,int i64 b,int i64 i] 99)) (.cells #[int i64 y,int i64 f,int i64 b,int i64 i,Jz r] 208);rw[World.size_alloc] at hn;have H:=hid (show zgU _ (w.heap.size+1) y f b i (Jz r) from hn);have K:=hid k2;clear k2 hn;go_enter Tryz.func135,Tryz.ntmps135;go_wp2;go_ret;exact ⟨rfl,H.o,K.o⟩
theorem zgj(v u t:Value)(w:World):(callFunc 135 #[v,u,t]).run Tryz.prog w=.ok (.enter 135 #[v,u,t]) w:=by go_simp
theorem zdG{w:World}{ad:Addr}{v:Value}{ev:Operand→Value}{oi:Oper}{y:Operand}(hc:w.cell? ad=some v)(ho:oi.op=.load 204 y)(hy:ev y=.pointer (some ad)):(execOp ev oi).run Tryz.prog w=.ok (.value v) w:=by simp[execOp,ho,hy,go_sem,hc]
def nE(n:Nat)(y f b i:Int)(v:Value)(l:Array Bool)(w:World):Prop:=bif l.getD 9 false then zgU w (n+1) y f b i v else w.heap.size=n
theorem nE.keep{n k:Nat}{y f b i:Int}{v:Value}{l:Array Bool}{w:World}(h:nE n y f b i v l w)(hi:k≠9):nE n y f b i v (l.setIfInBounds k true) w:=by
 unfold nE;rw[zL hi];exact h
theorem nE.start{n m:Nat}{y f b i:Int}{v:Value}{w:World}(h:w.heap.size=n):nE n y f b i v (Array.replicate m false) w:=by
 unfold nE;have:(Array.replicate m false).getD 9 false=false:=by
  by_cases hn:9<m
  ·simp[Array.getD,hn]
  ·simp[Array.getD,hn]
 rw[this];exact h
theorem ju{w:World}{r:Nat}{y f b i:Int}(hg:zeP w)(h:J0 w r y f b i):Calls Tryz.prog 87 #[Jz r] w (zlK (some (y,f,b,i)) w):=by
 have ka:=zc.alloc [] w (.cells #[.pointer none] 204);have HA:=hid (zma r w.heap.size _ (hg.quiet ka) (zh w (.cells #[.pointer none] 204)));have HH:=hid (h.quiet ka);have KA:=hid ka;have hlt:=zQ h;have HNW:Box (∀ w':World,Calls Tryz.prog 135 #[int i64 y,agg #[int i64 f,int i64 b,int i64 i],Jz r] w' fun e w2=>e=.returned (Jz (w'.heap.size+1))∧zgU w2 (w'.heap.size+1) y f b i (Jz r)∧zc [] w' w2):=hid fun w'=>zml y f b i r w';clear hg h ka;go_enter Tryz.func87,Tryz.ntmps87;go_wp2_with fail;generalize w.alloc (.cells #[.pointer none] 204)=WA at *;obtain ⟨t,ht⟩:∃ t,t=w.heap.size:=⟨_,rfl⟩;rw[← ht] at HA ⊢;have HT:=hid ht;clear ht;refine HA.o.mono ?_;rintro e w1 ⟨rfl,k1,h1⟩;have K1:Box (zc [] w w1):=hid (KA.o.trans k1 (fun x hx hl=>by have:=HT.o;simp at hx;omega));have R1:Box (J0 w1 r y f b i):=hid ((k1.block r (zQ HH.o) (by have:=HT.o;simp;omega)).trans HH.o);have c0:=zd h1 0;have d0:=zd (show w1.heap[r]? = _ from R1.o) 0;have d1:=zd (show w1.heap[r]? = _ from R1.o) 1;have d2:=zd (show w1.heap[r]? = _ from R1.o) 2;have d3:=zd (show w1.heap[r]? = _ from R1.o) 3;clear k1 h1 HA;go_upto_region 4 with fail;refine jz (fun w'=>zc [] w1 w') (nE w1.heap.size y f b i (Jz r)) 19 [pointer (some ⟨r,0,none⟩),pointer (some ⟨r,0,none⟩),pointer (some ⟨r,0,none⟩),int i64 y,pointer (some ⟨r,0,none⟩),pointer (some ⟨r,0,none⟩),pointer (some ⟨r,1,none⟩),agg #[int i64 f,int i64 b,int i64 i],Jz r,Jz (w1.heap.size+1),Jz (w1.heap.size+1)] (by kernel_rfl) (by rfl) (by kernel_rfl) (zc.drew [] _) (nE.start rfl) (fun A hA=> ?_);simp only[zv,Act.put,List.setIfInBounds_toArray,List.set_cons_zero,List.set_cons_succ] at hA;subst hA;refine ⟨gFY (fun _ k9=>zdG (za k9 c0) rfl rfl) (gFR (gFR (gFY (fun _ k9=>zI (za k9 d0) rfl rfl) (gFY (fun _ k9=>zdG (za k9 c0) rfl rfl) (gFR (gFR (gFY (fun _ k9=>zmE (za k9 d1) (za k9 d2) (za k9 d3) rfl rfl) (gFR (zK.cons (zek (by rfl) 135 #[int i64 y,agg #[int i64 f,int i64 b,int i64 i],Jz r] (fun w=>zmz rfl rfl rfl rfl rfl (zgj _ _ _ w)) (fun l w9 hi9 hu9 _ hs9 he9=>by have hsz:w9.heap.size=w1.heap.size:=(by unfold nE at he9;rw[hu9] at he9;exact he9);refine (HNW.o w9).mono ?_;rw[hsz];rintro e w7 ⟨h7,r7,k7⟩;exact ⟨h7,hs9.quiet k7,by unfold nE;rw[qf hi9];exact r7⟩)) (gFR (zK.nil))))))))))),fun l w8 hl8 k8 h8=> ?_⟩;have h9:zgU w8 (w1.heap.size+1) y f b i (Jz r):=by
  have hb:l.getD 9 false=true:=hl8 9 (by decide);unfold nE at h8;rw[hb] at h8;exact h8
 have H9:=hid h9;have K8:=hid (K1.o.quiet k8);have R8:=hid (R1.o.quiet k8);have hrl:r<w1.heap.size:=zQ R1.o;clear hl8 h8 k8 h9;go_wp2_with fail;go_ret;exact ⟨_,r,rfl,H9.o,R8.o,by omega,K8.o⟩
theorem zeX(w:World):(w.alloc (.cells #[.func (.func 81) #[] #[],.func (.func 82) #[] #[],.func (.func 83) #[] #[],.func (.func 84) #[] #[],.func (.func 85) #[] #[],.func (.func 86) #[] #[]] 106)).heap[w.heap.size]? = some (.cells #[.func (.func 81) #[] #[],.func (.func 82) #[] #[],.func (.func 83) #[] #[],.func (.func 84) #[] #[],.func (.func 85) #[] #[],.func (.func 86) #[] #[]] 106 (0,0)):=zh _ _
def Qs(P:Pr8):Nat→Option (Int × Int × Int × Int)
 | 0=>if qJ P=false then some (2, -1,0,0) else none
 | 1=>(zB P).map fun q=>(3,q)
 | 2=>if zaQ P=false then some (7, -1,0,0) else none
 | 3=>(ZW P (Zv P)).map fun q=>(4,q)
 | 4=>((bks P).find? (jq P)).map fun q=>(6,ptI q)
 | 5=>((pts P).find? (za0 P)).map fun q=>(5,ptI q)
 | _=>none
theorem Qi{P:Pr8}{k:Nat}{q:Int × Int × Int × Int}(hk:k<6)(hb:∀ j,j<k→Qs P j=none)(h:Qs P k=some q):wfO P=some q:=by
 have b0:0<k→¬ qJ P=false:=fun hk e=>by have:=hb 0 hk;simp[Qs,e] at this
 have b1:1<k→zB P=none:=fun hk=>by have:=hb 1 hk;simpa [Qs] using this
 have b2:2<k→¬ zaQ P=false:=fun hk e=>by have:=hb 2 hk;simp[Qs,e] at this
 have b3:3<k→ZW P (Zv P)=none:=fun hk=>by have:=hb 3 hk;simpa [Qs] using this
 have b4:4<k→(bks P).find? (jq P)=none:=fun hk=>by
  have:=hb 4 hk;simp only[Qs] at this;exact Option.map_eq_none_iff.1 this
 unfold wfO
 match k,hk,h with
 | 0,_,h=>
  by_cases e:qJ P=false
  ·simp[Qs,e] at h
   rw[if_pos e, ← h]
  ·simp[Qs,e] at h
 | 1,_,h=>
  rw[if_neg (b0 (by omega))];simp only[Qs] at h;obtain ⟨q',e,rfl⟩:=Option.map_eq_some_iff.1 h;rw[e]
 | 2,_,h=>
  rw[if_neg (b0 (by omega)),b1 (by omega)];by_cases e:zaQ P=false
  ·simp[Qs,e] at h
   simp only[if_pos e, ← h]
  ·simp[Qs,e] at h
 | 3,_,h=>
  rw[if_neg (b0 (by omega)),b1 (by omega)];simp only[Qs] at h;obtain ⟨q',e,rfl⟩:=Option.map_eq_some_iff.1 h;simp only[if_neg (b2 (by omega)),e]
 | 4,_,h=>
  rw[if_neg (b0 (by omega)),b1 (by omega)];simp only[Qs] at h;obtain ⟨q',e,rfl⟩:=Option.map_eq_some_iff.1 h;simp only[if_neg (b2 (by omega)),b3 (by omega),e]
 | 5,_,h=>
  rw[if_neg (b0 (by omega)),b1 (by omega)];simp only[Qs] at h;obtain ⟨q',e,rfl⟩:=Option.map_eq_some_iff.1 h;simp only[if_neg (b2 (by omega)),b3 (by omega),b4 (by omega),e]
theorem zhQ{P:Pr8}(hb:∀ j,j<6→Qs P j=none):wfO P=none:=by
 have b0:¬ qJ P=false:=fun e=>by have:=hb 0 (by omega);simp[Qs,e] at this
 have b1:zB P=none:=by have:=hb 1 (by omega);simpa [Qs] using this
 have b2:¬ zaQ P=false:=fun e=>by have:=hb 2 (by omega);simp[Qs,e] at this
 have b3:ZW P (Zv P)=none:=by have:=hb 3 (by omega);simpa [Qs] using this
 have b4:(bks P).find? (jq P)=none:=by
  have:=hb 4 (by omega);simp only[Qs] at this;exact Option.map_eq_none_iff.1 this
 have b5:(pts P).find? (za0 P)=none:=by
  have:=hb 5 (by omega);simp only[Qs] at this;exact Option.map_eq_none_iff.1 this
 unfold wfO;rw[if_neg b0,b1];simp only[if_neg b2,b3,b4,b5]
def Q2(o:Option (Int × Int × Int × Int))(w:World)(e:Ending)(w':World):Prop:=match o with
 | none=>e=.returned .nilIface∧zc [] w w'
 | some q=>∃ r,e=.returned (Jz r)∧J0 w' r q.1 q.2.1 q.2.2.1 q.2.2.2∧zc [] w w'
theorem zjo{P:Pr8}(hb:qJ P=true):SzP P:=by
 have sm10:=Zy (ZE hb);refine ⟨Nat.le_trans sm10.fn (by decide),fun f hf=>(zaA hb hf).2.1,fun f hf=>Nat.le_trans (zaA hb hf).2.2 (by decide),fun f hf=>Nat.le_trans (zaA hb hf).1 (by decide),fun f b hf=> ?_,fun f b k hf hk=> ?_⟩
 ·by_cases hb':b<(zf P f).blocks.length
  ·exact Nat.le_trans (sm10.code hf hb') (by decide)
  ·unfold zr
   rw[QR hb'];simp
 ·by_cases hb':b<(zf P f).blocks.length
  ·exact Jp hb f b k hf hb' hk
  ·unfold zr at hk
   rw[QR hb'] at hk;simp at hk
def zjU:Nat→Nat
 | 0=>81
 | 1=>82
 | 2=>83
 | 3=>84
 | 4=>85
 | _=>86
theorem zjB{w:World}{pb po:Nat}{P:Pr8}(h:PrC w pb po P)(hT:Ze w){k:Nat}(hk:k<6)(hb:∀ j,j<k→Qs P j=none):Calls Tryz.prog (zjU k) #[pointer (some ⟨pb,po,none⟩)] w (Q2 (Qs P k) w):=by
 have b0:0<k→qJ P=true:=fun hk=>by
  cases e:qJ P with
  | true=>rfl
  | false=>have:=hb 0 hk;simp[Qs,e] at this
 match k,hk with
 | 0,_=>
  refine (zeC h).mono ?_;intro e w' h';show Q2 (if qJ P=false then some (2, -1,0,0) else none) w e w';cases hbn:qJ P with
  | true=>rw[hbn] at h';exact h'
  | false=>rw[hbn] at h';exact h'
 | 1,_=>
  refine (zgZ h (Jp (b0 (by omega)))).mono ?_;intro e w' h';show Q2 ((zB P).map fun q=>(3,q)) w e w';cases hn:zB P with
  | none=>rw[hn] at h';exact h'
  | some q=>rw[hn] at h';exact h'
 | 2,_=>
  refine (zhW h).mono ?_;intro e w' h';show Q2 (if zaQ P=false then some (7, -1,0,0) else none) w e w';cases hbn:zaQ P with
  | true=>rw[hbn] at h';exact h'
  | false=>rw[hbn] at h';exact h'
 | 3,_=>
  have hs:=Zy (ZE (b0 (by omega)));refine (zeH h hs (g:=Zv P) (fun w' f b i a cp kk hf hb2 hi hz=> ?_)).mono ?_
  ·exact zio (PrC.stays _ _ _ _ _ kk h) hf _ hz (Jp (b0 (by omega)) f b i hf hb2 hi)
  intro e w' h';show Q2 ((ZW P (Zv P)).map fun q=>(4,q)) w e w';cases hn:ZW P (Zv P) with
  | none=>rw[hn] at h';exact h'
  | some q=>rw[hn] at h';exact h'
 | 4,_=>
  refine (zhq h (zjo (b0 (by omega)))).mono ?_;intro e w' h';show Q2 (((bks P).find? (jq P)).map fun q=>(6,ptI q)) w e w';cases hn:(bks P).find? (jq P) with
  | none=>rw[hn] at h';exact h'
  | some q=>rw[hn] at h';exact h'
 | 5,_=>
  refine (zfE h hT (zjo (b0 (by omega)))).mono ?_;intro e w' h';show Q2 (((pts P).find? (za0 P)).map fun q=>(5,ptI q)) w e w';cases hn:(pts P).find? (za0 P) with
  | none=>rw[hn] at h';exact h'
  | some q=>rw[hn] at h';exact h'
theorem zeF{w:World}{pb po:Nat}{P:Pr8}(h:PrC w pb po P)(hg:zeP w)(hT:Ze w):Calls Tryz.prog 53 #[pointer (some ⟨pb,po,none⟩)] w (zlK (wfO P) w):=by
 have HP:=hid h;have HG:=hid hg;have HT:=hid hT;have HASK:=hid fun (w':World) (k:Nat) (hk:k<6) (kp:zc [] w w') (hb:∀ j,j<k→Qs P j=none)=>zjB (PrC.stays _ _ _ _ _ kp h) (hT.kept kp (by simp)) hk hb;have HN:=hid (zeX w);have HKA:=hid (zc.alloc [] w (.cells #[.func (.func 81) #[] #[],.func (.func 82) #[] #[],.func (.func 83) #[] #[],.func (.func 84) #[] #[],.func (.func 85) #[] #[],.func (.func 86) #[] #[]] 106));clear h hg hT;go_enter Tryz.func53,Tryz.ntmps53;go_wp2_with fail;generalize w.alloc (.cells #[.func (.func 81) #[] #[],.func (.func 82) #[] #[],.func (.func 83) #[] #[],.func (.func 84) #[] #[],.func (.func 85) #[] #[],.func (.func 86) #[] #[]] 106)=W at *;generalize w.heap.size=q at *
 go_loopw [8] (fun kv wr=>∃ k:Nat,k≤6∧kv=int i64 (k:Int)∧Box (zc [] W wr)∧Box (∀ j,j<k→Qs P j=none)) (fun kv _=>6 - (intOf kv).toNat)
 case atStart=>exact ⟨0,by omega,rfl,hid (zc.refl _ _),hid fun j hj=>by omega⟩
 case round=>
  obtain ⟨k,hk,rfl,HK,HJ⟩:=hrel;have hq:=ze HN.o HK.o;by_cases hk0:k=0
  ·subst hk0
   have c0:=zd hq 0;have HA:=hid (HASK.o wr 0 (by omega) (HKA.o.quiet HK.o) HJ.o);unfold zjU at HA;clear hq hk;go_wp2_with fail;refine HA.o.mono ?_;intro e w3 h3;clear c0 HA;cases ho:Qs P 0 with
   | none=>
    rw[ho] at h3;obtain ⟨rfl,k3⟩:=h3;have K3:=hid (HK.o.quiet k3);have HO:=hid ho;clear k3 ho;go_wp2_with fail;go_roundw
    case rel=>
     refine ⟨1,by omega,by go_num,K3,hid fun j hj=> ?_⟩;by_cases hjk:j=0
     ·subst hjk
      exact HO.o
     ·exact HJ.o j (by omega)
    case measure=>simp[intOf]
   | some z=>
    rw[ho] at h3;obtain ⟨r,rfl,hr,k3⟩:=h3;have K3:=hid (HKA.o.quiet (HK.o.quiet k3));have HO:Box (wfO P=some z):=hid (Qi (by omega) HJ.o ho);have HW:=hid (ju (HG.o.quiet (HKA.o.quiet (HK.o.quiet k3))) hr);clear k3 ho hr;go_wp2_with fail;refine HW.o.mono ?_;rintro e w4 ⟨p4,r4,rfl,h41,h42,h43,k4⟩;have H4:=hid (And.intro h41 (And.intro h42 (And.intro h43 (K3.o.quiet k4))));clear h41 h42 h43 k4 HW;go_wp2_with fail;go_ret;rw[HO.o];exact ⟨p4,r4,rfl,H4.o.1,H4.o.2.1,H4.o.2.2.1,H4.o.2.2.2⟩
  by_cases hk1:k=1
  ·subst hk1
   have c0:=zd hq 1;have HA:=hid (HASK.o wr 1 (by omega) (HKA.o.quiet HK.o) HJ.o);unfold zjU at HA;clear hq hk;go_wp2_with fail;refine HA.o.mono ?_;intro e w3 h3;clear c0 HA;cases ho:Qs P 1 with
   | none=>
    rw[ho] at h3;obtain ⟨rfl,k3⟩:=h3;have K3:=hid (HK.o.quiet k3);have HO:=hid ho;clear k3 ho;go_wp2_with fail;go_roundw
    case rel=>
     refine ⟨2,by omega,by go_num,K3,hid fun j hj=> ?_⟩;by_cases hjk:j=1
     ·subst hjk
      exact HO.o
     ·exact HJ.o j (by omega)
    case measure=>simp[intOf]
   | some z=>
    rw[ho] at h3;obtain ⟨r,rfl,hr,k3⟩:=h3;have K3:=hid (HKA.o.quiet (HK.o.quiet k3));have HO:Box (wfO P=some z):=hid (Qi (by omega) HJ.o ho);have HW:=hid (ju (HG.o.quiet (HKA.o.quiet (HK.o.quiet k3))) hr);clear k3 ho hr;go_wp2_with fail;refine HW.o.mono ?_;rintro e w4 ⟨p4,r4,rfl,h41,h42,h43,k4⟩;have H4:=hid (And.intro h41 (And.intro h42 (And.intro h43 (K3.o.quiet k4))));clear h41 h42 h43 k4 HW;go_wp2_with fail;go_ret;rw[HO.o];exact ⟨p4,r4,rfl,H4.o.1,H4.o.2.1,H4.o.2.2.1,H4.o.2.2.2⟩
  by_cases hk2:k=2
  ·subst hk2
   have c0:=zd hq 2;have HA:=hid (HASK.o wr 2 (by omega) (HKA.o.quiet HK.o) HJ.o);unfold zjU at HA;clear hq hk;go_wp2_with fail;refine HA.o.mono ?_;intro e w3 h3;clear c0 HA;cases ho:Qs P 2 with
   | none=>
    rw[ho] at h3;obtain ⟨rfl,k3⟩:=h3;have K3:=hid (HK.o.quiet k3);have HO:=hid ho;clear k3 ho;go_wp2_with fail;go_roundw
    case rel=>
     refine ⟨3,by omega,by go_num,K3,hid fun j hj=> ?_⟩;by_cases hjk:j=2
     ·subst hjk
      exact HO.o
     ·exact HJ.o j (by omega)
    case measure=>simp[intOf]
   | some z=>
    rw[ho] at h3;obtain ⟨r,rfl,hr,k3⟩:=h3;have K3:=hid (HKA.o.quiet (HK.o.quiet k3));have HO:Box (wfO P=some z):=hid (Qi (by omega) HJ.o ho);have HW:=hid (ju (HG.o.quiet (HKA.o.quiet (HK.o.quiet k3))) hr);clear k3 ho hr;go_wp2_with fail;refine HW.o.mono ?_;rintro e w4 ⟨p4,r4,rfl,h41,h42,h43,k4⟩;have H4:=hid (And.intro h41 (And.intro h42 (And.intro h43 (K3.o.quiet k4))));clear h41 h42 h43 k4 HW;go_wp2_with fail;go_ret;rw[HO.o];exact ⟨p4,r4,rfl,H4.o.1,H4.o.2.1,H4.o.2.2.1,H4.o.2.2.2⟩
  by_cases hk3:k=3
  ·subst hk3
   have c0:=zd hq 3;have HA:=hid (HASK.o wr 3 (by omega) (HKA.o.quiet HK.o) HJ.o);unfold zjU at HA;clear hq hk;go_wp2_with fail;refine HA.o.mono ?_;intro e w3 h3;clear c0 HA;cases ho:Qs P 3 with
   | none=>
    rw[ho] at h3;obtain ⟨rfl,k3⟩:=h3;have K3:=hid (HK.o.quiet k3);have HO:=hid ho;clear k3 ho;go_wp2_with fail;go_roundw
    case rel=>
     refine ⟨4,by omega,by go_num,K3,hid fun j hj=> ?_⟩;by_cases hjk:j=3
     ·subst hjk
      exact HO.o
     ·exact HJ.o j (by omega)
    case measure=>simp[intOf]
   | some z=>
    rw[ho] at h3;obtain ⟨r,rfl,hr,k3⟩:=h3;have K3:=hid (HKA.o.quiet (HK.o.quiet k3));have HO:Box (wfO P=some z):=hid (Qi (by omega) HJ.o ho);have HW:=hid (ju (HG.o.quiet (HKA.o.quiet (HK.o.quiet k3))) hr);clear k3 ho hr;go_wp2_with fail;refine HW.o.mono ?_;rintro e w4 ⟨p4,r4,rfl,h41,h42,h43,k4⟩;have H4:=hid (And.intro h41 (And.intro h42 (And.intro h43 (K3.o.quiet k4))));clear h41 h42 h43 k4 HW;go_wp2_with fail;go_ret;rw[HO.o];exact ⟨p4,r4,rfl,H4.o.1,H4.o.2.1,H4.o.2.2.1,H4.o.2.2.2⟩
  by_cases hk4:k=4
  ·subst hk4
   have c0:=zd hq 4;have HA:=hid (HASK.o wr 4 (by omega) (HKA.o.quiet HK.o) HJ.o);unfold zjU at HA;clear hq hk;go_wp2_with fail;refine HA.o.mono ?_;intro e w3 h3;clear c0 HA;cases ho:Qs P 4 with
   | none=>
    rw[ho] at h3;obtain ⟨rfl,k3⟩:=h3;have K3:=hid (HK.o.quiet k3);have HO:=hid ho;clear k3 ho;go_wp2_with fail;go_roundw
    case rel=>
     refine ⟨5,by omega,by go_num,K3,hid fun j hj=> ?_⟩;by_cases hjk:j=4
     ·subst hjk
      exact HO.o
     ·exact HJ.o j (by omega)
    case measure=>simp[intOf]
   | some z=>
    rw[ho] at h3;obtain ⟨r,rfl,hr,k3⟩:=h3;have K3:=hid (HKA.o.quiet (HK.o.quiet k3));have HO:Box (wfO P=some z):=hid (Qi (by omega) HJ.o ho);have HW:=hid (ju (HG.o.quiet (HKA.o.quiet (HK.o.quiet k3))) hr);clear k3 ho hr;go_wp2_with fail;refine HW.o.mono ?_;rintro e w4 ⟨p4,r4,rfl,h41,h42,h43,k4⟩;have H4:=hid (And.intro h41 (And.intro h42 (And.intro h43 (K3.o.quiet k4))));clear h41 h42 h43 k4 HW;go_wp2_with fail;go_ret;rw[HO.o];exact ⟨p4,r4,rfl,H4.o.1,H4.o.2.1,H4.o.2.2.1,H4.o.2.2.2⟩
  by_cases hk5:k=5
  ·subst hk5
   have c0:=zd hq 5;have HA:=hid (HASK.o wr 5 (by omega) (HKA.o.quiet HK.o) HJ.o);unfold zjU at HA;clear hq hk;go_wp2_with fail;refine HA.o.mono ?_;intro e w3 h3;clear c0 HA;cases ho:Qs P 5 with
   | none=>
    rw[ho] at h3;obtain ⟨rfl,k3⟩:=h3;have K3:=hid (HK.o.quiet k3);have HO:=hid ho;clear k3 ho;go_wp2_with fail;go_roundw
    case rel=>
     refine ⟨6,by omega,by go_num,K3,hid fun j hj=> ?_⟩;by_cases hjk:j=5
     ·subst hjk
      exact HO.o
     ·exact HJ.o j (by omega)
    case measure=>simp[intOf]
   | some z=>
    rw[ho] at h3;obtain ⟨r,rfl,hr,k3⟩:=h3;have K3:=hid (HKA.o.quiet (HK.o.quiet k3));have HO:Box (wfO P=some z):=hid (Qi (by omega) HJ.o ho);have HW:=hid (ju (HG.o.quiet (HKA.o.quiet (HK.o.quiet k3))) hr);clear k3 ho hr;go_wp2_with fail;refine HW.o.mono ?_;rintro e w4 ⟨p4,r4,rfl,h41,h42,h43,k4⟩;have H4:=hid (And.intro h41 (And.intro h42 (And.intro h43 (K3.o.quiet k4))));clear h41 h42 h43 k4 HW;go_wp2_with fail;go_ret;rw[HO.o];exact ⟨p4,r4,rfl,H4.o.1,H4.o.2.1,H4.o.2.2.1,H4.o.2.2.2⟩
  have hk6:k=6:=by omega
  subst hk6;have HO:Box (wfO P=none):=hid (zhQ HJ.o);clear hq hk;go_wp2_with fail;go_ret;rw[HO.o];exact ⟨rfl,HKA.o.quiet HK.o⟩
theorem j20(w:World)(hg:zeP w):Calls Tryz.prog 53 #[.pointer none] w (zlK (some (2, -1,0,0)) w):=by
 have HG:=hid hg;have HN:=hid (zeX w);have HKA:=hid (zc.alloc [] w (.cells #[.func (.func 81) #[] #[],.func (.func 82) #[] #[],.func (.func 83) #[] #[],.func (.func 84) #[] #[],.func (.func 85) #[] #[],.func (.func 86) #[] #[]] 106));clear hg;go_enter Tryz.func53,Tryz.ntmps53;go_wp2_with fail;generalize w.alloc (.cells #[.func (.func 81) #[] #[],.func (.func 82) #[] #[],.func (.func 83) #[] #[],.func (.func 84) #[] #[],.func (.func 85) #[] #[],.func (.func 86) #[] #[]] 106)=W at *;generalize w.heap.size=q at *
 go_loopw [8] (fun kv wr=>kv=int i64 (0:Int)∧Box (zc [] W wr)) (fun kv _=>6 - (intOf kv).toNat)
 case atStart=>exact ⟨rfl,hid (zc.refl _ _)⟩
 case round=>
  obtain ⟨rfl,HK⟩:=hrel;have hq:=ze HN.o HK.o;have c0:=zd hq 0;have HA:=hid (j0e wr);clear hq;go_wp2_with fail;refine HA.o.mono ?_;rintro e w3 ⟨r,rfl,hr,k3⟩;clear c0 HA;have K3:=hid (HKA.o.quiet (HK.o.quiet k3));have HW:=hid (ju (HG.o.quiet (HKA.o.quiet (HK.o.quiet k3))) hr);clear k3 hr;go_wp2_with fail;refine HW.o.mono ?_;rintro e w4 ⟨p4,r4,rfl,h41,h42,h43,k4⟩;have H4:=hid (And.intro h41 (And.intro h42 (And.intro h43 (K3.o.quiet k4))));clear h41 h42 h43 k4 HW;go_wp2_with fail;go_ret;exact ⟨p4,r4,rfl,H4.o.1,H4.o.2.1,H4.o.2.2.1,H4.o.2.2.2⟩
end Go.Proofs.YthflgjkmbakedaaGreatDoor
namespace Go.Proofs.YthflgjkmbakedaaGreatDoor
open Go.RowKit
section
variable {P:Program}{ops:Array Oper}{Q:Exit→Act→World→Prop}{md:Region.Mode}{S:World→Prop}
theorem j21{i j:Nat}{fuel:Nat}{listed:Array Bool}{a:Act}{w:World}(hr:Region.ready md ops listed=[i,j])
  (h1:wpOp P ops Q i (fun a' w'=>S w'∧wpAnyH P md ops Q S fuel (listed.setIfInBounds i true) a' w') a w)
  (h2:wpOp P ops Q j (fun a' w'=>S w'∧wpAnyH P md ops Q S fuel (listed.setIfInBounds j true) a' w') a w):wpAnyH P md ops Q S (fuel+1) listed a w:=
 wpAnyH_all hr (by simp) (fun x hx=>by
  rcases List.mem_cons.1 hx with rfl | hx
  ·exact h1
  ·obtain rfl:=List.mem_singleton.1 hx
   exact h2)
theorem j22{i:Nat}{fuel:Nat}{listed:Array Bool}{a:Act}{w:World}(hr:Region.ready md ops listed=[i])
  (h1:wpOp P ops Q i (fun a' w'=>S w'∧wpAnyH P md ops Q S fuel (listed.setIfInBounds i true) a' w') a w):wpAnyH P md ops Q S (fuel+1) listed a w:=
 wpAnyH_all hr (by simp) (fun x hx=>by
  obtain rfl:=List.mem_singleton.1 hx
  exact h1)
theorem j23{ev:Operand→Value}{oi:Oper}{f:Nat}{x:Operand}{ts:Array TypeId}{v:Value}{w:World}(ho:oi.op=.call { callee:=.value (.func f),args:=#[x],argTypes:=ts })(hf:ev (.func f)=.func (.func f) #[] #[])(hx:ev x=v)(hc:(callFunc f #[v]).run P w=.ok (.enter f #[v]) w):(execOp ev oi).run P w=.ok (.enter f #[v]) w:=by
 subst hx;simp[execOp,ho,hf,go_sem,hc]
end
theorem zc.next{w w' w'':World}{F F':List Nat}(k:zc F w w')(n:znR w F F')(k':zc F' w' w''):zc F w w'':=k.trans k' fun x hx hl=>(n x hx).resolve_right (by omega)
end Go.Proofs.YthflgjkmbakedaaGreatDoor
