import Derived.Test.YtgmbkiagdhjpnaaGreatDoorU37

namespace Go.Proofs.YtgmbkiagdhjpnaaGreatDoor
open Go.RowKit
open Go.Value (int pointer agg)
open Go.IntKind (i64)
set_option maxRecDepth 20000
variable {F:Fu8}{P:Pr8}{b f i mp:Nat}{n o r:Int}{rc:List Int}{w w':World}{x:In8}
theorem Wff.main(h:Wff P):inB P.main P.funcs.length=true:=by
 have hn:=h.names;unfold zY at hn;rw[if_pos (QM h.names)] at hn;cases hf:(List.range P.funcs.length).findSome? (Jd P) with
 | some q=>rw[hf] at hn;cases hn
 | none=>
  rw[hf] at hn;by_cases hm:inB P.main P.funcs.length=true
  ·exact hm
  ·simp only[hm] at hn
   cases hn
theorem zeX(n j:Nat):((List.replicate n rg0).getD j rg0).1=(0,0,false):=by
 rw[List.getD_eq_getElem?_getD,List.getElem?_replicate];split <;> rfl
theorem zmk(h:Wff P)(hf:f<P.funcs.length):FrT P rc (fr0 f):=
 ⟨h.start hf,List.length_replicate,fun r _=>by
  have e:((fr0 f).rs.getD r rg0).1=(0,0,false):=zeX 16 r;rw[e]
  exact .inl rfl⟩
theorem znb(h:Wff P)(l:List Int):Inv P (ma0 P l):=by
 have hm:=zm.1 h.main;refine ⟨by show 0≤59;omega,zmk h (by omega),fun y hy=>(by cases hy),trivial,by show 0≤400;omega,rfl,fun r hr=>(by cases hr),fun j o r ho=>(by simp[ma0] at ho)⟩
theorem Inv.calm{m:Ma}(h:Inv P m):Inv P m.calm:=⟨h.deep,h.top,h.bot,h.link,h.n400,h.hl,h.rcN,h.obj⟩
theorem ZF{α:Type}{l:List α}{k:Nat}(d:α)(h:k<l.length):l.getD k d∈l:=List.mem_of_getElem? (jm d h)
theorem zl3(hp:ZM P f b i):zf P f∈P.funcs:=ZF _ hp.1
theorem zkr(hp:ZM P f b i):zA (zf P f) b∈(zf P f).blocks:=ZF _ hp.2.1
theorem Wff.code(h:Wff P)(hp:ZM P f b i):(zA (zf P f) b).code.length≤1000:=
 ((h.short.r3 _ (zl3 hp)).2.2 _ (zkr hp)).1
structure InT (P:Pr8) (F:Fu8) (x:In8):Prop where
 op:1≤x.op∧x.op≤15
 dst:zO x=true→inB x.dst F.regs.length=true
 dst0:zO x=false→x.dst=0
 use:∀ r,r∈qf x→inB r F.regs.length=true
 a0:QI x.op=false→x.a=0
 b0:QZ x.op=false→x.b=0
 num:Qu P F x=true
theorem ze7(h:jp P F x=true):InT P F x:=by
 unfold jp zy zbv at h;simp only[Bool.and_eq_true,Bool.or_eq_true,decide_eq_true_eq,Bool.not_eq_true'] at h;obtain ⟨⟨h1,h2,h3,h4,h5,h6⟩,⟨h7,h8⟩,h9⟩:=h;refine ⟨h1,fun e=> ?_,fun e=> ?_,fun r hr=> ?_,fun e=> ?_,fun e=> ?_,h9⟩
 ·rcases h7 with h7 | h7
  ·rw[e] at h7;cases h7
  ·exact h7
 ·rcases h2 with h2 | h2
  ·exfalso
   unfold zao at h2;unfold zO at e;rw[e] at h2;cases h2
  ·exact h2
 ·unfold zaj at h8
  exact List.all_eq_true.1 h8 r hr
 ·rcases h3 with h3 | h3
  ·rw[e] at h3;cases h3
  ·exact h3
 ·rcases h4 with h4 | h4
  ·rw[e] at h4;cases h4
  ·exact h4
theorem zhq(h:QI x.op=true):x.a∈qf x:=by
 unfold QI at h;simp only[decide_eq_true_eq] at h;unfold qf;split
 ·simp
 ·split
  ·simp
  ·split
   ·omega
   ·split
    ·simp
    ·omega
theorem zlK(h:QZ x.op=true):x.b∈qf x:=by
 unfold QZ at h;simp only[decide_eq_true_eq] at h;unfold qf;rw[if_pos h];simp
theorem InT.rg(h:InT P F x)(hr:F.regs.length≤16):zaY x:=by
 have hd:0≤x.dst∧x.dst<16:=by
  cases e:zO x with
  | true=>have:=zm.1 (h.dst e);omega
  | false=>have:=h.dst0 e;omega
 have ha:0≤x.a∧x.a<16:=by
  cases e:QI x.op with
  | true=>have:=zm.1 (h.use _ (zhq e));omega
  | false=>have:=h.a0 e;omega
 have hb:0≤x.b∧x.b<16:=by
  cases e:QZ x.op with
  | true=>have:=zm.1 (h.use _ (zlK e));omega
  | false=>have:=h.b0 e;omega
 exact ⟨hd.1,hd.2,ha.1,ha.2,hb.1,hb.2⟩
theorem Q1(h:inB r F.regs.length=true):zj F r=F.regs.getD r.toNat (0,0):=if_pos h
theorem J4(h:qk x=true):x.op=12∨x.op=13∨x.op=14:=by
 unfold qk at h;simp only[Bool.or_eq_true,decide_eq_true_eq] at h;omega
theorem zbH(h:qk x=true):zO x=true:=by
 have:=J4 h;unfold zO;simp only[decide_eq_true_eq];omega
theorem Jq(h:qk x=true)(hr:r∈zx x):r∈qf x:=by
 have ho:=J4 h;unfold zx at hr;unfold qf;rw[if_neg (by omega),if_neg (by omega)];by_cases e:x.op=12
 ·rw[if_pos e]
  rw[if_neg (by omega)] at hr;exact hr
 ·rw[if_neg e,if_pos (by omega)]
  by_cases e4:x.op=14
  ·rw[if_pos e4] at hr
   exact hr
  ·rw[if_neg e4] at hr
   exact List.mem_cons_of_mem _ hr
structure ClT (P:Pr8) (m:Ma) (x:In8) (f:Int):Prop where
 fn:0≤f∧f<(P.funcs.length:Int)
 len:(QW P (zf P f.toNat).sig).1.length=(zx x).length
 arg:∀ k r,(zx x)[k]? = some r→VT P m.rc ((QW P (zf P f.toNat).sig).1.getD k (0,0)) (m.top.get r)
 ret:(QW P (zf P f.toNat).sig).2=zj (zf P m.top.f) x.dst
theorem qW{s:List (Int × Int) × Int × Int}(h:jB P n=some s):inB n P.sigs.length=true∧s=QW P n:=by
 unfold jB at h;by_cases e:inB n P.sigs.length=true
 ·rw[if_pos e] at h
  exact ⟨e,(Option.some.inj h).symm⟩
 ·rw[if_neg e] at h
  cases h
theorem zfx{l:List Int}{ps:List (Int × Int)}(h:qt F l ps=true):l.length=ps.length∧∀ k,k<l.length→zj F (l.getD k 0)=ps.getD k (0,0):=by
 unfold qt at h;rw[Bool.and_eq_true,decide_eq_true_eq] at h;exact ⟨h.1,fun k hk=>qN.1 (List.all_eq_true.1 h.2 k (List.mem_range.2 hk))⟩
theorem zaw{i:Int}{q:Int × Int × List Int}(h:zfQ P r i=some q):q∈P.ims∧q.1=r∧q.2.1=i:=by
 unfold zfQ at h;have h1:=List.mem_of_find?_eq_some h;have h2:=List.find?_some h;simp only[Bool.and_eq_true,beq_iff_eq] at h2;exact ⟨h1,h2.1,h2.2⟩
theorem Wff.im(h:Wff P){q:Int × Int × List Int}(hq:q∈P.ims):Jc P q=true:=by
 have:=h.met;unfold zbd at this;rw[Bool.and_eq_true] at this;exact List.all_eq_true.1 this.2 q hq
theorem zmX{q:Int × Int × List Int}(h:Jc P q=true){n:Nat}(hn:n<(if8 P q.2.1).length):q.2.2.length=(if8 P q.2.1).length∧inB (q.2.2.getD n 0) P.funcs.length=true∧(QW P (zf P (q.2.2.getD n 0).toNat).sig).1=(1,q.1) :: (QW P ((if8 P q.2.1).getD n 0)).1∧(QW P (zf P (q.2.2.getD n 0).toNat).sig).2=(QW P ((if8 P q.2.1).getD n 0)).2:=by
 unfold Jc at h;simp only[Bool.and_eq_true,decide_eq_true_eq] at h;obtain ⟨_,_,h3,h4⟩:=h;have h5:=List.all_eq_true.1 h4 n (List.mem_range.2 (by omega));unfold isM mtB at h5;simp only[Bool.and_eq_true,decide_eq_true_eq] at h5;exact ⟨h3,h5.1,h5.2.2.2.1,qN.1 h5.2.2.2.2⟩
theorem zid{t:Int × Int}{s:List (Int × Int) × Int × Int}(h:qS P t n=some s):t.1=3∧inB n (if8 P t.2).length=true∧s=QW P ((if8 P t.2).getD n.toNat 0):=by
 unfold qS at h;by_cases e:t.1=3∧inB t.2 P.ifs.length=true∧inB n (zbI P t.2).length=true
 ·rw[if_pos e] at h
  exact ⟨e.1,e.2.2,(qW h).2⟩
 ·rw[if_neg e] at h
  cases h
section
variable {P:Pr8}{m:Ma}
theorem Inv.reg(I:Inv P m){r:Int}(hr:inB r (zf P m.top.f).regs.length=true):VT P m.rc (zj (zf P m.top.f) r) (m.top.get r):=I.top.get hr
theorem VT.ptr{rc:List Int}{t:Int × Int}{v:V3}(h:VT P rc t v)(h2:v.1=2):∃ (j:Nat) (r:Int),v.2.1=(j:Int)+1∧rc[j]? = some r∧(t=(1,r)∨t.1=3∧Jb P r t.2=true):=by
 rcases h with h | h | ⟨_,h⟩ | ⟨h,_⟩
 ·omega
 ·omega
 ·exact h
 ·omega
theorem VT.fn{rc:List Int}{t:Int × Int}{v:V3}(h:VT P rc t v)(h2:v.1=3):t.1=2∧∃ g:Nat,v.2.1=(g:Int)∧g<P.funcs.length∧(zf P g).sig=t.2:=by
 rcases h with h | h | ⟨h,_⟩ | ⟨_,h⟩
 ·omega
 ·omega
 ·omega
 ·exact h
theorem zjV{rc:List Int}{j:Nat}{r v:Int}(h:rc[j]? = some r)(hv:v=(j:Int)+1):rc.getD (v - 1).toNat 0=r:=by
 rw[List.getD_eq_getElem?_getD,show (v - 1).toNat=j by omega,h];rfl
theorem Inv.calls(W:Wff P)(I:Inv P m)(hi:m.top.i<(m.top.blk P).code.length)(hc:qk (m.top.ins P)=true):zjH P m (m.top.ins P)∧∀ f,callee P m (m.top.ins P)=some f→ClT P m (m.top.ins P) f:=by
 have hp:=I.top.pt;have T:InT P (zf P m.top.f) (m.top.ins P):=ze7 (W.ins hp hi);have fit:jj P (zf P m.top.f) (m.top.ins P)=true:=W.fit hp hi;have h16:=W.regs hp.1;have PU:∀ r,r∈zx (m.top.ins P)→VT P m.rc (zj (zf P m.top.f) r) (m.top.get r):=fun r hr=>I.reg (T.use r (Jq hc hr));generalize m.top.ins P=x at *;have fin:∀ (f:Nat) (s:List (Int × Int) × Int × Int),f<P.funcs.length→x.op≠14→(QW P (zf P f).sig)=s→(qt (zf P m.top.f) x.args s.1 && tyE s.2 (zj (zf P m.top.f) x.dst))=true→ClT P m x (f:Int):=by
  intro f s hf ho hs hb;rw[Bool.and_eq_true] at hb;obtain ⟨hl,ha⟩:=zfx hb.1;have ep:zx x=x.args:=if_neg ho;refine ⟨⟨by omega,by omega⟩,?_,fun k r hk=> ?_,?_⟩
  ·rw[show ((f:Int)).toNat=f by omega,hs,ep]
   exact hl.symm
  ·rw[show ((f:Int)).toNat=f by omega,hs]
   have hr:=PU r (List.mem_of_getElem? hk);rw[ep] at hk;have hkl:=(List.getElem?_eq_some_iff.1 hk).1;have:=ha k hkl;rw[List.getD_eq_getElem?_getD,hk] at this;rw[← this];exact hr
  ·rw[show ((f:Int)).toNat=f by omega,hs]
   exact qN.1 hb.2
 rcases J4 hc with e | e | e
 ·refine ⟨.inl e,fun f hf=> ?_⟩
  have hn:=T.num;unfold Qu at hn;rw[if_pos (by omega)] at hn;have hn':=zm.1 hn;unfold callee at hf;rw[if_pos e] at hf;obtain rfl:=Option.some.inj hf;unfold jj at fit;rw[if_neg (by omega),if_neg (by omega),if_neg (by omega),if_neg (by omega),if_neg (by omega),if_neg (by omega),if_neg (by omega),if_neg (by omega),if_neg (by omega),if_neg (by omega),if_neg (by omega),if_pos e] at fit;cases hs:jB P (zf P x.n.toNat).sig with
  | none=>rw[hs] at fit;cases fit
  | some s=>
   rw[hs] at fit;have:=fin x.n.toNat s (by omega) (by omega) (qW hs).2.symm fit
   rwa [show ((x.n.toNat:Nat):Int)=x.n by omega] at this
 ·have ra:=T.use _ (zhq (x:=x) (by unfold QI;simp only[decide_eq_true_eq];omega))
  have ra':=zm.1 ra;have va:=I.reg ra;unfold jj at fit;rw[if_neg (by omega),if_neg (by omega),if_neg (by omega),if_neg (by omega),if_neg (by omega),if_neg (by omega),if_neg (by omega),if_neg (by omega),if_neg (by omega),if_neg (by omega),if_neg (by omega),if_neg (by omega),if_pos e] at fit;by_cases t2:(zj (zf P m.top.f) x.a).1=2
  ·rw[if_pos t2] at fit
   have np:(m.top.get x.a).1≠2:=fun h2=>by
    obtain ⟨j,r,_,_,h3⟩:=va.ptr h2;rcases h3 with h3 | h3
    ·rw[h3] at t2;cases t2
    ·omega
   refine ⟨.inr ⟨ra'.1,by omega,fun h2=>absurd h2 np⟩,fun f hf=> ?_⟩;unfold callee at hf;rw[if_neg (by omega)] at hf;by_cases h3:(m.top.get x.a).1=3
   ·rw[if_pos h3] at hf
    obtain rfl:=Option.some.inj hf;obtain ⟨_,g,hg,hgl,hsg⟩:=va.fn h3;cases hs:jB P (zj (zf P m.top.f) x.a).2 with
    | none=>rw[hs] at fit;cases fit
    | some s=>
     rw[hs] at fit;rw[hg];exact fin g s hgl (by omega) (by rw[hsg];exact (qW hs).2.symm) fit
   ·rw[if_neg h3,if_neg np] at hf
    cases hf
  ·rw[if_neg t2] at fit
   cases fit
 ·have ra:=T.use _ (zhq (x:=x) (by unfold QI;simp only[decide_eq_true_eq];omega))
  have ra':=zm.1 ra;have va:=I.reg ra;unfold jj at fit;rw[if_neg (by omega),if_neg (by omega),if_neg (by omega),if_neg (by omega),if_neg (by omega),if_neg (by omega),if_neg (by omega),if_neg (by omega),if_neg (by omega),if_neg (by omega),if_neg (by omega),if_neg (by omega),if_neg (by omega),if_pos e] at fit;cases hs:qS P (zj (zf P m.top.f) x.a) x.n with
  | none=>rw[hs] at fit;cases fit
  | some s=>
   rw[hs] at fit;obtain ⟨t3,hn,hsig⟩:=zid hs;have hn':=zm.1 hn;have rgt:QN P m.top x.a=zj (zf P m.top.f) x.a:=(Q1 ra).symm;have n3:(m.top.get x.a).1≠3:=fun h3=>by have:=(va.fn h3).1;omega
   refine ⟨.inr ⟨ra'.1,by omega,fun h2=> ?_⟩,fun f hf=> ?_⟩
   ·obtain ⟨j,r,hj,hr,h3⟩:=va.ptr h2
    have hjl:=(List.getElem?_eq_some_iff.1 hr).1;refine ⟨by omega,by omega,I.top.pt.1,ra'.2,fun q hq=> ?_⟩;obtain ⟨q1,q2,q3⟩:=zaw hq;rw[rgt] at q3;have:=(zmX (W.im q1) (n:=x.n.toNat) (by rw[q3];omega)).1;rw[this,q3];exact ⟨hn'.1,hn'.2⟩
   ·unfold callee at hf
    rw[if_neg (by omega),if_neg n3] at hf;by_cases h2:(m.top.get x.a).1=2
    ·rw[if_pos h2] at hf
     obtain ⟨j,r,hj,hr,h3⟩:=va.ptr h2;rw[zjV hr hj,rgt] at hf;cases hq:zfQ P r (zj (zf P m.top.f) x.a).2 with
     | none=>rw[hq] at hf;cases hf
     | some q=>
      rw[hq] at hf;obtain rfl:=Option.some.inj hf;obtain ⟨q1,q2,q3⟩:=zaw hq;obtain ⟨i1,i2,i3,i4⟩:=zmX (W.im q1) (n:=x.n.toNat) (by rw[q3];omega);have i2':=zm.1 i2;rw[q3, ← hsig] at i3 i4;rw[Bool.and_eq_true] at fit;obtain ⟨hl,ha⟩:=zfx fit.1;have ep:zx x=x.a :: x.args:=if_pos e;refine ⟨i2',?_,fun k y hk=> ?_,?_⟩
      ·rw[i3,ep,List.length_cons,List.length_cons,hl]
      ·have hy:=PU y (List.mem_of_getElem? hk)
       rw[ep] at hk;rw[i3,q2];cases k with
       | zero=>
        simp only[List.getElem?_cons_zero,Option.some.injEq] at hk;subst hk;simp only[List.getD_cons_zero];exact .inr (.inr (.inl ⟨h2,j,r,hj,hr,.inl rfl⟩))
       | succ k=>
        simp only[List.getElem?_cons_succ] at hk;have hkl:=(List.getElem?_eq_some_iff.1 hk).1;have:=ha k hkl;rw[List.getD_eq_getElem?_getD,hk] at this;simp only[List.getD_cons_succ];rw[← this];exact hy
      ·rw[i4]
       exact qN.1 fit.2
    ·rw[if_neg h2] at hf
     cases hf
end
theorem Jv{P:Pr8}{y t:Fr}(h2:zha P y t):∀ {l:List Fr},JQ P l y→JQ P (l ++ [y]) t
 | [],_=>⟨h2,trivial⟩
 | [_],h=>⟨h.1,h2,trivial⟩
 | _ :: _ :: _,h=>⟨h.1,Jv h2 h.2⟩
theorem jU{P:Pr8}{t t':Fr}(e:t'.f=t.f):∀ {l:List Fr},JQ P l t→JQ P l t'
 | [],_=>trivial
 | [z],h=>⟨⟨h.1.1,h.1.2.1,by
   have:=h.1.2.2;show (QW P (zf P t'.f).sig).2=_;rw[e]
   exact this⟩,trivial⟩
 | z :: z' :: l,h=>⟨h.1,jU e h.2⟩
theorem zan{P:Pr8}{y t:Fr}:∀ {l:List Fr},JQ P (l ++ [y]) t→JQ P l y∧zha P y t
 | [],h=>⟨trivial,h.1⟩
 | [z],h=>⟨⟨h.1,trivial⟩,h.2.1⟩
 | z :: z' :: l,h=>by
  have:=zan (l:=z' :: l) h.2;exact ⟨⟨h.1,this.1⟩,this.2⟩
theorem zkH{R B:Nat}{fin reg tt els:Int}(h:qE R B fin reg tt els=true):(fin=1∧inB tt B=true)∨(fin=2∧inB reg R=true∧inB tt B=true∧inB els B=true)∨(fin=3∧inB reg R=true):=by
 unfold qE at h;split at h
 ·simp only[Bool.and_eq_true] at h
  exact .inl ⟨by assumption,h.2.1⟩
 ·split at h
  ·simp only[Bool.and_eq_true] at h
   exact .inr (.inl ⟨by assumption,h.1,h.2.1,h.2.2⟩)
  ·split at h
   ·simp only[Bool.and_eq_true] at h
    exact .inr (.inr ⟨by assumption,h.1⟩)
   ·cases h
theorem Wff.sigl(h:Wff P)(n:Int):(QW P n).1.length≤4:=by
 have ht:=h.tab;unfold zio at ht;simp only[Bool.and_eq_true] at ht;unfold QW;by_cases hn:n.toNat<P.sigs.length
 ·have:=jw ht.2.2.1 (ZF ([],0,0) hn)
  unfold zhV at this;simpa using this
 ·rw[List.getD_eq_getElem?_getD,List.getElem?_eq_none (by omega)]
  exact Nat.zero_le _
theorem Wff.args4(h:Wff P)(fit:jj P F x=true)(hc:qk x=true):x.args.length≤4:=by
 have fin:∀ s,(qt F x.args s.1 && tyE s.2 (zj F x.dst))=true→(∃ n,s=QW P n)→x.args.length≤4:=by
  rintro s hs ⟨n,rfl⟩;rw[Bool.and_eq_true] at hs;rw[(zfx hs.1).1];exact h.sigl n
 unfold jj at fit;rcases J4 hc with e | e | e
 ·rw[if_neg (by omega),if_neg (by omega),if_neg (by omega),if_neg (by omega),if_neg (by omega),if_neg (by omega),if_neg (by omega),if_neg (by omega),if_neg (by omega),if_neg (by omega),if_neg (by omega),if_pos e] at fit
  cases hs:jB P (zf P x.n.toNat).sig with
  | none=>rw[hs] at fit;cases fit
  | some s=>rw[hs] at fit;exact fin s fit ⟨_,(qW hs).2⟩
 ·rw[if_neg (by omega),if_neg (by omega),if_neg (by omega),if_neg (by omega),if_neg (by omega),if_neg (by omega),if_neg (by omega),if_neg (by omega),if_neg (by omega),if_neg (by omega),if_neg (by omega),if_neg (by omega),if_pos e] at fit
  by_cases t2:(zj F x.a).1=2
  ·rw[if_pos t2] at fit
   cases hs:jB P (zj F x.a).2 with
   | none=>rw[hs] at fit;cases fit
   | some s=>rw[hs] at fit;exact fin s fit ⟨_,(qW hs).2⟩
  ·rw[if_neg t2] at fit
   cases fit
 ·rw[if_neg (by omega),if_neg (by omega),if_neg (by omega),if_neg (by omega),if_neg (by omega),if_neg (by omega),if_neg (by omega),if_neg (by omega),if_neg (by omega),if_neg (by omega),if_neg (by omega),if_neg (by omega),if_neg (by omega),if_pos e] at fit
  cases hs:qS P (zj F x.a) x.n with
  | none=>rw[hs] at fit;cases fit
  | some s=>rw[hs] at fit;exact fin s fit ⟨_,(zid hs).2.2⟩
theorem Wff.rt(h:Wff P)(hp:ZM P f b i)(hi:i<(zA (zf P f) b).code.length):rtB P (zf P f) (jI (zA (zf P f) b) i)=true:=by
 have:=h.chk1.2.1 _ (J7.2 hp);unfold ptT at this;rw[if_pos hi] at this;unfold zde at this;rw[Bool.and_eq_true,Bool.and_eq_true] at this;exact this.2.1
theorem znk(fit:jj P F x=true)(rt:rtB P F x=true)(h5:x.op=5):(zj F x.dst).1=1∧inB (zj F x.dst).2 P.recs.length=true:=by
 unfold jj at fit;rw[if_neg (by omega),if_neg (by omega),if_neg (by omega),if_neg (by omega),if_pos h5] at fit;have f1:(zj F x.dst).1=1:=by simpa using fit
 unfold rtB at rt;rw[Bool.and_eq_true,Bool.or_eq_true] at rt;rcases rt.1 with r | r
 ·exfalso
  have:zO x=true:=by unfold zO;simp only[decide_eq_true_eq];omega
  rw[this] at r;cases r
 ·unfold tyB at r
  rw[if_neg (by omega),if_pos f1] at r;exact ⟨f1,r⟩
section
variable {P:Pr8}{m:Ma}
theorem Inv.bk(W:Wff P)(I:Inv P m){y:Fr}(hy:m.bot.getLast? = some y):∃ l,m.bot=l ++ [y]∧JQ P l y∧zha P y m.top∧FrT P m.rc y∧InT P (zf P y.f) (y.ins P):=by
 obtain ⟨l,hl⟩:=List.getLast?_eq_some_iff.1 hy;have hc:=I.link;rw[hl] at hc;obtain ⟨c1,c2⟩:=zan hc;have hf:=I.bot y (by rw[hl];simp);exact ⟨l,hl,c1,c2,hf,ze7 (W.ins hf.pt c2.1)⟩
theorem Inv.doOk(W:Wff P)(I:Inv P m):zie P m:=by
 have hp:=I.top.pt;have h16:=W.regs hp.1;have hcode:=W.code hp;have hdeep:=I.deep;refine ⟨hp,by omega,?_,fun hi=> ?_,fun hi hc=> ?_,fun hi hc=> ?_⟩
 ·have:=hp.2.2
  omega
 ·have he:=zkH (W.fin hp hi)
  refine ⟨?_,fun h1=> ?_,fun h3=> ?_,fun h2=> ?_,fun h3=>⟨by omega,fun y hy=> ?_⟩⟩
  ·rcases he with h | h | h
   ·exact .inl h.1
   ·exact .inr (.inl h.1)
   ·exact .inr (.inr h.1)
  ·rcases he with h | h | h
   ·exact absurd h.1 h1
   ·have:=zm.1 h.2.1
    exact ⟨this.1,Int.lt_of_lt_of_le this.2 (by omega)⟩
   ·have:=zm.1 h.2
    exact ⟨this.1,Int.lt_of_lt_of_le this.2 (by omega)⟩
  ·rcases he with h | h | h
   ·exact (zm.1 h.2).1
   ·exact (zm.1 h.2.2.1).1
   ·exact absurd h.1 h3
  ·rcases he with h | h | h
   ·exact absurd (h.1.symm.trans h2) (by decide)
   ·exact (zm.1 h.2.2.2).1
   ·exact absurd (h.1.symm.trans h2) (by decide)
  ·obtain ⟨l,_,_,c2,hf,T⟩:=I.bk W hy
   have hd:=zm.1 (T.dst (zbH c2.2.1));have hr:=W.regs hf.pt.1;have hcy:=W.code hf.pt;have hic:y.i<(zA (zf P y.f) y.b).code.length:=c2.1;exact ⟨hf.pt,c2.1,hd.1,by omega,by omega⟩
 ·have hlt:m.top.i<(m.top.blk P).code.length:=Nat.lt_of_le_of_ne hp.2.2 hi
  obtain ⟨c1,c2⟩:=I.calls W hlt hc;have T:InT P (zf P m.top.f) (m.top.ins P):=ze7 (W.ins hp hlt);have h4:(m.top.ins P).args.length≤4:=W.args4 (W.fit hp hlt) hc;refine ⟨c1,fun r hr=> ?_,?_,fun f hf=>(c2 f hf).fn.1,by omega,by omega⟩
  ·have:=zm.1 (T.use r (Jq hc hr))
   omega
  ·unfold zx
   split
   ·rw[List.length_cons];omega
   ·omega
 ·have hlt:m.top.i<(m.top.blk P).code.length:=Nat.lt_of_le_of_ne hp.2.2 hi
  have T:InT P (zf P m.top.f) (m.top.ins P):=ze7 (W.ins hp hlt);have fit:jj P (zf P m.top.f) (m.top.ins P)=true:=W.fit hp hlt;have rt:rtB P (zf P m.top.f) (m.top.ins P)=true:=W.rt hp hlt;have n400:=I.n400;refine ⟨T.rg h16,fun h5=> ?_,?_⟩
  ·obtain ⟨a1,a2⟩:=znk fit rt h5
   have hd:=T.dst (by unfold zO;simp only[decide_eq_true_eq];omega);have hd':=zm.1 hd;have a2':=zm.1 a2;have rgt:QN P m.top (m.top.ins P).dst=zj (zf P m.top.f) (m.top.ins P).dst:=(Q1 hd).symm;have hr:(zd3 P (zj (zf P m.top.f) (m.top.ins P).dst).2).length≤1000:=W.short.r1 _ (ZF [] (by omega));rw[zkU,rgt];exact ⟨hp,hd'.1,by omega,hd'.2,a2'.1,a2'.2,hr,by omega⟩
  ·have:=T.op
   unfold qk at hc;simp only[Bool.or_eq_false_iff,decide_eq_false_iff_not] at hc;omega
theorem Inv.put(I:Inv P m){r:Int}{v:V3}(hr:inB r (zf P m.top.f).regs.length=true)(hv:VT P m.rc (zj (zf P m.top.f) r) v):Inv P (m.put r v):=
 ⟨I.deep,I.top.set hv hr,I.bot,jU (t:=m.top) (t':=m.top.set r v) rfl I.link,I.n400,I.hl,I.rcN,I.obj⟩
theorem Inv.go(I:Inv P m){b:Nat}(hb:b<(zf P m.top.f).blocks.length):Inv P { m with top:=m.top.go b }:=
 ⟨I.deep,I.top.at rfl rfl ⟨I.top.pt.1,hb,Nat.zero_le _⟩,I.bot,jU (t:=m.top) (t':=m.top.go b) rfl I.link,I.n400,I.hl,I.rcN,I.obj⟩
theorem Inv.next(I:Inv P m)(hi:m.top.i<(zA (zf P m.top.f) m.top.b).code.length):Inv P { m with top:=m.top.next }:=
 ⟨I.deep,I.top.at rfl rfl ⟨I.top.pt.1,I.top.pt.2.1,hi⟩,I.bot,jU (t:=m.top) (t':=m.top.next) rfl I.link,I.n400,I.hl,I.rcN,I.obj⟩
theorem zhh{os:List Ob}{o f:Int}(h:slW os o f=0):1≤o∧o≤(os.length:Int)∧0≤f∧f<((os.getD (o - 1).toNat obZ).vs.length:Int):=by
 unfold slW at h;split at h
 ·contradiction
 ·rename_i h0
  split at h
  ·cases h
  ·rename_i h1
   have h2:foW os o=0:=Decidable.not_not.1 h0;unfold foW at h2;split at h2
   ·cases h2
   ·omega
theorem zgK{os:List Ob}{o:Int}(h:foW os o=0):1≤o∧o≤(os.length:Int):=by
 unfold foW at h;split at h
 ·cases h
 ·omega
theorem ziS{P:Pr8}{t u:Int × Int}{n:Int}(h:zP P t n=some u):t.1=1∧u=(zd3 P t.2).getD n.toNat (0,0):=by
 unfold zP at h;by_cases e:t.1=1∧inB t.2 P.recs.length=true∧inB n (Qb P t.2).length=true
 ·rw[if_pos e] at h
  exact ⟨e.1,(Option.some.inj h).symm⟩
 ·rw[if_neg e] at h
  cases h
theorem ziG{v:V3}{o:Int}(h:j9 v=o)(ho:1≤o):v.1=2∧v.2.1=o:=by
 unfold j9 at h;split at h
 ·exact ⟨by assumption,h⟩
 ·omega
theorem Inv.field(I:Inv P m){a n:Int}{u:Int × Int}(ha:inB a (zf P m.top.f).regs.length=true)(hu:zP P (zj (zf P m.top.f) a) n=some u)(h0:slW m.hp (j9 (m.top.get a)) n=0):
  ∃ (j:Nat) (o:Ob) (r:Int),j9 (m.top.get a)=(j:Int)+1∧m.hp[j]? = some o∧m.rc[j]? = some r∧m.hp.getD (j9 (m.top.get a) - 1).toNat obZ=o∧0≤n∧n<(o.vs.length:Int)∧u=(zd3 P r).getD n.toNat (0,0):=by
 obtain ⟨h1,h2,h3,h4⟩:=zhh h0;obtain ⟨p1,p2⟩:=ziG rfl h1;obtain ⟨j,r,hj,hr,hk⟩:=(I.reg ha).ptr p1;obtain ⟨f1,f2⟩:=ziS hu;have hjl:j<m.hp.length:=by rw[I.hl];exact (List.getElem?_eq_some_iff.1 hr).1
 have e:(j9 (m.top.get a) - 1).toNat=j:=by omega
 refine ⟨j,m.hp.getD j obZ,r,by omega,jm obZ hjl,hr,by rw[e],h3,by rw[e] at h4;exact h4,?_⟩;rcases hk with hk | hk
 ·rw[hk] at f2
  exact f2
 ·omega
theorem Inv.heap(I:Inv P m){hp:List Ob}(hl:hp.length=m.hp.length)(ho:∀ (j:Nat) (o:Ob) (r:Int),hp[j]? = some o→m.rc[j]? = some r→∀ (k:Nat) (v:V3),o.vs[k]? = some v→VT P m.rc ((zd3 P r).getD k (0,0)) v):Inv P { m with hp:=hp }:=
 ⟨I.deep,I.top,I.bot,I.link,I.n400,hl.trans I.hl,I.rcN,ho⟩
theorem Inv.ins(I:Inv P m){x:In8}(T:InT P (zf P m.top.f) x)(fit:jj P (zf P m.top.f) x=true)(rt:rtB P (zf P m.top.f) x=true):Inv P (qr P m x).2:=by
 have hd:(1≤x.op∧x.op≤7)∨(10≤x.op∧x.op≤14)→inB x.dst (zf P m.top.f).regs.length=true:=fun h=>T.dst (by unfold zO;simp only[decide_eq_true_eq];exact h);have ha:x.op=2∨(6≤x.op∧x.op≤9)∨x.op=11∨(13≤x.op∧x.op≤15)→inB x.a (zf P m.top.f).regs.length=true:=fun h=>T.use _ (zhq (by unfold QI;simp only[decide_eq_true_eq];exact h));have hb:x.op=2∨x.op=8→inB x.b (zf P m.top.f).regs.length=true:=fun h=>T.use _ (zlK (by unfold QZ;simp only[decide_eq_true_eq];exact h));have al:=znk fit rt;unfold jj at fit;unfold qr;by_cases e1:x.op=1
 ·rw[if_pos e1]
  exact I.put (hd (by omega)) (.inl rfl)
 rw[if_neg e1] at fit ⊢;by_cases e2:x.op=2
 ·rw[if_pos e2]
  refine I.put (hd (by omega)) (.inl ?_);unfold zhJ;split <;> rfl
 rw[if_neg e2] at fit ⊢;by_cases e3:x.op=3
 ·rw[if_pos e3]
  have I':Inv P { m with ora:=m.ora.tail }:=⟨I.deep,I.top,I.bot,I.link,I.n400,I.hl,I.rcN,I.obj⟩;exact I'.put (hd (by omega)) (.inl rfl)
 rw[if_neg e3] at fit ⊢;by_cases e4:x.op=4
 ·rw[if_pos e4]
  exact I.put (hd (by omega)) (.inr (.inl rfl))
 rw[if_neg e4] at fit ⊢;by_cases e5:x.op=5
 ·rw[if_pos e5]
  split
  ·exact I
  ·rename_i hn
   obtain ⟨a1,a2⟩:=al e5;have a2':=zm.1 a2;have hdd:=hd (by omega);have rgt:QN P m.top x.dst=zj (zf P m.top.f) x.dst:=(Q1 hdd).symm;have hl:=I.hl;rw[rgt];obtain ⟨r,hr⟩:∃ r,(zj (zf P m.top.f) x.dst).2=r:=⟨_,rfl⟩;rw[hr] at a2' ⊢;have I':Inv P { m with hp:=m.hp ++ [Ob.mk (zae P m.top.f m.top.b m.top.i:Int) false (.slice none 0 0) ((zd3 P r).map qX)],rc:=m.rc ++ [r] }:=by
    refine ⟨I.deep,I.top.more r,fun y hy=>(I.bot y hy).more r,I.link,?_,?_,fun q hq=> ?_,fun j o q ho hq k v hv=> ?_⟩
    ·show (m.rc ++ [r]).length≤400
     rw[List.length_append,List.length_singleton];omega
    ·show (m.hp ++ [_]).length=(m.rc ++ [r]).length
     rw[List.length_append,List.length_append,hl];rfl
    ·rcases List.mem_append.1 hq with hq | hq
     ·exact I.rcN q hq
     ·rw[List.mem_singleton.1 hq]
      exact a2'
    ·have hjl:=(List.getElem?_eq_some_iff.1 hq).1
     rw[List.length_append,List.length_singleton] at hjl;by_cases hj:j<m.rc.length
     ·rw[List.getElem?_append_left hj] at hq
      rw[List.getElem?_append_left (by omega)] at ho;exact (I.obj j o q ho hq k v hv).more r
     ·obtain rfl:j=m.rc.length:=by omega
      rw[List.getElem?_append_right (Nat.le_refl _),Nat.sub_self] at hq;rw[List.getElem?_append_right (by omega),hl,Nat.sub_self] at ho;simp only[List.getElem?_cons_zero,Option.some.injEq] at ho hq;subst ho hq;simp only[List.getElem?_map,Option.map_eq_some_iff] at hv;obtain ⟨t,_,rfl⟩:=hv;exact VT.zero _ _ _ _
   refine I'.put hdd (.inr (.inr (.inl ⟨rfl,m.hp.length,r,rfl,?_,.inl ?_⟩)))
   ·show (m.rc ++ [r])[m.hp.length]? = some r
    rw[hl,List.getElem?_append_right (Nat.le_refl _),Nat.sub_self];rfl
   ·exact Prod.ext a1 hr
 rw[if_neg e5] at fit ⊢;by_cases e6:x.op=6
 ·rw[if_pos (.inl e6)]
  rw[if_pos e6] at fit;refine I.put (hd (by omega)) ?_;rw[qN.1 fit];exact I.reg (ha (by omega))
 rw[if_neg e6] at fit;by_cases e11:x.op=11
 ·rw[if_pos (.inr e11)]
  rw[if_neg (by omega),if_neg (by omega),if_neg (by omega),if_neg (by omega),if_pos e11] at fit;simp only[Bool.and_eq_true,beq_iff_eq] at fit;refine I.put (hd (by omega)) ?_;rcases I.reg (ha (by omega)) with h | h | ⟨h,j,r,h1,h2,h3⟩ | ⟨h,h1,_⟩
  ·exact .inl h
  ·exact .inr (.inl h)
  ·refine .inr (.inr (.inl ⟨h,j,r,h1,h2,.inr ⟨fit.1,?_⟩⟩))
   rcases h3 with h3 | h3
   ·have:=fit.2.2
    rw[h3] at this;exact this
   ·omega
  ·omega
 rw[if_neg (by omega)];by_cases e7:x.op=7
 ·rw[if_pos e7]
  rw[if_pos e7] at fit;split
  ·rename_i h0
   cases hu:zP P (zj (zf P m.top.f) x.a) x.n with
   | none=>rw[hu] at fit;cases fit
   | some u=>
    rw[hu] at fit;obtain ⟨j,o,r,g1,g2,g3,g4,g5,g6,g7⟩:=I.field (ha (by omega)) hu h0;refine I.put (hd (by omega)) ?_;rw[← qN.1 fit,g7];unfold zd4;rw[if_pos h0,g4];exact I.obj j o r g2 g3 _ _ (jm _ (by omega))
  ·exact I
 rw[if_neg e7] at fit ⊢;by_cases e8:x.op=8
 ·rw[if_pos e8]
  rw[if_pos e8] at fit;by_cases h0:slW m.hp (j9 (m.top.get x.a)) x.n=0
  ·cases hu:zP P (zj (zf P m.top.f) x.a) x.n with
   | none=>rw[hu] at fit;cases fit
   | some u=>
    rw[hu] at fit;obtain ⟨j,o,r,g1,g2,g3,g4,g5,g6,g7⟩:=I.field (ha (by omega)) hu h0;have vb:=I.reg (hb (by omega));rw[← qN.1 fit,g7] at vb;unfold zdd;rw[if_pos h0,g4,show (j9 (m.top.get x.a) - 1).toNat=j by omega];refine I.heap (List.length_set ..) fun j' o' r' ho' hr' k v hv=> ?_;by_cases hj:j=j'
    ·subst hj
     rw[List.getElem?_set_self (List.getElem?_eq_some_iff.1 g2).1] at ho';obtain rfl:=Option.some.inj ho';obtain rfl:=Option.some.inj (hr'.symm.trans g3);have hv:(o.vs.set x.n.toNat (m.top.get x.b))[k]? = some v:=hv;by_cases hk:x.n.toNat=k
     ·subst hk
      rw[List.getElem?_set_self (by omega)] at hv;obtain rfl:=Option.some.inj hv;exact vb
     ·rw[List.getElem?_set_ne hk] at hv
      exact I.obj j o r' g2 hr' k v hv
    ·rw[List.getElem?_set_ne hj] at ho'
     exact I.obj j' o' r' ho' hr' k v hv
  ·unfold zdd
   rw[if_neg h0];exact I
 rw[if_neg e8] at fit ⊢;by_cases e9:x.op=9
 ·rw[if_pos e9]
  unfold QD;by_cases h0:foW m.hp (j9 (m.top.get x.a))=0
  ·rw[if_pos h0]
   refine I.heap (List.length_set ..) fun j' o' r' ho' hr' k v hv=> ?_;by_cases hj:(j9 (m.top.get x.a) - 1).toNat=j'
   ·subst hj
    have hlt:(j9 (m.top.get x.a) - 1).toNat<m.hp.length:=by have:=zgK h0;omega
    rw[List.getElem?_set_self hlt] at ho';obtain rfl:=Option.some.inj ho';simp at hv
   ·rw[List.getElem?_set_ne hj] at ho'
    exact I.obj j' o' r' ho' hr' k v hv
  ·rw[if_neg h0]
   exact I
 rw[if_neg e9] at fit ⊢;by_cases e10:x.op=10
 ·rw[if_pos e10]
  rw[if_pos e10] at fit;have hn:=T.num;unfold Qu at hn;rw[if_pos (by omega)] at hn;have hn':=zm.1 hn;refine I.put (hd (by omega)) (.inr (.inr (.inr ⟨rfl,?_,x.n.toNat,by show x.n=_;omega,by omega,?_⟩)))
  ·rw[qN.1 fit]
  ·rw[qN.1 fit]
 rw[if_neg e10];split
 ·exact ⟨I.deep,I.top,I.bot,I.link,I.n400,I.hl,I.rcN,I.obj⟩
 ·exact I
theorem zes(x:Fr):∀ (l:List Int) (k:Nat) (y:Fr),(jl x k y l).f=y.f∧(jl x k y l).b=y.b∧(jl x k y l).i=y.i
 | [],_,_=>⟨rfl,rfl,rfl⟩
 | r :: l,k,y=>by
  have:=zes x l (k+1) (y.set (k:Int) (x.get r));rw[jl];exact this
theorem zaM(x:Fr)(Q:Nat→V3→Prop):∀ (l:List Int) (k:Nat) (y:Fr),(∀ j,Q j (y.rs.getD j rg0).1)→(∀ i r,l[i]? = some r→Q (k+i) (x.get r))→∀ j,Q j ((jl x k y l).rs.getD j rg0).1
 | [],_,_,h,_=>h
 | r :: l,k,y,h,h2=>by
  rw[jl];refine zaM x Q l (k+1) _ (fun j=> ?_) (fun i q hq=>by have:=h2 (i+1) q hq;rwa [show k+1+i=k+(i+1) by omega]);show Q j ((y.rs.set ((k:Int)).toNat (x.get r,true)).getD j rg0).1;rw[show ((k:Int)).toNat=k by omega];by_cases e:k=j
  ·subst e
   by_cases hl:k<y.rs.length
   ·rw[List.getD_eq_getElem?_getD,List.getElem?_set_self hl]
    have:=h2 0 r rfl;simpa using this
   ·rw[List.set_eq_of_length_le (by omega)]
    exact h k
  ·rw[List.getD_eq_getElem?_getD,List.getElem?_set_ne e, ← List.getD_eq_getElem?_getD]
   exact h j
theorem Wff.par{P:Pr8}(W:Wff P){f:Nat}(hf:f<P.funcs.length):(QW P (zf P f).sig).1.length≤(zf P f).regs.length∧∀ k,k<(QW P (zf P f).sig).1.length→(zf P f).regs.getD k (0,0)=(QW P (zf P f).sig).1.getD k (0,0):=by
 have h:=W.chk1.1 f hf;unfold Q8 at h;cases hs:jB P (zf P f).sig with
 | none=>rw[hs] at h;cases h
 | some s=>
  rw[hs] at h;obtain rfl:=(qW hs).2;simp only[Bool.and_eq_true,decide_eq_true_eq] at h;exact ⟨h.1,fun k hk=>qN.1 (List.all_eq_true.1 h.2 k (List.mem_range.2 hk))⟩
theorem Inv.call(W:Wff P)(I:Inv P m)(hi:m.top.i<(m.top.blk P).code.length)(hc:qk (m.top.ins P)=true):Inv P (Zw P m (m.top.ins P)).2:=by
 obtain ⟨_,c2⟩:=I.calls W hi hc;unfold Zw;cases hf:callee P m (m.top.ins P) with
 | none=>exact I
 | some f=>
  have C:=c2 f hf;simp only;split
  ·exact I
  ·rename_i h60
   have hfn:f.toNat<P.funcs.length:=by have:=C.fn;omega
   obtain ⟨p1,p2⟩:=W.par hfn;obtain ⟨g1,g2,g3⟩:=zes m.top (zx (m.top.ins P)) 0 (fr0 f.toNat)
   have vals:=zaM m.top (fun j v=>VT P m.rc ((zf P f.toNat).regs.getD j (0,0)) v) (zx (m.top.ins P)) 0 (fr0 f.toNat) (fun j=>by
    have e:((fr0 f.toNat).rs.getD j rg0).1=(0,0,false):=zeX 16 j;rw[e]
    exact .inl rfl) (fun i r hr=>by
    rw[Nat.zero_add];have hil:=(List.getElem?_eq_some_iff.1 hr).1;rw[p2 i (by rw[C.len];exact hil)]
    exact C.arg i r hr)
   refine ⟨?_,⟨?_,?_,fun r hr=> ?_⟩,fun y hy=> ?_,?_,I.n400,I.hl,I.rcN,I.obj⟩
   ·show (m.bot ++ [m.top]).length≤59
    rw[List.length_append,List.length_singleton];omega
   ·show ZM P (jl m.top 0 (fr0 f.toNat) (zx (m.top.ins P))).f (jl m.top 0 (fr0 f.toNat) (zx (m.top.ins P))).b (jl m.top 0 (fr0 f.toNat) (zx (m.top.ins P))).i
    rw[g1,g2,g3];exact W.start hfn
   ·show (jl m.top 0 (fr0 f.toNat) (zx (m.top.ins P))).rs.length=16
    rw[zam];exact List.length_replicate
   ·show VT P m.rc ((zf P (jl m.top 0 (fr0 f.toNat) (zx (m.top.ins P))).f).regs.getD r (0,0)) _
    rw[g1];exact vals r
   ·rcases List.mem_append.1 hy with hy | hy
    ·exact I.bot y hy
    ·rw[List.mem_singleton.1 hy]
     exact I.top
   ·refine Jv ⟨hi,hc,?_⟩ I.link
    show (QW P (zf P (jl m.top 0 (fr0 f.toNat) (zx (m.top.ins P))).f).sig).2=_;rw[g1];exact C.ret
theorem Inv.fin(W:Wff P)(I:Inv P m)(hi:m.top.i=(m.top.blk P).code.length):Inv P (zcn P m (m.top.blk P)).2:=by
 have hp:=I.top.pt;have he:=zkH (W.fin hp hi);have ht:zah P (zf P m.top.f) (m.top.blk P)=true:=W.endt hp hi;have he:(((m.top.blk P).fin=1∧inB (m.top.blk P).to (zf P m.top.f).blocks.length=true)∨((m.top.blk P).fin=2∧inB (m.top.blk P).reg (zf P m.top.f).regs.length=true∧inB (m.top.blk P).to (zf P m.top.f).blocks.length=true∧inB (m.top.blk P).els (zf P m.top.f).blocks.length=true)∨((m.top.blk P).fin=3∧inB (m.top.blk P).reg (zf P m.top.f).regs.length=true)):=he;generalize m.top.blk P=b at *;unfold zcn;by_cases h3:b.fin=3
 ·rw[if_pos h3]
  have hr:inB b.reg (zf P m.top.f).regs.length=true:=by
   rcases he with h | h | h
   ·omega
   ·exact h.2.1
   ·exact h.2
  have hv:=I.reg hr;unfold zah at ht;rw[if_neg (by omega),if_pos h3] at ht;cases hs:jB P (zf P m.top.f).sig with
  | none=>rw[hs] at ht;cases ht
  | some s=>
   rw[hs] at ht;rw[Bool.and_eq_true] at ht;rw[Q1 hr,qN.1 ht.2,(qW hs).2] at hv;generalize m.top.get b.reg=v at *;unfold Jf;cases hy:m.bot.getLast? with
   | none=>exact ⟨I.deep,I.top,I.bot,I.link,I.n400,I.hl,I.rcN,I.obj⟩
   | some y=>
    obtain ⟨l,hl,c1,c2,hf,T⟩:=I.bk W hy;have hdl:m.bot.dropLast=l:=by rw[hl,List.dropLast_concat]
    rw[c2.2.2] at hv;have F1:=hf.set hv (T.dst (zbH c2.2.1));simp only;rw[hdl];have hdeep:=I.deep;rw[hl,List.length_append] at hdeep;exact ⟨by show l.length≤59;omega,F1.at rfl rfl ⟨hf.pt.1,hf.pt.2.1,c2.1⟩,fun z hz=>I.bot z (by rw[hl];exact List.mem_append_left _ hz),jU (t:=y) (t':=(y.set (y.ins P).dst v).next) rfl c1,I.n400,I.hl,I.rcN,I.obj⟩
 ·rw[if_neg h3]
  split
  ·rename_i h2
   refine I.go ?_;rcases he with h | h | h
   ·omega
   ·have:=zm.1 h.2.2.2
    omega
   ·omega
  ·refine I.go ?_
   rcases he with h | h | h
   ·have:=zm.1 h.2
    omega
   ·have:=zm.1 h.2.2.1
    omega
   ·omega
theorem Inv.step(W:Wff P)(I:Inv P m):Inv P (zS P m).2:=by
 have I:=I.calm;show Inv P (doS P m.calm).2;generalize m.calm=m at *;have hp:=I.top.pt;unfold doS;by_cases hi:m.top.i=(m.top.blk P).code.length
 ·rw[if_pos hi]
  exact I.fin W hi
 ·rw[if_neg hi]
  have hlt:m.top.i<(m.top.blk P).code.length:=Nat.lt_of_le_of_ne hp.2.2 hi;by_cases hc:qk (m.top.ins P)=true
  ·rw[if_pos hc]
   exact I.call W hlt hc
  ·rw[if_neg hc]
   have J:=I.ins (x:=m.top.ins P) (ze7 (W.ins hp hlt)) (W.fit hp hlt) (W.rt hp hlt);obtain ⟨_,t2,t3,t4⟩:=zbW P m (m.top.ins P);split
   ·refine J.next ?_
    rw[t2,t3,t4];exact hlt
   ·exact J
end
theorem zlW(P:Pr8)(m:Ma):zS (zfR P) m=zS P m:=rfl
theorem zko{m:Ma}(h:zie P m):zie (zfR P) m:=
 ⟨h.pt,h.bot,h.big,fun e=>⟨(h.en e).fin,(h.en e).reg,(h.en e).to1,(h.en e).els,fun e3=>⟨((h.en e).bk e3).1,fun y hy=>⟨(((h.en e).bk e3).2 y hy).pt,(((h.en e).bk e3).2 y hy).ic,(((h.en e).bk e3).2 y hy).d0,(((h.en e).bk e3).2 y hy).d1,(((h.en e).bk e3).2 y hy).ib⟩⟩⟩,fun e c=>⟨(h.cl e c).cal,(h.cl e c).pas,(h.cl e c).len,(h.cl e c).fun0,(h.cl e c).bot,(h.cl e c).arg⟩,fun e c=>⟨(h.rg e c).1,(h.rg e c).2.1,(h.rg e c).2.2⟩⟩
def Q4(w:World)(mp:Nat)(P:Pr8)(m:Ma)(F:List Nat):Prop:=∃ W0 qq fg hb fc rv oa oc os Fh,MaS W0 w mp qq fg (zfR P) m F hb fc rv oa oc os Fh
theorem Q4.quiet{m:Ma}{F:List Nat}(h:Q4 w mp P m F)(k:za [] w w'):Q4 w' mp P m F:=by
 obtain ⟨W0,qq,fg,hb,fc,rv,oa,oc,os,Fh,h⟩:=h;exact ⟨W0,qq,fg,hb,fc,rv,oa,oc,os,Fh,h.quiet k⟩
theorem Q4.lt{m:Ma}{F:List Nat}(h:Q4 w mp P m F):∀ x,x∈F→x<w.heap.size:=by
 obtain ⟨W0,qq,fg,hb,fc,rv,oa,oc,os,Fh,h⟩:=h;exact h.lt
theorem Q4.mem{m:Ma}{F:List Nat}(h:Q4 w mp P m F):mp∈F:=by
 obtain ⟨W0,qq,fg,hb,fc,rv,oa,oc,os,Fh,h⟩:=h;exact h.mp_in
theorem za.step9{w'':World}{F:List Nat}(k:za [] w w')(k':za F w' w'')(h:∀ x,x∈F→w.heap.size≤x):za [] w w'':=k.trans k' fun x hx hl=>by
 have:=h x hx;omega
theorem ja.up9{F F':List Nat}(n:ja w' F F')(k:za [] w w')(h:∀ x,x∈F→w.heap.size≤x):∀ x,x∈F'→w.heap.size≤x:=fun x hx=>(n x hx).elim (h x) (Nat.le_trans k.size)
theorem zhW(h:Sm8 P):Sm8 (zfR P):=⟨h.fn,h.bk,h.pt⟩
theorem zcs{pp:Nat}{a:Option Addr}{cp:Nat}{l:List Int}(h:PrC w pp 0 P)(hg:zbq w)(hT:jb w)(ok:wfO P=none)(ho:zq w 1 zI a l)(hl:l.length≤1000000):
  Calls Tryz.prog 20 #[pointer (some ⟨pp,0,none⟩),.slice a l.length cp] w fun e w'=>∃ mp F,e=.returned (pointer (some ⟨mp,0,none⟩))∧Q4 w' mp P (ma0 P l) F∧za [] w w'∧∀ x,x∈F→w.heap.size≤x:=by
 have W:=zfC ok;have hm:=zm.1 W.main;have S:=W.short;refine (ziK h hg hT ok ho hl P.main.toNat (by omega) S.h1 S.h2 S.h3 S.r1 S.r2 S.r3).mono ?_;rintro e w' ⟨W0,mp,qq,fg,F,hb,oa,oc,Fh,h1,h2,h3,h4⟩;exact ⟨mp,F,h1,⟨_,_,_,_,_,_,_,_,_,_,h2⟩,h3,h4⟩
theorem zge(w:World)(hg:zbq w)(a:Option Addr)(n cp:Nat):Calls Tryz.prog 20 #[.pointer none,.slice a n cp] w fun e w'=>e=.returned (.pointer none)∧za [] w w':=by
 have HW:=hid (zcV w hg);clear hg;go_enter Tryz.func20,Tryz.ntmps20;go_wp2_with fail;refine HW.o.mono ?_;rintro e w2 ⟨p,r,rfl, -, -, -,k2⟩;have K2:=hid k2;clear k2 HW;go_wp2_with fail;go_ret;exact ⟨rfl,K2.o⟩
theorem zlV{pp:Nat}{q:Int × Int × Int × Int}(h:PrC w pp 0 P)(hg:zbq w)(hT:jb w)(bad:wfO P=some q)(a:Option Addr)(n cp:Nat):Calls Tryz.prog 20 #[pointer (some ⟨pp,0,none⟩),.slice a n cp] w fun e w'=>e=.returned (.pointer none)∧za [] w w':=by
 have HW:=hid (Js h hg hT);rw[bad] at HW;clear h hg hT bad;go_enter Tryz.func20,Tryz.ntmps20;go_wp2_with fail;refine HW.o.mono ?_;rintro e w2 ⟨p,r,rfl, -, -, -,k2⟩;have K2:=hid k2;clear k2 HW;go_wp2_with fail;go_ret;exact ⟨rfl,K2.o⟩
section
variable {w:World}{mp:Nat}{P:Pr8}{m:Ma}{F:List Nat}
theorem Zu(W:Wff P)(I:Inv P m)(hs:Sm8 P)(h:Q4 w mp P m F):Calls Tryz.prog 21 #[pointer (some ⟨mp,0,none⟩)] w fun e w'=>∃ F',e=.returned (int i64 (zS P m).1)∧Q4 w' mp P (zS P m).2 F'∧za F w w'∧ja w F F':=by
 obtain ⟨W0,qq,fg,hb,fc,rv,oa,oc,os,Fh,h⟩:=h;refine (zg4 h (zko (I.calm.doOk W)) (zhW hs)).mono ?_;rintro e w' ⟨rfl,F',fg',fc',rv',oa',oc',os',Fh',h1,h2,h3⟩;exact ⟨F',rfl,⟨W0,qq,fg',hb,fc',rv',oa',oc',os',Fh',h1⟩,h2,h3⟩
theorem zj8(I:Inv P m)(hs:Sm8 P)(h:Q4 w mp P m F):Calls Tryz.prog 22 #[pointer (some ⟨mp,0,none⟩)] w fun e w'=>e=.returned (int i64 (zhP P m.top.f m.top.b m.top.i))∧za [] w w':=by
 obtain ⟨W0,qq,fg,hb,fc,rv,oa,oc,os,Fh,h⟩:=h;exact zly (P:=zfR P) h (Nat.le_trans I.deep (by decide)) (zhW hs)
theorem zcS(h:Q4 w mp P m F):Calls Tryz.prog 23 #[pointer (some ⟨mp,0,none⟩)] w fun e w'=>e=.returned (int i64 ((m.bot.length:Int)+1))∧za [] w w':=by
 obtain ⟨W0,qq,fg,hb,fc,rv,oa,oc,os,Fh,h⟩:=h;exact ze5 h
theorem zbx(h:Q4 w mp P m F):Calls Tryz.prog 39 #[pointer (some ⟨mp,0,none⟩)] w fun e w'=>e=.returned (vlV m.res)∧za [] w w':=by
 obtain ⟨W0,qq,fg,hb,fc,rv,oa,oc,os,Fh,h⟩:=h;exact zcX h
theorem zkV(h:Q4 w mp P m F):Calls Tryz.prog 34 #[pointer (some ⟨mp,0,none⟩)] w fun e w'=>e=.returned (.bool m.sk)∧za [] w w':=by
 obtain ⟨W0,qq,fg,hb,fc,rv,oa,oc,os,Fh,h⟩:=h;exact zgy h
theorem zjP(h:Q4 w mp P m F):Calls Tryz.prog 33 #[pointer (some ⟨mp,0,none⟩)] w fun e w'=>e=.returned (int i64 (if m.lc=true then m.lf else -1))∧za [] w w':=by
 obtain ⟨W0,qq,fg,hb,fc,rv,oa,oc,os,Fh,h⟩:=h;exact zc7 h
theorem zlS(I:Inv P m)(h:Q4 w mp P m F)(r:Nat)(hr:r<16):Calls Tryz.prog 32 #[pointer (some ⟨mp,0,none⟩),int i64 (r:Int)] w fun e w'=>e=.returned (.tuple #[vlV (m.top.get (r:Int)),.bool (m.top.rs.getD r rg0).2])∧za [] w w':=by
 obtain ⟨W0,qq,fg,hb,fc,rv,oa,oc,os,Fh,h⟩:=h;exact ziR h (Nat.le_trans I.deep (by decide)) r hr
end
theorem ziE(w:World)(r:Int):Calls Tryz.prog 32 #[.pointer none,int i64 r] w fun e w'=>e=.returned (.tuple #[vlV (0,0,false),.bool false])∧za [] w w':=by
 go_enter Tryz.func32,Tryz.ntmps32;go_wp2_with fail;have KA:=hid (za.alloc [] w (.cells #[int i64 0,int i64 0,.bool false] 39));have HN:=hid (ze w (.cells #[int i64 0,int i64 0,.bool false] 39));have HI:=hid (Qc (w.alloc (.cells #[int i64 0,int i64 0,.bool false] 39)));generalize w.alloc (.cells #[int i64 0,int i64 0,.bool false] 39)=w1 at *;refine HI.o.mono ?_;rintro e w2 ⟨rfl,k2⟩;have K2:=hid (KA.o.quiet k2);have HN2:=hid (zd HN.o k2);have q0:=zc HN2.o 0;have q1:=zc HN2.o 1;have q2:=zc HN2.o 2;have z0:=zg HN2.o 0;have z1:=zg HN2.o 1;have z2:=zg HN2.o 2;clear k2;go_wp2_with fail
 exact bodyPost_ret (v:=.tuple #[vlV (0,0,false),.bool false]) (by
  have q:∀ (i:Nat),i<3→(((w2.setCell ⟨w.heap.size,0,none⟩ (int i64 0)).setCell ⟨w.heap.size,1,none⟩ (int i64 0)).setCell ⟨w.heap.size,2,none⟩ (.bool false)).cell? ⟨w.heap.size,i,none⟩=(#[int i64 0,int i64 0,.bool false]:Array Value)[i]? := fun i _=>zc (Jt HN2.o _ _ _) i
  simp[results,Tryz.results32,go_sem,q 0 (by omega),q 1 (by omega),q 2 (by omega),vlV]) rfl ⟨rfl,K2.o.trans (jh w2 _ _ _ _) (fun x hx hl=>by rw[List.mem_singleton.1 hx] at hl;omega)⟩
theorem zh7(w:World):Calls Tryz.prog 24 #[.pointer none] w fun e w'=>e=.returned (.pointer none)∧za [] w w':=by
 have HI:=hid (Qc w);go_enter Tryz.func24,Tryz.ntmps24;go_wp2_with fail;refine HI.o.mono ?_;rintro e w2 ⟨rfl,k2⟩;go_wp2_with fail;go_ret;exact ⟨rfl,k2⟩
theorem zkm(w:World):Calls Tryz.prog 39 #[.pointer none] w fun e w'=>e=.returned (vlV (0,0,false))∧za [] w w':=by
 go_enter Tryz.func39,Tryz.ntmps39;go_wp2_with fail;have KA:=hid (za.alloc [] w (.cells #[int i64 0,int i64 0,.bool false] 39));have HN:=hid (ze w (.cells #[int i64 0,int i64 0,.bool false] 39));have HI:=hid (Qc (w.alloc (.cells #[int i64 0,int i64 0,.bool false] 39)));generalize w.alloc (.cells #[int i64 0,int i64 0,.bool false] 39)=w1 at *;refine HI.o.mono ?_;rintro e w2 ⟨rfl,k2⟩;have K2:=hid (KA.o.quiet k2);have HN2:=hid (zd HN.o k2);have q0:=zc HN2.o 0;have q1:=zc HN2.o 1;have q2:=zc HN2.o 2;have z0:=zg HN2.o 0;have z1:=zg HN2.o 1;have z2:=zg HN2.o 2;clear k2;go_wp2_with fail
 exact bodyPost_ret (v:=vlV (0,0,false)) (by
  have q:∀ (i:Nat),i<3→(((w2.setCell ⟨w.heap.size,0,none⟩ (int i64 0)).setCell ⟨w.heap.size,1,none⟩ (int i64 0)).setCell ⟨w.heap.size,2,none⟩ (.bool false)).cell? ⟨w.heap.size,i,none⟩=(#[int i64 0,int i64 0,.bool false]:Array Value)[i]? := fun i _=>zc (Jt HN2.o _ _ _) i
  simp[results,Tryz.results39,go_sem,q 0 (by omega),q 1 (by omega),q 2 (by omega),vlV]) rfl ⟨rfl,K2.o.trans (jh w2 _ _ _ _) (fun x hx hl=>by rw[List.mem_singleton.1 hx] at hl;omega)⟩
end Go.Proofs.YtgmbkiagdhjpnaaGreatDoor
