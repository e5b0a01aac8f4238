/-
    NodesNone returns true: no table tells nothing; of no program there is none.
  Conditions: errors.errorType and math/bits.deBruijn64tab hold what the program's text lays (the card ties them); the tie speaks of the pruned copy of the project that this seat loads.

-/
import Derived.Test.YthflgjkmbakedaaGreatDoorN23

namespace Go.Proofs.YthflgjkmbakedaaGreatDoor
open Go.RowKit
open Go.Value (int pointer agg)
open Go.IntKind (i64)
set_option maxRecDepth 100000
set_option maxHeartbeats 8000000
variable {F:Fu8}{P:Pr8}{b f i tb:Nat}{w:World}{x:In8}
structure Wff (P:Pr8):Prop where
 bnd:Z7 P=true
 names:zP P=none
 met:za7 P=true
 chk:QV P (zb3 P)=none
theorem zfU(h:wfO P=none):Wff P:=by
 have h1:=zdK h;have h2:=zcU h;unfold wfO at h;rw[if_neg (by rw[h1];decide),h2] at h;simp only at h;by_cases hm:za7 P=false
 ·rw[if_pos hm] at h
  cases h
 ·rw[if_neg hm] at h
  refine ⟨h1,h2,by simpa using hm,?_⟩;cases hc:QV P (zb3 P) with
  | none=>rfl
  | some q=>rw[hc] at h;cases h
theorem Wff.short(h:Wff P):zfY P:=zcj h.bnd
theorem Wff.fnB(h:Wff P)(hf:f<P.funcs.length):fnB (zf P f)=true:=jy (Zp h.bnd) (List.mem_of_getElem? (jO ⟨0,[],[]⟩ hf))
theorem Wff.regs(h:Wff P)(hf:f<P.funcs.length):(zf P f).regs.length≤16:=by
 have:=h.fnB hf;unfold Go.Proofs.YthflgjkmbakedaaGreatDoor.fnB at this;simp only[Bool.and_eq_true,decide_eq_true_eq] at this;exact this.1
theorem Wff.pt(h:Wff P)(hp:ZB P f b i):zcc P (f,b,i)=true:=by
 have hn:=h.names;unfold zP at hn;rw[if_pos (Jt h.names)] at hn;cases hf:(List.range P.funcs.length).findSome? (Qu P) with
 | some q=>rw[hf] at hn;cases hn
 | none=>
  have h1:=List.findSome?_eq_none_iff.1 hf f (List.mem_range.2 hp.1);unfold Qu at h1;rw[if_pos (zbw h.names hp.1)] at h1;have h2:(ptF (zf P f) f (zf P f).blocks.length).find? (fun q=> !zcc P q)=none:=by
   cases hq:(ptF (zf P f) f (zf P f).blocks.length).find? (fun q=> !zcc P q) with
   | none=>rfl
   | some q=>rw[hq] at h1;cases h1
  have h3:=List.find?_eq_none.1 h2 (f,b,i) (by
   unfold ptF ptB;rw[List.mem_flatMap];refine ⟨b,List.mem_range.2 hp.2.1,?_⟩;rw[List.mem_map]
   exact ⟨i,List.mem_range.2 (by have:=hp.2.2;omega),rfl⟩)
  simpa using h3
theorem Wff.ins(h:Wff P)(hp:ZB P f b i)(hi:i<(zq (zf P f) b).code.length):qJ P (zf P f) (qm (zq (zf P f) b) i)=true:=by
 have:=h.pt hp;unfold zcc at this
 rwa [if_pos hi] at this
theorem Wff.chk1(h:Wff P):(∀ f,f<P.funcs.length→ZX P (zf P f)=true)∧(∀ q,q∈pts P→ptT P (zb3 P) q=true)∧jY P=true:=by
 have hc:=h.chk;unfold QV at hc;by_cases ha:(List.range P.funcs.length).all (fun f=>ZX P (zf P f))=true
 ·rw[if_pos ha] at hc
  cases hq:(pts P).find? (fun q=> !ptT P (zb3 P) q) with
  | some q=>rw[hq] at hc;cases hc
  | none=>
   rw[hq] at hc;refine ⟨fun f hf=>List.all_eq_true.1 ha f (List.mem_range.2 hf),fun q hm=> ?_,?_⟩
   ·have:=List.find?_eq_none.1 hq q hm
    simpa using this
   ·cases hm:jY P with
    | true=>rfl
    | false=>rw[hm] at hc;cases hc
 ·rw[if_neg ha] at hc
  cases hc
theorem Wff.fit(h:Wff P)(hp:ZB P f b i)(hi:i<(zq (zf P f) b).code.length):jp P (zf P f) (qm (zq (zf P f) b) i)=true:=by
 have:=h.chk1.2.1 _ (QD.2 hp);unfold ptT at this;rw[if_pos hi] at this;unfold zb3 at this;rw[Bool.and_eq_true,Bool.and_eq_true] at this;exact this.2.2
theorem J7{α:Type}{l:List α}{k:Nat}(d:α)(h:k<l.length):l.getD k d∈l:=List.mem_of_getElem? (jO d h)
theorem zhZ(hp:ZB P f b i):zf P f∈P.funcs:=J7 _ hp.1
theorem ziA(hp:ZB P f b i):zq (zf P f) b∈(zf P f).blocks:=J7 _ hp.2.1
theorem Wff.code(h:Wff P)(hp:ZB P f b i):(zq (zf P f) b).code.length≤1000:=
 ((h.short.r3 _ (zhZ hp)).2.2 _ (ziA hp)).1
structure InT (P:Pr8) (F:Fu8) (x:In8):Prop where
 op:1≤x.op∧x.op≤15
 dst:zK x=true→inB x.dst F.regs.length=true
 dst0:zK x=false→x.dst=0
 use:∀ r,r∈zW x→inB r F.regs.length=true
 a0:Qv x.op=false→x.a=0
 b0:Qf x.op=false→x.b=0
 num:ZY P F x=true
theorem zjv(h:qJ P F x=true):InT P F x:=by
 unfold qJ zu JV at h;simp only[Bool.and_eq_true,Bool.or_eq_true,decide_eq_true_eq,Bool.not_eq_true'] at h;obtain ⟨⟨h1,h2,h3,h4,h5,h6⟩,⟨h7,h8⟩,h9⟩:=h;refine ⟨h1,fun e=> ?_,fun e=> ?_,fun r hr=> ?_,fun e=> ?_,fun e=> ?_,h9⟩
 ·rcases h7 with h7 | h7
  ·rw[e] at h7;cases h7
  ·exact h7
 ·rcases h2 with h2 | h2
  ·exfalso
   unfold J5 at h2;unfold zK at e;rw[e] at h2;cases h2
  ·exact h2
 ·unfold J1 at h8
  exact List.all_eq_true.1 h8 r hr
 ·rcases h3 with h3 | h3
  ·rw[e] at h3;cases h3
  ·exact h3
 ·rcases h4 with h4 | h4
  ·rw[e] at h4;cases h4
  ·exact h4
theorem zjE(h:Qv x.op=true):x.a∈zW x:=by
 unfold Qv at h;simp only[decide_eq_true_eq] at h;unfold zW;split
 ·simp
 ·split
  ·simp
  ·split
   ·omega
   ·split
    ·simp
    ·omega
theorem zj2(h:Qf x.op=true):x.b∈zW x:=by
 unfold Qf at h;simp only[decide_eq_true_eq] at h;unfold zW;rw[if_pos h];simp
theorem InT.rg(h:InT P F x)(hr:F.regs.length≤16):zaJ x:=by
 have hd:0≤x.dst∧x.dst<16:=by
  cases e:zK x with
  | true=>have:=z6.1 (h.dst e);omega
  | false=>have:=h.dst0 e;omega
 have ha:0≤x.a∧x.a<16:=by
  cases e:Qv x.op with
  | true=>have:=z6.1 (h.use _ (zjE e));omega
  | false=>have:=h.a0 e;omega
 have hb:0≤x.b∧x.b<16:=by
  cases e:Qf x.op with
  | true=>have:=z6.1 (h.use _ (zj2 e));omega
  | false=>have:=h.b0 e;omega
 exact ⟨hd.1,hd.2,ha.1,ha.2,hb.1,hb.2⟩
theorem zfu{r:Int}(h:inB r F.regs.length=true):zk F r=F.regs.getD r.toNat (0,0):=if_pos h
theorem Wff.rt(h:Wff P)(hp:ZB P f b i)(hi:i<(zq (zf P f) b).code.length):rtB P (zf P f) (qm (zq (zf P f) b) i)=true:=by
 have:=h.chk1.2.1 _ (QD.2 hp);unfold ptT at this;rw[if_pos hi] at this;unfold zb3 at this;rw[Bool.and_eq_true,Bool.and_eq_true] at this;exact this.2.1
theorem zkk(fit:jp P F x=true)(rt:rtB P F x=true)(h5:x.op=5):(zk F x.dst).1=1∧inB (zk F x.dst).2 P.recs.length=true:=by
 unfold jp at fit;rw[if_neg (by omega),if_neg (by omega),if_neg (by omega),if_neg (by omega),if_pos h5] at fit;have f1:(zk F x.dst).1=1:=by simpa using fit
 unfold rtB at rt;rw[Bool.and_eq_true,Bool.or_eq_true] at rt;rcases rt.1 with r | r
 ·exfalso
  have:zK x=true:=by unfold zK;simp only[decide_eq_true_eq];omega
  rw[this] at r;cases r
 ·unfold tyB at r
  rw[if_neg (by omega),if_pos f1] at r;exact ⟨f1,r⟩
def mdV(P:Pr8)(q:Nat × Nat × Nat):Value:=.tuple #[int i64 (if QW P q=true then mkR P q else 0),.bool (QW P q)]
structure zko (P:Pr8) (f b i:Nat):Prop where
 lt:i<(zq (zf P f) b).code.length
 op:(qm (zq (zf P f) b) i).op=5
 d0:0≤(qm (zq (zf P f) b) i).dst
 d1:(qm (zq (zf P f) b) i).dst<((zf P f).regs.length:Int)
 r0:0≤mkR P (f,b,i)
 r1:mkR P (f,b,i)<(P.recs.length:Int)
theorem zi5(W:Wff P)(hp:ZB P f b i)(g:QW P (f,b,i)=true):zko P f b i:=by
 unfold QW at g;rw[Bool.and_eq_true] at g;have g1:i<(zq (zf P f) b).code.length:=of_decide_eq_true g.1;have g2:(qm (zq (zf P f) b) i).op=5:=of_decide_eq_true g.2;have T:InT P (zf P f) (qm (zq (zf P f) b) i):=zjv (W.ins hp g1);obtain ⟨a1,a2⟩:=zkk (W.fit hp g1) (W.rt hp g1) g2;have hd:=T.dst (by unfold zK;simp only[decide_eq_true_eq];omega);rw[zfu hd] at a2;have hd':=z6.1 hd;have a2':=z6.1 a2;exact ⟨g1,g2,hd'.1,hd'.2,a2'.1,a2'.2⟩
theorem zeE{pb po:Nat}(h:PrC w pb po P)(W:Wff P)(hp:ZB P f b i):Calls Tryz.prog 71 #[pointer (some ⟨pb,po,none⟩),ptV f b i] w fun e w'=>e=.returned (mdV P (f,b,i))∧za [] w w':=by
 have HM:=hid fun g=>zi5 W hp g;have HI:Box (QW P (f,b,i)=(decide (i<(zq (zf P f) b).code.length) && decide ((qm (zq (zf P f) b) i).op=5))):=hid rfl;have k1:=za.alloc [] w (.cells #[int i64 (f:Int),int i64 (b:Int),int i64 (i:Int)] 99);have hq:=zd w (.cells #[int i64 (f:Int),int i64 (b:Int),int i64 (i:Int)] 99);have p0:=zc hq 0;have p1:=zc hq 1;have p2:=zc hq 2;have KW:=hid k1;obtain ⟨fa,fcp,H⟩:=h.fns;have hl1:=H.len;have hfn:=hp.1;have ef:P.funcs[f]? = some (zf P f):=zi hp.1;obtain ⟨fb,fo,rfl,FC⟩:=H.rows.at ef;have h4:=zb k1 H.cell;obtain ⟨ba,bcp,g20,gr, -, -⟩:=FC.c2;obtain ⟨ra,rcp,g30,grr, -, -⟩:=FC.c1;have g2:=zb k1 g20;have g3:=zb k1 g30;have hbn:=hp.2.1;have eb:(zf P f).blocks[b]? = some (zq (zf P f) b):=zi hp.2.1;obtain ⟨bb,bo,rfl,L⟩:=gr.at eb;obtain ⟨ca,ccp,gc0,hrows, -,hcl⟩:=L.c0;have gc:=zb k1 gc0;have hil:=hp.2.2;have hR2:Box (∀ k t,(zf P f).regs[k]? = some t→∃ rb ro,ra=some ⟨rb,ro,none⟩∧(w.alloc (.cells #[int i64 (f:Int),int i64 (b:Int),int i64 (i:Int)] 99)).cell? ⟨rb,ro+k * 2+1,none⟩=some (int i64 t.2)):=hid fun k t hk=>by
  obtain ⟨rb,ro,e,hc⟩:=grr.at hk;exact ⟨rb,ro,e,zb k1 hc.c1.1⟩
 have HMV:Box (mdV P (f,b,i)=.tuple #[int i64 (if QW P (f,b,i)=true then ((zf P f).regs.getD (qm (zq (zf P f) b) i).dst.toNat (0,0)).2 else 0),.bool (QW P (f,b,i))]):=hid rfl;unfold ptV;by_cases hic:i<(zq (zf P f) b).code.length
 ·obtain ⟨ib,io,rfl,IC⟩:=hrows.at (zi (d:=⟨0,0,0,0,0,[]⟩) hic)
  have o0:=zb k1 IC.c0.1;have o1:=zb k1 IC.c1.1;have ei:(zq (zf P f) b).code.getD i ⟨0,0,0,0,0,[]⟩=qm (zq (zf P f) b) i:=rfl;rw[ei] at o0 o1;have hne:¬ (i:Int)=((zq (zf P f) b).code.length:Int):=by omega
  by_cases hop:(qm (zq (zf P f) b) i).op=5
  ·have ht:QW P (f,b,i)=true:=by rw[HI.o,decide_eq_true hic,decide_eq_true hop];rfl
   have M:=HM.o ht;have m1:=M.d0;have m2:=M.d1;obtain ⟨d,hd⟩:∃ d:Nat,(qm (zq (zf P f) b) i).dst=(d:Int):=⟨(qm (zq (zf P f) b) i).dst.toNat,by omega⟩;rw[hd] at o1;have hdl:d<(zf P f).regs.length:=by omega
   obtain ⟨rb,ro,rfl,y1⟩:=hR2.o d _ (zi (d:=(0,0)) hdl);rw[ht,if_pos rfl,hd,Int.toNat_natCast] at HMV;rw[hop] at o0;clear HM HI hR2 h H FC g20 g30 gr grr L gc0 hrows hp IC M m1 m2 hd ht ei eb ef k1 hq W;generalize ((zf P f).regs.getD d (0,0)).2=rv at *;generalize (zf P f).regs.length=rn at *;generalize (zq (zf P f) b).code.length=cn at *;generalize (zf P f).blocks.length=bn at *;generalize P.funcs.length=fn at *;go_enter Tryz.func71,Tryz.ntmps71;go_upto_region 1 with fail;generalize w.alloc (.cells #[int i64 (f:Int),int i64 (b:Int),int i64 (i:Int)] 99)=w1 at *;generalize w.heap.size=q at *;go_quiet (fail);go_wp2_with fail;go_quiet (fail);go_wp2_with fail;go_quiet (fail);go_wp2_with fail
   go_ret2
   exact ⟨congrArg Ending.returned HMV.o.symm,by first | exact KW.o.quiet (za.drewN _ _ _) | exact (KW.o.quiet (za.drewN _ _ _)).quiet (za.drewN _ _ _)⟩
  ·have ht:QW P (f,b,i)=false:=by rw[HI.o,decide_eq_true hic,decide_eq_false hop];rfl
   rw[ht,if_neg (by decide)] at HMV;clear HM HI hR2 h H FC g20 g30 gr grr L gc0 hrows hp IC ht ei eb ef k1 hq W;generalize (qm (zq (zf P f) b) i).op=ov at *;have hop':(ov != 5)=true:=bne_iff_ne.2 hop;generalize (zq (zf P f) b).code.length=cn at *;generalize (zf P f).blocks.length=bn at *;generalize P.funcs.length=fn at *;go_enter Tryz.func71,Tryz.ntmps71;go_upto_region 1 with fail;generalize w.alloc (.cells #[int i64 (f:Int),int i64 (b:Int),int i64 (i:Int)] 99)=w1 at *;generalize w.heap.size=q at *;go_quiet (fail);go_wp2_with fail;go_quiet (fail);go_wp2_with fail
   go_ret2
   exact ⟨congrArg Ending.returned HMV.o.symm,by first | exact KW.o.quiet (za.drewN _ _ _) | exact (KW.o.quiet (za.drewN _ _ _)).quiet (za.drewN _ _ _)⟩
 ·have hne:((i:Int) == ((zq (zf P f) b).code.length:Int))=true:=beq_iff_eq.2 (by omega)
  have ht:QW P (f,b,i)=false:=by rw[HI.o,decide_eq_false hic];rfl
  rw[ht,if_neg (by decide)] at HMV;clear HM HI hR2 h H FC g20 g30 gr grr L gc0 hrows hp ht eb ef k1 hq W;generalize (zq (zf P f) b).code.length=cn at *;generalize (zf P f).blocks.length=bn at *;generalize P.funcs.length=fn at *;go_enter Tryz.func71,Tryz.ntmps71;go_upto_region 1 with fail;generalize w.alloc (.cells #[int i64 (f:Int),int i64 (b:Int),int i64 (i:Int)] 99)=w1 at *;generalize w.heap.size=q at *;go_quiet (fail);go_wp2_with fail;go_quiet (fail);go_wp2_with fail
  go_ret2
  exact ⟨congrArg Ending.returned HMV.o.symm,by first | exact KW.o.quiet (za.drewN _ _ _) | exact (KW.o.quiet (za.drewN _ _ _)).quiet (za.drewN _ _ _)⟩
theorem za.fresh9{a b:World}(h:za [] w a)(k:za [tb] a b)(hb:w.heap.size≤tb):za [] w b:=
 h.trans k fun x hx hl=>by
  rw[List.mem_singleton.1 hx] at hl;omega
theorem za.down9{b:World}(k:za [tb] w b)(hb:w.heap.size≤tb):za [] w b:=(za.refl [] w).fresh9 k hb
def zaH(P:Pr8)(k:Nat):List Value:=(ze9 P k).map fun n=>int i64 n
theorem zdr(P:Pr8)(k:Nat):zaH P (k+1)=zaH P k ++ [int i64 (jQ P (k+1):Int)]:=by
 unfold zaH;rw[zda,List.map_append];rfl
theorem zf0(w:World)(hg:zbZ w):Calls Tryz.prog 33 #[.pointer none] w fun e w'=>e=.returned (.pointer none)∧za [] w w':=by
 have HW:=hid (zb4 w hg);clear hg;go_enter Tryz.func33,Tryz.ntmps33;go_wp2_with fail;refine HW.o.mono ?_;rintro e w2 ⟨p,r,rfl, -, -, -,k2⟩;have K2:=hid k2;clear k2 HW;go_wp2_with fail;go_ret;exact ⟨rfl,K2.o⟩
theorem zjo(l:List St){j:Nat}{s:St}(h:l[j]? = some s)(hi:i<4):(zcb l)[j * 4+i]? = [Value.int .i64 (s.p:Int),int i64 s.r,int i64 (s.c:Int),int i64 (s.n:Int)][i]? := by
 induction l generalizing j with
 | nil=>simp at h
 | cons x l ih=>
  unfold zcb;rw[List.flatMap_cons];cases j with
  | zero=>
   simp at h;subst h;rw[List.getElem?_append_left (by simp;omega),Nat.zero_mul,Nat.zero_add]
  | succ j=>
   rw[List.getElem?_append_right (by simp;omega)];have:=ih (j:=j) (by simpa using h);unfold zcb at this;rw[← this]
   congr 1
   simp;omega
theorem TbM.done{B C:Nat}{bv sv:Value}(h:TbM B C w tb bv sv ((stN P (pts P).length).2:Int) (P.funcs.length+1) (zaH P P.funcs.length) (stN P (pts P).length).1.length (zcb (stN P (pts P).length).1)):TbC w tb P:=by
 refine ⟨?_,?_,zc h.box 2⟩
 ·have hb:=h.bo
  rcases h.bo.2 with ⟨_,h0⟩ | ⟨g,cap,cur,rfl,_,_,hn,_⟩
  ·omega
  ·refine ⟨_,cap,zc h.box 0,.inr ⟨g,0,rfl,fun i hi=> ?_⟩⟩
   rw[Q5] at hi;rw[Nat.zero_add,hb.cellAt _ (by omega)];unfold zaH;rw[List.getElem?_map,zav P (by omega),List.getD_eq_getElem?_getD,zav P (by omega)];rfl
 ·have hb:=h.so
  rcases h.so.2 with ⟨rfl,h0⟩ | ⟨g,cap,cur,rfl,_,_,hn,_⟩
  ·refine ⟨none,0,?_,.inl (List.eq_nil_of_length_eq_zero h0)⟩
   have:=zc h.box 1;unfold zcf;rw[h0];exact this
  ·refine ⟨_,cap,zc h.box 1,.inr ⟨g,0,rfl,fun j s hs=> ?_⟩⟩
   have hj:=(List.getElem?_eq_some_iff.1 hs).1;unfold zcf at hs hj;have at9:∀ i,i<4→w.cell? ⟨g,0+j * 4+i,none⟩=[Value.int .i64 (s.p:Int),int i64 s.r,int i64 (s.c:Int),int i64 (s.n:Int)][i]? := fun i hi=>by
    rw[Nat.zero_add,hb.cellAt _ (by omega)];exact zjo _ hs hi
   exact ⟨at9 0 (by omega),at9 1 (by omega),at9 2 (by omega),at9 3 (by omega)⟩
theorem zfP{pp po:Nat}(h:PrC w pp po P)(hg:zbZ w)(hT:jf w)(ok:wfO P=none)(hs:SmN P)(hs10:zbc P):Calls Tryz.prog 33 #[pointer (some ⟨pp,po,none⟩)] w fun e w'=>∃ tb,e=.returned (pointer (some ⟨tb,0,none⟩))∧TbC w' tb P∧za [] w w':=by
 have HW:=hid (zby h hg hT);rw[ok] at HW;have W:=hid (zfU ok);have HP:=hid h;have HPT:=hid fun (w':World) (k:za [] w w')=>j5 (PrC.stays _ _ _ _ _ k h) hs10;have HMD:=hid fun (w':World) (k:za [] w w') (f b i:Nat) (hp:ZB P f b i)=>zeE (PrC.stays _ _ _ _ _ k h) (zfU ok) hp;have HS:=hid hs;obtain ⟨fa,fcp,H⟩:=h.fns;have HF:=hid H;have hN:=hs.fn;obtain ⟨N,hNN⟩:∃ N,N=P.funcs.length:=⟨_,rfl⟩;have HN:=hid hNN;rw[← hNN] at hN
 have H4:Box (∀ w',za [] w w'→w'.cell? ⟨pp,po+4,none⟩=some (.slice fa N fcp)):=hid (by
  have h4':=H.cell;rw[← hNN] at h4';intro w' k
  exact zb k h4')
 clear h hg hT ok hs hs10 H hNN;go_enter Tryz.func33,Tryz.ntmps33;go_wp2_with fail;refine HW.o.mono ?_;rintro e w2 ⟨rfl,k2⟩;have K2:=hid k2;clear k2 HW;go_upto_region 4 with fail
 have T0:Box (TbM w.heap.size w.heap.size ((w2.alloc (.cells #[int i64 0] 3)).alloc (.cells #[.slice (some ⟨w2.heap.size,0,none⟩) 1 1,.slice none 0 0,int i64 0] 141)) (w2.heap.size+1) (.slice (some ⟨w2.heap.size,0,none⟩) 1 1) (.slice none 0 0) (jQ P 0:Int) 1 (zaH P 0) 0 []):=hid (by
  have hsz:=K2.o.size;have g1:=zd (w2.alloc (.cells #[int i64 0] 3)) (.cells #[.slice (some ⟨w2.heap.size,0,none⟩) 1 1,.slice none 0 0,int i64 0] 141);rw[World.size_alloc] at g1;have g2:=ze (zd w2 (.cells #[int i64 0] 3)) (za.alloc [] _ (.cells #[.slice (some ⟨w2.heap.size,0,none⟩) 1 1,.slice none 0 0,int i64 0] 141))
  exact ⟨g1,⟨rfl,.inr ⟨_,1,_,rfl,hsz,g2,Nat.le_refl _,by unfold maxLen;omega,rfl,rfl⟩⟩,World.ownsRow_nil _ _ _ _,by omega⟩)
 have KT:Box (za [] w ((w2.alloc (.cells #[int i64 0] 3)).alloc (.cells #[.slice (some ⟨w2.heap.size,0,none⟩) 1 1,.slice none 0 0,int i64 0] 141))):=hid ((K2.o.quiet (za.alloc _ _ _)).quiet (za.alloc _ _ _));generalize (w2.alloc (.cells #[int i64 0] 3)).alloc (.cells #[.slice (some ⟨w2.heap.size,0,none⟩) 1 1,.slice none 0 0,int i64 0] 141)=w3 at *;generalize (Value.slice (some ⟨w2.heap.size,0,none⟩) 1 1)=bv0 at *;generalize w2.heap.size+1=tb at *;clear K2;have q4:=H4.o _ KT.o;go_wp2_with fail;clear q4
 go_loopw [21] (fun kv wr=>∃ (k:Nat) (bv:Value),k≤N∧kv=int i64 (k:Int)∧Box (TbM w.heap.size w.heap.size wr tb bv (.slice none 0 0) (jQ P k:Int) (k+1) (zaH P k) 0 [])∧Box (za [] w wr)) (fun kv _=>N - (intOf kv).toNat)
 case atStart=>exact ⟨0,bv0,by omega,rfl,T0,KT⟩
 case round=>
  obtain ⟨k,bv,hk,rfl,HO,HK⟩:=hrel;clear T0 KT;by_cases hlt:k<N
  ·have hlt':(k:Int)<(N:Int):=by omega
   have q4:=H4.o _ HK.o;have ef:P.funcs[k]? = some (zf P k):=zi (by rw[← HN.o];exact hlt);obtain ⟨fb,fo,rfl,FC⟩:=HF.o.rows.at ef;obtain ⟨ra,rcp,g30,grr, -, -⟩:=FC.c1;have g3:=zb HK.o g30;have hrl:=HS.o.rg k (by rw[← HN.o];exact hlt);have hbk:=HS.o.beg (k:=k) (by rw[← HN.o];omega);have HB:Box ((jQ P k:Int)+(((zf P k).regs.length:Int)+1)=(jQ P (k+1):Int)):=hid (by show _=((jQ P k+((zf P k).regs.length+1):Nat):Int);omega);clear FC g30 grr ef;obtain ⟨bk,hbk9⟩:∃ bk,bk=jQ P k:=⟨_,rfl⟩;have HBK:=hid hbk9;rw[← hbk9] at HO HB hbk;clear hbk9;generalize (zf P k).regs.length=rl at *;have c2:=zc HO.o.box 2;have y2:=zg HO.o.box 2;go_upto_region 7 with fail
   go_region
   rw[HB.o];have H7:Box (TbM w.heap.size w.heap.size (wr.setCell ⟨tb,2,none⟩ (int i64 (jQ P (k+1):Int))).drew tb bv (.slice none 0 0) (jQ P (k+1):Int) (k+1) (zaH P k) 0 []):=hid ((HO.o.num _).quiet (za.drew _ _));have K7:Box (za [] w (wr.setCell ⟨tb,2,none⟩ (int i64 (jQ P (k+1):Int))).drew):=hid ((HK.o.fresh9 (za.setCell _ _ _ _ (List.mem_singleton.2 rfl)) HO.o.new).quiet (za.drew _ _));generalize (wr.setCell ⟨tb,2,none⟩ (int i64 (jQ P (k+1):Int))).drew=w7 at *;clear HO HK q4 g3 c2 y2 HB HBK hbk;go_wp2_with fail;obtain ⟨z,hz⟩:∃ z:Int,z=(jQ P (k+1):Int):=⟨_,rfl⟩;have HZ:=hid hz;rw[← hz] at H7;clear hz;have c0:=zc H7.o.box 0;have y0:=zg H7.o.box 0;have l0:=zx H7.o.box;have c2:=zc H7.o.box 2;have hB:w.heap.size≤w7.heap.size:=K7.o.size;have OW:Box ((w7.alloc (.cells #[int i64 z] 3)).ownsRow w.heap.size 3 1 bv (k+1) (zaH P k)):=hid (zh H7.o.bo (za.alloc [] _ _) (fun _ _=>by simp))
   go_region_law (go_loud (refine step_append_lies _ (by rfl) _ _ _ (by rfl) w.heap.size 3 Tryz.t3 (int i64 0) 1 8 zL qg qF qI qi rfl (by decide) bv (k+1) (zaH P k) (by rfl) (zi7 OW.o) ⟨w7.heap.size,0,none⟩ 1 1 [int i64 z] (by rfl) (by rfl) (World.news_of_block (cs:=#[int i64 z]) (t:=3) (fr:=(0,0)) (zd w7 _)) (fun x hx=>by simp at hx;subst hx;rfl) (by omega) (by unfold maxLen;omega) (by omega) (by simp;omega) (w7.heap.size+1) (by simp) ?_;intro g5 cap5 w5 hown5 hgrow5 hat5 hlt5;have HG5:Box ((w7.alloc (.cells #[int i64 z] 3)).grownBy w5 bv.ownBlock):=hid ⟨hgrow5.os,hgrow5.tape,hgrow5.output,hgrow5.size,hgrow5.block⟩;have GA:=hid (H7.o.app1 (za.alloc [] w7 (.cells #[int i64 z] 3)) hown5 HG5.o);have GB:=hid (H7.o.far (za.alloc [] w7 (.cells #[int i64 z] 3)) H7.o.bo (by decide) HG5.o).1;have GK:=hid (za.down9 ((H7.o.far (za.alloc [] w7 (.cells #[int i64 z] 3)) H7.o.bo (by decide) HG5.o).2 rfl (K7.o.mono (fun _ h=>by cases h)) 0 (.slice (some ⟨g5,0,none⟩) (k+1+1) cap5)) H7.o.new);have q3:=zc GB.o 0;have y9:=zg GB.o 0;have l9:=zx GB.o;clear hown5 hgrow5 hat5 hlt5 HG5))
   all_goals
    have GF:Box (TbM w.heap.size w.heap.size (w5.setCell ⟨tb,0,none⟩ (.slice (some ⟨g5,0,none⟩) (k+1+1) cap5)) tb (.slice (some ⟨g5,0,none⟩) (k+1+1) cap5) (.slice none 0 0) (jQ P (k+1):Int) (k+1+1) (zaH P (k+1)) 0 []):=hid (by
     have:=GA.o;rw[HZ.o] at this;rw[zdr]
     exact this)
    clear GA GB H7 K7 HZ c0 y0 l0 c2 hB OW q3 y9 l9;generalize w5.setCell ⟨tb,0,none⟩ (.slice (some ⟨g5,0,none⟩) (k+1+1) cap5)=w9 at *;generalize (Value.slice (some ⟨g5,0,none⟩) (k+1+1) cap5)=bv9 at *
   all_goals
    go_wp2_with fail;go_roundw
    case rel=>exact ⟨k+1,bv9,by omega,by go_num,GF,GK⟩
    case measure=>simp[intOf];omega
  ·obtain rfl:k=N:=by omega
   have hlt':¬ (k:Int)<(k:Int):=by omega
   go_wp2_with fail;refine (HPT.o _ HK.o).mono ?_;rintro e w4 ⟨a,cp,rfl,hrow,k4⟩;have HO4:=hid (HO.o.quiet k4);have HK4:=hid (HK.o.quiet k4);have HRW:=hid hrow;clear hrow k4 HO HK;obtain ⟨M,hM⟩:∃ M,M=(pts P).length:=⟨_,rfl⟩;have HM:=hid hM;have hM150:M≤150:=by rw[hM];exact HS.o.pt
   rw[← hM];clear hM;go_wp2_with fail
   have G0:Box (TbM w.heap.size w4.heap.size w4 tb bv (.slice none 0 0) ((stN P 0).2:Int) (k+1) (zaH P k) (stN P 0).1.length (zcb (stN P 0).1)):=hid (by
    refine ⟨?_,HO4.o.bo,World.ownsRow_nil _ _ _ _,HO4.o.new⟩;show w4.heap[tb]? = some (.cells #[bv,.slice none 0 0,int i64 (jQ P P.funcs.length:Int)] 141 (0,0));rw[← HN.o]
    exact HO4.o.box)
   clear HO4
   go_loopw [58] (fun kv wr=>∃ (j:Nat) (sv:Value),j≤M∧kv=int i64 (j:Int)∧Box (TbM w.heap.size w4.heap.size wr tb bv sv ((stN P j).2:Int) (k+1) (zaH P k) (stN P j).1.length (zcb (stN P j).1))∧Box (za [tb] w4 wr)) (fun kv _=>M - (intOf kv).toNat)
   case atStart=>exact ⟨0,_,by omega,rfl,G0,hid (za.refl _ _)⟩
   case round=>
    obtain ⟨j,sv,hj,rfl,HO,HK⟩:=hrel;by_cases hlt:j<M
    ·have hltj:(j:Int)<(M:Int):=by omega
     obtain ⟨pf,pb,pi,hpt⟩:∃ f b i,(pts P)[j]? = some (f,b,i):=⟨_,_,_,List.getElem?_eq_getElem (by rw[← HM.o];exact hlt)⟩;obtain ⟨rb,ro,rfl,hc⟩:=HRW.o.at hpt;have hrt:rb≠tb:=G0.o.off hc.c0 hc.c1;have r0:wr.cell? ⟨rb,ro+j * 3,none⟩=_:=(HK.o.cell (p:=⟨rb,ro+j * 3,none⟩) (block_lt_of_cell hc.c0) (by simp[hrt])).trans hc.c0;have r1:wr.cell? ⟨rb,ro+j * 3+1,none⟩=_:=(HK.o.cell (p:=⟨rb,ro+j * 3+1,none⟩) (block_lt_of_cell hc.c1) (by simp[hrt])).trans hc.c1;have r2:wr.cell? ⟨rb,ro+j * 3+2,none⟩=_:=(HK.o.cell (p:=⟨rb,ro+j * 3+2,none⟩) (block_lt_of_cell hc.c2) (by simp[hrt])).trans hc.c2
     dsimp only at r0 r1 r2
     have hq:zaQ P j=(pf,pb,pi):=by
      unfold zaQ;rw[List.getD_eq_getElem?_getD,hpt];rfl
     have HQ:=hid hq;have HIP:=hid (QD.1 (List.mem_of_getElem? hpt));have HKw:=hid (HK4.o.fresh9 HK.o HO.o.new);clear hc hpt hq G0;have KA:=za.alloc [] wr (.cells #[int i64 (pf:Int),int i64 (pb:Int),int i64 (pi:Int)] 99);have hn:=zd wr (.cells #[int i64 (pf:Int),int i64 (pb:Int),int i64 (pi:Int)] 99);have n0:=zc hn 0;have n1:=zc hn 1;have n2:=zc hn 2;have HOA:=hid (HO.o.quiet KA);have HKA:=hid (HK.o.quiet KA);have HKW:=hid (HKw.o.quiet KA);go_upto_region 13 with fail;clear r0 r1 r2 hn KA HO HK HKw;generalize wr.alloc (.cells #[int i64 (pf:Int),int i64 (pb:Int),int i64 (pi:Int)] 99)=w5 at *;generalize wr.heap.size=vb at *;have HCA:=hid (HMD.o _ HKW.o pf pb pi HIP.o);unfold ptV at HCA;go_wp2_with fail;refine HCA.o.mono ?_;rintro e w6 ⟨rfl,k6⟩;have HO6:=hid (HOA.o.quiet k6);have HK6:=hid (HKA.o.quiet k6);have HKW6:=hid (HKW.o.quiet k6);clear k6 HOA HKA HKW HCA n0 n1 n2;have HMV:Box (mdV P (pf,pb,pi)=.tuple #[int i64 (if QW P (pf,pb,pi)=true then mkR P (pf,pb,pi) else 0),.bool (QW P (pf,pb,pi))]):=hid rfl;rw[HMV.o];clear HMV;by_cases hmk:QW P (pf,pb,pi)=true
     ·have MO:=hid (zi5 W.o HIP.o hmk)
      rw[if_pos hmk,hmk];have HMK:=hid hmk;have hST:=zaw (P:=P) (k:=j) (by rw[HQ.o];exact hmk);rw[HQ.o] at hST;have HST:=hid hST;clear hmk hST;obtain ⟨d,hd⟩:∃ d:Nat,mkR P (pf,pb,pi)=(d:Int):=⟨(mkR P (pf,pb,pi)).toNat,by have:=MO.o.r0;omega⟩;have hdl:d<P.recs.length:=by have:=MO.o.r1;omega
      rw[hd] at HST ⊢;obtain ⟨xa,xcp,x0,xr, -, -⟩:=HP.o.c0;obtain ⟨xb,xo,rfl,xs⟩:=xr.at (zi (d:=[]) hdl);obtain ⟨ya,ycp,y0, -, -, -⟩:=xs;have e9:(P.recs.getD d []).length=zcd P (d:Int):=by unfold zcd;rw[Int.toNat_natCast]
      rw[e9,Nat.mul_one] at y0;have m0:=zb HKW6.o x0;have m1:=zb HKW6.o y0;have hfl:=HS.o.fl (d:Int);have hnd:=HS.o.nodes (k:=j) (by rw[← HM.o];omega);have hsl:(stN P j).1.length≤j:=zaa P j;have HUP:=hid (show (((stN P j).2:Nat):Int)+(zcd P (d:Int):Int)=(((stN P j).2+zcd P (d:Int):Nat):Int) by omega);clear x0 xr y0 hd MO HMK e9;obtain ⟨S,hS⟩:∃ S,S=(stN P j).1:=⟨_,rfl⟩;obtain ⟨x,hx⟩:∃ x,x=(stN P j).2:=⟨_,rfl⟩;rw[← hS, ← hx] at HST;rw[← hS, ← hx] at HO6;rw[← hS] at hsl;rw[← hx] at hnd HUP;clear hS hx;have hrln:=hdl;generalize hrn:P.recs.length=rn at m0 hrln;clear hrn;obtain ⟨fl,hfe⟩:∃ fl,fl=zcd P (d:Int):=⟨_,rfl⟩;rw[← hfe] at m1 hfl HUP HST;clear hfe hdl;go_upto_region 16 with fail;have c1:=zc HO6.o.box 1;have z1:=zg HO6.o.box 1;have l0:=zx HO6.o.box;have c2:=zc HO6.o.box 2;have hB:w4.heap.size≤w6.heap.size:=HK6.o.size;have OW:Box ((w6.alloc (.cells #[int i64 (j:Int),int i64 (d:Int),int i64 (x:Int),int i64 (fl:Int)] 144)).ownsRow w4.heap.size 144 4 sv S.length (zcb S)):=hid (zh HO6.o.so (za.alloc [] _ _) (fun _ _=>by simp));clear m0 m1
      go_region_law (go_loud (refine step_append_lies _ (by rfl) _ _ _ (by rfl) w4.heap.size 144 Tryz.t144 (agg #[int i64 0,int i64 0,int i64 0,int i64 0]) 4 32 zcg zfC zfK zfJ zed rfl (by decide) sv S.length (zcb S) (by rfl) (zi7 OW.o) ⟨w6.heap.size,0,none⟩ 1 1 [int i64 (j:Int),int i64 (d:Int),int i64 (x:Int),int i64 (fl:Int)] (by rfl) (by rfl) (World.news_of_block (cs:=#[int i64 (j:Int),int i64 (d:Int),int i64 (x:Int),int i64 (fl:Int)]) (t:=144) (fr:=(0,0)) (zd w6 _)) (zft _ _ _ _) (by omega) (by unfold maxLen;omega) (by omega) (by simp;omega) (w6.heap.size+1) (by simp) ?_;intro g5 cap5 w7 hown5 hgrow5 hat5 hlt5;have HG5:Box ((w6.alloc (.cells #[int i64 (j:Int),int i64 (d:Int),int i64 (x:Int),int i64 (fl:Int)] 144)).grownBy w7 sv.ownBlock):=hid ⟨hgrow5.os,hgrow5.tape,hgrow5.output,hgrow5.size,hgrow5.block⟩;have GA:=hid (HO6.o.app2 (za.alloc [] w6 (.cells #[int i64 (j:Int),int i64 (d:Int),int i64 (x:Int),int i64 (fl:Int)] 144)) hown5 HG5.o);have GB:=hid (HO6.o.far (za.alloc [] w6 (.cells #[int i64 (j:Int),int i64 (d:Int),int i64 (x:Int),int i64 (fl:Int)] 144)) HO6.o.so (by decide) HG5.o).1;have GK:=hid ((HO6.o.far (za.alloc [] w6 (.cells #[int i64 (j:Int),int i64 (d:Int),int i64 (x:Int),int i64 (fl:Int)] 144)) HO6.o.so (by decide) HG5.o).2 rfl HK6.o 1 (.slice (some ⟨g5,0,none⟩) (S.length+1) cap5));have q3:=zc GB.o 1;have y9:=zg GB.o 1;have l9:=zx GB.o;clear hown5 hgrow5 hat5 hlt5 HG5))
      all_goals
       clear GB HO6 HK6 HKW6 c1 z1 l0 c2 hB OW q3 y9 l9;generalize w7.setCell ⟨tb,1,none⟩ (.slice (some ⟨g5,0,none⟩) (S.length+1) cap5)=w8 at *;generalize (Value.slice (some ⟨g5,0,none⟩) (S.length+1) cap5)=sv9 at *;have u2:=zc GA.o.box 2;have v2:=zg GA.o.box 2;have l2:=zx GA.o.box
      all_goals
       go_upto_region 18 with fail;rw[HUP.o]
       have GF:Box (TbM w.heap.size w4.heap.size (w8.setCell ⟨tb,2,none⟩ (int i64 ((x+fl:Nat):Int))) tb bv sv9 (((stN P (j+1)).2:Nat):Int) (k+1) (zaH P k) (stN P (j+1)).1.length (zcb (stN P (j+1)).1)):=hid (by
        rw[HST.o]
        dsimp only
        rw[zcI,List.length_append]
        exact GA.o.num _)
       have GK2:Box (za [tb] w4 (w8.setCell ⟨tb,2,none⟩ (int i64 ((x+fl:Nat):Int)))):=hid (GK.o.step (za.setCell _ _ _ _ (List.mem_singleton.2 rfl)));clear GA GK u2 v2 l2;generalize w8.setCell ⟨tb,2,none⟩ (int i64 ((x+fl:Nat):Int))=w9 at *;go_wp2_with fail;go_roundw
       case rel=>exact ⟨j+1,sv9,by omega,by go_num,GF,GK2⟩
       case measure=>simp[intOf];omega
     ·rw[Bool.not_eq_true] at hmk
      rw[hmk,if_neg (by decide)];have HST:Box (stN P (j+1)=stN P j):=hid (zcM (by rw[HQ.o];exact hmk));clear hmk;go_wp2_with fail;go_roundw
      case rel=>exact ⟨j+1,sv,by omega,by go_num,hid (by rw[HST.o];exact HO6.o),HK6⟩
      case measure=>simp[intOf];omega
    ·obtain rfl:j=M:=by omega
     have hlt':¬ (j:Int)<(j:Int):=by omega
     go_wp2_with fail;go_ret;have hk9:=HN.o;have hm9:=HM.o;have HD:=HO.o;rw[hk9] at HD;rw[hm9] at HD;exact ⟨tb,rfl,HD.done,HK4.o.fresh9 HK.o HO.o.new⟩
theorem zdN{B n c:Nat}{v:Value}{xs:List Value}{T:TypeId}(h:w.ownsRow B T c v n xs):∃ a cp,v=.slice a n cp:=by
 rcases h.2 with ⟨rfl,h0⟩ | ⟨g,cap,cur,rfl,_⟩
 ·exact ⟨none,0,by rw[h0]⟩
 ·exact ⟨_,cap,rfl⟩
theorem zgo:wfO (pr1 0)=none:=by decide +kernel
theorem zfz:zbc (pr1 0):=Zn (by decide +kernel)
theorem zcO:SmN (pr1 0):=⟨by decide,by decide,fun f hf=>by
 have:f=0:=by have:(pr1 0).funcs.length=1:=rfl;omega
 subst this;decide,fun r=>by
 have:(pr1 0).recs=[]:=rfl;unfold zcd;rw[this]
 simp⟩
theorem nb1:zcy (pr1 0)=2∧zeZ (pr1 0) 0 0=0∧zeS (pr1 0) 0=1∧zhF (pr1 0) 0=0∧stP (pr1 0)=[]∧zeZ (pr1 0) 0 1= -1:=by decide +kernel
theorem zaj(w:World)(hg:zbZ w)(hT:jf w):Calls Tryz.prog 32 #[] w fun e w'=>e=.returned (.bool true)∧za [] w w':=by
 have HG:=hid hg;have HT:=hid hT;have HS:=hid zcO;obtain ⟨s1,s2,s3,s4,s5,s6⟩:=nb1;clear hg hT;go_enter Tryz.func32,Tryz.ntmps32;go_wp2_with fail;refine (zho w).mono ?_;rintro e w1 ⟨rfl,o1,k1⟩;have O1:=hid (o1.prc (by decide));have K1:=hid k1;clear o1 k1;go_wp2_with fail;refine (zfP O1.o (HG.o.quiet K1.o) (HT.o.kept K1.o (by simp)) zgo zcO zfz).mono ?_;rintro e w2 ⟨tb,rfl,t2,k2⟩;have T2:=hid t2;have K2:=hid (K1.o.quiet k2);clear t2 k2 O1 K1;go_wp2_with fail;have hc:=zet T2.o;rw[s1] at hc;refine hc.mono ?_;rintro e w3 ⟨rfl,rfl⟩;clear hc;go_wp2_with fail;have hc:=zaT T2.o HS.o 0 0;rw[s2] at hc;refine hc.mono ?_;rintro e w4 ⟨rfl,k4⟩;have T4:=hid (T2.o.quiet k4);have K4:=hid (K2.o.quiet k4);clear k4 hc T2 K2;go_wp2_with fail;have hc:=zaK T4.o HS.o 0;rw[s3] at hc;refine hc.mono ?_;rintro e w5 ⟨rfl,rfl⟩;clear hc;go_wp2_with fail;have hc:=zfb T4.o HS.o 0;rw[s4] at hc;refine hc.mono ?_;rintro e w6 ⟨rfl,rfl⟩;clear hc;go_wp2_with fail;refine (zbB T4.o HS.o).mono ?_;rintro e w7 ⟨k7,v,rfl,ho⟩;obtain ⟨a,cp,rfl⟩:=zdN ho;have T7:=hid (T4.o.quiet k7);have K7:=hid (K4.o.quiet k7);rw[s5];clear k7 ho T4 K4;go_wp2_with fail;have hc:=zaT T7.o HS.o 0 1;rw[s6] at hc;refine hc.mono ?_;rintro e w8 ⟨rfl,k8⟩;have K8:=hid (K7.o.quiet k8);clear k8 hc;go_wp2_with fail;go_ret;exact ⟨rfl,K8.o⟩
theorem Qb(w:World)(hg:zbZ w)(hT:jf w):Calls Tryz.prog 8 #[] w fun e w'=>e=.returned (.bool true)∧za [] w w':=by
 have HG:=hid hg;have HT:=hid hT;clear hg hT;go_enter Tryz.func8,Tryz.ntmps8;go_wp2_with fail;refine (zeK _ 0).mono ?_;rintro e w1 ⟨rfl,rfl⟩;go_wp2_with fail;refine (zaj _ HG.o HT.o).mono ?_;rintro e w2 ⟨rfl,k2⟩;have K2:=hid k2;clear k2;go_wp2_with fail;refine (zfs _ 0 0).mono ?_;rintro e w3 ⟨rfl,k3⟩;have K3:=hid (K2.o.quiet k3);clear k3 K2;go_wp2_with fail;refine (zf7 _ 0).mono ?_;rintro e w4 ⟨rfl,rfl⟩;go_wp2_with fail;refine (zdC _ 0 0).mono ?_;rintro e w5 ⟨rfl,k5⟩;have K5:=hid (K3.o.quiet k5);clear k5 K3;go_wp2_with fail;refine (zaZ _).mono ?_;rintro e w6 ⟨rfl,rfl⟩;go_wp2_with fail;refine (zbS _).mono ?_;rintro e w7 ⟨rfl,rfl⟩;go_wp2_with fail;refine (zfr _ 0).mono ?_;rintro e w8 ⟨rfl,rfl⟩;go_wp2_with fail;refine (zeG _ 0).mono ?_;rintro e w9 ⟨rfl,k9⟩;have K9:=hid (K5.o.quiet k9);clear k9 K5;go_wp2_with fail;refine (zf0 _ (HG.o.quiet K9.o)).mono ?_;rintro e w10 ⟨rfl,k10⟩;have K10:=hid (K9.o.quiet k10);clear k10 K9;go_wp2_with fail;refine (zaZ _).mono ?_;rintro e w11 ⟨rfl,rfl⟩;go_wp2_with fail;go_ret;exact ⟨rfl,K10.o⟩
section
open Go.ChangeShapes Go.WideShapes Go.ChangeAt
theorem zap(H:Type)(enc:TypeId × Value→H)(W:World)(base:Nat)(args:Array Value)(ds gs:List (DataW H))(before:List MemPlace)
  (hval:∀ (j:Nat) t v,Tryz.f8.params[j]? = some t→args[j]? = some v→Value.okWide Tryz.prog W .any base t v)
  (hW:DataW.Whole enc Tryz.prog Tryz.f8.params.toList Rows.nodesNoneSpec.vars false W args.toList ds gs before) (hL:laidMetH Tryz.prog Rows.nodesNoneRow.laid W):
  Calls Tryz.prog 8 args W fun e W'=>∃ v,e=.returned v∧Rows.nodesNoneSpec.post enc Tryz.prog Tryz.f8 false true false false W args v W':=by
 have hW':=hW;obtain ⟨p,q,hA0,hV,rfl,hfz,hnd⟩:=hW;have hA:DataW.TrodAll enc Tryz.prog W 0 (fun _=>true) true Tryz.f8.params.toList args.toList ds p:=hA0;rw[Tryz.params8] at hA hval;obtain ⟨hargs,rfl,rfl⟩:=trodAll_nil hA;obtain rfl:args=#[]:=by cases args;simp_all
 obtain ⟨rfl,rfl⟩:=trodVars_none hV;clear hA0;refine (Qb W (J0 hL) (QJ hL)).mono fun e W' ⟨he,hk⟩=> ?_;subst he;have bel:Below W.heap.size W W':=hk.below (Nat.le_refl _) (by simp);exact ⟨_,rfl,_,_,_,[],_,[],hW',trodAll_mk1 (shut_bool Tryz.underlying4 _),trodAll_mk0,rfl,bel.frame _,fun h=>by cases h⟩
theorem JZ(os:Os):laidMetH Tryz.prog Rows.nodesNoneRow.laid ((ZP Tryz.prog os).forCall (fun _ _=>0) ⟨#[],(#[]:Array Value),[]⟩).memory:=
 laidMetH_of_parts (laidMet_of_run' 8 (by kernel_rfl) (by kernel_rfl)) (by kernel_rfl)
theorem zfQ(os:Os){H:Type}(enc:TypeId × Value→H):∃ places,DataW.whole enc Tryz.prog ((ZP Tryz.prog os).forCall (fun _ _=>0) ⟨#[],(#[]:Array Value),[]⟩).memory Tryz.f8.params.toList Rows.nodesNoneSpec.vars false (#[]:Array Value).toList 8=some ([],[],places):=
 ⟨[],by kernel_rfl⟩
theorem zcV(os:Os)(started:os.Started)(H:Type)(enc:TypeId × Value→H)(F:Stop.Interp):
  ReturnsInHanded {} Tryz.checked os 8 .any ((OpenSpec.ofChange Rows.nodesNoneSpec).preRow enc Tryz.prog Tryz.f8 Rows.nodesNoneRow.domain false Rows.nodesNoneRow.laid) (((OpenSpec.ofChange Rows.nodesNoneSpec).at F).post enc Tryz.prog Tryz.f8 false true false false):=by
 obtain ⟨places,hx⟩:=zfQ os enc;refine returnsInHanded_of_row (C:=Tryz.checked) (s:=(OpenSpec.ofChange Rows.nodesNoneSpec)) own started (by kernel_rfl) Tryz.func8
  (witness_row_at (enc:=enc) (C:=Tryz.checked) false (ZP Tryz.prog os) (#[]:Array Value) rfl (by kernel_rfl) (by kernel_rfl) (by kernel_rfl)
   (OpenSpec.preRow_of_cond 8 hx (by kernel_rfl) (fun k hk=>by cases hk) (by kernel_rfl) (JZ os))) ?_
 intro W base args ds gs before hval hW _ _ _ hL _ _;exact zap H enc W base args ds gs before hval hW hL
theorem zg1{a b:Bool}(h:a=true)(k:b=true):(a && b)=true:=by rw[h,k];rfl
theorem zc8:joinedFacts Tryz.pinned.checked.prog 8 Tryz.f8 (OpenSpec.ofChange Rows.nodesNoneSpec).bare Rows.nodesNoneRow=true:=by
 unfold joinedFacts
 repeat' (with_reducible refine zg1 ?_ ?_)
 all_goals (as_aux_lemma=>kernel_rfl)
theorem nn_said:Rows.NodesNoneSaid:=
 OpenClaim.holds_of_cond 8 Tryz.f8 rfl rfl rfl rfl rfl rfl rfl ⟨rfl,rfl,rfl,rfl,rfl⟩ rfl rfl rfl rfl rfl (by kernel_rfl) Tryz.func8 zc8
  (of_decide_eq_true (by kernel_rfl)) (by unfold Func.isWrapper;first | (rw[if_pos (by decide +kernel)];kernel_rfl) | (rw[if_neg (by decide +kernel)];exact ⟨rfl,rfl⟩))
  (fun os started H enc _ F=>by rw[OpenClaim.pre_eq_preRow];exact zcV os started H enc F)
theorem zev(f:FuncId)(fn:Func)(hf:Tryz.pinned.checked.prog.funcNamed "haruspex/haruspexlaw16.NodesNone" = some f)(hfn:Tryz.pinned.checked.prog.funcs[f]? = some fn):
  true=Tryz.pinned.checked.prog.looks []∧∀ (j:Nat) t,fn.params[j]? = some t→Tryz.pinned.checked.prog.wantsStandIn t=false:=by
 obtain rfl:f=8:=Option.some.inj ((show Tryz.prog.funcNamed "haruspex/haruspexlaw16.NodesNone" = some 8 by kernel_rfl).symm.trans hf) |>.symm
 obtain rfl:fn=Tryz.f8:=(Option.some.inj (Tryz.func8.symm.trans hfn)).symm;refine ⟨by kernel_rfl,fun j t ht=> ?_⟩;rw[Tryz.params8] at ht;simp at ht
theorem nodesNone_card:Rows.NodesNoneCardSaid:=
 Claim7.holds_tied_plain_at .later [] _ _ _ _ nn_said (fun _ h=>by cases h) (by kernel_rfl) (fun _ h=>by cases h) nodesNone_row_tie rfl ⟨rfl,rfl⟩ (by kernel_rfl) rfl zev (by kernel_rfl)
end
end Go.Proofs.YthflgjkmbakedaaGreatDoor
