import Derived.Test.YtkgoimokgbdgfaaGreatDoorV26

namespace Go.Proofs.YtkgoimokgbdgfaaGreatDoor
open Go.RowKit
open Go.Value (int pointer agg)
open Go.IntKind (i64)
set_option maxRecDepth 20000
set_option maxHeartbeats 4000000
variable {A:Act}{P:Pr8}{T:TypeId}{Z i j k pb po si sj:Nat}{f:Fu8}{l:Array Bool}{o:Oper}{us vs vs':List Value}{v:Value}{vi vj z:Array Value}{w:World}
section
variable {P:Program}{ops:Array Oper}{Q:Exit→Act→World→Prop}{S:World→Prop}{E:Array Bool→World→Prop}
def zgz (P : Program) (ops : Array Oper) (A : Act) (S : World → Prop) (E : Array Bool → World → Prop) (i : Nat) (o : Oper) (v : Value) : Prop :=
  (Region.wanted o (yielded ops A.tmps) = true ∧ ∀ l w, i < l.size → l.getD i false = false → (∀ e, e ∈ o.after → Region.binds .any e = true → l.getD e.on false = true) → S w → E l w →
    ((∃ w', (execOp A.eval o).run P w = .ok (.value v) w' ∧ S w' ∧ E (l.setIfInBounds i true) w') ∨
     (∃ w', (execOp A.eval o).run P w = .ok .skip w' ∧ v = undef ∧ S w' ∧ E (l.setIfInBounds i true) w') ∨
     (∃ f args, (execOp A.eval o).run P w = .ok (.enter f args) w ∧ Calls P f args w fun e w' => e = .returned v ∧ S w' ∧ E (l.setIfInBounds i true) w'))) ∨
  (Region.wanted o (yielded ops A.tmps) = false ∧ v = undef ∧ ∀ l w, S w → E l w → E (l.setIfInBounds i true) w)
theorem zbm{A:Act}{i:Nat}{o:Oper}{v:Value}(hw:Region.wanted o (yielded ops A.tmps)=true)(hE:∀ l w,E l w→E (l.setIfInBounds i true) w)(h:∀ w,S w→(execOp A.eval o).run P w=.ok (.value v) w):zgz P ops A S E i o v:=
 .inl ⟨hw,fun l w _ _ _ hs he=>.inl ⟨w,h w hs,hs,hE l w he⟩⟩
theorem zab{A:Act}{i:Nat}{o:Oper}(hw:Region.wanted o (yielded ops A.tmps)=true)(h:∀ l w,i<l.size→l.getD i false=false→(∀ e,e∈o.after→Region.binds .any e=true→l.getD e.on false=true)→S w→E l w→∃ w',(execOp A.eval o).run P w=.ok .skip w'∧S w'∧E (l.setIfInBounds i true) w'):zgz P ops A S E i o undef:=
 .inl ⟨hw,fun l w hi hu hp hs he=>by
  obtain ⟨w',h1,h2,h3⟩:=h l w hi hu hp hs he
  exact .inr (.inl ⟨w',h1,rfl,h2,h3⟩)⟩
theorem zgi{A:Act}{i:Nat}{o:Oper}{v:Value}(hw:Region.wanted o (yielded ops A.tmps)=true)(f:Nat)(args:Array Value)(he:∀ w,(execOp A.eval o).run P w=.ok (.enter f args) w)
  (hc:∀ l w,i<l.size→l.getD i false=false→(∀ e,e∈o.after→Region.binds .any e=true→l.getD e.on false=true)→S w→E l w→Calls P f args w fun e w'=>e=.returned v∧S w'∧E (l.setIfInBounds i true) w'):zgz P ops A S E i o v:=
 .inl ⟨hw,fun l w hi hu hp hs hE=>.inr (.inr ⟨f,args,he w,hc l w hi hu hp hs hE⟩)⟩
def zW(P:Program)(ops:Array Oper)(A:Act)(S:World→Prop)(E:Array Bool→World→Prop):Nat→List Oper→List Value→Prop
 | i,o :: os,v :: vs=>zgz P ops A S E i o v∧zW P ops A S E (i+1) os vs
 | _,[],[]=>True
 | _,_,_=>False
theorem zW.cons{A:Act}{i:Nat}{o:Oper}{v:Value}{os:List Oper}{vs:List Value}(h:zgz P ops A S E i o v)(t:zW P ops A S E (i+1) os vs):zW P ops A S E i (o :: os) (v :: vs):=⟨h,t⟩
theorem gFR{A:Act}{i:Nat}{o:Oper}{v:Value}{os:List Oper}{vs:List Value}(t:zW P ops A S E (i+1) os vs)(hE:∀ l w,E l w→E (l.setIfInBounds i true) w:=by exact fun _ _ h=>h.keep (by decide))(h:∀ w,S w→(execOp A.eval o).run P w=.ok (.value v) w:=by exact fun _ _=>rfl)(hw:Region.wanted o (yielded ops A.tmps)=true:=by rfl):zW P ops A S E i (o :: os) (v :: vs):=⟨zbm hw hE h,t⟩
theorem gFY{A:Act}{i:Nat}{o:Oper}{v:Value}{os:List Oper}{vs:List Value}(h:∀ w,S w→(execOp A.eval o).run P w=.ok (.value v) w)(t:zW P ops A S E (i+1) os vs)(hE:∀ l w,E l w→E (l.setIfInBounds i true) w:=by exact fun _ _ h=>h.keep (by decide))(hw:Region.wanted o (yielded ops A.tmps)=true:=by rfl):zW P ops A S E i (o :: os) (v :: vs):=⟨zbm hw hE h,t⟩
theorem zW.nil{A:Act}{i:Nat}:zW P ops A S E i [] []:=trivial
theorem zW.at{A:Act}:∀ {os:List Oper}{vs:List Value}{i:Nat},zW P ops A S E i os vs→∀ {k:Nat}{o:Oper},os[k]? = some o→∃ v,vs[k]? = some v∧zgz P ops A S E (i+k) o v
 | [],_,_,_,k,o,ho=>by simp at ho
 | _ :: _,[],_,h,_,_,_=>by cases h
 | o :: os,v :: vs,i,h,0,o',ho=>by
  simp at ho;subst ho;exact ⟨v,rfl,h.1⟩
 | o :: os,v :: vs,i,h,k+1,o',ho=>by
  obtain ⟨u,hu,hg⟩:=zW.at h.2 (k:=k) (by simpa using ho);exact ⟨u,by simpa using hu,by rw[show i+(k+1)=i+1+k by omega];exact hg⟩
structure zkI (ops:Array Oper) (S:World→Prop) (E:Array Bool→World→Prop) (a A:Act) (l:Array Bool) (a':Act) (w:World):Prop where
 size:l.size=ops.size
 kept:S w
 told:E l w
 sz:a'.tmps.size=a.tmps.size
 df:a'.defers=a.defers
 on:∀ (i:Nat) (oi:Oper) (d:Nat),ops[i]? = some oi→oi.dst=some d→l.getD i false=true→a'.tmps[d]? = A.tmps[d]?
 off:∀ d:Nat,(∀ (i:Nat) (oi:Oper),ops[i]? = some oi→oi.dst=some d→l.getD i false=false)→a'.tmps[d]? = a.tmps[d]?
theorem jZ{id:Nat}{a:Act}{w:World}(S:World→Prop)(E:Array Bool→World→Prop)(n:Nat)(vs:List Value)(hm:P.follows .mixedOrders=true)(hn:a.tmps.size=n)(hok:zdB ops n=true)(hk:S w.drew)(he:E (Array.replicate ops.size false) w.drew)
  (h:∀ A,zu ops.toList vs a=A→zW P ops A S E 0 ops.toList vs∧∀ l w',(∀ i,i<ops.size→l.getD i false=true)→S w'→E l w'→Q .normal A w'):(Code.region id ops true).wp P Q a w:=by
 obtain ⟨A,hA⟩:∃ A,zu ops.toList vs a=A:=⟨_,rfl⟩;obtain ⟨hg,hQ⟩:=h A hA;unfold zdB at hok;rw[Bool.and_eq_true,Bool.and_eq_true] at hok;obtain ⟨hsel,hp,hall⟩:=hok;have pair:∀ (i j:Nat) (oi oj:Oper),ops[i]? = some oi→ops[j]? = some oj→jb ops n i j=true:=fun i j oi oj hi hj=>by
  have h1:=List.all_eq_true.1 hp i (List.mem_range.2 (Array.getElem?_eq_some_iff.1 hi).1);exact List.all_eq_true.1 h1 j (List.mem_range.2 (Array.getElem?_eq_some_iff.1 hj).1)
 have dist:∀ (i j:Nat) (oi oj:Oper) (d:Nat),ops[i]? = some oi→ops[j]? = some oj→i≠j→oi.dst=some d→oj.dst≠some d:=fun i j oi oj d hi hj hij hd he=>by
  have:=pair i j oi oj hi hj;unfold jb at this;rw[hi,hj] at this;simp[hij,hd,he] at this
 have lt:∀ (i:Nat) (oi:Oper) (d:Nat),ops[i]? = some oi→oi.dst=some d→d<n:=fun i oi d hi hd=>by
  have:=pair i i oi oi hi hi;unfold jb at this;rw[hi] at this;simp only[hd,Bool.and_eq_true,decide_eq_true_eq] at this;exact this.2.1
 have waits:∀ (i j:Nat) (oi oj:Oper) (d:Nat),ops[i]? = some oi→ops[j]? = some oj→oj.dst=some d→d∈oi.looksAt ops→oi.after.any (fun e=>Region.binds .any e && e.on == j)=true:=fun i j oi oj d hi hj hd hm=>by
  have:=pair i j oi oj hi hj;unfold jb at this;rw[hi,hj] at this;simp only[hd,Bool.and_eq_true,Bool.or_eq_true,Bool.not_eq_true',decide_eq_true_eq] at this;rcases this.2.2 with h0 | h0
  ·rw[List.contains_iff_mem.2 hm] at h0
   cases h0
  ·exact h0
 have aOther:∀ d:Nat,(∀ (i:Nat) (oi:Oper),ops[i]? = some oi→oi.dst≠some d)→A.tmps[d]? = a.tmps[d]? := fun d hd=>by
  rw[← hA];exact jA _ _ _ (fun k o ho=>hd k o (by rw[← Array.getElem?_toList];exact ho))
 have aAt:∀ (i:Nat) (oi:Oper) (d:Nat) (v:Value),ops[i]? = some oi→oi.dst=some d→vs[i]? = some v→A.tmps[d]? = some v:=fun i oi d v hi hd hv=>by
  rw[← hA];exact QA _ _ _ i (by rw[Array.getElem?_toList];exact hi) hv hd (by rw[hn];exact lt i oi d hi hd) (fun j oj hj ho=>dist i j oi oj d hi (by rw[← Array.getElem?_toList];exact ho) (Ne.symm hj) hd)
 refine wp_region_held_drew (S:=S) hm hk (fun hS=> ?_);refine Zs (zkI ops S E a A) (fun _ _ _ h=>h.kept) (fun l a' w' hI hr=> ?_) (fun l a' w' i hI hr=> ?_) _ _ _ _ ?_ ?_
 ·have hl:=Qb (md:=.any) (ops:=ops) hI.size hr hall
  have e:a'=A:=by
   have ht:a'.tmps=A.tmps:=by
    apply Array.ext_getElem?;intro d;by_cases hx:∃ (i:Nat) (oi:Oper),ops[i]? = some oi∧oi.dst=some d
    ·obtain ⟨i,oi,hi,hd⟩:=hx
     exact hI.on i oi d hi hd (hl i (Array.getElem?_eq_some_iff.1 hi).1)
    ·have hno:∀ (i:Nat) (oi:Oper),ops[i]? = some oi→oi.dst≠some d:=fun i oi hi hd=>hx ⟨i,oi,hi,hd⟩
     rw[hI.off d (fun i oi hi hd=>absurd hd (hno i oi hi)),aOther d hno]
   have hdf:a'.defers=A.defers:=by rw[hI.df, ← hA,jL]
   cases a';cases A;simp only at ht hdf;rw[ht,hdf]
  rw[e];exact hQ l w' hl hI.kept hI.told
 ·obtain ⟨hun,oi,hi,hw8⟩:=mem_ready.1 hr
  have hil:i<l.size:=by rw[hI.size];exact (Array.getElem?_eq_some_iff.1 hi).1
  obtain ⟨v,hv,hgv⟩:=hg.at (k:=i) (by rw[Array.getElem?_toList];exact hi);rw[Nat.zero_add] at hgv;have agree:∀ t,t∈oi.looksAt ops→a'.tmps[t]? = A.tmps[t]? := fun t ht=>by
   by_cases hx:∃ (j:Nat) (oj:Oper),ops[j]? = some oj∧oj.dst=some t
   ·obtain ⟨j,oj,hj,hd⟩:=hx
    have:=waits i j oi oj t hi hj hd ht;rw[Array.any_eq_true'] at this;obtain ⟨e,he,h1⟩:=this;rw[Bool.and_eq_true,beq_iff_eq] at h1;have h2:=hw8 e he h1.1;rw[h1.2] at h2;exact hI.on j oj t hj hd h2
   ·have hno:∀ (i:Nat) (oi:Oper),ops[i]? = some oi→oi.dst≠some t:=fun i oi hi hd=>hx ⟨i,oi,hi,hd⟩
    rw[hI.off t (fun i oi hi hd=>absurd hd (hno i oi hi)),aOther t hno]
  have hex:execOp a'.eval oi=execOp A.eval oi:=execOp_congr oi (fun cs b=>by
    exact Region.noSelect_spec hsel i oi cs b hi) (fun x hx=>by
   cases x with
   | tmp t=>
    have:=agree t (List.mem_append_left _ (List.mem_filterMap.2 ⟨.tmp t,by simpa using hx,rfl⟩));simp only[Act.eval,Array.getD_eq_getD_getElem?,this]
   | const v=>rfl
   | global g=>rfl
   | func f=>rfl)
  have hwt:Region.wanted oi (yielded ops a'.tmps)=Region.wanted oi (yielded ops A.tmps):=by
   unfold Region.wanted;cases hgd:oi.guard with
   | none=>rfl
   | some gw=>
    obtain ⟨g,want⟩:=gw;have hy:yielded ops a'.tmps g=yielded ops A.tmps g:=by
     unfold yielded;cases ht:(ops[g]?).bind (·.dst) with
     | none=>rfl
     | some t=>
      have:=agree t (by simp[Oper.looksAt,hgd,ht]);simp[this]
    simp only[hy]
  have next:∀ w2,S w2→E (l.setIfInBounds i true) w2→zkI ops S E a A (l.setIfInBounds i true) (a'.put oi.dst v) w2:=fun w2 k2 e2=>by
   refine ⟨by simpa using hI.size,k2,e2,by rw[QT,hI.sz],by rw[Qd,hI.df],fun j oj d hj hd hl=> ?_,fun d hd=> ?_⟩
   ·by_cases hij:i=j
    ·subst hij
     rw[hi] at hj;cases hj;rw[hd,zdz (by rw[hI.sz,hn];exact lt i oi d hi hd),aAt i oi d v hi hd hv]
    ·rw[jE (dist j i oj oi d hj hi (Ne.symm hij) hd)]
     rw[zX hij] at hl;exact hI.on j oj d hj hd hl
   ·have h1:oi.dst≠some d:=fun e=>by
     have:=hd i oi hi e;rw[q8 hil] at this;cases this
    rw[jE h1];refine hI.off d (fun j oj hj hdj=> ?_);have:=hd j oj hj hdj;by_cases hij:i=j
    ·subst hij
     rw[hi] at hj;cases hj;exact absurd hdj h1
    ·rw[zX hij] at this
     exact this
  refine wpOp_step hi (fun K' hK=> ?_);rw[hwt];rcases hgv with ⟨hw1,hr1⟩ | ⟨hw1,rfl,hpass⟩
  ·rw[if_pos hw1]
   unfold Oper.wp;rw[hex];rcases hr1 l w' hil (by rw[Array.getD_eq_getD_getElem?,Array.getElem?_eq_getElem hil] at hun ⊢;exact hun) hw8 hI.kept hI.told with ⟨w2,he,k2,e2⟩ | ⟨w2,he,rfl,k2,e2⟩ | ⟨f,args,he,hc⟩
   ·rw[he]
    exact hK _ _ (next w2 k2 e2)
   ·rw[he]
    exact hK _ _ (next w2 k2 e2)
   ·rw[he]
    simp only[Oper.upon];refine Calls.mono hc (fun e w2=> ?_);rintro ⟨rfl,k2,e2⟩;exact hK _ _ (next w2 k2 e2)
  ·rw[if_neg (by rw[hw1];simp)]
   exact hK _ _ (next w' hI.kept (hpass l w' hI.kept hI.told))
 ·refine ⟨by simp,hS,he,rfl,rfl,fun i oi d hi hd hl=> ?_,fun d hd=>rfl⟩
  exfalso;rw[Array.getD_eq_getD_getElem?] at hl;by_cases hlt:i<ops.size
  ·rw[Array.getElem?_replicate,if_pos hlt] at hl
   cases hl
  ·rw[Array.getElem?_replicate,if_neg hlt] at hl
   cases hl
 ·unfold left
  exact Nat.le_trans List.countP_le_length (by simp)
end
theorem zmE{x:In8}(h:qG P f x=true)(ht:J5 P f.regs=true):rtB P f x=true:=by
 obtain ⟨hr,_⟩:=J3 h;unfold rtB;rw[Bool.and_eq_true];refine ⟨?_,?_⟩
 ·cases hd:zP x with
  | false=>rfl
  | true=>exact zG ht (jf hr hd)
 ·exact jx fun k y hy=>zG ht (qX hr k y hy)
theorem zkc{x:In8}(ht:J5 P f.regs=true):(qG P f x && (rtB P f x && jX P f x))=(qG P f x && jX P f x):=by
 cases h:qG P f x with
 | false=>rfl
 | true=>rw[zmE h ht,Bool.true_and]
theorem ZY(h:zM P=none):zO P=true:=by
 cases ht:zO P with
 | true=>rfl
 | false=>rw[zaq ht] at h;cases h
theorem Jb(h:zM P=none)(hk:k<P.funcs.length):j7 P k=true:=by
 have ht:=ZY h;unfold zM at h;rw[if_pos ht] at h;cases hf:(List.range P.funcs.length).findSome? (za6 P) with
 | some q=>rw[hf] at h;cases h
 | none=>
  have h1:=List.findSome?_eq_none_iff.1 hf k (List.mem_range.2 hk);cases hh:j7 P k with
  | true=>rfl
  | false=>rw[zbc hh] at h1;cases h1
theorem zkK(h:zM P=none)(hk:k<P.funcs.length):J5 P (zg P k).regs=true:=by
 have:=Jb h hk;unfold j7 at this;rw[Bool.and_eq_true] at this;exact this.2
theorem zjH(h:zM P=none):P.ifs.all (fun l=>Qe l P.sigs.length)=true:=by
 have:=ZY h;unfold zO at this;rw[Bool.and_eq_true,Bool.and_eq_true,Bool.and_eq_true] at this;exact this.2.2.1
theorem zcP(h:zM P=none):P.funcs.all (fun g=>inB g.sig P.sigs.length)=true:=jx fun k y hy=>by
 have hk:=(List.getElem?_eq_some_iff.1 hy).1;have:=Jb h hk;unfold j7 at this;rw[Bool.and_eq_true] at this;have e:zg P k=y:=by
  have h2:=zh (l:=P.funcs) (k:=k) (d:=⟨0,[],[]⟩) hk;rw[hy] at h2;exact (Option.some.inj h2).symm
 rw[e] at this;exact this.1
section
variable {P:Program}{ops:Array Oper}{Q:Exit→Act→World→Prop}{S:World→Prop}
def ziy (P : Program) (ops : Array Oper) (A : Act) (S : World → Prop) (E E' : Array Bool → World → Prop) (vs vs' : List Value) (i : Nat) (o : Oper) (v : Value) : Prop :=
  Region.wanted o (yielded ops A.tmps) = true ∧ ∀ l w, i < l.size → l.getD i false = false → (∀ e, e ∈ o.after → Region.binds .any e = true → l.getD e.on false = true) → S w → E l w →
    ((∃ w', (execOp A.eval o).run P w = .ok (.value v) w' ∧ S w' ∧ E (l.setIfInBounds i true) w') ∨
     (∃ w', (execOp A.eval o).run P w = .ok .skip w' ∧ v = undef ∧ S w' ∧ E (l.setIfInBounds i true) w') ∨
     (∃ w' v', vs'[i]? = some v' ∧ (execOp A.eval o).run P w = .ok (.value v') w' ∧ (∀ j : Nat, l.getD j false = true → vs[j]? = vs'[j]?) ∧ S w' ∧ E' (l.setIfInBounds i true) w'))
theorem zaS{A:Act}{E E':Array Bool→World→Prop}{vs vs':List Value}{i:Nat}{o:Oper}{v:Value}(hw:Region.wanted o (yielded ops A.tmps)=true)(hE:∀ l w,E l w→E (l.setIfInBounds i true) w)(h:∀ w,S w→(execOp A.eval o).run P w=.ok (.value v) w):ziy P ops A S E E' vs vs' i o v:=
 ⟨hw,fun l w _ _ _ hs he=>.inl ⟨w,h w hs,hs,hE l w he⟩⟩
theorem QV{A:Act}{E E':Array Bool→World→Prop}{vs vs':List Value}{i:Nat}{o:Oper}(hw:Region.wanted o (yielded ops A.tmps)=true)(h:∀ l w,i<l.size→l.getD i false=false→(∀ e,e∈o.after→Region.binds .any e=true→l.getD e.on false=true)→S w→E l w→∃ w',(execOp A.eval o).run P w=.ok .skip w'∧S w'∧E (l.setIfInBounds i true) w'):ziy P ops A S E E' vs vs' i o undef:=
 ⟨hw,fun l w hi hu hp hs he=>by
  obtain ⟨w',h1,h2,h3⟩:=h l w hi hu hp hs he
  exact .inr (.inl ⟨w',h1,rfl,h2,h3⟩)⟩
def zQ(P:Program)(ops:Array Oper)(A:Act)(S:World→Prop)(E E':Array Bool→World→Prop)(vs vs':List Value):Nat→List Oper→List Value→Prop
 | i,o :: os,v :: us=>ziy P ops A S E E' vs vs' i o v∧zQ P ops A S E E' vs vs' (i+1) os us
 | _,[],[]=>True
 | _,_,_=>False
theorem zQ.cons{A:Act}{E E':Array Bool→World→Prop}{vs vs':List Value}{i:Nat}{o:Oper}{v:Value}{os:List Oper}{us:List Value}(h:ziy P ops A S E E' vs vs' i o v)(t:zQ P ops A S E E' vs vs' (i+1) os us):zQ P ops A S E E' vs vs' i (o :: os) (v :: us):=⟨h,t⟩
theorem gSR{A:Act}{E E':Array Bool→World→Prop}{vs vs':List Value}{i:Nat}{o:Oper}{v:Value}{os:List Oper}{us:List Value}(t:zQ P ops A S E E' vs vs' (i+1) os us)(hE:∀ l w,E l w→E (l.setIfInBounds i true) w:=by exact fun _ _ h=>h.keep (by decide))(h:∀ w,S w→(execOp A.eval o).run P w=.ok (.value v) w:=by exact fun _ _=>rfl)(hw:Region.wanted o (yielded ops A.tmps)=true:=by rfl):zQ P ops A S E E' vs vs' i (o :: os) (v :: us):=⟨zaS hw hE h,t⟩
theorem gSY{A:Act}{E E':Array Bool→World→Prop}{vs vs':List Value}{i:Nat}{o:Oper}{v:Value}{os:List Oper}{us:List Value}(h:∀ w,S w→(execOp A.eval o).run P w=.ok (.value v) w)(t:zQ P ops A S E E' vs vs' (i+1) os us)(hE:∀ l w,E l w→E (l.setIfInBounds i true) w:=by exact fun _ _ h=>h.keep (by decide))(hw:Region.wanted o (yielded ops A.tmps)=true:=by rfl):zQ P ops A S E E' vs vs' i (o :: os) (v :: us):=⟨zaS hw hE h,t⟩
theorem zQ.nil{A:Act}{E E':Array Bool→World→Prop}{vs vs':List Value}{i:Nat}:zQ P ops A S E E' vs vs' i [] []:=trivial
theorem zQ.at{A:Act}{E E':Array Bool→World→Prop}{vs vs':List Value}:∀ {os:List Oper}{us:List Value}{i:Nat},zQ P ops A S E E' vs vs' i os us→∀ {k:Nat}{o:Oper},os[k]? = some o→∃ v,us[k]? = some v∧ziy P ops A S E E' vs vs' (i+k) o v
 | [],_,_,_,k,o,ho=>by simp at ho
 | _ :: _,[],_,h,_,_,_=>by cases h
 | o :: os,v :: us,i,h,0,o',ho=>by
  simp at ho;subst ho;exact ⟨v,rfl,h.1⟩
 | o :: os,v :: us,i,h,k+1,o',ho=>by
  obtain ⟨u,hu,hg⟩:=zQ.at h.2 (k:=k) (by simpa using ho);exact ⟨u,by simpa using hu,by rw[show i+(k+1)=i+1+k by omega];exact hg⟩
theorem zb6{id:Nat}{a:Act}{w:World}(S:World→Prop)(E0 E1:Array Bool→World→Prop)(n:Nat)(vs0 vs1:List Value)(hm:P.follows .mixedOrders=true)(hn:a.tmps.size=n)(hok:zdB ops n=true)(hk:S w.drew)(he:E0 (Array.replicate ops.size false) w.drew)
  (h:∀ A0 A1,zu ops.toList vs0 a=A0→zu ops.toList vs1 a=A1→(zQ P ops A0 S E0 E1 vs0 vs1 0 ops.toList vs0∧zQ P ops A1 S E1 E0 vs1 vs0 0 ops.toList vs1)∧(∀ l w',(∀ i,i<ops.size→l.getD i false=true)→S w'→E0 l w'→Q .normal A0 w')∧∀ l w',(∀ i,i<ops.size→l.getD i false=true)→S w'→E1 l w'→Q .normal A1 w'):(Code.region id ops true).wp P Q a w:=by
 obtain ⟨A0,hA0⟩:∃ A,zu ops.toList vs0 a=A:=⟨_,rfl⟩;obtain ⟨A1,hA1⟩:∃ A,zu ops.toList vs1 a=A:=⟨_,rfl⟩;obtain ⟨⟨hg0,hg1⟩,hQ0,hQ1⟩:=h A0 A1 hA0 hA1;unfold zdB at hok;rw[Bool.and_eq_true,Bool.and_eq_true] at hok;obtain ⟨hsel,hp,hall⟩:=hok;have pair:∀ (i j:Nat) (oi oj:Oper),ops[i]? = some oi→ops[j]? = some oj→jb ops n i j=true:=fun i j oi oj hi hj=>by
  have h1:=List.all_eq_true.1 hp i (List.mem_range.2 (Array.getElem?_eq_some_iff.1 hi).1);exact List.all_eq_true.1 h1 j (List.mem_range.2 (Array.getElem?_eq_some_iff.1 hj).1)
 have dist:∀ (i j:Nat) (oi oj:Oper) (d:Nat),ops[i]? = some oi→ops[j]? = some oj→i≠j→oi.dst=some d→oj.dst≠some d:=fun i j oi oj d hi hj hij hd he=>by
  have:=pair i j oi oj hi hj;unfold jb at this;rw[hi,hj] at this;simp[hij,hd,he] at this
 have lt:∀ (i:Nat) (oi:Oper) (d:Nat),ops[i]? = some oi→oi.dst=some d→d<n:=fun i oi d hi hd=>by
  have:=pair i i oi oi hi hi;unfold jb at this;rw[hi] at this;simp only[hd,Bool.and_eq_true,decide_eq_true_eq] at this;exact this.2.1
 have waits:∀ (i j:Nat) (oi oj:Oper) (d:Nat),ops[i]? = some oi→ops[j]? = some oj→oj.dst=some d→d∈oi.looksAt ops→oi.after.any (fun e=>Region.binds .any e && e.on == j)=true:=fun i j oi oj d hi hj hd hm=>by
  have:=pair i j oi oj hi hj;unfold jb at this;rw[hi,hj] at this;simp only[hd,Bool.and_eq_true,Bool.or_eq_true,Bool.not_eq_true',decide_eq_true_eq] at this;rcases this.2.2 with h0 | h0
  ·rw[List.contains_iff_mem.2 hm] at h0
   cases h0
  ·exact h0
 have aOther:∀ {A:Act}{vs:List Value},zu ops.toList vs a=A→∀ d:Nat,(∀ (i:Nat) (oi:Oper),ops[i]? = some oi→oi.dst≠some d)→A.tmps[d]? = a.tmps[d]? := fun {A vs} hA d hd=>by
  rw[← hA];exact jA _ _ _ (fun k o ho=>hd k o (by rw[← Array.getElem?_toList];exact ho))
 have aAt:∀ {A:Act}{vs:List Value},zu ops.toList vs a=A→∀ (i:Nat) (oi:Oper) (d:Nat) (v:Value),ops[i]? = some oi→oi.dst=some d→vs[i]? = some v→A.tmps[d]? = some v:=fun {A vs} hA i oi d v hi hd hv=>by
  rw[← hA];exact QA _ _ _ i (by rw[Array.getElem?_toList];exact hi) hv hd (by rw[hn];exact lt i oi d hi hd) (fun j oj hj ho=>dist i j oi oj d hi (by rw[← Array.getElem?_toList];exact ho) (Ne.symm hj) hd)
 have fin:∀ {A:Act}{vs:List Value}{E:Array Bool→World→Prop},zu ops.toList vs a=A→(∀ l w',(∀ i,i<ops.size→l.getD i false=true)→S w'→E l w'→Q .normal A w')→∀ l a' w',zkI ops S E a A l a' w'→Region.ready .any ops l=[]→Q .normal a' w':=fun {A vs E} hA hQ l a' w' hI hr=>by
  have hl:=Qb (md:=.any) (ops:=ops) hI.size hr hall;have e:a'=A:=by
   have ht:a'.tmps=A.tmps:=by
    apply Array.ext_getElem?;intro d;by_cases hx:∃ (i:Nat) (oi:Oper),ops[i]? = some oi∧oi.dst=some d
    ·obtain ⟨i,oi,hi,hd⟩:=hx
     exact hI.on i oi d hi hd (hl i (Array.getElem?_eq_some_iff.1 hi).1)
    ·have hno:∀ (i:Nat) (oi:Oper),ops[i]? = some oi→oi.dst≠some d:=fun i oi hi hd=>hx ⟨i,oi,hi,hd⟩
     rw[hI.off d (fun i oi hi hd=>absurd hd (hno i oi hi)),aOther hA d hno]
   have hdf:a'.defers=A.defers:=by rw[hI.df, ← hA,jL]
   cases a';cases A;simp only at ht hdf;rw[ht,hdf]
  rw[e];exact hQ l w' hl hI.kept hI.told
 have step:∀ {A A':Act}{vs vs':List Value}{E E':Array Bool→World→Prop},zu ops.toList vs a=A→zu ops.toList vs' a=A'→zQ P ops A S E E' vs vs' 0 ops.toList vs→∀ (l:Array Bool) (a':Act) (w':World) (i:Nat),zkI ops S E a A l a' w'→i∈Region.ready .any ops l→∀ K:Act→World→Prop,(∀ a2 w2,(zkI ops S E a A (l.setIfInBounds i true) a2 w2∨zkI ops S E' a A' (l.setIfInBounds i true) a2 w2)→K a2 w2)→wpOp P ops Q i K a' w':=fun {A A' vs vs' E E'} hA hA' hg l a' w' i hI hr K hK=>by
  obtain ⟨hun,oi,hi,hw8⟩:=mem_ready.1 hr;have hil:i<l.size:=by rw[hI.size];exact (Array.getElem?_eq_some_iff.1 hi).1
  obtain ⟨v,hv,hgv⟩:=hg.at (k:=i) (by rw[Array.getElem?_toList];exact hi);rw[Nat.zero_add] at hgv;have agree:∀ t,t∈oi.looksAt ops→a'.tmps[t]? = A.tmps[t]? := fun t ht=>by
   by_cases hx:∃ (j:Nat) (oj:Oper),ops[j]? = some oj∧oj.dst=some t
   ·obtain ⟨j,oj,hj,hd⟩:=hx
    have:=waits i j oi oj t hi hj hd ht;rw[Array.any_eq_true'] at this;obtain ⟨e,he,h1⟩:=this;rw[Bool.and_eq_true,beq_iff_eq] at h1;have h2:=hw8 e he h1.1;rw[h1.2] at h2;exact hI.on j oj t hj hd h2
   ·have hno:∀ (i:Nat) (oi:Oper),ops[i]? = some oi→oi.dst≠some t:=fun i oi hi hd=>hx ⟨i,oi,hi,hd⟩
    rw[hI.off t (fun i oi hi hd=>absurd hd (hno i oi hi)),aOther hA t hno]
  have hex:execOp a'.eval oi=execOp A.eval oi:=execOp_congr oi (fun cs b=>by
    exact Region.noSelect_spec hsel i oi cs b hi) (fun x hx=>by
   cases x with
   | tmp t=>
    have:=agree t (List.mem_append_left _ (List.mem_filterMap.2 ⟨.tmp t,by simpa using hx,rfl⟩));simp only[Act.eval,Array.getD_eq_getD_getElem?,this]
   | const v=>rfl
   | global g=>rfl
   | func f=>rfl)
  have hwt:Region.wanted oi (yielded ops a'.tmps)=Region.wanted oi (yielded ops A.tmps):=by
   unfold Region.wanted;cases hgd:oi.guard with
   | none=>rfl
   | some gw=>
    obtain ⟨g,want⟩:=gw;have hy:yielded ops a'.tmps g=yielded ops A.tmps g:=by
     unfold yielded;cases ht:(ops[g]?).bind (·.dst) with
     | none=>rfl
     | some t=>
      have:=agree t (by simp[Oper.looksAt,hgd,ht]);simp[this]
    simp only[hy]
  have next:∀ {B:Act}{us:List Value}{F:Array Bool→World→Prop}(u:Value) w2,zu ops.toList us a=B→us[i]? = some u→(∀ (j:Nat) (oj:Oper) (d:Nat),ops[j]? = some oj→oj.dst=some d→l.getD j false=true→A.tmps[d]? = B.tmps[d]?)→S w2→F (l.setIfInBounds i true) w2→zkI ops S F a B (l.setIfInBounds i true) (a'.put oi.dst u) w2:=fun {B us F} u w2 hB hu hag k2 e2=>by
   refine ⟨by simpa using hI.size,k2,e2,by rw[QT,hI.sz],by rw[Qd,hI.df],fun j oj d hj hd hl=> ?_,fun d hd=> ?_⟩
   ·by_cases hij:i=j
    ·subst hij
     rw[hi] at hj;cases hj;rw[hd,zdz (by rw[hI.sz,hn];exact lt i oi d hi hd),aAt hB i oi d u hi hd hu]
    ·rw[jE (dist j i oj oi d hj hi (Ne.symm hij) hd)]
     rw[zX hij] at hl;rw[hI.on j oj d hj hd hl,hag j oj d hj hd hl]
   ·have h1:oi.dst≠some d:=fun e=>by
     have:=hd i oi hi e;rw[q8 hil] at this;cases this
    rw[jE h1];refine hI.off d (fun j oj hj hdj=> ?_);have:=hd j oj hj hdj;by_cases hij:i=j
    ·subst hij
     rw[hi] at hj;cases hj;exact absurd hdj h1
    ·rw[zX hij] at this
     exact this
  obtain ⟨hw1,hr1⟩:=hgv;refine wpOp_step hi (fun K' hK'=> ?_);rw[hwt,if_pos hw1];unfold Oper.wp;rw[hex];rcases hr1 l w' hil (by rw[Array.getD_eq_getD_getElem?,Array.getElem?_eq_getElem hil] at hun ⊢;exact hun) hw8 hI.kept hI.told with ⟨w2,he,k2,e2⟩ | ⟨w2,he,rfl,k2,e2⟩ | ⟨w2,v',hv',he,hag,k2,e2⟩
  ·rw[he]
   exact hK' _ _ (hK _ _ (.inl (next v w2 hA hv (fun _ _ _ _ _ _=>rfl) k2 e2)))
  ·rw[he]
   exact hK' _ _ (hK _ _ (.inl (next undef w2 hA hv (fun _ _ _ _ _ _=>rfl) k2 e2)))
  ·rw[he]
   refine hK' _ _ (hK _ _ (.inr (next v' w2 hA' hv' (fun j oj d hj hd hl=> ?_) k2 e2)));obtain ⟨vj,hvj, -⟩:=hg.at (k:=j) (by rw[Array.getElem?_toList];exact hj);rw[aAt hA j oj d vj hj hd hvj,aAt hA' j oj d vj hj hd (by rw[← hag j hl];exact hvj)]
 refine wp_region_held_drew (S:=S) hm hk (fun hS=> ?_);refine Zs (fun l a' w'=>zkI ops S E0 a A0 l a' w'∨zkI ops S E1 a A1 l a' w') (fun _ _ _ h=>h.elim (·.kept) (·.kept)) (fun l a' w' hI hr=> ?_) (fun l a' w' i hI hr=> ?_) _ _ _ _ ?_ ?_
 ·rcases hI with hI | hI
  ·exact fin hA0 hQ0 l a' w' hI hr
  ·exact fin hA1 hQ1 l a' w' hI hr
 ·rcases hI with hI | hI
  ·exact step hA0 hA1 hg0 l a' w' i hI hr _ (fun _ _ h=>h)
  ·exact step hA1 hA0 hg1 l a' w' i hI hr _ (fun _ _ h=>h.symm)
 ·left
  refine ⟨by simp,hS,he,rfl,rfl,fun i oi d hi hd hl=> ?_,fun d hd=>rfl⟩;exfalso;rw[Array.getD_eq_getD_getElem?] at hl;by_cases hlt:i<ops.size
  ·rw[Array.getElem?_replicate,if_pos hlt] at hl
   cases hl
  ·rw[Array.getElem?_replicate,if_neg hlt] at hl
   cases hl
 ·unfold left
  exact Nat.le_trans List.countP_le_length (by simp)
end
structure zaB (Z i j si sj:Nat) (T:TypeId) (z vi vj:Array Value) (l:Array Bool) (w:World):Prop where
 ord:l.getD j false=true→l.getD i false=true
 pi:l.getD si false=true→l.getD i false=true
 pj:l.getD sj false=true→l.getD j false=true
 size:w.heap.size=Z+(bif l.getD i false then 1 else 0)+(bif l.getD j false then 1 else 0)
 fst:l.getD i false=true→w.heap[Z]? = some (.cells (bif l.getD si false then vi else z) T (0,0))
 snd:l.getD j false=true→w.heap[Z+1]? = some (.cells (bif l.getD sj false then vj else z) T (0,0))
theorem zaB.keep(h:zaB Z i j si sj T z vi vj l w)(hk:(k≠i∧k≠j)∧k≠si∧k≠sj):zaB Z i j si sj T z vi vj (l.setIfInBounds k true) w:=by
 have e1:=zX (l:=l) hk.1.1;have e2:=zX (l:=l) hk.1.2;have e3:=zX (l:=l) hk.2.1;have e4:=zX (l:=l) hk.2.2;exact ⟨by rw[e1,e2];exact h.ord,by rw[e1,e3];exact h.pi,by rw[e2,e4];exact h.pj,by rw[e1,e2];exact h.size,by rw[e1,e3];exact h.fst,by rw[e2,e4];exact h.snd⟩
theorem zaB.start{n:Nat}(h:w.heap.size=Z):zaB Z i j si sj T z vi vj (Array.replicate n false) w:=by
 have:∀ k,(Array.replicate n false).getD k false=false:=fun k=>by
  by_cases hn:k<n
  ·simp[Array.getD,hn]
  ·simp[Array.getD,hn]
 exact ⟨fun e=>by (rw[this] at e;cases e),fun e=>by (rw[this] at e;cases e),fun e=>by (rw[this] at e;cases e),by rw[this,this];simpa using h,fun e=>by (rw[this] at e;cases e),fun e=>by (rw[this] at e;cases e)⟩
theorem zaB.bare(h:zaB Z i j si sj T z vi vj l w)(hi:l.getD i false=false):l.getD j false=false∧l.getD si false=false∧l.getD sj false=false:=by
 have hj:l.getD j false=false:=by
  cases e:l.getD j false with
  | false=>rfl
  | true=>rw[h.ord e] at hi;cases hi
 refine ⟨hj,?_,?_⟩
 ·cases e:l.getD si false with
  | false=>rfl
  | true=>rw[h.pi e] at hi;cases hi
 ·cases e:l.getD sj false with
  | false=>rfl
  | true=>rw[h.pj e] at hj;cases hj
theorem zaB.make(h:zaB Z i j si sj T z vi vj l w)(hd:(i≠j∧i≠si)∧i≠sj)(hi:l.getD i false=false)(hl:i<l.size):w.heap.size=Z∧zaB Z i j si sj T z vi vj (l.setIfInBounds i true) (w.alloc (.cells z T)):=by
 obtain ⟨h1,h2,h3⟩:=h.bare hi;have hz:w.heap.size=Z:=by have:=h.size;rw[hi,h1] at this;simpa using this
 have e0:=q8 hl;have e1:=zX (l:=l) hd.1.1;have e2:=zX (l:=l) hd.1.2;have e3:=zX (l:=l) hd.2;refine ⟨hz,fun _=>e0,fun _=>e0,fun e=>by (rw[e3,h3] at e;cases e),?_,fun _=> ?_,fun e=>by (rw[e1,h1] at e;cases e)⟩
 ·rw[e0,e1,h1,World.size_alloc,hz]
  rfl
 ·rw[e2,h2, ← hz]
  exact heap_alloc_new _ _
theorem zaB.make2(h:zaB Z i j si sj T z vi vj l w)(hd:(j≠i∧j≠si)∧j≠sj)(hi:l.getD i false=true)(hj:l.getD j false=false)(hl:j<l.size):w.heap.size=Z+1∧zaB Z i j si sj T z vi vj (l.setIfInBounds j true) (w.alloc (.cells z T)):=by
 have h3:l.getD sj false=false:=by
  cases e:l.getD sj false with
  | false=>rfl
  | true=>rw[h.pj e] at hj;cases hj
 have hz:w.heap.size=Z+1:=by have:=h.size;rw[hi,hj] at this;simpa using this
 have e0:=q8 hl;have e1:=zX (l:=l) hd.1.1;have e2:=zX (l:=l) hd.1.2;have e3:=zX (l:=l) hd.2;refine ⟨hz,fun _=>by rw[e1];exact hi,by rw[e1,e2];exact h.pi,fun _=>e0,?_,fun _=> ?_,fun _=> ?_⟩
 ·rw[e0,e1,hi,World.size_alloc,hz]
  rfl
 ·rw[e2]
  have:=h.fst hi;exact ze this (zc.alloc [] _ _)
 ·rw[e3,h3, ← hz]
  exact heap_alloc_new _ _
theorem zaB.turn(h:zaB Z i j si sj T z vi vj l w)(hi:l.getD i false=false):zaB Z j i sj si T z vj vi l w:=by
 obtain ⟨h1,h2,h3⟩:=h.bare hi;exact ⟨fun e=>by (rw[hi] at e;cases e),fun e=>by (rw[h3] at e;cases e),fun e=>by (rw[h2] at e;cases e),by have:=h.size;rw[hi,h1] at this ⊢;exact this,fun e=>by (rw[h1] at e;cases e),fun e=>by (rw[hi] at e;cases e)⟩
theorem zaB.put{u0 u1 u2 x0 x1 x2:Value}(h:zaB Z i j si sj T z vi vj l w)(hz:z=#[x0,x1,x2])(hvi:vi=#[u0,u1,u2])(hd:(si≠i∧si≠j)∧si≠sj)(hi:l.getD i false=true)(hs:l.getD si false=false)(hl:si<l.size):w.heap[Z]? = some (.cells #[x0,x1,x2] T (0,0))∧zaB Z i j si sj T z vi vj (l.setIfInBounds si true) (((w.setCell ⟨Z,0,none⟩ u0).setCell ⟨Z,1,none⟩ u1).setCell ⟨Z,2,none⟩ u2):=by
 have e0:=q8 hl;have e1:=zX (l:=l) hd.1.1;have e2:=zX (l:=l) hd.1.2;have e3:=zX (l:=l) hd.2;have h1:=h.fst hi;rw[hs] at h1;simp only[cond_false] at h1;rw[hz] at h1;refine ⟨h1,by rw[e1,e2];exact h.ord,fun _=>by rw[e1];exact hi,by rw[e2,e3];exact h.pj,?_,fun _=> ?_,fun hj=> ?_⟩
 ·rw[e1,e2]
  have:=h.size;simpa using this
 ·rw[e0,hvi]
  exact ZC h1 u0 u1 u2
 ·rw[e2] at hj
  rw[e3,heap_setCell_other _ _ _ _ (by simp),heap_setCell_other _ _ _ _ (by simp),heap_setCell_other _ _ _ _ (by simp)];exact h.snd hj
theorem zaB.put2{u0 u1 u2 x0 x1 x2:Value}(h:zaB Z i j si sj T z vi vj l w)(hz:z=#[x0,x1,x2])(hvj:vj=#[u0,u1,u2])(hd:(sj≠i∧sj≠j)∧sj≠si)(hj:l.getD j false=true)(hs:l.getD sj false=false)(hl:sj<l.size):w.heap[Z+1]? = some (.cells #[x0,x1,x2] T (0,0))∧zaB Z i j si sj T z vi vj (l.setIfInBounds sj true) (((w.setCell ⟨Z+1,0,none⟩ u0).setCell ⟨Z+1,1,none⟩ u1).setCell ⟨Z+1,2,none⟩ u2):=by
 have e0:=q8 hl;have e1:=zX (l:=l) hd.1.1;have e2:=zX (l:=l) hd.1.2;have e3:=zX (l:=l) hd.2;have h1:=h.snd hj;rw[hs] at h1;simp only[cond_false] at h1;rw[hz] at h1;refine ⟨h1,by rw[e1,e2];exact h.ord,by rw[e1,e3];exact h.pi,fun _=>by rw[e2];exact hj,?_,fun hi=> ?_,fun _=> ?_⟩
 ·rw[e1,e2]
  have:=h.size;simpa using this
 ·rw[e1] at hi
  rw[e3,heap_setCell_other _ _ _ _ (by simp),heap_setCell_other _ _ _ _ (by simp),heap_setCell_other _ _ _ _ (by simp)];exact h.fst hi
 ·rw[e0,hvj]
  exact ZC h1 u0 u1 u2
def zbC(P:Pr8)(f:Fu8)(y:Bl8):Bool:=
 if y.fin=2 then (zp f y.reg).1 == 0
 else if y.fin=3 then (match Jh P f.sig with
  | none=>false
  | some s=>inB y.reg f.regs.length && tyE (f.regs.getD y.reg.toNat (0,0)) s.2) else true
theorem zkU{fb fo bb bo:Nat}{y:Bl8}(h:PrC w pb po P)(hf:FuC w fb fo f)(hb:BlC w bb bo y):Calls Tryz.prog 104 #[pointer (some ⟨pb,po,none⟩),pointer (some ⟨fb,fo,none⟩),pointer (some ⟨bb,bo,none⟩)] w fun e w'=>e=.returned (.bool (zbC P f y))∧zc [] w w':=by
 have b1:=hb.c1.1;have b2:=hb.c2.1;by_cases f2:y.fin=2
 ·have HE:Box (zbC P f y=((zp f y.reg).1 == 0)):=hid (by unfold zbC;rw[if_pos f2])
  have HRT:=hid (zA hf y.reg);rw[f2] at b1;clear h hf hb f2;generalize zp f y.reg=T at *;unfold tyV at HRT;have hfl:∀ (w:World),(Instr.field 34 (agg #[int i64 T.1,int i64 T.2]) 0).run Tryz.prog w=.ok (int i64 T.1) w:=fun w=>by kernel_rfl
  go_enter Tryz.func104,Tryz.ntmps104;go_wp2_with fail;refine HRT.o.mono ?_;rintro e w1 ⟨rfl,k1⟩;have K1:=hid k1;clear k1;go_wp2_with fail;go_ret;exact ⟨by rw[HE.o];rfl,K1.o⟩
 by_cases f3:y.fin=3
 case neg=>
  have HE:Box (zbC P f y=true):=hid (by unfold zbC;rw[if_neg f2,if_neg f3]);have o2:=neb f2;have o3:=neb f3;clear h hf hb f2 f3;go_enter Tryz.func104,Tryz.ntmps104;go_wp2_with fail;go_ret;exact ⟨by rw[HE.o];rfl,zc.refl _ _⟩
 have HE:Box (zbC P f y=match Jh P f.sig with
  | none=>false
  | some s=>inB y.reg f.regs.length && tyE (f.regs.getD y.reg.toNat (0,0)) s.2):=hid (by unfold zbC;rw[if_neg f2,if_pos f3])
 have HSG:=hid (zad h (zc.refl [] w) f.sig);obtain ⟨ra,rp,c1,rr,_,_⟩:=hf.c1;have c0:=hf.c0.1;have HRR:=hid rr;have C1:Box (∀ w',zc [] w w'→w'.cell? ⟨fb,fo+1,none⟩=some (.slice ra f.regs.length rp)∧w'.cell? ⟨bb,bo+2,none⟩=some (int i64 y.reg)):=hid (by have b:=b2;exact fun w' k=>⟨za k c1,za k b⟩);have HW:=hid fun (w':World)=>zC y.reg f.regs.length w';rw[f3] at b1;clear h hf hb rr f2 f3 c1;generalize Jh P f.sig=O at *;go_enter Tryz.func104,Tryz.ntmps104;go_wp2_with fail;refine HSG.o.mono ?_;intro e w1 h1;obtain ⟨k1,sa,sp,n,t1,t2,rfl,hs⟩:=h1.open;have hbx:=zf w1 (.cells #[.slice sa n sp,int i64 t1,int i64 t2] 36);have K1:=hid (k1.quiet (zc.alloc [] w1 (.cells #[.slice sa n sp,int i64 t1,int i64 t2] 36)));have HB:=hid hbx;have HS:=hid hs;clear h1 k1 hbx hs c0 b1 b2;go_upto_region 6 with fail;generalize w1.alloc (.cells #[.slice sa n sp,int i64 t1,int i64 t2] 36)=w2 at *;generalize w1.heap.size=q at *;obtain ⟨c1,c2⟩:=C1.o _ K1.o;have s1:=zd HB.o 1;have s2:=zd HB.o 2;cases O with
 | none=>
  have HF:Box (zbC P f y=false):=hid HE.o;clear HE HS;simp only[Option.isSome_none];go_quiet (fail);go_wp2_with fail;go_ret;exact ⟨by rw[HF.o];rfl,K1.o.quiet (zc.drewN _ _ _)⟩
 | some s=>
  obtain ⟨_,e1,e2,_⟩:=HS.o s rfl;have HF:Box (zbC P f y=(inB y.reg f.regs.length && tyE (f.regs.getD y.reg.toNat (0,0)) (t1,t2))):=hid (by rw[HE.o,e1,e2]);clear HE HS e1 e2;simp only[Option.isSome_some];cases hin:inB y.reg f.regs.length with
  | false=>
   rw[hin] at HW;have HG:Box (zbC P f y=false):=hid (by rw[HF.o,hin];rfl);clear hin HF;generalize f.regs.length=R at *;go_quiet ((go_at_call 50;exact Calls.quiet_of_same (HW.o _)));go_wp2_with fail;go_ret;exact ⟨by rw[HG.o];rfl,K1.o.quiet (zc.drewN _ _ _)⟩
  | true=>
   rw[hin] at HW;obtain ⟨g0,g1⟩:=zq.1 hin;obtain ⟨m,hm⟩:∃ m:Nat,y.reg=(m:Int):=⟨y.reg.toNat,by omega⟩;have HG:Box (zbC P f y=tyE (f.regs.getD m (0,0)) (t1,t2)):=hid (by rw[HF.o,hin,hm];rfl);obtain ⟨b',off',rfl,hc'⟩:=HRR.o.at (zh (l:=f.regs) (k:=m) (d:=(0,0)) (by omega));have d0:=za K1.o hc'.c0.1;have d1:=za K1.o hc'.c1.1;rw[hm] at HW c2 g1;clear hin HF g0 hm hc';generalize f.regs.getD m (0,0)=T at *;generalize f.regs.length=R at *;have re:=fun w'=>Q3 T.1 T.2 t1 t2 w';go_quiet ((go_at_call 50;exact Calls.quiet_of_same (HW.o _)));go_wp2_with fail;go_ret;exact ⟨by rw[HG.o];rfl,K1.o.quiet (zc.drewN _ _ _)⟩
def ptT(P:Pr8)(g:Fu8→In8→Bool)(q:Nat × Nat × Nat):Bool:=
 if q.2.2<(zr (zg P q.1) q.2.1).code.length then g (zg P q.1) (qQ (zr (zg P q.1) q.2.1) q.2.2) else zbC P (zg P q.1) (zr (zg P q.1) q.2.1)
def zmx(w:World)(pb po:Nat)(P:Pr8)(g:Fu8→In8→Bool):Prop:=
 ∀ (w':World) (f b i:Nat) (a:Option Addr) (cp:Nat),zc [] w w'→f<P.funcs.length→b<(zg P f).blocks.length→i<(zr (zg P f) b).code.length→zw w' a (qQ (zr (zg P f) b) i).args→
  Calls Tryz.prog 103 #[pointer (some ⟨pb,po,none⟩),int i64 (f:Int),zD (qQ (zr (zg P f) b) i) (.slice a (qQ (zr (zg P f) b) i).args.length cp)] w' fun e w2=>e=.returned (.bool (g (zg P f) (qQ (zr (zg P f) b) i)))∧zc [] w' w2
theorem zno(h:PrC w pb po P){g:Fu8→In8→Bool}(hg:zmx w pb po P g){f b:Nat}(hq:J1 P f b i):Calls Tryz.prog 53 #[pointer (some ⟨pb,po,none⟩),agg #[int i64 (f:Int),int i64 (b:Int),int i64 (i:Int)]] w fun e w'=>e=.returned (.bool (ptT P g (f,b,i)))∧zc [] w w':=by
 obtain ⟨h1,h2,h3⟩:=hq;have ka:=zc.alloc [] w (.cells #[int i64 (f:Int),int i64 (b:Int),int i64 (i:Int)] 55);have hn:=zf w (.cells #[int i64 (f:Int),int i64 (b:Int),int i64 (i:Int)] 55);obtain ⟨fa,fp,c4,r4,_⟩:=h.c4;obtain ⟨fb,fo,rfl,hfu0⟩:=r4.at (zh (d:=⟨0,[],[]⟩) h1);have hfu:FuC w fb (fo+f * 3) (zg P f):=hfu0;obtain ⟨ba,bp,e2,rb,_⟩:=hfu.c2;obtain ⟨bb,bo,rfl,hbl0⟩:=rb.at (zh (d:=⟨[],0,0,0,0⟩) h2);have hbl:BlC w bb (bo+b * 5) (zr (zg P f) b):=hbl0;obtain ⟨ca,cp,e3,rc,_⟩:=hbl.c0;have HEN:=hid fun (w':World) (k:zc [] w w')=>zkU (PrC.stays _ _ _ _ _ k h) (FuC.stays _ _ _ _ _ k hfu) (BlC.stays _ _ _ _ _ k hbl);have HFT:=hid hg;have HC:=hid rc;have C:Box (∀ w',zc [] w w'→w'.cell? ⟨pb,po+4,none⟩=some (.slice (some ⟨fb,fo,none⟩) P.funcs.length fp)∧w'.cell? ⟨fb,fo+f * 3+2,none⟩=some (.slice (some ⟨bb,bo,none⟩) (zg P f).blocks.length bp)∧w'.cell? ⟨bb,bo+b * 5,none⟩=some (.slice ca (zr (zg P f) b).code.length cp)):=hid fun w' k=>⟨za k c4,za k e2,za k e3⟩;obtain ⟨c4',e2',e3'⟩:=C.o _ ka;have q0:=zd hn 0;have q1:=zd hn 1;have q2:=zd hn 2;have KA:=hid ka;have HN:=hid hn;have h1':(f:Int)<(P.funcs.length:Int):=by omega
 have h2':(b:Int)<((zg P f).blocks.length:Int):=by omega
 have HH:=hid (And.intro h1 (And.intro h2 h3));have HE:Box (ptT P g (f,b,i)=if i<(zr (zg P f) b).code.length then g (zg P f) (qQ (zr (zg P f) b) i) else zbC P (zg P f) (zr (zg P f) b)):=hid rfl;obtain ⟨N,hN⟩:∃ N,N=(zr (zg P f) b).code.length:=⟨_,rfl⟩;have HNN:=hid hN;rw[← hN] at C e3' HE;clear h hfu0 hfu hbl0 hbl c4 e2 e3 rb rc r4 hg ka hn h1 h2 h3 hN;generalize hFN:P.funcs.length=FN at *;generalize hBN:(zg P f).blocks.length=BN at *;have HFN:=hid hFN;have HBN:=hid hBN;clear hFN hBN;go_enter Tryz.func53,Tryz.ntmps53;go_upto_region 1 with fail;generalize w.alloc (.cells #[int i64 (f:Int),int i64 (b:Int),int i64 (i:Int)] 55)=WA at *;generalize w.heap.size=q at *;go_quiet (fail);go_upto_region 2 with fail;go_quiet (fail);go_upto_region 3 with fail;by_cases hi:i<N
 ·have hi':(i:Int)<(N:Int):=by omega
  have HF:Box (ptT P g (f,b,i)=g (zg P f) (qQ (zr (zg P f) b) i)):=hid (by rw[HE.o,if_pos hi]);have hif:i<(zr (zg P f) b).code.length:=by rw[← HNN.o];exact hi
  obtain ⟨ib,io,rfl,hin⟩:=HC.o.at (show (zr (zg P f) b).code[i]? = some (qQ (zr (zg P f) b) i) from zh hif);obtain ⟨ga,gp,e5,q5⟩:=SlC.val hin.c5;have HZ:=hid (Zw q5.slice.2.1);have HIF:=hid hif;have F0:=za KA.o hin.c0.1;have F1:=za KA.o hin.c1.1;have F2:=za KA.o hin.c2.1;have F3:=za KA.o hin.c3.1;have F4:=za KA.o hin.c4.1;have F5:=za KA.o e5;clear hin e5 q5 hif;have HX:=hid fun (w':World) (k:zc [] w w')=>HFT.o w' f b i ga gp k (by rw[HFN.o];omega) (by rw[HBN.o];omega) HIF.o (HZ.o.kept k (fun _ _ _=>by simp));unfold zD at HX;generalize g (zg P f) (qQ (zr (zg P f) b) i)=rr at *;generalize qQ (zr (zg P f) b) i=x at *;clear HFT HEN HE HC HNN HFN HBN HIF HZ hi;go_quiet (fail);go_upto_region 4 with fail
  go_region_held3 (fun w'=>w'.cell? ⟨q,0,none⟩=some (int i64 (f:Int))∧w'.cell? ⟨q,2,none⟩=some (int i64 (i:Int))∧w'.cell? ⟨bb,bo+b * 5,none⟩=some (.slice (some ⟨ib,io,none⟩) N cp)∧w'.cell? ⟨ib,io+i * 6,none⟩=some (int i64 x.op)∧w'.cell? ⟨ib,io+i * 6+1,none⟩=some (int i64 x.dst)∧w'.cell? ⟨ib,io+i * 6+2,none⟩=some (int i64 x.a)∧w'.cell? ⟨ib,io+i * 6+3,none⟩=some (int i64 x.b)∧w'.cell? ⟨ib,io+i * 6+4,none⟩=some (int i64 x.n)∧w'.cell? ⟨ib,io+i * 6+5,none⟩=some (.slice ga x.args.length gp)) (go_keep) (first
   | (go_at_call 103;refine Calls.mono (HX.o _ ?_) ?_;exact ⟨KA.o.os,KA.o.tape,KA.o.output,KA.o.size,KA.o.block⟩;rintro e w5 ⟨rfl,k5⟩;have K5:zc [] WA w5:=⟨k5.os,k5.tape,k5.output,k5.size,k5.block⟩;have f0:=za K5 q0;have f2:=za K5 q2;have f3:=za K5 e3';have g0:=za K5 F0;have g1:=za K5 F1;have g2:=za K5 F2;have g3:=za K5 F3;have g4:=za K5 F4;have g5:=za K5 F5;have HK5:=hid K5;clear k5))
  go_wp2_with fail;go_ret;exact ⟨by rw[HF.o];rfl,KA.o.quiet HK5.o⟩
 ·have hi':¬ (i:Int)<(N:Int):=by omega
  have HF:Box (ptT P g (f,b,i)=zbC P (zg P f) (zr (zg P f) b)):=hid (by rw[HE.o,if_neg hi]);generalize zbC P (zg P f) (zr (zg P f) b)=rr at *;go_quiet (fail);go_wp2_with fail;refine (HEN.o _ ?_).mono ?_
  ·exact KA.o.quiet (by first | exact zc.drewN _ _ _)
  rintro e w1 ⟨rfl,k1⟩;have K1:=hid k1;clear k1;go_wp2_with fail;go_ret;exact ⟨by rw[HF.o];rfl,(KA.o.quiet (zc.drewN _ _ _)).quiet K1.o⟩
def QM(P:Pr8)(g:Fu8→In8→Bool):Option (Int × Int × Int):=
 if (List.range P.funcs.length).all (fun f=>JY P (zg P f)) then (match (pts P).find? (fun q=> !ptT P g q) with
  | some q=>some (ptI q)
  | none=>if Q5 P then none else some (-1,0,0)) else some (-1,0,0)
theorem zjh{g:Fu8→In8→Bool}(hk:k<P.funcs.length)(h:JY P (zg P k)=false):QM P g=some (-1,0,0):=by
 unfold QM;have:(List.range P.funcs.length).all (fun f=>JY P (zg P f))=false:=List.all_eq_false.2 ⟨k,List.mem_range.2 hk,by rw[h];simp⟩;rw[this];rfl
theorem zoo{g:Fu8→In8→Bool}(hp:∀ k,k<P.funcs.length→JY P (zg P k)=true){n:Nat}{q:Nat × Nat × Nat}(hq:(pts P)[n]? = some q)(hl:∀ j x,j<n→(pts P)[j]? = some x→ptT P g x=true)(h:ptT P g q=false):QM P g=some (ptI q):=by
 unfold QM;rw[if_pos (List.all_eq_true.2 fun k hk=>hp k (List.mem_range.1 hk))];have hn:=(List.getElem?_eq_some_iff.1 hq).1;have e:pts P=(pts P).take n ++ q :: (pts P).drop (n+1):=by
  have h2:=List.take_append_drop n (pts P);rw[List.drop_eq_getElem_cons hn,(List.getElem?_eq_some_iff.1 hq).2] at h2;exact h2.symm
 rw[e,zbI (l:=(pts P).take n) (fun x hx=> ?_) (by rw[h];rfl)];obtain ⟨j,hj⟩:=List.getElem?_of_mem hx;rw[List.getElem?_take] at hj;split at hj
 ·rename_i hjn
  rw[hl j x hjn hj];rfl
 ·cases hj
theorem zmh{g:Fu8→In8→Bool}(hp:∀ k,k<P.funcs.length→JY P (zg P k)=true)(hl:∀ (j:Nat) (x:Nat × Nat × Nat),(pts P)[j]? = some x→ptT P g x=true):QM P g=if Q5 P then none else some (-1,0,0):=by
 unfold QM;rw[if_pos (List.all_eq_true.2 fun k hk=>hp k (List.mem_range.1 hk)),zd8 (fun x hx=> ?_)];obtain ⟨j,hj⟩:=List.getElem?_of_mem hx;rw[hl j x hj];rfl
theorem zg4(h:PrC w pb po P)(hs:zfX P){g:Fu8→In8→Bool}(hg:zmx w pb po P g):Calls Tryz.prog 26 #[pointer (some ⟨pb,po,none⟩)] w (Qk (QM P g) 4 w):=by
 obtain ⟨fa,fp,c4,r4,_⟩:=h.c4;have HP:=hid h;have HR:=hid r4;have HPT:=hid fun (w':World) (k:zc [] w w')=>zay (PrC.stays _ _ _ _ _ k h) hs;have HG:Box (∀ w',zc [] w w'→zmx w' pb po P g):=hid fun w' k w2 f b i a cp k2=>hg w2 f b i a cp (k.quiet k2);have HM:=hid fun (w':World) (k:zc [] w w')=>zkX (PrC.stays _ _ _ _ _ k h);have HRF:=hid fun (w':World)=>Z9 4 w';have HRA:=hid fun (f b i:Int) (w':World)=>Qj 4 f b i w';have C4:Box (∀ w',zc [] w w'→w'.cell? ⟨pb,po+4,none⟩=some (.slice fa P.funcs.length fp)):=hid fun w' k=>za k c4;have B1:=hid fun (k:Nat) (hk:k<P.funcs.length) (h:JY P (zg P k)=false)=>zjh (g:=g) hk h;have B2:=hid fun (hp:∀ k,k<P.funcs.length→JY P (zg P k)=true) (n:Nat) (q:Nat × Nat × Nat) (hq:(pts P)[n]? = some q) (hl:∀ j x,j<n→(pts P)[j]? = some x→ptT P g x=true) (h:ptT P g q=false)=>zoo (g:=g) hp hq hl h;have B3:=hid fun (hp:∀ k,k<P.funcs.length→JY P (zg P k)=true) (hl:∀ (j:Nat) (x:Nat × Nat × Nat),(pts P)[j]? = some x→ptT P g x=true)=>zmh (g:=g) hp hl;have hf12:=hs.fn;have hp45:=hs.pts;obtain ⟨N,hN⟩:∃ N,N=P.funcs.length:=⟨_,rfl⟩;obtain ⟨M,hM⟩:∃ M,M=(pts P).length:=⟨_,rfl⟩;have HN:=hid hN;have HMM:=hid hM;rw[← hN] at C4 c4 hf12;rw[← hM] at HPT hp45;have hf9:(N:Int)≤12:=by omega
 have hp9:(M:Int)≤4500:=by omega
 clear h r4 hs hg hN hM;go_enter Tryz.func26,Tryz.ntmps26;go_wp2_with fail;clear c4
 go_loopw [14] (fun kv wr=>∃ k:Nat,k≤N∧kv=int i64 (k:Int)∧Box (zc [] w wr)∧Box (∀ j,j<k→JY P (zg P j)=true)) (fun kv _=>N - (intOf kv).toNat)
 case atStart=>exact ⟨0,by omega,rfl,hid (zc.refl _ _),hid fun j hj=>by omega⟩
 case round=>
  obtain ⟨k,hk,rfl,HK,HA⟩:=hrel;by_cases hlt:k<N
  ·have hlt':(k:Int)<(N:Int):=by omega
   have hkf:k<P.funcs.length:=by rw[← HN.o];exact hlt
   obtain ⟨fb,fo,rfl,hfu0⟩:=HR.o.at (zh (d:=⟨0,[],[]⟩) hkf);have hfu:FuC w fb (fo+k * 3) (zg P k):=hfu0;have HC:=hid (zmD (PrC.stays _ _ _ _ _ HK.o HP.o) (FuC.stays _ _ _ _ _ HK.o hfu));have c4:=C4.o _ HK.o;have HB1:=hid (B1.o k hkf);clear hfu0 hfu hkf;cases hg:JY P (zg P k) with
   | true=>
    rw[hg] at HC;have HA2:Box (∀ j,j<k+1→JY P (zg P j)=true):=hid fun j hj=>by
     by_cases e:j<k
     ·exact HA.o j e
     ·obtain rfl:j=k:=by omega
      exact hg
    clear hg;go_wp2_with fail;refine HC.o.mono ?_;rintro e w2 ⟨rfl,k2⟩;have K2:=hid (HK.o.quiet k2);clear k2;go_wp2_with fail;go_roundw
    case rel=>exact ⟨k+1,by omega,by go_num,K2,HA2⟩
    case measure=>simp[intOf];omega
   | false=>
    rw[hg] at HC;have HQ:=hid (HB1.o hg);clear hg;go_wp2_with fail;refine HC.o.mono ?_;rintro e w2 ⟨rfl,k2⟩;have K2:=hid (HK.o.quiet k2);clear k2;go_wp2_with fail;refine (HRF.o _).mono ?_;rintro e w3 ⟨p,rfl,h1,h2⟩;go_wp2_with fail;go_ret;exact Qk.no HQ.o ⟨p,rfl,h1,K2.o.quiet h2⟩
  ·obtain rfl:N=k:=by omega
   have HALL:Box (∀ k,k<P.funcs.length→JY P (zg P k)=true):=hid fun j hj=>HA.o j (by rw[HN.o];exact hj);clear HA;go_wp2_with fail;refine (HPT.o _ HK.o).mono ?_;rintro e w2 ⟨la,lp,rfl,hr,k2⟩;have HRW:=hid hr;have K2:=hid (HK.o.quiet k2);clear hr k2;go_wp2_with fail
   go_loopw [31] (fun kv wr=>∃ k:Nat,k≤M∧kv=int i64 (k:Int)∧Box (zc [] w2 wr)∧Box (∀ j x,j<k→(pts P)[j]? = some x→ptT P g x=true)) (fun kv _=>M - (intOf kv).toNat)
   case atStart=>exact ⟨0,by omega,rfl,hid (zc.refl _ _),hid fun j x hj=>by omega⟩
   case round=>
    obtain ⟨k,hk,rfl,HK,HA⟩:=hrel;by_cases hlt:k<M
    ·have hlt':(k:Int)<(M:Int):=by omega
     obtain ⟨f,b,i,hpt,hq⟩:=zeV (p:=P) (n:=k) (by rw[← HMM.o];exact hlt);obtain ⟨lb,lo,rfl,hc⟩:=HRW.o.at hq;have d0:=za HK.o hc.c0;have d1:=za HK.o hc.c1;have d2:=za HK.o hc.c2;have KA:=hid (HK.o.quiet (zc.alloc [] wr (.cells #[int i64 (f:Int),int i64 (b:Int),int i64 (i:Int)] 55)));have hn:=zf wr (.cells #[int i64 (f:Int),int i64 (b:Int),int i64 (i:Int)] 55);have HC:=hid (zno (PrC.stays _ _ _ _ _ (K2.o.quiet KA.o) HP.o) (HG.o _ (K2.o.quiet KA.o)) hpt);have HQQ:=hid hq;have HNW:=hid hn;have HB2:=hid (B2.o HALL.o k (f,b,i) hq HA.o);clear hc hq hpt hn;cases hg:ptT P g (f,b,i) with
     | true=>
      rw[hg] at HC;have HA2:Box (∀ j x,j<k+1→(pts P)[j]? = some x→ptT P g x=true):=hid fun j x hj hx=>by
       by_cases e:j<k
       ·exact HA.o j x e hx
       ·obtain rfl:j=k:=by omega
        rw[HQQ.o] at hx;cases hx;exact hg
      clear hg;go_wp2_with fail;refine HC.o.mono ?_;rintro e w4 ⟨rfl,k4⟩;have K4:=hid (KA.o.quiet k4);clear k4;go_wp2_with fail;go_roundw
      case rel=>exact ⟨k+1,by omega,by go_num,K4,HA2⟩
      case measure=>simp[intOf];omega
     | false=>
      rw[hg] at HC;have HQ:=hid (HB2.o hg);clear hg;go_wp2_with fail;refine HC.o.mono ?_;rintro e w4 ⟨rfl,k4⟩;have K4:=hid (K2.o.quiet (KA.o.quiet k4));have h4:=ze HNW.o k4;have s0:=zd h4 0;have s1:=zd h4 1;have s2:=zd h4 2;clear k4 h4;go_wp2_with fail;refine (HRA.o _ _ _ _).mono ?_;rintro e w5 ⟨p,rfl,h1,h2⟩;go_wp2_with fail;go_ret;exact Qk.no HQ.o ⟨p,rfl,h1,K4.o.quiet h2⟩
    ·obtain rfl:M=k:=by omega
     have HE:=hid (B3.o HALL.o (fun j x hx=>HA.o j x (by rw[HMM.o];exact (List.getElem?_eq_some_iff.1 hx).1) hx));have HC:=hid (HM.o wr (K2.o.quiet HK.o));cases hm:Q5 P with
     | true=>
      rw[hm] at HE HC;have HQ:Box (QM P g=none):=hid (by rw[HE.o];rfl);clear hm;go_wp2_with fail;refine HC.o.mono ?_;rintro e w4 ⟨rfl,k4⟩;have K4:=hid ((K2.o.quiet HK.o).quiet k4);clear k4;go_wp2_with fail;go_ret;exact Qk.yes HQ.o ⟨rfl,K4.o⟩
     | false=>
      rw[hm] at HE HC;have HQ:Box (QM P g=some (-1,0,0)):=hid (by rw[HE.o];rfl);clear hm;go_wp2_with fail;refine HC.o.mono ?_;rintro e w4 ⟨rfl,k4⟩;have K4:=hid ((K2.o.quiet HK.o).quiet k4);clear k4;go_wp2_with fail;refine (HRF.o _).mono ?_;rintro e w5 ⟨p,rfl,h1,h2⟩;go_wp2_with fail;go_ret;exact Qk.no HQ.o ⟨p,rfl,h1,K4.o.quiet h2⟩
end Go.Proofs.YtkgoimokgbdgfaaGreatDoor
