import Derived.Test.YthflgjkmbakedaaGreatDoorA13
import Derived.Test.YthflgjkmbakedaaGreatDoorA16

namespace Go.Proofs.YthflgjkmbakedaaGreatDoor
open Go.RowKit
open Go.Value (int pointer agg)
open Go.IntKind (i64)
set_option maxRecDepth 20000
set_option maxHeartbeats 8000000
variable {A a:Act}{T:TypeId}{Z base i j si sj:Nat}{l:Array Bool}{o:Oper}{us vs vs':List Value}{v:Value}{vi vj z:Array Value}{w:World}
section
variable {P:Program}{ops:Array Oper}{Q:Exit→Act→World→Prop}{S:World→Prop}{E:Array Bool→World→Prop}
def zdS (P : Program) (ops : Array Oper) (A : Act) (S : World → Prop) (E : Array Bool → World → Prop) (i : Nat) (o : Oper) (v : Value) : Prop :=
  (Region.wanted o (yielded ops A.tmps) = true ∧ ∀ l w, i < l.size → l.getD i false = false → (∀ e, e ∈ o.after → Region.binds .any e = true → l.getD e.on false = true) → S w → E l w →
    ((∃ w', (execOp A.eval o).run P w = .ok (.value v) w' ∧ S w' ∧ E (l.setIfInBounds i true) w') ∨
     (∃ w', (execOp A.eval o).run P w = .ok .skip w' ∧ v = undef ∧ S w' ∧ E (l.setIfInBounds i true) w') ∨
     (∃ f args, (execOp A.eval o).run P w = .ok (.enter f args) w ∧ Calls P f args w fun e w' => e = .returned v ∧ S w' ∧ E (l.setIfInBounds i true) w'))) ∨
  (Region.wanted o (yielded ops A.tmps) = false ∧ v = undef ∧ ∀ l w, S w → E l w → E (l.setIfInBounds i true) w)
theorem JV{A:Act}{i:Nat}{o:Oper}{v:Value}(hw:Region.wanted o (yielded ops A.tmps)=true)(hE:∀ l w,E l w→E (l.setIfInBounds i true) w)(h:∀ w,S w→(execOp A.eval o).run P w=.ok (.value v) w):zdS P ops A S E i o v:=
 .inl ⟨hw,fun l w _ _ _ hs he=>.inl ⟨w,h w hs,hs,hE l w he⟩⟩
theorem Je{A:Act}{i:Nat}{o:Oper}(hw:Region.wanted o (yielded ops A.tmps)=true)(h:∀ l w,i<l.size→l.getD i false=false→(∀ e,e∈o.after→Region.binds .any e=true→l.getD e.on false=true)→S w→E l w→∃ w',(execOp A.eval o).run P w=.ok .skip w'∧S w'∧E (l.setIfInBounds i true) w'):zdS P ops A S E i o undef:=
 .inl ⟨hw,fun l w hi hu hp hs he=>by
  obtain ⟨w',h1,h2,h3⟩:=h l w hi hu hp hs he
  exact .inr (.inl ⟨w',h1,rfl,h2,h3⟩)⟩
theorem zek{A:Act}{i:Nat}{o:Oper}{v:Value}(hw:Region.wanted o (yielded ops A.tmps)=true)(f:Nat)(args:Array Value)(he:∀ w,(execOp A.eval o).run P w=.ok (.enter f args) w)
  (hc:∀ l w,i<l.size→l.getD i false=false→(∀ e,e∈o.after→Region.binds .any e=true→l.getD e.on false=true)→S w→E l w→Calls P f args w fun e w'=>e=.returned v∧S w'∧E (l.setIfInBounds i true) w'):zdS P ops A S E i o v:=
 .inl ⟨hw,fun l w hi hu hp hs hE=>.inr (.inr ⟨f,args,he w,hc l w hi hu hp hs hE⟩)⟩
def zK(P:Program)(ops:Array Oper)(A:Act)(S:World→Prop)(E:Array Bool→World→Prop):Nat→List Oper→List Value→Prop
 | i,o :: os,v :: vs=>zdS P ops A S E i o v∧zK P ops A S E (i+1) os vs
 | _,[],[]=>True
 | _,_,_=>False
theorem zK.cons{A:Act}{i:Nat}{o:Oper}{v:Value}{os:List Oper}{vs:List Value}(h:zdS P ops A S E i o v)(t:zK P ops A S E (i+1) os vs):zK P ops A S E i (o :: os) (v :: vs):=⟨h,t⟩
theorem gFR{A:Act}{i:Nat}{o:Oper}{v:Value}{os:List Oper}{vs:List Value}(t:zK P ops A S E (i+1) os vs)(hE:∀ l w,E l w→E (l.setIfInBounds i true) w:=by exact fun _ _ h=>h.keep (by decide))(h:∀ w,S w→(execOp A.eval o).run P w=.ok (.value v) w:=by exact fun _ _=>rfl)(hw:Region.wanted o (yielded ops A.tmps)=true:=by rfl):zK P ops A S E i (o :: os) (v :: vs):=⟨JV hw hE h,t⟩
theorem gFY{A:Act}{i:Nat}{o:Oper}{v:Value}{os:List Oper}{vs:List Value}(h:∀ w,S w→(execOp A.eval o).run P w=.ok (.value v) w)(t:zK P ops A S E (i+1) os vs)(hE:∀ l w,E l w→E (l.setIfInBounds i true) w:=by exact fun _ _ h=>h.keep (by decide))(hw:Region.wanted o (yielded ops A.tmps)=true:=by rfl):zK P ops A S E i (o :: os) (v :: vs):=⟨JV hw hE h,t⟩
theorem zK.nil{A:Act}{i:Nat}:zK P ops A S E i [] []:=trivial
theorem zK.at{A:Act}:∀ {os:List Oper}{vs:List Value}{i:Nat},zK P ops A S E i os vs→∀ {k:Nat}{o:Oper},os[k]? = some o→∃ v,vs[k]? = some v∧zdS P ops A S E (i+k) o v
 | [],_,_,_,k,o,ho=>by simp at ho
 | _ :: _,[],_,h,_,_,_=>by cases h
 | o :: os,v :: vs,i,h,0,o',ho=>by
  simp at ho;subst ho;exact ⟨v,rfl,h.1⟩
 | o :: os,v :: vs,i,h,k+1,o',ho=>by
  obtain ⟨u,hu,hg⟩:=zK.at h.2 (k:=k) (by simpa using ho);exact ⟨u,by simpa using hu,by rw[show i+(k+1)=i+1+k by omega];exact hg⟩
structure zhP (ops:Array Oper) (S:World→Prop) (E:Array Bool→World→Prop) (a A:Act) (l:Array Bool) (a':Act) (w:World):Prop where
 size:l.size=ops.size
 kept:S w
 told:E l w
 sz:a'.tmps.size=a.tmps.size
 df:a'.defers=a.defers
 on:∀ (i:Nat) (oi:Oper) (d:Nat),ops[i]? = some oi→oi.dst=some d→l.getD i false=true→a'.tmps[d]? = A.tmps[d]?
 off:∀ d:Nat,(∀ (i:Nat) (oi:Oper),ops[i]? = some oi→oi.dst=some d→l.getD i false=false)→a'.tmps[d]? = a.tmps[d]?
theorem jz{id:Nat}{a:Act}{w:World}(S:World→Prop)(E:Array Bool→World→Prop)(n:Nat)(vs:List Value)(hm:P.follows .mixedOrders=true)(hn:a.tmps.size=n)(hok:zbJ ops n=true)(hk:S w.drew)(he:E (Array.replicate ops.size false) w.drew)
  (h:∀ A,zv ops.toList vs a=A→zK P ops A S E 0 ops.toList vs∧∀ l w',(∀ i,i<ops.size→l.getD i false=true)→S w'→E l w'→Q .normal A w'):(Code.region id ops true).wp P Q a w:=by
 obtain ⟨A,hA⟩:∃ A,zv ops.toList vs a=A:=⟨_,rfl⟩;obtain ⟨hg,hQ⟩:=h A hA;unfold zbJ at hok;rw[Bool.and_eq_true,Bool.and_eq_true] at hok;obtain ⟨hsel,hp,hall⟩:=hok;have pair:∀ (i j:Nat) (oi oj:Oper),ops[i]? = some oi→ops[j]? = some oj→qD ops n i j=true:=fun i j oi oj hi hj=>by
  have h1:=List.all_eq_true.1 hp i (List.mem_range.2 (Array.getElem?_eq_some_iff.1 hi).1);exact List.all_eq_true.1 h1 j (List.mem_range.2 (Array.getElem?_eq_some_iff.1 hj).1)
 have dist:∀ (i j:Nat) (oi oj:Oper) (d:Nat),ops[i]? = some oi→ops[j]? = some oj→i≠j→oi.dst=some d→oj.dst≠some d:=fun i j oi oj d hi hj hij hd he=>by
  have:=pair i j oi oj hi hj;unfold qD at this;rw[hi,hj] at this;simp[hij,hd,he] at this
 have lt:∀ (i:Nat) (oi:Oper) (d:Nat),ops[i]? = some oi→oi.dst=some d→d<n:=fun i oi d hi hd=>by
  have:=pair i i oi oi hi hi;unfold qD at this;rw[hi] at this;simp only[hd,Bool.and_eq_true,decide_eq_true_eq] at this;exact this.2.1
 have waits:∀ (i j:Nat) (oi oj:Oper) (d:Nat),ops[i]? = some oi→ops[j]? = some oj→oj.dst=some d→d∈oi.looksAt ops→oi.after.any (fun e=>Region.binds .any e && e.on == j)=true:=fun i j oi oj d hi hj hd hm=>by
  have:=pair i j oi oj hi hj;unfold qD at this;rw[hi,hj] at this;simp only[hd,Bool.and_eq_true,Bool.or_eq_true,Bool.not_eq_true',decide_eq_true_eq] at this;rcases this.2.2 with h0 | h0
  ·rw[List.contains_iff_mem.2 hm] at h0
   cases h0
  ·exact h0
 have aOther:∀ d:Nat,(∀ (i:Nat) (oi:Oper),ops[i]? = some oi→oi.dst≠some d)→A.tmps[d]? = a.tmps[d]? := fun d hd=>by
  rw[← hA];exact jb _ _ _ (fun k o ho=>hd k o (by rw[← Array.getElem?_toList];exact ho))
 have aAt:∀ (i:Nat) (oi:Oper) (d:Nat) (v:Value),ops[i]? = some oi→oi.dst=some d→vs[i]? = some v→A.tmps[d]? = some v:=fun i oi d v hi hd hv=>by
  rw[← hA];exact ZY _ _ _ i (by rw[Array.getElem?_toList];exact hi) hv hd (by rw[hn];exact lt i oi d hi hd) (fun j oj hj ho=>dist i j oi oj d hi (by rw[← Array.getElem?_toList];exact ho) (Ne.symm hj) hd)
 refine wp_region_held_drew (S:=S) hm hk (fun hS=> ?_);refine jJ (zhP ops S E a A) (fun _ _ _ h=>h.kept) (fun l a' w' hI hr=> ?_) (fun l a' w' i hI hr=> ?_) _ _ _ _ ?_ ?_
 ·have hl:=Zk (md:=.any) (ops:=ops) hI.size hr hall
  have e:a'=A:=by
   have ht:a'.tmps=A.tmps:=by
    apply Array.ext_getElem?;intro d;by_cases hx:∃ (i:Nat) (oi:Oper),ops[i]? = some oi∧oi.dst=some d
    ·obtain ⟨i,oi,hi,hd⟩:=hx
     exact hI.on i oi d hi hd (hl i (Array.getElem?_eq_some_iff.1 hi).1)
    ·have hno:∀ (i:Nat) (oi:Oper),ops[i]? = some oi→oi.dst≠some d:=fun i oi hi hd=>hx ⟨i,oi,hi,hd⟩
     rw[hI.off d (fun i oi hi hd=>absurd hd (hno i oi hi)),aOther d hno]
   have hdf:a'.defers=A.defers:=by rw[hI.df, ← hA,jj]
   cases a';cases A;simp only at ht hdf;rw[ht,hdf]
  rw[e];exact hQ l w' hl hI.kept hI.told
 ·obtain ⟨hun,oi,hi,hw8⟩:=mem_ready.1 hr
  have hil:i<l.size:=by rw[hI.size];exact (Array.getElem?_eq_some_iff.1 hi).1
  obtain ⟨v,hv,hgv⟩:=hg.at (k:=i) (by rw[Array.getElem?_toList];exact hi);rw[Nat.zero_add] at hgv;have agree:∀ t,t∈oi.looksAt ops→a'.tmps[t]? = A.tmps[t]? := fun t ht=>by
   by_cases hx:∃ (j:Nat) (oj:Oper),ops[j]? = some oj∧oj.dst=some t
   ·obtain ⟨j,oj,hj,hd⟩:=hx
    have:=waits i j oi oj t hi hj hd ht;rw[Array.any_eq_true'] at this;obtain ⟨e,he,h1⟩:=this;rw[Bool.and_eq_true,beq_iff_eq] at h1;have h2:=hw8 e he h1.1;rw[h1.2] at h2;exact hI.on j oj t hj hd h2
   ·have hno:∀ (i:Nat) (oi:Oper),ops[i]? = some oi→oi.dst≠some t:=fun i oi hi hd=>hx ⟨i,oi,hi,hd⟩
    rw[hI.off t (fun i oi hi hd=>absurd hd (hno i oi hi)),aOther t hno]
  have hex:execOp a'.eval oi=execOp A.eval oi:=execOp_congr oi (fun cs b=>by
    exact Region.noSelect_spec hsel i oi cs b hi) (fun x hx=>by
   cases x with
   | tmp t=>
    have:=agree t (List.mem_append_left _ (List.mem_filterMap.2 ⟨.tmp t,by simpa using hx,rfl⟩));simp only[Act.eval,Array.getD_eq_getD_getElem?,this]
   | const v=>rfl
   | global g=>rfl
   | func f=>rfl)
  have hwt:Region.wanted oi (yielded ops a'.tmps)=Region.wanted oi (yielded ops A.tmps):=by
   unfold Region.wanted;cases hgd:oi.guard with
   | none=>rfl
   | some gw=>
    obtain ⟨g,want⟩:=gw;have hy:yielded ops a'.tmps g=yielded ops A.tmps g:=by
     unfold yielded;cases ht:(ops[g]?).bind (·.dst) with
     | none=>rfl
     | some t=>
      have:=agree t (by simp[Oper.looksAt,hgd,ht]);simp[this]
    simp only[hy]
  have next:∀ w2,S w2→E (l.setIfInBounds i true) w2→zhP ops S E a A (l.setIfInBounds i true) (a'.put oi.dst v) w2:=fun w2 k2 e2=>by
   refine ⟨by simpa using hI.size,k2,e2,by rw[Qj,hI.sz],by rw[Zi,hI.df],fun j oj d hj hd hl=> ?_,fun d hd=> ?_⟩
   ·by_cases hij:i=j
    ·subst hij
     rw[hi] at hj;cases hj;rw[hd,zbO (by rw[hI.sz,hn];exact lt i oi d hi hd),aAt i oi d v hi hd hv]
    ·rw[jl (dist j i oj oi d hj hi (Ne.symm hij) hd)]
     rw[zL hij] at hl;exact hI.on j oj d hj hd hl
   ·have h1:oi.dst≠some d:=fun e=>by
     have:=hd i oi hi e;rw[qf hil] at this;cases this
    rw[jl h1];refine hI.off d (fun j oj hj hdj=> ?_);have:=hd j oj hj hdj;by_cases hij:i=j
    ·subst hij
     rw[hi] at hj;cases hj;exact absurd hdj h1
    ·rw[zL hij] at this
     exact this
  refine wpOp_step hi (fun K' hK=> ?_);rw[hwt];rcases hgv with ⟨hw1,hr1⟩ | ⟨hw1,rfl,hpass⟩
  ·rw[if_pos hw1]
   unfold Oper.wp;rw[hex];rcases hr1 l w' hil (by rw[Array.getD_eq_getD_getElem?,Array.getElem?_eq_getElem hil] at hun ⊢;exact hun) hw8 hI.kept hI.told with ⟨w2,he,k2,e2⟩ | ⟨w2,he,rfl,k2,e2⟩ | ⟨f,args,he,hc⟩
   ·rw[he]
    exact hK _ _ (next w2 k2 e2)
   ·rw[he]
    exact hK _ _ (next w2 k2 e2)
   ·rw[he]
    simp only[Oper.upon];refine Calls.mono hc (fun e w2=> ?_);rintro ⟨rfl,k2,e2⟩;exact hK _ _ (next w2 k2 e2)
  ·rw[if_neg (by rw[hw1];simp)]
   exact hK _ _ (next w' hI.kept (hpass l w' hI.kept hI.told))
 ·refine ⟨by simp,hS,he,rfl,rfl,fun i oi d hi hd hl=> ?_,fun d hd=>rfl⟩
  exfalso;rw[Array.getD_eq_getD_getElem?] at hl;by_cases hlt:i<ops.size
  ·rw[Array.getElem?_replicate,if_pos hlt] at hl
   cases hl
  ·rw[Array.getElem?_replicate,if_neg hlt] at hl
   cases hl
 ·unfold left
  exact Nat.le_trans List.countP_le_length (by simp)
end
section
variable {P:Program}{ops:Array Oper}{Q:Exit→Act→World→Prop}{S:World→Prop}
def zf3 (P : Program) (ops : Array Oper) (A : Act) (S : World → Prop) (E E' : Array Bool → World → Prop) (vs vs' : List Value) (i : Nat) (o : Oper) (v : Value) : Prop :=
  Region.wanted o (yielded ops A.tmps) = true ∧ ∀ l w, i < l.size → l.getD i false = false → (∀ e, e ∈ o.after → Region.binds .any e = true → l.getD e.on false = true) → S w → E l w →
    ((∃ w', (execOp A.eval o).run P w = .ok (.value v) w' ∧ S w' ∧ E (l.setIfInBounds i true) w') ∨
     (∃ w', (execOp A.eval o).run P w = .ok .skip w' ∧ v = undef ∧ S w' ∧ E (l.setIfInBounds i true) w') ∨
     (∃ w' v', vs'[i]? = some v' ∧ (execOp A.eval o).run P w = .ok (.value v') w' ∧ (∀ j : Nat, l.getD j false = true → vs[j]? = vs'[j]?) ∧ S w' ∧ E' (l.setIfInBounds i true) w'))
theorem JM{A:Act}{E E':Array Bool→World→Prop}{vs vs':List Value}{i:Nat}{o:Oper}{v:Value}(hw:Region.wanted o (yielded ops A.tmps)=true)(hE:∀ l w,E l w→E (l.setIfInBounds i true) w)(h:∀ w,S w→(execOp A.eval o).run P w=.ok (.value v) w):zf3 P ops A S E E' vs vs' i o v:=
 ⟨hw,fun l w _ _ _ hs he=>.inl ⟨w,h w hs,hs,hE l w he⟩⟩
theorem Qn{A:Act}{E E':Array Bool→World→Prop}{vs vs':List Value}{i:Nat}{o:Oper}(hw:Region.wanted o (yielded ops A.tmps)=true)(h:∀ l w,i<l.size→l.getD i false=false→(∀ e,e∈o.after→Region.binds .any e=true→l.getD e.on false=true)→S w→E l w→∃ w',(execOp A.eval o).run P w=.ok .skip w'∧S w'∧E (l.setIfInBounds i true) w'):zf3 P ops A S E E' vs vs' i o undef:=
 ⟨hw,fun l w hi hu hp hs he=>by
  obtain ⟨w',h1,h2,h3⟩:=h l w hi hu hp hs he
  exact .inr (.inl ⟨w',h1,rfl,h2,h3⟩)⟩
def zG(P:Program)(ops:Array Oper)(A:Act)(S:World→Prop)(E E':Array Bool→World→Prop)(vs vs':List Value):Nat→List Oper→List Value→Prop
 | i,o :: os,v :: us=>zf3 P ops A S E E' vs vs' i o v∧zG P ops A S E E' vs vs' (i+1) os us
 | _,[],[]=>True
 | _,_,_=>False
theorem zG.cons{A:Act}{E E':Array Bool→World→Prop}{vs vs':List Value}{i:Nat}{o:Oper}{v:Value}{os:List Oper}{us:List Value}(h:zf3 P ops A S E E' vs vs' i o v)(t:zG P ops A S E E' vs vs' (i+1) os us):zG P ops A S E E' vs vs' i (o :: os) (v :: us):=⟨h,t⟩
theorem gSR{A:Act}{E E':Array Bool→World→Prop}{vs vs':List Value}{i:Nat}{o:Oper}{v:Value}{os:List Oper}{us:List Value}(t:zG P ops A S E E' vs vs' (i+1) os us)(hE:∀ l w,E l w→E (l.setIfInBounds i true) w:=by exact fun _ _ h=>h.keep (by decide))(h:∀ w,S w→(execOp A.eval o).run P w=.ok (.value v) w:=by exact fun _ _=>rfl)(hw:Region.wanted o (yielded ops A.tmps)=true:=by rfl):zG P ops A S E E' vs vs' i (o :: os) (v :: us):=⟨JM hw hE h,t⟩
theorem gSY{A:Act}{E E':Array Bool→World→Prop}{vs vs':List Value}{i:Nat}{o:Oper}{v:Value}{os:List Oper}{us:List Value}(h:∀ w,S w→(execOp A.eval o).run P w=.ok (.value v) w)(t:zG P ops A S E E' vs vs' (i+1) os us)(hE:∀ l w,E l w→E (l.setIfInBounds i true) w:=by exact fun _ _ h=>h.keep (by decide))(hw:Region.wanted o (yielded ops A.tmps)=true:=by rfl):zG P ops A S E E' vs vs' i (o :: os) (v :: us):=⟨JM hw hE h,t⟩
theorem zG.nil{A:Act}{E E':Array Bool→World→Prop}{vs vs':List Value}{i:Nat}:zG P ops A S E E' vs vs' i [] []:=trivial
theorem zG.at{A:Act}{E E':Array Bool→World→Prop}{vs vs':List Value}:∀ {os:List Oper}{us:List Value}{i:Nat},zG P ops A S E E' vs vs' i os us→∀ {k:Nat}{o:Oper},os[k]? = some o→∃ v,us[k]? = some v∧zf3 P ops A S E E' vs vs' (i+k) o v
 | [],_,_,_,k,o,ho=>by simp at ho
 | _ :: _,[],_,h,_,_,_=>by cases h
 | o :: os,v :: us,i,h,0,o',ho=>by
  simp at ho;subst ho;exact ⟨v,rfl,h.1⟩
 | o :: os,v :: us,i,h,k+1,o',ho=>by
  obtain ⟨u,hu,hg⟩:=zG.at h.2 (k:=k) (by simpa using ho);exact ⟨u,by simpa using hu,by rw[show i+(k+1)=i+1+k by omega];exact hg⟩
theorem zay{id:Nat}{a:Act}{w:World}(S:World→Prop)(E0 E1:Array Bool→World→Prop)(n:Nat)(vs0 vs1:List Value)(hm:P.follows .mixedOrders=true)(hn:a.tmps.size=n)(hok:zbJ ops n=true)(hk:S w.drew)(he:E0 (Array.replicate ops.size false) w.drew)
  (h:∀ A0 A1,zv ops.toList vs0 a=A0→zv ops.toList vs1 a=A1→(zG P ops A0 S E0 E1 vs0 vs1 0 ops.toList vs0∧zG P ops A1 S E1 E0 vs1 vs0 0 ops.toList vs1)∧(∀ l w',(∀ i,i<ops.size→l.getD i false=true)→S w'→E0 l w'→Q .normal A0 w')∧∀ l w',(∀ i,i<ops.size→l.getD i false=true)→S w'→E1 l w'→Q .normal A1 w'):(Code.region id ops true).wp P Q a w:=by
 obtain ⟨A0,hA0⟩:∃ A,zv ops.toList vs0 a=A:=⟨_,rfl⟩;obtain ⟨A1,hA1⟩:∃ A,zv ops.toList vs1 a=A:=⟨_,rfl⟩;obtain ⟨⟨hg0,hg1⟩,hQ0,hQ1⟩:=h A0 A1 hA0 hA1;unfold zbJ at hok;rw[Bool.and_eq_true,Bool.and_eq_true] at hok;obtain ⟨hsel,hp,hall⟩:=hok;have pair:∀ (i j:Nat) (oi oj:Oper),ops[i]? = some oi→ops[j]? = some oj→qD ops n i j=true:=fun i j oi oj hi hj=>by
  have h1:=List.all_eq_true.1 hp i (List.mem_range.2 (Array.getElem?_eq_some_iff.1 hi).1);exact List.all_eq_true.1 h1 j (List.mem_range.2 (Array.getElem?_eq_some_iff.1 hj).1)
 have dist:∀ (i j:Nat) (oi oj:Oper) (d:Nat),ops[i]? = some oi→ops[j]? = some oj→i≠j→oi.dst=some d→oj.dst≠some d:=fun i j oi oj d hi hj hij hd he=>by
  have:=pair i j oi oj hi hj;unfold qD at this;rw[hi,hj] at this;simp[hij,hd,he] at this
 have lt:∀ (i:Nat) (oi:Oper) (d:Nat),ops[i]? = some oi→oi.dst=some d→d<n:=fun i oi d hi hd=>by
  have:=pair i i oi oi hi hi;unfold qD at this;rw[hi] at this;simp only[hd,Bool.and_eq_true,decide_eq_true_eq] at this;exact this.2.1
 have waits:∀ (i j:Nat) (oi oj:Oper) (d:Nat),ops[i]? = some oi→ops[j]? = some oj→oj.dst=some d→d∈oi.looksAt ops→oi.after.any (fun e=>Region.binds .any e && e.on == j)=true:=fun i j oi oj d hi hj hd hm=>by
  have:=pair i j oi oj hi hj;unfold qD at this;rw[hi,hj] at this;simp only[hd,Bool.and_eq_true,Bool.or_eq_true,Bool.not_eq_true',decide_eq_true_eq] at this;rcases this.2.2 with h0 | h0
  ·rw[List.contains_iff_mem.2 hm] at h0
   cases h0
  ·exact h0
 have aOther:∀ {A:Act}{vs:List Value},zv ops.toList vs a=A→∀ d:Nat,(∀ (i:Nat) (oi:Oper),ops[i]? = some oi→oi.dst≠some d)→A.tmps[d]? = a.tmps[d]? := fun {A vs} hA d hd=>by
  rw[← hA];exact jb _ _ _ (fun k o ho=>hd k o (by rw[← Array.getElem?_toList];exact ho))
 have aAt:∀ {A:Act}{vs:List Value},zv ops.toList vs a=A→∀ (i:Nat) (oi:Oper) (d:Nat) (v:Value),ops[i]? = some oi→oi.dst=some d→vs[i]? = some v→A.tmps[d]? = some v:=fun {A vs} hA i oi d v hi hd hv=>by
  rw[← hA];exact ZY _ _ _ i (by rw[Array.getElem?_toList];exact hi) hv hd (by rw[hn];exact lt i oi d hi hd) (fun j oj hj ho=>dist i j oi oj d hi (by rw[← Array.getElem?_toList];exact ho) (Ne.symm hj) hd)
 have fin:∀ {A:Act}{vs:List Value}{E:Array Bool→World→Prop},zv ops.toList vs a=A→(∀ l w',(∀ i,i<ops.size→l.getD i false=true)→S w'→E l w'→Q .normal A w')→∀ l a' w',zhP ops S E a A l a' w'→Region.ready .any ops l=[]→Q .normal a' w':=fun {A vs E} hA hQ l a' w' hI hr=>by
  have hl:=Zk (md:=.any) (ops:=ops) hI.size hr hall;have e:a'=A:=by
   have ht:a'.tmps=A.tmps:=by
    apply Array.ext_getElem?;intro d;by_cases hx:∃ (i:Nat) (oi:Oper),ops[i]? = some oi∧oi.dst=some d
    ·obtain ⟨i,oi,hi,hd⟩:=hx
     exact hI.on i oi d hi hd (hl i (Array.getElem?_eq_some_iff.1 hi).1)
    ·have hno:∀ (i:Nat) (oi:Oper),ops[i]? = some oi→oi.dst≠some d:=fun i oi hi hd=>hx ⟨i,oi,hi,hd⟩
     rw[hI.off d (fun i oi hi hd=>absurd hd (hno i oi hi)),aOther hA d hno]
   have hdf:a'.defers=A.defers:=by rw[hI.df, ← hA,jj]
   cases a';cases A;simp only at ht hdf;rw[ht,hdf]
  rw[e];exact hQ l w' hl hI.kept hI.told
 have step:∀ {A A':Act}{vs vs':List Value}{E E':Array Bool→World→Prop},zv ops.toList vs a=A→zv ops.toList vs' a=A'→zG P ops A S E E' vs vs' 0 ops.toList vs→∀ (l:Array Bool) (a':Act) (w':World) (i:Nat),zhP ops S E a A l a' w'→i∈Region.ready .any ops l→∀ K:Act→World→Prop,(∀ a2 w2,(zhP ops S E a A (l.setIfInBounds i true) a2 w2∨zhP ops S E' a A' (l.setIfInBounds i true) a2 w2)→K a2 w2)→wpOp P ops Q i K a' w':=fun {A A' vs vs' E E'} hA hA' hg l a' w' i hI hr K hK=>by
  obtain ⟨hun,oi,hi,hw8⟩:=mem_ready.1 hr;have hil:i<l.size:=by rw[hI.size];exact (Array.getElem?_eq_some_iff.1 hi).1
  obtain ⟨v,hv,hgv⟩:=hg.at (k:=i) (by rw[Array.getElem?_toList];exact hi);rw[Nat.zero_add] at hgv;have agree:∀ t,t∈oi.looksAt ops→a'.tmps[t]? = A.tmps[t]? := fun t ht=>by
   by_cases hx:∃ (j:Nat) (oj:Oper),ops[j]? = some oj∧oj.dst=some t
   ·obtain ⟨j,oj,hj,hd⟩:=hx
    have:=waits i j oi oj t hi hj hd ht;rw[Array.any_eq_true'] at this;obtain ⟨e,he,h1⟩:=this;rw[Bool.and_eq_true,beq_iff_eq] at h1;have h2:=hw8 e he h1.1;rw[h1.2] at h2;exact hI.on j oj t hj hd h2
   ·have hno:∀ (i:Nat) (oi:Oper),ops[i]? = some oi→oi.dst≠some t:=fun i oi hi hd=>hx ⟨i,oi,hi,hd⟩
    rw[hI.off t (fun i oi hi hd=>absurd hd (hno i oi hi)),aOther hA t hno]
  have hex:execOp a'.eval oi=execOp A.eval oi:=execOp_congr oi (fun cs b=>by
    exact Region.noSelect_spec hsel i oi cs b hi) (fun x hx=>by
   cases x with
   | tmp t=>
    have:=agree t (List.mem_append_left _ (List.mem_filterMap.2 ⟨.tmp t,by simpa using hx,rfl⟩));simp only[Act.eval,Array.getD_eq_getD_getElem?,this]
   | const v=>rfl
   | global g=>rfl
   | func f=>rfl)
  have hwt:Region.wanted oi (yielded ops a'.tmps)=Region.wanted oi (yielded ops A.tmps):=by
   unfold Region.wanted;cases hgd:oi.guard with
   | none=>rfl
   | some gw=>
    obtain ⟨g,want⟩:=gw;have hy:yielded ops a'.tmps g=yielded ops A.tmps g:=by
     unfold yielded;cases ht:(ops[g]?).bind (·.dst) with
     | none=>rfl
     | some t=>
      have:=agree t (by simp[Oper.looksAt,hgd,ht]);simp[this]
    simp only[hy]
  have next:∀ {B:Act}{us:List Value}{F:Array Bool→World→Prop}(u:Value) w2,zv ops.toList us a=B→us[i]? = some u→(∀ (j:Nat) (oj:Oper) (d:Nat),ops[j]? = some oj→oj.dst=some d→l.getD j false=true→A.tmps[d]? = B.tmps[d]?)→S w2→F (l.setIfInBounds i true) w2→zhP ops S F a B (l.setIfInBounds i true) (a'.put oi.dst u) w2:=fun {B us F} u w2 hB hu hag k2 e2=>by
   refine ⟨by simpa using hI.size,k2,e2,by rw[Qj,hI.sz],by rw[Zi,hI.df],fun j oj d hj hd hl=> ?_,fun d hd=> ?_⟩
   ·by_cases hij:i=j
    ·subst hij
     rw[hi] at hj;cases hj;rw[hd,zbO (by rw[hI.sz,hn];exact lt i oi d hi hd),aAt hB i oi d u hi hd hu]
    ·rw[jl (dist j i oj oi d hj hi (Ne.symm hij) hd)]
     rw[zL hij] at hl;rw[hI.on j oj d hj hd hl,hag j oj d hj hd hl]
   ·have h1:oi.dst≠some d:=fun e=>by
     have:=hd i oi hi e;rw[qf hil] at this;cases this
    rw[jl h1];refine hI.off d (fun j oj hj hdj=> ?_);have:=hd j oj hj hdj;by_cases hij:i=j
    ·subst hij
     rw[hi] at hj;cases hj;exact absurd hdj h1
    ·rw[zL hij] at this
     exact this
  obtain ⟨hw1,hr1⟩:=hgv;refine wpOp_step hi (fun K' hK'=> ?_);rw[hwt,if_pos hw1];unfold Oper.wp;rw[hex];rcases hr1 l w' hil (by rw[Array.getD_eq_getD_getElem?,Array.getElem?_eq_getElem hil] at hun ⊢;exact hun) hw8 hI.kept hI.told with ⟨w2,he,k2,e2⟩ | ⟨w2,he,rfl,k2,e2⟩ | ⟨w2,v',hv',he,hag,k2,e2⟩
  ·rw[he]
   exact hK' _ _ (hK _ _ (.inl (next v w2 hA hv (fun _ _ _ _ _ _=>rfl) k2 e2)))
  ·rw[he]
   exact hK' _ _ (hK _ _ (.inl (next undef w2 hA hv (fun _ _ _ _ _ _=>rfl) k2 e2)))
  ·rw[he]
   refine hK' _ _ (hK _ _ (.inr (next v' w2 hA' hv' (fun j oj d hj hd hl=> ?_) k2 e2)));obtain ⟨vj,hvj, -⟩:=hg.at (k:=j) (by rw[Array.getElem?_toList];exact hj);rw[aAt hA j oj d vj hj hd hvj,aAt hA' j oj d vj hj hd (by rw[← hag j hl];exact hvj)]
 refine wp_region_held_drew (S:=S) hm hk (fun hS=> ?_);refine jJ (fun l a' w'=>zhP ops S E0 a A0 l a' w'∨zhP ops S E1 a A1 l a' w') (fun _ _ _ h=>h.elim (·.kept) (·.kept)) (fun l a' w' hI hr=> ?_) (fun l a' w' i hI hr=> ?_) _ _ _ _ ?_ ?_
 ·rcases hI with hI | hI
  ·exact fin hA0 hQ0 l a' w' hI hr
  ·exact fin hA1 hQ1 l a' w' hI hr
 ·rcases hI with hI | hI
  ·exact step hA0 hA1 hg0 l a' w' i hI hr _ (fun _ _ h=>h)
  ·exact step hA1 hA0 hg1 l a' w' i hI hr _ (fun _ _ h=>h.symm)
 ·left
  refine ⟨by simp,hS,he,rfl,rfl,fun i oi d hi hd hl=> ?_,fun d hd=>rfl⟩;exfalso;rw[Array.getD_eq_getD_getElem?] at hl;by_cases hlt:i<ops.size
  ·rw[Array.getElem?_replicate,if_pos hlt] at hl
   cases hl
  ·rw[Array.getElem?_replicate,if_neg hlt] at hl
   cases hl
 ·unfold left
  exact Nat.le_trans List.countP_le_length (by simp)
end
structure J3 (Z i j si sj:Nat) (T:TypeId) (z vi vj:Array Value) (l:Array Bool) (w:World):Prop where
 ord:l.getD j false=true→l.getD i false=true
 pi:l.getD si false=true→l.getD i false=true
 pj:l.getD sj false=true→l.getD j false=true
 size:w.heap.size=Z+(bif l.getD i false then 1 else 0)+(bif l.getD j false then 1 else 0)
 fst:l.getD i false=true→w.heap[Z]? = some (.cells (bif l.getD si false then vi else z) T (0,0))
 snd:l.getD j false=true→w.heap[Z+1]? = some (.cells (bif l.getD sj false then vj else z) T (0,0))
theorem J3.keep{k:Nat}(h:J3 Z i j si sj T z vi vj l w)(hk:(k≠i∧k≠j)∧k≠si∧k≠sj):J3 Z i j si sj T z vi vj (l.setIfInBounds k true) w:=by
 have e1:=zL (l:=l) hk.1.1;have e2:=zL (l:=l) hk.1.2;have e3:=zL (l:=l) hk.2.1;have e4:=zL (l:=l) hk.2.2;exact ⟨by rw[e1,e2];exact h.ord,by rw[e1,e3];exact h.pi,by rw[e2,e4];exact h.pj,by rw[e1,e2];exact h.size,by rw[e1,e3];exact h.fst,by rw[e2,e4];exact h.snd⟩
theorem J3.start{n:Nat}(h:w.heap.size=Z):J3 Z i j si sj T z vi vj (Array.replicate n false) w:=by
 have:∀ k,(Array.replicate n false).getD k false=false:=fun k=>by
  by_cases hn:k<n
  ·simp[Array.getD,hn]
  ·simp[Array.getD,hn]
 exact ⟨fun e=>by (rw[this] at e;cases e),fun e=>by (rw[this] at e;cases e),fun e=>by (rw[this] at e;cases e),by rw[this,this];simpa using h,fun e=>by (rw[this] at e;cases e),fun e=>by (rw[this] at e;cases e)⟩
theorem J3.bare(h:J3 Z i j si sj T z vi vj l w)(hi:l.getD i false=false):l.getD j false=false∧l.getD si false=false∧l.getD sj false=false:=by
 have hj:l.getD j false=false:=by
  cases e:l.getD j false with
  | false=>rfl
  | true=>rw[h.ord e] at hi;cases hi
 refine ⟨hj,?_,?_⟩
 ·cases e:l.getD si false with
  | false=>rfl
  | true=>rw[h.pi e] at hi;cases hi
 ·cases e:l.getD sj false with
  | false=>rfl
  | true=>rw[h.pj e] at hj;cases hj
theorem J3.make(h:J3 Z i j si sj T z vi vj l w)(hd:(i≠j∧i≠si)∧i≠sj)(hi:l.getD i false=false)(hl:i<l.size):w.heap.size=Z∧J3 Z i j si sj T z vi vj (l.setIfInBounds i true) (w.alloc (.cells z T)):=by
 obtain ⟨h1,h2,h3⟩:=h.bare hi;have hz:w.heap.size=Z:=by have:=h.size;rw[hi,h1] at this;simpa using this
 have e0:=qf hl;have e1:=zL (l:=l) hd.1.1;have e2:=zL (l:=l) hd.1.2;have e3:=zL (l:=l) hd.2;refine ⟨hz,fun _=>e0,fun _=>e0,fun e=>by (rw[e3,h3] at e;cases e),?_,fun _=> ?_,fun e=>by (rw[e1,h1] at e;cases e)⟩
 ·rw[e0,e1,h1,World.size_alloc,hz]
  rfl
 ·rw[e2,h2, ← hz]
  exact heap_alloc_new _ _
theorem J3.make2(h:J3 Z i j si sj T z vi vj l w)(hd:(j≠i∧j≠si)∧j≠sj)(hi:l.getD i false=true)(hj:l.getD j false=false)(hl:j<l.size):w.heap.size=Z+1∧J3 Z i j si sj T z vi vj (l.setIfInBounds j true) (w.alloc (.cells z T)):=by
 have h3:l.getD sj false=false:=by
  cases e:l.getD sj false with
  | false=>rfl
  | true=>rw[h.pj e] at hj;cases hj
 have hz:w.heap.size=Z+1:=by have:=h.size;rw[hi,hj] at this;simpa using this
 have e0:=qf hl;have e1:=zL (l:=l) hd.1.1;have e2:=zL (l:=l) hd.1.2;have e3:=zL (l:=l) hd.2;refine ⟨hz,fun _=>by rw[e1];exact hi,by rw[e1,e2];exact h.pi,fun _=>e0,?_,fun _=> ?_,fun _=> ?_⟩
 ·rw[e0,e1,hi,World.size_alloc,hz]
  rfl
 ·rw[e2]
  have:=h.fst hi;exact ze this (zc.alloc [] _ _)
 ·rw[e3,h3, ← hz]
  exact heap_alloc_new _ _
theorem J3.turn(h:J3 Z i j si sj T z vi vj l w)(hi:l.getD i false=false):J3 Z j i sj si T z vj vi l w:=by
 obtain ⟨h1,h2,h3⟩:=h.bare hi;exact ⟨fun e=>by (rw[hi] at e;cases e),fun e=>by (rw[h3] at e;cases e),fun e=>by (rw[h2] at e;cases e),by have:=h.size;rw[hi,h1] at this ⊢;exact this,fun e=>by (rw[h1] at e;cases e),fun e=>by (rw[hi] at e;cases e)⟩
theorem J3.put{u0 u1 u2 x0 x1 x2:Value}(h:J3 Z i j si sj T z vi vj l w)(hz:z=#[x0,x1,x2])(hvi:vi=#[u0,u1,u2])(hd:(si≠i∧si≠j)∧si≠sj)(hi:l.getD i false=true)(hs:l.getD si false=false)(hl:si<l.size):w.heap[Z]? = some (.cells #[x0,x1,x2] T (0,0))∧J3 Z i j si sj T z vi vj (l.setIfInBounds si true) (((w.setCell ⟨Z,0,none⟩ u0).setCell ⟨Z,1,none⟩ u1).setCell ⟨Z,2,none⟩ u2):=by
 have e0:=qf hl;have e1:=zL (l:=l) hd.1.1;have e2:=zL (l:=l) hd.1.2;have e3:=zL (l:=l) hd.2;have h1:=h.fst hi;rw[hs] at h1;simp only[cond_false] at h1;rw[hz] at h1;refine ⟨h1,by rw[e1,e2];exact h.ord,fun _=>by rw[e1];exact hi,by rw[e2,e3];exact h.pj,?_,fun _=> ?_,fun hj=> ?_⟩
 ·rw[e1,e2]
  have:=h.size;simpa using this
 ·rw[e0,hvi]
  exact jZ h1 u0 u1 u2
 ·rw[e2] at hj
  rw[e3,heap_setCell_other _ _ _ _ (by simp),heap_setCell_other _ _ _ _ (by simp),heap_setCell_other _ _ _ _ (by simp)];exact h.snd hj
theorem J3.put2{u0 u1 u2 x0 x1 x2:Value}(h:J3 Z i j si sj T z vi vj l w)(hz:z=#[x0,x1,x2])(hvj:vj=#[u0,u1,u2])(hd:(sj≠i∧sj≠j)∧sj≠si)(hj:l.getD j false=true)(hs:l.getD sj false=false)(hl:sj<l.size):w.heap[Z+1]? = some (.cells #[x0,x1,x2] T (0,0))∧J3 Z i j si sj T z vi vj (l.setIfInBounds sj true) (((w.setCell ⟨Z+1,0,none⟩ u0).setCell ⟨Z+1,1,none⟩ u1).setCell ⟨Z+1,2,none⟩ u2):=by
 have e0:=qf hl;have e1:=zL (l:=l) hd.1.1;have e2:=zL (l:=l) hd.1.2;have e3:=zL (l:=l) hd.2;have h1:=h.snd hj;rw[hs] at h1;simp only[cond_false] at h1;rw[hz] at h1;refine ⟨h1,by rw[e1,e2];exact h.ord,by rw[e1,e3];exact h.pi,fun _=>by rw[e2];exact hj,?_,fun hi=> ?_,fun _=> ?_⟩
 ·rw[e1,e2]
  have:=h.size;simpa using this
 ·rw[e1] at hi
  rw[e3,heap_setCell_other _ _ _ _ (by simp),heap_setCell_other _ _ _ _ (by simp),heap_setCell_other _ _ _ _ (by simp)];exact h.fst hi
 ·rw[e0,hvj]
  exact jZ h1 u0 u1 u2
theorem zej:Tryz.t36.zero=some (.slice none 0 0):=by kernel_rfl
theorem ze2:Tryz.t36.size=1:=by kernel_rfl
theorem zcK:Tryz.t36.bytes=24:=by kernel_rfl
theorem zes:Tryz.prog.info? 36=some Tryz.t36:=by kernel_rfl
theorem zbW:Tryz.prog.underlying 181=some (.slice 36):=by kernel_rfl
theorem zef{e:TypeId}{size:Nat}{n:Nat}{xs:List Value}(h:w.ownsRow base e size v n xs){b:Nat}(hb:v.ownBlock=some b):∃ cur,w.heap[b]? = some (.cells cur e (0,0)):=by
 rcases h.2 with ⟨rfl,_⟩ | ⟨g,cap,cur,rfl,_,hg,_⟩
 ·simp[Value.ownBlock] at hb
 ·simp[Value.ownBlock] at hb
  subst hb;exact ⟨cur,hg⟩
structure LsY (w:World) (base:Nat) (v:Value) (vs:List Value) (ps:List (List Nat)):Prop where
 outer:w.ownsRow base 36 1 v ps.length vs
 inner:∀ i,i<ps.length→w.ownsRow base 3 1 (vs.getD i zaw) (nb ps i).length (jE (nb ps i))
theorem LsY.quiet{w':World}{ps:List (List Nat)}(h:LsY w base v vs ps)(k:zc [] w w'):LsY w' base v vs ps:=
 ⟨zj h.outer k (fun _ _=>by simp),fun i hi=>zj (h.inner i hi) k (fun _ _=>by simp)⟩
theorem LsY.graph{ps:List (List Nat)}(h:LsY w base v vs ps):∃ a cap,v=.slice a ps.length cap∧GAt w w.heap.size a ps:=by
 have hvl:vs.length=ps.length:=by have:=h.outer.1;omega
 rcases h.outer.2 with ⟨rfl,h0⟩ | ⟨p,cap,cur,rfl,_,hg,_⟩
 ·have:ps=[]:=List.length_eq_zero_iff.1 h0
  subst this;exact ⟨none,0,rfl,.inl rfl⟩
 ·have zd:∀ j,j<ps.length→w.cell? ⟨p,j,none⟩=some (vs.getD j zaw):=by
   intro j hj;rw[h.outer.cellAt j (by omega),List.getD_eq_getElem?_getD,List.getElem?_eq_getElem (by omega)];rfl
  refine ⟨_,cap,rfl,.inr ⟨p,0,rfl,(Array.getElem?_eq_some_iff.1 hg).1,fun j hj=> ?_⟩⟩;rw[jK] at hj;obtain ⟨a,c,hv,hn⟩:=Z2 (h.inner j hj);refine ⟨a,c,?_,?_⟩
  ·rw[Nat.zero_add,zd j hj,hv,jd,zY]
  ·rw[jd];exact hn
theorem LsY.snoc{wa w':World}{v' x:Value}{ps:List (List Nat)}{l:List Nat}(h:LsY w base v vs ps)(ka:zc [] w wa)(hx:w.ownsRow base 3 1 x l.length (jE l))(ho:w'.ownsRow base 36 1 v' (ps.length+1) (vs ++ [x]))(hg:wa.grownBy w' v.ownBlock):
  LsY w' base v' (vs ++ [x]) (ps ++ [l]):=by
 have hvl:vs.length=ps.length:=by have:=h.outer.1;omega
 have k:zc v.ownBlock.toList wa w':=zc.grown _ hg (fun y hy=>by rw[hy];simp);have ow:=zj h.outer ka (by simp);have stay:∀ (u:Value) (m:List Nat),w.ownsRow base 3 1 u m.length (jE m)→w'.ownsRow base 3 1 u m.length (jE m):=by
  intro u m hu;have hu2:=zj hu ka (by simp);refine zj hu2 k (fun b hb hx=> ?_);obtain ⟨cur,hc⟩:=zef hu2 hb;exact Lib.ownBlock_ne ow hc (by decide) (by simpa using hx)
 refine ⟨by rw[List.length_append];exact ho,fun i hi=> ?_⟩;rw[List.length_append] at hi;by_cases e:i<ps.length
 ·have e1:(vs ++ [x]).getD i zaw=vs.getD i zaw:=by rw[List.getD_eq_getElem?_getD,List.getD_eq_getElem?_getD,List.getElem?_append_left (by omega)]
  have e2:nb (ps ++ [l]) i=nb ps i:=by unfold nb;rw[List.getD_eq_getElem?_getD,List.getD_eq_getElem?_getD,List.getElem?_append_left e]
  rw[e1,e2];exact stay _ _ (h.inner i e)
 ·obtain rfl:i=ps.length:=by simp at hi;omega
  have e1:(vs ++ [x]).getD ps.length zaw=x:=by rw[List.getD_eq_getElem?_getD, ← hvl];simp
  have e2:nb (ps ++ [l]) ps.length=l:=by unfold nb;rw[List.getD_eq_getElem?_getD];simp
  rw[e1,e2];exact stay _ _ hx
theorem ZA{ops:Array Oper}{rest:List Oper}{Q:Exit→Act→World→Prop}(w0 wr w:World)(hgd:o.guard=none)(s x':Operand)
  (ho:o.op=.call { callee:=.builtin .append,args:=#[s,x'],argTypes:=#[181,181] })
  {v x:Value}{vs:List Value}{ps:List (List Nat)}{l:List Nat}(hs:a.eval s=v) (hv:LsY wr w0.heap.size v vs ps) (ka:zc [] wr w) (k:zc [] w0 wr) (hx1:wr.ownsRow w0.heap.size 3 1 x l.length (jE l))
  (b c:Nat) (hx:a.eval x'=.slice (some ⟨b,0,none⟩) 1 c) (hb:w.cell? ⟨b,0,none⟩=some x) (hl:ps.length<1000)
  (h:∀ v' w',LsY w' w0.heap.size v' (vs ++ [x]) (ps ++ [l])→zc [] w0 w'→wpList Tryz.prog ops Q rest (a.put o.dst v') w'):
  wpList Tryz.prog ops Q (o :: rest) a w:=by
 refine wpList_plain hgd fun K hK=> ?_;have hvo:=zj hv.outer ka (fun _ _=>by simp);have hone:x.oneCell'=true:=by
  obtain ⟨a,c,rfl,_⟩:=Z2 hx1;rfl
 obtain ⟨v',w',hr,h2,hg,_⟩:=run_append_own (P:=Tryz.prog) w w0.heap.size 181 o.type 36 Tryz.t36 (.slice none 0 0) 1 24 zbW zes zej ze2 zcK rfl (by decide) v ps.length vs hvo ⟨b,0,none⟩ 1 c [x] rfl (fun j u e=>by
  cases j with
  | zero=>simp at e;subst e;exact hb
  | succ j=>simp at e) (fun u hu=>by simp at hu;subst hu;exact hone) (by unfold maxLen;omega) (by omega) (k.quiet ka).size
 unfold Oper.wp execOp;simp only[ho,resolve,invoke,builtin,Sem.run_bind,Sem.run_pure,Result.andThen_ok,List.map_toArray,List.map_cons,List.map_nil,hs,hx,hr];exact hK _ _ (h v' w' (hv.snoc ka hx1 h2 hg) ((k.quiet ka).appended hvo hg (Nat.le_refl _)))
def zf9(F:Fu8):Prop:=∀ b,b<F.blocks.length→((zr F b).fin=1∨(zr F b).fin=2→inB (zr F b).to F.blocks.length=true)∧((zr F b).fin=2→inB (zr F b).els F.blocks.length=true)
theorem zfe{F:Fu8}{k:Nat}(h:k<F.blocks.length):(zy F).take (k+1)=(zy F).take k ++ [tgB F.blocks.length (zr F k)]:=by
 have:=qe (zy F) k [] (by rw[zO];exact h);rw[this];have e:(zy F).getD k []=nb (zy F) k:=rfl;rw[e,Ql h]
theorem zde(F:Fu8)(s:Int)(ra:Option Addr)(R rp:Nat)(ba:Option Addr)(bcp:Nat)(hB:z7 w 5 BlC ba F.blocks)(hE:zf9 F)(hn:F.blocks.length≤600):
  Calls Tryz.prog 116 #[agg #[int i64 s,.slice ra R rp,.slice ba F.blocks.length bcp]] w fun e w'=>∃ a cp,e=.returned (.slice a F.blocks.length cp)∧GAt w' w'.heap.size a (zy F)∧zc [] w w':=by
 obtain ⟨n,hne⟩:∃ n,F.blocks.length=n:=⟨_,rfl⟩;have HNE:=hid hne;have hn':n≤600:=hne ▸ hn;have k0:=zc.alloc [] w (.cells #[int i64 s,.slice ra R rp,.slice ba n bcp] 50);have hh:=zh w (.cells #[int i64 s,.slice ra R rp,.slice ba n bcp] 50);have c2:=zd hh 2;have HRW:=hid (hB.quiet BlC.stays k0);have HE:=hid hE;have HK0:=hid k0;rw[hne];clear hB hE hn hne hh k0;go_enter Tryz.func116,Tryz.ntmps116;go_upto_region 1 with fail;generalize hbx:w.heap.size=bx at *;generalize w.alloc (.cells #[int i64 s,.slice ra R rp,.slice ba n bcp] 50)=W at *;clear hbx;have HC2:Box (∀ w',zc [] W w'→w'.cell? ⟨bx,2,none⟩=some (.slice ba n bcp)):=hid fun w' k=>za k c2;clear c2;go_wp2_with fail;generalize hv0:Value.slice none 0 0=v0;have H0:Box (LsY W W.heap.size v0 [] ((zy F).take 0)):=hid (by rw[← hv0];exact ⟨World.ownsRow_nil W _ _ _,fun i hi=>by simp at hi⟩);have HV0:=hid hv0;clear hv0
 go_loopw [3,4] (fun lv iv wr=>∃ (k:Nat) (v:Value) (vs:List Value),k≤n∧v=lv∧iv=int i64 (k:Int)∧Box (LsY wr W.heap.size v vs ((zy F).take k))∧Box (zc [] W wr)) (fun _ iv _=>n - (intOf iv).toNat)
 case atStart=>exact ⟨0,v0,[],by omega,rfl,rfl,H0,hid (zc.refl _ _)⟩
 case round=>
  clear H0;obtain ⟨k,v,vs,hk,rfl,rfl,HL,HK⟩:=hrel;have c2:=HC2.o _ HK.o;by_cases hlt:k<n
  ·have hlt':(k:Int)<(n:Int):=by omega
   have hlt2:k<F.blocks.length:=by rw[HNE.o];exact hlt
   obtain ⟨bb,bo,rfl,hbl⟩:=(HRW.o.quiet BlC.stays HK.o).at (j:=k) (y:=zr F k) (zg hlt2);have HTK:=hid (zfe hlt2);have hee:=HE.o k hlt2;have HLT:Box (((zy F).take k).length<1000):=hid (by rw[List.length_take,zO,HNE.o];omega);rw[HNE.o] at HTK hee;obtain ⟨x,hx⟩:∃ x,zr F k=x:=⟨_,rfl⟩;rw[hx] at hbl hee HTK;clear hx hlt2;have q1:=hbl.c1.1;have q3:=hbl.c3.1;have q4:=hbl.c4.1;have Q:Box (∀ w',zc [] wr w'→w'.cell? ⟨bb,bo+k * 5+1,none⟩=some (int i64 x.fin)∧w'.cell? ⟨bb,bo+k * 5+3,none⟩=some (int i64 x.to)∧w'.cell? ⟨bb,bo+k * 5+4,none⟩=some (int i64 x.els)):=hid fun w' kk=>⟨za kk q1,za kk q3,za kk q4⟩;clear hbl;have HNIL:Box (wr.ownsRow wr.heap.size 3 1 v0 ([]:List Nat).length (jE [])):=hid (by rw[← HV0.o];exact World.ownsRow_nil wr _ _ _);have ct:Box (∀ (w':World) v,(w'.alloc (.cells #[v] 3)).cell? ⟨w'.heap.size,0,none⟩=some v):=hid fun w' v=>by rw[World.cell?_alloc_at _ _ _ _ rfl];rfl
   have cl:Box (∀ (w':World) v,(w'.alloc (.cells #[v] 36)).cell? ⟨w'.heap.size,0,none⟩=some v):=hid fun w' v=>by rw[World.cell?_alloc_at _ _ _ _ rfl];rfl
   have HSZ:Box (W.heap.size≤wr.heap.size):=hid HK.o.size
   have FIN:Box (∀ (wy:World) (u:Value) (l:List Nat),zc [] wr wy→wy.ownsRow wr.heap.size 3 1 u l.length (jE l)→wy.ownsRow W.heap.size 3 1 u l.length (jE l)∧LsY wy W.heap.size v vs ((zy F).take k)∧zc [] W wy):=hid fun wy u l ky hu=>⟨⟨hu.1,by
     rcases hu.2 with hn | ⟨b,cap,cur,h1,h2,h3⟩
     ·exact .inl hn
     ·exact .inr ⟨b,cap,cur,h1,Nat.le_trans HSZ.o h2,h3⟩⟩,HL.o.quiet ky,HK.o.quiet ky⟩
   by_cases f1:x.fin=1
   ·have HTG:Box (tgB n x=[] ++ [x.to.toNat]):=hid (by unfold tgB;simp[f1,hee.1 (.inl f1)])
    have ht:=hid (show x.to=(x.to.toNat:Int) by have:=zt.1 (hee.1 (.inl f1));omega);rw[f1] at q1 Q;clear f1 hee;go_upto_region 7 with fail;go_upto_region 8 with (at_builtin;go_must (refine ql wr _ rfl _ _ rfl [] x.to.toNat v0 rfl (HNIL.o.alloc _) (zc.alloc [] _ _) x.to ht.o _ _ rfl (ct.o _ _) (by simp) ?_;intro v1 w4 ho4 hk4))
    have HO4:=hid ho4;have HK4:=hid hk4;obtain ⟨p1,p3,p4⟩:=Q.o _ hk4;have p2:=za hk4 c2;clear ho4 hk4 q1 q3 q4 c2;go_quiet (fail);obtain ⟨y1,y2,y3⟩:=FIN.o (w4.drewN nq) v1 _ (HK4.o.quiet (zc.drewN [] _ _)) (zj HO4.o (zc.drewN [] _ _) (fun _ _=>by simp));have Y1:=hid y1;have Y2:=hid y2;have Y3:=hid y3;clear y1 y2 y3 HO4 HK4 p1 p2 p3 p4 FIN HNIL;generalize w4.drewN nq=wz at *;obtain ⟨ax,cx,hvx, -⟩:=Z2 Y1.o;subst hvx;go_wp2_with (at_builtin;go_must (refine ZA W wz _ rfl _ _ rfl rfl Y2.o (zc.alloc [] _ _) Y3.o Y1.o _ _ rfl (cl.o _ _) HLT.o ?_;intro v6 w6 h6 k6));go_roundw
    case rel=>exact ⟨k+1,v6,_,by omega,rfl,by go_num,hid (by rw[HTK.o,HTG.o];exact h6),hid k6⟩
    case measure=>simp[intOf];omega
   by_cases f2:x.fin=2
   ·by_cases e1:x.els=x.to
    ·have HTG:Box (tgB n x=[] ++ [x.to.toNat]):=hid (by unfold tgB;simp[f2,e1,hee.1 (.inr f2)])
     have ht:=hid (show x.to=(x.to.toNat:Int) by have:=zt.1 (hee.1 (.inr f2));omega);have o1:=(show (x.fin == 1)=false by simpa using f1);have o3:(x.els != x.to)=false:=by simpa using e1
     rw[f2] at q1 Q o1;clear f1 f2 hee e1;go_upto_region 7 with fail;go_upto_region 8 with (at_builtin;go_must (refine ql wr _ rfl _ _ rfl [] x.to.toNat v0 rfl (HNIL.o.alloc _) (zc.alloc [] _ _) x.to ht.o _ _ rfl (ct.o _ _) (by simp) ?_;intro v1 w4 ho4 hk4))
     have HO4:=hid ho4;have HK4:=hid hk4;obtain ⟨p1,p3,p4⟩:=Q.o _ hk4;have p2:=za hk4 c2;clear ho4 hk4 q1 q3 q4 c2;go_quiet (fail);obtain ⟨y1,y2,y3⟩:=FIN.o (w4.drewN nq) v1 _ (HK4.o.quiet (zc.drewN [] _ _)) (zj HO4.o (zc.drewN [] _ _) (fun _ _=>by simp));have Y1:=hid y1;have Y2:=hid y2;have Y3:=hid y3;clear y1 y2 y3 HO4 HK4 p1 p2 p3 p4 FIN HNIL;generalize w4.drewN nq=wz at *;obtain ⟨ax,cx,hvx, -⟩:=Z2 Y1.o;subst hvx;go_wp2_with (at_builtin;go_must (refine ZA W wz _ rfl _ _ rfl rfl Y2.o (zc.alloc [] _ _) Y3.o Y1.o _ _ rfl (cl.o _ _) HLT.o ?_;intro v6 w6 h6 k6));go_roundw
     case rel=>exact ⟨k+1,v6,_,by omega,rfl,by go_num,hid (by rw[HTK.o,HTG.o];exact h6),hid k6⟩
     case measure=>simp[intOf];omega
    ·have HTG:Box (tgB n x=([] ++ [x.to.toNat]) ++ [x.els.toNat]):=hid (by unfold tgB;simp[f2,e1,hee.1 (.inr f2),hee.2 f2])
     have ht:=hid (show x.to=(x.to.toNat:Int) by have:=zt.1 (hee.1 (.inr f2));omega);have hu:=hid (show x.els=(x.els.toNat:Int) by have:=zt.1 (hee.2 f2);omega);have o1:=(show (x.fin == 1)=false by simpa using f1);have o3:(x.els != x.to)=true:=by simpa using e1
     rw[f2] at q1 Q o1;clear f1 f2 hee e1;go_upto_region 7 with fail;go_upto_region 8 with (at_builtin;go_must (refine ql wr _ rfl _ _ rfl [] x.to.toNat v0 rfl (HNIL.o.alloc _) (zc.alloc [] _ _) x.to ht.o _ _ rfl (ct.o _ _) (by simp) ?_;intro v1 w4 ho4 hk4))
     have HO4:=hid ho4;have HK4:=hid hk4;obtain ⟨p1,p3,p4⟩:=Q.o _ hk4;have p2:=za hk4 c2;clear ho4 hk4 q1 q3 q4 c2;go_quiet (fail);have HO5:=hid (zj HO4.o (zc.drewN [] w4 nq) (fun _ _=>by simp));have HK5:=hid (HK4.o.quiet (zc.drewN [] w4 nq));have e1':(w4.drewN nq).cell? ⟨bb,bo+k * 5+4,none⟩=some (int i64 x.els):=p4;have e2':(w4.drewN nq).cell? ⟨bx,2,none⟩=some (.slice (some ⟨bb,bo,none⟩) n bcp):=p2;clear HO4 HK4 p1 p2 p3 p4 HNIL;generalize w4.drewN nq=wz at *;go_upto_region 10 with (at_builtin;go_must (refine ql wr _ rfl _ _ rfl ([] ++ [x.to.toNat]) x.els.toNat v1 rfl (HO5.o.alloc _) (HK5.o.quiet (zc.alloc [] _ _)) x.els hu.o _ _ rfl (ct.o _ _) (by simp) ?_;intro v2 w5 ho5 hk5))
     obtain ⟨y1,y2,y3⟩:=FIN.o w5 v2 _ hk5 ho5;have Y1:=hid y1;have Y2:=hid y2;have Y3:=hid y3;clear y1 y2 y3 HO5 HK5 ho5 hk5 e1' e2' FIN;obtain ⟨ax,cx,hvx, -⟩:=Z2 Y1.o;subst hvx;go_wp2_with (at_builtin;go_must (refine ZA W w5 _ rfl _ _ rfl rfl Y2.o (zc.alloc [] _ _) Y3.o Y1.o _ _ rfl (cl.o _ _) HLT.o ?_;intro v6 w6 h6 k6));go_roundw
     case rel=>exact ⟨k+1,v6,_,by omega,rfl,by go_num,hid (by rw[HTK.o,HTG.o];exact h6),hid k6⟩
     case measure=>simp[intOf];omega
   have HTG:Box (tgB n x=[]):=hid (by unfold tgB;simp[f1,f2]);have o1:=(show (x.fin == 1)=false by simpa using f1);have o2:=(show (x.fin == 2)=false by simpa using f2);clear f1 f2 hee;go_upto_region 8 with fail;go_quiet (fail);obtain ⟨y1,y2,y3⟩:=FIN.o (wr.drewN nq) v0 [] (zc.drewN [] _ _) (zj HNIL.o (zc.drewN [] _ _) (fun _ _=>by simp));have Y1:=hid y1;have Y2:=hid y2;have Y3:=hid y3;clear y1 y2 y3 q1 q3 q4 c2 FIN HNIL;generalize wr.drewN nq=wz at *;have hv0:=HV0.o;clear HV0;subst hv0;go_wp2_with (at_builtin;go_must (refine ZA W wz _ rfl _ _ rfl rfl Y2.o (zc.alloc [] _ _) Y3.o Y1.o _ _ rfl (cl.o _ _) HLT.o ?_;intro v6 w6 h6 k6));go_roundw
   case rel=>exact ⟨k+1,v6,_,by omega,rfl,by go_num,hid (by rw[HTK.o,HTG.o];exact h6),hid k6⟩
   case measure=>simp[intOf];omega
  ·obtain rfl:k=n:=by omega
   have hall:(zy F).take k=zy F:=List.take_of_length_le (by rw[zO,HNE.o];exact Nat.le_refl _);rw[hall] at HL;obtain ⟨a,cp,hve,hgr⟩:=HL.o.graph;rw[zO,HNE.o] at hve;have HG:=hid hgr;clear hgr hall HL;subst hve;go_wp2_with fail;go_ret;exact ⟨a,cp,rfl,HG.o,HK0.o.quiet HK.o⟩
end Go.Proofs.YthflgjkmbakedaaGreatDoor
