import Derived.Test.YtgmbkiagdhjpnaaGreatDoorU06
import Derived.Test.YtgmbkiagdhjpnaaGreatDoorU07

namespace Go.Proofs.YtgmbkiagdhjpnaaGreatDoor
open Go.RowKit
open Go.Value (int pointer agg)
open Go.IntKind (i64)
set_option maxHeartbeats 4000000
set_option maxRecDepth 20000
variable {A a:Act}{W0 w:World}{ev:Operand→Value}{f s:Nat}{o oi:Oper}{v:Value}{vs:List Value}{x:Operand}
section
variable {P:Program}{ops:Array Oper}{Q:Exit→Act→World→Prop}
def zH:List Oper→List Value→Act→Act
 | o :: os,v :: vs,a=>zH os vs (a.put o.dst v)
 | _,_,a=>a
theorem ZB(a:Act)(d:Option Tmp)(v:Value):(a.put d v).tmps.size=a.tmps.size:=by cases d <;> simp[Act.put]
theorem jV(a:Act)(d:Option Tmp)(v:Value):(a.put d v).defers=a.defers:=by cases d <;> rfl
theorem qP{a:Act}{d:Option Tmp}{v:Value}{s:Nat}(h:d≠some s):(a.put d v).tmps[s]? = a.tmps[s]? := by
 cases d with
 | none=>rfl
 | some d=>
  have hne:d≠s:=fun e=>h (e ▸ rfl);simp[Act.put,Array.getElem?_setIfInBounds_ne hne]
theorem zck{a:Act}{s:Nat}{v:Value}(h:s<a.tmps.size):(a.put (some s) v).tmps[s]? = some v:=by
 simp[Act.put,Array.getElem?_setIfInBounds_self_of_lt h]
theorem zbf:∀ (os:List Oper) (vs:List Value) (a:Act),(zH os vs a).tmps.size=a.tmps.size
 | [],_,_=>rfl
 | _ :: _,[],_=>rfl
 | o :: os,v :: vs,a=>by
  show (zH os vs (a.put o.dst v)).tmps.size=_;rw[zbf os vs,ZB]
theorem qJ:∀ (os:List Oper) (vs:List Value) (a:Act),(zH os vs a).defers=a.defers
 | [],_,_=>rfl
 | _ :: _,[],_=>rfl
 | o :: os,v :: vs,a=>by
  show (zH os vs (a.put o.dst v)).defers=_;rw[qJ os vs,jV]
theorem q9{s:Nat}:∀ (os:List Oper) (vs:List Value) (a:Act),(∀ (k:Nat) (o:Oper),os[k]? = some o→o.dst≠some s)→(zH os vs a).tmps[s]? = a.tmps[s]?
 | [],_,_,_=>rfl
 | _ :: _,[],_,_=>rfl
 | o :: os,v :: vs,a,h=>by
  show (zH os vs (a.put o.dst v)).tmps[s]? = _;rw[q9 os vs _ (fun k x hx=>h (k+1) x (by simpa using hx)),qP (h 0 o rfl)]
theorem Zv{s:Nat}{v0:Value}{o0:Oper}:∀ (os:List Oper) (vs:List Value) (a:Act) (k:Nat),os[k]? = some o0→vs[k]? = some v0→o0.dst=some s→s<a.tmps.size→(∀ (j:Nat) (o:Oper),j≠k→os[j]? = some o→o.dst≠some s)→(zH os vs a).tmps[s]? = some v0
 | [],_,_,k,h,_,_,_,_=>by simp at h
 | _ :: _,[],_,k,_,h,_,_,_=>by simp at h
 | o :: os,v :: vs,a,0,ho,hv,hd,hs,hn=>by
  simp at ho hv;subst ho hv;show (zH os vs (a.put o.dst v)).tmps[s]? = _;rw[q9 os vs _ (fun k x hx=>hn (k+1) x (by omega) (by simpa using hx)),hd];exact zck hs
 | o :: os,v :: vs,a,k+1,ho,hv,hd,hs,hn=>by
  show (zH os vs (a.put o.dst v)).tmps[s]? = _;exact Zv os vs _ k (by simpa using ho) (by simpa using hv) hd (by rw[ZB];exact hs) (fun j x hj hx=>hn (j+1) x (by omega) (by simpa using hx))
def qv(ops:Array Oper)(n i j:Nat):Bool:=
 match ops[i]?,ops[j]? with
 | some oi,some oj=>(i == j || oi.dst.isNone || oi.dst != oj.dst) && (match oj.dst with
  | some d=>decide (d<n) && (!(oi.looksAt ops).contains d || oi.after.any fun e=>Region.binds .any e && e.on == j)
  | none=>true)
 | _,_=>false
def zdn(ops:Array Oper)(n:Nat):Bool:=
 Region.noSelect ops && ((List.range ops.size).all (fun i=>(List.range ops.size).all fun j=>qv ops n i j) &&
  (List.range ops.size).all (fun i=>(ops[i]?).isSome && ((ops[i]?).map (fun o=>o.after.all fun e=> !Region.binds .any e || decide (e.on<i))).getD false))
def zjZ (P : Program) (ops : Array Oper) (A : Act) (W0 : World) (o : Oper) (v : Value) : Prop :=
  (Region.wanted o (yielded ops A.tmps) = true ∧ ∀ w, za [] W0 w →
    ((∃ w', (execOp A.eval o).run P w = .ok (.value v) w' ∧ za [] w w') ∨
     (∃ f args, (execOp A.eval o).run P w = .ok (.enter f args) w ∧ Calls P f args w fun e w' => e = .returned v ∧ za [] w w'))) ∨
  (Region.wanted o (yielded ops A.tmps) = false ∧ v = undef)
theorem Jj{A:Act}{W0:World}{o:Oper}{v:Value}(hw:Region.wanted o (yielded ops A.tmps)=true)(h:∀ w,za [] W0 w→(execOp A.eval o).run P w=.ok (.value v) w):zjZ P ops A W0 o v:=
 .inl ⟨hw,fun w k=>.inl ⟨w,h w k,za.refl _ _⟩⟩
theorem zfN{A:Act}{W0:World}{o:Oper}(hw:Region.wanted o (yielded ops A.tmps)=false):zjZ P ops A W0 o undef:=.inr ⟨hw,rfl⟩
theorem zG{A:Act}{W0:World}{o:Oper}{v:Value}(hw:Region.wanted o (yielded ops A.tmps)=true)(f:Nat)(args:Array Value)(he:∀ w,(execOp A.eval o).run P w=.ok (.enter f args) w)
  (hc:∀ w,za [] W0 w→Calls P f args w fun e w'=>e=.returned v∧za [] w w'):zjZ P ops A W0 o v:=
 .inl ⟨hw,fun w k=>.inr ⟨f,args,he w,hc w k⟩⟩
def zn(P:Program)(ops:Array Oper)(A:Act)(W0:World):List Oper→List Value→Prop
 | o :: os,v :: vs=>zjZ P ops A W0 o v∧zn P ops A W0 os vs
 | [],[]=>True
 | _,_=>False
theorem zn.at{A:Act}{W0:World}:∀ {os:List Oper}{vs:List Value},zn P ops A W0 os vs→∀ {k:Nat}{o:Oper},os[k]? = some o→∃ v,vs[k]? = some v∧zjZ P ops A W0 o v
 | [],_,_,k,o,ho=>by simp at ho
 | _ :: _,[],h,_,_,_=>by cases h
 | o :: os,v :: vs,h,0,o',ho=>by
  simp at ho;subst ho;exact ⟨v,rfl,h.1⟩
 | o :: os,v :: vs,h,k+1,o',ho=>by
  obtain ⟨u,hu,hg⟩:=zn.at h.2 (k:=k) (by simpa using ho);exact ⟨u,by simpa using hu,hg⟩
structure zmU (ops:Array Oper) (W0:World) (a A:Act) (l:Array Bool) (a':Act) (w:World):Prop where
 size:l.size=ops.size
 kept:za [] W0 w
 sz:a'.tmps.size=a.tmps.size
 df:a'.defers=a.defers
 on:∀ (i:Nat) (oi:Oper) (d:Nat),ops[i]? = some oi→oi.dst=some d→l.getD i false=true→a'.tmps[d]? = A.tmps[d]?
 off:∀ d:Nat,(∀ (i:Nat) (oi:Oper),ops[i]? = some oi→oi.dst=some d→l.getD i false=false)→a'.tmps[d]? = a.tmps[d]?
theorem jP{l:Array Bool}{i j:Nat}(h:i≠j):(l.setIfInBounds i true).getD j false=l.getD j false:=getD_set_ne false h
theorem jK{l:Array Bool}{i:Nat}(h:i<l.size):(l.setIfInBounds i true).getD i false=true:=by
 rw[Array.getD_eq_getD_getElem?,Array.getElem?_setIfInBounds_self_of_lt h];rfl
theorem zr{id:Nat}{a:Act}{w W0:World}(n:Nat)(vs:List Value)(hm:P.follows .mixedOrders=true)(hn:a.tmps.size=n)(hok:zdn ops n=true)(hk:za [] W0 w)
  (h:∀ A,zH ops.toList vs a=A→zn P ops A W0 ops.toList vs∧∀ w',za [] W0 w'→Q .normal A w'):(Code.region id ops true).wp P Q a w:=by
 obtain ⟨A,hA⟩:∃ A,zH ops.toList vs a=A:=⟨_,rfl⟩;obtain ⟨hg,hQ⟩:=h A hA;unfold zdn at hok;rw[Bool.and_eq_true,Bool.and_eq_true] at hok;obtain ⟨hsel,hp,hall⟩:=hok;have pair:∀ (i j:Nat) (oi oj:Oper),ops[i]? = some oi→ops[j]? = some oj→qv ops n i j=true:=fun i j oi oj hi hj=>by
  have h1:=List.all_eq_true.1 hp i (List.mem_range.2 (Array.getElem?_eq_some_iff.1 hi).1);exact List.all_eq_true.1 h1 j (List.mem_range.2 (Array.getElem?_eq_some_iff.1 hj).1)
 have dist:∀ (i j:Nat) (oi oj:Oper) (d:Nat),ops[i]? = some oi→ops[j]? = some oj→i≠j→oi.dst=some d→oj.dst≠some d:=fun i j oi oj d hi hj hij hd he=>by
  have:=pair i j oi oj hi hj;unfold qv at this;rw[hi,hj] at this;simp[hij,hd,he] at this
 have lt:∀ (i:Nat) (oi:Oper) (d:Nat),ops[i]? = some oi→oi.dst=some d→d<n:=fun i oi d hi hd=>by
  have:=pair i i oi oi hi hi;unfold qv at this;rw[hi] at this;simp only[hd,Bool.and_eq_true,decide_eq_true_eq] at this;exact this.2.1
 have waits:∀ (i j:Nat) (oi oj:Oper) (d:Nat),ops[i]? = some oi→ops[j]? = some oj→oj.dst=some d→d∈oi.looksAt ops→oi.after.any (fun e=>Region.binds .any e && e.on == j)=true:=fun i j oi oj d hi hj hd hm=>by
  have:=pair i j oi oj hi hj;unfold qv at this;rw[hi,hj] at this;simp only[hd,Bool.and_eq_true,Bool.or_eq_true,Bool.not_eq_true',decide_eq_true_eq] at this;rcases this.2.2 with h0 | h0
  ·rw[List.contains_iff_mem.2 hm] at h0
   cases h0
  ·exact h0
 have aOther:∀ d:Nat,(∀ (i:Nat) (oi:Oper),ops[i]? = some oi→oi.dst≠some d)→A.tmps[d]? = a.tmps[d]? := fun d hd=>by
  rw[← hA];exact q9 _ _ _ (fun k o ho=>hd k o (by rw[← Array.getElem?_toList];exact ho))
 have aAt:∀ (i:Nat) (oi:Oper) (d:Nat) (v:Value),ops[i]? = some oi→oi.dst=some d→vs[i]? = some v→A.tmps[d]? = some v:=fun i oi d v hi hd hv=>by
  rw[← hA];exact Zv _ _ _ i (by rw[Array.getElem?_toList];exact hi) hv hd (by rw[hn];exact lt i oi d hi hd) (fun j oj hj ho=>dist i j oi oj d hi (by rw[← Array.getElem?_toList];exact ho) (Ne.symm hj) hd)
 refine wp_region_held_drew (S:=fun w'=>za [] W0 w') hm (hk.quiet (za.drew [] w)) (fun hS=> ?_);refine jo (zmU ops W0 a A) (fun _ _ _ h=>h.kept) (fun l a' w' hI hr=> ?_) (fun l a' w' i hI hr=> ?_) _ _ _ _ ?_ ?_
 ·have hl:=Zb (md:=.any) (ops:=ops) hI.size hr hall
  have e:a'=A:=by
   have ht:a'.tmps=A.tmps:=by
    apply Array.ext_getElem?;intro d;by_cases hx:∃ (i:Nat) (oi:Oper),ops[i]? = some oi∧oi.dst=some d
    ·obtain ⟨i,oi,hi,hd⟩:=hx
     exact hI.on i oi d hi hd (hl i (Array.getElem?_eq_some_iff.1 hi).1)
    ·have hno:∀ (i:Nat) (oi:Oper),ops[i]? = some oi→oi.dst≠some d:=fun i oi hi hd=>hx ⟨i,oi,hi,hd⟩
     rw[hI.off d (fun i oi hi hd=>absurd hd (hno i oi hi)),aOther d hno]
   have hdf:a'.defers=A.defers:=by rw[hI.df, ← hA,qJ]
   cases a';cases A;simp only at ht hdf;rw[ht,hdf]
  rw[e];exact hQ w' hI.kept
 ·obtain ⟨hun,oi,hi,hw8⟩:=mem_ready.1 hr
  have hil:i<l.size:=by rw[hI.size];exact (Array.getElem?_eq_some_iff.1 hi).1
  obtain ⟨v,hv,hgv⟩:=hg.at (k:=i) (by rw[Array.getElem?_toList];exact hi);have agree:∀ t,t∈oi.looksAt ops→a'.tmps[t]? = A.tmps[t]? := fun t ht=>by
   by_cases hx:∃ (j:Nat) (oj:Oper),ops[j]? = some oj∧oj.dst=some t
   ·obtain ⟨j,oj,hj,hd⟩:=hx
    have:=waits i j oi oj t hi hj hd ht;rw[Array.any_eq_true'] at this;obtain ⟨e,he,h1⟩:=this;rw[Bool.and_eq_true,beq_iff_eq] at h1;have h2:=hw8 e he h1.1;rw[h1.2] at h2;exact hI.on j oj t hj hd h2
   ·have hno:∀ (i:Nat) (oi:Oper),ops[i]? = some oi→oi.dst≠some t:=fun i oi hi hd=>hx ⟨i,oi,hi,hd⟩
    rw[hI.off t (fun i oi hi hd=>absurd hd (hno i oi hi)),aOther t hno]
  have hex:execOp a'.eval oi=execOp A.eval oi:=execOp_congr oi (fun cs b=>by
    exact Region.noSelect_spec hsel i oi cs b hi) (fun x hx=>by
   cases x with
   | tmp t=>
    have:=agree t (List.mem_append_left _ (List.mem_filterMap.2 ⟨.tmp t,by simpa using hx,rfl⟩));simp only[Act.eval,Array.getD_eq_getD_getElem?,this]
   | const v=>rfl
   | global g=>rfl
   | func f=>rfl)
  have hwt:Region.wanted oi (yielded ops a'.tmps)=Region.wanted oi (yielded ops A.tmps):=by
   unfold Region.wanted;cases hgd:oi.guard with
   | none=>rfl
   | some gw=>
    obtain ⟨g,want⟩:=gw;have hy:yielded ops a'.tmps g=yielded ops A.tmps g:=by
     unfold yielded;cases ht:(ops[g]?).bind (·.dst) with
     | none=>rfl
     | some t=>
      have:=agree t (by simp[Oper.looksAt,hgd,ht]);simp[this]
    simp only[hy]
  have next:∀ w2,za [] w' w2→zmU ops W0 a A (l.setIfInBounds i true) (a'.put oi.dst v) w2:=fun w2 k2=>by
   refine ⟨by simpa using hI.size,hI.kept.quiet k2,by rw[ZB,hI.sz],by rw[jV,hI.df],fun j oj d hj hd hl=> ?_,fun d hd=> ?_⟩
   ·by_cases hij:i=j
    ·subst hij
     rw[hi] at hj;cases hj;rw[hd,zck (by rw[hI.sz,hn];exact lt i oi d hi hd),aAt i oi d v hi hd hv]
    ·rw[qP (dist j i oj oi d hj hi (Ne.symm hij) hd)]
     rw[jP hij] at hl;exact hI.on j oj d hj hd hl
   ·have h1:oi.dst≠some d:=fun e=>by
     have:=hd i oi hi e;rw[jK hil] at this;cases this
    rw[qP h1];refine hI.off d (fun j oj hj hdj=> ?_);have:=hd j oj hj hdj;by_cases hij:i=j
    ·subst hij
     rw[hi] at hj;cases hj;exact absurd hdj h1
    ·rw[jP hij] at this
     exact this
  refine wpOp_step hi (fun K' hK=> ?_);rw[hwt];rcases hgv with ⟨hw1,hr1⟩ | ⟨hw1,rfl⟩
  ·rw[if_pos hw1]
   unfold Oper.wp;rw[hex];rcases hr1 w' hI.kept with ⟨w2,he,k2⟩ | ⟨f,args,he,hc⟩
   ·rw[he]
    exact hK _ _ (next w2 k2)
   ·rw[he]
    simp only[Oper.upon];refine Calls.mono hc (fun e w2=> ?_);rintro ⟨rfl,k2⟩;exact hK _ _ (next w2 k2)
  ·rw[if_neg (by rw[hw1];simp)]
   exact hK _ _ (next w' (za.refl _ _))
 ·refine ⟨by simp,hS,rfl,rfl,fun i oi d hi hd hl=> ?_,fun d hd=>rfl⟩
  exfalso;rw[Array.getD_eq_getD_getElem?] at hl;by_cases hlt:i<ops.size
  ·rw[Array.getElem?_replicate,if_pos hlt] at hl
   cases hl
  ·rw[Array.getElem?_replicate,if_neg hlt] at hl
   cases hl
 ·unfold left
  exact Nat.le_trans List.countP_le_length (by simp)
end
theorem PrC.ok{b o:Nat}{P:Pr8}(h:PrC w b o P):znt P:=by
 have hlen:∀ {n:Nat},n≤maxLen→b64 (n:Int):=fun h=>by unfold b64;unfold maxLen at h;omega
 have lst:∀ {α:Type}{c:Nat}{R:World→Nat→Nat→α→Prop}{ok:α→Prop}(hR:∀ b o x,R w b o x→ok x) {b o:Nat}{l:List α},SlC c R w b o l→jf ok l:=fun {α c R ok} hR {b o l} h=>by
  obtain ⟨a,cp,_,h2,_,h4⟩:=h;refine ⟨hlen h4,fun x hx=> ?_⟩;obtain ⟨i,hi,e⟩:=List.getElem_of_mem hx;obtain ⟨_,_,_,h9⟩:=h2.at (j:=i) (y:=x) (by rw[List.getElem?_eq_getElem hi,e]);exact hR _ _ _ h9
 have i1:∀ b o x,zI w b o x→b64 x:=fun _ _ _ h=>h.2;have t1:∀ b o x,TyC w b o x→zmA x:=fun _ _ _ h=>⟨h.c0.2,h.c1.2⟩;have is:∀ b o x,jH w b o x→zar x:=fun _ _ _ h=>lst i1 h;have ts:∀ b o x,SlC 2 TyC w b o x→zhw x:=fun _ _ _ h=>lst t1 h;have s1:∀ b o x,SgC w b o x→znh x:=fun _ _ _ h=>⟨ts _ _ _ h.c0,h.c1.2,h.c2.2⟩;have m1:∀ b o x,ImC w b o x→zmw x:=fun _ _ _ h=>⟨h.c0.2,h.c1.2,is _ _ _ h.c2⟩;have n1:∀ b o x,InC w b o x→zmc x:=fun _ _ _ h=>⟨h.c0.2,h.c1.2,h.c2.2,h.c3.2,h.c4.2,is _ _ _ h.c5⟩;have b1:∀ b o x,BlC w b o x→zmY x:=fun _ _ _ h=>⟨lst n1 h.c0,h.c1.2,h.c2.2,h.c3.2,h.c4.2⟩;have f1:∀ b o x,FuC w b o x→zmZ x:=fun _ _ _ h=>⟨h.c0.2,ts _ _ _ h.c1,lst b1 h.c2⟩;exact ⟨lst ts h.c0,lst s1 h.c1,lst is h.c2,lst m1 h.c3,lst f1 h.c4,h.c5.2⟩
theorem Jg{P:Program}(base:Nat)(t ty e:TypeId)(i:TypeInfo)(size:Nat)(ht:P.underlying t=some (.slice e))(hi:P.info? e=some i)
  (v:Value) (n:Nat) (xs:List Value) (hown:w.ownsRow base e size v n xs) (c:Nat):
  (Builtin.append_ #[t,t] ty #[v,.slice none 0 c]).run P w=.ok v w:=by
 rcases hown.2 with ⟨rfl,rfl⟩ | ⟨g,cap,cur,rfl,_,_,hnc,_⟩
 ·simp[Builtin.append_,run_underlying ht,sizeOf,typeInfo,hi,Builtin.lenOf,Builtin.firstCells]
 ·simp[Builtin.append_,run_underlying ht,sizeOf,typeInfo,hi,Builtin.lenOf,Builtin.firstCells,hnc,storeCells]
theorem qy{P:Program}{ops:Array Oper}{rest:List Oper}{Q:Exit→Act→World→Prop}(hgd:o.guard=none)(s x:Operand)(t:TypeId)
  (ho:o.op=.call { callee:=.builtin .append,args:=#[s,x],argTypes:=#[t,t] })
  (base:Nat) (e:TypeId) (i:TypeInfo) (size:Nat) (ht:P.underlying t=some (.slice e)) (hi:P.info? e=some i)
  (v:Value) (n:Nat) (xs:List Value) (hs:a.eval s=v) (hown:w.ownsRow base e size v n xs) {c:Nat}(hx:a.eval x=.slice none 0 c)
  (h:wpList P ops Q rest (a.put o.dst v) w):wpList P ops Q (o :: rest) a w:=by
 refine wpList_plain hgd fun K hK=> ?_;have hrun:=Jg (P:=P) (w:=w) base t o.type e i size ht hi v n xs hown c;unfold Oper.wp;simp[execOp,ho,resolve,invoke,builtin,hs,hx,hrun,Result.andThen];exact hK _ _ h
def zO(x:In8):Bool:=decide ((1≤x.op∧x.op≤7)∨(10≤x.op∧x.op≤14))
def QX(x:In8):Value:=.tuple #[int i64 (if zO x then x.dst else 0),.bool (zO x)]
theorem zX{x:In8}(h:zO x=true):QX x=.tuple #[int i64 x.dst,.bool true]:=by unfold QX;rw[h];rfl
theorem zez{x:In8}(h:zO x=false):QX x=.tuple #[int i64 0,.bool false]:=by unfold QX;rw[h];rfl
theorem zmt(x:In8)(ar:Value)(w:World)(hop:x.op=1):Calls Tryz.prog 191 #[zu x ar] w fun e w'=>e=.returned (QX x)∧za [] w w':=by
 rw[zX (by unfold zO;rw[hop];rfl)];unfold zu;rw[hop];go_enter Tryz.func191,Tryz.ntmps191;go_wp2
 go_ret2
 exact ⟨rfl,za.alloc _ _ _⟩
theorem zmT(x:In8)(ar:Value)(w:World)(hop:x.op=2):Calls Tryz.prog 191 #[zu x ar] w fun e w'=>e=.returned (QX x)∧za [] w w':=by
 rw[zX (by unfold zO;rw[hop];rfl)];unfold zu;rw[hop];go_enter Tryz.func191,Tryz.ntmps191;go_wp2
 go_ret2
 exact ⟨rfl,za.alloc _ _ _⟩
theorem zm3(x:In8)(ar:Value)(w:World)(hop:x.op=3):Calls Tryz.prog 191 #[zu x ar] w fun e w'=>e=.returned (QX x)∧za [] w w':=by
 rw[zX (by unfold zO;rw[hop];rfl)];unfold zu;rw[hop];go_enter Tryz.func191,Tryz.ntmps191;go_wp2
 go_ret2
 exact ⟨rfl,za.alloc _ _ _⟩
theorem zmm(x:In8)(ar:Value)(w:World)(hop:x.op=4):Calls Tryz.prog 191 #[zu x ar] w fun e w'=>e=.returned (QX x)∧za [] w w':=by
 rw[zX (by unfold zO;rw[hop];rfl)];unfold zu;rw[hop];go_enter Tryz.func191,Tryz.ntmps191;go_wp2
 go_ret2
 exact ⟨rfl,za.alloc _ _ _⟩
theorem zmy(x:In8)(ar:Value)(w:World)(hop:x.op=5):Calls Tryz.prog 191 #[zu x ar] w fun e w'=>e=.returned (QX x)∧za [] w w':=by
 rw[zX (by unfold zO;rw[hop];rfl)];unfold zu;rw[hop];go_enter Tryz.func191,Tryz.ntmps191;go_wp2
 go_ret2
 exact ⟨rfl,za.alloc _ _ _⟩
theorem zmp(x:In8)(ar:Value)(w:World)(hop:x.op=6):Calls Tryz.prog 191 #[zu x ar] w fun e w'=>e=.returned (QX x)∧za [] w w':=by
 rw[zX (by unfold zO;rw[hop];rfl)];unfold zu;rw[hop];go_enter Tryz.func191,Tryz.ntmps191;go_wp2
 go_ret2
 exact ⟨rfl,za.alloc _ _ _⟩
theorem zmR(x:In8)(ar:Value)(w:World)(hop:x.op=7):Calls Tryz.prog 191 #[zu x ar] w fun e w'=>e=.returned (QX x)∧za [] w w':=by
 rw[zX (by unfold zO;rw[hop];rfl)];unfold zu;rw[hop];go_enter Tryz.func191,Tryz.ntmps191;go_wp2
 go_ret2
 exact ⟨rfl,za.alloc _ _ _⟩
theorem zkS(x:In8)(ar:Value)(w:World)(hop:x.op=10):Calls Tryz.prog 191 #[zu x ar] w fun e w'=>e=.returned (QX x)∧za [] w w':=by
 rw[zX (by unfold zO;rw[hop];rfl)];unfold zu;rw[hop];go_enter Tryz.func191,Tryz.ntmps191;go_wp2
 go_ret2
 exact ⟨rfl,za.alloc _ _ _⟩
theorem zkY(x:In8)(ar:Value)(w:World)(hop:x.op=11):Calls Tryz.prog 191 #[zu x ar] w fun e w'=>e=.returned (QX x)∧za [] w w':=by
 rw[zX (by unfold zO;rw[hop];rfl)];unfold zu;rw[hop];go_enter Tryz.func191,Tryz.ntmps191;go_wp2
 go_ret2
 exact ⟨rfl,za.alloc _ _ _⟩
theorem zls(x:In8)(ar:Value)(w:World)(hop:x.op=12):Calls Tryz.prog 191 #[zu x ar] w fun e w'=>e=.returned (QX x)∧za [] w w':=by
 rw[zX (by unfold zO;rw[hop];rfl)];unfold zu;rw[hop];go_enter Tryz.func191,Tryz.ntmps191;go_wp2
 go_ret2
 exact ⟨rfl,za.alloc _ _ _⟩
theorem zkn(x:In8)(ar:Value)(w:World)(hop:x.op=13):Calls Tryz.prog 191 #[zu x ar] w fun e w'=>e=.returned (QX x)∧za [] w w':=by
 rw[zX (by unfold zO;rw[hop];rfl)];unfold zu;rw[hop];go_enter Tryz.func191,Tryz.ntmps191;go_wp2
 go_ret2
 exact ⟨rfl,za.alloc _ _ _⟩
theorem zkI(x:In8)(ar:Value)(w:World)(hop:x.op=14):Calls Tryz.prog 191 #[zu x ar] w fun e w'=>e=.returned (QX x)∧za [] w w':=by
 rw[zX (by unfold zO;rw[hop];rfl)];unfold zu;rw[hop];go_enter Tryz.func191,Tryz.ntmps191;go_wp2
 go_ret2
 exact ⟨rfl,za.alloc _ _ _⟩
theorem zlo(x:In8)(ar:Value)(w:World)(hop:x.op≠1∧x.op≠2∧x.op≠3∧x.op≠4∧x.op≠5∧x.op≠6∧x.op≠7∧x.op≠10∧x.op≠11∧x.op≠12∧x.op≠13∧x.op≠14):Calls Tryz.prog 191 #[zu x ar] w fun e w'=>e=.returned (QX x)∧za [] w w':=by
 rw[zez (by unfold zO;simp;omega)];unfold zu;have o1:=neb (show x.op≠1 by omega);have o2:=neb (show x.op≠2 by omega);have o3:=neb (show x.op≠3 by omega);have o4:=neb (show x.op≠4 by omega);have o5:=neb (show x.op≠5 by omega);have o6:=neb (show x.op≠6 by omega);have o7:=neb (show x.op≠7 by omega);have o10:=neb (show x.op≠10 by omega);have o11:=neb (show x.op≠11 by omega);have o12:=neb (show x.op≠12 by omega);have o13:=neb (show x.op≠13 by omega);have o14:=neb (show x.op≠14 by omega);clear hop;go_enter Tryz.func191,Tryz.ntmps191;go_wp2
 go_ret2
 exact ⟨rfl,za.alloc _ _ _⟩
theorem JT(x:In8)(ar:Value)(w:World):Calls Tryz.prog 191 #[zu x ar] w fun e w'=>e=.returned (QX x)∧za [] w w':=by
 by_cases o1:x.op=1
 ·exact zmt x ar w o1
 by_cases o2:x.op=2
 ·exact zmT x ar w o2
 by_cases o3:x.op=3
 ·exact zm3 x ar w o3
 by_cases o4:x.op=4
 ·exact zmm x ar w o4
 by_cases o5:x.op=5
 ·exact zmy x ar w o5
 by_cases o6:x.op=6
 ·exact zmp x ar w o6
 by_cases o7:x.op=7
 ·exact zmR x ar w o7
 by_cases o10:x.op=10
 ·exact zkS x ar w o10
 by_cases o11:x.op=11
 ·exact zkY x ar w o11
 by_cases o12:x.op=12
 ·exact zls x ar w o12
 by_cases o13:x.op=13
 ·exact zkn x ar w o13
 by_cases o14:x.op=14
 ·exact zkI x ar w o14
 exact zlo x ar w ⟨o1,o2,o3,o4,o5,o6,o7,o10,o11,o12,o13,o14⟩
theorem zd9(n c:Nat)(w:World):Calls Tryz.prog 81 #[.slice none n c] w fun e w'=>e=.returned (.slice none 0 0)∧w'=w:=by
 have q:∀ (w:World) (a:Option Addr) (n c n' c':Nat),(binOp .eql 63 (.slice a n c) (.slice none n' c')).run Tryz.prog w=.ok (.bool a.isNone) w:=fun w a n c n' c'=>Lib.run_eql_slice_nil w _ _ a n c n' c' Tryz.underlying63;go_enter Tryz.func81,Tryz.ntmps81;go_wp2;go_ret;exact ⟨rfl,rfl⟩
theorem zcD(ad:Addr)(n c:Nat)(zs:List Int)(w:World)(hl:zs.length=n)(hz:zv w (some ad) zs)(hb:n≤17592186044416):
  Calls Tryz.prog 81 #[.slice (some ad) n c] w fun e w'=>∃ v,e=.returned v∧w'.ownsRow w.heap.size 3 1 v n (Qd zs)∧za [] w w':=by
 have q:∀ (w:World) (a:Option Addr) (n c n' c':Nat),(binOp .eql 63 (.slice a n c) (.slice none n' c')).run Tryz.prog w=.ok (.bool a.isNone) w:=fun w a n c n' c'=>Lib.run_eql_slice_nil w _ _ a n c n' c' Tryz.underlying63
 have H:Box (∀ j u,(Qd zs)[j]? = some u→w.cell? (ad.add j)=some u):=hid (by
  rcases hz with e | ⟨b,off,e,h⟩
  ·intro j u hj;rw[e] at hj;simp[Qd] at hj
  ·cases e
   exact zf5 h)
 have HL:=hid hl;clear hz hl;go_enter Tryz.func81,Tryz.ntmps81;go_wp2_with (at_builtin;go_must (refine wpList_append_own _ rfl _ _ 63 rfl w.heap.size 3 Tryz.t3 (int i64 0) 1 8 zU q7 j8 jv qT rfl (by decide) _ _ _ rfl (World.ownsRow_made w #[] 0 (Nat.le_refl _) (Nat.zero_le _) rfl) ad n c (Qd zs) rfl (by rw[Z0,HL.o];omega) (fun j u hj=>Lib.cell?_alloc_some _ (H.o j u hj)) (Qn zs) (by unfold maxLen;omega) (by omega) (by simp) ?_;intro v' w1 hown hgrow hnil));have HO:=hid hown;have hg2:(w.alloc (Obj.cells #[] 3)).grownBy w1 (some w.heap.size):=hgrow;have HK:=hid ((za.alloc [] w _).trans (za.grown [w.heap.size] hg2 (fun k hk=>by simp at hk;simp[hk])) (fun x hx hlt=>by simp at hx;omega):za [] w w1);clear hown hgrow hnil hg2;go_wp2_with fail;go_ret;exact ⟨v',rfl,by simpa using HO.o,HK.o⟩
theorem zfK(a:Option Addr)(c:Nat)(zs:List Int)(w:World)(hz:zv w a zs)(hb:zs.length≤17592186044416):
  Calls Tryz.prog 81 #[.slice a zs.length c] w fun e w'=>∃ a' c',e=.returned (.slice a' zs.length c')∧zv w' a' zs∧za [] w w'∧∀ b off,a'=some ⟨b,off,none⟩→w.heap.size≤b:=by
 cases a with
 | none=>
  obtain rfl:zs=[]:=by
   rcases hz with e | ⟨b,off,e,_⟩
   ·exact e
   ·cases e
  refine (zd9 0 c w).mono ?_;rintro e w' ⟨rfl,rfl⟩;exact ⟨none,0,rfl,Or.inl rfl,za.refl _ _,fun _ _ e=>by cases e⟩
 | some ad=>
  refine (zcD ad zs.length c zs w rfl hz hb).mono ?_;rintro e w' ⟨v,rfl,ho,hk⟩;obtain ⟨a',c',e1,_,h1,_,h2⟩:=Zx ho;exact ⟨a',c',by rw[e1],h1,hk,h2⟩
def qf(x:In8):List Int:=if x.op=2∨x.op=8 then [x.a,x.b] else if x.op=6∨x.op=7∨x.op=9∨x.op=11∨x.op=15 then [x.a] else if x.op=12 then x.args else if x.op=13∨x.op=14 then x.a :: x.args else []
theorem zfS(w:World)(b:Nat)(hb:b=w.heap.size)(z:Int):zv (w.alloc (.cells #[int i64 z] 3)) (some ⟨b,0,none⟩) [z]:=by
 subst hb
 exact .inr ⟨_,0,rfl,fun i hi=>by
  obtain rfl:i=0:=by simpa using hi
  rw[World.cell?_alloc_at _ _ _ _ rfl];rfl⟩
theorem znj(w:World)(b:Nat)(hb:b=w.heap.size)(y z:Int):zv (w.alloc (.cells #[int i64 y,int i64 z] 3)) (some ⟨b,0,none⟩) [y,z]:=by
 subst hb
 exact .inr ⟨_,0,rfl,fun i hi=>by
  rw[World.cell?_alloc_at _ _ _ _ rfl]
  rcases (show i=0∨i=1 by simp at hi;omega) with rfl | rfl <;> rfl⟩
theorem zkg(w:World)(base b:Nat)(hb:b=w.heap.size)(hs:base≤w.heap.size)(z:Int):(w.alloc (.cells #[int i64 z] 3)).ownsRow base 3 1 (.slice (some ⟨b,0,none⟩) 1 1) 1 [int i64 z]:=by
 subst hb;exact World.ownsRow_lit (base:=base) (e:=3) (size:=1) w #[int i64 z] 1 hs (by unfold maxLen;omega) rfl
theorem ZT{ad:Addr}{l:List Int}(h:zv w (some ad) l):∀ j u,(Qd l)[j]? = some u→w.cell? (ad.add j)=some u:=by
 rcases h with e | ⟨b,off,e,h⟩
 ·intro j u hj;rw[e] at hj;simp[Qd] at hj
 ·cases e
  exact zf5 h
theorem zk8(x:In8)(a:Option Addr)(cp:Nat)(w:World)(hop:x.op=2):Calls Tryz.prog 190 #[zu x (.slice a x.args.length cp)] w fun e w'=>∃ a' c',e=.returned (.slice a' ([x.a,x.b]).length c')∧zv w' a' ([x.a,x.b])∧za [] w w':=by
 have o2:=eqb hop;clear hop;unfold zu;go_enter Tryz.func190,Tryz.ntmps190;go_wp2;go_ret;exact ⟨_,_,rfl,znj _ _ (by simp) _ _,(za.alloc [] _ _).quiet (za.alloc [] _ _)⟩
theorem zkJ(x:In8)(a:Option Addr)(cp:Nat)(w:World)(hop:x.op=8):Calls Tryz.prog 190 #[zu x (.slice a x.args.length cp)] w fun e w'=>∃ a' c',e=.returned (.slice a' ([x.a,x.b]).length c')∧zv w' a' ([x.a,x.b])∧za [] w w':=by
 have o2:=neb (show x.op≠2 by omega);have o8:=eqb hop;clear hop;unfold zu;go_enter Tryz.func190,Tryz.ntmps190;go_wp2;go_ret;exact ⟨_,_,rfl,znj _ _ (by simp) _ _,(za.alloc [] _ _).quiet (za.alloc [] _ _)⟩
theorem zlx(x:In8)(a:Option Addr)(cp:Nat)(w:World)(hop:x.op=6):Calls Tryz.prog 190 #[zu x (.slice a x.args.length cp)] w fun e w'=>∃ a' c',e=.returned (.slice a' ([x.a]).length c')∧zv w' a' ([x.a])∧za [] w w':=by
 have o2:=neb (show x.op≠2 by omega);have o8:=neb (show x.op≠8 by omega);have o6:=eqb hop;clear hop;unfold zu;go_enter Tryz.func190,Tryz.ntmps190;go_wp2;go_ret;exact ⟨_,_,rfl,zfS _ _ (by simp) _,(za.alloc [] _ _).quiet (za.alloc [] _ _)⟩
theorem zkZ(x:In8)(a:Option Addr)(cp:Nat)(w:World)(hop:x.op=7):Calls Tryz.prog 190 #[zu x (.slice a x.args.length cp)] w fun e w'=>∃ a' c',e=.returned (.slice a' ([x.a]).length c')∧zv w' a' ([x.a])∧za [] w w':=by
 have o2:=neb (show x.op≠2 by omega);have o8:=neb (show x.op≠8 by omega);have o6:=neb (show x.op≠6 by omega);have o7:=eqb hop;clear hop;unfold zu;go_enter Tryz.func190,Tryz.ntmps190;go_wp2;go_ret;exact ⟨_,_,rfl,zfS _ _ (by simp) _,(za.alloc [] _ _).quiet (za.alloc [] _ _)⟩
theorem zlq(x:In8)(a:Option Addr)(cp:Nat)(w:World)(hop:x.op=9):Calls Tryz.prog 190 #[zu x (.slice a x.args.length cp)] w fun e w'=>∃ a' c',e=.returned (.slice a' ([x.a]).length c')∧zv w' a' ([x.a])∧za [] w w':=by
 have o2:=neb (show x.op≠2 by omega);have o8:=neb (show x.op≠8 by omega);have o6:=neb (show x.op≠6 by omega);have o7:=neb (show x.op≠7 by omega);have o9:=eqb hop;clear hop;unfold zu;go_enter Tryz.func190,Tryz.ntmps190;go_wp2;go_ret;exact ⟨_,_,rfl,zfS _ _ (by simp) _,(za.alloc [] _ _).quiet (za.alloc [] _ _)⟩
theorem zip(x:In8)(a:Option Addr)(cp:Nat)(w:World)(hop:x.op=11):Calls Tryz.prog 190 #[zu x (.slice a x.args.length cp)] w fun e w'=>∃ a' c',e=.returned (.slice a' ([x.a]).length c')∧zv w' a' ([x.a])∧za [] w w':=by
 have o2:=neb (show x.op≠2 by omega);have o8:=neb (show x.op≠8 by omega);have o6:=neb (show x.op≠6 by omega);have o7:=neb (show x.op≠7 by omega);have o9:=neb (show x.op≠9 by omega);have o11:=eqb hop;clear hop;unfold zu;go_enter Tryz.func190,Tryz.ntmps190;go_wp2;go_ret;exact ⟨_,_,rfl,zfS _ _ (by simp) _,(za.alloc [] _ _).quiet (za.alloc [] _ _)⟩
theorem zjO(x:In8)(a:Option Addr)(cp:Nat)(w:World)(hop:x.op=15):Calls Tryz.prog 190 #[zu x (.slice a x.args.length cp)] w fun e w'=>∃ a' c',e=.returned (.slice a' ([x.a]).length c')∧zv w' a' ([x.a])∧za [] w w':=by
 have o2:=neb (show x.op≠2 by omega);have o8:=neb (show x.op≠8 by omega);have o6:=neb (show x.op≠6 by omega);have o7:=neb (show x.op≠7 by omega);have o9:=neb (show x.op≠9 by omega);have o11:=neb (show x.op≠11 by omega);have o15:=eqb hop;clear hop;unfold zu;go_enter Tryz.func190,Tryz.ntmps190;go_wp2;go_ret;exact ⟨_,_,rfl,zfS _ _ (by simp) _,(za.alloc [] _ _).quiet (za.alloc [] _ _)⟩
theorem zin(x:In8)(a:Option Addr)(cp:Nat)(w:World)(hz:zv w a x.args)(hl:x.args.length≤1048576)(hop:x.op=12):Calls Tryz.prog 190 #[zu x (.slice a x.args.length cp)] w fun e w'=>∃ a' c',e=.returned (.slice a' (x.args).length c')∧zv w' a' (x.args)∧za [] w w':=by
 have o2:=neb (show x.op≠2 by omega);have o8:=neb (show x.op≠8 by omega);have o6:=neb (show x.op≠6 by omega);have o7:=neb (show x.op≠7 by omega);have o9:=neb (show x.op≠9 by omega);have o11:=neb (show x.op≠11 by omega);have o15:=neb (show x.op≠15 by omega);have o12:=eqb hop;have HC:=hid (zfK a cp x.args (w.alloc (.cells #[int i64 x.op,int i64 x.dst,int i64 x.a,int i64 x.b,int i64 x.n,.slice a x.args.length cp] 65)) (hz.kept (za.alloc [] _ _) (fun _ _ _=>by simp)) (by omega));clear hop hz;unfold zu;go_enter Tryz.func190,Tryz.ntmps190;go_wp2_with (go_at_call 81;refine HC.o.mono ?_;rintro e w1 ⟨a1,c1,rfl,h1,k1,_⟩);go_ret;exact ⟨_,_,rfl,h1,(za.alloc [] _ _).quiet k1⟩
theorem zi0(x:In8)(a:Option Addr)(cp:Nat)(w:World)(hz:zv w a x.args)(hl:x.args.length≤1048576)(hop:x.op=13):Calls Tryz.prog 190 #[zu x (.slice a x.args.length cp)] w fun e w'=>∃ a' c',e=.returned (.slice a' (x.a :: x.args).length c')∧zv w' a' (x.a :: x.args)∧za [] w w':=by
 have o2:=neb (show x.op≠2 by omega);have o8:=neb (show x.op≠8 by omega);have o6:=neb (show x.op≠6 by omega);have o7:=neb (show x.op≠7 by omega);have o9:=neb (show x.op≠9 by omega);have o11:=neb (show x.op≠11 by omega);have o15:=neb (show x.op≠15 by omega);have o12:=neb (show x.op≠12 by omega);have o13:=eqb hop;clear hop;unfold zu;have HK:=hid (za.alloc [] w (.cells #[int i64 x.op,int i64 x.dst,int i64 x.a,int i64 x.b,int i64 x.n,.slice a x.args.length cp] 65));cases a with
 | none=>
  have he:x.args=[]:=by
   rcases hz with e | ⟨b,off,e,_⟩
   ·exact e
   ·cases e
  rw[he];rw[he] at HK;clear hz hl he;go_enter Tryz.func190,Tryz.ntmps190;go_wp2_with (at_builtin;go_must (refine qy rfl _ _ 63 rfl w.heap.size 3 Tryz.t3 1 zU q7 _ 1 [int i64 x.a] rfl (zkg _ w.heap.size _ (by simp) (by simp) x.a) rfl ?_));go_ret
  first | exact ⟨_,⟨_,rfl⟩,zfS _ _ (by simp) _,HK.o.quiet (za.alloc [] _ _)⟩ | exact ⟨_,_,rfl,zfS _ _ (by simp) _,HK.o.quiet (za.alloc [] _ _)⟩
 | some ad=>
  have HK2:=hid (HK.o.quiet (za.alloc [] (w.alloc (.cells #[int i64 x.op,int i64 x.dst,int i64 x.a,int i64 x.b,int i64 x.n,.slice (some ad) x.args.length cp] 65)) (.cells #[int i64 x.a] 3)));have HZ:=hid (hz.kept HK2.o (fun _ _ _=>by simp));generalize x.args=ag at *;clear hz;go_enter Tryz.func190,Tryz.ntmps190;go_wp2_with (at_builtin;go_must (refine wpList_append_own _ rfl _ _ 63 rfl w.heap.size 3 Tryz.t3 (int i64 0) 1 8 zU q7 j8 jv qT rfl (by decide) _ 1 [int i64 x.a] rfl (zkg _ w.heap.size _ (by simp) (by simp) x.a) ad ag.length cp (Qd ag) rfl (by rw[Z0];omega) (ZT HZ.o) (Qn ag) (by unfold maxLen;omega) (by omega) (by simp;omega) ?_;intro v' w1 hown hgrow hnil));have hg2:((w.alloc (.cells #[int i64 x.op,int i64 x.dst,int i64 x.a,int i64 x.b,int i64 x.n,.slice (some ad) ag.length cp] 65)).alloc (.cells #[int i64 x.a] 3)).grownBy w1 (some (w.heap.size+1)):=hgrow;have HK1:=hid (HK2.o.fresh (za.grown [w.heap.size+1] hg2 (fun k hk=>by simp at hk;simp[hk])) (fun y hy=>by simp at hy;omega));have HO:Box (w1.ownsRow w.heap.size 3 1 v' (1+ag.length) (Qd (x.a :: ag))):=hid hown;clear hgrow hnil hown hg2;go_wp2_with fail;go_ret;obtain ⟨a',c',e1,e2,e3,_,_⟩:=Zx HO.o;exact ⟨a',c',by rw[Nat.add_comm] at e1;exact congrArg Ending.returned e1,e3,HK1.o⟩
theorem zjb(x:In8)(a:Option Addr)(cp:Nat)(w:World)(hz:zv w a x.args)(hl:x.args.length≤1048576)(hop:x.op=14):Calls Tryz.prog 190 #[zu x (.slice a x.args.length cp)] w fun e w'=>∃ a' c',e=.returned (.slice a' (x.a :: x.args).length c')∧zv w' a' (x.a :: x.args)∧za [] w w':=by
 have o2:=neb (show x.op≠2 by omega);have o8:=neb (show x.op≠8 by omega);have o6:=neb (show x.op≠6 by omega);have o7:=neb (show x.op≠7 by omega);have o9:=neb (show x.op≠9 by omega);have o11:=neb (show x.op≠11 by omega);have o15:=neb (show x.op≠15 by omega);have o12:=neb (show x.op≠12 by omega);have o13:=neb (show x.op≠13 by omega);have o14:=eqb hop;clear hop;unfold zu;have HK:=hid (za.alloc [] w (.cells #[int i64 x.op,int i64 x.dst,int i64 x.a,int i64 x.b,int i64 x.n,.slice a x.args.length cp] 65));cases a with
 | none=>
  have he:x.args=[]:=by
   rcases hz with e | ⟨b,off,e,_⟩
   ·exact e
   ·cases e
  rw[he];rw[he] at HK;clear hz hl he;go_enter Tryz.func190,Tryz.ntmps190;go_wp2_with (at_builtin;go_must (refine qy rfl _ _ 63 rfl w.heap.size 3 Tryz.t3 1 zU q7 _ 1 [int i64 x.a] rfl (zkg _ w.heap.size _ (by simp) (by simp) x.a) rfl ?_));go_ret
  first | exact ⟨_,⟨_,rfl⟩,zfS _ _ (by simp) _,HK.o.quiet (za.alloc [] _ _)⟩ | exact ⟨_,_,rfl,zfS _ _ (by simp) _,HK.o.quiet (za.alloc [] _ _)⟩
 | some ad=>
  have HK2:=hid (HK.o.quiet (za.alloc [] (w.alloc (.cells #[int i64 x.op,int i64 x.dst,int i64 x.a,int i64 x.b,int i64 x.n,.slice (some ad) x.args.length cp] 65)) (.cells #[int i64 x.a] 3)));have HZ:=hid (hz.kept HK2.o (fun _ _ _=>by simp));generalize x.args=ag at *;clear hz;go_enter Tryz.func190,Tryz.ntmps190;go_wp2_with (at_builtin;go_must (refine wpList_append_own _ rfl _ _ 63 rfl w.heap.size 3 Tryz.t3 (int i64 0) 1 8 zU q7 j8 jv qT rfl (by decide) _ 1 [int i64 x.a] rfl (zkg _ w.heap.size _ (by simp) (by simp) x.a) ad ag.length cp (Qd ag) rfl (by rw[Z0];omega) (ZT HZ.o) (Qn ag) (by unfold maxLen;omega) (by omega) (by simp;omega) ?_;intro v' w1 hown hgrow hnil));have hg2:((w.alloc (.cells #[int i64 x.op,int i64 x.dst,int i64 x.a,int i64 x.b,int i64 x.n,.slice (some ad) ag.length cp] 65)).alloc (.cells #[int i64 x.a] 3)).grownBy w1 (some (w.heap.size+1)):=hgrow;have HK1:=hid (HK2.o.fresh (za.grown [w.heap.size+1] hg2 (fun k hk=>by simp at hk;simp[hk])) (fun y hy=>by simp at hy;omega));have HO:Box (w1.ownsRow w.heap.size 3 1 v' (1+ag.length) (Qd (x.a :: ag))):=hid hown;clear hgrow hnil hown hg2;go_wp2_with fail;go_ret;obtain ⟨a',c',e1,e2,e3,_,_⟩:=Zx HO.o;exact ⟨a',c',by rw[Nat.add_comm] at e1;exact congrArg Ending.returned e1,e3,HK1.o⟩
theorem zjD(x:In8)(a:Option Addr)(cp:Nat)(w:World)(hop:x.op≠2∧x.op≠8∧x.op≠6∧x.op≠7∧x.op≠9∧x.op≠11∧x.op≠15∧x.op≠12∧x.op≠13∧x.op≠14):Calls Tryz.prog 190 #[zu x (.slice a x.args.length cp)] w fun e w'=>e=.returned (.slice none 0 0)∧za [] w w':=by
 have o2:=neb (show x.op≠2 by omega);have o8:=neb (show x.op≠8 by omega);have o6:=neb (show x.op≠6 by omega);have o7:=neb (show x.op≠7 by omega);have o9:=neb (show x.op≠9 by omega);have o11:=neb (show x.op≠11 by omega);have o15:=neb (show x.op≠15 by omega);have o12:=neb (show x.op≠12 by omega);have o13:=neb (show x.op≠13 by omega);have o14:=neb (show x.op≠14 by omega);clear hop;unfold zu;go_enter Tryz.func190,Tryz.ntmps190;go_wp2;go_ret;exact ⟨rfl,za.alloc _ _ _⟩
theorem JY(x:In8)(a:Option Addr)(cp:Nat)(w:World)(hz:zv w a x.args)(hl:x.args.length≤1048576):Calls Tryz.prog 190 #[zu x (.slice a x.args.length cp)] w fun e w'=>∃ a' c',e=.returned (.slice a' (qf x).length c')∧zv w' a' (qf x)∧za [] w w':=by
 unfold qf;by_cases g1:x.op=2∨x.op=8
 ·rw[if_pos g1]
  rcases g1 with h | h
  ·exact zk8 x a cp w h
  ·exact zkJ x a cp w h
 rw[if_neg g1];by_cases g2:x.op=6∨x.op=7∨x.op=9∨x.op=11∨x.op=15
 ·rw[if_pos g2]
  rcases g2 with h | h | h | h | h
  ·exact zlx x a cp w h
  ·exact zkZ x a cp w h
  ·exact zlq x a cp w h
  ·exact zip x a cp w h
  ·exact zjO x a cp w h
 rw[if_neg g2];by_cases g3:x.op=12
 ·rw[if_pos g3]
  exact zin x a cp w hz hl g3
 rw[if_neg g3];by_cases g4:x.op=13∨x.op=14
 ·rw[if_pos g4]
  rcases g4 with h | h
  ·exact zi0 x a cp w hz hl h
  ·exact zjb x a cp w hz hl h
 rw[if_neg g4];refine (zjD x a cp w (by omega)).mono ?_;rintro e w' ⟨rfl,k⟩;exact ⟨none,0,rfl,.inl rfl,k⟩
theorem zcN{α:Type}{l:List α}{k:Nat}{y:α}(h:l[k]? = some y):l.take (k+1)=l.take k ++ [y]:=by
 rw[List.take_add_one,h];rfl
theorem ze6{pb po:Nat}{P:Pr8}(h:PrC w pb po P)(hs:zd2 P):Calls Tryz.prog 165 #[pointer (some ⟨pb,po,none⟩)] w fun e w'=>e=.returned (int i64 (je P (pts P):Int))∧za [] w w':=by
 have HP:=hid h;have HC:=hid (ZN h hs);have HS:=hid hs.pts;clear h hs;go_enter Tryz.func165,Tryz.ntmps165;go_wp2_with fail;refine HC.o.mono ?_;rintro e w1 ⟨a,cp,rfl,hr,k1⟩;have HR:=hid hr;have HK1:=hid k1;clear hr k1 HC;obtain ⟨N,hN⟩:∃ N,N=(pts P).length:=⟨_,rfl⟩;rw[← hN];have HN:=hid hN;have hN9:(N:Int)≤4500:=by have:=HS.o;omega
 clear hN;go_wp2_with fail
 go_loopw [3,10] (fun nv kv wr=>∃ k:Nat,k≤N∧kv=int i64 (k:Int)∧nv=int i64 (je P ((pts P).take k):Int)∧Box (za [] w1 wr)) (fun _ kv _=>N - (intOf kv).toNat)
 case atStart=>exact ⟨0,by omega,rfl,rfl,hid (za.refl _ _)⟩
 case round=>
  obtain ⟨k,hk,rfl,rfl,HK⟩:=hrel;by_cases hlt:k<N
  ·have hlt':(k:Int)<(N:Int):=by omega
   obtain ⟨f,b,i,hpt,hq⟩:=zch (p:=P) (n:=k) (by rw[← HN.o];exact hlt);obtain ⟨lb,lo,rfl,hc⟩:=HR.o.at hq;have d0:=zb HK.o hc.c0;have d1:=zb HK.o hc.c1;have d2:=zb HK.o hc.c2;have HQ:=hid (zb6 P ((pts P).take k) (f,b,i));rw[← zcN hq] at HQ;have hle:=za8 P ((pts P).take k);rw[List.length_take] at hle;have hle9:je P ((pts P).take k)≤4500:=by omega
   have HPT:=hid hpt;clear hc hq hpt hle;generalize je P ((pts P).take k)=S at *;generalize hS2:je P ((pts P).take (k+1))=S2 at *;have HS2:=hid hS2;clear hS2;go_upto_region 5 with fail;have h3:=ze wr (.cells #[int i64 (f:Int),int i64 (b:Int),int i64 (i:Int)] 46);have k3:=za.alloc [] wr (.cells #[int i64 (f:Int),int i64 (b:Int),int i64 (i:Int)] 46);have HK3:=hid (HK.o.quiet k3);generalize wr.alloc (.cells #[int i64 (f:Int),int i64 (b:Int),int i64 (i:Int)] 46)=w3 at *;generalize wr.heap.size=q at *;have e0:=zc h3 0;have e1:=zc h3 1;have e2:=zc h3 2;have pr:=PrC.stays _ _ _ _ _ (HK1.o.quiet HK3.o) HP.o;obtain ⟨fa,fcp,H⟩:=pr.fns;have g4:=H.cell;obtain ⟨fb,fo,ba,bcp,rfl,B⟩:=H.at HPT.o.1;have g2:=B.cell;obtain ⟨bb,bo,rfl,L⟩:=B.at HPT.o.2.1;obtain ⟨ca,ccp,g0,hrows,hccp,_⟩:=L.c0;have hff:f<P.funcs.length:=HPT.o.1;have hbb:b<(zf P f).blocks.length:=HPT.o.2.1;have hii:i≤(zA (zf P f) b).code.length:=HPT.o.2.2;have HRW:=hid hrows;have hsite:zdP P (f,b,i)=(decide (i<(zA (zf P f) b).code.length) && decide ((jI (zA (zf P f) b) i).op=5)):=rfl;rw[hsite] at HQ;have hff':(f:Int)<(P.funcs.length:Int):=by omega
   have hbb':(b:Int)<((zf P f).blocks.length:Int):=by omega
   clear pr H B L hrows h3 k3 hsite d0 d1 d2;have HCL:Box (∃ c,c=(zA (zf P f) b).code.length):=hid ⟨_,rfl⟩;obtain ⟨c,hcc⟩:=HCL.o;have HCC:=hid hcc;rw[← hcc] at g0 HQ hii;clear hcc HCL;generalize P.funcs.length=FN at *;generalize (zf P f).blocks.length=BN at *
   go_region
   by_cases hic:i<c
   ·have hic':(i:Int)<(c:Int):=by omega
    obtain ⟨cb,co,rfl,LI⟩:=HRW.o.at (show (zA (zf P f) b).code[i]? = some (jI (zA (zf P f) b) i) from zi (by rw[← HCC.o];exact hic));have l0:=LI.c0.1;clear LI;generalize (jI (zA (zf P f) b) i).op=op at *;by_cases hop:op=5
    ·have hop':=eqb hop
     have HE:Box (S2=S+1):=hid (by rw[HQ.o];simp[hic,hop]);clear HQ hop;go_wp2_with fail;go_roundw
     case rel=>exact ⟨k+1,by omega,by go_num,by rw[HS2.o,HE.o];go_num,hid (HK3.o.quiet (za.drew _ _))⟩
     case measure=>simp[intOf];omega
    ·have hop':=neb hop
     have HE:Box (S2=S):=hid (by rw[HQ.o];simp[hop]);clear HQ hop;go_wp2_with fail;go_roundw
     case rel=>exact ⟨k+1,by omega,by go_num,by rw[HS2.o,HE.o],hid (HK3.o.quiet (za.drew _ _))⟩
     case measure=>simp[intOf];omega
   ·have hic':¬ (i:Int)<(c:Int):=by omega
    have HE:Box (S2=S):=hid (by rw[HQ.o];simp[hic]);clear HQ;go_wp2_with fail;go_roundw
    case rel=>exact ⟨k+1,by omega,by go_num,by rw[HS2.o,HE.o],hid (HK3.o.quiet (za.drew _ _))⟩
    case measure=>simp[intOf];omega
  ·obtain rfl:k=N:=by omega
   have HE:Box (je P ((pts P).take k)=je P (pts P)):=hid (by rw[HN.o,List.take_length]);go_wp2_with fail;go_ret;exact ⟨by rw[HE.o];rfl,HK1.o.quiet HK.o⟩
section
variable {P:Program}{ops:Array Oper}{A:Act}{W0:World}
theorem zn.cons{o:Oper}{v:Value}{os:List Oper}{vs:List Value}(h:zjZ P ops A W0 o v)(t:zn P ops A W0 os vs):zn P ops A W0 (o :: os) (v :: vs):=⟨h,t⟩
theorem zn.nil:zn P ops A W0 [] []:=trivial
theorem gY{o:Oper}{v:Value}{os:List Oper}{vs:List Value}(h:∀ w,za [] W0 w→(execOp A.eval o).run P w=.ok (.value v) w)(t:zn P ops A W0 os vs)(hw:Region.wanted o (yielded ops A.tmps)=true:=by rfl):zn P ops A W0 (o :: os) (v :: vs):=⟨Jj hw h,t⟩
theorem gR{o:Oper}{v:Value}{os:List Oper}{vs:List Value}(t:zn P ops A W0 os vs)(h:∀ w,za [] W0 w→(execOp A.eval o).run P w=.ok (.value v) w:=by exact fun _ _=>rfl)(hw:Region.wanted o (yielded ops A.tmps)=true:=by rfl):zn P ops A W0 (o :: os) (v :: vs):=⟨Jj hw h,t⟩
theorem gP{o:Oper}{os:List Oper}{vs:List Value}(t:zn P ops A W0 os vs)(hw:Region.wanted o (yielded ops A.tmps)=false:=by rfl):zn P ops A W0 (o :: os) (undef :: vs):=⟨zfN hw,t⟩
theorem zke{ev:Operand→Value}{oi:Oper}{f:Nat}{x:Operand}{ts:Array TypeId}{v:Value}{w:World}(ho:oi.op=.call { callee:=.value (.func f),args:=#[x],argTypes:=ts })(hf:ev (.func f)=.func (.func f) #[] #[])(hx:ev x=v)(hc:(callFunc f #[v]).run P w=.ok (.enter f #[v]) w):(execOp ev oi).run P w=.ok (.enter f #[v]) w:=by
 subst hx;simp[execOp,ho,hf,go_sem,hc]
theorem zkk{ev:Operand→Value}{oi:Oper}{f:Nat}{x y z:Operand}{ts:Array TypeId}{v u t:Value}{w:World}(ho:oi.op=.call { callee:=.value (.func f),args:=#[x,y,z],argTypes:=ts })(hf:ev (.func f)=.func (.func f) #[] #[])(hx:ev x=v)(hy:ev y=u)(hz:ev z=t)(hc:(callFunc f #[v,u,t]).run P w=.ok (.enter f #[v,u,t]) w):(execOp ev oi).run P w=.ok (.enter f #[v,u,t]) w:=by
 subst hx hy hz;simp[execOp,ho,hf,go_sem,hc]
theorem zkb{ev:Operand→Value}{oi:Oper}{f:Nat}{x y z p:Operand}{ts:Array TypeId}{v u t s:Value}{w:World}(ho:oi.op=.call { callee:=.value (.func f),args:=#[x,y,z,p],argTypes:=ts })(hf:ev (.func f)=.func (.func f) #[] #[])(hx:ev x=v)(hy:ev y=u)(hz:ev z=t)(hp:ev p=s)(hc:(callFunc f #[v,u,t,s]).run P w=.ok (.enter f #[v,u,t,s]) w):(execOp ev oi).run P w=.ok (.enter f #[v,u,t,s]) w:=by
 subst hx hy hz hp;simp[execOp,ho,hf,go_sem,hc]
end
end Go.Proofs.YtgmbkiagdhjpnaaGreatDoor
