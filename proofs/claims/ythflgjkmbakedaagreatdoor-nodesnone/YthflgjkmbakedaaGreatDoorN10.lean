import Derived.Test.YthflgjkmbakedaaGreatDoorN07
import Derived.Test.YthflgjkmbakedaaGreatDoorN09

namespace Go.Proofs.YthflgjkmbakedaaGreatDoor
open Go.RowKit
open Go.Value (int pointer agg)
open Go.IntKind (i64)
set_option maxHeartbeats 8000000
set_option maxRecDepth 20000
variable {A:Act}{fb fo i pb po:Nat}{o:Oper}{v:Value}{vs:List Value}{w:World}
def zgb(a b:V3):V3:=if a.1≠0∨b.1≠0 then (0,0,false) else (0,wrap64 (a.2.1+b.2.1),a.2.2 || b.2.2)
theorem ZJ(w:World)(x y z:Obj):za [] w (((w.alloc x).alloc y).alloc z):=((za.alloc [] _ _).quiet (za.alloc [] _ _)).quiet (za.alloc [] _ _)
theorem zel(a b:V3)(w:World):Calls Tryz.prog 146 #[vlV a,vlV b] w fun e w'=>e=.returned (vlV (zgb a b))∧za [] w w':=by
 obtain ⟨ak,an,at'⟩:=a;obtain ⟨bk,bn,bt⟩:=b;by_cases h1:ak=0
 ·by_cases h2:bk=0
  ·have e:zgb (ak,an,at') (bk,bn,bt)=(0,wrap64 (an+bn),at' || bt):=if_neg (by simp[h1,h2])
   rw[e];clear e;subst h1 h2;generalize hs:wrap64 (an+bn)=s
   cases at' <;> (
    go_enter Tryz.func146,Tryz.ntmps146;go_wp2
    exact bodyPost_ret (by simp (maxDischargeDepth:=10) [results,Tryz.results146,go_sem]) rfl ⟨rfl,ZJ _ _ _ _⟩)
  ·have e:zgb (ak,an,at') (bk,bn,bt)=(0,0,false):=if_pos (.inr h2)
   rw[e];subst h1;clear e;go_enter Tryz.func146,Tryz.ntmps146;go_wp2;exact bodyPost_ret (v:=vlV (0,0,false)) (by simp (maxDischargeDepth:=10) [results,Tryz.results146,go_sem]) rfl ⟨rfl,ZJ _ _ _ _⟩
 ·have e:zgb (ak,an,at') (bk,bn,bt)=(0,0,false):=if_pos (.inl h1)
  rw[e];clear e;go_enter Tryz.func146,Tryz.ntmps146;go_wp2;exact bodyPost_ret (v:=vlV (0,0,false)) (by simp (maxDischargeDepth:=10) [results,Tryz.results146,go_sem]) rfl ⟨rfl,ZJ _ _ _ _⟩
abbrev Rg:Type:=V3 × Bool
def rg0:Rg:=((0,0,false),false)
structure Fr where
 f:Nat
 b:Nat
 i:Nat
 rs:List Rg
structure Ma where
 bot:List Fr
 top:Fr
 hp:List Ob
 rc:List Int
 ora:List Int
 lc:Bool
 lf:Int
 sk:Bool
 res:V3
def Fr.get(x:Fr)(r:Int):V3:=(x.rs.getD r.toNat rg0).1
def Fr.set(x:Fr)(r:Int)(v:V3):Fr:={ x with rs:=x.rs.set r.toNat (v,true) }
def Fr.go(x:Fr)(b:Nat):Fr:={ x with b:=b,i:=0 }
def Fr.next(x:Fr):Fr:={ x with i:=x.i+1 }
def Ma.put(m:Ma)(r:Int)(v:V3):Ma:={ m with top:=m.top.set r v }
def Fr.blk(P:Pr8)(x:Fr):Bl8:=zq (zf P x.f) x.b
def Fr.ins(P:Pr8)(x:Fr):In8:=qm (x.blk P) x.i
def Zj(v:V3):Int:=if v.1=2 then v.2.1 else 0
def Qr(P:Pr8)(x:Fr)(r:Int):Int × Int:=(zf P x.f).regs.getD r.toNat (0,0)
def zhI(P:Pr8)(n:Int):List (Int × Int):=P.recs.getD n.toNat []
def zbM(o:Ob):Ob:=⟨o.site,o.free,.slice none 0 0,o.vs⟩
def qU(P:Pr8)(m:Ma)(x:In8):Int × Ma:=
 if x.op=1 then (0,m.put x.dst (0,x.n,false))
 else if x.op=2 then (0,m.put x.dst (zgb (m.top.get x.a) (m.top.get x.b)))
 else if x.op=3 then (0,{ m with ora:=m.ora.tail }.put x.dst (0,m.ora.headD 0,true))
 else if x.op=4 then (0,m.put x.dst (1,0,false))
 else if x.op=5 then
  if 400≤m.hp.length then (6,m)
  else (0,{ m with hp:=m.hp ++ [Ob.mk (J4 P m.top.f m.top.b m.top.i:Int) false (.slice none 0 0) ((zhI P (Qr P m.top x.dst).2).map qK)],rc:=m.rc ++ [(Qr P m.top x.dst).2] }.put x.dst (2,(m.hp.length:Int)+1,false))
 else if x.op=6∨x.op=11 then (0,m.put x.dst (m.top.get x.a))
 else if x.op=7 then
  if slW m.hp (Zj (m.top.get x.a)) x.n=0 then (0,m.put x.dst (zcB m.hp (Zj (m.top.get x.a)) x.n)) else (slW m.hp (Zj (m.top.get x.a)) x.n,m)
 else if x.op=8 then (slW m.hp (Zj (m.top.get x.a)) x.n,{ m with hp:=zea m.hp (Zj (m.top.get x.a)) x.n (m.top.get x.b) })
 else if x.op=9 then (foW m.hp (Zj (m.top.get x.a)),{ m with hp:=Qe m.hp (Zj (m.top.get x.a)) })
 else if x.op=10 then (0,m.put x.dst (3,x.n,false))
 else if x.op=15 then (0,{ m with sk:=(m.top.get x.a).2.2 })
 else (0,m)
def zgZ(P:Pr8)(rec iface:Int):Option (Int × Int × List Int):=P.ims.find? fun q=>q.1 == rec && q.2.1 == iface
def callee(P:Pr8)(m:Ma)(x:In8):Option Int:=
 if x.op=12 then some x.n
 else if (m.top.get x.a).1=3 then some (m.top.get x.a).2.1
 else if (m.top.get x.a).1=2 then (zgZ P (m.rc.getD ((m.top.get x.a).2.1 - 1).toNat 0) (Qr P m.top x.a).2).map fun q=>q.2.2.getD x.n.toNat 0
 else none
def zbQ(P:Pr8)(m:Ma)(v:V3):Int × Ma:=
 match m.bot.getLast? with
 | none=>(4,{ m with res:=v })
 | some y=>(0,{ m with bot:=m.bot.dropLast,top:=(y.set (y.ins P).dst v).next })
section
variable {P:Program}{ops:Array Oper}{Q:Exit→Act→World→Prop}{S:World→Prop}{E:Array Bool→World→Prop}
def zak (P : Program) (ops : Array Oper) (A : Act) (S : World → Prop) (E : Array Bool → World → Prop) (i : Nat) (o : Oper) (v : Value) : Prop :=
  (Region.wanted o (yielded ops A.tmps) = true ∧ ∀ l w, i < l.size → S w → E l w →
    ((∃ w', (execOp A.eval o).run P w = .ok (.value v) w' ∧ S w' ∧ E (l.setIfInBounds i true) w') ∨
     (∃ w', (execOp A.eval o).run P w = .ok .skip w' ∧ v = undef ∧ S w' ∧ E (l.setIfInBounds i true) w') ∨
     (∃ f args, (execOp A.eval o).run P w = .ok (.enter f args) w ∧ Calls P f args w fun e w' => e = .returned v ∧ S w' ∧ E (l.setIfInBounds i true) w'))) ∨
  (Region.wanted o (yielded ops A.tmps) = false ∧ v = undef ∧ ∀ l w, S w → E l w → E (l.setIfInBounds i true) w)
theorem ZS{A:Act}{i:Nat}{o:Oper}{v:Value}(hw:Region.wanted o (yielded ops A.tmps)=true)(hE:∀ l w,E l w→E (l.setIfInBounds i true) w)(h:∀ w,S w→(execOp A.eval o).run P w=.ok (.value v) w):zak P ops A S E i o v:=
 .inl ⟨hw,fun l w _ hs he=>.inl ⟨w,h w hs,hs,hE l w he⟩⟩
theorem zhS{A:Act}{i:Nat}{o:Oper}(hw:Region.wanted o (yielded ops A.tmps)=false)(hE:∀ l w,E l w→E (l.setIfInBounds i true) w):zak P ops A S E i o undef:=.inr ⟨hw,rfl,fun l w _ he=>hE l w he⟩
theorem zbE{A:Act}{i:Nat}{o:Oper}(hw:Region.wanted o (yielded ops A.tmps)=true)(h:∀ l w,i<l.size→S w→E l w→∃ w',(execOp A.eval o).run P w=.ok .skip w'∧S w'∧E (l.setIfInBounds i true) w'):zak P ops A S E i o undef:=
 .inl ⟨hw,fun l w hi hs he=>by
  obtain ⟨w',h1,h2,h3⟩:=h l w hi hs he
  exact .inr (.inl ⟨w',h1,rfl,h2,h3⟩)⟩
theorem zhO{A:Act}{i:Nat}{o:Oper}{v:Value}(hw:Region.wanted o (yielded ops A.tmps)=true)(f:Nat)(args:Array Value)(he:∀ w,(execOp A.eval o).run P w=.ok (.enter f args) w)
  (hc:∀ l w,i<l.size→S w→E l w→Calls P f args w fun e w'=>e=.returned v∧S w'∧E (l.setIfInBounds i true) w'):zak P ops A S E i o v:=
 .inl ⟨hw,fun l w hi hs hE=>.inr (.inr ⟨f,args,he w,hc l w hi hs hE⟩)⟩
def zJ(P:Program)(ops:Array Oper)(A:Act)(S:World→Prop)(E:Array Bool→World→Prop):Nat→List Oper→List Value→Prop
 | i,o :: os,v :: vs=>zak P ops A S E i o v∧zJ P ops A S E (i+1) os vs
 | _,[],[]=>True
 | _,_,_=>False
theorem zJ.cons{A:Act}{i:Nat}{o:Oper}{v:Value}{os:List Oper}{vs:List Value}(h:zak P ops A S E i o v)(t:zJ P ops A S E (i+1) os vs):zJ P ops A S E i (o :: os) (v :: vs):=⟨h,t⟩
theorem gER{A:Act}{i:Nat}{o:Oper}{v:Value}{os:List Oper}{vs:List Value}(t:zJ P ops A S E (i+1) os vs)(hE:∀ l w,E l w→E (l.setIfInBounds i true) w:=by exact fun _ _ h=>h.keep (by decide))(h:∀ w,S w→(execOp A.eval o).run P w=.ok (.value v) w:=by exact fun _ _=>rfl)(hw:Region.wanted o (yielded ops A.tmps)=true:=by rfl):zJ P ops A S E i (o :: os) (v :: vs):=⟨ZS hw hE h,t⟩
theorem gEY{A:Act}{i:Nat}{o:Oper}{v:Value}{os:List Oper}{vs:List Value}(h:∀ w,S w→(execOp A.eval o).run P w=.ok (.value v) w)(t:zJ P ops A S E (i+1) os vs)(hE:∀ l w,E l w→E (l.setIfInBounds i true) w:=by exact fun _ _ h=>h.keep (by decide))(hw:Region.wanted o (yielded ops A.tmps)=true:=by rfl):zJ P ops A S E i (o :: os) (v :: vs):=⟨ZS hw hE h,t⟩
theorem zJ.nil{A:Act}{i:Nat}:zJ P ops A S E i [] []:=trivial
theorem zJ.at{A:Act}:∀ {os:List Oper}{vs:List Value}{i:Nat},zJ P ops A S E i os vs→∀ {k:Nat}{o:Oper},os[k]? = some o→∃ v,vs[k]? = some v∧zak P ops A S E (i+k) o v
 | [],_,_,_,k,o,ho=>by simp at ho
 | _ :: _,[],_,h,_,_,_=>by cases h
 | o :: os,v :: vs,i,h,0,o',ho=>by
  simp at ho;subst ho;exact ⟨v,rfl,h.1⟩
 | o :: os,v :: vs,i,h,k+1,o',ho=>by
  obtain ⟨u,hu,hg⟩:=zJ.at h.2 (k:=k) (by simpa using ho);exact ⟨u,by simpa using hu,by rw[show i+(k+1)=i+1+k by omega];exact hg⟩
structure zke (ops:Array Oper) (S:World→Prop) (E:Array Bool→World→Prop) (a A:Act) (l:Array Bool) (a':Act) (w:World):Prop where
 size:l.size=ops.size
 kept:S w
 told:E l w
 sz:a'.tmps.size=a.tmps.size
 df:a'.defers=a.defers
 on:∀ (i:Nat) (oi:Oper) (d:Nat),ops[i]? = some oi→oi.dst=some d→l.getD i false=true→a'.tmps[d]? = A.tmps[d]?
 off:∀ d:Nat,(∀ (i:Nat) (oi:Oper),ops[i]? = some oi→oi.dst=some d→l.getD i false=false)→a'.tmps[d]? = a.tmps[d]?
theorem Qd{id:Nat}{a:Act}{w:World}(S:World→Prop)(E:Array Bool→World→Prop)(n:Nat)(vs:List Value)(hm:P.follows .mixedOrders=true)(hn:a.tmps.size=n)(hok:zb0 ops n=true)(hk:S w.drew)(he:E (Array.replicate ops.size false) w.drew)
  (h:∀ A,zE ops.toList vs a=A→zJ P ops A S E 0 ops.toList vs∧∀ l w',(∀ i,i<ops.size→l.getD i false=true)→S w'→E l w'→Q .normal A w'):(Code.region id ops true).wp P Q a w:=by
 obtain ⟨A,hA⟩:∃ A,zE ops.toList vs a=A:=⟨_,rfl⟩;obtain ⟨hg,hQ⟩:=h A hA;unfold zb0 at hok;rw[Bool.and_eq_true,Bool.and_eq_true] at hok;obtain ⟨hsel,hp,hall⟩:=hok;have pair:∀ (i j:Nat) (oi oj:Oper),ops[i]? = some oi→ops[j]? = some oj→qc ops n i j=true:=fun i j oi oj hi hj=>by
  have h1:=List.all_eq_true.1 hp i (List.mem_range.2 (Array.getElem?_eq_some_iff.1 hi).1);exact List.all_eq_true.1 h1 j (List.mem_range.2 (Array.getElem?_eq_some_iff.1 hj).1)
 have dist:∀ (i j:Nat) (oi oj:Oper) (d:Nat),ops[i]? = some oi→ops[j]? = some oj→i≠j→oi.dst=some d→oj.dst≠some d:=fun i j oi oj d hi hj hij hd he=>by
  have:=pair i j oi oj hi hj;unfold qc at this;rw[hi,hj] at this;simp[hij,hd,he] at this
 have lt:∀ (i:Nat) (oi:Oper) (d:Nat),ops[i]? = some oi→oi.dst=some d→d<n:=fun i oi d hi hd=>by
  have:=pair i i oi oi hi hi;unfold qc at this;rw[hi] at this;simp only[hd,Bool.and_eq_true,decide_eq_true_eq] at this;exact this.2.1
 have waits:∀ (i j:Nat) (oi oj:Oper) (d:Nat),ops[i]? = some oi→ops[j]? = some oj→oj.dst=some d→d∈oi.looksAt ops→oi.after.any (fun e=>Region.binds .any e && e.on == j)=true:=fun i j oi oj d hi hj hd hm=>by
  have:=pair i j oi oj hi hj;unfold qc at this;rw[hi,hj] at this;simp only[hd,Bool.and_eq_true,Bool.or_eq_true,Bool.not_eq_true',decide_eq_true_eq] at this;rcases this.2.2 with h0 | h0
  ·rw[List.contains_iff_mem.2 hm] at h0
   cases h0
  ·exact h0
 have aOther:∀ d:Nat,(∀ (i:Nat) (oi:Oper),ops[i]? = some oi→oi.dst≠some d)→A.tmps[d]? = a.tmps[d]? := fun d hd=>by
  rw[← hA];exact qj _ _ _ (fun k o ho=>hd k o (by rw[← Array.getElem?_toList];exact ho))
 have aAt:∀ (i:Nat) (oi:Oper) (d:Nat) (v:Value),ops[i]? = some oi→oi.dst=some d→vs[i]? = some v→A.tmps[d]? = some v:=fun i oi d v hi hd hv=>by
  rw[← hA];exact Zg _ _ _ i (by rw[Array.getElem?_toList];exact hi) hv hd (by rw[hn];exact lt i oi d hi hd) (fun j oj hj ho=>dist i j oi oj d hi (by rw[← Array.getElem?_toList];exact ho) (Ne.symm hj) hd)
 refine wp_region_held_drew (S:=S) hm hk (fun hS=> ?_);refine qN (zke ops S E a A) (fun _ _ _ h=>h.kept) (fun l a' w' hI hr=> ?_) (fun l a' w' i hI hr=> ?_) _ _ _ _ ?_ ?_
 ·have hl:=jz (md:=.any) (ops:=ops) hI.size hr hall
  have e:a'=A:=by
   have ht:a'.tmps=A.tmps:=by
    apply Array.ext_getElem?;intro d;by_cases hx:∃ (i:Nat) (oi:Oper),ops[i]? = some oi∧oi.dst=some d
    ·obtain ⟨i,oi,hi,hd⟩:=hx
     exact hI.on i oi d hi hd (hl i (Array.getElem?_eq_some_iff.1 hi).1)
    ·have hno:∀ (i:Nat) (oi:Oper),ops[i]? = some oi→oi.dst≠some d:=fun i oi hi hd=>hx ⟨i,oi,hi,hd⟩
     rw[hI.off d (fun i oi hi hd=>absurd hd (hno i oi hi)),aOther d hno]
   have hdf:a'.defers=A.defers:=by rw[hI.df, ← hA,qn]
   cases a';cases A;simp only at ht hdf;rw[ht,hdf]
  rw[e];exact hQ l w' hl hI.kept hI.told
 ·obtain ⟨hun,oi,hi,hw8⟩:=mem_ready.1 hr
  have hil:i<l.size:=by rw[hI.size];exact (Array.getElem?_eq_some_iff.1 hi).1
  obtain ⟨v,hv,hgv⟩:=hg.at (k:=i) (by rw[Array.getElem?_toList];exact hi);rw[Nat.zero_add] at hgv;have agree:∀ t,t∈oi.looksAt ops→a'.tmps[t]? = A.tmps[t]? := fun t ht=>by
   by_cases hx:∃ (j:Nat) (oj:Oper),ops[j]? = some oj∧oj.dst=some t
   ·obtain ⟨j,oj,hj,hd⟩:=hx
    have:=waits i j oi oj t hi hj hd ht;rw[Array.any_eq_true'] at this;obtain ⟨e,he,h1⟩:=this;rw[Bool.and_eq_true,beq_iff_eq] at h1;have h2:=hw8 e he h1.1;rw[h1.2] at h2;exact hI.on j oj t hj hd h2
   ·have hno:∀ (i:Nat) (oi:Oper),ops[i]? = some oi→oi.dst≠some t:=fun i oi hi hd=>hx ⟨i,oi,hi,hd⟩
    rw[hI.off t (fun i oi hi hd=>absurd hd (hno i oi hi)),aOther t hno]
  have hex:execOp a'.eval oi=execOp A.eval oi:=execOp_congr oi (fun cs b=>by
    exact Region.noSelect_spec hsel i oi cs b hi) (fun x hx=>by
   cases x with
   | tmp t=>
    have:=agree t (List.mem_append_left _ (List.mem_filterMap.2 ⟨.tmp t,by simpa using hx,rfl⟩));simp only[Act.eval,Array.getD_eq_getD_getElem?,this]
   | const v=>rfl
   | global g=>rfl
   | func f=>rfl)
  have hwt:Region.wanted oi (yielded ops a'.tmps)=Region.wanted oi (yielded ops A.tmps):=by
   unfold Region.wanted;cases hgd:oi.guard with
   | none=>rfl
   | some gw=>
    obtain ⟨g,want⟩:=gw;have hy:yielded ops a'.tmps g=yielded ops A.tmps g:=by
     unfold yielded;cases ht:(ops[g]?).bind (·.dst) with
     | none=>rfl
     | some t=>
      have:=agree t (by simp[Oper.looksAt,hgd,ht]);simp[this]
    simp only[hy]
  have next:∀ w2,S w2→E (l.setIfInBounds i true) w2→zke ops S E a A (l.setIfInBounds i true) (a'.put oi.dst v) w2:=fun w2 k2 e2=>by
   refine ⟨by simpa using hI.size,k2,e2,by rw[jS,hI.sz],by rw[j6,hI.df],fun j oj d hj hd hl=> ?_,fun d hd=> ?_⟩
   ·by_cases hij:i=j
    ·subst hij
     rw[hi] at hj;cases hj;rw[hd,zaG (by rw[hI.sz,hn];exact lt i oi d hi hd),aAt i oi d v hi hd hv]
    ·rw[q8 (dist j i oj oi d hj hi (Ne.symm hij) hd)]
     rw[js hij] at hl;exact hI.on j oj d hj hd hl
   ·have h1:oi.dst≠some d:=fun e=>by
     have:=hd i oi hi e;rw[jj hil] at this;cases this
    rw[q8 h1];refine hI.off d (fun j oj hj hdj=> ?_);have:=hd j oj hj hdj;by_cases hij:i=j
    ·subst hij
     rw[hi] at hj;cases hj;exact absurd hdj h1
    ·rw[js hij] at this
     exact this
  refine wpOp_step hi (fun K' hK=> ?_);rw[hwt];rcases hgv with ⟨hw1,hr1⟩ | ⟨hw1,rfl,hpass⟩
  ·rw[if_pos hw1]
   unfold Oper.wp;rw[hex];rcases hr1 l w' hil hI.kept hI.told with ⟨w2,he,k2,e2⟩ | ⟨w2,he,rfl,k2,e2⟩ | ⟨f,args,he,hc⟩
   ·rw[he]
    exact hK _ _ (next w2 k2 e2)
   ·rw[he]
    exact hK _ _ (next w2 k2 e2)
   ·rw[he]
    simp only[Oper.upon];refine Calls.mono hc (fun e w2=> ?_);rintro ⟨rfl,k2,e2⟩;exact hK _ _ (next w2 k2 e2)
  ·rw[if_neg (by rw[hw1];simp)]
   exact hK _ _ (next w' hI.kept (hpass l w' hI.kept hI.told))
 ·refine ⟨by simp,hS,he,rfl,rfl,fun i oi d hi hd hl=> ?_,fun d hd=>rfl⟩
  exfalso;rw[Array.getD_eq_getD_getElem?] at hl;by_cases hlt:i<ops.size
  ·rw[Array.getElem?_replicate,if_pos hlt] at hl
   cases hl
  ·rw[Array.getElem?_replicate,if_neg hlt] at hl
   cases hl
 ·unfold left
  exact Nat.le_trans List.countP_le_length (by simp)
end
def zi1:Option Code→Array Oper
 | some (.seq _ (.seq (.region _ o _) _))=>o
 | _=>#[]
theorem zT{Q:Exit→Act→World→Prop}{q:Nat}{o:Int}{x:In8}{ar:Value}{WA:World}{T1 T2 T3:Int × Int}(HN:WA.heap[q]? = some (.cells #[int i64 o,int i64 x.dst,int i64 x.a,int i64 x.b,int i64 x.n,ar] 54 (0,0)))(h1:∀ w':World,za [] WA w'→Calls Tryz.prog 242 #[pointer (some ⟨fb,fo,none⟩),int i64 x.dst] w' fun e w2=>e=.returned (tyV T1)∧za [] w' w2)(h2:∀ w':World,za [] WA w'→Calls Tryz.prog 242 #[pointer (some ⟨fb,fo,none⟩),int i64 x.a] w' fun e w2=>e=.returned (tyV T2)∧za [] w' w2)(h3:∀ w':World,za [] WA w'→Calls Tryz.prog 242 #[pointer (some ⟨fb,fo,none⟩),int i64 x.b] w' fun e w2=>e=.returned (tyV T3)∧za [] w' w2)
  (hP:∀ p a d v w,Q (Exit.panic p) (Act.put a (some d) v) w→Q (Exit.panic p) a w) (hQ:∀ (w1:World) (b7 b8 b9:Nat),za [] WA w1→zY w1 b7 T1→zY w1 b8 T2→zY w1 b9 T3→Q .normal { tmps:=#[pointer (some ⟨pb,po,none⟩),pointer (some ⟨fb,fo,none⟩),agg #[int i64 o,int i64 x.dst,int i64 x.a,int i64 x.b,int i64 x.n,ar],undef,undef,pointer (some ⟨q,0,none⟩),.bool false,pointer (some ⟨b7,0,none⟩),pointer (some ⟨b8,0,none⟩),pointer (some ⟨b9,0,none⟩),undef,undef,undef,undef,undef,undef,pointer (some ⟨fb,fo,none⟩),pointer (some ⟨q,1,none⟩),int i64 x.dst,tyV T1,pointer (some ⟨fb,fo,none⟩),pointer (some ⟨q,2,none⟩),int i64 x.a,tyV T2,pointer (some ⟨fb,fo,none⟩),pointer (some ⟨q,3,none⟩),int i64 x.b,tyV T3,undef,undef,undef,undef,undef,undef,undef,undef,undef,undef,undef,undef,undef,undef,undef,undef,undef,undef,undef,undef,undef,undef,undef,undef,undef,undef,undef,undef,undef,undef,undef,undef,undef,undef,undef,undef,undef,undef,undef,undef,undef,undef,undef,undef,undef,undef,undef,undef,undef,undef,undef,undef,undef,undef,undef,undef,undef,undef,undef,undef,undef,undef,undef,undef,undef,undef,undef,undef,undef,undef,undef,undef,undef,undef,undef,undef,undef,undef,undef,undef,undef,undef,undef,undef,undef,undef,undef,undef,undef,undef,undef,undef,undef,undef,undef,undef,undef,undef,undef,undef,undef,undef,undef,undef,undef,undef,undef,undef,undef,undef,undef,undef,undef,undef,undef,undef,undef,undef,undef,undef,undef,undef,undef,undef,undef,undef,undef,undef,undef,undef,undef,undef,undef,undef,undef,undef,undef,undef,undef,undef,undef,undef,undef],defers:=[] } w1):(Code.region 1 (zi1 Tryz.f241.body) true).wp Tryz.prog Q { tmps:=#[pointer (some ⟨pb,po,none⟩),pointer (some ⟨fb,fo,none⟩),agg #[int i64 o,int i64 x.dst,int i64 x.a,int i64 x.b,int i64 x.n,ar],undef,undef,pointer (some ⟨q,0,none⟩),.bool false,undef,undef,undef,undef,undef,undef,undef,undef,undef,undef,undef,undef,undef,undef,undef,undef,undef,undef,undef,undef,undef,undef,undef,undef,undef,undef,undef,undef,undef,undef,undef,undef,undef,undef,undef,undef,undef,undef,undef,undef,undef,undef,undef,undef,undef,undef,undef,undef,undef,undef,undef,undef,undef,undef,undef,undef,undef,undef,undef,undef,undef,undef,undef,undef,undef,undef,undef,undef,undef,undef,undef,undef,undef,undef,undef,undef,undef,undef,undef,undef,undef,undef,undef,undef,undef,undef,undef,undef,undef,undef,undef,undef,undef,undef,undef,undef,undef,undef,undef,undef,undef,undef,undef,undef,undef,undef,undef,undef,undef,undef,undef,undef,undef,undef,undef,undef,undef,undef,undef,undef,undef,undef,undef,undef,undef,undef,undef,undef,undef,undef,undef,undef,undef,undef,undef,undef,undef,undef,undef,undef,undef,undef,undef,undef,undef,undef,undef,undef,undef,undef,undef,undef,undef,undef,undef,undef,undef,undef,undef,undef,undef,undef,undef,undef],defers:=[] } WA:=by
 have H1:=hid h1;have H2:=hid h2;have H3:=hid h3;clear h1 h2 h3;have IN:Box (∀ w',za [] WA w'→w'.cell? ⟨q,1,none⟩=some (int i64 x.dst)∧w'.cell? ⟨q,2,none⟩=some (int i64 x.a)∧w'.cell? ⟨q,3,none⟩=some (int i64 x.b)):=hid fun w' k=>by
  have:=ze HN k;exact ⟨zc this 1,zc this 2,zc this 3⟩
 have HD0:=hid (za.drew [] WA);have ld:∀ {w':World}{ad:Addr}{v:Value}{ev:Operand→Value}{oi:Oper}{y:Operand},w'.cell? ad=some v→oi.op=.load 3 y→ev y=.pointer (some ad)→(execOp ev oi).run Tryz.prog w'=.ok (.value v) w':=fun hc ho hy=>by
  simp[execOp,ho,hy,go_sem,hc]
 have stv:∀ {w1:World}{b:Nat}{t t':Int × Int}{ev:Operand→Value}{oi:Oper}{y z:Operand},zY w1 b t→oi.op=.store 52 y z→ev y=pointer (some ⟨b,0,none⟩)→ev z=tyV t'→(execOp ev oi).run Tryz.prog w1=.ok .skip ((w1.setCell ⟨b,0,none⟩ (int i64 t'.1)).setCell ⟨b,1,none⟩ (int i64 t'.2)):=fun {w1 b t t' ev oi y z} hty ho hy hz=>by
  have z0:=zg hty 0;have z1:=zg hty 1;have c0:=zc hty 0;have c1:=zc hty 1;simp[execOp,ho,hy,hz,go_sem,z0,z1,c0,c1]
 refine wp_region_held_drew (S:=fun w'=>za [] WA w') (by kernel_rfl) HD0.o (fun _=> ?_);refine qp (i:=0) (d:=16) (v:=pointer (some ⟨fb,fo,none⟩)) rfl rfl (by as_aux_lemma=>kernel_rfl) (by as_aux_lemma=>kernel_rfl) (by as_aux_lemma=>kernel_rfl) (fun _ _ _ h=>hP _ _ _ _ _ h) (by rfl) HD0.o (fun _ _=>rfl) ?_;simp only[Act.put,sTA,sC0,sCS];refine qp (i:=1) (d:=17) (v:=pointer (some ⟨q,1,none⟩)) rfl rfl (by as_aux_lemma=>kernel_rfl) (by as_aux_lemma=>kernel_rfl) (by as_aux_lemma=>kernel_rfl) (fun _ _ _ h=>hP _ _ _ _ _ h) (by rfl) HD0.o (fun _ _=>rfl) ?_;simp only[Act.put,sTA,sC0,sCS];refine qp (i:=2) (d:=18) (v:=int i64 x.dst) rfl rfl (by as_aux_lemma=>kernel_rfl) (by as_aux_lemma=>kernel_rfl) (by as_aux_lemma=>kernel_rfl) (fun _ _ _ h=>hP _ _ _ _ _ h) (by rfl) HD0.o (fun w' k=>ld (IN.o w' k).1 rfl rfl) ?_;simp only[Act.put,sTA,sC0,sCS];refine qp (i:=4) (d:=20) (v:=pointer (some ⟨fb,fo,none⟩)) rfl rfl (by as_aux_lemma=>kernel_rfl) (by as_aux_lemma=>kernel_rfl) (by as_aux_lemma=>kernel_rfl) (fun _ _ _ h=>hP _ _ _ _ _ h) (by rfl) HD0.o (fun _ _=>rfl) ?_;simp only[Act.put,sTA,sC0,sCS];refine qp (i:=5) (d:=21) (v:=pointer (some ⟨q,2,none⟩)) rfl rfl (by as_aux_lemma=>kernel_rfl) (by as_aux_lemma=>kernel_rfl) (by as_aux_lemma=>kernel_rfl) (fun _ _ _ h=>hP _ _ _ _ _ h) (by rfl) HD0.o (fun _ _=>rfl) ?_;simp only[Act.put,sTA,sC0,sCS];refine qp (i:=6) (d:=22) (v:=int i64 x.a) rfl rfl (by as_aux_lemma=>kernel_rfl) (by as_aux_lemma=>kernel_rfl) (by as_aux_lemma=>kernel_rfl) (fun _ _ _ h=>hP _ _ _ _ _ h) (by rfl) HD0.o (fun w' k=>ld (IN.o w' k).2.1 rfl rfl) ?_;simp only[Act.put,sTA,sC0,sCS];refine qp (i:=8) (d:=24) (v:=pointer (some ⟨fb,fo,none⟩)) rfl rfl (by as_aux_lemma=>kernel_rfl) (by as_aux_lemma=>kernel_rfl) (by as_aux_lemma=>kernel_rfl) (fun _ _ _ h=>hP _ _ _ _ _ h) (by rfl) HD0.o (fun _ _=>rfl) ?_;simp only[Act.put,sTA,sC0,sCS];refine qp (i:=9) (d:=25) (v:=pointer (some ⟨q,3,none⟩)) rfl rfl (by as_aux_lemma=>kernel_rfl) (by as_aux_lemma=>kernel_rfl) (by as_aux_lemma=>kernel_rfl) (fun _ _ _ h=>hP _ _ _ _ _ h) (by rfl) HD0.o (fun _ _=>rfl) ?_;simp only[Act.put,sTA,sC0,sCS];refine qp (i:=10) (d:=26) (v:=int i64 x.b) rfl rfl (by as_aux_lemma=>kernel_rfl) (by as_aux_lemma=>kernel_rfl) (by as_aux_lemma=>kernel_rfl) (fun _ _ _ h=>hP _ _ _ _ _ h) (by rfl) HD0.o (fun w' k=>ld (IN.o w' k).2.2 rfl rfl) ?_;simp only[Act.put,sTA,sC0,sCS];refine qN (ziV WA (fun v7 v8 v9 v19 v23 v27=>({ tmps:=List.toArray ((pointer (some ⟨pb,po,none⟩):Value) :: (pointer (some ⟨fb,fo,none⟩):Value) :: (agg #[int i64 o,int i64 x.dst,int i64 x.a,int i64 x.b,int i64 x.n,ar]:Value) :: (undef:Value) :: (undef:Value) :: (pointer (some ⟨q,0,none⟩):Value) :: (.bool false:Value) :: (v7:Value) :: (v8:Value) :: (v9:Value) :: (undef:Value) :: (undef:Value) :: (undef:Value) :: (undef:Value) :: (undef:Value) :: (undef:Value) :: (pointer (some ⟨fb,fo,none⟩):Value) :: (pointer (some ⟨q,1,none⟩):Value) :: (int i64 x.dst:Value) :: (v19:Value) :: (pointer (some ⟨fb,fo,none⟩):Value) :: (pointer (some ⟨q,2,none⟩):Value) :: (int i64 x.a:Value) :: (v23:Value) :: (pointer (some ⟨fb,fo,none⟩):Value) :: (pointer (some ⟨q,3,none⟩):Value) :: (int i64 x.b:Value) :: (v27:Value) :: (undef:Value) :: (undef:Value) :: (undef:Value) :: (undef:Value) :: (undef:Value) :: (undef:Value) :: (undef:Value) :: (undef:Value) :: (undef:Value) :: (undef:Value) :: (undef:Value) :: (undef:Value) :: (undef:Value) :: (undef:Value) :: (undef:Value) :: (undef:Value) :: (undef:Value) :: (undef:Value) :: (undef:Value) :: (undef:Value) :: (undef:Value) :: (undef:Value) :: (undef:Value) :: (undef:Value) :: (undef:Value) :: (undef:Value) :: (undef:Value) :: (undef:Value) :: (undef:Value) :: (undef:Value) :: (undef:Value) :: (undef:Value) :: (undef:Value) :: (undef:Value) :: (undef:Value) :: (undef:Value) :: (undef:Value) :: (undef:Value) :: (undef:Value) :: (undef:Value) :: (undef:Value) :: (undef:Value) :: (undef:Value) :: (undef:Value) :: (undef:Value) :: (undef:Value) :: (undef:Value) :: (undef:Value) :: (undef:Value) :: (undef:Value) :: (undef:Value) :: (undef:Value) :: (undef:Value) :: (undef:Value) :: (undef:Value) :: (undef:Value) :: (undef:Value) :: (undef:Value) :: (undef:Value) :: (undef:Value) :: (undef:Value) :: (undef:Value) :: (undef:Value) :: (undef:Value) :: (undef:Value) :: (undef:Value) :: (undef:Value) :: (undef:Value) :: (undef:Value) :: (undef:Value) :: (undef:Value) :: (undef:Value) :: (undef:Value) :: (undef:Value) :: (undef:Value) :: (undef:Value) :: (undef:Value) :: (undef:Value) :: (undef:Value) :: (undef:Value) :: (undef:Value) :: (undef:Value) :: (undef:Value) :: (undef:Value) :: (undef:Value) :: (undef:Value) :: (undef:Value) :: (undef:Value) :: (undef:Value) :: (undef:Value) :: (undef:Value) :: (undef:Value) :: (undef:Value) :: (undef:Value) :: (undef:Value) :: (undef:Value) :: (undef:Value) :: (undef:Value) :: (undef:Value) :: (undef:Value) :: (undef:Value) :: (undef:Value) :: (undef:Value) :: (undef:Value) :: (undef:Value) :: (undef:Value) :: (undef:Value) :: (undef:Value) :: (undef:Value) :: (undef:Value) :: (undef:Value) :: (undef:Value) :: (undef:Value) :: (undef:Value) :: (undef:Value) :: (undef:Value) :: (undef:Value) :: (undef:Value) :: (undef:Value) :: (undef:Value) :: (undef:Value) :: (undef:Value) :: (undef:Value) :: (undef:Value) :: (undef:Value) :: (undef:Value) :: (undef:Value) :: (undef:Value) :: (undef:Value) :: (undef:Value) :: (undef:Value) :: (undef:Value) :: (undef:Value) :: (undef:Value) :: (undef:Value) :: (undef:Value) :: (undef:Value) :: (undef:Value) :: (undef:Value) :: (undef:Value) :: (undef:Value) :: (undef:Value) :: (undef:Value) :: []),defers:=[] }:Act)) T1 T2 T3) (fun _ _ _ h=>h.kept) ?hd ?hstep _ _ _ _ ?start ?fin
 case fin=>exact Nat.le_of_ble_eq_true (by kernel_rfl)
 case start=>
  exact ⟨rfl,HD0.o,⟨undef,undef,undef,undef,undef,undef,0,0,0,rfl,(fun h=>by cases h),(fun h=>by cases h),(fun h=>by cases h),(fun h=>by cases h),(fun h=>by cases h),(fun h=>by cases h),(fun h=>by cases h),(fun h=>by cases h),fun h=>by cases h⟩,by decide,(fun h=>by cases h),(fun h=>by cases h),fun h=>by cases h⟩
 case hstep=>
  rintro l a w1 i ⟨hsz,hk,⟨v7,v8,v9,v19,v23,v27,b7,b8,b9,rfl,e3,e7,e11,m7,m8,m9,n78,n79,n89⟩,h9,o7,o8,o9⟩ hr;have hun:=(mem_ready.1 hr).1;have hf0:=Qx hun;have hlt:i<18:=zfD hr;have hne:i ∉ [0,1,2,4,5,6,8,9,10]:=fun hm=>by rw[h9 i hm] at hun;cases hun
  have hi:i=3∨i=7∨i=11∨i=12∨i=13∨i=14∨i=15∨i=16∨i=17:=by
   simp only[List.mem_cons,List.not_mem_nil,or_false,not_or] at hne;omega
  rcases hi with rfl | rfl | rfl | rfl | rfl | rfl | rfl | rfl | rfl
  ·refine zad (d:=19) (R:=fun v w2=>v=tyV T1∧za [] w1 w2) rfl rfl (by rfl) 242 #[pointer (some ⟨fb,fo,none⟩),int i64 x.dst] (Zv rfl rfl rfl rfl (by go_simp)) ((H1.o w1 hk).mono fun e w2 h=>⟨_,h.1,rfl,h.2⟩) ?_
   rintro v w2 ⟨rfl,k2⟩;exact ⟨by simpa using hsz,hk.quiet k2,⟨v7,v8,v9,tyV T1,v23,v27,b7,b8,b9,rfl,(fun _=>rfl),(fun h=>e7 (by rw[zj false (by decide)] at h;exact h)),(fun h=>e11 (by rw[zj false (by decide)] at h;exact h)),m7.quiet k2 (by decide) (by decide),m8.quiet k2 (by decide) (by decide),m9.quiet k2 (by decide) (by decide),(fun h h'=>n78 (by rw[zj false (by decide)] at h;exact h) (by rw[zj false (by decide)] at h';exact h')),(fun h h'=>n79 (by rw[zj false (by decide)] at h;exact h) (by rw[zj false (by decide)] at h';exact h')),fun h h'=>n89 (by rw[zj false (by decide)] at h;exact h) (by rw[zj false (by decide)] at h';exact h')⟩,qt _ h9,zB _ o7 (fun e=>by cases e),zB _ o8 (fun e=>by cases e),zB _ o9 (fun e=>by cases e)⟩
  ·refine zad (d:=23) (R:=fun v w2=>v=tyV T2∧za [] w1 w2) rfl rfl (by rfl) 242 #[pointer (some ⟨fb,fo,none⟩),int i64 x.a] (Zv rfl rfl rfl rfl (by go_simp)) ((H2.o w1 hk).mono fun e w2 h=>⟨_,h.1,rfl,h.2⟩) ?_
   rintro v w2 ⟨rfl,k2⟩;exact ⟨by simpa using hsz,hk.quiet k2,⟨v7,v8,v9,v19,tyV T2,v27,b7,b8,b9,rfl,(fun h=>e3 (by rw[zj false (by decide)] at h;exact h)),(fun _=>rfl),(fun h=>e11 (by rw[zj false (by decide)] at h;exact h)),m7.quiet k2 (by decide) (by decide),m8.quiet k2 (by decide) (by decide),m9.quiet k2 (by decide) (by decide),(fun h h'=>n78 (by rw[zj false (by decide)] at h;exact h) (by rw[zj false (by decide)] at h';exact h')),(fun h h'=>n79 (by rw[zj false (by decide)] at h;exact h) (by rw[zj false (by decide)] at h';exact h')),fun h h'=>n89 (by rw[zj false (by decide)] at h;exact h) (by rw[zj false (by decide)] at h';exact h')⟩,qt _ h9,zB _ o7 (fun e=>by cases e),zB _ o8 (fun e=>by cases e),zB _ o9 (fun e=>by cases e)⟩
  ·refine zad (d:=27) (R:=fun v w2=>v=tyV T3∧za [] w1 w2) rfl rfl (by rfl) 242 #[pointer (some ⟨fb,fo,none⟩),int i64 x.b] (Zv rfl rfl rfl rfl (by go_simp)) ((H3.o w1 hk).mono fun e w2 h=>⟨_,h.1,rfl,h.2⟩) ?_
   rintro v w2 ⟨rfl,k2⟩;exact ⟨by simpa using hsz,hk.quiet k2,⟨v7,v8,v9,v19,v23,tyV T3,b7,b8,b9,rfl,(fun h=>e3 (by rw[zj false (by decide)] at h;exact h)),(fun h=>e7 (by rw[zj false (by decide)] at h;exact h)),(fun _=>rfl),m7.quiet k2 (by decide) (by decide),m8.quiet k2 (by decide) (by decide),m9.quiet k2 (by decide) (by decide),(fun h h'=>n78 (by rw[zj false (by decide)] at h;exact h) (by rw[zj false (by decide)] at h';exact h')),(fun h h'=>n79 (by rw[zj false (by decide)] at h;exact h) (by rw[zj false (by decide)] at h';exact h')),fun h h'=>n89 (by rw[zj false (by decide)] at h;exact h) (by rw[zj false (by decide)] at h';exact h')⟩,qt _ h9,zB _ o7 (fun e=>by cases e),zB _ o8 (fun e=>by cases e),zB _ o9 (fun e=>by cases e)⟩
  ·have hs0:l.getD 15 false=false:=by
    cases hb:l.getD 15 false with
    | false=>rfl
    | true=>exact absurd (o7 hb) (by rw[hf0];simp)
   refine zdS (v:=pointer (some ⟨w1.heap.size,0,none⟩)) (w':=w1.alloc (.cells #[int i64 0,int i64 0] 52)) rfl (by rfl) (by kernel_rfl) ?_;exact ⟨by simpa using hsz,hk.quiet (za.alloc [] _ _),⟨pointer (some ⟨w1.heap.size,0,none⟩),v8,v9,v19,v23,v27,w1.heap.size,b8,b9,rfl,(fun h=>e3 (by rw[zj false (by decide)] at h;exact h)),(fun h=>e7 (by rw[zj false (by decide)] at h;exact h)),(fun h=>e11 (by rw[zj false (by decide)] at h;exact h)),Q9.new hk hs0 (by decide),m8.quiet (za.alloc [] _ _) (by decide) (by decide),m9.quiet (za.alloc [] _ _) (by decide) (by decide),(fun h h' e=>by have:=m8.lt (by rw[zj false (by decide)] at h';exact h');omega),(fun h h' e=>by have:=m9.lt (by rw[zj false (by decide)] at h';exact h');omega),(fun h h'=>n89 (by rw[zj false (by decide)] at h;exact h) (by rw[zj false (by decide)] at h';exact h'))⟩,qt _ h9,zB _ o7 (fun e=>by cases e),zB _ o8 (fun e=>by cases e),zB _ o9 (fun e=>by cases e)⟩
  ·have hs0:l.getD 16 false=false:=by
    cases hb:l.getD 16 false with
    | false=>rfl
    | true=>exact absurd (o8 hb) (by rw[hf0];simp)
   refine zdS (v:=pointer (some ⟨w1.heap.size,0,none⟩)) (w':=w1.alloc (.cells #[int i64 0,int i64 0] 52)) rfl (by rfl) (by kernel_rfl) ?_;exact ⟨by simpa using hsz,hk.quiet (za.alloc [] _ _),⟨v7,pointer (some ⟨w1.heap.size,0,none⟩),v9,v19,v23,v27,b7,w1.heap.size,b9,rfl,(fun h=>e3 (by rw[zj false (by decide)] at h;exact h)),(fun h=>e7 (by rw[zj false (by decide)] at h;exact h)),(fun h=>e11 (by rw[zj false (by decide)] at h;exact h)),m7.quiet (za.alloc [] _ _) (by decide) (by decide),Q9.new hk hs0 (by decide),m9.quiet (za.alloc [] _ _) (by decide) (by decide),(fun h h' e=>by have:=m7.lt (by rw[zj false (by decide)] at h;exact h);omega),(fun h h'=>n79 (by rw[zj false (by decide)] at h;exact h) (by rw[zj false (by decide)] at h';exact h')),(fun h h' e=>by have:=m9.lt (by rw[zj false (by decide)] at h';exact h');omega)⟩,qt _ h9,zB _ o7 (fun e=>by cases e),zB _ o8 (fun e=>by cases e),zB _ o9 (fun e=>by cases e)⟩
  ·have hs0:l.getD 17 false=false:=by
    cases hb:l.getD 17 false with
    | false=>rfl
    | true=>exact absurd (o9 hb) (by rw[hf0];simp)
   refine zdS (v:=pointer (some ⟨w1.heap.size,0,none⟩)) (w':=w1.alloc (.cells #[int i64 0,int i64 0] 52)) rfl (by rfl) (by kernel_rfl) ?_;exact ⟨by simpa using hsz,hk.quiet (za.alloc [] _ _),⟨v7,v8,pointer (some ⟨w1.heap.size,0,none⟩),v19,v23,v27,b7,b8,w1.heap.size,rfl,(fun h=>e3 (by rw[zj false (by decide)] at h;exact h)),(fun h=>e7 (by rw[zj false (by decide)] at h;exact h)),(fun h=>e11 (by rw[zj false (by decide)] at h;exact h)),m7.quiet (za.alloc [] _ _) (by decide) (by decide),m8.quiet (za.alloc [] _ _) (by decide) (by decide),Q9.new hk hs0 (by decide),(fun h h'=>n78 (by rw[zj false (by decide)] at h;exact h) (by rw[zj false (by decide)] at h';exact h')),(fun h h' e=>by have:=m7.lt (by rw[zj false (by decide)] at h;exact h);omega),(fun h h' e=>by have:=m8.lt (by rw[zj false (by decide)] at h;exact h);omega)⟩,qt _ h9,zB _ o7 (fun e=>by cases e),zB _ o8 (fun e=>by cases e),zB _ o9 (fun e=>by cases e)⟩
  ·have hm:=qd hr 12 (by kernel_rfl)
   have hc:=qd hr 3 (by kernel_rfl);obtain ⟨hv,hge,hty⟩:=m7 hm;have hT:=e3 hc;subst hv hT;have z0:=zg hty 0;have z1:=zg hty 1;have c0:=zc hty 0;have c1:=zc hty 1;refine zao (w':=(w1.setCell ⟨b7,0,none⟩ (int i64 T1.1)).setCell ⟨b7,1,none⟩ (int i64 T1.2)) rfl (by rfl) (stv hty rfl rfl rfl) ?_;exact ⟨by simpa using hsz,hk.trans (Jo _ b7 _ _) (fun x hx hl=>by simp at hx;omega),⟨pointer (some ⟨b7,0,none⟩),v8,v9,tyV T1,v23,v27,b7,b8,b9,rfl,(fun _=>rfl),(fun h=>e7 (by rw[zj false (by decide)] at h;exact h)),(fun h=>e11 (by rw[zj false (by decide)] at h;exact h)),m7.put (by omega) (by decide),m8.far (fun h e=>n78 hm h e.symm) (by decide) (by decide),m9.far (fun h e=>n79 hm h e.symm) (by decide) (by decide),(fun h h'=>n78 (by rw[zj false (by decide)] at h;exact h) (by rw[zj false (by decide)] at h';exact h')),(fun h h'=>n79 (by rw[zj false (by decide)] at h;exact h) (by rw[zj false (by decide)] at h';exact h')),(fun h h'=>n89 (by rw[zj false (by decide)] at h;exact h) (by rw[zj false (by decide)] at h';exact h'))⟩,qt _ h9,zB _ o7 (fun _=>hm),zB _ o8 (fun e=>by cases e),zB _ o9 (fun e=>by cases e)⟩
  ·have hm:=qd hr 13 (by kernel_rfl)
   have hc:=qd hr 7 (by kernel_rfl);obtain ⟨hv,hge,hty⟩:=m8 hm;have hT:=e7 hc;subst hv hT;have z0:=zg hty 0;have z1:=zg hty 1;have c0:=zc hty 0;have c1:=zc hty 1;refine zao (w':=(w1.setCell ⟨b8,0,none⟩ (int i64 T2.1)).setCell ⟨b8,1,none⟩ (int i64 T2.2)) rfl (by rfl) (stv hty rfl rfl rfl) ?_;exact ⟨by simpa using hsz,hk.trans (Jo _ b8 _ _) (fun x hx hl=>by simp at hx;omega),⟨v7,pointer (some ⟨b8,0,none⟩),v9,v19,tyV T2,v27,b7,b8,b9,rfl,(fun h=>e3 (by rw[zj false (by decide)] at h;exact h)),(fun _=>rfl),(fun h=>e11 (by rw[zj false (by decide)] at h;exact h)),m7.far (fun h=>n78 h hm) (by decide) (by decide),m8.put (by omega) (by decide),m9.far (fun h e=>n89 hm h e.symm) (by decide) (by decide),(fun h h'=>n78 (by rw[zj false (by decide)] at h;exact h) (by rw[zj false (by decide)] at h';exact h')),(fun h h'=>n79 (by rw[zj false (by decide)] at h;exact h) (by rw[zj false (by decide)] at h';exact h')),(fun h h'=>n89 (by rw[zj false (by decide)] at h;exact h) (by rw[zj false (by decide)] at h';exact h'))⟩,qt _ h9,zB _ o7 (fun e=>by cases e),zB _ o8 (fun _=>hm),zB _ o9 (fun e=>by cases e)⟩
  ·have hm:=qd hr 14 (by kernel_rfl)
   have hc:=qd hr 11 (by kernel_rfl);obtain ⟨hv,hge,hty⟩:=m9 hm;have hT:=e11 hc;subst hv hT;have z0:=zg hty 0;have z1:=zg hty 1;have c0:=zc hty 0;have c1:=zc hty 1;refine zao (w':=(w1.setCell ⟨b9,0,none⟩ (int i64 T3.1)).setCell ⟨b9,1,none⟩ (int i64 T3.2)) rfl (by rfl) (stv hty rfl rfl rfl) ?_;exact ⟨by simpa using hsz,hk.trans (Jo _ b9 _ _) (fun x hx hl=>by simp at hx;omega),⟨v7,v8,pointer (some ⟨b9,0,none⟩),v19,v23,tyV T3,b7,b8,b9,rfl,(fun h=>e3 (by rw[zj false (by decide)] at h;exact h)),(fun h=>e7 (by rw[zj false (by decide)] at h;exact h)),(fun _=>rfl),m7.far (fun h=>n79 h hm) (by decide) (by decide),m8.far (fun h=>n89 h hm) (by decide) (by decide),m9.put (by omega) (by decide),(fun h h'=>n78 (by rw[zj false (by decide)] at h;exact h) (by rw[zj false (by decide)] at h';exact h')),(fun h h'=>n79 (by rw[zj false (by decide)] at h;exact h) (by rw[zj false (by decide)] at h';exact h')),(fun h h'=>n89 (by rw[zj false (by decide)] at h;exact h) (by rw[zj false (by decide)] at h';exact h'))⟩,qt _ h9,zB _ o7 (fun e=>by cases e),zB _ o8 (fun e=>by cases e),zB _ o9 (fun _=>hm)⟩
 case hd=>
  rintro l a w1 ⟨hsz,hk,⟨v7,v8,v9,v19,v23,v27,b7,b8,b9,rfl,e3,e7,e11,m7,m8,m9, -, -, -⟩, -, -, -, -⟩ hr;have hall:=jz hsz hr (by kernel_rfl);obtain ⟨hv7, -,t7⟩:=m7 (hall 12 (by decide));obtain ⟨hv8, -,t8⟩:=m8 (hall 13 (by decide));obtain ⟨hv9, -,t9⟩:=m9 (hall 14 (by decide));rw[hall 15 (by decide)] at t7;rw[hall 16 (by decide)] at t8;rw[hall 17 (by decide)] at t9;have hv19:=e3 (hall 3 (by decide));have hv23:=e7 (hall 7 (by decide));have hv27:=e11 (hall 11 (by decide));subst hv7 hv8 hv9 hv19 hv23 hv27;exact hQ w1 b7 b8 b9 hk t7 t8 t9
theorem zju{f:Fu8}(hf:FuC w fb fo f)(x:In8)(ar:Value)(hop:x.op=1):Calls Tryz.prog 241 #[pointer (some ⟨pb,po,none⟩),pointer (some ⟨fb,fo,none⟩),zt x ar] w fun e w'=>e=.returned (.bool ((zk f x.dst).1 == 0))∧za [] w w':=by
 have ka:=za.alloc [] w (.cells #[int i64 x.op,int i64 x.dst,int i64 x.a,int i64 x.b,int i64 x.n,ar] 54);have hn:=zd w (.cells #[int i64 x.op,int i64 x.dst,int i64 x.a,int i64 x.b,int i64 x.n,ar] 54);have HRT:=hid fun (r:Int) (w':World) (k:za [] w w')=>zn (FuC.stays _ _ _ _ _ k hf) r;have KA:=hid ka;have HN:=hid hn;clear hf ka hn;unfold zt;rw[hop] at KA HN ⊢;go_enter Tryz.func241,Tryz.ntmps241;go_upto_region 1 with fail;generalize w.alloc (.cells #[int i64 1,int i64 x.dst,int i64 x.a,int i64 x.b,int i64 x.n,ar] 54)=WA at *;generalize w.heap.size=q at *;have H1:=hid fun (w':World) (k:za [] WA w')=>HRT.o x.dst w' (KA.o.quiet k);have H2:=hid fun (w':World) (k:za [] WA w')=>HRT.o x.a w' (KA.o.quiet k);have H3:=hid fun (w':World) (k:za [] WA w')=>HRT.o x.b w' (KA.o.quiet k);generalize hT1:zk f x.dst=T1 at *;generalize hT2:zk f x.a=T2 at *;generalize hT3:zk f x.b=T3 at *;have HT1:=hid hT1;have HT2:=hid hT2;have HT3:=hid hT3;clear hT1 hT2 hT3;refine zT HN.o H1.o H2.o H3.o (fun _ _ _ _ _ h=>h) (fun w1 b7 b8 b9 hk t7 t8 t9=> ?_)
 all_goals
  have T7:Box (zY w1 b7 T1):=hid t7;have T8:Box (zY w1 b8 T2):=hid t8;have T9:Box (zY w1 b9 T3):=hid t9;have K1:=hid (KA.o.quiet hk);have h5:=ze HN.o hk;have i0:=zc h5 0;have HI5:=hid h5;clear t7 t8 t9 h5 H1 H2 H3 HN hk;have s0:=zc T7.o 0;have s1:=zc T7.o 1;have p0:=zc T8.o 0;have p1:=zc T8.o 1;have r0:=zc T9.o 0;have r1:=zc T9.o 1;go_wp2_with fail;go_ret;exact ⟨by simp only[HT1.o];rfl,K1.o⟩
def tyE(s t:Int × Int):Bool:=s.1 == t.1 && s.2 == t.2
theorem jk(a b c d:Int)(w:World):(binOp .eql 52 (agg #[int i64 a,int i64 b]) (agg #[int i64 c,int i64 d])).run Tryz.prog w=.ok (.bool (tyE (a,b) (c,d))) w:=by
 go_simp
 unfold tyE;by_cases h:a=c <;> by_cases h':b=d <;> simp[h,h']
theorem zc1(a b c d:Int)(w:World):(binOp .neq 52 (agg #[int i64 a,int i64 b]) (agg #[int i64 c,int i64 d])).run Tryz.prog w=.ok (.bool (!tyE (a,b) (c,d))) w:=by
 go_simp
 unfold tyE;by_cases h:a=c <;> by_cases h':b=d <;> simp[h,h']
def ZX(P:Pr8)(f:Fu8):Bool:=match jN P f.sig with
 | none=>false
 | some s=>decide (s.1.length≤f.regs.length) && (List.range s.1.length).all fun k=>tyE (f.regs.getD k (0,0)) (s.1.getD k (0,0))
theorem zgk{P:Pr8}{f:Fu8}(h:PrC w pb po P)(hf:FuC w fb fo f):Calls Tryz.prog 127 #[pointer (some ⟨pb,po,none⟩),pointer (some ⟨fb,fo,none⟩)] w fun e w'=>e=.returned (.bool (ZX P f))∧za [] w w':=by
 have HSG:=hid (Zo h (za.refl [] w) f.sig);obtain ⟨ra,rp,c1,rr,_,hrl⟩:=hf.c1;have c0:=hf.c0.1;have HRR:=hid rr;have C1:Box (∀ w',za [] w w'→w'.cell? ⟨fb,fo+1,none⟩=some (.slice ra f.regs.length rp)):=hid fun w' k=>zb k c1
 have HE:Box (ZX P f=match jN P f.sig with
  | none=>false
  | some s=>decide (s.1.length≤f.regs.length) && (List.range s.1.length).all fun k=>tyE (f.regs.getD k (0,0)) (s.1.getD k (0,0))):=hid rfl
 obtain ⟨R,hR⟩:∃ R,R=f.regs.length:=⟨_,rfl⟩;have HRN:=hid hR;rw[← hR] at C1;clear h hf rr c1 hrl hR;generalize jN P f.sig=O at *;go_enter Tryz.func127,Tryz.ntmps127;go_wp2_with fail;refine HSG.o.mono ?_;intro e w1 h1;obtain ⟨k1,sa,sp,n,t1,t2,rfl,hs⟩:=h1.open;have hb:=zd w1 (.cells #[.slice sa n sp,int i64 t1,int i64 t2] 59);have K1:=hid (k1.quiet (za.alloc [] w1 (.cells #[.slice sa n sp,int i64 t1,int i64 t2] 59)));have HB:=hid hb;have HS:=hid hs;clear h1 k1 hb hs c0;go_upto_region 2 with fail;generalize w1.alloc (.cells #[.slice sa n sp,int i64 t1,int i64 t2] 59)=w2 at *;generalize w1.heap.size=q at *;have c1:=C1.o _ K1.o;have s0:=zc HB.o 0;cases O with
 | none=>
  have HF:Box (ZX P f=false):=hid HE.o;clear HE HS;go_quiet (fail);go_wp2_with fail;go_ret;exact ⟨by rw[HF.o];rfl,K1.o.quiet (za.drewN _ _ _)⟩
 | some s=>
  obtain ⟨e1,_,_,hrs,hm⟩:=HS.o s rfl;have HSL:=hid e1;have HSR:=hid hrs;have hn9:(n:Int)≤9223372036854775807:=by unfold maxLen at hm;omega
  have HF:Box (ZX P f=(decide (n≤R) && (List.range n).all fun k=>tyE (f.regs.getD k (0,0)) (s.1.getD k (0,0)))):=hid (by rw[HE.o,HSL.o,HRN.o]);clear HE HS e1 hrs hm;by_cases hle:n≤R
  case neg=>
   have hle':(R:Int)<(n:Int):=by omega
   have HG:Box (ZX P f=false):=hid (by rw[HF.o];simp[hle]);clear hle HF;go_quiet (fail);go_wp2_with fail;go_ret;exact ⟨by rw[HG.o];rfl,K1.o.quiet (za.drewN _ _ _)⟩
  have hle':¬ (R:Int)<(n:Int):=by omega
  have HG:Box (ZX P f=(List.range n).all fun k=>tyE (f.regs.getD k (0,0)) (s.1.getD k (0,0))):=hid (by rw[HF.o];simp[hle]);clear HF;go_quiet (fail);go_upto_region 4 with fail;generalize hwd:w2.drewN nq=wd at *;have KD:za [] w2 wd:=by rw[← hwd];exact za.drewN _ _ _
  have K2:=hid (K1.o.quiet KD);have HBD:=hid (ze HB.o KD);have s0:=zc HBD.o 0;clear hwd KD c1;go_wp2_with fail;clear s0
  go_loopw [34] (fun kv wr=>∃ k:Nat,k≤n∧kv=int i64 (k:Int)∧Box (za [] w wr)∧Box (∀ j,j<k→tyE (f.regs.getD j (0,0)) (s.1.getD j (0,0))=true)) (fun kv _=>n - (intOf kv).toNat)
  case atStart=>exact ⟨0,by omega,rfl,K2,hid fun j hj=>by omega⟩
  case round=>
   obtain ⟨k,hk,rfl,HK,HA⟩:=hrel;by_cases hlt:k<n
   ·have hlt':(k:Int)<(n:Int):=by omega
    have hkr:(k:Int)<(R:Int):=by omega
    obtain ⟨b,off,rfl,hc⟩:=HSR.o.at (zi (l:=s.1) (k:=k) (d:=(0,0)) (by rw[← HSL.o];exact hlt));obtain ⟨b',off',rfl,hc'⟩:=HRR.o.at (zi (l:=f.regs) (k:=k) (d:=(0,0)) (by rw[← HRN.o];omega));have d0:=zb HK.o hc.c0.1;have d1:=zb HK.o hc.c1.1;have KA:=hid (HK.o.quiet (za.alloc [] wr (.cells #[int i64 (s.1.getD k (0,0)).1,int i64 (s.1.getD k (0,0)).2] 52)));have hn:=zd wr (.cells #[int i64 (s.1.getD k (0,0)).1,int i64 (s.1.getD k (0,0)).2] 52);have g0:=zb KA.o hc'.c0.1;have g1:=zb KA.o hc'.c1.1;have c1:=C1.o _ KA.o;have REL:Box (tyE (f.regs.getD k (0,0)) (s.1.getD k (0,0))=true→∀ j,j<k+1→tyE (f.regs.getD j (0,0)) (s.1.getD j (0,0))=true):=hid fun hg j hj=>by
     by_cases e:j<k
     ·exact HA.o j e
     ·obtain rfl:j=k:=by omega
      exact hg
    have BAD:Box (tyE (f.regs.getD k (0,0)) (s.1.getD k (0,0))=false→ZX P f=false):=hid fun hg=>by
     rw[HG.o,List.all_eq_false];exact ⟨k,List.mem_range.2 hlt,by rw[hg];simp⟩
    have HNW:=hid hn;clear hc hc' hn;generalize s.1.getD k (0,0)=T at *;generalize f.regs.getD k (0,0)=U at *;go_upto_region 7 with fail;generalize wr.alloc (.cells #[int i64 T.1,int i64 T.2] 52)=w5 at *;generalize wr.heap.size=q5 at *;have f0:=zc HNW.o 0;have f1:=zc HNW.o 1;have rn:=fun w'=>zc1 U.1 U.2 T.1 T.2 w';clear d0 d1;cases hg:tyE U T with
    | true=>
     have hg':tyE (U.1,U.2) (T.1,T.2)=true:=hg;rw[hg'] at rn;have HR2:=hid (REL.o hg);clear hg hg';go_quiet (fail);go_wp2_with fail;go_roundw
     case rel=>exact ⟨k+1,by omega,by go_num,hid (KA.o.quiet (za.drewN _ _ _)),HR2⟩
     case measure=>simp[intOf];omega
    | false=>
     have hg':tyE (U.1,U.2) (T.1,T.2)=false:=hg;rw[hg'] at rn;have HF:=hid (BAD.o hg);clear hg hg';go_quiet (fail);go_wp2_with fail;go_ret;exact ⟨by rw[HF.o];rfl,KA.o.quiet (za.drewN _ _ _)⟩
   ·obtain rfl:n=k:=by omega
    have HF:Box (ZX P f=true):=hid (by rw[HG.o,List.all_eq_true];exact fun j hj=>HA.o j (List.mem_range.1 hj));go_wp2_with fail;go_ret;exact ⟨by rw[HF.o];rfl,HK.o⟩
end Go.Proofs.YthflgjkmbakedaaGreatDoor
