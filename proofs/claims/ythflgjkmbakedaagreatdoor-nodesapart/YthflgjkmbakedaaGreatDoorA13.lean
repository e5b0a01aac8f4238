import Derived.Test.YthflgjkmbakedaaGreatDoorA05

namespace Go.Proofs.YthflgjkmbakedaaGreatDoor
open Go.RowKit
open Go.Value (int pointer agg)
open Go.IntKind (i64)
set_option maxRecDepth 40000
set_option maxHeartbeats 40000000
variable {P:Pr8}{f:Fu8}{k m n p s:Nat}{w wr wy:World}
theorem qB(k:Int)(n:Nat)(w:World):Calls Tryz.prog 199 #[int i64 k,int i64 (n:Int)] w fun e w'=>e=.returned (.bool (inB k n))∧w'=w:=by
 unfold inB;by_cases h0:0≤k
 ·by_cases h1:k<(n:Int)
  ·go_enter Tryz.func199,Tryz.ntmps199
   go_wp2;go_ret;simp[h0,h1]
  ·go_enter Tryz.func199,Tryz.ntmps199
   go_wp2;go_ret;simp[h1]
 ·have e:=hid (show (decide (0≤k) && decide (k<(n:Int)))=false by rw[decide_eq_false h0];rfl)
  go_enter Tryz.func199,Tryz.ntmps199;go_wp2;go_ret;exact ⟨by rw[e.o];rfl,rfl⟩
theorem zgd(w wa:World)(k:zc [] w wa)(v:Value)(l:List Nat)(x:Nat)(hv:wa.ownsRow w.heap.size 3 1 v l.length (jE l))(ty:TypeId)(b c:Nat)(hb:wa.cell? ⟨b,0,none⟩=some (int i64 (x:Int)))(hl:l.length<1000):
  ∃ v' w',(Builtin.append_ #[36,36] ty #[v,.slice (some ⟨b,0,none⟩) 1 c]).run Tryz.prog wa=.ok v' w'∧w'.ownsRow w.heap.size 3 1 v' (l ++ [x]).length (jE (l ++ [x]))∧zc [] w w':=by
 obtain ⟨v',w',hr,ho,hg,_⟩:=run_append_own (P:=Tryz.prog) wa w.heap.size 36 ty 3 Tryz.t3 (int i64 0) 1 8 zE zU qu qs zX rfl (by decide) v l.length (jE l) hv ⟨b,0,none⟩ 1 c [int i64 (x:Int)] rfl (fun j u e=>by
  cases j with
  | zero=>simp at e;subst e;exact hb
  | succ j=>simp at e) (fun u hu=>by simp at hu;subst hu;rfl) (by unfold maxLen;omega) (by omega) k.size
 refine ⟨v',w',hr,?_,k.appended hv hg (Nat.le_refl _)⟩;have e:jE (l ++ [x])=jE l ++ [int i64 (x:Int)]:=by unfold jE;rw[List.map_append];rfl
 rw[e,List.length_append];exact ho
theorem ql{ops:Array Oper}{rest:List Oper}{o:Oper}{a:Act}{Q:Exit→Act→World→Prop}(w0 w:World)(hgd:o.guard=none)(s x':Operand)
  (ho:o.op=.call { callee:=.builtin .append,args:=#[s,x'],argTypes:=#[36,36] })
  (l:List Nat) (x:Nat) (v:Value) (hs:a.eval s=v) (hv:w.ownsRow w0.heap.size 3 1 v l.length (jE l)) (k:zc [] w0 w) (z:Int) (hz:z=(x:Int))
  (b c:Nat) (hx:a.eval x'=.slice (some ⟨b,0,none⟩) 1 c) (hb:w.cell? ⟨b,0,none⟩=some (int i64 z)) (hl:l.length<1000)
  (h:∀ v' w',w'.ownsRow w0.heap.size 3 1 v' (l ++ [x]).length (jE (l ++ [x]))→zc [] w0 w'→wpList Tryz.prog ops Q rest (a.put o.dst v') w'):
  wpList Tryz.prog ops Q (o :: rest) a w:=by
 refine wpList_plain hgd fun K hK=> ?_;obtain ⟨v',w',hr,h2,h3⟩:=zgd w0 w k v l x hv o.type b c (hz ▸ hb) hl;unfold Oper.wp execOp;simp only[ho,resolve,invoke,builtin,Sem.run_bind,Sem.run_pure,Result.andThen_ok,List.map_toArray,List.map_cons,List.map_nil,hs,hx,hr];exact hK _ _ (h v' w' h2 h3)
def zmW(w w':World)(v:Value)(l:List Nat):Prop:=w'.ownsRow w.heap.size 3 1 v l.length (jE l)
theorem zcZ{q o:Nat}{x:Bl8}(h:BlC w q o x)(n:Nat):
  Calls Tryz.prog 200 #[pointer (some ⟨q,o,none⟩),int i64 (n:Int)] w fun e w'=>∃ v,e=.returned v∧zmW w w' v (tgB n x)∧zc [] w w':=by
 have c1:=h.c1.1;have c3:=h.c3.1;have c4:=h.c4.1;clear h;have HW:Box (∀ k w,Calls Tryz.prog 199 #[int i64 k,int i64 (n:Int)] w fun e w'=>e=.returned (.bool (inB k n))∧w'=w):=hid fun k w=>qB k n w;have HA:=hid (zgd w);have HNIL:Box (w.ownsRow w.heap.size 3 1 (.slice none 0 0) 0 (jE [])):=hid (World.ownsRow_nil w _ _ _);have ct:Box (∀ v,(w.alloc (.cells #[v] 3)).cell? ⟨w.heap.size,0,none⟩=some v):=hid fun v=>by rw[World.cell?_alloc_at _ _ _ _ rfl];rfl
 unfold zmW tgB;by_cases f1:x.fin=1
 ·rw[f1] at c1
  by_cases t1:inB x.to n=true
  ·have e:=hid (show (if (x.fin=1∨x.fin=2)∧inB x.to n=true then [x.to.toNat] else []) ++ (if x.fin=2∧x.els≠x.to∧inB x.els n=true then [x.els.toNat] else [])=[] ++ [x.to.toNat] by simp[f1,t1])
   have ht:=hid (show x.to=(x.to.toNat:Int) by have:=zt.1 t1;omega);rw[e.o];clear e f1;go_enter Tryz.func200,Tryz.ntmps200;go_upto_region 4 with (go_at_call 199;refine (HW.o _ _).mono ?_;rintro e w3 ⟨rfl,rfl⟩;rw[t1])
   generalize Value.slice none 0 0=v0 at HNIL ⊢;go_wp2_with (at_builtin;go_must (refine ql w3 _ rfl _ _ rfl [] x.to.toNat v0 rfl (HNIL.o.alloc _) (zc.alloc [] _ _) x.to ht.o _ _ rfl (ct.o _) (by simp) ?_;intro v1 w4 ho4 hk4));have d1:=za hk4 c1;have d3:=za hk4 c3;have d4:=za hk4 c4;clear c1 c3 c4;have HO4:=hid ho4;have HK4:=hid hk4;clear ho4 hk4;go_quiet (fail);go_wp2;go_ret;exact ⟨_,rfl,HO4.o,HK4.o.quiet (zc.drewN [] _ _)⟩
  ·rw[Bool.not_eq_true] at t1
   have e:=hid (show (if (x.fin=1∨x.fin=2)∧inB x.to n=true then [x.to.toNat] else []) ++ (if x.fin=2∧x.els≠x.to∧inB x.els n=true then [x.els.toNat] else [])=[] by simp[f1,t1]);rw[e.o];clear e f1;go_enter Tryz.func200,Tryz.ntmps200;go_upto_region 5 with (go_at_call 199;refine (HW.o _ _).mono ?_;rintro e w3 ⟨rfl,rfl⟩;rw[t1])
   go_quiet (fail);go_wp2;go_ret;exact ⟨_,rfl,HNIL.o,(zc.refl [] w3).quiet (zc.drewN [] _ _)⟩
 by_cases f2:x.fin=2
 ·rw[f2] at c1
  by_cases t1:inB x.to n=true
  ·by_cases e1:x.els=x.to
   ·have e:=hid (show (if (x.fin=1∨x.fin=2)∧inB x.to n=true then [x.to.toNat] else []) ++ (if x.fin=2∧x.els≠x.to∧inB x.els n=true then [x.els.toNat] else [])=[] ++ [x.to.toNat] by simp[f2,t1,e1])
    have ht:=hid (show x.to=(x.to.toNat:Int) by have:=zt.1 t1;omega);rw[e.o];have o3:(x.els != x.to)=false:=by simpa using e1
    clear e f1 f2 e1;go_enter Tryz.func200,Tryz.ntmps200;go_upto_region 4 with (go_at_call 199;refine (HW.o _ _).mono ?_;rintro e w3 ⟨rfl,rfl⟩;rw[t1])
    generalize Value.slice none 0 0=v0 at HNIL ⊢;go_wp2_with (at_builtin;go_must (refine ql w3 _ rfl _ _ rfl [] x.to.toNat v0 rfl (HNIL.o.alloc _) (zc.alloc [] _ _) x.to ht.o _ _ rfl (ct.o _) (by simp) ?_;intro v1 w4 ho4 hk4));have d1:=za hk4 c1;have d3:=za hk4 c3;have d4:=za hk4 c4;clear c1 c3 c4;have HO4:=hid ho4;have HK4:=hid hk4;clear ho4 hk4;go_quiet (fail);go_wp2;go_ret;exact ⟨_,rfl,HO4.o,HK4.o.quiet (zc.drewN [] _ _)⟩
   by_cases u1:inB x.els n=true
   ·have e:=hid (show (if (x.fin=1∨x.fin=2)∧inB x.to n=true then [x.to.toNat] else []) ++ (if x.fin=2∧x.els≠x.to∧inB x.els n=true then [x.els.toNat] else [])=([] ++ [x.to.toNat]) ++ [x.els.toNat] by simp[f2,t1,e1,u1])
    have ht:=hid (show x.to=(x.to.toNat:Int) by have:=zt.1 t1;omega);have hu:=hid (show x.els=(x.els.toNat:Int) by have:=zt.1 u1;omega);rw[e.o];have o3:(x.els != x.to)=true:=by simpa using e1
    clear e f1 f2 e1;have HWU:Box (∀ w,Calls Tryz.prog 199 #[int i64 x.els,int i64 (n:Int)] w fun e w'=>e=.returned (.bool true)∧w'=w):=hid fun w=>by have:=qB x.els n w;rw[u1] at this;exact this
    go_enter Tryz.func200,Tryz.ntmps200;go_upto_region 4 with (go_at_call 199;refine (HW.o _ _).mono ?_;rintro e w3 ⟨rfl,rfl⟩;rw[t1])
    generalize Value.slice none 0 0=v0 at HNIL ⊢;go_wp2_with (at_builtin;go_must (refine ql w3 _ rfl _ _ rfl [] x.to.toNat v0 rfl (HNIL.o.alloc _) (zc.alloc [] _ _) x.to ht.o _ _ rfl (ct.o _) (by simp) ?_;intro v1 w4 ho4 hk4));have d1:=za hk4 c1;have d3:=za hk4 c3;have d4:=za hk4 c4;clear c1 c3 c4;have HO4:=hid ho4;have HK4:=hid hk4;clear ho4 hk4;go_quiet ((go_at_call 199;exact Calls.quiet_of_same (HWU.o _)));have ct2:Box (∀ v,((w4.drewN nq).alloc (.cells #[v] 3)).cell? ⟨(w4.drewN nq).heap.size,0,none⟩=some v):=hid fun v=>by rw[World.cell?_alloc_at _ _ _ _ rfl];rfl
    have HO5:Box ((w4.drewN nq).ownsRow w3.heap.size 3 1 v1 ([] ++ [x.to.toNat]).length (jE ([] ++ [x.to.toNat]))):=hid HO4.o;have HK5:Box (zc [] w3 (w4.drewN nq)):=hid (HK4.o.quiet (zc.drewN [] _ _));go_wp2_with (at_builtin;go_must (refine ql w3 _ rfl _ _ rfl ([] ++ [x.to.toNat]) x.els.toNat v1 rfl (HO5.o.alloc _) (HK5.o.quiet (zc.alloc [] _ _)) x.els hu.o _ _ rfl (ct2.o _) (by simp) ?_;intro v2 w5 ho5 hk5));go_ret;exact ⟨_,rfl,ho5,hk5⟩
   ·rw[Bool.not_eq_true] at u1
    have e:=hid (show (if (x.fin=1∨x.fin=2)∧inB x.to n=true then [x.to.toNat] else []) ++ (if x.fin=2∧x.els≠x.to∧inB x.els n=true then [x.els.toNat] else [])=[] ++ [x.to.toNat] by simp[f2,t1,e1,u1]);have ht:=hid (show x.to=(x.to.toNat:Int) by have:=zt.1 t1;omega);rw[e.o];have o3:(x.els != x.to)=true:=by simpa using e1
    clear e f1 f2 e1;have HWU:Box (∀ w,Calls Tryz.prog 199 #[int i64 x.els,int i64 (n:Int)] w fun e w'=>e=.returned (.bool false)∧w'=w):=hid fun w=>by have:=qB x.els n w;rw[u1] at this;exact this
    go_enter Tryz.func200,Tryz.ntmps200;go_upto_region 4 with (go_at_call 199;refine (HW.o _ _).mono ?_;rintro e w3 ⟨rfl,rfl⟩;rw[t1])
    generalize Value.slice none 0 0=v0 at HNIL ⊢;go_wp2_with (at_builtin;go_must (refine ql w3 _ rfl _ _ rfl [] x.to.toNat v0 rfl (HNIL.o.alloc _) (zc.alloc [] _ _) x.to ht.o _ _ rfl (ct.o _) (by simp) ?_;intro v1 w4 ho4 hk4));have d1:=za hk4 c1;have d3:=za hk4 c3;have d4:=za hk4 c4;clear c1 c3 c4;have HO4:=hid ho4;have HK4:=hid hk4;clear ho4 hk4;go_quiet ((go_at_call 199;exact Calls.quiet_of_same (HWU.o _)));go_wp2;go_ret;exact ⟨_,rfl,HO4.o,HK4.o.quiet (zc.drewN [] _ _)⟩
  ·rw[Bool.not_eq_true] at t1
   by_cases e1:x.els=x.to
   ·have e:=hid (show (if (x.fin=1∨x.fin=2)∧inB x.to n=true then [x.to.toNat] else []) ++ (if x.fin=2∧x.els≠x.to∧inB x.els n=true then [x.els.toNat] else [])=[] by simp[f2,t1,e1])
    rw[e.o];have o3:(x.els != x.to)=false:=by simpa using e1
    clear e f1 f2 e1;go_enter Tryz.func200,Tryz.ntmps200;go_upto_region 5 with (go_at_call 199;refine (HW.o _ _).mono ?_;rintro e w3 ⟨rfl,rfl⟩;rw[t1])
    go_quiet (fail);go_wp2;go_ret;exact ⟨_,rfl,HNIL.o,(zc.refl [] w3).quiet (zc.drewN [] _ _)⟩
   by_cases u1:inB x.els n=true
   ·have e:=hid (show (if (x.fin=1∨x.fin=2)∧inB x.to n=true then [x.to.toNat] else []) ++ (if x.fin=2∧x.els≠x.to∧inB x.els n=true then [x.els.toNat] else [])=[] ++ [x.els.toNat] by simp[f2,t1,e1,u1])
    have hu:=hid (show x.els=(x.els.toNat:Int) by have:=zt.1 u1;omega);rw[e.o];have o3:(x.els != x.to)=true:=by simpa using e1
    clear e f1 f2 e1;have HWU:Box (∀ w,Calls Tryz.prog 199 #[int i64 x.els,int i64 (n:Int)] w fun e w'=>e=.returned (.bool true)∧w'=w):=hid fun w=>by have:=qB x.els n w;rw[u1] at this;exact this
    go_enter Tryz.func200,Tryz.ntmps200;go_upto_region 5 with (go_at_call 199;refine (HW.o _ _).mono ?_;rintro e w3 ⟨rfl,rfl⟩;rw[t1])
    go_quiet ((go_at_call 199;exact Calls.quiet_of_same (HWU.o _)));generalize Value.slice none 0 0=v0 at HNIL ⊢;have ct2:Box (∀ v,((w3.drewN nq).alloc (.cells #[v] 3)).cell? ⟨(w3.drewN nq).heap.size,0,none⟩=some v):=hid fun v=>by rw[World.cell?_alloc_at _ _ _ _ rfl];rfl
    have HO5:Box ((w3.drewN nq).ownsRow w3.heap.size 3 1 v0 ([]:List Nat).length (jE ([]:List Nat))):=hid HNIL.o;have HK5:Box (zc [] w3 (w3.drewN nq)):=hid ((zc.refl [] w3).quiet (zc.drewN [] _ _));go_wp2_with (at_builtin;go_must (refine ql w3 _ rfl _ _ rfl ([]:List Nat) x.els.toNat v0 rfl (HO5.o.alloc _) (HK5.o.quiet (zc.alloc [] _ _)) x.els hu.o _ _ rfl (ct2.o _) (by simp) ?_;intro v2 w5 ho5 hk5));go_ret;exact ⟨_,rfl,ho5,hk5⟩
   ·rw[Bool.not_eq_true] at u1
    have e:=hid (show (if (x.fin=1∨x.fin=2)∧inB x.to n=true then [x.to.toNat] else []) ++ (if x.fin=2∧x.els≠x.to∧inB x.els n=true then [x.els.toNat] else [])=[] by simp[f2,t1,e1,u1]);rw[e.o];have o3:(x.els != x.to)=true:=by simpa using e1
    clear e f1 f2 e1;have HWU:Box (∀ w,Calls Tryz.prog 199 #[int i64 x.els,int i64 (n:Int)] w fun e w'=>e=.returned (.bool false)∧w'=w):=hid fun w=>by have:=qB x.els n w;rw[u1] at this;exact this
    go_enter Tryz.func200,Tryz.ntmps200;go_upto_region 5 with (go_at_call 199;refine (HW.o _ _).mono ?_;rintro e w3 ⟨rfl,rfl⟩;rw[t1])
    go_quiet ((go_at_call 199;exact Calls.quiet_of_same (HWU.o _)));go_wp2;go_ret;exact ⟨_,rfl,HNIL.o,(zc.refl [] w3).quiet (zc.drewN [] _ _)⟩
 have e:=hid (show (if (x.fin=1∨x.fin=2)∧inB x.to n=true then [x.to.toNat] else []) ++ (if x.fin=2∧x.els≠x.to∧inB x.els n=true then [x.els.toNat] else [])=[] by simp[f1,f2]);rw[e.o];have o1:=(show (x.fin == 1)=false by simpa using f1);have o2:=(show (x.fin == 2)=false by simpa using f2);clear e f1 f2;go_enter Tryz.func200,Tryz.ntmps200;go_upto_region 5 with fail;go_quiet (fail);go_wp2;go_ret;exact ⟨_,rfl,HNIL.o,(zc.refl [] w).quiet (zc.drewN [] _ _)⟩
theorem zgu(h:qF P.recs 6 zc7=false):qJ P=false:=by unfold qJ zen;rw[h];simp
theorem zfQ(h:qF P.sigs 10 zcw=false):qJ P=false:=by unfold qJ zen;rw[h];simp
theorem zfF(h:qF P.ifs 4 ifB=false):qJ P=false:=by unfold qJ zen;rw[h];simp
theorem zgO(h:qF P.ims 12 imB=false):qJ P=false:=by unfold qJ zen;rw[h];simp
theorem zgt(h:qF P.funcs 12 fnB=false):qJ P=false:=by unfold qJ zen;rw[h];simp
theorem ziP(h:P.funcs.length=0):qJ P=false:=by unfold qJ zen;rw[h];simp
theorem QP(hk:k<P.funcs.length)(h:fnB (zf P k)=false):qJ P=false:=zgt (qv (zg hk) h)
theorem zh9(h:16<f.regs.length):fnB f=false:=by
 unfold fnB;have:¬ f.regs.length≤16:=by omega
 simp[this]
theorem zhB(h:f.blocks.length=0):fnB f=false:=by unfold fnB;rw[h];simp
theorem Jn(h:qF f.blocks 12 zbZ=false):fnB f=false:=by unfold fnB;rw[h];simp
theorem zjY(h1:f.regs.length≤16)(h2:0<f.blocks.length)(h3:qF f.blocks 12 zbZ=true):fnB f=true:=by unfold fnB;simp[h1,h2,h3]
theorem zi2{b:Bl8}(hk:k<b.code.length)(h:4<(zT b k).args.length):zbZ b=false:=by
 refine qv (show b.code[k]? = some (zT b k) from zg hk) ?_;unfold zdC;exact decide_eq_false (by omega)
theorem zkw(hf:0<P.funcs.length)(h0:qF P.recs 6 zc7=true)(h1:qF P.sigs 10 zcw=true)(h2:qF P.ifs 4 ifB=true)(h3:qF P.ims 12 imB=true)(h4:qF P.funcs 12 fnB=true):qJ P=(decide ((pts P).length≤600) && decide (jA P (pts P)≤40)):=by
 unfold qJ zen;rw[h0,h1,h2,h3,h4];simp[hf]
theorem zh2(P:Pr8)(f b:Nat):Jw P (f,b,(zr (zf P f) b).code.length)=false:=by
 unfold Jw;simp
theorem zjW{f b i:Nat}(h:i<(zr (zf P f) b).code.length):Jw P (f,b,i)=decide ((zT (zr (zf P f) b) i).op=5):=by
 unfold Jw;simp[h]
structure Cnt (P:Pr8) (l:List (Nat × Nat × Nat)) (n s m:Nat):Prop where
 en:n=l.length
 es:s=jA P l
 em:n≤m
theorem Cnt.nil(P:Pr8)(m:Nat):Cnt P [] 0 0 m:=⟨rfl,rfl,Nat.zero_le _⟩
theorem Cnt.le{l:List (Nat × Nat × Nat)}(h:Cnt P l n s m):s≤n:=by rw[h.es,h.en];exact zae P l
theorem Cnt.snoc{l:List (Nat × Nat × Nat)}(h:Cnt P l n s m)(q:Nat × Nat × Nat):Cnt P (l ++ [q]) (n+1) (s+(if Jw P q then 1 else 0)) (m+1):=
 ⟨by rw[List.length_append,h.en];rfl,by rw[JR,h.es],by have:=h.em;omega⟩
theorem Cnt.cast{l l':List (Nat × Nat × Nat)}{n' s' m':Nat}(h:Cnt P l n s m)(e1:l=l')(e2:n=n')(e3:s=s')(e4:m≤m'):Cnt P l' n' s' m':=by
 subst e1 e2 e3;exact ⟨h.en,h.es,Nat.le_trans h.em e4⟩
theorem zak{pb po:Nat}(h:PrC w pb po P):Calls Tryz.prog 11 #[pointer (some ⟨pb,po,none⟩)] w fun e w'=>e=.returned (.bool (qJ P))∧zc [] w w':=by
 obtain ⟨a0,p0,c0,r0,_⟩:=h.c0;obtain ⟨a1,p1,c1,r1,_⟩:=h.c1;obtain ⟨a2,p2,c2,r2,_⟩:=h.c2;obtain ⟨a3,p3,c3,r3,_⟩:=h.c3;obtain ⟨a4,p4,c4,r4,_⟩:=h.c4;have R0:=hid r0;obtain ⟨n0,hn0⟩:∃ n,n=P.recs.length:=⟨_,rfl⟩;rw[← hn0] at c0;have N0:=hid hn0;have R1:=hid r1;obtain ⟨n1,hn1⟩:∃ n,n=P.sigs.length:=⟨_,rfl⟩;rw[← hn1] at c1;have N1:=hid hn1;have R2:=hid r2;obtain ⟨n2,hn2⟩:∃ n,n=P.ifs.length:=⟨_,rfl⟩;rw[← hn2] at c2;have N2:=hid hn2;have R3:=hid r3;obtain ⟨n3,hn3⟩:∃ n,n=P.ims.length:=⟨_,rfl⟩;rw[← hn3] at c3;have N3:=hid hn3;have R4:=hid r4;obtain ⟨n4,hn4⟩:∃ n,n=P.funcs.length:=⟨_,rfl⟩;rw[← hn4] at c4;have N4:=hid hn4;have C4:Box (∀ w',zc [] w w'→w'.cell? ⟨pb,po+4,none⟩=some (.slice a4 n4 p4)):=hid (by have c:=c4;exact fun w' k=>za k c);clear r0 r1 r2 r3 r4 hn0 hn1 hn2 hn3 hn4 h;by_cases g0:n0≤6
 case neg=>
  have g0':(6:Int)<(n0:Int):=by omega
  have HR:Box (qJ P=false):=hid (zgu (qj (by rw[← N0.o];omega)));clear g0;go_enter Tryz.func11,Tryz.ntmps11;go_wp2;go_ret;exact ⟨by rw[HR.o];rfl,zc.refl _ _⟩
 have g0':¬ (6:Int)<(n0:Int):=by omega
 by_cases g1:n1≤10
 case neg=>
  have g1':(10:Int)<(n1:Int):=by omega
  have HR:Box (qJ P=false):=hid (zfQ (qj (by rw[← N1.o];omega)));clear g1;go_enter Tryz.func11,Tryz.ntmps11;go_wp2;go_ret;exact ⟨by rw[HR.o];rfl,zc.refl _ _⟩
 have g1':¬ (10:Int)<(n1:Int):=by omega
 by_cases g2:n2≤4
 case neg=>
  have g2':(4:Int)<(n2:Int):=by omega
  have HR:Box (qJ P=false):=hid (zfF (qj (by rw[← N2.o];omega)));clear g2;go_enter Tryz.func11,Tryz.ntmps11;go_wp2;go_ret;exact ⟨by rw[HR.o];rfl,zc.refl _ _⟩
 have g2':¬ (4:Int)<(n2:Int):=by omega
 by_cases g3:n3≤12
 case neg=>
  have g3':(12:Int)<(n3:Int):=by omega
  have HR:Box (qJ P=false):=hid (zgO (qj (by rw[← N3.o];omega)));clear g3;go_enter Tryz.func11,Tryz.ntmps11;go_wp2;go_ret;exact ⟨by rw[HR.o];rfl,zc.refl _ _⟩
 have g3':¬ (12:Int)<(n3:Int):=by omega
 by_cases g4:n4≤12
 case neg=>
  have g4':(12:Int)<(n4:Int):=by omega
  have HR:Box (qJ P=false):=hid (zgt (qj (by rw[← N4.o];omega)));clear g4;go_enter Tryz.func11,Tryz.ntmps11;go_wp2;go_ret;exact ⟨by rw[HR.o];rfl,zc.refl _ _⟩
 have g4':¬ (12:Int)<(n4:Int):=by omega
 by_cases gz:n4=0
 case pos=>
  have HR:Box (qJ P=false):=hid (ziP (by rw[← N4.o];exact gz));have gz':((n4:Int) == 0)=true:=eqb (by omega);clear gz;go_enter Tryz.func11,Tryz.ntmps11;go_wp2;go_ret;exact ⟨by rw[HR.o];rfl,zc.refl _ _⟩
 have gz':((n4:Int) == 0)=false:=neb (by omega);have HPOS:Box (0<P.funcs.length):=hid (by rw[← N4.o];omega);clear gz;go_enter Tryz.func11,Tryz.ntmps11;go_wp2_with fail;clear gz' g0' g1' g2' g3' g4'
 go_loop [3] (fun kv=>∃ k:Nat,k≤n0∧kv=int i64 (k:Int)∧Box (∀ j y,j<k→P.recs[j]? = some y→zc7 y=true)) (fun kv=>n0 - (intOf kv).toNat)
 case atStart=>exact ⟨0,by omega,rfl,hid fun j y hj=>by omega⟩
 case round=>
  obtain ⟨k,hk,rfl,HB⟩:=hrel;by_cases hlt:k<n0
  ·have hlt':(k:Int)<(n0:Int):=by omega
   obtain ⟨y,hy⟩:∃ y,P.recs[k]? = some y:=⟨_,List.getElem?_eq_getElem (by rw[← N0.o];exact hlt)⟩;obtain ⟨b,off,rfl,hc⟩:=R0.o.at hy;rw[Nat.mul_one] at hc;obtain ⟨ea,ep,e0,_⟩:=hc;have HY:=hid hy;clear hy;obtain ⟨m,hm⟩:∃ m,m=y.length:=⟨_,rfl⟩;rw[← hm] at e0;have HM:=hid hm;clear hm;by_cases hml:m≤4
   ·have hml':¬ (4:Int)<(m:Int):=by omega
    have HG:Box (zc7 y=true):=hid (by unfold zc7;exact decide_eq_true (by rw[← HM.o];exact hml));clear hml;go_wp2_with fail
    go_round
    case rel=>exact ⟨k+1,by omega,by go_num,hid fun j z hj hz=>by
     by_cases e:j<k
     ·exact HB.o j z e hz
     ·obtain rfl:j=k:=by omega
      rw[HY.o] at hz;cases hz
      exact HG.o⟩
    case measure=>simp[intOf];omega
   ·have hml':(4:Int)<(m:Int):=by omega
    have HR:Box (qJ P=false):=hid (zgu (qv HY.o (by unfold zc7;exact decide_eq_false (by rw[← HM.o];exact hml))));clear hml;go_wp2_with fail;go_ret;exact ⟨by rw[HR.o];rfl,zc.refl _ _⟩
  ·obtain rfl:k=n0:=by omega
   have T0:Box (qF P.recs 6 zc7=true):=hid (qi (by rw[← N0.o];exact g0) (fun j y hy=>HB.o j y (by rw[N0.o];exact (List.getElem?_eq_some_iff.1 hy).1) hy));clear HB hk g0;go_wp2_with fail;clear c0 hlt
   go_loop [4] (fun kv=>∃ k:Nat,k≤n1∧kv=int i64 (k:Int)∧Box (∀ j y,j<k→P.sigs[j]? = some y→zcw y=true)) (fun kv=>n1 - (intOf kv).toNat)
   case atStart=>exact ⟨0,by omega,rfl,hid fun j y hj=>by omega⟩
   case round=>
    obtain ⟨k,hk,rfl,HB⟩:=hrel;by_cases hlt:k<n1
    ·have hlt':(k:Int)<(n1:Int):=by omega
     obtain ⟨y,hy⟩:∃ y,P.sigs[k]? = some y:=⟨_,List.getElem?_eq_getElem (by rw[← N1.o];exact hlt)⟩;obtain ⟨b,off,rfl,hc⟩:=R1.o.at hy
     skip
     obtain ⟨ea,ep,e0,_⟩:=hc.c0;have HY:=hid hy;clear hc hy;obtain ⟨m,hm⟩:∃ m,m=y.1.length:=⟨_,rfl⟩;rw[← hm] at e0;have HM:=hid hm;clear hm;by_cases hml:m≤4
     ·have hml':¬ (4:Int)<(m:Int):=by omega
      have HG:Box (zcw y=true):=hid (by unfold zcw;exact decide_eq_true (by rw[← HM.o];exact hml));clear hml;go_wp2_with fail
      go_round
      case rel=>exact ⟨k+1,by omega,by go_num,hid fun j z hj hz=>by
       by_cases e:j<k
       ·exact HB.o j z e hz
       ·obtain rfl:j=k:=by omega
        rw[HY.o] at hz;cases hz
        exact HG.o⟩
      case measure=>simp[intOf];omega
     ·have hml':(4:Int)<(m:Int):=by omega
      have HR:Box (qJ P=false):=hid (zfQ (qv HY.o (by unfold zcw;exact decide_eq_false (by rw[← HM.o];exact hml))));clear hml;go_wp2_with fail;go_ret;exact ⟨by rw[HR.o];rfl,zc.refl _ _⟩
    ·obtain rfl:k=n1:=by omega
     have T1:Box (qF P.sigs 10 zcw=true):=hid (qi (by rw[← N1.o];exact g1) (fun j y hy=>HB.o j y (by rw[N1.o];exact (List.getElem?_eq_some_iff.1 hy).1) hy));clear HB hk g1;go_wp2_with fail;clear c1 hlt
     go_loop [5] (fun kv=>∃ k:Nat,k≤n2∧kv=int i64 (k:Int)∧Box (∀ j y,j<k→P.ifs[j]? = some y→ifB y=true)) (fun kv=>n2 - (intOf kv).toNat)
     case atStart=>exact ⟨0,by omega,rfl,hid fun j y hj=>by omega⟩
     case round=>
      obtain ⟨k,hk,rfl,HB⟩:=hrel;by_cases hlt:k<n2
      ·have hlt':(k:Int)<(n2:Int):=by omega
       obtain ⟨y,hy⟩:∃ y,P.ifs[k]? = some y:=⟨_,List.getElem?_eq_getElem (by rw[← N2.o];exact hlt)⟩;obtain ⟨b,off,rfl,hc⟩:=R2.o.at hy;rw[Nat.mul_one] at hc;obtain ⟨ea,ep,e0,_⟩:=hc;have HY:=hid hy;clear hy;obtain ⟨m,hm⟩:∃ m,m=y.length:=⟨_,rfl⟩;rw[← hm] at e0;have HM:=hid hm;clear hm;by_cases hml:m≤3
       ·have hml':¬ (3:Int)<(m:Int):=by omega
        have HG:Box (ifB y=true):=hid (by unfold ifB;exact decide_eq_true (by rw[← HM.o];exact hml));clear hml;go_wp2_with fail
        go_round
        case rel=>exact ⟨k+1,by omega,by go_num,hid fun j z hj hz=>by
         by_cases e:j<k
         ·exact HB.o j z e hz
         ·obtain rfl:j=k:=by omega
          rw[HY.o] at hz;cases hz
          exact HG.o⟩
        case measure=>simp[intOf];omega
       ·have hml':(3:Int)<(m:Int):=by omega
        have HR:Box (qJ P=false):=hid (zfF (qv HY.o (by unfold ifB;exact decide_eq_false (by rw[← HM.o];exact hml))));clear hml;go_wp2_with fail;go_ret;exact ⟨by rw[HR.o];rfl,zc.refl _ _⟩
      ·obtain rfl:k=n2:=by omega
       have T2:Box (qF P.ifs 4 ifB=true):=hid (qi (by rw[← N2.o];exact g2) (fun j y hy=>HB.o j y (by rw[N2.o];exact (List.getElem?_eq_some_iff.1 hy).1) hy));clear HB hk g2;go_wp2_with fail;clear c2 hlt
       go_loop [6] (fun kv=>∃ k:Nat,k≤n3∧kv=int i64 (k:Int)∧Box (∀ j y,j<k→P.ims[j]? = some y→imB y=true)) (fun kv=>n3 - (intOf kv).toNat)
       case atStart=>exact ⟨0,by omega,rfl,hid fun j y hj=>by omega⟩
       case round=>
        obtain ⟨k,hk,rfl,HB⟩:=hrel;by_cases hlt:k<n3
        ·have hlt':(k:Int)<(n3:Int):=by omega
         obtain ⟨y,hy⟩:∃ y,P.ims[k]? = some y:=⟨_,List.getElem?_eq_getElem (by rw[← N3.o];exact hlt)⟩;obtain ⟨b,off,rfl,hc⟩:=R3.o.at hy
         skip
         obtain ⟨ea,ep,e0,_⟩:=hc.c2;have HY:=hid hy;clear hc hy;obtain ⟨m,hm⟩:∃ m,m=y.2.2.length:=⟨_,rfl⟩;rw[← hm] at e0;have HM:=hid hm;clear hm;by_cases hml:m≤3
         ·have hml':¬ (3:Int)<(m:Int):=by omega
          have HG:Box (imB y=true):=hid (by unfold imB;exact decide_eq_true (by rw[← HM.o];exact hml));clear hml;go_wp2_with fail
          go_round
          case rel=>exact ⟨k+1,by omega,by go_num,hid fun j z hj hz=>by
           by_cases e:j<k
           ·exact HB.o j z e hz
           ·obtain rfl:j=k:=by omega
            rw[HY.o] at hz;cases hz
            exact HG.o⟩
          case measure=>simp[intOf];omega
         ·have hml':(3:Int)<(m:Int):=by omega
          have HR:Box (qJ P=false):=hid (zgO (qv HY.o (by unfold imB;exact decide_eq_false (by rw[← HM.o];exact hml))));clear hml;go_wp2_with fail;go_ret;exact ⟨by rw[HR.o];rfl,zc.refl _ _⟩
        ·obtain rfl:k=n3:=by omega
         have T3:Box (qF P.ims 12 imB=true):=hid (qi (by rw[← N3.o];exact g3) (fun j y hy=>HB.o j y (by rw[N3.o];exact (List.getElem?_eq_some_iff.1 hy).1) hy));clear HB hk g3;go_wp2_with fail;clear c3 hlt;have c4':=c4
         go_loopw [7,8,9] (fun nv sv kv wr=>∃ (k n s:Nat),k≤n4∧kv=int i64 (k:Int)∧nv=int i64 (n:Int)∧sv=int i64 (s:Int)∧Box (Cnt P (ptP P k) n s (372 * k))∧Box (zc [] w wr)∧Box (∀ j,j<k→fnB (zf P j)=true)) (fun _ _ kv _=>n4 - (intOf kv).toNat)
         case atStart=>exact ⟨0,0,0,by omega,rfl,rfl,rfl,hid (Cnt.nil _ _),hid (zc.refl _ _),hid fun j hj=>by omega⟩
         case round=>
          obtain ⟨k,n,s,hk,rfl,rfl,rfl,HC,HK,HB⟩:=hrel;have d4:=C4.o _ HK.o;have hn9:n≤372 * k:=HC.o.em;have hs9:s≤n:=HC.o.le;clear c4 c4';by_cases hlt:k<n4
          ·have hlt':(k:Int)<(n4:Int):=by omega
           have hkf:Box (k<P.funcs.length):=hid (by rw[← N4.o];exact hlt);obtain ⟨fb,fo,rfl,hfu⟩:=R4.o.at (zg (d:=⟨0,[],[]⟩) hkf.o);have hfu':FuC w fb (fo+k * 3) (zf P k):=hfu;obtain ⟨ra,rp,e1,_⟩:=hfu'.c1;obtain ⟨ba,bp,e2,rb,_⟩:=hfu'.c2;have e0:=za HK.o hfu'.c0.1;replace e1:=za HK.o e1;replace e2:=za HK.o e2;have RB:=hid rb;obtain ⟨rn,hrn⟩:∃ m,m=(zf P k).regs.length:=⟨_,rfl⟩;obtain ⟨bn,hbn⟩:∃ m,m=(zf P k).blocks.length:=⟨_,rfl⟩;rw[← hrn] at e1;rw[← hbn] at e2;have HRN:=hid hrn;have HBN:=hid hbn;clear hfu hfu' rb hrn hbn;generalize (zf P k).sig=sg at *;have ka:=zc.alloc [] wr (.cells #[int i64 sg,.slice ra rn rp,.slice ba bn bp] 50);have hnew:=zh wr (.cells #[int i64 sg,.slice ra rn rp,.slice ba bn bp] 50);have HK2:=hid (HK.o.quiet ka);clear ka;by_cases gr:rn≤16
           case neg=>
            have gr':(16:Int)<(rn:Int):=by omega
            have HR:Box (qJ P=false):=hid (QP hkf.o (zh9 (by rw[← HRN.o];omega)));clear gr hn9 hs9;go_wp2_with fail;go_ret;exact ⟨by rw[HR.o];rfl,HK2.o⟩
           have gr':¬ (16:Int)<(rn:Int):=by omega
           by_cases gb:bn≤12
           case neg=>
            have gb':(12:Int)<(bn:Int):=by omega
            have HR:Box (qJ P=false):=hid (QP hkf.o (Jn (qj (by rw[← HBN.o];omega))));clear gb hn9 hs9;go_wp2_with fail;go_ret;exact ⟨by rw[HR.o];rfl,HK2.o⟩
           have gb':¬ (12:Int)<(bn:Int):=by omega
           by_cases gz:bn=0
           case pos=>
            have gz':((bn:Int) == 0)=true:=eqb (by omega);have HR:Box (qJ P=false):=hid (QP hkf.o (zhB (by rw[← HBN.o];exact gz)));clear gz hn9 hs9;go_wp2_with fail;go_ret;exact ⟨by rw[HR.o];rfl,HK2.o⟩
           have gz':((bn:Int) == 0)=false:=neb (by omega);have HFY:=hid fun (hh:qF (zf P k).blocks 12 zbZ=true)=>zjY (f:=zf P k) (by rw[← HRN.o];exact gr) (by rw[← HBN.o];omega) hh;clear gz gr;go_wp2_with fail;clear gz' gr' gb' e0 e1 e2 d4 HK;generalize wr.alloc (.cells #[int i64 sg,.slice ra rn rp,.slice ba bn bp] 50)=w3 at *;generalize wr.heap.size=q at *;have z2:=zd hnew 2;clear hnew;have HC2:Box (Cnt P (ptP P k ++ ptF (zf P k) k 0) n s (372 * k+31 * 0)):=hid (HC.o.cast (by rw[zaV,List.append_nil]) rfl rfl (by omega))
           go_loop [7,8,11] (fun nv sv bv=>∃ (b n s:Nat),b≤bn∧bv=int i64 (b:Int)∧nv=int i64 (n:Int)∧sv=int i64 (s:Int)∧Box (Cnt P (ptP P k ++ ptF (zf P k) k b) n s (372 * k+31 * b))∧Box (∀ j,j<b→zbZ (zr (zf P k) j)=true)) (fun _ _ bv=>bn - (intOf bv).toNat)
           case atStart=>exact ⟨0,n,s,by omega,rfl,rfl,rfl,HC2,hid fun j hj=>by omega⟩
           case round=>
            obtain ⟨b,n,s,hb,rfl,rfl,rfl,HC,HBB⟩:=hrel;clear HC2 hn9 hs9;have hn9:n≤372 * k+31 * b:=HC.o.em;have hs9:s≤n:=HC.o.le;by_cases hlb:b<bn
            ·have hlb':(b:Int)<(bn:Int):=by omega
             have hbf:Box (b<(zf P k).blocks.length):=hid (by rw[← HBN.o];exact hlb);obtain ⟨bb,bo,rfl,hbl⟩:=RB.o.at (show (zf P k).blocks[b]? = some (zr (zf P k) b) from zg hbf.o);obtain ⟨ca,cp,e3,rc,_⟩:=hbl.c0;have E3:=za HK2.o e3;have RC:=hid rc;obtain ⟨cn,hcn⟩:∃ m,m=(zr (zf P k) b).code.length:=⟨_,rfl⟩;rw[← hcn] at E3;have HCN:=hid hcn;clear hbl e3 rc hcn;by_cases gc:cn≤30
             case neg=>
              have gc':(30:Int)<(cn:Int):=by omega
              have HR:Box (qJ P=false):=hid (QP hkf.o (Jn (qv (show (zf P k).blocks[b]? = some (zr (zf P k) b) from zg hbf.o) (qj (by rw[← HCN.o];omega)))));clear gc hn9 hs9;go_wp2_with fail;go_ret;exact ⟨by rw[HR.o];rfl,HK2.o⟩
             have gc':¬ (30:Int)<(cn:Int):=by omega
             go_wp2_with fail;clear gc';have HC3:Box (Cnt P (ptP P k ++ ptF (zf P k) k b ++ ptB k b 0) n s (372 * k+31 * b+0)):=hid (HC.o.cast (by rw[QN,List.append_nil]) rfl rfl (by omega))
             go_loop [7,8,12] (fun nv sv iv=>∃ (i n s:Nat),i≤cn∧iv=int i64 (i:Int)∧nv=int i64 (n:Int)∧sv=int i64 (s:Int)∧Box (Cnt P (ptP P k ++ ptF (zf P k) k b ++ ptB k b i) n s (372 * k+31 * b+i))∧Box (∀ j,j<i→zdC (zT (zr (zf P k) b) j)=true)) (fun _ _ iv=>cn - (intOf iv).toNat)
             case atStart=>exact ⟨0,n,s,by omega,rfl,rfl,rfl,HC3,hid fun j hj=>by omega⟩
             case round=>
              obtain ⟨i,n,s,hi,rfl,rfl,rfl,HC,HIB⟩:=hrel;clear HC3 hn9 hs9;have hn9:n≤372 * k+31 * b+i:=HC.o.em;have hs9:s≤n:=HC.o.le;by_cases hli:i<cn
              ·have hli':(i:Int)<(cn:Int):=by omega
               have hif:Box (i<(zr (zf P k) b).code.length):=hid (by rw[← HCN.o];exact hli);obtain ⟨ib,io,rfl,hin⟩:=RC.o.at (show (zr (zf P k) b).code[i]? = some (zT (zr (zf P k) b) i) from zg hif.o);obtain ⟨ga,gp,e5,_⟩:=hin.c5;have E5:=za HK2.o e5;have E0:=za HK2.o hin.c0.1;obtain ⟨an,han⟩:∃ m,m=(zT (zr (zf P k) b) i).args.length:=⟨_,rfl⟩;rw[← han] at E5;have HAN:=hid han;clear hin e5 han;have HSN:Box (ptP P k ++ ptF (zf P k) k b ++ ptB k b (i+1)=(ptP P k ++ ptF (zf P k) k b ++ ptB k b i) ++ [(k,b,i)]):=hid (by rw[jB, ← List.append_assoc]);have HSI:=hid (zjW (P:=P) (f:=k) (b:=b) hif.o);generalize (zT (zr (zf P k) b) i).op=op at *;by_cases ga':an≤4
               case neg=>
                have g5:(4:Int)<(an:Int):=by omega
                have HR:Box (qJ P=false):=hid (QP hkf.o (Jn (qv (show (zf P k).blocks[b]? = some (zr (zf P k) b) from zg hbf.o) (zi2 hif.o (by rw[← HAN.o];omega)))));clear ga' hn9 hs9;go_wp2_with fail;go_ret;exact ⟨by rw[HR.o];rfl,HK2.o⟩
               have g5:¬ (4:Int)<(an:Int):=by omega
               have HIB2:Box (∀ j,j<i+1→zdC (zT (zr (zf P k) b) j)=true):=hid fun j hj=>by
                by_cases e:j<i
                ·exact HIB.o j e
                ·obtain rfl:j=i:=by omega
                 unfold zdC;exact decide_eq_true (by rw[← HAN.o];exact ga')
               have hn8:(n:Int)≤6000:=by omega
               have hs8:(s:Int)≤6000:=by omega
               by_cases hop:op=5
               ·have hop':=eqb hop
                have HC9:Box (Cnt P (ptP P k ++ ptF (zf P k) k b ++ ptB k b (i+1)) (n+1) (s+1) (372 * k+31 * b+(i+1))):=hid ((HC.o.snoc (k,b,i)).cast HSN.o.symm rfl (by rw[HSI.o];simp[hop]) (by omega));clear hop ga' hn9 hs9;go_wp2_with fail
                go_round
                case rel=>exact ⟨i+1,n+1,s+1,by omega,by go_num,by go_num,by go_num,HC9,HIB2⟩
                case measure=>simp[intOf];omega
               ·have hop':=neb hop
                have HC9:Box (Cnt P (ptP P k ++ ptF (zf P k) k b ++ ptB k b (i+1)) (n+1) s (372 * k+31 * b+(i+1))):=hid ((HC.o.snoc (k,b,i)).cast HSN.o.symm rfl (by rw[HSI.o];simp[hop]) (by omega));clear hop ga' hn9 hs9;go_wp2_with fail
                go_round
                case rel=>exact ⟨i+1,n+1,s,by omega,by go_num,by go_num,rfl,HC9,HIB2⟩
                case measure=>simp[intOf];omega
              ·obtain rfl:i=cn:=by omega
               have hn8:(n:Int)≤6000:=by omega
               have HBL:Box (zbZ (zr (zf P k) b)=true):=hid (qi (by rw[← HCN.o];exact gc) (fun j y hy=>by
                have hj:=(List.getElem?_eq_some_iff.1 hy).1;have:=HIB.o j (by rw[HCN.o];exact hj);rw[show (zr (zf P k) b).code[j]? = some (zT (zr (zf P k) b) j) from zg hj] at hy;cases hy
                exact this))
               have HC9:Box (Cnt P (ptP P k ++ ptF (zf P k) k (b+1)) (n+1) s (372 * k+31 * (b+1))):=hid ((HC.o.snoc (k,b,i)).cast (by rw[qX, ← HCN.o,jB];simp only[List.append_assoc]) rfl (by rw[HCN.o,zh2];simp) (by omega));have HBB2:Box (∀ j,j<b+1→zbZ (zr (zf P k) j)=true):=hid fun j hj=>by
                by_cases e:j<b
                ·exact HBB.o j e
                ·obtain rfl:j=b:=by omega
                 exact HBL.o
               clear hn9 hs9 hlb;go_wp2_with fail
               go_round
               case rel=>exact ⟨b+1,n+1,s,by omega,by go_num,by go_num,rfl,HC9,HBB2⟩
               case measure=>simp[intOf];omega
            ·obtain rfl:b=bn:=by omega
             have HFN:Box (fnB (zf P k)=true):=hid (HFY.o (qi (by rw[← HBN.o];exact gb) (fun j y hy=>by
              have hj:=(List.getElem?_eq_some_iff.1 hy).1;have:=HBB.o j (by rw[HBN.o];exact hj);rw[show (zf P k).blocks[j]? = some (zr (zf P k) j) from zg hj] at hy;cases hy
              exact this)))
             have HC9:Box (Cnt P (ptP P (k+1)) n s (372 * (k+1))):=hid (HC.o.cast (by rw[Z8, ← HBN.o]) rfl rfl (by omega));have HB2:Box (∀ j,j<k+1→fnB (zf P j)=true):=hid fun j hj=>by
              by_cases e:j<k
              ·exact HB.o j e
              ·obtain rfl:j=k:=by omega
               exact HFN.o
             clear hn9 hs9;go_wp2_with fail;go_roundw
             case rel=>exact ⟨k+1,n,s,by omega,by go_num,rfl,rfl,HC9,HK2,HB2⟩
             case measure=>simp[intOf];omega
          ·obtain rfl:k=n4:=by omega
           have T4:Box (qF P.funcs 12 fnB=true):=hid (qi (by rw[← N4.o];exact g4) (fun j y hy=>by
            have hj:=(List.getElem?_eq_some_iff.1 hy).1;have:=HB.o j (by rw[N4.o];exact hj);rw[show P.funcs[j]? = some (zf P j) from zg hj] at hy;cases hy
            exact this))
           have HE:Box (qJ P=(decide (n≤600) && decide (s≤40))):=hid (by
            rw[zkw HPOS.o T0.o T1.o T2.o T3.o T4.o];have e1:ptP P k=pts P:=by rw[N4.o];rfl
            rw[← e1, ← HC.o.en, ← HC.o.es])
           by_cases h6:n≤600
           ·have h6':(n:Int)≤600:=by omega
            have hd:decide ((s:Int)≤40)=decide (s≤40):=by congr 1;exact propext ⟨fun h=>by omega,fun h=>by omega⟩
            have HR:Box (qJ P=decide ((s:Int)≤40)):=hid (by rw[HE.o,hd];simp[h6]);clear hd h6 hn9 hs9 HE;go_wp2_with fail;go_ret;exact ⟨by rw[HR.o];first | rfl | simp,HK.o⟩
           ·have h6':¬ (n:Int)≤600:=by omega
            have HR:Box (qJ P=false):=hid (by rw[HE.o];simp[h6]);clear h6 hn9 hs9 HE;go_wp2_with fail;go_ret;exact ⟨by rw[HR.o];rfl,HK.o⟩
def zaw:Value:=.slice none 0 0
theorem zhk(n:Nat)(hn:n≤1000000)(w:World):(Instr.makeSlice 181 (int i64 (n:Int)) (int i64 (n:Int))).run Tryz.prog w=.ok (.slice (some ⟨w.heap.size,0,none⟩) n n) (w.alloc (.cells (madeCells #[zaw] n) 36)):=
 run_make_row' (P:=Tryz.prog) 181 36 zaw 24 Tryz.underlying181 (by kernel_rfl) rfl .i64 .i64 n (by omega) (by omega) w
theorem zf4(w:World)(n base:Nat)(hb:base≤w.heap.size)(hn:n≤maxLen):qQ (w.alloc (.cells (madeCells #[zaw] n) 36)) base w.heap.size n 36 (fun _=>zaw):=by
 refine qQ.made (z:=zaw) ⟨?_,.inr ⟨w.heap.size,n,_,rfl,hb,heap_alloc_new w _,Nat.le_refl _,hn,?_,?_⟩⟩ rfl
 ·rw[Array.length_toList,size_madeCells]
 ·rw[size_madeCells,Nat.mul_one]
 ·rw[Nat.mul_one]
  exact List.take_of_length_le (by rw[Array.length_toList,size_madeCells];exact Nat.le_refl _)
structure FW (w wr:World) (p n:Nat) (c:Nat→Value) (g:List (List Nat)) (k:Nat):Prop where
 row:qQ wr w.heap.size p n 36 c
 own:∀ j,j<k→wr.ownsRow (p+1) 3 1 (c j) (nb g j).length (jE (nb g j))
 keep:zc [] w wr
theorem FW.quiet{c:Nat→Value}{g:List (List Nat)}(h:FW w wr p n c g k)(q:zc [] wr wy):FW w wy p n c g k:=
 ⟨h.row.kept q (by simp),fun j hj=>zj (h.own j hj) q (fun _ _=>by simp),h.keep.quiet q⟩
theorem FW.put{c:Nat→Value}{g:List (List Nat)}(h:FW w wr p n c g k)(q:zc [] wr wy){v:Value}(hv:zmW wr wy v (nb g k)):FW w (wy.setCell ⟨p,k,none⟩ v) p n (fun i=>if i=k then v else c i) g (k+1):=by
 have h2:=h.quiet q;have kk:zc [p] wy (wy.setCell ⟨p,k,none⟩ v):=zc.setCell _ _ _ _ (by simp);have hp:=h.row.lt;refine ⟨h2.row.put k v,fun j hj=> ?_,h2.keep.fresh kk (fun x hx=>by simp at hx;omega)⟩;by_cases e:j=k
 ·subst e
  rw[if_pos rfl];have hv2:wy.ownsRow (p+1) 3 1 v (nb g j).length (jE (nb g j)):=by
   refine ⟨hv.1,?_⟩;rcases hv.2 with hn | ⟨b,cap,cur,h1,h2,h3⟩
   ·exact .inl hn
   ·exact .inr ⟨b,cap,cur,h1,by omega,h3⟩
  exact zj hv2 kk (fun b hb hx=>by have:=(hv2.lt b hb).1;simp at hx;omega)
 ·rw[if_neg e]
  have:=h2.own j (by omega);exact zj this kk (fun b hb hx=>by have:=(this.lt b hb).1;simp at hx;omega)
theorem FW.kept1{r:Nat}{c:Nat→Value}{g:List (List Nat)}(h:FW w wr p n c g k)(q:zc [r] wr wy)(h1:w.heap.size≤r)(h2:r<p):FW w wy p n c g k:=
 ⟨h.row.kept q (by simp;omega),fun j hj=>zj (h.own j hj) q (fun b hb hx=>by have:=((h.own j hj).lt b hb).1;simp at hx;omega),h.keep.fresh q (fun x hx=>by simp at hx;omega)⟩
theorem Z2{base:Nat}{v:Value}{l:List Nat}(h:w.ownsRow base 3 1 v l.length (jE l)):∃ a c,v=.slice a l.length c∧zbc w w.heap.size a (j5 l):=by
 rcases h.2 with ⟨e,h0⟩ | ⟨g,cap,cur,rfl,hb,hg,hr⟩
 ·have:l=[]:=List.eq_nil_of_length_eq_zero h0
  subst this;exact ⟨none,0,e,.inl rfl⟩
 ·refine ⟨_,_,rfl,.inr ⟨g,0,rfl,(Array.getElem?_eq_some_iff.1 hg).1,fun i hi=> ?_⟩⟩
  rw[zY] at hi;rw[Nat.zero_add,h.cellAt i (by omega),zag];unfold jE;rw[List.getElem?_map,List.getD_eq_getElem?_getD,List.getElem?_eq_getElem hi];rfl
theorem FW.done{c:Nat→Value}{g:List (List Nat)}(h:FW w wr p n c g n)(hn:g.length=n):GAt wr wr.heap.size (some ⟨p,0,none⟩) g:=by
 refine .inr ⟨p,0,rfl,h.row.lt.2,fun j hj=> ?_⟩;rw[jK] at hj;rw[jd,zY,Nat.zero_add,h.row.cell (by omega)];obtain ⟨a,cp,e,hi⟩:=Z2 (h.own j (by omega));exact ⟨a,cp,by rw[e],hi⟩
theorem zby{pb po:Nat}(h:PrC w pb po P){f:Nat}(hf:f<P.funcs.length)(hb:(zf P f).blocks.length≤600):
  Calls Tryz.prog 131 #[pointer (some ⟨pb,po,none⟩),int i64 (f:Int)] w fun e w'=>∃ a,e=.returned (agg #[int i64 ((zy (zf P f)).length:Int),.slice a (zy (zf P f)).length (zy (zf P f)).length])∧GAt w' w'.heap.size a (zy (zf P f))∧zc [] w w':=by
 have HW:Box (∀ w,Calls Tryz.prog 199 #[int i64 (f:Int),int i64 (P.funcs.length:Int)] w fun e w'=>e=.returned (.bool true)∧w'=w):=hid fun w=>by
  have:=qB (f:Int) P.funcs.length w;rw[show inB (f:Int) P.funcs.length=true from zt.2 ⟨by omega,by omega⟩] at this;exact this
 obtain ⟨fa,fcp,H⟩:=h.fns;obtain ⟨fb,fo,ba,bcp,rfl,B⟩:=H.at hf;have h4:=H.cell;have h2:=B.cell;have BA:Box (∀ b,b<(zf P f).blocks.length→∃ bb bo,ba=some ⟨bb,bo,none⟩∧BlC w bb (bo+b * 5) (zr (zf P f) b)):=hid fun b hb=>B.at hb;have GN:Box (∀ b,b<(zf P f).blocks.length→nb (zy (zf P f)) b=tgB (zf P f).blocks.length (zr (zf P f) b)):=hid fun b hb=>Ql hb;have GL:=hid (zO (zf P f));rw[zO];clear h H B;generalize hfn:P.funcs.length=N at *;generalize hbn:(zf P f).blocks.length=n at *;generalize zy (zf P f)=g at *;clear hfn hbn;have gf:(f:Int)<(N:Int):=by omega
 have hmk:=zhk n (by omega);have k0:zc [] w (w.alloc (.cells #[int i64 0,.slice none 0 0] 195)):=zc.alloc _ _ _;have HR:Box (jg (w.alloc (.cells #[int i64 0,.slice none 0 0] 195)) w.heap.size (int i64 0) (.slice none 0 0)):=hid (jg.new _ _ _);have c4:=za k0 h4;have c2:=za k0 h2;go_enter Tryz.func131,Tryz.ntmps131;go_upto_region 1 with fail;generalize w.alloc (.cells #[int i64 0,.slice none 0 0] 195)=W at *;go_upto_region 4 with (go_at_call 199;refine (HW.o _).mono ?_;rintro e w3 ⟨rfl,rfl⟩)
 have ka:zc [] w3 (w3.alloc (.cells (madeCells #[zaw] n) 36)):=zc.alloc _ _ _;have kb:zc [] (w3.alloc (.cells (madeCells #[zaw] n) 36)) ((w3.alloc (.cells (madeCells #[zaw] n) 36)).alloc (.cells #[int i64 (n:Int),.slice (some ⟨w3.heap.size,0,none⟩) n n] 195)):=zc.alloc _ _ _;have HF:Box (FW w ((w3.alloc (.cells (madeCells #[zaw] n) 36)).alloc (.cells #[int i64 (n:Int),.slice (some ⟨w3.heap.size,0,none⟩) n n] 195)) w3.heap.size n (fun _=>zaw) g 0):=hid ⟨(zf4 w3 n w.heap.size k0.size (by unfold maxLen;omega)).kept kb (by simp),fun j hj=>by omega,(k0.quiet ka).quiet kb⟩;have HG:Box (jg ((w3.alloc (.cells (madeCells #[zaw] n) 36)).alloc (.cells #[int i64 (n:Int),.slice (some ⟨w3.heap.size,0,none⟩) n n] 195)) (w3.heap.size+1) (int i64 (n:Int)) (.slice (some ⟨w3.heap.size,0,none⟩) n n)):=hid (by have:=jg.new (w3.alloc (.cells (madeCells #[zaw] n) 36)) (int i64 (n:Int)) (.slice (some ⟨w3.heap.size,0,none⟩) n n);rw[World.size_alloc] at this;exact this);have HR2:=hid ((HR.o.kept ka (by simp)).kept kb (by simp));have hpp:w.heap.size<w3.heap.size:=HR.o.lt;clear HR ka kb k0 c4 c2 h4 h2 HW;go_upto_region 5 with fail;generalize (w3.alloc (.cells (madeCells #[zaw] n) 36)).alloc (.cells #[int i64 (n:Int),.slice (some ⟨w3.heap.size,0,none⟩) n n] 195)=W4 at *;generalize w3.heap.size=p at *;go_wp2_with fail
 go_loopw [37] (fun i wr=>∃ (k:Nat) (c:Nat→Value),k≤n∧i=int i64 (k:Int)∧Box (FW w wr p n c g k)∧Box (jg wr (p+1) (int i64 (n:Int)) (.slice (some ⟨p,0,none⟩) n n))∧Box (jg wr w.heap.size (int i64 0) (.slice none 0 0))) (fun i _=>n - (intOf i).toNat)
 case atStart=>exact ⟨0,_,by omega,rfl,HF,HG,HR2⟩
 case round=>
  clear HF HG HR2;obtain ⟨k,c,hk,rfl,HF,HG,HR⟩:=hrel;by_cases hlt:k<n
  ·have hlt':(k:Int)<(n:Int):=by omega
   obtain ⟨bb,bo,rfl,hbl⟩:=BA.o k hlt;have HT:Box (∀ w',zc [] w w'→Calls Tryz.prog 200 #[pointer (some ⟨bb,bo+k * 5,none⟩),int i64 (n:Int)] w' fun e w''=>∃ a cp,e=.returned (.slice a (nb g k).length cp)∧zmW w' w'' (.slice a (nb g k).length cp) (nb g k)∧zc [] w' w''):=hid fun w' kw=>by
    rw[GN.o k hlt];refine (zcZ (BlC.stays _ _ _ _ _ kw hbl) n).mono ?_;rintro e w'' ⟨v,rfl,hv,hq⟩;obtain ⟨a,cp,rfl,_⟩:=Z2 hv;exact ⟨a,cp,rfl,hv,hq⟩
   have c1:=HG.o.c1;have fz:=HF.o.row.frozen k;have cz:=HF.o.row.cell hlt;clear hbl;go_wp2_with fail
   go_region_with (go_at_call 200;refine (HT.o _ (HF.o.keep.quiet (zc.drewN [] _ _))).mono ?_;rintro e w5 ⟨a5,p5,rfl,hv,k5⟩;have c1':=za k5 c1;have cz':=za k5 cz;have fz':=((HF.o.row.kept (zc.drewN [] _ _) (by simp)).kept k5 (by simp)).frozen k)
   all_goals
    have HF2:=hid ((HF.o.quiet (zc.drewN [] _ _)).put k5 hv);have kp:zc [p] w5 (w5.setCell ⟨p,k,none⟩ (.slice a5 (nb g k).length p5)):=zc.setCell _ _ _ _ (by simp);have HG2:=hid (((HG.o.kept (zc.drewN [] _ _) (by simp)).kept k5 (by simp)).kept kp (by simp));have HR2:=hid (((HR.o.kept (zc.drewN [] _ _) (by simp)).kept k5 (by simp)).kept kp (by simp;omega));clear HF HG HR c1 fz cz c1' fz' cz' hv k5 HT;generalize w5.setCell ⟨p,k,none⟩ (.slice a5 (nb g k).length p5)=w6 at *;go_wp2_with fail;go_roundw
    case rel=>exact ⟨k+1,_,by omega,by go_num,HF2,HG2,HR2⟩
    case measure=>simp[intOf];omega
  ·obtain rfl:k=n:=by omega
   have c0:=HG.o.c0;have c1:=HG.o.c1;have r0:=HR.o.c0;have r1:=HR.o.c1;have z0:=HR.o.frozen 0;have z1:=HR.o.frozen 1;go_wp2_with fail;have k1:zc [w.heap.size] wr (wr.setCell ⟨w.heap.size,0,none⟩ (int i64 (k:Int))):=zc.setCell _ _ _ _ (by simp);have k2:zc [w.heap.size] (wr.setCell ⟨w.heap.size,0,none⟩ (int i64 (k:Int))) ((wr.setCell ⟨w.heap.size,0,none⟩ (int i64 (k:Int))).setCell ⟨w.heap.size,1,none⟩ (.slice (some ⟨p,0,none⟩) k k)):=zc.setCell _ _ _ _ (by simp);have HF2:=HF.o.kept1 (k1.step k2) (Nat.le_refl _) hpp;have hb2:jg ((wr.setCell ⟨w.heap.size,0,none⟩ (int i64 (k:Int))).setCell ⟨w.heap.size,1,none⟩ (.slice (some ⟨p,0,none⟩) k k)) w.heap.size (int i64 (k:Int)) (.slice (some ⟨p,0,none⟩) k k):=by
    have h1:=heap_setCell_same wr w.heap.size 0 _ _ (int i64 (k:Int)) HR.o.heap;have h2:=heap_setCell_same _ w.heap.size 1 _ _ (.slice (some ⟨p,0,none⟩) k k) h1;exact ⟨h2⟩
   have hd0:=hb2.c0;have hd1:=hb2.c1;generalize (wr.setCell ⟨w.heap.size,0,none⟩ (int i64 (k:Int))).setCell ⟨w.heap.size,1,none⟩ (.slice (some ⟨p,0,none⟩) k k)=w9 at hd0 hd1 HF2 ⊢;exact bodyPost_ret (v:=agg #[int i64 (k:Int),.slice (some ⟨p,0,none⟩) k k]) (by simp[results,Tryz.results131,go_sem,hd0,hd1]) rfl ⟨_,rfl,HF2.done GL.o,HF2.keep⟩
end Go.Proofs.YthflgjkmbakedaaGreatDoor
