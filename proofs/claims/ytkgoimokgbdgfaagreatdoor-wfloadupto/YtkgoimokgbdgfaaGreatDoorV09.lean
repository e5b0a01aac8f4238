import Derived.Test.YtkgoimokgbdgfaaGreatDoorCards
import Derived.Test.YtkgoimokgbdgfaaGreatDoorTie
import Derived.Lib.LaidTab
import Derived.LaidHandle
import Derived.Stop.LaidErr
import Derived.Test.YtkgoimokgbdgfaaGreatDoorV08

namespace Go.Proofs.YtkgoimokgbdgfaaGreatDoor
open Go.RowKit
open Go.Value (int pointer agg)
open Go.IntKind (i64)
set_option maxRecDepth 20000
set_option maxHeartbeats 8000000
variable {rb:Nat}{w:World}
theorem qZ(k:Int)(n:Nat)(w:World):Calls Tryz.prog 105 #[int i64 k,int i64 (n:Int)] w fun e w'=>e=.returned (.bool (inB k n))∧w'=w:=by
 unfold inB;by_cases h0:0≤k
 ·by_cases h1:k<(n:Int)
  ·go_enter Tryz.func105,Tryz.ntmps105
   go_wp2;go_ret;simp[h0,h1]
  ·go_enter Tryz.func105,Tryz.ntmps105
   go_wp2;go_ret;simp[h1]
 ·have e:=hid (show (decide (0≤k) && decide (k<(n:Int)))=false by rw[decide_eq_false h0];rfl)
  go_enter Tryz.func105,Tryz.ntmps105;go_wp2;go_ret;exact ⟨by rw[e.o];rfl,rfl⟩
theorem zhd(w wa:World)(k:zc [] w wa)(v:Value)(l:List Nat)(x:Nat)(hv:wa.ownsRow w.heap.size 3 1 v l.length (QK l))(ty:TypeId)(b c:Nat)(hb:wa.cell? ⟨b,0,none⟩=some (int i64 (x:Int)))(hl:l.length<1000):
  ∃ v' w',(Builtin.append_ #[37,37] ty #[v,.slice (some ⟨b,0,none⟩) 1 c]).run Tryz.prog wa=.ok v' w'∧w'.ownsRow w.heap.size 3 1 v' (l ++ [x]).length (QK (l ++ [x]))∧zc [] w w':=by
 obtain ⟨v',w',hr,ho,hg,_⟩:=run_append_own (P:=Tryz.prog) wa w.heap.size 37 ty 3 Tryz.t3 (int i64 0) 1 8 qn qW Zn Zi jI rfl (by decide) v l.length (QK l) hv ⟨b,0,none⟩ 1 c [int i64 (x:Int)] rfl (fun j u e=>by
  cases j with
  | zero=>simp at e;subst e;exact hb
  | succ j=>simp at e) (fun u hu=>by simp at hu;subst hu;rfl) (by unfold maxLen;omega) (by omega) k.size
 refine ⟨v',w',hr,?_,k.appended hv hg (Nat.le_refl _)⟩;have e:QK (l ++ [x])=QK l ++ [int i64 (x:Int)]:=by unfold QK;rw[List.map_append];rfl
 rw[e,List.length_append];exact ho
theorem qH{ops:Array Oper}{rest:List Oper}{o:Oper}{a:Act}{Q:Exit→Act→World→Prop}(w0 w:World)(hgd:o.guard=none)(s x':Operand)
  (ho:o.op=.call { callee:=.builtin .append,args:=#[s,x'],argTypes:=#[37,37] })
  (l:List Nat) (x:Nat) (v:Value) (hs:a.eval s=v) (hv:w.ownsRow w0.heap.size 3 1 v l.length (QK l)) (k:zc [] w0 w) (z:Int) (hz:z=(x:Int))
  (b c:Nat) (hx:a.eval x'=.slice (some ⟨b,0,none⟩) 1 c) (hb:w.cell? ⟨b,0,none⟩=some (int i64 z)) (hl:l.length<1000)
  (h:∀ v' w',w'.ownsRow w0.heap.size 3 1 v' (l ++ [x]).length (QK (l ++ [x]))→zc [] w0 w'→wpList Tryz.prog ops Q rest (a.put o.dst v') w'):
  wpList Tryz.prog ops Q (o :: rest) a w:=by
 refine wpList_plain hgd fun K hK=> ?_;obtain ⟨v',w',hr,h2,h3⟩:=zhd w0 w k v l x hv o.type b c (hz ▸ hb) hl;unfold Oper.wp execOp;simp only[ho,resolve,invoke,builtin,Sem.run_bind,Sem.run_pure,Result.andThen_ok,List.map_toArray,List.map_cons,List.map_nil,hs,hx,hr];exact hK _ _ (h v' w' h2 h3)
def zoY(w w':World)(v:Value)(l:List Nat):Prop:=w'.ownsRow w.heap.size 3 1 v l.length (QK l)
theorem zei{q o:Nat}{x:Bl8}(h:BlC w q o x)(n:Nat):
  Calls Tryz.prog 106 #[pointer (some ⟨q,o,none⟩),int i64 (n:Int)] w fun e w'=>∃ v,e=.returned v∧zoY w w' v (tgB n x)∧zc [] w w':=by
 have c1:=h.c1.1;have c3:=h.c3.1;have c4:=h.c4.1;clear h;have HW:Box (∀ k w,Calls Tryz.prog 105 #[int i64 k,int i64 (n:Int)] w fun e w'=>e=.returned (.bool (inB k n))∧w'=w):=hid fun k w=>qZ k n w;have HA:=hid (zhd w);have HNIL:Box (w.ownsRow w.heap.size 3 1 (.slice none 0 0) 0 (QK [])):=hid (World.ownsRow_nil w _ _ _);have ct:Box (∀ v,(w.alloc (.cells #[v] 3)).cell? ⟨w.heap.size,0,none⟩=some v):=hid fun v=>by rw[World.cell?_alloc_at _ _ _ _ rfl];rfl
 unfold zoY tgB;by_cases f1:x.fin=1
 ·rw[f1] at c1
  by_cases t1:inB x.to n=true
  ·have e:=hid (show (if (x.fin=1∨x.fin=2)∧inB x.to n=true then [x.to.toNat] else []) ++ (if x.fin=2∧x.els≠x.to∧inB x.els n=true then [x.els.toNat] else [])=[] ++ [x.to.toNat] by simp[f1,t1])
   have ht:=hid (show x.to=(x.to.toNat:Int) by have:=zq.1 t1;omega);rw[e.o];clear e f1;go_enter Tryz.func106,Tryz.ntmps106;go_upto_region 4 with (go_at_call 105;refine (HW.o _ _).mono ?_;rintro e w3 ⟨rfl,rfl⟩;rw[t1])
   generalize Value.slice none 0 0=v0 at HNIL ⊢;go_wp2_with (at_builtin;go_must (refine qH w3 _ rfl _ _ rfl [] x.to.toNat v0 rfl (HNIL.o.alloc _) (zc.alloc [] _ _) x.to ht.o _ _ rfl (ct.o _) (by simp) ?_;intro v1 w4 ho4 hk4));have d1:=za hk4 c1;have d3:=za hk4 c3;have d4:=za hk4 c4;clear c1 c3 c4;have HO4:=hid ho4;have HK4:=hid hk4;clear ho4 hk4;go_quiet (fail);go_wp2;go_ret;exact ⟨_,rfl,HO4.o,HK4.o.quiet (zc.drewN [] _ _)⟩
  ·rw[Bool.not_eq_true] at t1
   have e:=hid (show (if (x.fin=1∨x.fin=2)∧inB x.to n=true then [x.to.toNat] else []) ++ (if x.fin=2∧x.els≠x.to∧inB x.els n=true then [x.els.toNat] else [])=[] by simp[f1,t1]);rw[e.o];clear e f1;go_enter Tryz.func106,Tryz.ntmps106;go_upto_region 5 with (go_at_call 105;refine (HW.o _ _).mono ?_;rintro e w3 ⟨rfl,rfl⟩;rw[t1])
   go_quiet (fail);go_wp2;go_ret;exact ⟨_,rfl,HNIL.o,(zc.refl [] w3).quiet (zc.drewN [] _ _)⟩
 by_cases f2:x.fin=2
 ·rw[f2] at c1
  by_cases t1:inB x.to n=true
  ·by_cases e1:x.els=x.to
   ·have e:=hid (show (if (x.fin=1∨x.fin=2)∧inB x.to n=true then [x.to.toNat] else []) ++ (if x.fin=2∧x.els≠x.to∧inB x.els n=true then [x.els.toNat] else [])=[] ++ [x.to.toNat] by simp[f2,t1,e1])
    have ht:=hid (show x.to=(x.to.toNat:Int) by have:=zq.1 t1;omega);rw[e.o];have o3:(x.els != x.to)=false:=by simpa using e1
    clear e f1 f2 e1;go_enter Tryz.func106,Tryz.ntmps106;go_upto_region 4 with (go_at_call 105;refine (HW.o _ _).mono ?_;rintro e w3 ⟨rfl,rfl⟩;rw[t1])
    generalize Value.slice none 0 0=v0 at HNIL ⊢;go_wp2_with (at_builtin;go_must (refine qH w3 _ rfl _ _ rfl [] x.to.toNat v0 rfl (HNIL.o.alloc _) (zc.alloc [] _ _) x.to ht.o _ _ rfl (ct.o _) (by simp) ?_;intro v1 w4 ho4 hk4));have d1:=za hk4 c1;have d3:=za hk4 c3;have d4:=za hk4 c4;clear c1 c3 c4;have HO4:=hid ho4;have HK4:=hid hk4;clear ho4 hk4;go_quiet (fail);go_wp2;go_ret;exact ⟨_,rfl,HO4.o,HK4.o.quiet (zc.drewN [] _ _)⟩
   by_cases u1:inB x.els n=true
   ·have e:=hid (show (if (x.fin=1∨x.fin=2)∧inB x.to n=true then [x.to.toNat] else []) ++ (if x.fin=2∧x.els≠x.to∧inB x.els n=true then [x.els.toNat] else [])=([] ++ [x.to.toNat]) ++ [x.els.toNat] by simp[f2,t1,e1,u1])
    have ht:=hid (show x.to=(x.to.toNat:Int) by have:=zq.1 t1;omega);have hu:=hid (show x.els=(x.els.toNat:Int) by have:=zq.1 u1;omega);rw[e.o];have o3:(x.els != x.to)=true:=by simpa using e1
    clear e f1 f2 e1;have HWU:Box (∀ w,Calls Tryz.prog 105 #[int i64 x.els,int i64 (n:Int)] w fun e w'=>e=.returned (.bool true)∧w'=w):=hid fun w=>by have:=qZ x.els n w;rw[u1] at this;exact this
    go_enter Tryz.func106,Tryz.ntmps106;go_upto_region 4 with (go_at_call 105;refine (HW.o _ _).mono ?_;rintro e w3 ⟨rfl,rfl⟩;rw[t1])
    generalize Value.slice none 0 0=v0 at HNIL ⊢;go_wp2_with (at_builtin;go_must (refine qH w3 _ rfl _ _ rfl [] x.to.toNat v0 rfl (HNIL.o.alloc _) (zc.alloc [] _ _) x.to ht.o _ _ rfl (ct.o _) (by simp) ?_;intro v1 w4 ho4 hk4));have d1:=za hk4 c1;have d3:=za hk4 c3;have d4:=za hk4 c4;clear c1 c3 c4;have HO4:=hid ho4;have HK4:=hid hk4;clear ho4 hk4;go_quiet ((go_at_call 105;exact Calls.quiet_of_same (HWU.o _)));have ct2:Box (∀ v,((w4.drewN nq).alloc (.cells #[v] 3)).cell? ⟨(w4.drewN nq).heap.size,0,none⟩=some v):=hid fun v=>by rw[World.cell?_alloc_at _ _ _ _ rfl];rfl
    have HO5:Box ((w4.drewN nq).ownsRow w3.heap.size 3 1 v1 ([] ++ [x.to.toNat]).length (QK ([] ++ [x.to.toNat]))):=hid HO4.o;have HK5:Box (zc [] w3 (w4.drewN nq)):=hid (HK4.o.quiet (zc.drewN [] _ _));go_wp2_with (at_builtin;go_must (refine qH w3 _ rfl _ _ rfl ([] ++ [x.to.toNat]) x.els.toNat v1 rfl (HO5.o.alloc _) (HK5.o.quiet (zc.alloc [] _ _)) x.els hu.o _ _ rfl (ct2.o _) (by simp) ?_;intro v2 w5 ho5 hk5));go_ret;exact ⟨_,rfl,ho5,hk5⟩
   ·rw[Bool.not_eq_true] at u1
    have e:=hid (show (if (x.fin=1∨x.fin=2)∧inB x.to n=true then [x.to.toNat] else []) ++ (if x.fin=2∧x.els≠x.to∧inB x.els n=true then [x.els.toNat] else [])=[] ++ [x.to.toNat] by simp[f2,t1,e1,u1]);have ht:=hid (show x.to=(x.to.toNat:Int) by have:=zq.1 t1;omega);rw[e.o];have o3:(x.els != x.to)=true:=by simpa using e1
    clear e f1 f2 e1;have HWU:Box (∀ w,Calls Tryz.prog 105 #[int i64 x.els,int i64 (n:Int)] w fun e w'=>e=.returned (.bool false)∧w'=w):=hid fun w=>by have:=qZ x.els n w;rw[u1] at this;exact this
    go_enter Tryz.func106,Tryz.ntmps106;go_upto_region 4 with (go_at_call 105;refine (HW.o _ _).mono ?_;rintro e w3 ⟨rfl,rfl⟩;rw[t1])
    generalize Value.slice none 0 0=v0 at HNIL ⊢;go_wp2_with (at_builtin;go_must (refine qH w3 _ rfl _ _ rfl [] x.to.toNat v0 rfl (HNIL.o.alloc _) (zc.alloc [] _ _) x.to ht.o _ _ rfl (ct.o _) (by simp) ?_;intro v1 w4 ho4 hk4));have d1:=za hk4 c1;have d3:=za hk4 c3;have d4:=za hk4 c4;clear c1 c3 c4;have HO4:=hid ho4;have HK4:=hid hk4;clear ho4 hk4;go_quiet ((go_at_call 105;exact Calls.quiet_of_same (HWU.o _)));go_wp2;go_ret;exact ⟨_,rfl,HO4.o,HK4.o.quiet (zc.drewN [] _ _)⟩
  ·rw[Bool.not_eq_true] at t1
   by_cases e1:x.els=x.to
   ·have e:=hid (show (if (x.fin=1∨x.fin=2)∧inB x.to n=true then [x.to.toNat] else []) ++ (if x.fin=2∧x.els≠x.to∧inB x.els n=true then [x.els.toNat] else [])=[] by simp[f2,t1,e1])
    rw[e.o];have o3:(x.els != x.to)=false:=by simpa using e1
    clear e f1 f2 e1;go_enter Tryz.func106,Tryz.ntmps106;go_upto_region 5 with (go_at_call 105;refine (HW.o _ _).mono ?_;rintro e w3 ⟨rfl,rfl⟩;rw[t1])
    go_quiet (fail);go_wp2;go_ret;exact ⟨_,rfl,HNIL.o,(zc.refl [] w3).quiet (zc.drewN [] _ _)⟩
   by_cases u1:inB x.els n=true
   ·have e:=hid (show (if (x.fin=1∨x.fin=2)∧inB x.to n=true then [x.to.toNat] else []) ++ (if x.fin=2∧x.els≠x.to∧inB x.els n=true then [x.els.toNat] else [])=[] ++ [x.els.toNat] by simp[f2,t1,e1,u1])
    have hu:=hid (show x.els=(x.els.toNat:Int) by have:=zq.1 u1;omega);rw[e.o];have o3:(x.els != x.to)=true:=by simpa using e1
    clear e f1 f2 e1;have HWU:Box (∀ w,Calls Tryz.prog 105 #[int i64 x.els,int i64 (n:Int)] w fun e w'=>e=.returned (.bool true)∧w'=w):=hid fun w=>by have:=qZ x.els n w;rw[u1] at this;exact this
    go_enter Tryz.func106,Tryz.ntmps106;go_upto_region 5 with (go_at_call 105;refine (HW.o _ _).mono ?_;rintro e w3 ⟨rfl,rfl⟩;rw[t1])
    go_quiet ((go_at_call 105;exact Calls.quiet_of_same (HWU.o _)));generalize Value.slice none 0 0=v0 at HNIL ⊢;have ct2:Box (∀ v,((w3.drewN nq).alloc (.cells #[v] 3)).cell? ⟨(w3.drewN nq).heap.size,0,none⟩=some v):=hid fun v=>by rw[World.cell?_alloc_at _ _ _ _ rfl];rfl
    have HO5:Box ((w3.drewN nq).ownsRow w3.heap.size 3 1 v0 ([]:List Nat).length (QK ([]:List Nat))):=hid HNIL.o;have HK5:Box (zc [] w3 (w3.drewN nq)):=hid ((zc.refl [] w3).quiet (zc.drewN [] _ _));go_wp2_with (at_builtin;go_must (refine qH w3 _ rfl _ _ rfl ([]:List Nat) x.els.toNat v0 rfl (HO5.o.alloc _) (HK5.o.quiet (zc.alloc [] _ _)) x.els hu.o _ _ rfl (ct2.o _) (by simp) ?_;intro v2 w5 ho5 hk5));go_ret;exact ⟨_,rfl,ho5,hk5⟩
   ·rw[Bool.not_eq_true] at u1
    have e:=hid (show (if (x.fin=1∨x.fin=2)∧inB x.to n=true then [x.to.toNat] else []) ++ (if x.fin=2∧x.els≠x.to∧inB x.els n=true then [x.els.toNat] else [])=[] by simp[f2,t1,e1,u1]);rw[e.o];have o3:(x.els != x.to)=true:=by simpa using e1
    clear e f1 f2 e1;have HWU:Box (∀ w,Calls Tryz.prog 105 #[int i64 x.els,int i64 (n:Int)] w fun e w'=>e=.returned (.bool false)∧w'=w):=hid fun w=>by have:=qZ x.els n w;rw[u1] at this;exact this
    go_enter Tryz.func106,Tryz.ntmps106;go_upto_region 5 with (go_at_call 105;refine (HW.o _ _).mono ?_;rintro e w3 ⟨rfl,rfl⟩;rw[t1])
    go_quiet ((go_at_call 105;exact Calls.quiet_of_same (HWU.o _)));go_wp2;go_ret;exact ⟨_,rfl,HNIL.o,(zc.refl [] w3).quiet (zc.drewN [] _ _)⟩
 have e:=hid (show (if (x.fin=1∨x.fin=2)∧inB x.to n=true then [x.to.toNat] else []) ++ (if x.fin=2∧x.els≠x.to∧inB x.els n=true then [x.els.toNat] else [])=[] by simp[f1,f2]);rw[e.o];have o1:=(show (x.fin == 1)=false by simpa using f1);have o2:=(show (x.fin == 2)=false by simpa using f2);clear e f1 f2;go_enter Tryz.func106,Tryz.ntmps106;go_upto_region 5 with fail;go_quiet (fail);go_wp2;go_ret;exact ⟨_,rfl,HNIL.o,(zc.refl [] w).quiet (zc.drewN [] _ _)⟩
theorem ze1{pb po:Nat}{P:Pr8}(h:PrC w pb po P):Calls Tryz.prog 46 #[pointer (some ⟨pb,po,none⟩)] w fun e w'=>e=.returned (.bool (jl P))∧zc [] w w':=by
 have HP:=hid h;obtain ⟨a0,p0,c0,v0⟩:=SlC.val h.c0;have C0:Box (∀ w',zc [] w w'→w'.cell? ⟨pb,po,none⟩=some (.slice a0 P.recs.length p0)):=hid fun w' k=>za k c0;have H0:=hid fun (w':World) (k:zc [] w w')=>zkz (v0.keeps (SlC.stays TyC.stays) k) 6 zed (by omega) fun w3 v z kk hv=>zjR hv;obtain ⟨a1,p1,c1,v1⟩:=SlC.val h.c1;have C1:Box (∀ w',zc [] w w'→w'.cell? ⟨pb,po+1,none⟩=some (.slice a1 P.sigs.length p1)):=hid fun w' k=>za k c1;have H1:=hid fun (w':World) (k:zc [] w w')=>zkG (v1.keeps (SgC.stays) k) 10 zdO (by omega) fun w3 v z kk hv=>zkt hv;obtain ⟨a2,p2,c2,v2⟩:=SlC.val h.c2;have C2:Box (∀ w',zc [] w w'→w'.cell? ⟨pb,po+2,none⟩=some (.slice a2 P.ifs.length p2)):=hid fun w' k=>za k c2;have H2:=hid fun (w':World) (k:zc [] w w')=>zgo (v2.keeps (ZO.stays) k) 4 ifB (by omega) fun w3 v z kk hv=>zfR hv;obtain ⟨a3,p3,c3,v3⟩:=SlC.val h.c3;have C3:Box (∀ w',zc [] w w'→w'.cell? ⟨pb,po+3,none⟩=some (.slice a3 P.ims.length p3)):=hid fun w' k=>za k c3;have H3:=hid fun (w':World) (k:zc [] w w')=>zgN (v3.keeps (ImC.stays) k) 12 imB (by omega) fun w3 v z kk hv=>zhy hv;obtain ⟨a4,p4,c4,v4⟩:=SlC.val h.c4;have C4:Box (∀ w',zc [] w w'→w'.cell? ⟨pb,po+4,none⟩=some (.slice a4 P.funcs.length p4)):=hid fun w' k=>za k c4;have H4:=hid fun (w':World) (k:zc [] w w')=>zhw (v4.keeps (FuC.stays) k) 12 fnB (by omega) fun w3 v z kk hv=>zjl kk hv;have HPT:=hid fun (w':World) (k:zc [] w w') (hs:ji P.funcs 12 fnB=true)=>zay (PrC.stays _ _ _ _ _ k HP.o) (Jr hs);have HST:=hid fun (w':World) (k:zc [] w w') (hs:ji P.funcs 12 fnB=true)=>zig (PrC.stays _ _ _ _ _ k HP.o) (Jr hs);have hNs:=fun (hs:ji P.funcs 12 fnB=true)=>(Jr hs).pts;have hSs:=zb0 P (pts P);have HE:Box (jl P=(zgA P && (decide ((pts P).length≤600) && decide (Zf P (pts P)≤40)))):=hid rfl;have HT:Box (zgA P=(decide (0<P.funcs.length) && (ji P.recs 6 zed && (ji P.sigs 10 zdO && (ji P.ifs 4 ifB && (ji P.ims 12 imB && ji P.funcs 12 fnB)))))):=hid rfl;rw[HT.o] at HE;clear h HT HP v0 v1 v2 v3 v4 c0 c1 c2 c3 c4;generalize jl P=res at *;generalize ji P.recs 6 zed=r0 at *;generalize ji P.sigs 10 zdO=r1 at *;generalize ji P.ifs 4 ifB=r2 at *;generalize ji P.ims 12 imB=r3 at *;generalize ji P.funcs 12 fnB=r4 at *;generalize hNN:(pts P).length=NN at *;generalize Zf P (pts P)=SS at *;generalize P.recs.length=n0 at *;generalize P.sigs.length=n1 at *;generalize P.ifs.length=n2 at *;generalize P.ims.length=n3 at *;generalize P.funcs.length=n4 at *;have d4:=C4.o _ (zc.refl _ _);have HNN:=hid hNN;clear hNN;by_cases hpos:0<n4
 case neg=>
  have hpos':¬ (0:Int)<(n4:Int):=by omega
  have HR:Box (res=false):=hid (by rw[HE.o];simp[hpos]);clear HE;go_enter Tryz.func46,Tryz.ntmps46;go_wp2_with fail;go_ret;exact ⟨by rw[HR.o];rfl,zc.refl _ _⟩
 have hpos':(0:Int)<(n4:Int):=by omega
 have HE1:Box (res=(r0 && (r1 && (r2 && (r3 && (r4 && (decide (NN≤600) && decide (SS≤40)))))))):=hid (by rw[HE.o];simp[hpos,Bool.and_assoc]);clear HE hpos;have d0:=C0.o _ (zc.refl _ _);go_enter Tryz.func46,Tryz.ntmps46;go_wp2_with fail;have K0:=hid (zc.refl [] w);refine (H0.o _ K0.o).mono ?_;rintro e w1 ⟨rfl,k1⟩;have K1:=hid (K0.o.quiet k1);clear k1 d0 d4;cases r0
 case false=>
  have HR:Box (res=false):=hid (by rw[HE1.o];simp);clear HE1;go_wp2_with fail;go_ret;exact ⟨by rw[HR.o];rfl,K1.o⟩
 have d1:=C1.o _ K1.o;go_wp2_with fail;refine (H1.o _ K1.o).mono ?_;rintro e w2 ⟨rfl,k2⟩;have K2:=hid (K1.o.quiet k2);clear k2 d1;cases r1
 case false=>
  have HR:Box (res=false):=hid (by rw[HE1.o];simp);clear HE1;go_wp2_with fail;go_ret;exact ⟨by rw[HR.o];rfl,K2.o⟩
 have d2:=C2.o _ K2.o;go_wp2_with fail;refine (H2.o _ K2.o).mono ?_;rintro e w3 ⟨rfl,k3⟩;have K3:=hid (K2.o.quiet k3);clear k3 d2;cases r2
 case false=>
  have HR:Box (res=false):=hid (by rw[HE1.o];simp);clear HE1;go_wp2_with fail;go_ret;exact ⟨by rw[HR.o];rfl,K3.o⟩
 have d3:=C3.o _ K3.o;go_wp2_with fail;refine (H3.o _ K3.o).mono ?_;rintro e w4 ⟨rfl,k4⟩;have K4:=hid (K3.o.quiet k4);clear k4 d3;cases r3
 case false=>
  have HR:Box (res=false):=hid (by rw[HE1.o];simp);clear HE1;go_wp2_with fail;go_ret;exact ⟨by rw[HR.o];rfl,K4.o⟩
 have d4:=C4.o _ K4.o;go_wp2_with fail;refine (H4.o _ K4.o).mono ?_;rintro e w5 ⟨rfl,k5⟩;have K5:=hid (K4.o.quiet k5);clear k5 d4;cases r4
 case false=>
  have HR:Box (res=false):=hid (by rw[HE1.o];simp);clear HE1;go_wp2_with fail;go_ret;exact ⟨by rw[HR.o];rfl,K5.o⟩
 go_wp2_with fail;have hN9:=hNs (by first | trivial | rfl);refine (HPT.o _ K5.o (by first | trivial | rfl)).mono ?_;rintro e w6 ⟨a,cp,rfl,hr,k6⟩;have K6:=hid (K5.o.quiet k6);clear k6 hr hNs;have hN8:(NN:Int)≤4500:=by omega
 have hS8:(SS:Int)≤4500:=by omega
 by_cases hN:NN≤600
 case neg=>
  have hN':¬ (NN:Int)≤600:=by omega
  have HR:Box (res=false):=hid (by rw[HE1.o];simp[hN]);clear HE1 hN;go_wp2_with fail;go_ret;exact ⟨by rw[HR.o];rfl,K6.o⟩
 have hN':(NN:Int)≤600:=by omega
 go_wp2_with fail;refine (HST.o _ K6.o (by first | trivial | rfl)).mono ?_;rintro e w7 ⟨rfl,k7⟩;have K7:=hid (K6.o.quiet k7);clear k7;by_cases hS:SS≤40
 case neg=>
  have hS':decide ((SS:Int)≤40)=false:=decide_eq_false (by omega);have HR:Box (res=false):=hid (by rw[HE1.o];simp[hS]);clear HE1 hS;go_wp2_with fail;go_ret;exact ⟨by rw[HR.o];rfl,K7.o⟩
 have hS':(SS:Int)≤40:=by omega
 have HR:Box (res=true):=hid (by rw[HE1.o];simp[hS,hN]);clear HE1 hS;go_wp2_with fail;go_ret;exact ⟨by rw[HR.o];rfl,K7.o⟩
def ziK(ok:Bool)(y f b i:Int)(w:World)(e:Ending)(w':World):Prop:=if ok then e=.returned .nilIface∧zc [] w w' else Jt y f b i w e w'
theorem zg3(w:World):Calls Tryz.prog 24 #[.pointer none] w (Jt 2 (-1) 0 0 w):=by
 have H:=hid (Z9 2 w);go_enter Tryz.func24,Tryz.ntmps24;go_wp2_with fail;refine H.o.mono ?_;rintro e w1 ⟨p,rfl,h1,h2⟩;go_wp2_with fail;go_ret;exact ⟨p,rfl,h1,h2⟩
theorem zgH{pb po:Nat}{P:Pr8}(h:PrC w pb po P):Calls Tryz.prog 24 #[pointer (some ⟨pb,po,none⟩)] w (ziK (jl P) 2 (-1) 0 0 w):=by
 have HC:=hid (ze1 h);have H:=hid fun (w':World)=>Z9 2 w';clear h;generalize jl P=ok at *;go_enter Tryz.func24,Tryz.ntmps24;go_wp2_with fail;refine HC.o.mono ?_;rintro e w1 ⟨rfl,k1⟩;have K1:=hid k1;clear k1;cases ok with
 | true=>
  go_wp2_with fail;go_ret;exact ⟨rfl,K1.o⟩
 | false=>
  go_wp2_with fail;refine (H.o _).mono ?_;rintro e w2 ⟨p,rfl,h1,h2⟩;go_wp2_with fail;go_ret;exact ⟨p,rfl,h1,K1.o.quiet h2⟩
theorem zlz{α:Type}{V:World→Value→α→Prop}(hV:zdy V){B B1 q:Nat}{w1 wf:World}{v:Value}{y:α}(h:V (jB B1 w1) v y)(hB:B≤B1)(hr:rb<B1)(hq:q<B1)(k:zc [rb,q] w1 wf):V (jB B wf) v y:=
 hV _ _ _ _ ((Sub.kept k (fun x hx=>by simp at hx;omega)).trans (Sub.down wf hB)) h
theorem zdL(n:Nat)(hn:n≤20000)(w:World):∃ cur:Array Value,cur.size=n * 1∧(Instr.makeSlice 37 (int i64 (n:Int)) (int i64 (n:Int))).run Tryz.prog w=.ok (.slice (some ⟨w.heap.size,0,none⟩) n n) (w.alloc (.cells cur 3)):=by
 obtain ⟨z,hz⟩:∃ z,Tryz.t3.zero=some z:=Option.isSome_iff_exists.1 (by kernel_rfl);have hb:Tryz.t3.bytes≤200:=of_decide_eq_true (by kernel_rfl);have hs:Tryz.t3.size=1:=by kernel_rfl
 have h1:((Tryz.t3.bytes:Nat):Int) * (n:Int)≤281474976710656:=by
  have:Tryz.t3.bytes * n≤200 * 20000:=Nat.mul_le_mul hb hn;have h2:((Tryz.t3.bytes * n:Nat):Int)≤4000000:=by omega
  rw[Int.natCast_mul] at h2;omega
 have hr:=run_make (P:=Tryz.prog) w 37 3 Tryz.t3 z Tryz.underlying37 (by kernel_rfl) hz .i64 .i64 (n:Int) (n:Int) (by omega) (Int.le_refl _) h1 (by omega);simp only[Int.toNat_natCast,hs] at hr;exact ⟨_,size_madeCells _ _,hr⟩
theorem ziU{s:Option (List UInt8)}(h:qt w rb s):Calls Tryz.prog 174 #[pointer (some ⟨rb,0,none⟩),.func (.func 143) #[] #[]] w (j8 (SlV 1 qF) qE Jm w rb s):=by
 have HL:=hid (qN h);have HP:=hid fun (w':World) (s':Option (List UInt8)) (h:qt w' rb s')=>zH h;have hrb:=h.lt;clear h;go_enter Tryz.func174,Tryz.ntmps174;go_wp2_with fail;refine HL.o.mono ?_;rintro e w1 ⟨n,s1,rfl,hn,h1,h2,h3⟩;have HS:=hid h1;have HR:=hid h2;have HK:=hid h3;clear HL h1 h2 h3;by_cases hn0:n=0
 ·have HN:=hid hn0
  have e0:((n:Int) == 0)=true:=by rw[hn0];rfl
  clear hn0;go_wp2_with fail;go_ret;refine ⟨_,[],s1,rfl,⟨none,0,rfl,.inl rfl,by simp,by simp⟩,?_,HR.o,HK.o⟩;have:=HS.o;rw[HN.o] at this;exact zbP.empty Cd.num.pos this
 ·have HS0:=hid (Q2.start (E:=zK) (ok:=b64) HS.o hn0)
  have e0:((n:Int) == 0)=false:=by rw[beq_eq_false_iff_ne];omega
  have hn1:(n:Int)≤20000:=by omega
  have hn2:(0:Int)≤(n:Int):=by omega
  have HNb:Box (b64 (n:Int)∧n≤maxLen):=hid ⟨by unfold b64;omega,by unfold maxLen;omega⟩;obtain ⟨cur,hcur,hmk⟩:=zdL n hn w1;have HM0:=hid (LM.new (V:=zek) (zf w1 (.cells cur 3)) hcur);have HR0:=hid (HR.o.quiet (zc.alloc [] w1 (.cells cur 3)));have HK0:Box (zc [rb] w (w1.alloc (.cells cur 3))):=hid (HK.o.step (zc.alloc [rb] w1 _));have HG:Box (w.heap.size≤w1.heap.size):=hid HK.o.size;clear HS HR HK hcur hn0 hn;go_wp2_with fail;obtain ⟨w2,HW2⟩:∃ w2,Box (w2=w1.alloc (.cells cur 3)):=⟨_,hid rfl⟩;rw[← HW2.o] at HM0 HR0 HK0 ⊢;clear HW2 hmk;generalize w1.heap.size=g at *
  go_loopw [16] (fun kv wr=>∃ k:Nat,k≤n∧kv=int i64 (k:Int)∧Box (∃ l sk,Q2 zK b64 s n k l sk∧LM zek wr g n 1 3 l∧qt wr rb sk∧zc [rb] w wr)) (fun kv _=>n - (intOf kv).toNat)
  case atStart=>exact ⟨0,by omega,rfl,hid ⟨[],s1,HS0.o,HM0.o,HR0.o,HK0.o⟩⟩
  case round=>
   obtain ⟨k,hk,rfl,HB⟩:=hrel;clear HS0 HM0 HR0 HK0;obtain ⟨l,sk,m1,m2,m3,m4⟩:=HB.o;have HMS:=hid m1;have HLM:=hid m2;have HRD:=hid m3;have HKK:=hid m4
   have hg9:Box (g<wr.heap.size):=hid (by
    obtain ⟨_,e,_⟩:=m2.ex
    exact z8 e)
   clear HB m1 m2 m3 m4;by_cases hlt:k<n
   ·have hlt':(k:Int)<(n:Int):=by omega
    go_wp2_with fail;refine (HP.o _ _ HRD.o).mono ?_;rintro e w3 ⟨v,y,s3,rfl,hv,hst,hr3,hk3⟩;have HM2:=hid (HLM.o.kept zek.sub hk3 (by have:=HG.o;omega));have hv2:zek (jB (g+1) w3) v y:=zek.sub _ _ _ _ (Sub.down w3 (by have:=hg9.o;omega)) hv;have HV:=hid hv2;have HST:=hid hst;have HR3:=hid hr3;have HK3:=hid hk3;obtain ⟨⟨y0,t0⟩,z0⟩:=HM2.o.cell (k:=k) (i:=0) hlt (by decide);rw[Nat.mul_one,Nat.add_zero] at t0 z0;obtain ⟨rfl,_⟩:=hv2;obtain ⟨w4,HW4⟩:∃ w4,Box (w4=Zc w3 g (k * 1) 0 [int i64 y]):=⟨_,hid rfl⟩;have hk4:zc [g] w3 w4:=by rw[HW4.o];exact zS _ _ _
    have hr4:=hr3.kept hk4 (fun x hx=>by rw[List.mem_singleton] at hx;have:=HG.o;omega);have HR4:=hid hr4;have HK4:Box (zc [rb] w w4):=hid ((HKK.o.step hk3).trans hk4 (fun x hx hlt=>by rw[List.mem_singleton] at hx;have:=HG.o;omega))
    have HM4:Box (LM zek w4 g n 1 3 (l ++ [_])):=hid (by
     have:=HM2.o.put zek.sub (by rw[HMS.o.1];exact hlt) HV.o rfl;rw[HMS.o.1] at this;rw[HW4.o]
     exact this)
    have HW5:Box (Zc w3 g (k * 1) 0 [int i64 y]=w4):=hid HW4.o.symm;simp only[Zc,Nat.add_zero,Nat.mul_one] at HW5;clear hv hst hk3 hk4 hr3 HV HW4;cases s3 with
    | none=>
     have h9:w4.heap[rb]? = _:=hr4;have f1:=zd h9 1;clear hr4 h9;go_upto_region 9 with fail;rw[HW5.o];go_wp2_with fail;go_ret;exact ⟨_,[],none,rfl,⟨none,0,rfl,.inl rfl,by simp,by simp⟩,Q2.fail Cd.num HMS.o hlt HST.o,HR4.o,HK4.o⟩
    | some R=>
     obtain ⟨ra,rcp,h9,_⟩:=hr4;have f1:=zd h9 1;clear h9;go_upto_region 9 with fail;rw[HW5.o];go_wp2_with fail;go_roundw
     case rel=>exact ⟨k+1,by omega,by go_num,hid ⟨_,_,HMS.o.next HST.o (by simp),HM4.o,HR4.o,HK4.o⟩⟩
     case measure=>simp[intOf];omega
   ·obtain rfl:k=n:=by omega
    go_wp2_with fail;go_ret;refine ⟨_,l,sk,rfl,⟨some ⟨g,0,none⟩,k,by rw[HMS.o.1];rfl,HLM.o.rows zek.sub zek.links HG.o,by rw[HMS.o.1];exact Nat.le_refl _,by rw[HMS.o.1];exact HNb.o.2⟩,HMS.o.done HNb.o.1,HRD.o,HKK.o⟩
theorem QC{s:Option (List UInt8)}(h:qt w rb s):Calls Tryz.prog 162 #[pointer (some ⟨rb,0,none⟩)] w (j8 za8 qE Jm w rb s):=by
 have H:=hid (ziU h);clear h;go_enter Tryz.func162,Tryz.ntmps162;go_wp2_with fail;refine H.o.mono ?_;rintro e w1 ⟨v,x,s1,rfl,h1,h2⟩;have HV:=hid h1;obtain ⟨a,cp,rfl,_⟩:=h1;go_wp2_with fail;go_ret;exact ⟨_,x,s1,rfl,HV.o,h2⟩
theorem zdw{s:Option (List UInt8)}(h:qt w rb s):Calls Tryz.prog 161 #[pointer (some ⟨rb,0,none⟩)] w (j8 TyV zb2 zlj w rb s):=by
 have hrb:=h.lt;have H1:=hid fun (w':World) (s':Option (List UInt8)) (h:qt w' rb s')=>zH h;have H2:=hid fun (w':World) (s':Option (List UInt8)) (h:qt w' rb s')=>zH h;obtain ⟨WA,hWA⟩:∃ WA,WA=w.alloc (.cells #[int i64 0,int i64 0] 34):=⟨_,rfl⟩;have R0:qt WA rb s:=by rw[hWA];exact h.quiet (zc.alloc [] w _)
 have KA:Box (zc [rb] w WA):=hid (by rw[hWA];exact zc.alloc [rb] w _);have hq0:WA.heap[w.heap.size]? = some (.cells #[int i64 0,int i64 0] 34 (0,0)):=by rw[hWA];exact zf w _
 obtain ⟨B,hB⟩:∃ B,B=w.heap.size:=⟨_,rfl⟩;have HB:=hid hB;have SA:Box (rb<B∧B<WA.heap.size):=hid ⟨by rw[hB];exact hrb,by rw[hWA,World.size_alloc,hB];omega⟩;have HWA:=hid hWA;clear h hrb;go_enter Tryz.func161,Tryz.ntmps161;go_wp2_with fail;rw[← hWA, ← hB];rw[← hB] at hq0;clear hWA hB;obtain ⟨q,hq⟩:∃ q,q=B:=⟨_,rfl⟩;rw[← hq] at hq0 ⊢;have HQ:=hid hq;clear hq;refine (H1.o _ _ R0).mono ?_;rintro e w1 ⟨v1,x1,s1,rfl,V1,P1,R1,K1⟩;have Y1:=hid V1;obtain ⟨rfl,_⟩:=V1;have HP1:=hid P1;clear P1 H1;go_wp2_with fail;refine (H2.o _ _ R1).mono ?_;rintro e w2 ⟨v2,x2,s2,rfl,V2,P2,R2,K2⟩;have Y2:=hid V2;obtain ⟨rfl,_⟩:=V2;have HP2:=hid P2;clear P2 H2;have HK9:Box (zc [rb] WA w2):=hid (K1.step K2);have hqm:w2.heap[q]? = some (.cells #[int i64 0,int i64 0] 34 (0,0)):=by
  rw[HK9.o.block q (z8 hq0) (by have:=SA.o;have:=HQ.o;simp;omega)];exact hq0
 have c0:=zd hqm 0;have z0:=zL hqm 0;have c1:=zd hqm 1;have z1:=zL hqm 1;obtain ⟨wf,HWF⟩:∃ wf,Box (wf=Zc w2 q 0 0 [int i64 x1,int i64 x2]):=⟨_,hid rfl⟩;have h3:wf.heap[q]? = some (.cells #[int i64 x1,int i64 x2] 34 (0,0)):=by rw[HWF.o];exact jN _ _ _ _ hqm
 have HWK:Box (zc [q] w2 wf):=hid (by rw[HWF.o];exact zS _ _ _);have HW5:Box (Zc w2 q 0 0 [int i64 x1,int i64 x2]=wf):=hid HWF.o.symm;simp only[Zc,Nat.add_zero,Nat.zero_add] at HW5;have HR9:Box (qt wf rb s2):=hid (R2.kept HWK.o (fun x hx=>by rw[List.mem_singleton] at hx;have:=SA.o;have:=HQ.o;omega));have HKF:Box (zc [rb] w wf):=hid ((KA.o.step HK9.o).trans HWK.o (fun x hx hlt=>by rw[List.mem_singleton] at hx;have:=HQ.o;have:=HB.o;omega));have e0:=zd h3 0;have e1:=zd h3 1;clear HWF hqm h3 hq0 K1 R1 K2 R2 R0;go_wp2_with fail;rw[HW5.o];refine bodyPost_ret (v:=agg #[int i64 x1,int i64 x2]) (by simp[results,Tryz.results161,go_sem,e0,e1]) rfl ⟨_,(x1,x2),s2,rfl,?_,Stp.pair Cd.num HP1.o HP2.o,HR9.o,HKF.o⟩;rw[← HB.o];exact ⟨rfl,Y1.o.2,Y2.o.2⟩
theorem zeo(n:Nat)(hn:n≤20000)(w:World):∃ cur:Array Value,cur.size=n * 2∧(Instr.makeSlice 25 (int i64 (n:Int)) (int i64 (n:Int))).run Tryz.prog w=.ok (.slice (some ⟨w.heap.size,0,none⟩) n n) (w.alloc (.cells cur 34)):=by
 obtain ⟨z,hz⟩:∃ z,Tryz.t34.zero=some z:=Option.isSome_iff_exists.1 (by kernel_rfl);have hb:Tryz.t34.bytes≤200:=of_decide_eq_true (by kernel_rfl);have hs:Tryz.t34.size=2:=by kernel_rfl
 have h1:((Tryz.t34.bytes:Nat):Int) * (n:Int)≤281474976710656:=by
  have:Tryz.t34.bytes * n≤200 * 20000:=Nat.mul_le_mul hb hn;have h2:((Tryz.t34.bytes * n:Nat):Int)≤4000000:=by omega
  rw[Int.natCast_mul] at h2;omega
 have hr:=run_make (P:=Tryz.prog) w 25 34 Tryz.t34 z Tryz.underlying25 (by kernel_rfl) hz .i64 .i64 (n:Int) (n:Int) (by omega) (Int.le_refl _) h1 (by omega);simp only[Int.toNat_natCast,hs] at hr;exact ⟨_,size_madeCells _ _,hr⟩
theorem zj9{s:Option (List UInt8)}(h:qt w rb s):Calls Tryz.prog 160 #[pointer (some ⟨rb,0,none⟩),.func (.func 161) #[] #[]] w (j8 (SlV 2 TyC) ZE zc5 w rb s):=by
 have HL:=hid (qN h);have HP:=hid fun (w':World) (s':Option (List UInt8)) (h:qt w' rb s')=>zdw h;have hrb:=h.lt;clear h;go_enter Tryz.func160,Tryz.ntmps160;go_wp2_with fail;refine HL.o.mono ?_;rintro e w1 ⟨n,s1,rfl,hn,h1,h2,h3⟩;have HS:=hid h1;have HR:=hid h2;have HK:=hid h3;clear HL h1 h2 h3;by_cases hn0:n=0
 ·have HN:=hid hn0
  have e0:((n:Int) == 0)=true:=by rw[hn0];rfl
  clear hn0;go_wp2_with fail;go_ret;refine ⟨_,[],s1,rfl,⟨none,0,rfl,.inl rfl,by simp,by simp⟩,?_,HR.o,HK.o⟩;have:=HS.o;rw[HN.o] at this;exact zbP.empty Cd.ty.pos this
 ·have HS0:=hid (Q2.start (E:=zb2) (ok:=zlj) HS.o hn0)
  have e0:((n:Int) == 0)=false:=by rw[beq_eq_false_iff_ne];omega
  have hn1:(n:Int)≤20000:=by omega
  have hn2:(0:Int)≤(n:Int):=by omega
  have HNb:Box (b64 (n:Int)∧n≤maxLen):=hid ⟨by unfold b64;omega,by unfold maxLen;omega⟩;obtain ⟨cur,hcur,hmk⟩:=zeo n hn w1;have HM0:=hid (LM.new (V:=TyV) (zf w1 (.cells cur 34)) hcur);have HR0:=hid (HR.o.quiet (zc.alloc [] w1 (.cells cur 34)));have HK0:Box (zc [rb] w (w1.alloc (.cells cur 34))):=hid (HK.o.step (zc.alloc [rb] w1 _));have HG:Box (w.heap.size≤w1.heap.size):=hid HK.o.size;clear HS HR HK hcur hn0 hn;go_wp2_with fail;obtain ⟨w2,HW2⟩:∃ w2,Box (w2=w1.alloc (.cells cur 34)):=⟨_,hid rfl⟩;rw[← HW2.o] at HM0 HR0 HK0 ⊢;clear HW2 hmk;generalize w1.heap.size=g at *
  go_loopw [16] (fun kv wr=>∃ k:Nat,k≤n∧kv=int i64 (k:Int)∧Box (∃ l sk,Q2 zb2 zlj s n k l sk∧LM TyV wr g n 2 34 l∧qt wr rb sk∧zc [rb] w wr)) (fun kv _=>n - (intOf kv).toNat)
  case atStart=>exact ⟨0,by omega,rfl,hid ⟨[],s1,HS0.o,HM0.o,HR0.o,HK0.o⟩⟩
  case round=>
   obtain ⟨k,hk,rfl,HB⟩:=hrel;clear HS0 HM0 HR0 HK0;obtain ⟨l,sk,m1,m2,m3,m4⟩:=HB.o;have HMS:=hid m1;have HLM:=hid m2;have HRD:=hid m3;have HKK:=hid m4
   have hg9:Box (g<wr.heap.size):=hid (by
    obtain ⟨_,e,_⟩:=m2.ex
    exact z8 e)
   clear HB m1 m2 m3 m4;by_cases hlt:k<n
   ·have hlt':(k:Int)<(n:Int):=by omega
    go_wp2_with fail;refine (HP.o _ _ HRD.o).mono ?_;rintro e w3 ⟨v,y,s3,rfl,hv,hst,hr3,hk3⟩;have HM2:=hid (HLM.o.kept TyV.sub hk3 (by have:=HG.o;omega));have hv2:TyV (jB (g+1) w3) v y:=TyV.sub _ _ _ _ (Sub.down w3 (by have:=hg9.o;omega)) hv;have HV:=hid hv2;have HST:=hid hst;have HR3:=hid hr3;have HK3:=hid hk3;obtain ⟨⟨y0,t0⟩,z0⟩:=HM2.o.cell (k:=k) (i:=0) hlt (by decide);obtain ⟨⟨y1,t1⟩,z1⟩:=HM2.o.cell (k:=k) (i:=1) hlt (by decide);rw[Nat.add_zero] at t0 z0;obtain ⟨rfl,_⟩:=hv2;obtain ⟨w4,HW4⟩:∃ w4,Box (w4=Zc w3 g (k * 2) 0 [int i64 y.1,int i64 y.2]):=⟨_,hid rfl⟩;have hk4:zc [g] w3 w4:=by rw[HW4.o];exact zS _ _ _
    have hr4:=hr3.kept hk4 (fun x hx=>by rw[List.mem_singleton] at hx;have:=HG.o;omega);have HR4:=hid hr4;have HK4:Box (zc [rb] w w4):=hid ((HKK.o.step hk3).trans hk4 (fun x hx hlt=>by rw[List.mem_singleton] at hx;have:=HG.o;omega))
    have HM4:Box (LM TyV w4 g n 2 34 (l ++ [_])):=hid (by
     have:=HM2.o.put TyV.sub (by rw[HMS.o.1];exact hlt) HV.o rfl;rw[HMS.o.1] at this;rw[HW4.o]
     exact this)
    have HW5:Box (Zc w3 g (k * 2) 0 [int i64 y.1,int i64 y.2]=w4):=hid HW4.o.symm;simp only[Zc,Nat.add_zero,Nat.zero_add] at HW5;clear hv hst hk3 hk4 hr3 HV HW4;cases s3 with
    | none=>
     have h9:w4.heap[rb]? = _:=hr4;have f1:=zd h9 1;clear hr4 h9;go_upto_region 9 with fail;rw[HW5.o];go_wp2_with fail;go_ret;exact ⟨_,[],none,rfl,⟨none,0,rfl,.inl rfl,by simp,by simp⟩,Q2.fail Cd.ty HMS.o hlt HST.o,HR4.o,HK4.o⟩
    | some R=>
     obtain ⟨ra,rcp,h9,_⟩:=hr4;have f1:=zd h9 1;clear h9;go_upto_region 9 with fail;rw[HW5.o];go_wp2_with fail;go_roundw
     case rel=>exact ⟨k+1,by omega,by go_num,hid ⟨_,_,HMS.o.next HST.o (by simp),HM4.o,HR4.o,HK4.o⟩⟩
     case measure=>simp[intOf];omega
   ·obtain rfl:k=n:=by omega
    go_wp2_with fail;go_ret;refine ⟨_,l,sk,rfl,⟨some ⟨g,0,none⟩,k,by rw[HMS.o.1];rfl,HLM.o.rows TyV.sub TyV.links HG.o,by rw[HMS.o.1];exact Nat.le_refl _,by rw[HMS.o.1];exact HNb.o.2⟩,HMS.o.done HNb.o.1,HRD.o,HKK.o⟩
theorem zal{s:Option (List UInt8)}(h:qt w rb s):Calls Tryz.prog 134 #[pointer (some ⟨rb,0,none⟩)] w (j8 zb9 ZE zc5 w rb s):=by
 have H:=hid (zj9 h);clear h;go_enter Tryz.func134,Tryz.ntmps134;go_wp2_with fail;refine H.o.mono ?_;rintro e w1 ⟨v,x,s1,rfl,h1,h2⟩;have HV:=hid h1;obtain ⟨a,cp,rfl,_⟩:=h1;go_wp2_with fail;go_ret;exact ⟨_,x,s1,rfl,HV.o,h2⟩
theorem zj5{s:Option (List UInt8)}(h:qt w rb s):Calls Tryz.prog 136 #[pointer (some ⟨rb,0,none⟩)] w (j8 SgV sgE zn3 w rb s):=by
 have hrb:=h.lt;have H1:=hid fun (w':World) (s':Option (List UInt8)) (h:qt w' rb s')=>zal h;have H2:=hid fun (w':World) (s':Option (List UInt8)) (h:qt w' rb s')=>zdw h;obtain ⟨WA,hWA⟩:∃ WA,WA=w.alloc (.cells #[.slice none 0 0,int i64 0,int i64 0] 36):=⟨_,rfl⟩;have R0:qt WA rb s:=by rw[hWA];exact h.quiet (zc.alloc [] w _)
 have KA:Box (zc [rb] w WA):=hid (by rw[hWA];exact zc.alloc [rb] w _);have hq0:WA.heap[w.heap.size]? = some (.cells #[.slice none 0 0,int i64 0,int i64 0] 36 (0,0)):=by rw[hWA];exact zf w _
 obtain ⟨B,hB⟩:∃ B,B=w.heap.size:=⟨_,rfl⟩;have HB:=hid hB;have SA:Box (rb<B∧B<WA.heap.size):=hid ⟨by rw[hB];exact hrb,by rw[hWA,World.size_alloc,hB];omega⟩;have HWA:=hid hWA;clear h hrb;go_enter Tryz.func136,Tryz.ntmps136;go_wp2_with fail;rw[← hWA, ← hB];rw[← hB] at hq0;clear hWA hB;obtain ⟨q,hq⟩:∃ q,q=B:=⟨_,rfl⟩;rw[← hq] at hq0 ⊢;have HQ:=hid hq;clear hq;refine (H1.o _ _ R0).mono ?_;rintro e w1 ⟨v1,x1,s1,rfl,V1,P1,R1,K1⟩;have Y1:=hid V1;obtain ⟨a1,m1,rfl,_⟩:=V1;have HP1:=hid P1;clear P1 H1;go_wp2_with fail;refine (H2.o _ _ R1).mono ?_;rintro e w2 ⟨v2,x2,s2,rfl,V2,P2,R2,K2⟩;have Y2:=hid V2;obtain ⟨rfl,_⟩:=V2;have HP2:=hid P2;clear P2 H2;have HK9:Box (zc [rb] WA w2):=hid (K1.step K2);have hqm:w2.heap[q]? = some (.cells #[.slice none 0 0,int i64 0,int i64 0] 36 (0,0)):=by
  rw[HK9.o.block q (z8 hq0) (by have:=SA.o;have:=HQ.o;simp;omega)];exact hq0
 have c0:=zd hqm 0;have z0:=zL hqm 0;have c1:=zd hqm 1;have z1:=zL hqm 1;have c2:=zd hqm 2;have z2:=zL hqm 2;obtain ⟨wf,HWF⟩:∃ wf,Box (wf=Zc w2 q 0 0 [.slice a1 x1.length m1,int i64 x2.1,int i64 x2.2]):=⟨_,hid rfl⟩;have h3:wf.heap[q]? = some (.cells #[.slice a1 x1.length m1,int i64 x2.1,int i64 x2.2] 36 (0,0)):=by rw[HWF.o];exact jN _ _ _ _ hqm
 have HWK:Box (zc [q] w2 wf):=hid (by rw[HWF.o];exact zS _ _ _);have HW5:Box (Zc w2 q 0 0 [.slice a1 x1.length m1,int i64 x2.1,int i64 x2.2]=wf):=hid HWF.o.symm;simp only[Zc,Nat.add_zero,Nat.zero_add,Nat.reduceAdd] at HW5;have L1:=hid (zlz zb9.sub (B:=B) (q:=q) Y1.o (by have:=SA.o;have:=HQ.o;omega) (by have:=SA.o;have:=HQ.o;omega) (by have:=SA.o;have:=HQ.o;omega) (((zc.refl [rb,q] w1).step (K2.mono (by simp))).step (HWK.o.mono (by simp))));have HR9:Box (qt wf rb s2):=hid (R2.kept HWK.o (fun x hx=>by rw[List.mem_singleton] at hx;have:=SA.o;have:=HQ.o;omega));have HKF:Box (zc [rb] w wf):=hid ((KA.o.step HK9.o).trans HWK.o (fun x hx hlt=>by rw[List.mem_singleton] at hx;have:=HQ.o;have:=HB.o;omega));have e0:=zd h3 0;have e1:=zd h3 1;have e2:=zd h3 2;clear HWF hqm h3 hq0 K1 R1 K2 R2 R0;go_wp2_with fail;rw[HW5.o];refine bodyPost_ret (v:=agg #[.slice a1 x1.length m1,int i64 x2.1,int i64 x2.2]) (by simp[results,Tryz.results136,go_sem,e0,e1,e2]) rfl ⟨_,(x1,x2),s2,rfl,?_,Stp.pair Cd.tys HP1.o HP2.o,HR9.o,HKF.o⟩;rw[← HB.o];exact ⟨a1,m1,rfl,L1.o,Y2.o.2⟩
theorem zgE{s:Option (List UInt8)}(h:qt w rb s):Calls Tryz.prog 138 #[pointer (some ⟨rb,0,none⟩)] w (j8 IfV qE Jm w rb s):=by
 have hrb:=h.lt;have H1:=hid fun (w':World) (s':Option (List UInt8)) (h:qt w' rb s')=>QC h;obtain ⟨WA,hWA⟩:∃ WA,WA=w.alloc (.cells #[.slice none 0 0] 47):=⟨_,rfl⟩;have R0:qt WA rb s:=by rw[hWA];exact h.quiet (zc.alloc [] w _)
 have KA:Box (zc [rb] w WA):=hid (by rw[hWA];exact zc.alloc [rb] w _);have hq0:WA.heap[w.heap.size]? = some (.cells #[.slice none 0 0] 47 (0,0)):=by rw[hWA];exact zf w _
 obtain ⟨B,hB⟩:∃ B,B=w.heap.size:=⟨_,rfl⟩;have HB:=hid hB;have SA:Box (rb<B∧B<WA.heap.size):=hid ⟨by rw[hB];exact hrb,by rw[hWA,World.size_alloc,hB];omega⟩;have HWA:=hid hWA;clear h hrb;go_enter Tryz.func138,Tryz.ntmps138;go_wp2_with fail;rw[← hWA, ← hB];rw[← hB] at hq0;clear hWA hB;obtain ⟨q,hq⟩:∃ q,q=B:=⟨_,rfl⟩;rw[← hq] at hq0 ⊢;have HQ:=hid hq;clear hq;refine (H1.o _ _ R0).mono ?_;rintro e w1 ⟨v1,x1,s1,rfl,V1,P1,R1,K1⟩;have Y1:=hid V1;obtain ⟨a1,m1,rfl,_⟩:=V1;have HP1:=hid P1;clear P1 H1;have HK9:Box (zc [rb] WA w1):=hid K1;have hqm:w1.heap[q]? = some (.cells #[.slice none 0 0] 47 (0,0)):=by
  rw[HK9.o.block q (z8 hq0) (by have:=SA.o;have:=HQ.o;simp;omega)];exact hq0
 have c0:=zd hqm 0;have z0:=zL hqm 0;obtain ⟨wf,HWF⟩:∃ wf,Box (wf=Zc w1 q 0 0 [.slice a1 x1.length m1]):=⟨_,hid rfl⟩;have h3:wf.heap[q]? = some (.cells #[.slice a1 x1.length m1] 47 (0,0)):=by rw[HWF.o];exact jN _ _ _ _ hqm
 have HWK:Box (zc [q] w1 wf):=hid (by rw[HWF.o];exact zS _ _ _);have HW5:Box (Zc w1 q 0 0 [.slice a1 x1.length m1]=wf):=hid HWF.o.symm;simp only[Zc,Nat.add_zero] at HW5;have L1:=hid (zlz za8.sub (B:=B) (q:=q) Y1.o (by have:=SA.o;have:=HQ.o;omega) (by have:=SA.o;have:=HQ.o;omega) (by have:=SA.o;have:=HQ.o;omega) ((zc.refl [rb,q] w1).step (HWK.o.mono (by simp))));have HR9:Box (qt wf rb s1):=hid (R1.kept HWK.o (fun x hx=>by rw[List.mem_singleton] at hx;have:=SA.o;have:=HQ.o;omega));have HKF:Box (zc [rb] w wf):=hid ((KA.o.step HK9.o).trans HWK.o (fun x hx hlt=>by rw[List.mem_singleton] at hx;have:=HQ.o;have:=HB.o;omega));have e0:=zd h3 0;clear HWF hqm h3 hq0 K1 R1 R0;go_wp2_with fail;rw[HW5.o];refine bodyPost_ret (v:=agg #[.slice a1 x1.length m1]) (by simp[results,Tryz.results138,go_sem,e0]) rfl ⟨_,x1,s1,rfl,?_,HP1.o,HR9.o,HKF.o⟩;rw[← HB.o];exact ⟨a1,m1,rfl,L1.o⟩
theorem zfU{s:Option (List UInt8)}(h:qt w rb s):Calls Tryz.prog 140 #[pointer (some ⟨rb,0,none⟩)] w (j8 ImV imE znu w rb s):=by
 have hrb:=h.lt;have H1:=hid fun (w':World) (s':Option (List UInt8)) (h:qt w' rb s')=>zH h;have H2:=hid fun (w':World) (s':Option (List UInt8)) (h:qt w' rb s')=>zH h;have H3:=hid fun (w':World) (s':Option (List UInt8)) (h:qt w' rb s')=>QC h;obtain ⟨WA,hWA⟩:∃ WA,WA=w.alloc (.cells #[int i64 0,int i64 0,.slice none 0 0] 49):=⟨_,rfl⟩;have R0:qt WA rb s:=by rw[hWA];exact h.quiet (zc.alloc [] w _)
 have KA:Box (zc [rb] w WA):=hid (by rw[hWA];exact zc.alloc [rb] w _);have hq0:WA.heap[w.heap.size]? = some (.cells #[int i64 0,int i64 0,.slice none 0 0] 49 (0,0)):=by rw[hWA];exact zf w _
 obtain ⟨B,hB⟩:∃ B,B=w.heap.size:=⟨_,rfl⟩;have HB:=hid hB;have SA:Box (rb<B∧B<WA.heap.size):=hid ⟨by rw[hB];exact hrb,by rw[hWA,World.size_alloc,hB];omega⟩;have HWA:=hid hWA;clear h hrb;go_enter Tryz.func140,Tryz.ntmps140;go_wp2_with fail;rw[← hWA, ← hB];rw[← hB] at hq0;clear hWA hB;obtain ⟨q,hq⟩:∃ q,q=B:=⟨_,rfl⟩;rw[← hq] at hq0 ⊢;have HQ:=hid hq;clear hq;refine (H1.o _ _ R0).mono ?_;rintro e w1 ⟨v1,x1,s1,rfl,V1,P1,R1,K1⟩;have Y1:=hid V1;obtain ⟨rfl,_⟩:=V1;have HP1:=hid P1;clear P1 H1;go_wp2_with fail;refine (H2.o _ _ R1).mono ?_;rintro e w2 ⟨v2,x2,s2,rfl,V2,P2,R2,K2⟩;have Y2:=hid V2;obtain ⟨rfl,_⟩:=V2;have HP2:=hid P2;clear P2 H2;go_wp2_with fail;refine (H3.o _ _ R2).mono ?_;rintro e w3 ⟨v3,x3,s3,rfl,V3,P3,R3,K3⟩;have Y3:=hid V3;obtain ⟨a3,m3,rfl,_⟩:=V3;have HP3:=hid P3;clear P3 H3;have HK9:Box (zc [rb] WA w3):=hid ((K1.step K2).step K3);have hqm:w3.heap[q]? = some (.cells #[int i64 0,int i64 0,.slice none 0 0] 49 (0,0)):=by
  rw[HK9.o.block q (z8 hq0) (by have:=SA.o;have:=HQ.o;simp;omega)];exact hq0
 have c0:=zd hqm 0;have z0:=zL hqm 0;have c1:=zd hqm 1;have z1:=zL hqm 1;have c2:=zd hqm 2;have z2:=zL hqm 2;obtain ⟨wf,HWF⟩:∃ wf,Box (wf=Zc w3 q 0 0 [int i64 x1,int i64 x2,.slice a3 x3.length m3]):=⟨_,hid rfl⟩;have h3:wf.heap[q]? = some (.cells #[int i64 x1,int i64 x2,.slice a3 x3.length m3] 49 (0,0)):=by rw[HWF.o];exact jN _ _ _ _ hqm
 have HWK:Box (zc [q] w3 wf):=hid (by rw[HWF.o];exact zS _ _ _);have HW5:Box (Zc w3 q 0 0 [int i64 x1,int i64 x2,.slice a3 x3.length m3]=wf):=hid HWF.o.symm;simp only[Zc,Nat.add_zero,Nat.zero_add,Nat.reduceAdd] at HW5;have L3:=hid (zlz za8.sub (B:=B) (q:=q) Y3.o (by have:=SA.o;have:=HQ.o;have:=K1.size;have:=K2.size;omega) (by have:=SA.o;have:=HQ.o;have:=K1.size;have:=K2.size;omega) (by have:=SA.o;have:=HQ.o;have:=K1.size;have:=K2.size;omega) ((zc.refl [rb,q] w3).step (HWK.o.mono (by simp))));have HR9:Box (qt wf rb s3):=hid (R3.kept HWK.o (fun x hx=>by rw[List.mem_singleton] at hx;have:=SA.o;have:=HQ.o;omega));have HKF:Box (zc [rb] w wf):=hid ((KA.o.step HK9.o).trans HWK.o (fun x hx hlt=>by rw[List.mem_singleton] at hx;have:=HQ.o;have:=HB.o;omega));have e0:=zd h3 0;have e1:=zd h3 1;have e2:=zd h3 2;clear HWF hqm h3 hq0 K1 R1 K2 R2 K3 R3 R0;go_wp2_with fail;rw[HW5.o];refine bodyPost_ret (v:=agg #[int i64 x1,int i64 x2,.slice a3 x3.length m3]) (by simp[results,Tryz.results140,go_sem,e0,e1,e2]) rfl ⟨_,(x1,x2,x3),s3,rfl,?_,Stp.pair Cd.num HP1.o (Stp.pair Cd.num HP2.o HP3.o),HR9.o,HKF.o⟩;rw[← HB.o];exact ⟨a3,m3,rfl,Y1.o.2,Y2.o.2,L3.o⟩
section
open Go.ChangeShapes Go.WideShapes Go.ChangeAt
theorem zc.below{L:List Nat}{w':World}(h:zc L w w'){B:Nat}(hB:B≤w.heap.size)(hL:∀ x,x∈L→B≤x):Below B w w':=
 ⟨h.os,h.tape,h.output,h.size,fun k hk=>h.block k (by omega) (fun hx=>by have:=hL k hx;omega)⟩
theorem own:ownKnob Tryz.prog.godebug=none:=by kernel_rfl
theorem zck:laidOutB Tryz.prog=true:=by kernel_rfl
theorem zpy:Tryz.prog.globalNamed "errors.errorType" = some 0:=by kernel_rfl
theorem zkn:(Tryz.prog.cutTypes.find? (·.1 == "internal/reflectlite.rtype")).map (·.2)=some 220:=by kernel_rfl
theorem ziN:Tryz.prog.types.size=281:=by kernel_rfl
theorem zkM:((List.range 281).filter fun t=>Tryz.prog.rowNamed t [101,114,114,111,114])=[51]:=by kernel_rfl
theorem zpQ:Tryz.prog.globalNamed "math/bits.deBruijn64tab" = some 1:=by kernel_rfl
theorem zkb:(Tryz.prog.globals[1]?).map (·.type)=some 245:=by kernel_rfl
theorem zjy:Tryz.prog.cellsOf 245=64:=by kernel_rfl
theorem zlY:Tryz.prog.cellsOf 5=1:=by kernel_rfl
def zeF:List Int:=[0,1,56,2,57,49,28,3,61,58,42,50,38,29,17,4,62,47,59,36,45,43,51,22,53,39,33,30,24,18,12,5,63,55,48,27,60,41,37,16,46,35,44,21,52,32,23,11,54,26,40,15,34,20,31,10,25,14,19,9,13,8,7,6]
theorem zo4:∀ j,j<64→zeF.getD j 0=((Go.Lib.deBruijn64tab.getD j 0:Nat):Int):=by decide +kernel
theorem QI{W:World}(h:laidMetH Tryz.prog [("math/bits.deBruijn64tab",Rows.laid_math_bits_deBruijn64tab),("errors.errorType",Rows.laid_errors_errorType)] W):JX W:=by
 have h':laidMet Tryz.prog [("math/bits.deBruijn64tab",Rows.laid_math_bits_deBruijn64tab)] W∧handlesMet Tryz.prog [("errors.errorType",Rows.laid_errors_errorType)] W:=h;constructor;obtain ⟨name,u,ty,e1,e2,e3,e4,e5⟩:=h'.2 _ (List.mem_singleton.2 rfl);have en:name=[101,114,114,111,114]:=(Option.some.inj e1).symm;subst en;obtain rfl:=Option.some.inj (zkn.symm.trans e2);have hm:ty∈(List.range 281).filter fun t=>Tryz.prog.rowNamed t [101,114,114,111,114]:=List.mem_filter.2 ⟨List.mem_range.2 (by rw[← ziN];exact e3),e4⟩;rw[zkM] at hm;obtain rfl:=List.mem_singleton.1 hm;have hh:typeHandle Tryz.prog 51=pointer (some ⟨2,51,none⟩):=by kernel_rfl
 rw[hh] at e5;simpa using World.var?_cell zpy e5 0
theorem Qn{W:World}(h:laidMetH Tryz.prog [("math/bits.deBruijn64tab",Rows.laid_math_bits_deBruijn64tab),("errors.errorType",Rows.laid_errors_errorType)] W):jS W:=by
 have h':laidMet Tryz.prog [("math/bits.deBruijn64tab",Rows.laid_math_bits_deBruijn64tab)] W∧handlesMet Tryz.prog [("errors.errorType",Rows.laid_errors_errorType)] W:=h;have ht:Lib.TabIs Tryz.prog W "math/bits.deBruijn64tab" .u8 zeF:=Lib.tabIs_of_head (rest:=[]) zpQ zkb Tryz.underlying245 Tryz.underlying5 zlY zjy h'.1;intro j hj;have hc:=ht.cell zpQ j hj;rw[zo4 j hj] at hc;exact hc
def zf3(cs:Array Value):Obj→Obj
 | .cells _ t frozen=>.cells cs t frozen
 | o=>o
def jO(P:Program)(os:Os):World:=
 { World.holding P os ⟨#[],#[],[]⟩ with heap:=((World.holding P os ⟨#[],#[],[]⟩).heap.modify 0 (zf3 #[.iface 220 (agg #[pointer (some ⟨2,51,none⟩)])])).modify 1 (zf3 (zeF.map fun n=>Value.int .u8 n).toArray) }
end
end Go.Proofs.YtkgoimokgbdgfaaGreatDoor
