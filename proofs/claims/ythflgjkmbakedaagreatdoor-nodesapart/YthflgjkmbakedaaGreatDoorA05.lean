import Derived.Laws.IdiomCopy
import Derived.Laws.AppendOwnNone
import Derived.Deep.LoopGhost
import Derived.Shelf.Abstract
import Derived.Deep.RegionHeld
import Derived.Deep.RegionWith
import Derived.Test.YthflgjkmbakedaaGreatDoorA04

namespace Go.Proofs.YthflgjkmbakedaaGreatDoor
open Go.RowKit
open Go.Value (int pointer agg)
open Go.IntKind (i64)
set_option maxRecDepth 20000
set_option maxHeartbeats 8000000
variable {P:Pr8}{b k n tb:Nat}{l:List Int}{w w':World}
structure StC (w:World) (b o:Nat) (s:St):Prop where
 c0:w.cell? ⟨b,o,none⟩=some (int i64 (s.p:Int))
 c1:w.cell? ⟨b,o+1,none⟩=some (int i64 s.r)
 c2:w.cell? ⟨b,o+2,none⟩=some (int i64 (s.c:Int))
 c3:w.cell? ⟨b,o+3,none⟩=some (int i64 (s.n:Int))
theorem StC.stays:Q4 StC:=fun _ _ _ _ _ k h=>⟨za k h.c0,za k h.c1,za k h.c2,za k h.c3⟩
structure SmN (P:Pr8):Prop where
 fn:P.funcs.length≤12
 pt:(pts P).length≤150
 rg:∀ f,f<P.funcs.length→(zf P f).regs.length≤16
 fl:∀ r,zcx P r≤1000
theorem SmN.st(h:SmN P):(qG P).length≤150:=Nat.le_trans (zbx P _) h.pt
theorem SmN.beg(h:SmN P)(hk:k≤P.funcs.length):jv P k≤204:=by
 have h1:=zgE P h.rg k hk;have h2:=h.fn;have:(16+1) * k≤17 * 12:=Nat.mul_le_mul_left _ (by omega);omega
theorem SmN.nodes(h:SmN P)(hk:k≤(pts P).length):(stN P k).2≤150204:=by
 have h1:=zju P h.fl k;have h2:=h.beg (Nat.le_refl _);have h3:=h.pt;have:1000 * k≤1000 * 150:=Nat.mul_le_mul_left _ (by omega);omega
structure TbC (w:World) (tb:Nat) (P:Pr8):Prop where
 bs:∃ a cp,w.cell? ⟨tb,0,none⟩=some (.slice a (P.funcs.length+1) cp)∧zw w a (ziv P P.funcs.length)
 ss:∃ a cp,w.cell? ⟨tb,1,none⟩=some (.slice a (qG P).length cp)∧z7 w 4 StC a (qG P)
 nn:w.cell? ⟨tb,2,none⟩=some (int i64 (zaj P:Int))
theorem TbC.quiet(h:TbC w tb P)(k:zc [] w w'):TbC w' tb P:=by
 obtain ⟨a,cp,h1,h2⟩:=h.bs;obtain ⟨b,cq,h3,h4⟩:=h.ss;exact ⟨⟨a,cp,za k h1,h2.kept k (fun _ _ _=>by simp)⟩,⟨b,cq,za k h3,h4.quiet StC.stays k⟩,za k h.nn⟩
theorem TbC.beg(h:TbC w tb P):∃ b o cp,w.cell? ⟨tb,0,none⟩=some (.slice (some ⟨b,o,none⟩) (P.funcs.length+1) cp)∧∀ f,f≤P.funcs.length→w.cell? ⟨b,o+f,none⟩=some (int i64 (jv P f:Int)):=by
 obtain ⟨a,cp,h1,h2⟩:=h.bs;rcases h2 with h2 | ⟨b,o,rfl,h2⟩
 ·have:=congrArg List.length h2
  rw[zbo] at this;simp at this
 ·refine ⟨b,o,cp,h1,fun f hf=> ?_⟩
  have:=h2 f (by rw[zbo];omega);rw[List.getD_eq_getElem?_getD,zc3 P hf] at this;exact this
theorem zbb(h:TbC w tb P)(hs:SmN P)(f:Int):Calls Tryz.prog 73 #[pointer (some ⟨tb,0,none⟩),int i64 f] w fun e w'=>e=.returned (.bool (isF P f))∧w'=w:=by
 obtain ⟨b,o,cp,h1, -⟩:=h.beg;have h2:=hs.fn;unfold isF;clear h hs;generalize P.funcs.length=n at *;by_cases g1:0≤f
 ·by_cases g2:f<(n:Int)
  ·have g3:f<((n+1:Nat):Int) - 1:=by omega
   rw[decide_eq_true g1,decide_eq_true g2];go_enter Tryz.func73,Tryz.ntmps73;go_wp2;go_ret;exact ⟨rfl,rfl⟩
  ·have g3:¬ f<((n+1:Nat):Int) - 1:=by omega
   rw[decide_eq_true g1,decide_eq_false g2];go_enter Tryz.func73,Tryz.ntmps73;go_wp2;go_ret;exact ⟨rfl,rfl⟩
 ·rw[decide_eq_false g1]
  go_enter Tryz.func73,Tryz.ntmps73;go_wp2;go_ret;exact ⟨rfl,rfl⟩
theorem zb2(h:TbC w tb P)(hs:SmN P)(f:Int):Calls Tryz.prog 40 #[pointer (some ⟨tb,0,none⟩),int i64 f] w fun e w'=>e=.returned (int i64 (zcW P f))∧w'=w:=by
 have hc:=hid (zbb h hs f);unfold zcW;by_cases g:isF P f=true
 ·rw[if_pos g]
  rw[g] at hc;obtain ⟨b,o,cp,h1,h2⟩:=h.beg;have g':=g;unfold isF at g';rw[Bool.and_eq_true] at g';have g1:=of_decide_eq_true g'.1;have g2:=of_decide_eq_true g'.2;obtain ⟨k,rfl⟩:∃ k:Nat,f=(k:Int):=⟨f.toNat,by omega⟩;have h3:=h2 (k+1) (by omega);have h5:=hs.beg (k:=k+1) (by omega);have h4:=hs.fn;rw[Int.toNat_natCast];have e:jv P (k+1)=jv P k+((zf P k).regs.length+1):=rfl;rw[e] at h3 h5;generalize jv P k=x at *;generalize (zf P k).regs.length=y at *;clear h h2 hs g' e;generalize P.funcs.length=n at *;have g3:(k:Int)+1<((n+1:Nat):Int):=by omega
  go_enter Tryz.func40,Tryz.ntmps40;go_wp2_with fail;refine hc.o.mono ?_;rintro e w1 ⟨rfl,rfl⟩;go_wp2_with fail;go_ret;exact ⟨by go_num,rfl⟩
 ·rw[if_neg g]
  rw[Bool.not_eq_true] at g;rw[g] at hc;clear h hs;go_enter Tryz.func40,Tryz.ntmps40;go_wp2_with fail;refine hc.o.mono ?_;rintro e w1 ⟨rfl,rfl⟩;go_wp2_with fail;go_ret;exact ⟨rfl,rfl⟩
def zcv(l:List Int):List Value:=l.map (Value.int .i64)
theorem QG(l:List Int):(zcv l).length=l.length:=by unfold zcv;rw[List.length_map]
theorem zdH(l:List Int)(i:Nat)(h:i<l.length):(zcv l)[i]? = some (int i64 (l.getD i 0)):=by
 unfold zcv;simp[List.getD,List.getElem?_eq_getElem h]
structure q8 (w:World) (g off cap:Nat) (l:List Int):Prop where
 cell:∀ i,i<l.length→w.cell? ⟨g,off+i,none⟩=some (int i64 (l.getD i 0))
 room:∀ k,k<cap→(w.cell? ⟨g,off+k,none⟩).isSome=true∧w.frozen? ⟨g,off+k,none⟩=false
 len:l.length≤cap
 max:cap≤9223372036854775807
 lt:g<w.heap.size
theorem zc.frozen{L:List Nat}(h:zc L w w'){p:Addr}(hp:p.block<w.heap.size)(hn:p.block ∉ L):w'.frozen? p=w.frozen? p:=
 World.frozen?_of_block (w:=w) (h.block p.block hp hn)
theorem q8.kept{g off cap:Nat}{L:List Nat}(h : q8 w g off cap l)(k : zc L w w')(hn : g ∉ L): q8 w' g off cap l :=
  ⟨fun i hi => by rw [k.cell (p := ⟨g, off + i, none⟩) h.lt hn]; exact h.cell i hi,
   fun i hi => by rw [k.cell (p := ⟨g, off + i, none⟩) h.lt hn, k.frozen (p := ⟨g, off + i, none⟩) h.lt hn]; exact h.room i hi,
   h.len, h.max, Nat.lt_of_lt_of_le h.lt k.size⟩
theorem q8.of_owns{base:Nat}{v:Value}(h:w.ownsRow base 3 1 v n (zcv l))(hv:v≠ .slice none 0 0):
  ∃ g cap,v=.slice (some ⟨g,0,none⟩) n cap∧base≤g∧l.length=n∧q8 w g 0 cap l:=by
 have hl:l.length=n:=by have:=h.1;rw[QG] at this;omega
 rcases h.2 with ⟨e,_⟩ | ⟨g,cap,cur,rfl,hb,hg,hnc,hcm,hcs,ht⟩
 ·exact absurd e hv
 ·refine ⟨g,cap,rfl,hb,hl,⟨fun i hi=> ?_,fun k hk=> ?_,by omega,by unfold maxLen at hcm;omega,(Array.getElem?_eq_some_iff.1 hg).1⟩⟩
  ·rw[Nat.zero_add,h.cellAt i (by omega),zdH l i hi]
  ·refine ⟨?_,frozen_of_row w g _ _ _ hg⟩
   rw[cell_of_row w g _ _ _ _ hg,Nat.zero_add,Array.getElem?_eq_getElem (by omega)];rfl
theorem Zz(w:World)(b o k:Nat)(vs:List Value)(ht:∀ j,j<vs.length→(w.cell? ⟨b,o+j,none⟩).isSome=true):
  (w.setCells b o vs).cell? ⟨b,k,none⟩=if o≤k∧k<o+vs.length then vs[k - o]? else w.cell? ⟨b,k,none⟩:=by
 by_cases h:o≤k∧k<o+vs.length
 ·rw[if_pos h]
  have:=World.cell?_setCells_in b vs o w ht (k - o) (by omega);rw[show o+(k - o)=k by omega] at this;rw[this,List.getElem?_eq_getElem]
 ·rw[if_neg h]
  exact World.cell?_setCells_out b vs o w _ (fun _ _=>by show k<o∨o+vs.length≤k;omega)
theorem zc.setCells(g:Nat):∀ (vs:List Value) (o:Nat) (w:World),zc [g] w (w.setCells g o vs)
 | [],_,w=>zc.refl _ _
 | v :: r,o,w=>by
  rw[World.setCells];exact (zc.setCell [g] w ⟨g,o,none⟩ v (by simp)).step (zc.setCells g r (o+1) _)
theorem QQ(w:World)(b o k:Nat)(vs:List Value)(ht:∀ j,j<vs.length→(w.cell? ⟨b,o+j,none⟩).isSome=true)(hk:(w.cell? ⟨b,k,none⟩).isSome=true):((w.setCells b o vs).cell? ⟨b,k,none⟩).isSome=true:=by
 rw[Zz w b o k vs ht];by_cases h:o≤k∧k<o+vs.length
 ·rw[if_pos h,List.getElem?_eq_getElem (by omega)];rfl
 ·rw[if_neg h];exact hk
theorem q8.set{g off cap:Nat}(h:q8 w g off cap l)(o:Nat)(vs:List Value)(l':List Int)(ho:o+vs.length≤cap)(hl:l'.length≤cap)
  (hc:∀ i,i<l'.length→(if o≤i∧i<o+vs.length then vs[i - o]? else w.cell? ⟨g,off+i,none⟩)=some (int i64 (l'.getD i 0))):q8 (w.setCells g (off+o) vs) g off cap l':=by
 have ht:∀ j,j<vs.length→(w.cell? ⟨g,off+o+j,none⟩).isSome=true:=fun j hj=>by rw[Nat.add_assoc];exact (h.room (o+j) (by omega)).1
 refine ⟨fun i hi=> ?_,fun k hk=>⟨QQ w g _ _ vs ht (h.room k hk).1,by rw[World.frozen?_setCells];exact (h.room k hk).2⟩,hl,h.max,Nat.lt_of_lt_of_le h.lt (zc.setCells g vs _ w).size⟩;rw[Zz w g (off+o) (off+i) vs ht, ← hc i hi];by_cases c:o≤i∧i<o+vs.length
 ·rw[if_pos c,if_pos (by omega),show off+i - (off+o)=i - o by omega]
 ·rw[if_neg c,if_neg (by omega)]
theorem zgy:(Tryz.prog.info? 3).map (fun i=>(i.zero,i.size,i.bytes))=some (some (int i64 0),1,8):=by kernel_rfl
theorem zgK(l:List Int)(x:Int)(i:Nat)(h:i<l.length+1):(l ++ [x]).getD i 0=if i<l.length then l.getD i 0 else x:=by
 rw[List.getD_eq_getElem?_getD,List.getD_eq_getElem?_getD];by_cases c:i<l.length
 ·rw[if_pos c,List.getElem?_append_left c]
 ·obtain rfl:i=l.length:=by omega
  rw[if_neg c];simp
theorem zam(w:World)(ty:TypeId)(l:List Int)(x:Int)(lv:Value)
  (hv:(lv=.slice none 0 0∧l=[])∨∃ g off cap,lv=.slice (some ⟨g,off,none⟩) l.length cap∧q8 w g off cap l) (ad:Addr) (c:Nat)
  (hnew:∀ j u,[Value.int .i64 x][j]? = some u→w.cell? (ad.add j)=some u) (hb:l.length<1000000):
  ∃ g' off' cap' w',(Builtin.append_ #[36,36] ty #[lv,.slice (some ad) 1 c]).run Tryz.prog w=.ok (.slice (some ⟨g',off',none⟩) (l.length+1) cap') w'∧
   q8 w' g' off' cap' (l ++ [x])∧zc lv.ownBlock.toList w w'∧(lv.ownBlock=some g'∨g'=w.heap.size):=by
 obtain ⟨i0,hi,hz0,hz1,hz2⟩:=info_parts zgy;have h1:∀ u∈[Value.int .i64 x],u.oneCell'=true:=by intro u hu;simp at hu;subst hu;rfl
 have fresh:∀ (v':Value) (w':World),w'.ownsRow w.heap.size 3 1 v' (l.length+1) (zcv l ++ [Value.int .i64 x])→w.grownBy w' none→w'.heap.size=w.heap.size+1→
   ∃ g' off' cap',v'=.slice (some ⟨g',off',none⟩) (l.length+1) cap'∧q8 w' g' off' cap' (l ++ [x])∧zc lv.ownBlock.toList w w'∧(lv.ownBlock=some g'∨g'=w.heap.size):=by
  intro v' w' ho hg hsz;have e:zcv l ++ [Value.int .i64 x]=zcv (l ++ [x]):=by unfold zcv;rw[List.map_append];rfl
  rw[e] at ho
  obtain ⟨g',cap',rfl,hbg,hl,hline⟩:=q8.of_owns ho (by
   intro ev;rcases ho.2 with ⟨_,h0⟩ | ⟨_,_,_,h',_⟩
   ·omega
   ·rw[ev] at h';simp at h')
  have:=hline.lt;exact ⟨g',0,cap',rfl,hline,zc.grown _ hg (fun k hk=>by cases hk),Or.inr (by omega)⟩
 rcases hv with ⟨rfl,rfl⟩ | ⟨g,off,cap,rfl,hline⟩
 ·have hr:=run_append_nil (P:=Tryz.prog) w 36 ty 3 i0 (int i64 0) Tryz.underlying36 hi hz0 ad 1 c [Value.int .i64 x] (by rw[hz1];rfl) hnew (by omega) (by omega) (by rw[hz2];omega)
  have hge:=grownCap_ge w 1 0 3;have hle:=grownCap_le_maxLen w 1 0 3 (by unfold maxLen;omega);have ho:(w.drew.alloc (.cells ([Value.int .i64 x].toArray ++ Builtin.zeroCells (Value.int .i64 0).cells (grownCap w 1 0 3 - 1)) 3)).ownsRow w.heap.size 3 1 (.slice (some ⟨w.heap.size,0,none⟩) 1 (grownCap w 1 0 3)) 1 (zcv [] ++ [Value.int .i64 x]):=by
   refine ⟨rfl,.inr ⟨_,_,_,rfl,Nat.le_refl _,heap_alloc_new w.drew _,hge,hle,?_,?_⟩⟩
   ·simp only[Array.size_append,List.size_toArray,size_zeroCells]
    show 1+(grownCap w 1 0 3 - 1) * 1=_;omega
   ·simp[zcv]
  obtain ⟨g',off',cap',e,r⟩:=fresh _ _ ho ⟨rfl,rfl,rfl,by simp,fun k hk _=>(by first | exact heap_alloc_old w.drew _ hk | exact heap_alloc_old w.drew _ _ hk)⟩ (by simp);exact ⟨g',off',cap',_,by rw[hr, ← e],r⟩
 ·by_cases hroom:l.length+1≤cap
  ·have hr:=run_append_room_cells (P:=Tryz.prog) w 36 ty 3 i0 Tryz.underlying36 hi g off l.length cap ad 1 c [Value.int .i64 x] (by rw[hz1];rfl) hnew h1 hroom
    (fun j hj=>by rw[hz1,Nat.mul_one,Nat.add_assoc];simp at hj;exact (hline.room _ (by omega)).1) (fun j hj=>by rw[hz1,Nat.mul_one,Nat.add_assoc];simp at hj;exact (hline.room _ (by omega)).2)
   rw[hz1,Nat.mul_one] at hr;refine ⟨g,off,cap,_,hr,hline.set l.length _ (l ++ [x]) (by simpa using hroom) (by simpa using hroom) (fun i hi=> ?_),zc.setCells g _ _ w,Or.inl rfl⟩;rw[List.length_append] at hi;simp at hi;rw[zgK l x i hi];by_cases ci:i<l.length
   ·rw[if_pos ci,if_neg (by omega)];exact hline.cell i ci
   ·obtain rfl:i=l.length:=by omega
    rw[if_neg ci,if_pos (by simp)];simp
  ·have hr0:∃ v' w',(Builtin.append_ #[36,36] ty #[.slice (some ⟨g,off,none⟩) l.length cap,.slice (some ad) 1 c]).run Tryz.prog w=.ok v' w'∧w'.ownsRow w.heap.size 3 1 v' (l.length+1) (zcv l ++ [Value.int .i64 x])∧w.grownBy w' none∧w'.heap.size=w.heap.size+1:=by
    have hlo:(zcv l).length=l.length * i0.size:=by rw[QG,hz1];omega
    have hol:∀ j u,(zcv l)[j]? = some u→w.cell? ((⟨g,off,none⟩:Addr).add j)=some u:=by
     intro j u hu;have hj:j<l.length:=by
      have:=(List.getElem?_eq_some_iff.1 hu).1
      rwa [QG] at this
     rw[zdH l j hj] at hu;rw[Addr.add_lit,hline.cell j hj];exact hu
    have hr:=run_append_grow (P:=Tryz.prog) w 36 ty 3 i0 (int i64 0) Tryz.underlying36 hi hz0 ⟨g,off,none⟩ l.length cap (zcv l) hlo hol ad 1 c [Value.int .i64 x] (by rw[hz1];rfl) hnew (by omega) (by omega) (growslice_fits (by omega) (by rw[hz2];omega));refine ⟨_,_,hr,?_,⟨rfl,rfl,rfl,by simp,fun k hk _=>(by first | exact heap_alloc_old w.drew _ hk | exact heap_alloc_old w.drew _ _ hk)⟩,by simp⟩;have hge:=grownCap_ge w (l.length+1) cap 3;have hle:=grownCap_le_maxLen w (l.length+1) cap 3 (by unfold maxLen;omega);have hll:(zcv l ++ [Value.int .i64 x]).length=l.length+1:=by rw[List.length_append,QG];rfl
    refine ⟨by rw[hll];omega,.inr ⟨_,_,_,rfl,Nat.le_refl _,heap_alloc_new w.drew _,hge,hle,?_,?_⟩⟩
    ·simp only[Array.size_append,List.size_toArray,size_zeroCells,QG]
     show l.length+1+(grownCap w (l.length+1) cap 3 - (l.length+1)) * 1=_;omega
    ·simp only[Array.toList_append,List.append_assoc,Nat.mul_one]
     rw[← List.append_assoc];exact List.take_left' hll
   obtain ⟨v',w',hr,ho,hg,hsz⟩:=hr0;obtain ⟨g',off',cap',rfl,r⟩:=fresh v' w' ho hg hsz;exact ⟨g',off',cap',w',hr,r⟩
theorem Zb{ops:Array Oper}{rest:List Oper}{o:Oper}{a:Act}{Q:Exit→Act→World→Prop}(w:World)(hgd:o.guard=none)(s x':Operand)
  (ho:o.op=.call { callee:=.builtin .append,args:=#[s,x'],argTypes:=#[36,36] })
  (l:List Int) (x:Int) (lv:Value) (hs:a.eval s=lv) (hv:(lv=.slice none 0 0∧l=[])∨∃ g off cap,lv=.slice (some ⟨g,off,none⟩) l.length cap∧q8 w g off cap l)
  (ad:Addr) (c:Nat) (hx:a.eval x'=.slice (some ad) 1 c) (hnew:∀ j u,[Value.int .i64 x][j]? = some u→w.cell? (ad.add j)=some u) (hb:l.length<1000000)
  (h:∀ g' off' cap' w',q8 w' g' off' cap' (l ++ [x])→zc lv.ownBlock.toList w w'→(lv.ownBlock=some g'∨g'=w.heap.size)→wpList Tryz.prog ops Q rest (a.put o.dst (.slice (some ⟨g',off',none⟩) (l.length+1) cap')) w'):
  wpList Tryz.prog ops Q (o :: rest) a w:=by
 refine wpList_plain hgd fun K hK=> ?_;obtain ⟨g',off',cap',w',hr,h2,h3,h4⟩:=zam w o.type l x lv hv ad c hnew hb;unfold Oper.wp execOp;simp only[ho,resolve,invoke,builtin,Sem.run_bind,Sem.run_pure,Result.andThen_ok,List.map_toArray,List.map_cons,List.map_nil,hs,hx,hr];exact hK _ _ (h g' off' cap' w' h2 h3 h4)
section
open Go.Shelf
def Qm(w:World)(P:Pr8)(f b i:Nat)(e:Ending)(w':World):Prop:=
 zc [] w w'∧((i<(zr (zf P f) b).code.length∧∃ a cp,e=.returned (atV (zT (zr (zf P f) b) i) (.slice a (zT (zr (zf P f) b) i).args.length cp))∧zw w' a (zT (zr (zf P f) b) i).args∧zn5 (zT (zr (zf P f) b) i))∨(¬ i<(zr (zf P f) b).code.length∧e=.returned zko))
theorem JF{pb po:Nat}(h:PrC w pb po P)(hs:Sm8 P)(f b i:Nat)(hp:Zh P f b i):
  Calls Tryz.prog 50 #[pointer (some ⟨pb,po,none⟩),ptV f b i] w (Qm w P f b i):=by
 obtain ⟨W,hW⟩:∃ W,W=(w.alloc (.cells #[int i64 (f:Int),int i64 (b:Int),int i64 (i:Int)] 99)).alloc (.cells #[int i64 0,int i64 0,int i64 0,int i64 0,int i64 0,.slice none 0 0] 54):=⟨_,rfl⟩;have HW:=hid hW;have k1:=zc.alloc [] w (.cells #[int i64 (f:Int),int i64 (b:Int),int i64 (i:Int)] 99);have k2:=zc.alloc [] (w.alloc (.cells #[int i64 (f:Int),int i64 (b:Int),int i64 (i:Int)] 99)) (.cells #[int i64 0,int i64 0,int i64 0,int i64 0,int i64 0,.slice none 0 0] 54);have KW:Box (zc [] w W):=hid (by rw[hW];exact k1.quiet k2);have hq:W.heap[w.heap.size]? = some (.cells #[int i64 (f:Int),int i64 (b:Int),int i64 (i:Int)] 99 (0,0)):=by rw[hW];exact ze (zh _ _) k2
 have hz:W.heap[w.heap.size+1]? = some (.cells #[int i64 0,int i64 0,int i64 0,int i64 0,int i64 0,.slice none 0 0] 54 (0,0)):=by
  rw[hW];have:=zh (w.alloc (.cells #[int i64 (f:Int),int i64 (b:Int),int i64 (i:Int)] 99)) (.cells #[int i64 0,int i64 0,int i64 0,int i64 0,int i64 0,.slice none 0 0] 54);rw[World.size_alloc] at this;exact this
 obtain ⟨fa,fcp,H⟩:=h.fns;obtain ⟨fb,fo,ba,bcp,rfl,B⟩:=H.at hp.1;obtain ⟨bb,bo,rfl,L⟩:=B.at hp.2.1;obtain ⟨ca,ccp,hcc0,hrows,_⟩:=L.c0;have hcc:=za KW.o hcc0;have h4:=za KW.o H.cell;have h2:=za KW.o B.cell;have p0:W.cell? ⟨w.heap.size,0,none⟩=some (int i64 (f:Int)):=zd hq 0;have p1:W.cell? ⟨w.heap.size,1,none⟩=some (int i64 (b:Int)):=zd hq 1;have p2:W.cell? ⟨w.heap.size,2,none⟩=some (int i64 (i:Int)):=zd hq 2;have hf:=hp.1;have hb:=hp.2.1;have hi:=hp.2.2;have hf12:=hs.fn;have hb14:=hs.bk f hf;have hc9:=hs.code hf hb;have FIN:Box (i<(zr (zf P f) b).code.length→∀ a cp w',zc [] w w'→zw w' a (zT (zr (zf P f) b) i).args→zn5 (zT (zr (zf P f) b) i)→Qm w P f b i (.returned (.tuple #[agg #[int i64 (zT (zr (zf P f) b) i).op,int i64 (zT (zr (zf P f) b) i).dst,int i64 (zT (zr (zf P f) b) i).a,int i64 (zT (zr (zf P f) b) i).b,int i64 (zT (zr (zf P f) b) i).n,.slice a (zT (zr (zf P f) b) i).args.length cp],.bool true])) w'):=hid fun h1 a cp w' h2 h3 h4=>⟨h2,.inl ⟨h1,a,cp,rfl,h3,h4⟩⟩;have FIE:Box (¬ i<(zr (zf P f) b).code.length→∀ w',zc [] w w'→Qm w P f b i (.returned zko) w'):=hid fun h1 w' h2=>⟨h2,.inr ⟨h1,rfl⟩⟩;have HRW:=hid hrows;clear h hs hp k1 k2 H B L hrows hW hcc0;generalize hNf:P.funcs.length=N at *;generalize hMb:(zf P f).blocks.length=M at *;clear hNf hMb;generalize zr (zf P f) b=x at *;have g0:¬ (f:Int)<0:=by omega
 have g1:¬ (N:Int)≤(f:Int):=by omega
 have g1':(f:Int)<(N:Int):=by omega
 have g2:¬ (b:Int)<0:=by omega
 have g3:¬ (M:Int)≤(b:Int):=by omega
 have g3':(b:Int)<(M:Int):=by omega
 have g4:¬ (i:Int)<0:=by omega
 have z0:=zi hz 0;have z1:=zi hz 1;have z2:=zi hz 2;have z3:=zi hz 3;have z4:=zi hz 4;have z5:=zi hz 5;have c0:=zd hz 0;have c1:=zd hz 1;have c2:=zd hz 2;have c3:=zd hz 3;have c4:=zd hz 4;have c5:=zd hz 5;have HHZ:=hid hz;have hzl:w.heap.size≤w.heap.size+1:=by omega
 unfold ptV;by_cases hin:i<x.code.length
 ·obtain ⟨cb,co,rfl,h3⟩:=HRW.o.at (zj3 hin)
  obtain ⟨hok,ar,acp,y50,y6,_⟩:=h3.open;have y5:=za KW.o y50;have y0:=za KW.o h3.c0.1;have y1:=za KW.o h3.c1.1;have y2:=za KW.o h3.c2.1;have y3:=za KW.o h3.c3.1;have y4:=za KW.o h3.c4.1;have HY6:=hid y6;have HOK:=hid hok;have HIN:=hid hin;have g5:¬ (x.code.length:Int)≤(i:Int):=by omega
  have g5':(i:Int)<(x.code.length:Int):=by omega
  clear h3 y6 hok HRW hq hz y50;generalize x.code.length=n at *;generalize (zT x i).op=v0 at *;generalize (zT x i).dst=v1 at *;generalize (zT x i).a=v2 at *;generalize (zT x i).b=v3 at *;generalize (zT x i).n=v4 at *;generalize (zT x i).args=ag at *;go_enter Tryz.func50,Tryz.ntmps50;go_upto_region 1 with fail;rw[← HW.o];clear HW;generalize hq0:w.heap.size=q at *;go_quiet (fail);go_wp2_with fail
  go_region
  go_wp2_with fail;have h6:=znN (w:=W.drewN (nq+1)) HHZ.o (int i64 v0) (int i64 v1) (int i64 v2) (int i64 v3) (int i64 v4) (.slice ar ag.length acp);have e0:=zd h6 0;have e1:=zd h6 1;have e2:=zd h6 2;have e3:=zd h6 3;have e4:=zd h6 4;have e5:=zd h6 5;have KF:=(KW.o.quiet (zc.drewN [] W (nq+1))).fresh (zjv (W.drewN (nq+1)) (q+1) (int i64 v0) (int i64 v1) (int i64 v2) (int i64 v3) (int i64 v4) (.slice ar ag.length acp)) (fun x hx=>by simp at hx;omega);refine bodyPost_ret (v:=.tuple #[agg #[int i64 v0,int i64 v1,int i64 v2,int i64 v3,int i64 v4,.slice ar ag.length acp],.bool true]) (by simp[results,Tryz.results50,go_sem,e0,e1,e2,e3,e4,e5]) rfl ?_;exact FIN.o HIN.o ar acp _ KF (HY6.o.kept KF (fun _ _ _=>by simp)) HOK.o
 ·have hne:i=x.code.length:=by omega
  have HIN:=hid hin;have g5:(x.code.length:Int)≤(i:Int):=by omega
  clear HRW FIN hq hz;generalize x.code.length=n at *;clear hne hin;go_enter Tryz.func50,Tryz.ntmps50;go_upto_region 1 with fail;rw[← HW.o];clear HW;generalize hq0:w.heap.size=q at *;go_quiet (fail);go_wp2_with fail;have h6:=znN (w:=W.drewN nq) HHZ.o (int i64 0) (int i64 0) (int i64 0) (int i64 0) (int i64 0) (.slice none 0 0);have e0:=zd h6 0;have e1:=zd h6 1;have e2:=zd h6 2;have e3:=zd h6 3;have e4:=zd h6 4;have e5:=zd h6 5;have KF:=(KW.o.quiet (zc.drewN [] W nq)).fresh (zjv (W.drewN nq) (q+1) (int i64 0) (int i64 0) (int i64 0) (int i64 0) (int i64 0) (.slice none 0 0)) (fun x hx=>by simp at hx;omega);exact bodyPost_ret (v:=zko) (by simp[results,Tryz.results50,go_sem,zko,z8,zfl,e0,e1,e2,e3,e4,e5]) rfl (FIE.o HIN.o _ KF)
end
def zbl(x:Bl8):List Int:=if x.fin=1 then [x.to] else if x.fin=2 then (if x.els=x.to then [x.to] else [x.to,x.els]) else []
def zo1(P:Pr8)(f b i:Int):Int:=if znZ P f b then (if 0≤i∧i≤((zr (zf P f.toNat) b.toNat).code.length:Int) then (znS P f.toNat b.toNat i.toNat:Int) else -1) else -1
theorem ziT(x:Bl8):(zbl x).length≤2:=by
 unfold zbl;split
 ·simp
 ·split
  ·split <;> simp
  ·simp
def QI(P:Pr8)(f:Nat)(zs:List Int):List (Nat × Nat × Nat):=(zs.filter fun z=>decide (0≤z∧z<((zf P f).blocks.length:Int))).map fun z=>(f,z.toNat,0)
def Jb(P:Pr8)(f b i:Nat):List (Nat × Nat × Nat):=if i<(zr (zf P f) b).code.length then [(f,b,i+1)] else QI P f (zbl (zr (zf P f) b))
theorem zh5(P:Pr8)(f:Nat)(zs:List Int):(QI P f zs).length≤zs.length:=by
 unfold QI;rw[List.length_map];exact List.length_filter_le _ _
theorem zky(P:Pr8)(f:Nat)(zs:List Int)(z:Int)(h:0≤z∧z<((zf P f).blocks.length:Int)):QI P f (zs ++ [z])=QI P f zs ++ [(f,z.toNat,0)]:=by
 unfold QI;rw[List.filter_append,List.map_append,List.filter_cons,if_pos (by simpa using h)];rfl
theorem zhR(P:Pr8)(f:Nat)(zs:List Int)(z:Int)(h:¬ (0≤z∧z<((zf P f).blocks.length:Int))):QI P f (zs ++ [z])=QI P f zs:=by
 unfold QI;rw[List.filter_append,List.map_append,List.filter_cons,if_neg (by simpa using h)];simp
theorem zlA{f i:Nat}(h:Zh P f b i):∀ q,q∈Jb P f b i→Zh P q.1 q.2.1 q.2.2:=by
 intro q hq;unfold Jb at hq;by_cases hi:i<(zr (zf P f) b).code.length
 ·rw[if_pos hi] at hq
  obtain rfl:=List.mem_singleton.1 hq;exact ⟨h.1,h.2.1,hi⟩
 ·rw[if_neg hi] at hq
  unfold QI at hq;obtain ⟨z,hz,rfl⟩:=List.mem_map.1 hq;rw[List.mem_filter] at hz;have h9:=hz.2;simp only[decide_eq_true_eq] at h9;exact ⟨h.1,by show z.toNat<(zf P f).blocks.length;omega,Nat.zero_le _⟩
theorem zm2(w:World)(u:Nat)(hu:u=w.heap.size)(f b i:Nat)(z:Int)(hz:z=(i:Int)):z7 (w.alloc (.cells #[int i64 (f:Int),int i64 (b:Int),int i64 z] 99)) 3 PtC (some ⟨u,0,none⟩) [(f,b,i)]:=by
 subst hu;subst hz;have hn:=zh w (.cells #[int i64 (f:Int),int i64 (b:Int),int i64 (i:Int)] 99);refine .inr ⟨_,0,rfl,fun j q hq=> ?_⟩;have hj:j=0:=by
  rcases Nat.lt_or_ge j 1 with h | h
  ·omega
  ·rw[List.getElem?_eq_none (by simpa using h)] at hq;cases hq
 subst hj;simp at hq;subst hq;rw[Nat.zero_mul];exact ⟨zd hn 0,zd hn 1,zd hn 2⟩
def Sub(w w':World):Prop:=∀ p v,w.cell? p=some v→w'.cell? p=some v
def zo3{α:Type}(R:World→Nat→Nat→α→Prop):Prop:=∀ w w' b o y,Sub w w'→R w b o y→R w' b o y
def zod(B:Nat)(w:World):World:={ w with heap:=w.heap.mapIdx fun i o=>if i<B then .cells #[] 0 (0,0) else o }
def zov{α:Type}(V:World→Value→α→Prop):Prop:=∀ w w' v y,Sub w w'→V w v y→V w' v y
def sgn(x y:Int):Int:=if x<y then -1 else if y<x then 1 else 0
theorem zbU(x y:Int)(w:World):Calls Tryz.prog 65 #[int i64 x,int i64 y] w fun e w'=>e=.returned (int i64 (sgn x y))∧w'=w:=by
 unfold sgn;by_cases h1:x<y
 ·rw[if_pos h1]
  go_enter Tryz.func65,Tryz.ntmps65;go_wp2;go_ret;exact ⟨rfl,rfl⟩
 ·rw[if_neg h1]
  by_cases h2:y<x
  ·rw[if_pos h2]
   go_enter Tryz.func65,Tryz.ntmps65;go_wp2;go_ret;exact ⟨rfl,rfl⟩
  ·rw[if_neg h2]
   go_enter Tryz.func65,Tryz.ntmps65;go_wp2;go_ret;exact ⟨rfl,rfl⟩
def stV(s:St):Value:=agg #[int i64 (s.p:Int),int i64 s.r,int i64 (s.c:Int),int i64 (s.n:Int)]
theorem zem(s:St)(t:Int)(w:World):Calls Tryz.prog 107 #[stV s,int i64 t] w fun e w'=>e=.returned (int i64 (sgn (s.p:Int) t))∧zc [] w w':=by
 have HC:=hid fun w'=>zbU (s.p:Int) t w';unfold stV;generalize sgn (s.p:Int) t=r at *;generalize (s.p:Int)=p at *;generalize (s.c:Int)=c at *;generalize (s.n:Int)=n at *;generalize s.r=q at *;have K:=zc.alloc [] w (.cells #[int i64 p,int i64 q,int i64 c,int i64 n] 144);go_enter Tryz.func107,Tryz.ntmps107;go_wp2_with fail;refine (HC.o _).mono ?_;rintro e w1 ⟨rfl,rfl⟩;go_wp2_with fail;go_ret;exact ⟨rfl,K⟩
def BsP(S:List St)(t:Int)(w:World)(e:Ending)(w':World):Prop:=
 zc [] w w'∧∃ (k:Nat) (b:Bool),e=.returned (.tuple #[int i64 (k:Int),.bool b])∧(b=true→∃ s,S[k]? = some s∧(s.p:Int)=t)∧(b=false→∀ s,s∈S→(s.p:Int)≠t)
theorem zc4{S:List St}(hr:S.Pairwise fun s t=>s.p<t.p){i j:Nat}{s t:St}(hi:S[i]? = some s)(hj:S[j]? = some t)(h:i<j):s.p<t.p:=by
 obtain ⟨h1,rfl⟩:=List.getElem?_eq_some_iff.1 hi;obtain ⟨h2,rfl⟩:=List.getElem?_eq_some_iff.1 hj;exact List.pairwise_iff_getElem.1 hr i j h1 h2 h
theorem zkt{a:Option Addr}{cp:Nat}{S:List St}(h:z7 w 4 StC a S)(hn:S.length≤1000)(hr:S.Pairwise fun s t=>s.p<t.p)(t:Int):
  Calls Tryz.prog 106 #[.slice a S.length cp,int i64 t,.func (.func 107) #[] #[]] w (BsP S t w):=by
 have HR:=hid h;have HS:=hid hr;have HC:=hid zem;obtain ⟨n,hN⟩:∃ n,n=S.length:=⟨_,rfl⟩;have HN:=hid hN;rw[← hN] at hn ⊢
 have I0:Box ((∀ i s,S[i]? = some s→i<0→(s.p:Int)<t)∧(∀ i s,S[i]? = some s→n≤i→t≤(s.p:Int))):=hid ⟨fun i s _ h=>by omega,fun i s h1 h2=>by
  have:=(List.getElem?_eq_some_iff.1 h1).1
  omega⟩
 clear h hr hN;go_enter Tryz.func106,Tryz.ntmps106;go_wp2_with fail
 go_loopg [9,10] n (fun kx s9 s10 wr=>∃ lo hi:Nat,s9=int i64 (lo:Int)∧s10=int i64 (hi:Int)∧lo≤hi∧hi≤n∧hi - lo≤kx∧Box (zc [] w wr)∧
  Box ((∀ i s,S[i]? = some s→i<lo→(s.p:Int)<t)∧(∀ i s,S[i]? = some s→hi≤i→t≤(s.p:Int))))
 case atStart=>exact ⟨0,n,rfl,rfl,Nat.zero_le _,Nat.le_refl _,by omega,hid (zc.refl _ _),I0⟩
 case round=>
  clear I0;obtain ⟨lo,hi,rfl,rfl,hlh,hin,hg,K1,I⟩:=hrel;by_cases hlt:lo<hi
  ·obtain ⟨m,hm⟩:∃ m,m=(lo+hi) / 2:=⟨_,rfl⟩
   have HM:=hid (show lo≤m∧m<hi by omega);have em:((lo:Int)+(hi:Int)) / 2=(m:Int):=by omega
   have hmn:m<n:=by omega
   obtain ⟨s,hs⟩:∃ s,S[m]? = some s:=⟨_,List.getElem?_eq_getElem (by have:=HN.o;omega)⟩;have HSS:=hid hs;obtain ⟨rb,ro,rfl,hc⟩:=(HR.o.quiet StC.stays K1.o).at hs;have c0:=hc.c0;have c1:=hc.c1;have c2:=hc.c2;have c3:=hc.c3;clear hc hs;by_cases hlt2:(s.p:Int)<t
   ·have hcl:=hid fun w'=>HC.o s t w'
    unfold sgn stV at hcl;rw[if_pos hlt2] at hcl
    have I2:Box ((∀ i x,S[i]? = some x→i<m+1→(x.p:Int)<t)∧(∀ i x,S[i]? = some x→hi≤i→t≤(x.p:Int))):=hid ⟨fun i x hx h=>by
     by_cases e:i=m
     ·rw[e,HSS.o] at hx
      rw[← Option.some.inj hx];exact hlt2
     ·have:=zc4 HS.o hx HSS.o (by omega)
      omega,I.o.2⟩
    clear I hlt2;generalize (s.p:Int)=sp at *;generalize (s.c:Int)=sc at *;generalize (s.n:Int)=sn at *;generalize s.r=sr at *;clear hm;go_upto_region 5 with fail;clear em;go_wp2_with fail;refine (hcl.o _).mono ?_;rintro e w' ⟨rfl,kq⟩;have KQ:=hid kq;clear kq;go_wp2_with fail
    go_roundg (hi - (m+1))
    case measure=>have:=HM.o;omega
    case rel=>exact ⟨m+1,hi,by go_num,rfl,by have:=HM.o;omega,hin,Nat.le_refl _,hid (K1.o.quiet KQ.o),I2⟩
   ·have hcl:Box (∀ w',∃ r:Int,¬ r<0∧Calls Tryz.prog 107 #[agg #[int i64 (s.p:Int),int i64 s.r,int i64 (s.c:Int),int i64 (s.n:Int)],int i64 t] w' fun e w2=>e=.returned (int i64 r)∧zc [] w' w2):=hid fun w'=>⟨sgn (s.p:Int) t,by unfold sgn;rw[if_neg hlt2];split <;> decide,HC.o s t w'⟩
    have I2:Box ((∀ i x,S[i]? = some x→i<lo→(x.p:Int)<t)∧(∀ i x,S[i]? = some x→m≤i→t≤(x.p:Int))):=hid ⟨I.o.1,fun i x hx h=>by
     by_cases e:i=m
     ·rw[e,HSS.o] at hx
      rw[← Option.some.inj hx];omega
     ·have:=zc4 HS.o HSS.o hx (by omega)
      omega⟩
    clear I hlt2;generalize (s.p:Int)=sp at *;generalize (s.c:Int)=sc at *;generalize (s.n:Int)=sn at *;generalize s.r=sr at *;clear hm;go_upto_region 5 with fail;clear em;go_wp2_with fail;obtain ⟨r,hr0,hcx⟩:=hcl.o wr;refine hcx.mono ?_;rintro e w' ⟨rfl,kq⟩;have KQ:=hid kq;clear kq hcx;go_wp2_with fail
    go_roundg (m - lo)
    case measure=>have:=HM.o;omega
    case rel=>exact ⟨lo,m,rfl,rfl,by have:=HM.o;omega,by omega,Nat.le_refl _,hid (K1.o.quiet KQ.o),I2⟩
  ·obtain rfl:lo=hi:=by omega
   by_cases hln:lo<n
   ·obtain ⟨s,hs⟩:∃ s,S[lo]? = some s:=⟨_,List.getElem?_eq_getElem (by have:=HN.o;omega)⟩
    have HSS:=hid hs;obtain ⟨rb,ro,rfl,hc⟩:=(HR.o.quiet StC.stays K1.o).at hs;have c0:=hc.c0;have c1:=hc.c1;have c2:=hc.c2;have c3:=hc.c3;clear hc hs;have hcl:=hid fun w'=>HC.o s t w';unfold stV at hcl
    have hz:Box (sgn (s.p:Int) t=0 ↔ (s.p:Int)=t):=hid (by
     unfold sgn;by_cases h1:(s.p:Int)<t
     ·rw[if_pos h1];constructor <;> intro h <;> omega
     ·rw[if_neg h1]
      by_cases h2:t<(s.p:Int)
      ·rw[if_pos h2];constructor <;> intro h <;> omega
      ·rw[if_neg h2];constructor <;> intro h <;> omega)
    have I2:=I;obtain ⟨sp,hsp⟩:∃ sp,sp=(s.p:Int):=⟨_,rfl⟩;have HSP:=hid hsp;rw[← hsp] at hcl hz c0;clear hsp;generalize (s.c:Int)=sc at *;generalize (s.n:Int)=sn at *;generalize s.r=sr at *;generalize sgn sp t=r at *;by_cases hr0:r=0
    ·go_wp2_with fail
     refine (hcl.o _).mono ?_;rintro e w' ⟨rfl,kq⟩;have KQ:=hid kq;clear kq;go_wp2_with fail
     go_ret2
     exact ⟨K1.o.quiet KQ.o,lo,true,rfl,fun _=>⟨s,HSS.o,by rw[← HSP.o];exact hz.o.1 hr0⟩,fun h=>by cases h⟩
    ·go_wp2_with fail
     refine (hcl.o _).mono ?_;rintro e w' ⟨rfl,kq⟩;have KQ:=hid kq;clear kq;go_wp2_with fail
     go_ret2
     refine ⟨K1.o.quiet KQ.o,lo,(r == 0),rfl,fun h=>absurd (eq_of_beq h) hr0,fun _ x hx e=> ?_⟩;obtain ⟨i,hi⟩:=List.getElem?_of_mem hx;have g1:=I2.o.1 i x hi;have g2:=I2.o.2 i x hi;by_cases e1:i=lo
     ·subst e1
      rw[HSS.o] at hi;obtain rfl:=Option.some.inj hi;exact hr0 (hz.o.2 (by rw[HSP.o];exact e))
     ·by_cases e2:i<lo
      ·have:=g1 e2
       omega
      ·have h1:=zc4 HS.o HSS.o hi (by omega)
       have h2:=I2.o.2 lo s HSS.o (Nat.le_refl _);omega
   ·go_wp2_with fail
    go_ret2
    refine ⟨K1.o,lo,false,rfl,fun h=>(by cases h),fun _ x hx e=> ?_⟩;obtain ⟨i,hi⟩:=List.getElem?_of_mem hx;have g1:=I.o.1 i x hi;have h3:=(List.getElem?_eq_some_iff.1 hi).1;have h4:=HN.o;have:=g1 (by omega);omega
theorem zlz{x0 x1 x2 x3:Value}{T:TypeId}(h:w.heap[b]? = some (.cells #[x0,x1,x2,x3] T (0,0)))(u0 u1 u2 u3:Value):
  ((((w.setCell ⟨b,0,none⟩ u0).setCell ⟨b,1,none⟩ u1).setCell ⟨b,2,none⟩ u2).setCell ⟨b,3,none⟩ u3).heap[b]? = some (.cells #[u0,u1,u2,u3] T (0,0)):=
 heap_setCell_same _ b 3 _ _ u3 (heap_setCell_same _ b 2 _ _ u2 (heap_setCell_same _ b 1 _ _ u1 (heap_setCell_same w b 0 _ _ u0 h)))
theorem zfL(w:World)(b:Nat)(u0 u1 u2 u3:Value):zc [b] w ((((w.setCell ⟨b,0,none⟩ u0).setCell ⟨b,1,none⟩ u1).setCell ⟨b,2,none⟩ u2).setCell ⟨b,3,none⟩ u3):=
 (((zc.setCell [b] _ _ _ (List.mem_singleton.2 rfl)).step (zc.setCell [b] _ _ _ (List.mem_singleton.2 rfl))).step (zc.setCell [b] _ _ _ (List.mem_singleton.2 rfl))).step (zc.setCell [b] _ _ _ (List.mem_singleton.2 rfl))
theorem zdL(h:TbC w tb P):Calls Tryz.prog 35 #[pointer (some ⟨tb,0,none⟩)] w fun e w'=>e=.returned (int i64 (zaj P:Int))∧w'=w:=by
 have h1:=h.nn;clear h;go_enter Tryz.func35,Tryz.ntmps35;go_wp2;go_ret;exact ⟨rfl,rfl⟩
def siV(o:Option St):Value:=.tuple #[match o with | none=>agg #[int i64 0,int i64 0,int i64 0,int i64 0] | some s=>stV s,.bool o.isSome]
theorem zbG(h:TbC w tb P)(hs:SmN P)(t:Int):Calls Tryz.prog 74 #[pointer (some ⟨tb,0,none⟩),int i64 t] w fun e w'=>e=.returned (siV (za3 P t))∧zc [] w w':=by
 obtain ⟨a,cp,h1,h2⟩:=h.ss;have HN:=hid hs.st;have HL:Box (∃ n,n=(qG P).length):=hid ⟨_,rfl⟩;have k1:=zc.alloc [] w (.cells #[int i64 0,int i64 0,int i64 0,int i64 0] 144);have hn:=zh w (.cells #[int i64 0,int i64 0,int i64 0,int i64 0] 144);have hlt:=zQ hn;have g1:=za k1 h1;have HB:=hid fun w' (k:zc [] w w')=>zkt (cp:=cp) (h2.quiet StC.stays k) (Nat.le_trans hs.st (by decide)) ((zaT P (pts P).length).imp fun h=>h.1) t;have K1:=hid k1;have HQ:=hid hn;have HR:=hid h2;clear h hs h1 h2 k1 hn;go_enter Tryz.func74,Tryz.ntmps74;go_upto_region 3 with fail;generalize w.alloc (.cells #[int i64 0,int i64 0,int i64 0,int i64 0] 144)=w1 at *;obtain ⟨q,hq⟩:∃ q,q=w.heap.size:=⟨_,rfl⟩;have HQS:=hid (show w.heap.size≤q by omega);rw[← hq] at HQ ⊢;clear hq hlt;go_wp2_with fail;refine (HB.o _ K1.o).mono ?_;rintro e w2 ⟨k2,k,b,rfl,hy,hz⟩;have K2:=hid k2;have h9:=ze HQ.o k2;have z0:=zd h9 0;have z1:=zd h9 1;have z2:=zd h9 2;have z3:=zd h9 3;have y0:=zi h9 0;have y1:=zi h9 1;have y2:=zi h9 2;have y3:=zi h9 3;have g2:=za k2 g1;have H9:=hid h9;clear k2 h9 g1;have hql:q<w2.heap.size:=block_lt_of_cell z0;cases b with
 | false=>
  have hno:za3 P t=none:=by
   cases e:za3 P t with
   | none=>rfl
   | some s=>exact absurd (jT e).2 (hz rfl s (jT e).1)
  have HE:Box (siV (za3 P t)=.tuple #[agg #[int i64 0,int i64 0,int i64 0,int i64 0],.bool false]):=hid (by rw[hno];rfl);clear hy hz hno;go_wp2_with fail;have h6:=zlz H9.o (int i64 0) (int i64 0) (int i64 0) (int i64 0);have e0:=zd h6 0;have e1:=zd h6 1;have e2:=zd h6 2;have e3:=zd h6 3;exact bodyPost_ret (v:=.tuple #[agg #[int i64 0,int i64 0,int i64 0,int i64 0],.bool false]) (by simp[results,Tryz.results74,go_sem,e0,e1,e2,e3]) rfl ⟨congrArg Ending.returned HE.o.symm,(K1.o.quiet K2.o).fresh (zfL _ _ _ _ _ _) fun x hx=>by rw[List.mem_singleton.1 hx];exact HQS.o⟩
 | true=>
  obtain ⟨s,hs,ht⟩:=hy rfl;have hye:za3 P t=some s:=by
   rw[← ht];exact J8 (List.mem_of_getElem? hs)
  have HE:Box (siV (za3 P t)=.tuple #[stV s,.bool true]):=hid (by rw[hye];rfl);have hkn:=(List.getElem?_eq_some_iff.1 hs).1;obtain ⟨rb,ro,rfl,hc⟩:=(HR.o.quiet StC.stays (K1.o.quiet K2.o)).at hs;have c0:=hc.c0;have c1:=hc.c1;have c2:=hc.c2;have c3:=hc.c3;have hne:rb≠q:=by
   intro e;have:=HR.o;rcases this with h | ⟨b',o',h',hr⟩
   ·rw[h] at hs
    simp at hs
   ·have h3:=block_lt_of_cell (hr _ _ hs).c0
    simp at h';have:=HQS.o;have h'':=h'.1;simp at h3;omega
  clear hy hz hc hs ht hye;unfold stV at HE;generalize (s.p:Int)=sp at *;generalize (s.c:Int)=sc at *;generalize (s.n:Int)=sn at *;generalize s.r=sr at *;generalize (qG P).length=n at *;go_wp2_with fail;have h6:=zlz H9.o (int i64 sp) (int i64 sr) (int i64 sc) (int i64 sn);have e0:=zd h6 0;have e1:=zd h6 1;have e2:=zd h6 2;have e3:=zd h6 3;exact bodyPost_ret (v:=.tuple #[agg #[int i64 sp,int i64 sr,int i64 sc,int i64 sn],.bool true]) (by simp[results,Tryz.results74,go_sem,e0,e1,e2,e3]) rfl ⟨congrArg Ending.returned HE.o.symm,(K1.o.quiet K2.o).fresh (zfL _ _ _ _ _ _) fun x hx=>by rw[List.mem_singleton.1 hx];exact HQS.o⟩
def stP(P:Pr8):List Nat:=(qG P).map fun s=>s.p
theorem zbE(l:List Nat)(x:Nat):jE (l ++ [x])=jE l ++ [int i64 (x:Int)]:=by
 unfold jE;rw[List.map_append];rfl
theorem za2(h:TbC w tb P)(hs:SmN P):Calls Tryz.prog 37 #[pointer (some ⟨tb,0,none⟩)] w fun e w'=>zc [] w w'∧∃ v,e=.returned v∧w'.ownsRow w.heap.size 3 1 v (stP P).length (jE (stP P)):=by
 obtain ⟨a,cp,h1,h2⟩:=h.ss;have hn:=hs.st;have HR:=hid h2;have H0:Box (w.ownsRow w.heap.size 3 1 (.slice none 0 0) 0 (jE ((stP P).take 0))):=hid (World.ownsRow_nil _ _ _ _);obtain ⟨n,hN⟩:∃ n,n=(qG P).length:=⟨_,rfl⟩;have HN:=hid hN;rw[← hN] at h1 hn;have HS:Box (∀ k s,(qG P)[k]? = some s→(stP P).take (k+1)=(stP P).take k ++ [s.p]):=hid fun k s h=>by
  rw[List.take_add_one];unfold stP;rw[List.getElem?_map,h];rfl
 clear h hs h2 hN;go_enter Tryz.func37,Tryz.ntmps37;go_wp2_with fail
 go_loopw [3,13] (fun lv kv wr=>∃ k:Nat,k≤n∧kv=int i64 (k:Int)∧Box (wr.ownsRow w.heap.size 3 1 lv k (jE ((stP P).take k)))∧Box (zc [] w wr)) (fun _ kv _=>n - (intOf kv).toNat)
 case atStart=>exact ⟨0,by omega,rfl,H0,hid (zc.refl _ _)⟩
 case round=>
  obtain ⟨k,hk,rfl,HO,HK⟩:=hrel;clear H0 h1;by_cases hlt:k<n
  ·have hlt':(k:Int)<(n:Int):=by omega
   obtain ⟨s,hs⟩:∃ s,(qG P)[k]? = some s:=⟨_,List.getElem?_eq_getElem (by rw[← HN.o];exact hlt)⟩;have HT:=hid (HS.o k s hs);obtain ⟨rb,ro,rfl,hc⟩:=(HR.o.quiet StC.stays HK.o).at hs;have c0:=hc.c0;have c1:=hc.c1;have c2:=hc.c2;have c3:=hc.c3;clear hc hs;generalize (s.c:Int)=sc at *;generalize (s.n:Int)=sn at *;generalize s.r=sr at *;generalize s.p=sp at *;have hks:=HK.o.size;have KA:=zc.alloc [] wr (.cells #[int i64 (sp:Int),int i64 sr,int i64 sc,int i64 sn] 144);have n0:=zd (zh wr (.cells #[int i64 (sp:Int),int i64 sr,int i64 sc,int i64 sn] 144)) 0;have HO5:=hid (HO.o.alloc (.cells #[int i64 (sp:Int),int i64 sr,int i64 sc,int i64 sn] 144));have HK5:=hid (HK.o.quiet KA);clear HO HK;go_upto_region 7 with fail;generalize wr.alloc (.cells #[int i64 (sp:Int),int i64 sr,int i64 sc,int i64 sn] 144)=w5 at *;have hs5:=HK5.o.size;have hq5:=block_lt_of_cell n0;generalize wr.heap.size=q at *;clear KA hks;go_wp2_with (at_builtin;go_must (refine wpList_append_own_at _ rfl _ _ 36 rfl w.heap.size 3 Tryz.t3 (int i64 0) 1 8 zE zU qu qs zX rfl (by decide) _ _ _ rfl (HO5.o.alloc _) _ 1 1 [int i64 (sp:Int)] rfl rfl (cell_one_new _ _ _) (fun x hx=>by simp at hx;subst hx;rfl) (by unfold maxLen;omega) (by omega) (by simp;omega) ?_;intro v8 w8 hown8 hgrow8 hnil8 hat8))
   have HO8:Box (w8.ownsRow w.heap.size 3 1 v8 (k+1) (jE ((stP P).take (k+1)))):=hid (by
    rw[HT.o,zbE]
    exact hown8)
   have HK8:Box (zc [] w w8):=hid ((HK5.o.quiet (zc.alloc [] _ _)).appended HO5.o hgrow8 (Nat.le_refl _));clear hown8 hgrow8 hnil8 hat8 HO5 HK5;go_wp2_with fail;go_roundw
   case rel=>exact ⟨k+1,by omega,by go_num,HO8,HK8⟩
   case measure=>simp[intOf];omega
  ·obtain rfl:k=n:=by omega
   go_wp2_with fail;go_ret;refine ⟨HK.o,_,rfl,?_⟩;have hl:(stP P).length=k:=by unfold stP;rw[List.length_map];exact HN.o.symm
   have:=HO.o;rw[List.take_of_length_le (by omega)] at this;rw[hl];exact this
theorem QR{α:Type}{l:List α}{d:α}(h:¬ k<l.length):l.getD k d=d:=by rw[List.getD_eq_getElem?_getD,List.getElem?_eq_none (by omega)];rfl
def zcp(w:World)(P:Pr8)(f b i:Nat)(e:Ending)(w':World):Prop:=∃ a cp,e=.returned (.slice a (Jb P f b i).length cp)∧z7 w' 3 PtC a (Jb P f b i)∧zc [] w w'∧∀ g o,a=some ⟨g,o,none⟩→w.heap.size≤g
theorem zjP{base:Nat}{T:TypeId}{c:Nat}{v:Value}{xs:List Value}(h:w.ownsRow base T c v n xs){a:Option Addr}{m cp:Nat}(hv:v=.slice a m cp):∀ g o,a=some ⟨g,o,none⟩→base≤g:=by
 intro g o e;subst e;rcases h.2 with ⟨e1,_⟩ | ⟨g',cap,cur,e1,hb,_⟩
 ·rw[e1] at hv
  cases hv
 ·rw[e1] at hv
  cases hv;exact hb
def tgB(n:Nat)(x:Bl8):List Nat:=
 (if (x.fin=1∨x.fin=2)∧inB x.to n=true then [x.to.toNat] else []) ++ (if x.fin=2∧x.els≠x.to∧inB x.els n=true then [x.els.toNat] else [])
theorem zhc{x:Bl8}:∀ u,u∈tgB n x→u<n:=by
 intro u hu;unfold tgB at hu;rcases List.mem_append.1 hu with h | h
 ·split at h
  ·next c=>rw[List.mem_singleton] at h;have:=zt.1 c.2;omega
  ·cases h
 ·split at h
  ·next c=>rw[List.mem_singleton] at h;have:=zt.1 c.2.2;omega
  ·cases h
theorem zkM{x:Bl8}:(tgB n x).length≤2:=by
 unfold tgB;rw[List.length_append];split <;> split <;> simp
def zy(F:Fu8):List (List Nat):=F.blocks.map (tgB F.blocks.length)
theorem zO(F:Fu8):(zy F).length=F.blocks.length:=by unfold zy;rw[List.length_map]
theorem zdm{g:List (List Nat)}(h:¬ b<g.length):nb g b=[]:=by
 unfold nb;rw[List.getD_eq_getElem?_getD,List.getElem?_eq_none (by omega)];rfl
theorem Ql{F:Fu8}(h:b<F.blocks.length):nb (zy F) b=tgB F.blocks.length (zr F b):=by
 unfold nb zy zr;rw[List.getD_eq_getElem?_getD,List.getD_eq_getElem?_getD,List.getElem?_map,List.getElem?_eq_getElem h];rfl
theorem jk{F:Fu8}(h:F.blocks.length≤600):Sm (zy F):=by
 refine ⟨fun j y hy=> ?_,by rw[zO];exact h,fun j=> ?_⟩
 ·rw[zO]
  by_cases hj:j<F.blocks.length
  ·rw[Ql hj] at hy
   exact zhc y hy
  ·rw[zdm (by rw[zO];exact hj)] at hy
   cases hy
 ·by_cases hj:j<F.blocks.length
  ·rw[Ql hj]
   exact Nat.le_trans zkM (by decide)
  ·rw[zdm (by rw[zO];exact hj)]
   simp
end Go.Proofs.YthflgjkmbakedaaGreatDoor
