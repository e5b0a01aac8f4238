import Derived.Test.YthflgjkmbakedaaGreatDoorA14

namespace Go.Proofs.YthflgjkmbakedaaGreatDoor
open Go.RowKit
open Go.Value (int pointer agg)
open Go.IntKind (i64)
set_option maxHeartbeats 4000000
variable {w:World}
theorem Qy{P:Program}(base:Nat)(t ty e:TypeId)(i:TypeInfo)(size:Nat)(ht:P.underlying t=some (.slice e))(hi:P.info? e=some i)
  (v:Value) (n:Nat) (xs:List Value) (hown:w.ownsRow base e size v n xs) (c:Nat):
  (Builtin.append_ #[t,t] ty #[v,.slice none 0 c]).run P w=.ok v w:=by
 rcases hown.2 with ⟨rfl,rfl⟩ | ⟨g,cap,cur,rfl,_,_,hnc,_⟩
 ·simp[Builtin.append_,run_underlying ht,sizeOf,typeInfo,hi,Builtin.lenOf,Builtin.firstCells]
 ·simp[Builtin.append_,run_underlying ht,sizeOf,typeInfo,hi,Builtin.lenOf,Builtin.firstCells,hnc,storeCells]
theorem qn{P:Program}{ops:Array Oper}{rest:List Oper}{o:Oper}{a:Act}{Q:Exit→Act→World→Prop}(hgd:o.guard=none)(s x:Operand)(t:TypeId)
  (ho:o.op=.call { callee:=.builtin .append,args:=#[s,x],argTypes:=#[t,t] })
  (base:Nat) (e:TypeId) (i:TypeInfo) (size:Nat) (ht:P.underlying t=some (.slice e)) (hi:P.info? e=some i)
  (v:Value) (n:Nat) (xs:List Value) (hs:a.eval s=v) (hown:w.ownsRow base e size v n xs) {c:Nat}(hx:a.eval x=.slice none 0 c)
  (h:wpList P ops Q rest (a.put o.dst v) w):wpList P ops Q (o :: rest) a w:=by
 refine wpList_plain hgd fun K hK=> ?_;have hrun:=Qy (P:=P) (w:=w) base t o.type e i size ht hi v n xs hown c;unfold Oper.wp;simp[execOp,ho,resolve,invoke,builtin,hs,hx,hrun,Result.andThen];exact hK _ _ h
def zD(x:In8):Bool:=decide ((1≤x.op∧x.op≤7)∨(10≤x.op∧x.op≤14))
def QC(x:In8):Value:=.tuple #[int i64 (if zD x then x.dst else 0),.bool (zD x)]
theorem qm{x:In8}(h:zD x=true):QC x=.tuple #[int i64 x.dst,.bool true]:=by unfold QC;rw[h];rfl
theorem ZP{x:In8}(h:zD x=false):QC x=.tuple #[int i64 0,.bool false]:=by unfold QC;rw[h];rfl
theorem znE(x:In8)(ar:Value)(w:World)(hop:x.op=1):Calls Tryz.prog 214 #[z8 x ar] w fun e w'=>e=.returned (QC x)∧zc [] w w':=by
 rw[qm (by unfold zD;rw[hop];rfl)];unfold z8;rw[hop];go_enter Tryz.func214,Tryz.ntmps214;go_wp2
 go_ret2
 exact ⟨rfl,zc.alloc _ _ _⟩
theorem znn(x:In8)(ar:Value)(w:World)(hop:x.op=2):Calls Tryz.prog 214 #[z8 x ar] w fun e w'=>e=.returned (QC x)∧zc [] w w':=by
 rw[qm (by unfold zD;rw[hop];rfl)];unfold z8;rw[hop];go_enter Tryz.func214,Tryz.ntmps214;go_wp2
 go_ret2
 exact ⟨rfl,zc.alloc _ _ _⟩
theorem znq(x:In8)(ar:Value)(w:World)(hop:x.op=3):Calls Tryz.prog 214 #[z8 x ar] w fun e w'=>e=.returned (QC x)∧zc [] w w':=by
 rw[qm (by unfold zD;rw[hop];rfl)];unfold z8;rw[hop];go_enter Tryz.func214,Tryz.ntmps214;go_wp2
 go_ret2
 exact ⟨rfl,zc.alloc _ _ _⟩
theorem znj(x:In8)(ar:Value)(w:World)(hop:x.op=4):Calls Tryz.prog 214 #[z8 x ar] w fun e w'=>e=.returned (QC x)∧zc [] w w':=by
 rw[qm (by unfold zD;rw[hop];rfl)];unfold z8;rw[hop];go_enter Tryz.func214,Tryz.ntmps214;go_wp2
 go_ret2
 exact ⟨rfl,zc.alloc _ _ _⟩
theorem znF(x:In8)(ar:Value)(w:World)(hop:x.op=5):Calls Tryz.prog 214 #[z8 x ar] w fun e w'=>e=.returned (QC x)∧zc [] w w':=by
 rw[qm (by unfold zD;rw[hop];rfl)];unfold z8;rw[hop];go_enter Tryz.func214,Tryz.ntmps214;go_wp2
 go_ret2
 exact ⟨rfl,zc.alloc _ _ _⟩
theorem zny(x:In8)(ar:Value)(w:World)(hop:x.op=6):Calls Tryz.prog 214 #[z8 x ar] w fun e w'=>e=.returned (QC x)∧zc [] w w':=by
 rw[qm (by unfold zD;rw[hop];rfl)];unfold z8;rw[hop];go_enter Tryz.func214,Tryz.ntmps214;go_wp2
 go_ret2
 exact ⟨rfl,zc.alloc _ _ _⟩
theorem zmZ(x:In8)(ar:Value)(w:World)(hop:x.op=7):Calls Tryz.prog 214 #[z8 x ar] w fun e w'=>e=.returned (QC x)∧zc [] w w':=by
 rw[qm (by unfold zD;rw[hop];rfl)];unfold z8;rw[hop];go_enter Tryz.func214,Tryz.ntmps214;go_wp2
 go_ret2
 exact ⟨rfl,zc.alloc _ _ _⟩
theorem zme(x:In8)(ar:Value)(w:World)(hop:x.op=10):Calls Tryz.prog 214 #[z8 x ar] w fun e w'=>e=.returned (QC x)∧zc [] w w':=by
 rw[qm (by unfold zD;rw[hop];rfl)];unfold z8;rw[hop];go_enter Tryz.func214,Tryz.ntmps214;go_wp2
 go_ret2
 exact ⟨rfl,zc.alloc _ _ _⟩
theorem zl4(x:In8)(ar:Value)(w:World)(hop:x.op=11):Calls Tryz.prog 214 #[z8 x ar] w fun e w'=>e=.returned (QC x)∧zc [] w w':=by
 rw[qm (by unfold zD;rw[hop];rfl)];unfold z8;rw[hop];go_enter Tryz.func214,Tryz.ntmps214;go_wp2
 go_ret2
 exact ⟨rfl,zc.alloc _ _ _⟩
theorem zmy(x:In8)(ar:Value)(w:World)(hop:x.op=12):Calls Tryz.prog 214 #[z8 x ar] w fun e w'=>e=.returned (QC x)∧zc [] w w':=by
 rw[qm (by unfold zD;rw[hop];rfl)];unfold z8;rw[hop];go_enter Tryz.func214,Tryz.ntmps214;go_wp2
 go_ret2
 exact ⟨rfl,zc.alloc _ _ _⟩
theorem zlX(x:In8)(ar:Value)(w:World)(hop:x.op=13):Calls Tryz.prog 214 #[z8 x ar] w fun e w'=>e=.returned (QC x)∧zc [] w w':=by
 rw[qm (by unfold zD;rw[hop];rfl)];unfold z8;rw[hop];go_enter Tryz.func214,Tryz.ntmps214;go_wp2
 go_ret2
 exact ⟨rfl,zc.alloc _ _ _⟩
theorem zlO(x:In8)(ar:Value)(w:World)(hop:x.op=14):Calls Tryz.prog 214 #[z8 x ar] w fun e w'=>e=.returned (QC x)∧zc [] w w':=by
 rw[qm (by unfold zD;rw[hop];rfl)];unfold z8;rw[hop];go_enter Tryz.func214,Tryz.ntmps214;go_wp2
 go_ret2
 exact ⟨rfl,zc.alloc _ _ _⟩
theorem zm6(x:In8)(ar:Value)(w:World)(hop:x.op≠1∧x.op≠2∧x.op≠3∧x.op≠4∧x.op≠5∧x.op≠6∧x.op≠7∧x.op≠10∧x.op≠11∧x.op≠12∧x.op≠13∧x.op≠14):Calls Tryz.prog 214 #[z8 x ar] w fun e w'=>e=.returned (QC x)∧zc [] w w':=by
 rw[ZP (by unfold zD;simp;omega)];unfold z8;have o1:=neb (show x.op≠1 by omega);have o2:=neb (show x.op≠2 by omega);have o3:=neb (show x.op≠3 by omega);have o4:=neb (show x.op≠4 by omega);have o5:=neb (show x.op≠5 by omega);have o6:=neb (show x.op≠6 by omega);have o7:=neb (show x.op≠7 by omega);have o10:=neb (show x.op≠10 by omega);have o11:=neb (show x.op≠11 by omega);have o12:=neb (show x.op≠12 by omega);have o13:=neb (show x.op≠13 by omega);have o14:=neb (show x.op≠14 by omega);clear hop;go_enter Tryz.func214,Tryz.ntmps214;go_wp2
 go_ret2
 exact ⟨rfl,zc.alloc _ _ _⟩
theorem zaL(x:In8)(ar:Value)(w:World):Calls Tryz.prog 214 #[z8 x ar] w fun e w'=>e=.returned (QC x)∧zc [] w w':=by
 by_cases o1:x.op=1
 ·exact znE x ar w o1
 by_cases o2:x.op=2
 ·exact znn x ar w o2
 by_cases o3:x.op=3
 ·exact znq x ar w o3
 by_cases o4:x.op=4
 ·exact znj x ar w o4
 by_cases o5:x.op=5
 ·exact znF x ar w o5
 by_cases o6:x.op=6
 ·exact zny x ar w o6
 by_cases o7:x.op=7
 ·exact zmZ x ar w o7
 by_cases o10:x.op=10
 ·exact zme x ar w o10
 by_cases o11:x.op=11
 ·exact zl4 x ar w o11
 by_cases o12:x.op=12
 ·exact zmy x ar w o12
 by_cases o13:x.op=13
 ·exact zlX x ar w o13
 by_cases o14:x.op=14
 ·exact zlO x ar w o14
 exact zm6 x ar w ⟨o1,o2,o3,o4,o5,o6,o7,o10,o11,o12,o13,o14⟩
theorem zfG(n c:Nat)(w:World):Calls Tryz.prog 92 #[.slice none n c] w fun e w'=>e=.returned (.slice none 0 0)∧w'=w:=by
 have q:∀ (w:World) (a:Option Addr) (n c n' c':Nat),(binOp .eql 36 (.slice a n c) (.slice none n' c')).run Tryz.prog w=.ok (.bool a.isNone) w:=fun w a n c n' c'=>Lib.run_eql_slice_nil w _ _ a n c n' c' Tryz.underlying36;go_enter Tryz.func92,Tryz.ntmps92;go_wp2;go_ret;exact ⟨rfl,rfl⟩
theorem zeB(ad:Addr)(n c:Nat)(zs:List Int)(w:World)(hl:zs.length=n)(hz:zw w (some ad) zs)(hb:n≤17592186044416):
  Calls Tryz.prog 92 #[.slice (some ad) n c] w fun e w'=>∃ v,e=.returned v∧w'.ownsRow w.heap.size 3 1 v n (JA zs)∧zc [] w w':=by
 have q:∀ (w:World) (a:Option Addr) (n c n' c':Nat),(binOp .eql 36 (.slice a n c) (.slice none n' c')).run Tryz.prog w=.ok (.bool a.isNone) w:=fun w a n c n' c'=>Lib.run_eql_slice_nil w _ _ a n c n' c' Tryz.underlying36
 have H:Box (∀ j u,(JA zs)[j]? = some u→w.cell? (ad.add j)=some u):=hid (by
  rcases hz with e | ⟨b,off,e,h⟩
  ·intro j u hj;rw[e] at hj;simp[JA] at hj
  ·cases e
   exact zf0 h)
 have HL:=hid hl;clear hz hl;go_enter Tryz.func92,Tryz.ntmps92;go_wp2_with (at_builtin;go_must (refine wpList_append_own _ rfl _ _ 36 rfl w.heap.size 3 Tryz.t3 (int i64 0) 1 8 zE zU qu qs zX rfl (by decide) _ _ _ rfl (World.ownsRow_made w #[] 0 (Nat.le_refl _) (Nat.zero_le _) rfl) ad n c (JA zs) rfl (by rw[ZF,HL.o];omega) (fun j u hj=>Lib.cell?_alloc_some _ (H.o j u hj)) (Qh zs) (by unfold maxLen;omega) (by omega) (by simp) ?_;intro v' w1 hown hgrow hnil));have HO:=hid hown;have hg2:(w.alloc (Obj.cells #[] 3)).grownBy w1 (some w.heap.size):=hgrow;have HK:=hid ((zc.alloc [] w _).trans (zc.grown [w.heap.size] hg2 (fun k hk=>by simp at hk;simp[hk])) (fun x hx hlt=>by simp at hx;omega):zc [] w w1);clear hown hgrow hnil hg2;go_wp2_with fail;go_ret;exact ⟨v',rfl,by simpa using HO.o,HK.o⟩
theorem zf8(a:Option Addr)(c:Nat)(zs:List Int)(w:World)(hz:zw w a zs)(hb:zs.length≤17592186044416):
  Calls Tryz.prog 92 #[.slice a zs.length c] w fun e w'=>∃ a' c',e=.returned (.slice a' zs.length c')∧zw w' a' zs∧zc [] w w'∧∀ b off,a'=some ⟨b,off,none⟩→w.heap.size≤b:=by
 cases a with
 | none=>
  obtain rfl:zs=[]:=by
   rcases hz with e | ⟨b,off,e,_⟩
   ·exact e
   ·cases e
  refine (zfG 0 c w).mono ?_;rintro e w' ⟨rfl,rfl⟩;exact ⟨none,0,rfl,Or.inl rfl,zc.refl _ _,fun _ _ e=>by cases e⟩
 | some ad=>
  refine (zeB ad zs.length c zs w rfl hz hb).mono ?_;rintro e w' ⟨v,rfl,ho,hk⟩;obtain ⟨a',c',e1,_,h1,_,h2⟩:=jN ho;exact ⟨a',c',by rw[e1],h1,hk,h2⟩
theorem zjK(x:In8)(ar:Value)(w:World)(hop:x.op<1):Calls Tryz.prog 173 #[z8 x ar] w fun e w'=>e=.returned (QC x)∧zc [] w w':=by
 rw[ZP (by unfold zD;simp;omega)];unfold z8;have f1:x.op<1:=hop;clear hop;go_enter Tryz.func173,Tryz.ntmps173;go_wp2
 go_ret2
 exact ⟨rfl,zc.alloc _ _ _⟩
theorem zjZ(x:In8)(ar:Value)(w:World)(hop:15<x.op):Calls Tryz.prog 173 #[z8 x ar] w fun e w'=>e=.returned (QC x)∧zc [] w w':=by
 rw[ZP (by unfold zD;simp;omega)];unfold z8;have f1:¬ x.op<1:=by omega
 have f2:15<x.op:=hop;clear hop;go_enter Tryz.func173,Tryz.ntmps173;go_wp2
 go_ret2
 exact ⟨rfl,zc.alloc _ _ _⟩
theorem zmI(x:In8)(ar:Value)(w:World)(hop:x.op=8):Calls Tryz.prog 173 #[z8 x ar] w fun e w'=>e=.returned (QC x)∧zc [] w w':=by
 rw[ZP (by unfold zD;simp;omega)];unfold z8;have f1:¬ x.op<1:=by omega
 have f2:¬ 15<x.op:=by omega
 have o8:=eqb hop;clear hop;go_enter Tryz.func173,Tryz.ntmps173;go_wp2
 go_ret2
 exact ⟨rfl,zc.alloc _ _ _⟩
theorem zlR(x:In8)(ar:Value)(w:World)(hop:x.op=9):Calls Tryz.prog 173 #[z8 x ar] w fun e w'=>e=.returned (QC x)∧zc [] w w':=by
 rw[ZP (by unfold zD;simp;omega)];unfold z8;have f1:¬ x.op<1:=by omega
 have f2:¬ 15<x.op:=by omega
 have o8:=neb (show x.op≠8 by omega);have o9:=eqb hop;clear hop;go_enter Tryz.func173,Tryz.ntmps173;go_wp2
 go_ret2
 exact ⟨rfl,zc.alloc _ _ _⟩
theorem zk0(x:In8)(ar:Value)(w:World)(hop:x.op=15):Calls Tryz.prog 173 #[z8 x ar] w fun e w'=>e=.returned (QC x)∧zc [] w w':=by
 rw[ZP (by unfold zD;simp;omega)];unfold z8;have f1:¬ x.op<1:=by omega
 have f2:¬ 15<x.op:=by omega
 have o8:=neb (show x.op≠8 by omega);have o9:=neb (show x.op≠9 by omega);have o15:=eqb hop;clear hop;go_enter Tryz.func173,Tryz.ntmps173;go_wp2
 go_ret2
 exact ⟨rfl,zc.alloc _ _ _⟩
theorem zhK(x:In8)(ar:Value)(w:World)(hop:1≤x.op∧x.op≤14∧x.op≠8∧x.op≠9):Calls Tryz.prog 173 #[z8 x ar] w fun e w'=>e=.returned (QC x)∧zc [] w w':=by
 rw[qm (by unfold zD;simp;omega)];unfold z8;have f1:¬ x.op<1:=by omega
 have f2:¬ 15<x.op:=by omega
 have o8:=neb (show x.op≠8 by omega);have o9:=neb (show x.op≠9 by omega);have o15:=neb (show x.op≠15 by omega);clear hop;go_enter Tryz.func173,Tryz.ntmps173;go_wp2
 go_ret2
 exact ⟨rfl,zc.alloc _ _ _⟩
theorem zb7(x:In8)(ar:Value)(w:World):Calls Tryz.prog 173 #[z8 x ar] w fun e w'=>e=.returned (QC x)∧zc [] w w':=by
 by_cases h1:x.op<1
 ·exact zjK x ar w h1
 by_cases h2:15<x.op
 ·exact zjZ x ar w h2
 by_cases h8:x.op=8
 ·exact zmI x ar w h8
 by_cases h9:x.op=9
 ·exact zlR x ar w h9
 by_cases h15:x.op=15
 ·exact zk0 x ar w h15
 exact zhK x ar w ⟨by omega,by omega,h8,h9⟩
def zN(x:In8):List Int:=if x.op=2∨x.op=8 then [x.a,x.b] else if x.op=6∨x.op=7∨x.op=9∨x.op=11∨x.op=15 then [x.a] else if x.op=12 then x.args else if x.op=13∨x.op=14 then x.a :: x.args else []
theorem zat(w:World)(b:Nat)(hb:b=w.heap.size)(z:Int):zw (w.alloc (.cells #[int i64 z] 3)) (some ⟨b,0,none⟩) [z]:=by
 subst hb
 exact .inr ⟨_,0,rfl,fun i hi=>by
  obtain rfl:i=0:=by simpa using hi
  rw[World.cell?_alloc_at _ _ _ _ rfl];rfl⟩
theorem zmU(w:World)(b:Nat)(hb:b=w.heap.size)(y z:Int):zw (w.alloc (.cells #[int i64 y,int i64 z] 3)) (some ⟨b,0,none⟩) [y,z]:=by
 subst hb
 exact .inr ⟨_,0,rfl,fun i hi=>by
  rw[World.cell?_alloc_at _ _ _ _ rfl]
  rcases (show i=0∨i=1 by simp at hi;omega) with rfl | rfl <;> rfl⟩
theorem zhw(w:World)(base b:Nat)(hb:b=w.heap.size)(hs:base≤w.heap.size)(z:Int):(w.alloc (.cells #[int i64 z] 3)).ownsRow base 3 1 (.slice (some ⟨b,0,none⟩) 1 1) 1 [int i64 z]:=by
 subst hb;exact World.ownsRow_lit (base:=base) (e:=3) (size:=1) w #[int i64 z] 1 hs (by unfold maxLen;omega) rfl
theorem Zr{ad:Addr}{l:List Int}(h:zw w (some ad) l):∀ j u,(JA l)[j]? = some u→w.cell? (ad.add j)=some u:=by
 rcases h with e | ⟨b,off,e,h⟩
 ·intro j u hj;rw[e] at hj;simp[JA] at hj
 ·cases e
  exact zf0 h
theorem zlZ(x:In8)(a:Option Addr)(cp:Nat)(w:World)(hop:x.op=2):Calls Tryz.prog 213 #[z8 x (.slice a x.args.length cp)] w fun e w'=>∃ a' c',e=.returned (.slice a' ([x.a,x.b]).length c')∧zw w' a' ([x.a,x.b])∧zc [] w w':=by
 have o2:=eqb hop;clear hop;unfold z8;go_enter Tryz.func213,Tryz.ntmps213;go_wp2;go_ret;exact ⟨_,_,rfl,zmU _ _ (by simp) _ _,(zc.alloc [] _ _).quiet (zc.alloc [] _ _)⟩
theorem zl9(x:In8)(a:Option Addr)(cp:Nat)(w:World)(hop:x.op=8):Calls Tryz.prog 213 #[z8 x (.slice a x.args.length cp)] w fun e w'=>∃ a' c',e=.returned (.slice a' ([x.a,x.b]).length c')∧zw w' a' ([x.a,x.b])∧zc [] w w':=by
 have o2:=neb (show x.op≠2 by omega);have o8:=eqb hop;clear hop;unfold z8;go_enter Tryz.func213,Tryz.ntmps213;go_wp2;go_ret;exact ⟨_,_,rfl,zmU _ _ (by simp) _ _,(zc.alloc [] _ _).quiet (zc.alloc [] _ _)⟩
theorem zm9(x:In8)(a:Option Addr)(cp:Nat)(w:World)(hop:x.op=6):Calls Tryz.prog 213 #[z8 x (.slice a x.args.length cp)] w fun e w'=>∃ a' c',e=.returned (.slice a' ([x.a]).length c')∧zw w' a' ([x.a])∧zc [] w w':=by
 have o2:=neb (show x.op≠2 by omega);have o8:=neb (show x.op≠8 by omega);have o6:=eqb hop;clear hop;unfold z8;go_enter Tryz.func213,Tryz.ntmps213;go_wp2;go_ret;exact ⟨_,_,rfl,zat _ _ (by simp) _,(zc.alloc [] _ _).quiet (zc.alloc [] _ _)⟩
theorem zmb(x:In8)(a:Option Addr)(cp:Nat)(w:World)(hop:x.op=7):Calls Tryz.prog 213 #[z8 x (.slice a x.args.length cp)] w fun e w'=>∃ a' c',e=.returned (.slice a' ([x.a]).length c')∧zw w' a' ([x.a])∧zc [] w w':=by
 have o2:=neb (show x.op≠2 by omega);have o8:=neb (show x.op≠8 by omega);have o6:=neb (show x.op≠6 by omega);have o7:=eqb hop;clear hop;unfold z8;go_enter Tryz.func213,Tryz.ntmps213;go_wp2;go_ret;exact ⟨_,_,rfl,zat _ _ (by simp) _,(zc.alloc [] _ _).quiet (zc.alloc [] _ _)⟩
theorem zmB(x:In8)(a:Option Addr)(cp:Nat)(w:World)(hop:x.op=9):Calls Tryz.prog 213 #[z8 x (.slice a x.args.length cp)] w fun e w'=>∃ a' c',e=.returned (.slice a' ([x.a]).length c')∧zw w' a' ([x.a])∧zc [] w w':=by
 have o2:=neb (show x.op≠2 by omega);have o8:=neb (show x.op≠8 by omega);have o6:=neb (show x.op≠6 by omega);have o7:=neb (show x.op≠7 by omega);have o9:=eqb hop;clear hop;unfold z8;go_enter Tryz.func213,Tryz.ntmps213;go_wp2;go_ret;exact ⟨_,_,rfl,zat _ _ (by simp) _,(zc.alloc [] _ _).quiet (zc.alloc [] _ _)⟩
theorem zj9(x:In8)(a:Option Addr)(cp:Nat)(w:World)(hop:x.op=11):Calls Tryz.prog 213 #[z8 x (.slice a x.args.length cp)] w fun e w'=>∃ a' c',e=.returned (.slice a' ([x.a]).length c')∧zw w' a' ([x.a])∧zc [] w w':=by
 have o2:=neb (show x.op≠2 by omega);have o8:=neb (show x.op≠8 by omega);have o6:=neb (show x.op≠6 by omega);have o7:=neb (show x.op≠7 by omega);have o9:=neb (show x.op≠9 by omega);have o11:=eqb hop;clear hop;unfold z8;go_enter Tryz.func213,Tryz.ntmps213;go_wp2;go_ret;exact ⟨_,_,rfl,zat _ _ (by simp) _,(zc.alloc [] _ _).quiet (zc.alloc [] _ _)⟩
theorem zkz(x:In8)(a:Option Addr)(cp:Nat)(w:World)(hop:x.op=15):Calls Tryz.prog 213 #[z8 x (.slice a x.args.length cp)] w fun e w'=>∃ a' c',e=.returned (.slice a' ([x.a]).length c')∧zw w' a' ([x.a])∧zc [] w w':=by
 have o2:=neb (show x.op≠2 by omega);have o8:=neb (show x.op≠8 by omega);have o6:=neb (show x.op≠6 by omega);have o7:=neb (show x.op≠7 by omega);have o9:=neb (show x.op≠9 by omega);have o11:=neb (show x.op≠11 by omega);have o15:=eqb hop;clear hop;unfold z8;go_enter Tryz.func213,Tryz.ntmps213;go_wp2;go_ret;exact ⟨_,_,rfl,zat _ _ (by simp) _,(zc.alloc [] _ _).quiet (zc.alloc [] _ _)⟩
theorem zkx(x:In8)(a:Option Addr)(cp:Nat)(w:World)(hz:zw w a x.args)(hl:x.args.length≤1048576)(hop:x.op=12):Calls Tryz.prog 213 #[z8 x (.slice a x.args.length cp)] w fun e w'=>∃ a' c',e=.returned (.slice a' (x.args).length c')∧zw w' a' (x.args)∧zc [] w w':=by
 have o2:=neb (show x.op≠2 by omega);have o8:=neb (show x.op≠8 by omega);have o6:=neb (show x.op≠6 by omega);have o7:=neb (show x.op≠7 by omega);have o9:=neb (show x.op≠9 by omega);have o11:=neb (show x.op≠11 by omega);have o15:=neb (show x.op≠15 by omega);have o12:=eqb hop;have HC:=hid (zf8 a cp x.args (w.alloc (.cells #[int i64 x.op,int i64 x.dst,int i64 x.a,int i64 x.b,int i64 x.n,.slice a x.args.length cp] 54)) (hz.kept (zc.alloc [] _ _) (fun _ _ _=>by simp)) (by omega));clear hop hz;unfold z8;go_enter Tryz.func213,Tryz.ntmps213;go_wp2_with (go_at_call 92;refine HC.o.mono ?_;rintro e w1 ⟨a1,c1,rfl,h1,k1,_⟩);go_ret;exact ⟨_,_,rfl,h1,(zc.alloc [] _ _).quiet k1⟩
theorem zkk(x:In8)(a:Option Addr)(cp:Nat)(w:World)(hz:zw w a x.args)(hl:x.args.length≤1048576)(hop:x.op=13):Calls Tryz.prog 213 #[z8 x (.slice a x.args.length cp)] w fun e w'=>∃ a' c',e=.returned (.slice a' (x.a :: x.args).length c')∧zw w' a' (x.a :: x.args)∧zc [] w w':=by
 have o2:=neb (show x.op≠2 by omega);have o8:=neb (show x.op≠8 by omega);have o6:=neb (show x.op≠6 by omega);have o7:=neb (show x.op≠7 by omega);have o9:=neb (show x.op≠9 by omega);have o11:=neb (show x.op≠11 by omega);have o15:=neb (show x.op≠15 by omega);have o12:=neb (show x.op≠12 by omega);have o13:=eqb hop;clear hop;unfold z8;have HK:=hid (zc.alloc [] w (.cells #[int i64 x.op,int i64 x.dst,int i64 x.a,int i64 x.b,int i64 x.n,.slice a x.args.length cp] 54));cases a with
 | none=>
  have he:x.args=[]:=by
   rcases hz with e | ⟨b,off,e,_⟩
   ·exact e
   ·cases e
  rw[he];rw[he] at HK;clear hz hl he;go_enter Tryz.func213,Tryz.ntmps213;go_wp2_with (at_builtin;go_must (refine qn rfl _ _ 36 rfl w.heap.size 3 Tryz.t3 1 zE zU _ 1 [int i64 x.a] rfl (zhw _ w.heap.size _ (by simp) (by simp) x.a) rfl ?_));go_ret
  first | exact ⟨_,⟨_,rfl⟩,zat _ _ (by simp) _,HK.o.quiet (zc.alloc [] _ _)⟩ | exact ⟨_,_,rfl,zat _ _ (by simp) _,HK.o.quiet (zc.alloc [] _ _)⟩
 | some ad=>
  have HK2:=hid (HK.o.quiet (zc.alloc [] (w.alloc (.cells #[int i64 x.op,int i64 x.dst,int i64 x.a,int i64 x.b,int i64 x.n,.slice (some ad) x.args.length cp] 54)) (.cells #[int i64 x.a] 3)));have HZ:=hid (hz.kept HK2.o (fun _ _ _=>by simp));generalize x.args=ag at *;clear hz;go_enter Tryz.func213,Tryz.ntmps213;go_wp2_with (at_builtin;go_must (refine wpList_append_own _ rfl _ _ 36 rfl w.heap.size 3 Tryz.t3 (int i64 0) 1 8 zE zU qu qs zX rfl (by decide) _ 1 [int i64 x.a] rfl (zhw _ w.heap.size _ (by simp) (by simp) x.a) ad ag.length cp (JA ag) rfl (by rw[ZF];omega) (Zr HZ.o) (Qh ag) (by unfold maxLen;omega) (by omega) (by simp;omega) ?_;intro v' w1 hown hgrow hnil));have hg2:((w.alloc (.cells #[int i64 x.op,int i64 x.dst,int i64 x.a,int i64 x.b,int i64 x.n,.slice (some ad) ag.length cp] 54)).alloc (.cells #[int i64 x.a] 3)).grownBy w1 (some (w.heap.size+1)):=hgrow;have HK1:=hid (HK2.o.fresh (zc.grown [w.heap.size+1] hg2 (fun k hk=>by simp at hk;simp[hk])) (fun y hy=>by simp at hy;omega));have HO:Box (w1.ownsRow w.heap.size 3 1 v' (1+ag.length) (JA (x.a :: ag))):=hid hown;clear hgrow hnil hown hg2;go_wp2_with fail;go_ret;obtain ⟨a',c',e1,e2,e3,_,_⟩:=jN HO.o;exact ⟨a',c',by rw[Nat.add_comm] at e1;exact congrArg Ending.returned e1,e3,HK1.o⟩
theorem zlo(x:In8)(a:Option Addr)(cp:Nat)(w:World)(hz:zw w a x.args)(hl:x.args.length≤1048576)(hop:x.op=14):Calls Tryz.prog 213 #[z8 x (.slice a x.args.length cp)] w fun e w'=>∃ a' c',e=.returned (.slice a' (x.a :: x.args).length c')∧zw w' a' (x.a :: x.args)∧zc [] w w':=by
 have o2:=neb (show x.op≠2 by omega);have o8:=neb (show x.op≠8 by omega);have o6:=neb (show x.op≠6 by omega);have o7:=neb (show x.op≠7 by omega);have o9:=neb (show x.op≠9 by omega);have o11:=neb (show x.op≠11 by omega);have o15:=neb (show x.op≠15 by omega);have o12:=neb (show x.op≠12 by omega);have o13:=neb (show x.op≠13 by omega);have o14:=eqb hop;clear hop;unfold z8;have HK:=hid (zc.alloc [] w (.cells #[int i64 x.op,int i64 x.dst,int i64 x.a,int i64 x.b,int i64 x.n,.slice a x.args.length cp] 54));cases a with
 | none=>
  have he:x.args=[]:=by
   rcases hz with e | ⟨b,off,e,_⟩
   ·exact e
   ·cases e
  rw[he];rw[he] at HK;clear hz hl he;go_enter Tryz.func213,Tryz.ntmps213;go_wp2_with (at_builtin;go_must (refine qn rfl _ _ 36 rfl w.heap.size 3 Tryz.t3 1 zE zU _ 1 [int i64 x.a] rfl (zhw _ w.heap.size _ (by simp) (by simp) x.a) rfl ?_));go_ret
  first | exact ⟨_,⟨_,rfl⟩,zat _ _ (by simp) _,HK.o.quiet (zc.alloc [] _ _)⟩ | exact ⟨_,_,rfl,zat _ _ (by simp) _,HK.o.quiet (zc.alloc [] _ _)⟩
 | some ad=>
  have HK2:=hid (HK.o.quiet (zc.alloc [] (w.alloc (.cells #[int i64 x.op,int i64 x.dst,int i64 x.a,int i64 x.b,int i64 x.n,.slice (some ad) x.args.length cp] 54)) (.cells #[int i64 x.a] 3)));have HZ:=hid (hz.kept HK2.o (fun _ _ _=>by simp));generalize x.args=ag at *;clear hz;go_enter Tryz.func213,Tryz.ntmps213;go_wp2_with (at_builtin;go_must (refine wpList_append_own _ rfl _ _ 36 rfl w.heap.size 3 Tryz.t3 (int i64 0) 1 8 zE zU qu qs zX rfl (by decide) _ 1 [int i64 x.a] rfl (zhw _ w.heap.size _ (by simp) (by simp) x.a) ad ag.length cp (JA ag) rfl (by rw[ZF];omega) (Zr HZ.o) (Qh ag) (by unfold maxLen;omega) (by omega) (by simp;omega) ?_;intro v' w1 hown hgrow hnil));have hg2:((w.alloc (.cells #[int i64 x.op,int i64 x.dst,int i64 x.a,int i64 x.b,int i64 x.n,.slice (some ad) ag.length cp] 54)).alloc (.cells #[int i64 x.a] 3)).grownBy w1 (some (w.heap.size+1)):=hgrow;have HK1:=hid (HK2.o.fresh (zc.grown [w.heap.size+1] hg2 (fun k hk=>by simp at hk;simp[hk])) (fun y hy=>by simp at hy;omega));have HO:Box (w1.ownsRow w.heap.size 3 1 v' (1+ag.length) (JA (x.a :: ag))):=hid hown;clear hgrow hnil hown hg2;go_wp2_with fail;go_ret;obtain ⟨a',c',e1,e2,e3,_,_⟩:=jN HO.o;exact ⟨a',c',by rw[Nat.add_comm] at e1;exact congrArg Ending.returned e1,e3,HK1.o⟩
theorem zld(x:In8)(a:Option Addr)(cp:Nat)(w:World)(hop:x.op≠2∧x.op≠8∧x.op≠6∧x.op≠7∧x.op≠9∧x.op≠11∧x.op≠15∧x.op≠12∧x.op≠13∧x.op≠14):Calls Tryz.prog 213 #[z8 x (.slice a x.args.length cp)] w fun e w'=>e=.returned (.slice none 0 0)∧zc [] w w':=by
 have o2:=neb (show x.op≠2 by omega);have o8:=neb (show x.op≠8 by omega);have o6:=neb (show x.op≠6 by omega);have o7:=neb (show x.op≠7 by omega);have o9:=neb (show x.op≠9 by omega);have o11:=neb (show x.op≠11 by omega);have o15:=neb (show x.op≠15 by omega);have o12:=neb (show x.op≠12 by omega);have o13:=neb (show x.op≠13 by omega);have o14:=neb (show x.op≠14 by omega);clear hop;unfold z8;go_enter Tryz.func213,Tryz.ntmps213;go_wp2;go_ret;exact ⟨rfl,zc.alloc _ _ _⟩
theorem zbq(x:In8)(a:Option Addr)(cp:Nat)(w:World)(hz:zw w a x.args)(hl:x.args.length≤1048576):Calls Tryz.prog 213 #[z8 x (.slice a x.args.length cp)] w fun e w'=>∃ a' c',e=.returned (.slice a' (zN x).length c')∧zw w' a' (zN x)∧zc [] w w':=by
 unfold zN;by_cases g1:x.op=2∨x.op=8
 ·rw[if_pos g1]
  rcases g1 with h | h
  ·exact zlZ x a cp w h
  ·exact zl9 x a cp w h
 rw[if_neg g1];by_cases g2:x.op=6∨x.op=7∨x.op=9∨x.op=11∨x.op=15
 ·rw[if_pos g2]
  rcases g2 with h | h | h | h | h
  ·exact zm9 x a cp w h
  ·exact zmb x a cp w h
  ·exact zmB x a cp w h
  ·exact zj9 x a cp w h
  ·exact zkz x a cp w h
 rw[if_neg g2];by_cases g3:x.op=12
 ·rw[if_pos g3]
  exact zkx x a cp w hz hl g3
 rw[if_neg g3];by_cases g4:x.op=13∨x.op=14
 ·rw[if_pos g4]
  rcases g4 with h | h
  ·exact zkk x a cp w hz hl h
  ·exact zlo x a cp w hz hl h
 rw[if_neg g4];refine (zld x a cp w (by omega)).mono ?_;rintro e w' ⟨rfl,k⟩;exact ⟨none,0,rfl,.inl rfl,k⟩
theorem zmP(x:In8)(a:Option Addr)(cp:Nat)(w:World)(hop:x.op=2):Calls Tryz.prog 174 #[z8 x (.slice a x.args.length cp)] w fun e w'=>∃ a' c',e=.returned (.slice a' ([x.a,x.b]).length c')∧zw w' a' ([x.a,x.b])∧zc [] w w':=by
 have o2:=eqb hop;clear hop;unfold z8;go_enter Tryz.func174,Tryz.ntmps174;go_wp2;go_ret;exact ⟨_,_,rfl,zmU _ _ (by simp) _ _,(zc.alloc [] _ _).quiet (zc.alloc [] _ _)⟩
theorem zmG(x:In8)(a:Option Addr)(cp:Nat)(w:World)(hop:x.op=8):Calls Tryz.prog 174 #[z8 x (.slice a x.args.length cp)] w fun e w'=>∃ a' c',e=.returned (.slice a' ([x.a,x.b]).length c')∧zw w' a' ([x.a,x.b])∧zc [] w w':=by
 have o2:=neb (show x.op≠2 by omega);have o8:=eqb hop;clear hop;unfold z8;go_enter Tryz.func174,Tryz.ntmps174;go_wp2;go_ret;exact ⟨_,_,rfl,zmU _ _ (by simp) _ _,(zc.alloc [] _ _).quiet (zc.alloc [] _ _)⟩
theorem zmF(x:In8)(a:Option Addr)(cp:Nat)(w:World)(hop:x.op=6):Calls Tryz.prog 174 #[z8 x (.slice a x.args.length cp)] w fun e w'=>∃ a' c',e=.returned (.slice a' ([x.a]).length c')∧zw w' a' ([x.a])∧zc [] w w':=by
 have o2:=neb (show x.op≠2 by omega);have o8:=neb (show x.op≠8 by omega);have o6:=eqb hop;clear hop;unfold z8;go_enter Tryz.func174,Tryz.ntmps174;go_wp2;go_ret;exact ⟨_,_,rfl,zat _ _ (by simp) _,(zc.alloc [] _ _).quiet (zc.alloc [] _ _)⟩
theorem zlV(x:In8)(a:Option Addr)(cp:Nat)(w:World)(hop:x.op=7):Calls Tryz.prog 174 #[z8 x (.slice a x.args.length cp)] w fun e w'=>∃ a' c',e=.returned (.slice a' ([x.a]).length c')∧zw w' a' ([x.a])∧zc [] w w':=by
 have o2:=neb (show x.op≠2 by omega);have o8:=neb (show x.op≠8 by omega);have o6:=neb (show x.op≠6 by omega);have o7:=eqb hop;clear hop;unfold z8;go_enter Tryz.func174,Tryz.ntmps174;go_wp2;go_ret;exact ⟨_,_,rfl,zat _ _ (by simp) _,(zc.alloc [] _ _).quiet (zc.alloc [] _ _)⟩
theorem zmH(x:In8)(a:Option Addr)(cp:Nat)(w:World)(hop:x.op=9):Calls Tryz.prog 174 #[z8 x (.slice a x.args.length cp)] w fun e w'=>∃ a' c',e=.returned (.slice a' ([x.a]).length c')∧zw w' a' ([x.a])∧zc [] w w':=by
 have o2:=neb (show x.op≠2 by omega);have o8:=neb (show x.op≠8 by omega);have o6:=neb (show x.op≠6 by omega);have o7:=neb (show x.op≠7 by omega);have o9:=eqb hop;clear hop;unfold z8;go_enter Tryz.func174,Tryz.ntmps174;go_wp2;go_ret;exact ⟨_,_,rfl,zat _ _ (by simp) _,(zc.alloc [] _ _).quiet (zc.alloc [] _ _)⟩
theorem zj6(x:In8)(a:Option Addr)(cp:Nat)(w:World)(hop:x.op=11):Calls Tryz.prog 174 #[z8 x (.slice a x.args.length cp)] w fun e w'=>∃ a' c',e=.returned (.slice a' ([x.a]).length c')∧zw w' a' ([x.a])∧zc [] w w':=by
 have o2:=neb (show x.op≠2 by omega);have o8:=neb (show x.op≠8 by omega);have o6:=neb (show x.op≠6 by omega);have o7:=neb (show x.op≠7 by omega);have o9:=neb (show x.op≠9 by omega);have o11:=eqb hop;clear hop;unfold z8;go_enter Tryz.func174,Tryz.ntmps174;go_wp2;go_ret;exact ⟨_,_,rfl,zat _ _ (by simp) _,(zc.alloc [] _ _).quiet (zc.alloc [] _ _)⟩
theorem zkN(x:In8)(a:Option Addr)(cp:Nat)(w:World)(hop:x.op=15):Calls Tryz.prog 174 #[z8 x (.slice a x.args.length cp)] w fun e w'=>∃ a' c',e=.returned (.slice a' ([x.a]).length c')∧zw w' a' ([x.a])∧zc [] w w':=by
 have o2:=neb (show x.op≠2 by omega);have o8:=neb (show x.op≠8 by omega);have o6:=neb (show x.op≠6 by omega);have o7:=neb (show x.op≠7 by omega);have o9:=neb (show x.op≠9 by omega);have o11:=neb (show x.op≠11 by omega);have o15:=eqb hop;clear hop;unfold z8;go_enter Tryz.func174,Tryz.ntmps174;go_wp2;go_ret;exact ⟨_,_,rfl,zat _ _ (by simp) _,(zc.alloc [] _ _).quiet (zc.alloc [] _ _)⟩
theorem zj5(x:In8)(a:Option Addr)(cp:Nat)(w:World)(hz:zw w a x.args)(hl:x.args.length≤1048576)(hop:x.op=12):Calls Tryz.prog 174 #[z8 x (.slice a x.args.length cp)] w fun e w'=>∃ a' c',e=.returned (.slice a' (x.args).length c')∧zw w' a' (x.args)∧zc [] w w':=by
 have o2:=neb (show x.op≠2 by omega);have o8:=neb (show x.op≠8 by omega);have o6:=neb (show x.op≠6 by omega);have o7:=neb (show x.op≠7 by omega);have o9:=neb (show x.op≠9 by omega);have o11:=neb (show x.op≠11 by omega);have o15:=neb (show x.op≠15 by omega);have o12:=eqb hop;clear hop;unfold z8;have HK:=hid (zc.alloc [] w (.cells #[int i64 x.op,int i64 x.dst,int i64 x.a,int i64 x.b,int i64 x.n,.slice a x.args.length cp] 54));cases a with
 | none=>
  have he:x.args=[]:=by
   rcases hz with e | ⟨b,off,e,_⟩
   ·exact e
   ·cases e
  rw[he];rw[he] at HK;clear hz hl he;go_enter Tryz.func174,Tryz.ntmps174;go_wp2_with (at_builtin;go_must (refine qn rfl _ _ 36 rfl w.heap.size 3 Tryz.t3 1 zE zU (.slice none 0 0) 0 [] rfl (World.ownsRow_nil _ _ _ _) rfl ?_));go_ret
  first | exact ⟨none,⟨0,rfl⟩,.inl rfl,HK.o⟩ | exact ⟨_,_,rfl,.inl rfl,HK.o⟩
 | some ad=>
  have HZ:=hid (hz.kept HK.o (fun _ _ _=>by simp));generalize x.args=ag at *;clear hz;go_enter Tryz.func174,Tryz.ntmps174;go_wp2_with (at_builtin;go_must (refine wpList_append_own _ rfl _ _ 36 rfl w.heap.size 3 Tryz.t3 (int i64 0) 1 8 zE zU qu qs zX rfl (by decide) (.slice none 0 0) 0 [] rfl (World.ownsRow_nil _ _ _ _) ad ag.length cp (JA ag) rfl (by rw[ZF];omega) (Zr HZ.o) (Qh ag) (by unfold maxLen;omega) (by omega) (by simp) ?_;intro v' w1 hown hgrow hnil));have hg2:(w.alloc (.cells #[int i64 x.op,int i64 x.dst,int i64 x.a,int i64 x.b,int i64 x.n,.slice (some ad) ag.length cp] 54)).grownBy w1 none:=hgrow;have HK1:=hid (HK.o.quiet (zc.grown [] hg2 (by simp)));have HO:=hid hown;clear hgrow hnil hown hg2;go_wp2_with fail;go_ret;obtain ⟨a',c',e1,e2,e3,_,_⟩:=jN (l:=ag) (n:=0+ag.length) (by simpa using HO.o);exact ⟨a',⟨c',by rw[Nat.zero_add] at e1;exact congrArg Ending.returned e1⟩,e3,HK1.o⟩
theorem zkp(x:In8)(a:Option Addr)(cp:Nat)(w:World)(hz:zw w a x.args)(hl:x.args.length≤1048576)(hop:x.op=13):Calls Tryz.prog 174 #[z8 x (.slice a x.args.length cp)] w fun e w'=>∃ a' c',e=.returned (.slice a' (x.a :: x.args).length c')∧zw w' a' (x.a :: x.args)∧zc [] w w':=by
 have o2:=neb (show x.op≠2 by omega);have o8:=neb (show x.op≠8 by omega);have o6:=neb (show x.op≠6 by omega);have o7:=neb (show x.op≠7 by omega);have o9:=neb (show x.op≠9 by omega);have o11:=neb (show x.op≠11 by omega);have o15:=neb (show x.op≠15 by omega);have o12:=neb (show x.op≠12 by omega);have o13:=eqb hop;clear hop;unfold z8;have HK:=hid (zc.alloc [] w (.cells #[int i64 x.op,int i64 x.dst,int i64 x.a,int i64 x.b,int i64 x.n,.slice a x.args.length cp] 54));cases a with
 | none=>
  have he:x.args=[]:=by
   rcases hz with e | ⟨b,off,e,_⟩
   ·exact e
   ·cases e
  rw[he];rw[he] at HK;clear hz hl he;go_enter Tryz.func174,Tryz.ntmps174;go_wp2_with (at_builtin;go_must (refine qn rfl _ _ 36 rfl w.heap.size 3 Tryz.t3 1 zE zU _ 1 [int i64 x.a] rfl (zhw _ w.heap.size _ (by simp) (by simp) x.a) rfl ?_));go_ret
  first | exact ⟨_,⟨_,rfl⟩,zat _ _ (by simp) _,HK.o.quiet (zc.alloc [] _ _)⟩ | exact ⟨_,_,rfl,zat _ _ (by simp) _,HK.o.quiet (zc.alloc [] _ _)⟩
 | some ad=>
  have HK2:=hid (HK.o.quiet (zc.alloc [] (w.alloc (.cells #[int i64 x.op,int i64 x.dst,int i64 x.a,int i64 x.b,int i64 x.n,.slice (some ad) x.args.length cp] 54)) (.cells #[int i64 x.a] 3)));have HZ:=hid (hz.kept HK2.o (fun _ _ _=>by simp));generalize x.args=ag at *;clear hz;go_enter Tryz.func174,Tryz.ntmps174;go_wp2_with (at_builtin;go_must (refine wpList_append_own _ rfl _ _ 36 rfl w.heap.size 3 Tryz.t3 (int i64 0) 1 8 zE zU qu qs zX rfl (by decide) _ 1 [int i64 x.a] rfl (zhw _ w.heap.size _ (by simp) (by simp) x.a) ad ag.length cp (JA ag) rfl (by rw[ZF];omega) (Zr HZ.o) (Qh ag) (by unfold maxLen;omega) (by omega) (by simp;omega) ?_;intro v' w1 hown hgrow hnil));have hg2:((w.alloc (.cells #[int i64 x.op,int i64 x.dst,int i64 x.a,int i64 x.b,int i64 x.n,.slice (some ad) ag.length cp] 54)).alloc (.cells #[int i64 x.a] 3)).grownBy w1 (some (w.heap.size+1)):=hgrow;have HK1:=hid (HK2.o.fresh (zc.grown [w.heap.size+1] hg2 (fun k hk=>by simp at hk;simp[hk])) (fun y hy=>by simp at hy;omega));have HO:Box (w1.ownsRow w.heap.size 3 1 v' (1+ag.length) (JA (x.a :: ag))):=hid hown;clear hgrow hnil hown hg2;go_wp2_with fail;go_ret;obtain ⟨a',c',e1,e2,e3,_,_⟩:=jN HO.o;exact ⟨a',c',by rw[Nat.add_comm] at e1;exact congrArg Ending.returned e1,e3,HK1.o⟩
theorem zkF(x:In8)(a:Option Addr)(cp:Nat)(w:World)(hz:zw w a x.args)(hl:x.args.length≤1048576)(hop:x.op=14):Calls Tryz.prog 174 #[z8 x (.slice a x.args.length cp)] w fun e w'=>∃ a' c',e=.returned (.slice a' (x.a :: x.args).length c')∧zw w' a' (x.a :: x.args)∧zc [] w w':=by
 have o2:=neb (show x.op≠2 by omega);have o8:=neb (show x.op≠8 by omega);have o6:=neb (show x.op≠6 by omega);have o7:=neb (show x.op≠7 by omega);have o9:=neb (show x.op≠9 by omega);have o11:=neb (show x.op≠11 by omega);have o15:=neb (show x.op≠15 by omega);have o12:=neb (show x.op≠12 by omega);have o13:=neb (show x.op≠13 by omega);have o14:=eqb hop;clear hop;unfold z8;have HK:=hid (zc.alloc [] w (.cells #[int i64 x.op,int i64 x.dst,int i64 x.a,int i64 x.b,int i64 x.n,.slice a x.args.length cp] 54));cases a with
 | none=>
  have he:x.args=[]:=by
   rcases hz with e | ⟨b,off,e,_⟩
   ·exact e
   ·cases e
  rw[he];rw[he] at HK;clear hz hl he;go_enter Tryz.func174,Tryz.ntmps174;go_wp2_with (at_builtin;go_must (refine qn rfl _ _ 36 rfl w.heap.size 3 Tryz.t3 1 zE zU _ 1 [int i64 x.a] rfl (zhw _ w.heap.size _ (by simp) (by simp) x.a) rfl ?_));go_ret
  first | exact ⟨_,⟨_,rfl⟩,zat _ _ (by simp) _,HK.o.quiet (zc.alloc [] _ _)⟩ | exact ⟨_,_,rfl,zat _ _ (by simp) _,HK.o.quiet (zc.alloc [] _ _)⟩
 | some ad=>
  have HK2:=hid (HK.o.quiet (zc.alloc [] (w.alloc (.cells #[int i64 x.op,int i64 x.dst,int i64 x.a,int i64 x.b,int i64 x.n,.slice (some ad) x.args.length cp] 54)) (.cells #[int i64 x.a] 3)));have HZ:=hid (hz.kept HK2.o (fun _ _ _=>by simp));generalize x.args=ag at *;clear hz;go_enter Tryz.func174,Tryz.ntmps174;go_wp2_with (at_builtin;go_must (refine wpList_append_own _ rfl _ _ 36 rfl w.heap.size 3 Tryz.t3 (int i64 0) 1 8 zE zU qu qs zX rfl (by decide) _ 1 [int i64 x.a] rfl (zhw _ w.heap.size _ (by simp) (by simp) x.a) ad ag.length cp (JA ag) rfl (by rw[ZF];omega) (Zr HZ.o) (Qh ag) (by unfold maxLen;omega) (by omega) (by simp;omega) ?_;intro v' w1 hown hgrow hnil));have hg2:((w.alloc (.cells #[int i64 x.op,int i64 x.dst,int i64 x.a,int i64 x.b,int i64 x.n,.slice (some ad) ag.length cp] 54)).alloc (.cells #[int i64 x.a] 3)).grownBy w1 (some (w.heap.size+1)):=hgrow;have HK1:=hid (HK2.o.fresh (zc.grown [w.heap.size+1] hg2 (fun k hk=>by simp at hk;simp[hk])) (fun y hy=>by simp at hy;omega));have HO:Box (w1.ownsRow w.heap.size 3 1 v' (1+ag.length) (JA (x.a :: ag))):=hid hown;clear hgrow hnil hown hg2;go_wp2_with fail;go_ret;obtain ⟨a',c',e1,e2,e3,_,_⟩:=jN HO.o;exact ⟨a',c',by rw[Nat.add_comm] at e1;exact congrArg Ending.returned e1,e3,HK1.o⟩
theorem zlq(x:In8)(a:Option Addr)(cp:Nat)(w:World)(hop:x.op≠2∧x.op≠8∧x.op≠6∧x.op≠7∧x.op≠9∧x.op≠11∧x.op≠15∧x.op≠12∧x.op≠13∧x.op≠14):Calls Tryz.prog 174 #[z8 x (.slice a x.args.length cp)] w fun e w'=>e=.returned (.slice none 0 0)∧zc [] w w':=by
 have o2:=neb (show x.op≠2 by omega);have o8:=neb (show x.op≠8 by omega);have o6:=neb (show x.op≠6 by omega);have o7:=neb (show x.op≠7 by omega);have o9:=neb (show x.op≠9 by omega);have o11:=neb (show x.op≠11 by omega);have o15:=neb (show x.op≠15 by omega);have o12:=neb (show x.op≠12 by omega);have o13:=neb (show x.op≠13 by omega);have o14:=neb (show x.op≠14 by omega);clear hop;unfold z8;go_enter Tryz.func174,Tryz.ntmps174;go_wp2;go_ret;exact ⟨rfl,zc.alloc _ _ _⟩
theorem zaW(x:In8)(a:Option Addr)(cp:Nat)(w:World)(hz:zw w a x.args)(hl:x.args.length≤1048576):Calls Tryz.prog 174 #[z8 x (.slice a x.args.length cp)] w fun e w'=>∃ a' c',e=.returned (.slice a' (zN x).length c')∧zw w' a' (zN x)∧zc [] w w':=by
 unfold zN;by_cases g1:x.op=2∨x.op=8
 ·rw[if_pos g1]
  rcases g1 with h | h
  ·exact zmP x a cp w h
  ·exact zmG x a cp w h
 rw[if_neg g1];by_cases g2:x.op=6∨x.op=7∨x.op=9∨x.op=11∨x.op=15
 ·rw[if_pos g2]
  rcases g2 with h | h | h | h | h
  ·exact zmF x a cp w h
  ·exact zlV x a cp w h
  ·exact zmH x a cp w h
  ·exact zj6 x a cp w h
  ·exact zkN x a cp w h
 rw[if_neg g2];by_cases g3:x.op=12
 ·rw[if_pos g3]
  exact zj5 x a cp w hz hl g3
 rw[if_neg g3];by_cases g4:x.op=13∨x.op=14
 ·rw[if_pos g4]
  rcases g4 with h | h
  ·exact zkp x a cp w hz hl h
  ·exact zkF x a cp w hz hl h
 rw[if_neg g4];refine (zlq x a cp w (by omega)).mono ?_;rintro e w' ⟨rfl,k⟩;exact ⟨none,0,rfl,.inl rfl,k⟩
def j8(R:Nat)(x:In8):Bool:=(!zD x || inB x.dst R) && Zp (zN x) R
theorem Zm(x:In8):(zN x).length≤x.args.length+2:=by
 unfold zN
 repeat' split
 all_goals (try simp)
 all_goals omega
theorem zaz(x:In8):(zD x=true∧QC x=.tuple #[int i64 x.dst,.bool true])∨(zD x=false∧QC x=.tuple #[int i64 0,.bool false]):=by
 cases h:zD x with
 | true=>exact .inl ⟨rfl,qm h⟩
 | false=>exact .inr ⟨rfl,ZP h⟩
theorem zf2{fb fo:Nat}{f:Fu8}(h:FuC w fb fo f)(x:In8){a:Option Addr}{cp:Nat}(hz:zw w a x.args)(hl:x.args.length≤1000):Calls Tryz.prog 237 #[pointer (some ⟨fb,fo,none⟩),z8 x (.slice a x.args.length cp)] w fun e w'=>e=.returned (.bool (j8 f.regs.length x))∧zc [] w w':=by
 obtain ⟨ra,rp,c1,_⟩:=h.c1;have ka:=zc.alloc [] w (.cells #[int i64 x.op,int i64 x.dst,int i64 x.a,int i64 x.b,int i64 x.n,.slice a x.args.length cp] 54);have hn:=zh w (.cells #[int i64 x.op,int i64 x.dst,int i64 x.a,int i64 x.b,int i64 x.n,.slice a x.args.length cp] 54);have HD:=hid fun (w':World)=>zaL x (.slice a x.args.length cp) w';have C1:Box (∀ w',zc [] w w'→w'.cell? ⟨fb,fo+1,none⟩=some (.slice ra f.regs.length rp)):=hid fun w' k=>za k c1;have HU:=hid fun (w':World) (k:zc [] w w')=>zbq x a cp w' (hz.kept k (fun _ _ _=>by simp)) (by omega);have hul:=Zm x;have HA:=hid fun (w':World) (a1:Option Addr) (p1:Nat) (h1:zw w' a1 (zN x))=>QF (cp:=p1) h1 (by unfold maxLen;omega) f.regs.length;have HWI:=hid fun (w':World)=>z6 x.dst f.regs.length w';have IN:Box (∀ w',zc [] (w.alloc (.cells #[int i64 x.op,int i64 x.dst,int i64 x.a,int i64 x.b,int i64 x.n,.slice a x.args.length cp] 54)) w'→InW w' w.heap.size x (.slice a x.args.length cp)):=hid fun w' k=>by
  have:=ze hn k;exact ⟨zd this 0,zd this 1,zd this 2,zd this 3,zd this 4,zd this 5⟩
 have KA:=hid ka;have HE:Box (j8 f.regs.length x=((!zD x || inB x.dst f.regs.length) && Zp (zN x) f.regs.length)):=hid rfl;have i0:=IN.o _ (zc.refl _ _);obtain ⟨d0,d1,d2,d3,d4,d5⟩:=i0;clear h c1 ka hn hz hl hul;unfold z8 at *;generalize j8 f.regs.length x=res at *;generalize Zp (zN x) f.regs.length=r2 at *;generalize hN:f.regs.length=N at *;generalize hul:zN x=ul at *;clear hN hul;generalize hWA:w.alloc (.cells #[int i64 x.op,int i64 x.dst,int i64 x.a,int i64 x.b,int i64 x.n,.slice a x.args.length cp] 54)=WA at *;have HWA:=hid hWA;clear hWA;rcases zaz x with ⟨hd,hv⟩ | ⟨hd,hv⟩
 ·rw[hv] at HD
  cases hin:inB x.dst N with
  | false=>
   rw[hin] at HWI;have HR:Box (res=false):=hid (by rw[HE.o,hd,hin];rfl);clear HE hd hv hin;go_enter Tryz.func237,Tryz.ntmps237;go_upto_region 1 with fail;rw[HWA.o];clear HWA;generalize w.heap.size=q at *;go_wp2_with fail;refine (HD.o _).mono ?_;rintro e w1 ⟨rfl,k1⟩;have K1:=hid (KA.o.quiet k1);have c1:=C1.o _ K1.o;go_wp2_with fail;refine (HWI.o _).mono ?_;rintro e w2 ⟨rfl,hw2⟩;rw[hw2];clear hw2;go_wp2_with fail;go_ret;exact ⟨by rw[HR.o];rfl,K1.o⟩
  | true=>
   rw[hin] at HWI;have HR:Box (res=r2):=hid (by rw[HE.o,hd,hin];rfl);clear HE hd hv hin;go_enter Tryz.func237,Tryz.ntmps237;go_upto_region 1 with fail;rw[HWA.o];clear HWA;generalize w.heap.size=q at *;go_wp2_with fail;refine (HD.o _).mono ?_;rintro e w1 ⟨rfl,k1⟩;have K1:=hid (KA.o.quiet k1);have c1:=C1.o _ K1.o;go_wp2_with fail;refine (HWI.o _).mono ?_;rintro e w2 ⟨rfl,hw2⟩;rw[hw2];clear hw2;obtain ⟨b0,b1,b2,b3,b4,b5⟩:=IN.o _ k1;have KW:=hid k1;clear d0 d1 d2 d3 d4 d5 k1;go_upto_region 4 with fail
   go_region_held3 (fun w'=>w'.cell? ⟨fb,fo+1,none⟩=some (.slice ra N rp)∧w'.cell? ⟨q,0,none⟩=some (int i64 x.op)∧w'.cell? ⟨q,1,none⟩=some (int i64 x.dst)∧w'.cell? ⟨q,2,none⟩=some (int i64 x.a)∧w'.cell? ⟨q,3,none⟩=some (int i64 x.b)∧w'.cell? ⟨q,4,none⟩=some (int i64 x.n)∧w'.cell? ⟨q,5,none⟩=some (.slice a x.args.length cp)) (go_keep) (first
    | (go_at_call 213;refine (HU.o _ (K1.o.quiet (zc.drew [] _))).mono ?_;rintro e w5 ⟨a1,p1,rfl,h1,k5⟩;have K5:=(K1.o.quiet (zc.drew [] _)).quiet k5;have H1:=hid h1;have c5:=C1.o _ K5;have KW5:=(KW.o.quiet (zc.drew [] _)).quiet k5;obtain ⟨f50,f51,f52,f53,f54,f55⟩:=IN.o _ KW5;clear h1 k5)
    | (go_at_call 191;refine (HA.o _ _ _ H1.o).mono ?_;rintro e w6 ⟨rfl,hw6⟩;have K6:zc [] w w6:=(by rw[hw6];exact K5);have c6:=C1.o _ K6;have KW6:zc [] WA w6:=(by rw[hw6];exact KW5);obtain ⟨f60,f61,f62,f63,f64,f65⟩:=IN.o _ KW6;clear hw6))
   go_wp2_with fail;go_ret;exact ⟨by rw[HR.o];rfl,K6⟩
 ·rw[hv] at HD
  have HR:Box (res=r2):=hid (by rw[HE.o,hd];rfl);clear HE hd hv HWI;go_enter Tryz.func237,Tryz.ntmps237;go_upto_region 1 with fail;rw[HWA.o];clear HWA;generalize w.heap.size=q at *;go_wp2_with fail;refine (HD.o _).mono ?_;rintro e w1 ⟨rfl,k1⟩;have K1:=hid (KA.o.quiet k1);have c1:=C1.o _ K1.o;obtain ⟨b0,b1,b2,b3,b4,b5⟩:=IN.o _ k1;have KW:=hid k1;clear d0 d1 d2 d3 d4 d5 k1;go_upto_region 4 with fail
  go_region_held3 (fun w'=>w'.cell? ⟨fb,fo+1,none⟩=some (.slice ra N rp)∧w'.cell? ⟨q,0,none⟩=some (int i64 x.op)∧w'.cell? ⟨q,1,none⟩=some (int i64 x.dst)∧w'.cell? ⟨q,2,none⟩=some (int i64 x.a)∧w'.cell? ⟨q,3,none⟩=some (int i64 x.b)∧w'.cell? ⟨q,4,none⟩=some (int i64 x.n)∧w'.cell? ⟨q,5,none⟩=some (.slice a x.args.length cp)) (go_keep) (first
   | (go_at_call 213;refine (HU.o _ (K1.o.quiet (zc.drew [] _))).mono ?_;rintro e w5 ⟨a1,p1,rfl,h1,k5⟩;have K5:=(K1.o.quiet (zc.drew [] _)).quiet k5;have H1:=hid h1;have c5:=C1.o _ K5;have KW5:=(KW.o.quiet (zc.drew [] _)).quiet k5;obtain ⟨f50,f51,f52,f53,f54,f55⟩:=IN.o _ KW5;clear h1 k5)
   | (go_at_call 191;refine (HA.o _ _ _ H1.o).mono ?_;rintro e w6 ⟨rfl,hw6⟩;have K6:zc [] w w6:=(by rw[hw6];exact K5);have c6:=C1.o _ K6;have KW6:zc [] WA w6:=(by rw[hw6];exact KW5);obtain ⟨f60,f61,f62,f63,f64,f65⟩:=IN.o _ KW6;clear hw6))
  go_wp2_with fail;go_ret;exact ⟨by rw[HR.o];rfl,K6⟩
def zW(P:Pr8)(f:Fu8)(x:In8):Bool:=zp x && (j8 f.regs.length x && qN P f x)
theorem zhr{pb po fb fo:Nat}{P:Pr8}{f:Fu8}(h:PrC w pb po P)(hf:FuC w fb fo f)(x:In8){a:Option Addr}{cp:Nat}(hz:zw w a x.args)(hl:x.args.length≤1000):Calls Tryz.prog 192 #[pointer (some ⟨pb,po,none⟩),pointer (some ⟨fb,fo,none⟩),z8 x (.slice a x.args.length cp)] w fun e w'=>e=.returned (.bool (zW P f x))∧zc [] w w':=by
 have ka:=zc.alloc [] w (.cells #[int i64 x.op,int i64 x.dst,int i64 x.a,int i64 x.b,int i64 x.n,.slice a x.args.length cp] 54);have hn:=zh w (.cells #[int i64 x.op,int i64 x.dst,int i64 x.a,int i64 x.b,int i64 x.n,.slice a x.args.length cp] 54);have H1:=hid fun (w':World)=>ziI x a cp w';have H2:=hid fun (w':World) (k:zc [] w w')=>zf2 (cp:=cp) (FuC.stays _ _ _ _ _ k hf) x (hz.kept k (fun _ _ _=>by simp)) hl;have H3:=hid fun (w':World) (k:zc [] w w')=>zk5 (PrC.stays _ _ _ _ _ k h) (FuC.stays _ _ _ _ _ k hf) x (.slice a x.args.length cp);have HE:Box (zW P f x=(zp x && (j8 f.regs.length x && qN P f x))):=hid rfl;have IN:Box (∀ w',zc [] (w.alloc (.cells #[int i64 x.op,int i64 x.dst,int i64 x.a,int i64 x.b,int i64 x.n,.slice a x.args.length cp] 54)) w'→InW w' w.heap.size x (.slice a x.args.length cp)):=hid fun w' k=>by
  have:=ze hn k;exact ⟨zd this 0,zd this 1,zd this 2,zd this 3,zd this 4,zd this 5⟩
 have KA:=hid ka;clear h hf hz hl ka hn;unfold z8 at *;generalize zW P f x=res at *;generalize zp x=r1 at *;generalize j8 f.regs.length x=r2 at *;generalize qN P f x=r3 at *;go_enter Tryz.func192,Tryz.ntmps192;go_upto_region 1 with fail;generalize w.alloc (.cells #[int i64 x.op,int i64 x.dst,int i64 x.a,int i64 x.b,int i64 x.n,.slice a x.args.length cp] 54)=WA at *;generalize w.heap.size=q at *;obtain ⟨d0,d1,d2,d3,d4,d5⟩:=IN.o _ (zc.refl _ _);go_wp2_with fail;refine (H1.o _).mono ?_;rintro e w1 ⟨rfl,k1⟩;have K1:=hid (KA.o.quiet k1);clear d0 d1 d2 d3 d4 d5;cases r1 with
 | false=>
  have HR:Box (res=false):=hid (by rw[HE.o];rfl);clear HE k1;go_wp2_with fail;go_ret;exact ⟨by rw[HR.o];rfl,K1.o⟩
 | true=>
  obtain ⟨d0,d1,d2,d3,d4,d5⟩:=IN.o _ k1;have KW1:=hid k1;clear k1;go_wp2_with fail;refine (H2.o _ K1.o).mono ?_;rintro e w2 ⟨rfl,k2⟩;have K2:=hid (K1.o.quiet k2);clear d0 d1 d2 d3 d4 d5;cases r2 with
  | false=>
   have HR:Box (res=false):=hid (by rw[HE.o];rfl);clear HE k2;go_wp2_with fail;go_ret;exact ⟨by rw[HR.o];rfl,K2.o⟩
  | true=>
   obtain ⟨d0,d1,d2,d3,d4,d5⟩:=IN.o _ (KW1.o.quiet k2);clear k2;go_wp2_with fail;refine (H3.o _ K2.o).mono ?_;rintro e w3 ⟨rfl,k3⟩;have K3:=hid (K2.o.quiet k3);clear k3;have HR:Box (res=r3):=hid (by rw[HE.o];rfl);clear HE;go_wp2_with fail;go_ret;exact ⟨by rw[HR.o];rfl,K3.o⟩
end Go.Proofs.YthflgjkmbakedaaGreatDoor
