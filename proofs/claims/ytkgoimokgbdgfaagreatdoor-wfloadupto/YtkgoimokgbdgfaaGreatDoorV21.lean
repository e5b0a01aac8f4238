import Derived.Deep.RegionHeldLaw
import Derived.Deep.CutBlock
import Derived.Test.YtkgoimokgbdgfaaGreatDoorV07

namespace Go.Proofs.YtkgoimokgbdgfaaGreatDoor
open Go.RowKit
open Go.Value (int pointer agg)
open Go.IntKind (i64)
set_option maxHeartbeats 8000000
set_option maxRecDepth 20000
variable {w:World}
theorem Jo{P:Program}(base:Nat)(t ty e:TypeId)(i:TypeInfo)(size:Nat)(ht:P.underlying t=some (.slice e))(hi:P.info? e=some i)
  (v:Value) (n:Nat) (xs:List Value) (hown:w.ownsRow base e size v n xs) (c:Nat):
  (Builtin.append_ #[t,t] ty #[v,.slice none 0 c]).run P w=.ok v w:=by
 rcases hown.2 with ⟨rfl,rfl⟩ | ⟨g,cap,cur,rfl,_,_,hnc,_⟩
 ·simp[Builtin.append_,run_underlying ht,sizeOf,typeInfo,hi,Builtin.lenOf,Builtin.firstCells]
 ·simp[Builtin.append_,run_underlying ht,sizeOf,typeInfo,hi,Builtin.lenOf,Builtin.firstCells,hnc,storeCells]
theorem qJ{P:Program}{ops:Array Oper}{rest:List Oper}{o:Oper}{a:Act}{Q:Exit→Act→World→Prop}(hgd:o.guard=none)(s x:Operand)(t:TypeId)
  (ho:o.op=.call { callee:=.builtin .append,args:=#[s,x],argTypes:=#[t,t] })
  (base:Nat) (e:TypeId) (i:TypeInfo) (size:Nat) (ht:P.underlying t=some (.slice e)) (hi:P.info? e=some i)
  (v:Value) (n:Nat) (xs:List Value) (hs:a.eval s=v) (hown:w.ownsRow base e size v n xs) {c:Nat}(hx:a.eval x=.slice none 0 c)
  (h:wpList P ops Q rest (a.put o.dst v) w):wpList P ops Q (o :: rest) a w:=by
 refine wpList_plain hgd fun K hK=> ?_;have hrun:=Jo (P:=P) (w:=w) base t o.type e i size ht hi v n xs hown c;unfold Oper.wp;simp[execOp,ho,resolve,invoke,builtin,hs,hx,hrun,Result.andThen];exact hK _ _ h
def zP(x:In8):Bool:=decide ((1≤x.op∧x.op≤7)∨(10≤x.op∧x.op≤14))
def J6(x:In8):Value:=.tuple #[int i64 (if zP x then x.dst else 0),.bool (zP x)]
theorem qI{x:In8}(h:zP x=true):J6 x=.tuple #[int i64 x.dst,.bool true]:=by unfold J6;rw[h];rfl
theorem QE{x:In8}(h:zP x=false):J6 x=.tuple #[int i64 0,.bool false]:=by unfold J6;rw[h];rfl
theorem zpJ(x:In8)(ar:Value)(w:World)(hop:x.op=1):Calls Tryz.prog 120 #[zD x ar] w fun e w'=>e=.returned (J6 x)∧zc [] w w':=by
 rw[qI (by unfold zP;rw[hop];rfl)];unfold zD;rw[hop];go_enter Tryz.func120,Tryz.ntmps120;go_wp2
 go_ret2
 exact ⟨rfl,zc.alloc _ _ _⟩
theorem zp5(x:In8)(ar:Value)(w:World)(hop:x.op=2):Calls Tryz.prog 120 #[zD x ar] w fun e w'=>e=.returned (J6 x)∧zc [] w w':=by
 rw[qI (by unfold zP;rw[hop];rfl)];unfold zD;rw[hop];go_enter Tryz.func120,Tryz.ntmps120;go_wp2
 go_ret2
 exact ⟨rfl,zc.alloc _ _ _⟩
theorem zps(x:In8)(ar:Value)(w:World)(hop:x.op=3):Calls Tryz.prog 120 #[zD x ar] w fun e w'=>e=.returned (J6 x)∧zc [] w w':=by
 rw[qI (by unfold zP;rw[hop];rfl)];unfold zD;rw[hop];go_enter Tryz.func120,Tryz.ntmps120;go_wp2
 go_ret2
 exact ⟨rfl,zc.alloc _ _ _⟩
theorem zpG(x:In8)(ar:Value)(w:World)(hop:x.op=4):Calls Tryz.prog 120 #[zD x ar] w fun e w'=>e=.returned (J6 x)∧zc [] w w':=by
 rw[qI (by unfold zP;rw[hop];rfl)];unfold zD;rw[hop];go_enter Tryz.func120,Tryz.ntmps120;go_wp2
 go_ret2
 exact ⟨rfl,zc.alloc _ _ _⟩
theorem zpp(x:In8)(ar:Value)(w:World)(hop:x.op=5):Calls Tryz.prog 120 #[zD x ar] w fun e w'=>e=.returned (J6 x)∧zc [] w w':=by
 rw[qI (by unfold zP;rw[hop];rfl)];unfold zD;rw[hop];go_enter Tryz.func120,Tryz.ntmps120;go_wp2
 go_ret2
 exact ⟨rfl,zc.alloc _ _ _⟩
theorem zph(x:In8)(ar:Value)(w:World)(hop:x.op=6):Calls Tryz.prog 120 #[zD x ar] w fun e w'=>e=.returned (J6 x)∧zc [] w w':=by
 rw[qI (by unfold zP;rw[hop];rfl)];unfold zD;rw[hop];go_enter Tryz.func120,Tryz.ntmps120;go_wp2
 go_ret2
 exact ⟨rfl,zc.alloc _ _ _⟩
theorem zpg(x:In8)(ar:Value)(w:World)(hop:x.op=7):Calls Tryz.prog 120 #[zD x ar] w fun e w'=>e=.returned (J6 x)∧zc [] w w':=by
 rw[qI (by unfold zP;rw[hop];rfl)];unfold zD;rw[hop];go_enter Tryz.func120,Tryz.ntmps120;go_wp2
 go_ret2
 exact ⟨rfl,zc.alloc _ _ _⟩
theorem zoM(x:In8)(ar:Value)(w:World)(hop:x.op=10):Calls Tryz.prog 120 #[zD x ar] w fun e w'=>e=.returned (J6 x)∧zc [] w w':=by
 rw[qI (by unfold zP;rw[hop];rfl)];unfold zD;rw[hop];go_enter Tryz.func120,Tryz.ntmps120;go_wp2
 go_ret2
 exact ⟨rfl,zc.alloc _ _ _⟩
theorem zoI(x:In8)(ar:Value)(w:World)(hop:x.op=11):Calls Tryz.prog 120 #[zD x ar] w fun e w'=>e=.returned (J6 x)∧zc [] w w':=by
 rw[qI (by unfold zP;rw[hop];rfl)];unfold zD;rw[hop];go_enter Tryz.func120,Tryz.ntmps120;go_wp2
 go_ret2
 exact ⟨rfl,zc.alloc _ _ _⟩
theorem zoE(x:In8)(ar:Value)(w:World)(hop:x.op=12):Calls Tryz.prog 120 #[zD x ar] w fun e w'=>e=.returned (J6 x)∧zc [] w w':=by
 rw[qI (by unfold zP;rw[hop];rfl)];unfold zD;rw[hop];go_enter Tryz.func120,Tryz.ntmps120;go_wp2
 go_ret2
 exact ⟨rfl,zc.alloc _ _ _⟩
theorem znJ(x:In8)(ar:Value)(w:World)(hop:x.op=13):Calls Tryz.prog 120 #[zD x ar] w fun e w'=>e=.returned (J6 x)∧zc [] w w':=by
 rw[qI (by unfold zP;rw[hop];rfl)];unfold zD;rw[hop];go_enter Tryz.func120,Tryz.ntmps120;go_wp2
 go_ret2
 exact ⟨rfl,zc.alloc _ _ _⟩
theorem zoC(x:In8)(ar:Value)(w:World)(hop:x.op=14):Calls Tryz.prog 120 #[zD x ar] w fun e w'=>e=.returned (J6 x)∧zc [] w w':=by
 rw[qI (by unfold zP;rw[hop];rfl)];unfold zD;rw[hop];go_enter Tryz.func120,Tryz.ntmps120;go_wp2
 go_ret2
 exact ⟨rfl,zc.alloc _ _ _⟩
theorem zn7(x:In8)(ar:Value)(w:World)(hop:x.op≠1∧x.op≠2∧x.op≠3∧x.op≠4∧x.op≠5∧x.op≠6∧x.op≠7∧x.op≠10∧x.op≠11∧x.op≠12∧x.op≠13∧x.op≠14):Calls Tryz.prog 120 #[zD x ar] w fun e w'=>e=.returned (J6 x)∧zc [] w w':=by
 rw[QE (by unfold zP;simp;omega)];unfold zD;have o1:=neb (show x.op≠1 by omega);have o2:=neb (show x.op≠2 by omega);have o3:=neb (show x.op≠3 by omega);have o4:=neb (show x.op≠4 by omega);have o5:=neb (show x.op≠5 by omega);have o6:=neb (show x.op≠6 by omega);have o7:=neb (show x.op≠7 by omega);have o10:=neb (show x.op≠10 by omega);have o11:=neb (show x.op≠11 by omega);have o12:=neb (show x.op≠12 by omega);have o13:=neb (show x.op≠13 by omega);have o14:=neb (show x.op≠14 by omega);clear hop;go_enter Tryz.func120,Tryz.ntmps120;go_wp2
 go_ret2
 exact ⟨rfl,zc.alloc _ _ _⟩
theorem zcs(x:In8)(ar:Value)(w:World):Calls Tryz.prog 120 #[zD x ar] w fun e w'=>e=.returned (J6 x)∧zc [] w w':=by
 by_cases o1:x.op=1
 ·exact zpJ x ar w o1
 by_cases o2:x.op=2
 ·exact zp5 x ar w o2
 by_cases o3:x.op=3
 ·exact zps x ar w o3
 by_cases o4:x.op=4
 ·exact zpG x ar w o4
 by_cases o5:x.op=5
 ·exact zpp x ar w o5
 by_cases o6:x.op=6
 ·exact zph x ar w o6
 by_cases o7:x.op=7
 ·exact zpg x ar w o7
 by_cases o10:x.op=10
 ·exact zoM x ar w o10
 by_cases o11:x.op=11
 ·exact zoI x ar w o11
 by_cases o12:x.op=12
 ·exact zoE x ar w o12
 by_cases o13:x.op=13
 ·exact znJ x ar w o13
 by_cases o14:x.op=14
 ·exact zoC x ar w o14
 exact zn7 x ar w ⟨o1,o2,o3,o4,o5,o6,o7,o10,o11,o12,o13,o14⟩
theorem zh8(n c:Nat)(w:World):Calls Tryz.prog 155 #[.slice none n c] w fun e w'=>e=.returned (.slice none 0 0)∧w'=w:=by
 have q:∀ (w:World) (a:Option Addr) (n c n' c':Nat),(binOp .eql 37 (.slice a n c) (.slice none n' c')).run Tryz.prog w=.ok (.bool a.isNone) w:=fun w a n c n' c'=>Lib.run_eql_slice_nil w _ _ a n c n' c' Tryz.underlying37;go_enter Tryz.func155,Tryz.ntmps155;go_wp2;go_ret;exact ⟨rfl,rfl⟩
theorem zfZ(ad:Addr)(n c:Nat)(zs:List Int)(w:World)(hl:zs.length=n)(hz:zw w (some ad) zs)(hb:n≤17592186044416):
  Calls Tryz.prog 155 #[.slice (some ad) n c] w fun e w'=>∃ v,e=.returned v∧w'.ownsRow w.heap.size 3 1 v n (zbl zs)∧zc [] w w':=by
 have q:∀ (w:World) (a:Option Addr) (n c n' c':Nat),(binOp .eql 37 (.slice a n c) (.slice none n' c')).run Tryz.prog w=.ok (.bool a.isNone) w:=fun w a n c n' c'=>Lib.run_eql_slice_nil w _ _ a n c n' c' Tryz.underlying37
 have H:Box (∀ j u,(zbl zs)[j]? = some u→w.cell? (ad.add j)=some u):=hid (by
  rcases hz with e | ⟨b,off,e,h⟩
  ·intro j u hj;rw[e] at hj;simp[zbl] at hj
  ·cases e
   exact zgT h)
 have HL:=hid hl;clear hz hl;go_enter Tryz.func155,Tryz.ntmps155;go_wp2_with (at_builtin;go_must (refine wpList_append_own _ rfl _ _ 37 rfl w.heap.size 3 Tryz.t3 (int i64 0) 1 8 qn qW Zn Zi jI rfl (by decide) _ _ _ rfl (World.ownsRow_made w #[] 0 (Nat.le_refl _) (Nat.zero_le _) rfl) ad n c (zbl zs) rfl (by rw[Qo,HL.o];omega) (fun j u hj=>Lib.cell?_alloc_some _ (H.o j u hj)) (QQ zs) (by unfold maxLen;omega) (by omega) (by simp) ?_;intro v' w1 hown hgrow hnil));have HO:=hid hown;have hg2:(w.alloc (Obj.cells #[] 3)).grownBy w1 (some w.heap.size):=hgrow;have HK:=hid ((zc.alloc [] w _).trans (zc.grown [w.heap.size] hg2 (fun k hk=>by simp at hk;simp[hk])) (fun x hx hlt=>by simp at hx;omega):zc [] w w1);clear hown hgrow hnil hg2;go_wp2_with fail;go_ret;exact ⟨v',rfl,by simpa using HO.o,HK.o⟩
theorem ziE(a:Option Addr)(c:Nat)(zs:List Int)(w:World)(hz:zw w a zs)(hb:zs.length≤17592186044416):
  Calls Tryz.prog 155 #[.slice a zs.length c] w fun e w'=>∃ a' c',e=.returned (.slice a' zs.length c')∧zw w' a' zs∧zc [] w w'∧∀ b off,a'=some ⟨b,off,none⟩→w.heap.size≤b:=by
 cases a with
 | none=>
  obtain rfl:zs=[]:=by
   rcases hz with e | ⟨b,off,e,_⟩
   ·exact e
   ·cases e
  refine (zh8 0 c w).mono ?_;rintro e w' ⟨rfl,rfl⟩;exact ⟨none,0,rfl,Or.inl rfl,zc.refl _ _,fun _ _ e=>by cases e⟩
 | some ad=>
  refine (zfZ ad zs.length c zs w rfl hz hb).mono ?_;rintro e w' ⟨v,rfl,ho,hk⟩;obtain ⟨a',c',e1,_,h1,_,h2⟩:=Z8 ho;exact ⟨a',c',by rw[e1],h1,hk,h2⟩
theorem znh(x:In8)(ar:Value)(w:World)(hop:x.op<1):Calls Tryz.prog 127 #[zD x ar] w fun e w'=>e=.returned (J6 x)∧zc [] w w':=by
 rw[QE (by unfold zP;simp;omega)];unfold zD;have f1:x.op<1:=hop;clear hop;go_enter Tryz.func127,Tryz.ntmps127;go_wp2
 go_ret2
 exact ⟨rfl,zc.alloc _ _ _⟩
theorem zmf(x:In8)(ar:Value)(w:World)(hop:15<x.op):Calls Tryz.prog 127 #[zD x ar] w fun e w'=>e=.returned (J6 x)∧zc [] w w':=by
 rw[QE (by unfold zP;simp;omega)];unfold zD;have f1:¬ x.op<1:=by omega
 have f2:15<x.op:=hop;clear hop;go_enter Tryz.func127,Tryz.ntmps127;go_wp2
 go_ret2
 exact ⟨rfl,zc.alloc _ _ _⟩
theorem zoJ(x:In8)(ar:Value)(w:World)(hop:x.op=8):Calls Tryz.prog 127 #[zD x ar] w fun e w'=>e=.returned (J6 x)∧zc [] w w':=by
 rw[QE (by unfold zP;simp;omega)];unfold zD;have f1:¬ x.op<1:=by omega
 have f2:¬ 15<x.op:=by omega
 have o8:=eqb hop;clear hop;go_enter Tryz.func127,Tryz.ntmps127;go_wp2
 go_ret2
 exact ⟨rfl,zc.alloc _ _ _⟩
theorem zoj(x:In8)(ar:Value)(w:World)(hop:x.op=9):Calls Tryz.prog 127 #[zD x ar] w fun e w'=>e=.returned (J6 x)∧zc [] w w':=by
 rw[QE (by unfold zP;simp;omega)];unfold zD;have f1:¬ x.op<1:=by omega
 have f2:¬ 15<x.op:=by omega
 have o8:=neb (show x.op≠8 by omega);have o9:=eqb hop;clear hop;go_enter Tryz.func127,Tryz.ntmps127;go_wp2
 go_ret2
 exact ⟨rfl,zc.alloc _ _ _⟩
theorem zlT(x:In8)(ar:Value)(w:World)(hop:x.op=15):Calls Tryz.prog 127 #[zD x ar] w fun e w'=>e=.returned (J6 x)∧zc [] w w':=by
 rw[QE (by unfold zP;simp;omega)];unfold zD;have f1:¬ x.op<1:=by omega
 have f2:¬ 15<x.op:=by omega
 have o8:=neb (show x.op≠8 by omega);have o9:=neb (show x.op≠9 by omega);have o15:=eqb hop;clear hop;go_enter Tryz.func127,Tryz.ntmps127;go_wp2
 go_ret2
 exact ⟨rfl,zc.alloc _ _ _⟩
theorem zkD(x:In8)(ar:Value)(w:World)(hop:1≤x.op∧x.op≤14∧x.op≠8∧x.op≠9):Calls Tryz.prog 127 #[zD x ar] w fun e w'=>e=.returned (J6 x)∧zc [] w w':=by
 rw[qI (by unfold zP;simp;omega)];unfold zD;have f1:¬ x.op<1:=by omega
 have f2:¬ 15<x.op:=by omega
 have o8:=neb (show x.op≠8 by omega);have o9:=neb (show x.op≠9 by omega);have o15:=neb (show x.op≠15 by omega);clear hop;go_enter Tryz.func127,Tryz.ntmps127;go_wp2
 go_ret2
 exact ⟨rfl,zc.alloc _ _ _⟩
theorem zc9(x:In8)(ar:Value)(w:World):Calls Tryz.prog 127 #[zD x ar] w fun e w'=>e=.returned (J6 x)∧zc [] w w':=by
 by_cases h1:x.op<1
 ·exact znh x ar w h1
 by_cases h2:15<x.op
 ·exact zmf x ar w h2
 by_cases h8:x.op=8
 ·exact zoJ x ar w h8
 by_cases h9:x.op=9
 ·exact zoj x ar w h9
 by_cases h15:x.op=15
 ·exact zlT x ar w h15
 exact zkD x ar w ⟨by omega,by omega,h8,h9⟩
def qd(x:In8):List Int:=if x.op=2∨x.op=8 then [x.a,x.b] else if x.op=6∨x.op=7∨x.op=9∨x.op=11∨x.op=15 then [x.a] else if x.op=12 then x.args else if x.op=13∨x.op=14 then x.a :: x.args else []
theorem zb3(w:World)(b:Nat)(hb:b=w.heap.size)(z:Int):zw (w.alloc (.cells #[int i64 z] 3)) (some ⟨b,0,none⟩) [z]:=by
 subst hb
 exact .inr ⟨_,0,rfl,fun i hi=>by
  obtain rfl:i=0:=by simpa using hi
  rw[World.cell?_alloc_at _ _ _ _ rfl];rfl⟩
theorem zoZ(w:World)(b:Nat)(hb:b=w.heap.size)(y z:Int):zw (w.alloc (.cells #[int i64 y,int i64 z] 3)) (some ⟨b,0,none⟩) [y,z]:=by
 subst hb
 exact .inr ⟨_,0,rfl,fun i hi=>by
  rw[World.cell?_alloc_at _ _ _ _ rfl]
  rcases (show i=0∨i=1 by simp at hi;omega) with rfl | rfl <;> rfl⟩
theorem zjp(w:World)(base b:Nat)(hb:b=w.heap.size)(hs:base≤w.heap.size)(z:Int):(w.alloc (.cells #[int i64 z] 3)).ownsRow base 3 1 (.slice (some ⟨b,0,none⟩) 1 1) 1 [int i64 z]:=by
 subst hb;exact World.ownsRow_lit (base:=base) (e:=3) (size:=1) w #[int i64 z] 1 hs (by unfold maxLen;omega) rfl
theorem ZT{ad:Addr}{l:List Int}(h:zw w (some ad) l):∀ j u,(zbl l)[j]? = some u→w.cell? (ad.add j)=some u:=by
 rcases h with e | ⟨b,off,e,h⟩
 ·intro j u hj;rw[e] at hj;simp[zbl] at hj
 ·cases e
  exact zgT h
theorem zoW(x:In8)(a:Option Addr)(cp:Nat)(w:World)(hop:x.op=2):Calls Tryz.prog 119 #[zD x (.slice a x.args.length cp)] w fun e w'=>∃ a' c',e=.returned (.slice a' ([x.a,x.b]).length c')∧zw w' a' ([x.a,x.b])∧zc [] w w':=by
 have o2:=eqb hop;clear hop;unfold zD;go_enter Tryz.func119,Tryz.ntmps119;go_wp2;go_ret;exact ⟨_,_,rfl,zoZ _ _ (by simp) _ _,(zc.alloc [] _ _).quiet (zc.alloc [] _ _)⟩
theorem zoS(x:In8)(a:Option Addr)(cp:Nat)(w:World)(hop:x.op=8):Calls Tryz.prog 119 #[zD x (.slice a x.args.length cp)] w fun e w'=>∃ a' c',e=.returned (.slice a' ([x.a,x.b]).length c')∧zw w' a' ([x.a,x.b])∧zc [] w w':=by
 have o2:=neb (show x.op≠2 by omega);have o8:=eqb hop;clear hop;unfold zD;go_enter Tryz.func119,Tryz.ntmps119;go_wp2;go_ret;exact ⟨_,_,rfl,zoZ _ _ (by simp) _ _,(zc.alloc [] _ _).quiet (zc.alloc [] _ _)⟩
theorem zo9(x:In8)(a:Option Addr)(cp:Nat)(w:World)(hop:x.op=6):Calls Tryz.prog 119 #[zD x (.slice a x.args.length cp)] w fun e w'=>∃ a' c',e=.returned (.slice a' ([x.a]).length c')∧zw w' a' ([x.a])∧zc [] w w':=by
 have o2:=neb (show x.op≠2 by omega);have o8:=neb (show x.op≠8 by omega);have o6:=eqb hop;clear hop;unfold zD;go_enter Tryz.func119,Tryz.ntmps119;go_wp2;go_ret;exact ⟨_,_,rfl,zb3 _ _ (by simp) _,(zc.alloc [] _ _).quiet (zc.alloc [] _ _)⟩
theorem znH(x:In8)(a:Option Addr)(cp:Nat)(w:World)(hop:x.op=7):Calls Tryz.prog 119 #[zD x (.slice a x.args.length cp)] w fun e w'=>∃ a' c',e=.returned (.slice a' ([x.a]).length c')∧zw w' a' ([x.a])∧zc [] w w':=by
 have o2:=neb (show x.op≠2 by omega);have o8:=neb (show x.op≠8 by omega);have o6:=neb (show x.op≠6 by omega);have o7:=eqb hop;clear hop;unfold zD;go_enter Tryz.func119,Tryz.ntmps119;go_wp2;go_ret;exact ⟨_,_,rfl,zb3 _ _ (by simp) _,(zc.alloc [] _ _).quiet (zc.alloc [] _ _)⟩
theorem zos(x:In8)(a:Option Addr)(cp:Nat)(w:World)(hop:x.op=9):Calls Tryz.prog 119 #[zD x (.slice a x.args.length cp)] w fun e w'=>∃ a' c',e=.returned (.slice a' ([x.a]).length c')∧zw w' a' ([x.a])∧zc [] w w':=by
 have o2:=neb (show x.op≠2 by omega);have o8:=neb (show x.op≠8 by omega);have o6:=neb (show x.op≠6 by omega);have o7:=neb (show x.op≠7 by omega);have o9:=eqb hop;clear hop;unfold zD;go_enter Tryz.func119,Tryz.ntmps119;go_wp2;go_ret;exact ⟨_,_,rfl,zb3 _ _ (by simp) _,(zc.alloc [] _ _).quiet (zc.alloc [] _ _)⟩
theorem zlH(x:In8)(a:Option Addr)(cp:Nat)(w:World)(hop:x.op=11):Calls Tryz.prog 119 #[zD x (.slice a x.args.length cp)] w fun e w'=>∃ a' c',e=.returned (.slice a' ([x.a]).length c')∧zw w' a' ([x.a])∧zc [] w w':=by
 have o2:=neb (show x.op≠2 by omega);have o8:=neb (show x.op≠8 by omega);have o6:=neb (show x.op≠6 by omega);have o7:=neb (show x.op≠7 by omega);have o9:=neb (show x.op≠9 by omega);have o11:=eqb hop;clear hop;unfold zD;go_enter Tryz.func119,Tryz.ntmps119;go_wp2;go_ret;exact ⟨_,_,rfl,zb3 _ _ (by simp) _,(zc.alloc [] _ _).quiet (zc.alloc [] _ _)⟩
theorem zm1(x:In8)(a:Option Addr)(cp:Nat)(w:World)(hop:x.op=15):Calls Tryz.prog 119 #[zD x (.slice a x.args.length cp)] w fun e w'=>∃ a' c',e=.returned (.slice a' ([x.a]).length c')∧zw w' a' ([x.a])∧zc [] w w':=by
 have o2:=neb (show x.op≠2 by omega);have o8:=neb (show x.op≠8 by omega);have o6:=neb (show x.op≠6 by omega);have o7:=neb (show x.op≠7 by omega);have o9:=neb (show x.op≠9 by omega);have o11:=neb (show x.op≠11 by omega);have o15:=eqb hop;clear hop;unfold zD;go_enter Tryz.func119,Tryz.ntmps119;go_wp2;go_ret;exact ⟨_,_,rfl,zb3 _ _ (by simp) _,(zc.alloc [] _ _).quiet (zc.alloc [] _ _)⟩
theorem znf(x:In8)(a:Option Addr)(cp:Nat)(w:World)(hz:zw w a x.args)(hl:x.args.length≤1048576)(hop:x.op=12):Calls Tryz.prog 119 #[zD x (.slice a x.args.length cp)] w fun e w'=>∃ a' c',e=.returned (.slice a' (x.args).length c')∧zw w' a' (x.args)∧zc [] w w':=by
 have o2:=neb (show x.op≠2 by omega);have o8:=neb (show x.op≠8 by omega);have o6:=neb (show x.op≠6 by omega);have o7:=neb (show x.op≠7 by omega);have o9:=neb (show x.op≠9 by omega);have o11:=neb (show x.op≠11 by omega);have o15:=neb (show x.op≠15 by omega);have o12:=eqb hop;have HC:=hid (ziE a cp x.args (w.alloc (.cells #[int i64 x.op,int i64 x.dst,int i64 x.a,int i64 x.b,int i64 x.n,.slice a x.args.length cp] 39)) (hz.kept (zc.alloc [] _ _) (fun _ _ _=>by simp)) (by omega));clear hop hz;unfold zD;go_enter Tryz.func119,Tryz.ntmps119;go_wp2_with (go_at_call 155;refine HC.o.mono ?_;rintro e w1 ⟨a1,c1,rfl,h1,k1,_⟩);go_ret;exact ⟨_,_,rfl,h1,(zc.alloc [] _ _).quiet k1⟩
theorem zl7(x:In8)(a:Option Addr)(cp:Nat)(w:World)(hz:zw w a x.args)(hl:x.args.length≤1048576)(hop:x.op=13):Calls Tryz.prog 119 #[zD x (.slice a x.args.length cp)] w fun e w'=>∃ a' c',e=.returned (.slice a' (x.a :: x.args).length c')∧zw w' a' (x.a :: x.args)∧zc [] w w':=by
 have o2:=neb (show x.op≠2 by omega);have o8:=neb (show x.op≠8 by omega);have o6:=neb (show x.op≠6 by omega);have o7:=neb (show x.op≠7 by omega);have o9:=neb (show x.op≠9 by omega);have o11:=neb (show x.op≠11 by omega);have o15:=neb (show x.op≠15 by omega);have o12:=neb (show x.op≠12 by omega);have o13:=eqb hop;clear hop;unfold zD;have HK:=hid (zc.alloc [] w (.cells #[int i64 x.op,int i64 x.dst,int i64 x.a,int i64 x.b,int i64 x.n,.slice a x.args.length cp] 39));cases a with
 | none=>
  have he:x.args=[]:=by
   rcases hz with e | ⟨b,off,e,_⟩
   ·exact e
   ·cases e
  rw[he];rw[he] at HK;clear hz hl he;go_enter Tryz.func119,Tryz.ntmps119;go_wp2_with (at_builtin;go_must (refine qJ rfl _ _ 37 rfl w.heap.size 3 Tryz.t3 1 qn qW _ 1 [int i64 x.a] rfl (zjp _ w.heap.size _ (by simp) (by simp) x.a) rfl ?_));go_ret
  first | exact ⟨_,⟨_,rfl⟩,zb3 _ _ (by simp) _,HK.o.quiet (zc.alloc [] _ _)⟩ | exact ⟨_,_,rfl,zb3 _ _ (by simp) _,HK.o.quiet (zc.alloc [] _ _)⟩
 | some ad=>
  have HK2:=hid (HK.o.quiet (zc.alloc [] (w.alloc (.cells #[int i64 x.op,int i64 x.dst,int i64 x.a,int i64 x.b,int i64 x.n,.slice (some ad) x.args.length cp] 39)) (.cells #[int i64 x.a] 3)));have HZ:=hid (hz.kept HK2.o (fun _ _ _=>by simp));generalize x.args=ag at *;clear hz;go_enter Tryz.func119,Tryz.ntmps119;go_wp2_with (at_builtin;go_must (refine wpList_append_own _ rfl _ _ 37 rfl w.heap.size 3 Tryz.t3 (int i64 0) 1 8 qn qW Zn Zi jI rfl (by decide) _ 1 [int i64 x.a] rfl (zjp _ w.heap.size _ (by simp) (by simp) x.a) ad ag.length cp (zbl ag) rfl (by rw[Qo];omega) (ZT HZ.o) (QQ ag) (by unfold maxLen;omega) (by omega) (by simp;omega) ?_;intro v' w1 hown hgrow hnil));have hg2:((w.alloc (.cells #[int i64 x.op,int i64 x.dst,int i64 x.a,int i64 x.b,int i64 x.n,.slice (some ad) ag.length cp] 39)).alloc (.cells #[int i64 x.a] 3)).grownBy w1 (some (w.heap.size+1)):=hgrow;have HK1:=hid (HK2.o.fresh (zc.grown [w.heap.size+1] hg2 (fun k hk=>by simp at hk;simp[hk])) (fun y hy=>by simp at hy;omega));have HO:Box (w1.ownsRow w.heap.size 3 1 v' (1+ag.length) (zbl (x.a :: ag))):=hid hown;clear hgrow hnil hown hg2;go_wp2_with fail;go_ret;obtain ⟨a',c',e1,e2,e3,_,_⟩:=Z8 HO.o;exact ⟨a',c',by rw[Nat.add_comm] at e1;exact congrArg Ending.returned e1,e3,HK1.o⟩
theorem zl5(x:In8)(a:Option Addr)(cp:Nat)(w:World)(hz:zw w a x.args)(hl:x.args.length≤1048576)(hop:x.op=14):Calls Tryz.prog 119 #[zD x (.slice a x.args.length cp)] w fun e w'=>∃ a' c',e=.returned (.slice a' (x.a :: x.args).length c')∧zw w' a' (x.a :: x.args)∧zc [] w w':=by
 have o2:=neb (show x.op≠2 by omega);have o8:=neb (show x.op≠8 by omega);have o6:=neb (show x.op≠6 by omega);have o7:=neb (show x.op≠7 by omega);have o9:=neb (show x.op≠9 by omega);have o11:=neb (show x.op≠11 by omega);have o15:=neb (show x.op≠15 by omega);have o12:=neb (show x.op≠12 by omega);have o13:=neb (show x.op≠13 by omega);have o14:=eqb hop;clear hop;unfold zD;have HK:=hid (zc.alloc [] w (.cells #[int i64 x.op,int i64 x.dst,int i64 x.a,int i64 x.b,int i64 x.n,.slice a x.args.length cp] 39));cases a with
 | none=>
  have he:x.args=[]:=by
   rcases hz with e | ⟨b,off,e,_⟩
   ·exact e
   ·cases e
  rw[he];rw[he] at HK;clear hz hl he;go_enter Tryz.func119,Tryz.ntmps119;go_wp2_with (at_builtin;go_must (refine qJ rfl _ _ 37 rfl w.heap.size 3 Tryz.t3 1 qn qW _ 1 [int i64 x.a] rfl (zjp _ w.heap.size _ (by simp) (by simp) x.a) rfl ?_));go_ret
  first | exact ⟨_,⟨_,rfl⟩,zb3 _ _ (by simp) _,HK.o.quiet (zc.alloc [] _ _)⟩ | exact ⟨_,_,rfl,zb3 _ _ (by simp) _,HK.o.quiet (zc.alloc [] _ _)⟩
 | some ad=>
  have HK2:=hid (HK.o.quiet (zc.alloc [] (w.alloc (.cells #[int i64 x.op,int i64 x.dst,int i64 x.a,int i64 x.b,int i64 x.n,.slice (some ad) x.args.length cp] 39)) (.cells #[int i64 x.a] 3)));have HZ:=hid (hz.kept HK2.o (fun _ _ _=>by simp));generalize x.args=ag at *;clear hz;go_enter Tryz.func119,Tryz.ntmps119;go_wp2_with (at_builtin;go_must (refine wpList_append_own _ rfl _ _ 37 rfl w.heap.size 3 Tryz.t3 (int i64 0) 1 8 qn qW Zn Zi jI rfl (by decide) _ 1 [int i64 x.a] rfl (zjp _ w.heap.size _ (by simp) (by simp) x.a) ad ag.length cp (zbl ag) rfl (by rw[Qo];omega) (ZT HZ.o) (QQ ag) (by unfold maxLen;omega) (by omega) (by simp;omega) ?_;intro v' w1 hown hgrow hnil));have hg2:((w.alloc (.cells #[int i64 x.op,int i64 x.dst,int i64 x.a,int i64 x.b,int i64 x.n,.slice (some ad) ag.length cp] 39)).alloc (.cells #[int i64 x.a] 3)).grownBy w1 (some (w.heap.size+1)):=hgrow;have HK1:=hid (HK2.o.fresh (zc.grown [w.heap.size+1] hg2 (fun k hk=>by simp at hk;simp[hk])) (fun y hy=>by simp at hy;omega));have HO:Box (w1.ownsRow w.heap.size 3 1 v' (1+ag.length) (zbl (x.a :: ag))):=hid hown;clear hgrow hnil hown hg2;go_wp2_with fail;go_ret;obtain ⟨a',c',e1,e2,e3,_,_⟩:=Z8 HO.o;exact ⟨a',c',by rw[Nat.add_comm] at e1;exact congrArg Ending.returned e1,e3,HK1.o⟩
theorem zmZ(x:In8)(a:Option Addr)(cp:Nat)(w:World)(hop:x.op≠2∧x.op≠8∧x.op≠6∧x.op≠7∧x.op≠9∧x.op≠11∧x.op≠15∧x.op≠12∧x.op≠13∧x.op≠14):Calls Tryz.prog 119 #[zD x (.slice a x.args.length cp)] w fun e w'=>e=.returned (.slice none 0 0)∧zc [] w w':=by
 have o2:=neb (show x.op≠2 by omega);have o8:=neb (show x.op≠8 by omega);have o6:=neb (show x.op≠6 by omega);have o7:=neb (show x.op≠7 by omega);have o9:=neb (show x.op≠9 by omega);have o11:=neb (show x.op≠11 by omega);have o15:=neb (show x.op≠15 by omega);have o12:=neb (show x.op≠12 by omega);have o13:=neb (show x.op≠13 by omega);have o14:=neb (show x.op≠14 by omega);clear hop;unfold zD;go_enter Tryz.func119,Tryz.ntmps119;go_wp2;go_ret;exact ⟨rfl,zc.alloc _ _ _⟩
theorem zcH(x:In8)(a:Option Addr)(cp:Nat)(w:World)(hz:zw w a x.args)(hl:x.args.length≤1048576):Calls Tryz.prog 119 #[zD x (.slice a x.args.length cp)] w fun e w'=>∃ a' c',e=.returned (.slice a' (qd x).length c')∧zw w' a' (qd x)∧zc [] w w':=by
 unfold qd;by_cases g1:x.op=2∨x.op=8
 ·rw[if_pos g1]
  rcases g1 with h | h
  ·exact zoW x a cp w h
  ·exact zoS x a cp w h
 rw[if_neg g1];by_cases g2:x.op=6∨x.op=7∨x.op=9∨x.op=11∨x.op=15
 ·rw[if_pos g2]
  rcases g2 with h | h | h | h | h
  ·exact zo9 x a cp w h
  ·exact znH x a cp w h
  ·exact zos x a cp w h
  ·exact zlH x a cp w h
  ·exact zm1 x a cp w h
 rw[if_neg g2];by_cases g3:x.op=12
 ·rw[if_pos g3]
  exact znf x a cp w hz hl g3
 rw[if_neg g3];by_cases g4:x.op=13∨x.op=14
 ·rw[if_pos g4]
  rcases g4 with h | h
  ·exact zl7 x a cp w hz hl h
  ·exact zl5 x a cp w hz hl h
 rw[if_neg g4];refine (zmZ x a cp w (by omega)).mono ?_;rintro e w' ⟨rfl,k⟩;exact ⟨none,0,rfl,.inl rfl,k⟩
theorem znV(x:In8)(a:Option Addr)(cp:Nat)(w:World)(hop:x.op=2):Calls Tryz.prog 128 #[zD x (.slice a x.args.length cp)] w fun e w'=>∃ a' c',e=.returned (.slice a' ([x.a,x.b]).length c')∧zw w' a' ([x.a,x.b])∧zc [] w w':=by
 have o2:=eqb hop;clear hop;unfold zD;go_enter Tryz.func128,Tryz.ntmps128;go_wp2;go_ret;exact ⟨_,_,rfl,zoZ _ _ (by simp) _ _,(zc.alloc [] _ _).quiet (zc.alloc [] _ _)⟩
theorem zoP(x:In8)(a:Option Addr)(cp:Nat)(w:World)(hop:x.op=8):Calls Tryz.prog 128 #[zD x (.slice a x.args.length cp)] w fun e w'=>∃ a' c',e=.returned (.slice a' ([x.a,x.b]).length c')∧zw w' a' ([x.a,x.b])∧zc [] w w':=by
 have o2:=neb (show x.op≠2 by omega);have o8:=eqb hop;clear hop;unfold zD;go_enter Tryz.func128,Tryz.ntmps128;go_wp2;go_ret;exact ⟨_,_,rfl,zoZ _ _ (by simp) _ _,(zc.alloc [] _ _).quiet (zc.alloc [] _ _)⟩
theorem zof(x:In8)(a:Option Addr)(cp:Nat)(w:World)(hop:x.op=6):Calls Tryz.prog 128 #[zD x (.slice a x.args.length cp)] w fun e w'=>∃ a' c',e=.returned (.slice a' ([x.a]).length c')∧zw w' a' ([x.a])∧zc [] w w':=by
 have o2:=neb (show x.op≠2 by omega);have o8:=neb (show x.op≠8 by omega);have o6:=eqb hop;clear hop;unfold zD;go_enter Tryz.func128,Tryz.ntmps128;go_wp2;go_ret;exact ⟨_,_,rfl,zb3 _ _ (by simp) _,(zc.alloc [] _ _).quiet (zc.alloc [] _ _)⟩
theorem znX(x:In8)(a:Option Addr)(cp:Nat)(w:World)(hop:x.op=7):Calls Tryz.prog 128 #[zD x (.slice a x.args.length cp)] w fun e w'=>∃ a' c',e=.returned (.slice a' ([x.a]).length c')∧zw w' a' ([x.a])∧zc [] w w':=by
 have o2:=neb (show x.op≠2 by omega);have o8:=neb (show x.op≠8 by omega);have o6:=neb (show x.op≠6 by omega);have o7:=eqb hop;clear hop;unfold zD;go_enter Tryz.func128,Tryz.ntmps128;go_wp2;go_ret;exact ⟨_,_,rfl,zb3 _ _ (by simp) _,(zc.alloc [] _ _).quiet (zc.alloc [] _ _)⟩
theorem zn8(x:In8)(a:Option Addr)(cp:Nat)(w:World)(hop:x.op=9):Calls Tryz.prog 128 #[zD x (.slice a x.args.length cp)] w fun e w'=>∃ a' c',e=.returned (.slice a' ([x.a]).length c')∧zw w' a' ([x.a])∧zc [] w w':=by
 have o2:=neb (show x.op≠2 by omega);have o8:=neb (show x.op≠8 by omega);have o6:=neb (show x.op≠6 by omega);have o7:=neb (show x.op≠7 by omega);have o9:=eqb hop;clear hop;unfold zD;go_enter Tryz.func128,Tryz.ntmps128;go_wp2;go_ret;exact ⟨_,_,rfl,zb3 _ _ (by simp) _,(zc.alloc [] _ _).quiet (zc.alloc [] _ _)⟩
theorem zl6(x:In8)(a:Option Addr)(cp:Nat)(w:World)(hop:x.op=11):Calls Tryz.prog 128 #[zD x (.slice a x.args.length cp)] w fun e w'=>∃ a' c',e=.returned (.slice a' ([x.a]).length c')∧zw w' a' ([x.a])∧zc [] w w':=by
 have o2:=neb (show x.op≠2 by omega);have o8:=neb (show x.op≠8 by omega);have o6:=neb (show x.op≠6 by omega);have o7:=neb (show x.op≠7 by omega);have o9:=neb (show x.op≠9 by omega);have o11:=eqb hop;clear hop;unfold zD;go_enter Tryz.func128,Tryz.ntmps128;go_wp2;go_ret;exact ⟨_,_,rfl,zb3 _ _ (by simp) _,(zc.alloc [] _ _).quiet (zc.alloc [] _ _)⟩
theorem zlG(x:In8)(a:Option Addr)(cp:Nat)(w:World)(hop:x.op=15):Calls Tryz.prog 128 #[zD x (.slice a x.args.length cp)] w fun e w'=>∃ a' c',e=.returned (.slice a' ([x.a]).length c')∧zw w' a' ([x.a])∧zc [] w w':=by
 have o2:=neb (show x.op≠2 by omega);have o8:=neb (show x.op≠8 by omega);have o6:=neb (show x.op≠6 by omega);have o7:=neb (show x.op≠7 by omega);have o9:=neb (show x.op≠9 by omega);have o11:=neb (show x.op≠11 by omega);have o15:=eqb hop;clear hop;unfold zD;go_enter Tryz.func128,Tryz.ntmps128;go_wp2;go_ret;exact ⟨_,_,rfl,zb3 _ _ (by simp) _,(zc.alloc [] _ _).quiet (zc.alloc [] _ _)⟩
theorem zmK(x:In8)(a:Option Addr)(cp:Nat)(w:World)(hz:zw w a x.args)(hl:x.args.length≤1048576)(hop:x.op=12):Calls Tryz.prog 128 #[zD x (.slice a x.args.length cp)] w fun e w'=>∃ a' c',e=.returned (.slice a' (x.args).length c')∧zw w' a' (x.args)∧zc [] w w':=by
 have o2:=neb (show x.op≠2 by omega);have o8:=neb (show x.op≠8 by omega);have o6:=neb (show x.op≠6 by omega);have o7:=neb (show x.op≠7 by omega);have o9:=neb (show x.op≠9 by omega);have o11:=neb (show x.op≠11 by omega);have o15:=neb (show x.op≠15 by omega);have o12:=eqb hop;clear hop;unfold zD;have HK:=hid (zc.alloc [] w (.cells #[int i64 x.op,int i64 x.dst,int i64 x.a,int i64 x.b,int i64 x.n,.slice a x.args.length cp] 39));cases a with
 | none=>
  have he:x.args=[]:=by
   rcases hz with e | ⟨b,off,e,_⟩
   ·exact e
   ·cases e
  rw[he];rw[he] at HK;clear hz hl he;go_enter Tryz.func128,Tryz.ntmps128;go_wp2_with (at_builtin;go_must (refine qJ rfl _ _ 37 rfl w.heap.size 3 Tryz.t3 1 qn qW (.slice none 0 0) 0 [] rfl (World.ownsRow_nil _ _ _ _) rfl ?_));go_ret
  first | exact ⟨none,⟨0,rfl⟩,.inl rfl,HK.o⟩ | exact ⟨_,_,rfl,.inl rfl,HK.o⟩
 | some ad=>
  have HZ:=hid (hz.kept HK.o (fun _ _ _=>by simp));generalize x.args=ag at *;clear hz;go_enter Tryz.func128,Tryz.ntmps128;go_wp2_with (at_builtin;go_must (refine wpList_append_own _ rfl _ _ 37 rfl w.heap.size 3 Tryz.t3 (int i64 0) 1 8 qn qW Zn Zi jI rfl (by decide) (.slice none 0 0) 0 [] rfl (World.ownsRow_nil _ _ _ _) ad ag.length cp (zbl ag) rfl (by rw[Qo];omega) (ZT HZ.o) (QQ ag) (by unfold maxLen;omega) (by omega) (by simp) ?_;intro v' w1 hown hgrow hnil));have hg2:(w.alloc (.cells #[int i64 x.op,int i64 x.dst,int i64 x.a,int i64 x.b,int i64 x.n,.slice (some ad) ag.length cp] 39)).grownBy w1 none:=hgrow;have HK1:=hid (HK.o.quiet (zc.grown [] hg2 (by simp)));have HO:=hid hown;clear hgrow hnil hown hg2;go_wp2_with fail;go_ret;obtain ⟨a',c',e1,e2,e3,_,_⟩:=Z8 (l:=ag) (n:=0+ag.length) (by simpa using HO.o);exact ⟨a',⟨c',by rw[Nat.zero_add] at e1;exact congrArg Ending.returned e1⟩,e3,HK1.o⟩
theorem zm9(x:In8)(a:Option Addr)(cp:Nat)(w:World)(hz:zw w a x.args)(hl:x.args.length≤1048576)(hop:x.op=13):Calls Tryz.prog 128 #[zD x (.slice a x.args.length cp)] w fun e w'=>∃ a' c',e=.returned (.slice a' (x.a :: x.args).length c')∧zw w' a' (x.a :: x.args)∧zc [] w w':=by
 have o2:=neb (show x.op≠2 by omega);have o8:=neb (show x.op≠8 by omega);have o6:=neb (show x.op≠6 by omega);have o7:=neb (show x.op≠7 by omega);have o9:=neb (show x.op≠9 by omega);have o11:=neb (show x.op≠11 by omega);have o15:=neb (show x.op≠15 by omega);have o12:=neb (show x.op≠12 by omega);have o13:=eqb hop;clear hop;unfold zD;have HK:=hid (zc.alloc [] w (.cells #[int i64 x.op,int i64 x.dst,int i64 x.a,int i64 x.b,int i64 x.n,.slice a x.args.length cp] 39));cases a with
 | none=>
  have he:x.args=[]:=by
   rcases hz with e | ⟨b,off,e,_⟩
   ·exact e
   ·cases e
  rw[he];rw[he] at HK;clear hz hl he;go_enter Tryz.func128,Tryz.ntmps128;go_wp2_with (at_builtin;go_must (refine qJ rfl _ _ 37 rfl w.heap.size 3 Tryz.t3 1 qn qW _ 1 [int i64 x.a] rfl (zjp _ w.heap.size _ (by simp) (by simp) x.a) rfl ?_));go_ret
  first | exact ⟨_,⟨_,rfl⟩,zb3 _ _ (by simp) _,HK.o.quiet (zc.alloc [] _ _)⟩ | exact ⟨_,_,rfl,zb3 _ _ (by simp) _,HK.o.quiet (zc.alloc [] _ _)⟩
 | some ad=>
  have HK2:=hid (HK.o.quiet (zc.alloc [] (w.alloc (.cells #[int i64 x.op,int i64 x.dst,int i64 x.a,int i64 x.b,int i64 x.n,.slice (some ad) x.args.length cp] 39)) (.cells #[int i64 x.a] 3)));have HZ:=hid (hz.kept HK2.o (fun _ _ _=>by simp));generalize x.args=ag at *;clear hz;go_enter Tryz.func128,Tryz.ntmps128;go_wp2_with (at_builtin;go_must (refine wpList_append_own _ rfl _ _ 37 rfl w.heap.size 3 Tryz.t3 (int i64 0) 1 8 qn qW Zn Zi jI rfl (by decide) _ 1 [int i64 x.a] rfl (zjp _ w.heap.size _ (by simp) (by simp) x.a) ad ag.length cp (zbl ag) rfl (by rw[Qo];omega) (ZT HZ.o) (QQ ag) (by unfold maxLen;omega) (by omega) (by simp;omega) ?_;intro v' w1 hown hgrow hnil));have hg2:((w.alloc (.cells #[int i64 x.op,int i64 x.dst,int i64 x.a,int i64 x.b,int i64 x.n,.slice (some ad) ag.length cp] 39)).alloc (.cells #[int i64 x.a] 3)).grownBy w1 (some (w.heap.size+1)):=hgrow;have HK1:=hid (HK2.o.fresh (zc.grown [w.heap.size+1] hg2 (fun k hk=>by simp at hk;simp[hk])) (fun y hy=>by simp at hy;omega));have HO:Box (w1.ownsRow w.heap.size 3 1 v' (1+ag.length) (zbl (x.a :: ag))):=hid hown;clear hgrow hnil hown hg2;go_wp2_with fail;go_ret;obtain ⟨a',c',e1,e2,e3,_,_⟩:=Z8 HO.o;exact ⟨a',c',by rw[Nat.add_comm] at e1;exact congrArg Ending.returned e1,e3,HK1.o⟩
theorem zna(x:In8)(a:Option Addr)(cp:Nat)(w:World)(hz:zw w a x.args)(hl:x.args.length≤1048576)(hop:x.op=14):Calls Tryz.prog 128 #[zD x (.slice a x.args.length cp)] w fun e w'=>∃ a' c',e=.returned (.slice a' (x.a :: x.args).length c')∧zw w' a' (x.a :: x.args)∧zc [] w w':=by
 have o2:=neb (show x.op≠2 by omega);have o8:=neb (show x.op≠8 by omega);have o6:=neb (show x.op≠6 by omega);have o7:=neb (show x.op≠7 by omega);have o9:=neb (show x.op≠9 by omega);have o11:=neb (show x.op≠11 by omega);have o15:=neb (show x.op≠15 by omega);have o12:=neb (show x.op≠12 by omega);have o13:=neb (show x.op≠13 by omega);have o14:=eqb hop;clear hop;unfold zD;have HK:=hid (zc.alloc [] w (.cells #[int i64 x.op,int i64 x.dst,int i64 x.a,int i64 x.b,int i64 x.n,.slice a x.args.length cp] 39));cases a with
 | none=>
  have he:x.args=[]:=by
   rcases hz with e | ⟨b,off,e,_⟩
   ·exact e
   ·cases e
  rw[he];rw[he] at HK;clear hz hl he;go_enter Tryz.func128,Tryz.ntmps128;go_wp2_with (at_builtin;go_must (refine qJ rfl _ _ 37 rfl w.heap.size 3 Tryz.t3 1 qn qW _ 1 [int i64 x.a] rfl (zjp _ w.heap.size _ (by simp) (by simp) x.a) rfl ?_));go_ret
  first | exact ⟨_,⟨_,rfl⟩,zb3 _ _ (by simp) _,HK.o.quiet (zc.alloc [] _ _)⟩ | exact ⟨_,_,rfl,zb3 _ _ (by simp) _,HK.o.quiet (zc.alloc [] _ _)⟩
 | some ad=>
  have HK2:=hid (HK.o.quiet (zc.alloc [] (w.alloc (.cells #[int i64 x.op,int i64 x.dst,int i64 x.a,int i64 x.b,int i64 x.n,.slice (some ad) x.args.length cp] 39)) (.cells #[int i64 x.a] 3)));have HZ:=hid (hz.kept HK2.o (fun _ _ _=>by simp));generalize x.args=ag at *;clear hz;go_enter Tryz.func128,Tryz.ntmps128;go_wp2_with (at_builtin;go_must (refine wpList_append_own _ rfl _ _ 37 rfl w.heap.size 3 Tryz.t3 (int i64 0) 1 8 qn qW Zn Zi jI rfl (by decide) _ 1 [int i64 x.a] rfl (zjp _ w.heap.size _ (by simp) (by simp) x.a) ad ag.length cp (zbl ag) rfl (by rw[Qo];omega) (ZT HZ.o) (QQ ag) (by unfold maxLen;omega) (by omega) (by simp;omega) ?_;intro v' w1 hown hgrow hnil));have hg2:((w.alloc (.cells #[int i64 x.op,int i64 x.dst,int i64 x.a,int i64 x.b,int i64 x.n,.slice (some ad) ag.length cp] 39)).alloc (.cells #[int i64 x.a] 3)).grownBy w1 (some (w.heap.size+1)):=hgrow;have HK1:=hid (HK2.o.fresh (zc.grown [w.heap.size+1] hg2 (fun k hk=>by simp at hk;simp[hk])) (fun y hy=>by simp at hy;omega));have HO:Box (w1.ownsRow w.heap.size 3 1 v' (1+ag.length) (zbl (x.a :: ag))):=hid hown;clear hgrow hnil hown hg2;go_wp2_with fail;go_ret;obtain ⟨a',c',e1,e2,e3,_,_⟩:=Z8 HO.o;exact ⟨a',c',by rw[Nat.add_comm] at e1;exact congrArg Ending.returned e1,e3,HK1.o⟩
theorem zlK(x:In8)(a:Option Addr)(cp:Nat)(w:World)(hop:x.op≠2∧x.op≠8∧x.op≠6∧x.op≠7∧x.op≠9∧x.op≠11∧x.op≠15∧x.op≠12∧x.op≠13∧x.op≠14):Calls Tryz.prog 128 #[zD x (.slice a x.args.length cp)] w fun e w'=>e=.returned (.slice none 0 0)∧zc [] w w':=by
 have o2:=neb (show x.op≠2 by omega);have o8:=neb (show x.op≠8 by omega);have o6:=neb (show x.op≠6 by omega);have o7:=neb (show x.op≠7 by omega);have o9:=neb (show x.op≠9 by omega);have o11:=neb (show x.op≠11 by omega);have o15:=neb (show x.op≠15 by omega);have o12:=neb (show x.op≠12 by omega);have o13:=neb (show x.op≠13 by omega);have o14:=neb (show x.op≠14 by omega);clear hop;unfold zD;go_enter Tryz.func128,Tryz.ntmps128;go_wp2;go_ret;exact ⟨rfl,zc.alloc _ _ _⟩
theorem zc6(x:In8)(a:Option Addr)(cp:Nat)(w:World)(hz:zw w a x.args)(hl:x.args.length≤1048576):Calls Tryz.prog 128 #[zD x (.slice a x.args.length cp)] w fun e w'=>∃ a' c',e=.returned (.slice a' (qd x).length c')∧zw w' a' (qd x)∧zc [] w w':=by
 unfold qd;by_cases g1:x.op=2∨x.op=8
 ·rw[if_pos g1]
  rcases g1 with h | h
  ·exact znV x a cp w h
  ·exact zoP x a cp w h
 rw[if_neg g1];by_cases g2:x.op=6∨x.op=7∨x.op=9∨x.op=11∨x.op=15
 ·rw[if_pos g2]
  rcases g2 with h | h | h | h | h
  ·exact zof x a cp w h
  ·exact znX x a cp w h
  ·exact zn8 x a cp w h
  ·exact zl6 x a cp w h
  ·exact zlG x a cp w h
 rw[if_neg g2];by_cases g3:x.op=12
 ·rw[if_pos g3]
  exact zmK x a cp w hz hl g3
 rw[if_neg g3];by_cases g4:x.op=13∨x.op=14
 ·rw[if_pos g4]
  rcases g4 with h | h
  ·exact zm9 x a cp w hz hl h
  ·exact zna x a cp w hz hl h
 rw[if_neg g4];refine (zlK x a cp w (by omega)).mono ?_;rintro e w' ⟨rfl,k⟩;exact ⟨none,0,rfl,.inl rfl,k⟩
theorem ziO{pb po:Nat}{P:Pr8}(h:PrC w pb po P)(hs:Sm8 P)(f b i:Nat)(hp:J1 P f b i):Calls Tryz.prog 131 #[pointer (some ⟨pb,po,none⟩),ptV f b i] w (zdS w P f b i):=by
 have ka:=zc.alloc [] w (.cells #[int i64 (f:Int),int i64 (b:Int),int i64 (i:Int)] 55);have hq:=zf w (.cells #[int i64 (f:Int),int i64 (b:Int),int i64 (i:Int)] 55);obtain ⟨fa,fcp,HH⟩:=h.fns;obtain ⟨fb,fo,ba,bcp,rfl,B⟩:=HH.at hp.1;obtain ⟨bb,bo,rfl,L⟩:=B.at hp.2.1;obtain ⟨ca,ccp,hcc0,_⟩:=L.c0;have hf:=hp.1;have hb:=hp.2.1;have hi:=hp.2.2;have hM14:=hs.bk f hf;have hc9:=hs.code hf hb;have H4:=hid HH.cell;have H2:=hid B.cell;have h4:=za ka HH.cell;have h2:=za ka B.cell;have hcc:=za ka hcc0;have m1:=za ka L.c1.1;have m2:=za ka L.c2.1;have m3:=za ka L.c3.1;have m4:=za ka L.c4.1;have KA:=hid ka;have HXX:Box (JZ P f b i=if i<(zr (zg P f) b).code.length then [(f,b,i+1)] else JN P f (zcM (zr (zg P f) b))):=hid rfl;obtain ⟨M,hM⟩:∃ M,M=(zg P f).blocks.length:=⟨_,rfl⟩;have HMM:Box (M=(zg P f).blocks.length):=hid hM;rw[← hM] at h2 H2 hb hM14;generalize P.funcs.length=N at *;generalize zr (zg P f) b=x at *;clear h hs hp ka HH B L hcc0 hM;have g0:¬ (f:Int)<0:=by omega
 have g1:¬ (N:Int)≤(f:Int):=by omega
 have g1':(f:Int)<(N:Int):=by omega
 have g2:¬ (b:Int)<0:=by omega
 have g3:¬ (M:Int)≤(b:Int):=by omega
 have g3':(b:Int)<(M:Int):=by omega
 have g4:¬ (i:Int)<0:=by omega
 have g5:¬ (x.code.length:Int)<(i:Int):=by omega
 unfold ptV;go_enter Tryz.func131,Tryz.ntmps131;go_upto_region 1 with fail;generalize w.alloc (.cells #[int i64 (f:Int),int i64 (b:Int),int i64 (i:Int)] 55)=W at *;generalize w.heap.size=q at *;have p0:W.cell? ⟨q,0,none⟩=some (int i64 (f:Int)):=zd hq 0;have p1:W.cell? ⟨q,1,none⟩=some (int i64 (b:Int)):=zd hq 1;have p2:W.cell? ⟨q,2,none⟩=some (int i64 (i:Int)):=zd hq 2;go_quiet (fail);go_wp2_with fail;have HQ2:Box ((W.drewN nq).heap[q]? = some (.cells #[int i64 (f:Int),int i64 (b:Int),int i64 (i:Int)] 55 (0,0))):=hid hq;have K2:=hid (KA.o.quiet (zc.drewN [] W nq));have q0:(W.drewN nq).cell? ⟨q,0,none⟩=some (int i64 (f:Int)):=p0;have q1:(W.drewN nq).cell? ⟨q,1,none⟩=some (int i64 (b:Int)):=p1;have l4:(W.drewN nq).cell? ⟨pb,po+4,none⟩=some (.slice (some ⟨fb,fo,none⟩) N fcp):=h4;have l2:(W.drewN nq).cell? ⟨fb,fo+f * 3+2,none⟩=some (.slice (some ⟨bb,bo,none⟩) M bcp):=h2;have lc:(W.drewN nq).cell? ⟨bb,bo+b * 5,none⟩=some (.slice ca x.code.length ccp):=hcc;have n1:(W.drewN nq).cell? ⟨bb,bo+b * 5+1,none⟩=some (int i64 x.fin):=m1;have n2:(W.drewN nq).cell? ⟨bb,bo+b * 5+2,none⟩=some (int i64 x.reg):=m2;have n3:(W.drewN nq).cell? ⟨bb,bo+b * 5+3,none⟩=some (int i64 x.to):=m3;have n4:(W.drewN nq).cell? ⟨bb,bo+b * 5+4,none⟩=some (int i64 x.els):=m4;generalize W.drewN nq=W2 at *;clear p0 p1 p2 h4 h2 hcc m1 m2 m3 m4 hq KA;have kz:=zc.alloc [] W2 (.cells #[.slice none 0 0,int i64 0,int i64 0,int i64 0,int i64 0] 42);have t0:=za kz q0;have t1:=za kz q1;have t4:=za kz l4;have t2:=za kz l2;have tc:=za kz lc;have s1:=za kz n1;have s2:=za kz n2;have s3:=za kz n3;have s4:=za kz n4;clear kz
 go_region
 clear t0 t1 t2 t4 tc s1 s2 s3 s4;go_upto_region 4 with fail;have hu:((W2.alloc (.cells #[.slice ca x.code.length ccp,int i64 x.fin,int i64 x.reg,int i64 x.to,int i64 x.els] 42)).drew).heap[W2.heap.size]? = some (.cells #[.slice ca x.code.length ccp,int i64 x.fin,int i64 x.reg,int i64 x.to,int i64 x.els] 42 (0,0)):=zf W2 _;have kk:zc [] W2 ((W2.alloc (.cells #[.slice ca x.code.length ccp,int i64 x.fin,int i64 x.reg,int i64 x.to,int i64 x.els] 42)).drew):=(zc.alloc [] _ _).quiet (zc.drew [] _);have HQ3:=hid (ze HQ2.o kk);have K3:=hid (K2.o.quiet kk);generalize (W2.alloc (.cells #[.slice ca x.code.length ccp,int i64 x.fin,int i64 x.reg,int i64 x.to,int i64 x.els] 42)).drew=W3 at *;generalize W2.heap.size=u at *;clear kk HQ2 K2 q0 q1 l4 l2 lc n1 n2 n3 n4;have q0:=zd HQ3.o 0;have q1:=zd HQ3.o 1;have q2:=zd HQ3.o 2;have r0:=zd hu 0;have r1:=zd hu 1;have r3:=zd hu 3;have r4:=zd hu 4;by_cases hin:i<x.code.length
 ·rw[if_pos hin] at HXX
  have hin':(i:Int)<(x.code.length:Int):=by omega
  have w4:IntKind.i64.wrap ((i:Int)+1)=(i:Int)+1:=IntWalk.i64_in _ (by omega);have w5:(i:Int)+1≤150:=by omega
  generalize x.code.length=n at *;go_wp2_with fail;go_ret;unfold zdS;rw[HXX.o];exact ⟨_,_,rfl,zo7 _ _ (by simp) f b (i+1) _ (by omega),K3.o.quiet (zc.alloc [] _ _),fun g o e=>by have h9:=K3.o.size;simp at e;omega⟩
 ·rw[if_neg hin] at HXX
  have hne:¬ (i:Int)<(x.code.length:Int):=by omega
  have HX:=HXX;clear HXX;generalize x.code.length=n at *;clear hin
  go_upto_block 0 with fail
  go_cut [6] (fun tv wz=>∃ ta tcp,tv=.slice ta (zcM x).length tcp∧Box (zw wz ta (zcM x))∧Box (zc [] W3 wz))
  case first=>
   have e1:x.fin=1→zcM x=[x.to]:=fun h=>by unfold zcM;rw[if_pos h]
   have e2:x.fin=2→x.els=x.to→zcM x=[x.to]:=fun h h2=>by unfold zcM;rw[if_neg (by omega),if_pos h,if_pos h2]
   have e3:x.fin=2→¬ x.els=x.to→zcM x=[x.to,x.els]:=fun h h2=>by unfold zcM;rw[if_neg (by omega),if_pos h,if_neg h2]
   have e4:¬ x.fin=1→¬ x.fin=2→zcM x=[]:=fun h h2=>by unfold zcM;rw[if_neg h,if_neg h2]
   have E1:=hid e1;have E2:=hid e2;have E3:=hid e3;have E4:=hid e4;clear e1 e2 e3 e4 HX HQ3 K3 q0 q1 q2 r0 hne hu;by_cases f1:x.fin=1
   ·have o1:=eqb f1
    go_wp2_with fail;go_meet;rw[E1.o f1];exact ⟨_,_,rfl,hid (zb3 W3 _ rfl x.to),hid (zc.alloc [] _ _)⟩
   ·have o1:=neb f1
    by_cases f2:x.fin=2
    ·have o2:=eqb f2
     by_cases f3:x.els=x.to
     ·have o3:=eqb f3
      have o4:(x.els != x.to)=false:=by simp[f3]
      have v3:=za (zc.alloc [] W3 (.cells #[int i64 x.to] 3)) r3;have v4:=za (zc.alloc [] W3 (.cells #[int i64 x.to] 3)) r4;go_wp2_with fail;go_meet;rw[E2.o f2 f3];exact ⟨_,_,rfl,hid (zb3 W3 _ rfl x.to),hid (zc.alloc [] _ _)⟩
     ·have o3:=neb f3
      have o4:(x.els != x.to)=true:=by simp[f3]
      have v3:=za (zc.alloc [] W3 (.cells #[int i64 x.to] 3)) r3;have v4:=za (zc.alloc [] W3 (.cells #[int i64 x.to] 3)) r4;have F2:=hid f2;clear f2;go_wp2_with (at_builtin;go_must (refine wpList_append_own _ rfl _ _ 37 rfl W3.heap.size 3 Tryz.t3 (int i64 0) 1 8 qn qW Zn Zi jI rfl (by decide) _ 1 [int i64 x.to] rfl ((zjp W3 _ _ rfl (Nat.le_refl _) x.to).alloc _) ⟨W3.heap.size+1,0,none⟩ 1 1 [int i64 x.els] rfl rfl (by rw[← World.size_alloc (w:=W3) (o:=.cells #[int i64 x.to] 3)];exact cell_one_new _ _ _) (fun x hx=>by simp at hx;subst hx;rfl) (by unfold maxLen;omega) (by omega) (by simp;omega) ?_;intro v' w6 hown6 hgrow6 hnil6));have HK6:=hid (((zc.alloc [] W3 (.cells #[int i64 x.to] 3)).quiet (zc.alloc [] _ (.cells #[int i64 x.els] 3))).appended ((zjp W3 _ _ rfl (Nat.le_refl _) x.to).alloc (.cells #[int i64 x.els] 3)) hgrow6 (Nat.le_refl _));obtain ⟨a,cp,ea,eb,ec,_,_⟩:=Z8 (l:=[x.to,x.els]) hown6;subst ea;go_wp2_with fail;go_meet;rw[E3.o F2.o f3];exact ⟨_,_,rfl,hid ec,HK6⟩
    ·have o2:=neb f2
     go_wp2_with fail;go_meet;rw[E4.o f1 f2];exact ⟨_,_,rfl,hid (.inl rfl),hid (zc.refl _ _)⟩
  case rest=>
   obtain ⟨ta,tcp,rfl,HTA,HK5⟩:=hcut;have hts:=zjO x;generalize zcM x=ts at *;have K5:=hid (K3.o.quiet HK5.o);have HQX:=hid (ze HQ3.o HK5.o);clear HK5 q0 q1 q2 r0 r1 r3 r4 hu HQ3 K3 hne;generalize wc=w5 at *;have H45:=hid (fun (w':World) (k:zc [] w w')=>za k H4.o);have H25:=hid (fun (w':World) (k:zc [] w w')=>za k H2.o);have HQ5:=hid (fun (w':World) (k:zc [] w5 w')=>(ze HQX.o k:w'.heap[q]? = some (.cells #[int i64 (f:Int),int i64 (b:Int),int i64 (i:Int)] 55 (0,0))));have HR0:Box (w5.ownsRow w5.heap.size 55 3 (.slice none 0 0) (JN P f (ts.take 0)).length (Qf (JN P f (ts.take 0)))):=hid (World.ownsRow_nil _ _ _ _);go_wp2_with fail
   go_loopw [7,8] (fun lv kv wr=>∃ k:Nat,k≤ts.length∧kv=int i64 (k:Int)∧Box (wr.ownsRow w5.heap.size 55 3 lv (JN P f (ts.take k)).length (Qf (JN P f (ts.take k))))∧Box (zc [] w5 wr)) (fun _ kv _=>ts.length - (intOf kv).toNat)
   case atStart=>exact ⟨0,by omega,rfl,HR0,hid (zc.refl _ _)⟩
   case round=>
    obtain ⟨k,hk,rfl,HR,HK⟩:=hrel;clear HR0;by_cases hlt:k<ts.length
    ·have hlt':(k:Int)<(ts.length:Int):=by omega
     obtain ⟨tb,tf,rfl,ht⟩:∃ tb tf,ta=some ⟨tb,tf,none⟩∧wr.cell? ⟨tb,tf+k,none⟩=some (int i64 (ts.getD k 0)):=by
      rcases HTA.o with e | ⟨tb,tf,e1,e2⟩
      ·exfalso;rw[e] at hlt;simp at hlt
      ·exact ⟨tb,tf,e1,za HK.o (e2 k hlt)⟩
     have hsn:Box (ts.take (k+1)=ts.take k ++ [ts.getD k 0]):=hid (by
      rw[List.take_succ_eq_append_getElem hlt,List.getD_eq_getElem?_getD,List.getElem?_eq_getElem hlt]
      rfl)
     have hll:(JN P f (ts.take k)).length≤k:=Nat.le_trans (zk1 P f _) (by rw[List.length_take];omega);have hks:=HK.o.size;have g4:=H45.o _ (K5.o.quiet HK.o);have g2:=H25.o _ (K5.o.quiet HK.o);have hz:=HQ5.o _ HK.o;have p0:wr.cell? ⟨q,0,none⟩=some (int i64 (f:Int)):=zd hz 0;generalize ts.getD k 0=t at *;generalize ts.length=m at *;by_cases hbk:0≤t∧t<(M:Int)
     ·have hn:Box (JN P f (ts.take (k+1))=JN P f (ts.take k) ++ [(f,t.toNat,0)]):=hid (by rw[hsn.o];exact zm6 P f _ t ⟨hbk.1,by have:=HMM.o;omega⟩)
      have hN2:Box ((JN P f (ts.take (k+1))).length=(JN P f (ts.take k)).length+1∧Qf (JN P f (ts.take (k+1)))=Qf (JN P f (ts.take k)) ++ [int i64 (f:Int),int i64 t,int i64 0]):=hid (by
       rw[hn.o,zby,show ((t.toNat:Nat):Int)=t by omega]
       exact ⟨by simp,rfl⟩)
      have x1:=hbk.1;have x2:=hbk.2;have o1:decide (0≤t)=true:=by simpa using x1
      have o2:decide (t<(M:Int))=true:=by simpa using x2
      clear hn hsn hbk hz;generalize (JN P f (ts.take k)).length=nn at *;generalize Qf (JN P f (ts.take k))=xs at *;go_wp2_with fail;go_quiet (fail);go_wp2_with fail;have HKd:=hid (HK.o.quiet (zc.drewN [] wr nq));have HRd:Box ((wr.drewN nq).ownsRow w5.heap.size 55 3 u7 nn xs):=hid HR.o;have p0':(wr.drewN nq).cell? ⟨q,0,none⟩=some (int i64 (f:Int)):=p0;have ht':(wr.drewN nq).cell? ⟨tb,tf+k,none⟩=some (int i64 t):=ht;have hks':w5.heap.size≤(wr.drewN nq).heap.size:=hks;generalize wr.drewN nq=wy at *;clear HK HR p0 ht hks g4 g2 o1 o2
      go_region_law (refine step_append_lies _ (by rfl) _ _ _ (by rfl) w5.heap.size 55 Tryz.t55 (agg #[int i64 0,int i64 0,int i64 0]) 3 24 Q9 zbn zcE QJ zaC rfl (by decide) u7 nn xs (by rfl) (HRd.o.alloc _) ⟨wy.heap.size,0,none⟩ 1 1 [int i64 (f:Int),int i64 t,int i64 0] (by rfl) (by rfl) (World.news_of_block (cs:=#[int i64 (f:Int),int i64 t,int i64 0]) (t:=55) (fr:=(0,0)) (heap_alloc_new wy _)) (JP _ _ _) (by omega) (by unfold maxLen;omega) (by omega) (by simp;omega) (wy.heap.size+1) (by simp) ?_;intro g7 cap7 w7 hown7 hgrow7 hat7 hlt7;have HK7:=hid ((HKd.o.quiet ((zc.alloc [] wy _).quiet (zc.drew [] _))).appended HRd.o hgrow7 (Nat.le_refl _));have HO7:=hid hown7;clear hown7 hgrow7 hat7 hlt7)
      all_goals
       go_wp2_with fail;go_roundw
       case rel=>exact ⟨k+1,by omega,by go_num,hid (by rw[hN2.o.1,hN2.o.2];exact HO7.o),HK7⟩
       case measure=>simp[intOf];omega
     ·have hn:Box (JN P f (ts.take (k+1))=JN P f (ts.take k)):=hid (by rw[hsn.o];exact zk8 P f _ t (fun h=>hbk ⟨h.1,by have:=HMM.o;omega⟩))
      clear hsn hz;by_cases x1:0≤t
      ·have x2:¬ t<(M:Int):=fun h=>hbk ⟨x1,h⟩
       clear hbk;go_wp2_with fail;go_quiet (fail);go_wp2_with fail;go_roundw
       case rel=>exact ⟨k+1,by omega,by go_num,hid (by rw[hn.o];exact HR.o),hid (HK.o.quiet (zc.drewN [] _ _))⟩
       case measure=>simp[intOf];omega
      ·clear hbk
       have x3:t<0:=by omega
       have o1:decide (0≤t)=false:=by simpa using x1
       go_wp2_with fail;go_quiet (fail);go_wp2_with fail;go_roundw
       case rel=>exact ⟨k+1,by omega,by go_num,hid (by rw[hn.o];exact HR.o),hid (HK.o.quiet (zc.drewN [] _ _))⟩
       case measure=>simp[intOf];omega
    ·obtain hke:k=ts.length:=by omega
     have he:Box (ts.take k=ts):=hid (by rw[hke,List.take_length]);have hnl:¬ (k:Int)<(ts.length:Int):=by omega
     generalize ts.length=m at *;go_wp2_with fail;go_ret;obtain ⟨a,cp,e1,e2,e3,_⟩:=zcI HR.o;have hnw:=zmY HR.o e1;rw[he.o] at e1 e3;unfold zdS;rw[HX.o];exact ⟨a,cp,congrArg Ending.returned e1,e3,K5.o.quiet HK.o,fun g o e=>Nat.le_trans K5.o.size (hnw g o e)⟩
end Go.Proofs.YtkgoimokgbdgfaaGreatDoor
