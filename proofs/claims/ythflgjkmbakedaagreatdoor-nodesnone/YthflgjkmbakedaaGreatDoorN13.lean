import Derived.Test.YthflgjkmbakedaaGreatDoorN12

namespace Go.Proofs.YthflgjkmbakedaaGreatDoor
open Go.RowKit
open Go.Value (int pointer agg)
open Go.IntKind (i64)
set_option maxHeartbeats 8000000
set_option maxRecDepth 20000
variable {w:World}
theorem Qc{P:Program}(base:Nat)(t ty e:TypeId)(i:TypeInfo)(size:Nat)(ht:P.underlying t=some (.slice e))(hi:P.info? e=some i)
  (v:Value) (n:Nat) (xs:List Value) (hown:w.ownsRow base e size v n xs) (c:Nat):
  (Builtin.append_ #[t,t] ty #[v,.slice none 0 c]).run P w=.ok v w:=by
 rcases hown.2 with ⟨rfl,rfl⟩ | ⟨g,cap,cur,rfl,_,_,hnc,_⟩
 ·simp[Builtin.append_,run_underlying ht,sizeOf,typeInfo,hi,Builtin.lenOf,Builtin.firstCells]
 ·simp[Builtin.append_,run_underlying ht,sizeOf,typeInfo,hi,Builtin.lenOf,Builtin.firstCells,hnc,storeCells]
theorem qQ{P:Program}{ops:Array Oper}{rest:List Oper}{o:Oper}{a:Act}{Q:Exit→Act→World→Prop}(hgd:o.guard=none)(s x:Operand)(t:TypeId)
  (ho:o.op=.call { callee:=.builtin .append,args:=#[s,x],argTypes:=#[t,t] })
  (base:Nat) (e:TypeId) (i:TypeInfo) (size:Nat) (ht:P.underlying t=some (.slice e)) (hi:P.info? e=some i)
  (v:Value) (n:Nat) (xs:List Value) (hs:a.eval s=v) (hown:w.ownsRow base e size v n xs) {c:Nat}(hx:a.eval x=.slice none 0 c)
  (h:wpList P ops Q rest (a.put o.dst v) w):wpList P ops Q (o :: rest) a w:=by
 refine wpList_plain hgd fun K hK=> ?_;have hrun:=Qc (P:=P) (w:=w) base t o.type e i size ht hi v n xs hown c;unfold Oper.wp;simp[execOp,ho,resolve,invoke,builtin,hs,hx,hrun,Result.andThen];exact hK _ _ h
def zK(x:In8):Bool:=decide ((1≤x.op∧x.op≤7)∨(10≤x.op∧x.op≤14))
def ZW(x:In8):Value:=.tuple #[int i64 (if zK x then x.dst else 0),.bool (zK x)]
theorem zN{x:In8}(h:zK x=true):ZW x=.tuple #[int i64 x.dst,.bool true]:=by unfold ZW;rw[h];rfl
theorem zdI{x:In8}(h:zK x=false):ZW x=.tuple #[int i64 0,.bool false]:=by unfold ZW;rw[h];rfl
theorem zjI(x:In8)(ar:Value)(w:World)(hop:x.op=1):Calls Tryz.prog 214 #[zt x ar] w fun e w'=>e=.returned (ZW x)∧za [] w w':=by
 rw[zN (by unfold zK;rw[hop];rfl)];unfold zt;rw[hop];go_enter Tryz.func214,Tryz.ntmps214;go_wp2
 go_ret2
 exact ⟨rfl,za.alloc _ _ _⟩
theorem zjt(x:In8)(ar:Value)(w:World)(hop:x.op=2):Calls Tryz.prog 214 #[zt x ar] w fun e w'=>e=.returned (ZW x)∧za [] w w':=by
 rw[zN (by unfold zK;rw[hop];rfl)];unfold zt;rw[hop];go_enter Tryz.func214,Tryz.ntmps214;go_wp2
 go_ret2
 exact ⟨rfl,za.alloc _ _ _⟩
theorem zjm(x:In8)(ar:Value)(w:World)(hop:x.op=3):Calls Tryz.prog 214 #[zt x ar] w fun e w'=>e=.returned (ZW x)∧za [] w w':=by
 rw[zN (by unfold zK;rw[hop];rfl)];unfold zt;rw[hop];go_enter Tryz.func214,Tryz.ntmps214;go_wp2
 go_ret2
 exact ⟨rfl,za.alloc _ _ _⟩
theorem zjk(x:In8)(ar:Value)(w:World)(hop:x.op=4):Calls Tryz.prog 214 #[zt x ar] w fun e w'=>e=.returned (ZW x)∧za [] w w':=by
 rw[zN (by unfold zK;rw[hop];rfl)];unfold zt;rw[hop];go_enter Tryz.func214,Tryz.ntmps214;go_wp2
 go_ret2
 exact ⟨rfl,za.alloc _ _ _⟩
theorem zjL(x:In8)(ar:Value)(w:World)(hop:x.op=5):Calls Tryz.prog 214 #[zt x ar] w fun e w'=>e=.returned (ZW x)∧za [] w w':=by
 rw[zN (by unfold zK;rw[hop];rfl)];unfold zt;rw[hop];go_enter Tryz.func214,Tryz.ntmps214;go_wp2
 go_ret2
 exact ⟨rfl,za.alloc _ _ _⟩
theorem zjK(x:In8)(ar:Value)(w:World)(hop:x.op=6):Calls Tryz.prog 214 #[zt x ar] w fun e w'=>e=.returned (ZW x)∧za [] w w':=by
 rw[zN (by unfold zK;rw[hop];rfl)];unfold zt;rw[hop];go_enter Tryz.func214,Tryz.ntmps214;go_wp2
 go_ret2
 exact ⟨rfl,za.alloc _ _ _⟩
theorem zjn(x:In8)(ar:Value)(w:World)(hop:x.op=7):Calls Tryz.prog 214 #[zt x ar] w fun e w'=>e=.returned (ZW x)∧za [] w w':=by
 rw[zN (by unfold zK;rw[hop];rfl)];unfold zt;rw[hop];go_enter Tryz.func214,Tryz.ntmps214;go_wp2
 go_ret2
 exact ⟨rfl,za.alloc _ _ _⟩
theorem zio(x:In8)(ar:Value)(w:World)(hop:x.op=10):Calls Tryz.prog 214 #[zt x ar] w fun e w'=>e=.returned (ZW x)∧za [] w w':=by
 rw[zN (by unfold zK;rw[hop];rfl)];unfold zt;rw[hop];go_enter Tryz.func214,Tryz.ntmps214;go_wp2
 go_ret2
 exact ⟨rfl,za.alloc _ _ _⟩
theorem zie(x:In8)(ar:Value)(w:World)(hop:x.op=11):Calls Tryz.prog 214 #[zt x ar] w fun e w'=>e=.returned (ZW x)∧za [] w w':=by
 rw[zN (by unfold zK;rw[hop];rfl)];unfold zt;rw[hop];go_enter Tryz.func214,Tryz.ntmps214;go_wp2
 go_ret2
 exact ⟨rfl,za.alloc _ _ _⟩
theorem zip(x:In8)(ar:Value)(w:World)(hop:x.op=12):Calls Tryz.prog 214 #[zt x ar] w fun e w'=>e=.returned (ZW x)∧za [] w w':=by
 rw[zN (by unfold zK;rw[hop];rfl)];unfold zt;rw[hop];go_enter Tryz.func214,Tryz.ntmps214;go_wp2
 go_ret2
 exact ⟨rfl,za.alloc _ _ _⟩
theorem ziU(x:In8)(ar:Value)(w:World)(hop:x.op=13):Calls Tryz.prog 214 #[zt x ar] w fun e w'=>e=.returned (ZW x)∧za [] w w':=by
 rw[zN (by unfold zK;rw[hop];rfl)];unfold zt;rw[hop];go_enter Tryz.func214,Tryz.ntmps214;go_wp2
 go_ret2
 exact ⟨rfl,za.alloc _ _ _⟩
theorem ziI(x:In8)(ar:Value)(w:World)(hop:x.op=14):Calls Tryz.prog 214 #[zt x ar] w fun e w'=>e=.returned (ZW x)∧za [] w w':=by
 rw[zN (by unfold zK;rw[hop];rfl)];unfold zt;rw[hop];go_enter Tryz.func214,Tryz.ntmps214;go_wp2
 go_ret2
 exact ⟨rfl,za.alloc _ _ _⟩
theorem ziq(x:In8)(ar:Value)(w:World)(hop:x.op≠1∧x.op≠2∧x.op≠3∧x.op≠4∧x.op≠5∧x.op≠6∧x.op≠7∧x.op≠10∧x.op≠11∧x.op≠12∧x.op≠13∧x.op≠14):Calls Tryz.prog 214 #[zt x ar] w fun e w'=>e=.returned (ZW x)∧za [] w w':=by
 rw[zdI (by unfold zK;simp;omega)];unfold zt;have o1:=neb (show x.op≠1 by omega);have o2:=neb (show x.op≠2 by omega);have o3:=neb (show x.op≠3 by omega);have o4:=neb (show x.op≠4 by omega);have o5:=neb (show x.op≠5 by omega);have o6:=neb (show x.op≠6 by omega);have o7:=neb (show x.op≠7 by omega);have o10:=neb (show x.op≠10 by omega);have o11:=neb (show x.op≠11 by omega);have o12:=neb (show x.op≠12 by omega);have o13:=neb (show x.op≠13 by omega);have o14:=neb (show x.op≠14 by omega);clear hop;go_enter Tryz.func214,Tryz.ntmps214;go_wp2
 go_ret2
 exact ⟨rfl,za.alloc _ _ _⟩
theorem QG(x:In8)(ar:Value)(w:World):Calls Tryz.prog 214 #[zt x ar] w fun e w'=>e=.returned (ZW x)∧za [] w w':=by
 by_cases o1:x.op=1
 ·exact zjI x ar w o1
 by_cases o2:x.op=2
 ·exact zjt x ar w o2
 by_cases o3:x.op=3
 ·exact zjm x ar w o3
 by_cases o4:x.op=4
 ·exact zjk x ar w o4
 by_cases o5:x.op=5
 ·exact zjL x ar w o5
 by_cases o6:x.op=6
 ·exact zjK x ar w o6
 by_cases o7:x.op=7
 ·exact zjn x ar w o7
 by_cases o10:x.op=10
 ·exact zio x ar w o10
 by_cases o11:x.op=11
 ·exact zie x ar w o11
 by_cases o12:x.op=12
 ·exact zip x ar w o12
 by_cases o13:x.op=13
 ·exact ziU x ar w o13
 by_cases o14:x.op=14
 ·exact ziI x ar w o14
 exact ziq x ar w ⟨o1,o2,o3,o4,o5,o6,o7,o10,o11,o12,o13,o14⟩
theorem zcr(n c:Nat)(w:World):Calls Tryz.prog 92 #[.slice none n c] w fun e w'=>e=.returned (.slice none 0 0)∧w'=w:=by
 have q:∀ (w:World) (a:Option Addr) (n c n' c':Nat),(binOp .eql 36 (.slice a n c) (.slice none n' c')).run Tryz.prog w=.ok (.bool a.isNone) w:=fun w a n c n' c'=>Lib.run_eql_slice_nil w _ _ a n c n' c' Tryz.underlying36;go_enter Tryz.func92,Tryz.ntmps92;go_wp2;go_ret;exact ⟨rfl,rfl⟩
theorem zbx(ad:Addr)(n c:Nat)(zs:List Int)(w:World)(hl:zs.length=n)(hz:zw w (some ad) zs)(hb:n≤17592186044416):
  Calls Tryz.prog 92 #[.slice (some ad) n c] w fun e w'=>∃ v,e=.returned v∧w'.ownsRow w.heap.size 3 1 v n (Z9 zs)∧za [] w w':=by
 have q:∀ (w:World) (a:Option Addr) (n c n' c':Nat),(binOp .eql 36 (.slice a n c) (.slice none n' c')).run Tryz.prog w=.ok (.bool a.isNone) w:=fun w a n c n' c'=>Lib.run_eql_slice_nil w _ _ a n c n' c' Tryz.underlying36
 have H:Box (∀ j u,(Z9 zs)[j]? = some u→w.cell? (ad.add j)=some u):=hid (by
  rcases hz with e | ⟨b,off,e,h⟩
  ·intro j u hj;rw[e] at hj;simp[Z9] at hj
  ·cases e
   exact zdv h)
 have HL:=hid hl;clear hz hl;go_enter Tryz.func92,Tryz.ntmps92;go_wp2_with (at_builtin;go_must (refine wpList_append_own _ rfl _ _ 36 rfl w.heap.size 3 Tryz.t3 (int i64 0) 1 8 zL qg qF qI qi rfl (by decide) _ _ _ rfl (World.ownsRow_made w #[] 0 (Nat.le_refl _) (Nat.zero_le _) rfl) ad n c (Z9 zs) rfl (by rw[Z8,HL.o];omega) (fun j u hj=>Lib.cell?_alloc_some _ (H.o j u hj)) (QO zs) (by unfold maxLen;omega) (by omega) (by simp) ?_;intro v' w1 hown hgrow hnil));have HO:=hid hown;have hg2:(w.alloc (Obj.cells #[] 3)).grownBy w1 (some w.heap.size):=hgrow;have HK:=hid ((za.alloc [] w _).trans (za.grown [w.heap.size] hg2 (fun k hk=>by simp at hk;simp[hk])) (fun x hx hlt=>by simp at hx;omega):za [] w w1);clear hown hgrow hnil hg2;go_wp2_with fail;go_ret;exact ⟨v',rfl,by simpa using HO.o,HK.o⟩
theorem zc0(a:Option Addr)(c:Nat)(zs:List Int)(w:World)(hz:zw w a zs)(hb:zs.length≤17592186044416):
  Calls Tryz.prog 92 #[.slice a zs.length c] w fun e w'=>∃ a' c',e=.returned (.slice a' zs.length c')∧zw w' a' zs∧za [] w w'∧∀ b off,a'=some ⟨b,off,none⟩→w.heap.size≤b:=by
 cases a with
 | none=>
  obtain rfl:zs=[]:=by
   rcases hz with e | ⟨b,off,e,_⟩
   ·exact e
   ·cases e
  refine (zcr 0 c w).mono ?_;rintro e w' ⟨rfl,rfl⟩;exact ⟨none,0,rfl,Or.inl rfl,za.refl _ _,fun _ _ e=>by cases e⟩
 | some ad=>
  refine (zbx ad zs.length c zs w rfl hz hb).mono ?_;rintro e w' ⟨v,rfl,ho,hk⟩;obtain ⟨a',c',e1,_,h1,_,h2⟩:=ZR ho;exact ⟨a',c',by rw[e1],h1,hk,h2⟩
def zW(x:In8):List Int:=if x.op=2∨x.op=8 then [x.a,x.b] else if x.op=6∨x.op=7∨x.op=9∨x.op=11∨x.op=15 then [x.a] else if x.op=12 then x.args else if x.op=13∨x.op=14 then x.a :: x.args else []
theorem zer(w:World)(b:Nat)(hb:b=w.heap.size)(z:Int):zw (w.alloc (.cells #[int i64 z] 3)) (some ⟨b,0,none⟩) [z]:=by
 subst hb
 exact .inr ⟨_,0,rfl,fun i hi=>by
  obtain rfl:i=0:=by simpa using hi
  rw[World.cell?_alloc_at _ _ _ _ rfl];rfl⟩
theorem zjP(w:World)(b:Nat)(hb:b=w.heap.size)(y z:Int):zw (w.alloc (.cells #[int i64 y,int i64 z] 3)) (some ⟨b,0,none⟩) [y,z]:=by
 subst hb
 exact .inr ⟨_,0,rfl,fun i hi=>by
  rw[World.cell?_alloc_at _ _ _ _ rfl]
  rcases (show i=0∨i=1 by simp at hi;omega) with rfl | rfl <;> rfl⟩
theorem zji(w:World)(base b:Nat)(hb:b=w.heap.size)(hs:base≤w.heap.size)(z:Int):(w.alloc (.cells #[int i64 z] 3)).ownsRow base 3 1 (.slice (some ⟨b,0,none⟩) 1 1) 1 [int i64 z]:=by
 subst hb;exact World.ownsRow_lit (base:=base) (e:=3) (size:=1) w #[int i64 z] 1 hs (by unfold maxLen;omega) rfl
theorem Qq{ad:Addr}{l:List Int}(h:zw w (some ad) l):∀ j u,(Z9 l)[j]? = some u→w.cell? (ad.add j)=some u:=by
 rcases h with e | ⟨b,off,e,h⟩
 ·intro j u hj;rw[e] at hj;simp[Z9] at hj
 ·cases e
  exact zdv h
theorem zi2(x:In8)(a:Option Addr)(cp:Nat)(w:World)(hop:x.op=2):Calls Tryz.prog 213 #[zt x (.slice a x.args.length cp)] w fun e w'=>∃ a' c',e=.returned (.slice a' ([x.a,x.b]).length c')∧zw w' a' ([x.a,x.b])∧za [] w w':=by
 have o2:=eqb hop;clear hop;unfold zt;go_enter Tryz.func213,Tryz.ntmps213;go_wp2;go_ret;exact ⟨_,_,rfl,zjP _ _ (by simp) _ _,(za.alloc [] _ _).quiet (za.alloc [] _ _)⟩
theorem ziF(x:In8)(a:Option Addr)(cp:Nat)(w:World)(hop:x.op=8):Calls Tryz.prog 213 #[zt x (.slice a x.args.length cp)] w fun e w'=>∃ a' c',e=.returned (.slice a' ([x.a,x.b]).length c')∧zw w' a' ([x.a,x.b])∧za [] w w':=by
 have o2:=neb (show x.op≠2 by omega);have o8:=eqb hop;clear hop;unfold zt;go_enter Tryz.func213,Tryz.ntmps213;go_wp2;go_ret;exact ⟨_,_,rfl,zjP _ _ (by simp) _ _,(za.alloc [] _ _).quiet (za.alloc [] _ _)⟩
theorem zhW(x:In8)(a:Option Addr)(cp:Nat)(w:World)(hop:x.op=6):Calls Tryz.prog 213 #[zt x (.slice a x.args.length cp)] w fun e w'=>∃ a' c',e=.returned (.slice a' ([x.a]).length c')∧zw w' a' ([x.a])∧za [] w w':=by
 have o2:=neb (show x.op≠2 by omega);have o8:=neb (show x.op≠8 by omega);have o6:=eqb hop;clear hop;unfold zt;go_enter Tryz.func213,Tryz.ntmps213;go_wp2;go_ret;exact ⟨_,_,rfl,zer _ _ (by simp) _,(za.alloc [] _ _).quiet (za.alloc [] _ _)⟩
theorem zjc(x:In8)(a:Option Addr)(cp:Nat)(w:World)(hop:x.op=7):Calls Tryz.prog 213 #[zt x (.slice a x.args.length cp)] w fun e w'=>∃ a' c',e=.returned (.slice a' ([x.a]).length c')∧zw w' a' ([x.a])∧za [] w w':=by
 have o2:=neb (show x.op≠2 by omega);have o8:=neb (show x.op≠8 by omega);have o6:=neb (show x.op≠6 by omega);have o7:=eqb hop;clear hop;unfold zt;go_enter Tryz.func213,Tryz.ntmps213;go_wp2;go_ret;exact ⟨_,_,rfl,zer _ _ (by simp) _,(za.alloc [] _ _).quiet (za.alloc [] _ _)⟩
theorem zim(x:In8)(a:Option Addr)(cp:Nat)(w:World)(hop:x.op=9):Calls Tryz.prog 213 #[zt x (.slice a x.args.length cp)] w fun e w'=>∃ a' c',e=.returned (.slice a' ([x.a]).length c')∧zw w' a' ([x.a])∧za [] w w':=by
 have o2:=neb (show x.op≠2 by omega);have o8:=neb (show x.op≠8 by omega);have o6:=neb (show x.op≠6 by omega);have o7:=neb (show x.op≠7 by omega);have o9:=eqb hop;clear hop;unfold zt;go_enter Tryz.func213,Tryz.ntmps213;go_wp2;go_ret;exact ⟨_,_,rfl,zer _ _ (by simp) _,(za.alloc [] _ _).quiet (za.alloc [] _ _)⟩
theorem zgm(x:In8)(a:Option Addr)(cp:Nat)(w:World)(hop:x.op=11):Calls Tryz.prog 213 #[zt x (.slice a x.args.length cp)] w fun e w'=>∃ a' c',e=.returned (.slice a' ([x.a]).length c')∧zw w' a' ([x.a])∧za [] w w':=by
 have o2:=neb (show x.op≠2 by omega);have o8:=neb (show x.op≠8 by omega);have o6:=neb (show x.op≠6 by omega);have o7:=neb (show x.op≠7 by omega);have o9:=neb (show x.op≠9 by omega);have o11:=eqb hop;clear hop;unfold zt;go_enter Tryz.func213,Tryz.ntmps213;go_wp2;go_ret;exact ⟨_,_,rfl,zer _ _ (by simp) _,(za.alloc [] _ _).quiet (za.alloc [] _ _)⟩
theorem zhc(x:In8)(a:Option Addr)(cp:Nat)(w:World)(hop:x.op=15):Calls Tryz.prog 213 #[zt x (.slice a x.args.length cp)] w fun e w'=>∃ a' c',e=.returned (.slice a' ([x.a]).length c')∧zw w' a' ([x.a])∧za [] w w':=by
 have o2:=neb (show x.op≠2 by omega);have o8:=neb (show x.op≠8 by omega);have o6:=neb (show x.op≠6 by omega);have o7:=neb (show x.op≠7 by omega);have o9:=neb (show x.op≠9 by omega);have o11:=neb (show x.op≠11 by omega);have o15:=eqb hop;clear hop;unfold zt;go_enter Tryz.func213,Tryz.ntmps213;go_wp2;go_ret;exact ⟨_,_,rfl,zer _ _ (by simp) _,(za.alloc [] _ _).quiet (za.alloc [] _ _)⟩
theorem zht(x:In8)(a:Option Addr)(cp:Nat)(w:World)(hz:zw w a x.args)(hl:x.args.length≤1048576)(hop:x.op=12):Calls Tryz.prog 213 #[zt x (.slice a x.args.length cp)] w fun e w'=>∃ a' c',e=.returned (.slice a' (x.args).length c')∧zw w' a' (x.args)∧za [] w w':=by
 have o2:=neb (show x.op≠2 by omega);have o8:=neb (show x.op≠8 by omega);have o6:=neb (show x.op≠6 by omega);have o7:=neb (show x.op≠7 by omega);have o9:=neb (show x.op≠9 by omega);have o11:=neb (show x.op≠11 by omega);have o15:=neb (show x.op≠15 by omega);have o12:=eqb hop;have HC:=hid (zc0 a cp x.args (w.alloc (.cells #[int i64 x.op,int i64 x.dst,int i64 x.a,int i64 x.b,int i64 x.n,.slice a x.args.length cp] 54)) (hz.kept (za.alloc [] _ _) (fun _ _ _=>by simp)) (by omega));clear hop hz;unfold zt;go_enter Tryz.func213,Tryz.ntmps213;go_wp2_with (go_at_call 92;refine HC.o.mono ?_;rintro e w1 ⟨a1,c1,rfl,h1,k1,_⟩);go_ret;exact ⟨_,_,rfl,h1,(za.alloc [] _ _).quiet k1⟩
theorem zg5(x:In8)(a:Option Addr)(cp:Nat)(w:World)(hz:zw w a x.args)(hl:x.args.length≤1048576)(hop:x.op=13):Calls Tryz.prog 213 #[zt x (.slice a x.args.length cp)] w fun e w'=>∃ a' c',e=.returned (.slice a' (x.a :: x.args).length c')∧zw w' a' (x.a :: x.args)∧za [] w w':=by
 have o2:=neb (show x.op≠2 by omega);have o8:=neb (show x.op≠8 by omega);have o6:=neb (show x.op≠6 by omega);have o7:=neb (show x.op≠7 by omega);have o9:=neb (show x.op≠9 by omega);have o11:=neb (show x.op≠11 by omega);have o15:=neb (show x.op≠15 by omega);have o12:=neb (show x.op≠12 by omega);have o13:=eqb hop;clear hop;unfold zt;have HK:=hid (za.alloc [] w (.cells #[int i64 x.op,int i64 x.dst,int i64 x.a,int i64 x.b,int i64 x.n,.slice a x.args.length cp] 54));cases a with
 | none=>
  have he:x.args=[]:=by
   rcases hz with e | ⟨b,off,e,_⟩
   ·exact e
   ·cases e
  rw[he];rw[he] at HK;clear hz hl he;go_enter Tryz.func213,Tryz.ntmps213;go_wp2_with (at_builtin;go_must (refine qQ rfl _ _ 36 rfl w.heap.size 3 Tryz.t3 1 zL qg _ 1 [int i64 x.a] rfl (zji _ w.heap.size _ (by simp) (by simp) x.a) rfl ?_));go_ret
  first | exact ⟨_,⟨_,rfl⟩,zer _ _ (by simp) _,HK.o.quiet (za.alloc [] _ _)⟩ | exact ⟨_,_,rfl,zer _ _ (by simp) _,HK.o.quiet (za.alloc [] _ _)⟩
 | some ad=>
  have HK2:=hid (HK.o.quiet (za.alloc [] (w.alloc (.cells #[int i64 x.op,int i64 x.dst,int i64 x.a,int i64 x.b,int i64 x.n,.slice (some ad) x.args.length cp] 54)) (.cells #[int i64 x.a] 3)));have HZ:=hid (hz.kept HK2.o (fun _ _ _=>by simp));generalize x.args=ag at *;clear hz;go_enter Tryz.func213,Tryz.ntmps213;go_wp2_with (at_builtin;go_must (refine wpList_append_own _ rfl _ _ 36 rfl w.heap.size 3 Tryz.t3 (int i64 0) 1 8 zL qg qF qI qi rfl (by decide) _ 1 [int i64 x.a] rfl (zji _ w.heap.size _ (by simp) (by simp) x.a) ad ag.length cp (Z9 ag) rfl (by rw[Z8];omega) (Qq HZ.o) (QO ag) (by unfold maxLen;omega) (by omega) (by simp;omega) ?_;intro v' w1 hown hgrow hnil));have hg2:((w.alloc (.cells #[int i64 x.op,int i64 x.dst,int i64 x.a,int i64 x.b,int i64 x.n,.slice (some ad) ag.length cp] 54)).alloc (.cells #[int i64 x.a] 3)).grownBy w1 (some (w.heap.size+1)):=hgrow;have HK1:=hid (HK2.o.fresh (za.grown [w.heap.size+1] hg2 (fun k hk=>by simp at hk;simp[hk])) (fun y hy=>by simp at hy;omega));have HO:Box (w1.ownsRow w.heap.size 3 1 v' (1+ag.length) (Z9 (x.a :: ag))):=hid hown;clear hgrow hnil hown hg2;go_wp2_with fail;go_ret;obtain ⟨a',c',e1,e2,e3,_,_⟩:=ZR HO.o;exact ⟨a',c',by rw[Nat.add_comm] at e1;exact congrArg Ending.returned e1,e3,HK1.o⟩
theorem zhi(x:In8)(a:Option Addr)(cp:Nat)(w:World)(hz:zw w a x.args)(hl:x.args.length≤1048576)(hop:x.op=14):Calls Tryz.prog 213 #[zt x (.slice a x.args.length cp)] w fun e w'=>∃ a' c',e=.returned (.slice a' (x.a :: x.args).length c')∧zw w' a' (x.a :: x.args)∧za [] w w':=by
 have o2:=neb (show x.op≠2 by omega);have o8:=neb (show x.op≠8 by omega);have o6:=neb (show x.op≠6 by omega);have o7:=neb (show x.op≠7 by omega);have o9:=neb (show x.op≠9 by omega);have o11:=neb (show x.op≠11 by omega);have o15:=neb (show x.op≠15 by omega);have o12:=neb (show x.op≠12 by omega);have o13:=neb (show x.op≠13 by omega);have o14:=eqb hop;clear hop;unfold zt;have HK:=hid (za.alloc [] w (.cells #[int i64 x.op,int i64 x.dst,int i64 x.a,int i64 x.b,int i64 x.n,.slice a x.args.length cp] 54));cases a with
 | none=>
  have he:x.args=[]:=by
   rcases hz with e | ⟨b,off,e,_⟩
   ·exact e
   ·cases e
  rw[he];rw[he] at HK;clear hz hl he;go_enter Tryz.func213,Tryz.ntmps213;go_wp2_with (at_builtin;go_must (refine qQ rfl _ _ 36 rfl w.heap.size 3 Tryz.t3 1 zL qg _ 1 [int i64 x.a] rfl (zji _ w.heap.size _ (by simp) (by simp) x.a) rfl ?_));go_ret
  first | exact ⟨_,⟨_,rfl⟩,zer _ _ (by simp) _,HK.o.quiet (za.alloc [] _ _)⟩ | exact ⟨_,_,rfl,zer _ _ (by simp) _,HK.o.quiet (za.alloc [] _ _)⟩
 | some ad=>
  have HK2:=hid (HK.o.quiet (za.alloc [] (w.alloc (.cells #[int i64 x.op,int i64 x.dst,int i64 x.a,int i64 x.b,int i64 x.n,.slice (some ad) x.args.length cp] 54)) (.cells #[int i64 x.a] 3)));have HZ:=hid (hz.kept HK2.o (fun _ _ _=>by simp));generalize x.args=ag at *;clear hz;go_enter Tryz.func213,Tryz.ntmps213;go_wp2_with (at_builtin;go_must (refine wpList_append_own _ rfl _ _ 36 rfl w.heap.size 3 Tryz.t3 (int i64 0) 1 8 zL qg qF qI qi rfl (by decide) _ 1 [int i64 x.a] rfl (zji _ w.heap.size _ (by simp) (by simp) x.a) ad ag.length cp (Z9 ag) rfl (by rw[Z8];omega) (Qq HZ.o) (QO ag) (by unfold maxLen;omega) (by omega) (by simp;omega) ?_;intro v' w1 hown hgrow hnil));have hg2:((w.alloc (.cells #[int i64 x.op,int i64 x.dst,int i64 x.a,int i64 x.b,int i64 x.n,.slice (some ad) ag.length cp] 54)).alloc (.cells #[int i64 x.a] 3)).grownBy w1 (some (w.heap.size+1)):=hgrow;have HK1:=hid (HK2.o.fresh (za.grown [w.heap.size+1] hg2 (fun k hk=>by simp at hk;simp[hk])) (fun y hy=>by simp at hy;omega));have HO:Box (w1.ownsRow w.heap.size 3 1 v' (1+ag.length) (Z9 (x.a :: ag))):=hid hown;clear hgrow hnil hown hg2;go_wp2_with fail;go_ret;obtain ⟨a',c',e1,e2,e3,_,_⟩:=ZR HO.o;exact ⟨a',c',by rw[Nat.add_comm] at e1;exact congrArg Ending.returned e1,e3,HK1.o⟩
theorem zgu(x:In8)(a:Option Addr)(cp:Nat)(w:World)(hop:x.op≠2∧x.op≠8∧x.op≠6∧x.op≠7∧x.op≠9∧x.op≠11∧x.op≠15∧x.op≠12∧x.op≠13∧x.op≠14):Calls Tryz.prog 213 #[zt x (.slice a x.args.length cp)] w fun e w'=>e=.returned (.slice none 0 0)∧za [] w w':=by
 have o2:=neb (show x.op≠2 by omega);have o8:=neb (show x.op≠8 by omega);have o6:=neb (show x.op≠6 by omega);have o7:=neb (show x.op≠7 by omega);have o9:=neb (show x.op≠9 by omega);have o11:=neb (show x.op≠11 by omega);have o15:=neb (show x.op≠15 by omega);have o12:=neb (show x.op≠12 by omega);have o13:=neb (show x.op≠13 by omega);have o14:=neb (show x.op≠14 by omega);clear hop;unfold zt;go_enter Tryz.func213,Tryz.ntmps213;go_wp2;go_ret;exact ⟨rfl,za.alloc _ _ _⟩
theorem Q2(x:In8)(a:Option Addr)(cp:Nat)(w:World)(hz:zw w a x.args)(hl:x.args.length≤1048576):Calls Tryz.prog 213 #[zt x (.slice a x.args.length cp)] w fun e w'=>∃ a' c',e=.returned (.slice a' (zW x).length c')∧zw w' a' (zW x)∧za [] w w':=by
 unfold zW;by_cases g1:x.op=2∨x.op=8
 ·rw[if_pos g1]
  rcases g1 with h | h
  ·exact zi2 x a cp w h
  ·exact ziF x a cp w h
 rw[if_neg g1];by_cases g2:x.op=6∨x.op=7∨x.op=9∨x.op=11∨x.op=15
 ·rw[if_pos g2]
  rcases g2 with h | h | h | h | h
  ·exact zhW x a cp w h
  ·exact zjc x a cp w h
  ·exact zim x a cp w h
  ·exact zgm x a cp w h
  ·exact zhc x a cp w h
 rw[if_neg g2];by_cases g3:x.op=12
 ·rw[if_pos g3]
  exact zht x a cp w hz hl g3
 rw[if_neg g3];by_cases g4:x.op=13∨x.op=14
 ·rw[if_pos g4]
  rcases g4 with h | h
  ·exact zg5 x a cp w hz hl h
  ·exact zhi x a cp w hz hl h
 rw[if_neg g4];refine (zgu x a cp w (by omega)).mono ?_;rintro e w' ⟨rfl,k⟩;exact ⟨none,0,rfl,.inl rfl,k⟩
def OpP(W0 w:World)(mp pp fg:Nat)(P:Pr8)(F:List Nat)(hb fc:Nat)(r:Int × Ma)(e:Ending)(w':World):Prop:=
 e=.returned (int i64 r.1)∧∃ F' rv' oa' oc' os' Fh',MaS W0 w' mp pp fg P r.2 F' hb fc rv' oa' oc' os' Fh'∧za F w w'∧jx w F F'
def zjU(P:Pr8)(m:Ma)(x:In8):Prop:=ZB P m.top.f m.top.b m.top.i∧0≤x.dst∧x.dst<16∧x.dst<((zf P m.top.f).regs.length:Int)∧0≤(Qr P m.top x.dst).2∧(Qr P m.top x.dst).2<(P.recs.length:Int)∧(zhI P (Qr P m.top x.dst).2).length≤1000∧m.rc.length≤1000
theorem jx.step{w':World}{F F' F'':List Nat}(n:jx w F F')(s:w.heap.size≤w'.heap.size)(n':jx w' F' F''):jx w F F'':=fun x hx=>by
 rcases n' x hx with h | h
 ·exact n x h
 ·exact .inr (Nat.le_trans s h)
theorem za.next{w' w'':World}{F F':List Nat}(k:za F w w')(n:jx w F F')(k':za F' w' w''):za F w w'':=k.trans k' fun x hx hl=>(n x hx).resolve_right (by omega)
section
variable {W0 w:World}{mp pp fg:Nat}{P:Pr8}{m:Ma}{F:List Nat}{hb fc:Nat}{rv:Value}{oa:Option Addr}{oc:Nat}{os:List Ob}{Fh:List Nat}
theorem MaS.rvForm(h:MaS W0 w mp pp fg P m F hb fc rv oa oc os Fh):∃ a cap,rv=.slice a m.rc.length cap:=by
 rcases h.rcs.2 with ⟨hv,h0⟩ | ⟨g,cap,cur,hv,_⟩
 ·exact ⟨none,0,by rw[hv,h0]⟩
 ·exact ⟨_,cap,hv⟩
theorem MaS.osLen(h:MaS W0 w mp pp fg P m F hb fc rv oa oc os Fh):os.length=m.hp.length:=by rw[← h.bar,List.length_map]
theorem MaS.grownBox(h:MaS W0 w mp pp fg P m F hb fc rv oa oc os Fh){wa w5:World}(ka:za [] w wa)(hg:wa.grownBy w5 rv.ownBlock):w5.heap[mp]? = some (.cells (jm m pp hb fg fc rv oa oc) 119 (0,0)):=by
 have:=ze h.box ka;rw[hg.block mp (zx this) (fun e=>h.rv_ne.2.1 e.symm)];exact this
theorem zhr{P:Pr8}{f b i:Nat}(h:ZB P f b i):zjj P f b i=(J4 P f b i:Int):=by
 unfold zjj;rw[if_pos ⟨by omega,by have:=h.1;omega,by have:=h.2.1;simpa using this⟩,if_pos ⟨by omega,by have:=h.2.2;simpa using this⟩];simp
theorem zbp(h:MaS W0 w mp pp fg P m F hb fc rv oa oc os Fh)(hsm:Sm8 P)(x:In8)(hx:x.op=5)(ok:zjU P m x):
  Calls Tryz.prog 148 #[pointer (some ⟨mp,0,none⟩),pointer (some ⟨fg,m.bot.length * 67,none⟩),int i64 x.dst] w (OpP W0 w mp pp fg P F hb fc (qU P m x)):=by
 obtain ⟨hpt,d0,d1,d2,t0,t1,hl,hrc⟩:=ok;have HRT:=hid (za1 h hpt.1 d0 d2);obtain ⟨n,hn⟩:∃ n:Nat,(Qr P m.top x.dst).2=(n:Int):=⟨(Qr P m.top x.dst).2.toNat,by omega⟩;have hrn:zhI P (Qr P m.top x.dst).2=P.recs.getD n []:=by unfold zhI;rw[hn];rfl
 have hnr:n<P.recs.length:=by omega
 obtain ⟨ra,rcp,q0,r0,_⟩:=h.prc.c0;obtain ⟨rb,ro,hra,q1⟩:=r0.at (jO [] hnr);subst hra;obtain ⟨la,lcp,q1,q2,_⟩:=q1;rw[← hrn] at q1 q2;rw[Nat.mul_one] at q1;have hnum:=zhr hpt
 have E:Box (qU P m x=if 400≤m.hp.length then (6,m) else (0,{ m with hp:=m.hp ++ [Ob.mk (J4 P m.top.f m.top.b m.top.i:Int) false (.slice none 0 0) ((zhI P (Qr P m.top x.dst).2).map qK)],rc:=m.rc ++ [(Qr P m.top x.dst).2] }.put x.dst (2,(m.hp.length:Int)+1,false))):=hid (by
  unfold qU
  rw[if_neg (by omega),if_neg (by omega),if_neg (by omega),if_neg (by omega),if_pos hx])
 generalize zhI P (Qr P m.top x.dst).2=rec at *;generalize hty:Qr P m.top x.dst=ty at *;obtain ⟨tk,tn⟩:=ty;have hn':tn=(n:Int):=hn;subst hn';have HH:=hid h;have hnz:(n:Int)<(P.recs.length:Int):=by omega
 have HNU:=hid fun (w':World) (k:za [] w w')=>zbP (PrC.sub _ _ _ _ _ (h.quiet k).now h.prc) hsm (m.top.f:Int) (m.top.b:Int) (m.top.i:Int);rw[hnum] at HNU;generalize (J4 P m.top.f m.top.b m.top.i:Int)=site at *;have HR2:=hid fun (w':World) (s:Sub W0 w')=>q2.sub TyC.sub s
 have HS:=hid fun (w':World) (F':List Nat) (m':Ma) (rv':Value) (os':List Ob) (Fh':List Nat) (h':MaS W0 w' mp pp fg P m' F' hb fc rv' oa oc os' Fh') (e1:m'.bot=m.bot) (e2:m'.top=m.top)=>(show (w'.cell? ⟨mp,2,none⟩=some (pointer (some ⟨hb,0,none⟩))∧w'.cell? ⟨mp,0,none⟩=some (pointer (some ⟨pp,0,none⟩))∧w'.cell? ⟨fg,m.bot.length * 67,none⟩=some (int i64 (m.top.f:Int))∧w'.cell? ⟨fg,m.bot.length * 67+1,none⟩=some (int i64 (m.top.b:Int))∧w'.cell? ⟨fg,m.bot.length * 67+2,none⟩=some (int i64 (m.top.i:Int))∧w'.cell? ⟨pp,0,none⟩=some (.slice (some ⟨rb,ro,none⟩) P.recs.length rcp)∧w'.cell? ⟨rb,ro+n,none⟩=some (.slice la rec.length lcp)) from by
  have p:=h'.pt;rw[e1,e2] at p
  exact ⟨zc h'.box 2,zc h'.box 0,p.1,p.2.1,p.2.2,h'.now _ _ q0,h'.now _ _ q1⟩)
 have hfl:∀ w':World,(Instr.field 52 (tyV (tk,(n:Int))) 1).run Tryz.prog w'=.ok (int i64 (n:Int)) w':=fun w'=>by kernel_rfl
 by_cases hfull:400≤m.hp.length
 ·rw[if_pos hfull] at E
  have HAL:=hid fun (w':World) (k:za [] w w')=>zb8 (h.quiet k).hp (by rw[h.osLen];exact hfull) site (.slice la rec.length lcp);clear h q0 q1 q2 hx hpt hn hnr d2 t0 t1 hnum r0 hrn hsm;go_enter Tryz.func148,Tryz.ntmps148;go_wp2_with fail;refine HRT.o.mono ?_;rintro e w2 ⟨rfl,k2⟩;have H2:=hid (HH.o.quiet k2);have K2:=hid k2;clear HRT k2 HH;go_upto_region 2 with fail;obtain ⟨c0,c1,c2,c3,c4,c5,c6⟩:=HS.o _ _ _ _ _ _ H2.o rfl rfl;have kd:za [] w2 w2.drew:=za.drew _ _
  go_region_held3 (fun w'=>w'.cell? ⟨mp,2,none⟩=some (pointer (some ⟨hb,0,none⟩))∧w'.cell? ⟨mp,0,none⟩=some (pointer (some ⟨pp,0,none⟩))∧w'.cell? ⟨fg,m.bot.length * 67,none⟩=some (int i64 (m.top.f:Int))∧w'.cell? ⟨fg,m.bot.length * 67+1,none⟩=some (int i64 (m.top.b:Int))∧w'.cell? ⟨fg,m.bot.length * 67+2,none⟩=some (int i64 (m.top.i:Int))∧w'.cell? ⟨pp,0,none⟩=some (.slice (some ⟨rb,ro,none⟩) P.recs.length rcp)∧w'.cell? ⟨rb,ro+n,none⟩=some (.slice la rec.length lcp)) (go_keep) (first
   | (go_at_call 60;refine (HNU.o _ (K2.o.quiet kd)).mono ?_;rintro e w5 ⟨rfl,k5⟩;have kk5:=kd.quiet k5;obtain ⟨f50,f51,f52,f53,f54,f55,f56⟩:=HS.o _ _ _ _ _ _ (H2.o.quiet kk5) rfl rfl;clear k5)
   | (go_at_call 222;refine (HAL.o _ (K2.o.quiet kk5)).mono ?_;rintro e w6 ⟨rfl,k6⟩;have kk6:=kk5.quiet k6;obtain ⟨f60,f61,f62,f63,f64,f65,f66⟩:=HS.o _ _ _ _ _ _ (H2.o.quiet kk6) rfl rfl;clear k6))
  all_goals
   go_wp2_with fail;go_ret;refine ⟨by rw[E.o];rfl,F,rv,oa,oc,os,Fh,?_,(K2.o.quiet kk6).mono (fun _ hx=>by cases hx),jx.refl _ _⟩;rw[E.o];exact H2.o.quiet kk6
 ·rw[if_neg hfull] at E
  have HAL:=hid fun (w':World) (k:za [] w w')=>zbY (h.quiet k).hp (by rw[h.osLen];omega) site (cp:=lcp) (HR2.o _ (h.quiet k).now) hl;have HLN:=hid h.osLen;have HBR:=hid h.bar;have hne0:(((os.length:Int)+1) == 0)=false:=neb (by omega);obtain ⟨sa,sc,hrv⟩:=h.rvForm;have HRV:=hid hrv;have hrb:=hrc;clear h q0 q1 q2 hx hpt hn hnr d2 t0 t1 hnum r0 hrn hsm hrv hfull;go_enter Tryz.func148,Tryz.ntmps148;go_wp2_with fail;refine HRT.o.mono ?_;rintro e w2 ⟨rfl,k2⟩;have H2:=hid (HH.o.quiet k2);have K2:=hid k2;clear HRT k2 HH;go_upto_region 2 with fail;obtain ⟨c0,c1,c2,c3,c4,c5,c6⟩:=HS.o _ _ _ _ _ _ H2.o rfl rfl;have kd:za [] w2 w2.drew:=za.drew _ _
  go_region_held3 (fun w'=>w'.cell? ⟨mp,2,none⟩=some (pointer (some ⟨hb,0,none⟩))∧w'.cell? ⟨mp,0,none⟩=some (pointer (some ⟨pp,0,none⟩))∧w'.cell? ⟨fg,m.bot.length * 67,none⟩=some (int i64 (m.top.f:Int))∧w'.cell? ⟨fg,m.bot.length * 67+1,none⟩=some (int i64 (m.top.b:Int))∧w'.cell? ⟨fg,m.bot.length * 67+2,none⟩=some (int i64 (m.top.i:Int))∧w'.cell? ⟨pp,0,none⟩=some (.slice (some ⟨rb,ro,none⟩) P.recs.length rcp)∧w'.cell? ⟨rb,ro+n,none⟩=some (.slice la rec.length lcp)) (go_keep) (first
   | (go_at_call 60;refine (HNU.o _ (K2.o.quiet kd)).mono ?_;rintro e w5 ⟨rfl,k5⟩;have kk5:=kd.quiet k5;obtain ⟨f50,f51,f52,f53,f54,f55,f56⟩:=HS.o _ _ _ _ _ _ (H2.o.quiet kk5) rfl rfl;clear k5)
   | (go_at_call 222;refine (HAL.o _ (K2.o.quiet kk5)).mono ?_;rintro e w6 ⟨rfl,fs6,F6,hp6,k6,n6,i6⟩;have M6:=(H2.o.quiet kk5).heap k6 n6 hp6;have kk6:=k6.mono H2.o.fh_in;obtain ⟨f60,f61,f62,f63,f64,f65,f66⟩:=HS.o _ _ _ _ _ _ M6 rfl rfl;have n9:=hid n6;clear hp6 i6 n6))
  all_goals
   have M6':=hid M6;have KF6:=hid (((K2.o.quiet kk5).mono (L':=F) (fun _ hx=>by cases hx)).step kk6);have p3:w6.cell? ⟨mp,3,none⟩=some (.slice sa m.rc.length sc):=by rw[← HRV.o];exact zc M6.box 3
   have z3:=zg M6.box 3;have hbl:=zx M6.box;have own:=M6.rcs;rw[HRV.o] at own;have HOW:=hid own;have NR:Box (jx w F (F ++ F6)):=hid fun x hx=>by
    rcases List.mem_append.1 hx with hx | hx
    ·exact .inl hx
    ·rcases n9.o x hx with e | e
     ·exact .inl (H2.o.fh_in x e)
     ·exact .inr (Nat.le_trans (K2.o.quiet kk5).size e)
   clear M6 kk6 k6 own kk5;generalize hM:m.rc.length=M at *;generalize m.hp.length=L at *;go_wp2_with (at_builtin;go_must (refine wpList_append_lies _ rfl _ _ _ rfl 0 3 Tryz.t3 (int i64 0) 1 8 zL qg qF qI qi rfl (by decide) (.slice sa M sc) M (Z9 m.rc) rfl (HOW.o.alloc _) ⟨w6.heap.size,0,none⟩ 1 1 [int i64 (n:Int)] rfl rfl (World.news_of_block (cs:=#[int i64 (n:Int)]) (t:=3) (fr:=(0,0)) (zd w6 _)) (fun u hu=>by rw[List.mem_singleton.1 hu];rfl) (by omega) (by unfold maxLen;omega) (by omega) (by simp) (w6.heap.size+1) (by simp) ?_;intro g5 cap5 w5 hown5 hgrow5 hat5 hlt5;have hbx:=M6'.o.grownBox (za.alloc [] w6 (.cells #[int i64 (n:Int)] 3)) (by rw[HRV.o];exact hgrow5);have p5:=zc hbx 3;have z5:=zg hbx 3;have HO5:=hid hown5;have HG5:=hid hgrow5;have HA5:=hid hat5;clear hown5 hgrow5 hat5 hbx))
   have R:=M6'.o.recs (z:=(n:Int)) (rv':=.slice (some ⟨g5,0,none⟩) (M+1) cap5) (za.alloc [] w6 (.cells #[int i64 (n:Int)] 3)) (by show w5.ownsRow 0 3 1 _ (m.rc.length+1) _;rw[hM];exact HO5.o) (by rw[HRV.o];exact HG5.o) (fun k hk=>by
    simp[Value.ownBlock] at hk;subst hk;rcases HA5.o with e | e
    ·exact .inl (by rw[HRV.o];exact e)
    ·exact .inr (by rw[World.size_alloc];omega))
   have M7:=hid R.1;have K7:=hid (KF6.o.next NR.o R.2.1);have N7:=hid (NR.o.step KF6.o.size R.2.2);clear R HO5 HG5 HA5;refine (qf M7.o (2,(os.length:Int)+1,false) d0 d1).mono ?_;rintro e w8 ⟨rfl,m8,k8⟩;have M8:=hid m8;have K8:=hid (K7.o.next N7.o (k8.mono fun y hy=>by rw[List.mem_singleton.1 hy];exact M7.o.fg_in));clear m8 k8;go_wp2_with fail;go_ret;refine ⟨by rw[E.o];rfl,_,.slice (some ⟨g5,0,none⟩) (M+1) cap5,oa,oc,os ++ [Ob.mk site false fs6 (rec.map qK)],F6,?_,K8.o,N7.o⟩;rw[E.o];have:=M8.o;rw[List.map_append,HBR.o,HLN.o] at this;exact this
end
theorem ZG(os:List Ob)(k:Nat):(os.map zbM).getD k obZ=zbM (os.getD k obZ):=by
 rw[List.getD_eq_getElem?_getD,List.getD_eq_getElem?_getD,List.getElem?_map];cases os[k]? <;> rfl
theorem Q7(os:List Ob)(o:Int):foW (os.map zbM) o=foW os o:=by
 unfold foW;rw[List.length_map,show (os.map zbM).getD (o - 1).toNat ⟨0,false,.slice none 0 0,[]⟩=zbM (os.getD (o - 1).toNat obZ) from ZG os _];rfl
theorem Z2(os:List Ob)(o f:Int):slW (os.map zbM) o f=slW os o f:=by
 unfold slW;rw[Q7,ZG];rfl
theorem zdU(os:List Ob)(o f:Int):zcB (os.map zbM) o f=zcB os o f:=by
 unfold zcB;rw[Z2,ZG];rfl
theorem zdw(os:List Ob)(o f:Int)(v:V3):(zea os o f v).map zbM=zea (os.map zbM) o f v:=by
 unfold zea;rw[Z2,ZG];split
 ·rw[List.map_set]
  rfl
 ·rfl
theorem zb6(os:List Ob)(o:Int):(Qe os o).map zbM=Qe (os.map zbM) o:=by
 unfold Qe;rw[Q7,ZG];split
 ·rw[List.map_set]
  rfl
 ·rfl
section
variable {W0 w:World}{mp pp fg:Nat}{P:Pr8}{m:Ma}{F:List Nat}{hb fc:Nat}{rv:Value}{oa:Option Addr}{oc:Nat}{os:List Ob}{Fh:List Nat}
theorem zaL{w1 w7:World}{b:Nat}(hA:w7.heap[b]? = some (.cells #[int i64 0,int i64 0,.bool false] 30 (0,0)))(hB:w1.heap.size≤b)(k:za [] w1 w7)(gk gn:Int)(gt:Bool):
  (((w7.setCell ⟨b,0,none⟩ (int i64 gk)).setCell ⟨b,1,none⟩ (int i64 gn)).setCell ⟨b,2,none⟩ (.bool gt)).heap[b]? = some (.cells #[int i64 gk,int i64 gn,.bool gt] 30 (0,0))∧za [] w1 (((w7.setCell ⟨b,0,none⟩ (int i64 gk)).setCell ⟨b,1,none⟩ (int i64 gn)).setCell ⟨b,2,none⟩ (.bool gt)):=
 ⟨JF hA _ _ _,k.trans (jF w7 b _ _ _) fun x hx hl=>by rw[List.mem_singleton.1 hx] at hl;omega⟩
structure zaJ (x:In8):Prop where
 d0:0≤x.dst
 d1:x.dst<16
 a0:0≤x.a
 a1:x.a<16
 b0:0≤x.b
 b1:x.b<16
theorem zcq(h:MaS W0 w mp pp fg P m F hb fc rv oa oc os Fh)(x:In8)(ax:Value)(hx:x.op=7)(ok:zaJ x):
  Calls Tryz.prog 149 #[pointer (some ⟨mp,0,none⟩),pointer (some ⟨fg,m.bot.length * 67,none⟩),zt x ax] w (OpP W0 w mp pp fg P F hb fc (qU P m x)):=by
 have E:Box (qU P m x=if slW m.hp (Zj (m.top.get x.a)) x.n=0 then (0,m.put x.dst (zcB m.hp (Zj (m.top.get x.a)) x.n)) else (slW m.hp (Zj (m.top.get x.a)) x.n,m)):=hid (by
  unfold qU
  rw[if_neg (by omega),if_neg (by omega),if_neg (by omega),if_neg (by omega),if_neg (by omega),if_neg (by omega),if_pos hx])
 have e1:=Z2 os (Zj (m.top.get x.a)) x.n;have e2:=zdU os (Zj (m.top.get x.a)) x.n;rw[h.bar] at e1 e2;rw[e1,e2] at E;have ka:=za.alloc [] w (.cells #[int i64 x.op,int i64 x.dst,int i64 x.a,int i64 x.b,int i64 x.n,ax] 54);have HN:=hid (zd w (.cells #[int i64 x.op,int i64 x.dst,int i64 x.a,int i64 x.b,int i64 x.n,ax] 54));have KA:=hid ka;have HH:=hid h;have HG:=hid fun (w':World) (k:za [] w w')=>qh (h.quiet k) ok.a0 ok.a1;have HO:=hid fun (w':World)=>Zu (m.top.get x.a) w';have HV:=hid fun (w':World) (k:za [] w w')=>zgr (h.quiet k).hp (Zj (m.top.get x.a)) x.n;have OK:=hid ok;generalize Zj (m.top.get x.a)=po at *;generalize m.top.get x.a=va at *;generalize slW os po x.n=sl at *;generalize zcB os po x.n=gv at *;obtain ⟨gk,gn,gt⟩:=gv;clear h ok e1 e2 hx;unfold zt;go_enter Tryz.func149,Tryz.ntmps149;go_upto_region 1 with fail;generalize w.alloc (.cells #[int i64 x.op,int i64 x.dst,int i64 x.a,int i64 x.b,int i64 x.n,ax] 54)=w1 at *;have HS:=hid fun (w':World) (k:za [] w1 w')=>And.intro (zc (HH.o.quiet (KA.o.quiet k)).box 2) (And.intro (zc (ze HN.o k) 2) (zc (ze HN.o k) 4));obtain ⟨c0,c1,c2⟩:=HS.o w1 (za.refl _ _);have kd:za [] w1 w1.drew:=za.drew _ _;clear ka
 go_region_held3 (fun w'=>w'.cell? ⟨mp,2,none⟩=some (pointer (some ⟨hb,0,none⟩))∧w'.cell? ⟨w.heap.size,2,none⟩=some (int i64 x.a)∧w'.cell? ⟨w.heap.size,4,none⟩=some (int i64 x.n)) (go_keep) (first
  | (go_at_call 142;refine (HG.o _ ((KA.o.quiet kd).quiet (za.alloc [] _ (.cells #[int i64 0,int i64 0,.bool false] 30)))).mono ?_;rintro e w5 ⟨rfl,k5⟩;have hA5:w5.heap[w1.heap.size]? = some (.cells #[int i64 0,int i64 0,.bool false] 30 (0,0)):=ze (zd w1.drew (.cells #[int i64 0,int i64 0,.bool false] 30)) k5;have v0:=zc hA5 0;have v1:=zc hA5 1;have v2:=zc hA5 2;have y0:=zg hA5 0;have y1:=zg hA5 1;have y2:=zg hA5 2;have hB5:w1.heap.size≤w1.heap.size:=Nat.le_refl _;have kk5:=(kd.quiet (za.alloc [] _ (.cells #[int i64 0,int i64 0,.bool false] 30))).quiet k5;obtain ⟨f50,f51,f52⟩:=HS.o _ kk5;clear k5)
  | (go_at_call 142;refine (HG.o _ (KA.o.quiet kd)).mono ?_;rintro e w5 ⟨rfl,k5⟩;have kk5:=kd.quiet k5;obtain ⟨f50,f51,f52⟩:=HS.o _ kk5;clear k5)
  | (go_at_call 151;revert hA5;intro hA5;refine (HO.o _).mono ?_;rintro e w6 ⟨rfl,k6⟩;have hA6:=ze hA5 k6;have v0:=zc hA6 0;have v1:=zc hA6 1;have v2:=zc hA6 2;have y0:=zg hA6 0;have y1:=zg hA6 1;have y2:=zg hA6 2;have hB6:=hB5;have kk6:=kk5.quiet k6;obtain ⟨f60,f61,f62⟩:=HS.o _ kk6;clear k6)
  | (go_at_call 151;refine (HO.o (w5.alloc (.cells #[int i64 0,int i64 0,.bool false] 30))).mono ?_;rintro e w6 ⟨rfl,k6⟩;have hA6:=ze (zd w5 (.cells #[int i64 0,int i64 0,.bool false] 30)) k6;have v0:=zc hA6 0;have v1:=zc hA6 1;have v2:=zc hA6 2;have y0:=zg hA6 0;have y1:=zg hA6 1;have y2:=zg hA6 2;have hB6:w1.heap.size≤w5.heap.size:=kk5.size;have kk6:=(kk5.quiet (za.alloc [] w5 (.cells #[int i64 0,int i64 0,.bool false] 30))).quiet k6;obtain ⟨f60,f61,f62⟩:=HS.o _ kk6;clear k6)
  | (go_at_call 151;refine (HO.o w5).mono ?_;rintro e w6 ⟨rfl,k6⟩;have kk6:=kk5.quiet k6;obtain ⟨f60,f61,f62⟩:=HS.o _ kk6;clear k6)
  | (go_at_call 223;revert hA6;intro hA6;refine (HV.o _ (KA.o.quiet kk6)).mono ?_;rintro e w7 ⟨rfl,k7⟩;have hA7:=ze hA6 k7;have v0:=zc hA7 0;have v1:=zc hA7 1;have v2:=zc hA7 2;have y0:=zg hA7 0;have y1:=zg hA7 1;have y2:=zg hA7 2;have hB7:=hB6;have kk7:=kk6.quiet k7;obtain ⟨f70,f71,f72⟩:=HS.o _ kk7;have TT:=zaL hA7 hB7 kk7 gk gn gt;have T7:=hid TT.1;have KT:=hid TT.2;obtain ⟨s70,s71,s72⟩:=HS.o _ KT.o;clear TT;clear k7)
  | (go_at_call 223;refine (HV.o (w6.alloc (.cells #[int i64 0,int i64 0,.bool false] 30)) ((KA.o.quiet kk6).quiet (za.alloc [] _ _))).mono ?_;rintro e w7 ⟨rfl,k7⟩;have hA7:=ze (zd w6 (.cells #[int i64 0,int i64 0,.bool false] 30)) k7;have v0:=zc hA7 0;have v1:=zc hA7 1;have v2:=zc hA7 2;have y0:=zg hA7 0;have y1:=zg hA7 1;have y2:=zg hA7 2;have hB7:w1.heap.size≤w6.heap.size:=kk6.size;have kk7:=(kk6.quiet (za.alloc [] w6 (.cells #[int i64 0,int i64 0,.bool false] 30))).quiet k7;obtain ⟨f70,f71,f72⟩:=HS.o _ kk7;have TT:=zaL hA7 hB7 kk7 gk gn gt;have T7:=hid TT.1;have KT:=hid TT.2;obtain ⟨s70,s71,s72⟩:=HS.o _ KT.o;clear TT;clear k7)
  | (go_at_call 223;refine (HV.o w6 (KA.o.quiet kk6)).mono ?_;rintro e w7 ⟨rfl,k7⟩;have kk7:=kk6.quiet k7;obtain ⟨f70,f71,f72⟩:=HS.o _ kk7;have hA8:=zd w7 (.cells #[int i64 0,int i64 0,.bool false] 30);have v0:=zc hA8 0;have v1:=zc hA8 1;have v2:=zc hA8 2;have y0:=zg hA8 0;have y1:=zg hA8 1;have y2:=zg hA8 2;have kk8:=kk7.quiet (za.alloc [] w7 (.cells #[int i64 0,int i64 0,.bool false] 30));obtain ⟨f80,f81,f82⟩:=HS.o _ kk8;have T7:=hid (zd w7 (.cells #[int i64 gk,int i64 gn,.bool gt] 30));have KT:=hid (kk7.quiet (za.alloc [] w7 (.cells #[int i64 gk,int i64 gn,.bool gt] 30)));obtain ⟨s70,s71,s72⟩:=HS.o _ KT.o;clear k7))
 all_goals
  have t0:=zc T7.o 0;have t1:=zc T7.o 1;have t2:=zc T7.o 2;have q1:=zc (ze HN.o KT.o) 1;have HM:=hid (HH.o.quiet (KA.o.quiet KT.o));have K8:=hid (KA.o.quiet KT.o);by_cases hs:sl=0
  ·have HZ:=hid hs
   have qs:(sl == 0)=true:=eqb hs;clear hs;go_wp2_with fail;refine (qf HM.o (gk,gn,gt) OK.o.d0 OK.o.d1).mono ?_;rintro e w9 ⟨rfl,m9,k9⟩;have M9:=hid m9;have K9:=hid ((K8.o.mono (L':=F) (fun _ hx=>by cases hx)).step (k9.mono fun y hy=>by rw[List.mem_singleton.1 hy];exact HM.o.fg_in));clear m9 k9;go_wp2_with fail;go_ret;refine ⟨by rw[E.o,if_pos HZ.o,HZ.o];rfl,F,rv,oa,oc,os,Fh,?_,K9.o,jx.refl _ _⟩;rw[E.o,if_pos HZ.o];exact M9.o
  ·have HZ:=hid hs
   have qs:(sl == 0)=false:=neb hs;clear hs;go_wp2_with fail;go_ret;refine ⟨by rw[E.o,if_neg HZ.o];rfl,F,rv,oa,oc,os,Fh,?_,K8.o.mono (fun _ hx=>by cases hx),jx.refl _ _⟩;rw[E.o,if_neg HZ.o];exact HM.o
end
def JV(R:Nat)(x:In8):Bool:=(!zK x || inB x.dst R) && J1 (zW x) R
theorem ZU(x:In8):(zW x).length≤x.args.length+2:=by
 unfold zW
 repeat' split
 all_goals (try simp)
 all_goals omega
theorem Qh(x:In8):(zK x=true∧ZW x=.tuple #[int i64 x.dst,.bool true])∨(zK x=false∧ZW x=.tuple #[int i64 0,.bool false]):=by
 cases h:zK x with
 | true=>exact .inl ⟨rfl,zN h⟩
 | false=>exact .inr ⟨rfl,zdI h⟩
theorem zch{fb fo:Nat}{f:Fu8}(h:FuC w fb fo f)(x:In8){a:Option Addr}{cp:Nat}(hz:zw w a x.args)(hl:x.args.length≤1000):Calls Tryz.prog 237 #[pointer (some ⟨fb,fo,none⟩),zt x (.slice a x.args.length cp)] w fun e w'=>e=.returned (.bool (JV f.regs.length x))∧za [] w w':=by
 obtain ⟨ra,rp,c1,_⟩:=h.c1;have ka:=za.alloc [] w (.cells #[int i64 x.op,int i64 x.dst,int i64 x.a,int i64 x.b,int i64 x.n,.slice a x.args.length cp] 54);have hn:=zd w (.cells #[int i64 x.op,int i64 x.dst,int i64 x.a,int i64 x.b,int i64 x.n,.slice a x.args.length cp] 54);have HD:=hid fun (w':World)=>QG x (.slice a x.args.length cp) w';have C1:Box (∀ w',za [] w w'→w'.cell? ⟨fb,fo+1,none⟩=some (.slice ra f.regs.length rp)):=hid fun w' k=>zb k c1;have HU:=hid fun (w':World) (k:za [] w w')=>Q2 x a cp w' (hz.kept k (fun _ _ _=>by simp)) (by omega);have hul:=ZU x;have HA:=hid fun (w':World) (a1:Option Addr) (p1:Nat) (h1:zw w' a1 (zW x))=>jV (cp:=p1) h1 (by unfold maxLen;omega) f.regs.length;have HWI:=hid fun (w':World)=>zo x.dst f.regs.length w';have IN:Box (∀ w',za [] (w.alloc (.cells #[int i64 x.op,int i64 x.dst,int i64 x.a,int i64 x.b,int i64 x.n,.slice a x.args.length cp] 54)) w'→InW w' w.heap.size x (.slice a x.args.length cp)):=hid fun w' k=>by
  have:=ze hn k;exact ⟨zc this 0,zc this 1,zc this 2,zc this 3,zc this 4,zc this 5⟩
 have KA:=hid ka;have HE:Box (JV f.regs.length x=((!zK x || inB x.dst f.regs.length) && J1 (zW x) f.regs.length)):=hid rfl;have i0:=IN.o _ (za.refl _ _);obtain ⟨d0,d1,d2,d3,d4,d5⟩:=i0;clear h c1 ka hn hz hl hul;unfold zt at *;generalize JV f.regs.length x=res at *;generalize J1 (zW x) f.regs.length=r2 at *;generalize hN:f.regs.length=N at *;generalize hul:zW x=ul at *;clear hN hul;generalize hWA:w.alloc (.cells #[int i64 x.op,int i64 x.dst,int i64 x.a,int i64 x.b,int i64 x.n,.slice a x.args.length cp] 54)=WA at *;have HWA:=hid hWA;clear hWA;rcases Qh x with ⟨hd,hv⟩ | ⟨hd,hv⟩
 ·rw[hv] at HD
  cases hin:inB x.dst N with
  | false=>
   rw[hin] at HWI;have HR:Box (res=false):=hid (by rw[HE.o,hd,hin];rfl);clear HE hd hv hin;go_enter Tryz.func237,Tryz.ntmps237;go_upto_region 1 with fail;rw[HWA.o];clear HWA;generalize w.heap.size=q at *;go_wp2_with fail;refine (HD.o _).mono ?_;rintro e w1 ⟨rfl,k1⟩;have K1:=hid (KA.o.quiet k1);have c1:=C1.o _ K1.o;go_wp2_with fail;refine (HWI.o _).mono ?_;rintro e w2 ⟨rfl,hw2⟩;rw[hw2];clear hw2;go_wp2_with fail;go_ret;exact ⟨by rw[HR.o];rfl,K1.o⟩
  | true=>
   rw[hin] at HWI;have HR:Box (res=r2):=hid (by rw[HE.o,hd,hin];rfl);clear HE hd hv hin;go_enter Tryz.func237,Tryz.ntmps237;go_upto_region 1 with fail;rw[HWA.o];clear HWA;generalize w.heap.size=q at *;go_wp2_with fail;refine (HD.o _).mono ?_;rintro e w1 ⟨rfl,k1⟩;have K1:=hid (KA.o.quiet k1);have c1:=C1.o _ K1.o;go_wp2_with fail;refine (HWI.o _).mono ?_;rintro e w2 ⟨rfl,hw2⟩;rw[hw2];clear hw2;obtain ⟨b0,b1,b2,b3,b4,b5⟩:=IN.o _ k1;have KW:=hid k1;clear d0 d1 d2 d3 d4 d5 k1;go_upto_region 4 with fail
   go_region_held3 (fun w'=>w'.cell? ⟨fb,fo+1,none⟩=some (.slice ra N rp)∧w'.cell? ⟨q,0,none⟩=some (int i64 x.op)∧w'.cell? ⟨q,1,none⟩=some (int i64 x.dst)∧w'.cell? ⟨q,2,none⟩=some (int i64 x.a)∧w'.cell? ⟨q,3,none⟩=some (int i64 x.b)∧w'.cell? ⟨q,4,none⟩=some (int i64 x.n)∧w'.cell? ⟨q,5,none⟩=some (.slice a x.args.length cp)) (go_keep) (first
    | (go_at_call 213;refine (HU.o _ (K1.o.quiet (za.drew [] _))).mono ?_;rintro e w5 ⟨a1,p1,rfl,h1,k5⟩;have K5:=(K1.o.quiet (za.drew [] _)).quiet k5;have H1:=hid h1;have c5:=C1.o _ K5;have KW5:=(KW.o.quiet (za.drew [] _)).quiet k5;obtain ⟨f50,f51,f52,f53,f54,f55⟩:=IN.o _ KW5;clear h1 k5)
    | (go_at_call 191;refine (HA.o _ _ _ H1.o).mono ?_;rintro e w6 ⟨rfl,hw6⟩;have K6:za [] w w6:=(by rw[hw6];exact K5);have c6:=C1.o _ K6;have KW6:za [] WA w6:=(by rw[hw6];exact KW5);obtain ⟨f60,f61,f62,f63,f64,f65⟩:=IN.o _ KW6;clear hw6))
   go_wp2_with fail;go_ret;exact ⟨by rw[HR.o];rfl,K6⟩
 ·rw[hv] at HD
  have HR:Box (res=r2):=hid (by rw[HE.o,hd];rfl);clear HE hd hv HWI;go_enter Tryz.func237,Tryz.ntmps237;go_upto_region 1 with fail;rw[HWA.o];clear HWA;generalize w.heap.size=q at *;go_wp2_with fail;refine (HD.o _).mono ?_;rintro e w1 ⟨rfl,k1⟩;have K1:=hid (KA.o.quiet k1);have c1:=C1.o _ K1.o;obtain ⟨b0,b1,b2,b3,b4,b5⟩:=IN.o _ k1;have KW:=hid k1;clear d0 d1 d2 d3 d4 d5 k1;go_upto_region 4 with fail
  go_region_held3 (fun w'=>w'.cell? ⟨fb,fo+1,none⟩=some (.slice ra N rp)∧w'.cell? ⟨q,0,none⟩=some (int i64 x.op)∧w'.cell? ⟨q,1,none⟩=some (int i64 x.dst)∧w'.cell? ⟨q,2,none⟩=some (int i64 x.a)∧w'.cell? ⟨q,3,none⟩=some (int i64 x.b)∧w'.cell? ⟨q,4,none⟩=some (int i64 x.n)∧w'.cell? ⟨q,5,none⟩=some (.slice a x.args.length cp)) (go_keep) (first
   | (go_at_call 213;refine (HU.o _ (K1.o.quiet (za.drew [] _))).mono ?_;rintro e w5 ⟨a1,p1,rfl,h1,k5⟩;have K5:=(K1.o.quiet (za.drew [] _)).quiet k5;have H1:=hid h1;have c5:=C1.o _ K5;have KW5:=(KW.o.quiet (za.drew [] _)).quiet k5;obtain ⟨f50,f51,f52,f53,f54,f55⟩:=IN.o _ KW5;clear h1 k5)
   | (go_at_call 191;refine (HA.o _ _ _ H1.o).mono ?_;rintro e w6 ⟨rfl,hw6⟩;have K6:za [] w w6:=(by rw[hw6];exact K5);have c6:=C1.o _ K6;have KW6:za [] WA w6:=(by rw[hw6];exact KW5);obtain ⟨f60,f61,f62,f63,f64,f65⟩:=IN.o _ KW6;clear hw6))
  go_wp2_with fail;go_ret;exact ⟨by rw[HR.o];rfl,K6⟩
end Go.Proofs.YthflgjkmbakedaaGreatDoor
