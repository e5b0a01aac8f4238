import Derived.OwnWalk
import Derived.Deep.QuietTactic
import Derived.BigQuiet
import Derived.Maps.AppendAt
import Derived.Lib.Builder
import Derived.Deep.OwnRows
import Derived.Deep.DeepCutAuto
import Derived.Deep.RegionHeld3
import Derived.Maps.OwnSet
import Derived.ChangeKeysEq
import Derived.Deep.AppendLies
import Derived.Lib.UnsafeStr
import Derived.Laws.BitsAllLaws
import Derived.Test.YtkgoimokgbdgfaaGreatDoorV01
import Derived.Test.YtkgoimokgbdgfaaGreatDoorV02

namespace Go.Proofs.YtkgoimokgbdgfaaGreatDoor
open Go.RowKit
open Go.Value (int pointer agg)
open Go.IntKind (i64)
set_option maxHeartbeats 1000000
variable {B M b k n p u:Nat}{L:List Nat}{R S l:List UInt8}{T:TypeId}{a:Option Addr}{ks:List (Int × Int)}{v:Value}{w w' w0:World}
def zcM(x:Bl8):List Int:=if x.fin=1 then [x.to] else if x.fin=2 then (if x.els=x.to then [x.to] else [x.to,x.els]) else []
def zcu(w:World)(B:Nat)(a:Option Addr)(zs:List Int):Prop:=
 zs=[]∨∃ b off,a=some ⟨b,off,none⟩∧b<B∧∀ i,i<zs.length→w.cell? ⟨b,off+i,none⟩=some (int i64 (zs.getD i 0))
def zg5(w:World)(B:Nat)(a:Option Addr)(xs:List (List Int)):Prop:=
 xs=[]∨∃ b off,a=some ⟨b,off,none⟩∧b<B∧∀ j,j<xs.length→∃ ai ci,w.cell? ⟨b,off+j,none⟩=some (.slice ai (xs.getD j []).length ci)∧zcu w B ai (xs.getD j [])
theorem zcu.kept{zs:List Int}(h:zcu w B a zs)(k:zc L w w')(hL:∀ x,x∈L→B≤x):zcu w' B a zs:=by
 rcases h with h | ⟨b,off,rfl,hb,h⟩
 ·exact Or.inl h
 ·refine Or.inr ⟨b,off,rfl,hb,fun i hi=> ?_⟩
  have hc:=h i hi;rw[k.cell (p:=⟨b,off+i,none⟩) (block_lt_of_cell hc) (fun hx=>Nat.not_lt.2 (hL b hx) hb)];exact hc
theorem zg5.kept{xs:List (List Int)}(h:zg5 w B a xs)(k:zc L w w')(hL:∀ x,x∈L→B≤x):zg5 w' B a xs:=by
 rcases h with h | ⟨b,off,rfl,hb,h⟩
 ·exact Or.inl h
 ·refine Or.inr ⟨b,off,rfl,hb,fun j hj=> ?_⟩
  obtain ⟨ai,ci,hc,hi⟩:=h j hj;refine ⟨ai,ci,?_,hi.kept k hL⟩;rw[k.cell (p:=⟨b,off+j,none⟩) (block_lt_of_cell hc) (fun hx=>Nat.not_lt.2 (hL b hx) hb)];exact hc
theorem zg5.quiet{xs:List (List Int)}(h:zg5 w B a xs)(k:zc [] w w'):zg5 w' B a xs:=h.kept k (by simp)
theorem zft(N n:Int)(a:Option Addr)(len cap:Nat)(w:World)(h0:0≤n)(h1:n<N):
  Calls Tryz.prog 107 #[agg #[int i64 N,.slice a len cap],int i64 n] w fun e w'=>e=.returned (.bool true)∧zc [] w w':=by
 go_enter Tryz.func107,Tryz.ntmps107;go_wp2;go_ret;exact ⟨rfl,zc.alloc _ _ _⟩
theorem zi4(N n:Int)(a:Option Addr)(len cap:Nat)(w:World)(h:¬ (0≤n∧n<N)):
  Calls Tryz.prog 107 #[agg #[int i64 N,.slice a len cap],int i64 n] w fun e w'=>e=.returned (.bool false)∧zc [] w w':=by
 by_cases h0:0≤n
 ·have h1:¬ n<N:=fun h1=>h ⟨h0,h1⟩
  clear h;go_enter Tryz.func107,Tryz.ntmps107;go_wp2;go_ret;exact ⟨rfl,zc.alloc _ _ _⟩
 ·clear h
  go_enter Tryz.func107,Tryz.ntmps107;go_wp2;go_ret;exact ⟨rfl,zc.alloc _ _ _⟩
structure zpj (N:Int) (xs:List (List Int)):Prop where
 low:0≤N
 high:N≤600
 len:(xs.length:Int)=N
 all:∀ j,j<xs.length→∀ i,i<(xs.getD j []).length→0≤(xs.getD j []).getD i 0∧(xs.getD j []).getD i 0<N
theorem zja(w:World)(x y:Value)(t:TypeId):(w.alloc (Obj.cells #[x,y] t)).cell? ⟨w.heap.size,0,none⟩=some x∧(w.alloc (Obj.cells #[x,y] t)).cell? ⟨w.heap.size,1,none⟩=some y:=
 ⟨by rw[cell_of_row _ _ 0 _ _ _ (heap_alloc_new w _)];rfl,by rw[cell_of_row _ _ 1 _ _ _ (heap_alloc_new w _)];rfl⟩
structure zao (w:World) (b:Nat) (N:Int) (a:Option Addr) (n cap:Nat):Prop where
 c0:w.cell? ⟨b,0,none⟩=some (int i64 N)
 c1:w.cell? ⟨b,1,none⟩=some (.slice a n cap)
theorem zao.lt{N:Int}{cap:Nat}(h:zao w b N a n cap):b<w.heap.size:=block_lt_of_cell h.c0
theorem zao.kept{N:Int}{cap:Nat}(h:zao w b N a n cap)(k:zc L w w')(hb:b ∉ L):zao w' b N a n cap:=
 ⟨by rw[k.cell (p:=⟨b,0,none⟩) h.lt hb];exact h.c0,by rw[k.cell (p:=⟨b,1,none⟩) h.lt hb];exact h.c1⟩
theorem zao.new(w:World)(N:Int)(a:Option Addr)(n cap:Nat):zao (w.alloc (Obj.cells #[int i64 N,.slice a n cap] 107)) w.heap.size N a n cap:=
 ⟨(zja w _ _ _).1,(zja w _ _ _).2⟩
theorem zg5.at{xs:List (List Int)}(h:zg5 w B a xs)(hk:k<xs.length):∃ b off ai ci,a=some ⟨b,off,none⟩∧w.cell? ⟨b,off+k,none⟩=some (.slice ai (xs.getD k []).length ci)∧zcu w B ai (xs.getD k []):=by
 rcases h with h | ⟨b,off,h1,_,h3⟩
 ·rw[h] at hk;simp at hk
 ·obtain ⟨ai,ci,h4,h5⟩:=h3 k hk
  exact ⟨b,off,ai,ci,h1,h4,h5⟩
theorem zcu.at{zs:List Int}(h:zcu w B a zs)(hk:k<zs.length):∃ b off,a=some ⟨b,off,none⟩∧w.cell? ⟨b,off+k,none⟩=some (int i64 (zs.getD k 0)):=by
 rcases h with h | ⟨b,off,h1,_,h3⟩
 ·rw[h] at hk;simp at hk
 ·exact ⟨b,off,h1,h3 k hk⟩
theorem zkN(N:Int)(a:Option Addr)(n cap B:Nat)(xs:List (List Int))(w:World)(hL:zg5 w B a xs)(hnn:xs.length=n)(h0:0≤N)(h1:N≤600)(h2:(n:Int)=N)(hi:∀ j,(xs.getD j []).length≤1000000):
  Calls Tryz.prog 57 #[agg #[int i64 N,.slice a n cap]] w fun e w'=>(e=.returned (.bool true)∧zpj N xs∨e=.returned (.bool false)∧¬ zpj N xs)∧zc [] w w':=by
 have hn:¬ N<0:=by omega
 have hg:¬ 600<N:=by omega
 have hb:(((n:Nat):Int) != N)=false:=by simp[h2]
 have hl6:n≤600:=by omega
 have HN:=hid hnn;have H2:=hid h2;have HI:=hid hi;have hk1:zc [] w (w.alloc (Obj.cells #[int i64 N,.slice a n cap] 107)):=zc.alloc _ _ _;have HB1:=hid (zao.new w N a n cap);have HL1:=hid (hL.quiet hk1);clear hL hi h2 hnn;go_enter Tryz.func57,Tryz.ntmps57;go_wp2;generalize w.alloc (Obj.cells #[int i64 N,.slice a n cap] 107)=w1 at hk1 HB1 HL1 ⊢;generalize w.heap.size=b at HB1 ⊢
 go_loopw [26] (fun i wr=>∃ k:Nat,k≤n∧i=int i64 k∧zc [] w1 wr∧Box (∀ j,j<k→∀ i,i<(xs.getD j []).length→0≤(xs.getD j []).getD i 0∧(xs.getD j []).getD i 0<N)) (fun i _=>n - (intOf i).toNat)
 case atStart=>exact ⟨0,by omega,rfl,zc.refl _ _,hid (fun j hj=>by omega)⟩
 case round=>
  obtain ⟨k,hk,rfl,hkw,HA⟩:=hrel;by_cases hlt:k<n
  ·obtain ⟨bl,off,ai,ci,rfl,hc,hin⟩:=(HL1.o.quiet hkw).at (k:=k) (by rw[HN.o];exact hlt)
   have HI1:=hid hin;have hlen:=HI.o k;obtain ⟨l,hl⟩:∃ l,xs.getD k []=l:=⟨_,rfl⟩;rw[hl] at hc HI1 hlen;have HX:=hid hl;clear hin hl;go_wp2
   go_loopw [32] (fun i wr2=>∃ m:Nat,m≤l.length∧i=int i64 m∧zc [] wr wr2∧Box (∀ i,i<m→0≤l.getD i 0∧l.getD i 0<N)) (fun i _=>l.length - (intOf i).toNat)
   case atStart=>exact ⟨0,by omega,rfl,zc.refl _ _,hid (fun j hj=>by omega)⟩
   case round=>
    clear hc;obtain ⟨m,hm,rfl,hkw2,HA2⟩:=hrel;have hlt':(k:Int)<(n:Int):=by omega
    by_cases hml:m<l.length
    ·obtain ⟨bm,om,rfl,hcm⟩:=(HI1.o.kept hkw2 (by simp)).at hml
     have hbx:=HB1.o.kept (hkw.quiet hkw2) (by simp);have hc0:=hbx.c0;have hc1:=hbx.c1;clear hbx;obtain ⟨x,hx⟩:∃ x,l.getD m 0=x:=⟨_,rfl⟩;rw[hx] at hcm;have HXX:=hid hx;clear hx;by_cases hok:0≤x∧x<N
     ·have HC:Box (∀ w,Calls Tryz.prog 107 #[agg #[int i64 N,.slice (some ⟨bl,off,none⟩) n cap],int i64 x] w fun e w'=>e=.returned (.bool true)∧zc [] w w'):=hid (fun w=>zft N x _ n cap w hok.1 hok.2)
      go_wp2_with (go_at_call 107;refine (HC.o _).mono ?_;rintro e w3 ⟨rfl,hk3⟩);go_roundw
      case rel=>exact ⟨m+1,by omega,by go_num,hkw2.quiet hk3,hid (fun i hi=>by
       by_cases e:i=m
       ·subst e;rw[HXX.o];exact hok
       ·exact HA2.o i (by omega))⟩
      case measure=>simp[intOf];omega
     ·have HC:Box (∀ w,Calls Tryz.prog 107 #[agg #[int i64 N,.slice (some ⟨bl,off,none⟩) n cap],int i64 x] w fun e w'=>e=.returned (.bool false)∧zc [] w w'):=hid (fun w=>zi4 N x _ n cap w hok)
      have HOK:=hid hok;clear hok;go_wp2_with (go_at_call 107;refine (HC.o _).mono ?_;rintro e w3 ⟨rfl,hk3⟩);go_ret;refine ⟨.inr ⟨rfl,fun hmay=>HOK.o ?_⟩,((hk1.quiet hkw).quiet hkw2).quiet hk3⟩;have:=hmay.all k (by rw[HN.o];exact hlt) m (by rw[HX.o];exact hml);rw[HX.o,HXX.o] at this;exact this
    ·obtain rfl:m=l.length:=by omega
     go_wp2;go_roundw
     case rel=>exact ⟨k+1,by omega,by go_num,hkw.quiet hkw2,hid (fun j hj=>by
      by_cases e:j=k
      ·subst e;rw[HX.o];exact HA2.o
      ·exact HA.o j (by omega))⟩
     case measure=>simp[intOf];omega
  ·obtain rfl:k=n:=by omega
   go_wp2;go_ret;exact ⟨.inl ⟨rfl,h0,h1,by rw[HN.o];exact H2.o,by rw[HN.o];exact HA.o⟩,hk1.quiet hkw⟩
def kkV(q:Int × Int):Value:=agg #[int i64 q.1,int i64 q.2]
theorem zpP(w:World)(d:Nat)(x y:Int):(Op.equalIn (d+1) 3 (int i64 x) (int i64 y)).run Tryz.prog w=.ok (x == y) w:=by
 simp[Op.equalIn,run_underlying Tryz.underlying3]
theorem znO(w:World)(x y:Int):(part 3 #[int i64 x,int i64 y] 0).run Tryz.prog w=.ok (int i64 x) w:=by kernel_rfl
theorem zo8(w:World)(x y:Int):(part 3 #[int i64 x,int i64 y] 1).run Tryz.prog w=.ok (int i64 y) w:=by kernel_rfl
theorem zpU:Tryz.prog.cellsOf 3=1:=by kernel_rfl
theorem zh0(q r:Int × Int)(w:World):(Op.equal 120 (kkV q) (kkV r)).run Tryz.prog w=.ok (decide (q=r)) w:=by
 have h:∀ d:Nat,(Op.equalIn (d+2) 120 (kkV q) (kkV r)).run Tryz.prog w=.ok (decide (q=r)) w:=fun d=>by
  unfold kkV;rw[run_equalIn_array w (d+1) _ _ Tryz.underlying120 (show Tryz.prog.info? 3=some Tryz.t3 by kernel_rfl),zpU];have er:List.range 2=[0,1]:=rfl;rw[er];simp only[Op.eqItems,Sem.run_bind,Nat.zero_mul,Nat.one_mul,znO,zpP,Result.andThen_ok];obtain ⟨a,b⟩:=q;obtain ⟨c,e⟩:=r;by_cases h1:a=c <;> by_cases h2:b=e <;> simp[h1,h2,zo8,zpP,Result.andThen]
 exact h 9998
theorem Jl(q:Int × Int)(w:World):∀ (es:List MapEntry) (ks:List (Int × Int)) (i:Nat),es.map (·.key)=ks.map kkV→
  (q∈ks→∃ j u,i≤j∧j<i+es.length∧es[j - i]?.map (·.key)=some (kkV q)∧(Instr.findAsking 120 (kkV q) es i).run Tryz.prog w=.ok (some (j,u)) w)∧(q ∉ ks→(Instr.findAsking 120 (kkV q) es i).run Tryz.prog w=.ok none w)
 | [],[],i,_=>⟨(fun h=>by cases h),fun _=>by simp[Instr.findAsking]⟩
 | [],k :: ks,i,h=>by simp at h
 | e :: es,[],i,h=>by simp at h
 | e :: es,k :: ks,i,h=>by
  simp only[List.map_cons,List.cons.injEq] at h;by_cases hq:q=k
  ·subst hq
   exact ⟨fun _=>⟨i,e.val,Nat.le_refl _,by simp,by simp[h.1],by simp[Instr.findAsking,h.1,zh0]⟩,fun hn=>absurd (List.mem_cons_self ..) hn⟩
  ·obtain ⟨ih1,ih2⟩:=Jl q w es ks (i+1) h.2
   refine ⟨fun hm=> ?_,fun hn=> ?_⟩
   ·rcases List.mem_cons.1 hm with rfl | hm
    ·exact absurd rfl hq
    ·obtain ⟨j,u,h1,h2,h3,h4⟩:=ih1 hm
     refine ⟨j,u,by omega,by simp;omega,?_,by simp[Instr.findAsking,h.1,zh0,hq,h4]⟩;rw[show j - i=(j - (i+1))+1 by omega,List.getElem?_cons_succ];exact h3
   ·have:=ih2 (fun hm=>hn (List.mem_cons_of_mem _ hm))
    simp[Instr.findAsking,h.1,zh0,hq,this]
theorem znn(q:Int × Int)(w:World)(es:List MapEntry)(ks:List (Int × Int))(h:es.map (·.key)=ks.map kkV):
  (q∈ks→∃ j u,j<es.length∧es[j]?.map (·.key)=some (kkV q)∧(Instr.findKey 120 (kkV q) es).run Tryz.prog w=.ok (some (j,u)) w)∧(q ∉ ks→(Instr.findKey 120 (kkV q) es).run Tryz.prog w=.ok none w):=by
 obtain ⟨h1,h2⟩:=Jl q w es ks 0 h;rcases es with _ | ⟨e,es⟩
 ·rcases ks with _ | ⟨k,ks⟩
  ·exact ⟨(fun h=>by cases h),fun _=>by simp[Instr.findKey,run_underlying Tryz.underlying120,Instr.findNow]⟩
  ·simp at h
 ·rcases ks with _ | ⟨k,ks⟩
  ·simp at h
  ·simp only[List.map_cons,List.cons.injEq] at h
   have e1:∀ n t,Instr.findNow (TypeDesc.array n t) (kkV q) (e :: es) 0=none:=fun n t=>by
    simp[Instr.findNow,Instr.sameNow]
   have e2:(Instr.findKey 120 (kkV q) (e :: es)).run Tryz.prog w=(Instr.findAsking 120 (kkV q) (e :: es) 0).run Tryz.prog w:=by
    rw[Instr.findKey];simp only[Sem.run_bind,run_underlying Tryz.underlying120,Result.andThen_ok,e1]
   rw[e2];refine ⟨fun hm=> ?_,h2⟩;obtain ⟨j,u,a1,a2,a3,a4⟩:=h1 hm;exact ⟨j,u,by omega,a3,a4⟩
theorem zj4(b:Bool)(q:Int × Int)(w:World):(Instr.checkKey b 10000 120 (kkV q)).run Tryz.prog w=.ok () w:=by
 have hi:∀ (d:Nat) (x:Int),(Instr.checkKey b (d+1) 3 (int i64 x)).run Tryz.prog w=.ok () w:=fun d x=>by
  simp[Instr.checkKey,run_underlying Tryz.underlying3]
 have hs:(Go.sizeOf 3).run Tryz.prog w=.ok 1 w:=by kernel_rfl
 have h:∀ d:Nat,(Instr.checkKey b (d+2) 120 (kkV q)).run Tryz.prog w=.ok () w:=fun d=>by
  unfold kkV;rw[Instr.checkKey];simp only[Sem.run_bind,run_underlying Tryz.underlying120,Result.andThen_ok];simp[Std.Legacy.Range.forIn_eq_forIn_range',Std.Legacy.Range.size,List.range',hs,znO,zo8,hi,Result.andThen]
 exact h 9998
theorem zmW(q:Int × Int):Instr.sameBits 10000 (kkV q) (kkV q)=true:=by
 have:∀ n,Instr.sameBits (n+2) (kkV q) (kkV q)=true:=fun n=>by simp[Instr.sameBits,kkV]
 exact this 9998
structure Qz (w:World) (M:Nat) (ks:List (Int × Int)):Prop where
 heap:∃ es clock,w.heap[M]? = some (.map es clock)∧es.toList.map (·.key)=ks.map kkV
 nodup:ks.Nodup
theorem Qz.lt(h:Qz w M ks):M<w.heap.size:=by
 obtain ⟨es,clock,hm,_⟩:=h.heap;exact (Array.getElem?_eq_some_iff.1 hm).1
theorem Qz.put(h:Qz w M ks)(q:Int × Int):
  ∃ w',(Instr.mapUpdate 119 (.map (some M)) (kkV q) (agg #[])).run Tryz.prog w=.ok () w'∧Qz w' M (if q∈ks then ks else ks ++ [q])∧zc [M] w w':=by
 obtain ⟨es,clock,hM,hk⟩:=h.heap;obtain ⟨f1,f2⟩:=znn q w es.toList ks hk;have hck:=zj4 false q w;have hkeep:∀ o,zc [M] w (ChangeMaps.setBlock w M o):=fun o=>
  ⟨rfl,rfl,rfl,by simp[ChangeMaps.setBlock],fun i _ hi=>ChangeMaps.heap_setBlock_other hM _ (fun e=>hi (by simp[e]))⟩
 by_cases hq:q∈ks
 ·obtain ⟨j,u,hj,hkj,hf⟩:=f1 hq
  rw[if_pos hq];have hj':j<es.size:=by simpa using hj
  obtain ⟨e,he⟩:∃ e,es[j]? = some e:=⟨_,Array.getElem?_eq_getElem hj'⟩;have hke:e.key=kkV q:=by
   have:=hkj;rw[Array.getElem?_toList,he] at this;simpa using this
  have hst:(Instr.keyThatStays (kkV q) (kkV q)).run Tryz.prog w=.ok (kkV q) w:=by
   have:Instr.sameBits 10000 (kkV q) (kkV q)=true:=zmW q;simp[Instr.keyThatStays,this]
  have hrun:∃ es',(Instr.mapUpdate 119 (.map (some M)) (kkV q) (agg #[])).run Tryz.prog w=.ok () (ChangeMaps.setBlock w M (.map es' clock))∧es'.toList.map (·.key)=es.toList.map (·.key):=by
   refine ⟨es.modify j (fun e=>{ e with key:=kkV q,val:=agg #[] }),?_,?_⟩
   ·simp[Instr.mapUpdate,run_underlying Tryz.underlying119,MapKept.run_getObj_map hM,hck,hf,he,hke,hst,MapKept.run_setObj_map _ hM,Result.andThen,ChangeMaps.setBlock]
   ·apply List.ext_getElem?
    intro i;simp only[List.getElem?_map,Array.getElem?_toList,Array.getElem?_modify];by_cases hi:j=i
    ·subst hi
     rw[if_pos rfl,he];simp[hke]
    ·rw[if_neg hi]
  obtain ⟨es',hr,hes⟩:=hrun;exact ⟨_,hr,⟨⟨_,_,ChangeMaps.heap_setBlock_same hM _,hes.trans hk⟩,h.nodup⟩,hkeep _⟩
 ·have hf:=f2 hq
  rw[if_neg hq];have hrun:(Instr.mapUpdate 119 (.map (some M)) (kkV q) (agg #[])).run Tryz.prog w=.ok () (ChangeMaps.setBlock w M (.map (es.push ⟨kkV q,agg #[],clock⟩) (clock+1))):=by
   simp[Instr.mapUpdate,run_underlying Tryz.underlying119,MapKept.run_getObj_map hM,hck,hf,MapKept.run_setObj_map _ hM,Result.andThen,ChangeMaps.setBlock]
  refine ⟨_,hrun,⟨⟨_,_,ChangeMaps.heap_setBlock_same hM _,by simp[hk]⟩,?_⟩,hkeep _⟩;rw[List.nodup_append];exact ⟨h.nodup,by simp,fun a ha b hb=>by simp at hb;subst hb;exact fun e=>hq (e ▸ ha)⟩
theorem Qz.kept(h:Qz w M ks)(k:zc L w w')(hM:M ∉ L):Qz w' M ks:=by
 have hlt:=h.lt;obtain ⟨es,clock,hm,hk⟩:=h.heap;exact ⟨⟨es,clock,(k.block M hlt hM).trans hm,hk⟩,h.nodup⟩
theorem Qz.made(w:World):Qz (w.alloc (.map #[] 0)) w.heap.size []:=⟨⟨#[],0,heap_alloc_new _ _,rfl⟩,by simp⟩
theorem Qz.size(h:Qz w M ks):∃ es clock,w.heap[M]? = some (.map es clock)∧es.size=ks.length:=by
 obtain ⟨es,clock,hm,hk⟩:=h.heap;refine ⟨es,clock,hm,?_⟩;have:=congrArg List.length hk;simpa using this
def ZR(u:Nat):List UInt8:=if u<128 then [UInt8.ofNat u] else UInt8.ofNat (u % 128+128) :: ZR (u / 128)
termination_by u
decreasing_by omega
theorem jY(h:u<128):ZR u=[UInt8.ofNat u]:=by rw[ZR,if_pos h]
theorem ZM(h:¬ u<128):ZR u=UInt8.ofNat (u % 128+128) :: ZR (u / 128):=by rw[ZR,if_neg h]
theorem qO(h:n<256):(UInt8.ofNat n).toNat=n:=by
 rw[UInt8.toNat_ofNat'];exact Nat.mod_eq_of_lt h
theorem JK(u:Nat):0<(ZR u).length:=by
 by_cases h:u<128
 ·rw[jY h];simp
 ·rw[ZM h];simp
theorem zdV:∀ (k u:Nat),u<128 ^ (k+1)→(ZR u).length≤k+1
 | 0,u,h=>by
  rw[jY (by simpa using h)];simp
 | k+1,u,h=>by
  by_cases h1:u<128
  ·rw[jY h1];simp
  ·rw[ZM h1,List.length_cons]
   have:=zdV k (u / 128) (by rw[Nat.div_lt_iff_lt_mul (by omega)];rw[Nat.pow_succ] at h;exact h);omega
theorem zbW{c:UInt8}(h:ZR u ++ R=c :: S)(hc:128≤c.toNat):1≤u / 128∧c.toNat=u % 128+128∧ZR (u / 128) ++ R=S:=by
 by_cases h1:u<128
 ·rw[jY h1] at h
  have e:UInt8.ofNat u=c:=by simpa using congrArg List.head? h
  rw[← e,qO (by omega)] at hc;omega
 ·rw[ZM h1,List.cons_append] at h
  obtain ⟨e1,e2⟩:=List.cons.inj h;refine ⟨by omega,?_,e2⟩;rw[← e1,qO (by omega)]
theorem zbF{c:UInt8}(h:ZR u ++ R=c :: S)(hc:c.toNat<128):u=c.toNat∧R=S:=by
 by_cases h1:u<128
 ·rw[jY h1] at h
  obtain ⟨e1,e2⟩:=List.cons.inj h;exact ⟨by rw[← e1,qO (by omega)],by simpa using e2⟩
 ·rw[ZM h1,List.cons_append] at h
  obtain ⟨e1,_⟩:=List.cons.inj h;rw[← e1,qO (by omega)] at hc;omega
theorem zfP:∀ (u v:Nat) (R S:List UInt8),ZR u ++ R=ZR v ++ S→u=v∧R=S:=by
 intro u
 induction u using Nat.strongRecOn with
 | ind u ih=>
  intro v R S h;by_cases h1:u<128
  ·rw[jY h1] at h
   have:=zbF h.symm (by rw[qO (by omega)];exact h1);rw[qO (by omega)] at this;exact ⟨this.1.symm,this.2.symm⟩
  ·rw[ZM h1] at h
   obtain ⟨a1,a2,a3⟩:=zbW h.symm (by rw[qO (by omega)];omega);rw[qO (by omega)] at a2;obtain ⟨b1,b2⟩:=ih (u / 128) (by omega) (v / 128) R S a3.symm;exact ⟨by omega,b2⟩
def za2:List UInt8→Nat
 | []=>0
 | c :: l=>c.toNat % 128+128 * za2 l
theorem zd2(l:List UInt8)(c:UInt8):za2 (l ++ [c])=za2 l+(c.toNat % 128) * 128 ^ l.length:=by
 induction l with
 | nil=>simp[za2]
 | cons d l ih=>
  rw[List.cons_append,za2,za2,ih,List.length_cons,Nat.pow_succ];rw[Nat.mul_add, ← Nat.add_assoc]
  congr 1
  rw[Nat.mul_comm (128 ^ l.length) 128, ← Nat.mul_assoc, ← Nat.mul_assoc,Nat.mul_comm 128 (c.toNat % 128)]
theorem zmp(l:List UInt8):za2 l<128 ^ l.length:=by
 induction l with
 | nil=>simp[za2]
 | cons c l ih=>
  rw[za2,List.length_cons,Nat.pow_succ];have:=Nat.mod_lt c.toNat (show 0<128 by omega);omega
def zbr(l:List UInt8):Prop:=∀ c,c∈l→128≤c.toNat
theorem zbK:∀ (l:List UInt8) (c:UInt8),zbr l→c.toNat<128→(l=[]∨c.toNat≠0)→ZR (za2 (l ++ [c]))=l ++ [c]
 | [],c,_,h,_=>by
  have e:za2 ([] ++ [c])=c.toNat:=by
   show c.toNat % 128+128 * 0=c.toNat;omega
  rw[e,jY h];simp
 | d :: l,c,hm,h,h0=>by
  have hc:c.toNat≠0:=by
   rcases h0 with h0 | h0
   ·cases h0
   ·exact h0
  have ih:=zbK l c (fun x hx=>hm x (List.mem_cons_of_mem _ hx)) h (.inr hc);have hd:=hm d (List.mem_cons_self ..);have hd2:=d.toNat_lt;have hpos:1≤za2 (l ++ [c]):=by
   rw[zd2];have:1≤c.toNat % 128 * 128 ^ l.length:=Nat.mul_pos (by omega) (Nat.pow_pos (by omega));omega
  have e:za2 (d :: l ++ [c])=d.toNat % 128+128 * za2 (l ++ [c]):=rfl;have e1:za2 (d :: l ++ [c]) % 128+128=d.toNat:=by omega
  have e2:za2 (d :: l ++ [c]) / 128=za2 (l ++ [c]):=by omega
  rw[ZM (by omega),e1,e2,ih];simp
theorem QS:∀ (l:List UInt8) (u:Nat) (R S:List UInt8),zbr l→ZR u ++ R=l ++ S→ZR (u / 128 ^ l.length) ++ R=S∧(l=[]∨1≤u / 128 ^ l.length)
 | [],u,R,S,_,h=>by
  rw[List.length_nil,Nat.pow_zero,Nat.div_one];exact ⟨h,.inl rfl⟩
 | c :: l,u,R,S,hm,h=>by
  obtain ⟨h1,_,h3⟩:=zbW h (hm c (List.mem_cons_self ..));have ih:=QS l (u / 128) R S (fun x hx=>hm x (List.mem_cons_of_mem _ hx)) h3;rw[Nat.div_div_eq_div_mul,Nat.mul_comm, ← Nat.pow_succ] at ih;refine ⟨ih.1,.inr ?_⟩;rcases ih.2 with e | e
  ·subst e
   exact h1
  ·exact e
def Jg(n:Int):Nat:=if n<0 then (-2 * n - 1).toNat else (2 * n).toNat
theorem Zz{n:Int}(h:n<0):(Jg n:Int)= -2 * n - 1:=by
 rw[Jg,if_pos h];omega
theorem Zx{n:Int}(h:¬ n<0):(Jg n:Int)=2 * n:=by
 rw[Jg,if_neg h];omega
theorem zhQ{n m:Int}(h:Jg n=Jg m):n=m:=by
 by_cases h1:n<0 <;> by_cases h2:m<0
 ·have:=Zz h1;have:=Zz h2;omega
 ·have:=Zz h1;have:=Zx h2;omega
 ·have:=Zx h1;have:=Zz h2;omega
 ·have:=Zx h1;have:=Zx h2;omega
theorem zcG{n:Int}(h:b64 n):Jg n<18446744073709551616:=by
 obtain ⟨a,b⟩:=h;by_cases h1:n<0
 ·have:=Zz h1;omega
 ·have:=Zx h1;omega
def zcN(u:Nat):Int:=if u % 2=1 then -((u / 2:Nat):Int) - 1 else ((u / 2:Nat):Int)
theorem zfT(u:Nat):Jg (zcN u)=u:=by
 by_cases h:u % 2=1
 ·have e:zcN u= -((u / 2:Nat):Int) - 1:=by rw[zcN,if_pos h]
  have:=Zz (n:=zcN u) (by omega);omega
 ·have e:zcN u=((u / 2:Nat):Int):=by rw[zcN,if_neg h]
  have:=Zx (n:=zcN u) (by omega);omega
theorem zjs(h:u<18446744073709551616):b64 (zcN u):=by
 unfold b64 zcN;split <;> omega
def zK(n:Int):List UInt8:=ZR (Jg n)
theorem zR(n:Int):0<(zK n).length:=JK _
theorem qq{n:Int}(h:b64 n):(zK n).length≤10:=zdV 9 _ (by have:=zcG h;omega)
theorem JJ{n m:Int}(h:zK n ++ R=zK m ++ S):n=m∧R=S:=by
 obtain ⟨a,b⟩:=zfP _ _ _ _ h;exact ⟨zhQ a,b⟩
theorem zjw{c:UInt8}(hm:zbr l)(hc:c.toNat<128)(h0:l=[]∨c.toNat≠0):zK (zcN (za2 (l ++ [c])))=l ++ [c]:=by
 rw[zK,zfT];exact zbK l c hm hc h0
theorem zkP(hm:zbr l)(n:Int)(R:List UInt8):l≠zK n ++ R:=by
 intro h;have h1:=(QS l (Jg n) R [] hm (by rw[List.append_nil];exact h.symm)).1;have h2:=JK (Jg n / 128 ^ l.length);have:=congrArg List.length h1;simp at this;rw[this.1] at h2;simp at h2
theorem zeW{c:UInt8}(hm:zbr l)(hl:l≠[])(hc:c.toNat=0)(n:Int)(R:List UInt8):l ++ c :: S≠zK n ++ R:=by
 intro h;obtain ⟨h1,h2⟩:=QS l (Jg n) R (c :: S) hm h.symm;have:=(zbF h1 (by omega)).1;rcases h2 with e | e
 ·exact hl e
 ·omega
theorem ziu{c:UInt8}(hm:zbr l)(hl:l.length=9)(hc:1<c.toNat)(n:Int)(hn:b64 n)(R:List UInt8):l ++ c :: S≠zK n ++ R:=by
 intro h;have h1:=(QS l (Jg n) R (c :: S) hm h.symm).1;have h3:=zcG hn;rw[hl] at h1;have h4:Jg n / 128 ^ 9≤1:=by omega
 rw[jY (by omega)] at h1;have:=(List.cons.inj h1).1;rw[← this,qO (by omega)] at hc;omega
section
variable {α β:Type}
structure Cd (E:α→List UInt8) (ok:α→Prop):Prop where
 pos:∀ x,0<(E x).length
 uniq:∀ x y R S,ok x→ok y→E x ++ R=E y ++ S→x=y∧R=S
theorem Cd.num:Cd zK b64:=⟨zR,fun _ _ _ _ _ _ h=>JJ h⟩
def qw(E:α→List UInt8)(F:β→List UInt8)(x:α × β):List UInt8:=E x.1 ++ F x.2
def jj(ok:α→Prop)(ok':β→Prop)(x:α × β):Prop:=ok x.1∧ok' x.2
theorem Cd.pair{E:α→List UInt8}{F:β→List UInt8}{ok:α→Prop}{ok':β→Prop}(h:Cd E ok)(k:Cd F ok'):Cd (qw E F) (jj ok ok'):=by
 refine ⟨fun x=> ?_,fun x y R S hx hy e=> ?_⟩
 ·rw[qw,List.length_append];have:=h.pos x.1;omega
 ·unfold qw at e
  rw[List.append_assoc,List.append_assoc] at e;obtain ⟨e1,e2⟩:=h.uniq _ _ _ _ hx.1 hy.1 e;obtain ⟨e3,e4⟩:=k.uniq _ _ _ _ hx.2 hy.2 e2;exact ⟨Prod.ext e1 e3,e4⟩
def Za(E:α→List UInt8)(l:List α):List UInt8:=zK (l.length:Int) ++ l.flatMap E
def ZG(ok:α→Prop)(l:List α):Prop:=b64 (l.length:Int)∧∀ x,x∈l→ok x
theorem ziL{E:α→List UInt8}(h:∀ x,0<(E x).length)(l:List α):l.length≤(l.flatMap E).length:=by
 induction l with
 | nil=>simp
 | cons x l ih=>
  rw[List.flatMap_cons,List.length_append,List.length_cons];have:=h x;omega
theorem zbp{E:α→List UInt8}{ok:α→Prop}(h:Cd E ok):∀ (l m:List α) (R S:List UInt8),l.length=m.length→(∀ x,x∈l→ok x)→(∀ x,x∈m→ok x)→l.flatMap E ++ R=m.flatMap E ++ S→l=m∧R=S
 | [],m,R,S,hl,_,_,e=>by
  have:m=[]:=List.eq_nil_of_length_eq_zero hl.symm;subst this;exact ⟨rfl,by simpa using e⟩
 | x :: l,[],R,S,hl,_,_,e=>by simp at hl
 | x :: l,y :: m,R,S,hl,hx,hy,e=>by
  rw[List.flatMap_cons,List.flatMap_cons,List.append_assoc,List.append_assoc] at e;obtain ⟨e1,e2⟩:=h.uniq _ _ _ _ (hx x (List.mem_cons_self ..)) (hy y (List.mem_cons_self ..)) e;obtain ⟨e3,e4⟩:=zbp h l m R S (by simpa using hl) (fun z hz=>hx z (List.mem_cons_of_mem _ hz)) (fun z hz=>hy z (List.mem_cons_of_mem _ hz)) e2;exact ⟨by rw[e1,e3],e4⟩
theorem Cd.list{E:α→List UInt8}{ok:α→Prop}(h:Cd E ok):Cd (Za E) (ZG ok):=by
 refine ⟨fun l=> ?_,fun l m R S hl hm e=> ?_⟩
 ·rw[Za,List.length_append];have:=zR (l.length:Int);omega
 ·unfold Za at e
  rw[List.append_assoc,List.append_assoc] at e;obtain ⟨e1,e2⟩:=JJ e;exact zbp h l m R S (by omega) hl.2 hm.2 e2
theorem Cd.map{E:α→List UInt8}{ok:α→Prop}(h:Cd E ok){F:β→List UInt8}{ok':β→Prop}(g:β→α)(hg:∀ x y,g x=g y→x=y)(hE:∀ x,F x=E (g x))(ho:∀ x,ok' x→ok (g x)):Cd F ok':=by
 refine ⟨fun x=>by rw[hE];exact h.pos _,fun x y R S hx hy e=> ?_⟩;rw[hE,hE] at e;obtain ⟨e1,e2⟩:=h.uniq _ _ _ _ (ho x hx) (ho y hy) e;exact ⟨hg _ _ e1,e2⟩
def Stp(E:α→List UInt8)(ok:α→Prop)(s:Option (List UInt8))(x:α)(s':Option (List UInt8)):Prop:=
 ok x∧(s=none→s'=none)∧(∀ L R,s=some L→s'=some R→L=E x ++ R)∧(∀ L,s=some L→s'=none→∀ y R,ok y→L≠E y ++ R)
theorem Stp.pair{E:α→List UInt8}{F:β→List UInt8}{ok:α→Prop}{ok':β→Prop}(c:Cd E ok){s s1 s2:Option (List UInt8)}{x:α}{y:β}(h:Stp E ok s x s1)(k:Stp F ok' s1 y s2):Stp (qw E F) (jj ok ok') s (x,y) s2:=by
 obtain ⟨a0,a1,a2,a3⟩:=h;obtain ⟨b0,b1,b2,b3⟩:=k;refine ⟨⟨a0,b0⟩,fun e=>b1 (a1 e),fun L R e1 e2=> ?_,fun L e1 e2 z R hz e=> ?_⟩
 ·cases s1 with
  | none=>rw[b1 rfl] at e2;cases e2
  | some M=>
   rw[a2 L M e1 rfl,b2 M R rfl e2];unfold qw;rw[List.append_assoc]
 ·unfold qw at e
  rw[List.append_assoc] at e;cases s1 with
  | none=>exact a3 L e1 rfl z.1 _ hz.1 e
  | some M=>
   have e3:=a2 L M e1 rfl;rw[e3] at e;obtain ⟨_,e4⟩:=c.uniq _ _ _ _ a0 hz.1 e;exact b3 M rfl e2 z.2 R hz.2 e4
theorem Stp.map{E:α→List UInt8}{ok:α→Prop}{F:β→List UInt8}{ok':β→Prop}{s s':Option (List UInt8)}{x:α}(h:Stp E ok s x s')(f:α→β)(g:β→α)(hgf:g (f x)=x)(hE:∀ y,F y=E (g y))(ho:ok x→ok' (f x))(ho':∀ y,ok' y→ok (g y)):Stp F ok' s (f x) s':=by
 obtain ⟨a0,a1,a2,a3⟩:=h;refine ⟨ho a0,a1,fun L R e1 e2=> ?_,fun L e1 e2 y R hy e=> ?_⟩
 ·rw[hE,hgf];exact a2 L R e1 e2
 ·rw[hE] at e
  exact a3 L e1 e2 (g y) R (ho' y hy) e
def zbP(s:Option (List UInt8))(n:Nat)(s':Option (List UInt8)):Prop:=
 (s'=none→n=0)∧(s=none→s'=none)∧(∀ L R,s=some L→s'=some R→L=zK (n:Int) ++ R∧n≤R.length)∧(∀ L,s=some L→s'=none→∀ (m:Nat) R,b64 (m:Int)→L=zK (m:Int) ++ R→R.length<m)
def Q2(E:α→List UInt8)(ok:α→Prop)(s:Option (List UInt8))(n k:Nat)(l:List α)(s':Option (List UInt8)):Prop:=
 l.length=k∧(∀ x,x∈l→ok x)∧∃ L R,s=some L∧s'=some R∧L=zK (n:Int) ++ (l.flatMap E ++ R)
theorem Q2.start{E:α→List UInt8}{ok:α→Prop}{s s':Option (List UInt8)}{n:Nat}(h:zbP s n s')(hn:n≠0):Q2 E ok s n 0 [] s':=by
 obtain ⟨a0,a1,a2,a3⟩:=h;refine ⟨rfl,(fun x hx=>by cases hx),?_⟩;cases s' with
 | none=>exact absurd (a0 rfl) hn
 | some R=>
  cases s with
  | none=>cases a1 rfl
  | some L=>exact ⟨L,R,rfl,rfl,by simpa using (a2 L R rfl rfl).1⟩
theorem Q2.next{E:α→List UInt8}{ok:α→Prop}{s s1 s2:Option (List UInt8)}{n k:Nat}{l:List α}{x:α}(h:Q2 E ok s n k l s1)(hx:Stp E ok s1 x s2)(h2:s2≠none):Q2 E ok s n (k+1) (l ++ [x]) s2:=by
 obtain ⟨a0,a1,L,R,e1,e2,e3⟩:=h;obtain ⟨b0,_,b2,_⟩:=hx;refine ⟨by simp[a0],fun y hy=> ?_,?_⟩
 ·rcases List.mem_append.1 hy with hy | hy
  ·exact a1 y hy
  ·rw[List.mem_singleton.1 hy];exact b0
 ·cases s2 with
  | none=>exact absurd rfl h2
  | some R2=>
   refine ⟨L,R2,e1,rfl,?_⟩;rw[e3,b2 R R2 e2 rfl,List.flatMap_append];simp
theorem Q2.done{E:α→List UInt8}{ok:α→Prop}{s s':Option (List UInt8)}{n:Nat}{l:List α}(h:Q2 E ok s n n l s')(hn:b64 (n:Int)):Stp (Za E) (ZG ok) s l s':=by
 obtain ⟨a0,a1,L,R,e1,e2,e3⟩:=h;refine ⟨⟨by rw[a0];exact hn,a1⟩,(fun e=>by rw[e] at e1;cases e1),fun L' R' e4 e5=> ?_,fun L' e4 e5=> ?_⟩
 ·rw[e1] at e4
  rw[e2] at e5;cases e4;cases e5;rw[e3,Za,a0,List.append_assoc]
 ·rw[e2] at e5
  cases e5
theorem Q2.fail{E:α→List UInt8}{ok:α→Prop}(c:Cd E ok){s s1:Option (List UInt8)}{n k:Nat}{l:List α}{x:α}(h:Q2 E ok s n k l s1)(hk:k<n)(hx:Stp E ok s1 x none):Stp (Za E) (ZG ok) s [] none:=by
 obtain ⟨a0,a1,L,R,e1,e2,e3⟩:=h;obtain ⟨b0,_,_,b3⟩:=hx;refine ⟨⟨by unfold b64;simp,fun y hy=>by cases hy⟩,fun _=>rfl,(fun L' R' _ e=>by cases e),fun L' e4 _ m S hm e=> ?_⟩;rw[e1] at e4;cases e4;rw[e3] at e;unfold Za at e;rw[List.append_assoc] at e;obtain ⟨e5,e6⟩:=JJ e;have hlen:m.length=n:=by omega
 have hm1:m=m.take k ++ m.drop k:=(List.take_append_drop k m).symm;rw[hm1,List.flatMap_append,List.append_assoc] at e6;obtain ⟨_,e7⟩:=zbp c l (m.take k) R ((m.drop k).flatMap E ++ S) (by rw[a0,List.length_take];omega) a1 (fun y hy=>hm.2 y (List.mem_of_mem_take hy)) e6;cases hd:m.drop k with
 | nil=>
  have:=congrArg List.length hd;rw[List.length_drop] at this;simp at this;omega
 | cons y t=>
  rw[hd,List.flatMap_cons,List.append_assoc] at e7;exact b3 R e2 rfl y _ (hm.2 y (List.mem_of_mem_drop (by rw[hd];exact List.mem_cons_self ..))) e7
theorem zbP.empty{E:α→List UInt8}{ok:α→Prop}(hp:∀ x,0<(E x).length){s s':Option (List UInt8)}(h:zbP s 0 s'):Stp (Za E) (ZG ok) s [] s':=by
 obtain ⟨a0,a1,a2,a3⟩:=h;refine ⟨⟨by unfold b64;simp,fun y hy=>by cases hy⟩,a1,fun L R e1 e2=> ?_,fun L e1 e2 m R hm e=> ?_⟩
 ·rw[(a2 L R e1 e2).1]
  simp[Za]
 ·unfold Za at e
  rw[List.append_assoc] at e;have:=a3 L e1 e2 m.length _ hm.1 e;rw[List.length_append] at this;have:=ziL hp m;omega
theorem zbP.of{s s':Option (List UInt8)}{n:Int}(h:Stp zK b64 s n s')(hok:∀ R,s'=some R→0≤n∧n≤(R.length:Int))(hn:s'=none→n=0):zbP s n.toNat s':=by
 obtain ⟨a0,a1,a2,a3⟩:=h;refine ⟨fun e=>by rw[hn e];rfl,a1,fun L R e1 e2=> ?_,fun L e1 e2 m R hm e=>absurd e (a3 L e1 e2 _ R hm)⟩;obtain ⟨b1,b2⟩:=hok R e2;rw[Int.toNat_of_nonneg b1];exact ⟨a2 L R e1 e2,by omega⟩
theorem zbP.bad{s:Option (List UInt8)}{n:Int}{R:List UInt8}(h:Stp zK b64 s n (some R))(hb:n<0∨(R.length:Int)<n):zbP s 0 none:=by
 obtain ⟨a0,a1,a2,a3⟩:=h;refine ⟨fun _=>rfl,fun _=>rfl,(fun L R' _ e=>by cases e),fun L e1 _ m S hm e=> ?_⟩;have e3:=a2 L R e1 rfl;rw[e3] at e;obtain ⟨e4,e5⟩:=JJ e;subst e5;omega
end
theorem zB{F:List Nat}{base:Nat}{e:TypeId}{size:Nat}{xs:List Value}(h:w.ownsRow base e size v n xs)(k:zc F w w')(hF:∀ b,v.ownBlock=some b→b ∉ F):w'.ownsRow base e size v n xs:=by
 refine ⟨h.1,?_⟩;rcases h.2 with hn | ⟨g,cap,cur,rfl,hb,hg,rest⟩
 ·exact .inl hn
 ·refine .inr ⟨g,cap,cur,rfl,hb,?_,rest⟩
  rw[k.block g (Array.getElem?_eq_some_iff.1 hg).1 (hF g rfl)];exact hg
theorem zd3{base base':Nat}{e:TypeId}{size:Nat}{xs:List Value}(h:w.ownsRow base e size v n xs)(hb:base'≤base):w.ownsRow base' e size v n xs:=by
 refine ⟨h.1,?_⟩;rcases h.2 with h' | ⟨g,cap,cur,h1,h2,h3⟩
 ·exact .inl h'
 ·exact .inr ⟨g,cap,cur,h1,by omega,h3⟩
structure ju (w:World) (base p n:Nat) (T:TypeId) (c:Nat→Value):Prop where
 row:w.ownsRow base T 1 (.slice (some ⟨p,0,none⟩) n n) n ((List.range n).map c)
theorem ju.cell{base:Nat}{c:Nat→Value}(h:ju w base p n T c)(hk:k<n):w.cell? ⟨p,k,none⟩=some (c k):=by
 rw[h.row.cellAt k (by omega),List.getElem?_map,List.getElem?_range hk];rfl
theorem ju.frozen{base:Nat}{c:Nat→Value}(h:ju w base p n T c)(k:Nat):w.frozen? ⟨p,k,none⟩=false:=h.row.frozenAt k
theorem ju.lt{base:Nat}{c:Nat→Value}(h:ju w base p n T c):base≤p∧p<w.heap.size:=h.row.lt p rfl
theorem ju.kept{base:Nat}{c:Nat→Value}(h:ju w base p n T c)(k:zc L w w')(hp:p ∉ L):ju w' base p n T c:=
 ⟨zB h.row k (fun b hb=>by simp[Value.ownBlock] at hb;subst hb;exact hp)⟩
theorem ju.put{base:Nat}{c:Nat→Value}(h:ju w base p n T c)(k:Nat)(v:Value):ju (w.setCell ⟨p,k,none⟩ v) base p n T (fun i=>if i=k then v else c i):=by
 refine ⟨?_⟩;have h1:=(h.row.stored k v).1;have e:((List.range n).map c).set k v=(List.range n).map (fun i=>if i=k then v else c i):=by
  apply List.ext_getElem?;intro i;rw[List.getElem?_set,List.getElem?_map,List.getElem?_map,List.length_map,List.length_range];by_cases hi:i<n
  ·rw[List.getElem?_range hi]
   by_cases e:k=i
   ·subst e;simp[hi]
   ·have:¬ i=k:=fun h=>e h.symm
    simp[e,this]
  ·rw[List.getElem?_eq_none (by simp;omega)]
   by_cases e:k=i
   ·subst e;simp[hi]
   ·simp[e]
 rw[e] at h1;exact h1
theorem ju.congr{base:Nat}{c d:Nat→Value}(h:ju w base p n T c)(e:∀ i,i<n→c i=d i):ju w base p n T d:=by
 refine ⟨?_⟩;have:(List.range n).map c=(List.range n).map d:=List.map_congr_left fun i hi=>e i (List.mem_range.1 hi);rw[← this];exact h.row
theorem zjS(z:Value)(n:Nat)(hz:z.cells=#[z]):(madeCells z.cells (n * 1)).toList=(List.range n).map fun _=>z:=by
 rw[hz,Nat.mul_one];apply List.ext_getElem?;intro i;rw[List.getElem?_map];by_cases hi:i<n
 ·rw[List.getElem?_range hi]
  simp[madeCells,hi,Nat.mod_one]
 ·rw[List.getElem?_eq_none (by rw[Array.length_toList,size_madeCells];omega),List.getElem?_eq_none (by rw[List.length_range];omega)]
  rfl
theorem ju.made{base:Nat}{z:Value}(h:w.ownsRow base T 1 (.slice (some ⟨p,0,none⟩) n n) n (madeCells z.cells (n * 1)).toList)(hz:z.cells=#[z]):ju w base p n T (fun _=>z):=by
 rw[zjS z n hz] at h;exact ⟨h⟩
theorem zc.fresh{a b c:World}(h:zc [] a b)(k:zc L b c)(hL:∀ x,x∈L→a.heap.size≤x):zc [] a c:=
 h.trans k fun x hx hl=>absurd (hL x hx) (by omega)
def pkV(q:Int × Int × Int):Value:=agg #[int i64 q.1,int i64 q.2.1,int i64 q.2.2]
def zlA(q r:Int × Int × Int):Bool:=q.1 == r.1 && (q.2.1 == r.2.1 && q.2.2 == r.2.2)
theorem zfw(q r:Int × Int × Int):zlA q r=true ↔ q=r:=by
 obtain ⟨a,b,c⟩:=q;obtain ⟨a',b',c'⟩:=r;unfold zlA;simp
theorem zlw(q r:Int × Int × Int)(w:World):(Op.equal 55 (pkV q) (pkV r)).run Tryz.prog w=.ok (zlA q r) w:=by
 have hi:∀ (d:Nat) (x y:Int),(Op.equalIn (d+1) 3 (int i64 x) (int i64 y)).run Tryz.prog w=.ok (x == y) w:=fun d x y=>by
  simp[Op.equalIn,run_underlying Tryz.underlying3]
 have hs:Tryz.prog.stoodInHeld 55=false:=by kernel_rfl
 have p0:∀ (x y z:Int),(part 3 #[int i64 x,int i64 y,int i64 z] 0).run Tryz.prog w=.ok (int i64 x) w:=fun _ _ _=>by kernel_rfl
 have p1:∀ (x y z:Int),(part 3 #[int i64 x,int i64 y,int i64 z] 1).run Tryz.prog w=.ok (int i64 y) w:=fun _ _ _=>by kernel_rfl
 have p2:∀ (x y z:Int),(part 3 #[int i64 x,int i64 y,int i64 z] 2).run Tryz.prog w=.ok (int i64 z) w:=fun _ _ _=>by kernel_rfl
 have h:∀ d:Nat,(Op.equalIn (d+2) 55 (pkV q) (pkV r)).run Tryz.prog w=.ok (zlA q r) w:=fun d=>by
  unfold pkV zlA;rw[Op.equalIn];simp[run_underlying Tryz.underlying55,hs,p0,hi,Result.andThen];by_cases h1:q.1=r.1
  ·by_cases h2:q.2.1=r.2.1
   ·by_cases h3:q.2.2=r.2.2
    ·simp[h1,h2,h3,p1,p2,hi,Result.andThen]
    ·simp[h1,h2,h3,p1,p2,hi,Result.andThen]
   ·simp[h1,h2,p1,hi,Result.andThen]
  ·simp[h1]
 exact h 9998
theorem Jn(q:Int × Int × Int)(w:World):∀ (es:List MapEntry) (ks:List (Int × Int × Int)) (i:Nat),es.map (fun e=>(e.key,e.val))=ks.map (fun k=>(pkV k,Value.bool true))→
  ∃ j,(Instr.findAsking 55 (pkV q) es i).run Tryz.prog w=.ok (if q∈ks then some (j,Value.bool true) else none) w
 | [],[],i,_=>⟨0,by simp[Instr.findAsking]⟩
 | [],k :: ks,i,h=>by simp at h
 | e :: es,[],i,h=>by simp at h
 | e :: es,k :: ks,i,h=>by
  simp only[List.map_cons,List.cons.injEq,Prod.mk.injEq] at h;by_cases hq:q=k
  ·subst hq
   exact ⟨i,by simp[Instr.findAsking,h.1.1,h.1.2,zlw,(zfw q q).2 rfl]⟩
  ·obtain ⟨j,ih⟩:=Jn q w es ks (i+1) h.2
   refine ⟨j,?_⟩;have hn:zlA q k=false:=by
    cases e:zlA q k with
    | false=>rfl
    | true=>exact absurd ((zfw q k).1 e) hq
   simp[Instr.findAsking,h.1.1,zlw,hn,ih,hq]
theorem zhp(q:Int × Int × Int)(w:World)(es:List MapEntry)(ks:List (Int × Int × Int))(h:es.map (fun e=>(e.key,e.val))=ks.map (fun k=>(pkV k,Value.bool true))):
  ∃ j,(Instr.findKey 55 (pkV q) es).run Tryz.prog w=.ok (if q∈ks then some (j,Value.bool true) else none) w:=by
 obtain ⟨j,hj⟩:=Jn q w es ks 0 h;rcases es with _ | ⟨e,es⟩
 ·rcases ks with _ | ⟨k,ks⟩
  ·exact ⟨0,by simp[Instr.findKey,run_underlying Tryz.underlying55,Instr.findNow]⟩
  ·simp at h
 ·rcases ks with _ | ⟨k,ks⟩
  ·simp at h
  ·simp only[List.map_cons,List.cons.injEq,Prod.mk.injEq] at h
   refine ⟨j,?_⟩;have e1:∀ fs,Instr.findNow (TypeDesc.struct fs) (pkV q) (e :: es) 0=none:=fun fs=>by
    simp[Instr.findNow,Instr.sameNow]
   rw[Instr.findKey];simp only[Sem.run_bind,run_underlying Tryz.underlying55,Result.andThen_ok,e1];exact hj
theorem zfj(b:Bool)(q:Int × Int × Int)(w:World):(Instr.checkKey b 10000 55 (pkV q)).run Tryz.prog w=.ok () w:=by
 have hi:∀ (d:Nat) (x:Int),(Instr.checkKey b (d+1) 3 (int i64 x)).run Tryz.prog w=.ok () w:=fun d x=>by
  simp[Instr.checkKey,run_underlying Tryz.underlying3]
 have p0:∀ (x y z:Int),(part 3 #[int i64 x,int i64 y,int i64 z] 0).run Tryz.prog w=.ok (int i64 x) w:=fun _ _ _=>by kernel_rfl
 have p1:∀ (x y z:Int),(part 3 #[int i64 x,int i64 y,int i64 z] 1).run Tryz.prog w=.ok (int i64 y) w:=fun _ _ _=>by kernel_rfl
 have p2:∀ (x y z:Int),(part 3 #[int i64 x,int i64 y,int i64 z] 2).run Tryz.prog w=.ok (int i64 z) w:=fun _ _ _=>by kernel_rfl
 have h:∀ d:Nat,(Instr.checkKey b (d+2) 55 (pkV q)).run Tryz.prog w=.ok () w:=fun d=>by
  unfold pkV;rw[Instr.checkKey];simp[run_underlying Tryz.underlying55,p0,p1,p2,hi,Result.andThen]
 exact h 9998
structure Ju (w:World) (M:Nat) (ks:List (Int × Int × Int)):Prop where
 heap:∃ es clock,w.heap[M]? = some (.map es clock)∧es.toList.map (fun e=>(e.key,e.val))=ks.map (fun k=>(pkV k,Value.bool true))
theorem Ju.look{ks:List (Int × Int × Int)}(h:Ju w M ks)(q:Int × Int × Int):
  (Instr.lookup 191 (.map (some M)) (pkV q) false).run Tryz.prog w=.ok (.bool (decide (q∈ks))) w:=by
 obtain ⟨es,clock,hM,hk⟩:=h.heap;obtain ⟨j,hf⟩:=zhp q w es.toList ks hk;have hz:(zeroValue 4).run Tryz.prog w=.ok (.bool false) w:=by kernel_rfl
 have hck:=zfj es.isEmpty q w;by_cases hq:q∈ks
 ·rw[if_pos hq] at hf
  simp[Instr.lookup,run_underlying Tryz.underlying191,MapKept.run_getObj_map hM,hck,hf,Result.andThen,hq]
 ·rw[if_neg hq] at hf
  simp[Instr.lookup,run_underlying Tryz.underlying191,MapKept.run_getObj_map hM,hck,hf,hz,Result.andThen,hq]
theorem Ju.put{ks:List (Int × Int × Int)}(h:Ju w M ks)(q:Int × Int × Int)(hn:q ∉ ks):
  ∃ w',(Instr.mapUpdate 191 (.map (some M)) (pkV q) (.bool true)).run Tryz.prog w=.ok () w'∧Ju w' M (ks ++ [q])∧zc [M] w w':=by
 obtain ⟨es,clock,hM,hk⟩:=h.heap;obtain ⟨j,hf⟩:=zhp q w es.toList ks hk;rw[if_neg hn] at hf;have hck:=zfj false q w;have hrun:(Instr.mapUpdate 191 (.map (some M)) (pkV q) (.bool true)).run Tryz.prog w=.ok () (ChangeMaps.setBlock w M (.map (es.push ⟨pkV q,.bool true,clock⟩) (clock+1))):=by
  simp[Instr.mapUpdate,run_underlying Tryz.underlying191,MapKept.run_getObj_map hM,hck,hf,MapKept.run_setObj_map _ hM,Result.andThen,ChangeMaps.setBlock]
 have hkeep:zc [M] w (ChangeMaps.setBlock w M (.map (es.push ⟨pkV q,.bool true,clock⟩) (clock+1))):=
  ⟨rfl,rfl,rfl,by simp[ChangeMaps.setBlock],fun i _ hi=>ChangeMaps.heap_setBlock_other hM _ (fun e=>hi (by simp[e]))⟩
 refine ⟨_,hrun,⟨_,_,ChangeMaps.heap_setBlock_same hM _,?_⟩,hkeep⟩;simp[hk]
theorem Ju.lt{ks:List (Int × Int × Int)}(h:Ju w M ks):M<w.heap.size:=by
 obtain ⟨es,clock,hm,_⟩:=h.heap;exact (Array.getElem?_eq_some_iff.1 hm).1
theorem Ju.kept{ks:List (Int × Int × Int)}(h:Ju w M ks)(k:zc L w w')(hM:M ∉ L):Ju w' M ks:=by
 have hlt:=h.lt;obtain ⟨es,clock,hm,hk⟩:=h.heap;exact ⟨es,clock,(k.block M hlt hM).trans hm,hk⟩
theorem Ju.made(w:World):Ju (w.alloc (.map #[] 0)) w.heap.size []:=⟨#[],0,heap_alloc_new _ _,rfl⟩
def qi(w:World)(a:Option Addr)(L:List UInt8):Prop:=
 L=[]∨∃ b off,a=some ⟨b,off,none⟩∧∀ i,i<L.length→w.cell? ⟨b,off+i,none⟩=some (.int .u8 ((L.getD i 0).toNat:Int))
theorem qi.kept{L:List UInt8}{F:List Nat}(h:qi w a L)(k:zc F w w')(hn:∀ b off,a=some ⟨b,off,none⟩→b ∉ F):qi w' a L:=by
 rcases h with h | ⟨b,off,rfl,h⟩
 ·exact Or.inl h
 ·refine Or.inr ⟨b,off,rfl,fun i hi=> ?_⟩
  have hc:=h i hi;rw[k.cell (p:=⟨b,off+i,none⟩) (block_lt_of_cell hc) (hn b off rfl)];exact hc
theorem qi.quiet{L:List UInt8}(h:qi w a L)(k:zc [] w w'):qi w' a L:=h.kept k (fun _ _ _=>by simp)
theorem zhP:Tryz.t5.zero=some (.int .u8 0):=by kernel_rfl
theorem ziv:Tryz.t5.size=1:=by kernel_rfl
theorem zfe:Tryz.t5.bytes=1:=by kernel_rfl
theorem zi2:Tryz.prog.info? 5=some Tryz.t5:=by kernel_rfl
theorem zaR:Tryz.prog.underlying 63=some (.slice 5):=by kernel_rfl
theorem zjc{L:List UInt8}{j:Nat}{u:Value}(h:(Lib.byteCells L)[j]? = some u):j<L.length∧u=.int .u8 ((L.getD j 0).toNat:Int):=by
 unfold Lib.byteCells at h;rw[List.getElem?_map] at h;by_cases hj:j<L.length
 ·refine ⟨hj,?_⟩
  rw[List.getElem?_eq_getElem hj] at h;simp at h;rw[← h,List.getD_eq_getElem?_getD,List.getElem?_eq_getElem hj];rfl
 ·rw[List.getElem?_eq_none (by omega)] at h
  cases h
theorem zdW(l:List UInt8):∀ u∈Lib.byteCells l,u.oneCell'=true:=by
 intro u hu;unfold Lib.byteCells at hu;rw[List.mem_map] at hu;obtain ⟨z,_,rfl⟩:=hu;rfl
theorem zgW(b off j:Nat):(⟨b,off,none⟩:Addr).add j=⟨b,off+j,none⟩:=by unfold Addr.add;by_cases e:j=0 <;> simp[e]
theorem zbV{off:Nat}{L:List UInt8}(h:∀ i,i<L.length→w.cell? ⟨b,off+i,none⟩=some (.int .u8 ((L.getD i 0).toNat:Int))):∀ j u,(Lib.byteCells L)[j]? = some u→w.cell? ((⟨b,off,none⟩:Addr).add j)=some u:=by
 intro j u hu;obtain ⟨hj,rfl⟩:=zjc hu;rw[zgW];exact h j hj
structure OB (w0 w:World) (v:Value) (B:List UInt8):Prop where
 own:w.ownsRow w0.heap.size 5 1 v B.length (Lib.byteCells B)
 keeps:zc [] w0 w
theorem OB.nil(k:zc [] w0 w):OB w0 w (.slice none 0 0) []:=⟨World.ownsRow_nil _ _ _ _,k⟩
theorem OB.open{B:List UInt8}(h:OB w0 w v B):∃ a cp,v=.slice a B.length cp∧qi w a B∧B.length≤cp∧∀ b off,a=some ⟨b,off,none⟩→w0.heap.size≤b∧off=0:=by
 rcases h.own.2 with ⟨rfl,h0⟩ | ⟨g,cap,cur,rfl,hbs,hg,hle,_,hs,ht⟩
 ·rw[h0]
  exact ⟨none,0,rfl,.inl (List.eq_nil_of_length_eq_zero h0),Nat.le_refl _,fun _ _ e=>by cases e⟩
 ·refine ⟨_,cap,rfl,.inr ⟨g,0,rfl,fun i hi=> ?_⟩,hle,fun b off e=>by cases e;exact ⟨hbs,rfl⟩⟩
  rw[Nat.zero_add,cell_of_row w g i cur _ _ hg];have e2:(cur.toList.take (B.length * 1))[i]? = cur.toList[i]? := by rw[List.getElem?_take,if_pos (by omega)]
  have e1:cur[i]? = cur.toList[i]? := by simp
  rw[e1, ← e2,ht];unfold Lib.byteCells;rw[List.getElem?_map,List.getElem?_eq_getElem hi,List.getD_eq_getElem?_getD,List.getElem?_eq_getElem hi];rfl
theorem OB.quiet{B:List UInt8}(h:OB w0 w v B)(k:zc [] w w'):OB w0 w' v B:=
 ⟨zB h.own k (fun _ _=>by simp),h.keeps.quiet k⟩
theorem OB.base{w1:World}{B:List UInt8}(h:OB w1 w v B)(k:zc [] w0 w1):OB w0 w v B:=
 ⟨zd3 h.own k.size,k.quiet h.keeps⟩
theorem Zo{ops:Array Oper}{rest:List Oper}{o:Oper}{a:Act}{Q:Exit→Act→World→Prop}(hgd:o.guard=none)(s x:Operand)(ho:o.op=.call { callee:=.builtin .append,args:=#[s,x],argTypes:=#[63,63] })
  {w0 w:World}{v:Value}{B:List UInt8}(hs:a.eval s=v) (hB:OB w0 w v B) {b off m c:Nat}{T:List UInt8}(hx:a.eval x=.slice (some ⟨b,off,none⟩) m c) (hm:m=T.length) (hT:0<T.length) (hnews:∀ i,i<T.length→w.cell? ⟨b,off+i,none⟩=some (.int .u8 ((T.getD i 0).toNat:Int)))
  (hlen:B.length+T.length≤140737488355328)
  (h:∀ g cap N w',Box (N=(B ++ T).length)→OB w0 w' (.slice (some ⟨g,0,none⟩) N cap) (B ++ T)→w.grownBy w' v.ownBlock→wpList Tryz.prog ops Q rest (a.put o.dst (.slice (some ⟨g,0,none⟩) N cap)) w'):wpList Tryz.prog ops Q (o :: rest) a w:=by
 subst hm;refine wpList_append_lies w hgd s x 63 ho w0.heap.size 5 Tryz.t5 (.int .u8 0) 1 1 zaR zi2 zhP ziv zfe rfl (by decide) v B.length (Lib.byteCells B) hs hB.own ⟨b,off,none⟩ T.length c (Lib.byteCells T) hx (by rw[Lib.byteCells_length];omega) (zbV hnews) (zdW T) hT (by unfold maxLen;omega) (by omega) hB.keeps.size w.heap.size rfl ?_;intro g cap w' h1 h2 _ _;have e:=h g cap (B.length+T.length) w' (hid List.length_append.symm) ⟨by rw[List.length_append,Lib.byteCells_append];exact h1,(zc.refl [] w0).quiet (hB.keeps.appended hB.own h2 (Nat.le_refl _))⟩ h2;exact e
def zb2:Int × Int→List UInt8:=qw zK zK
def zlj:Int × Int→Prop:=jj b64 b64
theorem Cd.ty:Cd zb2 zlj:=Cd.num.pair Cd.num
def ZE:List (Int × Int)→List UInt8:=Za zb2
def zc5:List (Int × Int)→Prop:=ZG zlj
theorem Cd.tys:Cd ZE zc5:=Cd.ty.list
def qE:List Int→List UInt8:=Za zK
def Jm:List Int→Prop:=ZG b64
theorem Cd.ints:Cd qE Jm:=Cd.num.list
def sgE:List (Int × Int) × Int × Int→List UInt8:=qw ZE zb2
def zn3:List (Int × Int) × Int × Int→Prop:=jj zc5 zlj
theorem Cd.sg:Cd sgE zn3:=Cd.tys.pair Cd.ty
def imE:Int × Int × List Int→List UInt8:=qw zK (qw zK qE)
def znu:Int × Int × List Int→Prop:=jj b64 (jj b64 Jm)
theorem Cd.im:Cd imE znu:=Cd.num.pair (Cd.num.pair Cd.ints)
def inE(x:In8):List UInt8:=qw zK (qw zK (qw zK (qw zK (qw zK qE)))) (x.op,x.dst,x.a,x.b,x.n,x.args)
def znx(x:In8):Prop:=jj b64 (jj b64 (jj b64 (jj b64 (jj b64 Jm)))) (x.op,x.dst,x.a,x.b,x.n,x.args)
theorem Cd.in:Cd inE znx:=(Cd.num.pair (Cd.num.pair (Cd.num.pair (Cd.num.pair (Cd.num.pair Cd.ints))))).map (fun x:In8=>(x.op,x.dst,x.a,x.b,x.n,x.args)) (fun x y h=>by
 cases x;cases y;simp only[Prod.mk.injEq] at h;obtain ⟨rfl,rfl,rfl,rfl,rfl,rfl⟩:=h
 rfl) (fun _=>rfl) (fun _ h=>h)
def zjn:List In8→List UInt8:=Za inE
def ziY:List In8→Prop:=ZG znx
theorem Cd.ins:Cd zjn ziY:=Cd.in.list
def blE(x:Bl8):List UInt8:=qw zjn (qw zK (qw zK (qw zK zK))) (x.code,x.fin,x.reg,x.to,x.els)
def znz(x:Bl8):Prop:=jj ziY (jj b64 (jj b64 (jj b64 b64))) (x.code,x.fin,x.reg,x.to,x.els)
theorem Cd.bl:Cd blE znz:=(Cd.ins.pair (Cd.num.pair (Cd.num.pair (Cd.num.pair Cd.num)))).map (fun x:Bl8=>(x.code,x.fin,x.reg,x.to,x.els)) (fun x y h=>by
 cases x;cases y;simp only[Prod.mk.injEq] at h;obtain ⟨rfl,rfl,rfl,rfl,rfl⟩:=h
 rfl) (fun _=>rfl) (fun _ h=>h)
def zgI:List Bl8→List UInt8:=Za blE
def zlF:List Bl8→Prop:=ZG znz
theorem Cd.bls:Cd zgI zlF:=Cd.bl.list
def fuE(x:Fu8):List UInt8:=qw zK (qw ZE zgI) (x.sig,x.regs,x.blocks)
def znw(x:Fu8):Prop:=jj b64 (jj zc5 zlF) (x.sig,x.regs,x.blocks)
theorem Cd.fu:Cd fuE znw:=(Cd.num.pair (Cd.tys.pair Cd.bls)).map (fun x:Fu8=>(x.sig,x.regs,x.blocks)) (fun x y h=>by
 cases x;cases y;simp only[Prod.mk.injEq] at h;obtain ⟨rfl,rfl,rfl⟩:=h
 rfl) (fun _=>rfl) (fun _ h=>h)
def zbf:List (List (Int × Int))→List UInt8:=Za ZE
def zid:List (List (Int × Int))→Prop:=ZG zc5
theorem Cd.tyss:Cd zbf zid:=Cd.tys.list
def ziV:List (List (Int × Int) × Int × Int)→List UInt8:=Za sgE
def zlZ:List (List (Int × Int) × Int × Int)→Prop:=ZG zn3
theorem Cd.sgs:Cd ziV zlZ:=Cd.sg.list
def ziS:List (List Int)→List UInt8:=Za qE
def zlE:List (List Int)→Prop:=ZG Jm
theorem Cd.ifs:Cd ziS zlE:=Cd.ints.list
def zhV:List (Int × Int × List Int)→List UInt8:=Za imE
def zmQ:List (Int × Int × List Int)→Prop:=ZG znu
theorem Cd.ims:Cd zhV zmQ:=Cd.im.list
def zi1:List Fu8→List UInt8:=Za fuE
def zmX:List Fu8→Prop:=ZG znw
theorem Cd.fus:Cd zi1 zmX:=Cd.fu.list
def prE(x:Pr8):List UInt8:=qw zbf (qw ziV (qw ziS (qw zhV (qw zi1 zK)))) (x.recs,x.sigs,x.ifs,x.ims,x.funcs,x.main)
def zhW(x:Pr8):Prop:=jj zid (jj zlZ (jj zlE (jj zmQ (jj zmX b64)))) (x.recs,x.sigs,x.ifs,x.ims,x.funcs,x.main)
theorem Cd.pr:Cd prE zhW:=(Cd.tyss.pair (Cd.sgs.pair (Cd.ifs.pair (Cd.ims.pair (Cd.fus.pair Cd.num))))).map (fun x:Pr8=>(x.recs,x.sigs,x.ifs,x.ims,x.funcs,x.main)) (fun x y h=>by
 cases x;cases y;simp only[Prod.mk.injEq] at h;obtain ⟨rfl,rfl,rfl,rfl,rfl,rfl⟩:=h
 rfl) (fun _=>rfl) (fun _ h=>h)
theorem zcm{P Q:Pr8}(hP:zhW P)(hQ:zhW Q)(h:prE P=prE Q):P=Q:=
 (Cd.pr.uniq P Q [] [] hP hQ (by rw[List.append_nil,List.append_nil];exact h)).1
def zx{α:Type}(E:α→List UInt8)(l:List α)(k:Nat):List UInt8:=zK (l.length:Int) ++ (l.take k).flatMap E
theorem qk{α:Type}(E:α→List UInt8)(l:List α):zx E l 0=zK (l.length:Int):=by simp[zx]
theorem qf{α:Type}(E:α→List UInt8){l:List α}{x:α}(h:l[k]? = some x):zx E l (k+1)=zx E l k ++ E x:=by
 have hk:k<l.length:=by
  rcases Nat.lt_or_ge k l.length with h' | h'
  ·exact h'
  ·rw[List.getElem?_eq_none h'] at h;cases h
 have e:l.take (k+1)=l.take k ++ [x]:=by
  rw[List.take_add_one,h];rfl
 rw[zx,zx,e,List.flatMap_append,List.append_assoc];simp
theorem jF{α:Type}(E:α→List UInt8)(l:List α):zx E l l.length=Za E l:=by rw[zx,Za,List.take_length]
theorem zgd{α:Type}(E:α→List UInt8)(l:List α)(k:Nat):zx E l k ++ (l.drop k).flatMap E=Za E l:=by
 rw[zx,Za,List.append_assoc, ← List.flatMap_append,List.take_append_drop]
theorem jp{α:Type}(E:α→List UInt8)(l:List α)(k:Nat):(zx E l k).length≤(Za E l).length:=by
 rw[← zgd E l k,List.length_append];omega
end Go.Proofs.YtkgoimokgbdgfaaGreatDoor
