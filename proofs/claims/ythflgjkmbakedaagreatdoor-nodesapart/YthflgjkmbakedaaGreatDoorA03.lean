import Derived.Deep.QuietTactic
import Derived.BigQuiet
import Derived.Laws.BitsAllLaws
import Derived.RegionTactic
import Derived.ChangeAlike
import Derived.Laws.Bits64b
import Derived.Laws.Bits128
import Derived.OwnWalk
import Derived.Maps.AppendAt
import Derived.Lib.Builder
import Derived.Deep.OwnRows
import Derived.Laws.Tables
import Derived.Sort.OwnSortedInts
import Derived.ProofKit
import Derived.OpenShut
import Derived.ChangeOld
import Derived.Deep.DeepHandedRow
import Derived.Deep.Slices
import Derived.Deep.Fields
import Derived.SizedLaws
import Derived.Deep.AppendLies
import Derived.Lib.UnsafeStr
import Derived.Deep.DeepCutAuto
import Derived.LaidEql
import Derived.Stop.Asserts
import Derived.RowKitTokens
import Derived.Defers
import Derived.Recover
import Derived.Test.YthflgjkmbakedaaGreatDoorA01
import Derived.Test.YthflgjkmbakedaaGreatDoorA02

namespace Go.Proofs.YthflgjkmbakedaaGreatDoor
open Go.RowKit
open Go.Value (int pointer agg)
open Go.IntKind (i64)
set_option maxHeartbeats 1000000
variable {B b base f k m n p:Nat}{L:List Nat}{T e t:TypeId}{a:Option Addr}{w w':World}
def ZL(s:Nat→Bool)(a:Int):Bool:=decide (0≤a) && s a.toNat
def zct(s:Nat→Bool)(a:Int):Nat→Bool:=fun m=>s m || (decide (a<5000) && decide ((m:Int)=a))
def zi5(s:Nat→Bool)(a:Int):Nat→Bool:=fun m=>s m && !decide ((m:Int)=a)
def Fit(s:Nat→Bool):Prop:=∀ n,5000≤n→s n=false
theorem Fit.ins{s:Nat→Bool}(h:Fit s)(a:Int):Fit (zct s a):=by
 intro n hn;unfold zct;rw[h n hn];simp;omega
theorem zhA(s:Nat→Bool)(a:Int)(h:¬ (0≤a∧a<5000)):zct s a=s:=by
 funext m
 unfold zct;by_cases h1:a<5000
 ·have:¬ (m:Int)=a:=by omega
  simp[this]
 ·simp[h1]
theorem zjQ(s:Nat→Bool)(n:Nat)(h:s n=true):zct s (n:Int)=s:=by
 funext m
 unfold zct;by_cases h1:(m:Int)=n
 ·have:m=n:=by omega
  subst this;simp[h]
 ·simp[h1]
theorem zdt(s:Nat→Bool)(n:Nat)(h:n<5000):zct s (n:Int)=ins s n:=by
 funext m
 unfold zct ins;have:(n:Int)<5000:=by omega
 by_cases hm:m=n
 ·subst hm;simp[this]
 ·have:¬ (m:Int)=n:=by omega
  simp[this,hm]
theorem zie(s:Nat→Bool)(n:Nat):zi5 s (n:Int)=del s n:=by
 funext m
 unfold zi5 del;by_cases hm:m=n
 ·subst hm;simp
 ·have:¬ (m:Int)=n:=by omega
  simp[this,hm]
theorem zh4(s:Nat→Bool)(a:Int)(h:ZL s a=false):zi5 s a=s:=by
 funext m
 unfold zi5;by_cases h1:(m:Int)=a
 ·subst h1
  have:s m=false:=by simpa [ZL] using h
  simp[this]
 ·simp[h1]
def row(s:Nat→Bool):Array Value:=Array.ofFn (n:=79) fun k=>Value.int .u64 (wd s k:Nat)
theorem QU(s:Nat→Bool):(row s).size=79:=by simp[row]
theorem zaX(s:Nat→Bool)(k:Nat)(h:k<79):(row s)[k]? = some (.int .u64 (wd s k:Nat)):=by simp[row,h]
theorem zk4(s t:Nat→Bool)(k:Nat)(v:Nat)(h:∀ j,j≠k→wd t j=wd s j)(hv:v=wd t k):(row s).setIfInBounds k (.int .u64 (v:Nat))=row t:=by
 rw[hv];apply Array.ext_getElem?;intro i;rw[Array.getElem?_setIfInBounds];by_cases hi:i<79
 ·rw[zaX t i hi,zaX s i hi,QU]
  by_cases hk:k=i
  ·subst hk;simp[hi]
  ·rw[if_neg hk,h i (fun e=>hk e.symm)]
 ·have e1:(row t)[i]? = none:=by simp[QU];omega
  have e2:(row s)[i]? = none:=by simp[QU];omega
  rw[e1,e2,QU];by_cases hk:k=i
  ·subst hk;simp[hi]
  ·rw[if_neg hk]
structure zJ (w:World) (b:Nat) (s:Nat→Bool):Prop where
 heap:w.heap[b]? = some (.cells (row s) 272 (0,0))
theorem zJ.cell{s:Nat→Bool}(h:zJ w b s)(hk:k<79):w.cell? ⟨b,k,none⟩=some (.int .u64 (wd s k:Nat)):=by
 rw[cell_of_row w b k _ _ _ h.heap,zaX s k hk]
theorem zJ.frozen{s:Nat→Bool}(h:zJ w b s)(k:Nat):w.frozen? ⟨b,k,none⟩=false:=frozen_of_row w b k _ _ h.heap
theorem zJ.lt{s:Nat→Bool}(h:zJ w b s):b<w.heap.size:=by
 have:=h.heap;rw[Array.getElem?_eq_some_iff] at this;exact this.1
theorem zJ.put{s:Nat→Bool}(h:zJ w b s)(t:Nat→Bool)(k v:Nat)(ht:∀ j,j≠k→wd t j=wd s j)(hv:v=wd t k):zJ (w.setCell ⟨b,k,none⟩ (.int .u64 (v:Nat))) b t:=
 ⟨by rw[heap_setCell_same w b k (row s) _ _ h.heap,zk4 s t k v ht hv]⟩
theorem zJ.kept{s:Nat→Bool}(h:zJ w b s)(k:zc L w w')(hb:b ∉ L):zJ w' b s:=
 ⟨by rw[k.block b h.lt hb];exact h.heap⟩
theorem zJ.drewN{s:Nat→Bool}(h:zJ w b s)(n:Nat):zJ (w.drewN n) b s:=⟨h.heap⟩
def Ze(w:World):Prop:=∀ j,j<64→w.cell? ⟨1,j,none⟩=some (.int .u8 (Go.Lib.deBruijn64tab.getD j 0))
theorem Ze.kept(h:Ze w)(k:zc L w w')(hn:1 ∉ L):Ze w':=by
 intro j hj;have hc:=h j hj;rw[k.cell (p:=⟨1,j,none⟩) (block_lt_of_cell hc) hn];exact hc
theorem Ze.drewN(h:Ze w)(n:Nat):Ze (w.drewN n):=h
theorem zj1(x k idx:Nat)(w:World)(hx0:((x:Int) == 0)=false)
  (key:IntKind.u64.wrap (bits BinOp.and IntKind.u64 (x:Int) (IntKind.u64.wrap (-(x:Int))) * 285870213051353865) / 288230376151711744=(idx:Int))
  (hi:idx<64) (hk:k<64) (hcell:w.cell? ⟨1,idx,none⟩=some (.int .u8 k)):
  Calls Tryz.prog 245 #[.int .u64 x] w fun e w'=>e=.returned (int i64 k)∧w'=w:=by
 go_enter Tryz.func245,Tryz.ntmps245;go_wp2_with (simp only[key]);go_ret;exact ⟨rfl,rfl⟩
theorem zlx(x a:Nat)(hx:x<18446744073709551616)(hx0:x≠0)(hlow:x &&& (18446744073709551616 - x)=a):
  IntKind.u64.wrap (bits BinOp.and IntKind.u64 (x:Int) (IntKind.u64.wrap (-(x:Int))) * 285870213051353865) / 288230376151711744=((a * 285870213051353865 % 18446744073709551616 / 288230376151711744:Nat):Int):=by
 have e1:IntKind.u64.wrap (-(x:Int))=((18446744073709551616 - x:Nat):Int):=by rw[IntKind.wrap_u64];omega
 rw[e1,u64_and_nat x _ hx (by omega),hlow,IntKind.wrap_u64];omega
theorem zmA(x:Nat)(w:World)(hx:x<18446744073709551616)(hx0:x≠0)(hT:Ze w):
  Calls Tryz.prog 245 #[.int .u64 (x:Int)] w fun e w'=>e=.returned (int i64 (Go.Lib.ctz 64 x:Nat))∧w'=w:=by
 obtain ⟨hlow,hk⟩:=Go.Lib.lowest_bit 64 x hx0 hx;obtain ⟨hi,htab⟩:=Go.Lib.deBruijn64_at _ hk;have hc:=hT _ hi;rw[htab] at hc;exact zj1 x _ _ w (by simp;omega) (zlx x _ hx hx0 hlow) hi hk hc
def wb(bf:Nat→Nat):Nat→Nat→List Nat
 | 0,y=>[y]
 | d+1,y=>y :: wb bf d (bf y)
def num(c:Nat→Nat):Nat→Value:=fun i=>int i64 ((c i:Nat):Int)
def zbc(w:World)(B:Nat)(a:Option Addr)(zs:List Int):Prop:=
 zs=[]∨∃ b off,a=some ⟨b,off,none⟩∧b<B∧∀ i,i<zs.length→w.cell? ⟨b,off+i,none⟩=some (int i64 (zs.getD i 0))
def ze6(w:World)(B:Nat)(a:Option Addr)(xs:List (List Int)):Prop:=
 xs=[]∨∃ b off,a=some ⟨b,off,none⟩∧b<B∧∀ j,j<xs.length→∃ ai ci,w.cell? ⟨b,off+j,none⟩=some (.slice ai (xs.getD j []).length ci)∧zbc w B ai (xs.getD j [])
theorem zbc.kept{zs:List Int}(h:zbc w B a zs)(k:zc L w w')(hL:∀ x,x∈L→B≤x):zbc w' B a zs:=by
 rcases h with h | ⟨b,off,rfl,hb,h⟩
 ·exact Or.inl h
 ·refine Or.inr ⟨b,off,rfl,hb,fun i hi=> ?_⟩
  have hc:=h i hi;rw[k.cell (p:=⟨b,off+i,none⟩) (block_lt_of_cell hc) (fun hx=>Nat.not_lt.2 (hL b hx) hb)];exact hc
theorem ze6.kept{xs:List (List Int)}(h:ze6 w B a xs)(k:zc L w w')(hL:∀ x,x∈L→B≤x):ze6 w' B a xs:=by
 rcases h with h | ⟨b,off,rfl,hb,h⟩
 ·exact Or.inl h
 ·refine Or.inr ⟨b,off,rfl,hb,fun j hj=> ?_⟩
  obtain ⟨ai,ci,hc,hi⟩:=h j hj;refine ⟨ai,ci,?_,hi.kept k hL⟩;rw[k.cell (p:=⟨b,off+j,none⟩) (block_lt_of_cell hc) (fun hx=>Nat.not_lt.2 (hL b hx) hb)];exact hc
theorem ze6.quiet{xs:List (List Int)}(h:ze6 w B a xs)(k:zc [] w w'):ze6 w' B a xs:=h.kept k (by simp)
theorem zd2(N n:Int)(a:Option Addr)(len cap:Nat)(w:World)(h0:0≤n)(h1:n<N):
  Calls Tryz.prog 201 #[agg #[int i64 N,.slice a len cap],int i64 n] w fun e w'=>e=.returned (.bool true)∧zc [] w w':=by
 go_enter Tryz.func201,Tryz.ntmps201;go_wp2;go_ret;exact ⟨rfl,zc.alloc _ _ _⟩
theorem zhb(N n:Int)(a:Option Addr)(len cap:Nat)(w:World)(h:¬ (0≤n∧n<N)):
  Calls Tryz.prog 201 #[agg #[int i64 N,.slice a len cap],int i64 n] w fun e w'=>e=.returned (.bool false)∧zc [] w w':=by
 by_cases h0:0≤n
 ·have h1:¬ n<N:=fun h1=>h ⟨h0,h1⟩
  clear h;go_enter Tryz.func201,Tryz.ntmps201;go_wp2;go_ret;exact ⟨rfl,zc.alloc _ _ _⟩
 ·clear h
  go_enter Tryz.func201,Tryz.ntmps201;go_wp2;go_ret;exact ⟨rfl,zc.alloc _ _ _⟩
structure zn7 (N:Int) (xs:List (List Int)):Prop where
 low:0≤N
 high:N≤600
 len:(xs.length:Int)=N
 all:∀ j,j<xs.length→∀ i,i<(xs.getD j []).length→0≤(xs.getD j []).getD i 0∧(xs.getD j []).getD i 0<N
theorem zge(w:World)(x y:Value)(t:TypeId):(w.alloc (Obj.cells #[x,y] t)).cell? ⟨w.heap.size,0,none⟩=some x∧(w.alloc (Obj.cells #[x,y] t)).cell? ⟨w.heap.size,1,none⟩=some y:=
 ⟨by rw[cell_of_row _ _ 0 _ _ _ (heap_alloc_new w _)];rfl,by rw[cell_of_row _ _ 1 _ _ _ (heap_alloc_new w _)];rfl⟩
structure Js (w:World) (b:Nat) (N:Int) (a:Option Addr) (n cap:Nat):Prop where
 c0:w.cell? ⟨b,0,none⟩=some (int i64 N)
 c1:w.cell? ⟨b,1,none⟩=some (.slice a n cap)
theorem Js.lt{N:Int}{cap:Nat}(h:Js w b N a n cap):b<w.heap.size:=block_lt_of_cell h.c0
theorem Js.kept{N:Int}{cap:Nat}(h:Js w b N a n cap)(k:zc L w w')(hb:b ∉ L):Js w' b N a n cap:=
 ⟨by rw[k.cell (p:=⟨b,0,none⟩) h.lt hb];exact h.c0,by rw[k.cell (p:=⟨b,1,none⟩) h.lt hb];exact h.c1⟩
theorem Js.new(w:World)(N:Int)(a:Option Addr)(n cap:Nat):Js (w.alloc (Obj.cells #[int i64 N,.slice a n cap] 195)) w.heap.size N a n cap:=
 ⟨(zge w _ _ _).1,(zge w _ _ _).2⟩
theorem ze6.at{xs:List (List Int)}(h:ze6 w B a xs)(hk:k<xs.length):∃ b off ai ci,a=some ⟨b,off,none⟩∧w.cell? ⟨b,off+k,none⟩=some (.slice ai (xs.getD k []).length ci)∧zbc w B ai (xs.getD k []):=by
 rcases h with h | ⟨b,off,h1,_,h3⟩
 ·rw[h] at hk;simp at hk
 ·obtain ⟨ai,ci,h4,h5⟩:=h3 k hk
  exact ⟨b,off,ai,ci,h1,h4,h5⟩
theorem zbc.at{zs:List Int}(h:zbc w B a zs)(hk:k<zs.length):∃ b off,a=some ⟨b,off,none⟩∧w.cell? ⟨b,off+k,none⟩=some (int i64 (zs.getD k 0)):=by
 rcases h with h | ⟨b,off,h1,_,h3⟩
 ·rw[h] at hk;simp at hk
 ·exact ⟨b,off,h1,h3 k hk⟩
theorem zib(N:Int)(a:Option Addr)(n cap B:Nat)(xs:List (List Int))(w:World)(hL:ze6 w B a xs)(hnn:xs.length=n)(h0:0≤N)(h1:N≤600)(h2:(n:Int)=N)(hi:∀ j,(xs.getD j []).length≤1000000):
  Calls Tryz.prog 132 #[agg #[int i64 N,.slice a n cap]] w fun e w'=>(e=.returned (.bool true)∧zn7 N xs∨e=.returned (.bool false)∧¬ zn7 N xs)∧zc [] w w':=by
 have hn:¬ N<0:=by omega
 have hg:¬ 600<N:=by omega
 have hb:(((n:Nat):Int) != N)=false:=by simp[h2]
 have hl6:n≤600:=by omega
 have HN:=hid hnn;have H2:=hid h2;have HI:=hid hi;have hk1:zc [] w (w.alloc (Obj.cells #[int i64 N,.slice a n cap] 195)):=zc.alloc _ _ _;have HB1:=hid (Js.new w N a n cap);have HL1:=hid (hL.quiet hk1);clear hL hi h2 hnn;go_enter Tryz.func132,Tryz.ntmps132;go_wp2;generalize w.alloc (Obj.cells #[int i64 N,.slice a n cap] 195)=w1 at hk1 HB1 HL1 ⊢;generalize w.heap.size=b at HB1 ⊢
 go_loopw [26] (fun i wr=>∃ k:Nat,k≤n∧i=int i64 k∧zc [] w1 wr∧Box (∀ j,j<k→∀ i,i<(xs.getD j []).length→0≤(xs.getD j []).getD i 0∧(xs.getD j []).getD i 0<N)) (fun i _=>n - (intOf i).toNat)
 case atStart=>exact ⟨0,by omega,rfl,zc.refl _ _,hid (fun j hj=>by omega)⟩
 case round=>
  obtain ⟨k,hk,rfl,hkw,HA⟩:=hrel;by_cases hlt:k<n
  ·obtain ⟨bl,off,ai,ci,rfl,hc,hin⟩:=(HL1.o.quiet hkw).at (k:=k) (by rw[HN.o];exact hlt)
   have HI1:=hid hin;have hlen:=HI.o k;obtain ⟨l,hl⟩:∃ l,xs.getD k []=l:=⟨_,rfl⟩;rw[hl] at hc HI1 hlen;have HX:=hid hl;clear hin hl;go_wp2
   go_loopw [32] (fun i wr2=>∃ m:Nat,m≤l.length∧i=int i64 m∧zc [] wr wr2∧Box (∀ i,i<m→0≤l.getD i 0∧l.getD i 0<N)) (fun i _=>l.length - (intOf i).toNat)
   case atStart=>exact ⟨0,by omega,rfl,zc.refl _ _,hid (fun j hj=>by omega)⟩
   case round=>
    clear hc;obtain ⟨m,hm,rfl,hkw2,HA2⟩:=hrel;have hlt':(k:Int)<(n:Int):=by omega
    by_cases hml:m<l.length
    ·obtain ⟨bm,om,rfl,hcm⟩:=(HI1.o.kept hkw2 (by simp)).at hml
     have hbx:=HB1.o.kept (hkw.quiet hkw2) (by simp);have hc0:=hbx.c0;have hc1:=hbx.c1;clear hbx;obtain ⟨x,hx⟩:∃ x,l.getD m 0=x:=⟨_,rfl⟩;rw[hx] at hcm;have HXX:=hid hx;clear hx;by_cases hok:0≤x∧x<N
     ·have HC:Box (∀ w,Calls Tryz.prog 201 #[agg #[int i64 N,.slice (some ⟨bl,off,none⟩) n cap],int i64 x] w fun e w'=>e=.returned (.bool true)∧zc [] w w'):=hid (fun w=>zd2 N x _ n cap w hok.1 hok.2)
      go_wp2_with (go_at_call 201;refine (HC.o _).mono ?_;rintro e w3 ⟨rfl,hk3⟩);go_roundw
      case rel=>exact ⟨m+1,by omega,by go_num,hkw2.quiet hk3,hid (fun i hi=>by
       by_cases e:i=m
       ·subst e;rw[HXX.o];exact hok
       ·exact HA2.o i (by omega))⟩
      case measure=>simp[intOf];omega
     ·have HC:Box (∀ w,Calls Tryz.prog 201 #[agg #[int i64 N,.slice (some ⟨bl,off,none⟩) n cap],int i64 x] w fun e w'=>e=.returned (.bool false)∧zc [] w w'):=hid (fun w=>zhb N x _ n cap w hok)
      have HOK:=hid hok;clear hok;go_wp2_with (go_at_call 201;refine (HC.o _).mono ?_;rintro e w3 ⟨rfl,hk3⟩);go_ret;refine ⟨.inr ⟨rfl,fun hmay=>HOK.o ?_⟩,((hk1.quiet hkw).quiet hkw2).quiet hk3⟩;have:=hmay.all k (by rw[HN.o];exact hlt) m (by rw[HX.o];exact hml);rw[HX.o,HXX.o] at this;exact this
    ·obtain rfl:m=l.length:=by omega
     go_wp2;go_roundw
     case rel=>exact ⟨k+1,by omega,by go_num,hkw.quiet hkw2,hid (fun j hj=>by
      by_cases e:j=k
      ·subst e;rw[HX.o];exact HA2.o
      ·exact HA.o j (by omega))⟩
     case measure=>simp[intOf];omega
  ·obtain rfl:k=n:=by omega
   go_wp2;go_ret;exact ⟨.inl ⟨rfl,h0,h1,by rw[HN.o];exact H2.o,by rw[HN.o];exact HA.o⟩,hk1.quiet hkw⟩
def jE(l:List Nat):List Value:=l.map fun n:Nat=>int i64 (n:Int)
theorem qu:Tryz.t3.zero=some (int i64 0):=by kernel_rfl
theorem qs:Tryz.t3.size=1:=by kernel_rfl
theorem zX:Tryz.t3.bytes=8:=by kernel_rfl
theorem zU:Tryz.prog.info? 3=some Tryz.t3:=by kernel_rfl
theorem zE:Tryz.prog.underlying 36=some (.slice 3):=by kernel_rfl
theorem zht(a:Int)(w:World):
  Calls Tryz.prog 203 #[int i64 a] w fun e w'=>e=.returned (.bool (decide (0≤a∧a<5000)))∧w'=w:=by
 by_cases h0:0≤a <;> by_cases h1:a<5000 <;> (go_enter Tryz.func203,Tryz.ntmps203;go_wp2;go_ret;exact ⟨by simp[h0,h1],rfl⟩)
theorem zc8(n:Nat)(w:World)(h:n<5000):
  Calls Tryz.prog 203 #[int i64 (n:Int)] w fun e w'=>e=.returned (.bool true)∧w'=w:=
 (zht n w).mono fun e w' ⟨he,hw⟩=>⟨by rw[he];simp;omega,hw⟩
theorem zjr(a:Int)(w:World)(h:¬ (0≤a∧a<5000)):
  Calls Tryz.prog 203 #[int i64 a] w fun e w'=>e=.returned (.bool false)∧w'=w:=
 (zht a w).mono fun e w' ⟨he,hw⟩=>⟨by rw[he];simp;omega,hw⟩
theorem zfU(n:Nat)(w:World)(h1:n<5000):
  Calls Tryz.prog 204 #[int i64 n] w fun e w'=>e=.returned (.tuple #[int i64 ((n:Int) / 64),.int .u64 (IntKind.u64.wrap (2 ^ ((n:Int) % 64).toNat))])∧∃ m,w'=w.drewN m:=by
 go_enter Tryz.func204,Tryz.ntmps204;go_wp2;go_quiet (fail);go_wp2
 go_ret2
 exact ⟨rfl,_,rfl⟩
theorem zbV(n:Nat)(w:World)(h1:n<5000):
  Calls Tryz.prog 204 #[int i64 n] w fun e w'=>∃ k p:Nat,e=.returned (.tuple #[int i64 k,.int .u64 p])∧k<79∧p<18446744073709551616∧Box (k=n / 64∧p=2 ^ (n % 64))∧∃ m,w'=w.drewN m:=by
 refine (zfU n w h1).mono fun e w' ⟨he,hw⟩=> ?_;have hp:2 ^ (n % 64)<18446744073709551616:=Qk (Nat.mod_lt _ (by decide));refine ⟨n / 64,2 ^ (n % 64),?_,by omega,hp,hid ⟨rfl,rfl⟩,hw⟩;have e1:((n:Int) % 64).toNat=n % 64:=by omega
 have e2:IntKind.u64.wrap (2 ^ (n % 64))=((2 ^ (n % 64):Nat):Int):=by
  rw[IntKind.wrap_u64];have:((2 ^ (n % 64):Nat):Int)=(2:Int) ^ (n % 64):=by simp
  rw[← this];generalize 2 ^ (n % 64)=q at hp;omega
 rw[he,e1,e2];rfl
theorem zkq(b:Nat)(a:Int)(w:World)(h:¬ (0≤a∧a<5000)):
  Calls Tryz.prog 134 #[pointer (some ⟨b,0,none⟩),int i64 a] w fun e w'=>e=.returned (.bool false)∧w'=w:=by
 have H:=hid h;clear h;go_enter Tryz.func134,Tryz.ntmps134;go_wp2_with (go_at_call 203;refine (zjr _ _ H.o).mono ?_;rintro e w' ⟨rfl,rfl⟩);go_ret;exact ⟨rfl,rfl⟩
theorem zhJ(b n k p x y:Nat)(w:World)(h:n<5000)(hk:k<79)(hy:bits BinOp.and IntKind.u64 (x:Int) (p:Int)=(y:Int))(hc:w.cell? ⟨b,k,none⟩=some (.int .u64 x))
  (hpl:∀ w1,Calls Tryz.prog 204 #[int i64 n] w1 fun e w'=>e=.returned (.tuple #[int i64 k,.int .u64 p])∧∃ m,w'=w1.drewN m):
  Calls Tryz.prog 134 #[pointer (some ⟨b,0,none⟩),int i64 n] w fun e w'=>e=.returned (.bool ((y:Int) != 0))∧∃ m,w'=w.drewN m:=by
 have H:=hid hpl;clear hpl;go_enter Tryz.func134,Tryz.ntmps134;go_wp2_with fail;refine (zc8 n _ h).mono ?_;rintro e w' ⟨rfl,rfl⟩;go_wp2_with fail;refine (H.o _).mono ?_;rintro e w' ⟨rfl,m,rfl⟩;go_wp2;go_ret;exact ⟨rfl,_,rfl⟩
theorem Q3(b:Nat)(s:Nat→Bool)(a:Int)(w:World)(hs:zJ w b s)(hf:Fit s):
  Calls Tryz.prog 134 #[pointer (some ⟨b,0,none⟩),int i64 a] w fun e w'=>e=.returned (.bool (ZL s a))∧∃ m,w'=w.drewN m:=by
 by_cases h:0≤a∧a<5000
 ·obtain ⟨n,rfl⟩:=Int.eq_ofNat_of_zero_le h.1
  have hn:n<5000:=by omega
  have hp:2 ^ (n % 64)<18446744073709551616:=Qk (Nat.mod_lt _ (by decide));have hc:=hs.cell (k:=n / 64) (by omega);refine (zhJ b n (n / 64) (2 ^ (n % 64)) (wd s (n / 64)) (wd s (n / 64) &&& 2 ^ (n % 64)) w hn (by omega) (u64_and_nat _ _ (zcN s _) hp) hc (fun w1=> ?_)).mono fun e w' ⟨he,hw⟩=>⟨?_,hw⟩
  ·refine (zbV n w1 hn).mono ?_
   rintro e w' ⟨k,p,he,_,_,hh,hw⟩;obtain ⟨rfl,rfl⟩:=hh.o;exact ⟨he,hw⟩
  ·rw[he]
   have hb:=zlf s n;have e2:ZL s (n:Int)=s n:=by simp[ZL]
   rw[e2];generalize wd s (n / 64) &&& 2 ^ (n % 64)=y at hb;cases hsn:s n
   ·rw[hsn] at hb
    have:y=0:=by simpa using hb
    subst this;rfl
   ·rw[hsn] at hb
    have:y≠0:=hb.2 rfl;simp;omega
 ·refine (zkq b a w h).mono fun e w' ⟨he,hw⟩=>⟨?_,0,hw⟩
  rw[he];have:ZL s a=false:=by
   unfold ZL;by_cases h0:0≤a
   ·simp[h0,hf a.toNat (by omega)]
   ·simp[h0]
  rw[this]
section
open Go.ChangeShapes Go.WideShapes Go.ChangeAt
theorem zfD{n:Int}(h:(Lit.int .i64 n).wf=true):b64 n:=by
 have h1:(decide (IntKind.i64.min≤n) && decide (n≤IntKind.i64.max))=true:=h;have a:IntKind.i64.min= -9223372036854775808:=by decide
 have b:IntKind.i64.max=9223372036854775807:=by decide
 rw[a,b] at h1;simpa [b64] using h1
theorem zgo{α:Type}{Q:Nat→α→Prop}:∀ n,(∀ j,j<n→∃ y,Q j y)→∃ l:List α,l.length=n∧∀ j y,l[j]? = some y→Q j y
 | 0,_=>⟨[],rfl,fun j y h=>by simp at h⟩
 | n+1,h=>by
  obtain ⟨l,h1,h2⟩:=zgo n (fun j hj=>h j (by omega));obtain ⟨y,hy⟩:=h n (by omega);refine ⟨l ++ [y],by simp[h1],fun j z hz=> ?_⟩;by_cases e:j<l.length
  ·rw[List.getElem?_append_left e] at hz
   exact h2 j z hz
  ·rw[List.getElem?_append_right (by omega)] at hz
   have e0:j - l.length=0:=by
    apply Classical.byContradiction;intro hne;rw[List.getElem?_eq_none (by simp;omega)] at hz;cases hz
   rw[e0] at hz;simp at hz;rw[← hz,show j=n by omega];exact hy
section
variable {H:Type}{enc:TypeId × Value→H}{P:Program}{w:World}{spare:Nat→Bool}{held:Bool}{G:TypeId→DataW H→Prop}
structure Zw (P:Program) (G:TypeId→DataW H→Prop):Prop where
 slice:∀ {t e:TypeId}{elems rest:List (DataW H)}{d:DataW H},P.underlying t=some (.slice e)→G t (.slice elems rest)→d∈elems→G e d
 struct:∀ {t:TypeId}{fs:Array Field}{parts:List (DataW H)}{i:Nat}{f:Field}{d:DataW H},P.underlying t=some (.struct fs)→G t (.agg parts)→fs[i]? = some f→parts[i]? = some d→G f.type d
 ptr:∀ {t e:TypeId}{d:DataW H},P.underlying t=some (.pointer e)→G t (.ptr d)→G e d
def Zg{α:Type}(enc:TypeId × Value→H)(P:Program)(w:World)(spare:Nat→Bool)(held:Bool)(G:TypeId→DataW H→Prop)(e:TypeId)(R:World→Nat→Nat→α→Prop)(Q:α→Prop):Prop:=
 ∀ (fuel b o:Nat) (cs:List Value) (x:DataW H × List MemPlace),(∀ i,i<P.cellsOf e→w.cell? ⟨b,o+i,none⟩=cs[i]?)→DataW.trod enc P w 0 spare held fuel e cs=some x→G e x.1→∃ y:α,R w b o y∧Q y
theorem zgW{t:TypeId}(ht:P.underlying t=some (.int .i64))(hc:P.cellsOf t=1):Zg enc P w spare held G t ji (fun _=>True):=by
 intro fuel b o cs x hcell h _;obtain ⟨n,rfl,_,hw⟩:=DataW.trod_int ht h;refine ⟨n,⟨?_,zfD hw⟩,trivial⟩;have:=hcell 0 (by omega);rw[Nat.add_zero] at this;rw[this];rfl
theorem zbS{α:Type}{t e:TypeId}{R:World→Nat→Nat→α→Prop}{Q:α→Prop}(hG:Zw P G)(ht:P.underlying t=some (.slice e))(hpos:0<P.cellsOf e)(hR:Zg enc P w spare held G e R Q){fuel:Nat}{cs:List Value}{x:DataW H × List MemPlace}(h:DataW.trod enc P w 0 spare held fuel t cs=some x)(hg:G t x.1):
  ∃ (a:Option Addr) (cp:Nat) (l:List α),cs=[.slice a l.length cp]∧z7 w (P.cellsOf e) R a l∧l.length≤cp∧l.length≤maxLen∧(a=none→cp=0)∧(∀ (j:Nat) (y:α),l[j]? = some y→Q y)∧(l=[]∨∃ elems rest,x.1=.slice elems rest∧elems.length=l.length):=by
 rcases Deep.open_slice ht h with ⟨h1,_⟩ | ⟨a,len,cap,m,n,D,Pl,h1,_,h3,h4,h5,hx,h7⟩
 ·exact ⟨none,0,[],h1,.inl rfl,by simp,by simp,(fun _=>rfl),(fun j y hy=>by simp at hy),.inl rfl⟩
 ·have hm:len≤m:=by rw[h5];split <;> omega
  by_cases h0:len=0
  ·subst h0
   exact ⟨some a,cap,[],h1,.inl rfl,by simp,by simp,(fun e=>by cases e),(fun j y hy=>by simp at hy),.inl rfl⟩
  ·obtain ⟨b,off,spot⟩:=a
   obtain ⟨c0,g0,_⟩:=h7 0 (by omega);obtain ⟨_,gl,g1⟩:=World.cells?_some g0;have g2:=g1 0 hpos;rw[List.getElem?_eq_getElem (by omega)] at g2;have hspot:spot=none:=by simpa [Addr.add] using World.cell?_spot g2
   subst hspot;have hx1:x.1=.slice ((List.range len).map D) ((List.range (m - len)).map fun j=>D (len+j)):=by rw[hx]
   obtain ⟨l,hl,hq⟩:=zgo (Q:=fun j y=>R w b (off+j * P.cellsOf e) y∧Q y) len (fun j hj=>by
    obtain ⟨cj,g3,g4⟩:=h7 j (by omega);obtain ⟨_,g5,g6⟩:=World.cells?_some g3;refine hR n b (off+j * P.cellsOf e) cj _ (fun i hi=> ?_) g4 ?_
    ·have:=g6 i hi
     rw[add_plain,add_plain] at this;exact this
    ·rw[hx1] at hg
     exact hG.slice ht hg (List.mem_map.2 ⟨j,List.mem_range.2 hj,rfl⟩))
   exact ⟨some ⟨b,off,none⟩,cap,l,by rw[hl];exact h1,.inr ⟨b,off,rfl,fun j y hy=>(hq j y hy).1⟩,by omega,by omega,(fun e=>by cases e),(fun j y hy=>(hq j y hy).2),.inr ⟨_,_,hx1,by rw[List.length_map,List.length_range,hl]⟩⟩
theorem qZ{α:Type}{t e:TypeId}{R:World→Nat→Nat→α→Prop}{Q:α→Prop}{c:Nat}(hG:Zw P G)(ht:P.underlying t=some (.slice e))(hc:P.cellsOf e=c)(hpos:0<c)(h1:P.cellsOf t=1)(hR:Zg enc P w spare held G e R Q):Zg enc P w spare held G t (SlC c R) (fun l=>∀ (j:Nat) (y:α),l[j]? = some y→Q y):=by
 subst hc;intro fuel b o cs x hcell h hg;obtain ⟨a,cp,l,rfl,h2,h3,h4,_,h5,_⟩:=zbS hG ht hpos hR h hg;refine ⟨l,⟨a,cp,?_,h2,h3,h4⟩,h5⟩;have:=hcell 0 (by omega);rw[Nat.add_zero] at this;rw[this];rfl
theorem zcg{α:Type}{t e:TypeId}{R:World→Nat→Nat→α→Prop}{Q:α→Prop}{c N:Nat}(hG:Zw P G)(hN:∀ elems rest,G t (.slice elems rest)→elems.length≤N)(ht:P.underlying t=some (.slice e))(hc:P.cellsOf e=c)(hpos:0<c)(h1:P.cellsOf t=1)(hR:Zg enc P w spare held G e R Q):Zg enc P w spare held G t (SlC c R) (fun l=>l.length≤N):=by
 subst hc;intro fuel b o cs x hcell h hg;obtain ⟨a,cp,l,rfl,h2,h3,h4,_,_,h5⟩:=zbS hG ht hpos hR h hg;refine ⟨l,⟨a,cp,?_,h2,h3,h4⟩,?_⟩
 ·have:=hcell 0 (by omega)
  rw[Nat.add_zero] at this;rw[this];rfl
 ·rcases h5 with e | ⟨elems,rest,e1,e2⟩
  ·rw[e];exact Nat.zero_le _
  ·rw[e1] at hg
   rw[← e2];exact hN _ _ hg
theorem qC(hG:Zw P G){e:TypeId}{fs:Array Field}(hs:P.underlying e=some (.struct fs)){fuel b o:Nat}{cs:List Value}{x:DataW H × List MemPlace}(hcell:∀ i,i<P.cellsOf e→w.cell? ⟨b,o+i,none⟩=cs[i]?)(h:DataW.trod enc P w 0 spare held fuel e cs=some x)(hg:G e x.1):
  ∀ (i:Nat) (f:Field),fs[i]? = some f→f.offset+P.cellsOf f.type≤P.cellsOf e→∀ {α:Type}{R:World→Nat→Nat→α→Prop}{Q:α→Prop},Zg enc P w spare held G f.type R Q→∃ y:α,R w b (o+f.offset) y∧Q y:=by
 intro i f hf hle α R Q hR;obtain ⟨xs,n,_,hxx,hl,hxl,hx⟩:=DataW.trod_struct hs h;have hlt:i<fs.size:=(Array.getElem?_eq_some_iff.1 hf).1;have g:=hx i f hf;rw[List.getElem?_eq_getElem (by omega)] at g;refine hR n b (o+f.offset) _ _ (fun j hj=> ?_) g ?_
 ·rw[Nat.add_assoc,hcell (f.offset+j) (by omega),List.getElem?_take,if_pos hj,List.getElem?_drop]
 ·have hx1:x.1=.agg (xs.map (·.1)):=by rw[hxx]
  rw[hx1] at hg;refine hG.struct hs hg hf ?_;rw[List.getElem?_map,List.getElem?_eq_getElem (by omega)];rfl
end
end
def zf(p:Pr8)(f:Nat):Fu8:=p.funcs.getD f ⟨0,[],[]⟩
def zr(x:Fu8)(b:Nat):Bl8:=x.blocks.getD b ⟨[],0,0,0,0⟩
def zT(x:Bl8)(i:Nat):In8:=x.code.getD i ⟨0,0,0,0,0,[]⟩
def ptB(f b n:Nat):List (Nat × Nat × Nat):=(List.range n).map fun i=>(f,b,i)
def ptF(x:Fu8)(f m:Nat):List (Nat × Nat × Nat):=(List.range m).flatMap fun b=>ptB f b ((zr x b).code.length+1)
def ptP(p:Pr8)(k:Nat):List (Nat × Nat × Nat):=(List.range k).flatMap fun f=>ptF (zf p f) f (zf p f).blocks.length
def pts(p:Pr8):List (Nat × Nat × Nat):=ptP p p.funcs.length
theorem QN(f b:Nat):ptB f b 0=[]:=rfl
theorem jB(f b n:Nat):ptB f b (n+1)=ptB f b n ++ [(f,b,n)]:=by
 unfold ptB;rw[List.range_succ,List.map_append];rfl
theorem zaV(x:Fu8)(f:Nat):ptF x f 0=[]:=rfl
theorem qX(x:Fu8)(f m:Nat):ptF x f (m+1)=ptF x f m ++ ptB f m ((zr x m).code.length+1):=by
 unfold ptF;rw[List.range_succ,List.flatMap_append,List.flatMap_singleton]
theorem Z8(p:Pr8)(k:Nat):ptP p (k+1)=ptP p k ++ ptF (zf p k) k (zf p k).blocks.length:=by
 unfold ptP;rw[List.range_succ,List.flatMap_append,List.flatMap_singleton]
theorem zad(f b n:Nat):(ptB f b n).length=n:=by unfold ptB;rw[List.length_map,List.length_range]
theorem zhj{q:Nat × Nat × Nat}:q∈ptB f b n ↔ ∃ i,i<n∧q=(f,b,i):=by
 unfold ptB;rw[List.mem_map];constructor
 ·rintro ⟨i,h1,h2⟩
  exact ⟨i,List.mem_range.1 h1,h2.symm⟩
 ·rintro ⟨i,h1,h2⟩
  exact ⟨i,List.mem_range.2 h1,h2.symm⟩
theorem zcX{x:Fu8}{q:Nat × Nat × Nat}:q∈ptF x f m ↔ ∃ b i,b<m∧i≤(zr x b).code.length∧q=(f,b,i):=by
 unfold ptF;rw[List.mem_flatMap];constructor
 ·rintro ⟨b,h1,h2⟩
  obtain ⟨i,h3,h4⟩:=zhj.1 h2;exact ⟨b,i,List.mem_range.1 h1,by omega,h4⟩
 ·rintro ⟨b,i,h1,h2,h3⟩
  exact ⟨b,List.mem_range.2 h1,zhj.2 ⟨i,by omega,h3⟩⟩
def Zh(p:Pr8)(f b i:Nat):Prop:=f<p.funcs.length∧b<(zf p f).blocks.length∧i≤(zr (zf p f) b).code.length
theorem jQ{p:Pr8}{i:Nat}:((f,b,i):Nat × Nat × Nat)∈pts p ↔ Zh p f b i:=by
 unfold pts ptP Zh;rw[List.mem_flatMap];constructor
 ·rintro ⟨f',h1,h2⟩
  obtain ⟨b',i',h3,h4,h5⟩:=zcX.1 h2;have e1:f=f':=congrArg Prod.fst h5;have e2:b=b':=congrArg (fun q:Nat × Nat × Nat=>q.2.1) h5;have e3:i=i':=congrArg (fun q:Nat × Nat × Nat=>q.2.2) h5;subst e1 e2 e3;exact ⟨List.mem_range.1 h1,h3,h4⟩
 ·rintro ⟨h1,h2,h3⟩
  exact ⟨f,List.mem_range.2 h1,zcX.2 ⟨b,i,h2,h3,rfl⟩⟩
def znS(p:Pr8)(f b i:Nat):Nat:=(ptP p f).length+(ptF (zf p f) f b).length+i
theorem JX(x:Fu8)(f:Nat):∀ {b m:Nat},b<m→∃ r,ptF x f m=ptF x f b ++ (ptB f b ((zr x b).code.length+1) ++ r)
 | b,0,h=>absurd h (Nat.not_lt_zero _)
 | b,m+1,h=>by
  by_cases e:b=m
  ·subst e
   exact ⟨[],by rw[qX,List.append_nil]⟩
  ·obtain ⟨r,hr⟩:=JX x f (b:=b) (m:=m) (by omega)
   exact ⟨r ++ ptB f m ((zr x m).code.length+1),by rw[qX,hr];simp[List.append_assoc]⟩
theorem zd0{p:Pr8}(h:n<(pts p).length):∃ f b i,Zh p f b i∧(pts p)[n]? = some (f,b,i):=by
 have hm:(pts p)[n]∈pts p:=List.getElem_mem h;obtain ⟨f,b,i,e⟩:∃ f b i,(pts p)[n]=(f,b,i):=⟨(pts p)[n].1,(pts p)[n].2.1,(pts p)[n].2.2,rfl⟩;rw[e] at hm;exact ⟨f,b,i,jQ.1 hm,by rw[List.getElem?_eq_getElem h,e]⟩
theorem zj{F:List Nat}{size:Nat}{v:Value}{xs:List Value}(h:w.ownsRow base e size v n xs)(k:zc F w w')(hF:∀ b,v.ownBlock=some b→b ∉ F):w'.ownsRow base e size v n xs:=by
 refine ⟨h.1,?_⟩;rcases h.2 with hn | ⟨g,cap,cur,rfl,hb,hg,rest⟩
 ·exact .inl hn
 ·refine .inr ⟨g,cap,cur,rfl,hb,?_,rest⟩
  rw[k.block g (Array.getElem?_eq_some_iff.1 hg).1 (hF g rfl)];exact hg
structure qQ (w:World) (base p n:Nat) (T:TypeId) (c:Nat→Value):Prop where
 row:w.ownsRow base T 1 (.slice (some ⟨p,0,none⟩) n n) n ((List.range n).map c)
theorem qQ.cell{c:Nat→Value}(h:qQ w base p n T c)(hk:k<n):w.cell? ⟨p,k,none⟩=some (c k):=by
 rw[h.row.cellAt k (by omega),List.getElem?_map,List.getElem?_range hk];rfl
theorem qQ.frozen{c:Nat→Value}(h:qQ w base p n T c)(k:Nat):w.frozen? ⟨p,k,none⟩=false:=h.row.frozenAt k
theorem qQ.lt{c:Nat→Value}(h:qQ w base p n T c):base≤p∧p<w.heap.size:=h.row.lt p rfl
theorem qQ.kept{c:Nat→Value}(h:qQ w base p n T c)(k:zc L w w')(hp:p ∉ L):qQ w' base p n T c:=
 ⟨zj h.row k (fun b hb=>by simp[Value.ownBlock] at hb;subst hb;exact hp)⟩
theorem qQ.put{c:Nat→Value}(h:qQ w base p n T c)(k:Nat)(v:Value):qQ (w.setCell ⟨p,k,none⟩ v) base p n T (fun i=>if i=k then v else c i):=by
 refine ⟨?_⟩;have h1:=(h.row.stored k v).1;have e:((List.range n).map c).set k v=(List.range n).map (fun i=>if i=k then v else c i):=by
  apply List.ext_getElem?;intro i;rw[List.getElem?_set,List.getElem?_map,List.getElem?_map,List.length_map,List.length_range];by_cases hi:i<n
  ·rw[List.getElem?_range hi]
   by_cases e:k=i
   ·subst e;simp[hi]
   ·have:¬ i=k:=fun h=>e h.symm
    simp[e,this]
  ·rw[List.getElem?_eq_none (by simp;omega)]
   by_cases e:k=i
   ·subst e;simp[hi]
   ·simp[e]
 rw[e] at h1;exact h1
theorem qQ.congr{c d:Nat→Value}(h:qQ w base p n T c)(e:∀ i,i<n→c i=d i):qQ w base p n T d:=by
 refine ⟨?_⟩;have:(List.range n).map c=(List.range n).map d:=List.map_congr_left fun i hi=>e i (List.mem_range.1 hi);rw[← this];exact h.row
theorem zim(z:Value)(n:Nat)(hz:z.cells=#[z]):(madeCells z.cells (n * 1)).toList=(List.range n).map fun _=>z:=by
 rw[hz,Nat.mul_one];apply List.ext_getElem?;intro i;rw[List.getElem?_map];by_cases hi:i<n
 ·rw[List.getElem?_range hi]
  simp[madeCells,hi,Nat.mod_one]
 ·rw[List.getElem?_eq_none (by rw[Array.length_toList,size_madeCells];omega),List.getElem?_eq_none (by rw[List.length_range];omega)]
  rfl
theorem qQ.made{z:Value}(h:w.ownsRow base T 1 (.slice (some ⟨p,0,none⟩) n n) n (madeCells z.cells (n * 1)).toList)(hz:z.cells=#[z]):qQ w base p n T (fun _=>z):=by
 rw[zim z n hz] at h;exact ⟨h⟩
theorem zc.fresh{a b c:World}(h:zc [] a b)(k:zc L b c)(hL:∀ x,x∈L→a.heap.size≤x):zc [] a c:=
 h.trans k fun x hx hl=>absurd (hL x hx) (by omega)
def zmK(u:Nat):List UInt8:=if u<128 then [UInt8.ofNat u] else UInt8.ofNat (u % 128+128) :: zmK (u / 128)
termination_by u
decreasing_by omega
def znf(n:Int):Nat:=if n<0 then (-2 * n - 1).toNat else (2 * n).toNat
def zeQ(n:Int):List UInt8:=zmK (znf n)
section
variable {α β:Type}
structure Cd (E:α→List UInt8) (ok:α→Prop):Prop where
 pos:∀ x,0<(E x).length
 uniq:∀ x y R S,ok x→ok y→E x ++ R=E y ++ S→x=y∧R=S
def zc5(E:α→List UInt8)(F:β→List UInt8)(x:α × β):List UInt8:=E x.1 ++ F x.2
def jf(ok:α→Prop)(ok':β→Prop)(x:α × β):Prop:=ok x.1∧ok' x.2
def ziB(E:α→List UInt8)(l:List α):List UInt8:=zeQ (l.length:Int) ++ l.flatMap E
def QO(ok:α→Prop)(l:List α):Prop:=b64 (l.length:Int)∧∀ x,x∈l→ok x
def Stp(E:α→List UInt8)(ok:α→Prop)(s:Option (List UInt8))(x:α)(s':Option (List UInt8)):Prop:=
 ok x∧(s=none→s'=none)∧(∀ L R,s=some L→s'=some R→L=E x ++ R)∧(∀ L,s=some L→s'=none→∀ y R,ok y→L≠E y ++ R)
def zo4(s:Option (List UInt8))(n:Nat)(s':Option (List UInt8)):Prop:=
 (s'=none→n=0)∧(s=none→s'=none)∧(∀ L R,s=some L→s'=some R→L=zeQ (n:Int) ++ R∧n≤R.length)∧(∀ L,s=some L→s'=none→∀ (m:Nat) R,b64 (m:Int)→L=zeQ (m:Int) ++ R→R.length<m)
def zox(E:α→List UInt8)(ok:α→Prop)(s:Option (List UInt8))(n k:Nat)(l:List α)(s':Option (List UInt8)):Prop:=
 l.length=k∧(∀ x,x∈l→ok x)∧∃ L R,s=some L∧s'=some R∧L=zeQ (n:Int) ++ (l.flatMap E ++ R)
end
def znP:Int × Int→Prop:=jf b64 b64
def zk7:List (Int × Int)→Prop:=QO znP
def zll:List Int→List UInt8:=ziB zeQ
def zgq:List Int→Prop:=QO b64
def zok:List (Int × Int) × Int × Int→Prop:=jf zk7 znP
def imE:Int × Int × List Int→List UInt8:=zc5 zeQ (zc5 zeQ zll)
def zoq:Int × Int × List Int→Prop:=jf b64 (jf b64 zgq)
def inE(x:In8):List UInt8:=zc5 zeQ (zc5 zeQ (zc5 zeQ (zc5 zeQ (zc5 zeQ zll)))) (x.op,x.dst,x.a,x.b,x.n,x.args)
def znY(x:In8):Prop:=jf b64 (jf b64 (jf b64 (jf b64 (jf b64 zgq)))) (x.op,x.dst,x.a,x.b,x.n,x.args)
def zo8:List In8→List UInt8:=ziB inE
def zl7:List In8→Prop:=QO znY
def zoo(x:Bl8):Prop:=jf zl7 (jf b64 (jf b64 (jf b64 b64))) (x.code,x.fin,x.reg,x.to,x.els)
def zna:List Bl8→Prop:=QO zoo
def znW(x:Fu8):Prop:=jf b64 (jf zk7 zna) (x.sig,x.regs,x.blocks)
def zl5:List (List (Int × Int))→Prop:=QO zk7
def znp:List (List (Int × Int) × Int × Int)→Prop:=QO zok
def zot:List (List Int)→List UInt8:=ziB zll
def zn6:List (List Int)→Prop:=QO zgq
def zo2:List (Int × Int × List Int)→List UInt8:=ziB imE
def zn1:List (Int × Int × List Int)→Prop:=QO zoq
def znv:List Fu8→Prop:=QO znW
def zo6(x:Pr8):Prop:=jf zl5 (jf znp (jf zn6 (jf zn1 (jf znv b64)))) (x.recs,x.sigs,x.ifs,x.ims,x.funcs,x.main)
def zM:Nat→Bool:=fun _=>false
theorem ziE:row zM=Array.replicate 79 (.int .u64 0):=by
 apply Array.ext_getElem?;intro i;by_cases hi:i<79
 ·rw[zaX zM i hi]
  have:wd zM i=0:=zcI i;rw[this];simp[hi]
 ·rw[Array.getElem?_eq_none (by rw[QU];omega),Array.getElem?_eq_none (by simp;omega)]
theorem zbA(w:World):(zeroValue 272).run Tryz.prog w=.ok (.agg (Array.replicate 79 (.int .u64 0))) w:=by kernel_rfl
theorem zdN(w:World):(zeroValue 272).run Tryz.prog w=.ok (.agg (row zM)) w:=by rw[ziE];exact zbA w
theorem zbC(w:World)(s:Nat→Bool):zJ (w.alloc (.cells (row s) 272)) w.heap.size s:=⟨heap_alloc_new w _⟩
theorem QV:Fit zM:=fun _ _=>rfl
theorem zdl(a:Option Addr)(cap:Nat)(w:World):
  Calls Tryz.prog 244 #[.slice a 0 cap] w fun e w'=>e=.returned (pointer (some ⟨w.heap.size,0,none⟩))∧zJ w' w.heap.size zM∧zc [] w w':=by
 have hzero:=zdN;have hnew:=hid (zbC w zM);have hkn:zc [] w (w.alloc (Obj.cells (row zM) 272)):=zc.alloc _ _ _;go_enter Tryz.func244,Tryz.ntmps244;go_wp2_with fail;generalize w.alloc (Obj.cells (row zM) 272)=w1 at hnew hkn ⊢;generalize row zM=R
 go_loop [10] (fun i=>i=int i64 0) (fun _=>0)
 case atStart=>rfl
 case round=>
  subst hrel;go_wp2;go_ret;exact ⟨rfl,hnew.o,hkn⟩
theorem zln(v1 v2:Option Addr)(n1 n2 c1 c2:Nat)(w:World)(h:n1≠n2):
  Calls Tryz.prog 36 #[.slice v1 n1 c1,.slice v2 n2 c2] w fun e w'=>e=.returned (.bool false)∧w'=w:=by
 have hb:((n1:Int) != (n2:Int))=true:=by rw[bne_iff_ne];omega
 have H:=hid h;clear h;go_enter Tryz.func36,Tryz.ntmps36;go_wp2;go_ret;exact ⟨rfl,rfl⟩
theorem zhM(v1 v2:Option Addr)(c1 c2:Nat)(w:World):
  Calls Tryz.prog 36 #[.slice v1 0 c1,.slice v2 0 c2] w fun e w'=>e=.returned (.bool true)∧w'=w:=by
 go_enter Tryz.func36,Tryz.ntmps36;go_wp2
 go_loop [5] (fun i=>i=int i64 0) (fun _=>0)
 case atStart=>rfl
 case round=>
  subst hrel;go_wp2;go_ret;exact ⟨rfl,rfl⟩
theorem zgX{xs ys:List Int}(h1:k<xs.length)(h2:k<ys.length)(h:xs.take k=ys.take k)(he:xs.getD k 0=ys.getD k 0):xs.take (k+1)=ys.take (k+1):=by
 rw[List.take_succ_eq_append_getElem h1,List.take_succ_eq_append_getElem h2,h];simp[List.getD,List.getElem?_eq_getElem h1,List.getElem?_eq_getElem h2] at he;rw[he]
theorem zmu(b1 o1 b2 o2 n c1 c2:Nat)(xs ys:List Int)(w:World)(hx:xs.length=n)(hy:ys.length=n)(hn:n≤1000000)
  (g1:∀ i,i<n→w.cell? ⟨b1,o1+i,none⟩=some (int i64 (xs.getD i 0))) (g2:∀ i,i<n→w.cell? ⟨b2,o2+i,none⟩=some (int i64 (ys.getD i 0))):
  Calls Tryz.prog 36 #[.slice (some ⟨b1,o1,none⟩) n c1,.slice (some ⟨b2,o2,none⟩) n c2] w fun e w'=>e=.returned (.bool (decide (xs=ys)))∧∃ m,w'=w.drewN m:=by
 have HX:=hid hx;have HY:=hid hy;have G1:=hid g1;have G2:=hid g2;clear hx hy g1 g2;have hb:((n:Int) != (n:Int))=false:=by simp
 go_enter Tryz.func36,Tryz.ntmps36;go_wp2
 go_loopw [5] (fun i wr=>∃ k m:Nat,k≤n∧i=int i64 k∧wr=w.drewN m∧Box (xs.take k=ys.take k)) (fun i _=>n - (intOf i).toNat)
 case atStart=>exact ⟨0,0,by omega,rfl,rfl,hid rfl⟩
 case round=>
  obtain ⟨k,m,hk,rfl,rfl,ht⟩:=hrel;by_cases hlt:k<n
  ·have e1:=G1.o k hlt
   have e2:=G2.o k hlt;have hlt':(k:Int)<(n:Int):=by omega
   by_cases heq:xs.getD k 0=ys.getD k 0
   ·have hs:=hid (zgX (by rw[HX.o];exact hlt) (by rw[HY.o];exact hlt) ht.o heq)
    rw[heq] at e1;clear heq;generalize ys.getD k 0=y at e1 e2;have hbe:(y != y)=false:=by simp
    go_wp2;go_quiet (fail);go_wp2;go_roundw
    case rel=>exact ⟨k+1,_,by omega,by go_num,rfl,hs⟩
    case measure=>simp[intOf];omega
   ·have hne:Box (xs≠ys):=hid fun e=>heq (by rw[e])
    generalize ys.getD k 0=y at e2 heq;generalize xs.getD k 0=x at e1 heq;have hbe:(x != y)=true:=by rw[bne_iff_ne];exact heq
    clear heq;go_wp2;go_quiet (fail);go_wp2;go_ret;exact ⟨by rw[decide_eq_false hne.o];rfl,_,World.drewN_drewN _ _ _⟩
  ·obtain rfl:k=n:=by omega
   have hxy:Box (xs=ys):=hid (by
    have:=ht.o;rw[List.take_of_length_le (by rw[HX.o];omega),List.take_of_length_le (by rw[HY.o];omega)] at this
    exact this)
   go_wp2;go_ret;exact ⟨by rw[decide_eq_true hxy.o];rfl,_,rfl⟩
theorem zmg(v1 v2:Option Addr)(c1 c2:Nat)(xs ys:List Int)(w:World)(h1:zw w v1 xs)(h2:zw w v2 ys)(l2:ys.length≤1000000):
  Calls Tryz.prog 36 #[.slice v1 xs.length c1,.slice v2 ys.length c2] w fun e w'=>e=.returned (.bool (decide (xs=ys)))∧∃ m,w'=w.drewN m:=by
 by_cases hlen:xs.length=ys.length
 ·by_cases h0:xs.length=0
  ·have ex:xs=[]:=List.eq_nil_of_length_eq_zero h0
   have ey:ys=[]:=List.eq_nil_of_length_eq_zero (by omega);subst ex ey;exact (zhM v1 v2 c1 c2 w).mono fun e w' ⟨he,hw⟩=>⟨by rw[he];rfl,0,hw⟩
  ·rcases h1 with rfl | ⟨b1,o1,rfl,g1⟩
   ·simp at h0
   ·rcases h2 with rfl | ⟨b2,o2,rfl,g2⟩
    ·simp at hlen;simp[hlen] at h0
    ·have h:=zmu b1 o1 b2 o2 ys.length c1 c2 xs ys w hlen rfl l2 (fun i hi=>g1 i (by omega)) g2
     rw[hlen];exact h
 ·refine (zln v1 v2 _ _ c1 c2 w hlen).mono fun e w' ⟨he,hw⟩=>⟨?_,0,hw⟩
  rw[he,decide_eq_false (fun e=>hlen (by rw[e]))]
def inB(k:Int)(n:Nat):Bool:=decide (0≤k) && decide (k<(n:Int))
theorem zcP{k:Int}(h1:0≤k)(h2:k<(n:Int)):inB k n=true:=by unfold inB;simp[h1,h2]
theorem zdK{k:Int}(h:¬ (0≤k∧k<(n:Int))):inB k n=false:=by
 unfold inB;by_cases h1:0≤k
 ·have h2:¬ k<(n:Int):=fun h2=>h ⟨h1,h2⟩
  simp[h2]
 ·simp[h1]
theorem zt{k:Int}:inB k n=true ↔ 0≤k∧k<(n:Int):=by unfold inB;simp
def qF{α:Type}(l:List α)(m:Nat)(g:α→Bool):Bool:=decide (l.length≤m) && l.all g
theorem qj{α:Type}{l:List α}{g:α→Bool}(h:m<l.length):qF l m g=false:=by
 unfold qF;have:¬ l.length≤m:=by omega
 simp[this]
theorem qv{α:Type}{l:List α}{g:α→Bool}{y:α}(hy:l[k]? = some y)(hg:g y=false):qF l m g=false:=by
 unfold qF;have h1:l.all g=false:=by
  rw[List.all_eq_false];exact ⟨y,List.mem_of_getElem? hy,by simp[hg]⟩
 rw[h1,Bool.and_false]
theorem qi{α:Type}{l:List α}{g:α→Bool}(h:l.length≤m)(hg:∀ (k:Nat) (y:α),l[k]? = some y→g y=true):qF l m g=true:=by
 unfold qF;have h1:l.all g=true:=by
  rw[List.all_eq_true];intro y hy;obtain ⟨k,hk⟩:=List.getElem?_of_mem hy;exact hg k y hk
 simp[h,h1]
theorem jD{α:Type}{l:List α}{g:α→Bool}(h:qF l m g=true):l.length≤m:=by
 unfold qF at h;simp at h;exact h.1
theorem Za{α:Type}{l:List α}{g:α→Bool}(h:qF l m g=true){y:α}(hy:l[k]? = some y):g y=true:=by
 unfold qF at h;rw[Bool.and_eq_true] at h;exact List.all_eq_true.1 h.2 y (List.mem_of_getElem? hy)
theorem j7{α:Type}{l:List α}{g:α→Bool}{y:α}(hy:l[k]? = some y)(hg:g y=false):l.all g=false:=by
 rw[List.all_eq_false];exact ⟨y,List.mem_of_getElem? hy,by simp[hg]⟩
theorem qW{α:Type}{l:List α}{g:α→Bool}(hg:∀ (k:Nat) (y:α),l[k]? = some y→g y=true):l.all g=true:=by
 rw[List.all_eq_true];intro y hy;obtain ⟨k,hk⟩:=List.getElem?_of_mem hy;exact hg k y hk
theorem Jv{α:Type}{l:List α}{g:α→Bool}(h:l.all g=true){y:α}(hy:l[k]? = some y):g y=true:=List.all_eq_true.1 h y (List.mem_of_getElem? hy)
def zdC(i:In8):Bool:=decide (i.args.length≤4)
def zbZ(b:Bl8):Bool:=qF b.code 30 zdC
def fnB(f:Fu8):Bool:=decide (f.regs.length≤16) && (decide (0<f.blocks.length) && qF f.blocks 12 zbZ)
def zc7(r:List (Int × Int)):Bool:=decide (r.length≤4)
def zcw(s:List (Int × Int) × Int × Int):Bool:=decide (s.1.length≤4)
def ifB(f:List Int):Bool:=decide (f.length≤3)
def imB(m:Int × Int × List Int):Bool:=decide (m.2.2.length≤3)
def zen(P:Pr8):Bool:=decide (0<P.funcs.length) && (qF P.recs 6 zc7 && (qF P.sigs 10 zcw && (qF P.ifs 4 ifB && (qF P.ims 12 imB && qF P.funcs 12 fnB))))
def Jw(P:Pr8)(q:Nat × Nat × Nat):Bool:=decide (q.2.2<(zr (zf P q.1) q.2.1).code.length) && decide ((zT (zr (zf P q.1) q.2.1) q.2.2).op=5)
def jA(P:Pr8)(l:List (Nat × Nat × Nat)):Nat:=l.countP (Jw P)
theorem zae(P:Pr8)(l:List (Nat × Nat × Nat)):jA P l≤l.length:=List.countP_le_length
theorem JR(P:Pr8)(l:List (Nat × Nat × Nat))(q:Nat × Nat × Nat):jA P (l ++ [q])=jA P l+(if Jw P q then 1 else 0):=by
 unfold jA;rw[List.countP_append,List.countP_singleton]
def qJ(P:Pr8):Bool:=zen P && (decide ((pts P).length≤600) && decide (jA P (pts P)≤40))
def tyB(P:Pr8)(t:Int × Int):Bool:=
 if t.1=0 then decide (t.2=0) else if t.1=1 then inB t.2 P.recs.length else if t.1=2 then inB t.2 P.sigs.length else if t.1=3 then inB t.2 P.ifs.length else false
def QA(P:Pr8)(l:List (Int × Int)):Bool:=l.all (tyB P)
def Zp(l:List Int)(n:Nat):Bool:=l.all fun k=>inB k n
def ze7(P:Pr8)(s:List (Int × Int) × Int × Int):Bool:=QA P s.1 && tyB P s.2
def zec(P:Pr8)(m:Int × Int × List Int):Bool:=inB m.1 P.recs.length && (inB m.2.1 P.ifs.length && Zp m.2.2 P.funcs.length)
def zF(P:Pr8):Bool:=P.recs.all (QA P) && (P.sigs.all (ze7 P) && (P.ifs.all (fun l=>Zp l P.sigs.length) && P.ims.all (zec P)))
theorem zV(w:World):Calls Tryz.prog 75 #[] w fun e w'=>e=.returned (agg #[int i64 (-1),int i64 0,int i64 0])∧zc [] w w':=by
 go_enter Tryz.func75,Tryz.ntmps75;go_wp2_with fail;exact bodyPost_ret (v:=agg #[int i64 (-1),int i64 0,int i64 0]) (by simp[results,Tryz.results75,go_sem]) rfl ⟨rfl,zc.alloc _ _ _⟩
end Go.Proofs.YthflgjkmbakedaaGreatDoor
