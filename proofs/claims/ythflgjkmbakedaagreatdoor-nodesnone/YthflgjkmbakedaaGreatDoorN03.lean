import Derived.Deep.QuietTactic
import Derived.BigQuiet
import Derived.Laws.BitsAllLaws
import Derived.RegionTactic
import Derived.ChangeAlike
import Derived.Laws.Bits64b
import Derived.Laws.Bits128
import Derived.OwnWalk
import Derived.Maps.AppendAt
import Derived.Lib.Builder
import Derived.Deep.OwnRows
import Derived.Laws.Tables
import Derived.Sort.OwnSortedInts
import Derived.Deep.DeepCutAuto
import Derived.Deep.AppendLies
import Derived.Test.YthflgjkmbakedaaGreatDoorN01
import Derived.Test.YthflgjkmbakedaaGreatDoorN02

namespace Go.Proofs.YthflgjkmbakedaaGreatDoor
open Go.RowKit
open Go.Value (int pointer agg)
open Go.IntKind (i64)
set_option maxHeartbeats 1000000
variable {B b base f i k m n p u:Nat}{L:List Nat}{R S:List UInt8}{T:TypeId}{a:Option Addr}{w w':World}
def jP(s:Nat→Bool)(a:Int):Bool:=decide (0≤a) && s a.toNat
def zaF(s:Nat→Bool)(a:Int):Nat→Bool:=fun m=>s m || (decide (a<5000) && decide ((m:Int)=a))
def zek(s:Nat→Bool)(a:Int):Nat→Bool:=fun m=>s m && !decide ((m:Int)=a)
def Fit(s:Nat→Bool):Prop:=∀ n,5000≤n→s n=false
theorem Fit.ins{s:Nat→Bool}(h:Fit s)(a:Int):Fit (zaF s a):=by
 intro n hn;unfold zaF;rw[h n hn];simp;omega
theorem zez(s:Nat→Bool)(a:Int)(h:¬ (0≤a∧a<5000)):zaF s a=s:=by
 funext m
 unfold zaF;by_cases h1:a<5000
 ·have:¬ (m:Int)=a:=by omega
  simp[this]
 ·simp[h1]
theorem zhg(s:Nat→Bool)(n:Nat)(h:s n=true):zaF s (n:Int)=s:=by
 funext m
 unfold zaF;by_cases h1:(m:Int)=n
 ·have:m=n:=by omega
  subst this;simp[h]
 ·simp[h1]
theorem zaA(s:Nat→Bool)(n:Nat)(h:n<5000):zaF s (n:Int)=ins s n:=by
 funext m
 unfold zaF ins;have:(n:Int)<5000:=by omega
 by_cases hm:m=n
 ·subst hm;simp[this]
 ·have:¬ (m:Int)=n:=by omega
  simp[this,hm]
theorem ze7(s:Nat→Bool)(n:Nat):zek s (n:Int)=del s n:=by
 funext m
 unfold zek del;by_cases hm:m=n
 ·subst hm;simp
 ·have:¬ (m:Int)=n:=by omega
  simp[this,hm]
theorem zfl(s:Nat→Bool)(a:Int)(h:jP s a=false):zek s a=s:=by
 funext m
 unfold zek;by_cases h1:(m:Int)=a
 ·subst h1
  have:s m=false:=by simpa [jP] using h
  simp[this]
 ·simp[h1]
def row(s:Nat→Bool):Array Value:=Array.ofFn (n:=79) fun k=>Value.int .u64 (wd s k:Nat)
theorem jT(s:Nat→Bool):(row s).size=79:=by simp[row]
theorem QA(s:Nat→Bool)(k:Nat)(h:k<79):(row s)[k]? = some (.int .u64 (wd s k:Nat)):=by simp[row,h]
theorem zgV(s t:Nat→Bool)(k:Nat)(v:Nat)(h:∀ j,j≠k→wd t j=wd s j)(hv:v=wd t k):(row s).setIfInBounds k (.int .u64 (v:Nat))=row t:=by
 rw[hv];apply Array.ext_getElem?;intro i;rw[Array.getElem?_setIfInBounds];by_cases hi:i<79
 ·rw[QA t i hi,QA s i hi,jT]
  by_cases hk:k=i
  ·subst hk;simp[hi]
  ·rw[if_neg hk,h i (fun e=>hk e.symm)]
 ·have e1:(row t)[i]? = none:=by simp[jT];omega
  have e2:(row s)[i]? = none:=by simp[jT];omega
  rw[e1,e2,jT];by_cases hk:k=i
  ·subst hk;simp[hi]
  ·rw[if_neg hk]
structure zy (w:World) (b:Nat) (s:Nat→Bool):Prop where
 heap:w.heap[b]? = some (.cells (row s) 272 (0,0))
theorem zy.cell{s:Nat→Bool}(h:zy w b s)(hk:k<79):w.cell? ⟨b,k,none⟩=some (.int .u64 (wd s k:Nat)):=by
 rw[cell_of_row w b k _ _ _ h.heap,QA s k hk]
theorem zy.frozen{s:Nat→Bool}(h:zy w b s)(k:Nat):w.frozen? ⟨b,k,none⟩=false:=frozen_of_row w b k _ _ h.heap
theorem zy.lt{s:Nat→Bool}(h:zy w b s):b<w.heap.size:=by
 have:=h.heap;rw[Array.getElem?_eq_some_iff] at this;exact this.1
theorem zy.put{s:Nat→Bool}(h:zy w b s)(t:Nat→Bool)(k v:Nat)(ht:∀ j,j≠k→wd t j=wd s j)(hv:v=wd t k):zy (w.setCell ⟨b,k,none⟩ (.int .u64 (v:Nat))) b t:=
 ⟨by rw[heap_setCell_same w b k (row s) _ _ h.heap,zgV s t k v ht hv]⟩
theorem zy.kept{s:Nat→Bool}(h:zy w b s)(k:za L w w')(hb:b ∉ L):zy w' b s:=
 ⟨by rw[k.block b h.lt hb];exact h.heap⟩
theorem zy.drewN{s:Nat→Bool}(h:zy w b s)(n:Nat):zy (w.drewN n) b s:=⟨h.heap⟩
def jf(w:World):Prop:=∀ j,j<64→w.cell? ⟨1,j,none⟩=some (.int .u8 (Go.Lib.deBruijn64tab.getD j 0))
theorem jf.kept(h:jf w)(k:za L w w')(hn:1 ∉ L):jf w':=by
 intro j hj;have hc:=h j hj;rw[k.cell (p:=⟨1,j,none⟩) (block_lt_of_cell hc) hn];exact hc
theorem jf.drewN(h:jf w)(n:Nat):jf (w.drewN n):=h
theorem zhH(x k idx:Nat)(w:World)(hx0:((x:Int) == 0)=false)
  (key:IntKind.u64.wrap (bits BinOp.and IntKind.u64 (x:Int) (IntKind.u64.wrap (-(x:Int))) * 285870213051353865) / 288230376151711744=(idx:Int))
  (hi:idx<64) (hk:k<64) (hcell:w.cell? ⟨1,idx,none⟩=some (.int .u8 k)):
  Calls Tryz.prog 245 #[.int .u64 x] w fun e w'=>e=.returned (int i64 k)∧w'=w:=by
 go_enter Tryz.func245,Tryz.ntmps245;go_wp2_with (simp only[key]);go_ret;exact ⟨rfl,rfl⟩
theorem ziH(x a:Nat)(hx:x<18446744073709551616)(hx0:x≠0)(hlow:x &&& (18446744073709551616 - x)=a):
  IntKind.u64.wrap (bits BinOp.and IntKind.u64 (x:Int) (IntKind.u64.wrap (-(x:Int))) * 285870213051353865) / 288230376151711744=((a * 285870213051353865 % 18446744073709551616 / 288230376151711744:Nat):Int):=by
 have e1:IntKind.u64.wrap (-(x:Int))=((18446744073709551616 - x:Nat):Int):=by rw[IntKind.wrap_u64];omega
 rw[e1,u64_and_nat x _ hx (by omega),hlow,IntKind.wrap_u64];omega
theorem ziP(x:Nat)(w:World)(hx:x<18446744073709551616)(hx0:x≠0)(hT:jf w):
  Calls Tryz.prog 245 #[.int .u64 (x:Int)] w fun e w'=>e=.returned (int i64 (Go.Lib.ctz 64 x:Nat))∧w'=w:=by
 obtain ⟨hlow,hk⟩:=Go.Lib.lowest_bit 64 x hx0 hx;obtain ⟨hi,htab⟩:=Go.Lib.deBruijn64_at _ hk;have hc:=hT _ hi;rw[htab] at hc;exact zhH x _ _ w (by simp;omega) (ziH x _ hx hx0 hlow) hi hk hc
def num(c:Nat→Nat):Nat→Value:=fun i=>int i64 ((c i:Nat):Int)
def JC(w:World)(B:Nat)(a:Option Addr)(zs:List Int):Prop:=
 zs=[]∨∃ b off,a=some ⟨b,off,none⟩∧b<B∧∀ i,i<zs.length→w.cell? ⟨b,off+i,none⟩=some (int i64 (zs.getD i 0))
def zb7(w:World)(B:Nat)(a:Option Addr)(xs:List (List Int)):Prop:=
 xs=[]∨∃ b off,a=some ⟨b,off,none⟩∧b<B∧∀ j,j<xs.length→∃ ai ci,w.cell? ⟨b,off+j,none⟩=some (.slice ai (xs.getD j []).length ci)∧JC w B ai (xs.getD j [])
theorem JC.kept{zs:List Int}(h:JC w B a zs)(k:za L w w')(hL:∀ x,x∈L→B≤x):JC w' B a zs:=by
 rcases h with h | ⟨b,off,rfl,hb,h⟩
 ·exact Or.inl h
 ·refine Or.inr ⟨b,off,rfl,hb,fun i hi=> ?_⟩
  have hc:=h i hi;rw[k.cell (p:=⟨b,off+i,none⟩) (block_lt_of_cell hc) (fun hx=>Nat.not_lt.2 (hL b hx) hb)];exact hc
theorem zb7.kept{xs:List (List Int)}(h:zb7 w B a xs)(k:za L w w')(hL:∀ x,x∈L→B≤x):zb7 w' B a xs:=by
 rcases h with h | ⟨b,off,rfl,hb,h⟩
 ·exact Or.inl h
 ·refine Or.inr ⟨b,off,rfl,hb,fun j hj=> ?_⟩
  obtain ⟨ai,ci,hc,hi⟩:=h j hj;refine ⟨ai,ci,?_,hi.kept k hL⟩;rw[k.cell (p:=⟨b,off+j,none⟩) (block_lt_of_cell hc) (fun hx=>Nat.not_lt.2 (hL b hx) hb)];exact hc
theorem zb7.quiet{xs:List (List Int)}(h:zb7 w B a xs)(k:za [] w w'):zb7 w' B a xs:=h.kept k (by simp)
theorem zaM(N n:Int)(a:Option Addr)(len cap:Nat)(w:World)(h0:0≤n)(h1:n<N):
  Calls Tryz.prog 201 #[agg #[int i64 N,.slice a len cap],int i64 n] w fun e w'=>e=.returned (.bool true)∧za [] w w':=by
 go_enter Tryz.func201,Tryz.ntmps201;go_wp2;go_ret;exact ⟨rfl,za.alloc _ _ _⟩
theorem zdB(N n:Int)(a:Option Addr)(len cap:Nat)(w:World)(h:¬ (0≤n∧n<N)):
  Calls Tryz.prog 201 #[agg #[int i64 N,.slice a len cap],int i64 n] w fun e w'=>e=.returned (.bool false)∧za [] w w':=by
 by_cases h0:0≤n
 ·have h1:¬ n<N:=fun h1=>h ⟨h0,h1⟩
  clear h;go_enter Tryz.func201,Tryz.ntmps201;go_wp2;go_ret;exact ⟨rfl,za.alloc _ _ _⟩
 ·clear h
  go_enter Tryz.func201,Tryz.ntmps201;go_wp2;go_ret;exact ⟨rfl,za.alloc _ _ _⟩
structure zjD (N:Int) (xs:List (List Int)):Prop where
 low:0≤N
 high:N≤600
 len:(xs.length:Int)=N
 all:∀ j,j<xs.length→∀ i,i<(xs.getD j []).length→0≤(xs.getD j []).getD i 0∧(xs.getD j []).getD i 0<N
theorem zdd(w:World)(x y:Value)(t:TypeId):(w.alloc (Obj.cells #[x,y] t)).cell? ⟨w.heap.size,0,none⟩=some x∧(w.alloc (Obj.cells #[x,y] t)).cell? ⟨w.heap.size,1,none⟩=some y:=
 ⟨by rw[cell_of_row _ _ 0 _ _ _ (heap_alloc_new w _)];rfl,by rw[cell_of_row _ _ 1 _ _ _ (heap_alloc_new w _)];rfl⟩
structure Zq (w:World) (b:Nat) (N:Int) (a:Option Addr) (n cap:Nat):Prop where
 c0:w.cell? ⟨b,0,none⟩=some (int i64 N)
 c1:w.cell? ⟨b,1,none⟩=some (.slice a n cap)
theorem Zq.lt{N:Int}{cap:Nat}(h:Zq w b N a n cap):b<w.heap.size:=block_lt_of_cell h.c0
theorem Zq.kept{N:Int}{cap:Nat}(h:Zq w b N a n cap)(k:za L w w')(hb:b ∉ L):Zq w' b N a n cap:=
 ⟨by rw[k.cell (p:=⟨b,0,none⟩) h.lt hb];exact h.c0,by rw[k.cell (p:=⟨b,1,none⟩) h.lt hb];exact h.c1⟩
theorem Zq.new(w:World)(N:Int)(a:Option Addr)(n cap:Nat):Zq (w.alloc (Obj.cells #[int i64 N,.slice a n cap] 195)) w.heap.size N a n cap:=
 ⟨(zdd w _ _ _).1,(zdd w _ _ _).2⟩
theorem zb7.at{xs:List (List Int)}(h:zb7 w B a xs)(hk:k<xs.length):∃ b off ai ci,a=some ⟨b,off,none⟩∧w.cell? ⟨b,off+k,none⟩=some (.slice ai (xs.getD k []).length ci)∧JC w B ai (xs.getD k []):=by
 rcases h with h | ⟨b,off,h1,_,h3⟩
 ·rw[h] at hk;simp at hk
 ·obtain ⟨ai,ci,h4,h5⟩:=h3 k hk
  exact ⟨b,off,ai,ci,h1,h4,h5⟩
theorem JC.at{zs:List Int}(h:JC w B a zs)(hk:k<zs.length):∃ b off,a=some ⟨b,off,none⟩∧w.cell? ⟨b,off+k,none⟩=some (int i64 (zs.getD k 0)):=by
 rcases h with h | ⟨b,off,h1,_,h3⟩
 ·rw[h] at hk;simp at hk
 ·exact ⟨b,off,h1,h3 k hk⟩
theorem zfv(N:Int)(a:Option Addr)(n cap B:Nat)(xs:List (List Int))(w:World)(hL:zb7 w B a xs)(hnn:xs.length=n)(h0:0≤N)(h1:N≤600)(h2:(n:Int)=N)(hi:∀ j,(xs.getD j []).length≤1000000):
  Calls Tryz.prog 132 #[agg #[int i64 N,.slice a n cap]] w fun e w'=>(e=.returned (.bool true)∧zjD N xs∨e=.returned (.bool false)∧¬ zjD N xs)∧za [] w w':=by
 have hn:¬ N<0:=by omega
 have hg:¬ 600<N:=by omega
 have hb:(((n:Nat):Int) != N)=false:=by simp[h2]
 have hl6:n≤600:=by omega
 have HN:=hid hnn;have H2:=hid h2;have HI:=hid hi;have hk1:za [] w (w.alloc (Obj.cells #[int i64 N,.slice a n cap] 195)):=za.alloc _ _ _;have HB1:=hid (Zq.new w N a n cap);have HL1:=hid (hL.quiet hk1);clear hL hi h2 hnn;go_enter Tryz.func132,Tryz.ntmps132;go_wp2;generalize w.alloc (Obj.cells #[int i64 N,.slice a n cap] 195)=w1 at hk1 HB1 HL1 ⊢;generalize w.heap.size=b at HB1 ⊢
 go_loopw [26] (fun i wr=>∃ k:Nat,k≤n∧i=int i64 k∧za [] w1 wr∧Box (∀ j,j<k→∀ i,i<(xs.getD j []).length→0≤(xs.getD j []).getD i 0∧(xs.getD j []).getD i 0<N)) (fun i _=>n - (intOf i).toNat)
 case atStart=>exact ⟨0,by omega,rfl,za.refl _ _,hid (fun j hj=>by omega)⟩
 case round=>
  obtain ⟨k,hk,rfl,hkw,HA⟩:=hrel;by_cases hlt:k<n
  ·obtain ⟨bl,off,ai,ci,rfl,hc,hin⟩:=(HL1.o.quiet hkw).at (k:=k) (by rw[HN.o];exact hlt)
   have HI1:=hid hin;have hlen:=HI.o k;obtain ⟨l,hl⟩:∃ l,xs.getD k []=l:=⟨_,rfl⟩;rw[hl] at hc HI1 hlen;have HX:=hid hl;clear hin hl;go_wp2
   go_loopw [32] (fun i wr2=>∃ m:Nat,m≤l.length∧i=int i64 m∧za [] wr wr2∧Box (∀ i,i<m→0≤l.getD i 0∧l.getD i 0<N)) (fun i _=>l.length - (intOf i).toNat)
   case atStart=>exact ⟨0,by omega,rfl,za.refl _ _,hid (fun j hj=>by omega)⟩
   case round=>
    clear hc;obtain ⟨m,hm,rfl,hkw2,HA2⟩:=hrel;have hlt':(k:Int)<(n:Int):=by omega
    by_cases hml:m<l.length
    ·obtain ⟨bm,om,rfl,hcm⟩:=(HI1.o.kept hkw2 (by simp)).at hml
     have hbx:=HB1.o.kept (hkw.quiet hkw2) (by simp);have hc0:=hbx.c0;have hc1:=hbx.c1;clear hbx;obtain ⟨x,hx⟩:∃ x,l.getD m 0=x:=⟨_,rfl⟩;rw[hx] at hcm;have HXX:=hid hx;clear hx;by_cases hok:0≤x∧x<N
     ·have HC:Box (∀ w,Calls Tryz.prog 201 #[agg #[int i64 N,.slice (some ⟨bl,off,none⟩) n cap],int i64 x] w fun e w'=>e=.returned (.bool true)∧za [] w w'):=hid (fun w=>zaM N x _ n cap w hok.1 hok.2)
      go_wp2_with (go_at_call 201;refine (HC.o _).mono ?_;rintro e w3 ⟨rfl,hk3⟩);go_roundw
      case rel=>exact ⟨m+1,by omega,by go_num,hkw2.quiet hk3,hid (fun i hi=>by
       by_cases e:i=m
       ·subst e;rw[HXX.o];exact hok
       ·exact HA2.o i (by omega))⟩
      case measure=>simp[intOf];omega
     ·have HC:Box (∀ w,Calls Tryz.prog 201 #[agg #[int i64 N,.slice (some ⟨bl,off,none⟩) n cap],int i64 x] w fun e w'=>e=.returned (.bool false)∧za [] w w'):=hid (fun w=>zdB N x _ n cap w hok)
      have HOK:=hid hok;clear hok;go_wp2_with (go_at_call 201;refine (HC.o _).mono ?_;rintro e w3 ⟨rfl,hk3⟩);go_ret;refine ⟨.inr ⟨rfl,fun hmay=>HOK.o ?_⟩,((hk1.quiet hkw).quiet hkw2).quiet hk3⟩;have:=hmay.all k (by rw[HN.o];exact hlt) m (by rw[HX.o];exact hml);rw[HX.o,HXX.o] at this;exact this
    ·obtain rfl:m=l.length:=by omega
     go_wp2;go_roundw
     case rel=>exact ⟨k+1,by omega,by go_num,hkw.quiet hkw2,hid (fun j hj=>by
      by_cases e:j=k
      ·subst e;rw[HX.o];exact HA2.o
      ·exact HA.o j (by omega))⟩
     case measure=>simp[intOf];omega
  ·obtain rfl:k=n:=by omega
   go_wp2;go_ret;exact ⟨.inl ⟨rfl,h0,h1,by rw[HN.o];exact H2.o,by rw[HN.o];exact HA.o⟩,hk1.quiet hkw⟩
def jB(l:List Nat):List Value:=l.map fun n:Nat=>int i64 (n:Int)
theorem qF:Tryz.t3.zero=some (int i64 0):=by kernel_rfl
theorem qI:Tryz.t3.size=1:=by kernel_rfl
theorem qi:Tryz.t3.bytes=8:=by kernel_rfl
theorem qg:Tryz.prog.info? 3=some Tryz.t3:=by kernel_rfl
theorem zL:Tryz.prog.underlying 36=some (.slice 3):=by kernel_rfl
theorem zd3(a:Int)(w:World):
  Calls Tryz.prog 203 #[int i64 a] w fun e w'=>e=.returned (.bool (decide (0≤a∧a<5000)))∧w'=w:=by
 by_cases h0:0≤a <;> by_cases h1:a<5000 <;> (go_enter Tryz.func203,Tryz.ntmps203;go_wp2;go_ret;exact ⟨by simp[h0,h1],rfl⟩)
theorem JR(n:Nat)(w:World)(h:n<5000):
  Calls Tryz.prog 203 #[int i64 (n:Int)] w fun e w'=>e=.returned (.bool true)∧w'=w:=
 (zd3 n w).mono fun e w' ⟨he,hw⟩=>⟨by rw[he];simp;omega,hw⟩
theorem zfT(a:Int)(w:World)(h:¬ (0≤a∧a<5000)):
  Calls Tryz.prog 203 #[int i64 a] w fun e w'=>e=.returned (.bool false)∧w'=w:=
 (zd3 a w).mono fun e w' ⟨he,hw⟩=>⟨by rw[he];simp;omega,hw⟩
theorem zcA(n:Nat)(w:World)(h1:n<5000):
  Calls Tryz.prog 204 #[int i64 n] w fun e w'=>e=.returned (.tuple #[int i64 ((n:Int) / 64),.int .u64 (IntKind.u64.wrap (2 ^ ((n:Int) % 64).toNat))])∧∃ m,w'=w.drewN m:=by
 go_enter Tryz.func204,Tryz.ntmps204;go_wp2;go_quiet (fail);go_wp2
 go_ret2
 exact ⟨rfl,_,rfl⟩
theorem Jp(n:Nat)(w:World)(h1:n<5000):
  Calls Tryz.prog 204 #[int i64 n] w fun e w'=>∃ k p:Nat,e=.returned (.tuple #[int i64 k,.int .u64 p])∧k<79∧p<18446744073709551616∧Box (k=n / 64∧p=2 ^ (n % 64))∧∃ m,w'=w.drewN m:=by
 refine (zcA n w h1).mono fun e w' ⟨he,hw⟩=> ?_;have hp:2 ^ (n % 64)<18446744073709551616:=j4 (Nat.mod_lt _ (by decide));refine ⟨n / 64,2 ^ (n % 64),?_,by omega,hp,hid ⟨rfl,rfl⟩,hw⟩;have e1:((n:Int) % 64).toNat=n % 64:=by omega
 have e2:IntKind.u64.wrap (2 ^ (n % 64))=((2 ^ (n % 64):Nat):Int):=by
  rw[IntKind.wrap_u64];have:((2 ^ (n % 64):Nat):Int)=(2:Int) ^ (n % 64):=by simp
  rw[← this];generalize 2 ^ (n % 64)=q at hp;omega
 rw[he,e1,e2];rfl
theorem zgG(b:Nat)(a:Int)(w:World)(h:¬ (0≤a∧a<5000)):
  Calls Tryz.prog 134 #[pointer (some ⟨b,0,none⟩),int i64 a] w fun e w'=>e=.returned (.bool false)∧w'=w:=by
 have H:=hid h;clear h;go_enter Tryz.func134,Tryz.ntmps134;go_wp2_with (go_at_call 203;refine (zfT _ _ H.o).mono ?_;rintro e w' ⟨rfl,rfl⟩);go_ret;exact ⟨rfl,rfl⟩
theorem zew(b n k p x y:Nat)(w:World)(h:n<5000)(hk:k<79)(hy:bits BinOp.and IntKind.u64 (x:Int) (p:Int)=(y:Int))(hc:w.cell? ⟨b,k,none⟩=some (.int .u64 x))
  (hpl:∀ w1,Calls Tryz.prog 204 #[int i64 n] w1 fun e w'=>e=.returned (.tuple #[int i64 k,.int .u64 p])∧∃ m,w'=w1.drewN m):
  Calls Tryz.prog 134 #[pointer (some ⟨b,0,none⟩),int i64 n] w fun e w'=>e=.returned (.bool ((y:Int) != 0))∧∃ m,w'=w.drewN m:=by
 have H:=hid hpl;clear hpl;go_enter Tryz.func134,Tryz.ntmps134;go_wp2_with fail;refine (JR n _ h).mono ?_;rintro e w' ⟨rfl,rfl⟩;go_wp2_with fail;refine (H.o _).mono ?_;rintro e w' ⟨rfl,m,rfl⟩;go_wp2;go_ret;exact ⟨rfl,_,rfl⟩
theorem jK(b:Nat)(s:Nat→Bool)(a:Int)(w:World)(hs:zy w b s)(hf:Fit s):
  Calls Tryz.prog 134 #[pointer (some ⟨b,0,none⟩),int i64 a] w fun e w'=>e=.returned (.bool (jP s a))∧∃ m,w'=w.drewN m:=by
 by_cases h:0≤a∧a<5000
 ·obtain ⟨n,rfl⟩:=Int.eq_ofNat_of_zero_le h.1
  have hn:n<5000:=by omega
  have hp:2 ^ (n % 64)<18446744073709551616:=j4 (Nat.mod_lt _ (by decide));have hc:=hs.cell (k:=n / 64) (by omega);refine (zew b n (n / 64) (2 ^ (n % 64)) (wd s (n / 64)) (wd s (n / 64) &&& 2 ^ (n % 64)) w hn (by omega) (u64_and_nat _ _ (JX s _) hp) hc (fun w1=> ?_)).mono fun e w' ⟨he,hw⟩=>⟨?_,hw⟩
  ·refine (Jp n w1 hn).mono ?_
   rintro e w' ⟨k,p,he,_,_,hh,hw⟩;obtain ⟨rfl,rfl⟩:=hh.o;exact ⟨he,hw⟩
  ·rw[he]
   have hb:=zgl s n;have e2:jP s (n:Int)=s n:=by simp[jP]
   rw[e2];generalize wd s (n / 64) &&& 2 ^ (n % 64)=y at hb;cases hsn:s n
   ·rw[hsn] at hb
    have:y=0:=by simpa using hb
    subst this;rfl
   ·rw[hsn] at hb
    have:y≠0:=hb.2 rfl;simp;omega
 ·refine (zgG b a w h).mono fun e w' ⟨he,hw⟩=>⟨?_,0,hw⟩
  rw[he];have:jP s a=false:=by
   unfold jP;by_cases h0:0≤a
   ·simp[h0,hf a.toNat (by omega)]
   ·simp[h0]
  rw[this]
def zf(p:Pr8)(f:Nat):Fu8:=p.funcs.getD f ⟨0,[],[]⟩
def zq(x:Fu8)(b:Nat):Bl8:=x.blocks.getD b ⟨[],0,0,0,0⟩
def qm(x:Bl8)(i:Nat):In8:=x.code.getD i ⟨0,0,0,0,0,[]⟩
def ptB(f b n:Nat):List (Nat × Nat × Nat):=(List.range n).map fun i=>(f,b,i)
def ptF(x:Fu8)(f m:Nat):List (Nat × Nat × Nat):=(List.range m).flatMap fun b=>ptB f b ((zq x b).code.length+1)
def ptP(p:Pr8)(k:Nat):List (Nat × Nat × Nat):=(List.range k).flatMap fun f=>ptF (zf p f) f (zf p f).blocks.length
def pts(p:Pr8):List (Nat × Nat × Nat):=ptP p p.funcs.length
theorem zaB(f b:Nat):ptB f b 0=[]:=rfl
theorem jU(f b n:Nat):ptB f b (n+1)=ptB f b n ++ [(f,b,n)]:=by
 unfold ptB;rw[List.range_succ,List.map_append];rfl
theorem zeD(x:Fu8)(f:Nat):ptF x f 0=[]:=rfl
theorem qr(x:Fu8)(f m:Nat):ptF x f (m+1)=ptF x f m ++ ptB f m ((zq x m).code.length+1):=by
 unfold ptF;rw[List.range_succ,List.flatMap_append,List.flatMap_singleton]
theorem jc(p:Pr8)(k:Nat):ptP p (k+1)=ptP p k ++ ptF (zf p k) k (zf p k).blocks.length:=by
 unfold ptP;rw[List.range_succ,List.flatMap_append,List.flatMap_singleton]
theorem ZO(f b n:Nat):(ptB f b n).length=n:=by unfold ptB;rw[List.length_map,List.length_range]
theorem zdg{q:Nat × Nat × Nat}:q∈ptB f b n ↔ ∃ i,i<n∧q=(f,b,i):=by
 unfold ptB;rw[List.mem_map];constructor
 ·rintro ⟨i,h1,h2⟩
  exact ⟨i,List.mem_range.1 h1,h2.symm⟩
 ·rintro ⟨i,h1,h2⟩
  exact ⟨i,List.mem_range.2 h1,h2.symm⟩
theorem zdo{x:Fu8}{q:Nat × Nat × Nat}:q∈ptF x f m ↔ ∃ b i,b<m∧i≤(zq x b).code.length∧q=(f,b,i):=by
 unfold ptF;rw[List.mem_flatMap];constructor
 ·rintro ⟨b,h1,h2⟩
  obtain ⟨i,h3,h4⟩:=zdg.1 h2;exact ⟨b,i,List.mem_range.1 h1,by omega,h4⟩
 ·rintro ⟨b,i,h1,h2,h3⟩
  exact ⟨b,List.mem_range.2 h1,zdg.2 ⟨i,by omega,h3⟩⟩
def ZB(p:Pr8)(f b i:Nat):Prop:=f<p.funcs.length∧b<(zf p f).blocks.length∧i≤(zq (zf p f) b).code.length
theorem QD{p:Pr8}:((f,b,i):Nat × Nat × Nat)∈pts p ↔ ZB p f b i:=by
 unfold pts ptP ZB;rw[List.mem_flatMap];constructor
 ·rintro ⟨f',h1,h2⟩
  obtain ⟨b',i',h3,h4,h5⟩:=zdo.1 h2;have e1:f=f':=congrArg Prod.fst h5;have e2:b=b':=congrArg (fun q:Nat × Nat × Nat=>q.2.1) h5;have e3:i=i':=congrArg (fun q:Nat × Nat × Nat=>q.2.2) h5;subst e1 e2 e3;exact ⟨List.mem_range.1 h1,h3,h4⟩
 ·rintro ⟨h1,h2,h3⟩
  exact ⟨f,List.mem_range.2 h1,zdo.2 ⟨b,i,h2,h3,rfl⟩⟩
def J4(p:Pr8)(f b i:Nat):Nat:=(ptP p f).length+(ptF (zf p f) f b).length+i
theorem Zf(x:Fu8)(f:Nat):∀ {b m:Nat},b<m→∃ r,ptF x f m=ptF x f b ++ (ptB f b ((zq x b).code.length+1) ++ r)
 | b,0,h=>absurd h (Nat.not_lt_zero _)
 | b,m+1,h=>by
  by_cases e:b=m
  ·subst e
   exact ⟨[],by rw[qr,List.append_nil]⟩
  ·obtain ⟨r,hr⟩:=Zf x f (b:=b) (m:=m) (by omega)
   exact ⟨r ++ ptB f m ((zq x m).code.length+1),by rw[qr,hr];simp[List.append_assoc]⟩
theorem Je(p:Pr8):∀ {f k:Nat},f<k→∃ r,ptP p k=ptP p f ++ (ptF (zf p f) f (zf p f).blocks.length ++ r)
 | f,0,h=>absurd h (Nat.not_lt_zero _)
 | f,k+1,h=>by
  by_cases e:f=k
  ·subst e
   exact ⟨[],by rw[jc,List.append_nil]⟩
  ·obtain ⟨r,hr⟩:=Je p (f:=f) (k:=k) (by omega)
   exact ⟨r ++ ptF (zf p k) k (zf p k).blocks.length,by rw[jc,hr];simp[List.append_assoc]⟩
theorem ziv{p:Pr8}(h:ZB p f b i):(pts p)[J4 p f b i]? = some (f,b,i):=by
 obtain ⟨r1,h1⟩:=Je p h.1;obtain ⟨r2,h2⟩:=Zf (zf p f) f h.2.1;have h3:=h.2.2;unfold pts J4;rw[h1,h2];rw[List.getElem?_append_right (by omega)];rw[show (ptP p f).length+(ptF (zf p f) f b).length+i - (ptP p f).length=(ptF (zf p f) f b).length+i by omega];rw[List.append_assoc,List.getElem?_append_right (by omega)];rw[show (ptF (zf p f) f b).length+i - (ptF (zf p f) f b).length=i by omega];rw[List.append_assoc,List.getElem?_append_left (by rw[ZO];omega)];unfold ptB;rw[List.getElem?_map,List.getElem?_range (by omega)];rfl
theorem zgt{p:Pr8}(h:ZB p f b i):J4 p f b i<(pts p).length:=(List.getElem?_eq_some_iff.1 (ziv h)).1
theorem za0{p:Pr8}(h:n<(pts p).length):∃ f b i,ZB p f b i∧(pts p)[n]? = some (f,b,i):=by
 have hm:(pts p)[n]∈pts p:=List.getElem_mem h;obtain ⟨f,b,i,e⟩:∃ f b i,(pts p)[n]=(f,b,i):=⟨(pts p)[n].1,(pts p)[n].2.1,(pts p)[n].2.2,rfl⟩;rw[e] at hm;exact ⟨f,b,i,QD.1 hm,by rw[List.getElem?_eq_getElem h,e]⟩
theorem zh{F:List Nat}{e:TypeId}{size:Nat}{v:Value}{xs:List Value}(h:w.ownsRow base e size v n xs)(k:za F w w')(hF:∀ b,v.ownBlock=some b→b ∉ F):w'.ownsRow base e size v n xs:=by
 refine ⟨h.1,?_⟩;rcases h.2 with hn | ⟨g,cap,cur,rfl,hb,hg,rest⟩
 ·exact .inl hn
 ·refine .inr ⟨g,cap,cur,rfl,hb,?_,rest⟩
  rw[k.block g (Array.getElem?_eq_some_iff.1 hg).1 (hF g rfl)];exact hg
structure qb (w:World) (base p n:Nat) (T:TypeId) (c:Nat→Value):Prop where
 row:w.ownsRow base T 1 (.slice (some ⟨p,0,none⟩) n n) n ((List.range n).map c)
theorem qb.cell{c:Nat→Value}(h:qb w base p n T c)(hk:k<n):w.cell? ⟨p,k,none⟩=some (c k):=by
 rw[h.row.cellAt k (by omega),List.getElem?_map,List.getElem?_range hk];rfl
theorem qb.frozen{c:Nat→Value}(h:qb w base p n T c)(k:Nat):w.frozen? ⟨p,k,none⟩=false:=h.row.frozenAt k
theorem qb.lt{c:Nat→Value}(h:qb w base p n T c):base≤p∧p<w.heap.size:=h.row.lt p rfl
theorem qb.heap{c:Nat→Value}(h:qb w base p n T c):∃ cur,w.heap[p]? = some (.cells cur T (0,0)):=by
 rcases h.row.2 with ⟨h',_⟩ | ⟨g',cap',cur,h',_,hg,_⟩
 ·simp at h'
 ·simp only[Value.slice.injEq,Option.some.injEq,Addr.mk.injEq,and_true,true_and] at h'
  obtain ⟨rfl,rfl⟩:=h';exact ⟨cur,hg⟩
theorem qb.kept{c:Nat→Value}(h:qb w base p n T c)(k:za L w w')(hp:p ∉ L):qb w' base p n T c:=
 ⟨zh h.row k (fun b hb=>by simp[Value.ownBlock] at hb;subst hb;exact hp)⟩
theorem qb.put{c:Nat→Value}(h:qb w base p n T c)(k:Nat)(v:Value):qb (w.setCell ⟨p,k,none⟩ v) base p n T (fun i=>if i=k then v else c i):=by
 refine ⟨?_⟩;have h1:=(h.row.stored k v).1;have e:((List.range n).map c).set k v=(List.range n).map (fun i=>if i=k then v else c i):=by
  apply List.ext_getElem?;intro i;rw[List.getElem?_set,List.getElem?_map,List.getElem?_map,List.length_map,List.length_range];by_cases hi:i<n
  ·rw[List.getElem?_range hi]
   by_cases e:k=i
   ·subst e;simp[hi]
   ·have:¬ i=k:=fun h=>e h.symm
    simp[e,this]
  ·rw[List.getElem?_eq_none (by simp;omega)]
   by_cases e:k=i
   ·subst e;simp[hi]
   ·simp[e]
 rw[e] at h1;exact h1
theorem qb.congr{c d:Nat→Value}(h:qb w base p n T c)(e:∀ i,i<n→c i=d i):qb w base p n T d:=by
 refine ⟨?_⟩;have:(List.range n).map c=(List.range n).map d:=List.map_congr_left fun i hi=>e i (List.mem_range.1 hi);rw[← this];exact h.row
theorem zf5(z:Value)(n:Nat)(hz:z.cells=#[z]):(madeCells z.cells (n * 1)).toList=(List.range n).map fun _=>z:=by
 rw[hz,Nat.mul_one];apply List.ext_getElem?;intro i;rw[List.getElem?_map];by_cases hi:i<n
 ·rw[List.getElem?_range hi]
  simp[madeCells,hi,Nat.mod_one]
 ·rw[List.getElem?_eq_none (by rw[Array.length_toList,size_madeCells];omega),List.getElem?_eq_none (by rw[List.length_range];omega)]
  rfl
theorem qb.made{z:Value}(h:w.ownsRow base T 1 (.slice (some ⟨p,0,none⟩) n n) n (madeCells z.cells (n * 1)).toList)(hz:z.cells=#[z]):qb w base p n T (fun _=>z):=by
 rw[zf5 z n hz] at h;exact ⟨h⟩
theorem za.fresh{a b c:World}(h:za [] a b)(k:za L b c)(hL:∀ x,x∈L→a.heap.size≤x):za [] a c:=
 h.trans k fun x hx hl=>absurd (hL x hx) (by omega)
def Zr(u:Nat):List UInt8:=if u<128 then [UInt8.ofNat u] else UInt8.ofNat (u % 128+128) :: Zr (u / 128)
termination_by u
decreasing_by omega
theorem Z5(h:u<128):Zr u=[UInt8.ofNat u]:=by rw[Zr,if_pos h]
theorem ZF(h:¬ u<128):Zr u=UInt8.ofNat (u % 128+128) :: Zr (u / 128):=by rw[Zr,if_neg h]
theorem qE(h:n<256):(UInt8.ofNat n).toNat=n:=by
 rw[UInt8.toNat_ofNat'];exact Nat.mod_eq_of_lt h
theorem zcK(u:Nat):0<(Zr u).length:=by
 by_cases h:u<128
 ·rw[Z5 h];simp
 ·rw[ZF h];simp
theorem zbv{c:UInt8}(h:Zr u ++ R=c :: S)(hc:128≤c.toNat):1≤u / 128∧c.toNat=u % 128+128∧Zr (u / 128) ++ R=S:=by
 by_cases h1:u<128
 ·rw[Z5 h1] at h
  have e:UInt8.ofNat u=c:=by simpa using congrArg List.head? h
  rw[← e,qE (by omega)] at hc;omega
 ·rw[ZF h1,List.cons_append] at h
  obtain ⟨e1,e2⟩:=List.cons.inj h;refine ⟨by omega,?_,e2⟩;rw[← e1,qE (by omega)]
theorem zbX{c:UInt8}(h:Zr u ++ R=c :: S)(hc:c.toNat<128):u=c.toNat∧R=S:=by
 by_cases h1:u<128
 ·rw[Z5 h1] at h
  obtain ⟨e1,e2⟩:=List.cons.inj h;exact ⟨by rw[← e1,qE (by omega)],by simpa using e2⟩
 ·rw[ZF h1,List.cons_append] at h
  obtain ⟨e1,_⟩:=List.cons.inj h;rw[← e1,qE (by omega)] at hc;omega
theorem zbT:∀ (u v:Nat) (R S:List UInt8),Zr u ++ R=Zr v ++ S→u=v∧R=S:=by
 intro u
 induction u using Nat.strongRecOn with
 | ind u ih=>
  intro v R S h;by_cases h1:u<128
  ·rw[Z5 h1] at h
   have:=zbX h.symm (by rw[qE (by omega)];exact h1);rw[qE (by omega)] at this;exact ⟨this.1.symm,this.2.symm⟩
  ·rw[ZF h1] at h
   obtain ⟨a1,a2,a3⟩:=zbv h.symm (by rw[qE (by omega)];omega);rw[qE (by omega)] at a2;obtain ⟨b1,b2⟩:=ih (u / 128) (by omega) (v / 128) R S a3.symm;exact ⟨by omega,b2⟩
def JO(n:Int):Nat:=if n<0 then (-2 * n - 1).toNat else (2 * n).toNat
theorem Zi{n:Int}(h:n<0):(JO n:Int)= -2 * n - 1:=by
 rw[JO,if_pos h];omega
theorem Zc{n:Int}(h:¬ n<0):(JO n:Int)=2 * n:=by
 rw[JO,if_neg h];omega
theorem zcL{n m:Int}(h:JO n=JO m):n=m:=by
 by_cases h1:n<0 <;> by_cases h2:m<0
 ·have:=Zi h1;have:=Zi h2;omega
 ·have:=Zi h1;have:=Zc h2;omega
 ·have:=Zc h1;have:=Zi h2;omega
 ·have:=Zc h1;have:=Zc h2;omega
def QX(n:Int):List UInt8:=Zr (JO n)
theorem zaW(n:Int):0<(QX n).length:=zcK _
theorem jX{n m:Int}(h:QX n ++ R=QX m ++ S):n=m∧R=S:=by
 obtain ⟨a,b⟩:=zbT _ _ _ _ h;exact ⟨zcL a,b⟩
section
variable {α β:Type}
structure Cd (E:α→List UInt8) (ok:α→Prop):Prop where
 pos:∀ x,0<(E x).length
 uniq:∀ x y R S,ok x→ok y→E x ++ R=E y ++ S→x=y∧R=S
theorem Cd.num:Cd QX b64:=⟨zaW,fun _ _ _ _ _ _ h=>jX h⟩
def Zl(E:α→List UInt8)(F:β→List UInt8)(x:α × β):List UInt8:=E x.1 ++ F x.2
def zR(ok:α→Prop)(ok':β→Prop)(x:α × β):Prop:=ok x.1∧ok' x.2
theorem Cd.pair{E:α→List UInt8}{F:β→List UInt8}{ok:α→Prop}{ok':β→Prop}(h:Cd E ok)(k:Cd F ok'):Cd (Zl E F) (zR ok ok'):=by
 refine ⟨fun x=> ?_,fun x y R S hx hy e=> ?_⟩
 ·rw[Zl,List.length_append];have:=h.pos x.1;omega
 ·unfold Zl at e
  rw[List.append_assoc,List.append_assoc] at e;obtain ⟨e1,e2⟩:=h.uniq _ _ _ _ hx.1 hy.1 e;obtain ⟨e3,e4⟩:=k.uniq _ _ _ _ hx.2 hy.2 e2;exact ⟨Prod.ext e1 e3,e4⟩
def jW(E:α→List UInt8)(l:List α):List UInt8:=QX (l.length:Int) ++ l.flatMap E
def qC(ok:α→Prop)(l:List α):Prop:=b64 (l.length:Int)∧∀ x,x∈l→ok x
theorem zdh{E:α→List UInt8}(h:∀ x,0<(E x).length)(l:List α):l.length≤(l.flatMap E).length:=by
 induction l with
 | nil=>simp
 | cons x l ih=>
  rw[List.flatMap_cons,List.length_append,List.length_cons];have:=h x;omega
theorem ZM{E:α→List UInt8}{ok:α→Prop}(h:Cd E ok):∀ (l m:List α) (R S:List UInt8),l.length=m.length→(∀ x,x∈l→ok x)→(∀ x,x∈m→ok x)→l.flatMap E ++ R=m.flatMap E ++ S→l=m∧R=S
 | [],m,R,S,hl,_,_,e=>by
  have:m=[]:=List.eq_nil_of_length_eq_zero hl.symm;subst this;exact ⟨rfl,by simpa using e⟩
 | x :: l,[],R,S,hl,_,_,e=>by simp at hl
 | x :: l,y :: m,R,S,hl,hx,hy,e=>by
  rw[List.flatMap_cons,List.flatMap_cons,List.append_assoc,List.append_assoc] at e;obtain ⟨e1,e2⟩:=h.uniq _ _ _ _ (hx x (List.mem_cons_self ..)) (hy y (List.mem_cons_self ..)) e;obtain ⟨e3,e4⟩:=ZM h l m R S (by simpa using hl) (fun z hz=>hx z (List.mem_cons_of_mem _ hz)) (fun z hz=>hy z (List.mem_cons_of_mem _ hz)) e2;exact ⟨by rw[e1,e3],e4⟩
theorem Cd.list{E:α→List UInt8}{ok:α→Prop}(h:Cd E ok):Cd (jW E) (qC ok):=by
 refine ⟨fun l=> ?_,fun l m R S hl hm e=> ?_⟩
 ·rw[jW,List.length_append];have:=zaW (l.length:Int);omega
 ·unfold jW at e
  rw[List.append_assoc,List.append_assoc] at e;obtain ⟨e1,e2⟩:=jX e;exact ZM h l m R S (by omega) hl.2 hm.2 e2
theorem Cd.map{E:α→List UInt8}{ok:α→Prop}(h:Cd E ok){F:β→List UInt8}{ok':β→Prop}(g:β→α)(hg:∀ x y,g x=g y→x=y)(hE:∀ x,F x=E (g x))(ho:∀ x,ok' x→ok (g x)):Cd F ok':=by
 refine ⟨fun x=>by rw[hE];exact h.pos _,fun x y R S hx hy e=> ?_⟩;rw[hE,hE] at e;obtain ⟨e1,e2⟩:=h.uniq _ _ _ _ (ho x hx) (ho y hy) e;exact ⟨hg _ _ e1,e2⟩
def Stp(E:α→List UInt8)(ok:α→Prop)(s:Option (List UInt8))(x:α)(s':Option (List UInt8)):Prop:=
 ok x∧(s=none→s'=none)∧(∀ L R,s=some L→s'=some R→L=E x ++ R)∧(∀ L,s=some L→s'=none→∀ y R,ok y→L≠E y ++ R)
theorem Stp.pair{E:α→List UInt8}{F:β→List UInt8}{ok:α→Prop}{ok':β→Prop}(c:Cd E ok){s s1 s2:Option (List UInt8)}{x:α}{y:β}(h:Stp E ok s x s1)(k:Stp F ok' s1 y s2):Stp (Zl E F) (zR ok ok') s (x,y) s2:=by
 obtain ⟨a0,a1,a2,a3⟩:=h;obtain ⟨b0,b1,b2,b3⟩:=k;refine ⟨⟨a0,b0⟩,fun e=>b1 (a1 e),fun L R e1 e2=> ?_,fun L e1 e2 z R hz e=> ?_⟩
 ·cases s1 with
  | none=>rw[b1 rfl] at e2;cases e2
  | some M=>
   rw[a2 L M e1 rfl,b2 M R rfl e2];unfold Zl;rw[List.append_assoc]
 ·unfold Zl at e
  rw[List.append_assoc] at e;cases s1 with
  | none=>exact a3 L e1 rfl z.1 _ hz.1 e
  | some M=>
   have e3:=a2 L M e1 rfl;rw[e3] at e;obtain ⟨_,e4⟩:=c.uniq _ _ _ _ a0 hz.1 e;exact b3 M rfl e2 z.2 R hz.2 e4
theorem Stp.map{E:α→List UInt8}{ok:α→Prop}{F:β→List UInt8}{ok':β→Prop}{s s':Option (List UInt8)}{x:α}(h:Stp E ok s x s')(f:α→β)(g:β→α)(hgf:g (f x)=x)(hE:∀ y,F y=E (g y))(ho:ok x→ok' (f x))(ho':∀ y,ok' y→ok (g y)):Stp F ok' s (f x) s':=by
 obtain ⟨a0,a1,a2,a3⟩:=h;refine ⟨ho a0,a1,fun L R e1 e2=> ?_,fun L e1 e2 y R hy e=> ?_⟩
 ·rw[hE,hgf];exact a2 L R e1 e2
 ·rw[hE] at e
  exact a3 L e1 e2 (g y) R (ho' y hy) e
def zgO(s:Option (List UInt8))(n:Nat)(s':Option (List UInt8)):Prop:=
 (s'=none→n=0)∧(s=none→s'=none)∧(∀ L R,s=some L→s'=some R→L=QX (n:Int) ++ R∧n≤R.length)∧(∀ L,s=some L→s'=none→∀ (m:Nat) R,b64 (m:Int)→L=QX (m:Int) ++ R→R.length<m)
def ze2(E:α→List UInt8)(ok:α→Prop)(s:Option (List UInt8))(n k:Nat)(l:List α)(s':Option (List UInt8)):Prop:=
 l.length=k∧(∀ x,x∈l→ok x)∧∃ L R,s=some L∧s'=some R∧L=QX (n:Int) ++ (l.flatMap E ++ R)
theorem ze2.start{E:α→List UInt8}{ok:α→Prop}{s s':Option (List UInt8)}{n:Nat}(h:zgO s n s')(hn:n≠0):ze2 E ok s n 0 [] s':=by
 obtain ⟨a0,a1,a2,a3⟩:=h;refine ⟨rfl,(fun x hx=>by cases hx),?_⟩;cases s' with
 | none=>exact absurd (a0 rfl) hn
 | some R=>
  cases s with
  | none=>cases a1 rfl
  | some L=>exact ⟨L,R,rfl,rfl,by simpa using (a2 L R rfl rfl).1⟩
theorem ze2.next{E:α→List UInt8}{ok:α→Prop}{s s1 s2:Option (List UInt8)}{n k:Nat}{l:List α}{x:α}(h:ze2 E ok s n k l s1)(hx:Stp E ok s1 x s2)(h2:s2≠none):ze2 E ok s n (k+1) (l ++ [x]) s2:=by
 obtain ⟨a0,a1,L,R,e1,e2,e3⟩:=h;obtain ⟨b0,_,b2,_⟩:=hx;refine ⟨by simp[a0],fun y hy=> ?_,?_⟩
 ·rcases List.mem_append.1 hy with hy | hy
  ·exact a1 y hy
  ·rw[List.mem_singleton.1 hy];exact b0
 ·cases s2 with
  | none=>exact absurd rfl h2
  | some R2=>
   refine ⟨L,R2,e1,rfl,?_⟩;rw[e3,b2 R R2 e2 rfl,List.flatMap_append];simp
theorem ze2.done{E:α→List UInt8}{ok:α→Prop}{s s':Option (List UInt8)}{n:Nat}{l:List α}(h:ze2 E ok s n n l s')(hn:b64 (n:Int)):Stp (jW E) (qC ok) s l s':=by
 obtain ⟨a0,a1,L,R,e1,e2,e3⟩:=h;refine ⟨⟨by rw[a0];exact hn,a1⟩,(fun e=>by rw[e] at e1;cases e1),fun L' R' e4 e5=> ?_,fun L' e4 e5=> ?_⟩
 ·rw[e1] at e4
  rw[e2] at e5;cases e4;cases e5;rw[e3,jW,a0,List.append_assoc]
 ·rw[e2] at e5
  cases e5
theorem ze2.fail{E:α→List UInt8}{ok:α→Prop}(c:Cd E ok){s s1:Option (List UInt8)}{n k:Nat}{l:List α}{x:α}(h:ze2 E ok s n k l s1)(hk:k<n)(hx:Stp E ok s1 x none):Stp (jW E) (qC ok) s [] none:=by
 obtain ⟨a0,a1,L,R,e1,e2,e3⟩:=h;obtain ⟨b0,_,_,b3⟩:=hx;refine ⟨⟨by unfold b64;simp,fun y hy=>by cases hy⟩,fun _=>rfl,(fun L' R' _ e=>by cases e),fun L' e4 _ m S hm e=> ?_⟩;rw[e1] at e4;cases e4;rw[e3] at e;unfold jW at e;rw[List.append_assoc] at e;obtain ⟨e5,e6⟩:=jX e;have hlen:m.length=n:=by omega
 have hm1:m=m.take k ++ m.drop k:=(List.take_append_drop k m).symm;rw[hm1,List.flatMap_append,List.append_assoc] at e6;obtain ⟨_,e7⟩:=ZM c l (m.take k) R ((m.drop k).flatMap E ++ S) (by rw[a0,List.length_take];omega) a1 (fun y hy=>hm.2 y (List.mem_of_mem_take hy)) e6;cases hd:m.drop k with
 | nil=>
  have:=congrArg List.length hd;rw[List.length_drop] at this;simp at this;omega
 | cons y t=>
  rw[hd,List.flatMap_cons,List.append_assoc] at e7;exact b3 R e2 rfl y _ (hm.2 y (List.mem_of_mem_drop (by rw[hd];exact List.mem_cons_self ..))) e7
theorem zgO.empty{E:α→List UInt8}{ok:α→Prop}(hp:∀ x,0<(E x).length){s s':Option (List UInt8)}(h:zgO s 0 s'):Stp (jW E) (qC ok) s [] s':=by
 obtain ⟨a0,a1,a2,a3⟩:=h;refine ⟨⟨by unfold b64;simp,fun y hy=>by cases hy⟩,a1,fun L R e1 e2=> ?_,fun L e1 e2 m R hm e=> ?_⟩
 ·rw[(a2 L R e1 e2).1]
  simp[jW]
 ·unfold jW at e
  rw[List.append_assoc] at e;have:=a3 L e1 e2 m.length _ hm.1 e;rw[List.length_append] at this;have:=zdh hp m;omega
theorem zgO.of{s s':Option (List UInt8)}{n:Int}(h:Stp QX b64 s n s')(hok:∀ R,s'=some R→0≤n∧n≤(R.length:Int))(hn:s'=none→n=0):zgO s n.toNat s':=by
 obtain ⟨a0,a1,a2,a3⟩:=h;refine ⟨fun e=>by rw[hn e];rfl,a1,fun L R e1 e2=> ?_,fun L e1 e2 m R hm e=>absurd e (a3 L e1 e2 _ R hm)⟩;obtain ⟨b1,b2⟩:=hok R e2;rw[Int.toNat_of_nonneg b1];exact ⟨a2 L R e1 e2,by omega⟩
theorem zgO.bad{s:Option (List UInt8)}{n:Int}{R:List UInt8}(h:Stp QX b64 s n (some R))(hb:n<0∨(R.length:Int)<n):zgO s 0 none:=by
 obtain ⟨a0,a1,a2,a3⟩:=h;refine ⟨fun _=>rfl,fun _=>rfl,(fun L R' _ e=>by cases e),fun L e1 _ m S hm e=> ?_⟩;have e3:=a2 L R e1 rfl;rw[e3] at e;obtain ⟨e4,e5⟩:=jX e;subst e5;omega
end
def zjC:Int × Int→Prop:=zR b64 b64
def zfm:List (Int × Int)→Prop:=qC zjC
def zfk:List Int→List UInt8:=jW QX
def Jh:List Int→Prop:=qC b64
theorem Cd.ints:Cd zfk Jh:=Cd.num.list
def zjR:List (Int × Int) × Int × Int→Prop:=zR zfm zjC
def imE:Int × Int × List Int→List UInt8:=Zl QX (Zl QX zfk)
def zjq:Int × Int × List Int→Prop:=zR b64 (zR b64 Jh)
theorem Cd.im:Cd imE zjq:=Cd.num.pair (Cd.num.pair Cd.ints)
def inE(x:In8):List UInt8:=Zl QX (Zl QX (Zl QX (Zl QX (Zl QX zfk)))) (x.op,x.dst,x.a,x.b,x.n,x.args)
def zj4(x:In8):Prop:=zR b64 (zR b64 (zR b64 (zR b64 (zR b64 Jh)))) (x.op,x.dst,x.a,x.b,x.n,x.args)
theorem Cd.in:Cd inE zj4:=(Cd.num.pair (Cd.num.pair (Cd.num.pair (Cd.num.pair (Cd.num.pair Cd.ints))))).map (fun x:In8=>(x.op,x.dst,x.a,x.b,x.n,x.args)) (fun x y h=>by
 cases x;cases y;simp only[Prod.mk.injEq] at h;obtain ⟨rfl,rfl,rfl,rfl,rfl,rfl⟩:=h
 rfl) (fun _=>rfl) (fun _ h=>h)
def zkq:List In8→List UInt8:=jW inE
def zgf:List In8→Prop:=qC zj4
theorem Cd.ins:Cd zkq zgf:=Cd.in.list
def zkc(x:Bl8):Prop:=zR zgf (zR b64 (zR b64 (zR b64 b64))) (x.code,x.fin,x.reg,x.to,x.els)
def zjJ:List Bl8→Prop:=qC zkc
def zjT(x:Fu8):Prop:=zR b64 (zR zfm zjJ) (x.sig,x.regs,x.blocks)
def zit:List (List (Int × Int))→Prop:=qC zfm
def zjN:List (List (Int × Int) × Int × Int)→Prop:=qC zjR
def zkr:List (List Int)→List UInt8:=jW zfk
def zic:List (List Int)→Prop:=qC Jh
theorem Cd.ifs:Cd zkr zic:=Cd.ints.list
def zkv:List (Int × Int × List Int)→List UInt8:=jW imE
def zi0:List (Int × Int × List Int)→Prop:=qC zjq
theorem Cd.ims:Cd zkv zi0:=Cd.im.list
def zjG:List Fu8→Prop:=qC zjT
def zkp(x:Pr8):Prop:=zR zit (zR zjN (zR zic (zR zi0 (zR zjG b64)))) (x.recs,x.sigs,x.ifs,x.ims,x.funcs,x.main)
def zC:Nat→Bool:=fun _=>false
theorem zff:row zC=Array.replicate 79 (.int .u64 0):=by
 apply Array.ext_getElem?;intro i;by_cases hi:i<79
 ·rw[QA zC i hi]
  have:wd zC i=0:=zam i;rw[this];simp[hi]
 ·rw[Array.getElem?_eq_none (by rw[jT];omega),Array.getElem?_eq_none (by simp;omega)]
theorem Jw(w:World):(zeroValue 272).run Tryz.prog w=.ok (.agg (Array.replicate 79 (.int .u64 0))) w:=by kernel_rfl
theorem zbb(w:World):(zeroValue 272).run Tryz.prog w=.ok (.agg (row zC)) w:=by rw[zff];exact Jw w
theorem Jb(w:World)(s:Nat→Bool):zy (w.alloc (.cells (row s) 272)) w.heap.size s:=⟨heap_alloc_new w _⟩
theorem Zd:Fit zC:=fun _ _=>rfl
theorem zaU(a:Option Addr)(cap:Nat)(w:World):
  Calls Tryz.prog 244 #[.slice a 0 cap] w fun e w'=>e=.returned (pointer (some ⟨w.heap.size,0,none⟩))∧zy w' w.heap.size zC∧za [] w w':=by
 have hzero:=zbb;have hnew:=hid (Jb w zC);have hkn:za [] w (w.alloc (Obj.cells (row zC) 272)):=za.alloc _ _ _;go_enter Tryz.func244,Tryz.ntmps244;go_wp2_with fail;generalize w.alloc (Obj.cells (row zC) 272)=w1 at hnew hkn ⊢;generalize row zC=R
 go_loop [10] (fun i=>i=int i64 0) (fun _=>0)
 case atStart=>rfl
 case round=>
  subst hrel;go_wp2;go_ret;exact ⟨rfl,hnew.o,hkn⟩
def jQ(P:Pr8):Nat→Nat
 | 0=>0
 | f+1=>jQ P f+((zf P f).regs.length+1)
def ze9(P:Pr8)(k:Nat):List Int:=(List.range (k+1)).map fun f=>(jQ P f:Int)
def QW(P:Pr8)(q:Nat × Nat × Nat):Bool:=decide (q.2.2<(zq (zf P q.1) q.2.1).code.length) && decide ((qm (zq (zf P q.1) q.2.1) q.2.2).op=5)
def mkR(P:Pr8)(q:Nat × Nat × Nat):Int:=((zf P q.1).regs.getD (qm (zq (zf P q.1) q.2.1) q.2.2).dst.toNat (0,0)).2
def zaQ(P:Pr8)(k:Nat):Nat × Nat × Nat:=(pts P).getD k (0,0,0)
def zcd(P:Pr8)(r:Int):Nat:=(P.recs.getD r.toNat []).length
structure St where
 p:Nat
 r:Int
 c:Nat
 n:Nat
def stN(P:Pr8):Nat→List St × Nat
 | 0=>([],jQ P P.funcs.length)
 | k+1=>if QW P (zaQ P k)=true then ((stN P k).1 ++ [⟨k,mkR P (zaQ P k),(stN P k).2,zcd P (mkR P (zaQ P k))⟩],(stN P k).2+zcd P (mkR P (zaQ P k))) else stN P k
def zcf(P:Pr8):List St:=(stN P (pts P).length).1
def zcy(P:Pr8):Nat:=(stN P (pts P).length).2
theorem Q5(P:Pr8)(k:Nat):(ze9 P k).length=k+1:=by unfold ze9;rw[List.length_map,List.length_range]
theorem zda(P:Pr8)(k:Nat):ze9 P (k+1)=ze9 P k ++ [(jQ P (k+1):Int)]:=by
 unfold ze9;rw[List.range_succ,List.map_append];rfl
theorem zav(P:Pr8)(h:f≤k):(ze9 P k)[f]? = some (jQ P f:Int):=by
 unfold ze9;rw[List.getElem?_map,List.getElem?_range (by omega)];rfl
theorem zdl(P:Pr8){B:Nat}(h:∀ f,f<P.funcs.length→(zf P f).regs.length≤B):∀ k,k≤P.funcs.length→jQ P k≤(B+1) * k
 | 0,_=>Nat.zero_le _
 | k+1,hk=>by
  have h1:=zdl P h k (by omega);have h2:=h k (by omega);rw[Nat.mul_add];show jQ P k+_≤_;omega
theorem zaw{P:Pr8}(h:QW P (zaQ P k)=true):stN P (k+1)=((stN P k).1 ++ [⟨k,mkR P (zaQ P k),(stN P k).2,zcd P (mkR P (zaQ P k))⟩],(stN P k).2+zcd P (mkR P (zaQ P k))):=if_pos h
theorem zcM{P:Pr8}(h:QW P (zaQ P k)=false):stN P (k+1)=stN P k:=if_neg (by rw[h];decide)
theorem zaa(P:Pr8):∀ k,(stN P k).1.length≤k
 | 0=>Nat.le_refl 0
 | k+1=>by
  have h1:=zaa P k;cases h:QW P (zaQ P k) with
  | true=>rw[zaw h,List.length_append];exact Nat.succ_le_succ h1
  | false=>rw[zcM h];omega
theorem zfX(P:Pr8){B:Nat}(h:∀ r,zcd P r≤B):∀ k,(stN P k).2≤jQ P P.funcs.length+B * k
 | 0=>Nat.le_refl _
 | k+1=>by
  have h1:=zfX P h k;have h2:=h (mkR P (zaQ P k));rw[Nat.mul_add];cases h3:QW P (zaQ P k) with
  | true=>rw[zaw h3];show _+_≤_;omega
  | false=>rw[zcM h3];omega
def isF(P:Pr8)(f:Int):Bool:=decide (0≤f) && decide (f<(P.funcs.length:Int))
def zeZ(P:Pr8)(f r:Int):Int:=if isF P f=true∧0≤r∧r<((zf P f.toNat).regs.length:Int) then (jQ P f.toNat:Int)+r else -1
def zeS(P:Pr8)(f:Int):Int:=if isF P f=true then (jQ P f.toNat:Int)+((zf P f.toNat).regs.length:Int) else -1
def zhF(P:Pr8)(f:Int):Int:=if isF P f=true then ((zcf P).length:Int)+f else -1
def inB(k:Int)(n:Nat):Bool:=decide (0≤k) && decide (k<(n:Int))
theorem JQ{k:Int}(h1:0≤k)(h2:k<(n:Int)):inB k n=true:=by unfold inB;simp[h1,h2]
theorem zaS{k:Int}(h:¬ (0≤k∧k<(n:Int))):inB k n=false:=by
 unfold inB;by_cases h1:0≤k
 ·have h2:¬ k<(n:Int):=fun h2=>h ⟨h1,h2⟩
  simp[h2]
 ·simp[h1]
theorem z6{k:Int}:inB k n=true ↔ 0≤k∧k<(n:Int):=by unfold inB;simp
def qk{α:Type}(l:List α)(m:Nat)(g:α→Bool):Bool:=decide (l.length≤m) && l.all g
theorem qA{α:Type}{l:List α}{g:α→Bool}(h:m<l.length):qk l m g=false:=by
 unfold qk;have:¬ l.length≤m:=by omega
 simp[this]
theorem qW{α:Type}{l:List α}{g:α→Bool}{y:α}(hy:l[k]? = some y)(hg:g y=false):qk l m g=false:=by
 unfold qk;have h1:l.all g=false:=by
  rw[List.all_eq_false];exact ⟨y,List.mem_of_getElem? hy,by simp[hg]⟩
 rw[h1,Bool.and_false]
theorem q7{α:Type}{l:List α}{g:α→Bool}(h:l.length≤m)(hg:∀ (k:Nat) (y:α),l[k]? = some y→g y=true):qk l m g=true:=by
 unfold qk;have h1:l.all g=true:=by
  rw[List.all_eq_true];intro y hy;obtain ⟨k,hk⟩:=List.getElem?_of_mem hy;exact hg k y hk
 simp[h,h1]
theorem qq{α:Type}{l:List α}{g:α→Bool}(h:qk l m g=true):l.length≤m:=by
 unfold qk at h;simp at h;exact h.1
theorem qY{α:Type}{l:List α}{g:α→Bool}(h:qk l m g=true){y:α}(hy:l[k]? = some y):g y=true:=by
 unfold qk at h;rw[Bool.and_eq_true] at h;exact List.all_eq_true.1 h.2 y (List.mem_of_getElem? hy)
theorem qy{α:Type}{l:List α}{g:α→Bool}{y:α}(hy:l[k]? = some y)(hg:g y=false):l.all g=false:=by
 rw[List.all_eq_false];exact ⟨y,List.mem_of_getElem? hy,by simp[hg]⟩
theorem qG{α:Type}{l:List α}{g:α→Bool}(hg:∀ (k:Nat) (y:α),l[k]? = some y→g y=true):l.all g=true:=by
 rw[List.all_eq_true];intro y hy;obtain ⟨k,hk⟩:=List.getElem?_of_mem hy;exact hg k y hk
def zei(i:In8):Bool:=decide (i.args.length≤4)
def zej(b:Bl8):Bool:=qk b.code 30 zei
def fnB(f:Fu8):Bool:=decide (f.regs.length≤16) && (decide (0<f.blocks.length) && qk f.blocks 12 zej)
def zge(r:List (Int × Int)):Bool:=decide (r.length≤4)
def zg7(s:List (Int × Int) × Int × Int):Bool:=decide (s.1.length≤4)
def ifB(f:List Int):Bool:=decide (f.length≤3)
def imB(m:Int × Int × List Int):Bool:=decide (m.2.2.length≤3)
def zix(P:Pr8):Bool:=decide (0<P.funcs.length) && (qk P.recs 6 zge && (qk P.sigs 10 zg7 && (qk P.ifs 4 ifB && (qk P.ims 12 imB && qk P.funcs 12 fnB))))
def zdx(P:Pr8)(q:Nat × Nat × Nat):Bool:=decide (q.2.2<(zq (zf P q.1) q.2.1).code.length) && decide ((qm (zq (zf P q.1) q.2.1) q.2.2).op=5)
def qH(P:Pr8)(l:List (Nat × Nat × Nat)):Nat:=l.countP (zdx P)
theorem Jl(P:Pr8)(l:List (Nat × Nat × Nat)):qH P l≤l.length:=List.countP_le_length
theorem zai(P:Pr8)(l:List (Nat × Nat × Nat))(q:Nat × Nat × Nat):qH P (l ++ [q])=qH P l+(if zdx P q then 1 else 0):=by
 unfold qH;rw[List.countP_append,List.countP_singleton]
def Z7(P:Pr8):Bool:=zix P && (decide ((pts P).length≤600) && decide (qH P (pts P)≤40))
def tyB(P:Pr8)(t:Int × Int):Bool:=
 if t.1=0 then decide (t.2=0) else if t.1=1 then inB t.2 P.recs.length else if t.1=2 then inB t.2 P.sigs.length else if t.1=3 then inB t.2 P.ifs.length else false
def JI(P:Pr8)(l:List (Int × Int)):Bool:=l.all (tyB P)
def J1(l:List Int)(n:Nat):Bool:=l.all fun k=>inB k n
def zgd(P:Pr8)(s:List (Int × Int) × Int × Int):Bool:=JI P s.1 && tyB P s.2
def zfV(P:Pr8)(m:Int × Int × List Int):Bool:=inB m.1 P.recs.length && (inB m.2.1 P.ifs.length && J1 m.2.2 P.funcs.length)
def zA(P:Pr8):Bool:=P.recs.all (JI P) && (P.sigs.all (zgd P) && (P.ifs.all (fun l=>J1 l P.sigs.length) && P.ims.all (zfV P)))
end Go.Proofs.YthflgjkmbakedaaGreatDoor
