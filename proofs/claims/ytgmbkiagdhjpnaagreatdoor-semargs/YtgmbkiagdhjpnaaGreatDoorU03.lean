import Derived.Deep.QuietTactic
import Derived.BigQuiet
import Derived.Laws.BitsAllLaws
import Derived.RegionTactic
import Derived.ChangeAlike
import Derived.Laws.Bits64b
import Derived.Laws.Bits128
import Derived.OwnWalk
import Derived.Maps.AppendAt
import Derived.Lib.Builder
import Derived.Deep.OwnRows
import Derived.Deep.DeepCutAuto
import Derived.Deep.AppendLies
import Derived.LaidEql
import Derived.Stop.Asserts
import Derived.RowKitTokens
import Derived.Defers
import Derived.Recover
import Derived.Deep.RegionLaw
import Derived.Deep.RegionHeld
import Derived.Deep.RegionWith
import Derived.Deep.RegionHeld3
import Derived.Laws.AppendOwnNone
import Derived.Laws.Tables
import Derived.Sort.OwnSortedInts
import Derived.Deep.RegionLawGrows
import Derived.ArgAppend
import Derived.Test.YtgmbkiagdhjpnaaGreatDoorU01
import Derived.Test.YtgmbkiagdhjpnaaGreatDoorU02

namespace Go.Proofs.YtgmbkiagdhjpnaaGreatDoor
open Go.RowKit
open Go.Value (int pointer agg)
open Go.IntKind (i64)
set_option maxHeartbeats 1000000
variable {B b k n u:Nat}{L:List Nat}{R S:List UInt8}{a:Option Addr}{w w':World}
def Zr(s:Nat→Bool)(a:Int):Bool:=decide (0≤a) && s a.toNat
def zcc(s:Nat→Bool)(a:Int):Nat→Bool:=fun m=>s m || (decide (a<5000) && decide ((m:Int)=a))
def zg7(s:Nat→Bool)(a:Int):Nat→Bool:=fun m=>s m && !decide ((m:Int)=a)
def Fit(s:Nat→Bool):Prop:=∀ n,5000≤n→s n=false
theorem Fit.ins{s:Nat→Bool}(h:Fit s)(a:Int):Fit (zcc s a):=by
 intro n hn;unfold zcc;rw[h n hn];simp;omega
theorem zhm(s:Nat→Bool)(a:Int)(h:¬ (0≤a∧a<5000)):zcc s a=s:=by
 funext m
 unfold zcc;by_cases h1:a<5000
 ·have:¬ (m:Int)=a:=by omega
  simp[this]
 ·simp[h1]
theorem zjk(s:Nat→Bool)(n:Nat)(h:s n=true):zcc s (n:Int)=s:=by
 funext m
 unfold zcc;by_cases h1:(m:Int)=n
 ·have:m=n:=by omega
  subst this;simp[h]
 ·simp[h1]
theorem zcd(s:Nat→Bool)(n:Nat)(h:n<5000):zcc s (n:Int)=ins s n:=by
 funext m
 unfold zcc ins;have:(n:Int)<5000:=by omega
 by_cases hm:m=n
 ·subst hm;simp[this]
 ·have:¬ (m:Int)=n:=by omega
  simp[this,hm]
theorem zhB(s:Nat→Bool)(n:Nat):zg7 s (n:Int)=del s n:=by
 funext m
 unfold zg7 del;by_cases hm:m=n
 ·subst hm;simp
 ·have:¬ (m:Int)=n:=by omega
  simp[this,hm]
theorem zgq(s:Nat→Bool)(a:Int)(h:Zr s a=false):zg7 s a=s:=by
 funext m
 unfold zg7;by_cases h1:(m:Int)=a
 ·subst h1
  have:s m=false:=by simpa [Zr] using h
  simp[this]
 ·simp[h1]
def row(s:Nat→Bool):Array Value:=Array.ofFn (n:=79) fun k=>Value.int .u64 (wd s k:Nat)
theorem Zs(s:Nat→Bool):(row s).size=79:=by simp[row]
theorem JO(s:Nat→Bool)(k:Nat)(h:k<79):(row s)[k]? = some (.int .u64 (wd s k:Nat)):=by simp[row,h]
theorem ziV(s t:Nat→Bool)(k:Nat)(v:Nat)(h:∀ j,j≠k→wd t j=wd s j)(hv:v=wd t k):(row s).setIfInBounds k (.int .u64 (v:Nat))=row t:=by
 rw[hv];apply Array.ext_getElem?;intro i;rw[Array.getElem?_setIfInBounds];by_cases hi:i<79
 ·rw[JO t i hi,JO s i hi,Zs]
  by_cases hk:k=i
  ·subst hk;simp[hi]
  ·rw[if_neg hk,h i (fun e=>hk e.symm)]
 ·have e1:(row t)[i]? = none:=by simp[Zs];omega
  have e2:(row s)[i]? = none:=by simp[Zs];omega
  rw[e1,e2,Zs];by_cases hk:k=i
  ·subst hk;simp[hi]
  ·rw[if_neg hk]
structure zB (w:World) (b:Nat) (s:Nat→Bool):Prop where
 heap:w.heap[b]? = some (.cells (row s) 249 (0,0))
theorem zB.cell{s:Nat→Bool}(h:zB w b s)(hk:k<79):w.cell? ⟨b,k,none⟩=some (.int .u64 (wd s k:Nat)):=by
 rw[cell_of_row w b k _ _ _ h.heap,JO s k hk]
theorem zB.frozen{s:Nat→Bool}(h:zB w b s)(k:Nat):w.frozen? ⟨b,k,none⟩=false:=frozen_of_row w b k _ _ h.heap
theorem zB.lt{s:Nat→Bool}(h:zB w b s):b<w.heap.size:=by
 have:=h.heap;rw[Array.getElem?_eq_some_iff] at this;exact this.1
theorem zB.put{s:Nat→Bool}(h:zB w b s)(t:Nat→Bool)(k v:Nat)(ht:∀ j,j≠k→wd t j=wd s j)(hv:v=wd t k):zB (w.setCell ⟨b,k,none⟩ (.int .u64 (v:Nat))) b t:=
 ⟨by rw[heap_setCell_same w b k (row s) _ _ h.heap,ziV s t k v ht hv]⟩
theorem zB.kept{s:Nat→Bool}(h:zB w b s)(k:za L w w')(hb:b ∉ L):zB w' b s:=
 ⟨by rw[k.block b h.lt hb];exact h.heap⟩
theorem zB.drewN{s:Nat→Bool}(h:zB w b s)(n:Nat):zB (w.drewN n) b s:=⟨h.heap⟩
def jb(w:World):Prop:=∀ j,j<64→w.cell? ⟨1,j,none⟩=some (.int .u8 (Go.Lib.deBruijn64tab.getD j 0))
theorem jb.kept(h:jb w)(k:za L w w')(hn:1 ∉ L):jb w':=by
 intro j hj;have hc:=h j hj;rw[k.cell (p:=⟨1,j,none⟩) (block_lt_of_cell hc) hn];exact hc
theorem jb.drewN(h:jb w)(n:Nat):jb (w.drewN n):=h
theorem zj3(x k idx:Nat)(w:World)(hx0:((x:Int) == 0)=false)
  (key:IntKind.u64.wrap (bits BinOp.and IntKind.u64 (x:Int) (IntKind.u64.wrap (-(x:Int))) * 285870213051353865) / 288230376151711744=(idx:Int))
  (hi:idx<64) (hk:k<64) (hcell:w.cell? ⟨1,idx,none⟩=some (.int .u8 k)):
  Calls Tryz.prog 210 #[.int .u64 x] w fun e w'=>e=.returned (int i64 k)∧w'=w:=by
 go_enter Tryz.func210,Tryz.ntmps210;go_wp2_with (simp only[key]);go_ret;exact ⟨rfl,rfl⟩
theorem zlk(x a:Nat)(hx:x<18446744073709551616)(hx0:x≠0)(hlow:x &&& (18446744073709551616 - x)=a):
  IntKind.u64.wrap (bits BinOp.and IntKind.u64 (x:Int) (IntKind.u64.wrap (-(x:Int))) * 285870213051353865) / 288230376151711744=((a * 285870213051353865 % 18446744073709551616 / 288230376151711744:Nat):Int):=by
 have e1:IntKind.u64.wrap (-(x:Int))=((18446744073709551616 - x:Nat):Int):=by rw[IntKind.wrap_u64];omega
 rw[e1,u64_and_nat x _ hx (by omega),hlow,IntKind.wrap_u64];omega
theorem zk9(x:Nat)(w:World)(hx:x<18446744073709551616)(hx0:x≠0)(hT:jb w):
  Calls Tryz.prog 210 #[.int .u64 (x:Int)] w fun e w'=>e=.returned (int i64 (Go.Lib.ctz 64 x:Nat))∧w'=w:=by
 obtain ⟨hlow,hk⟩:=Go.Lib.lowest_bit 64 x hx0 hx;obtain ⟨hi,htab⟩:=Go.Lib.deBruijn64_at _ hk;have hc:=hT _ hi;rw[htab] at hc;exact zj3 x _ _ w (by simp;omega) (zlk x _ hx hx0 hlow) hi hk hc
theorem zeb(a:Int)(w:World):
  Calls Tryz.prog 180 #[int i64 a] w fun e w'=>e=.returned (.bool (decide (0≤a∧a<5000)))∧w'=w:=by
 by_cases h0:0≤a <;> by_cases h1:a<5000 <;> (go_enter Tryz.func180,Tryz.ntmps180;go_wp2;go_ret;exact ⟨by simp[h0,h1],rfl⟩)
theorem zbr(n:Nat)(w:World)(h:n<5000):
  Calls Tryz.prog 180 #[int i64 (n:Int)] w fun e w'=>e=.returned (.bool true)∧w'=w:=
 (zeb n w).mono fun e w' ⟨he,hw⟩=>⟨by rw[he];simp;omega,hw⟩
theorem zhZ(a:Int)(w:World)(h:¬ (0≤a∧a<5000)):
  Calls Tryz.prog 180 #[int i64 a] w fun e w'=>e=.returned (.bool false)∧w'=w:=
 (zeb a w).mono fun e w' ⟨he,hw⟩=>⟨by rw[he];simp;omega,hw⟩
theorem zfj(n:Nat)(w:World)(h1:n<5000):
  Calls Tryz.prog 181 #[int i64 n] w fun e w'=>e=.returned (.tuple #[int i64 ((n:Int) / 64),.int .u64 (IntKind.u64.wrap (2 ^ ((n:Int) % 64).toNat))])∧∃ m,w'=w.drewN m:=by
 go_enter Tryz.func181,Tryz.ntmps181;go_wp2;go_quiet (fail);go_wp2
 go_ret2
 exact ⟨rfl,_,rfl⟩
theorem zaQ(n:Nat)(w:World)(h1:n<5000):
  Calls Tryz.prog 181 #[int i64 n] w fun e w'=>∃ k p:Nat,e=.returned (.tuple #[int i64 k,.int .u64 p])∧k<79∧p<18446744073709551616∧Box (k=n / 64∧p=2 ^ (n % 64))∧∃ m,w'=w.drewN m:=by
 refine (zfj n w h1).mono fun e w' ⟨he,hw⟩=> ?_;have hp:2 ^ (n % 64)<18446744073709551616:=jX (Nat.mod_lt _ (by decide));refine ⟨n / 64,2 ^ (n % 64),?_,by omega,hp,hid ⟨rfl,rfl⟩,hw⟩;have e1:((n:Int) % 64).toNat=n % 64:=by omega
 have e2:IntKind.u64.wrap (2 ^ (n % 64))=((2 ^ (n % 64):Nat):Int):=by
  rw[IntKind.wrap_u64];have:((2 ^ (n % 64):Nat):Int)=(2:Int) ^ (n % 64):=by simp
  rw[← this];generalize 2 ^ (n % 64)=q at hp;omega
 rw[he,e1,e2];rfl
theorem zjh(b:Nat)(a:Int)(w:World)(h:¬ (0≤a∧a<5000)):
  Calls Tryz.prog 125 #[pointer (some ⟨b,0,none⟩),int i64 a] w fun e w'=>e=.returned (.bool false)∧w'=w:=by
 have H:=hid h;clear h;go_enter Tryz.func125,Tryz.ntmps125;go_wp2_with (go_at_call 180;refine (zhZ _ _ H.o).mono ?_;rintro e w' ⟨rfl,rfl⟩);go_ret;exact ⟨rfl,rfl⟩
theorem zgU(b n k p x y:Nat)(w:World)(h:n<5000)(hk:k<79)(hy:bits BinOp.and IntKind.u64 (x:Int) (p:Int)=(y:Int))(hc:w.cell? ⟨b,k,none⟩=some (.int .u64 x))
  (hpl:∀ w1,Calls Tryz.prog 181 #[int i64 n] w1 fun e w'=>e=.returned (.tuple #[int i64 k,.int .u64 p])∧∃ m,w'=w1.drewN m):
  Calls Tryz.prog 125 #[pointer (some ⟨b,0,none⟩),int i64 n] w fun e w'=>e=.returned (.bool ((y:Int) != 0))∧∃ m,w'=w.drewN m:=by
 have H:=hid hpl;clear hpl;go_enter Tryz.func125,Tryz.ntmps125;go_wp2_with fail;refine (zbr n _ h).mono ?_;rintro e w' ⟨rfl,rfl⟩;go_wp2_with fail;refine (H.o _).mono ?_;rintro e w' ⟨rfl,m,rfl⟩;go_wp2;go_ret;exact ⟨rfl,_,rfl⟩
theorem Zm(b:Nat)(s:Nat→Bool)(a:Int)(w:World)(hs:zB w b s)(hf:Fit s):
  Calls Tryz.prog 125 #[pointer (some ⟨b,0,none⟩),int i64 a] w fun e w'=>e=.returned (.bool (Zr s a))∧∃ m,w'=w.drewN m:=by
 by_cases h:0≤a∧a<5000
 ·obtain ⟨n,rfl⟩:=Int.eq_ofNat_of_zero_le h.1
  have hn:n<5000:=by omega
  have hp:2 ^ (n % 64)<18446744073709551616:=jX (Nat.mod_lt _ (by decide));have hc:=hs.cell (k:=n / 64) (by omega);refine (zgU b n (n / 64) (2 ^ (n % 64)) (wd s (n / 64)) (wd s (n / 64) &&& 2 ^ (n % 64)) w hn (by omega) (u64_and_nat _ _ (zbk s _) hp) hc (fun w1=> ?_)).mono fun e w' ⟨he,hw⟩=>⟨?_,hw⟩
  ·refine (zaQ n w1 hn).mono ?_
   rintro e w' ⟨k,p,he,_,_,hh,hw⟩;obtain ⟨rfl,rfl⟩:=hh.o;exact ⟨he,hw⟩
  ·rw[he]
   have hb:=ziU s n;have e2:Zr s (n:Int)=s n:=by simp[Zr]
   rw[e2];generalize wd s (n / 64) &&& 2 ^ (n % 64)=y at hb;cases hsn:s n
   ·rw[hsn] at hb
    have:y=0:=by simpa using hb
    subst this;rfl
   ·rw[hsn] at hb
    have:y≠0:=hb.2 rfl;simp;omega
 ·refine (zjh b a w h).mono fun e w' ⟨he,hw⟩=>⟨?_,0,hw⟩
  rw[he];have:Zr s a=false:=by
   unfold Zr;by_cases h0:0≤a
   ·simp[h0,hf a.toNat (by omega)]
   ·simp[h0]
  rw[this]
def zF:Nat→Bool:=fun _=>false
theorem zhD:row zF=Array.replicate 79 (.int .u64 0):=by
 apply Array.ext_getElem?;intro i;by_cases hi:i<79
 ·rw[JO zF i hi]
  have:wd zF i=0:=zbo i;rw[this];simp[hi]
 ·rw[Array.getElem?_eq_none (by rw[Zs];omega),Array.getElem?_eq_none (by simp;omega)]
theorem zai(w:World):(zeroValue 249).run Tryz.prog w=.ok (.agg (Array.replicate 79 (.int .u64 0))) w:=by kernel_rfl
theorem zbP(w:World):(zeroValue 249).run Tryz.prog w=.ok (.agg (row zF)) w:=by rw[zhD];exact zai w
theorem zaT(w:World)(s:Nat→Bool):zB (w.alloc (.cells (row s) 249)) w.heap.size s:=⟨heap_alloc_new w _⟩
theorem ZD:Fit zF:=fun _ _=>rfl
theorem zcb(a:Option Addr)(cap:Nat)(w:World):
  Calls Tryz.prog 209 #[.slice a 0 cap] w fun e w'=>e=.returned (pointer (some ⟨w.heap.size,0,none⟩))∧zB w' w.heap.size zF∧za [] w w':=by
 have hzero:=zbP;have hnew:=hid (zaT w zF);have hkn:za [] w (w.alloc (Obj.cells (row zF) 249)):=za.alloc _ _ _;go_enter Tryz.func209,Tryz.ntmps209;go_wp2_with fail;generalize w.alloc (Obj.cells (row zF) 249)=w1 at hnew hkn ⊢;generalize row zF=R
 go_loop [10] (fun i=>i=int i64 0) (fun _=>0)
 case atStart=>rfl
 case round=>
  subst hrel;go_wp2;go_ret;exact ⟨rfl,hnew.o,hkn⟩
def Qf(l:List Nat):List Value:=l.map fun n:Nat=>int i64 (n:Int)
theorem j8:Tryz.t3.zero=some (int i64 0):=by kernel_rfl
theorem jv:Tryz.t3.size=1:=by kernel_rfl
theorem qT:Tryz.t3.bytes=8:=by kernel_rfl
theorem q7:Tryz.prog.info? 3=some Tryz.t3:=by kernel_rfl
theorem zU:Tryz.prog.underlying 63=some (.slice 3):=by kernel_rfl
def zax(w:World)(B:Nat)(a:Option Addr)(zs:List Int):Prop:=
 zs=[]∨∃ b off,a=some ⟨b,off,none⟩∧b<B∧∀ i,i<zs.length→w.cell? ⟨b,off+i,none⟩=some (int i64 (zs.getD i 0))
def zdi(w:World)(B:Nat)(a:Option Addr)(xs:List (List Int)):Prop:=
 xs=[]∨∃ b off,a=some ⟨b,off,none⟩∧b<B∧∀ j,j<xs.length→∃ ai ci,w.cell? ⟨b,off+j,none⟩=some (.slice ai (xs.getD j []).length ci)∧zax w B ai (xs.getD j [])
theorem zax.kept{zs:List Int}(h:zax w B a zs)(k:za L w w')(hL:∀ x,x∈L→B≤x):zax w' B a zs:=by
 rcases h with h | ⟨b,off,rfl,hb,h⟩
 ·exact Or.inl h
 ·refine Or.inr ⟨b,off,rfl,hb,fun i hi=> ?_⟩
  have hc:=h i hi;rw[k.cell (p:=⟨b,off+i,none⟩) (block_lt_of_cell hc) (fun hx=>Nat.not_lt.2 (hL b hx) hb)];exact hc
theorem zdi.kept{xs:List (List Int)}(h:zdi w B a xs)(k:za L w w')(hL:∀ x,x∈L→B≤x):zdi w' B a xs:=by
 rcases h with h | ⟨b,off,rfl,hb,h⟩
 ·exact Or.inl h
 ·refine Or.inr ⟨b,off,rfl,hb,fun j hj=> ?_⟩
  obtain ⟨ai,ci,hc,hi⟩:=h j hj;refine ⟨ai,ci,?_,hi.kept k hL⟩;rw[k.cell (p:=⟨b,off+j,none⟩) (block_lt_of_cell hc) (fun hx=>Nat.not_lt.2 (hL b hx) hb)];exact hc
theorem zdi.quiet{xs:List (List Int)}(h:zdi w B a xs)(k:za [] w w'):zdi w' B a xs:=h.kept k (by simp)
theorem zbQ(N n:Int)(a:Option Addr)(len cap:Nat)(w:World)(h0:0≤n)(h1:n<N):
  Calls Tryz.prog 178 #[agg #[int i64 N,.slice a len cap],int i64 n] w fun e w'=>e=.returned (.bool true)∧za [] w w':=by
 go_enter Tryz.func178,Tryz.ntmps178;go_wp2;go_ret;exact ⟨rfl,za.alloc _ _ _⟩
theorem zd6(N n:Int)(a:Option Addr)(len cap:Nat)(w:World)(h:¬ (0≤n∧n<N)):
  Calls Tryz.prog 178 #[agg #[int i64 N,.slice a len cap],int i64 n] w fun e w'=>e=.returned (.bool false)∧za [] w w':=by
 by_cases h0:0≤n
 ·have h1:¬ n<N:=fun h1=>h ⟨h0,h1⟩
  clear h;go_enter Tryz.func178,Tryz.ntmps178;go_wp2;go_ret;exact ⟨rfl,za.alloc _ _ _⟩
 ·clear h
  go_enter Tryz.func178,Tryz.ntmps178;go_wp2;go_ret;exact ⟨rfl,za.alloc _ _ _⟩
structure zm4 (N:Int) (xs:List (List Int)):Prop where
 low:0≤N
 high:N≤600
 len:(xs.length:Int)=N
 all:∀ j,j<xs.length→∀ i,i<(xs.getD j []).length→0≤(xs.getD j []).getD i 0∧(xs.getD j []).getD i 0<N
theorem zfI(w:World)(x y:Value)(t:TypeId):(w.alloc (Obj.cells #[x,y] t)).cell? ⟨w.heap.size,0,none⟩=some x∧(w.alloc (Obj.cells #[x,y] t)).cell? ⟨w.heap.size,1,none⟩=some y:=
 ⟨by rw[cell_of_row _ _ 0 _ _ _ (heap_alloc_new w _)];rfl,by rw[cell_of_row _ _ 1 _ _ _ (heap_alloc_new w _)];rfl⟩
structure ZZ (w:World) (b:Nat) (N:Int) (a:Option Addr) (n cap:Nat):Prop where
 c0:w.cell? ⟨b,0,none⟩=some (int i64 N)
 c1:w.cell? ⟨b,1,none⟩=some (.slice a n cap)
theorem ZZ.lt{N:Int}{cap:Nat}(h:ZZ w b N a n cap):b<w.heap.size:=block_lt_of_cell h.c0
theorem ZZ.kept{N:Int}{cap:Nat}(h:ZZ w b N a n cap)(k:za L w w')(hb:b ∉ L):ZZ w' b N a n cap:=
 ⟨by rw[k.cell (p:=⟨b,0,none⟩) h.lt hb];exact h.c0,by rw[k.cell (p:=⟨b,1,none⟩) h.lt hb];exact h.c1⟩
theorem ZZ.new(w:World)(N:Int)(a:Option Addr)(n cap:Nat):ZZ (w.alloc (Obj.cells #[int i64 N,.slice a n cap] 182)) w.heap.size N a n cap:=
 ⟨(zfI w _ _ _).1,(zfI w _ _ _).2⟩
theorem zdi.at{xs:List (List Int)}(h:zdi w B a xs)(hk:k<xs.length):∃ b off ai ci,a=some ⟨b,off,none⟩∧w.cell? ⟨b,off+k,none⟩=some (.slice ai (xs.getD k []).length ci)∧zax w B ai (xs.getD k []):=by
 rcases h with h | ⟨b,off,h1,_,h3⟩
 ·rw[h] at hk;simp at hk
 ·obtain ⟨ai,ci,h4,h5⟩:=h3 k hk
  exact ⟨b,off,ai,ci,h1,h4,h5⟩
theorem zax.at{zs:List Int}(h:zax w B a zs)(hk:k<zs.length):∃ b off,a=some ⟨b,off,none⟩∧w.cell? ⟨b,off+k,none⟩=some (int i64 (zs.getD k 0)):=by
 rcases h with h | ⟨b,off,h1,_,h3⟩
 ·rw[h] at hk;simp at hk
 ·exact ⟨b,off,h1,h3 k hk⟩
theorem zhv(N:Int)(a:Option Addr)(n cap B:Nat)(xs:List (List Int))(w:World)(hL:zdi w B a xs)(hnn:xs.length=n)(h0:0≤N)(h1:N≤600)(h2:(n:Int)=N)(hi:∀ j,(xs.getD j []).length≤1000000):
  Calls Tryz.prog 123 #[agg #[int i64 N,.slice a n cap]] w fun e w'=>(e=.returned (.bool true)∧zm4 N xs∨e=.returned (.bool false)∧¬ zm4 N xs)∧za [] w w':=by
 have hn:¬ N<0:=by omega
 have hg:¬ 600<N:=by omega
 have hb:(((n:Nat):Int) != N)=false:=by simp[h2]
 have hl6:n≤600:=by omega
 have HN:=hid hnn;have H2:=hid h2;have HI:=hid hi;have hk1:za [] w (w.alloc (Obj.cells #[int i64 N,.slice a n cap] 182)):=za.alloc _ _ _;have HB1:=hid (ZZ.new w N a n cap);have HL1:=hid (hL.quiet hk1);clear hL hi h2 hnn;go_enter Tryz.func123,Tryz.ntmps123;go_wp2;generalize w.alloc (Obj.cells #[int i64 N,.slice a n cap] 182)=w1 at hk1 HB1 HL1 ⊢;generalize w.heap.size=b at HB1 ⊢
 go_loopw [26] (fun i wr=>∃ k:Nat,k≤n∧i=int i64 k∧za [] w1 wr∧Box (∀ j,j<k→∀ i,i<(xs.getD j []).length→0≤(xs.getD j []).getD i 0∧(xs.getD j []).getD i 0<N)) (fun i _=>n - (intOf i).toNat)
 case atStart=>exact ⟨0,by omega,rfl,za.refl _ _,hid (fun j hj=>by omega)⟩
 case round=>
  obtain ⟨k,hk,rfl,hkw,HA⟩:=hrel;by_cases hlt:k<n
  ·obtain ⟨bl,off,ai,ci,rfl,hc,hin⟩:=(HL1.o.quiet hkw).at (k:=k) (by rw[HN.o];exact hlt)
   have HI1:=hid hin;have hlen:=HI.o k;obtain ⟨l,hl⟩:∃ l,xs.getD k []=l:=⟨_,rfl⟩;rw[hl] at hc HI1 hlen;have HX:=hid hl;clear hin hl;go_wp2
   go_loopw [32] (fun i wr2=>∃ m:Nat,m≤l.length∧i=int i64 m∧za [] wr wr2∧Box (∀ i,i<m→0≤l.getD i 0∧l.getD i 0<N)) (fun i _=>l.length - (intOf i).toNat)
   case atStart=>exact ⟨0,by omega,rfl,za.refl _ _,hid (fun j hj=>by omega)⟩
   case round=>
    clear hc;obtain ⟨m,hm,rfl,hkw2,HA2⟩:=hrel;have hlt':(k:Int)<(n:Int):=by omega
    by_cases hml:m<l.length
    ·obtain ⟨bm,om,rfl,hcm⟩:=(HI1.o.kept hkw2 (by simp)).at hml
     have hbx:=HB1.o.kept (hkw.quiet hkw2) (by simp);have hc0:=hbx.c0;have hc1:=hbx.c1;clear hbx;obtain ⟨x,hx⟩:∃ x,l.getD m 0=x:=⟨_,rfl⟩;rw[hx] at hcm;have HXX:=hid hx;clear hx;by_cases hok:0≤x∧x<N
     ·have HC:Box (∀ w,Calls Tryz.prog 178 #[agg #[int i64 N,.slice (some ⟨bl,off,none⟩) n cap],int i64 x] w fun e w'=>e=.returned (.bool true)∧za [] w w'):=hid (fun w=>zbQ N x _ n cap w hok.1 hok.2)
      go_wp2_with (go_at_call 178;refine (HC.o _).mono ?_;rintro e w3 ⟨rfl,hk3⟩);go_roundw
      case rel=>exact ⟨m+1,by omega,by go_num,hkw2.quiet hk3,hid (fun i hi=>by
       by_cases e:i=m
       ·subst e;rw[HXX.o];exact hok
       ·exact HA2.o i (by omega))⟩
      case measure=>simp[intOf];omega
     ·have HC:Box (∀ w,Calls Tryz.prog 178 #[agg #[int i64 N,.slice (some ⟨bl,off,none⟩) n cap],int i64 x] w fun e w'=>e=.returned (.bool false)∧za [] w w'):=hid (fun w=>zd6 N x _ n cap w hok)
      have HOK:=hid hok;clear hok;go_wp2_with (go_at_call 178;refine (HC.o _).mono ?_;rintro e w3 ⟨rfl,hk3⟩);go_ret;refine ⟨.inr ⟨rfl,fun hmay=>HOK.o ?_⟩,((hk1.quiet hkw).quiet hkw2).quiet hk3⟩;have:=hmay.all k (by rw[HN.o];exact hlt) m (by rw[HX.o];exact hml);rw[HX.o,HXX.o] at this;exact this
    ·obtain rfl:m=l.length:=by omega
     go_wp2;go_roundw
     case rel=>exact ⟨k+1,by omega,by go_num,hkw.quiet hkw2,hid (fun j hj=>by
      by_cases e:j=k
      ·subst e;rw[HX.o];exact HA2.o
      ·exact HA.o j (by omega))⟩
     case measure=>simp[intOf];omega
  ·obtain rfl:k=n:=by omega
   go_wp2;go_ret;exact ⟨.inl ⟨rfl,h0,h1,by rw[HN.o];exact H2.o,by rw[HN.o];exact HA.o⟩,hk1.quiet hkw⟩
theorem zir(b:Nat)(a:Int)(w:World)(h:¬ (0≤a∧a<5000)):
  Calls Tryz.prog 192 #[pointer (some ⟨b,0,none⟩),int i64 a] w fun e w'=>e=.returned (.bool false)∧w'=w:=by
 have H:=hid h;clear h;go_enter Tryz.func192,Tryz.ntmps192;go_wp2_with (go_at_call 180;refine (zhZ _ _ H.o).mono ?_;rintro e w' ⟨rfl,rfl⟩);go_ret;exact ⟨rfl,rfl⟩
theorem zk0(b n:Nat)(w:World)(h:n<5000)
  (hh:∀ w1,w1=w→Calls Tryz.prog 125 #[pointer (some ⟨b,0,none⟩),int i64 n] w1 fun e w'=>e=.returned (.bool true)∧∃ m,w'=w1.drewN m):
  Calls Tryz.prog 192 #[pointer (some ⟨b,0,none⟩),int i64 n] w fun e w'=>e=.returned (.bool false)∧∃ m,w'=w.drewN m:=by
 have H:=hid hh;clear hh;go_enter Tryz.func192,Tryz.ntmps192;go_wp2_with fail;refine (zbr n _ h).mono ?_;rintro e w' ⟨rfl,rfl⟩;go_wp2_with fail;refine (H.o _ rfl).mono ?_;rintro e w' ⟨rfl,m,rfl⟩;go_wp2;go_ret;exact ⟨rfl,_,rfl⟩
theorem zgi(b n k p x z:Nat)(w:World)(h:n<5000)(hk:k<79)(hz:bits BinOp.or IntKind.u64 (x:Int) (p:Int)=(z:Int))(hc:w.cell? ⟨b,k,none⟩=some (.int .u64 x))(hfz:w.frozen? ⟨b,k,none⟩=false)
  (hh:∀ w1,w1=w→Calls Tryz.prog 125 #[pointer (some ⟨b,0,none⟩),int i64 n] w1 fun e w'=>e=.returned (.bool false)∧∃ m,w'=w1.drewN m)
  (hpl:∀ w1,Calls Tryz.prog 181 #[int i64 n] w1 fun e w'=>e=.returned (.tuple #[int i64 k,.int .u64 p])∧∃ m,w'=w1.drewN m):
  Calls Tryz.prog 192 #[pointer (some ⟨b,0,none⟩),int i64 n] w fun e w'=>e=.returned (.bool true)∧∃ m,w'=(w.setCell ⟨b,k,none⟩ (.int .u64 z)).drewN m:=by
 have H:=hid hh;have H2:=hid hpl;clear hh hpl;go_enter Tryz.func192,Tryz.ntmps192;go_wp2_with fail;refine (zbr n _ h).mono ?_;rintro e w' ⟨rfl,rfl⟩;go_wp2_with fail;refine (H.o _ rfl).mono ?_;rintro e w' ⟨rfl,m,rfl⟩;go_wp2_with fail;refine (H2.o _).mono ?_;rintro e w' ⟨rfl,m2,rfl⟩;go_wp2
 go_region
 go_wp2;go_ret;exact ⟨rfl,_,rfl⟩
theorem Jz(n:Nat)(hn:n<5000)(w1:World):Calls Tryz.prog 181 #[int i64 (n:Int)] w1 fun e w'=>e=.returned (.tuple #[int i64 ((n / 64:Nat):Int),.int .u64 ((2 ^ (n % 64):Nat):Int)])∧∃ m,w'=w1.drewN m:=by
 refine (zaQ n w1 hn).mono ?_;rintro e w' ⟨k,p,he,_,_,hh,hw⟩;obtain ⟨rfl,rfl⟩:=hh.o;exact ⟨he,hw⟩
theorem JJ(b:Nat)(s:Nat→Bool)(a:Int)(w:World)(hs:zB w b s)(hf:Fit s):
  Calls Tryz.prog 192 #[pointer (some ⟨b,0,none⟩),int i64 a] w fun e w'=>e=.returned (.bool (decide (0≤a∧a<5000) && !Zr s a))∧zB w' b (zcc s a)∧za [b] w w':=by
 by_cases h:0≤a∧a<5000
 ·have hd:decide (0≤a∧a<5000)=true:=by simpa using h
  rw[hd];obtain ⟨n,rfl⟩:=Int.eq_ofNat_of_zero_le h.1;have hn:n<5000:=by omega
  have e2:Zr s (n:Int)=s n:=by simp[Zr]
  rw[e2];have hh:∀ w1,w1=w→Calls Tryz.prog 125 #[pointer (some ⟨b,0,none⟩),int i64 (n:Int)] w1 fun e w'=>e=.returned (.bool (s n))∧∃ m,w'=w1.drewN m:=by
   intro w1 hw;subst hw;have:=Zm b s n w1 hs hf;rw[e2] at this;exact this
  cases hsn:s n
  ·have hp:2 ^ (n % 64)<18446744073709551616:=jX (Nat.mod_lt _ (by decide))
   have hc:=hs.cell (k:=n / 64) (by omega);rw[hsn] at hh;refine (zgi b n (n / 64) (2 ^ (n % 64)) (wd s (n / 64)) (wd s (n / 64) ||| 2 ^ (n % 64)) w hn (by omega) (u64_or_nat _ _ (zbk s _) hp) hc (hs.frozen _) hh (Jz n hn)).mono ?_;rintro e w' ⟨he,m,hw⟩;subst hw;refine ⟨by rw[he];rfl,?_,?_⟩
   ·rw[zcd s n hn]
    exact (hs.put (ins s n) (n / 64) _ (fun j hj=>zcF s n j hj) (zf0 s n)).drewN m
   ·exact (za.setCell [b] w ⟨b,n / 64,none⟩ _ (by simp)).quiet (za.drewN _ _ m)
  ·rw[hsn] at hh
   refine (zk0 b n w hn hh).mono ?_;rintro e w' ⟨he,m,hw⟩;subst hw;exact ⟨by rw[he];rfl,by rw[zjk s n hsn];exact hs.drewN m,za.drewN _ _ m⟩
 ·have hd:decide (0≤a∧a<5000)=false:=by simpa using h
  rw[hd];refine (zir b a w h).mono ?_;rintro e w' ⟨he,hw⟩;subst hw;exact ⟨by rw[he];rfl,by rw[zhm s a h];exact hs,za.refl _ _⟩
theorem zje(pv:Value)(a:Int)(w:World)
  (hh:Calls Tryz.prog 125 #[pv,int i64 a] w fun e w'=>e=.returned (.bool false)∧∃ m,w'=w.drewN m):
  Calls Tryz.prog 188 #[pv,int i64 a] w fun e w'=>e=.returned (.bool false)∧∃ m,w'=w.drewN m:=by
 have H:=hid hh;clear hh;go_enter Tryz.func188,Tryz.ntmps188;go_wp2_with fail;refine H.o.mono ?_;rintro e w' ⟨rfl,m,rfl⟩;go_wp2;go_ret;exact ⟨rfl,_,rfl⟩
theorem zgx(b n k p x z:Nat)(w:World)(hk:k<79)(hz:bits BinOp.andNot IntKind.u64 (x:Int) (p:Int)=(z:Int))(hc:w.cell? ⟨b,k,none⟩=some (.int .u64 x))(hfz:w.frozen? ⟨b,k,none⟩=false)
  (hh:Calls Tryz.prog 125 #[pointer (some ⟨b,0,none⟩),int i64 n] w fun e w'=>e=.returned (.bool true)∧∃ m,w'=w.drewN m)
  (hpl:∀ w1,Calls Tryz.prog 181 #[int i64 n] w1 fun e w'=>e=.returned (.tuple #[int i64 k,.int .u64 p])∧∃ m,w'=w1.drewN m):
  Calls Tryz.prog 188 #[pointer (some ⟨b,0,none⟩),int i64 n] w fun e w'=>e=.returned (.bool true)∧∃ m,w'=(w.setCell ⟨b,k,none⟩ (.int .u64 z)).drewN m:=by
 have H:=hid hh;have H2:=hid hpl;clear hh hpl;go_enter Tryz.func188,Tryz.ntmps188;go_wp2_with fail;refine H.o.mono ?_;rintro e w' ⟨rfl,m,rfl⟩;go_wp2_with fail;refine (H2.o _).mono ?_;rintro e w' ⟨rfl,m2,rfl⟩;go_wp2
 go_region
 go_wp2;go_ret;exact ⟨rfl,_,rfl⟩
theorem zjc(b:Nat)(s:Nat→Bool)(a:Int)(w:World)(hs:zB w b s)(hf:Fit s):
  Calls Tryz.prog 188 #[pointer (some ⟨b,0,none⟩),int i64 a] w fun e w'=>e=.returned (.bool (Zr s a))∧zB w' b (zg7 s a)∧za [b] w w':=by
 have hh:=Zm b s a w hs hf;cases hsn:Zr s a
 ·rw[hsn] at hh
  refine (zje _ a w hh).mono ?_;rintro e w' ⟨he,m,hw⟩;subst hw;exact ⟨by rw[he],by rw[zgq s a hsn];exact hs.drewN m,za.drewN _ _ m⟩
 ·rw[hsn] at hh
  have h0:0≤a:=by
   by_cases h0:0≤a
   ·exact h0
   ·simp[Zr,h0] at hsn
  obtain ⟨n,rfl⟩:=Int.eq_ofNat_of_zero_le h0;have hsn':s n=true:=by simpa [Zr] using hsn
  have hn:n<5000:=by
   apply Nat.lt_of_not_le;intro hle;rw[hf n hle] at hsn';cases hsn'
  have hp:2 ^ (n % 64)<18446744073709551616:=jX (Nat.mod_lt _ (by decide));have hc:=hs.cell (k:=n / 64) (by omega);refine (zgx b n (n / 64) (2 ^ (n % 64)) (wd s (n / 64)) (wd s (n / 64) &&& (18446744073709551615 - 2 ^ (n % 64))) w (by omega) (u64_andNot_nat _ _ (zbk s _) hp) hc (hs.frozen _) hh (Jz n hn)).mono ?_;rintro e w' ⟨he,m,hw⟩;subst hw;refine ⟨by rw[he],?_,?_⟩
  ·rw[zhB s n]
   exact (hs.put (del s n) (n / 64) _ (fun j hj=>zdj s n j hj) (zeh s n)).drewN m
  ·exact (za.setCell [b] w ⟨b,n / 64,none⟩ _ (by simp)).quiet (za.drewN _ _ m)
def JA(l:List Nat):List Int:=l.map fun n:Nat=>(n:Int)
def QK(L:List (List Nat)):List (List Int):=L.map JA
theorem qU(l:List Nat):(JA l).length=l.length:=by unfold JA;rw[List.length_map]
theorem jt(L:List (List Nat)):(QK L).length=L.length:=by unfold QK;rw[List.length_map]
theorem qK(L:List (List Nat))(j:Nat):(QK L).getD j []=JA (nb L j):=by
 unfold QK nb;rw[List.getD_eq_getElem?_getD,List.getD_eq_getElem?_getD,List.getElem?_map];cases L[j]? <;> rfl
theorem Q6(l:List Nat)(j:Nat):(JA l).getD j 0=((l.getD j 0:Nat):Int):=by
 unfold JA;rw[List.getD_eq_getElem?_getD,List.getD_eq_getElem?_getD,List.getElem?_map];cases l[j]? <;> rfl
def GAt(w:World)(B:Nat)(a:Option Addr)(g:List (List Nat)):Prop:=zdi w B a (QK g)
theorem GAt.kept{g:List (List Nat)}(h:GAt w B a g)(k:za L w w')(hL:∀ x,x∈L→B≤x):GAt w' B a g:=zdi.kept h k hL
theorem GAt.quiet{g:List (List Nat)}(h:GAt w B a g)(k:za [] w w'):GAt w' B a g:=zdi.quiet h k
def NAt(w:World)(B:Nat)(a:Option Addr)(l:List Nat):Prop:=zax w B a (JA l)
theorem NAt.kept{l:List Nat}(h:NAt w B a l)(k:za L w w')(hL:∀ x,x∈L→B≤x):NAt w' B a l:=zax.kept h k hL
theorem GAt.at{g:List (List Nat)}(h:GAt w B a g)(hk:k<g.length):∃ b off ai ci,a=some ⟨b,off,none⟩∧w.cell? ⟨b,off+k,none⟩=some (.slice ai (nb g k).length ci)∧NAt w B ai (nb g k):=by
 obtain ⟨b,off,ai,ci,h1,h2,h3⟩:=zdi.at h (k:=k) (by rw[jt];exact hk);rw[qK,qU] at h2;rw[qK] at h3;exact ⟨b,off,ai,ci,h1,h2,h3⟩
theorem NAt.at{l:List Nat}(h:NAt w B a l)(hk:k<l.length):∃ b off,a=some ⟨b,off,none⟩∧w.cell? ⟨b,off+k,none⟩=some (int i64 ((l.getD k 0:Nat):Int)):=by
 obtain ⟨b,off,h1,h2⟩:=zax.at h (k:=k) (by rw[qU];exact hk);rw[Q6] at h2;exact ⟨b,off,h1,h2⟩
theorem jQ{α:Type}(l:List α)(k:Nat)(d:α)(h:k<l.length):l.take (k+1)=l.take k ++ [l.getD k d]:=by
 rw[List.take_succ_eq_append_getElem h,List.getD_eq_getElem?_getD,List.getElem?_eq_getElem h];rfl
theorem JP{α:Type}(l:List α)(k:Nat)(d:α)(h:k<l.length):l.getD k d∈l:=by
 rw[List.getD_eq_getElem?_getD,List.getElem?_eq_getElem h];exact List.getElem_mem h
theorem zbT(g:List (List Nat)):∀ (f n:Nat) (st:(Nat→Bool) × List Nat) (m:Nat),st.1 m=true→(vis g f n st).1 m=true
 | 0,_,_,_,h=>h
 | f+1,n,st,m,h=>by
  cases hs:st.1 n with
  | true=>rw[zcy g (f+1) n st hs];exact h
  | false=>
   rw[JF g f n st hs];have go:∀ (ns:List Nat) (t:(Nat→Bool) × List Nat),t.1 m=true→(Jh g f ns t).1 m=true:=by
    intro ns
    induction ns with
    | nil=>intro t ht;exact ht
    | cons a ns ih=>intro t ht;rw[js];exact ih _ (zbT g f a t m ht)
   exact go _ _ (by show (st.1 m || (m == n))=true;rw[h];rfl)
theorem za0(g:List (List Nat))(f:Nat):∀ (ns:List Nat) (st:(Nat→Bool) × List Nat) (m:Nat),st.1 m=true→(Jh g f ns st).1 m=true
 | [],_,_,h=>h
 | a :: ns,st,m,h=>by rw[js];exact za0 g f ns _ m (zbT g f a st m h)
theorem Q2(g:List (List Nat))(hg:Ok g):∀ (f n:Nat) (st:(Nat→Bool) × List Nat) (m:Nat),n<g.length→(vis g f n st).1 m=true→st.1 m=true∨m<g.length
 | 0,_,_,_,_,h=>.inl h
 | f+1,n,st,m,hn,h=>by
  cases hs:st.1 n with
  | true=>rw[zcy g (f+1) n st hs] at h;exact .inl h
  | false=>
   rw[JF g f n st hs] at h;have go:∀ (ns:List Nat) (t:(Nat→Bool) × List Nat),(∀ a,a∈ns→a<g.length)→(Jh g f ns t).1 m=true→t.1 m=true∨m<g.length:=by
    intro ns
    induction ns with
    | nil=>intro t _ ht;exact .inl ht
    | cons a ns ih=>
     intro t hns ht;rw[js] at ht;rcases ih _ (fun x hx=>hns x (by simp[hx])) ht with h1 | h1
     ·exact Q2 g hg f a t m (hns a (by simp)) h1
     ·exact .inr h1
   rcases go _ _ (fun a ha=>hg n a ha) h with h1 | h1
   ·have h2:(st.1 m || (m == n))=true:=h1
    rw[Bool.or_eq_true,beq_iff_eq] at h2;rcases h2 with h2 | h2
    ·exact .inl h2
    ·exact .inr (h2 ▸ hn)
   ·exact .inr h1
theorem zak(g:List (List Nat))(hg:Ok g)(f:Nat):∀ (ns:List Nat) (st:(Nat→Bool) × List Nat) (m:Nat),(∀ a,a∈ns→a<g.length)→(Jh g f ns st).1 m=true→st.1 m=true∨m<g.length
 | [],_,_,_,h=>.inl h
 | a :: ns,st,m,hns,h=>by
  rw[js] at h;rcases zak g hg f ns _ m (fun x hx=>hns x (by simp[hx])) h with h1 | h1
  ·exact Q2 g hg f a st m (hns a (by simp)) h1
  ·exact .inr h1
theorem zei(g:List (List Nat))(hg:Ok g):∀ (f n:Nat) (st:(Nat→Bool) × List Nat),n<g.length→(vis g f n st).2.length+un g (vis g f n st).1≤st.2.length+un g st.1
 | 0,_,_,_=>Nat.le_refl _
 | f+1,n,st,hn=>by
  cases hs:st.1 n with
  | true=>rw[zcy g (f+1) n st hs];exact Nat.le_refl _
  | false=>
   rw[JF g f n st hs];have hu:=zhS g st.1 n hs hn;have go:∀ (ns:List Nat) (t:(Nat→Bool) × List Nat),(∀ a,a∈ns→a<g.length)→(Jh g f ns t).2.length+un g (Jh g f ns t).1≤t.2.length+un g t.1:=by
    intro ns
    induction ns with
    | nil=>intro t _;exact Nat.le_refl _
    | cons a ns ih=>
     intro t hns;rw[js];exact Nat.le_trans (ih _ (fun x hx=>hns x (by simp[hx]))) (zei g hg f a t (hns a (by simp)))
   have:=go (nb g n) (ins st.1 n,st.2) (fun a ha=>hg n a ha);generalize Jh g f (nb g n) (ins st.1 n,st.2)=A at this ⊢;have e:A.2.length+un g A.1≤st.2.length+un g (ins st.1 n):=this;show (A.2 ++ [n]).length+un g A.1≤_;rw[List.length_append];have e1:[n].length=1:=rfl;omega
theorem J8(g:List (List Nat))(hg:Ok g)(f:Nat):∀ (ns:List Nat) (st:(Nat→Bool) × List Nat),(∀ a,a∈ns→a<g.length)→(Jh g f ns st).2.length+un g (Jh g f ns st).1≤st.2.length+un g st.1
 | [],_,_=>Nat.le_refl _
 | a :: ns,st,hns=>by
  rw[js];exact Nat.le_trans (J8 g hg f ns _ (fun x hx=>hns x (by simp[hx]))) (zei g hg f a st (hns a (by simp)))
structure Sm (g:List (List Nat)):Prop where
 ok:Ok g
 len:g.length≤600
 short:∀ j,(nb g j).length≤1000
theorem Sm.inner{g:List (List Nat)}(h:Sm g)(j:Nat):(nb g j).length≤1000000:=Nat.le_trans (h.short j) (by decide)
theorem Sm.may{g:List (List Nat)}(h:Sm g):zm4 (g.length:Int) (QK g):=by
 refine ⟨by omega,by have:=h.len;omega,by rw[jt],fun j _ i hi=> ?_⟩;rw[qK] at hi ⊢;rw[qU] at hi;rw[Q6];have:=h.ok j _ (JP (nb g j) i 0 hi);omega
theorem JX(g:List (List Nat))(hs:Sm g)(a:Option Addr)(cap B:Nat)(w:World)(hG:GAt w B a g):
  Calls Tryz.prog 123 #[agg #[int i64 (g.length:Int),.slice a g.length cap]] w fun e w'=>e=.returned (.bool true)∧za [] w w':=by
 refine (zhv (g.length:Int) a g.length cap B (QK g) w hG (jt g) (by omega) (by have:=hs.len;omega) rfl (fun j=>by rw[qK,qU];exact hs.inner j)).mono ?_;rintro e w' ⟨h | h,hk⟩
 ·exact ⟨h.1,hk⟩
 ·exact absurd hs.may h.2
theorem zjo(w:World)(base:Nat):w.ownsRow base 3 1 (.slice none 0 0) ([]:List Nat).length (Qf []):=World.ownsRow_nil w _ _ _
theorem zcl{α:Type}{l:List α}{d:α}(h:¬ k<l.length):l.getD k d=d:=by rw[List.getD_eq_getElem?_getD,List.getElem?_eq_none (by omega)];rfl
def Qa(u:Nat):List UInt8:=if u<128 then [UInt8.ofNat u] else UInt8.ofNat (u % 128+128) :: Qa (u / 128)
termination_by u
decreasing_by omega
theorem Qp(h:u<128):Qa u=[UInt8.ofNat u]:=by rw[Qa,if_pos h]
theorem Qr(h:¬ u<128):Qa u=UInt8.ofNat (u % 128+128) :: Qa (u / 128):=by rw[Qa,if_neg h]
theorem jc(h:n<256):(UInt8.ofNat n).toNat=n:=by
 rw[UInt8.toNat_ofNat'];exact Nat.mod_eq_of_lt h
theorem zdT(u:Nat):0<(Qa u).length:=by
 by_cases h:u<128
 ·rw[Qp h];simp
 ·rw[Qr h];simp
theorem zcW{c:UInt8}(h:Qa u ++ R=c :: S)(hc:128≤c.toNat):1≤u / 128∧c.toNat=u % 128+128∧Qa (u / 128) ++ R=S:=by
 by_cases h1:u<128
 ·rw[Qp h1] at h
  have e:UInt8.ofNat u=c:=by simpa using congrArg List.head? h
  rw[← e,jc (by omega)] at hc;omega
 ·rw[Qr h1,List.cons_append] at h
  obtain ⟨e1,e2⟩:=List.cons.inj h;refine ⟨by omega,?_,e2⟩;rw[← e1,jc (by omega)]
theorem zdb{c:UInt8}(h:Qa u ++ R=c :: S)(hc:c.toNat<128):u=c.toNat∧R=S:=by
 by_cases h1:u<128
 ·rw[Qp h1] at h
  obtain ⟨e1,e2⟩:=List.cons.inj h;exact ⟨by rw[← e1,jc (by omega)],by simpa using e2⟩
 ·rw[Qr h1,List.cons_append] at h
  obtain ⟨e1,_⟩:=List.cons.inj h;rw[← e1,jc (by omega)] at hc;omega
theorem zcO:∀ (u v:Nat) (R S:List UInt8),Qa u ++ R=Qa v ++ S→u=v∧R=S:=by
 intro u
 induction u using Nat.strongRecOn with
 | ind u ih=>
  intro v R S h;by_cases h1:u<128
  ·rw[Qp h1] at h
   have:=zdb h.symm (by rw[jc (by omega)];exact h1);rw[jc (by omega)] at this;exact ⟨this.1.symm,this.2.symm⟩
  ·rw[Qr h1] at h
   obtain ⟨a1,a2,a3⟩:=zcW h.symm (by rw[jc (by omega)];omega);rw[jc (by omega)] at a2;obtain ⟨b1,b2⟩:=ih (u / 128) (by omega) (v / 128) R S a3.symm;exact ⟨by omega,b2⟩
def zb0(n:Int):Nat:=if n<0 then (-2 * n - 1).toNat else (2 * n).toNat
theorem ZK{n:Int}(h:n<0):(zb0 n:Int)= -2 * n - 1:=by
 rw[zb0,if_pos h];omega
theorem ZL{n:Int}(h:¬ n<0):(zb0 n:Int)=2 * n:=by
 rw[zb0,if_neg h];omega
theorem zeJ{n m:Int}(h:zb0 n=zb0 m):n=m:=by
 by_cases h1:n<0 <;> by_cases h2:m<0
 ·have:=ZK h1;have:=ZK h2;omega
 ·have:=ZK h1;have:=ZL h2;omega
 ·have:=ZL h1;have:=ZK h2;omega
 ·have:=ZL h1;have:=ZL h2;omega
def zaf(n:Int):List UInt8:=Qa (zb0 n)
theorem zcf(n:Int):0<(zaf n).length:=zdT _
theorem Zz{n m:Int}(h:zaf n ++ R=zaf m ++ S):n=m∧R=S:=by
 obtain ⟨a,b⟩:=zcO _ _ _ _ h;exact ⟨zeJ a,b⟩
section
variable {α β:Type}
structure Cd (E:α→List UInt8) (ok:α→Prop):Prop where
 pos:∀ x,0<(E x).length
 uniq:∀ x y R S,ok x→ok y→E x ++ R=E y ++ S→x=y∧R=S
theorem Cd.num:Cd zaf b64:=⟨zcf,fun _ _ _ _ _ _ h=>Zz h⟩
def ZV(E:α→List UInt8)(F:β→List UInt8)(x:α × β):List UInt8:=E x.1 ++ F x.2
def qd(ok:α→Prop)(ok':β→Prop)(x:α × β):Prop:=ok x.1∧ok' x.2
theorem Cd.pair{E:α→List UInt8}{F:β→List UInt8}{ok:α→Prop}{ok':β→Prop}(h:Cd E ok)(k:Cd F ok'):Cd (ZV E F) (qd ok ok'):=by
 refine ⟨fun x=> ?_,fun x y R S hx hy e=> ?_⟩
 ·rw[ZV,List.length_append];have:=h.pos x.1;omega
 ·unfold ZV at e
  rw[List.append_assoc,List.append_assoc] at e;obtain ⟨e1,e2⟩:=h.uniq _ _ _ _ hx.1 hy.1 e;obtain ⟨e3,e4⟩:=k.uniq _ _ _ _ hx.2 hy.2 e2;exact ⟨Prod.ext e1 e3,e4⟩
def Zy(E:α→List UInt8)(l:List α):List UInt8:=zaf (l.length:Int) ++ l.flatMap E
def jf(ok:α→Prop)(l:List α):Prop:=b64 (l.length:Int)∧∀ x,x∈l→ok x
theorem zfd{E:α→List UInt8}(h:∀ x,0<(E x).length)(l:List α):l.length≤(l.flatMap E).length:=by
 induction l with
 | nil=>simp
 | cons x l ih=>
  rw[List.flatMap_cons,List.length_append,List.length_cons];have:=h x;omega
theorem QH{E:α→List UInt8}{ok:α→Prop}(h:Cd E ok):∀ (l m:List α) (R S:List UInt8),l.length=m.length→(∀ x,x∈l→ok x)→(∀ x,x∈m→ok x)→l.flatMap E ++ R=m.flatMap E ++ S→l=m∧R=S
 | [],m,R,S,hl,_,_,e=>by
  have:m=[]:=List.eq_nil_of_length_eq_zero hl.symm;subst this;exact ⟨rfl,by simpa using e⟩
 | x :: l,[],R,S,hl,_,_,e=>by simp at hl
 | x :: l,y :: m,R,S,hl,hx,hy,e=>by
  rw[List.flatMap_cons,List.flatMap_cons,List.append_assoc,List.append_assoc] at e;obtain ⟨e1,e2⟩:=h.uniq _ _ _ _ (hx x (List.mem_cons_self ..)) (hy y (List.mem_cons_self ..)) e;obtain ⟨e3,e4⟩:=QH h l m R S (by simpa using hl) (fun z hz=>hx z (List.mem_cons_of_mem _ hz)) (fun z hz=>hy z (List.mem_cons_of_mem _ hz)) e2;exact ⟨by rw[e1,e3],e4⟩
theorem Cd.list{E:α→List UInt8}{ok:α→Prop}(h:Cd E ok):Cd (Zy E) (jf ok):=by
 refine ⟨fun l=> ?_,fun l m R S hl hm e=> ?_⟩
 ·rw[Zy,List.length_append];have:=zcf (l.length:Int);omega
 ·unfold Zy at e
  rw[List.append_assoc,List.append_assoc] at e;obtain ⟨e1,e2⟩:=Zz e;exact QH h l m R S (by omega) hl.2 hm.2 e2
theorem Cd.map{E:α→List UInt8}{ok:α→Prop}(h:Cd E ok){F:β→List UInt8}{ok':β→Prop}(g:β→α)(hg:∀ x y,g x=g y→x=y)(hE:∀ x,F x=E (g x))(ho:∀ x,ok' x→ok (g x)):Cd F ok':=by
 refine ⟨fun x=>by rw[hE];exact h.pos _,fun x y R S hx hy e=> ?_⟩;rw[hE,hE] at e;obtain ⟨e1,e2⟩:=h.uniq _ _ _ _ (ho x hx) (ho y hy) e;exact ⟨hg _ _ e1,e2⟩
def Stp(E:α→List UInt8)(ok:α→Prop)(s:Option (List UInt8))(x:α)(s':Option (List UInt8)):Prop:=
 ok x∧(s=none→s'=none)∧(∀ L R,s=some L→s'=some R→L=E x ++ R)∧(∀ L,s=some L→s'=none→∀ y R,ok y→L≠E y ++ R)
theorem Stp.pair{E:α→List UInt8}{F:β→List UInt8}{ok:α→Prop}{ok':β→Prop}(c:Cd E ok){s s1 s2:Option (List UInt8)}{x:α}{y:β}(h:Stp E ok s x s1)(k:Stp F ok' s1 y s2):Stp (ZV E F) (qd ok ok') s (x,y) s2:=by
 obtain ⟨a0,a1,a2,a3⟩:=h;obtain ⟨b0,b1,b2,b3⟩:=k;refine ⟨⟨a0,b0⟩,fun e=>b1 (a1 e),fun L R e1 e2=> ?_,fun L e1 e2 z R hz e=> ?_⟩
 ·cases s1 with
  | none=>rw[b1 rfl] at e2;cases e2
  | some M=>
   rw[a2 L M e1 rfl,b2 M R rfl e2];unfold ZV;rw[List.append_assoc]
 ·unfold ZV at e
  rw[List.append_assoc] at e;cases s1 with
  | none=>exact a3 L e1 rfl z.1 _ hz.1 e
  | some M=>
   have e3:=a2 L M e1 rfl;rw[e3] at e;obtain ⟨_,e4⟩:=c.uniq _ _ _ _ a0 hz.1 e;exact b3 M rfl e2 z.2 R hz.2 e4
theorem Stp.map{E:α→List UInt8}{ok:α→Prop}{F:β→List UInt8}{ok':β→Prop}{s s':Option (List UInt8)}{x:α}(h:Stp E ok s x s')(f:α→β)(g:β→α)(hgf:g (f x)=x)(hE:∀ y,F y=E (g y))(ho:ok x→ok' (f x))(ho':∀ y,ok' y→ok (g y)):Stp F ok' s (f x) s':=by
 obtain ⟨a0,a1,a2,a3⟩:=h;refine ⟨ho a0,a1,fun L R e1 e2=> ?_,fun L e1 e2 y R hy e=> ?_⟩
 ·rw[hE,hgf];exact a2 L R e1 e2
 ·rw[hE] at e
  exact a3 L e1 e2 (g y) R (ho' y hy) e
def zi8(s:Option (List UInt8))(n:Nat)(s':Option (List UInt8)):Prop:=
 (s'=none→n=0)∧(s=none→s'=none)∧(∀ L R,s=some L→s'=some R→L=zaf (n:Int) ++ R∧n≤R.length)∧(∀ L,s=some L→s'=none→∀ (m:Nat) R,b64 (m:Int)→L=zaf (m:Int) ++ R→R.length<m)
def zfX(E:α→List UInt8)(ok:α→Prop)(s:Option (List UInt8))(n k:Nat)(l:List α)(s':Option (List UInt8)):Prop:=
 l.length=k∧(∀ x,x∈l→ok x)∧∃ L R,s=some L∧s'=some R∧L=zaf (n:Int) ++ (l.flatMap E ++ R)
theorem zfX.start{E:α→List UInt8}{ok:α→Prop}{s s':Option (List UInt8)}{n:Nat}(h:zi8 s n s')(hn:n≠0):zfX E ok s n 0 [] s':=by
 obtain ⟨a0,a1,a2,a3⟩:=h;refine ⟨rfl,(fun x hx=>by cases hx),?_⟩;cases s' with
 | none=>exact absurd (a0 rfl) hn
 | some R=>
  cases s with
  | none=>cases a1 rfl
  | some L=>exact ⟨L,R,rfl,rfl,by simpa using (a2 L R rfl rfl).1⟩
theorem zfX.next{E:α→List UInt8}{ok:α→Prop}{s s1 s2:Option (List UInt8)}{n k:Nat}{l:List α}{x:α}(h:zfX E ok s n k l s1)(hx:Stp E ok s1 x s2)(h2:s2≠none):zfX E ok s n (k+1) (l ++ [x]) s2:=by
 obtain ⟨a0,a1,L,R,e1,e2,e3⟩:=h;obtain ⟨b0,_,b2,_⟩:=hx;refine ⟨by simp[a0],fun y hy=> ?_,?_⟩
 ·rcases List.mem_append.1 hy with hy | hy
  ·exact a1 y hy
  ·rw[List.mem_singleton.1 hy];exact b0
 ·cases s2 with
  | none=>exact absurd rfl h2
  | some R2=>
   refine ⟨L,R2,e1,rfl,?_⟩;rw[e3,b2 R R2 e2 rfl,List.flatMap_append];simp
theorem zfX.done{E:α→List UInt8}{ok:α→Prop}{s s':Option (List UInt8)}{n:Nat}{l:List α}(h:zfX E ok s n n l s')(hn:b64 (n:Int)):Stp (Zy E) (jf ok) s l s':=by
 obtain ⟨a0,a1,L,R,e1,e2,e3⟩:=h;refine ⟨⟨by rw[a0];exact hn,a1⟩,(fun e=>by rw[e] at e1;cases e1),fun L' R' e4 e5=> ?_,fun L' e4 e5=> ?_⟩
 ·rw[e1] at e4
  rw[e2] at e5;cases e4;cases e5;rw[e3,Zy,a0,List.append_assoc]
 ·rw[e2] at e5
  cases e5
theorem zfX.fail{E:α→List UInt8}{ok:α→Prop}(c:Cd E ok){s s1:Option (List UInt8)}{n k:Nat}{l:List α}{x:α}(h:zfX E ok s n k l s1)(hk:k<n)(hx:Stp E ok s1 x none):Stp (Zy E) (jf ok) s [] none:=by
 obtain ⟨a0,a1,L,R,e1,e2,e3⟩:=h;obtain ⟨b0,_,_,b3⟩:=hx;refine ⟨⟨by unfold b64;simp,fun y hy=>by cases hy⟩,fun _=>rfl,(fun L' R' _ e=>by cases e),fun L' e4 _ m S hm e=> ?_⟩;rw[e1] at e4;cases e4;rw[e3] at e;unfold Zy at e;rw[List.append_assoc] at e;obtain ⟨e5,e6⟩:=Zz e;have hlen:m.length=n:=by omega
 have hm1:m=m.take k ++ m.drop k:=(List.take_append_drop k m).symm;rw[hm1,List.flatMap_append,List.append_assoc] at e6;obtain ⟨_,e7⟩:=QH c l (m.take k) R ((m.drop k).flatMap E ++ S) (by rw[a0,List.length_take];omega) a1 (fun y hy=>hm.2 y (List.mem_of_mem_take hy)) e6;cases hd:m.drop k with
 | nil=>
  have:=congrArg List.length hd;rw[List.length_drop] at this;simp at this;omega
 | cons y t=>
  rw[hd,List.flatMap_cons,List.append_assoc] at e7;exact b3 R e2 rfl y _ (hm.2 y (List.mem_of_mem_drop (by rw[hd];exact List.mem_cons_self ..))) e7
theorem zi8.empty{E:α→List UInt8}{ok:α→Prop}(hp:∀ x,0<(E x).length){s s':Option (List UInt8)}(h:zi8 s 0 s'):Stp (Zy E) (jf ok) s [] s':=by
 obtain ⟨a0,a1,a2,a3⟩:=h;refine ⟨⟨by unfold b64;simp,fun y hy=>by cases hy⟩,a1,fun L R e1 e2=> ?_,fun L e1 e2 m R hm e=> ?_⟩
 ·rw[(a2 L R e1 e2).1]
  simp[Zy]
 ·unfold Zy at e
  rw[List.append_assoc] at e;have:=a3 L e1 e2 m.length _ hm.1 e;rw[List.length_append] at this;have:=zfd hp m;omega
theorem zi8.of{s s':Option (List UInt8)}{n:Int}(h:Stp zaf b64 s n s')(hok:∀ R,s'=some R→0≤n∧n≤(R.length:Int))(hn:s'=none→n=0):zi8 s n.toNat s':=by
 obtain ⟨a0,a1,a2,a3⟩:=h;refine ⟨fun e=>by rw[hn e];rfl,a1,fun L R e1 e2=> ?_,fun L e1 e2 m R hm e=>absurd e (a3 L e1 e2 _ R hm)⟩;obtain ⟨b1,b2⟩:=hok R e2;rw[Int.toNat_of_nonneg b1];exact ⟨a2 L R e1 e2,by omega⟩
theorem zi8.bad{s:Option (List UInt8)}{n:Int}{R:List UInt8}(h:Stp zaf b64 s n (some R))(hb:n<0∨(R.length:Int)<n):zi8 s 0 none:=by
 obtain ⟨a0,a1,a2,a3⟩:=h;refine ⟨fun _=>rfl,fun _=>rfl,(fun L R' _ e=>by cases e),fun L e1 _ m S hm e=> ?_⟩;have e3:=a2 L R e1 rfl;rw[e3] at e;obtain ⟨e4,e5⟩:=Zz e;subst e5;omega
end
def zmA:Int × Int→Prop:=qd b64 b64
def zhw:List (Int × Int)→Prop:=jf zmA
def zgQ:List Int→List UInt8:=Zy zaf
def zar:List Int→Prop:=jf b64
theorem Cd.ints:Cd zgQ zar:=Cd.num.list
def znh:List (Int × Int) × Int × Int→Prop:=qd zhw zmA
def imE:Int × Int × List Int→List UInt8:=ZV zaf (ZV zaf zgQ)
def zmw:Int × Int × List Int→Prop:=qd b64 (qd b64 zar)
theorem Cd.im:Cd imE zmw:=Cd.num.pair (Cd.num.pair Cd.ints)
def inE(x:In8):List UInt8:=ZV zaf (ZV zaf (ZV zaf (ZV zaf (ZV zaf zgQ)))) (x.op,x.dst,x.a,x.b,x.n,x.args)
def zmc(x:In8):Prop:=qd b64 (qd b64 (qd b64 (qd b64 (qd b64 zar)))) (x.op,x.dst,x.a,x.b,x.n,x.args)
theorem Cd.in:Cd inE zmc:=(Cd.num.pair (Cd.num.pair (Cd.num.pair (Cd.num.pair (Cd.num.pair Cd.ints))))).map (fun x:In8=>(x.op,x.dst,x.a,x.b,x.n,x.args)) (fun x y h=>by
 cases x;cases y;simp only[Prod.mk.injEq] at h;obtain ⟨rfl,rfl,rfl,rfl,rfl,rfl⟩:=h
 rfl) (fun _=>rfl) (fun _ h=>h)
def znn:List In8→List UInt8:=Zy inE
def zhU:List In8→Prop:=jf zmc
theorem Cd.ins:Cd znn zhU:=Cd.in.list
def zmY(x:Bl8):Prop:=qd zhU (qd b64 (qd b64 (qd b64 b64))) (x.code,x.fin,x.reg,x.to,x.els)
def zm5:List Bl8→Prop:=jf zmY
def zmZ(x:Fu8):Prop:=qd b64 (qd zhw zm5) (x.sig,x.regs,x.blocks)
def zlN:List (List (Int × Int))→Prop:=jf zhw
def zmI:List (List (Int × Int) × Int × Int)→Prop:=jf znh
def znp:List (List Int)→List UInt8:=Zy zgQ
def zl1:List (List Int)→Prop:=jf zar
theorem Cd.ifs:Cd znp zl1:=Cd.ints.list
def znm:List (Int × Int × List Int)→List UInt8:=Zy imE
def zk6:List (Int × Int × List Int)→Prop:=jf zmw
theorem Cd.ims:Cd znm zk6:=Cd.im.list
def zmq:List Fu8→Prop:=jf zmZ
def znt(x:Pr8):Prop:=qd zlN (qd zmI (qd zl1 (qd zk6 (qd zmq b64)))) (x.recs,x.sigs,x.ifs,x.ims,x.funcs,x.main)
end Go.Proofs.YtgmbkiagdhjpnaaGreatDoor
