import Derived.Test.YthflgjkmbakedaaGreatDoorA04

namespace Go.Proofs.YthflgjkmbakedaaGreatDoor
open Go.RowKit
open Go.Value (int pointer agg)
open Go.IntKind (i64)
set_option maxHeartbeats 1000000
set_option maxRecDepth 20000
theorem zho(b:Nat)(a:Int)(w:World)(h:5000≤a):
  Calls Tryz.prog 210 #[pointer (some ⟨b,0,none⟩),int i64 a] w fun e w'=>e=.returned (int i64 (-1))∧w'=w:=by
 go_enter Tryz.func210,Tryz.ntmps210;go_wp2;go_ret;exact ⟨rfl,rfl⟩
theorem zkJ(s:Nat→Bool)(n k:Nat)(h:n / 64<k):wd s k=wd (fun m=>s m && decide (n≤m)) k:=by
 apply QX;intro i hi;have:n≤64 * k+i:=by omega
 simp[this]
def zjC(t:Nat→Bool)(r:Int):Prop:=(r= -1∧∀ m,m<5056→t m=false)∨∃ j:Nat,r=j∧t j=true∧∀ m,m<j→t m=false
theorem zez{t:Nat→Bool}{k x:Nat}(hx:Box (x=wd t k))(hl:Box (∀ m,m<64 * k→t m=false))(h0:x=0):Box (∀ m,m<64 * (k+1)→t m=false):=by
 refine hid fun m hm=> ?_;have h:=(zeL t k).1 (hx.o ▸ h0);by_cases hlt:m<64 * k
 ·exact hl.o m hlt
 ·have:=h (m - 64 * k) (by omega)
  rw[← this];exact congrArg t (by omega)
theorem zeI{t:Nat→Bool}{k x:Nat}(hx:Box (x=wd t k))(hl:Box (∀ m,m<64 * k→t m=false))(h0:x≠0):zjC t (((64 * k+Go.Lib.ctz 64 x:Nat):Int)):=by
 have hb:=zfh x h0 (by rw[hx.o];exact zcN t k);generalize Go.Lib.ctz 64 x=c at hb ⊢;rw[hx.o] at hb;refine Or.inr ⟨_,rfl,?_,fun m hm=> ?_⟩
 ·have:=hb.2.1
  rw[jY] at this;simpa [hb.1] using this
 ·by_cases hlt:m<64 * k
  ·exact hl.o m hlt
  ·have:=hb.2.2 (m - 64 * k) (by omega)
   rw[jY] at this;have h6:m - 64 * k<64:=by omega
   have e:64 * k+(m - 64 * k)=m:=by omega
   simpa [h6,e] using this
theorem zfR(b k0 p:Nat)(s t:Nat→Bool)(a v:Int)(w:World)(hs:zJ w b s)(hT:Ze w)(ha:a<5000)(hv:(a<0∧v=0)∨(0≤a∧v=a))(hk0:k0<79)(hp:1≤p)(hp':p<18446744073709551616)
  (x0 y0:Nat) (hx:bits BinOp.andNot IntKind.u64 (x0:Int) ((p:Int) - 1)=(y0:Int)) (hx0:Box (x0=wd s k0)) (hy0:Box (y0=wd t k0))
  (ht:Box (∀ k,k0<k→wd s k=wd t k)) (hlow:Box (∀ m,m<64 * k0→t m=false))
  (hpl:∀ w1,Calls Tryz.prog 204 #[int i64 v] w1 fun e w'=>e=.returned (.tuple #[int i64 k0,.int .u64 p])∧∃ m,w'=w1.drewN m):
  Calls Tryz.prog 210 #[pointer (some ⟨b,0,none⟩),int i64 a] w fun e w'=>∃ r:Int,e=.returned (int i64 r)∧zjC t r∧∃ m,w'=w.drewN m:=by
 have HS:=hid hs;have H2:=hid hpl;have HT:=hid hT;have hc:w.cell? ⟨b,k0,none⟩=some (.int .u64 (x0:Int)):=by rw[hx0.o];exact hs.cell hk0
 clear hs hpl hT hx0;have hw:IntKind.u64.wrap ((p:Int) - 1)=(p:Int) - 1:=by rw[IntKind.wrap_u64];omega
 rcases hv with ⟨hneg,rfl⟩ | ⟨hneg,rfl⟩
 all_goals
  go_enter Tryz.func210,Tryz.ntmps210;go_wp2_with fail
  first | (refine (H2.o _).mono ?_) | (rw[show max a (0:Int)=0 by omega];refine (H2.o _).mono ?_) | (rw[show max v (0:Int)=v by omega];refine (H2.o _).mono ?_)
  rintro e w' ⟨rfl,m,rfl⟩;go_wp2_with fail
  go_loop [5,7] (fun i y=>∃ k x:Nat,k0≤k∧k<79∧i=int i64 k∧y=.int .u64 x∧Box (x=wd t k)∧Box (∀ m,m<64 * k→t m=false)) (fun i _=>79 - (intOf i).toNat)
  case atStart=>exact ⟨k0,y0,Nat.le_refl _,hk0,rfl,rfl,hy0,hlow⟩
  case round=>
   obtain ⟨k,x,hk1,hk2,rfl,rfl,hxk,hlk⟩:=hrel;by_cases hz:x=0
   ·have hn:=zez hxk hlk hz
    subst hz;by_cases hl:k+1=79
    ·obtain rfl:k=78:=by omega
     go_wp2;go_ret;exact ⟨-1,rfl,Or.inl ⟨rfl,hn.o⟩,_,rfl⟩
    ·have hlt:k+1<79:=by omega
     have hck:w.cell? ⟨b,k+1,none⟩=some (.int .u64 (wd s (k+1):Nat)):=HS.o.cell hlt;have hex:Box (wd s (k+1)=wd t (k+1)):=hid (ht.o (k+1) (by omega));generalize wd s (k+1)=x1 at hck hex;have hne:((k:Int)+1 == 79)=false:=by rw[beq_eq_false_iff_ne];omega
     go_wp2
     go_round
     case rel=>exact ⟨k+1,x1,by omega,hlt,by go_num,rfl,hex,hn⟩
     case measure=>simp[intOf];omega
   ·have hbz:((x:Int) == 0)=false:=by rw[beq_eq_false_iff_ne];omega
    have hf:=hid (zeI hxk hlk hz);have hxl:x<18446744073709551616:=by rw[hxk.o];exact zcN t k
    have HC:=hid fun w1 (hT:Ze w1)=>zmA x w1 hxl hz hT;have hcl:=(zfh x hz hxl).1;generalize Go.Lib.ctz 64 x=c at hf HC hcl;clear hz;go_wp2_with fail;refine (HC.o _ (HT.o.drewN _)).mono ?_;rintro e w' ⟨rfl,rfl⟩;go_wp2;go_ret;refine ⟨_,rfl,?_,_,rfl⟩;have e:(k:Int) * 64+(c:Int)=((64 * k+c:Nat):Int):=by omega
    rw[e];exact hf.o
def za4(s:Nat→Bool)(a:Int):Int:=match (List.range 5000).find? (fun n:Nat=>decide (a≤(n:Int)) && s n) with
 | some n=>n
 | none=> -1
def FR(f:Nat→Bool)(n:Nat):Option Nat→Prop
 | some j=>j<n∧f j=true∧∀ m,m<j→f m=false
 | none=>∀ m,m<n→f m=false
theorem zaB(f:Nat→Bool):∀ n,FR f n ((List.range n).find? f)
 | 0=>by simp[FR]
 | n+1=>by
  have ih:=zaB f n;rw[List.range_succ,List.find?_append];cases h:(List.range n).find? f with
  | some j=>
   rw[h] at ih;simp only[Option.some_or];exact ⟨Nat.lt_succ_of_lt ih.1,ih.2⟩
  | none=>
   rw[h] at ih;simp only[Option.none_or];cases hn:f n with
   | true=>simp[hn,FR];exact ih
   | false=>
    simp[hn,FR];intro m hm;by_cases hlt:m<n
    ·exact ih m hlt
    ·have:m=n:=by omega
     subst this;exact hn
theorem ZC(s:Nat→Bool)(a:Int):(za4 s a= -1∧∀ n:Nat,n<5000→a≤(n:Int)→s n=false)∨∃ j:Nat,za4 s a=j∧j<5000∧a≤(j:Int)∧s j=true∧∀ m:Nat,m<j→a≤(m:Int)→s m=false:=by
 unfold za4;generalize 5000=N;have h:=hid (zaB (fun n:Nat=>decide (a≤(n:Int)) && s n) N);generalize (List.range N).find? (fun n:Nat=>decide (a≤(n:Int)) && s n)=q at h;cases q with
 | some j=>
  obtain ⟨h1,h2,h3⟩:=h.o;simp at h2;refine Or.inr ⟨j,rfl,h1,h2.1,h2.2,fun m hm ha=> ?_⟩;have:=h3 m hm;simpa [ha] using this
 | none=>
  refine Or.inl ⟨rfl,fun n hn ha=> ?_⟩;have:=h.o n hn;simpa [ha] using this
theorem zcb(s:Nat→Bool)(hf:Fit s)(a:Int)(n:Nat)(hv:(a<0∧n=0)∨a=n)(r:Int)(h:zjC (fun m=>s m && decide (n≤m)) r):r=za4 s a:=by
 rcases h with ⟨rfl,h⟩ | ⟨j,rfl,h1,h2⟩
 ·rcases ZC s a with ⟨e,_⟩ | ⟨j,_,hj,ha,hs,_⟩
  ·exact e.symm
  ·have:=h j (by omega)
   have hn:n≤j:=by omega
   simp[hs,hn] at this
 ·simp at h1
  rcases ZC s a with ⟨_,h3⟩ | ⟨i,e,hi,ha,hs,h4⟩
  ·have hj:j<5000:=by
    apply Nat.lt_of_not_le;intro hle;rw[hf j hle] at h1;simp at h1
   rw[h3 j hj (by omega)] at h1;simp at h1
  ·rw[e]
   by_cases hij:i<j
   ·have:=h2 i hij
    have hn:n≤i:=by omega
    simp[hs,hn] at this
   ·by_cases hji:j<i
    ·rw[h4 j hji (by omega)] at h1
     simp at h1
    ·omega
theorem zfw(b:Nat)(s:Nat→Bool)(a:Int)(w:World)(hs:zJ w b s)(hf:Fit s)(hT:Ze w):
  Calls Tryz.prog 210 #[pointer (some ⟨b,0,none⟩),int i64 a] w fun e w'=>e=.returned (int i64 (za4 s a))∧∃ m,w'=w.drewN m:=by
 by_cases ha:a<5000
 ·obtain ⟨n,v,hn,hv,hv',hvn⟩:∃ (n:Nat) (v:Int),n<5000∧((a<0∧v=0)∨(0≤a∧v=a))∧((a<0∧n=0)∨a=n)∧v=(n:Int):=by
   by_cases h0:a<0
   ·exact ⟨0,0,by omega,Or.inl ⟨h0,rfl⟩,Or.inl ⟨h0,rfl⟩,rfl⟩
   ·exact ⟨a.toNat,a,by omega,Or.inr ⟨by omega,rfl⟩,Or.inr (by omega),by omega⟩
  have hp:2 ^ (n % 64)<18446744073709551616:=Qk (Nat.mod_lt _ (by decide));have hp1:1≤2 ^ (n % 64):=Nat.one_le_two_pow;have hx:bits BinOp.andNot IntKind.u64 (wd s (n / 64):Nat) (((2 ^ (n % 64):Nat):Int) - 1)=(wd (fun m=>s m && decide (n≤m)) (n / 64):Nat):=by
   rw[← zlT s n];generalize 2 ^ (n % 64)=q at hp hp1;have e:(q:Int) - 1=((q - 1:Nat):Int):=by omega
   rw[e];exact u64_andNot_nat _ _ (zcN s _) (by omega)
  refine (zfR b (n / 64) (2 ^ (n % 64)) s (fun m=>s m && decide (n≤m)) a v w hs hT ha hv (by omega) hp1 hp _ _ hx (hid rfl) (hid rfl) (hid fun k hk=>zkJ s n k hk) (hid fun m hm=> ?_) (by rw[hvn];exact zaZ n hn)).mono ?_
  ·have:¬ n≤m:=by omega
   simp[this]
  ·rintro e w' ⟨r,he,hr,hw⟩
   rw[zcb s hf a n hv' r hr] at he;exact ⟨he,hw⟩
 ·refine (zho b a w (by omega)).mono ?_
  rintro e w' ⟨he,hw⟩;have e1:za4 s a= -1:=by
   rcases ZC s a with ⟨e,_⟩ | ⟨j,_,hj,hja,_⟩
   ·exact e
   ·omega
  exact ⟨by rw[he,e1],0,hw⟩
end Go.Proofs.YthflgjkmbakedaaGreatDoor
