import Derived.Lib.TrailingZeros

namespace Go.Proofs.YthflgjkmbakedaaGreatDoor
def wdn(s:Nat→Bool):Nat→Nat→Nat
 | _,0=>0
 | b,m+1=>(s b).toNat+2 * wdn s (b+1) m
def wd(s:Nat→Bool)(k:Nat):Nat:=wdn s (64 * k) 64
theorem zfW(s:Nat→Bool):∀ m b,wdn s b m<2 ^ m
 | 0,b=>by simp[wdn]
 | m+1,b=>by
  have h:=zfW s m (b+1);unfold wdn;have:(s b).toNat≤1:=Bool.toNat_le _;rw[Nat.pow_succ];omega
theorem JX(s:Nat→Bool)(k:Nat):wd s k<18446744073709551616:=zfW s 64 _
theorem zd0(s:Nat→Bool):∀ m b i,(wdn s b m).testBit i=(decide (i<m) && s (b+i))
 | 0,b,i=>by simp[wdn]
 | m+1,b,0=>by
  unfold wdn;rw[Nat.testBit_zero];cases s b <;> simp <;> omega
 | m+1,b,i+1=>by
  unfold wdn;rw[Nat.testBit_succ];have e:((s b).toNat+2 * wdn s (b+1) m) / 2=wdn s (b+1) m:=by
   have:(s b).toNat≤1:=Bool.toNat_le _;omega
  rw[e,zd0 s m (b+1) i];have e2:b+1+i=b+(i+1):=by omega
  rw[e2];simp
theorem qD(s:Nat→Bool)(k i:Nat):(wd s k).testBit i=(decide (i<64) && s (64 * k+i)):=zd0 s 64 _ i
theorem jw{s:Nat→Bool}{k x:Nat}(h:∀ i,x.testBit i=(decide (i<64) && s (64 * k+i))):x=wd s k:=
 Nat.eq_of_testBit_eq fun i=>by rw[h,qD]
theorem Zh{s t:Nat→Bool}{k:Nat}(h:∀ i,i<64→s (64 * k+i)=t (64 * k+i)):wd s k=wd t k:=
 jw fun i=>by
  rw[qD];by_cases hi:i<64
  ·simp[hi,h i hi]
  ·simp[hi]
theorem zam:∀ k,wd (fun _=>false) k=0:=by
 intro k;apply Nat.eq_of_testBit_eq;intro i;simp[qD]
theorem zjA(s t:Nat→Bool)(k:Nat):wd s k ||| wd t k=wd (fun n=>s n || t n) k:=
 jw fun i=>by rw[Nat.testBit_or,qD,qD];by_cases hi:i<64 <;> simp[hi]
theorem zii(s t:Nat→Bool)(k:Nat):wd s k &&& wd t k=wd (fun n=>s n && t n) k:=
 jw fun i=>by rw[Nat.testBit_and,qD,qD];by_cases hi:i<64 <;> simp[hi]
theorem zdt(x i:Nat)(hx:x<18446744073709551616):(18446744073709551615 - x).testBit i=(decide (i<64) && !x.testBit i):=by
 have e:18446744073709551615 - x=2 ^ 64 - (x+1):=by omega
 rw[e,Nat.testBit_two_pow_sub_succ (by simpa using hx)]
theorem zhf(s t:Nat→Bool)(k:Nat):wd s k &&& (18446744073709551615 - wd t k)=wd (fun n=>s n && !t n) k:=
 jw fun i=>by rw[Nat.testBit_and,zdt _ _ (JX t k),qD,qD];by_cases hi:i<64 <;> simp[hi]
theorem j4{i:Nat}(h:i<64):2 ^ i<18446744073709551616:=by
 have:=Nat.pow_lt_pow_right (a:=2) (by decide) h;simpa using this
theorem zco(n k:Nat):wd (fun m=>m == n) k=if k=n / 64 then 2 ^ (n % 64) else 0:=by
 symm
 apply jw;intro i;split
 ·rename_i h
  rw[Nat.testBit_two_pow];by_cases hi:i<64
  ·simp only[hi,decide_true,Bool.true_and]
   rw[Bool.eq_iff_iff];simp;omega
  ·simp[hi];omega
 ·rename_i h
  simp;intro hi;omega
theorem zgl(s:Nat→Bool)(n:Nat):(wd s (n / 64) &&& 2 ^ (n % 64)≠0) ↔ s n=true:=by
 have e:wd s (n / 64) &&& 2 ^ (n % 64)=wd (fun m=>s m && (m == n)) (n / 64):=by
  have h:=zco n (n / 64);rw[if_pos rfl] at h;rw[← h,zii]
 rw[e];constructor
 ·intro h
  by_cases hs:s n=true
  ·exact hs
  ·exfalso
   apply h;rw[← zam (n / 64)];apply Zh;intro i hi;by_cases hn:64 * (n / 64)+i=n
   ·rw[hn];simp[hs]
   ·simp[hn]
 ·intro hs h
  have hb:=qD (fun m=>s m && (m == n)) (n / 64) (n % 64);rw[h] at hb;have e2:64 * (n / 64)+n % 64=n:=by omega
  rw[e2] at hb;have:n % 64<64:=Nat.mod_lt _ (by decide);simp[hs,this] at hb
def ins(s:Nat→Bool)(n:Nat):Nat→Bool:=fun m=>s m || (m == n)
def del(s:Nat→Bool)(n:Nat):Nat→Bool:=fun m=>s m && !(m == n)
theorem zdO(s:Nat→Bool)(n:Nat):wd s (n / 64) ||| 2 ^ (n % 64)=wd (ins s n) (n / 64):=by
 have h:=zco n (n / 64);rw[if_pos rfl] at h;rw[← h,zjA];rfl
theorem zbR(s:Nat→Bool)(n k:Nat)(hk:k≠n / 64):wd (ins s n) k=wd s k:=by
 apply Zh;intro i hi;have:64 * k+i≠n:=by omega
 simp[ins,this]
theorem zck(s:Nat→Bool)(n:Nat):wd s (n / 64) &&& (18446744073709551615 - 2 ^ (n % 64))=wd (del s n) (n / 64):=by
 have h:=zco n (n / 64);rw[if_pos rfl] at h;rw[← h,zhf];rfl
theorem zbq(s:Nat→Bool)(n k:Nat)(hk:k≠n / 64):wd (del s n) k=wd s k:=by
 apply Zh;intro i hi;have:64 * k+i≠n:=by omega
 simp[del,this]
theorem zbl(s:Nat→Bool)(k:Nat):wd s k=0 ↔ ∀ i,i<64→s (64 * k+i)=false:=by
 constructor
 ·intro h i hi
  have hb:=qD s k i;rw[h] at hb;simpa [hi] using hb
 ·intro h
  rw[← zam k];exact Zh fun i hi=>by simp[h i hi]
theorem ziy(s:Nat→Bool)(n:Nat):wd s (n / 64) &&& (18446744073709551615 - (2 ^ (n % 64) - 1))=wd (fun m=>s m && decide (n≤m)) (n / 64):=by
 have h0:n % 64<64:=Nat.mod_lt _ (by decide);have hp:=j4 h0;apply jw;intro i;rw[Nat.testBit_and,zdt _ _ (by omega),qD,Nat.testBit_two_pow_sub_one];by_cases hi:i<64
 ·simp only[hi,decide_true,Bool.true_and]
  have:(!decide (i<n % 64))=decide (n≤64 * (n / 64)+i):=by
   rw[Bool.eq_iff_iff];simp;omega
  rw[this]
 ·simp[hi]
theorem zdm(x:Nat)(h0:x≠0)(hx:x<18446744073709551616):Go.Lib.ctz 64 x<64∧x.testBit (Go.Lib.ctz 64 x)=true∧∀ j,j<Go.Lib.ctz 64 x→x.testBit j=false:=by
 have hc:Go.Lib.ctz 64 x=Go.Lib.ctzFrom 64 x:=by unfold Go.Lib.ctz;rw[if_neg h0]
 obtain ⟨m,hm,hk⟩:=Go.Lib.ctzFrom_spec 64 x (by omega) (by simpa using hx);rw[hc];generalize Go.Lib.ctzFrom 64 x=k at hm hk ⊢;refine ⟨hk,?_,?_⟩
 ·rw[hm,Nat.mul_comm,Nat.testBit_mul_two_pow]
  simp
 ·intro j hj
  rw[hm,Nat.mul_comm,Nat.testBit_mul_two_pow];simp;omega
def m85:Nat→Nat
 | 0=>0
 | n+1=>256 * m85 n+85
def m51:Nat→Nat
 | 0=>0
 | n+1=>256 * m51 n+51
def m15:Nat→Nat
 | 0=>0
 | n+1=>256 * m15 n+15
def s1(n x:Nat):Nat:=((x / 2) &&& m85 n)+(x &&& m85 n)
def s2(n x:Nat):Nat:=((x / 4) &&& m51 n)+(x &&& m51 n)
def s3(n x:Nat):Nat:=(x / 16+x) &&& m15 n
theorem b1:∀ c,c<2→∀ r,r<256→(128 * c+r / 2) &&& 85=(r / 2) &&& 85:=by decide +kernel
theorem b2:∀ c,c<4→∀ r,r<256→(64 * c+r / 4) &&& 51=(r / 4) &&& 51:=by decide +kernel
theorem b3:∀ r,r<256→((r / 2) &&& 85)+(r &&& 85)<256:=by decide +kernel
theorem b4:∀ r,r<256→((r / 4) &&& 51)+(r &&& 51)<256:=by decide +kernel
def t2(r:Nat):Nat:=(((((r / 2) &&& 85)+(r &&& 85)) / 4) &&& 51)+((((r / 2) &&& 85)+(r &&& 85)) &&& 51)
def nb(g:List (List Nat))(n:Nat):List Nat:=g.getD n []
def Ok(g:List (List Nat)):Prop:=∀ a b,b∈nb g a→b<g.length
def vis(g:List (List Nat)):Nat→Nat→(Nat→Bool) × List Nat→(Nat→Bool) × List Nat
 | 0,_,st=>st
 | f+1,n,st=>if st.1 n=true then st else
   (((nb g n).foldl (fun s m=>vis g f m s) (ins st.1 n,st.2)).1,((nb g n).foldl (fun s m=>vis g f m s) (ins st.1 n,st.2)).2 ++ [n])
def Qn(g:List (List Nat))(f:Nat)(ns:List Nat)(st:(Nat→Bool) × List Nat):(Nat→Bool) × List Nat:=ns.foldl (fun s m=>vis g f m s) st
theorem zbe(g:List (List Nat))(f n:Nat)(st:(Nat→Bool) × List Nat)(h:st.1 n=true):vis g f n st=st:=by
 cases f with
 | zero=>rfl
 | succ f=>rw[vis,if_pos h]
theorem QB(g:List (List Nat))(f n:Nat)(st:(Nat→Bool) × List Nat)(h:st.1 n=false):vis g (f+1) n st=((Qn g f (nb g n) (ins st.1 n,st.2)).1,(Qn g f (nb g n) (ins st.1 n,st.2)).2 ++ [n]):=by
 rw[vis,if_neg (by rw[h];decide)];rfl
theorem zc7(g:List (List Nat))(f:Nat)(ns:List Nat)(n:Nat)(st:(Nat→Bool) × List Nat):Qn g f (ns ++ [n]) st=vis g f n (Qn g f ns st):=by
 unfold Qn;rw[List.foldl_append];rfl
theorem qS(g:List (List Nat))(f:Nat)(ns:List Nat)(n:Nat)(st:(Nat→Bool) × List Nat):Qn g f (n :: ns) st=Qn g f ns (vis g f n st):=rfl
def un(g:List (List Nat))(s:Nat→Bool):Nat:=((List.range g.length).filter fun n=> !s n).length
theorem Ji{α:Type}(p q:α→Bool)(h:∀ a,p a=true→q a=true):∀ l:List α,(l.filter p).length≤(l.filter q).length
 | []=>Nat.le_refl _
 | a :: l=>by
  have ih:=Ji p q h l;cases hp:p a
  ·cases hq:q a
   ·simp[hp,hq];exact ih
   ·simp[hp,hq];omega
  ·simp[hp,h a hp];exact ih
theorem zhG(g:List (List Nat))(s t:Nat→Bool)(h:∀ m,s m=true→t m=true):un g t≤un g s:=
 Ji _ _ (fun a ha=>by cases hs:s a with
  | false=>rfl
  | true=>rw[h a hs] at ha;cases ha) _
theorem jE(s:Nat→Bool)(n:Nat)(hs:s n=false):∀ N,((List.range N).filter fun m=> !ins s n m).length+(if n<N then 1 else 0)=((List.range N).filter fun m=> !s m).length
 | 0=>by simp
 | N+1=>by
  have ih:=jE s n hs N;rw[List.range_succ,List.filter_append,List.filter_append,List.length_append,List.length_append];by_cases h:N=n
  ·subst h
   simp only[Nat.lt_irrefl,if_false] at ih;have e1:ins s N N=true:=by simp[ins]
   simp[e1,hs];omega
  ·have e1:ins s n N=s N:=by simp[ins,h]
   have e2:(n<N+1) ↔ (n<N):=by omega
   simp only[e2];cases hN:s N <;> simp[e1,hN] <;> omega
theorem zgh(g:List (List Nat))(s:Nat→Bool)(n:Nat)(hs:s n=false)(hn:n<g.length):un g (ins s n)+1=un g s:=by
 have:=jE s n hs g.length;rw[if_pos hn] at this;exact this
theorem zj7(g:List (List Nat))(s:Nat→Bool):un g s≤g.length:=by
 have:=List.length_filter_le (fun n=> !s n) (List.range g.length);rw[List.length_range] at this;exact this
end Go.Proofs.YthflgjkmbakedaaGreatDoor
