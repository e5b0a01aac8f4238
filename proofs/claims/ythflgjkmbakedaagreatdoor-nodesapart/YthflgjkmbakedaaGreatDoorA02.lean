import Derived.Lib.TrailingZeros

namespace Go.Proofs.YthflgjkmbakedaaGreatDoor
variable {A B N ns:List Nat}{a b c k r x:Nat}
def wdn(s:Nat→Bool):Nat→Nat→Nat
 | _,0=>0
 | b,m+1=>(s b).toNat+2 * wdn s (b+1) m
def wd(s:Nat→Bool)(k:Nat):Nat:=wdn s (64 * k) 64
theorem zjq(s:Nat→Bool):∀ m b,wdn s b m<2 ^ m
 | 0,b=>by simp[wdn]
 | m+1,b=>by
  have h:=zjq s m (b+1);unfold wdn;have:(s b).toNat≤1:=Bool.toNat_le _;rw[Nat.pow_succ];omega
theorem zcN(s:Nat→Bool)(k:Nat):wd s k<18446744073709551616:=zjq s 64 _
theorem zfB(s:Nat→Bool):∀ m b i,(wdn s b m).testBit i=(decide (i<m) && s (b+i))
 | 0,b,i=>by simp[wdn]
 | m+1,b,0=>by
  unfold wdn;rw[Nat.testBit_zero];cases s b <;> simp <;> omega
 | m+1,b,i+1=>by
  unfold wdn;rw[Nat.testBit_succ];have e:((s b).toNat+2 * wdn s (b+1) m) / 2=wdn s (b+1) m:=by
   have:(s b).toNat≤1:=Bool.toNat_le _;omega
  rw[e,zfB s m (b+1) i];have e2:b+1+i=b+(i+1):=by omega
  rw[e2];simp
theorem jY(s:Nat→Bool)(k i:Nat):(wd s k).testBit i=(decide (i<64) && s (64 * k+i)):=zfB s 64 _ i
theorem Qo{s:Nat→Bool}(h:∀ i,x.testBit i=(decide (i<64) && s (64 * k+i))):x=wd s k:=
 Nat.eq_of_testBit_eq fun i=>by rw[h,jY]
theorem QX{s t:Nat→Bool}(h:∀ i,i<64→s (64 * k+i)=t (64 * k+i)):wd s k=wd t k:=
 Qo fun i=>by
  rw[jY];by_cases hi:i<64
  ·simp[hi,h i hi]
  ·simp[hi]
theorem zcI:∀ k,wd (fun _=>false) k=0:=by
 intro k;apply Nat.eq_of_testBit_eq;intro i;simp[jY]
theorem znD(s t:Nat→Bool)(k:Nat):wd s k ||| wd t k=wd (fun n=>s n || t n) k:=
 Qo fun i=>by rw[Nat.testBit_or,jY,jY];by_cases hi:i<64 <;> simp[hi]
theorem zmw(s t:Nat→Bool)(k:Nat):wd s k &&& wd t k=wd (fun n=>s n && t n) k:=
 Qo fun i=>by rw[Nat.testBit_and,jY,jY];by_cases hi:i<64 <;> simp[hi]
theorem zga(x i:Nat)(hx:x<18446744073709551616):(18446744073709551615 - x).testBit i=(decide (i<64) && !x.testBit i):=by
 have e:18446744073709551615 - x=2 ^ 64 - (x+1):=by omega
 rw[e,Nat.testBit_two_pow_sub_succ (by simpa using hx)]
theorem zlh(s t:Nat→Bool)(k:Nat):wd s k &&& (18446744073709551615 - wd t k)=wd (fun n=>s n && !t n) k:=
 Qo fun i=>by rw[Nat.testBit_and,zga _ _ (zcN t k),jY,jY];by_cases hi:i<64 <;> simp[hi]
theorem Qk{i:Nat}(h:i<64):2 ^ i<18446744073709551616:=by
 have:=Nat.pow_lt_pow_right (a:=2) (by decide) h;simpa using this
theorem zfC(n k:Nat):wd (fun m=>m == n) k=if k=n / 64 then 2 ^ (n % 64) else 0:=by
 symm
 apply Qo;intro i;split
 ·rename_i h
  rw[Nat.testBit_two_pow];by_cases hi:i<64
  ·simp only[hi,decide_true,Bool.true_and]
   rw[Bool.eq_iff_iff];simp;omega
  ·simp[hi];omega
 ·rename_i h
  simp;intro hi;omega
theorem zlf(s:Nat→Bool)(n:Nat):(wd s (n / 64) &&& 2 ^ (n % 64)≠0) ↔ s n=true:=by
 have e:wd s (n / 64) &&& 2 ^ (n % 64)=wd (fun m=>s m && (m == n)) (n / 64):=by
  have h:=zfC n (n / 64);rw[if_pos rfl] at h;rw[← h,zmw]
 rw[e];constructor
 ·intro h
  by_cases hs:s n=true
  ·exact hs
  ·exfalso
   apply h;rw[← zcI (n / 64)];apply QX;intro i hi;by_cases hn:64 * (n / 64)+i=n
   ·rw[hn];simp[hs]
   ·simp[hn]
 ·intro hs h
  have hb:=jY (fun m=>s m && (m == n)) (n / 64) (n % 64);rw[h] at hb;have e2:64 * (n / 64)+n % 64=n:=by omega
  rw[e2] at hb;have:n % 64<64:=Nat.mod_lt _ (by decide);simp[hs,this] at hb
def ins(s:Nat→Bool)(n:Nat):Nat→Bool:=fun m=>s m || (m == n)
def del(s:Nat→Bool)(n:Nat):Nat→Bool:=fun m=>s m && !(m == n)
theorem zfA(s:Nat→Bool)(n:Nat):wd s (n / 64) ||| 2 ^ (n % 64)=wd (ins s n) (n / 64):=by
 have h:=zfC n (n / 64);rw[if_pos rfl] at h;rw[← h,znD];rfl
theorem zdX(s:Nat→Bool)(n k:Nat)(hk:k≠n / 64):wd (ins s n) k=wd s k:=by
 apply QX;intro i hi;have:64 * k+i≠n:=by omega
 simp[ins,this]
theorem zgC(s:Nat→Bool)(n:Nat):wd s (n / 64) &&& (18446744073709551615 - 2 ^ (n % 64))=wd (del s n) (n / 64):=by
 have h:=zfC n (n / 64);rw[if_pos rfl] at h;rw[← h,zlh];rfl
theorem ze1(s:Nat→Bool)(n k:Nat)(hk:k≠n / 64):wd (del s n) k=wd s k:=by
 apply QX;intro i hi;have:64 * k+i≠n:=by omega
 simp[del,this]
theorem zeL(s:Nat→Bool)(k:Nat):wd s k=0 ↔ ∀ i,i<64→s (64 * k+i)=false:=by
 constructor
 ·intro h i hi
  have hb:=jY s k i;rw[h] at hb;simpa [hi] using hb
 ·intro h
  rw[← zcI k];exact QX fun i hi=>by simp[h i hi]
theorem zlT(s:Nat→Bool)(n:Nat):wd s (n / 64) &&& (18446744073709551615 - (2 ^ (n % 64) - 1))=wd (fun m=>s m && decide (n≤m)) (n / 64):=by
 have h0:n % 64<64:=Nat.mod_lt _ (by decide);have hp:=Qk h0;apply Qo;intro i;rw[Nat.testBit_and,zga _ _ (by omega),jY,Nat.testBit_two_pow_sub_one];by_cases hi:i<64
 ·simp only[hi,decide_true,Bool.true_and]
  have:(!decide (i<n % 64))=decide (n≤64 * (n / 64)+i):=by
   rw[Bool.eq_iff_iff];simp;omega
  rw[this]
 ·simp[hi]
theorem zfh(x:Nat)(h0:x≠0)(hx:x<18446744073709551616):Go.Lib.ctz 64 x<64∧x.testBit (Go.Lib.ctz 64 x)=true∧∀ j,j<Go.Lib.ctz 64 x→x.testBit j=false:=by
 have hc:Go.Lib.ctz 64 x=Go.Lib.ctzFrom 64 x:=by unfold Go.Lib.ctz;rw[if_neg h0]
 obtain ⟨m,hm,hk⟩:=Go.Lib.ctzFrom_spec 64 x (by omega) (by simpa using hx);rw[hc];generalize Go.Lib.ctzFrom 64 x=k at hm hk ⊢;refine ⟨hk,?_,?_⟩
 ·rw[hm,Nat.mul_comm,Nat.testBit_mul_two_pow]
  simp
 ·intro j hj
  rw[hm,Nat.mul_comm,Nat.testBit_mul_two_pow];simp;omega
def m85:Nat→Nat
 | 0=>0
 | n+1=>256 * m85 n+85
def m51:Nat→Nat
 | 0=>0
 | n+1=>256 * m51 n+51
def m15:Nat→Nat
 | 0=>0
 | n+1=>256 * m15 n+15
def s1(n x:Nat):Nat:=((x / 2) &&& m85 n)+(x &&& m85 n)
def s2(n x:Nat):Nat:=((x / 4) &&& m51 n)+(x &&& m51 n)
def s3(n x:Nat):Nat:=(x / 16+x) &&& m15 n
theorem b1:∀ c,c<2→∀ r,r<256→(128 * c+r / 2) &&& 85=(r / 2) &&& 85:=by decide +kernel
theorem b2:∀ c,c<4→∀ r,r<256→(64 * c+r / 4) &&& 51=(r / 4) &&& 51:=by decide +kernel
def t2(r:Nat):Nat:=(((((r / 2) &&& 85)+(r &&& 85)) / 4) &&& 51)+((((r / 2) &&& 85)+(r &&& 85)) &&& 51)
theorem zbd{a b c:Prop}(h:a∨b)(f:b→c):a∨c:=by
 rcases h with h | h
 ·exact .inl h
 ·exact .inr (f h)
def nb(g:List (List Nat))(n:Nat):List Nat:=g.getD n []
def Ok(g:List (List Nat)):Prop:=∀ a b,b∈nb g a→b<g.length
def vis(g:List (List Nat)):Nat→Nat→(Nat→Bool) × List Nat→(Nat→Bool) × List Nat
 | 0,_,st=>st
 | f+1,n,st=>if st.1 n=true then st else
   (((nb g n).foldl (fun s m=>vis g f m s) (ins st.1 n,st.2)).1,((nb g n).foldl (fun s m=>vis g f m s) (ins st.1 n,st.2)).2 ++ [n])
def JO(g:List (List Nat))(f:Nat)(ns:List Nat)(st:(Nat→Bool) × List Nat):(Nat→Bool) × List Nat:=ns.foldl (fun s m=>vis g f m s) st
theorem zca(g:List (List Nat))(f n:Nat)(st:(Nat→Bool) × List Nat)(h:st.1 n=true):vis g f n st=st:=by
 cases f with
 | zero=>rfl
 | succ f=>rw[vis,if_pos h]
theorem zaf(g:List (List Nat))(f n:Nat)(st:(Nat→Bool) × List Nat)(h:st.1 n=false):vis g (f+1) n st=((JO g f (nb g n) (ins st.1 n,st.2)).1,(JO g f (nb g n) (ins st.1 n,st.2)).2 ++ [n]):=by
 rw[vis,if_neg (by rw[h];decide)];rfl
theorem zfo(g:List (List Nat))(f:Nat)(ns:List Nat)(n:Nat)(st:(Nat→Bool) × List Nat):JO g f (ns ++ [n]) st=vis g f n (JO g f ns st):=by
 unfold JO;rw[List.foldl_append];rfl
theorem jR(g:List (List Nat))(f:Nat)(ns:List Nat)(n:Nat)(st:(Nat→Bool) × List Nat):JO g f (n :: ns) st=JO g f ns (vis g f n st):=rfl
def un(g:List (List Nat))(s:Nat→Bool):Nat:=((List.range g.length).filter fun n=> !s n).length
theorem zbI{α:Type}(p q:α→Bool)(h:∀ a,p a=true→q a=true):∀ l:List α,(l.filter p).length≤(l.filter q).length
 | []=>Nat.le_refl _
 | a :: l=>by
  have ih:=zbI p q h l;cases hp:p a
  ·cases hq:q a
   ·simp[hp,hq];exact ih
   ·simp[hp,hq];omega
  ·simp[hp,h a hp];exact ih
theorem zeT(g:List (List Nat))(s t:Nat→Bool)(h:∀ m,s m=true→t m=true):un g t≤un g s:=
 zbI _ _ (fun a ha=>by cases hs:s a with
  | false=>rfl
  | true=>rw[h a hs] at ha;cases ha) _
theorem Qx(s:Nat→Bool)(n:Nat)(hs:s n=false):∀ N,((List.range N).filter fun m=> !ins s n m).length+(if n<N then 1 else 0)=((List.range N).filter fun m=> !s m).length
 | 0=>by simp
 | N+1=>by
  have ih:=Qx s n hs N;rw[List.range_succ,List.filter_append,List.filter_append,List.length_append,List.length_append];by_cases h:N=n
  ·subst h
   simp only[Nat.lt_irrefl,if_false] at ih;have e1:ins s N N=true:=by simp[ins]
   simp[e1,hs];omega
  ·have e1:ins s n N=s N:=by simp[ins,h]
   have e2:(n<N+1) ↔ (n<N):=by omega
   simp only[e2];cases hN:s N <;> simp[e1,hN] <;> omega
theorem zdB(g:List (List Nat))(s:Nat→Bool)(n:Nat)(hs:s n=false)(hn:n<g.length):un g (ins s n)+1=un g s:=by
 have:=Qx s n hs g.length;rw[if_pos hn] at this;exact this
theorem zgT(g:List (List Nat))(s:Nat→Bool):un g s≤g.length:=by
 have:=List.length_filter_le (fun n=> !s n) (List.range g.length);rw[List.length_range] at this;exact this
def Wk(g:List (List Nat))(s:Nat→Bool):Nat→Nat→Nat→Prop
 | 0,a,b=>s a=false∧a=b
 | k+1,a,b=>s a=false∧∃ c,c∈nb g a∧Wk g s k c b
def Pth(g:List (List Nat))(s:Nat→Bool)(a b:Nat):Prop:=∃ k,Wk g s k a b
theorem Pth.refl{g:List (List Nat)}{s:Nat→Bool}(h:s a=false):Pth g s a a:=⟨0,h,rfl⟩
theorem Pth.cons{g:List (List Nat)}{s:Nat→Bool}(h:s a=false)(hc:c∈nb g a)(p:Pth g s c b):Pth g s a b:=by
 obtain ⟨k,hk⟩:=p;exact ⟨k+1,h,c,hc,hk⟩
theorem Wk.start{g:List (List Nat)}{s:Nat→Bool}(h:Wk g s k a b):s a=false:=by
 cases k with
 | zero=>exact h.1
 | succ k=>exact h.1
theorem Pth.start{g:List (List Nat)}{s:Nat→Bool}(p:Pth g s a b):s a=false:=by
 obtain ⟨k,hk⟩:=p;exact hk.start
theorem Wk.stop{g:List (List Nat)}{s:Nat→Bool}{b:Nat}:∀ {k a:Nat},Wk g s k a b→s b=false
 | 0,_,h=>by rw[← h.2];exact h.1
 | k+1,_,h=>by obtain ⟨_,c,_,hw⟩:=h;exact Wk.stop hw
theorem Pth.stop{g:List (List Nat)}{s:Nat→Bool}(p:Pth g s a b):s b=false:=by
 obtain ⟨k,hk⟩:=p;exact hk.stop
theorem Wk.trans{g:List (List Nat)}{s:Nat→Bool}{b c j:Nat}(h2:Wk g s j b c):∀ {k a:Nat},Wk g s k a b→Wk g s (k+j) a c
 | 0,a,h=>by rw[h.2,Nat.zero_add];exact h2
 | k+1,a,h=>by
  obtain ⟨h1,d,hd,hw⟩:=h;rw[Nat.add_right_comm];exact ⟨h1,d,hd,Wk.trans h2 hw⟩
theorem Pth.trans{g:List (List Nat)}{s:Nat→Bool}(p:Pth g s a b)(q:Pth g s b c):Pth g s a c:=by
 obtain ⟨k,hk⟩:=p;obtain ⟨j,hj⟩:=q;exact ⟨k+j,Wk.trans hj hk⟩
theorem Pth.snoc{g:List (List Nat)}{s:Nat→Bool}(p:Pth g s a b)(hc:c∈nb g b)(h:s c=false):Pth g s a c:=
 p.trans (Pth.cons p.stop hc (Pth.refl h))
theorem Wk.mono{g:List (List Nat)}{s t:Nat→Bool}(h:∀ x,s x=false→t x=false){b:Nat}:∀ {k a:Nat},Wk g s k a b→Wk g t k a b
 | 0,a,w=>⟨h a w.1,w.2⟩
 | k+1,a,w=>by
  obtain ⟨h1,c,hc,hw⟩:=w;exact ⟨h a h1,c,hc,Wk.mono h hw⟩
theorem Pth.mono{g:List (List Nat)}{s t:Nat→Bool}(p:Pth g s a b)(h:∀ x,s x=false→t x=false):Pth g t a b:=by
 obtain ⟨k,hk⟩:=p;exact ⟨k,hk.mono h⟩
theorem Wk.carry{g:List (List Nat)}{s:Nat→Bool}{C:Nat→Prop}(hC:∀ u,C u→s u=false→∀ w,w∈nb g u→s w=false→C w){b:Nat}:∀ {k a:Nat},C a→Wk g s k a b→C b
 | 0,a,ha,w=>by rw[← w.2];exact ha
 | k+1,a,ha,w=>by
  obtain ⟨h1,c,hc,hw⟩:=w;exact Wk.carry hC (hC a ha h1 c hc hw.start) hw
theorem Pth.carry{g:List (List Nat)}{s:Nat→Bool}(p:Pth g s a b){C:Nat→Prop}(hC:∀ u,C u→s u=false→∀ w,w∈nb g u→s w=false→C w)(ha:C a):C b:=by
 obtain ⟨k,hk⟩:=p;exact Wk.carry hC ha hk
theorem Wk.split{g:List (List Nat)}{s t:Nat→Bool}{x b:Nat}(ht:∀ u,u≠x→s u=false→t u=false):∀ {k a:Nat},Wk g s k a b→Wk g t k a b∨Pth g s a x
 | 0,a,w=>by
  by_cases e:a=x
  ·exact .inr (e ▸ Pth.refl w.1)
  ·exact .inl ⟨ht a e w.1,w.2⟩
 | k+1,a,w=>by
  obtain ⟨h1,c,hc,hw⟩:=w;by_cases e:a=x
  ·exact .inr (e ▸ Pth.refl h1)
  ·rcases Wk.split ht hw with h | h
   ·exact .inl ⟨ht a e h1,c,hc,h⟩
   ·exact .inr (Pth.cons h1 hc h)
theorem Pth.split{g:List (List Nat)}{s t:Nat→Bool}(p:Pth g s a b)(ht:∀ u,u≠x→s u=false→t u=false):Pth g t a b∨Pth g s a x:=by
 obtain ⟨k,hk⟩:=p;rcases hk.split ht with h | h
 ·exact .inl ⟨k,h⟩
 ·exact .inr h
def orL(s:Nat→Bool)(N:List Nat):Nat→Bool:=fun m=>s m || decide (m∈N)
theorem zgh(s:Nat→Bool):orL s []=s:=by funext m;simp[orL]
theorem zaE(s:Nat→Bool)(A B:List Nat):orL s (A ++ B)=orL (orL s A) B:=by
 funext m
 simp only[orL,List.mem_append,Bool.decide_or,Bool.or_assoc]
theorem zbh(s:Nat→Bool)(n:Nat):ins s n=orL s [n]:=by
 funext m
 simp only[orL,ins,List.mem_singleton];by_cases h:m=n
 ·subst h;simp
 ·simp[h]
theorem ziJ(s:Nat→Bool)(A B:List Nat):orL s (A ++ B)=orL s (B ++ A):=by
 funext m
 simp only[orL,List.mem_append]
 congr 1
 rw[Bool.eq_iff_iff];simp[or_comm]
theorem jV{s:Nat→Bool}:orL s N x=false ↔ s x=false∧x ∉ N:=by
 simp[orL]
theorem qV{s:Nat→Bool}:orL s N x=true ↔ s x=true∨x∈N:=by
 simp[orL]
def zar(N:List Nat)(r x:Nat):Prop:=∃ X Y,N=X ++ x :: Y∧(r=x∨r∈X)
theorem zar.left(h:zar A r x):zar (A ++ B) r x:=by
 obtain ⟨X,Y,e,h⟩:=h;exact ⟨X,Y ++ B,by rw[e];simp,h⟩
theorem zar.right(h:zar B r x):zar (A ++ B) r x:=by
 obtain ⟨X,Y,e,h⟩:=h;exact ⟨A ++ X,Y,by rw[e];simp,zbd h fun h=>List.mem_append_right _ h⟩
theorem zar.cross(hr:r∈A)(hx:x∈B):zar (A ++ B) r x:=by
 obtain ⟨X,Y,e⟩:=List.append_of_mem hx;exact ⟨A ++ X,Y,by rw[e];simp,.inr (List.mem_append_left _ hr)⟩
structure zeq (g:List (List Nat)) (s:Nat→Bool) (N:List Nat):Prop where
 nodup:N.Nodup
 new:∀ u,u∈N→s u=false
 closed:∀ u,u∈N→∀ w,w∈nb g u→s w=true∨w∈N
 late:∀ v r,v∈N→r∈N→Pth g s v r→∃ x,x∈N∧Pth g s v x∧Pth g s x v∧zar N r x
theorem zeq.nil(g:List (List Nat))(s:Nat→Bool):zeq g s []:=
 ⟨List.nodup_nil,fun _ h=>absurd h List.not_mem_nil,fun _ h=>absurd h List.not_mem_nil,fun _ _ h=>absurd h List.not_mem_nil⟩
theorem zeq.append{g:List (List Nat)}{s:Nat→Bool}(ha:zeq g s A)(hb:zeq g (orL s A) B):zeq g s (A ++ B):=by
 have hbn:∀ u,u∈B→s u=false∧u ∉ A:=fun u hu=>jV.1 (hb.new u hu);have up:∀ x,orL s A x=false→s x=false:=fun x hx=>(jV.1 hx).1;refine ⟨?_,?_,?_,?_⟩
 ·rw[List.nodup_append]
  exact ⟨ha.nodup,hb.nodup,fun x hx y hy e=>(hbn y hy).2 (e ▸ hx)⟩
 ·intro u hu
  rcases List.mem_append.1 hu with h | h
  ·exact ha.new u h
  ·exact (hbn u h).1
 ·intro u hu w hw
  rcases List.mem_append.1 hu with h | h
  ·exact zbd (ha.closed u h w hw) fun h=>List.mem_append_left _ h
  ·rcases hb.closed u h w hw with h' | h'
   ·rcases qV.1 h' with h2 | h2
    ·exact .inl h2
    ·exact .inr (List.mem_append_left _ h2)
   ·exact .inr (List.mem_append_right _ h')
 ·intro v r hv hr p
  have stayA:∀ a b,a∈A→Pth g s a b→b∈A:=by
   intro a b haA q;refine q.carry (C:=fun u=>u∈A) ?_ haA;intro u hu _ w hw hs;rcases ha.closed u hu w hw with h | h
   ·rw[hs] at h;cases h
   ·exact h
  rcases List.mem_append.1 hv with hvA | hvB
  ·have hrA:=stayA v r hvA p
   obtain ⟨x,hx,p1,p2,p3⟩:=ha.late v r hvA hrA p;exact ⟨x,List.mem_append_left _ hx,p1,p2,p3.left⟩
  ·rcases List.mem_append.1 hr with hrA | hrB
   ·exact ⟨v,hv,Pth.refl (hbn v hvB).1,Pth.refl (hbn v hvB).1,zar.cross hrA hvB⟩
   ·have pB:Pth g (orL s A) v r:=by
     obtain ⟨k,hk⟩:=p;have hback:∀ (k a:Nat),a ∉ A→Wk g s k a r→Wk g (orL s A) k a r:=by
      intro k
      induction k with
      | zero=>intro a haA w;exact ⟨jV.2 ⟨w.1,haA⟩,w.2⟩
      | succ k ih=>
       intro a haA w;obtain ⟨h1,c,hc,hw⟩:=w;refine ⟨jV.2 ⟨h1,haA⟩,c,hc,ih c ?_ hw⟩;intro hcA;exact (hbn r hrB).2 (stayA c r hcA ⟨k,hw⟩)
     exact ⟨k,hback k v (hbn v hvB).2 hk⟩
    obtain ⟨x,hx,p1,p2,p3⟩:=hb.late v r hvB hrB pB;exact ⟨x,List.mem_append_right _ hx,p1.mono up,p2.mono up,p3.right⟩
theorem zeq.top{g:List (List Nat)}{s:Nat→Bool}{n:Nat}(hn:s n=false)(ha:zeq g (ins s n) A)(hr:∀ u,u∈A→Pth g s n u)(hc:∀ w,w∈nb g n→ins s n w=true∨w∈A):zeq g s (A ++ [n]):=by
 have insF:∀ x,ins s n x=false ↔ s x=false∧x≠n:=by
  intro x;rw[zbh,jV];simp
 have insT:∀ x,ins s n x=true ↔ s x=true∨x=n:=by
  intro x;rw[zbh,qV];simp
 have hAn:n ∉ A:=fun h=>((insF n).1 (ha.new n h)).2 rfl;refine ⟨?_,?_,?_,?_⟩
 ·rw[List.nodup_append]
  refine ⟨ha.nodup,by simp,fun x hx y hy e=> ?_⟩;simp at hy;subst hy;subst e;exact hAn hx
 ·intro u hu
  rcases List.mem_append.1 hu with h | h
  ·exact ((insF u).1 (ha.new u h)).1
  ·simp at h;subst h;exact hn
 ·intro u hu w hw
  have fin:ins s n w=true∨w∈A→s w=true∨w∈A ++ [n]:=by
   intro h;rcases h with h | h
   ·rcases (insT w).1 h with h | h
    ·exact .inl h
    ·exact .inr (by simp[h])
   ·exact .inr (List.mem_append_left _ h)
  rcases List.mem_append.1 hu with h | h
  ·exact fin (ha.closed u h w hw)
  ·simp at h;subst h;exact fin (hc w hw)
 ·intro v r hv hr' p
  have toN:∀ u,u∈A ++ [n]→Pth g s n u:=by
   intro u hu;rcases List.mem_append.1 hu with h | h
   ·exact hr u h
   ·simp at h;subst h;exact Pth.refl hn
  have useN:Pth g s v n→∃ x,x∈A ++ [n]∧Pth g s v x∧Pth g s x v∧zar (A ++ [n]) r x:=by
   intro q;refine ⟨n,by simp,q,toN v hv,A,[],rfl,?_⟩;rcases List.mem_append.1 hr' with h | h
   ·exact .inr h
   ·exact .inl (by simpa using h)
  rcases List.mem_append.1 hv with hvA | hvB
  ·rcases List.mem_append.1 hr' with hrA | hrB
   ·rcases p.split (t:=ins s n) (x:=n) (fun u hu hs=>(insF u).2 ⟨hs,hu⟩) with q | q
    ·obtain ⟨x,hx,p1,p2,p3⟩:=ha.late v r hvA hrA q
     exact ⟨x,List.mem_append_left _ hx,p1.mono fun y hy=>((insF y).1 hy).1,p2.mono fun y hy=>((insF y).1 hy).1,p3.left⟩
    ·exact useN q
   ·simp at hrB;subst hrB;exact useN p
  ·simp at hvB;subst hvB;exact useN (Pth.refl hn)
structure J1 (g:List (List Nat)) (s:Nat→Bool) (ns N:List Nat):Prop where
 good:zeq g s N
 from_:∀ u,u∈N→∃ n,n∈ns∧Pth g s n u
 all:∀ n,n∈ns→s n=true∨n∈N
theorem J1.iff{g:List (List Nat)}{s:Nat→Bool}(h:J1 g s ns N)(u:Nat):u∈N ↔ ∃ n,n∈ns∧Pth g s n u:=by
 refine ⟨h.from_ u,?_⟩;rintro ⟨n,hn,p⟩;refine p.carry (C:=fun u=>u∈N) ?_ ?_
 ·intro a ha _ w hw hs
  rcases h.good.closed a ha w hw with h1 | h1
  ·rw[hs] at h1;cases h1
  ·exact h1
 ·rcases h.all n hn with h1 | h1
  ·rw[p.start] at h1;cases h1
  ·exact h1
theorem J1.nil(g:List (List Nat))(s:Nat→Bool):J1 g s [] []:=⟨zeq.nil g s,fun _ h=>absurd h List.not_mem_nil,fun _ h=>absurd h List.not_mem_nil⟩
theorem J1.append{g:List (List Nat)}{s:Nat→Bool}{as bs:List Nat}(ha:J1 g s as A)(hb:J1 g (orL s A) bs B):J1 g s (as ++ bs) (A ++ B):=by
 refine ⟨ha.good.append hb.good,?_,?_⟩
 ·intro u hu
  rcases List.mem_append.1 hu with h | h
  ·obtain ⟨n,h1,h2⟩:=ha.from_ u h
   exact ⟨n,List.mem_append_left _ h1,h2⟩
  ·obtain ⟨n,h1,h2⟩:=hb.from_ u h
   exact ⟨n,List.mem_append_right _ h1,h2.mono fun x hx=>(jV.1 hx).1⟩
 ·intro n hn
  rcases List.mem_append.1 hn with h | h
  ·exact zbd (ha.all n h) fun h=>List.mem_append_left _ h
  ·rcases hb.all n h with h1 | h1
   ·rcases qV.1 h1 with h2 | h2
    ·exact .inl h2
    ·exact .inr (List.mem_append_left _ h2)
   ·exact .inr (List.mem_append_right _ h1)
theorem zfp(g:List (List Nat))(f:Nat)(ih:∀ n s l,n<g.length→un g s<f→∃ N,vis g f n (s,l)=(orL s N,l ++ N)∧J1 g s [n] N):
  ∀ (ns:List Nat) (s:Nat→Bool) (l:List Nat),(∀ n,n∈ns→n<g.length)→un g s<f→∃ N,JO g f ns (s,l)=(orL s N,l ++ N)∧J1 g s ns N
 | [],s,l,_,_=>⟨[],by rw[zgh,List.append_nil];rfl,J1.nil g s⟩
 | n :: ns,s,l,hns,hu=>by
  obtain ⟨A,eA,hA⟩:=ih n s l (hns n (by simp)) hu;have hu2:un g (orL s A)<f:=Nat.lt_of_le_of_lt (zeT g s _ fun m hm=>qV.2 (.inl hm)) hu;obtain ⟨B,eB,hB⟩:=zfp g f ih ns (orL s A) (l ++ A) (fun m hm=>hns m (by simp[hm])) hu2;refine ⟨A ++ B,?_,hA.append hB⟩;rw[jR,eA,eB,zaE,List.append_assoc]
theorem zd5(g:List (List Nat))(hg:Ok g):∀ (f n:Nat) (s:Nat→Bool) (l:List Nat),n<g.length→un g s<f→∃ N,vis g f n (s,l)=(orL s N,l ++ N)∧J1 g s [n] N
 | 0,_,_,_,_,h=>by omega
 | f+1,n,s,l,hn,hu=>by
  cases hs:s n with
  | true=>
   refine ⟨[],?_,zeq.nil g s,fun _ h=>absurd h List.not_mem_nil,fun m hm=> ?_⟩
   ·rw[zca g (f+1) n (s,l) hs,zgh,List.append_nil]
   ·simp at hm;subst hm;exact .inl hs
  | false=>
   have hu2:=zdB g s n hs hn;obtain ⟨A,eA,hA⟩:=zfp g f (zd5 g hg f) (nb g n) (ins s n) l (fun m hm=>hg n m hm) (by omega);have toA:∀ u,u∈A→Pth g s n u:=by
    intro u hu;obtain ⟨m,hm,p⟩:=hA.from_ u hu;refine Pth.cons hs hm (p.mono fun x hx=> ?_);rw[zbh] at hx;exact (jV.1 hx).1
   refine ⟨A ++ [n],?_,zeq.top hs hA.good toA (fun w hw=>hA.all w hw),?_,?_⟩
   ·rw[zaf g f n (s,l) hs]
    show ((JO g f (nb g n) (ins s n,l)).1,(JO g f (nb g n) (ins s n,l)).2 ++ [n])=_;rw[eA,ziJ,zaE, ← zbh,List.append_assoc]
   ·intro u hu
    refine ⟨n,by simp,?_⟩;rcases List.mem_append.1 hu with h | h
    ·exact toA u h
    ·simp at h;subst h;exact Pth.refl hs
   ·intro m hm
    simp at hm;subst hm;exact .inr (by simp)
def noS:Nat→Bool:=fun _=>false
def jP(av:Nat→Bool)(st:(Nat→Bool) × List Nat)(b:Nat):(Nat→Bool) × List Nat:=if st.1 b=true∨av b=true then st else (ins st.1 b,st.2 ++ [b])
def zP(av:Nat→Bool)(st:(Nat→Bool) × List Nat)(l:List Nat):(Nat→Bool) × List Nat:=l.foldl (jP av) st
theorem jt(av:Nat→Bool)(st:(Nat→Bool) × List Nat)(b:Nat)(l:List Nat):zP av st (b :: l)=zP av (jP av st b) l:=rfl
theorem JP(av:Nat→Bool)(st:(Nat→Bool) × List Nat)(b:Nat)(l:List Nat):zP av st (l ++ [b])=jP av (zP av st l) b:=by
 unfold zP;rw[List.foldl_append];rfl
theorem zjd{s:Nat→Bool}{u:Nat}:ins s b u=true ↔ s u=true∨u=b:=by
 show (s u || (u == b))=true ↔ _;rw[Bool.or_eq_true,beq_iff_eq]
theorem QH(av:Nat→Bool)(st:(Nat→Bool) × List Nat)(b u:Nat):(jP av st b).1 u=true ↔ st.1 u=true∨(u=b∧av b=false):=by
 unfold jP;by_cases h:st.1 b=true∨av b=true
 ·rw[if_pos h]
  constructor
  ·exact .inl
  ·rintro (h1 | ⟨rfl,h1⟩)
   ·exact h1
   ·rcases h with h | h
    ·exact h
    ·rw[h1] at h;cases h
 ·rw[if_neg h,zjd]
  have h2:av b=false:=by
   cases e:av b with
   | false=>rfl
   | true=>exact absurd (.inr e) h
  exact ⟨fun q=>q.imp id fun e=>⟨e,h2⟩,fun q=>q.imp id fun e=>e.1⟩
theorem Qg(av:Nat→Bool)(st:(Nat→Bool) × List Nat)(b u:Nat):u∈(jP av st b).2 ↔ u∈st.2∨(u=b∧st.1 u=false∧av u=false):=by
 unfold jP;by_cases h:st.1 b=true∨av b=true
 ·rw[if_pos h]
  constructor
  ·exact .inl
  ·rintro (h1 | ⟨rfl,h2,h3⟩)
   ·exact h1
   ·rcases h with h | h
    ·rw[h] at h2;cases h2
    ·rw[h] at h3;cases h3
 ·rw[if_neg h]
  have h1:st.1 b=false:=by
   cases e:st.1 b with
   | false=>rfl
   | true=>exact absurd (.inl e) h
  have h2:av b=false:=by
   cases e:av b with
   | false=>rfl
   | true=>exact absurd (.inr e) h
  simp only[List.mem_append,List.mem_singleton];constructor
  ·rintro (h3 | rfl)
   ·exact .inl h3
   ·exact .inr ⟨rfl,h1,h2⟩
  ·rintro (h3 | ⟨rfl,_⟩)
   ·exact .inl h3
   ·exact .inr rfl
theorem jI(av:Nat→Bool)(l:List Nat):∀ (st:(Nat→Bool) × List Nat) (u:Nat),(zP av st l).1 u=true ↔ st.1 u=true∨(u∈l∧av u=false):=by
 induction l with
 | nil=>intro st u;simp[zP]
 | cons b l ih=>
  intro st u;rw[jt,ih,QH,List.mem_cons,or_assoc];refine or_congr Iff.rfl ?_;constructor
  ·rintro (⟨rfl,h⟩ | ⟨h1,h2⟩)
   ·exact ⟨.inl rfl,h⟩
   ·exact ⟨.inr h1,h2⟩
  ·rintro ⟨rfl | h1,h2⟩
   ·exact .inl ⟨rfl,h2⟩
   ·exact .inr ⟨h1,h2⟩
theorem zaq(av:Nat→Bool)(l:List Nat):∀ (st:(Nat→Bool) × List Nat) (u:Nat),u∈st.2→u∈(zP av st l).2:=by
 induction l with
 | nil=>intro st u h;exact h
 | cons b l ih=>intro st u h;rw[jt];exact ih _ u ((Qg av st b u).2 (.inl h))
theorem zaH(av:Nat→Bool)(l:List Nat):∀ (st:(Nat→Bool) × List Nat) (u:Nat),(zP av st l).1 u=true→st.1 u=false→u∈(zP av st l).2:=by
 induction l with
 | nil=>intro st u h1 h2;rw[show (zP av st []).1 u=st.1 u from rfl,h2] at h1;cases h1
 | cons b l ih=>
  intro st u h1 h2;rw[jt] at h1 ⊢;cases h3:(jP av st b).1 u with
  | false=>exact ih _ u h1 h3
  | true=>
   rcases (QH av st b u).1 h3 with h4 | ⟨rfl,h4⟩
   ·rw[h2] at h4;cases h4
   ·exact zaq av l _ u ((Qg av st u u).2 (.inr ⟨rfl,h2,h4⟩))
theorem zcl(av:Nat→Bool)(l:List Nat):∀ (st:(Nat→Bool) × List Nat),(∀ u,u∈st.2→st.1 u=true)→∀ u,u∈(zP av st l).2→(zP av st l).1 u=true:=by
 induction l with
 | nil=>intro st h u hu;exact h u hu
 | cons b l ih=>
  intro st h u hu;rw[jt] at hu ⊢;refine ih _ (fun v hv=> ?_) u hu;rcases (Qg av st b v).1 hv with h1 | ⟨rfl,_,h2⟩
  ·exact (QH av st b v).2 (.inl (h v h1))
  ·exact (QH av st v v).2 (.inr ⟨rfl,h2⟩)
theorem QD(av:Nat→Bool)(g:List (List Nat))(l:List Nat):∀ (st:(Nat→Bool) × List Nat),(∀ b,b∈l→b<g.length)→un g (zP av st l).1+(zP av st l).2.length≤un g st.1+st.2.length:=by
 induction l with
 | nil=>intro st _;exact Nat.le_refl _
 | cons b l ih=>
  intro st hl;rw[jt];refine Nat.le_trans (ih _ (fun x hx=>hl x (by simp[hx]))) ?_;unfold jP;by_cases h:st.1 b=true∨av b=true
  ·rw[if_pos h];exact Nat.le_refl _
  ·rw[if_neg h]
   have h1:st.1 b=false:=by
    cases e:st.1 b with
    | false=>rfl
    | true=>exact absurd (.inl e) h
   have:=zdB g st.1 b h1 (hl b (by simp));simp only[List.length_append,List.length_singleton];omega
theorem zbF(av:Nat→Bool){N:Nat}(l:List Nat):∀ (st:(Nat→Bool) × List Nat),(∀ b,b∈l→b<N)→(∀ u,u∈st.2→u<N)→∀ u,u∈(zP av st l).2→u<N:=by
 induction l with
 | nil=>intro st _ h u hu;exact h u hu
 | cons b l ih=>
  intro st hl h u hu;rw[jt] at hu;refine ih _ (fun x hx=>hl x (by simp[hx])) (fun v hv=> ?_) u hu;rcases (Qg av st b v).1 hv with h1 | ⟨rfl,_⟩
  ·exact h v h1
  ·exact hl v (by simp)
structure Qu (g:List (List Nat)) (av:Nat→Bool) (ns:List Nat) (st:(Nat→Bool) × List Nat):Prop where
 from_:∀ u,st.1 u=true→∃ z,z∈ns∧Pth g av z u
 line:∀ u,u∈st.2→st.1 u=true
 closed:∀ u,st.1 u=true→u ∉ st.2→∀ v,v∈nb g u→av v=false→st.1 v=true
 start:∀ z,z∈ns→av z=false→st.1 z=true
theorem Qu.begin(g:List (List Nat))(av:Nat→Bool)(ns:List Nat):Qu g av ns (zP av (noS,[]) ns):=by
 have h0:∀ u,noS u=false:=fun _=>rfl;refine ⟨fun u hu=> ?_,zcl av ns _ (by simp),fun u hu hn=>absurd (zaH av ns (noS,[]) u hu (h0 u)) hn,fun z hz ha=>(jI av ns _ z).2 (.inr ⟨hz,ha⟩)⟩;rcases (jI av ns _ u).1 hu with h | ⟨h,ha⟩
 ·cases h
 ·exact ⟨u,h,Pth.refl ha⟩
theorem Qu.step{g:List (List Nat)}{av:Nat→Bool}{s:Nat→Bool}{q:List Nat}(h:Qu g av ns (s,a :: q)):Qu g av ns (zP av (s,q) (nb g a)):=by
 have ha:s a=true:=h.line a (by simp);refine ⟨fun u hu=> ?_,zcl av _ _ (fun u hu=>h.line u (List.mem_cons_of_mem _ hu)),fun u hu hn v hv hav=> ?_,fun z hz hav=>(jI av _ _ z).2 (.inl (h.start z hz hav))⟩
 ·rcases (jI av _ _ u).1 hu with h1 | ⟨h1,h2⟩
  ·exact h.from_ u h1
  ·obtain ⟨z,hz,p⟩:=h.from_ a ha
   exact ⟨z,hz,p.snoc h1 h2⟩
 ·by_cases hs:s u=true
  ·by_cases e:u=a
   ·subst e;exact (jI av _ _ v).2 (.inr ⟨hv,hav⟩)
   ·have hnq:u ∉ a :: q:=by
     intro hm;rcases List.mem_cons.1 hm with h1 | h1
     ·exact e h1
     ·exact hn (zaq av _ _ u h1)
    exact (jI av _ _ v).2 (.inl (h.closed u hs hnq v hv hav))
  ·exact absurd (zaH av _ (s,q) u hu (by simpa using hs)) hn
theorem Qu.done{g:List (List Nat)}{av:Nat→Bool}{st:(Nat→Bool) × List Nat}(h:Qu g av ns st)(he:st.2=[])(u:Nat):st.1 u=true ↔ ∃ z,z∈ns∧Pth g av z u:=by
 refine ⟨h.from_ u,?_⟩;rintro ⟨z,hz,p⟩;exact p.carry (C:=fun u=>st.1 u=true) (fun x hx _ v hv hs=>h.closed x hx (by rw[he];simp) v hv hs) (h.start z hz p.start)
end Go.Proofs.YthflgjkmbakedaaGreatDoor
