import Derived.Test.YthflgjkmbakedaaGreatDoorN13
import Derived.Test.YthflgjkmbakedaaGreatDoorN20

namespace Go.Proofs.YthflgjkmbakedaaGreatDoor
open Go.RowKit
open Go.Value (int pointer agg)
open Go.IntKind (i64)
set_option maxHeartbeats 4000000
set_option maxRecDepth 20000
variable {F:Fu8}{b base fb fo k n p q:Nat}{v v1:Value}{w w1 w2 wr wy:World}
structure QF (w wr:World) (b base:Nat) (v vr:Value) (st:(Nat→Bool) × List Nat):Prop where
 set:zy wr b st.1
 row:wr.ownsRow base 3 1 vr st.2.length (jB st.2)
 keep:za (b :: v.ownBlock.toList) w wr
 near:∀ k,vr.ownBlock=some k→k<w.heap.size→v.ownBlock=some k
theorem QF.refl{st:(Nat→Bool) × List Nat}(hs:zy w b st.1)(hr:w.ownsRow base 3 1 v st.2.length (jB st.2)):QF w w b base v v st:=
 ⟨hs,hr,za.refl _ _,fun _ h _=>h⟩
theorem QF.trans{v2:Value}{s1 s2:(Nat→Bool) × List Nat}(h:QF w w1 b base v v1 s1)(k:QF w1 w2 b base v1 v2 s2):QF w w2 b base v v2 s2:=by
 refine ⟨k.set,k.row,h.keep.trans k.keep ?_,?_⟩
 ·intro x hx hl
  rcases List.mem_cons.1 hx with e | e
  ·rw[e];simp
  ·have:=h.near x (by simpa using e) hl
   rw[this];simp
 ·intro x hx hl
  exact h.near x (k.near x hx (Nat.lt_of_lt_of_le hl h.keep.size)) hl
theorem Qo{s:Nat→Bool}{xs:List Value}(hs:zy w b s)(hr:w.ownsRow base 3 1 v n xs):v.ownBlock≠some b:=
 Lib.ownBlock_ne hr hs.heap (by decide)
theorem QF.quiet{st:(Nat→Bool) × List Nat}(h:QF w w1 b base v v1 st)(k:za [] w1 w2):QF w w2 b base v v1 st:=
 ⟨h.set.kept k (by simp),zh h.row k (by simp),h.keep.quiet k,h.near⟩
theorem QF.turn{st:(Nat→Bool) × List Nat}{t:Nat→Bool}(h:QF w w1 b base v v1 st)(k:za [b] w1 w2)(ht:zy w2 b t):QF w w2 b base v v1 (t,st.2):=
 ⟨ht,zh h.row k (fun x hx e=>by
  simp at e;subst e
  exact Qo h.set h.row hx),h.keep.trans k (fun x hx _=>by simp at hx;subst hx;simp),h.near⟩
theorem QF.put{wa:World}{v2:Value}{st:(Nat→Bool) × List Nat}(h:QF w w1 b base v v1 st)(ha:za [] w1 wa)(hrow:w2.ownsRow base 3 1 v2 (st.2.length+1) (jB st.2 ++ [int i64 (n:Int)]))
  (hg:wa.grownBy w2 v1.ownBlock) (hat:v2.ownBlock=v1.ownBlock∨v2.ownBlock=some wa.heap.size):QF w w2 b base v v2 (st.1,st.2 ++ [n]):=by
 have hk:za v1.ownBlock.toList wa w2:=za.grown _ hg (fun k hk=>by rw[hk];simp);refine ⟨(h.set.kept ha (by simp)).kept hk ?_,?_,(h.keep.quiet ha).trans hk ?_,?_⟩
 ·intro hx
  exact Qo h.set h.row (by simpa using hx)
 ·show w2.ownsRow base 3 1 v2 (st.2 ++ [n]).length (jB (st.2 ++ [n]))
  rw[List.length_append,show jB (st.2 ++ [n])=jB st.2 ++ [int i64 (n:Int)] from by simp[jB]];exact hrow
 ·intro x hx hl
  have:=h.near x (by simpa using hx) hl;rw[this];simp
 ·intro x hx hl
  rcases hat with e | e
  ·exact h.near x (e ▸ hx) hl
  ·rw[e] at hx
   have h1:=h.keep.size;have h2:=ha.size;simp at hx;omega
theorem Fit.node{g:List (List Nat)}(h6:g.length≤600){s t:Nat→Bool}(hf:Fit s)(h:∀ m,t m=true→s m=true∨m<g.length):Fit t:=by
 intro m hm;cases e:t m with
 | false=>rfl
 | true=>
  rcases h m e with h1 | h1
  ·rw[hf m hm] at h1;cases h1
  ·omega
theorem Qg(g:List (List Nat))(hg:Ok g)(h6:g.length≤600)(hin:∀ j,(nb g j).length≤1000000)(B b base:Nat)(a:Option Addr)(cap:Nat)(hb:B≤b)(hbase:B≤base):
  ∀ (f n:Nat) (s:Nat→Bool) (l:List Nat) (v:Value) (w:World),n<g.length→un g s<f→l.length+un g s≤100000→GAt w B a g→base≤w.heap.size→zy w b s→Fit s→w.ownsRow base 3 1 v l.length (jB l)→
  Calls Tryz.prog 243 #[agg #[int i64 (g.length:Int),.slice a g.length cap],int i64 (n:Int),pointer (some ⟨b,0,none⟩),v] w fun e w'=>∃ v',e=.returned v'∧QF w w' b base v v' (vis g f n (s,l))
 | 0,_,_,_,_,_,_,h,_,_,_,_,_,_=>absurd h (Nat.not_lt_zero _)
 | f+1,n,s,l,v,w,hn,hu,hl,hG,hbw,hs,hf,hrow=>by
  have ih:=hid (Qg g hg h6 hin B b base a cap hb hbase f);have hk1:za [] w (w.alloc (Obj.cells #[int i64 (g.length:Int),.slice a g.length cap] 195)):=za.alloc _ _ _;have hadd:=QS b s n _ (hs.kept hk1 (by simp)) hf;have e1:decide ((0:Int)≤(n:Int)∧(n:Int)<5000)=true:=by simp;omega
  have e2:jP s (n:Int)=s n:=by simp[jP]
  rw[e1,e2,Bool.true_and,zaA s n (by omega)] at hadd;have F0:=hid (QF.refl (b:=b) (st:=(s,l)) hs hrow);have hvb:=hid (fun k (h:v.ownBlock=some k)=>hrow.lt k h);have hblt:=hs.lt;have HB1:=hid (Zq.new w (g.length:Int) a g.length cap);have HG:=hid hG;have Hf:=hid hf;cases hsn:s n with
  | true=>
   rw[hsn] at hadd;have HA:=hid hadd;have hv:=hid (zbe g (f+1) n (s,l) hsn)
   have hins:Box (ins s n=s):=hid (by
    funext m
    unfold ins;by_cases e:m=n
    ·subst e;rw[hsn];rfl
    ·simp[e])
   clear hadd hs hrow hG hf ih hsn;go_enter Tryz.func243,Tryz.ntmps243;go_wp2_with fail;refine HA.o.mono ?_;rintro e w2 ⟨rfl,hs2,hk2⟩;have F2:=hid ((F0.o.quiet hk1).turn hk2 hs2);clear hs2 hk2;go_wp2;go_ret;refine ⟨_,rfl,?_⟩;rw[hv.o];have:=F2.o;rw[hins.o] at this;exact this
  | false=>
   rw[hsn] at hadd;have HA:=hid hadd;have hv:=hid (QB g f n (s,l) hsn);have hu2:=zgh g s n hsn hn;clear hadd hs hrow hG hf hsn;go_enter Tryz.func243,Tryz.ntmps243;go_wp2_with fail;refine HA.o.mono ?_;rintro e w2 ⟨rfl,hs2,hk2⟩;have F2':=hid ((F0.o.quiet hk1).turn hk2 hs2);have F2:=hid (QF.refl (b:=b) (st:=(ins s n,l)) hs2 F2'.o.row);have hbx:Zq w2 w.heap.size (g.length:Int) a g.length cap:=HB1.o.kept hk2 (by simp;omega);have HG2:=hid ((HG.o.quiet hk1).kept hk2 (fun x hx=>by simp at hx;omega));obtain ⟨bl,off,ai,ci,rfl,hc,hN⟩:=HG2.o.at hn;have HN:=hid hN;have hc1:=hbx.c1;have HBX:=hid hbx;have hn6:n<600:=by omega
   have hnl:=hin n;have hS2:w.heap.size<w2.heap.size:=by have:=hbx.lt;exact this
   have hbase2:base≤w2.heap.size:=by omega
   have Hnb:=hid (fun m hm=>hg n m hm);clear hs2 hk2 hbx hN HA HB1 HG
   have Hins:Box (Fit (ins s n)):=hid (Fit.node h6 Hf.o (fun m hm=>by
    have h2:(s m || (m == n))=true:=hm;rw[Bool.or_eq_true,beq_iff_eq] at h2;rcases h2 with h2 | h2
    ·exact .inl h2
    ·exact .inr (h2 ▸ hn)))
   obtain ⟨N,hNN⟩:∃ N,nb g n=N:=⟨_,rfl⟩;rw[hNN] at hc HN hnl Hnb hv;clear hNN;obtain ⟨gl,hgl⟩:∃ gl,g.length=gl:=⟨_,rfl⟩;rw[hgl] at hc1 HBX hn ⊢;have Hgl:=hid hgl;clear hgl;have hn':(n:Int)<(gl:Int):=by omega
   go_wp2_with fail
   go_loopw [3,22] (fun vs i wr=>∃ (k:Nat) (vr:Value),k≤N.length∧i=int i64 k∧vr=vs∧Box (QF w2 wr b base v vr (Qn g f (N.take k) (ins s n,l)))) (fun _ i _=>N.length - (intOf i).toNat)
   case atStart=>exact ⟨0,v,by omega,rfl,rfl,F2⟩
   case round=>
    clear F2 hc1 hc;obtain ⟨k,vr,hk,rfl,rfl,FR⟩:=hrel;have hkw:=FR.o.keep;by_cases hlt:k<N.length
    ·have hvF:∀ x,x∈b :: v.ownBlock.toList→B≤x:=by
      intro x hx;rcases List.mem_cons.1 hx with e | e
      ·omega
      ·have:=(hvb.o x (by simpa using e)).1;omega
     obtain ⟨bm,om,rfl,hcm⟩:=(HN.o.kept hkw hvF).at hlt;obtain ⟨x,hx⟩:∃ x,N.getD k 0=x:=⟨_,rfl⟩;have hxl:x<g.length:=hx ▸ Hnb.o _ (QP N k 0 hlt)
     have hbx2:Zq wr w.heap.size (gl:Int) (some ⟨bl,off,none⟩) gl cap:=HBX.o.kept hkw (by
      intro hx;rcases List.mem_cons.1 hx with e | e
      ·omega
      ·have:=(hvb.o _ (by simpa using e)).2;omega)
     have hc0:=hbx2.c0;have hc1:=hbx2.c1;have htk:=hid (jn N k 0 hlt);rw[hx] at hcm htk;have hlen:=QI g hg f (N.take k) (ins s n,l) (fun m hm=>Hnb.o m (List.mem_of_mem_take hm));have hnode:=JE g hg f (N.take k) (ins s n,l);have hmono:=zhG g (ins s n) _ (JA g f (N.take k) (ins s n,l));have hfit:Fit (Qn g f (N.take k) (ins s n,l)).1:=Fit.node h6 Hins.o (fun m hm=>hnode m (fun a ha=>Hnb.o a (List.mem_of_mem_take ha)) hm);clear hx hbx2 hnode;obtain ⟨st,hst⟩:∃ st,Qn g f (N.take k) (ins s n,l)=st:=⟨_,rfl⟩;rw[hst] at hlen hmono hfit FR;have hlen':st.2.length+un g st.1≤100000:=by
      have:st.2.length+un g st.1≤l.length+un g (ins s n):=hlen;omega
     have hbw2:base≤wr.heap.size:=by have:=hkw.size;omega
     have hnext:=hid (zc7 g f (N.take k) x (ins s n,l));rw[hst] at hnext;have HC:=hid (ih.o x st.1 st.2 vr wr hxl (by omega) hlen' (HG2.o.kept hkw hvF) hbw2 FR.o.set hfit FR.o.row);rw[Hgl.o] at HC;have hsz:w2.heap.size≤wr.heap.size:=hkw.size;clear hlen hmono hfit hst hlen';go_wp2_with fail;refine HC.o.mono ?_;rintro e w3 ⟨v3,rfl,F3⟩;have F4:=hid (FR.o.trans F3);clear F3 FR HC;go_wp2;go_roundw
     case rel=>exact ⟨k+1,v3,by omega,by go_num,rfl,hid (by rw[htk.o,hnext.o];exact F4.o)⟩
     case measure=>simp[intOf];omega
    ·obtain rfl:k=N.length:=by omega
     have hlen:=QI g hg f N (ins s n,l) Hnb.o;rw[List.take_length] at FR;obtain ⟨st,hst⟩:∃ st,Qn g f N (ins s n,l)=st:=⟨_,rfl⟩;rw[hst] at hlen FR hv;have hlen':st.2.length≤100000:=by
      have:st.2.length+un g st.1≤l.length+un g (ins s n):=hlen;omega
     have hbw2:base≤wr.heap.size:=by have:=hkw.size;omega
     have HR:=hid FR.o.row;clear hlen hst hkw ih;generalize hnn:st.2.length=ln at HR hlen';generalize hxx:jB st.2=xs at HR;have Hnn:=hid hnn;have Hxx:=hid hxx;clear hnn hxx;go_wp2_with (at_builtin;refine wpList_append_own_at _ rfl _ _ 36 rfl base 3 Tryz.t3 (int i64 0) 1 8 zL qg qF qI qi rfl (by decide) _ _ _ rfl (HR.o.alloc _) _ 1 1 [int i64 (n:Int)] rfl rfl (cell_one_new _ _ _) (fun x hx=>by simp at hx;subst hx;rfl) (by unfold maxLen;omega) (by omega) (by simp;omega) ?_;intro v' w5 hown5 hgrow5 hnil5 hat5);go_ret;refine ⟨v',rfl,?_⟩;rw[hv.o];refine F2'.o.trans (FR.o.put (za.alloc [] _ _) ?_ hgrow5 hat5);rw[Hnn.o,Hxx.o];exact hown5
def JL(g:List (List Nat))(zs:List Int)(s:Nat→Bool):Nat→Bool:=zs.foldl (fun s z=>if 0≤z∧z<(g.length:Int) then (vis g (g.length+1) z.toNat (s,[])).1 else s) s
def rch(g:List (List Nat))(zs:List Int):Nat→Bool:=JL g zs zC
theorem Jj(g:List (List Nat))(zs:List Int)(z:Int)(s:Nat→Bool):JL g (zs ++ [z]) s=if 0≤z∧z<(g.length:Int) then (vis g (g.length+1) z.toNat (JL g zs s,[])).1 else JL g zs s:=by
 unfold JL;rw[List.foldl_append];rfl
theorem ZD{g:List (List Nat)}(h:Sm g):∀ (zs:List Int) (s:Nat→Bool),Fit s→Fit (JL g zs s)
 | [],_,hs=>hs
 | z :: zs,s,hs=>by
  show Fit (JL g zs (if 0≤z∧z<(g.length:Int) then (vis g (g.length+1) z.toNat (s,[])).1 else s));refine ZD h zs _ ?_;by_cases e:0≤z∧z<(g.length:Int)
  ·rw[if_pos e]
   exact Fit.node h.len hs (fun m hm=>Z0 g h.ok _ z.toNat (s,[]) m (by omega) hm)
  ·rw[if_neg e];exact hs
structure zjg (w w2:World) (B:Nat) (a:Option Addr) (cap:Nat) (g:List (List Nat)) (s:Nat→Bool):Prop where
 box:Zq w2 w.heap.size (g.length:Int) a g.length cap
 set:zy w2 (w.heap.size+1) s
 gr:GAt w2 B a g
 keep:za [] w w2
theorem zg3(w:World)(B:Nat)(a:Option Addr)(cap:Nat)(g:List (List Nat))(hG:GAt w B a g):
  zjg w ((w.alloc (Obj.cells #[int i64 (g.length:Int),.slice a g.length cap] 195)).alloc (Obj.cells (row zC) 272)) B a cap g zC:=by
 have hk1:za [] w (w.alloc (Obj.cells #[int i64 (g.length:Int),.slice a g.length cap] 195)):=za.alloc _ _ _;have hk2:za [] (w.alloc (Obj.cells #[int i64 (g.length:Int),.slice a g.length cap] 195)) ((w.alloc (Obj.cells #[int i64 (g.length:Int),.slice a g.length cap] 195)).alloc (Obj.cells (row zC) 272)):=za.alloc _ _ _;refine ⟨(Zq.new w (g.length:Int) a g.length cap).kept hk2 (by simp),?_,(hG.quiet hk1).quiet hk2,hk1.quiet hk2⟩;have:=Jb (w.alloc (Obj.cells #[int i64 (g.length:Int),.slice a g.length cap] 195)) zC;rw[World.size_alloc] at this;exact this
theorem zci(g:List (List Nat))(hs:Sm g)(a:Option Addr)(cap B:Nat)(w:World)(hG:GAt w B a g)(hB:B≤w.heap.size)(af:Option Addr)(fc Bf:Nat)(zs:List Int)(hz:JC w Bf af zs)(hl:zs.length≤1000000)(hBf:Bf≤w.heap.size):
  Calls Tryz.prog 202 #[agg #[int i64 (g.length:Int),.slice a g.length cap],.slice af zs.length fc] w fun e w'=>∃ b,e=.returned (pointer (some ⟨b,0,none⟩))∧zy w' b (rch g zs)∧za [] w w'∧w.heap.size≤b:=by
 have hzero:=zbb;have H2:=hid (zg3 w B a cap g hG);have HZ:=hid (hz.kept H2.o.keep (by simp));have HS:=hid hs;have HC:Box (∀ w,GAt w B a g→Calls Tryz.prog 132 #[agg #[int i64 (g.length:Int),.slice a g.length cap]] w fun e w'=>e=.returned (.bool true)∧za [] w w'):=hid (fun w=>QR g hs a cap B w);clear hG hz hs;go_enter Tryz.func202,Tryz.ntmps202;go_wp2_with fail;generalize (w.alloc (Obj.cells #[int i64 (g.length:Int),.slice a g.length cap] 195)).alloc (Obj.cells (row zC) 272)=w2 at H2 HZ ⊢;refine (HC.o w2 H2.o.gr).mono ?_;rintro e w3 ⟨rfl,hk3⟩;have H3:Box (zjg w w3 B a cap g (JL g [] zC)):=hid ⟨H2.o.box.kept hk3 (by simp),H2.o.set.kept hk3 (by simp),H2.o.gr.quiet hk3,H2.o.keep.quiet hk3⟩;have HZ3:=hid (HZ.o.kept hk3 (by simp));clear H2 HZ hk3 HC hzero;generalize row zC=R;obtain ⟨zl,hzl⟩:∃ zl,zs.length=zl:=⟨_,rfl⟩;rw[hzl] at hl ⊢;have HZL:=hid hzl;clear hzl;go_wp2_with fail
 go_loopw [16] (fun i wr=>∃ k:Nat,k≤zl∧i=int i64 k∧Box (zjg w wr B a cap g (JL g (zs.take k) zC))∧za [w.heap.size+1] w3 wr) (fun i _=>zl - (intOf i).toNat)
 case atStart=>exact ⟨0,by omega,rfl,H3,za.refl _ _⟩
 case round=>
  clear H3;obtain ⟨k,hk,rfl,HR,hkw⟩:=hrel;by_cases hlt:k<zl
  ·obtain ⟨bl,off,rfl,hc⟩:=(HZ3.o.kept hkw (fun x hx=>by simp at hx;omega)).at (k:=k) (by rw[HZL.o];exact hlt)
   have hc0:=HR.o.box.c0;have hc1:=HR.o.box.c1;have htk:=hid (jn zs k 0 (by rw[HZL.o];exact hlt));obtain ⟨z,hzz⟩:∃ z,zs.getD k 0=z:=⟨_,rfl⟩;rw[hzz] at hc htk;clear hzz;by_cases hin:0≤z∧z<(g.length:Int)
   ·obtain ⟨n,rfl⟩:=Int.eq_ofNat_of_zero_le hin.1
    have hn:n<g.length:=by omega
    have H1:=hid (fun w1=>zaM (g.length:Int) (n:Int) a g.length cap w1 hin.1 hin.2);have hfit:=hid (ZD HS.o (zs.take k) zC Zd);have hstep:Box (JL g (zs.take (k+1)) zC=(vis g (g.length+1) n (JL g (zs.take k) zC,[])).1):=hid (by rw[htk.o,Jj,if_pos hin,Int.toNat_natCast]);obtain ⟨s,hss⟩:∃ s,JL g (zs.take k) zC=s:=⟨_,rfl⟩;rw[hss] at HR hstep hfit;have hun:=zj7 g s;have HF:=hid (fun w1 (h0:B≤w1.heap.size) h1 h2 h3=>Qg g HS.o.ok HS.o.len HS.o.inner B (w.heap.size+1) w1.heap.size a cap (by omega) (by omega) (g.length+1) n s [] (.slice none 0 0) w1 hn (by omega) (by have:=HS.o.len;simp;omega) h1 (Nat.le_refl _) h2 h3 (zgi w1 _));clear hss hin;go_wp2_with (first | (go_at_call 201;refine (H1.o _).mono ?_;rintro e w4 ⟨rfl,hk4⟩;have H4:Box (zjg w w4 B a cap g s):=hid ⟨HR.o.box.kept hk4 (by simp),HR.o.set.kept hk4 (by simp),HR.o.gr.quiet hk4,HR.o.keep.quiet hk4⟩;have hd0:=H4.o.box.c0;have hd1:=H4.o.box.c1) | (go_at_call 243;refine (HF.o _ (by have:=H4.o.keep.size;omega) H4.o.gr H4.o.set hfit.o).mono ?_;rintro e w5 ⟨v5,rfl,F5⟩));have F5':=hid F5;clear F5;go_roundw
    case rel=>exact ⟨k+1,by omega,by go_num,hid ⟨H4.o.box.kept F5'.o.keep (by simp[Value.ownBlock]),by rw[hstep.o];exact F5'.o.set,H4.o.gr.kept F5'.o.keep (fun x hx=>by simp[Value.ownBlock] at hx;omega),H4.o.keep.trans F5'.o.keep (fun x hx hl=>by simp[Value.ownBlock] at hx;omega)⟩,(hkw.quiet hk4).trans F5'.o.keep (fun x hx _=>by simpa [Value.ownBlock] using hx)⟩
    case measure=>simp[intOf];omega
   ·have H1:=hid (fun w1=>zdB (g.length:Int) z a g.length cap w1 hin)
    have hstep:Box (JL g (zs.take (k+1)) zC=JL g (zs.take k) zC):=hid (by rw[htk.o,Jj,if_neg hin]);clear hin;go_wp2_with (go_at_call 201;refine (H1.o _).mono ?_;rintro e w4 ⟨rfl,hk4⟩);go_roundw
    case rel=>exact ⟨k+1,by omega,by go_num,hid (by rw[hstep.o];exact ⟨HR.o.box.kept hk4 (by simp),HR.o.set.kept hk4 (by simp),HR.o.gr.quiet hk4,HR.o.keep.quiet hk4⟩),hkw.quiet hk4⟩
    case measure=>simp[intOf];omega
  ·obtain rfl:k=zl:=by omega
   go_wp2;go_ret;have hall:zs.take k=zs:=by rw[← HZL.o];exact List.take_length
   have H5:=HR.o;rw[hall] at H5;exact ⟨_,rfl,H5.set,H5.keep,by omega⟩
def g3:List (List Nat):=[[1],[0,2],[]]
theorem zaE{g:List (List Nat)}(hg:Ok g):∀ (zs:List Int) (s:Nat→Bool) (m:Nat),JL g zs s m=true→s m=true∨m<g.length
 | [],_,_,h=>.inl h
 | z :: zs,s,m,h=>by
  have h':JL g zs (if 0≤z∧z<(g.length:Int) then (vis g (g.length+1) z.toNat (s,[])).1 else s) m=true:=h;rcases zaE hg zs _ m h' with h1 | h1
  ·by_cases e:0≤z∧z<(g.length:Int)
   ·rw[if_pos e] at h1
    exact Z0 g hg _ z.toNat (s,[]) m (by omega) h1
   ·rw[if_neg e] at h1;exact .inl h1
  ·exact .inr h1
theorem zg9{g:List (List Nat)}(hg:Ok g)(zs:List Int)(m:Nat)(hm:g.length≤m):rch g zs m=false:=by
 cases h:rch g zs m
 ·rfl
 ·rcases zaE hg zs zC m h with h1 | h1
  ·cases h1
  ·omega
def zfZ(y f b i:Int)(w:World)(e:Ending)(w':World):Prop:=∃ p,e=.returned (Zx p)∧Zz w' p y f b i∧za [] w w'
theorem zaR(y f b i:Int)(w:World):Calls Tryz.prog 135 #[int i64 y,agg #[int i64 f,int i64 b,int i64 i],.nilIface] w (zfZ y f b i w):=by
 have k2:=((za.refl [] w).step (za.alloc [] w (.cells #[int i64 f,int i64 b,int i64 i] 99))).step (za.alloc [] _ (.cells #[int i64 y,int i64 f,int i64 b,int i64 i,.nilIface] 208));have hn:=zd (w.alloc (.cells #[int i64 f,int i64 b,int i64 i] 99)) (.cells #[int i64 y,int i64 f,int i64 b,int i64 i,.nilIface] 208);rw[World.size_alloc] at hn;have H:=hid (show Zz _ (w.heap.size+1) y f b i from hn);have K:=hid k2;clear k2 hn;go_enter Tryz.func135,Tryz.ntmps135;go_wp2;go_ret;exact ⟨w.heap.size+1,rfl,H.o,K.o⟩
theorem jM(g:List (List Nat))(hs:Sm g)(a:Option Addr)(cap B:Nat)(w:World)(hG:GAt w B a g)(hB:B≤w.heap.size):
  Calls Tryz.prog 133 #[agg #[int i64 (g.length:Int),.slice a g.length cap]] w fun e w'=>∃ b,e=.returned (pointer (some ⟨b,0,none⟩))∧zy w' b (rch g [0])∧za [] w w'∧w.heap.size≤b:=by
 have k1:=za.alloc [] w (.cells #[int i64 (g.length:Int),.slice a g.length cap] 195);have k2:=za.alloc [] (w.alloc (.cells #[int i64 (g.length:Int),.slice a g.length cap] 195)) (.cells #[int i64 0] 3);have hz:JC ((w.alloc (.cells #[int i64 (g.length:Int),.slice a g.length cap] 195)).alloc (.cells #[int i64 0] 3)) ((w.alloc (.cells #[int i64 (g.length:Int),.slice a g.length cap] 195)).alloc (.cells #[int i64 0] 3)).heap.size (some ⟨w.heap.size+1,0,none⟩) [0]:=by
  refine .inr ⟨w.heap.size+1,0,rfl,by simp,fun i hi=> ?_⟩;obtain rfl:i=0:=by simpa using hi
  rw[World.cell?_alloc_at _ _ _ _ (by simp)];rfl
 have HR:=hid (zci g hs a cap B _ ((hG.quiet k1).quiet k2) (by simp;omega) (some ⟨w.heap.size+1,0,none⟩) 1 _ [0] hz (by simp) (Nat.le_refl _));have K:=hid (k1.quiet k2);clear hz k1 k2 hG;go_enter Tryz.func133,Tryz.ntmps133;go_wp2_with (go_at_call 202;refine HR.o.mono ?_;rintro e w3 ⟨b,rfl,h3,k3,h4⟩);go_ret;exact ⟨b,rfl,h3,K.o.quiet k3,Nat.le_trans K.o.size h4⟩
def zg0(P:Pr8)(F:Fu8):Nat:=if inB F.sig P.sigs.length=true then (P.sigs.getD F.sig.toNat ([],0,0)).1.length else 0
theorem za5(h:FuC w fb fo F)(hr:F.regs.length≤5000):
  Calls Tryz.prog 208 #[pointer (some ⟨fb,fo,none⟩)] w fun e w'=>e=.returned (int i64 (F.regs.length:Int))∧w'=w:=by
 obtain ⟨ra,rp,c1, -⟩:=h.c1;clear h;generalize F.regs.length=R at *;by_cases e:R=5000
 ·subst e
  go_enter Tryz.func208,Tryz.ntmps208;go_wp2;go_ret;exact ⟨rfl,rfl⟩
 ·have h1:(R:Int)<5000:=by omega
  go_enter Tryz.func208,Tryz.ntmps208;go_wp2;go_ret;exact ⟨by first | rfl | (show Ending.returned (Value.int .i64 (min (R:Int) 5000))=_;rw[Int.min_eq_left (by omega)]),rfl⟩
theorem zbs{pb po:Nat}{P:Pr8}(hp:PrC w pb po P)(h:FuC w fb fo F):
  Calls Tryz.prog 207 #[pointer (some ⟨pb,po,none⟩),pointer (some ⟨fb,fo,none⟩)] w fun e w'=>e=.returned (int i64 (zg0 P F:Int))∧za [] w w':=by
 obtain ⟨sa,sp,c1,r1,_⟩:=hp.c1;have c0:=h.c0.1;unfold zg0;by_cases hi:inB F.sig P.sigs.length=true
 ·have HW:Box (∀ w,Calls Tryz.prog 199 #[int i64 F.sig,int i64 (P.sigs.length:Int)] w fun e w'=>e=.returned (.bool true)∧w'=w):=hid fun w=>by
   have:=zO F.sig P.sigs.length w;rw[hi] at this;exact this
  rw[if_pos hi];have hh:=z6.1 hi;obtain ⟨s,hs'⟩:∃ s:Nat,F.sig=(s:Int):=⟨F.sig.toNat,by omega⟩;rw[hs'] at c0 HW hh ⊢;rw[Int.toNat_natCast];obtain ⟨sb,so,rfl,hsg⟩:=r1.at (j:=s) (y:=P.sigs.getD s ([],0,0)) (zi (by omega));obtain ⟨ta,tp,ct,_⟩:=hsg.c0;have hl:=hh.2;clear hi h hp r1 hsg hs';generalize (P.sigs.getD s ([],0,0)).1.length=T at *;generalize P.sigs.length=N at *;go_enter Tryz.func207,Tryz.ntmps207;go_wp2_with fail;go_quiet ((go_at_call 199;exact Calls.quiet_of_same (HW.o _)));go_wp2_with fail;go_quiet (fail);go_wp2_with fail;go_ret;exact ⟨rfl,(za.drewN [] _ _).quiet (za.drewN [] _ _)⟩
 ·rw[Bool.not_eq_true] at hi
  have HW:Box (∀ w,Calls Tryz.prog 199 #[int i64 F.sig,int i64 (P.sigs.length:Int)] w fun e w'=>e=.returned (.bool false)∧w'=w):=hid fun w=>by
   have:=zO F.sig P.sigs.length w;rw[hi] at this;exact this
  rw[if_neg (by simp[hi])];clear hi h hp r1;generalize P.sigs.length=N at *;go_enter Tryz.func207,Tryz.ntmps207;go_wp2_with fail;go_quiet ((go_at_call 199;exact Calls.quiet_of_same (HW.o _)));go_wp2_with fail;go_ret;exact ⟨rfl,za.drewN [] _ _⟩
def zbJ(R:Nat):Nat→Bool:=fun m=>decide (m<R)
theorem ze6{R:Nat}(h:R≤5000):Fit (zbJ R):=fun n hn=>by unfold zbJ;simp;omega
theorem zcm:zbJ 0=zC:=by funext m;unfold zbJ zC;simp
theorem zdA{R:Nat}(h:R<5000):zaF (zbJ R) (R:Int)=zbJ (R+1):=by
 funext m
 unfold zaF zbJ;have:(R:Int)<5000:=by omega
 rw[Bool.eq_iff_iff];simp[this];omega
theorem QE(h:FuC w fb fo F)(hr:F.regs.length≤5000):
  Calls Tryz.prog 205 #[pointer (some ⟨fb,fo,none⟩)] w fun e w'=>∃ b,e=.returned (pointer (some ⟨b,0,none⟩))∧zy w' b (zbJ F.regs.length)∧za [] w w'∧w.heap.size≤b:=by
 have HO:=hid (zaU none 0 w);have HG:=hid fun (w':World) (k:za [] w w')=>za5 (FuC.stays _ _ _ _ _ k h) hr;clear h;generalize F.regs.length=R at *;go_enter Tryz.func205,Tryz.ntmps205;go_wp2_with (first | (go_at_call 244;refine HO.o.mono ?_;rintro e w1 ⟨rfl,h1,k1⟩) | (go_at_call 208;refine (HG.o _ k1).mono ?_;rintro e w2 ⟨rfl,rfl⟩));rw[← zcm] at h1;have H1:=hid h1;have K1:=hid k1;clear HO HG h1 k1;obtain ⟨q,hq⟩:∃ q,w.heap.size=q:=⟨_,rfl⟩;rw[hq] at H1 ⊢;have HQ:=hid hq;clear hq
 go_loopw [8] (fun i wr=>∃ k:Nat,k≤R∧i=int i64 (k:Int)∧Box (zy wr q (zbJ k))∧Box (za [q] w2 wr)) (fun i _=>R - (intOf i).toNat)
 case atStart=>exact ⟨0,by omega,rfl,H1,hid (za.refl _ _)⟩
 case round=>
  clear H1;obtain ⟨k,hk,rfl,HS,HK⟩:=hrel;by_cases hlt:k<R
  ·have hlt':(k:Int)<(R:Int):=by omega
   have HA:=hid (QS q (zbJ k) (k:Int) wr HS.o (ze6 (by omega)));rw[zdA (by omega)] at HA;go_wp2_with (go_at_call 215;refine HA.o.mono ?_;rintro e w3 ⟨rfl,h3,k3⟩);go_roundw
   case rel=>exact ⟨k+1,by omega,by go_num,hid h3,hid (HK.o.step k3)⟩
   case measure=>simp[intOf];omega
  ·obtain rfl:k=R:=by omega
   go_wp2;go_ret;exact ⟨q,rfl,HS.o,K1.o.fresh HK.o (fun x hx=>by have:=HQ.o;simp at hx;omega),by rw[HQ.o];exact Nat.le_refl _⟩
def dfS(c:List In8)(s:Nat→Bool):Nat→Bool:=c.foldl (fun s i=>if zK i then zaF s i.dst else s) s
theorem Q1:∀ (c:List In8) (s:Nat→Bool),Fit s→Fit (dfS c s)
 | [],_,h=>h
 | i :: c,s,h=>by
  show Fit (dfS c (if zK i then zaF s i.dst else s));refine Q1 c _ ?_;split
  ·exact h.ins _
  ·exact h
theorem zaV(c:List In8)(s:Nat→Bool)(i:In8):dfS (c ++ [i]) s=if zK i then zaF (dfS c s) i.dst else dfS c s:=by
 unfold dfS;rw[List.foldl_append];rfl
theorem zah{bb bo:Nat}{x:Bl8}(h:BlC w bb bo x)(hl:x.code.length≤1000000):
  Calls Tryz.prog 206 #[pointer (some ⟨bb,bo,none⟩)] w fun e w'=>∃ b,e=.returned (pointer (some ⟨b,0,none⟩))∧zy w' b (dfS x.code zC)∧za [] w w'∧w.heap.size≤b:=by
 have HO:=hid (zaU none 0 w);obtain ⟨ca,cp,c0,hrows, -⟩:=h.c0;have C0:Box (∀ w',za [] w w'→w'.cell? ⟨bb,bo,none⟩=some (.slice ca x.code.length cp)):=hid fun w' k=>zb k c0;have HR:=hid hrows;clear h c0 hrows;obtain ⟨L,hL⟩:∃ L,x.code.length=L:=⟨_,rfl⟩;rw[hL] at C0 hl;have HL:=hid hL;clear hL;go_enter Tryz.func206,Tryz.ntmps206;go_wp2_with (go_at_call 244;refine HO.o.mono ?_;rintro e w1 ⟨rfl,h1,k1⟩;have c1:=C0.o _ k1);have H1:=hid h1;have K1:=hid k1;clear HO h1 k1 C0 c1;obtain ⟨q,hq⟩:∃ q,w.heap.size=q:=⟨_,rfl⟩;rw[hq] at H1 ⊢;have HQ:=hid hq;have HQL:Box (∀ y∈[q],w.heap.size≤y):=hid fun y hy=>by simp at hy;omega
 clear hq
 go_loopw [14] (fun i wr=>∃ k:Nat,k≤L∧i=int i64 (k:Int)∧Box (zy wr q (dfS (x.code.take k) zC))∧Box (za [] w wr)) (fun i _=>L - (intOf i).toNat)
 case atStart=>exact ⟨0,by omega,rfl,by rw[List.take_zero];exact H1,K1⟩
 case round=>
  clear H1 K1;obtain ⟨k,hk,rfl,HS,HK⟩:=hrel;by_cases hlt:k<L
  ·have hlt':(k:Int)<(L:Int):=by omega
   have hlt2:k<x.code.length:=by rw[HL.o];exact hlt
   have HTK:=hid (jn x.code k ⟨0,0,0,0,0,[]⟩ hlt2);obtain ⟨ib,io,rfl,hin⟩:=(HR.o.quiet InC.stays HK.o).at (j:=k) (y:=x.code.getD k ⟨0,0,0,0,0,[]⟩) (zi hlt2);clear hlt2;obtain ⟨i,hi⟩:∃ i,x.code.getD k ⟨0,0,0,0,0,[]⟩=i:=⟨_,rfl⟩;rw[hi] at hin HTK;clear hi;obtain ⟨aa,ap,h5, -⟩:=hin.c5;have h0:=hin.c0.1;have h1:=hin.c1.1;have h2:=hin.c2.1;have h3:=hin.c3.1;have h4:=hin.c4.1;clear hin;have HD:=hid fun (w':World)=>QG i (.slice aa i.args.length ap) w';unfold zt ZW at HD;have ka:=za.alloc [] wr (.cells #[int i64 i.op,int i64 i.dst,int i64 i.a,int i64 i.b,int i64 i.n,.slice aa i.args.length ap] 54);have HS2:=hid (HS.o.kept ka (by simp));have HK2:=hid (HK.o.quiet ka);have HF:=hid (Q1 (x.code.take k) zC Zd);have HSN:=hid (zaV (x.code.take k) zC i);rw[← HTK.o] at HSN;clear ka HS HK HTK;generalize i.args.length=al at *;cases hd:zK i with
   | true=>
    rw[hd] at HD HSN;rw[if_pos rfl] at HD HSN;clear hd;generalize hs1:dfS (x.code.take k) zC=s at *;clear hs1;have HA:=hid fun (w':World) (h:zy w' q s)=>QS q s i.dst w' h HF.o;go_wp2_with (first | (go_at_call 214;refine (HD.o _).mono ?_;rintro e w3 ⟨rfl,k3⟩;have H3:=hid (HS2.o.kept k3 (by simp));have K3:=hid (HK2.o.quiet k3)) | (go_at_call 215;refine (HA.o _ H3.o).mono ?_;rintro e w4 ⟨rfl,h4,k4⟩));go_roundw
    case rel=>exact ⟨k+1,by omega,by go_num,hid (by rw[HSN.o];exact h4),hid (K3.o.fresh k4 HQL.o)⟩
    case measure=>simp[intOf];omega
   | false=>
    rw[hd] at HD HSN;rw[if_neg (by decide)] at HD HSN;clear hd;go_wp2_with (go_at_call 214;refine (HD.o _).mono ?_;rintro e w3 ⟨rfl,k3⟩;have H3:=hid (HS2.o.kept k3 (by simp));have K3:=hid (HK2.o.quiet k3));go_roundw
    case rel=>exact ⟨k+1,by omega,by go_num,hid (by rw[HSN.o];exact H3.o),K3⟩
    case measure=>simp[intOf];omega
  ·obtain rfl:k=L:=by omega
   go_wp2;go_ret;rw[← HL.o,List.take_length] at HS;exact ⟨q,rfl,HS.o,HK.o,by rw[HQ.o];exact Nat.le_refl _⟩
def jh(g:List (List Nat))(D:Nat→Nat→Bool)(r:Nat):List (List Nat):=(List.range g.length).map fun b=>if D b r then [] else nb g b
theorem qa(g:List (List Nat))(D:Nat→Nat→Bool)(r:Nat):(jh g D r).length=g.length:=by unfold jh;rw[List.length_map,List.length_range]
theorem QU{g:List (List Nat)}{D:Nat→Nat→Bool}{r:Nat}(h:b<g.length):nb (jh g D r) b=if D b r then [] else nb g b:=by
 show (jh g D r).getD b []=_;unfold jh;rw[List.getD_eq_getElem?_getD,List.getElem?_map,List.getElem?_range h];rfl
theorem zaP{g:List (List Nat)}(h:Sm g)(D:Nat→Nat→Bool)(r:Nat):Sm (jh g D r):=by
 have key:∀ j y,y∈nb (jh g D r) j→y∈nb g j:=fun j y hy=>by
  by_cases hj:j<g.length
  ·rw[QU hj] at hy
   split at hy
   ·cases hy
   ·exact hy
  ·rw[zaN (by rw[qa];exact hj)] at hy
   cases hy
 refine ⟨fun j y hy=>by rw[qa];exact h.ok j y (key j y hy),by rw[qa];exact h.len,fun j=> ?_⟩;by_cases hj:j<g.length
 ·rw[QU hj]
  split
  ·simp
  ·exact h.short j
 ·rw[zaN (by rw[qa];exact hj)]
  simp
theorem JC.mono{B B':Nat}{a:Option Addr}{zs:List Int}(h:JC w B a zs)(hb:B≤B'):JC w B' a zs:=by
 rcases h with h | ⟨b,off,h1,h2,h3⟩
 ·exact .inl h
 ·exact .inr ⟨b,off,h1,Nat.lt_of_lt_of_le h2 hb,h3⟩
structure PS (w:World) (base p n:Nat) (d:Nat→Nat) (D:Nat→Nat→Bool):Prop where
 row:qb w base p n 198 (fun i=>pointer (some ⟨d i,0,none⟩))
 set:∀ i,i<n→zy w (d i) (D i)
theorem PS.quiet{d:Nat→Nat}{D:Nat→Nat→Bool}(h:PS w base p n d D)(k:za [] w wy):PS wy base p n d D:=
 ⟨h.row.kept k (by simp),fun i hi=>(h.set i hi).kept k (by simp)⟩
theorem zal(g:List (List Nat))(hs:Sm g)(a:Option Addr)(cap B:Nat)(w:World)(hG:GAt w B a g)(hB:B≤w.heap.size){d:Nat→Nat}{D:Nat→Nat→Bool}(hd:PS w base p g.length d D)(hf:∀ i,Fit (D i))(r:Nat):
  Calls Tryz.prog 209 #[agg #[int i64 (g.length:Int),.slice a g.length cap],.slice (some ⟨p,0,none⟩) g.length g.length,int i64 (r:Int)] w fun e w'=>∃ a',e=.returned (agg #[int i64 ((jh g D r).length:Int),.slice a' (jh g D r).length (jh g D r).length])∧GAt w' w'.heap.size a' (jh g D r)∧za [] w w':=by
 have hn6:=hs.len;have HG:=hid hG;have HD:=hid hd;have HF:=hid hf;have SN:Box (∀ b,b<g.length→nb (jh g D r) b=if D b r then [] else nb g b):=hid fun b hb=>QU hb;have SL:=hid (qa g D r);rw[qa];obtain ⟨n,hn⟩:∃ n,g.length=n:=⟨_,rfl⟩;have GL:=hid hn;rw[hn] at HD SN SL hn6 ⊢;clear hs hG hd hf hn;have hmk:=zcs n (by omega);have k1:=za.alloc [] w (.cells #[int i64 (n:Int),.slice a n cap] 195);have k2:=za.alloc [] (w.alloc (.cells #[int i64 (n:Int),.slice a n cap] 195)) (.cells #[int i64 0,.slice none 0 0] 195);have T1:Box (zX ((w.alloc (.cells #[int i64 (n:Int),.slice a n cap] 195)).alloc (.cells #[int i64 0,.slice none 0 0] 195)) w.heap.size (int i64 (n:Int)) (.slice a n cap)):=hid ((zX.new w _ _).kept k2 (by simp));have T2:Box (zX ((w.alloc (.cells #[int i64 (n:Int),.slice a n cap] 195)).alloc (.cells #[int i64 0,.slice none 0 0] 195)) (w.heap.size+1) (int i64 0) (.slice none 0 0)):=hid (by have:=zX.new (w.alloc (.cells #[int i64 (n:Int),.slice a n cap] 195)) (int i64 0) (.slice none 0 0);rw[World.size_alloc] at this;exact this);have K2:=hid (k1.quiet k2);have SZ:Box (((w.alloc (.cells #[int i64 (n:Int),.slice a n cap] 195)).alloc (.cells #[int i64 0,.slice none 0 0] 195)).heap.size=w.heap.size+2):=hid (by simp);clear k1 k2;go_enter Tryz.func209,Tryz.ntmps209;go_upto_region 1 with fail;generalize (w.alloc (.cells #[int i64 (n:Int),.slice a n cap] 195)).alloc (.cells #[int i64 0,.slice none 0 0] 195)=W at *;have c0:=T1.o.c0;go_upto_region 2 with fail;clear c0;have ka:za [] W (W.alloc (.cells (madeCells #[JH] n) 36)):=za.alloc _ _ _;have HR:=hid (zef W n w.heap.size K2.o.size (by unfold maxLen;omega));have T1':=hid (T1.o.kept ka (by simp));have T2':=hid (T2.o.kept ka (by simp));have K3:=hid (K2.o.quiet ka);clear T1 T2 K2 ka;rw[SZ.o] at HR ⊢;clear SZ;generalize W.alloc (.cells (madeCells #[JH] n) 36)=W3 at *;go_wp2_with fail
 go_loopw [14] (fun i wr=>∃ (k:Nat) (c:Nat→Value),k≤n∧i=int i64 (k:Int)∧Box (qb wr w.heap.size (w.heap.size+2) n 36 c)∧Box (zX wr w.heap.size (int i64 (n:Int)) (.slice a n cap))∧Box (zX wr (w.heap.size+1) (int i64 0) (.slice none 0 0))∧Box (za [] w wr)∧Box (∀ j,j<n→(j<k→∃ ai ci,c j=.slice ai (nb (jh g D r) j).length ci∧JC w B ai (QM (nb (jh g D r) j)))∧(k≤j→c j=JH))) (fun i _=>n - (intOf i).toNat)
 case atStart=>exact ⟨0,_,by omega,rfl,HR,T1',T2',K3,hid fun j hj=>⟨fun h=>by omega,fun _=>rfl⟩⟩
 case round=>
  clear HR T1' T2' K3;obtain ⟨k,c,hk,rfl,HR,T1,T2,HK,HC⟩:=hrel;by_cases hlt:k<n
  ·have hlt':(k:Int)<(n:Int):=by omega
   have ps:=HD.o.quiet HK.o;have cd:=ps.row.cell hlt;have HH:Box (∀ w',za [] w w'→Calls Tryz.prog 134 #[pointer (some ⟨d k,0,none⟩),int i64 (r:Int)] w' fun e w''=>e=.returned (.bool (D k r))∧∃ m,w''=w'.drewN m):=hid fun w' k'=>by
    have:=jK (d k) (D k) (r:Int) w' ((HD.o.quiet k').set k hlt) (HF.o k);unfold jP at this;rw[Int.toNat_natCast,decide_eq_true (by omega:(0:Int)≤(r:Int)),Bool.true_and] at this;exact this
   have sn:=SN.o k hlt;obtain ⟨gb,go,ai,ci,rfl,hcl,hnl⟩:=HG.o.at (k:=k) (by rw[GL.o];exact hlt);have HNL:=hid hnl;have hcl2:=zb HK.o hcl;clear ps hnl hcl;cases hD:D k r with
   | true=>
    rw[hD] at HH sn;rw[if_pos rfl] at sn;have SN2:=hid sn;clear sn hD;go_wp2_with (go_at_call 134;refine (HH.o _ HK.o).mono ?_;rintro e w5 ⟨rfl,m5,rfl⟩);have kd:=za.drewN [] wr m5;go_roundw
    case rel=>exact ⟨k+1,c,by omega,by go_num,hid (HR.o.kept kd (by simp)),hid (T1.o.kept kd (by simp)),hid (T2.o.kept kd (by simp)),hid (HK.o.quiet kd),hid fun j hj=>⟨fun h=>by
      by_cases e:j=k
      ·subst e
       rw[(HC.o j hj).2 (Nat.le_refl _),SN2.o];exact ⟨none,0,rfl,.inl rfl⟩
      ·exact (HC.o j hj).1 (by omega),fun h=>(HC.o j hj).2 (by omega)⟩⟩
    case measure=>simp[intOf];omega
   | false=>
    rw[hD] at HH sn;rw[if_neg (by decide)] at sn;have SN2:=hid sn;clear sn hD;have c1:=T1.o.c1;have cz:=HR.o.cell hlt;have fz:=HR.o.frozen k;go_wp2_with (go_at_call 134;refine (HH.o _ HK.o).mono ?_;rintro e w5 ⟨rfl,m5,rfl⟩);have kd:=za.drewN [] wr m5;have ks:za [w.heap.size+2] (wr.drewN m5) ((wr.drewN m5).setCell ⟨w.heap.size+2,k,none⟩ (.slice ai (nb g k).length ci)):=za.setCell _ _ _ _ (by simp);go_roundw
    case rel=>exact ⟨k+1,_,by omega,by go_num,hid ((HR.o.kept kd (by simp)).put k (.slice ai (nb g k).length ci)),hid ((T1.o.kept kd (by simp)).kept ks (by simp)),hid ((T2.o.kept kd (by simp)).kept ks (by simp)),hid ((HK.o.quiet kd).fresh ks (fun x hx=>by simp at hx;omega)),hid fun j hj=>by
      by_cases e:j=k
      ·subst e
       exact ⟨fun _=>⟨ai,ci,by rw[if_pos rfl,SN2.o],by rw[SN2.o];exact HNL.o⟩,fun h=>by omega⟩
      ·rw[if_neg e]
       exact ⟨fun h=>(HC.o j hj).1 (by omega),fun h=>(HC.o j hj).2 (by omega)⟩⟩
    case measure=>simp[intOf];omega
  ·obtain rfl:k=n:=by omega
   have c0:=T1.o.c0;have r0:=T2.o.c0;have r1:=T2.o.c1;have z0:=T2.o.frozen 0;have z1:=T2.o.frozen 1;go_wp2_with fail;have k1:za [w.heap.size+1] wr (wr.setCell ⟨w.heap.size+1,0,none⟩ (int i64 (k:Int))):=za.setCell _ _ _ _ (by simp);have k2:za [w.heap.size+1] (wr.setCell ⟨w.heap.size+1,0,none⟩ (int i64 (k:Int))) ((wr.setCell ⟨w.heap.size+1,0,none⟩ (int i64 (k:Int))).setCell ⟨w.heap.size+1,1,none⟩ (.slice (some ⟨w.heap.size+2,0,none⟩) k k)):=za.setCell _ _ _ _ (by simp);have k3:=k1.step k2;have hb2:zX ((wr.setCell ⟨w.heap.size+1,0,none⟩ (int i64 (k:Int))).setCell ⟨w.heap.size+1,1,none⟩ (.slice (some ⟨w.heap.size+2,0,none⟩) k k)) (w.heap.size+1) (int i64 (k:Int)) (.slice (some ⟨w.heap.size+2,0,none⟩) k k):=by
    have h1:=heap_setCell_same wr (w.heap.size+1) 0 _ _ (int i64 (k:Int)) T2.o.heap;have h2:=heap_setCell_same _ (w.heap.size+1) 1 _ _ (.slice (some ⟨w.heap.size+2,0,none⟩) k k) h1;exact ⟨h2⟩
   have hd0:=hb2.c0;have hd1:=hb2.c1;have HR2:=HR.o.kept k3 (by simp);have HK2:=HK.o.fresh k3 (fun x hx=>by simp at hx;omega);generalize (wr.setCell ⟨w.heap.size+1,0,none⟩ (int i64 (k:Int))).setCell ⟨w.heap.size+1,1,none⟩ (.slice (some ⟨w.heap.size+2,0,none⟩) k k)=w9 at hd0 hd1 HR2 HK2 ⊢;refine bodyPost_ret (v:=agg #[int i64 (k:Int),.slice (some ⟨w.heap.size+2,0,none⟩) k k]) (by simp[results,Tryz.results209,go_sem,hd0,hd1]) rfl ⟨_,rfl,?_,HK2⟩;refine .inr ⟨_,0,rfl,HR2.lt.2,fun j hj=> ?_⟩;rw[qP,SL.o] at hj;obtain ⟨ai,ci,e1,e2⟩:=(HC.o j hj).1 hj;rw[qv,qw,Nat.zero_add,HR2.cell hj,e1];exact ⟨ai,ci,rfl,(e2.kept HK2 (by simp)).mono (Nat.le_trans hB HK2.size)⟩
def za8:Value:=.pointer none
theorem zgB(n:Nat)(hn:n≤1000000)(w:World):(Instr.makeSlice 201 (int i64 (n:Int)) (int i64 (n:Int))).run Tryz.prog w=.ok (.slice (some ⟨w.heap.size,0,none⟩) n n) (w.alloc (.cells (madeCells #[za8] n) 198)):=
 run_make_row' (P:=Tryz.prog) 201 198 za8 8 Tryz.underlying201 (by kernel_rfl) rfl .i64 .i64 n (by omega) (by omega) w
theorem zcZ(w:World)(n base:Nat)(hb:base≤w.heap.size)(hn:n≤maxLen):qb (w.alloc (.cells (madeCells #[za8] n) 198)) base w.heap.size n 198 (fun _=>za8):=by
 refine qb.made (z:=za8) ⟨?_,.inr ⟨w.heap.size,n,_,rfl,hb,heap_alloc_new w _,Nat.le_refl _,hn,?_,?_⟩⟩ rfl
 ·rw[Array.length_toList,size_madeCells]
 ·rw[size_madeCells,Nat.mul_one]
 ·rw[Nat.mul_one]
  exact List.take_of_length_le (by rw[Array.length_toList,size_madeCells];exact Nat.le_refl _)
def pv(k:Nat)(d:Nat→Nat)(i:Nat):Value:=if i<k then pointer (some ⟨d i,0,none⟩) else .pointer none
structure HS (wr:World) (base q p n k:Nat) (d:Nat→Nat) (D:Nat→Nat→Bool):Prop where
 row:qb wr base p n 198 (pv k d)
 set:∀ i,i<k→zy wr (d i) (D i)
 new:∀ i,i<k→q≤d i
 inj:∀ i j,i<k→j<k→i≠j→d i≠d j
theorem zy.lt'{s:Nat→Bool}(h:zy w b s):b<w.heap.size:=(Array.getElem?_eq_some_iff.1 h.heap).1
theorem HS.kept{d:Nat→Nat}{D:Nat→Nat→Bool}{L:List Nat}(h:HS wr base q p n k d D)(kk:za L wr wy)(hp:p ∉ L)(hd:∀ i,i<k→d i ∉ L):HS wy base q p n k d D:=
 ⟨h.row.kept kk hp,fun i hi=>(h.set i hi).kept kk (hd i hi),h.new,h.inj⟩
theorem HS.quiet{d:Nat→Nat}{D:Nat→Nat→Bool}(h:HS wr base q p n k d D)(kk:za [] wr wy):HS wy base q p n k d D:=h.kept kk (by simp) (by simp)
theorem HS.put{d:Nat→Nat}{D:Nat→Nat→Bool}(h:HS wr base q p n k d D)(hpq:p<q){s:Nat→Bool}(hb:zy wr b s)(hq:q≤b)(hn:∀ i,i<k→d i≠b):
  HS (wr.setCell ⟨p,k,none⟩ (pointer (some ⟨b,0,none⟩))) base q p n (k+1) (fun i=>if i=k then b else d i) (fun i=>if i=k then s else D i):=by
 have kk:za [p] wr (wr.setCell ⟨p,k,none⟩ (pointer (some ⟨b,0,none⟩))):=za.setCell _ _ _ _ (by simp);refine ⟨(h.row.put k _).congr (fun i _=> ?_),fun i hi=> ?_,fun i hi=> ?_,fun i j hi hj e=> ?_⟩
 ·unfold pv
  by_cases e:i=k
  ·subst e;simp
  ·rw[if_neg e]
   by_cases c:i<k
   ·rw[if_pos c,if_pos (by omega)];show _=Value.pointer (some ⟨if i=k then b else d i,0,none⟩);rw[if_neg e]
   ·rw[if_neg c,if_neg (by omega)]
 ·by_cases e:i=k
  ·rw[if_pos e,if_pos e];exact hb.kept kk (by simp;omega)
  ·rw[if_neg e,if_neg e];exact (h.set i (by omega)).kept kk (by have:=h.new i (by omega);simp;omega)
 ·by_cases e:i=k
  ·rw[if_pos e];exact hq
  ·rw[if_neg e];exact h.new i (by omega)
 ·by_cases e1:i=k
  ·rw[if_pos e1,if_neg (by omega)];exact fun e2=>hn j (by omega) e2.symm
  ·by_cases e2:j=k
   ·rw[if_neg e1,if_pos e2];exact hn i (by omega)
   ·rw[if_neg e1,if_neg e2];exact h.inj i j (by omega) (by omega) e
theorem HS.turn{d:Nat→Nat}{D:Nat→Nat→Bool}(h:HS wr base q p n k d D)(hpq:p<q){j:Nat}(hj:j<k){s:Nat→Bool}(kk:za [d j] wr wy)(hs:zy wy (d j) s):HS wy base q p n k d (fun i=>if i=j then s else D i):=by
 refine ⟨h.row.kept kk (by have:=h.new j hj;simp;omega),fun i hi=> ?_,h.new,h.inj⟩;by_cases e:i=j
 ·subst e;rw[if_pos rfl];exact hs
 ·rw[if_neg e];exact (h.set i hi).kept kk (by have:=h.inj i j hi hj e;simpa using this)
theorem HS.congr{d:Nat→Nat}{D E:Nat→Nat→Bool}(h:HS wr base q p n k d D)(e:∀ i,i<k→D i=E i):HS wr base q p n k d E:=
 ⟨h.row,fun i hi=>by rw[← e i hi];exact h.set i hi,h.new,h.inj⟩
theorem HS.ps{d:Nat→Nat}{D:Nat→Nat→Bool}(h:HS wr base q p n n d D):PS wr base p n d D:=
 ⟨h.row.congr (fun i hi=>by unfold pv;rw[if_pos hi]),h.set⟩
end Go.Proofs.YthflgjkmbakedaaGreatDoor
