import Derived.Test.YthflgjkmbakedaaGreatDoorA08
import Derived.Test.YthflgjkmbakedaaGreatDoorA13
import Derived.Test.YthflgjkmbakedaaGreatDoorA24

namespace Go.Proofs.YthflgjkmbakedaaGreatDoor
open Go.RowKit
open Go.Value (int pointer agg)
open Go.IntKind (i64)
set_option maxHeartbeats 8000000
set_option maxRecDepth 20000
variable {N b base g n off ps:Nat}{l:List Nat}{lv v v1:Value}{w w1 w2 wr:World}{zs:List Int}
structure zb1 (w wr:World) (b base:Nat) (v vr:Value) (st:(Nat→Bool) × List Nat):Prop where
 set:zJ wr b st.1
 row:wr.ownsRow base 3 1 vr st.2.length (jE st.2)
 keep:zc (b :: v.ownBlock.toList) w wr
 near:∀ k,vr.ownBlock=some k→k<w.heap.size→v.ownBlock=some k
theorem zb1.refl{st:(Nat→Bool) × List Nat}(hs:zJ w b st.1)(hr:w.ownsRow base 3 1 v st.2.length (jE st.2)):zb1 w w b base v v st:=
 ⟨hs,hr,zc.refl _ _,fun _ h _=>h⟩
theorem zb1.trans{v2:Value}{s1 s2:(Nat→Bool) × List Nat}(h:zb1 w w1 b base v v1 s1)(k:zb1 w1 w2 b base v1 v2 s2):zb1 w w2 b base v v2 s2:=by
 refine ⟨k.set,k.row,h.keep.trans k.keep ?_,?_⟩
 ·intro x hx hl
  rcases List.mem_cons.1 hx with e | e
  ·rw[e];simp
  ·have:=h.near x (by simpa using e) hl
   rw[this];simp
 ·intro x hx hl
  exact h.near x (k.near x hx (Nat.lt_of_lt_of_le hl h.keep.size)) hl
theorem za7{s:Nat→Bool}{xs:List Value}(hs:zJ w b s)(hr:w.ownsRow base 3 1 v n xs):v.ownBlock≠some b:=
 Lib.ownBlock_ne hr hs.heap (by decide)
theorem zb1.quiet{st:(Nat→Bool) × List Nat}(h:zb1 w w1 b base v v1 st)(k:zc [] w1 w2):zb1 w w2 b base v v1 st:=
 ⟨h.set.kept k (by simp),zj h.row k (by simp),h.keep.quiet k,h.near⟩
theorem zb1.turn{st:(Nat→Bool) × List Nat}{t:Nat→Bool}(h:zb1 w w1 b base v v1 st)(k:zc [b] w1 w2)(ht:zJ w2 b t):zb1 w w2 b base v v1 (t,st.2):=
 ⟨ht,zj h.row k (fun x hx e=>by
  simp at e;subst e
  exact za7 h.set h.row hx),h.keep.trans k (fun x hx _=>by simp at hx;subst hx;simp),h.near⟩
theorem zb1.put{wa:World}{v2:Value}{st:(Nat→Bool) × List Nat}(h:zb1 w w1 b base v v1 st)(ha:zc [] w1 wa)(hrow:w2.ownsRow base 3 1 v2 (st.2.length+1) (jE st.2 ++ [int i64 (n:Int)]))
  (hg:wa.grownBy w2 v1.ownBlock) (hat:v2.ownBlock=v1.ownBlock∨v2.ownBlock=some wa.heap.size):zb1 w w2 b base v v2 (st.1,st.2 ++ [n]):=by
 have hk:zc v1.ownBlock.toList wa w2:=zc.grown _ hg (fun k hk=>by rw[hk];simp);refine ⟨(h.set.kept ha (by simp)).kept hk ?_,?_,(h.keep.quiet ha).trans hk ?_,?_⟩
 ·intro hx
  exact za7 h.set h.row (by simpa using hx)
 ·show w2.ownsRow base 3 1 v2 (st.2 ++ [n]).length (jE (st.2 ++ [n]))
  rw[List.length_append,show jE (st.2 ++ [n])=jE st.2 ++ [int i64 (n:Int)] from by simp[jE]];exact hrow
 ·intro x hx hl
  have:=h.near x (by simpa using hx) hl;rw[this];simp
 ·intro x hx hl
  rcases hat with e | e
  ·exact h.near x (e ▸ hx) hl
  ·rw[e] at hx
   have h1:=h.keep.size;have h2:=ha.size;simp at hx;omega
theorem Fit.node{g:List (List Nat)}(h6:g.length≤600){s t:Nat→Bool}(hf:Fit s)(h:∀ m,t m=true→s m=true∨m<g.length):Fit t:=by
 intro m hm;cases e:t m with
 | false=>rfl
 | true=>
  rcases h m e with h1 | h1
  ·rw[hf m hm] at h1;cases h1
  ·omega
theorem zaF(g:List (List Nat))(hg:Ok g)(h6:g.length≤600)(hin:∀ j,(nb g j).length≤1000000)(B b base:Nat)(a:Option Addr)(cap:Nat)(hb:B≤b)(hbase:B≤base):
  ∀ (f n:Nat) (s:Nat→Bool) (l:List Nat) (v:Value) (w:World),n<g.length→un g s<f→l.length+un g s≤100000→GAt w B a g→base≤w.heap.size→zJ w b s→Fit s→w.ownsRow base 3 1 v l.length (jE l)→
  Calls Tryz.prog 243 #[agg #[int i64 (g.length:Int),.slice a g.length cap],int i64 (n:Int),pointer (some ⟨b,0,none⟩),v] w fun e w'=>∃ v',e=.returned v'∧zb1 w w' b base v v' (vis g f n (s,l))
 | 0,_,_,_,_,_,_,h,_,_,_,_,_,_=>absurd h (Nat.not_lt_zero _)
 | f+1,n,s,l,v,w,hn,hu,hl,hG,hbw,hs,hf,hrow=>by
  have ih:=hid (zaF g hg h6 hin B b base a cap hb hbase f);have hk1:zc [] w (w.alloc (Obj.cells #[int i64 (g.length:Int),.slice a g.length cap] 195)):=zc.alloc _ _ _;have hadd:=zbt b s n _ (hs.kept hk1 (by simp)) hf;have e1:decide ((0:Int)≤(n:Int)∧(n:Int)<5000)=true:=by simp;omega
  have e2:ZL s (n:Int)=s n:=by simp[ZL]
  rw[e1,e2,Bool.true_and,zdt s n (by omega)] at hadd;have F0:=hid (zb1.refl (b:=b) (st:=(s,l)) hs hrow);have hvb:=hid (fun k (h:v.ownBlock=some k)=>hrow.lt k h);have hblt:=hs.lt;have HB1:=hid (Js.new w (g.length:Int) a g.length cap);have HG:=hid hG;have Hf:=hid hf;cases hsn:s n with
  | true=>
   rw[hsn] at hadd;have HA:=hid hadd;have hv:=hid (zca g (f+1) n (s,l) hsn)
   have hins:Box (ins s n=s):=hid (by
    funext m
    unfold ins;by_cases e:m=n
    ·subst e;rw[hsn];rfl
    ·simp[e])
   clear hadd hs hrow hG hf ih hsn;go_enter Tryz.func243,Tryz.ntmps243;go_wp2_with fail;refine HA.o.mono ?_;rintro e w2 ⟨rfl,hs2,hk2⟩;have F2:=hid ((F0.o.quiet hk1).turn hk2 hs2);clear hs2 hk2;go_wp2;go_ret;refine ⟨_,rfl,?_⟩;rw[hv.o];have:=F2.o;rw[hins.o] at this;exact this
  | false=>
   rw[hsn] at hadd;have HA:=hid hadd;have hv:=hid (zaf g f n (s,l) hsn);have hu2:=zdB g s n hsn hn;clear hadd hs hrow hG hf hsn;go_enter Tryz.func243,Tryz.ntmps243;go_wp2_with fail;refine HA.o.mono ?_;rintro e w2 ⟨rfl,hs2,hk2⟩;have F2':=hid ((F0.o.quiet hk1).turn hk2 hs2);have F2:=hid (zb1.refl (b:=b) (st:=(ins s n,l)) hs2 F2'.o.row);have hbx:Js w2 w.heap.size (g.length:Int) a g.length cap:=HB1.o.kept hk2 (by simp;omega);have HG2:=hid ((HG.o.quiet hk1).kept hk2 (fun x hx=>by simp at hx;omega));obtain ⟨bl,off,ai,ci,rfl,hc,hN⟩:=HG2.o.at hn;have HN:=hid hN;have hc1:=hbx.c1;have HBX:=hid hbx;have hn6:n<600:=by omega
   have hnl:=hin n;have hS2:w.heap.size<w2.heap.size:=by have:=hbx.lt;exact this
   have hbase2:base≤w2.heap.size:=by omega
   have Hnb:=hid (fun m hm=>hg n m hm);clear hs2 hk2 hbx hN HA HB1 HG
   have Hins:Box (Fit (ins s n)):=hid (Fit.node h6 Hf.o (fun m hm=>by
    have h2:(s m || (m == n))=true:=hm;rw[Bool.or_eq_true,beq_iff_eq] at h2;rcases h2 with h2 | h2
    ·exact .inl h2
    ·exact .inr (h2 ▸ hn)))
   obtain ⟨N,hNN⟩:∃ N,nb g n=N:=⟨_,rfl⟩;rw[hNN] at hc HN hnl Hnb hv;clear hNN;obtain ⟨gl,hgl⟩:∃ gl,g.length=gl:=⟨_,rfl⟩;rw[hgl] at hc1 HBX hn ⊢;have Hgl:=hid hgl;clear hgl;have hn':(n:Int)<(gl:Int):=by omega
   go_wp2_with fail
   go_loopw [3,22] (fun vs i wr=>∃ (k:Nat) (vr:Value),k≤N.length∧i=int i64 k∧vr=vs∧Box (zb1 w2 wr b base v vr (JO g f (N.take k) (ins s n,l)))) (fun _ i _=>N.length - (intOf i).toNat)
   case atStart=>exact ⟨0,v,by omega,rfl,rfl,F2⟩
   case round=>
    clear F2 hc1 hc;obtain ⟨k,vr,hk,rfl,rfl,FR⟩:=hrel;have hkw:=FR.o.keep;by_cases hlt:k<N.length
    ·have hvF:∀ x,x∈b :: v.ownBlock.toList→B≤x:=by
      intro x hx;rcases List.mem_cons.1 hx with e | e
      ·omega
      ·have:=(hvb.o x (by simpa using e)).1;omega
     obtain ⟨bm,om,rfl,hcm⟩:=(HN.o.kept hkw hvF).at hlt;obtain ⟨x,hx⟩:∃ x,N.getD k 0=x:=⟨_,rfl⟩;have hxl:x<g.length:=hx ▸ Hnb.o _ (qg N k 0 hlt)
     have hbx2:Js wr w.heap.size (gl:Int) (some ⟨bl,off,none⟩) gl cap:=HBX.o.kept hkw (by
      intro hx;rcases List.mem_cons.1 hx with e | e
      ·omega
      ·have:=(hvb.o _ (by simpa using e)).2;omega)
     have hc0:=hbx2.c0;have hc1:=hbx2.c1;have htk:=hid (qe N k 0 hlt);rw[hx] at hcm htk;have hlen:=zbr g hg f (N.take k) (ins s n,l) (fun m hm=>Hnb.o m (List.mem_of_mem_take hm));have hnode:=zb8 g hg f (N.take k) (ins s n,l);have hmono:=zeT g (ins s n) _ (zcn g f (N.take k) (ins s n,l));have hfit:Fit (JO g f (N.take k) (ins s n,l)).1:=Fit.node h6 Hins.o (fun m hm=>hnode m (fun a ha=>Hnb.o a (List.mem_of_mem_take ha)) hm);clear hx hbx2 hnode;obtain ⟨st,hst⟩:∃ st,JO g f (N.take k) (ins s n,l)=st:=⟨_,rfl⟩;rw[hst] at hlen hmono hfit FR;have hlen':st.2.length+un g st.1≤100000:=by
      have:st.2.length+un g st.1≤l.length+un g (ins s n):=hlen;omega
     have hbw2:base≤wr.heap.size:=by have:=hkw.size;omega
     have hnext:=hid (zfo g f (N.take k) x (ins s n,l));rw[hst] at hnext;have HC:=hid (ih.o x st.1 st.2 vr wr hxl (by omega) hlen' (HG2.o.kept hkw hvF) hbw2 FR.o.set hfit FR.o.row);rw[Hgl.o] at HC;have hsz:w2.heap.size≤wr.heap.size:=hkw.size;clear hlen hmono hfit hst hlen';go_wp2_with fail;refine HC.o.mono ?_;rintro e w3 ⟨v3,rfl,F3⟩;have F4:=hid (FR.o.trans F3);clear F3 FR HC;go_wp2;go_roundw
     case rel=>exact ⟨k+1,v3,by omega,by go_num,rfl,hid (by rw[htk.o,hnext.o];exact F4.o)⟩
     case measure=>simp[intOf];omega
    ·obtain rfl:k=N.length:=by omega
     have hlen:=zbr g hg f N (ins s n,l) Hnb.o;rw[List.take_length] at FR;obtain ⟨st,hst⟩:∃ st,JO g f N (ins s n,l)=st:=⟨_,rfl⟩;rw[hst] at hlen FR hv;have hlen':st.2.length≤100000:=by
      have:st.2.length+un g st.1≤l.length+un g (ins s n):=hlen;omega
     have hbw2:base≤wr.heap.size:=by have:=hkw.size;omega
     have HR:=hid FR.o.row;clear hlen hst hkw ih;generalize hnn:st.2.length=ln at HR hlen';generalize hxx:jE st.2=xs at HR;have Hnn:=hid hnn;have Hxx:=hid hxx;clear hnn hxx;go_wp2_with (at_builtin;refine wpList_append_own_at _ rfl _ _ 36 rfl base 3 Tryz.t3 (int i64 0) 1 8 zE zU qu qs zX rfl (by decide) _ _ _ rfl (HR.o.alloc _) _ 1 1 [int i64 (n:Int)] rfl rfl (cell_one_new _ _ _) (fun x hx=>by simp at hx;subst hx;rfl) (by unfold maxLen;omega) (by omega) (by simp;omega) ?_;intro v' w5 hown5 hgrow5 hnil5 hat5);go_ret;refine ⟨v',rfl,?_⟩;rw[hv.o];refine F2'.o.trans (FR.o.put (zc.alloc [] _ _) ?_ hgrow5 hat5);rw[Hnn.o,Hxx.o];exact hown5
def bw(s:Nat→Bool)(i:Nat):Value:=.bool (s i)
theorem zmN{B0 gn:Nat}{s:Nat→Bool}(h:qQ w B0 b gn 4 (bw s))(n:Nat):qQ (w.setCell ⟨b,n,none⟩ (.bool true)) B0 b gn 4 (bw (ins s n)):=by
 refine (h.put n (.bool true)).congr (fun i _=> ?_);unfold bw ins;by_cases e:i=n
 ·subst e;simp
 ·simp[e]
theorem znb:Tryz.t4.zero=some (.bool false):=by kernel_rfl
theorem zng:Tryz.t4.size=1:=by kernel_rfl
theorem zmn:Tryz.t4.bytes=1:=by kernel_rfl
theorem zne:Tryz.prog.info? 4=some Tryz.t4:=by kernel_rfl
theorem zmi:Tryz.prog.underlying 95=some (.slice 4):=by kernel_rfl
def avI(wo:Int):Nat→Bool:=fun m=>decide ((m:Int)=wo)
def Z6(w:World)(base ps:Nat)(lv:Value)(l:List Nat):Prop:=
 (lv=.slice none 0 0∧l=[])∨∃ g off cap,lv=.slice (some ⟨g,off,none⟩) l.length cap∧q8 w g off cap (j5 l)∧base≤g∧g≠ps
structure RQ (w wr:World) (ps N:Nat) (lv:Value) (st:(Nat→Bool) × List Nat):Prop where
 row:qQ wr w.heap.size ps N 4 (bw st.1)
 line:Z6 wr w.heap.size ps lv st.2
 keep:zc [] w wr
theorem Z6.arm(h:Z6 w base ps lv l):(lv=.slice none 0 0∧j5 l=[])∨∃ g off cap,lv=.slice (some ⟨g,off,none⟩) (j5 l).length cap∧q8 w g off cap (j5 l):=by
 rcases h with ⟨h1,h2⟩ | ⟨g,off,cap,h1,h2,_,_⟩
 ·exact .inl ⟨h1,by rw[h2];rfl⟩
 ·exact .inr ⟨g,off,cap,by rw[zY];exact h1,h2⟩
theorem Z6.len(h:Z6 w base ps lv l):∃ a c,lv=.slice a l.length c:=by
 rcases h with ⟨rfl,rfl⟩ | ⟨g,off,cap,rfl,_⟩
 ·exact ⟨none,0,rfl⟩
 ·exact ⟨_,_,rfl⟩
theorem Z6.kept{w':World}{L:List Nat}(h:Z6 w base ps lv l)(k:zc L w w')(hL:∀ x,x∈L→lv.ownBlock≠some x):Z6 w' base ps lv l:=by
 rcases h with h | ⟨g,off,cap,rfl,h2,h3,h4⟩
 ·exact .inl h
 ·exact .inr ⟨g,off,cap,rfl,h2.kept k (fun hx=>hL g hx rfl),h3,h4⟩
theorem Z6.own(h:Z6 w base ps lv l):∀ x,lv.ownBlock=some x→base≤x∧x≠ps∧x<w.heap.size:=by
 intro x hx;rcases h with ⟨rfl,_⟩ | ⟨g,off,cap,rfl,h2,h3,h4⟩
 ·cases hx
 ·have:g=x:=Option.some.inj hx
  subst this;exact ⟨h3,h4,h2.lt⟩
theorem zeK(l:List Nat)(x:Nat):j5 (l ++ [x])=j5 l ++ [(x:Int)]:=by unfold j5;rw[List.map_append];rfl
theorem RQ.mark{st:(Nat→Bool) × List Nat}(h:RQ w wr ps N lv st)(b:Nat):RQ w (wr.setCell ⟨ps,b,none⟩ (.bool true)) ps N lv (ins st.1 b,st.2):=by
 have k:zc [ps] wr (wr.setCell ⟨ps,b,none⟩ (.bool true)):=zc.setCell _ _ _ _ (by simp);exact ⟨zmN h.row b,h.line.kept k (fun x hx e=>by simp at hx;exact (h.line.own x e).2.1 hx),h.keep.fresh k (fun x hx=>by have:=h.row.lt.1;simp at hx;omega)⟩
theorem RQ.quiet{wy:World}{st:(Nat→Bool) × List Nat}(h:RQ w wr ps N lv st)(k:zc [] wr wy):RQ w wy ps N lv st:=
 ⟨h.row.kept k (by simp),h.line.kept k (by simp),h.keep.quiet k⟩
theorem RQ.push{wa w5:World}{st:(Nat→Bool) × List Nat}{g5 off5 cap5:Nat}(h:RQ w wr ps N lv st)(ka:zc [] wr wa)(hl:q8 w5 g5 off5 cap5 (j5 st.2 ++ [(b:Int)]))(k5:zc lv.ownBlock.toList wa w5)(hat:lv.ownBlock=some g5∨g5=wa.heap.size):
  RQ w w5 ps N (.slice (some ⟨g5,off5,none⟩) ((j5 st.2).length+1) cap5) (st.1,st.2 ++ [b]):=by
 have h2:=h.quiet ka;have hps:=h2.row.lt;refine ⟨h2.row.kept k5 (fun hx=>(h2.line.own ps (by simpa using hx)).2.1 rfl),.inr ⟨g5,off5,cap5,?_,?_,?_,?_⟩,h2.keep.fresh k5 (fun x hx=>(h2.line.own x (by simpa using hx)).1)⟩
 ·rw[zY,List.length_append];rfl
 ·show q8 w5 g5 off5 cap5 (j5 (st.2 ++ [b]))
  rw[zeK];exact hl
 ·rcases hat with e | e
  ·exact (h2.line.own g5 e).1
  ·have:=h2.keep.size;omega
 ·rcases hat with e | e
  ·exact (h2.line.own g5 e).2.1
  ·omega
theorem q8.tail{cap:Nat}{x:Int}{l:List Int}(h:q8 w g off cap (x :: l)):q8 w g (off+1) (cap - 1) l:=by
 have hl:=h.len;have hm:=h.max;have hlen:(x :: l).length=l.length+1:=rfl;refine ⟨fun i hi=> ?_,fun k hk=> ?_,by omega,by omega,h.lt⟩
 ·have:=h.cell (i+1) (by omega)
  rw[Nat.add_assoc,Nat.add_comm 1 i];exact this
 ·have:=h.room (k+1) (by omega)
  rw[Nat.add_assoc,Nat.add_comm 1 k];exact this
theorem Z6.pop{cap x:Nat}(h:q8 w g off cap (j5 (x :: l)))(h1:base≤g)(h2:g≠ps):Z6 w base ps (.slice (some ⟨g,off+1,none⟩) l.length (cap - 1)) l:=
 .inr ⟨g,off+1,cap - 1,rfl,q8.tail (l:=j5 l) h,h1,h2⟩
theorem Z6.pop1{x:Nat}(h:q8 w g off 1 (j5 (x :: l)))(h1:base≤g)(h2:g≠ps):l=[]∧Z6 w base ps (.slice (some ⟨g,off,none⟩) 0 0) []:=by
 have hl:=h.len;rw[zY] at hl;have hlen:(x :: l).length=l.length+1:=rfl;refine ⟨List.eq_nil_of_length_eq_zero (by omega),.inr ⟨g,off,0,rfl,⟨fun i hi=>by simp[j5] at hi,fun k hk=>by omega,by simp[j5],by omega,h.lt⟩,h1,h2⟩⟩
def Qt(N:Nat)(zs:List Int):List Nat:=(zs.filter fun z=>decide (0≤z∧z<(N:Int))).map Int.toNat
theorem zbR{z:Int}(h:0≤z∧z<(N:Int)):Qt N (zs ++ [z])=Qt N zs ++ [z.toNat]:=by
 unfold Qt;rw[List.filter_append,List.map_append];simp[h]
theorem zbz{z:Int}(h:¬ (0≤z∧z<(N:Int))):Qt N (zs ++ [z])=Qt N zs:=by
 unfold Qt;rw[List.filter_append,List.map_append,List.filter_cons,if_neg (by simpa using h)];simp
theorem Zc{u:Nat}:u∈Qt N zs ↔ (u:Int)∈zs∧u<N:=by
 unfold Qt;constructor
 ·intro h
  obtain ⟨z,hz,rfl⟩:=List.mem_map.1 h;obtain ⟨h1,h2⟩:=List.mem_filter.1 hz;have h3:=of_decide_eq_true h2;rw[Int.toNat_of_nonneg h3.1];exact ⟨h1,by omega⟩
 ·rintro ⟨h1,h2⟩
  exact List.mem_map.2 ⟨(u:Int),List.mem_filter.2 ⟨h1,by simp;omega⟩,by simp⟩
theorem zdc:∀ u,u∈Qt N zs→u<N:=fun _ hu=>(Zc.1 hu).2
theorem zdR(g : List (List Nat))(hs : Sm g)(a : Option Addr)(cap B : Nat)(w : World)(hG : GAt w B a g)(af : Option Addr)(fc Bf : Nat)(zs : List Int)(hz : zbc w Bf af zs)(hl : zs.length ≤ 1000)(wo : Int):
    Calls Tryz.prog 115 #[.slice a g.length cap, .slice af zs.length fc, int i64 wo] w fun e w' => ∃ ps, e = .returned (.slice (some ⟨ps, 0, none⟩) g.length g.length) ∧ ∃ s, qQ w' w.heap.size ps g.length 4 (bw s) ∧ zc [] w w' ∧ ∀ u, s u = true ↔ ∃ z, z ∈ Qt g.length zs ∧ Pth g (avI wo) z u := by
  have HS := hid hs;have HG := hid hG;have HZ := hid hz;have hg6 := hs.len;have HUN := hid (fun st : (Nat → Bool) × List Nat => zgT g st.1);obtain ⟨N, hN⟩ : ∃ N, g.length = N := ⟨_, rfl⟩;have HN := hid hN;rw [hN] at hg6 HUN ⊢;obtain ⟨zl, hzl⟩ : ∃ zl, zs.length = zl := ⟨_, rfl⟩;have HZL := hid hzl;rw [hzl] at hl ⊢;clear hs hG hz hN hzl;have hww : w.heap.size ≤ w.heap.size := Nat.le_refl _;go_enter Tryz.func115, Tryz.ntmps115;go_wp2_with (at_make; go_must (refine wpList_make_full _ rfl _ _ 95 rfl w.heap.size 4 Tryz.t4 (.bool false) 1 zmi zne znb zng .i64 .i64 _ _ N rfl rfl rfl rfl (by rw [zmn]; omega) (by unfold maxLen; omega) hww ?_; intro w2 hown2 hgrow2));have k2 : zc [] w w2 := zc.grown [] hgrow2 (by simp);obtain ⟨ps, hps⟩ : ∃ ps, w.heap.size = ps := ⟨_, rfl⟩;have HPS := hid hps
  have R2 : Box (RQ w w2 ps N (.slice none 0 0) (zP (avI wo) (noS, []) (Qt N (zs.take 0)))) := hid ⟨by
    rw [← hps]
    exact (qQ.made hown2 rfl).congr (fun i _ => rfl), .inl ⟨rfl, rfl⟩, k2⟩
  rw [hps];clear hown2 hgrow2 k2 hww hps;have wsz : w.heap.size = ps := HPS.o;clear wsz
  go_loopw [8, 9] (fun lv iv wr => ∃ (i : Nat) (v : Value), v = lv ∧ iv = int i64 (i : Int) ∧ i ≤ zl ∧ Box (RQ w wr ps N v (zP (avI wo) (noS, []) (Qt N (zs.take i))))) (fun _ iv _ => zl - (intOf iv).toNat)
  case atStart => exact ⟨0, _, rfl, rfl, by omega, R2⟩
  case round =>
    clear R2;obtain ⟨i, v, rfl, rfl, hi, HR⟩ := hrel;by_cases hlt : i < zl
    · have hlt' : (i : Int) < (zl : Int) := by omega
      obtain ⟨bz, oz, rfl, hcz⟩ := (HZ.o.kept HR.o.keep (by simp)).at (k := i) (by rw [HZL.o]; exact hlt);have htk := hid (qe zs i 0 (by rw [HZL.o]; exact hlt));obtain ⟨z, hzz⟩ : ∃ z, zs.getD i 0 = z := ⟨_, rfl⟩;rw [hzz] at hcz htk;clear hzz;by_cases hin : 0 ≤ z ∧ z < (N : Int)
      · obtain ⟨b, rfl⟩ := Int.eq_ofNat_of_zero_le hin.1
        have hbN : b < N := by omega
        have hbN' := hin.2;have hb0 := hin.1;have hst : Box (zP (avI wo) (noS, []) (Qt N (zs.take (i + 1))) = jP (avI wo) (zP (avI wo) (noS, []) (Qt N (zs.take i))) b) := hid (by rw [htk.o, zbR hin, JP, Int.toNat_natCast]);have hun := QD (avI wo) g (Qt N (zs.take i)) (noS, []) (fun x hx => by rw [HN.o]; exact zdc x hx);have hu0 := zgT g noS;obtain ⟨st, hste⟩ : ∃ st, zP (avI wo) (noS, []) (Qt N (zs.take i)) = st := ⟨_, rfl⟩;rw [hste] at HR hst hun;have hlen : st.2.length ≤ 600 := by
          have : (([] : List Nat)).length = 0 := rfl;have h9 : un g st.1 + st.2.length ≤ un g noS + 0 := hun;have := HN.o;omega
        have cs := HR.o.row.cell hbN;unfold bw at cs;have fs := HR.o.row.frozen b;clear hun hu0 hste hin htk;cases hsb : st.1 b with
        | true =>
          rw [hsb] at cs;have hst2 : Box (jP (avI wo) st b = st) := hid (by unfold jP; rw [if_pos (.inl hsb)]);clear hsb;go_wp2;go_roundw
          case rel => exact ⟨i + 1, v, rfl, by go_num, by omega, hid (by rw [hst.o, hst2.o]; exact HR.o)⟩
          case measure => simp [intOf]; omega
        | false =>
          rw [hsb] at cs;by_cases hwo : (b : Int) = wo
          · have hb1 : ((b : Int) != wo) = false := by rw [hwo]; simp
            have hst2 : Box (jP (avI wo) st b = st) := hid (by unfold jP avI; rw [if_pos (.inr (decide_eq_true hwo))]);clear hsb hwo;go_wp2;go_roundw
            case rel => exact ⟨i + 1, v, rfl, by go_num, by omega, hid (by rw [hst.o, hst2.o]; exact HR.o)⟩
            case measure => simp [intOf]; omega
          · have hb1 : ((b : Int) != wo) = true := by rw [bne_iff_ne]; exact hwo
            have hst2 : Box (jP (avI wo) st b = (ins st.1 b, st.2 ++ [b])) := hid (by
              unfold jP;rw [if_neg];rintro (h | h)
              · rw [hsb] at h; cases h
              · exact hwo (of_decide_eq_true h))
            have HM := hid (HR.o.mark b);clear hsb hwo HR;obtain ⟨av, cv, rfl⟩ := HM.o.line.len;go_upto_region 9 with fail;clear cs fs;generalize wr.setCell ⟨ps, b, none⟩ (.bool true) = wm at HM ⊢;go_wp2_with (at_builtin; go_must (refine Zb _ rfl _ _ rfl (j5 st.2) (b : Int) (.slice av st.2.length cv) rfl (HM.o.quiet (zc.alloc [] _ _)).line.arm ⟨_, 0, none⟩ 1 rfl (cell_one_new _ _ _) (by rw [zY]; omega) ?_; intro g5 off5 cap5 w5 hl5 k5 hat5));have HR5 := hid (HM.o.push (zc.alloc [] _ _) hl5 k5 hat5);clear hl5 k5 hat5 HM;go_roundw
            case rel => exact ⟨i + 1, _, rfl, by go_num, by omega, hid (by rw [hst.o, hst2.o]; exact HR5.o)⟩
            case measure => simp [intOf]; omega
      · have hst : Box (zP (avI wo) (noS, []) (Qt N (zs.take (i + 1))) = zP (avI wo) (noS, []) (Qt N (zs.take i))) := hid (by rw [htk.o, zbz hin])
        clear htk;by_cases h0 : 0 ≤ z
        · have h1 : ¬ z < (N : Int) := fun h => hin ⟨h0, h⟩
          clear hin;go_wp2;go_roundw
          case rel => exact ⟨i + 1, v, rfl, by go_num, by omega, hid (by rw [hst.o]; exact HR.o)⟩
          case measure => simp [intOf]; omega
        · clear hin
          go_wp2;go_roundw
          case rel => exact ⟨i + 1, v, rfl, by go_num, by omega, hid (by rw [hst.o]; exact HR.o)⟩
          case measure => simp [intOf]; omega
    · obtain rfl : i = zl := by omega
      have hall : zs.take i = zs := by rw [← HZL.o]; exact List.take_length
      rw [hall] at HR;have HQ := hid (Qu.begin g (avI wo) (Qt N zs));have HLT : Box (∀ u, u ∈ (zP (avI wo) (noS, []) (Qt N zs)).2 → u < N) := hid (zbF (avI wo) (Qt N zs) (noS, []) zdc (by simp));have hun : un g (zP (avI wo) (noS, []) (Qt N zs)).1 + (zP (avI wo) (noS, []) (Qt N zs)).2.length ≤ N := by
        have h1 := QD (avI wo) g (Qt N zs) (noS, []) (fun x hx => by rw [HN.o]; exact zdc x hx);have h2 : un g (noS, ([] : List Nat)).1 + (noS, ([] : List Nat)).2.length ≤ N := by
          have := zgT g noS;have := HN.o;show un g noS + 0 ≤ N;omega
        omega
      clear hall HZ;go_wp2_with fail
      go_loopg [8] N (fun q lv wr => ∃ (v : Value) (st : (Nat → Bool) × List Nat), v = lv ∧ un g st.1 + st.2.length ≤ q ∧ q ≤ N ∧ Box (RQ w wr ps N v st) ∧ Box (Qu g (avI wo) (Qt N zs) st) ∧ Box (∀ u, u ∈ st.2 → u < N))
      case atStart => exact ⟨v, _, rfl, hun, Nat.le_refl _, HR, HQ, HLT⟩
      case round =>
        clear HR HQ HLT hun;obtain ⟨v, ⟨s, l⟩, rfl, hq, hqN, HR, HQ, HLT⟩ := hrel;cases l with
        | nil =>
          obtain ⟨av, cv, rfl⟩ := HR.o.line.len;have hdone := hid (HQ.o.done rfl);go_wp2;go_ret;exact ⟨ps, rfl, s, HR.o.row, HR.o.keep, hdone.o⟩
        | cons x l =>
          have hx : x < N := HLT.o x (by simp);obtain ⟨g5, off5, cap5, rfl, hline, hb5, hne5⟩ := HR.o.line.resolve_left (fun h => by simp at h);have hcell := hline.cell 0 (by rw [zY]; simp);rw [Nat.add_zero] at hcell;have hcell' : wr.cell? ⟨g5, off5, none⟩ = some (int i64 (x : Int)) := hcell;have hlc := hline.len;have hmx := hline.max;rw [zY] at hlc;have hlen : (x :: l).length = l.length + 1 := rfl;rw [hlen] at hlc;have hl1 : (1 : Int) ≤ ((l.length + 1 : Nat) : Int) := by omega
          have hrow := hid HR.o.row;have HK := hid HR.o.keep;have HQ2 := hid HQ.o.step;have HLT2 : Box (∀ u, u ∈ l → u < N) := hid (fun u hu => HLT.o u (List.mem_cons_of_mem _ hu));have hun2 := QD (avI wo) g (nb g x) (s, l) (fun y hy => HS.o.ok x y hy);have hq' : un g s + (l.length + 1) ≤ gk := hq;have HPO : Box (Z6 wr w.heap.size ps (.slice (some ⟨g5, off5 + 1, none⟩) l.length (cap5 - 1)) l) := hid (Z6.pop hline hb5 hne5);have HP1 : Box (∀ hc : cap5 = 1, l = [] ∧ Z6 wr w.heap.size ps (.slice (some ⟨g5, off5, none⟩) 0 0) []) := hid (fun hc => by subst hc; exact Z6.pop1 hline hb5 hne5);obtain ⟨bl, ol, ai, ci, rfl, hcl, hnl⟩ := HG.o.at (k := x) (by rw [HN.o]; exact hx);have HCL : Box (∀ w9, zc [] w w9 → w9.cell? ⟨bl, ol + x, none⟩ = some (.slice ai (nb g x).length ci)) := hid (fun w9 k9 => by rw [k9.cell (p := ⟨bl, ol + x, none⟩) (block_lt_of_cell hcl) (by simp)]; exact hcl);have HNL := hid hnl;have hnb := HS.o.short x;have Hnb : Box (∀ y, y ∈ nb g x → y < N) := hid (fun y hy => by rw [← HN.o]; exact HS.o.ok x y hy);have hx' : (x : Int) < (N : Int) := by omega
          have hx6 : x < 600 := by omega
          clear hcell hline HR HQ HLT hq hnl hlen hcl
          have hMid : Box (∃ v2, Z6 wr w.heap.size ps v2 l ∧ (cap5 = 1 → v2 = .slice (some ⟨g5, off5, none⟩) 0 0) ∧ (cap5 ≠ 1 → v2 = .slice (some ⟨g5, off5 + 1, none⟩) l.length (cap5 - 1))) := hid (by
            by_cases hc : cap5 = 1
            · obtain ⟨rfl, h9⟩ := HP1.o hc
              exact ⟨_, h9, fun _ => rfl, fun h => absurd hc h⟩
            · exact ⟨_, HPO.o, fun h => absurd h hc, fun _ => rfl⟩)
          clear HP1 HPO;have hlen1 : ((x :: l).length : Nat) = l.length + 1 := rfl;rw [hlen1];clear hlen1;generalize hNB : nb g x = NB at HCL HNL hnb Hnb hun2 HQ2;clear hNB;obtain ⟨ll, hll⟩ : ∃ ll, l.length = ll := ⟨_, rfl⟩;have HLL := hid hll;rw [hll] at hlc hl1 hq' ⊢;have hMid2 := hMid.o;rw [hll] at hMid2;obtain ⟨v2, hw2, hv1, hv2⟩ := hMid2;have R0 : Box (RQ w wr ps N v2 (zP (avI wo) (s, l) (NB.take 0))) := hid ⟨hrow.o, hw2, HK.o⟩;clear hll hMid hw2 hrow;have hcc : (1 : Int) ≤ (cap5 : Int) := by omega
          by_cases hc1 : cap5 = 1
          all_goals
            first
              | (subst hc1
                 obtain rfl : ll = 0 := by omega
                 obtain rfl := hv1 rfl;clear hv1 hv2;go_upto_region 13 with fail
                 generalize (Value.slice (some ⟨g5, off5, none⟩) 0 0) = v2 at R0 ⊢)
              | (obtain rfl := hv2 hc1
                 clear hv1 hv2;go_upto_region 13 with fail
                 generalize (Value.slice (some ⟨g5, off5 + 1, none⟩) ll (cap5 - 1)) = v2 at R0 ⊢)
            clear hcell' hlc hl1 hmx hcc;go_wp2_with fail
            go_loopw [8, 12] (fun lv kv wr2 => ∃ (k : Nat) (v : Value), v = lv ∧ kv = int i64 (k : Int) ∧ k ≤ NB.length ∧ Box (RQ w wr2 ps N v (zP (avI wo) (s, l) (NB.take k)))) (fun _ kv _ => NB.length - (intOf kv).toNat)
            case atStart => exact ⟨0, v2, rfl, rfl, by omega, R0⟩
            case round =>
              clear R0 HK;obtain ⟨k, v, rfl, rfl, hk, HR⟩ := hrel;have cto := HCL.o wr HR.o.keep;by_cases hlt : k < NB.length
              · have hlt' : (k : Int) < (NB.length : Int) := by omega
                obtain ⟨bm, om, rfl, hcm⟩ := (HNL.o.kept HR.o.keep (by simp)).at hlt;obtain ⟨b, hb⟩ : ∃ b, NB.getD k 0 = b := ⟨_, rfl⟩;have hbN : b < N := by rw [← hb]; exact Hnb.o _ (qg NB k 0 hlt)
                have htk := hid (qe NB k 0 hlt);rw [hb] at hcm htk;clear hb;have hbN' : (b : Int) < (N : Int) := by omega
                have hb6 : b < 600 := by omega
                have hst : Box (zP (avI wo) (s, l) (NB.take (k + 1)) = jP (avI wo) (zP (avI wo) (s, l) (NB.take k)) b) := hid (by rw [htk.o, JP]);have hun := QD (avI wo) g (NB.take k) (s, l) (fun y hy => by rw [HN.o]; exact Hnb.o y (List.mem_of_mem_take hy));obtain ⟨st, hste⟩ : ∃ st, zP (avI wo) (s, l) (NB.take k) = st := ⟨_, rfl⟩;rw [hste] at HR hst hun;have hlen : st.2.length ≤ 600 := by
                  have h9 : un g st.1 + st.2.length ≤ un g s + l.length := hun;have := HLL.o;omega
                have cs := HR.o.row.cell hbN;unfold bw at cs;have fs := HR.o.row.frozen b;clear hun hste htk;cases hsb : st.1 b with
                | true =>
                  rw [hsb] at cs;have hst2 : Box (jP (avI wo) st b = st) := hid (by unfold jP; rw [if_pos (.inl hsb)]);clear hsb;go_wp2;go_roundw
                  case rel => exact ⟨k + 1, v, rfl, by go_num, by omega, hid (by rw [hst.o, hst2.o]; exact HR.o)⟩
                  case measure => simp [intOf]; omega
                | false =>
                  rw [hsb] at cs;by_cases hwo : (b : Int) = wo
                  · have hb1 : ((b : Int) != wo) = false := by rw [hwo]; simp
                    have hst2 : Box (jP (avI wo) st b = st) := hid (by unfold jP avI; rw [if_pos (.inr (decide_eq_true hwo))]);clear hsb hwo;go_wp2;go_roundw
                    case rel => exact ⟨k + 1, v, rfl, by go_num, by omega, hid (by rw [hst.o, hst2.o]; exact HR.o)⟩
                    case measure => simp [intOf]; omega
                  · have hb1 : ((b : Int) != wo) = true := by rw [bne_iff_ne]; exact hwo
                    have hst2 : Box (jP (avI wo) st b = (ins st.1 b, st.2 ++ [b])) := hid (by
                      unfold jP;rw [if_neg];rintro (h | h)
                      · rw [hsb] at h; cases h
                      · exact hwo (of_decide_eq_true h))
                    have HM := hid (HR.o.mark b);clear hsb hwo HR;obtain ⟨av, cv, rfl⟩ := HM.o.line.len;go_upto_region 19 with fail;clear cs fs cto hcm;generalize wr.setCell ⟨ps, b, none⟩ (.bool true) = wm at HM ⊢;go_wp2_with (at_builtin; go_must (refine Zb _ rfl _ _ rfl (j5 st.2) (b : Int) (.slice av st.2.length cv) rfl (HM.o.quiet (zc.alloc [] _ _)).line.arm ⟨_, 0, none⟩ 1 rfl (cell_one_new _ _ _) (by rw [zY]; omega) ?_; intro g6 off6 cap6 w6 hl6 k6 hat6));have HR6 := hid (HM.o.push (zc.alloc [] _ _) hl6 k6 hat6);clear hl6 k6 hat6 HM;go_roundw
                    case rel => exact ⟨k + 1, _, rfl, by go_num, by omega, hid (by rw [hst.o, hst2.o]; exact HR6.o)⟩
                    case measure => simp [intOf]; omega
              · obtain rfl : k = NB.length := by omega
                rw [List.take_length] at HR;have HLT3 : Box (∀ u, u ∈ (zP (avI wo) (s, l) NB).2 → u < N) := hid (zbF (avI wo) NB (s, l) Hnb.o HLT2.o);have hq2 : un g (zP (avI wo) (s, l) NB).1 + (zP (avI wo) (s, l) NB).2.length ≤ gk - 1 := by
                  have h9 : un g (zP (avI wo) (s, l) NB).1 + (zP (avI wo) (s, l) NB).2.length ≤ un g s + l.length := hun2;have := HLL.o;omega
                go_wp2_with fail
                go_roundg (gk - 1)
                case measure => omega
                case rel => exact ⟨v, _, rfl, hq2, by omega, HR, HQ2, HLT3⟩
def zb5(g:List (List Nat))(zs:List Int)(s:Nat→Bool):Nat→Bool:=zs.foldl (fun s z=>if 0≤z∧z<(g.length:Int) then (vis g (g.length+1) z.toNat (s,[])).1 else s) s
def rch(g:List (List Nat))(zs:List Int):Nat→Bool:=zb5 g zs zM
theorem zce(g:List (List Nat))(zs:List Int)(z:Int)(s:Nat→Bool):zb5 g (zs ++ [z]) s=if 0≤z∧z<(g.length:Int) then (vis g (g.length+1) z.toNat (zb5 g zs s,[])).1 else zb5 g zs s:=by
 unfold zb5;rw[List.foldl_append];rfl
theorem JE{g:List (List Nat)}(h:Sm g):∀ (zs:List Int) (s:Nat→Bool),Fit s→Fit (zb5 g zs s)
 | [],_,hs=>hs
 | z :: zs,s,hs=>by
  show Fit (zb5 g zs (if 0≤z∧z<(g.length:Int) then (vis g (g.length+1) z.toNat (s,[])).1 else s));refine JE h zs _ ?_;by_cases e:0≤z∧z<(g.length:Int)
  ·rw[if_pos e]
   exact Fit.node h.len hs (fun m hm=>J7 g h.ok _ z.toNat (s,[]) m (by omega) hm)
  ·rw[if_neg e];exact hs
structure zmT (w w2:World) (B:Nat) (a:Option Addr) (cap:Nat) (g:List (List Nat)) (s:Nat→Bool):Prop where
 box:Js w2 w.heap.size (g.length:Int) a g.length cap
 set:zJ w2 (w.heap.size+1) s
 gr:GAt w2 B a g
 keep:zc [] w w2
theorem zkU(w:World)(B:Nat)(a:Option Addr)(cap:Nat)(g:List (List Nat))(hG:GAt w B a g):
  zmT w ((w.alloc (Obj.cells #[int i64 (g.length:Int),.slice a g.length cap] 195)).alloc (Obj.cells (row zM) 272)) B a cap g zM:=by
 have hk1:zc [] w (w.alloc (Obj.cells #[int i64 (g.length:Int),.slice a g.length cap] 195)):=zc.alloc _ _ _;have hk2:zc [] (w.alloc (Obj.cells #[int i64 (g.length:Int),.slice a g.length cap] 195)) ((w.alloc (Obj.cells #[int i64 (g.length:Int),.slice a g.length cap] 195)).alloc (Obj.cells (row zM) 272)):=zc.alloc _ _ _;refine ⟨(Js.new w (g.length:Int) a g.length cap).kept hk2 (by simp),?_,(hG.quiet hk1).quiet hk2,hk1.quiet hk2⟩;have:=zbC (w.alloc (Obj.cells #[int i64 (g.length:Int),.slice a g.length cap] 195)) zM;rw[World.size_alloc] at this;exact this
theorem zfg(g:List (List Nat))(hs:Sm g)(a:Option Addr)(cap B:Nat)(w:World)(hG:GAt w B a g)(hB:B≤w.heap.size)(af:Option Addr)(fc Bf:Nat)(zs:List Int)(hz:zbc w Bf af zs)(hl:zs.length≤1000000)(hBf:Bf≤w.heap.size):
  Calls Tryz.prog 202 #[agg #[int i64 (g.length:Int),.slice a g.length cap],.slice af zs.length fc] w fun e w'=>∃ b,e=.returned (pointer (some ⟨b,0,none⟩))∧zJ w' b (rch g zs)∧zc [] w w'∧w.heap.size≤b:=by
 have hzero:=zdN;have H2:=hid (zkU w B a cap g hG);have HZ:=hid (hz.kept H2.o.keep (by simp));have HS:=hid hs;have HC:Box (∀ w,GAt w B a g→Calls Tryz.prog 132 #[agg #[int i64 (g.length:Int),.slice a g.length cap]] w fun e w'=>e=.returned (.bool true)∧zc [] w w'):=hid (fun w=>zbv g hs a cap B w);clear hG hz hs;go_enter Tryz.func202,Tryz.ntmps202;go_wp2_with fail;generalize (w.alloc (Obj.cells #[int i64 (g.length:Int),.slice a g.length cap] 195)).alloc (Obj.cells (row zM) 272)=w2 at H2 HZ ⊢;refine (HC.o w2 H2.o.gr).mono ?_;rintro e w3 ⟨rfl,hk3⟩;have H3:Box (zmT w w3 B a cap g (zb5 g [] zM)):=hid ⟨H2.o.box.kept hk3 (by simp),H2.o.set.kept hk3 (by simp),H2.o.gr.quiet hk3,H2.o.keep.quiet hk3⟩;have HZ3:=hid (HZ.o.kept hk3 (by simp));clear H2 HZ hk3 HC hzero;generalize row zM=R;obtain ⟨zl,hzl⟩:∃ zl,zs.length=zl:=⟨_,rfl⟩;rw[hzl] at hl ⊢;have HZL:=hid hzl;clear hzl;go_wp2_with fail
 go_loopw [16] (fun i wr=>∃ k:Nat,k≤zl∧i=int i64 k∧Box (zmT w wr B a cap g (zb5 g (zs.take k) zM))∧zc [w.heap.size+1] w3 wr) (fun i _=>zl - (intOf i).toNat)
 case atStart=>exact ⟨0,by omega,rfl,H3,zc.refl _ _⟩
 case round=>
  clear H3;obtain ⟨k,hk,rfl,HR,hkw⟩:=hrel;by_cases hlt:k<zl
  ·obtain ⟨bl,off,rfl,hc⟩:=(HZ3.o.kept hkw (fun x hx=>by simp at hx;omega)).at (k:=k) (by rw[HZL.o];exact hlt)
   have hc0:=HR.o.box.c0;have hc1:=HR.o.box.c1;have htk:=hid (qe zs k 0 (by rw[HZL.o];exact hlt));obtain ⟨z,hzz⟩:∃ z,zs.getD k 0=z:=⟨_,rfl⟩;rw[hzz] at hc htk;clear hzz;by_cases hin:0≤z∧z<(g.length:Int)
   ·obtain ⟨n,rfl⟩:=Int.eq_ofNat_of_zero_le hin.1
    have hn:n<g.length:=by omega
    have H1:=hid (fun w1=>zd2 (g.length:Int) (n:Int) a g.length cap w1 hin.1 hin.2);have hfit:=hid (JE HS.o (zs.take k) zM QV);have hstep:Box (zb5 g (zs.take (k+1)) zM=(vis g (g.length+1) n (zb5 g (zs.take k) zM,[])).1):=hid (by rw[htk.o,zce,if_pos hin,Int.toNat_natCast]);obtain ⟨s,hss⟩:∃ s,zb5 g (zs.take k) zM=s:=⟨_,rfl⟩;rw[hss] at HR hstep hfit;have hun:=zgT g s;have HF:=hid (fun w1 (h0:B≤w1.heap.size) h1 h2 h3=>zaF g HS.o.ok HS.o.len HS.o.inner B (w.heap.size+1) w1.heap.size a cap (by omega) (by omega) (g.length+1) n s [] (.slice none 0 0) w1 hn (by omega) (by have:=HS.o.len;simp;omega) h1 (Nat.le_refl _) h2 h3 (zjT w1 _));clear hss hin;go_wp2_with (first | (go_at_call 201;refine (H1.o _).mono ?_;rintro e w4 ⟨rfl,hk4⟩;have H4:Box (zmT w w4 B a cap g s):=hid ⟨HR.o.box.kept hk4 (by simp),HR.o.set.kept hk4 (by simp),HR.o.gr.quiet hk4,HR.o.keep.quiet hk4⟩;have hd0:=H4.o.box.c0;have hd1:=H4.o.box.c1) | (go_at_call 243;refine (HF.o _ (by have:=H4.o.keep.size;omega) H4.o.gr H4.o.set hfit.o).mono ?_;rintro e w5 ⟨v5,rfl,F5⟩));have F5':=hid F5;clear F5;go_roundw
    case rel=>exact ⟨k+1,by omega,by go_num,hid ⟨H4.o.box.kept F5'.o.keep (by simp[Value.ownBlock]),by rw[hstep.o];exact F5'.o.set,H4.o.gr.kept F5'.o.keep (fun x hx=>by simp[Value.ownBlock] at hx;omega),H4.o.keep.trans F5'.o.keep (fun x hx hl=>by simp[Value.ownBlock] at hx;omega)⟩,(hkw.quiet hk4).trans F5'.o.keep (fun x hx _=>by simpa [Value.ownBlock] using hx)⟩
    case measure=>simp[intOf];omega
   ·have H1:=hid (fun w1=>zhb (g.length:Int) z a g.length cap w1 hin)
    have hstep:Box (zb5 g (zs.take (k+1)) zM=zb5 g (zs.take k) zM):=hid (by rw[htk.o,zce,if_neg hin]);clear hin;go_wp2_with (go_at_call 201;refine (H1.o _).mono ?_;rintro e w4 ⟨rfl,hk4⟩);go_roundw
    case rel=>exact ⟨k+1,by omega,by go_num,hid (by rw[hstep.o];exact ⟨HR.o.box.kept hk4 (by simp),HR.o.set.kept hk4 (by simp),HR.o.gr.quiet hk4,HR.o.keep.quiet hk4⟩),hkw.quiet hk4⟩
    case measure=>simp[intOf];omega
  ·obtain rfl:k=zl:=by omega
   go_wp2;go_ret;have hall:zs.take k=zs:=by rw[← HZL.o];exact List.take_length
   have H5:=HR.o;rw[hall] at H5;exact ⟨_,rfl,H5.set,H5.keep,by omega⟩
def g3:List (List Nat):=[[1],[0,2],[]]
theorem zds{g:List (List Nat)}(hg:Ok g):∀ (zs:List Int) (s:Nat→Bool) (m:Nat),zb5 g zs s m=true→s m=true∨m<g.length
 | [],_,_,h=>.inl h
 | z :: zs,s,m,h=>by
  have h':zb5 g zs (if 0≤z∧z<(g.length:Int) then (vis g (g.length+1) z.toNat (s,[])).1 else s) m=true:=h;rcases zds hg zs _ m h' with h1 | h1
  ·by_cases e:0≤z∧z<(g.length:Int)
   ·rw[if_pos e] at h1
    exact J7 g hg _ z.toNat (s,[]) m (by omega) h1
   ·rw[if_neg e] at h1;exact .inl h1
  ·exact .inr h1
theorem zkm{g:List (List Nat)}(hg:Ok g)(zs:List Int)(m:Nat)(hm:g.length≤m):rch g zs m=false:=by
 cases h:rch g zs m
 ·rfl
 ·rcases zds hg zs zM m h with h1 | h1
  ·cases h1
  ·omega
def Zn(g:List (List Nat))(D:Nat→Nat→Bool)(r:Nat):List (List Nat):=(List.range g.length).map fun b=>if D b r then [] else nb g b
theorem qR(g:List (List Nat))(D:Nat→Nat→Bool)(r:Nat):(Zn g D r).length=g.length:=by unfold Zn;rw[List.length_map,List.length_range]
theorem JH{g:List (List Nat)}{D:Nat→Nat→Bool}{r:Nat}(h:b<g.length):nb (Zn g D r) b=if D b r then [] else nb g b:=by
 show (Zn g D r).getD b []=_;unfold Zn;rw[List.getD_eq_getElem?_getD,List.getElem?_map,List.getElem?_range h];rfl
theorem zaK{g:List (List Nat)}(h:Sm g)(D:Nat→Nat→Bool)(r:Nat):Sm (Zn g D r):=by
 have key:∀ j y,y∈nb (Zn g D r) j→y∈nb g j:=fun j y hy=>by
  by_cases hj:j<g.length
  ·rw[JH hj] at hy
   split at hy
   ·cases hy
   ·exact hy
  ·rw[zdm (by rw[qR];exact hj)] at hy
   cases hy
 refine ⟨fun j y hy=>by rw[qR];exact h.ok j y (key j y hy),by rw[qR];exact h.len,fun j=> ?_⟩;by_cases hj:j<g.length
 ·rw[JH hj]
  split
  ·simp
  ·exact h.short j
 ·rw[zdm (by rw[qR];exact hj)]
  simp
theorem zbc.mono{B B':Nat}{a:Option Addr}(h:zbc w B a zs)(hb:B≤B'):zbc w B' a zs:=by
 rcases h with h | ⟨b,off,h1,h2,h3⟩
 ·exact .inl h
 ·exact .inr ⟨b,off,h1,Nat.lt_of_lt_of_le h2 hb,h3⟩
structure PS (w:World) (base p n:Nat) (d:Nat→Nat) (D:Nat→Nat→Bool):Prop where
 row:qQ w base p n 198 (fun i=>pointer (some ⟨d i,0,none⟩))
 set:∀ i,i<n→zJ w (d i) (D i)
theorem PS.quiet{wy:World}{p:Nat}{d:Nat→Nat}{D:Nat→Nat→Bool}(h:PS w base p n d D)(k:zc [] w wy):PS wy base p n d D:=
 ⟨h.row.kept k (by simp),fun i hi=>(h.set i hi).kept k (by simp)⟩
theorem zcH(g:List (List Nat))(hs:Sm g)(a:Option Addr)(cap B:Nat)(w:World)(hG:GAt w B a g)(hB:B≤w.heap.size){p:Nat}{d:Nat→Nat}{D:Nat→Nat→Bool}(hd:PS w base p g.length d D)(hf:∀ i,Fit (D i))(r:Nat):
  Calls Tryz.prog 209 #[agg #[int i64 (g.length:Int),.slice a g.length cap],.slice (some ⟨p,0,none⟩) g.length g.length,int i64 (r:Int)] w fun e w'=>∃ a',e=.returned (agg #[int i64 ((Zn g D r).length:Int),.slice a' (Zn g D r).length (Zn g D r).length])∧GAt w' w'.heap.size a' (Zn g D r)∧zc [] w w':=by
 have hn6:=hs.len;have HG:=hid hG;have HD:=hid hd;have HF:=hid hf;have SN:Box (∀ b,b<g.length→nb (Zn g D r) b=if D b r then [] else nb g b):=hid fun b hb=>JH hb;have SL:=hid (qR g D r);rw[qR];obtain ⟨n,hn⟩:∃ n,g.length=n:=⟨_,rfl⟩;have GL:=hid hn;rw[hn] at HD SN SL hn6 ⊢;clear hs hG hd hf hn;have hmk:=zhk n (by omega);have k1:=zc.alloc [] w (.cells #[int i64 (n:Int),.slice a n cap] 195);have k2:=zc.alloc [] (w.alloc (.cells #[int i64 (n:Int),.slice a n cap] 195)) (.cells #[int i64 0,.slice none 0 0] 195);have T1:Box (jg ((w.alloc (.cells #[int i64 (n:Int),.slice a n cap] 195)).alloc (.cells #[int i64 0,.slice none 0 0] 195)) w.heap.size (int i64 (n:Int)) (.slice a n cap)):=hid ((jg.new w _ _).kept k2 (by simp));have T2:Box (jg ((w.alloc (.cells #[int i64 (n:Int),.slice a n cap] 195)).alloc (.cells #[int i64 0,.slice none 0 0] 195)) (w.heap.size+1) (int i64 0) (.slice none 0 0)):=hid (by have:=jg.new (w.alloc (.cells #[int i64 (n:Int),.slice a n cap] 195)) (int i64 0) (.slice none 0 0);rw[World.size_alloc] at this;exact this);have K2:=hid (k1.quiet k2);have SZ:Box (((w.alloc (.cells #[int i64 (n:Int),.slice a n cap] 195)).alloc (.cells #[int i64 0,.slice none 0 0] 195)).heap.size=w.heap.size+2):=hid (by simp);clear k1 k2;go_enter Tryz.func209,Tryz.ntmps209;go_upto_region 1 with fail;generalize (w.alloc (.cells #[int i64 (n:Int),.slice a n cap] 195)).alloc (.cells #[int i64 0,.slice none 0 0] 195)=W at *;have c0:=T1.o.c0;go_upto_region 2 with fail;clear c0;have ka:zc [] W (W.alloc (.cells (madeCells #[zaw] n) 36)):=zc.alloc _ _ _;have HR:=hid (zf4 W n w.heap.size K2.o.size (by unfold maxLen;omega));have T1':=hid (T1.o.kept ka (by simp));have T2':=hid (T2.o.kept ka (by simp));have K3:=hid (K2.o.quiet ka);clear T1 T2 K2 ka;rw[SZ.o] at HR ⊢;clear SZ;generalize W.alloc (.cells (madeCells #[zaw] n) 36)=W3 at *;go_wp2_with fail
 go_loopw [14] (fun i wr=>∃ (k:Nat) (c:Nat→Value),k≤n∧i=int i64 (k:Int)∧Box (qQ wr w.heap.size (w.heap.size+2) n 36 c)∧Box (jg wr w.heap.size (int i64 (n:Int)) (.slice a n cap))∧Box (jg wr (w.heap.size+1) (int i64 0) (.slice none 0 0))∧Box (zc [] w wr)∧Box (∀ j,j<n→(j<k→∃ ai ci,c j=.slice ai (nb (Zn g D r) j).length ci∧zbc w B ai (j5 (nb (Zn g D r) j)))∧(k≤j→c j=zaw))) (fun i _=>n - (intOf i).toNat)
 case atStart=>exact ⟨0,_,by omega,rfl,HR,T1',T2',K3,hid fun j hj=>⟨fun h=>by omega,fun _=>rfl⟩⟩
 case round=>
  clear HR T1' T2' K3;obtain ⟨k,c,hk,rfl,HR,T1,T2,HK,HC⟩:=hrel;by_cases hlt:k<n
  ·have hlt':(k:Int)<(n:Int):=by omega
   have ps:=HD.o.quiet HK.o;have cd:=ps.row.cell hlt;have HH:Box (∀ w',zc [] w w'→Calls Tryz.prog 134 #[pointer (some ⟨d k,0,none⟩),int i64 (r:Int)] w' fun e w''=>e=.returned (.bool (D k r))∧∃ m,w''=w'.drewN m):=hid fun w' k'=>by
    have:=Q3 (d k) (D k) (r:Int) w' ((HD.o.quiet k').set k hlt) (HF.o k);unfold ZL at this;rw[Int.toNat_natCast,decide_eq_true (by omega:(0:Int)≤(r:Int)),Bool.true_and] at this;exact this
   have sn:=SN.o k hlt;obtain ⟨gb,go,ai,ci,rfl,hcl,hnl⟩:=HG.o.at (k:=k) (by rw[GL.o];exact hlt);have HNL:=hid hnl;have hcl2:=za HK.o hcl;clear ps hnl hcl;cases hD:D k r with
   | true=>
    rw[hD] at HH sn;rw[if_pos rfl] at sn;have SN2:=hid sn;clear sn hD;go_wp2_with (go_at_call 134;refine (HH.o _ HK.o).mono ?_;rintro e w5 ⟨rfl,m5,rfl⟩);have kd:=zc.drewN [] wr m5;go_roundw
    case rel=>exact ⟨k+1,c,by omega,by go_num,hid (HR.o.kept kd (by simp)),hid (T1.o.kept kd (by simp)),hid (T2.o.kept kd (by simp)),hid (HK.o.quiet kd),hid fun j hj=>⟨fun h=>by
      by_cases e:j=k
      ·subst e
       rw[(HC.o j hj).2 (Nat.le_refl _),SN2.o];exact ⟨none,0,rfl,.inl rfl⟩
      ·exact (HC.o j hj).1 (by omega),fun h=>(HC.o j hj).2 (by omega)⟩⟩
    case measure=>simp[intOf];omega
   | false=>
    rw[hD] at HH sn;rw[if_neg (by decide)] at sn;have SN2:=hid sn;clear sn hD;have c1:=T1.o.c1;have cz:=HR.o.cell hlt;have fz:=HR.o.frozen k;go_wp2_with (go_at_call 134;refine (HH.o _ HK.o).mono ?_;rintro e w5 ⟨rfl,m5,rfl⟩);have kd:=zc.drewN [] wr m5;have ks:zc [w.heap.size+2] (wr.drewN m5) ((wr.drewN m5).setCell ⟨w.heap.size+2,k,none⟩ (.slice ai (nb g k).length ci)):=zc.setCell _ _ _ _ (by simp);go_roundw
    case rel=>exact ⟨k+1,_,by omega,by go_num,hid ((HR.o.kept kd (by simp)).put k (.slice ai (nb g k).length ci)),hid ((T1.o.kept kd (by simp)).kept ks (by simp)),hid ((T2.o.kept kd (by simp)).kept ks (by simp)),hid ((HK.o.quiet kd).fresh ks (fun x hx=>by simp at hx;omega)),hid fun j hj=>by
      by_cases e:j=k
      ·subst e
       exact ⟨fun _=>⟨ai,ci,by rw[if_pos rfl,SN2.o],by rw[SN2.o];exact HNL.o⟩,fun h=>by omega⟩
      ·rw[if_neg e]
       exact ⟨fun h=>(HC.o j hj).1 (by omega),fun h=>(HC.o j hj).2 (by omega)⟩⟩
    case measure=>simp[intOf];omega
  ·obtain rfl:k=n:=by omega
   have c0:=T1.o.c0;have r0:=T2.o.c0;have r1:=T2.o.c1;have z0:=T2.o.frozen 0;have z1:=T2.o.frozen 1;go_wp2_with fail;have k1:zc [w.heap.size+1] wr (wr.setCell ⟨w.heap.size+1,0,none⟩ (int i64 (k:Int))):=zc.setCell _ _ _ _ (by simp);have k2:zc [w.heap.size+1] (wr.setCell ⟨w.heap.size+1,0,none⟩ (int i64 (k:Int))) ((wr.setCell ⟨w.heap.size+1,0,none⟩ (int i64 (k:Int))).setCell ⟨w.heap.size+1,1,none⟩ (.slice (some ⟨w.heap.size+2,0,none⟩) k k)):=zc.setCell _ _ _ _ (by simp);have k3:=k1.step k2;have hb2:jg ((wr.setCell ⟨w.heap.size+1,0,none⟩ (int i64 (k:Int))).setCell ⟨w.heap.size+1,1,none⟩ (.slice (some ⟨w.heap.size+2,0,none⟩) k k)) (w.heap.size+1) (int i64 (k:Int)) (.slice (some ⟨w.heap.size+2,0,none⟩) k k):=by
    have h1:=heap_setCell_same wr (w.heap.size+1) 0 _ _ (int i64 (k:Int)) T2.o.heap;have h2:=heap_setCell_same _ (w.heap.size+1) 1 _ _ (.slice (some ⟨w.heap.size+2,0,none⟩) k k) h1;exact ⟨h2⟩
   have hd0:=hb2.c0;have hd1:=hb2.c1;have HR2:=HR.o.kept k3 (by simp);have HK2:=HK.o.fresh k3 (fun x hx=>by simp at hx;omega);generalize (wr.setCell ⟨w.heap.size+1,0,none⟩ (int i64 (k:Int))).setCell ⟨w.heap.size+1,1,none⟩ (.slice (some ⟨w.heap.size+2,0,none⟩) k k)=w9 at hd0 hd1 HR2 HK2 ⊢;refine bodyPost_ret (v:=agg #[int i64 (k:Int),.slice (some ⟨w.heap.size+2,0,none⟩) k k]) (by simp[results,Tryz.results209,go_sem,hd0,hd1]) rfl ⟨_,rfl,?_,HK2⟩;refine .inr ⟨_,0,rfl,HR2.lt.2,fun j hj=> ?_⟩;rw[jK,SL.o] at hj;obtain ⟨ai,ci,e1,e2⟩:=(HC.o j hj).1 hj;rw[jd,zY,Nat.zero_add,HR2.cell hj,e1];exact ⟨ai,ci,rfl,(e2.kept HK2 (by simp)).mono (Nat.le_trans hB HK2.size)⟩
end Go.Proofs.YthflgjkmbakedaaGreatDoor
