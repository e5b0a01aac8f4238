import Derived.Test.YtkgoimokgbdgfaaGreatDoorV27
import Derived.Test.YtkgoimokgbdgfaaGreatDoorV32

namespace Go.Proofs.YtkgoimokgbdgfaaGreatDoor
open Go.RowKit
open Go.Value (int pointer agg)
open Go.IntKind (i64)
set_option maxRecDepth 20000
set_option maxHeartbeats 8000000
variable {M b f i k pb po:Nat}{P:Pr8}{W w w' wr:World}{a:Option Addr}{lv v:Value}
theorem zk0{x:Bl8}{s:Nat→Bool}{fn:Nat}{args:Array Value}(h:Calls Tryz.prog fn args w (zcg x s b w)):Calls Tryz.prog fn args w fun e w'=>∃ v:Int,e=.returned (int i64 v)∧((∃ k:Nat,k≤x.code.length∧v=(k:Int)∧Q4 x s k=true∧∀ j,j<k→Q4 x s j=false)∨(v= -1∧∀ k,k≤x.code.length→Q4 x s k=false))∧zc [b] w w':=by
 refine h.mono ?_;rintro e w' ⟨⟨k,h1,rfl,h2⟩ | ⟨rfl,h2⟩,h3⟩
 ·exact ⟨_,rfl,.inl ⟨k,h1,rfl,h2⟩,h3⟩
 ·exact ⟨_,rfl,.inr ⟨rfl,h2⟩,h3⟩
theorem zie(h:PrC w pb po P)(hT:jS w)(hz:SzP P):
  Calls Tryz.prog 28 #[pointer (some ⟨pb,po,none⟩)] w (ZU ((pts P).find? (zbM P)) 5 w):=by
 have HFL:Box (∀ (w':World) (f:Nat),zc [] w w'→f<P.funcs.length→Calls Tryz.prog 56 #[pointer (some ⟨pb,po,none⟩),int i64 (f:Int)] w' fun e w''=>∃ a,e=.returned (agg #[int i64 ((zz (zg P f)).length:Int),.slice a (zz (zg P f)).length (zz (zg P f)).length])∧GAt w'' w''.heap.size a (zz (zg P f))∧zc [] w' w''):=hid fun w' f k hf=>zcU (PrC.stays _ _ _ _ _ k h) hf (hz.bk f hf);have HRE:Box (∀ (w':World) (f:Nat) (a:Option Addr),f<P.funcs.length→GAt w' w'.heap.size a (zz (zg P f))→Calls Tryz.prog 58 #[agg #[int i64 ((zz (zg P f)).length:Int),.slice a (zz (zg P f)).length (zz (zg P f)).length]] w' fun e w''=>∃ b,e=.returned (pointer (some ⟨b,0,none⟩))∧zV w'' b (rch (zz (zg P f)) [0])∧zc [] w' w''∧w'.heap.size≤b):=hid fun w' f a hf hG=>Jw (zz (zg P f)) (jJ (hz.bk f hf)) a _ w'.heap.size w' hG (Nat.le_refl _);have HRF:Box (∀ f,f<P.funcs.length→Fit (rch (zz (zg P f)) [0])):=hid fun f hf=>zaQ (jJ (hz.bk f hf)) [0] zY JO;have HIN:Box (∀ (w':World) (f:Nat),zc [] w w'→f<P.funcs.length→Calls Tryz.prog 61 #[pointer (some ⟨pb,po,none⟩),int i64 (f:Int)] w' (zii w' P (zg P f))):=hid fun w' f k hf=>zoA (PrC.stays _ _ _ _ _ k h) (hT.kept k (by simp)) hf (hz.bk0 f hf) (hz.bk f hf) (hz.rg f hf) (fun b=>hz.code f b hf);obtain ⟨fa,fcp,H⟩:=h.fns;have h4:=H.cell;have C4:Box (∀ w',zc [] w w'→w'.cell? ⟨pb,po+4,none⟩=some (.slice fa P.funcs.length fcp)):=hid fun w' k=>za k h4;have FA:Box (∀ f,f<P.funcs.length→∃ fb fo ba bcp,fa=some ⟨fb,fo,none⟩∧zj1 w fb fo P f ba bcp):=hid fun f hf=>H.at hf;have HZ:=hid hz;have hN:=hz.fn;clear h H h4 hT hz;obtain ⟨N,hNe⟩:∃ N,P.funcs.length=N:=⟨_,rfl⟩;have HN:=hid hNe;rw[hNe] at HFL HRE HRF HIN C4 FA hN;clear hNe;have c4:=C4.o _ (zc.refl _ _);go_enter Tryz.func28,Tryz.ntmps28;go_wp2_with fail;clear c4
 go_loopw [15] (fun i wr=>∃ f:Nat,f≤N∧i=int i64 (f:Int)∧Box (zc [] w wr)∧Box (Q1 (zbM P) (ptP P f))) (fun i _=>N - (intOf i).toNat)
 case atStart=>exact ⟨0,by omega,rfl,hid (zc.refl _ _),hid (Q1.nil _)⟩
 case round=>
  obtain ⟨f,hf,rfl,HK,HW⟩:=hrel;by_cases hlt:f<N
  ·have hlt':(f:Int)<(N:Int):=by omega
   go_upto_region 8 with (first
    | (go_at_call 56;refine (HFL.o _ f HK.o hlt).mono ?_;rintro e w1 ⟨a1,rfl,g1,k1⟩)
    | (go_at_call 58;refine (HRE.o _ f a1 hlt g1).mono ?_;rintro e w2 ⟨b2,rfl,h2,k2,n2⟩)
    | (go_at_call 61;refine (HIN.o _ f ((HK.o.quiet k1).quiet k2) hlt).mono ?_;rintro e w3 ⟨p3,d3,q3,rfl,h3,l3,m3,k3⟩))
   have HH3:=hid h3;have HK3:=hid (((HK.o.quiet k1).quiet k2).quiet k3);have H2:=hid (h2.kept k3 (by simp));have hb2:b2<w2.heap.size:=h2.lt';have hw2:w.heap.size≤w2.heap.size:=((HK.o.quiet k1).quiet k2).size;have HNEW:Box (∀ j,j<(zg P f).blocks.length→q3≤d3 j):=hid h3.new;have HINJ:=hid h3.inj;have HHF:=hid (HRF.o f hlt)
   have HIF:=hid fun (b:Nat)=>(show Fit (inS P (zg P f) b) from fun m hm=>by
    have:=HZ.o.rg f (by rw[HN.o];exact hlt);unfold inS;rw[decide_eq_false (by omega)]
    rfl)
   have HBF:Box (∀ b,b<(zg P f).blocks.length→∀ (w':World) (db:Nat),zc [] w w'→zV w' db (inS P (zg P f) b)→w.heap.size≤db→∃ fb fo bb bo bcp,fa=some ⟨fb,fo,none⟩∧w'.cell? ⟨fb,fo+f * 3+2,none⟩=some (.slice (some ⟨bb,bo,none⟩) (zg P f).blocks.length bcp)∧Calls Tryz.prog 62 #[pointer (some ⟨bb,bo+b * 5,none⟩),pointer (some ⟨db,0,none⟩)] w' (zcg (zr (zg P f) b) (inS P (zg P f) b) db w')):=hid fun b hb w' db k' hs' hdb=>by
    obtain ⟨fb,fo,ba,bcp,e,BB⟩:=FA.o f hlt;obtain ⟨bb,bo,rfl,hbl⟩:=BB.at hb;have hf':f<P.funcs.length:=by rw[HN.o];exact hlt
    exact ⟨fb,fo,bb,bo,bcp,e,za k' BB.cell,zcQ hbl k' (HZ.o.code f b hf') (fun k hk=>HZ.o.few f b k hf' hk) hs' (HIF.o b) hdb⟩
   have HPT:=hid fun (b i:Nat) (hb:b<(zg P f).blocks.length) (hi:i≤(zr (zg P f) b).code.length)=>(show J1 P f b i from ⟨by rw[HN.o];exact hlt,hb,hi⟩);have HB6:Box ((zg P f).blocks.length≤600):=hid (HZ.o.bk f (by rw[HN.o];exact hlt));have hB6:=HB6.o;clear h2 h3 k1 k2 k3 n2 g1 HK;obtain ⟨n,hn⟩:∃ n,(zg P f).blocks.length=n:=⟨_,rfl⟩;have HNB:=hid hn;rw[hn] at HH3 HNEW HINJ HBF HPT hB6 ⊢;clear hn
   go_loopw [26] (fun i wr=>∃ b:Nat,b≤n∧i=int i64 (b:Int)∧Box (zc [] w wr)∧Box (zV wr b2 (rch (zz (zg P f)) [0]))∧Box (ju wr w2.heap.size p3 n 110 (pv n d3))∧Box (∀ j,b≤j→j<n→zV wr (d3 j) (inS P (zg P f) j))∧Box (Q1 (zbM P) (ptF (zg P f) f b))) (fun i _=>n - (intOf i).toNat)
   case atStart=>exact ⟨0,by omega,rfl,HK3,H2,hid HH3.o.row,hid (fun j _ hj=>HH3.o.set j hj),hid (Q1.nil _)⟩
   case round=>
    clear HK3 H2 HH3;obtain ⟨b,hb,rfl,HK,H2,HRO,HST,HWB⟩:=hrel;by_cases hlb:b<n
    ·have hlb':(b:Int)<(n:Int):=by omega
     have cz:=HRO.o.cell hlb;unfold pv at cz;rw[if_pos hlb] at cz;have HHS:Box (∀ w',zV w' b2 (rch (zz (zg P f)) [0])→Calls Tryz.prog 59 #[pointer (some ⟨b2,0,none⟩),int i64 (b:Int)] w' fun e w''=>e=.returned (.bool (rch (zz (zg P f)) [0] b))∧∃ m,w''=w'.drewN m):=hid fun w' h'=>by
      have:=Jx b2 (rch (zz (zg P f)) [0]) (b:Int) w' h' HHF.o;unfold Q6 at this;rw[Int.toNat_natCast,decide_eq_true (by omega:(0:Int)≤(b:Int)),Bool.true_and] at this;exact this
     cases hm:rch (zz (zg P f)) [0] b with
     | false=>
      rw[hm] at HHS;have HWN:=hid (zkZ hm ((zr (zg P f) b).code.length+1));clear hm;go_wp2_with (go_at_call 59;refine (HHS.o _ H2.o).mono ?_;rintro e w5 ⟨rfl,m5,rfl⟩);have kd:=zc.drewN [] wr m5;go_roundw
      case rel=>exact ⟨b+1,by omega,by go_num,hid (HK.o.quiet kd),hid (H2.o.kept kd (by simp)),hid (HRO.o.kept kd (by simp)),hid (fun j h1 h2=>(HST.o j (by omega) h2).kept kd (by simp)),hid (by rw[jw];exact HWB.o.app HWN.o)⟩
      case measure=>simp[intOf];omega
     | true=>
      rw[hm] at HHS;have HM:=hid hm;clear hm;have HDB:Box (w.heap.size≤d3 b):=hid (by have:=HNEW.o b hlb;omega);have HD2:Box (d3 b≠b2):=hid (by have:=HNEW.o b hlb;omega);have HDP:Box (p3≠d3 b):=hid (by have:=HNEW.o b hlb;omega);go_upto_region 11 with (go_at_call 59;refine (HHS.o _ H2.o).mono ?_;rintro e w5 ⟨rfl,m5,rfl⟩)
      have kd:=zc.drewN [] wr m5;have HK5:=hid (HK.o.quiet kd);have H25:=hid (H2.o.kept kd (by simp));have HR5:=hid (HRO.o.kept kd (by simp));have HS5:Box (∀ j,b≤j→j<n→zV (wr.drewN m5) (d3 j) (inS P (zg P f) j)):=hid (fun j h1 h2=>(HST.o j h1 h2).kept kd (by simp));clear HK H2 HRO HST kd cz HHS;generalize wr.drewN m5=w6 at *;obtain ⟨fb,fo,bb,bo,bcp,rfl,c2,hbare⟩:=HBF.o b hlb w6 (d3 b) HK5.o (HS5.o b (Nat.le_refl _) hlb) HDB.o;have c4:=C4.o _ HK5.o;have HBR:=hid (zk0 hbare);clear hbare;go_upto_region 12 with (go_at_call 62;refine HBR.o.mono ?_;rintro e w7 ⟨v7,rfl,h7,k7⟩)
      have HKN:=hid (HK5.o.fresh k7 (fun x hx=>by have:=HDB.o;simp at hx;omega));rcases h7 with ⟨k,hk,rfl,hbad,hgood⟩ | ⟨rfl,hgood⟩
      ·have hk0:(0:Int)≤(k:Int):=by omega
       have HFD:Box ((pts P).find? (zbM P)=some (f,b,k)):=hid (zfO (HPT.o b k hlb hk) (HW.o.app (HWB.o.app (zjd hgood))) (by
        show (rch (zz (zg P f)) [0] b && Q4 (zr (zg P f) b) (inS P (zg P f) b) k)=true;rw[HM.o,hbad]
        rfl))
       clear hbad hgood hk;go_wp2_with (go_at_call 60;refine (zfr _ _ _ _ _).mono ?_;rintro e w8 ⟨p8,rfl,h8,k8⟩);go_ret;unfold ZU;rw[HFD.o];exact ⟨p8,rfl,h8,HKN.o.quiet k8⟩
      ·have HWN:=hid (zjd (P:=P) (f:=f) (b:=b) (n:=(zr (zg P f) b).code.length+1) (fun i hi=>hgood i (by omega)))
       clear hgood;go_wp2_with fail;go_roundw
       case rel=>exact ⟨b+1,by omega,by go_num,HKN,hid (H25.o.kept k7 (by have:=HD2.o;simp;omega)),hid (HR5.o.kept k7 (by have:=HDP.o;simp;omega)),hid (fun j h1 h2=>(HS5.o j (by omega) h2).kept k7 (by have:=HINJ.o j b h2 hlb (by omega);simp;omega)),hid (by rw[jw];exact HWB.o.app HWN.o)⟩
       case measure=>simp[intOf];omega
    ·obtain rfl:b=n:=by omega
     rw[← HNB.o] at HWB;go_wp2_with fail;go_roundw
     case rel=>exact ⟨f+1,by omega,by go_num,HK,hid (by rw[Qi];exact HW.o.app HWB.o)⟩
     case measure=>simp[intOf];omega
  ·obtain rfl:f=N:=by omega
   have HFD:Box ((pts P).find? (zbM P)=none):=hid (Q7 (by unfold pts;rw[HN.o];exact HW.o));go_wp2;go_ret;unfold ZU;rw[HFD.o];exact ⟨rfl,HK.o⟩
theorem PtC.kept{g o:Nat}{q:Nat × Nat × Nat}{F:List Nat}(h:PtC w g o q)(k:zc F w w')(hn:g ∉ F):PtC w' g o q:=by
 have hl:=block_lt_of_cell h.c0;exact ⟨by rw[k.cell (p:=⟨g,o,none⟩) hl hn];exact h.c0,by rw[k.cell (p:=⟨g,o+1,none⟩) hl hn];exact h.c1,by rw[k.cell (p:=⟨g,o+2,none⟩) hl hn];exact h.c2⟩
def NX(w:World)(M:Nat)(lv:Value)(a:Option Addr)(L:List (Nat × Nat × Nat)):Prop:=
 L=[]∨∃ g o,a=some ⟨g,o,none⟩∧(∀ j q,L[j]? = some q→PtC w g (o+j * 3) q)∧g≠M∧g<w.heap.size∧lv.ownBlock≠some g
theorem NX.put{L:List (Nat × Nat × Nat)}(h:NX w M lv a L)(k:zc [M] w w'):NX w' M lv a L:=by
 rcases h with h | ⟨g,o,h1,h2,h3,h4,h5⟩
 ·exact .inl h
 ·exact .inr ⟨g,o,h1,fun j q hq=>(h2 j q hq).kept k (by simpa using h3),h3,Nat.lt_of_lt_of_le h4 k.size,h5⟩
theorem NX.quiet{L:List (Nat × Nat × Nat)}(h:NX w M lv a L)(k:zc [] w w'):NX w' M lv a L:=by
 rcases h with h | ⟨g,o,h1,h2,h3,h4,h5⟩
 ·exact .inl h
 ·exact .inr ⟨g,o,h1,fun j q hq=>(h2 j q hq).kept k (by simp),h3,Nat.lt_of_lt_of_le h4 k.size,h5⟩
theorem NX.push{v':Value}{L:List (Nat × Nat × Nat)}(h:NX w M lv a L)(k:zc lv.ownBlock.toList w w')(hv:v'.ownBlock=lv.ownBlock∨∃ g,v'.ownBlock=some g∧w.heap.size≤g):NX w' M v' a L:=by
 rcases h with h | ⟨g,o,h1,h2,h3,h4,h5⟩
 ·exact .inl h
 ·refine .inr ⟨g,o,h1,fun j q hq=>(h2 j q hq).kept k (fun hx=>h5 (by simpa using hx)),h3,Nat.lt_of_lt_of_le h4 k.size,?_⟩
  rcases hv with hv | ⟨g',hv,hg'⟩
  ·rw[hv];exact h5
  ·rw[hv]
   intro e;have:=Option.some.inj e;omega
theorem NX.at{L:List (Nat × Nat × Nat)}(h:NX w M lv a L){j:Nat}{q:Nat × Nat × Nat}(hq:L[j]? = some q):∃ g o,a=some ⟨g,o,none⟩∧PtC w g (o+j * 3) q:=by
 rcases h with h | ⟨g,o,h1,h2,_⟩
 ·rw[h] at hq;simp at hq
 ·exact ⟨g,o,h1,h2 j q hq⟩
theorem NX.begin{w0:World}{L:List (Nat × Nat × Nat)}(h:zy w 3 PtC a L)(hn:∀ g o,a=some ⟨g,o,none⟩→w0.heap.size≤g)(hM:M<w0.heap.size)(hl:∀ x,lv.ownBlock=some x→x<w0.heap.size):NX w M lv a L:=by
 rcases h with h | ⟨g,o,h1,h2⟩
 ·exact .inl h
 ·cases L with
  | nil=>exact .inl rfl
  | cons q L=>
   have h3:=hn g o h1;have h4:=block_lt_of_cell (h2 0 q rfl).c0;exact .inr ⟨g,o,h1,h2,by omega,h4,fun e=>by have:=hl g e;omega⟩
theorem zim(w:World)(base:Nat)(x y z:Int)(hb:base≤w.heap.size):ZQ (w.alloc (.cells #[int i64 x,int i64 y,int i64 z] 55)) base (.slice (some ⟨w.heap.size,0,none⟩) 1 1) [(x,y,z)]:=by
 have hn:=zf w (.cells #[int i64 x,int i64 y,int i64 z] 55);refine ⟨w.heap.size,0,1,rfl,hb,⟨fun i hi=> ?_,fun k hk=>⟨?_,zi hn (0+k)⟩,by simp[zdN],by simp⟩,by unfold maxLen;omega,Nat.le_refl _⟩
 ·rw[zd hn (0+i),Nat.zero_add]
  have hi':i<3:=hi
  match i,hi' with
  | 0,_=>rfl
  | 1,_=>rfl
  | 2,_=>rfl
 ·rw[zd hn (0+k),Nat.zero_add]
  have hk':k<3:=hk
  match k,hk' with
  | 0,_=>rfl
  | 1,_=>rfl
  | 2,_=>rfl
theorem zhX{e:Ending}(h:QO w P f b i e w'):∃ (x:In8) (ok:Bool) (ar:Value),e=.returned (.tuple #[zD x ar,.bool ok])∧zc [] w w'∧(∃ a n c,ar=.slice a n c)∧∀ r:Nat,JD P f r b i=(ok && za7 x r):=by
 obtain ⟨k,⟨h1,a,cp,rfl,_⟩ | ⟨h1,rfl⟩⟩:=h
 ·exact ⟨_,true,_,rfl,k,⟨_,_,_,rfl⟩,fun r=>by unfold JD;rw[decide_eq_true h1]⟩
 ·exact ⟨ziw,false,_,rfl,k,⟨_,_,_,rfl⟩,fun r=>by unfold JD;rw[decide_eq_false h1];rfl⟩
theorem ziI{α:Type}{S:List α}{q:α}{l:List α}(h:S.drop k=q :: l):S[k]? = some q∧S.drop (k+1)=l:=by
 have h1:(S.drop k)[0]? = some q:=by rw[h];rfl
 rw[List.getElem?_drop,Nat.add_zero] at h1;refine ⟨h1,?_⟩;have:(S.drop k).drop 1=l:=by rw[h];rfl
 rw[List.drop_drop] at this;exact this
structure FQ (W wr:World) (M:Nat) (v:Value) (S:List (Nat × Nat × Nat)) (k:Nat):Prop where
 seen:Ju wr M (S.map ptI)
 line:ZQ wr (M+1) v ((S.drop k).map ptI)
 keep:zc [] W wr
theorem FQ.quiet{wy:World}{S:List (Nat × Nat × Nat)}(h:FQ W wr M v S k)(q:zc [] wr wy):FQ W wy M v S k:=
 ⟨h.seen.kept q (by simp),h.line.kept q (by simp),h.keep.quiet q⟩
theorem FQ.own{S:List (Nat × Nat × Nat)}(h:FQ W wr M v S k):∀ x,v.ownBlock=some x→M+1≤x∧x<wr.heap.size:=by
 intro x hx;obtain ⟨g,h1,h2,h3⟩:=h.line.own;rw[h1] at hx;have:=Option.some.inj hx;omega
theorem FQ.add{w1 wa w2:World}{v':Value}{S:List (Nat × Nat × Nat)}{q:Nat × Nat × Nat}(h:FQ W wr M v S k)(hM:W.heap.size≤M)(hk:k≤S.length)(hs:Ju w1 M (S.map ptI ++ [ptI q]))(k1:zc [M] wr w1)(ka:zc [] w1 wa)(hl:ZQ w2 (M+1) v' ((S.drop k).map ptI ++ [ptI q]))(k2:zc v.ownBlock.toList wa w2):FQ W w2 M v' (S ++ [q]) k:=by
 have hv:M ∉ v.ownBlock.toList:=fun hx=>by
  have:=h.own M (by simpa using hx);omega
 refine ⟨?_,?_,?_⟩
 ·rw[List.map_append]
  exact (hs.kept ka (by simp)).kept k2 hv
 ·rw[List.drop_append_of_le_length hk,List.map_append]
  exact hl
 ·refine ((h.keep.fresh k1 (fun x hx=>by simp at hx;omega)).quiet ka).fresh k2 (fun x hx=> ?_)
  have:=h.own x (by simpa using hx);omega
def jg(P:Pr8)(q:Nat × Nat × Nat):List Int:=
 if q.2.2<(zr (zg P q.1) q.2.1).code.length then qd (qQ (zr (zg P q.1) q.2.1) q.2.2)
 else if (zr (zg P q.1) q.2.1).fin=2∨(zr (zg P q.1) q.2.1).fin=3 then [(zr (zg P q.1) q.2.1).reg] else []
def zdb(P:Pr8)(q:Nat × Nat × Nat):Bool:=(jg P q).any fun z=>ZX P q.1 z.toNat q.2.1 q.2.2
theorem zco(h:zM P=none)(hp:J1 P f b i):zgJ P (f,b,i)=true:=by
 have ht:=ZY h;have hh:=Jb h hp.1;unfold zM at h;rw[if_pos ht] at h;cases hf:(List.range P.funcs.length).findSome? (za6 P) with
 | some q=>rw[hf] at h;cases h
 | none=>
  have h1:=List.findSome?_eq_none_iff.1 hf f (List.mem_range.2 hp.1);unfold za6 at h1;rw[if_pos hh,Option.map_eq_none_iff,List.find?_eq_none] at h1;have:=h1 (f,b,i) (zeG.2 ⟨b,i,hp.2.1,hp.2.2,rfl⟩);simpa using this
theorem zba(h:zM P=none)(hp:J1 P f b i):∀ z,z∈jg P (f,b,i)→inB z (zg P f).regs.length=true:=by
 intro z hz;have h1:=zco h hp;unfold jg at hz;by_cases hi:i<(zr (zg P f) b).code.length
 ·rw[if_pos hi] at hz
  rw[zeC hi] at h1;obtain ⟨k,hk⟩:=List.getElem?_of_mem hz;exact qX (J3 h1).1 k z hk
 ·rw[if_neg hi] at hz
  obtain rfl:i=(zr (zg P f) b).code.length:=by have:=hp.2.2;omega
  rw[J8] at h1;simp only at hz;unfold jh at h1;split at hz
  ·next e=>
   obtain rfl:=List.mem_singleton.1 hz;rcases e with e | e
   ·rw[e,if_neg (by decide),if_pos rfl,Bool.and_eq_true] at h1
    exact h1.1
   ·rw[e,if_neg (by decide),if_neg (by decide),if_pos rfl,Bool.and_eq_true] at h1
    exact h1.1
  ·cases hz
theorem zh2(hp:J1 P f b i)(s:Nat→Bool):Q4 (zr (zg P f) b) s i=(jg P (f,b,i)).any fun z=> !Q6 (dfS ((zr (zg P f) b).code.take i) s) z:=by
 unfold jg;by_cases hi:i<(zr (zg P f) b).code.length
 ·rw[zfs hi,if_pos hi,List.not_all_eq_any_not]
 ·rw[if_neg hi]
  obtain rfl:i=(zr (zg P f) b).code.length:=by have:=hp.2.2;omega
  rw[zdH,List.take_length];simp only;split
  ·next e=>rw[decide_eq_true e];simp
  ·next e=>rw[decide_eq_false e];simp
theorem zjC{F:Fu8}(hb:F.blocks.length≤600)(h0:0<F.blocks.length){r:Nat}(h:jU F r b=true):rch (zz F) [0] b=true:=by
 have p:=(JT hb h0 r b).1 h;rw[zeB (jJ hb).ok];refine ⟨0,ZH.2 ⟨by simp,by rw[zZ];exact h0⟩,?_⟩;have key:b<F.blocks.length∧Pth (zz F) noS 0 b:=by
  refine p.carry (C:=fun u=>u<F.blocks.length∧Pth (zz F) noS 0 u) ?_ ⟨h0,Pth.refl rfl⟩;intro u hu _ v hv _;rw[zes hu.1] at hv;split at hv
  ·cases hv
  ·exact ⟨zjb v hv,Pth.snoc hu.2 (by rw[Jc hu.1];exact hv) rfl⟩
 exact key.2
theorem zkr{r:Nat}(hr:r<5000)(hl:r<(zg P f).regs.length):(!Q6 (dfS ((zr (zg P f) b).code.take i) (inS P (zg P f) b)) (r:Int))=ZX P f r b i:=by
 unfold Q6 ZX frB;rw[Int.toNat_natCast,decide_eq_true (by omega:(0:Int)≤(r:Int)),Bool.true_and,zcX _ _ _ hr];unfold inS;rw[decide_eq_true hl,Bool.true_and];have e:zfK (zr (zg P f) b) r i= !(((zr (zg P f) b).code.take i).any fun i=>za7 i r):=by
  unfold zfK;rw[List.not_any_eq_all_not]
 rw[e];cases decide (zgM P (zg P f)≤r) <;> cases jU (zg P f) r b <;> cases (((zr (zg P f) b).code.take i).any fun i=>za7 i r) <;> rfl
theorem zk4(hn:zM P=none)(hp:J1 P f b i)(hb:(zg P f).blocks.length≤600)(hr:(zg P f).regs.length≤1000):zbM P (f,b,i)=zdb P (f,b,i):=by
 have h0:0<(zg P f).blocks.length:=by have:=hp.2.1;omega
 show (rch (zz (zg P f)) [0] b && Q4 (zr (zg P f) b) (inS P (zg P f) b) i)=(jg P (f,b,i)).any fun z=>ZX P f z.toNat b i;rw[zh2 hp];have e:∀ z,z∈jg P (f,b,i)→(!Q6 (dfS ((zr (zg P f) b).code.take i) (inS P (zg P f) b)) z)=ZX P f z.toNat b i:=by
  intro z hz;have h1:=zq.1 (zba hn hp z hz);obtain ⟨r,rfl⟩:=Int.eq_ofNat_of_zero_le h1.1;exact zkr (by omega) (by omega)
 have e2:((jg P (f,b,i)).any fun z=> !Q6 (dfS ((zr (zg P f) b).code.take i) (inS P (zg P f) b)) z)=(jg P (f,b,i)).any fun z=>ZX P f z.toNat b i:=by
  rw[Bool.eq_iff_iff,List.any_eq_true,List.any_eq_true];constructor
  ·rintro ⟨z,h1,h2⟩;exact ⟨z,h1,by rw[← e z h1];exact h2⟩
  ·rintro ⟨z,h1,h2⟩;exact ⟨z,h1,by rw[e z h1];exact h2⟩
 rw[e2];cases ha:((jg P (f,b,i)).any fun z=>ZX P f z.toNat b i) with
 | false=>rw[Bool.and_false]
 | true=>
  obtain ⟨z,_,hz⟩:=List.any_eq_true.1 ha;unfold ZX frB at hz;simp only[Bool.and_eq_true] at hz;rw[zjC hb h0 hz.2.1];rfl
theorem zbS{α:Type}{p q:α→Bool}:∀ {l:List α},(∀ x,x∈l→p x=q x)→l.find? p=l.find? q
 | [],_=>rfl
 | a :: l,h=>by
  rw[List.find?_cons,List.find?_cons,h a (List.mem_cons_self ..),zbS fun x hx=>h x (List.mem_cons_of_mem _ hx)]
theorem zir(hn:zM P=none)(hb:∀ f,f<P.funcs.length→(zg P f).blocks.length≤600)(hr:∀ f,f<P.funcs.length→(zg P f).regs.length≤1000):(pts P).find? (zbM P)=(pts P).find? (zdb P):=by
 refine zbS ?_;rintro ⟨f,b,i⟩ hq;have hp:=zc8.1 hq;exact zk4 hn hp (hb f hp.1) (hr f hp.1)
theorem Rt.ends(h:Rt P)(hf:f<P.funcs.length):zia (zg P f):=by
 intro b hb;have h1:=zco h.nm (f:=f) (b:=b) (i:=(zr (zg P f) b).code.length) ⟨hf,hb,Nat.le_refl _⟩;rw[J8] at h1;unfold jh at h1;refine ⟨fun e=> ?_,fun e=> ?_⟩
 ·rcases e with e | e
  ·rw[e,if_pos rfl,Bool.and_eq_true,Bool.and_eq_true] at h1
   exact h1.2.1
  ·rw[e,if_neg (by decide),if_pos rfl,Bool.and_eq_true,Bool.and_eq_true] at h1
   exact h1.2.1
 ·rw[e,if_neg (by decide),if_pos rfl,Bool.and_eq_true,Bool.and_eq_true] at h1
  exact h1.2.2
theorem zhm(h:PrC w pb po P)(hz:SzP P):
  Calls Tryz.prog 27 #[pointer (some ⟨pb,po,none⟩)] w (ZU ((bks P).find? (jP P)) 6 w):=by
 have HFL:Box (∀ (w':World) (f:Nat),zc [] w w'→f<P.funcs.length→Calls Tryz.prog 56 #[pointer (some ⟨pb,po,none⟩),int i64 (f:Int)] w' fun e w''=>∃ a,e=.returned (agg #[int i64 ((zz (zg P f)).length:Int),.slice a (zz (zg P f)).length (zz (zg P f)).length])∧GAt w'' w''.heap.size a (zz (zg P f))∧zc [] w' w''):=hid fun w' f k hf=>zcU (PrC.stays _ _ _ _ _ k h) hf (hz.bk f hf);have HRE:Box (∀ (w':World) (f:Nat) (a:Option Addr) (B:Nat),f<P.funcs.length→GAt w' B a (zz (zg P f))→B≤w'.heap.size→Calls Tryz.prog 58 #[agg #[int i64 ((zz (zg P f)).length:Int),.slice a (zz (zg P f)).length (zz (zg P f)).length]] w' fun e w''=>∃ b,e=.returned (pointer (some ⟨b,0,none⟩))∧zV w'' b (rch (zz (zg P f)) [0])∧zc [] w' w''∧w'.heap.size≤b):=hid fun w' f a B hf hG hB=>Jw (zz (zg P f)) (jJ (hz.bk f hf)) a _ B w' hG hB;have HMY:Box (∀ (w':World) (f:Nat) (a:Option Addr) (B:Nat),f<P.funcs.length→GAt w' B a (zz (zg P f))→Calls Tryz.prog 57 #[agg #[int i64 ((zz (zg P f)).length:Int),.slice a (zz (zg P f)).length (zz (zg P f)).length]] w' fun e w''=>e=.returned (.bool true)∧zc [] w' w''):=hid fun w' f a B hf hG=>zcO (zz (zg P f)) (jJ (hz.bk f hf)) a _ B w' hG;have HRF:Box (∀ f,f<P.funcs.length→Fit (rch (zz (zg P f)) [0])):=hid fun f hf=>zaQ (jJ (hz.bk f hf)) [0] zY JO;obtain ⟨fa,fcp,H⟩:=h.fns;have h4:=H.cell;have HZ:=hid hz;have hN:=hz.fn;clear h H hz;obtain ⟨N,hNe⟩:∃ N,P.funcs.length=N:=⟨_,rfl⟩;have HN:=hid hNe;rw[hNe] at HFL HRE HMY HRF h4 hN;clear hNe;go_enter Tryz.func27,Tryz.ntmps27;go_wp2_with fail;clear h4
 go_loopw [14] (fun i wr=>∃ f:Nat,f≤N∧i=int i64 (f:Int)∧Box (zc [] w wr)∧Box (Q1 (jP P) (bkP P f))) (fun i _=>N - (intOf i).toNat)
 case atStart=>exact ⟨0,by omega,rfl,hid (zc.refl _ _),hid (Q1.nil _)⟩
 case round=>
  obtain ⟨f,hf,rfl,HK,HW⟩:=hrel;by_cases hlt:f<N
  ·have hlt':(f:Int)<(N:Int):=by omega
   have HF1:=hid fun (w':World) (k:zc [] w w')=>HFL.o w' f k hlt;have HR1:=hid fun (w':World) (a:Option Addr) (B:Nat)=>HRE.o w' f a B hlt;have HM1:=hid fun (w':World) (a:Option Addr) (B:Nat)=>HMY.o w' f a B hlt;have HHF:=hid (HRF.o f hlt);obtain ⟨n,hn⟩:∃ n,(zz (zg P f)).length=n:=⟨_,rfl⟩;have HBL:Box ((zg P f).blocks.length=n):=hid (by rw[← zZ];exact hn);rw[hn] at HF1 HR1 HM1;clear hn;have hn6:n≤600:=by rw[← HBL.o];exact HZ.o.bk f (by rw[HN.o];exact hlt)
   go_upto_region 7 with (go_at_call 56;refine (HF1.o _ HK.o).mono ?_;rintro e w1 ⟨a,rfl,hg1,k1⟩)
   have ka:=zc.alloc [] w1 (.cells #[int i64 (n:Int),.slice a n n] 107);have HBX:=hid (jC.new w1 (int i64 (n:Int)) (.slice a n n));have HGR:Box (GAt (w1.alloc (.cells #[int i64 (n:Int),.slice a n n] 107)) w1.heap.size a (zz (zg P f))):=hid (hg1.quiet ka);have HK1:=hid ((HK.o.quiet k1).quiet ka);clear ka hg1 k1 HK;generalize w1.alloc (.cells #[int i64 (n:Int),.slice a n n] 107)=W1 at *;generalize w1.heap.size=gb at *;have c0:=HBX.o.c0;have c1:=HBX.o.c1;go_upto_region 8 with (go_at_call 57;refine (HM1.o _ a gb HGR.o).mono ?_;rintro e w2 ⟨rfl,k2⟩)
   have HBX2:=hid (HBX.o.kept k2 (by simp));have HK2:=hid (HK1.o.quiet k2);have HGR2:=hid (HGR.o.quiet k2);have hgb:gb≤w2.heap.size:=Nat.le_of_lt HBX2.o.lt;clear c0 c1 HBX HGR HK1 k2;have c0:=HBX2.o.c0;have c1:=HBX2.o.c1;go_upto_region 9 with (go_at_call 58;refine (HR1.o _ a gb HGR2.o hgb).mono ?_;rintro e w3 ⟨b3,rfl,h3,k3,n3⟩)
   have HBX3:=hid (HBX2.o.kept k3 (by simp));have HK3:=hid (HK2.o.quiet k3);have H3:=hid h3;clear c0 c1 HBX2 HK2 HGR2 h3 k3 n3 hgb;have c0:=HBX3.o.c0;go_wp2_with fail;clear c0
   go_loopw [27] (fun i wr=>∃ b:Nat,b≤n∧i=int i64 (b:Int)∧Box (zc [] w wr)∧Box (zV wr b3 (rch (zz (zg P f)) [0]))∧Box (Q1 (jP P) (bkF f b))) (fun i _=>n - (intOf i).toNat)
   case atStart=>exact ⟨0,by omega,rfl,HK3,H3,hid (Q1.nil _)⟩
   case round=>
    clear HK3 H3;obtain ⟨b,hb,rfl,HK,H3,HWB⟩:=hrel;by_cases hlb:b<n
    ·have hlb':(b:Int)<(n:Int):=by omega
     have HHS:Box (Calls Tryz.prog 59 #[pointer (some ⟨b3,0,none⟩),int i64 (b:Int)] wr fun e w''=>e=.returned (.bool (rch (zz (zg P f)) [0] b))∧∃ m,w''=wr.drewN m):=hid (by
      have:=Jx b3 (rch (zz (zg P f)) [0]) (b:Int) wr H3.o HHF.o;unfold Q6 at this;rw[Int.toNat_natCast,decide_eq_true (by omega:(0:Int)≤(b:Int)),Bool.true_and] at this
      exact this)
     cases hm:rch (zz (zg P f)) [0] b with
     | true=>
      rw[hm] at HHS;have HWN:=hid (Q1.one (B:=jP P) (q:=(f,b,0)) (by show (!rch (zz (zg P f)) [0] b)=false;rw[hm];rfl));clear hm;go_wp2_with (go_at_call 59;refine HHS.o.mono ?_;rintro e w5 ⟨rfl,m5,rfl⟩);have kd:=zc.drewN [] wr m5;go_roundw
      case rel=>exact ⟨b+1,by omega,by go_num,hid (HK.o.quiet kd),hid (H3.o.kept kd (by simp)),hid (by rw[zaK];exact HWB.o.app HWN.o)⟩
      case measure=>simp[intOf];omega
     | false=>
      rw[hm] at HHS;have HFD:Box ((bks P).find? (jP P)=some (f,b,0)):=hid (zll (by rw[HN.o];exact hlt) (by rw[HBL.o];exact hlb) (HW.o.app HWB.o) (by show (!rch (zz (zg P f)) [0] b)=true;rw[hm];rfl));clear hm;go_wp2_with (first | (go_at_call 59;refine HHS.o.mono ?_;rintro e w5 ⟨rfl,m5,rfl⟩) | (go_at_call 60;refine (zfr _ _ _ _ _).mono ?_;rintro e w8 ⟨p8,rfl,h8,k8⟩));go_ret;unfold ZU;rw[HFD.o];exact ⟨p8,rfl,h8,(HK.o.quiet (zc.drewN [] _ _)).quiet k8⟩
    ·obtain rfl:b=n:=by omega
     rw[← HBL.o] at HWB;go_wp2_with fail;go_roundw
     case rel=>exact ⟨f+1,by omega,by go_num,HK,hid (by rw[zaM];exact HW.o.app HWB.o)⟩
     case measure=>simp[intOf];omega
  ·obtain rfl:f=N:=by omega
   have HFD:Box ((bks P).find? (jP P)=none):=hid (zfy (by rw[HN.o];exact HW.o));go_wp2;go_ret;unfold ZU;rw[HFD.o];exact ⟨rfl,HK.o⟩
theorem zgh(h:PrC w pb po P)(hs:Sm8 P)(hfew:zlS P)(hp:J1 P f b i):
  Calls Tryz.prog 78 #[pointer (some ⟨pb,po,none⟩),ptV f b i] w fun e w'=>∃ a cp,e=.returned (.slice a (jg P (f,b,i)).length cp)∧zw w' a (jg P (f,b,i))∧zc [] w w':=by
 have ka:=zc.alloc [] w (.cells #[int i64 (f:Int),int i64 (b:Int),int i64 (i:Int)] 55);have hq:=zf w (.cells #[int i64 (f:Int),int i64 (b:Int),int i64 (i:Int)] 55);have HC:=hid (zcB (PrC.stays _ _ _ _ _ ka h) hs f b i hp);have HFW:=hid fun (hi:i<(zr (zg P f) b).code.length)=>hfew f b i hp.1 hp.2.1 hi;obtain ⟨fa,fcp,HH⟩:=h.fns;obtain ⟨fb,fo,ba,bcp,rfl,B⟩:=HH.at hp.1;obtain ⟨bb,bo,rfl,L⟩:=B.at hp.2.1;obtain ⟨ca,ccp,hcc0,_⟩:=L.c0;have hf:(f:Int)<(P.funcs.length:Int):=by have:=hp.1;omega
 have hb:(b:Int)<((zg P f).blocks.length:Int):=by have:=hp.2.1;omega
 have hi:=hp.2.2;have HRL:Box (jg P (f,b,i)=if i<(zr (zg P f) b).code.length then qd (qQ (zr (zg P f) b) i) else if (zr (zg P f) b).fin=2∨(zr (zg P f) b).fin=3 then [(zr (zg P f) b).reg] else []):=hid rfl;have CS:Box (∀ w',zc [] w w'→w'.cell? ⟨pb,po+4,none⟩=some (.slice (some ⟨fb,fo,none⟩) P.funcs.length fcp)∧w'.cell? ⟨fb,fo+f * 3+2,none⟩=some (.slice (some ⟨bb,bo,none⟩) (zg P f).blocks.length bcp)∧w'.cell? ⟨bb,bo+b * 5,none⟩=some (.slice ca (zr (zg P f) b).code.length ccp)∧w'.cell? ⟨bb,bo+b * 5+1,none⟩=some (int i64 (zr (zg P f) b).fin)∧w'.cell? ⟨bb,bo+b * 5+2,none⟩=some (int i64 (zr (zg P f) b).reg)∧w'.cell? ⟨bb,bo+b * 5+3,none⟩=some (int i64 (zr (zg P f) b).to)∧w'.cell? ⟨bb,bo+b * 5+4,none⟩=some (int i64 (zr (zg P f) b).els)):=hid fun w' k=>⟨za k HH.cell,za k B.cell,za k hcc0,za k L.c1.1,za k L.c2.1,za k L.c3.1,za k L.c4.1⟩;have KA:=hid ka;have HQ:=hid hq;clear h hs hp HH B L hcc0 ka hq hfew;unfold QO at HC;generalize P.funcs.length=N at *;generalize (zg P f).blocks.length=NB at *;generalize jg P (f,b,i)=RL at *;generalize zr (zg P f) b=x at *;unfold ptV at HC ⊢;go_enter Tryz.func78,Tryz.ntmps78;go_upto_region 1 with fail;generalize w.alloc (.cells #[int i64 (f:Int),int i64 (b:Int),int i64 (i:Int)] 55)=W at *;generalize w.heap.size=q at *;have p0:=zd HQ.o 0;have p1:=zd HQ.o 1;have p2:=zd HQ.o 2;by_cases hin:i<x.code.length
 ·rw[if_pos hin] at HRL
  have hfw:=HFW.o hin
  have HC2:Box (Calls Tryz.prog 74 #[pointer (some ⟨pb,po,none⟩),agg #[int i64 (f:Int),int i64 (b:Int),int i64 (i:Int)]] W fun e w'=>∃ a cp,e=.returned (atV (qQ x i) (.slice a (qQ x i).args.length cp))∧zw w' a (qQ x i).args∧zc [] W w'):=hid (HC.o.mono fun e w' h'=>by
   rcases h' with ⟨k,⟨_,a,cp,h1,h2,_⟩ | ⟨h1,_⟩⟩
   ·exact ⟨a,cp,h1,h2,k⟩
   ·exact absurd hin h1)
  clear HC HFW hi CS;generalize qQ x i=y at *;unfold atV zD at HC2;go_upto_region 2 with (go_at_call 74;refine HC2.o.mono ?_;rintro e w3 ⟨aa,ac,rfl,hz3,k3⟩)
  have ka:=zc.alloc [] w3 (.cells #[int i64 y.op,int i64 y.dst,int i64 y.a,int i64 y.b,int i64 y.n,.slice aa y.args.length ac] 39);have hci:=zf w3 (.cells #[int i64 y.op,int i64 y.dst,int i64 y.a,int i64 y.b,int i64 y.n,.slice aa y.args.length ac] 39);have HK3:=hid (KA.o.quiet (k3.quiet ka));have HU:=hid (zc6 y aa ac _ (hz3.kept ka (fun _ _ _=>by simp)) (by omega));have i0:=zd hci 0;have i1:=zd hci 1;have i2:=zd hci 2;have i3:=zd hci 3;have i4:=zd hci 4;have i5:=zd hci 5;clear ka hci k3 hz3 p0 p1 p2 HC2 HQ KA;unfold zD at HU;generalize w3.alloc (.cells #[int i64 y.op,int i64 y.dst,int i64 y.a,int i64 y.b,int i64 y.n,.slice aa y.args.length ac] 39)=W3 at *;generalize w3.heap.size=cb at *;generalize y.args.length=al at *;go_wp2_with (go_at_call 128;refine HU.o.mono ?_;rintro e w4 ⟨a4,c4,rfl,hz4,k4⟩);go_ret;rw[HRL.o];exact ⟨a4,c4,rfl,hz4,HK3.o.quiet k4⟩
 ·rw[if_neg hin] at HRL
  obtain rfl:i=x.code.length:=by omega
  have HC2:Box (Calls Tryz.prog 74 #[pointer (some ⟨pb,po,none⟩),agg #[int i64 (f:Int),int i64 (b:Int),int i64 (x.code.length:Int)]] W fun e w'=>e=.returned zlM∧zc [] W w'):=hid (HC.o.mono fun e w' h'=>by
   rcases h' with ⟨k,⟨h1,_⟩ | ⟨_,h1⟩⟩
   ·exact absurd h1 hin
   ·exact ⟨h1,k⟩)
  clear HC HFW hi hin;unfold zlM zD ziw at HC2;go_upto_region 2 with (go_at_call 74;refine HC2.o.mono ?_;rintro e w3 ⟨rfl,k3⟩)
  have ka:=zc.alloc [] w3 (.cells #[int i64 0,int i64 0,int i64 0,int i64 0,int i64 0,.slice none 0 0] 39);have HK3:=hid (KA.o.quiet (k3.quiet ka));have HQ3:=hid (ze HQ.o (k3.quiet ka));clear ka k3 p0 p1 p2 HC2 HQ KA;generalize w3.alloc (.cells #[int i64 0,int i64 0,int i64 0,int i64 0,int i64 0,.slice none 0 0] 39)=W3 at *;have p0:=zd HQ3.o 0;have p1:=zd HQ3.o 1;have p2:=zd HQ3.o 2;obtain ⟨l4,l2,lc,n1,n2,n3,n4⟩:=CS.o _ HK3.o;have kz:=zc.alloc [] W3 (.cells #[.slice none 0 0,int i64 0,int i64 0,int i64 0,int i64 0] 42);have t0:=za kz p0;have t1:=za kz p1;have t4:=za kz l4;have t2:=za kz l2;have tc:=za kz lc;have s1:=za kz n1;have s2:=za kz n2;have s3:=za kz n3;have s4:=za kz n4;clear kz;go_upto_region 4 with fail
  go_region
  clear t0 t1 t2 t4 tc s1 s2 s3 s4;go_upto_region 5 with fail;have hu:((W3.alloc (.cells #[.slice ca x.code.length ccp,int i64 x.fin,int i64 x.reg,int i64 x.to,int i64 x.els] 42)).drew).heap[W3.heap.size]? = some (.cells #[.slice ca x.code.length ccp,int i64 x.fin,int i64 x.reg,int i64 x.to,int i64 x.els] 42 (0,0)):=zf W3 _;have kk:zc [] W3 ((W3.alloc (.cells #[.slice ca x.code.length ccp,int i64 x.fin,int i64 x.reg,int i64 x.to,int i64 x.els] 42)).drew):=(zc.alloc [] _ _).quiet (zc.drew [] _);have HQ4:=hid (ze HQ3.o kk);have HK4:=hid (HK3.o.quiet kk);generalize (W3.alloc (.cells #[.slice ca x.code.length ccp,int i64 x.fin,int i64 x.reg,int i64 x.to,int i64 x.els] 42)).drew=W4 at *;generalize W3.heap.size=u at *;clear kk HQ3 HK3 p0 p1 p2 l4 l2 lc n1 n2 n3 n4 CS;have r2:=zd HQ4.o 2;have z0:=zd hu 0;have z1:=zd hu 1;have z2:=zd hu 2;by_cases f2:x.fin=2
  ·rw[if_pos (.inl f2)] at HRL
   rw[f2] at z1;clear f2;go_wp2_with fail;go_ret;rw[HRL.o];exact ⟨_,_,rfl,zb3 _ _ rfl _,HK4.o.quiet (zc.alloc [] _ _)⟩
  by_cases f3:x.fin=3
  ·rw[if_pos (.inr f3)] at HRL
   rw[f3] at z1;clear f2 f3;go_wp2_with fail;go_ret;rw[HRL.o];exact ⟨_,_,rfl,zb3 _ _ rfl _,HK4.o.quiet (zc.alloc [] _ _)⟩
  rw[if_neg (fun h=>h.elim f2 f3)] at HRL;have o2:(x.fin == 2)=false:=by simpa using f2
  have o3:(x.fin == 3)=false:=by simpa using f3
  clear f2 f3;go_wp2_with fail;go_ret;rw[HRL.o];exact ⟨none,0,rfl,.inl rfl,HK4.o⟩
theorem zbL{α:Type}{p q:α→Bool}:∀ {l:List α},(∀ x,x∈l→p x=q x)→l.all p=l.all q
 | [],_=>rfl
 | x :: l,h=>by rw[List.all_cons,List.all_cons,h x (List.mem_cons_self ..),zbL fun y hy=>h y (List.mem_cons_of_mem _ hy)]
theorem zgy(h:(QB P).Nodup)(hi:i<P.ims.length):Q0 P (im8 P i).1 (im8 P i).2.1=(i:Int):=by
 refine zce (Qh hi) (by simp) fun j z hj hz=> ?_;have hl:j<(QB P).length:=by unfold QB;rw[List.length_map];omega
 have hl':i<(QB P).length:=by unfold QB;rw[List.length_map];omega
 have:=List.pairwise_iff_getElem.1 h j i hl hl' hj;cases hc:(z.1 == (im8 P i).1 && z.2.1 == (im8 P i).2.1) with
 | false=>rfl
 | true=>
  exfalso;apply this;rw[Bool.and_eq_true,beq_iff_eq,beq_iff_eq] at hc;obtain ⟨h1,e1⟩:=List.getElem?_eq_some_iff.1 hz;obtain ⟨h2,e2⟩:=List.getElem?_eq_some_iff.1 (Qh hi);simp only[QB,List.getElem_map,e1,e2,hc.1,hc.2]
theorem zgf(h:∀ i,i<P.ims.length→Q0 P (im8 P i).1 (im8 P i).2.1=(i:Int)):(QB P).Nodup:=by
 refine List.pairwise_iff_getElem.2 fun i j hi hj hij e=> ?_;have hi':i<P.ims.length:=by unfold QB at hi;rwa [List.length_map] at hi
 have hj':j<P.ims.length:=by unfold QB at hj;rwa [List.length_map] at hj
 have h1:=h i hi';have h2:=h j hj';obtain ⟨_,e1⟩:=List.getElem?_eq_some_iff.1 (Qh hi');obtain ⟨_,e2⟩:=List.getElem?_eq_some_iff.1 (Qh hj');simp only[QB,List.getElem_map,e1,e2,Prod.mk.injEq] at e;rw[← e.1, ← e.2,h1] at h2;omega
theorem zk9(hn:zM P=none):zax P=zdA P:=by
 have ht:=ZY hn;unfold zO at ht;simp only[Bool.and_eq_true,List.all_eq_true] at ht;obtain ⟨-, -,hif,him⟩:=ht;have hsg:=zcP hn;rw[List.all_eq_true] at hsg;have hm:∀ i,i<P.ims.length→zfI P (im8 P i)=true:=fun i hi=>him _ (qD P.ims i _ hi);have hnat:∀ {k:Int}{n:Nat},inB k n=true→k.toNat<n:=fun h=>by
  have:=zq.1 h;omega
 have hM:∀ i,i<P.ims.length→(zbj P (im8 P i)=(decide ((im8 P i).2.2.length=(if8 P (im8 P i).2.1).length) && (List.range (if8 P (im8 P i).2.1).length).all fun k=>mtB (im8 P i).1 (zag P (zg P ((im8 P i).2.2.getD k 0).toNat).sig) (zag P ((if8 P (im8 P i).2.1).getD k 0)))):=fun i hi=>by
  have h1:=hm i hi;unfold zfI at h1;simp only[Bool.and_eq_true] at h1;obtain ⟨h1,h2,h3⟩:=h1;unfold zbj;rw[h1,h2,Bool.true_and,Bool.true_and];by_cases hl:(im8 P i).2.2.length=(if8 P (im8 P i).2.1).length
  ·rw[hl]
   congr 1
   refine zbL fun k hk=> ?_;have hk:=List.mem_range.1 hk;have a1:inB ((im8 P i).2.2.getD k 0) P.funcs.length=true:=by
    unfold Qe at h3;rw[List.all_eq_true] at h3;exact h3 _ (qD _ _ _ (by omega))
   have a2:=hsg (zg P ((im8 P i).2.2.getD k 0).toNat) (qD _ _ _ (hnat a1));have a3:inB ((if8 P (im8 P i).2.1).getD k 0) P.sigs.length=true:=by
    have:=hif (if8 P (im8 P i).2.1) (qD _ _ _ (hnat h2));unfold Qe at this;rw[List.all_eq_true] at this;exact this _ (qD _ _ _ hk)
   unfold isM;rw[a1,a2,a3,Bool.true_and,Bool.true_and,Bool.true_and]
  ·simp[hl]
 have hall:P.ims.all (zbj P)=(List.range P.ims.length).all fun i=>zbj P (im8 P i):=by
  refine Bool.eq_iff_iff.2 ⟨fun h=> ?_,fun h=> ?_⟩
  ·rw[List.all_eq_true] at h ⊢
   exact fun i hi=>h _ (qD _ _ _ (List.mem_range.1 hi))
  ·rw[List.all_eq_true] at h ⊢
   intro x hx;obtain ⟨i,hi,e⟩:=List.getElem_of_mem hx;have:=h i (List.mem_range.2 hi);have e2:im8 P i=x:=by
    have:=Qh hi;rw[List.getElem?_eq_getElem hi,e] at this;exact (Option.some.inj this).symm
   rwa [e2] at this
 unfold zdA;rw[hall];refine Bool.eq_iff_iff.2 ⟨fun h=> ?_,fun h=> ?_⟩
 ·unfold zax at h
  rw[List.all_eq_true] at h;have hx:∀ i,i<P.ims.length→zjo P i (im8 P i)=true:=fun i hi=>h i (List.mem_range.2 hi);rw[Bool.and_eq_true,decide_eq_true_eq,List.all_eq_true];refine ⟨zgf fun i hi=> ?_,fun i hi=> ?_⟩
  ·have:=hx i hi
   unfold zjo at this;simp only[Bool.and_eq_true,decide_eq_true_eq] at this;exact this.2.1
  ·have hi:=List.mem_range.1 hi
   have:=hx i hi;unfold zjo at this;rw[hM i hi];rw[Bool.and_eq_true,Bool.and_eq_true] at this;rw[Bool.and_eq_true];exact ⟨this.1,this.2.2⟩
 ·rw[Bool.and_eq_true,decide_eq_true_eq,List.all_eq_true] at h
  unfold zax;rw[List.all_eq_true];intro i hi;have h2:=h.2 i hi;have hi:=List.mem_range.1 hi;rw[hM i hi,Bool.and_eq_true] at h2;unfold zjo;rw[Bool.and_eq_true,Bool.and_eq_true];exact ⟨h2.1,by rw[decide_eq_true_eq];exact zgy h.1 hi,h2.2⟩
def Jf(P:Pr8)(f:Fu8)(x:In8):Bool:=qG P f x && (rtB P f x && jX P f x)
def wfO(P:Pr8):Option (Int × Int × Int × Int):=
 if jl P=false then some (2, -1,0,0) else
 match zM P with
 | some q=>some (3,q)
 | none=>if zdA P=false then some (7, -1,0,0) else
  match QM P (Jf P) with
  | some q=>some (4,q)
  | none=>match (bks P).find? (jP P) with
   | some q=>some (6,ptI q)
   | none=>match (pts P).find? (zbM P) with
    | some q=>some (5,ptI q)
    | none=>none
end Go.Proofs.YtkgoimokgbdgfaaGreatDoor
