import Derived.Test.YthflgjkmbakedaaGreatDoorN19
import Derived.Test.YthflgjkmbakedaaGreatDoorN22

namespace Go.Proofs.YthflgjkmbakedaaGreatDoor
open Go.RowKit
open Go.Value (int pointer agg)
open Go.IntKind (i64)
set_option maxRecDepth 20000
set_option maxHeartbeats 8000000
variable {P:Pr8}{b f i y:Int}{k pb po:Nat}{v:Value}{w:World}
theorem zfB{x:Bl8}{s:Nat→Bool}{b fn:Nat}{args:Array Value}(h:Calls Tryz.prog fn args w (QT x s b w)):Calls Tryz.prog fn args w fun e w'=>∃ v:Int,e=.returned (int i64 v)∧((∃ k:Nat,k≤x.code.length∧v=(k:Int)∧jH x s k=true∧∀ j,j<k→jH x s j=false)∨(v= -1∧∀ k,k≤x.code.length→jH x s k=false))∧za [b] w w':=by
 refine h.mono ?_;rintro e w' ⟨⟨k,h1,rfl,h2⟩ | ⟨rfl,h2⟩,h3⟩
 ·exact ⟨_,rfl,.inl ⟨k,h1,rfl,h2⟩,h3⟩
 ·exact ⟨_,rfl,.inr ⟨rfl,h2⟩,h3⟩
theorem zdQ(h:PrC w pb po P)(hT:jf w)(hz:SzP P):
  Calls Tryz.prog 86 #[pointer (some ⟨pb,po,none⟩)] w (qR ((pts P).find? (zca P)) 5 w):=by
 have HFL:Box (∀ (w':World) (f:Nat),za [] w w'→f<P.funcs.length→Calls Tryz.prog 131 #[pointer (some ⟨pb,po,none⟩),int i64 (f:Int)] w' fun e w''=>∃ a,e=.returned (agg #[int i64 ((zr (zf P f)).length:Int),.slice a (zr (zf P f)).length (zr (zf P f)).length])∧GAt w'' w''.heap.size a (zr (zf P f))∧za [] w' w''):=hid fun w' f k hf=>Q4 (PrC.stays _ _ _ _ _ k h) hf (hz.bk f hf);have HRE:Box (∀ (w':World) (f:Nat) (a:Option Addr),f<P.funcs.length→GAt w' w'.heap.size a (zr (zf P f))→Calls Tryz.prog 133 #[agg #[int i64 ((zr (zf P f)).length:Int),.slice a (zr (zf P f)).length (zr (zf P f)).length]] w' fun e w''=>∃ b,e=.returned (pointer (some ⟨b,0,none⟩))∧zy w'' b (rch (zr (zf P f)) [0])∧za [] w' w''∧w'.heap.size≤b):=hid fun w' f a hf hG=>jM (zr (zf P f)) (ja (hz.bk f hf)) a _ w'.heap.size w' hG (Nat.le_refl _);have HRF:Box (∀ f,f<P.funcs.length→Fit (rch (zr (zf P f)) [0])):=hid fun f hf=>ZD (ja (hz.bk f hf)) [0] zC Zd;have HIN:Box (∀ (w':World) (f:Nat),za [] w w'→f<P.funcs.length→Calls Tryz.prog 136 #[pointer (some ⟨pb,po,none⟩),int i64 (f:Int)] w' (zcx w' P (zf P f))):=hid fun w' f k hf=>ziQ (PrC.stays _ _ _ _ _ k h) (hT.kept k (by simp)) hf (hz.bk0 f hf) (hz.bk f hf) (hz.rg f hf) (fun b=>hz.code f b hf);obtain ⟨fa,fcp,H⟩:=h.fns;have h4:=H.cell;have C4:Box (∀ w',za [] w w'→w'.cell? ⟨pb,po+4,none⟩=some (.slice fa P.funcs.length fcp)):=hid fun w' k=>zb k h4;have FA:Box (∀ f,f<P.funcs.length→∃ fb fo ba bcp,fa=some ⟨fb,fo,none⟩∧zfp w fb fo P f ba bcp):=hid fun f hf=>H.at hf;have HZ:=hid hz;have hN:=hz.fn;clear h H h4 hT hz;obtain ⟨N,hNe⟩:∃ N,P.funcs.length=N:=⟨_,rfl⟩;have HN:=hid hNe;rw[hNe] at HFL HRE HRF HIN C4 FA hN;clear hNe;have c4:=C4.o _ (za.refl _ _);go_enter Tryz.func86,Tryz.ntmps86;go_wp2_with fail;clear c4
 go_loopw [15] (fun i wr=>∃ f:Nat,f≤N∧i=int i64 (f:Int)∧Box (za [] w wr)∧Box (ZL (zca P) (ptP P f))) (fun i _=>N - (intOf i).toNat)
 case atStart=>exact ⟨0,by omega,rfl,hid (za.refl _ _),hid (ZL.nil _)⟩
 case round=>
  obtain ⟨f,hf,rfl,HK,HW⟩:=hrel;by_cases hlt:f<N
  ·have hlt':(f:Int)<(N:Int):=by omega
   go_upto_region 8 with (first
    | (go_at_call 131;refine (HFL.o _ f HK.o hlt).mono ?_;rintro e w1 ⟨a1,rfl,g1,k1⟩)
    | (go_at_call 133;refine (HRE.o _ f a1 hlt g1).mono ?_;rintro e w2 ⟨b2,rfl,h2,k2,n2⟩)
    | (go_at_call 136;refine (HIN.o _ f ((HK.o.quiet k1).quiet k2) hlt).mono ?_;rintro e w3 ⟨p3,d3,q3,rfl,h3,l3,m3,k3⟩))
   have HH3:=hid h3;have HK3:=hid (((HK.o.quiet k1).quiet k2).quiet k3);have H2:=hid (h2.kept k3 (by simp));have hb2:b2<w2.heap.size:=h2.lt';have hw2:w.heap.size≤w2.heap.size:=((HK.o.quiet k1).quiet k2).size;have HNEW:Box (∀ j,j<(zf P f).blocks.length→q3≤d3 j):=hid h3.new;have HINJ:=hid h3.inj;have HHF:=hid (HRF.o f hlt)
   have HIF:=hid fun (b:Nat)=>(show Fit (inS P (zf P f) b) from fun m hm=>by
    have:=HZ.o.rg f (by rw[HN.o];exact hlt);unfold inS;rw[decide_eq_false (by omega)]
    rfl)
   have HBF:Box (∀ b,b<(zf P f).blocks.length→∀ (w':World) (db:Nat),za [] w w'→zy w' db (inS P (zf P f) b)→w.heap.size≤db→∃ fb fo bb bo bcp,fa=some ⟨fb,fo,none⟩∧w'.cell? ⟨fb,fo+f * 3+2,none⟩=some (.slice (some ⟨bb,bo,none⟩) (zf P f).blocks.length bcp)∧Calls Tryz.prog 137 #[pointer (some ⟨bb,bo+b * 5,none⟩),pointer (some ⟨db,0,none⟩)] w' (QT (zq (zf P f) b) (inS P (zf P f) b) db w')):=hid fun b hb w' db k' hs' hdb=>by
    obtain ⟨fb,fo,ba,bcp,e,BB⟩:=FA.o f hlt;obtain ⟨bb,bo,rfl,hbl⟩:=BB.at hb;have hf':f<P.funcs.length:=by rw[HN.o];exact hlt
    exact ⟨fb,fo,bb,bo,bcp,e,zb k' BB.cell,QH hbl k' (HZ.o.code f b hf') (fun k hk=>HZ.o.few f b k hf' hk) hs' (HIF.o b) hdb⟩
   have HPT:=hid fun (b i:Nat) (hb:b<(zf P f).blocks.length) (hi:i≤(zq (zf P f) b).code.length)=>(show ZB P f b i from ⟨by rw[HN.o];exact hlt,hb,hi⟩);have HB6:Box ((zf P f).blocks.length≤600):=hid (HZ.o.bk f (by rw[HN.o];exact hlt));have hB6:=HB6.o;clear h2 h3 k1 k2 k3 n2 g1 HK;obtain ⟨n,hn⟩:∃ n,(zf P f).blocks.length=n:=⟨_,rfl⟩;have HNB:=hid hn;rw[hn] at HH3 HNEW HINJ HBF HPT hB6 ⊢;clear hn
   go_loopw [26] (fun i wr=>∃ b:Nat,b≤n∧i=int i64 (b:Int)∧Box (za [] w wr)∧Box (zy wr b2 (rch (zr (zf P f)) [0]))∧Box (qb wr w2.heap.size p3 n 198 (pv n d3))∧Box (∀ j,b≤j→j<n→zy wr (d3 j) (inS P (zf P f) j))∧Box (ZL (zca P) (ptF (zf P f) f b))) (fun i _=>n - (intOf i).toNat)
   case atStart=>exact ⟨0,by omega,rfl,HK3,H2,hid HH3.o.row,hid (fun j _ hj=>HH3.o.set j hj),hid (ZL.nil _)⟩
   case round=>
    clear HK3 H2 HH3;obtain ⟨b,hb,rfl,HK,H2,HRO,HST,HWB⟩:=hrel;by_cases hlb:b<n
    ·have hlb':(b:Int)<(n:Int):=by omega
     have cz:=HRO.o.cell hlb;unfold pv at cz;rw[if_pos hlb] at cz;have HHS:Box (∀ w',zy w' b2 (rch (zr (zf P f)) [0])→Calls Tryz.prog 134 #[pointer (some ⟨b2,0,none⟩),int i64 (b:Int)] w' fun e w''=>e=.returned (.bool (rch (zr (zf P f)) [0] b))∧∃ m,w''=w'.drewN m):=hid fun w' h'=>by
      have:=jK b2 (rch (zr (zf P f)) [0]) (b:Int) w' h' HHF.o;unfold jP at this;rw[Int.toNat_natCast,decide_eq_true (by omega:(0:Int)≤(b:Int)),Bool.true_and] at this;exact this
     cases hm:rch (zr (zf P f)) [0] b with
     | false=>
      rw[hm] at HHS;have HWN:=hid (zep hm ((zq (zf P f) b).code.length+1));clear hm;go_wp2_with (go_at_call 134;refine (HHS.o _ H2.o).mono ?_;rintro e w5 ⟨rfl,m5,rfl⟩);have kd:=za.drewN [] wr m5;go_roundw
      case rel=>exact ⟨b+1,by omega,by go_num,hid (HK.o.quiet kd),hid (H2.o.kept kd (by simp)),hid (HRO.o.kept kd (by simp)),hid (fun j h1 h2=>(HST.o j (by omega) h2).kept kd (by simp)),hid (by rw[qr];exact HWB.o.app HWN.o)⟩
      case measure=>simp[intOf];omega
     | true=>
      rw[hm] at HHS;have HM:=hid hm;clear hm;have HDB:Box (w.heap.size≤d3 b):=hid (by have:=HNEW.o b hlb;omega);have HD2:Box (d3 b≠b2):=hid (by have:=HNEW.o b hlb;omega);have HDP:Box (p3≠d3 b):=hid (by have:=HNEW.o b hlb;omega);go_upto_region 11 with (go_at_call 134;refine (HHS.o _ H2.o).mono ?_;rintro e w5 ⟨rfl,m5,rfl⟩)
      have kd:=za.drewN [] wr m5;have HK5:=hid (HK.o.quiet kd);have H25:=hid (H2.o.kept kd (by simp));have HR5:=hid (HRO.o.kept kd (by simp));have HS5:Box (∀ j,b≤j→j<n→zy (wr.drewN m5) (d3 j) (inS P (zf P f) j)):=hid (fun j h1 h2=>(HST.o j h1 h2).kept kd (by simp));clear HK H2 HRO HST kd cz HHS;generalize wr.drewN m5=w6 at *;obtain ⟨fb,fo,bb,bo,bcp,rfl,c2,hbare⟩:=HBF.o b hlb w6 (d3 b) HK5.o (HS5.o b (Nat.le_refl _) hlb) HDB.o;have c4:=C4.o _ HK5.o;have HBR:=hid (zfB hbare);clear hbare;go_upto_region 12 with (go_at_call 137;refine HBR.o.mono ?_;rintro e w7 ⟨v7,rfl,h7,k7⟩)
      have HKN:=hid (HK5.o.fresh k7 (fun x hx=>by have:=HDB.o;simp at hx;omega));rcases h7 with ⟨k,hk,rfl,hbad,hgood⟩ | ⟨rfl,hgood⟩
      ·have hk0:(0:Int)≤(k:Int):=by omega
       have HFD:Box ((pts P).find? (zca P)=some (f,b,k)):=hid (zbo (HPT.o b k hlb hk) (HW.o.app (HWB.o.app (zcP hgood))) (by
        show (rch (zr (zf P f)) [0] b && jH (zq (zf P f) b) (inS P (zf P f) b) k)=true;rw[HM.o,hbad]
        rfl))
       clear hbad hgood hk;go_wp2_with (go_at_call 135;refine (zaR _ _ _ _ _).mono ?_;rintro e w8 ⟨p8,rfl,h8,k8⟩);go_ret;unfold qR;rw[HFD.o];exact ⟨p8,rfl,h8,HKN.o.quiet k8⟩
      ·have HWN:=hid (zcP (P:=P) (f:=f) (b:=b) (n:=(zq (zf P f) b).code.length+1) (fun i hi=>hgood i (by omega)))
       clear hgood;go_wp2_with fail;go_roundw
       case rel=>exact ⟨b+1,by omega,by go_num,HKN,hid (H25.o.kept k7 (by have:=HD2.o;simp;omega)),hid (HR5.o.kept k7 (by have:=HDP.o;simp;omega)),hid (fun j h1 h2=>(HS5.o j (by omega) h2).kept k7 (by have:=HINJ.o j b h2 hlb (by omega);simp;omega)),hid (by rw[qr];exact HWB.o.app HWN.o)⟩
       case measure=>simp[intOf];omega
    ·obtain rfl:b=n:=by omega
     rw[← HNB.o] at HWB;go_wp2_with fail;go_roundw
     case rel=>exact ⟨f+1,by omega,by go_num,HK,hid (by rw[jc];exact HW.o.app HWB.o)⟩
     case measure=>simp[intOf];omega
  ·obtain rfl:f=N:=by omega
   have HFD:Box ((pts P).find? (zca P)=none):=hid (JB (by unfold pts;rw[HN.o];exact HW.o));go_wp2;go_ret;unfold qR;rw[HFD.o];exact ⟨rfl,HK.o⟩
def bkF(f m:Nat):List (Nat × Nat × Nat):=(List.range m).map fun b=>(f,b,0)
def bkP(P:Pr8)(k:Nat):List (Nat × Nat × Nat):=(List.range k).flatMap fun f=>bkF f (zf P f).blocks.length
def bks(P:Pr8):List (Nat × Nat × Nat):=bkP P P.funcs.length
def jr(P:Pr8)(q:Nat × Nat × Nat):Bool:= !rch (zr (zf P q.1)) [0] q.2.1
theorem QL(f m:Nat):bkF f (m+1)=bkF f m ++ [(f,m,0)]:=by unfold bkF;rw[List.range_succ,List.map_append];rfl
theorem QQ(P:Pr8)(k:Nat):bkP P (k+1)=bkP P k ++ bkF k (zf P k).blocks.length:=by unfold bkP;rw[List.range_succ,List.flatMap_append,List.flatMap_singleton]
theorem JD(f:Nat):∀ {b m:Nat},b<m→∃ r,bkF f m=bkF f b ++ ((f,b,0) :: r)
 | b,0,h=>absurd h (Nat.not_lt_zero _)
 | b,m+1,h=>by
  by_cases e:b=m
  ·subst e
   exact ⟨[],by rw[QL]⟩
  ·obtain ⟨r,hr⟩:=JD f (b:=b) (m:=m) (by omega)
   exact ⟨r ++ [(f,m,0)],by rw[QL,hr];simp⟩
theorem zdE(P:Pr8):∀ {f m:Nat},f<m→∃ r,bkP P m=bkP P f ++ (bkF f (zf P f).blocks.length ++ r)
 | f,0,h=>absurd h (Nat.not_lt_zero _)
 | f,m+1,h=>by
  by_cases e:f=m
  ·subst e
   exact ⟨[],by rw[QQ,List.append_nil]⟩
  ·obtain ⟨r,hr⟩:=zdE P (f:=f) (m:=m) (by omega)
   exact ⟨r ++ bkF m (zf P m).blocks.length,by rw[QQ,hr];simp[List.append_assoc]⟩
theorem ziT{f b:Nat}(hf:f<P.funcs.length)(hb:b<(zf P f).blocks.length)(hw:ZL (jr P) (bkP P f ++ bkF f b))(h:jr P (f,b,0)=true):(bks P).find? (jr P)=some (f,b,0):=by
 obtain ⟨r1,h1⟩:=zdE P hf;obtain ⟨r2,h2⟩:=JD f hb;have e:bks P=(bkP P f ++ bkF f b) ++ (f,b,0) :: (r2 ++ r1):=by
  unfold bks;rw[h1,h2];simp[List.append_assoc]
 rw[e,List.find?_append,List.find?_eq_none.2 (fun q hq=>by simp[hw q hq]),List.find?_cons_of_pos h];rfl
theorem ze3(hw:ZL (jr P) (bkP P P.funcs.length)):(bks P).find? (jr P)=none:=List.find?_eq_none.2 fun q hq=>by simp[hw q hq]
theorem ZL.one{B:Nat × Nat × Nat→Bool}{q:Nat × Nat × Nat}(h:B q=false):ZL B [q]:=fun x hx=>by rw[List.mem_singleton.1 hx];exact h
theorem zdf(h:PrC w pb po P)(hz:SzP P):
  Calls Tryz.prog 85 #[pointer (some ⟨pb,po,none⟩)] w (qR ((bks P).find? (jr P)) 6 w):=by
 have HFL:Box (∀ (w':World) (f:Nat),za [] w w'→f<P.funcs.length→Calls Tryz.prog 131 #[pointer (some ⟨pb,po,none⟩),int i64 (f:Int)] w' fun e w''=>∃ a,e=.returned (agg #[int i64 ((zr (zf P f)).length:Int),.slice a (zr (zf P f)).length (zr (zf P f)).length])∧GAt w'' w''.heap.size a (zr (zf P f))∧za [] w' w''):=hid fun w' f k hf=>Q4 (PrC.stays _ _ _ _ _ k h) hf (hz.bk f hf);have HRE:Box (∀ (w':World) (f:Nat) (a:Option Addr) (B:Nat),f<P.funcs.length→GAt w' B a (zr (zf P f))→B≤w'.heap.size→Calls Tryz.prog 133 #[agg #[int i64 ((zr (zf P f)).length:Int),.slice a (zr (zf P f)).length (zr (zf P f)).length]] w' fun e w''=>∃ b,e=.returned (pointer (some ⟨b,0,none⟩))∧zy w'' b (rch (zr (zf P f)) [0])∧za [] w' w''∧w'.heap.size≤b):=hid fun w' f a B hf hG hB=>jM (zr (zf P f)) (ja (hz.bk f hf)) a _ B w' hG hB;have HMY:Box (∀ (w':World) (f:Nat) (a:Option Addr) (B:Nat),f<P.funcs.length→GAt w' B a (zr (zf P f))→Calls Tryz.prog 132 #[agg #[int i64 ((zr (zf P f)).length:Int),.slice a (zr (zf P f)).length (zr (zf P f)).length]] w' fun e w''=>e=.returned (.bool true)∧za [] w' w''):=hid fun w' f a B hf hG=>QR (zr (zf P f)) (ja (hz.bk f hf)) a _ B w' hG;have HRF:Box (∀ f,f<P.funcs.length→Fit (rch (zr (zf P f)) [0])):=hid fun f hf=>ZD (ja (hz.bk f hf)) [0] zC Zd;obtain ⟨fa,fcp,H⟩:=h.fns;have h4:=H.cell;have HZ:=hid hz;have hN:=hz.fn;clear h H hz;obtain ⟨N,hNe⟩:∃ N,P.funcs.length=N:=⟨_,rfl⟩;have HN:=hid hNe;rw[hNe] at HFL HRE HMY HRF h4 hN;clear hNe;go_enter Tryz.func85,Tryz.ntmps85;go_wp2_with fail;clear h4
 go_loopw [14] (fun i wr=>∃ f:Nat,f≤N∧i=int i64 (f:Int)∧Box (za [] w wr)∧Box (ZL (jr P) (bkP P f))) (fun i _=>N - (intOf i).toNat)
 case atStart=>exact ⟨0,by omega,rfl,hid (za.refl _ _),hid (ZL.nil _)⟩
 case round=>
  obtain ⟨f,hf,rfl,HK,HW⟩:=hrel;by_cases hlt:f<N
  ·have hlt':(f:Int)<(N:Int):=by omega
   have HF1:=hid fun (w':World) (k:za [] w w')=>HFL.o w' f k hlt;have HR1:=hid fun (w':World) (a:Option Addr) (B:Nat)=>HRE.o w' f a B hlt;have HM1:=hid fun (w':World) (a:Option Addr) (B:Nat)=>HMY.o w' f a B hlt;have HHF:=hid (HRF.o f hlt);obtain ⟨n,hn⟩:∃ n,(zr (zf P f)).length=n:=⟨_,rfl⟩;have HBL:Box ((zf P f).blocks.length=n):=hid (by rw[← zS];exact hn);rw[hn] at HF1 HR1 HM1;clear hn;have hn6:n≤600:=by rw[← HBL.o];exact HZ.o.bk f (by rw[HN.o];exact hlt)
   go_upto_region 7 with (go_at_call 131;refine (HF1.o _ HK.o).mono ?_;rintro e w1 ⟨a,rfl,hg1,k1⟩)
   have ka:=za.alloc [] w1 (.cells #[int i64 (n:Int),.slice a n n] 195);have HBX:=hid (zX.new w1 (int i64 (n:Int)) (.slice a n n));have HGR:Box (GAt (w1.alloc (.cells #[int i64 (n:Int),.slice a n n] 195)) w1.heap.size a (zr (zf P f))):=hid (hg1.quiet ka);have HK1:=hid ((HK.o.quiet k1).quiet ka);clear ka hg1 k1 HK;generalize w1.alloc (.cells #[int i64 (n:Int),.slice a n n] 195)=W1 at *;generalize w1.heap.size=gb at *;have c0:=HBX.o.c0;have c1:=HBX.o.c1;go_upto_region 8 with (go_at_call 132;refine (HM1.o _ a gb HGR.o).mono ?_;rintro e w2 ⟨rfl,k2⟩)
   have HBX2:=hid (HBX.o.kept k2 (by simp));have HK2:=hid (HK1.o.quiet k2);have HGR2:=hid (HGR.o.quiet k2);have hgb:gb≤w2.heap.size:=Nat.le_of_lt HBX2.o.lt;clear c0 c1 HBX HGR HK1 k2;have c0:=HBX2.o.c0;have c1:=HBX2.o.c1;go_upto_region 9 with (go_at_call 133;refine (HR1.o _ a gb HGR2.o hgb).mono ?_;rintro e w3 ⟨b3,rfl,h3,k3,n3⟩)
   have HBX3:=hid (HBX2.o.kept k3 (by simp));have HK3:=hid (HK2.o.quiet k3);have H3:=hid h3;clear c0 c1 HBX2 HK2 HGR2 h3 k3 n3 hgb;have c0:=HBX3.o.c0;go_wp2_with fail;clear c0
   go_loopw [27] (fun i wr=>∃ b:Nat,b≤n∧i=int i64 (b:Int)∧Box (za [] w wr)∧Box (zy wr b3 (rch (zr (zf P f)) [0]))∧Box (ZL (jr P) (bkF f b))) (fun i _=>n - (intOf i).toNat)
   case atStart=>exact ⟨0,by omega,rfl,HK3,H3,hid (ZL.nil _)⟩
   case round=>
    clear HK3 H3;obtain ⟨b,hb,rfl,HK,H3,HWB⟩:=hrel;by_cases hlb:b<n
    ·have hlb':(b:Int)<(n:Int):=by omega
     have HHS:Box (Calls Tryz.prog 134 #[pointer (some ⟨b3,0,none⟩),int i64 (b:Int)] wr fun e w''=>e=.returned (.bool (rch (zr (zf P f)) [0] b))∧∃ m,w''=wr.drewN m):=hid (by
      have:=jK b3 (rch (zr (zf P f)) [0]) (b:Int) wr H3.o HHF.o;unfold jP at this;rw[Int.toNat_natCast,decide_eq_true (by omega:(0:Int)≤(b:Int)),Bool.true_and] at this
      exact this)
     cases hm:rch (zr (zf P f)) [0] b with
     | true=>
      rw[hm] at HHS;have HWN:=hid (ZL.one (B:=jr P) (q:=(f,b,0)) (by show (!rch (zr (zf P f)) [0] b)=false;rw[hm];rfl));clear hm;go_wp2_with (go_at_call 134;refine HHS.o.mono ?_;rintro e w5 ⟨rfl,m5,rfl⟩);have kd:=za.drewN [] wr m5;go_roundw
      case rel=>exact ⟨b+1,by omega,by go_num,hid (HK.o.quiet kd),hid (H3.o.kept kd (by simp)),hid (by rw[QL];exact HWB.o.app HWN.o)⟩
      case measure=>simp[intOf];omega
     | false=>
      rw[hm] at HHS;have HFD:Box ((bks P).find? (jr P)=some (f,b,0)):=hid (ziT (by rw[HN.o];exact hlt) (by rw[HBL.o];exact hlb) (HW.o.app HWB.o) (by show (!rch (zr (zf P f)) [0] b)=true;rw[hm];rfl));clear hm;go_wp2_with (first | (go_at_call 134;refine HHS.o.mono ?_;rintro e w5 ⟨rfl,m5,rfl⟩) | (go_at_call 135;refine (zaR _ _ _ _ _).mono ?_;rintro e w8 ⟨p8,rfl,h8,k8⟩));go_ret;unfold qR;rw[HFD.o];exact ⟨p8,rfl,h8,(HK.o.quiet (za.drewN [] _ _)).quiet k8⟩
    ·obtain rfl:b=n:=by omega
     rw[← HBL.o] at HWB;go_wp2_with fail;go_roundw
     case rel=>exact ⟨f+1,by omega,by go_num,HK,hid (by rw[QQ];exact HW.o.app HWB.o)⟩
     case measure=>simp[intOf];omega
  ·obtain rfl:f=N:=by omega
   have HFD:Box ((bks P).find? (jr P)=none):=hid (ze3 (by rw[HN.o];exact HW.o));go_wp2;go_ret;unfold qR;rw[HFD.o];exact ⟨rfl,HK.o⟩
def zb3(P:Pr8)(f:Fu8)(x:In8):Bool:=qJ P f x && (rtB P f x && jp P f x)
def wfO(P:Pr8):Option (Int × Int × Int × Int):=
 if Z7 P=false then some (2, -1,0,0) else
 match zP P with
 | some q=>some (3,q)
 | none=>if za7 P=false then some (7, -1,0,0) else
  match QV P (zb3 P) with
  | some q=>some (4,q)
  | none=>match (bks P).find? (jr P) with
   | some q=>some (6,ptI q)
   | none=>match (pts P).find? (zca P) with
    | some q=>some (5,ptI q)
    | none=>none
def zhh(o:Option (Int × Int × Int × Int))(w:World)(e:Ending)(w':World):Prop:=match o with
 | none=>e=.returned .nilIface∧za [] w w'
 | some q=>∃ p r,e=.returned (Zx p)∧zcX w' p q.1 q.2.1 q.2.2.1 q.2.2.2 (Zx r)∧Zz w' r q.1 q.2.1 q.2.2.1 q.2.2.2∧r<p∧za [] w w'
theorem ziX(y f b i:Int)(r:Nat)(w:World):Calls Tryz.prog 135 #[int i64 y,agg #[int i64 f,int i64 b,int i64 i],Zx r] w fun e w'=>e=.returned (Zx (w.heap.size+1))∧zcX w' (w.heap.size+1) y f b i (Zx r)∧za [] w w':=by
 have k2:=((za.refl [] w).step (za.alloc [] w (.cells #[int i64 f,int i64 b,int i64 i] 99))).step (za.alloc [] _ (.cells #[int i64 y,int i64 f,int i64 b,int i64 i,Zx r] 208));have hn:=zd (w.alloc (.cells #[int i64 f,int i64 b,int i64 i] 99)) (.cells #[int i64 y,int i64 f,int i64 b,int i64 i,Zx r] 208);rw[World.size_alloc] at hn;have H:=hid (show zcX _ (w.heap.size+1) y f b i (Zx r) from hn);have K:=hid k2;clear k2 hn;go_enter Tryz.func135,Tryz.ntmps135;go_wp2;go_ret;exact ⟨rfl,H.o,K.o⟩
theorem zcS(v u t:Value)(w:World):(callFunc 135 #[v,u,t]).run Tryz.prog w=.ok (.enter 135 #[v,u,t]) w:=by go_simp
theorem zaY{ad:Addr}{ev:Operand→Value}{oi:Oper}{y:Operand}(hc:w.cell? ad=some v)(ho:oi.op=.load 204 y)(hy:ev y=.pointer (some ad)):(execOp ev oi).run Tryz.prog w=.ok (.value v) w:=by simp[execOp,ho,hy,go_sem,hc]
def nE(n:Nat)(y f b i:Int)(v:Value)(l:Array Bool)(w:World):Prop:=bif l.getD 9 false then zcX w (n+1) y f b i v else w.heap.size=n
theorem nE.keep{n:Nat}{l:Array Bool}(h:nE n y f b i v l w)(hi:k≠9):nE n y f b i v (l.setIfInBounds k true) w:=by
 unfold nE;rw[js hi];exact h
theorem nE.start{n m:Nat}(h:w.heap.size=n):nE n y f b i v (Array.replicate m false) w:=by
 unfold nE;have:(Array.replicate m false).getD 9 false=false:=by
  by_cases hn:9<m
  ·simp[Array.getD,hn]
  ·simp[Array.getD,hn]
 rw[this];exact h
theorem zU{r:Nat}(hg:zbZ w)(h:Zz w r y f b i):Calls Tryz.prog 87 #[Zx r] w (zhh (some (y,f,b,i)) w):=by
 have ka:=za.alloc [] w (.cells #[.pointer none] 204);have HA:=hid (zi3 r w.heap.size _ (hg.quiet ka) (zd w (.cells #[.pointer none] 204)));have HH:=hid (h.quiet ka);have KA:=hid ka;have hlt:=zx h;have HNW:Box (∀ w':World,Calls Tryz.prog 135 #[int i64 y,agg #[int i64 f,int i64 b,int i64 i],Zx r] w' fun e w2=>e=.returned (Zx (w'.heap.size+1))∧zcX w2 (w'.heap.size+1) y f b i (Zx r)∧za [] w' w2):=hid fun w'=>ziX y f b i r w';clear hg h ka;go_enter Tryz.func87,Tryz.ntmps87;go_wp2_with fail;generalize w.alloc (.cells #[.pointer none] 204)=WA at *;obtain ⟨t,ht⟩:∃ t,t=w.heap.size:=⟨_,rfl⟩;rw[← ht] at HA ⊢;have HT:=hid ht;clear ht;refine HA.o.mono ?_;rintro e w1 ⟨rfl,k1,h1⟩;have K1:Box (za [] w w1):=hid (KA.o.trans k1 (fun x hx hl=>by have:=HT.o;simp at hx;omega));have R1:Box (Zz w1 r y f b i):=hid ((k1.block r (zx HH.o) (by have:=HT.o;simp;omega)).trans HH.o);have c0:=zc h1 0;have d0:=zc (show w1.heap[r]? = _ from R1.o) 0;have d1:=zc (show w1.heap[r]? = _ from R1.o) 1;have d2:=zc (show w1.heap[r]? = _ from R1.o) 2;have d3:=zc (show w1.heap[r]? = _ from R1.o) 3;clear k1 h1 HA;go_upto_region 4 with fail;refine Qa (fun w'=>za [] w1 w') (nE w1.heap.size y f b i (Zx r)) 19 [pointer (some ⟨r,0,none⟩),pointer (some ⟨r,0,none⟩),pointer (some ⟨r,0,none⟩),int i64 y,pointer (some ⟨r,0,none⟩),pointer (some ⟨r,0,none⟩),pointer (some ⟨r,1,none⟩),agg #[int i64 f,int i64 b,int i64 i],Zx r,Zx (w1.heap.size+1),Zx (w1.heap.size+1)] (by kernel_rfl) (by rfl) (by kernel_rfl) (za.drew [] _) (nE.start rfl) (fun A hA=> ?_);simp only[zE,Act.put,sTA,sC0,sCS] at hA;subst hA;refine ⟨gFY (fun _ k9=>zaY (zb k9 c0) rfl rfl) (gFR (gFR (gFY (fun _ k9=>zZ (zb k9 d0) rfl rfl) (gFY (fun _ k9=>zaY (zb k9 c0) rfl rfl) (gFR (gFR (gFY (fun _ k9=>ziD (zb k9 d1) (zb k9 d2) (zb k9 d3) rfl rfl) (gFR (zI.cons (zbI (by rfl) 135 #[int i64 y,agg #[int i64 f,int i64 b,int i64 i],Zx r] (fun w=>zia rfl rfl rfl rfl rfl (zcS _ _ _ w)) (fun l w9 hi9 hu9 _ hs9 he9=>by have hsz:w9.heap.size=w1.heap.size:=(by unfold nE at he9;rw[hu9] at he9;exact he9);refine (HNW.o w9).mono ?_;rw[hsz];rintro e w7 ⟨h7,r7,k7⟩;exact ⟨h7,hs9.quiet k7,by unfold nE;rw[jj hi9];exact r7⟩)) (gFR (zI.nil))))))))))),fun l w8 hl8 k8 h8=> ?_⟩;have h9:zcX w8 (w1.heap.size+1) y f b i (Zx r):=by
  have hb:l.getD 9 false=true:=hl8 9 (by decide);unfold nE at h8;rw[hb] at h8;exact h8
 have H9:=hid h9;have K8:=hid (K1.o.quiet k8);have R8:=hid (R1.o.quiet k8);have hrl:r<w1.heap.size:=zx R1.o;clear hl8 h8 k8 h9;go_wp2_with fail;go_ret;exact ⟨_,r,rfl,H9.o,R8.o,by omega,K8.o⟩
theorem Jy(w:World):(w.alloc (.cells #[.func (.func 81) #[] #[],.func (.func 82) #[] #[],.func (.func 83) #[] #[],.func (.func 84) #[] #[],.func (.func 85) #[] #[],.func (.func 86) #[] #[]] 106)).heap[w.heap.size]? = some (.cells #[.func (.func 81) #[] #[],.func (.func 82) #[] #[],.func (.func 83) #[] #[],.func (.func 84) #[] #[],.func (.func 85) #[] #[],.func (.func 86) #[] #[]] 106 (0,0)):=zd _ _
def j8(P:Pr8):Nat→Option (Int × Int × Int × Int)
 | 0=>if Z7 P=false then some (2, -1,0,0) else none
 | 1=>(zP P).map fun q=>(3,q)
 | 2=>if za7 P=false then some (7, -1,0,0) else none
 | 3=>(QV P (zb3 P)).map fun q=>(4,q)
 | 4=>((bks P).find? (jr P)).map fun q=>(6,ptI q)
 | 5=>((pts P).find? (zca P)).map fun q=>(5,ptI q)
 | _=>none
theorem ju{q:Int × Int × Int × Int}(hk:k<6)(hb:∀ j,j<k→j8 P j=none)(h:j8 P k=some q):wfO P=some q:=by
 have b0:0<k→¬ Z7 P=false:=fun hk e=>by have:=hb 0 hk;simp[j8,e] at this
 have b1:1<k→zP P=none:=fun hk=>by have:=hb 1 hk;simpa [j8] using this
 have b2:2<k→¬ za7 P=false:=fun hk e=>by have:=hb 2 hk;simp[j8,e] at this
 have b3:3<k→QV P (zb3 P)=none:=fun hk=>by have:=hb 3 hk;simpa [j8] using this
 have b4:4<k→(bks P).find? (jr P)=none:=fun hk=>by
  have:=hb 4 hk;simp only[j8] at this;exact Option.map_eq_none_iff.1 this
 unfold wfO
 match k,hk,h with
 | 0,_,h=>
  by_cases e:Z7 P=false
  ·simp[j8,e] at h
   rw[if_pos e, ← h]
  ·simp[j8,e] at h
 | 1,_,h=>
  rw[if_neg (b0 (by omega))];simp only[j8] at h;obtain ⟨q',e,rfl⟩:=Option.map_eq_some_iff.1 h;rw[e]
 | 2,_,h=>
  rw[if_neg (b0 (by omega)),b1 (by omega)];by_cases e:za7 P=false
  ·simp[j8,e] at h
   simp only[if_pos e, ← h]
  ·simp[j8,e] at h
 | 3,_,h=>
  rw[if_neg (b0 (by omega)),b1 (by omega)];simp only[j8] at h;obtain ⟨q',e,rfl⟩:=Option.map_eq_some_iff.1 h;simp only[if_neg (b2 (by omega)),e]
 | 4,_,h=>
  rw[if_neg (b0 (by omega)),b1 (by omega)];simp only[j8] at h;obtain ⟨q',e,rfl⟩:=Option.map_eq_some_iff.1 h;simp only[if_neg (b2 (by omega)),b3 (by omega),e]
 | 5,_,h=>
  rw[if_neg (b0 (by omega)),b1 (by omega)];simp only[j8] at h;obtain ⟨q',e,rfl⟩:=Option.map_eq_some_iff.1 h;simp only[if_neg (b2 (by omega)),b3 (by omega),b4 (by omega),e]
theorem zfy(hb:∀ j,j<6→j8 P j=none):wfO P=none:=by
 have b0:¬ Z7 P=false:=fun e=>by have:=hb 0 (by omega);simp[j8,e] at this
 have b1:zP P=none:=by have:=hb 1 (by omega);simpa [j8] using this
 have b2:¬ za7 P=false:=fun e=>by have:=hb 2 (by omega);simp[j8,e] at this
 have b3:QV P (zb3 P)=none:=by have:=hb 3 (by omega);simpa [j8] using this
 have b4:(bks P).find? (jr P)=none:=by
  have:=hb 4 (by omega);simp only[j8] at this;exact Option.map_eq_none_iff.1 this
 have b5:(pts P).find? (zca P)=none:=by
  have:=hb 5 (by omega);simp only[j8] at this;exact Option.map_eq_none_iff.1 this
 unfold wfO;rw[if_neg b0,b1];simp only[if_neg b2,b3,b4,b5]
def jG(o:Option (Int × Int × Int × Int))(w:World)(e:Ending)(w':World):Prop:=match o with
 | none=>e=.returned .nilIface∧za [] w w'
 | some q=>∃ r,e=.returned (Zx r)∧Zz w' r q.1 q.2.1 q.2.2.1 q.2.2.2∧za [] w w'
theorem zfS(hb:Z7 P=true):SzP P:=by
 have sm10:=Zn (Zp hb);refine ⟨Nat.le_trans sm10.fn (by decide),fun f hf=>(zcz hb hf).2.1,fun f hf=>Nat.le_trans (zcz hb hf).2.2 (by decide),fun f hf=>Nat.le_trans (zcz hb hf).1 (by decide),fun f b hf=> ?_,fun f b k hf hk=> ?_⟩
 ·by_cases hb':b<(zf P f).blocks.length
  ·exact Nat.le_trans (sm10.code hf hb') (by decide)
  ·unfold zq
   rw[zbd hb'];simp
 ·by_cases hb':b<(zf P f).blocks.length
  ·exact zas hb f b k hf hb' hk
  ·unfold zq at hk
   rw[zbd hb'] at hk;simp at hk
def zg4:Nat→Nat
 | 0=>81
 | 1=>82
 | 2=>83
 | 3=>84
 | 4=>85
 | _=>86
theorem zgv(h:PrC w pb po P)(hT:jf w)(hk:k<6)(hb:∀ j,j<k→j8 P j=none):Calls Tryz.prog (zg4 k) #[pointer (some ⟨pb,po,none⟩)] w (jG (j8 P k) w):=by
 have b0:0<k→Z7 P=true:=fun hk=>by
  cases e:Z7 P with
  | true=>rfl
  | false=>have:=hb 0 hk;simp[j8,e] at this
 match k,hk with
 | 0,_=>
  refine (zbW h).mono ?_;intro e w' h';show jG (if Z7 P=false then some (2, -1,0,0) else none) w e w';cases hbn:Z7 P with
  | true=>rw[hbn] at h';exact h'
  | false=>rw[hbn] at h';exact h'
 | 1,_=>
  refine (zdX h (zas (b0 (by omega)))).mono ?_;intro e w' h';show jG ((zP P).map fun q=>(3,q)) w e w';cases hn:zP P with
  | none=>rw[hn] at h';exact h'
  | some q=>rw[hn] at h';exact h'
 | 2,_=>
  refine (zfo h).mono ?_;intro e w' h';show jG (if za7 P=false then some (7, -1,0,0) else none) w e w';cases hbn:za7 P with
  | true=>rw[hbn] at h';exact h'
  | false=>rw[hbn] at h';exact h'
 | 3,_=>
  have hs:=Zn (Zp (b0 (by omega)));refine (zb2 h hs (g:=zb3 P) (fun w' f b i a cp kk hf hb2 hi hz=> ?_)).mono ?_
  ·exact zeT (PrC.stays _ _ _ _ _ kk h) hf _ hz (zas (b0 (by omega)) f b i hf hb2 hi)
  intro e w' h';show jG ((QV P (zb3 P)).map fun q=>(4,q)) w e w';cases hn:QV P (zb3 P) with
  | none=>rw[hn] at h';exact h'
  | some q=>rw[hn] at h';exact h'
 | 4,_=>
  refine (zdf h (zfS (b0 (by omega)))).mono ?_;intro e w' h';show jG (((bks P).find? (jr P)).map fun q=>(6,ptI q)) w e w';cases hn:(bks P).find? (jr P) with
  | none=>rw[hn] at h';exact h'
  | some q=>rw[hn] at h';exact h'
 | 5,_=>
  refine (zdQ h hT (zfS (b0 (by omega)))).mono ?_;intro e w' h';show jG (((pts P).find? (zca P)).map fun q=>(5,ptI q)) w e w';cases hn:(pts P).find? (zca P) with
  | none=>rw[hn] at h';exact h'
  | some q=>rw[hn] at h';exact h'
theorem zby(h:PrC w pb po P)(hg:zbZ w)(hT:jf w):Calls Tryz.prog 53 #[pointer (some ⟨pb,po,none⟩)] w (zhh (wfO P) w):=by
 have HP:=hid h;have HG:=hid hg;have HT:=hid hT;have HASK:=hid fun (w':World) (k:Nat) (hk:k<6) (kp:za [] w w') (hb:∀ j,j<k→j8 P j=none)=>zgv (PrC.stays _ _ _ _ _ kp h) (hT.kept kp (by simp)) hk hb;have HN:=hid (Jy w);have HKA:=hid (za.alloc [] w (.cells #[.func (.func 81) #[] #[],.func (.func 82) #[] #[],.func (.func 83) #[] #[],.func (.func 84) #[] #[],.func (.func 85) #[] #[],.func (.func 86) #[] #[]] 106));clear h hg hT;go_enter Tryz.func53,Tryz.ntmps53;go_wp2_with fail;generalize w.alloc (.cells #[.func (.func 81) #[] #[],.func (.func 82) #[] #[],.func (.func 83) #[] #[],.func (.func 84) #[] #[],.func (.func 85) #[] #[],.func (.func 86) #[] #[]] 106)=W at *;generalize w.heap.size=q at *
 go_loopw [8] (fun kv wr=>∃ k:Nat,k≤6∧kv=int i64 (k:Int)∧Box (za [] W wr)∧Box (∀ j,j<k→j8 P j=none)) (fun kv _=>6 - (intOf kv).toNat)
 case atStart=>exact ⟨0,by omega,rfl,hid (za.refl _ _),hid fun j hj=>by omega⟩
 case round=>
  obtain ⟨k,hk,rfl,HK,HJ⟩:=hrel;have hq:=ze HN.o HK.o;by_cases hk0:k=0
  ·subst hk0
   have c0:=zc hq 0;have HA:=hid (HASK.o wr 0 (by omega) (HKA.o.quiet HK.o) HJ.o);unfold zg4 at HA;clear hq hk;go_wp2_with fail;refine HA.o.mono ?_;intro e w3 h3;clear c0 HA;cases ho:j8 P 0 with
   | none=>
    rw[ho] at h3;obtain ⟨rfl,k3⟩:=h3;have K3:=hid (HK.o.quiet k3);have HO:=hid ho;clear k3 ho;go_wp2_with fail;go_roundw
    case rel=>
     refine ⟨1,by omega,by go_num,K3,hid fun j hj=> ?_⟩;by_cases hjk:j=0
     ·subst hjk
      exact HO.o
     ·exact HJ.o j (by omega)
    case measure=>simp[intOf]
   | some z=>
    rw[ho] at h3;obtain ⟨r,rfl,hr,k3⟩:=h3;have K3:=hid (HKA.o.quiet (HK.o.quiet k3));have HO:Box (wfO P=some z):=hid (ju (by omega) HJ.o ho);have HW:=hid (zU (HG.o.quiet (HKA.o.quiet (HK.o.quiet k3))) hr);clear k3 ho hr;go_wp2_with fail;refine HW.o.mono ?_;rintro e w4 ⟨p4,r4,rfl,h41,h42,h43,k4⟩;have H4:=hid (And.intro h41 (And.intro h42 (And.intro h43 (K3.o.quiet k4))));clear h41 h42 h43 k4 HW;go_wp2_with fail;go_ret;rw[HO.o];exact ⟨p4,r4,rfl,H4.o.1,H4.o.2.1,H4.o.2.2.1,H4.o.2.2.2⟩
  by_cases hk1:k=1
  ·subst hk1
   have c0:=zc hq 1;have HA:=hid (HASK.o wr 1 (by omega) (HKA.o.quiet HK.o) HJ.o);unfold zg4 at HA;clear hq hk;go_wp2_with fail;refine HA.o.mono ?_;intro e w3 h3;clear c0 HA;cases ho:j8 P 1 with
   | none=>
    rw[ho] at h3;obtain ⟨rfl,k3⟩:=h3;have K3:=hid (HK.o.quiet k3);have HO:=hid ho;clear k3 ho;go_wp2_with fail;go_roundw
    case rel=>
     refine ⟨2,by omega,by go_num,K3,hid fun j hj=> ?_⟩;by_cases hjk:j=1
     ·subst hjk
      exact HO.o
     ·exact HJ.o j (by omega)
    case measure=>simp[intOf]
   | some z=>
    rw[ho] at h3;obtain ⟨r,rfl,hr,k3⟩:=h3;have K3:=hid (HKA.o.quiet (HK.o.quiet k3));have HO:Box (wfO P=some z):=hid (ju (by omega) HJ.o ho);have HW:=hid (zU (HG.o.quiet (HKA.o.quiet (HK.o.quiet k3))) hr);clear k3 ho hr;go_wp2_with fail;refine HW.o.mono ?_;rintro e w4 ⟨p4,r4,rfl,h41,h42,h43,k4⟩;have H4:=hid (And.intro h41 (And.intro h42 (And.intro h43 (K3.o.quiet k4))));clear h41 h42 h43 k4 HW;go_wp2_with fail;go_ret;rw[HO.o];exact ⟨p4,r4,rfl,H4.o.1,H4.o.2.1,H4.o.2.2.1,H4.o.2.2.2⟩
  by_cases hk2:k=2
  ·subst hk2
   have c0:=zc hq 2;have HA:=hid (HASK.o wr 2 (by omega) (HKA.o.quiet HK.o) HJ.o);unfold zg4 at HA;clear hq hk;go_wp2_with fail;refine HA.o.mono ?_;intro e w3 h3;clear c0 HA;cases ho:j8 P 2 with
   | none=>
    rw[ho] at h3;obtain ⟨rfl,k3⟩:=h3;have K3:=hid (HK.o.quiet k3);have HO:=hid ho;clear k3 ho;go_wp2_with fail;go_roundw
    case rel=>
     refine ⟨3,by omega,by go_num,K3,hid fun j hj=> ?_⟩;by_cases hjk:j=2
     ·subst hjk
      exact HO.o
     ·exact HJ.o j (by omega)
    case measure=>simp[intOf]
   | some z=>
    rw[ho] at h3;obtain ⟨r,rfl,hr,k3⟩:=h3;have K3:=hid (HKA.o.quiet (HK.o.quiet k3));have HO:Box (wfO P=some z):=hid (ju (by omega) HJ.o ho);have HW:=hid (zU (HG.o.quiet (HKA.o.quiet (HK.o.quiet k3))) hr);clear k3 ho hr;go_wp2_with fail;refine HW.o.mono ?_;rintro e w4 ⟨p4,r4,rfl,h41,h42,h43,k4⟩;have H4:=hid (And.intro h41 (And.intro h42 (And.intro h43 (K3.o.quiet k4))));clear h41 h42 h43 k4 HW;go_wp2_with fail;go_ret;rw[HO.o];exact ⟨p4,r4,rfl,H4.o.1,H4.o.2.1,H4.o.2.2.1,H4.o.2.2.2⟩
  by_cases hk3:k=3
  ·subst hk3
   have c0:=zc hq 3;have HA:=hid (HASK.o wr 3 (by omega) (HKA.o.quiet HK.o) HJ.o);unfold zg4 at HA;clear hq hk;go_wp2_with fail;refine HA.o.mono ?_;intro e w3 h3;clear c0 HA;cases ho:j8 P 3 with
   | none=>
    rw[ho] at h3;obtain ⟨rfl,k3⟩:=h3;have K3:=hid (HK.o.quiet k3);have HO:=hid ho;clear k3 ho;go_wp2_with fail;go_roundw
    case rel=>
     refine ⟨4,by omega,by go_num,K3,hid fun j hj=> ?_⟩;by_cases hjk:j=3
     ·subst hjk
      exact HO.o
     ·exact HJ.o j (by omega)
    case measure=>simp[intOf]
   | some z=>
    rw[ho] at h3;obtain ⟨r,rfl,hr,k3⟩:=h3;have K3:=hid (HKA.o.quiet (HK.o.quiet k3));have HO:Box (wfO P=some z):=hid (ju (by omega) HJ.o ho);have HW:=hid (zU (HG.o.quiet (HKA.o.quiet (HK.o.quiet k3))) hr);clear k3 ho hr;go_wp2_with fail;refine HW.o.mono ?_;rintro e w4 ⟨p4,r4,rfl,h41,h42,h43,k4⟩;have H4:=hid (And.intro h41 (And.intro h42 (And.intro h43 (K3.o.quiet k4))));clear h41 h42 h43 k4 HW;go_wp2_with fail;go_ret;rw[HO.o];exact ⟨p4,r4,rfl,H4.o.1,H4.o.2.1,H4.o.2.2.1,H4.o.2.2.2⟩
  by_cases hk4:k=4
  ·subst hk4
   have c0:=zc hq 4;have HA:=hid (HASK.o wr 4 (by omega) (HKA.o.quiet HK.o) HJ.o);unfold zg4 at HA;clear hq hk;go_wp2_with fail;refine HA.o.mono ?_;intro e w3 h3;clear c0 HA;cases ho:j8 P 4 with
   | none=>
    rw[ho] at h3;obtain ⟨rfl,k3⟩:=h3;have K3:=hid (HK.o.quiet k3);have HO:=hid ho;clear k3 ho;go_wp2_with fail;go_roundw
    case rel=>
     refine ⟨5,by omega,by go_num,K3,hid fun j hj=> ?_⟩;by_cases hjk:j=4
     ·subst hjk
      exact HO.o
     ·exact HJ.o j (by omega)
    case measure=>simp[intOf]
   | some z=>
    rw[ho] at h3;obtain ⟨r,rfl,hr,k3⟩:=h3;have K3:=hid (HKA.o.quiet (HK.o.quiet k3));have HO:Box (wfO P=some z):=hid (ju (by omega) HJ.o ho);have HW:=hid (zU (HG.o.quiet (HKA.o.quiet (HK.o.quiet k3))) hr);clear k3 ho hr;go_wp2_with fail;refine HW.o.mono ?_;rintro e w4 ⟨p4,r4,rfl,h41,h42,h43,k4⟩;have H4:=hid (And.intro h41 (And.intro h42 (And.intro h43 (K3.o.quiet k4))));clear h41 h42 h43 k4 HW;go_wp2_with fail;go_ret;rw[HO.o];exact ⟨p4,r4,rfl,H4.o.1,H4.o.2.1,H4.o.2.2.1,H4.o.2.2.2⟩
  by_cases hk5:k=5
  ·subst hk5
   have c0:=zc hq 5;have HA:=hid (HASK.o wr 5 (by omega) (HKA.o.quiet HK.o) HJ.o);unfold zg4 at HA;clear hq hk;go_wp2_with fail;refine HA.o.mono ?_;intro e w3 h3;clear c0 HA;cases ho:j8 P 5 with
   | none=>
    rw[ho] at h3;obtain ⟨rfl,k3⟩:=h3;have K3:=hid (HK.o.quiet k3);have HO:=hid ho;clear k3 ho;go_wp2_with fail;go_roundw
    case rel=>
     refine ⟨6,by omega,by go_num,K3,hid fun j hj=> ?_⟩;by_cases hjk:j=5
     ·subst hjk
      exact HO.o
     ·exact HJ.o j (by omega)
    case measure=>simp[intOf]
   | some z=>
    rw[ho] at h3;obtain ⟨r,rfl,hr,k3⟩:=h3;have K3:=hid (HKA.o.quiet (HK.o.quiet k3));have HO:Box (wfO P=some z):=hid (ju (by omega) HJ.o ho);have HW:=hid (zU (HG.o.quiet (HKA.o.quiet (HK.o.quiet k3))) hr);clear k3 ho hr;go_wp2_with fail;refine HW.o.mono ?_;rintro e w4 ⟨p4,r4,rfl,h41,h42,h43,k4⟩;have H4:=hid (And.intro h41 (And.intro h42 (And.intro h43 (K3.o.quiet k4))));clear h41 h42 h43 k4 HW;go_wp2_with fail;go_ret;rw[HO.o];exact ⟨p4,r4,rfl,H4.o.1,H4.o.2.1,H4.o.2.2.1,H4.o.2.2.2⟩
  have hk6:k=6:=by omega
  subst hk6;have HO:Box (wfO P=none):=hid (zfy HJ.o);clear hq hk;go_wp2_with fail;go_ret;rw[HO.o];exact ⟨rfl,HKA.o.quiet HK.o⟩
theorem zb4(w:World)(hg:zbZ w):Calls Tryz.prog 53 #[.pointer none] w (zhh (some (2, -1,0,0)) w):=by
 have HG:=hid hg;have HN:=hid (Jy w);have HKA:=hid (za.alloc [] w (.cells #[.func (.func 81) #[] #[],.func (.func 82) #[] #[],.func (.func 83) #[] #[],.func (.func 84) #[] #[],.func (.func 85) #[] #[],.func (.func 86) #[] #[]] 106));clear hg;go_enter Tryz.func53,Tryz.ntmps53;go_wp2_with fail;generalize w.alloc (.cells #[.func (.func 81) #[] #[],.func (.func 82) #[] #[],.func (.func 83) #[] #[],.func (.func 84) #[] #[],.func (.func 85) #[] #[],.func (.func 86) #[] #[]] 106)=W at *;generalize w.heap.size=q at *
 go_loopw [8] (fun kv wr=>kv=int i64 (0:Int)∧Box (za [] W wr)) (fun kv _=>6 - (intOf kv).toNat)
 case atStart=>exact ⟨rfl,hid (za.refl _ _)⟩
 case round=>
  obtain ⟨rfl,HK⟩:=hrel;have hq:=ze HN.o HK.o;have c0:=zc hq 0;have HA:=hid (zbh wr);clear hq;go_wp2_with fail;refine HA.o.mono ?_;rintro e w3 ⟨r,rfl,hr,k3⟩;clear c0 HA;have K3:=hid (HKA.o.quiet (HK.o.quiet k3));have HW:=hid (zU (HG.o.quiet (HKA.o.quiet (HK.o.quiet k3))) hr);clear k3 hr;go_wp2_with fail;refine HW.o.mono ?_;rintro e w4 ⟨p4,r4,rfl,h41,h42,h43,k4⟩;have H4:=hid (And.intro h41 (And.intro h42 (And.intro h43 (K3.o.quiet k4))));clear h41 h42 h43 k4 HW;go_wp2_with fail;go_ret;exact ⟨p4,r4,rfl,H4.o.1,H4.o.2.1,H4.o.2.2.1,H4.o.2.2.2⟩
theorem zdK(h:wfO P=none):Z7 P=true:=by
 unfold wfO at h;by_cases hb:Z7 P=false
 ·rw[if_pos hb] at h
  cases h
 ·exact Bool.not_eq_false _ ▸ hb
theorem zcU(h:wfO P=none):zP P=none:=by
 have hb:=zdK h;unfold wfO at h;rw[if_neg (by rw[hb];decide)] at h;cases hn:zP P with
 | none=>rfl
 | some q=>rw[hn] at h;cases h
theorem jy{α:Type}{l:List α}{m:Nat}{g:α→Bool}(h:qk l m g=true){y:α}(hy:y∈l):g y=true:=by
 obtain ⟨k,hk⟩:=List.getElem?_of_mem hy;exact qY h hk
structure zfY (P:Pr8):Prop where
 h1:P.recs.length≤1000
 h2:P.ims.length≤1000
 h3:P.funcs.length≤1000
 r1:∀ r,r∈P.recs→r.length≤1000
 r2:∀ x,x∈P.ims→x.2.2.length≤1000
 r3:∀ f,f∈P.funcs→f.regs.length≤1000∧f.blocks.length≤1000∧∀ y,y∈f.blocks→y.code.length≤1000∧∀ x,x∈y.code→x.args.length≤1000
theorem zcj(h:Z7 P=true):zfY P:=by
 have hf:=Zp h;unfold Z7 zix at h;simp only[Bool.and_eq_true] at h;have hr:=h.1.2.1;have hi:=h.1.2.2.2.2.1;refine ⟨Nat.le_trans (qq hr) (by decide),Nat.le_trans (qq hi) (by decide),Nat.le_trans (qq hf) (by decide),fun r hm=> ?_,fun x hm=> ?_,fun f hm=> ?_⟩
 ·have:=jy hr hm
  unfold zge at this;have:=of_decide_eq_true this;omega
 ·have:=jy hi hm
  unfold imB at this;have:=of_decide_eq_true this;omega
 ·have h1:=jy hf hm
  unfold fnB at h1;simp only[Bool.and_eq_true] at h1;have h2:=of_decide_eq_true h1.1;refine ⟨by omega,Nat.le_trans (qq h1.2.2) (by decide),fun y hy=> ?_⟩;have h3:zej y=true:=jy h1.2.2 hy;refine ⟨Nat.le_trans (qq h3) (by decide),fun x hx=> ?_⟩;have h4:zei x=true:=jy h3 hx;unfold zei at h4;have:=of_decide_eq_true h4;omega
end Go.Proofs.YthflgjkmbakedaaGreatDoor
