import Derived.Test.YtgmbkiagdhjpnaaGreatDoorUA1
import Derived.Test.YtgmbkiagdhjpnaaGreatDoorU25
import Derived.Test.YtgmbkiagdhjpnaaGreatDoorU35

namespace Go.Proofs.YtgmbkiagdhjpnaaGreatDoor
open Go.RowKit
open Go.Value (int pointer agg)
open Go.IntKind (i64)
set_option maxRecDepth 20000
set_option maxHeartbeats 8000000
variable {P:Pr8}{b f i y:Int}{k pb po:Nat}{v:Value}{w:World}
theorem zff(h:PrC w pb po P)(hz:SzP P):
  Calls Tryz.prog 74 #[pointer (some ⟨pb,po,none⟩)] w (ju ((bks P).find? (jJ P)) 6 w):=by
 have HFL:Box (∀ (w':World) (f:Nat),za [] w w'→f<P.funcs.length→Calls Tryz.prog 122 #[pointer (some ⟨pb,po,none⟩),int i64 (f:Int)] w' fun e w''=>∃ a,e=.returned (agg #[int i64 ((zw (zf P f)).length:Int),.slice a (zw (zf P f)).length (zw (zf P f)).length])∧GAt w'' w''.heap.size a (zw (zf P f))∧za [] w' w''):=hid fun w' f k hf=>J6 (PrC.stays _ _ _ _ _ k h) hf (hz.bk f hf);have HRE:Box (∀ (w':World) (f:Nat) (a:Option Addr) (B:Nat),f<P.funcs.length→GAt w' B a (zw (zf P f))→B≤w'.heap.size→Calls Tryz.prog 124 #[agg #[int i64 ((zw (zf P f)).length:Int),.slice a (zw (zf P f)).length (zw (zf P f)).length]] w' fun e w''=>∃ b,e=.returned (pointer (some ⟨b,0,none⟩))∧zB w'' b (rch (zw (zf P f)) [0])∧za [] w' w''∧w'.heap.size≤b):=hid fun w' f a B hf hG hB=>Zq (zw (zf P f)) (jC (hz.bk f hf)) a _ B w' hG hB;have HMY:Box (∀ (w':World) (f:Nat) (a:Option Addr) (B:Nat),f<P.funcs.length→GAt w' B a (zw (zf P f))→Calls Tryz.prog 123 #[agg #[int i64 ((zw (zf P f)).length:Int),.slice a (zw (zf P f)).length (zw (zf P f)).length]] w' fun e w''=>e=.returned (.bool true)∧za [] w' w''):=hid fun w' f a B hf hG=>JX (zw (zf P f)) (jC (hz.bk f hf)) a _ B w' hG;have HRF:Box (∀ f,f<P.funcs.length→Fit (rch (zw (zf P f)) [0])):=hid fun f hf=>Qz (jC (hz.bk f hf)) [0] zF ZD;obtain ⟨fa,fcp,H⟩:=h.fns;have h4:=H.cell;have HZ:=hid hz;have hN:=hz.fn;clear h H hz;obtain ⟨N,hNe⟩:∃ N,P.funcs.length=N:=⟨_,rfl⟩;have HN:=hid hNe;rw[hNe] at HFL HRE HMY HRF h4 hN;clear hNe;go_enter Tryz.func74,Tryz.ntmps74;go_wp2_with fail;clear h4
 go_loopw [14] (fun i wr=>∃ f:Nat,f≤N∧i=int i64 (f:Int)∧Box (za [] w wr)∧Box (QB (jJ P) (bkP P f))) (fun i _=>N - (intOf i).toNat)
 case atStart=>exact ⟨0,by omega,rfl,hid (za.refl _ _),hid (QB.nil _)⟩
 case round=>
  obtain ⟨f,hf,rfl,HK,HW⟩:=hrel;by_cases hlt:f<N
  ·have hlt':(f:Int)<(N:Int):=by omega
   have HF1:=hid fun (w':World) (k:za [] w w')=>HFL.o w' f k hlt;have HR1:=hid fun (w':World) (a:Option Addr) (B:Nat)=>HRE.o w' f a B hlt;have HM1:=hid fun (w':World) (a:Option Addr) (B:Nat)=>HMY.o w' f a B hlt;have HHF:=hid (HRF.o f hlt);obtain ⟨n,hn⟩:∃ n,(zw (zf P f)).length=n:=⟨_,rfl⟩;have HBL:Box ((zf P f).blocks.length=n):=hid (by rw[← qe];exact hn);rw[hn] at HF1 HR1 HM1;clear hn;have hn6:n≤600:=by rw[← HBL.o];exact HZ.o.bk f (by rw[HN.o];exact hlt)
   go_upto_region 7 with (go_at_call 122;refine (HF1.o _ HK.o).mono ?_;rintro e w1 ⟨a,rfl,hg1,k1⟩)
   have ka:=za.alloc [] w1 (.cells #[int i64 (n:Int),.slice a n n] 182);have HBX:=hid (ql.new w1 (int i64 (n:Int)) (.slice a n n));have HGR:Box (GAt (w1.alloc (.cells #[int i64 (n:Int),.slice a n n] 182)) w1.heap.size a (zw (zf P f))):=hid (hg1.quiet ka);have HK1:=hid ((HK.o.quiet k1).quiet ka);clear ka hg1 k1 HK;generalize w1.alloc (.cells #[int i64 (n:Int),.slice a n n] 182)=W1 at *;generalize w1.heap.size=gb at *;have c0:=HBX.o.c0;have c1:=HBX.o.c1;go_upto_region 8 with (go_at_call 123;refine (HM1.o _ a gb HGR.o).mono ?_;rintro e w2 ⟨rfl,k2⟩)
   have HBX2:=hid (HBX.o.kept k2 (by simp));have HK2:=hid (HK1.o.quiet k2);have HGR2:=hid (HGR.o.quiet k2);have hgb:gb≤w2.heap.size:=Nat.le_of_lt HBX2.o.lt;clear c0 c1 HBX HGR HK1 k2;have c0:=HBX2.o.c0;have c1:=HBX2.o.c1;go_upto_region 9 with (go_at_call 124;refine (HR1.o _ a gb HGR2.o hgb).mono ?_;rintro e w3 ⟨b3,rfl,h3,k3,n3⟩)
   have HBX3:=hid (HBX2.o.kept k3 (by simp));have HK3:=hid (HK2.o.quiet k3);have H3:=hid h3;clear c0 c1 HBX2 HK2 HGR2 h3 k3 n3 hgb;have c0:=HBX3.o.c0;go_wp2_with fail;clear c0
   go_loopw [27] (fun i wr=>∃ b:Nat,b≤n∧i=int i64 (b:Int)∧Box (za [] w wr)∧Box (zB wr b3 (rch (zw (zf P f)) [0]))∧Box (QB (jJ P) (bkF f b))) (fun i _=>n - (intOf i).toNat)
   case atStart=>exact ⟨0,by omega,rfl,HK3,H3,hid (QB.nil _)⟩
   case round=>
    clear HK3 H3;obtain ⟨b,hb,rfl,HK,H3,HWB⟩:=hrel;by_cases hlb:b<n
    ·have hlb':(b:Int)<(n:Int):=by omega
     have HHS:Box (Calls Tryz.prog 125 #[pointer (some ⟨b3,0,none⟩),int i64 (b:Int)] wr fun e w''=>e=.returned (.bool (rch (zw (zf P f)) [0] b))∧∃ m,w''=wr.drewN m):=hid (by
      have:=Zm b3 (rch (zw (zf P f)) [0]) (b:Int) wr H3.o HHF.o;unfold Zr at this;rw[Int.toNat_natCast,decide_eq_true (by omega:(0:Int)≤(b:Int)),Bool.true_and] at this
      exact this)
     cases hm:rch (zw (zf P f)) [0] b with
     | true=>
      rw[hm] at HHS;have HWN:=hid (QB.one (B:=jJ P) (q:=(f,b,0)) (by show (!rch (zw (zf P f)) [0] b)=false;rw[hm];rfl));clear hm;go_wp2_with (go_at_call 125;refine HHS.o.mono ?_;rintro e w5 ⟨rfl,m5,rfl⟩);have kd:=za.drewN [] wr m5;go_roundw
      case rel=>exact ⟨b+1,by omega,by go_num,hid (HK.o.quiet kd),hid (H3.o.kept kd (by simp)),hid (by rw[J3];exact HWB.o.app HWN.o)⟩
      case measure=>simp[intOf];omega
     | false=>
      rw[hm] at HHS;have HFD:Box ((bks P).find? (jJ P)=some (f,b,0)):=hid (zkE (by rw[HN.o];exact hlt) (by rw[HBL.o];exact hlb) (HW.o.app HWB.o) (by show (!rch (zw (zf P f)) [0] b)=true;rw[hm];rfl));clear hm;go_wp2_with (first | (go_at_call 125;refine HHS.o.mono ?_;rintro e w5 ⟨rfl,m5,rfl⟩) | (go_at_call 126;refine (zcj _ _ _ _ _).mono ?_;rintro e w8 ⟨p8,rfl,h8,k8⟩));go_ret;unfold ju;rw[HFD.o];exact ⟨p8,rfl,h8,(HK.o.quiet (za.drewN [] _ _)).quiet k8⟩
    ·obtain rfl:b=n:=by omega
     rw[← HBL.o] at HWB;go_wp2_with fail;go_roundw
     case rel=>exact ⟨f+1,by omega,by go_num,HK,hid (by rw[JV];exact HW.o.app HWB.o)⟩
     case measure=>simp[intOf];omega
  ·obtain rfl:f=N:=by omega
   have HFD:Box ((bks P).find? (jJ P)=none):=hid (zgY (by rw[HN.o];exact HW.o));go_wp2;go_ret;unfold ju;rw[HFD.o];exact ⟨rfl,HK.o⟩
def zde(P:Pr8)(f:Fu8)(x:In8):Bool:=jp P f x && (rtB P f x && jj P f x)
def wfO(P:Pr8):Option (Int × Int × Int × Int):=
 if Qi P=false then some (2, -1,0,0) else
 match zY P with
 | some q=>some (3,q)
 | none=>if zbd P=false then some (7, -1,0,0) else
  match zag P (zde P) with
  | some q=>some (4,q)
  | none=>match (bks P).find? (jJ P) with
   | some q=>some (6,ptI q)
   | none=>match (pts P).find? (zd5 P) with
    | some q=>some (5,ptI q)
    | none=>none
def zjn(o:Option (Int × Int × Int × Int))(w:World)(e:Ending)(w':World):Prop:=match o with
 | none=>e=.returned .nilIface∧za [] w w'
 | some q=>∃ p r,e=.returned (Qj p)∧zer w' p q.1 q.2.1 q.2.2.1 q.2.2.2 (Qj r)∧Qh w' r q.1 q.2.1 q.2.2.1 q.2.2.2∧r<p∧za [] w w'
theorem zk5(y f b i:Int)(r:Nat)(w:World):Calls Tryz.prog 126 #[int i64 y,agg #[int i64 f,int i64 b,int i64 i],Qj r] w fun e w'=>e=.returned (Qj (w.heap.size+1))∧zer w' (w.heap.size+1) y f b i (Qj r)∧za [] w w':=by
 have k2:=((za.refl [] w).step (za.alloc [] w (.cells #[int i64 f,int i64 b,int i64 i] 46))).step (za.alloc [] _ (.cells #[int i64 y,int i64 f,int i64 b,int i64 i,Qj r] 195));have hn:=ze (w.alloc (.cells #[int i64 f,int i64 b,int i64 i] 46)) (.cells #[int i64 y,int i64 f,int i64 b,int i64 i,Qj r] 195);rw[World.size_alloc] at hn;have H:=hid (show zer _ (w.heap.size+1) y f b i (Qj r) from hn);have K:=hid k2;clear k2 hn;go_enter Tryz.func126,Tryz.ntmps126;go_wp2;go_ret;exact ⟨rfl,H.o,K.o⟩
theorem zem(v u t:Value)(w:World):(callFunc 126 #[v,u,t]).run Tryz.prog w=.ok (.enter 126 #[v,u,t]) w:=by go_simp
theorem zcg{ad:Addr}{ev:Operand→Value}{oi:Oper}{y:Operand}(hc:w.cell? ad=some v)(ho:oi.op=.load 191 y)(hy:ev y=.pointer (some ad)):(execOp ev oi).run Tryz.prog w=.ok (.value v) w:=by simp[execOp,ho,hy,go_sem,hc]
def nE(n:Nat)(y f b i:Int)(v:Value)(l:Array Bool)(w:World):Prop:=bif l.getD 9 false then zer w (n+1) y f b i v else w.heap.size=n
theorem nE.keep{n:Nat}{l:Array Bool}(h:nE n y f b i v l w)(hi:k≠9):nE n y f b i v (l.setIfInBounds k true) w:=by
 unfold nE;rw[jP hi];exact h
theorem nE.start{n m:Nat}(h:w.heap.size=n):nE n y f b i v (Array.replicate m false) w:=by
 unfold nE;have:(Array.replicate m false).getD 9 false=false:=by
  by_cases hn:9<m
  ·simp[Array.getD,hn]
  ·simp[Array.getD,hn]
 rw[this];exact h
theorem qh{r:Nat}(hg:zbq w)(h:Qh w r y f b i):Calls Tryz.prog 76 #[Qj r] w (zjn (some (y,f,b,i)) w):=by
 have ka:=za.alloc [] w (.cells #[.pointer none] 191);have HA:=hid (zl0 r w.heap.size _ (hg.quiet ka) (ze w (.cells #[.pointer none] 191)));have HH:=hid (h.quiet ka);have KA:=hid ka;have hlt:=zt h;have HNW:Box (∀ w':World,Calls Tryz.prog 126 #[int i64 y,agg #[int i64 f,int i64 b,int i64 i],Qj r] w' fun e w2=>e=.returned (Qj (w'.heap.size+1))∧zer w2 (w'.heap.size+1) y f b i (Qj r)∧za [] w' w2):=hid fun w'=>zk5 y f b i r w';clear hg h ka;go_enter Tryz.func76,Tryz.ntmps76;go_wp2_with fail;generalize w.alloc (.cells #[.pointer none] 191)=WA at *;obtain ⟨t,ht⟩:∃ t,t=w.heap.size:=⟨_,rfl⟩;rw[← ht] at HA ⊢;have HT:=hid ht;clear ht;refine HA.o.mono ?_;rintro e w1 ⟨rfl,k1,h1⟩;have K1:Box (za [] w w1):=hid (KA.o.trans k1 (fun x hx hl=>by have:=HT.o;simp at hx;omega));have R1:Box (Qh w1 r y f b i):=hid ((k1.block r (zt HH.o) (by have:=HT.o;simp;omega)).trans HH.o);have c0:=zc h1 0;have d0:=zc (show w1.heap[r]? = _ from R1.o) 0;have d1:=zc (show w1.heap[r]? = _ from R1.o) 1;have d2:=zc (show w1.heap[r]? = _ from R1.o) 2;have d3:=zc (show w1.heap[r]? = _ from R1.o) 3;clear k1 h1 HA;go_upto_region 4 with fail;refine Je (fun w'=>za [] w1 w') (nE w1.heap.size y f b i (Qj r)) 19 [pointer (some ⟨r,0,none⟩),pointer (some ⟨r,0,none⟩),pointer (some ⟨r,0,none⟩),int i64 y,pointer (some ⟨r,0,none⟩),pointer (some ⟨r,0,none⟩),pointer (some ⟨r,1,none⟩),agg #[int i64 f,int i64 b,int i64 i],Qj r,Qj (w1.heap.size+1),Qj (w1.heap.size+1)] (by kernel_rfl) (by rfl) (by kernel_rfl) (za.drew [] _) (nE.start rfl) (fun A hA=> ?_);simp only[zH,Act.put,sTA,sC0,sCS] at hA;subst hA;refine ⟨gFY (fun _ k9=>zcg (zb k9 c0) rfl rfl) (gFR (gFR (gFY (fun _ k9=>qo (zb k9 d0) rfl rfl) (gFY (fun _ k9=>zcg (zb k9 c0) rfl rfl) (gFR (gFR (gFY (fun _ k9=>zk7 (zb k9 d1) (zb k9 d2) (zb k9 d3) rfl rfl) (gFR (zN.cons (zcE (by rfl) 126 #[int i64 y,agg #[int i64 f,int i64 b,int i64 i],Qj r] (fun w=>zkq rfl rfl rfl rfl rfl (zem _ _ _ w)) (fun l w9 hi9 hu9 _ hs9 he9=>by have hsz:w9.heap.size=w1.heap.size:=(by unfold nE at he9;rw[hu9] at he9;exact he9);refine (HNW.o w9).mono ?_;rw[hsz];rintro e w7 ⟨h7,r7,k7⟩;exact ⟨h7,hs9.quiet k7,by unfold nE;rw[jK hi9];exact r7⟩)) (gFR (zN.nil))))))))))),fun l w8 hl8 k8 h8=> ?_⟩;have h9:zer w8 (w1.heap.size+1) y f b i (Qj r):=by
  have hb:l.getD 9 false=true:=hl8 9 (by decide);unfold nE at h8;rw[hb] at h8;exact h8
 have H9:=hid h9;have K8:=hid (K1.o.quiet k8);have R8:=hid (R1.o.quiet k8);have hrl:r<w1.heap.size:=zt R1.o;clear hl8 h8 k8 h9;go_wp2_with fail;go_ret;exact ⟨_,r,rfl,H9.o,R8.o,by omega,K8.o⟩
theorem zaF(w:World):(w.alloc (.cells #[.func (.func 70) #[] #[],.func (.func 71) #[] #[],.func (.func 72) #[] #[],.func (.func 73) #[] #[],.func (.func 74) #[] #[],.func (.func 75) #[] #[]] 93)).heap[w.heap.size]? = some (.cells #[.func (.func 70) #[] #[],.func (.func 71) #[] #[],.func (.func 72) #[] #[],.func (.func 73) #[] #[],.func (.func 74) #[] #[],.func (.func 75) #[] #[]] 93 (0,0)):=ze _ _
def Zf(P:Pr8):Nat→Option (Int × Int × Int × Int)
 | 0=>if Qi P=false then some (2, -1,0,0) else none
 | 1=>(zY P).map fun q=>(3,q)
 | 2=>if zbd P=false then some (7, -1,0,0) else none
 | 3=>(zag P (zde P)).map fun q=>(4,q)
 | 4=>((bks P).find? (jJ P)).map fun q=>(6,ptI q)
 | 5=>((pts P).find? (zd5 P)).map fun q=>(5,ptI q)
 | _=>none
theorem jW{q:Int × Int × Int × Int}(hk:k<6)(hb:∀ j,j<k→Zf P j=none)(h:Zf P k=some q):wfO P=some q:=by
 have b0:0<k→¬ Qi P=false:=fun hk e=>by have:=hb 0 hk;simp[Zf,e] at this
 have b1:1<k→zY P=none:=fun hk=>by have:=hb 1 hk;simpa [Zf] using this
 have b2:2<k→¬ zbd P=false:=fun hk e=>by have:=hb 2 hk;simp[Zf,e] at this
 have b3:3<k→zag P (zde P)=none:=fun hk=>by have:=hb 3 hk;simpa [Zf] using this
 have b4:4<k→(bks P).find? (jJ P)=none:=fun hk=>by
  have:=hb 4 hk;simp only[Zf] at this;exact Option.map_eq_none_iff.1 this
 unfold wfO
 match k,hk,h with
 | 0,_,h=>
  by_cases e:Qi P=false
  ·simp[Zf,e] at h
   rw[if_pos e, ← h]
  ·simp[Zf,e] at h
 | 1,_,h=>
  rw[if_neg (b0 (by omega))];simp only[Zf] at h;obtain ⟨q',e,rfl⟩:=Option.map_eq_some_iff.1 h;rw[e]
 | 2,_,h=>
  rw[if_neg (b0 (by omega)),b1 (by omega)];by_cases e:zbd P=false
  ·simp[Zf,e] at h
   simp only[if_pos e, ← h]
  ·simp[Zf,e] at h
 | 3,_,h=>
  rw[if_neg (b0 (by omega)),b1 (by omega)];simp only[Zf] at h;obtain ⟨q',e,rfl⟩:=Option.map_eq_some_iff.1 h;simp only[if_neg (b2 (by omega)),e]
 | 4,_,h=>
  rw[if_neg (b0 (by omega)),b1 (by omega)];simp only[Zf] at h;obtain ⟨q',e,rfl⟩:=Option.map_eq_some_iff.1 h;simp only[if_neg (b2 (by omega)),b3 (by omega),e]
 | 5,_,h=>
  rw[if_neg (b0 (by omega)),b1 (by omega)];simp only[Zf] at h;obtain ⟨q',e,rfl⟩:=Option.map_eq_some_iff.1 h;simp only[if_neg (b2 (by omega)),b3 (by omega),b4 (by omega),e]
theorem zg1(hb:∀ j,j<6→Zf P j=none):wfO P=none:=by
 have b0:¬ Qi P=false:=fun e=>by have:=hb 0 (by omega);simp[Zf,e] at this
 have b1:zY P=none:=by have:=hb 1 (by omega);simpa [Zf] using this
 have b2:¬ zbd P=false:=fun e=>by have:=hb 2 (by omega);simp[Zf,e] at this
 have b3:zag P (zde P)=none:=by have:=hb 3 (by omega);simpa [Zf] using this
 have b4:(bks P).find? (jJ P)=none:=by
  have:=hb 4 (by omega);simp only[Zf] at this;exact Option.map_eq_none_iff.1 this
 have b5:(pts P).find? (zd5 P)=none:=by
  have:=hb 5 (by omega);simp only[Zf] at this;exact Option.map_eq_none_iff.1 this
 unfold wfO;rw[if_neg b0,b1];simp only[if_neg b2,b3,b4,b5]
def Zl(o:Option (Int × Int × Int × Int))(w:World)(e:Ending)(w':World):Prop:=match o with
 | none=>e=.returned .nilIface∧za [] w w'
 | some q=>∃ r,e=.returned (Qj r)∧Qh w' r q.1 q.2.1 q.2.2.1 q.2.2.2∧za [] w w'
theorem zib(hb:Qi P=true):SzP P:=by
 have sm10:=Q9 (ZR hb);refine ⟨Nat.le_trans sm10.fn (by decide),fun f hf=>(ze2 hb hf).2.1,fun f hf=>Nat.le_trans (ze2 hb hf).2.2 (by decide),fun f hf=>Nat.le_trans (ze2 hb hf).1 (by decide),fun f b hf=> ?_,fun f b k hf hk=> ?_⟩
 ·by_cases hb':b<(zf P f).blocks.length
  ·exact Nat.le_trans (sm10.code hf hb') (by decide)
  ·unfold zA
   rw[zcl hb'];simp
 ·by_cases hb':b<(zf P f).blocks.length
  ·exact zb1 hb f b k hf hb' hk
  ·unfold zA at hk
   rw[zcl hb'] at hk;simp at hk
def ziH:Nat→Nat
 | 0=>70
 | 1=>71
 | 2=>72
 | 3=>73
 | 4=>74
 | _=>75
theorem zj5(h:PrC w pb po P)(hT:jb w)(hk:k<6)(hb:∀ j,j<k→Zf P j=none):Calls Tryz.prog (ziH k) #[pointer (some ⟨pb,po,none⟩)] w (Zl (Zf P k) w):=by
 have b0:0<k→Qi P=true:=fun hk=>by
  cases e:Qi P with
  | true=>rfl
  | false=>have:=hb 0 hk;simp[Zf,e] at this
 match k,hk with
 | 0,_=>
  refine (zd1 h).mono ?_;intro e w' h';show Zl (if Qi P=false then some (2, -1,0,0) else none) w e w';cases hbn:Qi P with
  | true=>rw[hbn] at h';exact h'
  | false=>rw[hbn] at h';exact h'
 | 1,_=>
  refine (zfs h (zb1 (b0 (by omega)))).mono ?_;intro e w' h';show Zl ((zY P).map fun q=>(3,q)) w e w';cases hn:zY P with
  | none=>rw[hn] at h';exact h'
  | some q=>rw[hn] at h';exact h'
 | 2,_=>
  refine (zgS h).mono ?_;intro e w' h';show Zl (if zbd P=false then some (7, -1,0,0) else none) w e w';cases hbn:zbd P with
  | true=>rw[hbn] at h';exact h'
  | false=>rw[hbn] at h';exact h'
 | 3,_=>
  have hs:=Q9 (ZR (b0 (by omega)));refine (zc4 h hs (g:=zde P) (fun w' f b i a cp kk hf hb2 hi hz=> ?_)).mono ?_
  ·exact zgl (PrC.stays _ _ _ _ _ kk h) hf _ hz (zb1 (b0 (by omega)) f b i hf hb2 hi)
  intro e w' h';show Zl ((zag P (zde P)).map fun q=>(4,q)) w e w';cases hn:zag P (zde P) with
  | none=>rw[hn] at h';exact h'
  | some q=>rw[hn] at h';exact h'
 | 4,_=>
  refine (zff h (zib (b0 (by omega)))).mono ?_;intro e w' h';show Zl (((bks P).find? (jJ P)).map fun q=>(6,ptI q)) w e w';cases hn:(bks P).find? (jJ P) with
  | none=>rw[hn] at h';exact h'
  | some q=>rw[hn] at h';exact h'
 | 5,_=>
  refine (zeP h hT (zib (b0 (by omega)))).mono ?_;intro e w' h';show Zl (((pts P).find? (zd5 P)).map fun q=>(5,ptI q)) w e w';cases hn:(pts P).find? (zd5 P) with
  | none=>rw[hn] at h';exact h'
  | some q=>rw[hn] at h';exact h'
theorem Js(h:PrC w pb po P)(hg:zbq w)(hT:jb w):Calls Tryz.prog 45 #[pointer (some ⟨pb,po,none⟩)] w (zjn (wfO P) w):=by
 have HP:=hid h;have HG:=hid hg;have HT:=hid hT;have HASK:=hid fun (w':World) (k:Nat) (hk:k<6) (kp:za [] w w') (hb:∀ j,j<k→Zf P j=none)=>zj5 (PrC.stays _ _ _ _ _ kp h) (hT.kept kp (by simp)) hk hb;have HN:=hid (zaF w);have HKA:=hid (za.alloc [] w (.cells #[.func (.func 70) #[] #[],.func (.func 71) #[] #[],.func (.func 72) #[] #[],.func (.func 73) #[] #[],.func (.func 74) #[] #[],.func (.func 75) #[] #[]] 93));clear h hg hT;go_enter Tryz.func45,Tryz.ntmps45;go_wp2_with fail;generalize w.alloc (.cells #[.func (.func 70) #[] #[],.func (.func 71) #[] #[],.func (.func 72) #[] #[],.func (.func 73) #[] #[],.func (.func 74) #[] #[],.func (.func 75) #[] #[]] 93)=W at *;generalize w.heap.size=q at *
 go_loopw [8] (fun kv wr=>∃ k:Nat,k≤6∧kv=int i64 (k:Int)∧Box (za [] W wr)∧Box (∀ j,j<k→Zf P j=none)) (fun kv _=>6 - (intOf kv).toNat)
 case atStart=>exact ⟨0,by omega,rfl,hid (za.refl _ _),hid fun j hj=>by omega⟩
 case round=>
  obtain ⟨k,hk,rfl,HK,HJ⟩:=hrel;have hq:=zd HN.o HK.o;by_cases hk0:k=0
  ·subst hk0
   have c0:=zc hq 0;have HA:=hid (HASK.o wr 0 (by omega) (HKA.o.quiet HK.o) HJ.o);unfold ziH at HA;clear hq hk;go_wp2_with fail;refine HA.o.mono ?_;intro e w3 h3;clear c0 HA;cases ho:Zf P 0 with
   | none=>
    rw[ho] at h3;obtain ⟨rfl,k3⟩:=h3;have K3:=hid (HK.o.quiet k3);have HO:=hid ho;clear k3 ho;go_wp2_with fail;go_roundw
    case rel=>
     refine ⟨1,by omega,by go_num,K3,hid fun j hj=> ?_⟩;by_cases hjk:j=0
     ·subst hjk
      exact HO.o
     ·exact HJ.o j (by omega)
    case measure=>simp[intOf]
   | some z=>
    rw[ho] at h3;obtain ⟨r,rfl,hr,k3⟩:=h3;have K3:=hid (HKA.o.quiet (HK.o.quiet k3));have HO:Box (wfO P=some z):=hid (jW (by omega) HJ.o ho);have HW:=hid (qh (HG.o.quiet (HKA.o.quiet (HK.o.quiet k3))) hr);clear k3 ho hr;go_wp2_with fail;refine HW.o.mono ?_;rintro e w4 ⟨p4,r4,rfl,h41,h42,h43,k4⟩;have H4:=hid (And.intro h41 (And.intro h42 (And.intro h43 (K3.o.quiet k4))));clear h41 h42 h43 k4 HW;go_wp2_with fail;go_ret;rw[HO.o];exact ⟨p4,r4,rfl,H4.o.1,H4.o.2.1,H4.o.2.2.1,H4.o.2.2.2⟩
  by_cases hk1:k=1
  ·subst hk1
   have c0:=zc hq 1;have HA:=hid (HASK.o wr 1 (by omega) (HKA.o.quiet HK.o) HJ.o);unfold ziH at HA;clear hq hk;go_wp2_with fail;refine HA.o.mono ?_;intro e w3 h3;clear c0 HA;cases ho:Zf P 1 with
   | none=>
    rw[ho] at h3;obtain ⟨rfl,k3⟩:=h3;have K3:=hid (HK.o.quiet k3);have HO:=hid ho;clear k3 ho;go_wp2_with fail;go_roundw
    case rel=>
     refine ⟨2,by omega,by go_num,K3,hid fun j hj=> ?_⟩;by_cases hjk:j=1
     ·subst hjk
      exact HO.o
     ·exact HJ.o j (by omega)
    case measure=>simp[intOf]
   | some z=>
    rw[ho] at h3;obtain ⟨r,rfl,hr,k3⟩:=h3;have K3:=hid (HKA.o.quiet (HK.o.quiet k3));have HO:Box (wfO P=some z):=hid (jW (by omega) HJ.o ho);have HW:=hid (qh (HG.o.quiet (HKA.o.quiet (HK.o.quiet k3))) hr);clear k3 ho hr;go_wp2_with fail;refine HW.o.mono ?_;rintro e w4 ⟨p4,r4,rfl,h41,h42,h43,k4⟩;have H4:=hid (And.intro h41 (And.intro h42 (And.intro h43 (K3.o.quiet k4))));clear h41 h42 h43 k4 HW;go_wp2_with fail;go_ret;rw[HO.o];exact ⟨p4,r4,rfl,H4.o.1,H4.o.2.1,H4.o.2.2.1,H4.o.2.2.2⟩
  by_cases hk2:k=2
  ·subst hk2
   have c0:=zc hq 2;have HA:=hid (HASK.o wr 2 (by omega) (HKA.o.quiet HK.o) HJ.o);unfold ziH at HA;clear hq hk;go_wp2_with fail;refine HA.o.mono ?_;intro e w3 h3;clear c0 HA;cases ho:Zf P 2 with
   | none=>
    rw[ho] at h3;obtain ⟨rfl,k3⟩:=h3;have K3:=hid (HK.o.quiet k3);have HO:=hid ho;clear k3 ho;go_wp2_with fail;go_roundw
    case rel=>
     refine ⟨3,by omega,by go_num,K3,hid fun j hj=> ?_⟩;by_cases hjk:j=2
     ·subst hjk
      exact HO.o
     ·exact HJ.o j (by omega)
    case measure=>simp[intOf]
   | some z=>
    rw[ho] at h3;obtain ⟨r,rfl,hr,k3⟩:=h3;have K3:=hid (HKA.o.quiet (HK.o.quiet k3));have HO:Box (wfO P=some z):=hid (jW (by omega) HJ.o ho);have HW:=hid (qh (HG.o.quiet (HKA.o.quiet (HK.o.quiet k3))) hr);clear k3 ho hr;go_wp2_with fail;refine HW.o.mono ?_;rintro e w4 ⟨p4,r4,rfl,h41,h42,h43,k4⟩;have H4:=hid (And.intro h41 (And.intro h42 (And.intro h43 (K3.o.quiet k4))));clear h41 h42 h43 k4 HW;go_wp2_with fail;go_ret;rw[HO.o];exact ⟨p4,r4,rfl,H4.o.1,H4.o.2.1,H4.o.2.2.1,H4.o.2.2.2⟩
  by_cases hk3:k=3
  ·subst hk3
   have c0:=zc hq 3;have HA:=hid (HASK.o wr 3 (by omega) (HKA.o.quiet HK.o) HJ.o);unfold ziH at HA;clear hq hk;go_wp2_with fail;refine HA.o.mono ?_;intro e w3 h3;clear c0 HA;cases ho:Zf P 3 with
   | none=>
    rw[ho] at h3;obtain ⟨rfl,k3⟩:=h3;have K3:=hid (HK.o.quiet k3);have HO:=hid ho;clear k3 ho;go_wp2_with fail;go_roundw
    case rel=>
     refine ⟨4,by omega,by go_num,K3,hid fun j hj=> ?_⟩;by_cases hjk:j=3
     ·subst hjk
      exact HO.o
     ·exact HJ.o j (by omega)
    case measure=>simp[intOf]
   | some z=>
    rw[ho] at h3;obtain ⟨r,rfl,hr,k3⟩:=h3;have K3:=hid (HKA.o.quiet (HK.o.quiet k3));have HO:Box (wfO P=some z):=hid (jW (by omega) HJ.o ho);have HW:=hid (qh (HG.o.quiet (HKA.o.quiet (HK.o.quiet k3))) hr);clear k3 ho hr;go_wp2_with fail;refine HW.o.mono ?_;rintro e w4 ⟨p4,r4,rfl,h41,h42,h43,k4⟩;have H4:=hid (And.intro h41 (And.intro h42 (And.intro h43 (K3.o.quiet k4))));clear h41 h42 h43 k4 HW;go_wp2_with fail;go_ret;rw[HO.o];exact ⟨p4,r4,rfl,H4.o.1,H4.o.2.1,H4.o.2.2.1,H4.o.2.2.2⟩
  by_cases hk4:k=4
  ·subst hk4
   have c0:=zc hq 4;have HA:=hid (HASK.o wr 4 (by omega) (HKA.o.quiet HK.o) HJ.o);unfold ziH at HA;clear hq hk;go_wp2_with fail;refine HA.o.mono ?_;intro e w3 h3;clear c0 HA;cases ho:Zf P 4 with
   | none=>
    rw[ho] at h3;obtain ⟨rfl,k3⟩:=h3;have K3:=hid (HK.o.quiet k3);have HO:=hid ho;clear k3 ho;go_wp2_with fail;go_roundw
    case rel=>
     refine ⟨5,by omega,by go_num,K3,hid fun j hj=> ?_⟩;by_cases hjk:j=4
     ·subst hjk
      exact HO.o
     ·exact HJ.o j (by omega)
    case measure=>simp[intOf]
   | some z=>
    rw[ho] at h3;obtain ⟨r,rfl,hr,k3⟩:=h3;have K3:=hid (HKA.o.quiet (HK.o.quiet k3));have HO:Box (wfO P=some z):=hid (jW (by omega) HJ.o ho);have HW:=hid (qh (HG.o.quiet (HKA.o.quiet (HK.o.quiet k3))) hr);clear k3 ho hr;go_wp2_with fail;refine HW.o.mono ?_;rintro e w4 ⟨p4,r4,rfl,h41,h42,h43,k4⟩;have H4:=hid (And.intro h41 (And.intro h42 (And.intro h43 (K3.o.quiet k4))));clear h41 h42 h43 k4 HW;go_wp2_with fail;go_ret;rw[HO.o];exact ⟨p4,r4,rfl,H4.o.1,H4.o.2.1,H4.o.2.2.1,H4.o.2.2.2⟩
  by_cases hk5:k=5
  ·subst hk5
   have c0:=zc hq 5;have HA:=hid (HASK.o wr 5 (by omega) (HKA.o.quiet HK.o) HJ.o);unfold ziH at HA;clear hq hk;go_wp2_with fail;refine HA.o.mono ?_;intro e w3 h3;clear c0 HA;cases ho:Zf P 5 with
   | none=>
    rw[ho] at h3;obtain ⟨rfl,k3⟩:=h3;have K3:=hid (HK.o.quiet k3);have HO:=hid ho;clear k3 ho;go_wp2_with fail;go_roundw
    case rel=>
     refine ⟨6,by omega,by go_num,K3,hid fun j hj=> ?_⟩;by_cases hjk:j=5
     ·subst hjk
      exact HO.o
     ·exact HJ.o j (by omega)
    case measure=>simp[intOf]
   | some z=>
    rw[ho] at h3;obtain ⟨r,rfl,hr,k3⟩:=h3;have K3:=hid (HKA.o.quiet (HK.o.quiet k3));have HO:Box (wfO P=some z):=hid (jW (by omega) HJ.o ho);have HW:=hid (qh (HG.o.quiet (HKA.o.quiet (HK.o.quiet k3))) hr);clear k3 ho hr;go_wp2_with fail;refine HW.o.mono ?_;rintro e w4 ⟨p4,r4,rfl,h41,h42,h43,k4⟩;have H4:=hid (And.intro h41 (And.intro h42 (And.intro h43 (K3.o.quiet k4))));clear h41 h42 h43 k4 HW;go_wp2_with fail;go_ret;rw[HO.o];exact ⟨p4,r4,rfl,H4.o.1,H4.o.2.1,H4.o.2.2.1,H4.o.2.2.2⟩
  have hk6:k=6:=by omega
  subst hk6;have HO:Box (wfO P=none):=hid (zg1 HJ.o);clear hq hk;go_wp2_with fail;go_ret;rw[HO.o];exact ⟨rfl,HKA.o.quiet HK.o⟩
theorem zcV(w:World)(hg:zbq w):Calls Tryz.prog 45 #[.pointer none] w (zjn (some (2, -1,0,0)) w):=by
 have HG:=hid hg;have HN:=hid (zaF w);have HKA:=hid (za.alloc [] w (.cells #[.func (.func 70) #[] #[],.func (.func 71) #[] #[],.func (.func 72) #[] #[],.func (.func 73) #[] #[],.func (.func 74) #[] #[],.func (.func 75) #[] #[]] 93));clear hg;go_enter Tryz.func45,Tryz.ntmps45;go_wp2_with fail;generalize w.alloc (.cells #[.func (.func 70) #[] #[],.func (.func 71) #[] #[],.func (.func 72) #[] #[],.func (.func 73) #[] #[],.func (.func 74) #[] #[],.func (.func 75) #[] #[]] 93)=W at *;generalize w.heap.size=q at *
 go_loopw [8] (fun kv wr=>kv=int i64 (0:Int)∧Box (za [] W wr)) (fun kv _=>6 - (intOf kv).toNat)
 case atStart=>exact ⟨rfl,hid (za.refl _ _)⟩
 case round=>
  obtain ⟨rfl,HK⟩:=hrel;have hq:=zd HN.o HK.o;have c0:=zc hq 0;have HA:=hid (zdo wr);clear hq;go_wp2_with fail;refine HA.o.mono ?_;rintro e w3 ⟨r,rfl,hr,k3⟩;clear c0 HA;have K3:=hid (HKA.o.quiet (HK.o.quiet k3));have HW:=hid (qh (HG.o.quiet (HKA.o.quiet (HK.o.quiet k3))) hr);clear k3 hr;go_wp2_with fail;refine HW.o.mono ?_;rintro e w4 ⟨p4,r4,rfl,h41,h42,h43,k4⟩;have H4:=hid (And.intro h41 (And.intro h42 (And.intro h43 (K3.o.quiet k4))));clear h41 h42 h43 k4 HW;go_wp2_with fail;go_ret;exact ⟨p4,r4,rfl,H4.o.1,H4.o.2.1,H4.o.2.2.1,H4.o.2.2.2⟩
end Go.Proofs.YtgmbkiagdhjpnaaGreatDoor
