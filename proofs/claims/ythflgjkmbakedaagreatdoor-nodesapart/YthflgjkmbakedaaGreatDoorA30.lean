import Derived.Test.YthflgjkmbakedaaGreatDoorA19
import Derived.Test.YthflgjkmbakedaaGreatDoorA29

namespace Go.Proofs.YthflgjkmbakedaaGreatDoor
open Go.RowKit
open Go.Value (int pointer agg)
open Go.IntKind (i64)
set_option maxRecDepth 20000
set_option maxHeartbeats 8000000
variable {P:Pr8}{b f i y:Int}{k n pb po tb:Nat}{v:Value}{w:World}
def zlK(o:Option (Int × Int × Int × Int))(w:World)(e:Ending)(w':World):Prop:=match o with
 | none=>e=.returned .nilIface∧zc [] w w'
 | some q=>∃ p r,e=.returned (Jz p)∧zgU w' p q.1 q.2.1 q.2.2.1 q.2.2.2 (Jz r)∧J0 w' r q.1 q.2.1 q.2.2.1 q.2.2.2∧r<p∧zc [] w w'
theorem zml(y f b i:Int)(r:Nat)(w:World):Calls Tryz.prog 135 #[int i64 y,agg #[int i64 f,int i64 b,int i64 i],Jz r] w fun e w'=>e=.returned (Jz (w.heap.size+1))∧zgU w' (w.heap.size+1) y f b i (Jz r)∧zc [] w w':=by
 have k2:=((zc.refl [] w).step (zc.alloc [] w (.cells #[int i64 f,int i64 b,int i64 i] 99))).step (zc.alloc [] _ (.cells #[int i64 y,int i64 f,int i64 b,int i64 i,Jz r] 208));have hn:=zh (w.alloc (.cells #[int i64 f,int i64 b,int i64 i] 99)) (.cells #[int i64 y,int i64 f,int i64 b,int i64 i,Jz r] 208);rw[World.size_alloc] at hn;have H:=hid (show zgU _ (w.heap.size+1) y f b i (Jz r) from hn);have K:=hid k2;clear k2 hn;go_enter Tryz.func135,Tryz.ntmps135;go_wp2;go_ret;exact ⟨rfl,H.o,K.o⟩
theorem zgj(v u t:Value)(w:World):(callFunc 135 #[v,u,t]).run Tryz.prog w=.ok (.enter 135 #[v,u,t]) w:=by go_simp
theorem zdG{ad:Addr}{ev:Operand→Value}{oi:Oper}{y:Operand}(hc:w.cell? ad=some v)(ho:oi.op=.load 204 y)(hy:ev y=.pointer (some ad)):(execOp ev oi).run Tryz.prog w=.ok (.value v) w:=by simp[execOp,ho,hy,go_sem,hc]
def nE(n:Nat)(y f b i:Int)(v:Value)(l:Array Bool)(w:World):Prop:=bif l.getD 9 false then zgU w (n+1) y f b i v else w.heap.size=n
theorem nE.keep{l:Array Bool}(h:nE n y f b i v l w)(hi:k≠9):nE n y f b i v (l.setIfInBounds k true) w:=by
 unfold nE;rw[zL hi];exact h
theorem nE.start{m:Nat}(h:w.heap.size=n):nE n y f b i v (Array.replicate m false) w:=by
 unfold nE;have:(Array.replicate m false).getD 9 false=false:=by
  by_cases hn:9<m
  ·simp[Array.getD,hn]
  ·simp[Array.getD,hn]
 rw[this];exact h
theorem ju{r:Nat}(hg:zeP w)(h:J0 w r y f b i):Calls Tryz.prog 87 #[Jz r] w (zlK (some (y,f,b,i)) w):=by
 have ka:=zc.alloc [] w (.cells #[.pointer none] 204);have HA:=hid (zma r w.heap.size _ (hg.quiet ka) (zh w (.cells #[.pointer none] 204)));have HH:=hid (h.quiet ka);have KA:=hid ka;have hlt:=zQ h;have HNW:Box (∀ w':World,Calls Tryz.prog 135 #[int i64 y,agg #[int i64 f,int i64 b,int i64 i],Jz r] w' fun e w2=>e=.returned (Jz (w'.heap.size+1))∧zgU w2 (w'.heap.size+1) y f b i (Jz r)∧zc [] w' w2):=hid fun w'=>zml y f b i r w';clear hg h ka;go_enter Tryz.func87,Tryz.ntmps87;go_wp2_with fail;generalize w.alloc (.cells #[.pointer none] 204)=WA at *;obtain ⟨t,ht⟩:∃ t,t=w.heap.size:=⟨_,rfl⟩;rw[← ht] at HA ⊢;have HT:=hid ht;clear ht;refine HA.o.mono ?_;rintro e w1 ⟨rfl,k1,h1⟩;have K1:Box (zc [] w w1):=hid (KA.o.trans k1 (fun x hx hl=>by have:=HT.o;simp at hx;omega));have R1:Box (J0 w1 r y f b i):=hid ((k1.block r (zQ HH.o) (by have:=HT.o;simp;omega)).trans HH.o);have c0:=zd h1 0;have d0:=zd (show w1.heap[r]? = _ from R1.o) 0;have d1:=zd (show w1.heap[r]? = _ from R1.o) 1;have d2:=zd (show w1.heap[r]? = _ from R1.o) 2;have d3:=zd (show w1.heap[r]? = _ from R1.o) 3;clear k1 h1 HA;go_upto_region 4 with fail;refine jz (fun w'=>zc [] w1 w') (nE w1.heap.size y f b i (Jz r)) 19 [pointer (some ⟨r,0,none⟩),pointer (some ⟨r,0,none⟩),pointer (some ⟨r,0,none⟩),int i64 y,pointer (some ⟨r,0,none⟩),pointer (some ⟨r,0,none⟩),pointer (some ⟨r,1,none⟩),agg #[int i64 f,int i64 b,int i64 i],Jz r,Jz (w1.heap.size+1),Jz (w1.heap.size+1)] (by kernel_rfl) (by rfl) (by kernel_rfl) (zc.drew [] _) (nE.start rfl) (fun A hA=> ?_);simp only[zv,Act.put,sTA,sC0,sCS] at hA;subst hA;refine ⟨gFY (fun _ k9=>zdG (za k9 c0) rfl rfl) (gFR (gFR (gFY (fun _ k9=>zI (za k9 d0) rfl rfl) (gFY (fun _ k9=>zdG (za k9 c0) rfl rfl) (gFR (gFR (gFY (fun _ k9=>zmE (za k9 d1) (za k9 d2) (za k9 d3) rfl rfl) (gFR (zK.cons (zek (by rfl) 135 #[int i64 y,agg #[int i64 f,int i64 b,int i64 i],Jz r] (fun w=>zmz rfl rfl rfl rfl rfl (zgj _ _ _ w)) (fun l w9 hi9 hu9 _ hs9 he9=>by have hsz:w9.heap.size=w1.heap.size:=(by unfold nE at he9;rw[hu9] at he9;exact he9);refine (HNW.o w9).mono ?_;rw[hsz];rintro e w7 ⟨h7,r7,k7⟩;exact ⟨h7,hs9.quiet k7,by unfold nE;rw[qf hi9];exact r7⟩)) (gFR (zK.nil))))))))))),fun l w8 hl8 k8 h8=> ?_⟩;have h9:zgU w8 (w1.heap.size+1) y f b i (Jz r):=by
  have hb:l.getD 9 false=true:=hl8 9 (by decide);unfold nE at h8;rw[hb] at h8;exact h8
 have H9:=hid h9;have K8:=hid (K1.o.quiet k8);have R8:=hid (R1.o.quiet k8);have hrl:r<w1.heap.size:=zQ R1.o;clear hl8 h8 k8 h9;go_wp2_with fail;go_ret;exact ⟨_,r,rfl,H9.o,R8.o,by omega,K8.o⟩
theorem zeX(w:World):(w.alloc (.cells #[.func (.func 81) #[] #[],.func (.func 82) #[] #[],.func (.func 83) #[] #[],.func (.func 84) #[] #[],.func (.func 85) #[] #[],.func (.func 86) #[] #[]] 106)).heap[w.heap.size]? = some (.cells #[.func (.func 81) #[] #[],.func (.func 82) #[] #[],.func (.func 83) #[] #[],.func (.func 84) #[] #[],.func (.func 85) #[] #[],.func (.func 86) #[] #[]] 106 (0,0)):=zh _ _
def Qs(P:Pr8):Nat→Option (Int × Int × Int × Int)
 | 0=>if qJ P=false then some (2, -1,0,0) else none
 | 1=>(zB P).map fun q=>(3,q)
 | 2=>if zaQ P=false then some (7, -1,0,0) else none
 | 3=>(ZW P (Zv P)).map fun q=>(4,q)
 | 4=>((bks P).find? (jq P)).map fun q=>(6,ptI q)
 | 5=>((pts P).find? (za0 P)).map fun q=>(5,ptI q)
 | _=>none
theorem Qi{q:Int × Int × Int × Int}(hk:k<6)(hb:∀ j,j<k→Qs P j=none)(h:Qs P k=some q):wfO P=some q:=by
 have b0:0<k→¬ qJ P=false:=fun hk e=>by have:=hb 0 hk;simp[Qs,e] at this
 have b1:1<k→zB P=none:=fun hk=>by have:=hb 1 hk;simpa [Qs] using this
 have b2:2<k→¬ zaQ P=false:=fun hk e=>by have:=hb 2 hk;simp[Qs,e] at this
 have b3:3<k→ZW P (Zv P)=none:=fun hk=>by have:=hb 3 hk;simpa [Qs] using this
 have b4:4<k→(bks P).find? (jq P)=none:=fun hk=>by
  have:=hb 4 hk;simp only[Qs] at this;exact Option.map_eq_none_iff.1 this
 unfold wfO
 match k,hk,h with
 | 0,_,h=>
  by_cases e:qJ P=false
  ·simp[Qs,e] at h
   rw[if_pos e, ← h]
  ·simp[Qs,e] at h
 | 1,_,h=>
  rw[if_neg (b0 (by omega))];simp only[Qs] at h;obtain ⟨q',e,rfl⟩:=Option.map_eq_some_iff.1 h;rw[e]
 | 2,_,h=>
  rw[if_neg (b0 (by omega)),b1 (by omega)];by_cases e:zaQ P=false
  ·simp[Qs,e] at h
   simp only[if_pos e, ← h]
  ·simp[Qs,e] at h
 | 3,_,h=>
  rw[if_neg (b0 (by omega)),b1 (by omega)];simp only[Qs] at h;obtain ⟨q',e,rfl⟩:=Option.map_eq_some_iff.1 h;simp only[if_neg (b2 (by omega)),e]
 | 4,_,h=>
  rw[if_neg (b0 (by omega)),b1 (by omega)];simp only[Qs] at h;obtain ⟨q',e,rfl⟩:=Option.map_eq_some_iff.1 h;simp only[if_neg (b2 (by omega)),b3 (by omega),e]
 | 5,_,h=>
  rw[if_neg (b0 (by omega)),b1 (by omega)];simp only[Qs] at h;obtain ⟨q',e,rfl⟩:=Option.map_eq_some_iff.1 h;simp only[if_neg (b2 (by omega)),b3 (by omega),b4 (by omega),e]
theorem zhQ(hb:∀ j,j<6→Qs P j=none):wfO P=none:=by
 have b0:¬ qJ P=false:=fun e=>by have:=hb 0 (by omega);simp[Qs,e] at this
 have b1:zB P=none:=by have:=hb 1 (by omega);simpa [Qs] using this
 have b2:¬ zaQ P=false:=fun e=>by have:=hb 2 (by omega);simp[Qs,e] at this
 have b3:ZW P (Zv P)=none:=by have:=hb 3 (by omega);simpa [Qs] using this
 have b4:(bks P).find? (jq P)=none:=by
  have:=hb 4 (by omega);simp only[Qs] at this;exact Option.map_eq_none_iff.1 this
 have b5:(pts P).find? (za0 P)=none:=by
  have:=hb 5 (by omega);simp only[Qs] at this;exact Option.map_eq_none_iff.1 this
 unfold wfO;rw[if_neg b0,b1];simp only[if_neg b2,b3,b4,b5]
def Q2(o:Option (Int × Int × Int × Int))(w:World)(e:Ending)(w':World):Prop:=match o with
 | none=>e=.returned .nilIface∧zc [] w w'
 | some q=>∃ r,e=.returned (Jz r)∧J0 w' r q.1 q.2.1 q.2.2.1 q.2.2.2∧zc [] w w'
theorem zjo(hb:qJ P=true):SzP P:=by
 have sm10:=Zy (ZE hb);refine ⟨Nat.le_trans sm10.fn (by decide),fun f hf=>(zaA hb hf).2.1,fun f hf=>Nat.le_trans (zaA hb hf).2.2 (by decide),fun f hf=>Nat.le_trans (zaA hb hf).1 (by decide),fun f b hf=> ?_,fun f b k hf hk=> ?_⟩
 ·by_cases hb':b<(zf P f).blocks.length
  ·exact Nat.le_trans (sm10.code hf hb') (by decide)
  ·unfold zr
   rw[QR hb'];simp
 ·by_cases hb':b<(zf P f).blocks.length
  ·exact Jp hb f b k hf hb' hk
  ·unfold zr at hk
   rw[QR hb'] at hk;simp at hk
def zjU:Nat→Nat
 | 0=>81
 | 1=>82
 | 2=>83
 | 3=>84
 | 4=>85
 | _=>86
theorem zjB(h:PrC w pb po P)(hT:Ze w)(hk:k<6)(hb:∀ j,j<k→Qs P j=none):Calls Tryz.prog (zjU k) #[pointer (some ⟨pb,po,none⟩)] w (Q2 (Qs P k) w):=by
 have b0:0<k→qJ P=true:=fun hk=>by
  cases e:qJ P with
  | true=>rfl
  | false=>have:=hb 0 hk;simp[Qs,e] at this
 match k,hk with
 | 0,_=>
  refine (zeC h).mono ?_;intro e w' h';show Q2 (if qJ P=false then some (2, -1,0,0) else none) w e w';cases hbn:qJ P with
  | true=>rw[hbn] at h';exact h'
  | false=>rw[hbn] at h';exact h'
 | 1,_=>
  refine (zgZ h (Jp (b0 (by omega)))).mono ?_;intro e w' h';show Q2 ((zB P).map fun q=>(3,q)) w e w';cases hn:zB P with
  | none=>rw[hn] at h';exact h'
  | some q=>rw[hn] at h';exact h'
 | 2,_=>
  refine (zhW h).mono ?_;intro e w' h';show Q2 (if zaQ P=false then some (7, -1,0,0) else none) w e w';cases hbn:zaQ P with
  | true=>rw[hbn] at h';exact h'
  | false=>rw[hbn] at h';exact h'
 | 3,_=>
  have hs:=Zy (ZE (b0 (by omega)));refine (zeH h hs (g:=Zv P) (fun w' f b i a cp kk hf hb2 hi hz=> ?_)).mono ?_
  ·exact zio (PrC.stays _ _ _ _ _ kk h) hf _ hz (Jp (b0 (by omega)) f b i hf hb2 hi)
  intro e w' h';show Q2 ((ZW P (Zv P)).map fun q=>(4,q)) w e w';cases hn:ZW P (Zv P) with
  | none=>rw[hn] at h';exact h'
  | some q=>rw[hn] at h';exact h'
 | 4,_=>
  refine (zhq h (zjo (b0 (by omega)))).mono ?_;intro e w' h';show Q2 (((bks P).find? (jq P)).map fun q=>(6,ptI q)) w e w';cases hn:(bks P).find? (jq P) with
  | none=>rw[hn] at h';exact h'
  | some q=>rw[hn] at h';exact h'
 | 5,_=>
  refine (zfE h hT (zjo (b0 (by omega)))).mono ?_;intro e w' h';show Q2 (((pts P).find? (za0 P)).map fun q=>(5,ptI q)) w e w';cases hn:(pts P).find? (za0 P) with
  | none=>rw[hn] at h';exact h'
  | some q=>rw[hn] at h';exact h'
theorem zeF(h:PrC w pb po P)(hg:zeP w)(hT:Ze w):Calls Tryz.prog 53 #[pointer (some ⟨pb,po,none⟩)] w (zlK (wfO P) w):=by
 have HP:=hid h;have HG:=hid hg;have HT:=hid hT;have HASK:=hid fun (w':World) (k:Nat) (hk:k<6) (kp:zc [] w w') (hb:∀ j,j<k→Qs P j=none)=>zjB (PrC.stays _ _ _ _ _ kp h) (hT.kept kp (by simp)) hk hb;have HN:=hid (zeX w);have HKA:=hid (zc.alloc [] w (.cells #[.func (.func 81) #[] #[],.func (.func 82) #[] #[],.func (.func 83) #[] #[],.func (.func 84) #[] #[],.func (.func 85) #[] #[],.func (.func 86) #[] #[]] 106));clear h hg hT;go_enter Tryz.func53,Tryz.ntmps53;go_wp2_with fail;generalize w.alloc (.cells #[.func (.func 81) #[] #[],.func (.func 82) #[] #[],.func (.func 83) #[] #[],.func (.func 84) #[] #[],.func (.func 85) #[] #[],.func (.func 86) #[] #[]] 106)=W at *;generalize w.heap.size=q at *
 go_loopw [8] (fun kv wr=>∃ k:Nat,k≤6∧kv=int i64 (k:Int)∧Box (zc [] W wr)∧Box (∀ j,j<k→Qs P j=none)) (fun kv _=>6 - (intOf kv).toNat)
 case atStart=>exact ⟨0,by omega,rfl,hid (zc.refl _ _),hid fun j hj=>by omega⟩
 case round=>
  obtain ⟨k,hk,rfl,HK,HJ⟩:=hrel;have hq:=ze HN.o HK.o;by_cases hk0:k=0
  ·subst hk0
   have c0:=zd hq 0;have HA:=hid (HASK.o wr 0 (by omega) (HKA.o.quiet HK.o) HJ.o);unfold zjU at HA;clear hq hk;go_wp2_with fail;refine HA.o.mono ?_;intro e w3 h3;clear c0 HA;cases ho:Qs P 0 with
   | none=>
    rw[ho] at h3;obtain ⟨rfl,k3⟩:=h3;have K3:=hid (HK.o.quiet k3);have HO:=hid ho;clear k3 ho;go_wp2_with fail;go_roundw
    case rel=>
     refine ⟨1,by omega,by go_num,K3,hid fun j hj=> ?_⟩;by_cases hjk:j=0
     ·subst hjk
      exact HO.o
     ·exact HJ.o j (by omega)
    case measure=>simp[intOf]
   | some z=>
    rw[ho] at h3;obtain ⟨r,rfl,hr,k3⟩:=h3;have K3:=hid (HKA.o.quiet (HK.o.quiet k3));have HO:Box (wfO P=some z):=hid (Qi (by omega) HJ.o ho);have HW:=hid (ju (HG.o.quiet (HKA.o.quiet (HK.o.quiet k3))) hr);clear k3 ho hr;go_wp2_with fail;refine HW.o.mono ?_;rintro e w4 ⟨p4,r4,rfl,h41,h42,h43,k4⟩;have H4:=hid (And.intro h41 (And.intro h42 (And.intro h43 (K3.o.quiet k4))));clear h41 h42 h43 k4 HW;go_wp2_with fail;go_ret;rw[HO.o];exact ⟨p4,r4,rfl,H4.o.1,H4.o.2.1,H4.o.2.2.1,H4.o.2.2.2⟩
  by_cases hk1:k=1
  ·subst hk1
   have c0:=zd hq 1;have HA:=hid (HASK.o wr 1 (by omega) (HKA.o.quiet HK.o) HJ.o);unfold zjU at HA;clear hq hk;go_wp2_with fail;refine HA.o.mono ?_;intro e w3 h3;clear c0 HA;cases ho:Qs P 1 with
   | none=>
    rw[ho] at h3;obtain ⟨rfl,k3⟩:=h3;have K3:=hid (HK.o.quiet k3);have HO:=hid ho;clear k3 ho;go_wp2_with fail;go_roundw
    case rel=>
     refine ⟨2,by omega,by go_num,K3,hid fun j hj=> ?_⟩;by_cases hjk:j=1
     ·subst hjk
      exact HO.o
     ·exact HJ.o j (by omega)
    case measure=>simp[intOf]
   | some z=>
    rw[ho] at h3;obtain ⟨r,rfl,hr,k3⟩:=h3;have K3:=hid (HKA.o.quiet (HK.o.quiet k3));have HO:Box (wfO P=some z):=hid (Qi (by omega) HJ.o ho);have HW:=hid (ju (HG.o.quiet (HKA.o.quiet (HK.o.quiet k3))) hr);clear k3 ho hr;go_wp2_with fail;refine HW.o.mono ?_;rintro e w4 ⟨p4,r4,rfl,h41,h42,h43,k4⟩;have H4:=hid (And.intro h41 (And.intro h42 (And.intro h43 (K3.o.quiet k4))));clear h41 h42 h43 k4 HW;go_wp2_with fail;go_ret;rw[HO.o];exact ⟨p4,r4,rfl,H4.o.1,H4.o.2.1,H4.o.2.2.1,H4.o.2.2.2⟩
  by_cases hk2:k=2
  ·subst hk2
   have c0:=zd hq 2;have HA:=hid (HASK.o wr 2 (by omega) (HKA.o.quiet HK.o) HJ.o);unfold zjU at HA;clear hq hk;go_wp2_with fail;refine HA.o.mono ?_;intro e w3 h3;clear c0 HA;cases ho:Qs P 2 with
   | none=>
    rw[ho] at h3;obtain ⟨rfl,k3⟩:=h3;have K3:=hid (HK.o.quiet k3);have HO:=hid ho;clear k3 ho;go_wp2_with fail;go_roundw
    case rel=>
     refine ⟨3,by omega,by go_num,K3,hid fun j hj=> ?_⟩;by_cases hjk:j=2
     ·subst hjk
      exact HO.o
     ·exact HJ.o j (by omega)
    case measure=>simp[intOf]
   | some z=>
    rw[ho] at h3;obtain ⟨r,rfl,hr,k3⟩:=h3;have K3:=hid (HKA.o.quiet (HK.o.quiet k3));have HO:Box (wfO P=some z):=hid (Qi (by omega) HJ.o ho);have HW:=hid (ju (HG.o.quiet (HKA.o.quiet (HK.o.quiet k3))) hr);clear k3 ho hr;go_wp2_with fail;refine HW.o.mono ?_;rintro e w4 ⟨p4,r4,rfl,h41,h42,h43,k4⟩;have H4:=hid (And.intro h41 (And.intro h42 (And.intro h43 (K3.o.quiet k4))));clear h41 h42 h43 k4 HW;go_wp2_with fail;go_ret;rw[HO.o];exact ⟨p4,r4,rfl,H4.o.1,H4.o.2.1,H4.o.2.2.1,H4.o.2.2.2⟩
  by_cases hk3:k=3
  ·subst hk3
   have c0:=zd hq 3;have HA:=hid (HASK.o wr 3 (by omega) (HKA.o.quiet HK.o) HJ.o);unfold zjU at HA;clear hq hk;go_wp2_with fail;refine HA.o.mono ?_;intro e w3 h3;clear c0 HA;cases ho:Qs P 3 with
   | none=>
    rw[ho] at h3;obtain ⟨rfl,k3⟩:=h3;have K3:=hid (HK.o.quiet k3);have HO:=hid ho;clear k3 ho;go_wp2_with fail;go_roundw
    case rel=>
     refine ⟨4,by omega,by go_num,K3,hid fun j hj=> ?_⟩;by_cases hjk:j=3
     ·subst hjk
      exact HO.o
     ·exact HJ.o j (by omega)
    case measure=>simp[intOf]
   | some z=>
    rw[ho] at h3;obtain ⟨r,rfl,hr,k3⟩:=h3;have K3:=hid (HKA.o.quiet (HK.o.quiet k3));have HO:Box (wfO P=some z):=hid (Qi (by omega) HJ.o ho);have HW:=hid (ju (HG.o.quiet (HKA.o.quiet (HK.o.quiet k3))) hr);clear k3 ho hr;go_wp2_with fail;refine HW.o.mono ?_;rintro e w4 ⟨p4,r4,rfl,h41,h42,h43,k4⟩;have H4:=hid (And.intro h41 (And.intro h42 (And.intro h43 (K3.o.quiet k4))));clear h41 h42 h43 k4 HW;go_wp2_with fail;go_ret;rw[HO.o];exact ⟨p4,r4,rfl,H4.o.1,H4.o.2.1,H4.o.2.2.1,H4.o.2.2.2⟩
  by_cases hk4:k=4
  ·subst hk4
   have c0:=zd hq 4;have HA:=hid (HASK.o wr 4 (by omega) (HKA.o.quiet HK.o) HJ.o);unfold zjU at HA;clear hq hk;go_wp2_with fail;refine HA.o.mono ?_;intro e w3 h3;clear c0 HA;cases ho:Qs P 4 with
   | none=>
    rw[ho] at h3;obtain ⟨rfl,k3⟩:=h3;have K3:=hid (HK.o.quiet k3);have HO:=hid ho;clear k3 ho;go_wp2_with fail;go_roundw
    case rel=>
     refine ⟨5,by omega,by go_num,K3,hid fun j hj=> ?_⟩;by_cases hjk:j=4
     ·subst hjk
      exact HO.o
     ·exact HJ.o j (by omega)
    case measure=>simp[intOf]
   | some z=>
    rw[ho] at h3;obtain ⟨r,rfl,hr,k3⟩:=h3;have K3:=hid (HKA.o.quiet (HK.o.quiet k3));have HO:Box (wfO P=some z):=hid (Qi (by omega) HJ.o ho);have HW:=hid (ju (HG.o.quiet (HKA.o.quiet (HK.o.quiet k3))) hr);clear k3 ho hr;go_wp2_with fail;refine HW.o.mono ?_;rintro e w4 ⟨p4,r4,rfl,h41,h42,h43,k4⟩;have H4:=hid (And.intro h41 (And.intro h42 (And.intro h43 (K3.o.quiet k4))));clear h41 h42 h43 k4 HW;go_wp2_with fail;go_ret;rw[HO.o];exact ⟨p4,r4,rfl,H4.o.1,H4.o.2.1,H4.o.2.2.1,H4.o.2.2.2⟩
  by_cases hk5:k=5
  ·subst hk5
   have c0:=zd hq 5;have HA:=hid (HASK.o wr 5 (by omega) (HKA.o.quiet HK.o) HJ.o);unfold zjU at HA;clear hq hk;go_wp2_with fail;refine HA.o.mono ?_;intro e w3 h3;clear c0 HA;cases ho:Qs P 5 with
   | none=>
    rw[ho] at h3;obtain ⟨rfl,k3⟩:=h3;have K3:=hid (HK.o.quiet k3);have HO:=hid ho;clear k3 ho;go_wp2_with fail;go_roundw
    case rel=>
     refine ⟨6,by omega,by go_num,K3,hid fun j hj=> ?_⟩;by_cases hjk:j=5
     ·subst hjk
      exact HO.o
     ·exact HJ.o j (by omega)
    case measure=>simp[intOf]
   | some z=>
    rw[ho] at h3;obtain ⟨r,rfl,hr,k3⟩:=h3;have K3:=hid (HKA.o.quiet (HK.o.quiet k3));have HO:Box (wfO P=some z):=hid (Qi (by omega) HJ.o ho);have HW:=hid (ju (HG.o.quiet (HKA.o.quiet (HK.o.quiet k3))) hr);clear k3 ho hr;go_wp2_with fail;refine HW.o.mono ?_;rintro e w4 ⟨p4,r4,rfl,h41,h42,h43,k4⟩;have H4:=hid (And.intro h41 (And.intro h42 (And.intro h43 (K3.o.quiet k4))));clear h41 h42 h43 k4 HW;go_wp2_with fail;go_ret;rw[HO.o];exact ⟨p4,r4,rfl,H4.o.1,H4.o.2.1,H4.o.2.2.1,H4.o.2.2.2⟩
  have hk6:k=6:=by omega
  subst hk6;have HO:Box (wfO P=none):=hid (zhQ HJ.o);clear hq hk;go_wp2_with fail;go_ret;rw[HO.o];exact ⟨rfl,HKA.o.quiet HK.o⟩
def mdV(P:Pr8)(q:Nat × Nat × Nat):Value:=.tuple #[int i64 (if Qq P q=true then mkR P q else 0),.bool (Qq P q)]
structure zon (P:Pr8) (f b i:Nat):Prop where
 lt:i<(zr (zf P f) b).code.length
 op:(zT (zr (zf P f) b) i).op=5
 d0:0≤(zT (zr (zf P f) b) i).dst
 d1:(zT (zr (zf P f) b) i).dst<((zf P f).regs.length:Int)
 r0:0≤mkR P (f,b,i)
 r1:mkR P (f,b,i)<(P.recs.length:Int)
theorem zfZ(W:Wff P){f b i:Nat}(hp:Zh P f b i)(g:Qq P (f,b,i)=true):zon P f b i:=by
 unfold Qq at g;rw[Bool.and_eq_true] at g;have g1:i<(zr (zf P f) b).code.length:=of_decide_eq_true g.1;have g2:(zT (zr (zf P f) b) i).op=5:=of_decide_eq_true g.2;have T:InT P (zf P f) (zT (zr (zf P f) b) i):=znw (W.ins hp g1);obtain ⟨a1,a2⟩:=zor (W.fit hp g1) (W.rt hp g1) g2;have hd:=T.dst (by unfold zD;simp only[decide_eq_true_eq];omega);rw[ziu hd] at a2;have hd':=zt.1 hd;have a2':=zt.1 a2;exact ⟨g1,g2,hd'.1,hd'.2,a2'.1,a2'.2⟩
theorem ziy(h:PrC w pb po P)(W:Wff P){f b i:Nat}(hp:Zh P f b i):Calls Tryz.prog 71 #[pointer (some ⟨pb,po,none⟩),ptV f b i] w fun e w'=>e=.returned (mdV P (f,b,i))∧zc [] w w':=by
 have HM:=hid fun g=>zfZ W hp g;have HI:Box (Qq P (f,b,i)=(decide (i<(zr (zf P f) b).code.length) && decide ((zT (zr (zf P f) b) i).op=5))):=hid rfl;have k1:=zc.alloc [] w (.cells #[int i64 (f:Int),int i64 (b:Int),int i64 (i:Int)] 99);have hq:=zh w (.cells #[int i64 (f:Int),int i64 (b:Int),int i64 (i:Int)] 99);have p0:=zd hq 0;have p1:=zd hq 1;have p2:=zd hq 2;have KW:=hid k1;obtain ⟨fa,fcp,H⟩:=h.fns;have hl1:=H.len;have hfn:=hp.1;have ef:P.funcs[f]? = some (zf P f):=zg hp.1;obtain ⟨fb,fo,rfl,FC⟩:=H.rows.at ef;have h4:=za k1 H.cell;obtain ⟨ba,bcp,g20,gr, -, -⟩:=FC.c2;obtain ⟨ra,rcp,g30,grr, -, -⟩:=FC.c1;have g2:=za k1 g20;have g3:=za k1 g30;have hbn:=hp.2.1;have eb:(zf P f).blocks[b]? = some (zr (zf P f) b):=zg hp.2.1;obtain ⟨bb,bo,rfl,L⟩:=gr.at eb;obtain ⟨ca,ccp,gc0,hrows, -,hcl⟩:=L.c0;have gc:=za k1 gc0;have hil:=hp.2.2;have hR2:Box (∀ k t,(zf P f).regs[k]? = some t→∃ rb ro,ra=some ⟨rb,ro,none⟩∧(w.alloc (.cells #[int i64 (f:Int),int i64 (b:Int),int i64 (i:Int)] 99)).cell? ⟨rb,ro+k * 2+1,none⟩=some (int i64 t.2)):=hid fun k t hk=>by
  obtain ⟨rb,ro,e,hc⟩:=grr.at hk;exact ⟨rb,ro,e,za k1 hc.c1.1⟩
 have HMV:Box (mdV P (f,b,i)=.tuple #[int i64 (if Qq P (f,b,i)=true then ((zf P f).regs.getD (zT (zr (zf P f) b) i).dst.toNat (0,0)).2 else 0),.bool (Qq P (f,b,i))]):=hid rfl;unfold ptV;by_cases hic:i<(zr (zf P f) b).code.length
 ·obtain ⟨ib,io,rfl,IC⟩:=hrows.at (zg (d:=⟨0,0,0,0,0,[]⟩) hic)
  have o0:=za k1 IC.c0.1;have o1:=za k1 IC.c1.1;have ei:(zr (zf P f) b).code.getD i ⟨0,0,0,0,0,[]⟩=zT (zr (zf P f) b) i:=rfl;rw[ei] at o0 o1;have hne:¬ (i:Int)=((zr (zf P f) b).code.length:Int):=by omega
  by_cases hop:(zT (zr (zf P f) b) i).op=5
  ·have ht:Qq P (f,b,i)=true:=by rw[HI.o,decide_eq_true hic,decide_eq_true hop];rfl
   have M:=HM.o ht;have m1:=M.d0;have m2:=M.d1;obtain ⟨d,hd⟩:∃ d:Nat,(zT (zr (zf P f) b) i).dst=(d:Int):=⟨(zT (zr (zf P f) b) i).dst.toNat,by omega⟩;rw[hd] at o1;have hdl:d<(zf P f).regs.length:=by omega
   obtain ⟨rb,ro,rfl,y1⟩:=hR2.o d _ (zg (d:=(0,0)) hdl);rw[ht,if_pos rfl,hd,Int.toNat_natCast] at HMV;rw[hop] at o0;clear HM HI hR2 h H FC g20 g30 gr grr L gc0 hrows hp IC M m1 m2 hd ht ei eb ef k1 hq W;generalize ((zf P f).regs.getD d (0,0)).2=rv at *;generalize (zf P f).regs.length=rn at *;generalize (zr (zf P f) b).code.length=cn at *;generalize (zf P f).blocks.length=bn at *;generalize P.funcs.length=fn at *;go_enter Tryz.func71,Tryz.ntmps71;go_upto_region 1 with fail;generalize w.alloc (.cells #[int i64 (f:Int),int i64 (b:Int),int i64 (i:Int)] 99)=w1 at *;generalize w.heap.size=q at *;go_quiet (fail);go_wp2_with fail;go_quiet (fail);go_wp2_with fail;go_quiet (fail);go_wp2_with fail
   go_ret2
   exact ⟨congrArg Ending.returned HMV.o.symm,by first | exact KW.o.quiet (zc.drewN _ _ _) | exact (KW.o.quiet (zc.drewN _ _ _)).quiet (zc.drewN _ _ _)⟩
  ·have ht:Qq P (f,b,i)=false:=by rw[HI.o,decide_eq_true hic,decide_eq_false hop];rfl
   rw[ht,if_neg (by decide)] at HMV;clear HM HI hR2 h H FC g20 g30 gr grr L gc0 hrows hp IC ht ei eb ef k1 hq W;generalize (zT (zr (zf P f) b) i).op=ov at *;have hop':(ov != 5)=true:=bne_iff_ne.2 hop;generalize (zr (zf P f) b).code.length=cn at *;generalize (zf P f).blocks.length=bn at *;generalize P.funcs.length=fn at *;go_enter Tryz.func71,Tryz.ntmps71;go_upto_region 1 with fail;generalize w.alloc (.cells #[int i64 (f:Int),int i64 (b:Int),int i64 (i:Int)] 99)=w1 at *;generalize w.heap.size=q at *;go_quiet (fail);go_wp2_with fail;go_quiet (fail);go_wp2_with fail
   go_ret2
   exact ⟨congrArg Ending.returned HMV.o.symm,by first | exact KW.o.quiet (zc.drewN _ _ _) | exact (KW.o.quiet (zc.drewN _ _ _)).quiet (zc.drewN _ _ _)⟩
 ·have hne:((i:Int) == ((zr (zf P f) b).code.length:Int))=true:=beq_iff_eq.2 (by omega)
  have ht:Qq P (f,b,i)=false:=by rw[HI.o,decide_eq_false hic];rfl
  rw[ht,if_neg (by decide)] at HMV;clear HM HI hR2 h H FC g20 g30 gr grr L gc0 hrows hp ht eb ef k1 hq W;generalize (zr (zf P f) b).code.length=cn at *;generalize (zf P f).blocks.length=bn at *;generalize P.funcs.length=fn at *;go_enter Tryz.func71,Tryz.ntmps71;go_upto_region 1 with fail;generalize w.alloc (.cells #[int i64 (f:Int),int i64 (b:Int),int i64 (i:Int)] 99)=w1 at *;generalize w.heap.size=q at *;go_quiet (fail);go_wp2_with fail;go_quiet (fail);go_wp2_with fail
  go_ret2
  exact ⟨congrArg Ending.returned HMV.o.symm,by first | exact KW.o.quiet (zc.drewN _ _ _) | exact (KW.o.quiet (zc.drewN _ _ _)).quiet (zc.drewN _ _ _)⟩
theorem zc.fresh9{a b:World}(h:zc [] w a)(k:zc [tb] a b)(hb:w.heap.size≤tb):zc [] w b:=
 h.trans k fun x hx hl=>by
  rw[List.mem_singleton.1 hx] at hl;omega
theorem zc.down9{b:World}(k:zc [tb] w b)(hb:w.heap.size≤tb):zc [] w b:=(zc.refl [] w).fresh9 k hb
def zdy(P:Pr8)(k:Nat):List Value:=(ziv P k).map fun n=>int i64 n
theorem zgb(P:Pr8)(k:Nat):zdy P (k+1)=zdy P k ++ [int i64 (jv P (k+1):Int)]:=by
 unfold zdy;rw[zg7,List.map_append];rfl
theorem znx(l:List St){j:Nat}{s:St}(h:l[j]? = some s){i:Nat}(hi:i<4):(zeS l)[j * 4+i]? = [Value.int .i64 (s.p:Int),int i64 s.r,int i64 (s.c:Int),int i64 (s.n:Int)][i]? := by
 induction l generalizing j with
 | nil=>simp at h
 | cons x l ih=>
  unfold zeS;rw[List.flatMap_cons];cases j with
  | zero=>
   simp at h;subst h;rw[List.getElem?_append_left (by simp;omega),Nat.zero_mul,Nat.zero_add]
  | succ j=>
   rw[List.getElem?_append_right (by simp;omega)];have:=ih (j:=j) (by simpa using h);unfold zeS at this;rw[← this]
   congr 1
   simp;omega
theorem TbM.done{B C:Nat}{bv sv:Value}(h:TbM B C w tb bv sv ((stN P (pts P).length).2:Int) (P.funcs.length+1) (zdy P P.funcs.length) (stN P (pts P).length).1.length (zeS (stN P (pts P).length).1)):TbC w tb P:=by
 refine ⟨?_,?_,zd h.box 2⟩
 ·have hb:=h.bo
  rcases h.bo.2 with ⟨_,h0⟩ | ⟨g,cap,cur,rfl,_,_,hn,_⟩
  ·omega
  ·refine ⟨_,cap,zd h.box 0,.inr ⟨g,0,rfl,fun i hi=> ?_⟩⟩
   rw[zbo] at hi;rw[Nat.zero_add,hb.cellAt _ (by omega)];unfold zdy;rw[List.getElem?_map,zc3 P (by omega),List.getD_eq_getElem?_getD,zc3 P (by omega)];rfl
 ·have hb:=h.so
  rcases h.so.2 with ⟨rfl,h0⟩ | ⟨g,cap,cur,rfl,_,_,hn,_⟩
  ·refine ⟨none,0,?_,.inl (List.eq_nil_of_length_eq_zero h0)⟩
   have:=zd h.box 1;unfold qG;rw[h0];exact this
  ·refine ⟨_,cap,zd h.box 1,.inr ⟨g,0,rfl,fun j s hs=> ?_⟩⟩
   have hj:=(List.getElem?_eq_some_iff.1 hs).1;unfold qG at hs hj;have at9:∀ i,i<4→w.cell? ⟨g,0+j * 4+i,none⟩=[Value.int .i64 (s.p:Int),int i64 s.r,int i64 (s.c:Int),int i64 (s.n:Int)][i]? := fun i hi=>by
    rw[Nat.zero_add,hb.cellAt _ (by omega)];exact znx _ hs hi
   exact ⟨at9 0 (by omega),at9 1 (by omega),at9 2 (by omega),at9 3 (by omega)⟩
theorem zd4{pp:Nat}(h:PrC w pp po P)(hg:zeP w)(hT:Ze w)(ok:wfO P=none)(hs:SmN P)(hs10:zcu P):Calls Tryz.prog 33 #[pointer (some ⟨pp,po,none⟩)] w fun e w'=>∃ tb,e=.returned (pointer (some ⟨tb,0,none⟩))∧TbC w' tb P∧zc [] w w':=by
 have HW:=hid (zeF h hg hT);rw[ok] at HW;have W:=hid (zfy ok);have HP:=hid h;have HPT:=hid fun (w':World) (k:zc [] w w')=>Qb (PrC.stays _ _ _ _ _ k h) hs10;have HMD:=hid fun (w':World) (k:zc [] w w') (f b i:Nat) (hp:Zh P f b i)=>ziy (PrC.stays _ _ _ _ _ k h) (zfy ok) hp;have HS:=hid hs;obtain ⟨fa,fcp,H⟩:=h.fns;have HF:=hid H;have hN:=hs.fn;obtain ⟨N,hNN⟩:∃ N,N=P.funcs.length:=⟨_,rfl⟩;have HN:=hid hNN;rw[← hNN] at hN
 have H4:Box (∀ w',zc [] w w'→w'.cell? ⟨pp,po+4,none⟩=some (.slice fa N fcp)):=hid (by
  have h4':=H.cell;rw[← hNN] at h4';intro w' k
  exact za k h4')
 clear h hg hT ok hs hs10 H hNN;go_enter Tryz.func33,Tryz.ntmps33;go_wp2_with fail;refine HW.o.mono ?_;rintro e w2 ⟨rfl,k2⟩;have K2:=hid k2;clear k2 HW;go_upto_region 4 with fail
 have T0:Box (TbM w.heap.size w.heap.size ((w2.alloc (.cells #[int i64 0] 3)).alloc (.cells #[.slice (some ⟨w2.heap.size,0,none⟩) 1 1,.slice none 0 0,int i64 0] 141)) (w2.heap.size+1) (.slice (some ⟨w2.heap.size,0,none⟩) 1 1) (.slice none 0 0) (jv P 0:Int) 1 (zdy P 0) 0 []):=hid (by
  have hsz:=K2.o.size;have g1:=zh (w2.alloc (.cells #[int i64 0] 3)) (.cells #[.slice (some ⟨w2.heap.size,0,none⟩) 1 1,.slice none 0 0,int i64 0] 141);rw[World.size_alloc] at g1;have g2:=ze (zh w2 (.cells #[int i64 0] 3)) (zc.alloc [] _ (.cells #[.slice (some ⟨w2.heap.size,0,none⟩) 1 1,.slice none 0 0,int i64 0] 141))
  exact ⟨g1,⟨rfl,.inr ⟨_,1,_,rfl,hsz,g2,Nat.le_refl _,by unfold maxLen;omega,rfl,rfl⟩⟩,World.ownsRow_nil _ _ _ _,by omega⟩)
 have KT:Box (zc [] w ((w2.alloc (.cells #[int i64 0] 3)).alloc (.cells #[.slice (some ⟨w2.heap.size,0,none⟩) 1 1,.slice none 0 0,int i64 0] 141))):=hid ((K2.o.quiet (zc.alloc _ _ _)).quiet (zc.alloc _ _ _));generalize (w2.alloc (.cells #[int i64 0] 3)).alloc (.cells #[.slice (some ⟨w2.heap.size,0,none⟩) 1 1,.slice none 0 0,int i64 0] 141)=w3 at *;generalize (Value.slice (some ⟨w2.heap.size,0,none⟩) 1 1)=bv0 at *;generalize w2.heap.size+1=tb at *;clear K2;have q4:=H4.o _ KT.o;go_wp2_with fail;clear q4
 go_loopw [21] (fun kv wr=>∃ (k:Nat) (bv:Value),k≤N∧kv=int i64 (k:Int)∧Box (TbM w.heap.size w.heap.size wr tb bv (.slice none 0 0) (jv P k:Int) (k+1) (zdy P k) 0 [])∧Box (zc [] w wr)) (fun kv _=>N - (intOf kv).toNat)
 case atStart=>exact ⟨0,bv0,by omega,rfl,T0,KT⟩
 case round=>
  obtain ⟨k,bv,hk,rfl,HO,HK⟩:=hrel;clear T0 KT;by_cases hlt:k<N
  ·have hlt':(k:Int)<(N:Int):=by omega
   have q4:=H4.o _ HK.o;have ef:P.funcs[k]? = some (zf P k):=zg (by rw[← HN.o];exact hlt);obtain ⟨fb,fo,rfl,FC⟩:=HF.o.rows.at ef;obtain ⟨ra,rcp,g30,grr, -, -⟩:=FC.c1;have g3:=za HK.o g30;have hrl:=HS.o.rg k (by rw[← HN.o];exact hlt);have hbk:=HS.o.beg (k:=k) (by rw[← HN.o];omega);have HB:Box ((jv P k:Int)+(((zf P k).regs.length:Int)+1)=(jv P (k+1):Int)):=hid (by show _=((jv P k+((zf P k).regs.length+1):Nat):Int);omega);clear FC g30 grr ef;obtain ⟨bk,hbk9⟩:∃ bk,bk=jv P k:=⟨_,rfl⟩;have HBK:=hid hbk9;rw[← hbk9] at HO HB hbk;clear hbk9;generalize (zf P k).regs.length=rl at *;have c2:=zd HO.o.box 2;have y2:=zi HO.o.box 2;go_upto_region 7 with fail
   go_region
   rw[HB.o];have H7:Box (TbM w.heap.size w.heap.size (wr.setCell ⟨tb,2,none⟩ (int i64 (jv P (k+1):Int))).drew tb bv (.slice none 0 0) (jv P (k+1):Int) (k+1) (zdy P k) 0 []):=hid ((HO.o.num _).quiet (zc.drew _ _));have K7:Box (zc [] w (wr.setCell ⟨tb,2,none⟩ (int i64 (jv P (k+1):Int))).drew):=hid ((HK.o.fresh9 (zc.setCell _ _ _ _ (List.mem_singleton.2 rfl)) HO.o.new).quiet (zc.drew _ _));generalize (wr.setCell ⟨tb,2,none⟩ (int i64 (jv P (k+1):Int))).drew=w7 at *;clear HO HK q4 g3 c2 y2 HB HBK hbk;go_wp2_with fail;obtain ⟨z,hz⟩:∃ z:Int,z=(jv P (k+1):Int):=⟨_,rfl⟩;have HZ:=hid hz;rw[← hz] at H7;clear hz;have c0:=zd H7.o.box 0;have y0:=zi H7.o.box 0;have l0:=zQ H7.o.box;have c2:=zd H7.o.box 2;have hB:w.heap.size≤w7.heap.size:=K7.o.size;have OW:Box ((w7.alloc (.cells #[int i64 z] 3)).ownsRow w.heap.size 3 1 bv (k+1) (zdy P k)):=hid (zj H7.o.bo (zc.alloc [] _ _) (fun _ _=>by simp))
   go_region_law (go_loud (refine step_append_lies _ (by rfl) _ _ _ (by rfl) w.heap.size 3 Tryz.t3 (int i64 0) 1 8 zE zU qu qs zX rfl (by decide) bv (k+1) (zdy P k) (by rfl) (zdf OW.o) ⟨w7.heap.size,0,none⟩ 1 1 [int i64 z] (by rfl) (by rfl) (World.news_of_block (cs:=#[int i64 z]) (t:=3) (fr:=(0,0)) (zh w7 _)) (fun x hx=>by simp at hx;subst hx;rfl) (by omega) (by unfold maxLen;omega) (by omega) (by simp;omega) (w7.heap.size+1) (by simp) ?_;intro g5 cap5 w5 hown5 hgrow5 hat5 hlt5;have HG5:Box ((w7.alloc (.cells #[int i64 z] 3)).grownBy w5 bv.ownBlock):=hid ⟨hgrow5.os,hgrow5.tape,hgrow5.output,hgrow5.size,hgrow5.block⟩;have GA:=hid (H7.o.app1 (zc.alloc [] w7 (.cells #[int i64 z] 3)) hown5 HG5.o);have GB:=hid (H7.o.far (zc.alloc [] w7 (.cells #[int i64 z] 3)) H7.o.bo (by decide) HG5.o).1;have GK:=hid (zc.down9 ((H7.o.far (zc.alloc [] w7 (.cells #[int i64 z] 3)) H7.o.bo (by decide) HG5.o).2 rfl (K7.o.mono (fun _ h=>by cases h)) 0 (.slice (some ⟨g5,0,none⟩) (k+1+1) cap5)) H7.o.new);have q3:=zd GB.o 0;have y9:=zi GB.o 0;have l9:=zQ GB.o;clear hown5 hgrow5 hat5 hlt5 HG5))
   all_goals
    have GF:Box (TbM w.heap.size w.heap.size (w5.setCell ⟨tb,0,none⟩ (.slice (some ⟨g5,0,none⟩) (k+1+1) cap5)) tb (.slice (some ⟨g5,0,none⟩) (k+1+1) cap5) (.slice none 0 0) (jv P (k+1):Int) (k+1+1) (zdy P (k+1)) 0 []):=hid (by
     have:=GA.o;rw[HZ.o] at this;rw[zgb]
     exact this)
    clear GA GB H7 K7 HZ c0 y0 l0 c2 hB OW q3 y9 l9;generalize w5.setCell ⟨tb,0,none⟩ (.slice (some ⟨g5,0,none⟩) (k+1+1) cap5)=w9 at *;generalize (Value.slice (some ⟨g5,0,none⟩) (k+1+1) cap5)=bv9 at *
   all_goals
    go_wp2_with fail;go_roundw
    case rel=>exact ⟨k+1,bv9,by omega,by go_num,GF,GK⟩
    case measure=>simp[intOf];omega
  ·obtain rfl:k=N:=by omega
   have hlt':¬ (k:Int)<(k:Int):=by omega
   go_wp2_with fail;refine (HPT.o _ HK.o).mono ?_;rintro e w4 ⟨a,cp,rfl,hrow,k4⟩;have HO4:=hid (HO.o.quiet k4);have HK4:=hid (HK.o.quiet k4);have HRW:=hid hrow;clear hrow k4 HO HK;obtain ⟨M,hM⟩:∃ M,M=(pts P).length:=⟨_,rfl⟩;have HM:=hid hM;have hM150:M≤150:=by rw[hM];exact HS.o.pt
   rw[← hM];clear hM;go_wp2_with fail
   have G0:Box (TbM w.heap.size w4.heap.size w4 tb bv (.slice none 0 0) ((stN P 0).2:Int) (k+1) (zdy P k) (stN P 0).1.length (zeS (stN P 0).1)):=hid (by
    refine ⟨?_,HO4.o.bo,World.ownsRow_nil _ _ _ _,HO4.o.new⟩;show w4.heap[tb]? = some (.cells #[bv,.slice none 0 0,int i64 (jv P P.funcs.length:Int)] 141 (0,0));rw[← HN.o]
    exact HO4.o.box)
   clear HO4
   go_loopw [58] (fun kv wr=>∃ (j:Nat) (sv:Value),j≤M∧kv=int i64 (j:Int)∧Box (TbM w.heap.size w4.heap.size wr tb bv sv ((stN P j).2:Int) (k+1) (zdy P k) (stN P j).1.length (zeS (stN P j).1))∧Box (zc [tb] w4 wr)) (fun kv _=>M - (intOf kv).toNat)
   case atStart=>exact ⟨0,_,by omega,rfl,G0,hid (zc.refl _ _)⟩
   case round=>
    obtain ⟨j,sv,hj,rfl,HO,HK⟩:=hrel;by_cases hlt:j<M
    ·have hltj:(j:Int)<(M:Int):=by omega
     obtain ⟨pf,pb,pi,hpt⟩:∃ f b i,(pts P)[j]? = some (f,b,i):=⟨_,_,_,List.getElem?_eq_getElem (by rw[← HM.o];exact hlt)⟩;obtain ⟨rb,ro,rfl,hc⟩:=HRW.o.at hpt;have hrt:rb≠tb:=G0.o.off hc.c0 hc.c1;have r0:wr.cell? ⟨rb,ro+j * 3,none⟩=_:=(HK.o.cell (p:=⟨rb,ro+j * 3,none⟩) (block_lt_of_cell hc.c0) (by simp[hrt])).trans hc.c0;have r1:wr.cell? ⟨rb,ro+j * 3+1,none⟩=_:=(HK.o.cell (p:=⟨rb,ro+j * 3+1,none⟩) (block_lt_of_cell hc.c1) (by simp[hrt])).trans hc.c1;have r2:wr.cell? ⟨rb,ro+j * 3+2,none⟩=_:=(HK.o.cell (p:=⟨rb,ro+j * 3+2,none⟩) (block_lt_of_cell hc.c2) (by simp[hrt])).trans hc.c2
     dsimp only at r0 r1 r2
     have hq:ZT P j=(pf,pb,pi):=by
      unfold ZT;rw[List.getD_eq_getElem?_getD,hpt];rfl
     have HQ:=hid hq;have HIP:=hid (jQ.1 (List.mem_of_getElem? hpt));have HKw:=hid (HK4.o.fresh9 HK.o HO.o.new);clear hc hpt hq G0;have KA:=zc.alloc [] wr (.cells #[int i64 (pf:Int),int i64 (pb:Int),int i64 (pi:Int)] 99);have hn:=zh wr (.cells #[int i64 (pf:Int),int i64 (pb:Int),int i64 (pi:Int)] 99);have n0:=zd hn 0;have n1:=zd hn 1;have n2:=zd hn 2;have HOA:=hid (HO.o.quiet KA);have HKA:=hid (HK.o.quiet KA);have HKW:=hid (HKw.o.quiet KA);go_upto_region 13 with fail;clear r0 r1 r2 hn KA HO HK HKw;generalize wr.alloc (.cells #[int i64 (pf:Int),int i64 (pb:Int),int i64 (pi:Int)] 99)=w5 at *;generalize wr.heap.size=vb at *;have HCA:=hid (HMD.o _ HKW.o pf pb pi HIP.o);unfold ptV at HCA;go_wp2_with fail;refine HCA.o.mono ?_;rintro e w6 ⟨rfl,k6⟩;have HO6:=hid (HOA.o.quiet k6);have HK6:=hid (HKA.o.quiet k6);have HKW6:=hid (HKW.o.quiet k6);clear k6 HOA HKA HKW HCA n0 n1 n2;have HMV:Box (mdV P (pf,pb,pi)=.tuple #[int i64 (if Qq P (pf,pb,pi)=true then mkR P (pf,pb,pi) else 0),.bool (Qq P (pf,pb,pi))]):=hid rfl;rw[HMV.o];clear HMV;by_cases hmk:Qq P (pf,pb,pi)=true
     ·have MO:=hid (zfZ W.o HIP.o hmk)
      rw[if_pos hmk,hmk];have HMK:=hid hmk;have hST:=j6 (P:=P) (k:=j) (by rw[HQ.o];exact hmk);rw[HQ.o] at hST;have HST:=hid hST;clear hmk hST;obtain ⟨d,hd⟩:∃ d:Nat,mkR P (pf,pb,pi)=(d:Int):=⟨(mkR P (pf,pb,pi)).toNat,by have:=MO.o.r0;omega⟩;have hdl:d<P.recs.length:=by have:=MO.o.r1;omega
      rw[hd] at HST ⊢;obtain ⟨xa,xcp,x0,xr, -, -⟩:=HP.o.c0;obtain ⟨xb,xo,rfl,xs⟩:=xr.at (zg (d:=[]) hdl);obtain ⟨ya,ycp,y0, -, -, -⟩:=xs;have e9:(P.recs.getD d []).length=zcx P (d:Int):=by unfold zcx;rw[Int.toNat_natCast]
      rw[e9,Nat.mul_one] at y0;have m0:=za HKW6.o x0;have m1:=za HKW6.o y0;have hfl:=HS.o.fl (d:Int);have hnd:=HS.o.nodes (k:=j) (by rw[← HM.o];omega);have hsl:(stN P j).1.length≤j:=zbx P j;have HUP:=hid (show (((stN P j).2:Nat):Int)+(zcx P (d:Int):Int)=(((stN P j).2+zcx P (d:Int):Nat):Int) by omega);clear x0 xr y0 hd MO HMK e9;obtain ⟨S,hS⟩:∃ S,S=(stN P j).1:=⟨_,rfl⟩;obtain ⟨x,hx⟩:∃ x,x=(stN P j).2:=⟨_,rfl⟩;rw[← hS, ← hx] at HST;rw[← hS, ← hx] at HO6;rw[← hS] at hsl;rw[← hx] at hnd HUP;clear hS hx;have hrln:=hdl;generalize hrn:P.recs.length=rn at m0 hrln;clear hrn;obtain ⟨fl,hfe⟩:∃ fl,fl=zcx P (d:Int):=⟨_,rfl⟩;rw[← hfe] at m1 hfl HUP HST;clear hfe hdl;go_upto_region 16 with fail;have c1:=zd HO6.o.box 1;have z1:=zi HO6.o.box 1;have l0:=zQ HO6.o.box;have c2:=zd HO6.o.box 2;have hB:w4.heap.size≤w6.heap.size:=HK6.o.size;have OW:Box ((w6.alloc (.cells #[int i64 (j:Int),int i64 (d:Int),int i64 (x:Int),int i64 (fl:Int)] 144)).ownsRow w4.heap.size 144 4 sv S.length (zeS S)):=hid (zj HO6.o.so (zc.alloc [] _ _) (fun _ _=>by simp));clear m0 m1
      go_region_law (go_loud (refine step_append_lies _ (by rfl) _ _ _ (by rfl) w4.heap.size 144 Tryz.t144 (agg #[int i64 0,int i64 0,int i64 0,int i64 0]) 4 32 zfN zhE zik zir zgi rfl (by decide) sv S.length (zeS S) (by rfl) (zdf OW.o) ⟨w6.heap.size,0,none⟩ 1 1 [int i64 (j:Int),int i64 (d:Int),int i64 (x:Int),int i64 (fl:Int)] (by rfl) (by rfl) (World.news_of_block (cs:=#[int i64 (j:Int),int i64 (d:Int),int i64 (x:Int),int i64 (fl:Int)]) (t:=144) (fr:=(0,0)) (zh w6 _)) (ziZ _ _ _ _) (by omega) (by unfold maxLen;omega) (by omega) (by simp;omega) (w6.heap.size+1) (by simp) ?_;intro g5 cap5 w7 hown5 hgrow5 hat5 hlt5;have HG5:Box ((w6.alloc (.cells #[int i64 (j:Int),int i64 (d:Int),int i64 (x:Int),int i64 (fl:Int)] 144)).grownBy w7 sv.ownBlock):=hid ⟨hgrow5.os,hgrow5.tape,hgrow5.output,hgrow5.size,hgrow5.block⟩;have GA:=hid (HO6.o.app2 (zc.alloc [] w6 (.cells #[int i64 (j:Int),int i64 (d:Int),int i64 (x:Int),int i64 (fl:Int)] 144)) hown5 HG5.o);have GB:=hid (HO6.o.far (zc.alloc [] w6 (.cells #[int i64 (j:Int),int i64 (d:Int),int i64 (x:Int),int i64 (fl:Int)] 144)) HO6.o.so (by decide) HG5.o).1;have GK:=hid ((HO6.o.far (zc.alloc [] w6 (.cells #[int i64 (j:Int),int i64 (d:Int),int i64 (x:Int),int i64 (fl:Int)] 144)) HO6.o.so (by decide) HG5.o).2 rfl HK6.o 1 (.slice (some ⟨g5,0,none⟩) (S.length+1) cap5));have q3:=zd GB.o 1;have y9:=zi GB.o 1;have l9:=zQ GB.o;clear hown5 hgrow5 hat5 hlt5 HG5))
      all_goals
       clear GB HO6 HK6 HKW6 c1 z1 l0 c2 hB OW q3 y9 l9;generalize w7.setCell ⟨tb,1,none⟩ (.slice (some ⟨g5,0,none⟩) (S.length+1) cap5)=w8 at *;generalize (Value.slice (some ⟨g5,0,none⟩) (S.length+1) cap5)=sv9 at *;have u2:=zd GA.o.box 2;have v2:=zi GA.o.box 2;have l2:=zQ GA.o.box
      all_goals
       go_upto_region 18 with fail;rw[HUP.o]
       have GF:Box (TbM w.heap.size w4.heap.size (w8.setCell ⟨tb,2,none⟩ (int i64 ((x+fl:Nat):Int))) tb bv sv9 (((stN P (j+1)).2:Nat):Int) (k+1) (zdy P k) (stN P (j+1)).1.length (zeS (stN P (j+1)).1)):=hid (by
        rw[HST.o]
        dsimp only
        rw[zhm,List.length_append]
        exact GA.o.num _)
       have GK2:Box (zc [tb] w4 (w8.setCell ⟨tb,2,none⟩ (int i64 ((x+fl:Nat):Int)))):=hid (GK.o.step (zc.setCell _ _ _ _ (List.mem_singleton.2 rfl)));clear GA GK u2 v2 l2;generalize w8.setCell ⟨tb,2,none⟩ (int i64 ((x+fl:Nat):Int))=w9 at *;go_wp2_with fail;go_roundw
       case rel=>exact ⟨j+1,sv9,by omega,by go_num,GF,GK2⟩
       case measure=>simp[intOf];omega
     ·rw[Bool.not_eq_true] at hmk
      rw[hmk,if_neg (by decide)];have HST:Box (stN P (j+1)=stN P j):=hid (ZV (by rw[HQ.o];exact hmk));clear hmk;go_wp2_with fail;go_roundw
      case rel=>exact ⟨j+1,sv,by omega,by go_num,hid (by rw[HST.o];exact HO6.o),HK6⟩
      case measure=>simp[intOf];omega
    ·obtain rfl:j=M:=by omega
     have hlt':¬ (j:Int)<(j:Int):=by omega
     go_wp2_with fail;go_ret;have hk9:=HN.o;have hm9:=HM.o;have HD:=HO.o;rw[hk9] at HD;rw[hm9] at HD;exact ⟨tb,rfl,HD.done,HK4.o.fresh9 HK.o HO.o.new⟩
theorem zan{B c:Nat}{xs:List Value}{T:TypeId}(h:w.ownsRow B T c v n xs):∃ a cp,v=.slice a n cp:=by
 rcases h.2 with ⟨rfl,h0⟩ | ⟨g,cap,cur,rfl,_⟩
 ·exact ⟨none,0,by rw[h0]⟩
 ·exact ⟨_,cap,rfl⟩
theorem zkR:wfO (pr1 0)=none:=by decide +kernel
theorem zhY:zcu (pr1 0):=Zy (by decide +kernel)
theorem zgP:SmN (pr1 0):=⟨by decide,by decide,fun f hf=>by
 have:f=0:=by have:(pr1 0).funcs.length=1:=rfl;omega
 subst this;decide,fun r=>by
 have:(pr1 0).recs=[]:=rfl;unfold zcx;rw[this]
 simp⟩
theorem nb1:zaj (pr1 0)=2∧zcF (pr1 0) 0 0=0∧zcW (pr1 0) 0=1∧ze9 (pr1 0) 0=0∧stP (pr1 0)=[]∧zcF (pr1 0) 0 1= -1:=by decide +kernel
theorem zal(w:World)(hg:zeP w)(hT:Ze w):Calls Tryz.prog 32 #[] w fun e w'=>e=.returned (.bool true)∧zc [] w w':=by
 have HG:=hid hg;have HT:=hid hT;have HS:=hid zgP;obtain ⟨s1,s2,s3,s4,s5,s6⟩:=nb1;clear hg hT;go_enter Tryz.func32,Tryz.ntmps32;go_wp2_with fail;refine (zk6 w).mono ?_;rintro e w1 ⟨rfl,o1,k1⟩;have O1:=hid (o1.prc (by decide));have K1:=hid k1;clear o1 k1;go_wp2_with fail;refine (zd4 O1.o (HG.o.quiet K1.o) (HT.o.kept K1.o (by simp)) zkR zgP zhY).mono ?_;rintro e w2 ⟨tb,rfl,t2,k2⟩;have T2:=hid t2;have K2:=hid (K1.o.quiet k2);clear t2 k2 O1 K1;go_wp2_with fail;have hc:=zdL T2.o;rw[s1] at hc;refine hc.mono ?_;rintro e w3 ⟨rfl,rfl⟩;clear hc;go_wp2_with fail;have hc:=zaN T2.o HS.o 0 0;rw[s2] at hc;refine hc.mono ?_;rintro e w4 ⟨rfl,k4⟩;have T4:=hid (T2.o.quiet k4);have K4:=hid (K2.o.quiet k4);clear k4 hc T2 K2;go_wp2_with fail;have hc:=zb2 T4.o HS.o 0;rw[s3] at hc;refine hc.mono ?_;rintro e w5 ⟨rfl,rfl⟩;clear hc;go_wp2_with fail;have hc:=zdo T4.o HS.o 0;rw[s4] at hc;refine hc.mono ?_;rintro e w6 ⟨rfl,rfl⟩;clear hc;go_wp2_with fail;refine (za2 T4.o HS.o).mono ?_;rintro e w7 ⟨k7,v,rfl,ho⟩;obtain ⟨a,cp,rfl⟩:=zan ho;have T7:=hid (T4.o.quiet k7);have K7:=hid (K4.o.quiet k7);rw[s5];clear k7 ho T4 K4;go_wp2_with fail;have hc:=zaN T7.o HS.o 0 1;rw[s6] at hc;refine hc.mono ?_;rintro e w8 ⟨rfl,k8⟩;have K8:=hid (K7.o.quiet k8);clear k8 hc;go_wp2_with fail;go_ret;exact ⟨rfl,K8.o⟩
end Go.Proofs.YthflgjkmbakedaaGreatDoor
