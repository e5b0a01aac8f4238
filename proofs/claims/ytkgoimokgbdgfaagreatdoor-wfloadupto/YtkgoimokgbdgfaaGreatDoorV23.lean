import Derived.Test.YtkgoimokgbdgfaaGreatDoorV19
import Derived.Test.YtkgoimokgbdgfaaGreatDoorV22

namespace Go.Proofs.YtkgoimokgbdgfaaGreatDoor
open Go.RowKit
open Go.Value (int pointer agg)
open Go.IntKind (i64)
set_option maxRecDepth 20000
set_option maxHeartbeats 8000000
variable {P:Pr8}{f i pb po:Nat}{w:World}{x:In8}
def zop(w:World)(rb:Nat)(s:Option (List UInt8))(e:Ending)(w':World):Prop:=
 ∃ b P s',e=.returned (pointer (some ⟨b,0,none⟩))∧PrC (jB w.heap.size w') b 0 P∧Stp prE zhW s P s'∧qt w' rb s'∧zc [rb] w w'
theorem SlV.there{α:Type}{c:Nat}{R:World→Nat→Nat→α→Prop}{B B1 rb:Nat}{w1 wf:World}{v:Value}{l:List α}(hR:ze2 R)(h:SlV c R (jB B1 w1) v l)(hB:B≤B1)(hr:rb<B1)(k:zc [rb] w1 wf):SlV c R (jB B wf) v l:=
 zlz (SlV.sub hR) (q:=rb) h hB hr hr (k.mono (by simp))
theorem zhS{rb:Nat}{s:Option (List UInt8)}(h:qt w rb s):Calls Tryz.prog 83 #[pointer (some ⟨rb,0,none⟩)] w (zop w rb s):=by
 have hrb:=hid h.lt;have H1:=hid fun (w':World) (s':Option (List UInt8)) (h:qt w' rb s')=>zih h;have H2:=hid fun (w':World) (s':Option (List UInt8)) (h:qt w' rb s')=>zj7 h;have H3:=hid fun (w':World) (s':Option (List UInt8)) (h:qt w' rb s')=>zkf h;have H4:=hid fun (w':World) (s':Option (List UInt8)) (h:qt w' rb s')=>zkS h;have H5:=hid fun (w':World) (s':Option (List UInt8)) (h:qt w' rb s')=>zjZ h;have H6:=hid fun (w':World) (s':Option (List UInt8)) (h:qt w' rb s')=>zH h;go_enter Tryz.func83,Tryz.ntmps83;go_wp2_with fail;refine (H1.o _ _ h).mono ?_;rintro e w1 ⟨v1,x1,s1,rfl,V1,P1,R1,K1⟩;have Y1:=hid V1;obtain ⟨a1,m1,rfl,_⟩:=V1;have HP1:=hid P1;clear P1 H1;go_wp2_with fail;refine (H2.o _ _ R1).mono ?_;rintro e w2 ⟨v2,x2,s2,rfl,V2,P2,R2,K2⟩;have Y2:=hid V2;obtain ⟨a2,m2,rfl,_⟩:=V2;have HP2:=hid P2;clear P2 H2;go_wp2_with fail;refine (H3.o _ _ R2).mono ?_;rintro e w3 ⟨v3,x3,s3,rfl,V3,P3,R3,K3⟩;have Y3:=hid V3;obtain ⟨a3,m3,rfl,_⟩:=V3;have HP3:=hid P3;clear P3 H3;go_wp2_with fail;refine (H4.o _ _ R3).mono ?_;rintro e w4 ⟨v4,x4,s4,rfl,V4,P4,R4,K4⟩;have Y4:=hid V4;obtain ⟨a4,m4,rfl,_⟩:=V4;have HP4:=hid P4;clear P4 H4;go_wp2_with fail;refine (H5.o _ _ R4).mono ?_;rintro e w5 ⟨v5,x5,s5,rfl,V5,P5,R5,K5⟩;have Y5:=hid V5;obtain ⟨a5,m5,rfl,_⟩:=V5;have HP5:=hid P5;clear P5 H5;go_wp2_with fail;refine (H6.o _ _ R5).mono ?_;rintro e w6 ⟨v6,x6,s6,rfl,V6,P6,R6,K6⟩;have Y6:=hid V6;obtain ⟨rfl,_⟩:=V6;have HP6:=hid P6;clear P6 H6;obtain ⟨wf,HWF⟩:∃ wf,Box (wf=w6.alloc (.cells #[.slice a1 x1.length m1,.slice a2 x2.length m2,.slice a3 x3.length m3,.slice a4 x4.length m4,.slice a5 x5.length m5,int i64 x6] 32)):=⟨_,hid rfl⟩;have KF:zc [rb] w6 wf:=by rw[HWF.o];exact zc.alloc [rb] w6 _
 have hq:wf.heap[w6.heap.size]? = some (.cells #[.slice a1 x1.length m1,.slice a2 x2.length m2,.slice a3 x3.length m3,.slice a4 x4.length m4,.slice a5 x5.length m5,int i64 x6] 32 (0,0)):=by rw[HWF.o];exact zf _ _
 have T5:=K6.step KF;have T4:=K5.step T5;have T3:=K4.step T4;have T2:=K3.step T3;have T1:=K2.step T2;have S1:=K1.size;have S2:=K2.size;have S3:=K3.size;have S4:=K4.size;have S5:=K5.size;have S6:=K6.size;have hr0:=hrb.o;have Z1:=SlV.there (B:=w.heap.size) TysC.sub Y1.o (Nat.le_refl _) hr0 T1;have Z2:=SlV.there (B:=w.heap.size) SgC.sub Y2.o (by omega) (by omega) T2;have Z3:=SlV.there (B:=w.heap.size) ZO.sub Y3.o (by omega) (by omega) T3;have Z4:=SlV.there (B:=w.heap.size) ImC.sub Y4.o (by omega) (by omega) T4;have Z5:=SlV.there (B:=w.heap.size) FuC.sub Y5.o (by omega) (by omega) T5;have hc:∀ i,(jB w.heap.size wf).cell? ⟨w6.heap.size,i,none⟩=(#[.slice a1 x1.length m1,.slice a2 x2.length m2,.slice a3 x3.length m3,.slice a4 x4.length m4,.slice a5 x5.length m5,int i64 x6]:Array Value)[i]? := fun i=>by
  rw[World.cell?_of_block (w:=wf) (zaH (by show w.heap.size≤w6.heap.size;omega))];exact zd hq i
 have HPR:Box (PrC (jB w.heap.size wf) w6.heap.size 0 ⟨x1,x2,x3,x4,x5,x6⟩):=hid ⟨SlV.cell Z1 (hc 0),SlV.cell Z2 (hc 1),SlV.cell Z3 (hc 2),SlV.cell Z4 (hc 3),SlV.cell Z5 (hc 4),⟨hc 5,Y6.o.2⟩⟩;have HKF:=hid (K1.step T1);have HRF:Box (qt wf rb s6):=hid (by rw[HWF.o];exact R6.quiet (zc.alloc [] w6 _));have HW5:=hid HWF.o.symm;clear HWF KF hq T1 T2 T3 T4 T5 S1 S2 S3 S4 S5 S6 Z1 Z2 Z3 Z4 Z5 hc K1 K2 K3 K4 K5 K6 R1 R2 R3 R4 R5 R6 hr0 h;go_wp2_with fail;rw[HW5.o];go_ret;exact ⟨_,_,s6,rfl,HPR.o,(Stp.pair Cd.tyss HP1.o (Stp.pair Cd.sgs HP2.o (Stp.pair Cd.ifs HP3.o (Stp.pair Cd.ims HP4.o (Stp.pair Cd.fus HP5.o HP6.o))))).map (fun t=>(⟨t.1,t.2.1,t.2.2.1,t.2.2.2.1,t.2.2.2.2.1,t.2.2.2.2.2⟩:Pr8)) (fun x=>(x.recs,x.sigs,x.ifs,x.ims,x.funcs,x.main)) rfl (fun _=>rfl) (fun h=>h) (fun _ h=>h),HRF.o,HKF.o⟩
def zmw(w:World)(L:List UInt8)(e:Ending)(w':World):Prop:=
 zc [] w w'∧((L.length≤20000∧∃ b P,e=.returned (.tuple #[pointer (some ⟨b,0,none⟩),.nilIface])∧PrC w' b 0 P∧prE P=L)∨((20000<L.length∨∀ P,zhW P→prE P≠L)∧∃ p,e=.returned (.tuple #[.pointer none,Zj p])∧zlp w' p))
theorem zgb{a:Option Addr}{cp:Nat}{L:List UInt8}(hb:qi w a L)(hcp:L.length≤cp)(hL:L.length≤9223372036854775807):Calls Tryz.prog 44 #[.slice a L.length cp] w (zmw w L):=by
 have HR:=hid fun (w':World)=>zd1 w';obtain ⟨n,hn⟩:∃ n,n=L.length:=⟨_,rfl⟩;have HN:=hid hn;rw[← hn] at hcp hL ⊢;by_cases hg:20000<n
 ·have hg':(20000:Int)<(n:Int):=by omega
  clear hb hn hcp;go_enter Tryz.func44,Tryz.ntmps44;go_wp2_with fail;refine (HR.o _).mono ?_;rintro e w1 ⟨p,rfl,h1,h2⟩;go_wp2_with fail
  go_ret2
  exact ⟨h2,.inr ⟨.inl (by rw[← HN.o];exact hg),p,rfl,h1⟩⟩
 ·have hg':¬ (20000:Int)<(n:Int):=by omega
  obtain ⟨w1,HW1⟩:∃ w1,Box (w1=w.alloc (.cells #[.slice a n cp,.bool false] 137)):=⟨_,hid rfl⟩;have hk1:zc [] w w1:=by rw[HW1.o];exact zc.alloc [] w _
  have hr1:qt w1 w.heap.size (some L):=⟨a,cp,by rw[HW1.o, ← hn];exact zf w _,hb.quiet hk1,by omega,by omega,fun hne b off e=>by
   rcases hb with hb | ⟨b',off',e',hb⟩
   ·exact absurd hb hne
   ·rw[e'] at e
    cases e;refine block_lt_of_cell (hb 0 ?_);cases L with
    | nil=>exact absurd rfl hne
    | cons=>simp⟩
  have HP:=hid (zhS hr1);have HK1:=hid hk1;have HS:Box (w1.heap.size=w.heap.size+1):=hid (by rw[HW1.o,World.size_alloc]);have HW5:=hid HW1.o.symm;clear hb hn hcp hk1 hr1 HW1 hg;go_enter Tryz.func44,Tryz.ntmps44;go_wp2_with fail;rw[HW5.o];refine HP.o.mono ?_;rintro e w2 ⟨b,P,s',rfl,h1,h2,h3,h4⟩;have HPC:Box (PrC w2 b 0 P):=hid (PrC.sub _ _ _ _ _ (Sub.all _ _) h1);have HST:=hid h2;have HK2:Box (zc [] w w2):=hid (HK1.o.trans h4 (fun x hx hlt=>by rw[List.mem_singleton] at hx;omega));generalize w.heap.size=rb at *;cases s' with
  | none=>
   have h9:w2.heap[rb]? = _:=h3;have f1:=zd h9 1;have f0:=zd h9 0;clear h1 h2 h3 h4 h9 HP HW5;go_wp2_with fail;refine (HR.o _).mono ?_;rintro e w3 ⟨p,rfl,g1,g2⟩;go_wp2_with fail
   go_ret2
   exact ⟨HK2.o.quiet g2,.inr ⟨.inr (fun Q hQ e=>HST.o.2.2.2 L rfl rfl Q [] hQ (by rw[List.append_nil];exact e.symm)),p,rfl,g1⟩⟩
  | some R=>
   obtain ⟨ra,rcp,h9,_,_,hrl,_⟩:=h3;have f1:=zd h9 1;have f0:=zd h9 0;have hE:=hid (HST.o.2.2.1 L R rfl rfl);obtain ⟨m,hm⟩:∃ m,m=R.length:=⟨_,rfl⟩;have HM:=hid hm;rw[← hm] at f0;clear h1 h2 h4 h9 HP HW5;by_cases hR:0<m
   ·have hR':(0:Int)<(m:Int):=by omega
    clear hm hrl;go_wp2_with fail;refine (HR.o _).mono ?_;rintro e w3 ⟨p,rfl,g1,g2⟩;go_wp2_with fail
    go_ret2
    refine ⟨HK2.o.quiet g2,.inr ⟨.inr (fun Q hQ e=> ?_),p,rfl,g1⟩⟩;have e2:=hE.o;rw[← e] at e2;have:=(Cd.pr.uniq Q P [] R hQ HST.o.1 (by rw[List.append_nil];exact e2)).2;rw[HM.o, ← this] at hR;simp at hR
   ·have hR':¬ (0:Int)<(m:Int):=by omega
    have hnil:R=[]:=List.eq_nil_of_length_eq_zero (by omega);have HE2:Box (prE P=L):=hid (by have:=hE.o;rw[hnil,List.append_nil] at this;exact this.symm);clear hm hrl hnil;go_wp2_with fail
    go_ret2
    exact ⟨HK2.o,.inl ⟨by rw[← HN.o];omega,b,P,rfl,HPC.o,HE2.o⟩⟩
def jX(P:Pr8)(f:Fu8)(x:In8):Bool:=
 if x.op=1 then ((zp f x.dst).1 == 0) else
 if x.op=2 then ((zp f x.a).1 == 0 && ((zp f x.b).1 == 0 && (zp f x.dst).1 == 0)) else
 if x.op=3 then ((zp f x.dst).1 == 0) else
 if x.op=4 then ((zp f x.dst).1 != 0) else
 if x.op=5 then ((zp f x.dst).1 == 1) else
 if x.op=6 then (tyE (zp f x.dst) (zp f x.a)) else
 if x.op=7 then (match qy P (zp f x.a) x.n with | none=>false | some t=>tyE t (zp f x.dst)) else
 if x.op=8 then (match qy P (zp f x.a) x.n with | none=>false | some t=>tyE t (zp f x.b)) else
 if x.op=9 then ((zp f x.a).1 == 1) else
 if x.op=10 then (tyE (zp f x.dst) (2,(zg P x.n.toNat).sig)) else
 if x.op=11 then ((zp f x.dst).1 == 3 && ((zp f x.a).1 == 1 && zaj P (zp f x.a).2 (zp f x.dst).2)) else
 if x.op=12 then (match (Jh P (zg P x.n.toNat).sig) with | none=>false | some s=>jk f x.args s.1 && tyE s.2 (zp f x.dst)) else
 if x.op=13 then (match (if (zp f x.a).1=2 then Jh P (zp f x.a).2 else none) with | none=>false | some s=>jk f x.args s.1 && tyE s.2 (zp f x.dst)) else
 if x.op=14 then (match (Zu P (zp f x.a) x.n) with | none=>false | some s=>jk f x.args s.1 && tyE s.2 (zp f x.dst)) else
 if x.op=15 then ((zp f x.a).1 == 0) else
 false
theorem zeT{f:Fu8}(h:qG P f x=true):1≤x.op∧x.op≤15:=by
 unfold qG zn at h;rw[Bool.and_eq_true,Bool.and_eq_true] at h;exact of_decide_eq_true h.1.1
theorem zjk{f:Fu8}(h:qG P f x=true):jn P f x=true:=by
 unfold qG at h;rw[Bool.and_eq_true,Bool.and_eq_true] at h;exact h.2.2
theorem zfh{f:Fu8}(h:qG P f x=true)(hop:x.op=10∨x.op=12):inB x.n P.funcs.length=true:=by
 have:=zjk h;unfold jn at this;rw[if_pos hop] at this;exact this
theorem zkg(h:PrC w pb po P)(hf:f<P.funcs.length)(x:In8){a:Option Addr}{cp:Nat}(hz:zw w a x.args)(hl:x.args.length≤1000):Calls Tryz.prog 103 #[pointer (some ⟨pb,po,none⟩),int i64 (f:Int),zD x (.slice a x.args.length cp)] w fun e w'=>e=.returned (.bool (qG P (zg P f) x && (rtB P (zg P f) x && jX P (zg P f) x)))∧zc [] w w':=
 zmd h hf x hz hl _ fun hok fb fo w' k hp hfu=>by
  have h15:=zeT hok;have hc:x.op=1∨x.op=2∨x.op=3∨x.op=4∨x.op=5∨x.op=6∨x.op=7∨x.op=8∨x.op=9∨x.op=10∨x.op=11∨x.op=12∨x.op=13∨x.op=14∨x.op=15:=by omega
  have hz':=hz.kept k (fun _ _ _=>by simp);rcases hc with e | e | e | e | e | e | e | e | e | e | e | e | e | e | e
  ·have hB:jX P (zg P f) x=((zp (zg P f) x.dst).1 == 0):=by unfold jX;rw[e];rfl
   rw[hB];exact zp8 hfu x _ e
  ·have hB:jX P (zg P f) x=((zp (zg P f) x.a).1 == 0 && ((zp (zg P f) x.b).1 == 0 && (zp (zg P f) x.dst).1 == 0)):=by unfold jX;rw[e];rfl
   rw[hB];exact zpE hfu x _ e
  ·have hB:jX P (zg P f) x=((zp (zg P f) x.dst).1 == 0):=by unfold jX;rw[e];rfl
   rw[hB];exact zpD hfu x _ e
  ·have hB:jX P (zg P f) x=((zp (zg P f) x.dst).1 != 0):=by unfold jX;rw[e];rfl
   rw[hB];exact zpF hfu x _ e
  ·have hB:jX P (zg P f) x=((zp (zg P f) x.dst).1 == 1):=by unfold jX;rw[e];rfl
   rw[hB];exact zpw hfu x _ e
  ·have hB:jX P (zg P f) x=(tyE (zp (zg P f) x.dst) (zp (zg P f) x.a)):=by unfold jX;rw[e];rfl
   rw[hB];exact zpo hfu x _ e
  ·have hB:jX P (zg P f) x=(match qy P (zp (zg P f) x.a) x.n with | none=>false | some t=>tyE t (zp (zg P f) x.dst)):=by unfold jX;rw[e];rfl
   rw[hB];exact zpd hp hfu x _ e
  ·have hB:jX P (zg P f) x=(match qy P (zp (zg P f) x.a) x.n with | none=>false | some t=>tyE t (zp (zg P f) x.b)):=by unfold jX;rw[e];rfl
   rw[hB];exact zpC hp hfu x _ e
  ·have hB:jX P (zg P f) x=((zp (zg P f) x.a).1 == 1):=by unfold jX;rw[e];rfl
   rw[hB];exact zpm hfu x _ e
  ·have hB:jX P (zg P f) x=(tyE (zp (zg P f) x.dst) (2,(zg P x.n.toNat).sig)):=by unfold jX;rw[e];rfl
   rw[hB];exact zoO hp hfu x _ (zfh hok (.inl e)) e
  ·have hB:jX P (zg P f) x=((zp (zg P f) x.dst).1 == 3 && ((zp (zg P f) x.a).1 == 1 && zaj P (zp (zg P f) x.a).2 (zp (zg P f) x.dst).2)):=by unfold jX;rw[e];rfl
   rw[hB];exact znF hp hfu x _ e
  ·have hB:jX P (zg P f) x=(match (Jh P (zg P x.n.toNat).sig) with | none=>false | some s=>jk (zg P f) x.args s.1 && tyE s.2 (zp (zg P f) x.dst)):=by unfold jX;rw[e];rfl
   rw[hB];exact zoK hp hfu x _ rfl hz' hl (zfh hok (.inr e)) e
  ·have hB:jX P (zg P f) x=(match (if (zp (zg P f) x.a).1=2 then Jh P (zp (zg P f) x.a).2 else none) with | none=>false | some s=>jk (zg P f) x.args s.1 && tyE s.2 (zp (zg P f) x.dst)):=by unfold jX;rw[e];rfl
   rw[hB];exact zo1 hp hfu x _ rfl hz' hl e
  ·have hB:jX P (zg P f) x=(match (Zu P (zp (zg P f) x.a) x.n) with | none=>false | some s=>jk (zg P f) x.args s.1 && tyE s.2 (zp (zg P f) x.dst)):=by unfold jX;rw[e];rfl
   rw[hB];exact zoF hp hfu x _ rfl hz' hl e
  ·have hB:jX P (zg P f) x=((zp (zg P f) x.a).1 == 0):=by unfold jX;rw[e];rfl
   rw[hB];exact zo3 hfu x _ e
def zgJ(P:Pr8)(q:Nat × Nat × Nat):Bool:=
 if q.2.2<(zr (zg P q.1) q.2.1).code.length then qG P (zg P q.1) (qQ (zr (zg P q.1) q.2.1) q.2.2)
 else jh (zg P q.1).regs.length (zg P q.1).blocks.length (zr (zg P q.1) q.2.1).fin (zr (zg P q.1) q.2.1).reg (zr (zg P q.1) q.2.1).to (zr (zg P q.1) q.2.1).els
def ptI(q:Nat × Nat × Nat):Int × Int × Int:=(q.1,q.2.1,q.2.2)
def j7(P:Pr8)(f:Nat):Bool:=inB (zg P f).sig P.sigs.length && J5 P (zg P f).regs
def za6(P:Pr8)(f:Nat):Option (Int × Int × Int):=if j7 P f then ((ptF (zg P f) f (zg P f).blocks.length).find? fun q=> !zgJ P q).map ptI else some (-1,0,0)
def zM(P:Pr8):Option (Int × Int × Int):=
 if zO P then (match (List.range P.funcs.length).findSome? (za6 P) with
  | some q=>some q
  | none=>if inB P.main P.funcs.length then none else some (-1,0,0)) else some (-1,0,0)
theorem zeC{b:Nat}(h:i<(zr (zg P f) b).code.length):zgJ P (f,b,i)=qG P (zg P f) (qQ (zr (zg P f) b) i):=by unfold zgJ;rw[if_pos h]
theorem J8(P:Pr8)(f b:Nat):zgJ P (f,b,(zr (zg P f) b).code.length)=jh (zg P f).regs.length (zg P f).blocks.length (zr (zg P f) b).fin (zr (zg P f) b).reg (zr (zg P f) b).to (zr (zg P f) b).els:=by unfold zgJ;rw[if_neg (by simp)]
theorem zbI{α:Type}{p:α→Bool}{l r:List α}{q:α}(hl:∀ x,x∈l→p x=false)(hq:p q=true):(l ++ q :: r).find? p=some q:=by
 rw[List.find?_append];have h1:l.find? p=none:=List.find?_eq_none.2 fun x hx=>by rw[hl x hx];simp
 rw[h1,List.find?_cons,hq];rfl
theorem zd8{α:Type}{p:α→Bool}{l:List α}(hl:∀ x,x∈l→p x=false):l.find? p=none:=List.find?_eq_none.2 fun x hx=>by rw[hl x hx];simp
def Ze(P:Pr8)(l:List (Nat × Nat × Nat)):Prop:=∀ q,q∈l→zgJ P q=true
theorem Ze.nil(P:Pr8):Ze P []:=fun q hq=>by cases hq
theorem Ze.snoc{l:List (Nat × Nat × Nat)}{q:Nat × Nat × Nat}(h:Ze P l)(hq:zgJ P q=true):Ze P (l ++ [q]):=fun x hx=>by
 rcases List.mem_append.1 hx with h1 | h1
 ·exact h x h1
 ·rw[List.mem_singleton.1 h1];exact hq
theorem Ze.cast{l l':List (Nat × Nat × Nat)}(h:Ze P l)(e:l=l'):Ze P l':=e ▸ h
theorem zdc{n k:Nat}(h:k<n):∃ r,List.range n=List.range k ++ k :: r:=by
 refine ⟨(List.range n).drop (k+1),?_⟩;have h2:=List.take_append_drop k (List.range n);rw[List.drop_eq_getElem_cons (by simpa using h),List.getElem_range] at h2
 conv=>lhs;rw[← h2]
 congr 1
 rw[List.take_range,Nat.min_eq_left (by omega)]
theorem zmv(f b:Nat){n:Nat}(h:i<n):∃ r,ptB f b n=ptB f b i ++ (f,b,i) :: r:=by
 obtain ⟨r,hr⟩:=zdc h;refine ⟨r.map fun j=>(f,b,j),?_⟩;unfold ptB;rw[hr,List.map_append,List.map_cons]
theorem zfu{b:Nat}(hh:j7 P f=true)(hb:b<(zg P f).blocks.length)(hi:i≤(zr (zg P f) b).code.length)(hl:Ze P (ptF (zg P f) f b ++ ptB f b i))(hq:zgJ P (f,b,i)=false):za6 P f=some ((f:Int),(b:Int),(i:Int)):=by
 unfold za6;rw[if_pos hh];obtain ⟨r1,h1⟩:=zbh (zg P f) f hb;obtain ⟨r2,h2⟩:=zmv f b (show i<(zr (zg P f) b).code.length+1 by omega);rw[h1,h2,show ptF (zg P f) f b ++ (ptB f b i ++ (f,b,i) :: r2 ++ r1)=(ptF (zg P f) f b ++ ptB f b i) ++ (f,b,i) :: (r2 ++ r1) by simp[List.append_assoc]];rw[zbI (fun x hx=>by rw[hl x hx];rfl) (by rw[hq];rfl)];rfl
theorem zdv(hh:j7 P f=true)(hl:Ze P (ptF (zg P f) f (zg P f).blocks.length)):za6 P f=none:=by
 unfold za6;rw[if_pos hh,zd8 (fun x hx=>by rw[hl x hx];rfl)];rfl
theorem zbc(hh:j7 P f=false):za6 P f=some (-1,0,0):=by
 unfold za6;rw[hh];rfl
theorem zfV{α β:Type}{p:α→Option β}{l r:List α}{q:α}{y:β}(hl:∀ x,x∈l→p x=none)(hq:p q=some y):(l ++ q :: r).findSome? p=some y:=by
 rw[List.findSome?_append];have h1:l.findSome? p=none:=List.findSome?_eq_none_iff.2 hl;rw[h1,List.findSome?_cons,hq];rfl
theorem zaq(h:zO P=false):zM P=some (-1,0,0):=by unfold zM;rw[h];rfl
theorem zdR(h:zO P=true){k:Nat}(hk:k<P.funcs.length)(hl:∀ j,j<k→za6 P j=none){q:Int × Int × Int}(hq:za6 P k=some q):zM P=some q:=by
 unfold zM;obtain ⟨r,hr⟩:=zdc hk;rw[if_pos h,hr,zfV (fun x hx=>hl x (List.mem_range.1 hx)) hq]
theorem zcb(h:zO P=true)(hl:∀ j,j<P.funcs.length→za6 P j=none):zM P=if inB P.main P.funcs.length then none else some (-1,0,0):=by
 unfold zM;rw[if_pos h,List.findSome?_eq_none_iff.2 (fun x hx=>hl x (List.mem_range.1 hx))]
def Qk(o:Option (Int × Int × Int))(y:Int)(w:World)(e:Ending)(w':World):Prop:=match o with
 | none=>e=.returned .nilIface∧zc [] w w'
 | some q=>Jt y q.1 q.2.1 q.2.2 w e w'
theorem Qk.no{o:Option (Int × Int × Int)}{q:Int × Int × Int}{y:Int}{w':World}{e:Ending}(h:o=some q)(r:Jt y q.1 q.2.1 q.2.2 w e w'):Qk o y w e w':=by subst h;exact r
theorem Qk.yes{o:Option (Int × Int × Int)}{y:Int}{w':World}{e:Ending}(h:o=none)(r:e=.returned .nilIface∧zc [] w w'):Qk o y w e w':=by subst h;exact r
def zlS(P:Pr8):Prop:=∀ f b i,f<P.funcs.length→b<(zg P f).blocks.length→i<(zr (zg P f) b).code.length→(qQ (zr (zg P f) b) i).args.length≤1000
theorem zg6(h:PrC w pb po P)(ha:zlS P)(hf:f<P.funcs.length):Calls Tryz.prog 49 #[pointer (some ⟨pb,po,none⟩),int i64 (f:Int)] w (Qk (za6 P f) 3 w):=by
 obtain ⟨fa,fp,c4,r4,_,hfl⟩:=h.c4;obtain ⟨sa,sp,c1,_⟩:=h.c1;obtain ⟨fb,fo,rfl,hfu0⟩:=r4.at (zh (d:=⟨0,[],[]⟩) hf);have hfu:FuC w fb (fo+f * 3) (zg P f):=hfu0;obtain ⟨ra,rp,e1,q1⟩:=hfu.c1.val;obtain ⟨ba,bp,e2,rb,_,hbl⟩:=hfu.c2;have e0:=hfu.c0.1;have hf':(f:Int)<(P.funcs.length:Int):=by omega
 have HW:=hid fun (w':World)=>zC (zg P f).sig P.sigs.length w';have HT:=hid fun (w':World) (k:zc [] w w')=>zaz (PrC.stays _ _ _ _ _ k h) (q1.keeps TyC.stays k);have HRF:=hid fun (w':World)=>Z9 3 w';have HRA:=hid fun (b i:Int) (w':World)=>Qj 3 (f:Int) b i w';have HIN:=hid fun (w':World) (k:zc [] w w') (x:In8) (a:Option Addr) (cp:Nat) (hz:zw w' a x.args) (hl:x.args.length≤1000)=>zi8 (cp:=cp) (PrC.stays _ _ _ _ _ k h) (FuC.stays _ _ _ _ _ k hfu) x hz hl;have HEN:=hid fun (w':World) (k:zc [] w w') (bb bo:Nat) (y:Bl8) (hb:BlC w' bb bo y)=>zma (FuC.stays _ _ _ _ _ k hfu) hb;have HA:Box (∀ b i,b<(zg P f).blocks.length→i<(zr (zg P f) b).code.length→(qQ (zr (zg P f) b) i).args.length≤1000):=hid fun b i h1 h2=>ha f b i hf h1 h2;have HRB:=hid rb;have HH:Box (j7 P f=(inB (zg P f).sig P.sigs.length && J5 P (zg P f).regs)):=hid rfl;have HBAD:=hid fun (hh:j7 P f=true) (b i:Nat)=>zfu (P:=P) (f:=f) (b:=b) (i:=i) hh;have HGOOD:=hid fun (hh:j7 P f=true)=>zdv (P:=P) (f:=f) hh;have HHD:=hid (zbc (P:=P) (f:=f));have E2:Box (∀ w',zc [] w w'→w'.cell? ⟨fb,fo+f * 3+2,none⟩=some (.slice ba (zg P f).blocks.length bp)):=hid fun w' k=>za k e2;have E1:Box (∀ w',zc [] w w'→w'.cell? ⟨fb,fo+f * 3+1,none⟩=some (.slice ra (zg P f).regs.length rp)):=hid fun w' k=>za k e1;have E0:Box (∀ w',zc [] w w'→w'.cell? ⟨fb,fo+f * 3,none⟩=some (int i64 (zg P f).sig)):=hid fun w' k=>za k e0;have S1:Box (∀ w',zc [] w w'→w'.cell? ⟨pb,po+1,none⟩=some (.slice sa P.sigs.length sp)):=hid fun w' k=>za k c1;clear h hfu0 hfu r4 rb ha;obtain ⟨bn,hbn⟩:∃ m,m=(zg P f).blocks.length:=⟨_,rfl⟩;rw[← hbn] at E2 hbl e2;have HBN:=hid hbn;have hbl9:(bn:Int)≤9223372036854775807:=by unfold maxLen at hbl;omega
 generalize P.funcs.length=FN at *;generalize P.sigs.length=SN at *;generalize hsg:(zg P f).sig=sg at *;obtain ⟨RN,hrn⟩:∃ m,m=(zg P f).regs.length:=⟨_,rfl⟩;rw[← hrn] at E1 e1 HT;have HRN:=hid hrn;clear hrn;clear hbn hsg hbl;cases hw:inB sg SN with
 | false=>
  rw[hw] at HW;rw[HHD.o (by rw[HH.o,hw];rfl)];clear hw;go_enter Tryz.func49,Tryz.ntmps49;go_upto_region 2 with fail;go_quiet ((go_at_call 50;exact Calls.quiet_of_same (HW.o _)));go_wp2_with fail;refine (HRF.o _).mono ?_;rintro e w1 ⟨p,rfl,h1,h2⟩;go_wp2_with fail;go_ret;exact ⟨p,rfl,h1,(zc.drewN _ _ _).quiet h2⟩
 | true=>
  rw[hw] at HW;go_enter Tryz.func49,Tryz.ntmps49;go_upto_region 2 with fail;cases ht:J5 P (zg P f).regs with
  | false=>
   rw[ht] at HT;have HQ:=hid (HHD.o (by rw[HH.o,hw,ht];rfl));clear hw ht
   go_region_held3 (fun w'=>w'.cell? ⟨pb,po+1,none⟩=some (.slice sa SN sp)∧w'.cell? ⟨fb,fo+f * 3,none⟩=some (int i64 sg)∧w'.cell? ⟨fb,fo+f * 3+1,none⟩=some (.slice ra RN rp)) (go_keep) (first
    | (go_at_call 50;refine (HW.o _).mono ?_;rintro e w5 ⟨rfl,hw5⟩;have K5:zc [] w w5:=(by rw[hw5];exact zc.drew _ _);have f51:=S1.o _ K5;have f52:=E0.o _ K5;have f53:=E1.o _ K5;clear hw5)
    | (go_at_call 96;refine (HT.o _ K5).mono ?_;rintro e w6 ⟨rfl,k6⟩;have K6:=K5.quiet k6;have f61:=S1.o _ K6;have f62:=E0.o _ K6;have f63:=E1.o _ K6;clear k6))
   go_wp2_with fail;refine (HRF.o _).mono ?_;rintro e w1 ⟨p,rfl,h1,h2⟩;go_wp2_with fail;go_ret;exact Qk.no HQ.o ⟨p,rfl,h1,K6.quiet h2⟩
  | true=>
   rw[ht] at HT;have HHT:Box (j7 P f=true):=hid (by rw[HH.o,hw,ht];rfl);clear hw ht
   go_region_held3 (fun w'=>w'.cell? ⟨pb,po+1,none⟩=some (.slice sa SN sp)∧w'.cell? ⟨fb,fo+f * 3,none⟩=some (int i64 sg)∧w'.cell? ⟨fb,fo+f * 3+1,none⟩=some (.slice ra RN rp)) (go_keep) (first
    | (go_at_call 50;refine (HW.o _).mono ?_;rintro e w5 ⟨rfl,hw5⟩;have K5:zc [] w w5:=(by rw[hw5];exact zc.drew _ _);have f51:=S1.o _ K5;have f52:=E0.o _ K5;have f53:=E1.o _ K5;clear hw5)
    | (go_at_call 96;refine (HT.o _ K5).mono ?_;rintro e w6 ⟨rfl,k6⟩;have K6:=K5.quiet k6;have f61:=S1.o _ K6;have f62:=E0.o _ K6;have f63:=E1.o _ K6;have HK6:=hid K6;have g2:=E2.o _ K6;clear k6))
   go_wp2_with fail;clear f51 f52 f53 f61 f62 f63 K5 K6 g2;clear e0 e1 e2 c1 c4 hf'
   go_loopw [41] (fun bv wr=>∃ b:Nat,b≤bn∧bv=int i64 (b:Int)∧Box (zc [] w wr)∧Box (Ze P (ptF (zg P f) f b))) (fun bv _=>bn - (intOf bv).toNat)
   case atStart=>exact ⟨0,by omega,rfl,HK6,hid (Ze.nil P)⟩
   case round=>
    obtain ⟨b,hb,rfl,HK,HAL⟩:=hrel;clear HK6;by_cases hlt:b<bn
    ·have hlt':(b:Int)<(bn:Int):=by omega
     have hbf:Box (b<(zg P f).blocks.length):=hid (by rw[← HBN.o];exact hlt);have g2:=E2.o _ HK.o;obtain ⟨bb,bo,rfl,hbl0⟩:=HRB.o.at (show (zg P f).blocks[b]? = some (zr (zg P f) b) from zh hbf.o);have HBL:=hid hbl0;obtain ⟨ca,cp,e3,rc,_,hcl⟩:=hbl0.c0;have E3:=za HK.o e3;have E3B:Box (∀ w',zc [] w w'→w'.cell? ⟨bb,bo+b * 5,none⟩=some (.slice ca (zr (zg P f) b).code.length cp)):=hid fun w' k=>za k e3;have HRC:=hid rc;obtain ⟨cn,hcn⟩:∃ m,m=(zr (zg P f) b).code.length:=⟨_,rfl⟩;rw[← hcn] at E3 hcl;have HCN:=hid hcn;have hcl9:(cn:Int)≤9223372036854775807:=by unfold maxLen at hcl;omega
     have HAL2:Box (Ze P (ptF (zg P f) f b ++ ptB f b 0)):=hid (HAL.o.cast (by rw[J9,List.append_nil]));clear hbl0 e3 rc hcn hcl;go_wp2_with fail;clear g2 E3;have HK0:=HK;clear HK
     go_loopw [54] (fun iv wr=>∃ i:Nat,i≤cn∧iv=int i64 (i:Int)∧Box (zc [] w wr)∧Box (Ze P (ptF (zg P f) f b ++ ptB f b i))) (fun iv _=>cn - (intOf iv).toNat)
     case atStart=>exact ⟨0,by omega,rfl,HK0,HAL2⟩
     case round=>
      obtain ⟨i,hi,rfl,HK,HAL⟩:=hrel;clear HK0 HAL2;by_cases hli:i<cn
      ·have hli':(i:Int)<(cn:Int):=by omega
       have hif:Box (i<(zr (zg P f) b).code.length):=hid (by rw[← HCN.o];exact hli);obtain ⟨ib,io,rfl,hin⟩:=HRC.o.at (show (zr (zg P f) b).code[i]? = some (qQ (zr (zg P f) b) i) from zh hif.o);obtain ⟨ga,gp,e5,q5⟩:=SlC.val hin.c5;have hz:zw w ga (qQ (zr (zg P f) b) i).args:=Zw q5.slice.2.1;have F0:=za HK.o hin.c0.1;have F1:=za HK.o hin.c1.1;have F2:=za HK.o hin.c2.1;have F3:=za HK.o hin.c3.1;have F4:=za HK.o hin.c4.1;have F5:=za HK.o e5;have HC:=hid (HIN.o wr HK.o (qQ (zr (zg P f) b) i) ga gp (hz.kept HK.o (fun _ _ _=>by simp)) (HA.o b i hbf.o hif.o));have HPT:=hid (zeC (P:=P) (f:=f) (b:=b) hif.o);have HSN:Box (ptF (zg P f) f b ++ ptB f b (i+1)=(ptF (zg P f) f b ++ ptB f b i) ++ [(f,b,i)]):=hid (by rw[Zm, ← List.append_assoc]);unfold zD at HC;clear hin e5 q5 hz;cases hok:qG P (zg P f) (qQ (zr (zg P f) b) i) with
       | true=>
        rw[hok] at HC;have HAL9:Box (Ze P (ptF (zg P f) f b ++ ptB f b (i+1))):=hid ((HAL.o.snoc (q:=(f,b,i)) (by rw[HPT.o,hok])).cast HSN.o.symm);clear hok;go_wp2_with fail;refine HC.o.mono ?_;rintro e w3 ⟨rfl,k3⟩;have K3:=hid (HK.o.quiet k3);clear k3;go_wp2_with fail;go_roundw
        case rel=>exact ⟨i+1,by omega,by go_num,K3,HAL9⟩
        case measure=>simp[intOf];omega
       | false=>
        rw[hok] at HC;have HQ:=hid (HBAD.o HHT.o b i hbf.o (Nat.le_of_lt hif.o) HAL.o (by rw[HPT.o,hok]));clear hok;go_wp2_with fail;refine HC.o.mono ?_;rintro e w3 ⟨rfl,k3⟩;have K3:=hid (HK.o.quiet k3);clear k3;go_wp2_with fail;refine (HRA.o _ _ _).mono ?_;rintro e w4 ⟨p,rfl,h1,h2⟩;go_wp2_with fail;go_ret;exact Qk.no HQ.o ⟨p,rfl,h1,K3.o.quiet h2⟩
      ·obtain rfl:i=cn:=by omega
       have g2:=E2.o _ HK.o;have HC:=hid (HEN.o wr HK.o bb (bo+b * 5) (zr (zg P f) b) (BlC.stays _ _ _ _ _ HK.o HBL.o));have HPT:=hid (J8 P f b);generalize jh (zg P f).regs.length (zg P f).blocks.length (zr (zg P f) b).fin (zr (zg P f) b).reg (zr (zg P f) b).to (zr (zg P f) b).els=eb at *;cases eb with
       | true=>
        have HAL9:Box (Ze P (ptF (zg P f) f (b+1))):=hid ((HAL.o.snoc (q:=(f,b,i)) (by rw[HCN.o,HPT.o])).cast (by rw[jw, ← HCN.o,Zm, ← List.append_assoc]));go_wp2_with fail;refine HC.o.mono ?_;rintro e w3 ⟨rfl,k3⟩;have K3:=hid (HK.o.quiet k3);clear k3;go_wp2_with fail;go_roundw
        case rel=>exact ⟨b+1,by omega,by go_num,K3,HAL9⟩
        case measure=>simp[intOf];omega
       | false=>
        have HQ:=hid (HBAD.o HHT.o b i hbf.o (by rw[HCN.o];exact Nat.le_refl _) HAL.o (by rw[HCN.o,HPT.o]));go_wp2_with fail;refine HC.o.mono ?_;rintro e w3 ⟨rfl,k3⟩;have K3:=hid (HK.o.quiet k3);clear k3;go_wp2_with fail;refine (HRA.o _ _ _).mono ?_;rintro e w4 ⟨p,rfl,h1,h2⟩;go_wp2_with fail;go_ret;exact Qk.no HQ.o ⟨p,rfl,h1,K3.o.quiet h2⟩
    ·obtain rfl:b=bn:=by omega
     have HQ:=hid (HGOOD.o HHT.o (HAL.o.cast (by rw[HBN.o])));go_wp2_with fail;go_ret;exact Qk.yes HQ.o ⟨rfl,HK.o⟩
theorem zmu(h:P.recs.all (J5 P)=false):zO P=false:=by unfold zO;rw[h];rfl
theorem zgP(h:P.sigs.all (zg8 P)=false):zO P=false:=by unfold zO;rw[h];simp
theorem zmS(h:P.ifs.all (fun l=>Qe l P.sigs.length)=false):zO P=false:=by unfold zO;rw[h];simp
theorem zer(h:P.ims.all (zfI P)=false):zO P=false:=by unfold zO;rw[h];simp
theorem zgq(h:PrC w pb po P):Calls Tryz.prog 48 #[pointer (some ⟨pb,po,none⟩)] w fun e w'=>e=.returned (.bool (zO P))∧zc [] w w':=by
 obtain ⟨a0,p0,c0,r0,_,l0⟩:=h.c0;have R0:=hid r0;obtain ⟨n0,hn0⟩:∃ n,n=P.recs.length:=⟨_,rfl⟩;rw[← hn0] at c0 l0;have N0:=hid hn0;have m0:(n0:Int)≤9223372036854775807:=by unfold maxLen at l0;omega
 have C0:Box (∀ w',zc [] w w'→w'.cell? ⟨pb,po,none⟩=some (.slice a0 n0 p0)):=hid (by have c:=c0;exact fun w' k=>za k c);obtain ⟨a1,p1,c1,r1,_,l1⟩:=h.c1;have R1:=hid r1;obtain ⟨n1,hn1⟩:∃ n,n=P.sigs.length:=⟨_,rfl⟩;rw[← hn1] at c1 l1;have N1:=hid hn1;have m1:(n1:Int)≤9223372036854775807:=by unfold maxLen at l1;omega
 have C1:Box (∀ w',zc [] w w'→w'.cell? ⟨pb,po+1,none⟩=some (.slice a1 n1 p1)):=hid (by have c:=c1;exact fun w' k=>za k c);obtain ⟨a2,p2,c2,r2,_,l2⟩:=h.c2;have R2:=hid r2;obtain ⟨n2,hn2⟩:∃ n,n=P.ifs.length:=⟨_,rfl⟩;rw[← hn2] at c2 l2;have N2:=hid hn2;have m2:(n2:Int)≤9223372036854775807:=by unfold maxLen at l2;omega
 have C2:Box (∀ w',zc [] w w'→w'.cell? ⟨pb,po+2,none⟩=some (.slice a2 n2 p2)):=hid (by have c:=c2;exact fun w' k=>za k c);obtain ⟨a3,p3,c3,r3,_,l3⟩:=h.c3;have R3:=hid r3;obtain ⟨n3,hn3⟩:∃ n,n=P.ims.length:=⟨_,rfl⟩;rw[← hn3] at c3 l3;have N3:=hid hn3;have m3:(n3:Int)≤9223372036854775807:=by unfold maxLen at l3;omega
 have C3:Box (∀ w',zc [] w w'→w'.cell? ⟨pb,po+3,none⟩=some (.slice a3 n3 p3)):=hid (by have c:=c3;exact fun w' k=>za k c);obtain ⟨a4,p4,c4,r4,_,l4⟩:=h.c4;have R4:=hid r4;obtain ⟨n4,hn4⟩:∃ n,n=P.funcs.length:=⟨_,rfl⟩;rw[← hn4] at c4 l4;have N4:=hid hn4;have m4:(n4:Int)≤9223372036854775807:=by unfold maxLen at l4;omega
 have C4:Box (∀ w',zc [] w w'→w'.cell? ⟨pb,po+4,none⟩=some (.slice a4 n4 p4)):=hid (by have c:=c4;exact fun w' k=>za k c);have HT:=hid fun (w':World) (k:zc [] w w') (v:Value) (l:List (Int × Int)) (hv:zb9 w v l)=>zaz (PrC.stays _ _ _ _ _ k h) (hv.keeps TyC.stays k);have HTY:=hid fun (w':World) (k:zc [] w w') (t:Int × Int)=>zai (PrC.stays _ _ _ _ _ k h) t;have HW:=hid fun (k:Int) (n:Nat) (w':World)=>zC k n w';have HAW:=hid fun (w':World) (k:zc [] w w') (a:Option Addr) (cp:Nat) (l:List Int) (hz:zw w a l) (hl:l.length≤maxLen) (m:Nat)=>JS (cp:=cp) (hz.kept k (fun _ _ _=>by simp)) hl m;clear r0 r1 r2 r3 r4 hn0 hn1 hn2 hn3 hn4 l0 l1 l2 l3 l4 h m4;go_enter Tryz.func48,Tryz.ntmps48;go_wp2_with fail;have K0:=hid (zc.refl [] w);clear c1 c2 c3 c4
 go_loopw [16] (fun kv wr=>∃ k:Nat,k≤n0∧kv=int i64 (k:Int)∧Box (zc [] w wr)∧Box (∀ j y,j<k→P.recs[j]? = some y→J5 P y=true)) (fun kv _=>n0 - (intOf kv).toNat)
 case atStart=>exact ⟨0,by omega,rfl,K0,hid fun j y hj=>by omega⟩
 case round=>
  obtain ⟨k,hk,rfl,HK,HB⟩:=hrel;clear K0 c0;by_cases hlt:k<n0
  ·have hlt':(k:Int)<(n0:Int):=by omega
   obtain ⟨y,hy⟩:∃ y,P.recs[k]? = some y:=⟨_,List.getElem?_eq_getElem (by rw[← N0.o];exact hlt)⟩;obtain ⟨b,off,rfl,hc⟩:=R0.o.at hy;rw[Nat.mul_one] at hc;obtain ⟨ga,gp,e5,q5⟩:=hc.val;have d5:=za HK.o e5;have HC:=hid (HT.o wr HK.o _ _ q5);clear e5 q5;have HY:=hid hy;clear hy hc;have REL:Box (J5 P y=true→∀ j z,j<k+1→P.recs[j]? = some z→J5 P z=true):=hid fun hg j z hj hz=>by
    by_cases e:j<k
    ·exact HB.o j z e hz
    ·obtain rfl:j=k:=by omega
     rw[HY.o] at hz;cases hz;exact hg
   cases hg:J5 P y with
   | true=>
    rw[hg] at HC;have HG:=hid hg;clear hg;go_wp2_with fail;refine HC.o.mono ?_;rintro e w3 ⟨rfl,k3⟩;have K3:=hid (HK.o.quiet k3);clear k3;go_wp2_with fail;go_roundw
    case rel=>exact ⟨k+1,by omega,by go_num,K3,hid (REL.o HG.o)⟩
    case measure=>simp[intOf];omega
   | false=>
    rw[hg] at HC;have HE:Box (zO P=false):=hid (zmu (Zd HY.o hg));clear hg;go_wp2_with fail;refine HC.o.mono ?_;rintro e w3 ⟨rfl,k3⟩;have K3:=hid (HK.o.quiet k3);clear k3;go_wp2_with fail;go_ret;exact ⟨by rw[HE.o];rfl,K3.o⟩
  ·obtain rfl:n0=k:=by omega
   have T0:Box (P.recs.all (J5 P)=true):=hid (jx (fun j y hy=>HB.o j y (by rw[N0.o];exact (List.getElem?_eq_some_iff.1 hy).1) hy));have c1:=C1.o _ HK.o;clear HB hk;go_wp2_with fail;clear hlt;have K1:=HK;clear HK
   go_loopw [30] (fun kv wr=>∃ k:Nat,k≤n1∧kv=int i64 (k:Int)∧Box (zc [] w wr)∧Box (∀ j y,j<k→P.sigs[j]? = some y→zg8 P y=true)) (fun kv _=>n1 - (intOf kv).toNat)
   case atStart=>exact ⟨0,by omega,rfl,K1,hid fun j y hj=>by omega⟩
   case round=>
    obtain ⟨k,hk,rfl,HK,HB⟩:=hrel;clear K1 c1;by_cases hlt:k<n1
    ·have hlt':(k:Int)<(n1:Int):=by omega
     obtain ⟨y,hy⟩:∃ y,P.sigs[k]? = some y:=⟨_,List.getElem?_eq_getElem (by rw[← N1.o];exact hlt)⟩;obtain ⟨b,off,rfl,hc⟩:=R1.o.at hy;obtain ⟨ga,gp,e5,q5⟩:=hc.c0.val;have d0:=za HK.o e5;have d1:=za HK.o hc.c1.1;have d2:=za HK.o hc.c2.1;have HN:=hid (zf wr (.cells #[.slice ga y.1.length gp,int i64 y.2.1,int i64 y.2.2] 36));have HKA:=hid (HK.o.quiet (zc.alloc [] wr (.cells #[.slice ga y.1.length gp,int i64 y.2.1,int i64 y.2.2] 36)));have HC:=hid (HT.o _ HKA.o _ _ q5);have HSG:Box (zg8 P y=(J5 P y.1 && tyB P y.2)):=hid rfl;clear e5 q5;have HY:=hid hy;clear hy hc;have REL:Box (zg8 P y=true→∀ j z,j<k+1→P.sigs[j]? = some z→zg8 P z=true):=hid fun hg j z hj hz=>by
      by_cases e:j<k
      ·exact HB.o j z e hz
      ·obtain rfl:j=k:=by omega
       rw[HY.o] at hz;cases hz;exact hg
     go_upto_region 10 with fail;generalize wr.alloc (.cells #[.slice ga y.1.length gp,int i64 y.2.1,int i64 y.2.2] 36)=w2 at *;generalize wr.heap.size=q at *;have s0:=zd HN.o 0;cases h1:J5 P y.1 with
     | false=>
      rw[h1] at HC;have HE:Box (zO P=false):=hid (zgP (Zd HY.o (by rw[HSG.o,h1];rfl)));clear h1;go_wp2_with fail;refine HC.o.mono ?_;rintro e w3 ⟨rfl,k3⟩;have K3:=hid (HKA.o.quiet k3);clear k3;go_wp2_with fail;go_ret;exact ⟨by rw[HE.o];rfl,K3.o⟩
     | true=>
      rw[h1] at HC;go_wp2_with fail;refine HC.o.mono ?_;rintro e w3 ⟨rfl,k3⟩;have K3:=hid (HKA.o.quiet k3);have h3:=ze HN.o k3;have s1:=zd h3 1;have s2:=zd h3 2;have HC2:=hid (HTY.o w3 K3.o y.2);clear k3 h3 s0;cases h2:tyB P y.2 with
      | false=>
       rw[h2] at HC2;have HE:Box (zO P=false):=hid (zgP (Zd HY.o (by rw[HSG.o,h1,h2];rfl)));clear h1 h2;go_wp2_with fail;refine HC2.o.mono ?_;rintro e w4 ⟨rfl,k3⟩;have K4:=hid (K3.o.quiet k3);clear k3;go_wp2_with fail;go_ret;exact ⟨by rw[HE.o];rfl,K4.o⟩
      | true=>
       rw[h2] at HC2;have HG:Box (zg8 P y=true):=hid (by rw[HSG.o,h1,h2];rfl);clear h1 h2;go_wp2_with fail;refine HC2.o.mono ?_;rintro e w4 ⟨rfl,k3⟩;have K4:=hid (K3.o.quiet k3);clear k3;go_wp2_with fail;go_roundw
       case rel=>exact ⟨k+1,by omega,by go_num,K4,hid (REL.o HG.o)⟩
       case measure=>simp[intOf];omega
    ·obtain rfl:n1=k:=by omega
     have T1:Box (P.sigs.all (zg8 P)=true):=hid (jx (fun j y hy=>HB.o j y (by rw[N1.o];exact (List.getElem?_eq_some_iff.1 hy).1) hy));have c2:=C2.o _ HK.o;clear HB hk;go_wp2_with fail;clear hlt;have K2:=HK;clear HK
     go_loopw [52] (fun kv wr=>∃ k:Nat,k≤n2∧kv=int i64 (k:Int)∧Box (zc [] w wr)∧Box (∀ j y,j<k→P.ifs[j]? = some y→Qe y P.sigs.length=true)) (fun kv _=>n2 - (intOf kv).toNat)
     case atStart=>exact ⟨0,by omega,rfl,K2,hid fun j y hj=>by omega⟩
     case round=>
      obtain ⟨k,hk,rfl,HK,HB⟩:=hrel;clear K2 c2;by_cases hlt:k<n2
      ·have hlt':(k:Int)<(n2:Int):=by omega
       obtain ⟨y,hy⟩:∃ y,P.ifs[k]? = some y:=⟨_,List.getElem?_eq_getElem (by rw[← N2.o];exact hlt)⟩;obtain ⟨b,off,rfl,hc⟩:=R2.o.at hy;rw[Nat.mul_one] at hc;obtain ⟨ga,gp,e5,q5⟩:=SlC.val hc;have d0:=za HK.o e5;have HN:=hid (zf wr (.cells #[.slice ga y.length gp] 47));have HKA:=hid (HK.o.quiet (zc.alloc [] wr (.cells #[.slice ga y.length gp] 47)));have HZ:=hid (Zw q5.slice.2.1);have HL:=hid q5.slice.2.2.2;clear e5 q5;have HY:=hid hy;clear hy hc;have REL:Box (Qe y P.sigs.length=true→∀ j z,j<k+1→P.ifs[j]? = some z→Qe z P.sigs.length=true):=hid fun hg j z hj hz=>by
        by_cases e:j<k
        ·exact HB.o j z e hz
        ·obtain rfl:j=k:=by omega
         rw[HY.o] at hz;cases hz;exact hg
       go_upto_region 16 with fail;generalize wr.alloc (.cells #[.slice ga y.length gp] 47)=w2 at *;generalize wr.heap.size=q at *;have s0:=zd HN.o 0;have c1:=C1.o _ HKA.o;have HC:=hid fun (m:Nat)=>HAW.o (w2.drewN m) (HKA.o.quiet (zc.drewN _ _ _)) ga gp y HZ.o HL.o P.sigs.length;rw[← N1.o] at HC REL;cases hg:Qe y n1 with
       | true=>
        rw[hg] at HC;have HG:=hid hg;clear hg;go_quiet ((go_at_call 98;exact Calls.quiet_of_same (HC.o _)));go_wp2_with fail;go_roundw
        case rel=>exact ⟨k+1,by omega,by go_num,hid (HKA.o.quiet (zc.drewN _ _ _)),hid (by rw[← N1.o];exact REL.o HG.o)⟩
        case measure=>simp[intOf];omega
       | false=>
        rw[hg] at HC;have HE:Box (zO P=false):=hid (zmS (Zd HY.o (by rw[← N1.o];exact hg)));clear hg;go_quiet ((go_at_call 98;exact Calls.quiet_of_same (HC.o _)));go_wp2_with fail;go_ret;exact ⟨by rw[HE.o];rfl,HKA.o.quiet (zc.drewN _ _ _)⟩
      ·obtain rfl:n2=k:=by omega
       have T2:Box (P.ifs.all (fun l=>Qe l P.sigs.length)=true):=hid (jx (fun j y hy=>HB.o j y (by rw[N2.o];exact (List.getElem?_eq_some_iff.1 hy).1) hy));have c3:=C3.o _ HK.o;clear HB hk;go_wp2_with fail;clear hlt;have K3:=HK;clear HK
       go_loopw [71] (fun kv wr=>∃ k:Nat,k≤n3∧kv=int i64 (k:Int)∧Box (zc [] w wr)∧Box (∀ j y,j<k→P.ims[j]? = some y→zfI P y=true)) (fun kv _=>n3 - (intOf kv).toNat)
       case atStart=>exact ⟨0,by omega,rfl,K3,hid fun j y hj=>by omega⟩
       case round=>
        obtain ⟨k,hk,rfl,HK,HB⟩:=hrel;clear K3 c3;by_cases hlt:k<n3
        ·have hlt':(k:Int)<(n3:Int):=by omega
         obtain ⟨y,hy⟩:∃ y,P.ims[k]? = some y:=⟨_,List.getElem?_eq_getElem (by rw[← N3.o];exact hlt)⟩;obtain ⟨b,off,rfl,hc⟩:=R3.o.at hy;obtain ⟨ga,gp,e5,q5⟩:=SlC.val hc.c2;have d0:=za HK.o hc.c0.1;have d1:=za HK.o hc.c1.1;have d2:=za HK.o e5;have HN:=hid (zf wr (.cells #[int i64 y.1,int i64 y.2.1,.slice ga y.2.2.length gp] 49));have HKA:=hid (HK.o.quiet (zc.alloc [] wr (.cells #[int i64 y.1,int i64 y.2.1,.slice ga y.2.2.length gp] 49)));have HZ:=hid (Zw q5.slice.2.1);have HL:=hid q5.slice.2.2.2;clear e5 q5;have HY:=hid hy;clear hy hc;have REL:Box (zfI P y=true→∀ j z,j<k+1→P.ims[j]? = some z→zfI P z=true):=hid fun hg j z hj hz=>by
          by_cases e:j<k
          ·exact HB.o j z e hz
          ·obtain rfl:j=k:=by omega
           rw[HY.o] at hz;cases hz;exact hg
         go_upto_region 22 with fail;generalize wr.alloc (.cells #[int i64 y.1,int i64 y.2.1,.slice ga y.2.2.length gp] 49)=w2 at *;generalize wr.heap.size=q at *;have s0:=zd HN.o 0;have s1:=zd HN.o 1;have s2:=zd HN.o 2;have c0:=C0.o _ HKA.o;have c2:=C2.o _ HKA.o;have c4:=C4.o _ HKA.o;have H1:=hid fun (m:Nat)=>HW.o y.1 n0 (w2.drewN m);have H2:=hid fun (m:Nat)=>HW.o y.2.1 n2 (w2.drewN m);have H3:=hid fun (m:Nat)=>HAW.o (w2.drewN m) (HKA.o.quiet (zc.drewN _ _ _)) ga gp y.2.2 HZ.o HL.o n4;have HIM:Box (zfI P y=(inB y.1 n0 && (inB y.2.1 n2 && Qe y.2.2 n4))):=hid (by rw[N0.o,N2.o,N4.o];rfl);cases h1:inB y.1 n0 with
         | false=>
          rw[h1] at H1;have HE:Box (zO P=false):=hid (zer (Zd HY.o (by rw[HIM.o,h1];rfl)));clear h1;go_quiet (first | (go_at_call 50;with_reducible exact Calls.quiet_of_same (H1.o _)));go_wp2_with fail;go_ret;exact ⟨by rw[HE.o];rfl,HKA.o.quiet (zc.drewN _ _ _)⟩
         | true=>
          rw[h1] at H1;cases h2:inB y.2.1 n2 with
          | false=>
           rw[h2] at H2;have HE:Box (zO P=false):=hid (zer (Zd HY.o (by rw[HIM.o,h1,h2];rfl)));clear h1 h2;go_quiet (first | (go_at_call 50;with_reducible exact Calls.quiet_of_same (H1.o _)) | (go_at_call 50;with_reducible exact Calls.quiet_of_same (H2.o _)));go_wp2_with fail;go_ret;exact ⟨by rw[HE.o];rfl,HKA.o.quiet (zc.drewN _ _ _)⟩
          | true=>
           rw[h2] at H2;cases h3:Qe y.2.2 n4 with
           | false=>
            rw[h3] at H3;have HE:Box (zO P=false):=hid (zer (Zd HY.o (by rw[HIM.o,h1,h2,h3];rfl)));clear h1 h2 h3;go_quiet (first | (go_at_call 50;with_reducible exact Calls.quiet_of_same (H1.o _)) | (go_at_call 50;with_reducible exact Calls.quiet_of_same (H2.o _)) | (go_at_call 98;with_reducible exact Calls.quiet_of_same (H3.o _)));go_wp2_with fail;go_ret;exact ⟨by rw[HE.o];rfl,HKA.o.quiet (zc.drewN _ _ _)⟩
           | true=>
            rw[h3] at H3;have HG:Box (zfI P y=true):=hid (by rw[HIM.o,h1,h2,h3];rfl);clear h1 h2 h3;go_quiet (first | (go_at_call 50;with_reducible exact Calls.quiet_of_same (H1.o _)) | (go_at_call 50;with_reducible exact Calls.quiet_of_same (H2.o _)) | (go_at_call 98;with_reducible exact Calls.quiet_of_same (H3.o _)));go_wp2_with fail;go_roundw
            case rel=>exact ⟨k+1,by omega,by go_num,hid (HKA.o.quiet (zc.drewN _ _ _)),hid (REL.o HG.o)⟩
            case measure=>simp[intOf];omega
        ·obtain rfl:n3=k:=by omega
         have T3:Box (P.ims.all (zfI P)=true):=hid (jx (fun j y hy=>HB.o j y (by rw[N3.o];exact (List.getElem?_eq_some_iff.1 hy).1) hy));have HE:Box (zO P=true):=hid (by unfold zO;rw[T0.o,T1.o,T2.o,T3.o];rfl);clear HB hk;go_wp2_with fail;go_ret;exact ⟨by rw[HE.o];rfl,HK.o⟩
theorem zht(h:PrC w pb po P)(ha:zlS P):Calls Tryz.prog 25 #[pointer (some ⟨pb,po,none⟩)] w (Qk (zM P) 3 w):=by
 have HT:=hid (zgq h);have HF:=hid fun (w':World) (k:zc [] w w') (f:Nat) (hf:f<P.funcs.length)=>zg6 (PrC.stays _ _ _ _ _ k h) ha hf;have HRF:=hid fun (w':World)=>Z9 3 w';have HW:=hid fun (w':World)=>zC P.main P.funcs.length w';obtain ⟨fa,fp,c4,_,_,hfl⟩:=h.c4;have c5:=h.c5.1;have C4:Box (∀ w',zc [] w w'→w'.cell? ⟨pb,po+4,none⟩=some (.slice fa P.funcs.length fp)):=hid fun w' k=>za k c4;have C5:Box (∀ w',zc [] w w'→w'.cell? ⟨pb,po+5,none⟩=some (int i64 P.main)):=hid fun w' k=>za k c5;have HT0:=hid (zaq (P:=P));have HFN:=hid fun (h1:zO P=true) (k:Nat) (h2:k<P.funcs.length) (h3:∀ j,j<k→za6 P j=none) (q:Int × Int × Int) (h4:za6 P k=some q)=>zdR h1 h2 h3 h4;have HEND:=hid fun (h1:zO P=true) (h3:∀ j,j<P.funcs.length→za6 P j=none)=>zcb h1 h3;clear h ha c4 c5;obtain ⟨n,hn⟩:∃ n,n=P.funcs.length:=⟨_,rfl⟩;rw[← hn] at C4 hfl HW HEND;have HN:=hid hn;have hn9:(n:Int)≤9223372036854775807:=by unfold maxLen at hfl;omega
 clear hn hfl;go_enter Tryz.func25,Tryz.ntmps25;go_wp2_with fail;refine HT.o.mono ?_;rintro e w1 ⟨rfl,k1⟩;have K1:=hid k1;clear k1 HT;cases ht:zO P with
 | false=>
  have HQ:=hid (HT0.o ht);go_wp2_with fail;refine (HRF.o _).mono ?_;rintro e w2 ⟨p,rfl,h1,h2⟩;go_wp2_with fail;go_ret;exact Qk.no HQ.o ⟨p,rfl,h1,K1.o.quiet h2⟩
 | true=>
  have HTT:=hid ht;clear ht;have c4:=C4.o _ K1.o;go_wp2_with fail;clear c4
  go_loopw [18] (fun kv wr=>∃ k:Nat,k≤n∧kv=int i64 (k:Int)∧Box (zc [] w wr)∧Box (∀ j,j<k→za6 P j=none)) (fun kv _=>n - (intOf kv).toNat)
  case atStart=>exact ⟨0,by omega,rfl,K1,hid fun j hj=>by omega⟩
  case round=>
   obtain ⟨k,hk,rfl,HK,HB⟩:=hrel;clear K1;by_cases hlt:k<n
   ·have hlt':(k:Int)<(n:Int):=by omega
    have HC:=hid (HF.o wr HK.o k (by rw[← HN.o];exact hlt));go_wp2_with fail;refine HC.o.mono ?_;intro e w2 hp;cases hq:za6 P k with
    | none=>
     rw[hq] at hp;obtain ⟨rfl,k2⟩:=hp;have K2:=hid (HK.o.quiet k2);have HB2:Box (∀ j,j<k+1→za6 P j=none):=hid fun j hj=>by
      by_cases e:j<k
      ·exact HB.o j e
      ·obtain rfl:j=k:=by omega
       exact hq
     clear k2 hq;go_wp2_with fail;go_roundw
     case rel=>exact ⟨k+1,by omega,by go_num,K2,HB2⟩
     case measure=>simp[intOf];omega
    | some q=>
     rw[hq] at hp;obtain ⟨p,rfl,h1,k2⟩:=hp;have HQ:=hid (HFN.o HTT.o k (by rw[← HN.o];exact hlt) HB.o q hq);have H1:=hid h1;have K2:=hid (HK.o.quiet k2);clear k2 hq h1;go_wp2_with fail;go_ret;exact Qk.no HQ.o ⟨p,rfl,H1.o,K2.o⟩
   ·obtain rfl:n=k:=by omega
    have HE:=hid (HEND.o HTT.o HB.o);have c4:=C4.o _ HK.o;have c5:=C5.o _ HK.o;go_upto_region 10 with fail;cases hm:inB P.main n with
    | true=>
     rw[hm] at HW HE;have HQ:Box (zM P=none):=hid (by rw[HE.o];rfl);clear hm;go_quiet ((go_at_call 50;exact Calls.quiet_of_same (HW.o _)));go_wp2_with fail;go_ret;exact Qk.yes HQ.o ⟨rfl,HK.o.quiet (zc.drewN _ _ _)⟩
    | false=>
     rw[hm] at HW HE;have HQ:Box (zM P=some (-1,0,0)):=hid (by rw[HE.o];rfl);clear hm;go_quiet ((go_at_call 50;exact Calls.quiet_of_same (HW.o _)));go_wp2_with fail;refine (HRF.o _).mono ?_;rintro e w2 ⟨p,rfl,h1,h2⟩;go_wp2_with fail;go_ret;exact Qk.no HQ.o ⟨p,rfl,h1,(HK.o.quiet (zc.drewN _ _ _)).quiet h2⟩
section
open Go.ChangeShapes Go.WideShapes Go.ChangeAt
theorem zaf(h:jl P=true):ji P.funcs 12 fnB=true:=by
 unfold jl zgA at h;simp only[Bool.and_eq_true] at h;exact h.1.2.2.2.2.2
theorem zae(h:jl P=true):zlS P:=by
 intro f b i hf hb hi;have h1:fnB (zg P f)=true:=qS (zaf h) (zh hf);unfold fnB at h1;simp only[Bool.and_eq_true] at h1;have h2:zdj (zr (zg P f) b)=true:=qS h1.2.2 (zh hb);have h3:zfD (qQ (zr (zg P f) b) i)=true:=qS h2 (zh hi);unfold zfD at h3;have:=of_decide_eq_true h3;omega
end
end Go.Proofs.YtkgoimokgbdgfaaGreatDoor
